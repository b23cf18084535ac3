/- Contracts and plain facts that the theorem rests on: FSmall. -/
import Derived.Test.YtfigdflcoaepaaaGreatDoorZV25
import Derived.Test.YtfigdflcoaepaaaGreatDoorZV28
import Derived.Test.YtfigdflcoaepaaaGreatDoorZV2
set_option linter.unusedSimpArgs false
set_option linter.unusedVariables false
namespace Go.Proofs.YtfigdflcoaepaaaGreatDoor
section
open Lib (hid)
open Go.RowKit
namespace FM
open CM (nd kids)
open SM
def smG:List Gi:=[⟨4,0,⟨#[]⟩,[],[]⟩,⟨2,0,⟨#[]⟩,[],[]⟩,⟨8,0,⟨#[]⟩,[],[0,1]⟩,⟨7,0,⟨#[]⟩,[⟨#[97]⟩],[0]⟩,⟨7,0,⟨#[]⟩,[⟨#[97]⟩],[2]⟩,⟨1,0,⟨#[]⟩,[],[]⟩,⟨9,0,⟨#[]⟩,[],[3]⟩]
theorem sm_ok:checkG smG=0:=by kernel_rfl
theorem sm_fine:Fine smG:=fine_of sm_ok
def SlR (w:World)(v:Value)(n:Nat)(xs:List Value):Prop:=∃ VA vc,v=.slice VA n vc∧(n:Int)≤9223372036854775807∧n≤vc∧RdV w VA xs
theorem gs_blk {w:World}{b:Nat}{ps:List Gp}(h:Blk w b 54 (gcells ps).toArray)(hp:∀ p∈ps,SlR w p.2.1 p.1.keys.length (p.1.keys.flatMap sC)∧SlR w p.2.2 p.1.l.length (p.1.l.flatMap iC)):GsR w (some ⟨b,0,none⟩) (ps.map (·.1)):=fun _=>by
 refine⟨b,0,rfl,fun i x hx=>?_⟩
 rw[List.getElem?_map] at hx;obtain⟨p,hpi,rfl⟩:=Option.map_eq_some_iff.1 hx;obtain⟨⟨VA,vc,ek,k1,k2,kr⟩,PA,pc,el,l1,l2,lr⟩:=hp p (List.mem_of_getElem? hpi);have hcc:∀(t:Nat) (u:Value),(Gp.cells p)[t]? = some u→w.cell? ⟨b,0+i*5+t,none⟩=some u:=fun t u hu=>by
  rw[Nat.zero_add,h.cell,List.getElem?_toArray];exact rowc_get Gp.cells 5 (fun _=>rfl) ps i p hpi t u hu
 unfold Gp.cells at hcc;rw[ek,el] at hcc;exact⟨VA,vc,PA,pc,hcc 0 _ rfl,hcc 1 _ rfl,hcc 2 _ rfl,hcc 3 _ rfl,hcc 4 _ rfl,kr,lr,k1,l1,k2,l2⟩
theorem slr_nil (w:World):SlR w (.slice none 0 0) 0 []:=⟨none,0,rfl,by decide,Nat.le_refl _,rd_nil w none⟩
theorem slr_blk {w:World}{b n:Nat}{t:TypeId}{xs:List Value}(h:Blk w b t xs.toArray)(hn:(n:Int)≤9223372036854775807):SlR w (.slice (some ⟨b,0,none⟩) n n) n xs:=
 ⟨_,n,rfl,hn,Nat.le_refl _,rd_blk h fun j v hj=>by rw[List.getElem?_toArray];exact hj⟩
set_option maxRecDepth 100000 in
set_option maxHeartbeats 16000000 in
theorem small_any (w:World):Calls Tryz.prog 36 #[] w fun r w'=>∃ A,r=.returned (.slice A 7 7)∧GsR w' A smG∧Below w.heap.size w w':=by
 obtain⟨b0,h0⟩:∃ b,w.heap.size=b:=⟨_,rfl⟩;have n0:=Blk.new w 3 #[.int .i64 0,.int .i64 1];rw[h0] at n0;have y0:=one_boxS w (.cells #[.int .i64 0,.int .i64 1] 3);rw[h0] at y0;obtain⟨b1,h1⟩:∃ b,b0+1=b:=⟨_,rfl⟩;have s1:(w.alloc (.cells #[.int .i64 0,.int .i64 1] 3)).heap.size=b1:=by rw[← h1,← h0];exact Array.size_push _
 have n1:=Blk.new (w.alloc (.cells #[.int .i64 0,.int .i64 1] 3)) 9 #[.string ⟨#[97]⟩];rw[s1] at n1;have y1:=one_boxS (w.alloc (.cells #[.int .i64 0,.int .i64 1] 3)) (.cells #[.string ⟨#[97]⟩] 9);rw[s1] at y1;obtain⟨b2,h2⟩:∃ b,b1+1=b:=⟨_,rfl⟩;have s2:((w.alloc (.cells #[.int .i64 0,.int .i64 1] 3)).alloc (.cells #[.string ⟨#[97]⟩] 9)).heap.size=b2:=by rw[← h2,← s1];exact Array.size_push _
 have n2:=Blk.new ((w.alloc (.cells #[.int .i64 0,.int .i64 1] 3)).alloc (.cells #[.string ⟨#[97]⟩] 9)) 3 #[.int .i64 0];rw[s2] at n2;have y2:=one_boxS ((w.alloc (.cells #[.int .i64 0,.int .i64 1] 3)).alloc (.cells #[.string ⟨#[97]⟩] 9)) (.cells #[.int .i64 0] 3);rw[s2] at y2;obtain⟨b3,h3⟩:∃ b,b2+1=b:=⟨_,rfl⟩;have s3:(((w.alloc (.cells #[.int .i64 0,.int .i64 1] 3)).alloc (.cells #[.string ⟨#[97]⟩] 9)).alloc (.cells #[.int .i64 0] 3)).heap.size=b3:=by rw[← h3,← s2];exact Array.size_push _
 have n3:=Blk.new (((w.alloc (.cells #[.int .i64 0,.int .i64 1] 3)).alloc (.cells #[.string ⟨#[97]⟩] 9)).alloc (.cells #[.int .i64 0] 3)) 9 #[.string ⟨#[97]⟩];rw[s3] at n3;have y3:=one_boxS (((w.alloc (.cells #[.int .i64 0,.int .i64 1] 3)).alloc (.cells #[.string ⟨#[97]⟩] 9)).alloc (.cells #[.int .i64 0] 3)) (.cells #[.string ⟨#[97]⟩] 9);rw[s3] at y3;obtain⟨b4,h4⟩:∃ b,b3+1=b:=⟨_,rfl⟩;have s4:((((w.alloc (.cells #[.int .i64 0,.int .i64 1] 3)).alloc (.cells #[.string ⟨#[97]⟩] 9)).alloc (.cells #[.int .i64 0] 3)).alloc (.cells #[.string ⟨#[97]⟩] 9)).heap.size=b4:=by rw[← h4,← s3];exact Array.size_push _
 have n4:=Blk.new ((((w.alloc (.cells #[.int .i64 0,.int .i64 1] 3)).alloc (.cells #[.string ⟨#[97]⟩] 9)).alloc (.cells #[.int .i64 0] 3)).alloc (.cells #[.string ⟨#[97]⟩] 9)) 3 #[.int .i64 2];rw[s4] at n4;have y4:=one_boxS ((((w.alloc (.cells #[.int .i64 0,.int .i64 1] 3)).alloc (.cells #[.string ⟨#[97]⟩] 9)).alloc (.cells #[.int .i64 0] 3)).alloc (.cells #[.string ⟨#[97]⟩] 9)) (.cells #[.int .i64 2] 3);rw[s4] at y4;obtain⟨b5,h5⟩:∃ b,b4+1=b:=⟨_,rfl⟩;have s5:(((((w.alloc (.cells #[.int .i64 0,.int .i64 1] 3)).alloc (.cells #[.string ⟨#[97]⟩] 9)).alloc (.cells #[.int .i64 0] 3)).alloc (.cells #[.string ⟨#[97]⟩] 9)).alloc (.cells #[.int .i64 2] 3)).heap.size=b5:=by rw[← h5,← s4];exact Array.size_push _
 have n5:=Blk.new (((((w.alloc (.cells #[.int .i64 0,.int .i64 1] 3)).alloc (.cells #[.string ⟨#[97]⟩] 9)).alloc (.cells #[.int .i64 0] 3)).alloc (.cells #[.string ⟨#[97]⟩] 9)).alloc (.cells #[.int .i64 2] 3)) 3 #[.int .i64 3];rw[s5] at n5;have y5:=one_boxS (((((w.alloc (.cells #[.int .i64 0,.int .i64 1] 3)).alloc (.cells #[.string ⟨#[97]⟩] 9)).alloc (.cells #[.int .i64 0] 3)).alloc (.cells #[.string ⟨#[97]⟩] 9)).alloc (.cells #[.int .i64 2] 3)) (.cells #[.int .i64 3] 3);rw[s5] at y5;obtain⟨b6,h6⟩:∃ b,b5+1=b:=⟨_,rfl⟩;have s6:((((((w.alloc (.cells #[.int .i64 0,.int .i64 1] 3)).alloc (.cells #[.string ⟨#[97]⟩] 9)).alloc (.cells #[.int .i64 0] 3)).alloc (.cells #[.string ⟨#[97]⟩] 9)).alloc (.cells #[.int .i64 2] 3)).alloc (.cells #[.int .i64 3] 3)).heap.size=b6:=by rw[← h6,← s5];exact Array.size_push _
 have n6:=Blk.new ((((((w.alloc (.cells #[.int .i64 0,.int .i64 1] 3)).alloc (.cells #[.string ⟨#[97]⟩] 9)).alloc (.cells #[.int .i64 0] 3)).alloc (.cells #[.string ⟨#[97]⟩] 9)).alloc (.cells #[.int .i64 2] 3)).alloc (.cells #[.int .i64 3] 3)) 54 #[.int .i64 4,.int .i64 0,.string ⟨#[]⟩,.slice none 0 0,.slice none 0 0,.int .i64 2,.int .i64 0,.string ⟨#[]⟩,.slice none 0 0,.slice none 0 0,.int .i64 8,.int .i64 0,.string ⟨#[]⟩,.slice none 0 0,.slice (some ⟨b0,0,none⟩) 2 2,.int .i64 7,.int .i64 0,.string ⟨#[]⟩,.slice (some ⟨b1,0,none⟩) 1 1,.slice (some ⟨b2,0,none⟩) 1 1,.int .i64 7,.int .i64 0,.string ⟨#[]⟩,.slice (some ⟨b3,0,none⟩) 1 1,.slice (some ⟨b4,0,none⟩) 1 1,.int .i64 1,.int .i64 0,.string ⟨#[]⟩,.slice none 0 0,.slice none 0 0,.int .i64 9,.int .i64 0,.string ⟨#[]⟩,.slice none 0 0,.slice (some ⟨b5,0,none⟩) 1 1];rw[s6] at n6
 have y6:=one_boxS ((((((w.alloc (.cells #[.int .i64 0,.int .i64 1] 3)).alloc (.cells #[.string ⟨#[97]⟩] 9)).alloc (.cells #[.int .i64 0] 3)).alloc (.cells #[.string ⟨#[97]⟩] 9)).alloc (.cells #[.int .i64 2] 3)).alloc (.cells #[.int .i64 3] 3)) (.cells #[.int .i64 4,.int .i64 0,.string ⟨#[]⟩,.slice none 0 0,.slice none 0 0,.int .i64 2,.int .i64 0,.string ⟨#[]⟩,.slice none 0 0,.slice none 0 0,.int .i64 8,.int .i64 0,.string ⟨#[]⟩,.slice none 0 0,.slice (some ⟨b0,0,none⟩) 2 2,.int .i64 7,.int .i64 0,.string ⟨#[]⟩,.slice (some ⟨b1,0,none⟩) 1 1,.slice (some ⟨b2,0,none⟩) 1 1,.int .i64 7,.int .i64 0,.string ⟨#[]⟩,.slice (some ⟨b3,0,none⟩) 1 1,.slice (some ⟨b4,0,none⟩) 1 1,.int .i64 1,.int .i64 0,.string ⟨#[]⟩,.slice none 0 0,.slice none 0 0,.int .i64 9,.int .i64 0,.string ⟨#[]⟩,.slice none 0 0,.slice (some ⟨b5,0,none⟩) 1 1] 54);rw[s6] at y6;have m0:=n0
 replace m0:=m0.alloc (.cells #[.string ⟨#[97]⟩] 9)
 replace m0:=m0.alloc (.cells #[.int .i64 0] 3)
 replace m0:=m0.alloc (.cells #[.string ⟨#[97]⟩] 9)
 replace m0:=m0.alloc (.cells #[.int .i64 2] 3)
 replace m0:=m0.alloc (.cells #[.int .i64 3] 3)
 replace m0:=m0.alloc (.cells #[.int .i64 4,.int .i64 0,.string ⟨#[]⟩,.slice none 0 0,.slice none 0 0,.int .i64 2,.int .i64 0,.string ⟨#[]⟩,.slice none 0 0,.slice none 0 0,.int .i64 8,.int .i64 0,.string ⟨#[]⟩,.slice none 0 0,.slice (some ⟨b0,0,none⟩) 2 2,.int .i64 7,.int .i64 0,.string ⟨#[]⟩,.slice (some ⟨b1,0,none⟩) 1 1,.slice (some ⟨b2,0,none⟩) 1 1,.int .i64 7,.int .i64 0,.string ⟨#[]⟩,.slice (some ⟨b3,0,none⟩) 1 1,.slice (some ⟨b4,0,none⟩) 1 1,.int .i64 1,.int .i64 0,.string ⟨#[]⟩,.slice none 0 0,.slice none 0 0,.int .i64 9,.int .i64 0,.string ⟨#[]⟩,.slice none 0 0,.slice (some ⟨b5,0,none⟩) 1 1] 54)
 have m1:=n1
 replace m1:=m1.alloc (.cells #[.int .i64 0] 3)
 replace m1:=m1.alloc (.cells #[.string ⟨#[97]⟩] 9)
 replace m1:=m1.alloc (.cells #[.int .i64 2] 3)
 replace m1:=m1.alloc (.cells #[.int .i64 3] 3)
 replace m1:=m1.alloc (.cells #[.int .i64 4,.int .i64 0,.string ⟨#[]⟩,.slice none 0 0,.slice none 0 0,.int .i64 2,.int .i64 0,.string ⟨#[]⟩,.slice none 0 0,.slice none 0 0,.int .i64 8,.int .i64 0,.string ⟨#[]⟩,.slice none 0 0,.slice (some ⟨b0,0,none⟩) 2 2,.int .i64 7,.int .i64 0,.string ⟨#[]⟩,.slice (some ⟨b1,0,none⟩) 1 1,.slice (some ⟨b2,0,none⟩) 1 1,.int .i64 7,.int .i64 0,.string ⟨#[]⟩,.slice (some ⟨b3,0,none⟩) 1 1,.slice (some ⟨b4,0,none⟩) 1 1,.int .i64 1,.int .i64 0,.string ⟨#[]⟩,.slice none 0 0,.slice none 0 0,.int .i64 9,.int .i64 0,.string ⟨#[]⟩,.slice none 0 0,.slice (some ⟨b5,0,none⟩) 1 1] 54)
 have m2:=n2
 replace m2:=m2.alloc (.cells #[.string ⟨#[97]⟩] 9)
 replace m2:=m2.alloc (.cells #[.int .i64 2] 3)
 replace m2:=m2.alloc (.cells #[.int .i64 3] 3)
 replace m2:=m2.alloc (.cells #[.int .i64 4,.int .i64 0,.string ⟨#[]⟩,.slice none 0 0,.slice none 0 0,.int .i64 2,.int .i64 0,.string ⟨#[]⟩,.slice none 0 0,.slice none 0 0,.int .i64 8,.int .i64 0,.string ⟨#[]⟩,.slice none 0 0,.slice (some ⟨b0,0,none⟩) 2 2,.int .i64 7,.int .i64 0,.string ⟨#[]⟩,.slice (some ⟨b1,0,none⟩) 1 1,.slice (some ⟨b2,0,none⟩) 1 1,.int .i64 7,.int .i64 0,.string ⟨#[]⟩,.slice (some ⟨b3,0,none⟩) 1 1,.slice (some ⟨b4,0,none⟩) 1 1,.int .i64 1,.int .i64 0,.string ⟨#[]⟩,.slice none 0 0,.slice none 0 0,.int .i64 9,.int .i64 0,.string ⟨#[]⟩,.slice none 0 0,.slice (some ⟨b5,0,none⟩) 1 1] 54)
 have m3:=n3
 replace m3:=m3.alloc (.cells #[.int .i64 2] 3)
 replace m3:=m3.alloc (.cells #[.int .i64 3] 3)
 replace m3:=m3.alloc (.cells #[.int .i64 4,.int .i64 0,.string ⟨#[]⟩,.slice none 0 0,.slice none 0 0,.int .i64 2,.int .i64 0,.string ⟨#[]⟩,.slice none 0 0,.slice none 0 0,.int .i64 8,.int .i64 0,.string ⟨#[]⟩,.slice none 0 0,.slice (some ⟨b0,0,none⟩) 2 2,.int .i64 7,.int .i64 0,.string ⟨#[]⟩,.slice (some ⟨b1,0,none⟩) 1 1,.slice (some ⟨b2,0,none⟩) 1 1,.int .i64 7,.int .i64 0,.string ⟨#[]⟩,.slice (some ⟨b3,0,none⟩) 1 1,.slice (some ⟨b4,0,none⟩) 1 1,.int .i64 1,.int .i64 0,.string ⟨#[]⟩,.slice none 0 0,.slice none 0 0,.int .i64 9,.int .i64 0,.string ⟨#[]⟩,.slice none 0 0,.slice (some ⟨b5,0,none⟩) 1 1] 54)
 have m4:=n4
 replace m4:=m4.alloc (.cells #[.int .i64 3] 3)
 replace m4:=m4.alloc (.cells #[.int .i64 4,.int .i64 0,.string ⟨#[]⟩,.slice none 0 0,.slice none 0 0,.int .i64 2,.int .i64 0,.string ⟨#[]⟩,.slice none 0 0,.slice none 0 0,.int .i64 8,.int .i64 0,.string ⟨#[]⟩,.slice none 0 0,.slice (some ⟨b0,0,none⟩) 2 2,.int .i64 7,.int .i64 0,.string ⟨#[]⟩,.slice (some ⟨b1,0,none⟩) 1 1,.slice (some ⟨b2,0,none⟩) 1 1,.int .i64 7,.int .i64 0,.string ⟨#[]⟩,.slice (some ⟨b3,0,none⟩) 1 1,.slice (some ⟨b4,0,none⟩) 1 1,.int .i64 1,.int .i64 0,.string ⟨#[]⟩,.slice none 0 0,.slice none 0 0,.int .i64 9,.int .i64 0,.string ⟨#[]⟩,.slice none 0 0,.slice (some ⟨b5,0,none⟩) 1 1] 54)
 have m5:=n5
 replace m5:=m5.alloc (.cells #[.int .i64 4,.int .i64 0,.string ⟨#[]⟩,.slice none 0 0,.slice none 0 0,.int .i64 2,.int .i64 0,.string ⟨#[]⟩,.slice none 0 0,.slice none 0 0,.int .i64 8,.int .i64 0,.string ⟨#[]⟩,.slice none 0 0,.slice (some ⟨b0,0,none⟩) 2 2,.int .i64 7,.int .i64 0,.string ⟨#[]⟩,.slice (some ⟨b1,0,none⟩) 1 1,.slice (some ⟨b2,0,none⟩) 1 1,.int .i64 7,.int .i64 0,.string ⟨#[]⟩,.slice (some ⟨b3,0,none⟩) 1 1,.slice (some ⟨b4,0,none⟩) 1 1,.int .i64 1,.int .i64 0,.string ⟨#[]⟩,.slice none 0 0,.slice none 0 0,.int .i64 9,.int .i64 0,.string ⟨#[]⟩,.slice none 0 0,.slice (some ⟨b5,0,none⟩) 1 1] 54)
 have hb:Below b0 w (((((((w.alloc (.cells #[.int .i64 0,.int .i64 1] 3)).alloc (.cells #[.string ⟨#[97]⟩] 9)).alloc (.cells #[.int .i64 0] 3)).alloc (.cells #[.string ⟨#[97]⟩] 9)).alloc (.cells #[.int .i64 2] 3)).alloc (.cells #[.int .i64 3] 3)).alloc (.cells #[.int .i64 4,.int .i64 0,.string ⟨#[]⟩,.slice none 0 0,.slice none 0 0,.int .i64 2,.int .i64 0,.string ⟨#[]⟩,.slice none 0 0,.slice none 0 0,.int .i64 8,.int .i64 0,.string ⟨#[]⟩,.slice none 0 0,.slice (some ⟨b0,0,none⟩) 2 2,.int .i64 7,.int .i64 0,.string ⟨#[]⟩,.slice (some ⟨b1,0,none⟩) 1 1,.slice (some ⟨b2,0,none⟩) 1 1,.int .i64 7,.int .i64 0,.string ⟨#[]⟩,.slice (some ⟨b3,0,none⟩) 1 1,.slice (some ⟨b4,0,none⟩) 1 1,.int .i64 1,.int .i64 0,.string ⟨#[]⟩,.slice none 0 0,.slice none 0 0,.int .i64 9,.int .i64 0,.string ⟨#[]⟩,.slice none 0 0,.slice (some ⟨b5,0,none⟩) 1 1] 54)):=((((((y0.trans (y1.mono (by omega))).trans (y2.mono (by omega))).trans (y3.mono (by omega))).trans (y4.mono (by omega))).trans (y5.mono (by omega))).trans (y6.mono (by omega)))
 have HM:=hid (And.intro m0 (And.intro m1 (And.intro m2 (And.intro m3 (And.intro m4 (And.intro m5 n6))))));have HB:=hid hb;clear m0 m1 m2 m3 m4 m5 n0 n1 n2 n3 n4 n5 n6 y0 y1 y2 y3 y4 y5 y6 hb;rw[h0];go_enter Tryz.func36,Tryz.ntmps36
 go_wp2_with fail
 generalize (((((((w.alloc (.cells #[.int .i64 0,.int .i64 1] 3)).alloc (.cells #[.string ⟨#[97]⟩] 9)).alloc (.cells #[.int .i64 0] 3)).alloc (.cells #[.string ⟨#[97]⟩] 9)).alloc (.cells #[.int .i64 2] 3)).alloc (.cells #[.int .i64 3] 3)).alloc (.cells #[.int .i64 4,.int .i64 0,.string ⟨#[]⟩,.slice none 0 0,.slice none 0 0,.int .i64 2,.int .i64 0,.string ⟨#[]⟩,.slice none 0 0,.slice none 0 0,.int .i64 8,.int .i64 0,.string ⟨#[]⟩,.slice none 0 0,.slice (some ⟨b0,0,none⟩) 2 2,.int .i64 7,.int .i64 0,.string ⟨#[]⟩,.slice (some ⟨b1,0,none⟩) 1 1,.slice (some ⟨b2,0,none⟩) 1 1,.int .i64 7,.int .i64 0,.string ⟨#[]⟩,.slice (some ⟨b3,0,none⟩) 1 1,.slice (some ⟨b4,0,none⟩) 1 1,.int .i64 1,.int .i64 0,.string ⟨#[]⟩,.slice none 0 0,.slice none 0 0,.int .i64 9,.int .i64 0,.string ⟨#[]⟩,.slice none 0 0,.slice (some ⟨b5,0,none⟩) 1 1] 54))=wf at HM HB ⊢;obtain⟨m0,m1,m2,m3,m4,m5,m6⟩:=HM.out
 go_ret
 refine⟨_,rfl,gs_blk (ps:=[(⟨4,0,⟨#[]⟩,[],[]⟩,.slice none 0 0,.slice none 0 0),(⟨2,0,⟨#[]⟩,[],[]⟩,.slice none 0 0,.slice none 0 0),(⟨8,0,⟨#[]⟩,[],[0,1]⟩,.slice none 0 0,.slice (some ⟨b0,0,none⟩) 2 2),(⟨7,0,⟨#[]⟩,[⟨#[97]⟩],[0]⟩,.slice (some ⟨b1,0,none⟩) 1 1,.slice (some ⟨b2,0,none⟩) 1 1),(⟨7,0,⟨#[]⟩,[⟨#[97]⟩],[2]⟩,.slice (some ⟨b3,0,none⟩) 1 1,.slice (some ⟨b4,0,none⟩) 1 1),(⟨1,0,⟨#[]⟩,[],[]⟩,.slice none 0 0,.slice none 0 0),(⟨9,0,⟨#[]⟩,[],[3]⟩,.slice none 0 0,.slice (some ⟨b5,0,none⟩) 1 1)]) m6 (fun p hp=>?_),HB.out⟩
 simp only[List.mem_cons,List.not_mem_nil,or_false] at hp;rcases hp with rfl | rfl | rfl | rfl | rfl | rfl | rfl
 ·exact⟨slr_nil _,slr_nil _⟩
 ·exact⟨slr_nil _,slr_nil _⟩
 ·exact⟨slr_nil _,slr_blk m0 (by decide)⟩
 ·exact⟨slr_blk m1 (by decide),slr_blk m2 (by decide)⟩
 ·exact⟨slr_blk m3 (by decide),slr_blk m4 (by decide)⟩
 ·exact⟨slr_nil _,slr_nil _⟩
 ·exact⟨slr_nil _,slr_blk m5 (by decide)⟩
end FM
end
end Go.Proofs.YtfigdflcoaepaaaGreatDoor
