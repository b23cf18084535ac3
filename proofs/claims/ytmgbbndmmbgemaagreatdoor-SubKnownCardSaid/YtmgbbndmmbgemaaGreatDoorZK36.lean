/- Contracts and plain facts that the theorem rests on: S8Sq, S8Rec, S8Does, S8Pick, S8Std, S8OfA, S8Of, S8Is, S8Least. -/
import Derived.Test.YtmgbbndmmbgemaaGreatDoorZK31
import Derived.Test.YtmgbbndmmbgemaaGreatDoorZK29
import Derived.Test.YtmgbbndmmbgemaaGreatDoorZK30
import Derived.Test.YtmgbbndmmbgemaaGreatDoorZK35
import Derived.Test.YtmgbbndmmbgemaaGreatDoorZK12
import Derived.Test.YtmgbbndmmbgemaaGreatDoorZK23
import Derived.Test.YtmgbbndmmbgemaaGreatDoorZK3
import Derived.Test.YtmgbbndmmbgemaaGreatDoorZK13
import Derived.Test.YtmgbbndmmbgemaaGreatDoorZK34
set_option linter.unusedSimpArgs false
set_option linter.unusedVariables false
namespace Go.Proofs.YtmgbbndmmbgemaaGreatDoor
section
open Go.RowKit
namespace SM
open CM (nd kids)
structure Mz (w:World) (n:Nat) (u:Nat→Nat→Bool) (RA:Option Addr) (q:Nat→Nat):Prop where
 rows:∀ i,i<n→∃ rb,RA=some ⟨rb,0,none⟩∧w.cell? ⟨rb,i,none⟩=some (.slice (some ⟨q i,0,none⟩) n n)
 row:∀ j,j<n→Blk w (q j) 4 (vals (fun b => .bool (u j b)) n)
section
variable {w w' : World} {n : Nat} {u : Nat → Nat → Bool} {RA : Option Addr} {q : Nat → Nat}
theorem Mz.below (h:Mz w n u RA q) (hb:Below w.heap.size w w'):Mz w' n u RA q:=
 ⟨fun i hi=>by obtain ⟨rb,e,hc⟩:=h.rows i hi;exact ⟨rb,e,cell_below hb hc⟩,fun j hj=>(h.row j hj).below hb (h.row j hj).lt⟩
theorem Mz.d (h:Mz w n u RA q) {i j:Nat} (hi:i<n) (hj:j<n):w.cell? ⟨q i,j,none⟩=some (.bool (u i j)):=((h.row i hi).cell j).trans (vals_get hj)
end
def P8 (w:World) (pb n:Nat) (GA:Option Addr) (gc:Nat) (st:Bool) (RA:Option Addr) (rc:Nat):Prop:=Blk w pb 55 #[.slice GA n gc,.bool st,.slice RA n rc]
theorem P8.below {w w':World} {pb n:Nat} {GA:Option Addr} {gc:Nat} {st:Bool} {RA:Option Addr} {rc:Nat} (h:P8 w pb n GA gc st RA rc) (hb:Below w.heap.size w w'):P8 w' pb n GA gc st RA rc:=Blk.below h hb h.lt
theorem P8.c0 {w:World} {pb n:Nat} {GA:Option Addr} {gc:Nat} {st:Bool} {RA:Option Addr} {rc:Nat} (h:P8 w pb n GA gc st RA rc):w.cell? ⟨pb,0,none⟩=some (.slice GA n gc):=Blk.cell h 0
theorem P8.c1 {w:World} {pb n:Nat} {GA:Option Addr} {gc:Nat} {st:Bool} {RA:Option Addr} {rc:Nat} (h:P8 w pb n GA gc st RA rc):w.cell? ⟨pb,1,none⟩=some (.bool st):=Blk.cell h 1
theorem P8.c2 {w:World} {pb n:Nat} {GA:Option Addr} {gc:Nat} {st:Bool} {RA:Option Addr} {rc:Nat} (h:P8 w pb n GA gc st RA rc):w.cell? ⟨pb,2,none⟩=some (.slice RA n rc):=Blk.cell h 2
theorem Fine.dist {g:List Gi} (hf:Fine g) {i:Nat} (hi:i<g.length) (h7:(nd g i).kind=7):∀ a b,a<b→b<(nd g i).keys.length→(nd g i).keys.getD a ⟨#[]⟩≠(nd g i).keys.getD b ⟨#[]⟩:=fun a b h hb=>less_ne (hf.keys i hi h7 a b h hb)
theorem fldB_first {x y:Gi} {u:Nat→Nat→Bool} {k:Nat} {v:Int} (hd:∀ a b,a<b→b<x.keys.length→x.keys.getD a ⟨#[]⟩≠x.keys.getD b ⟨#[]⟩) (hI:∀ z∈x.l,0≤z) (h:FieldIs x (y.keys.getD k ⟨#[]⟩) v) :
  (v = -1∧fldB x y u k x.keys.length=false)∨∃ c:Nat,v=(c:Int)∧c∈kids x∧fldB x y u k x.keys.length=u c ((kids y).getD k 0):=by
 rcases h with ⟨i,h1,h2,h3⟩ | ⟨h1,rfl⟩
 ·refine .inr ⟨v.toNat,?_,?_,?_⟩
  ·have:=hI v (List.mem_of_getElem? h3);omega
  ·unfold CM.kids;exact List.mem_map_of_mem (List.mem_of_getElem? h3)
  ·have hil:=(List.getElem?_eq_some_iff.1 h1).1
   have ek:x.keys.getD i ⟨#[]⟩=y.keys.getD k ⟨#[]⟩:=by rw [List.getD_eq_getElem?_getD,h1];rfl
   have ec:(kids x).getD i 0=v.toNat:=by
    unfold CM.kids
    rw [List.getD_eq_getElem?_getD,List.getElem?_map,h3];rfl
   unfold fldB
   cases hu:u v.toNat ((kids y).getD k 0)
   ·rw [List.any_eq_false]
    intro j hj hc
    have hjl:=List.mem_range.1 hj
    rw [Bool.and_eq_true,decide_eq_true_eq,ba_data] at hc
    have eij:i=j:=by
     rcases Nat.lt_trichotomy i j with h | h | h
     ·exact absurd (ek.trans hc.1.symm) (hd i j h hjl)
     ·exact h
     ·exact absurd (hc.1.trans ek.symm) (hd j i h hil)
    subst eij
    rw [ec,hu] at hc
    exact absurd hc.2 (by decide)
   ·rw [List.any_eq_true]
    refine ⟨i,List.mem_range.2 hil,?_⟩
    rw [Bool.and_eq_true,decide_eq_true_eq,ba_data]
    exact ⟨ek,by rw [ec];exact hu⟩
 ·refine .inl ⟨rfl,?_⟩
  unfold fldB
  rw [List.any_eq_false]
  intro j hj hc
  rw [Bool.and_eq_true,decide_eq_true_eq,ba_data] at hc
  have hjl:=List.mem_range.1 hj
  exact h1 _ (getD_mem hjl) hc.1
theorem fldB_take {x y:Gi} {u:Nat→Nat→Bool} {n:Nat} (h:∀ i,i<y.keys.length→fldB x y u i x.keys.length=true):fldsB x y u=true:=flds_all h
end SM
end
section
open Lib (hid)
open Go.RowKit
namespace SM
open CM (nd kids)
set_option maxRecDepth 100000 in
set_option maxHeartbeats 8000000 in
theorem r8_records (g:List Gi) (hf:Fine g) (st:Bool) (i j n:Nat) (u:Nat→Nat→Bool) (pb:Nat) (GA RA:Option Addr) (gc rc:Nat) (q:Nat→Nat) (SV SP TV TP:Option Addr) (sc sp tc tp:Nat) (w:World) (hn:g.length=n) (hi:i<n) (hj:j<n) (h7:(nd g i).kind=7) (h7':(nd g j).kind=7)
  (hp:P8 w pb n GA gc st RA rc) (hm:Mz w n u RA q) (r1:RdV w SV ((nd g i).keys.flatMap sC)) (r2:RdV w SP ((nd g i).l.flatMap iC)) (r3:RdV w TV ((nd g j).keys.flatMap sC)) (r4:RdV w TP ((nd g j).l.flatMap iC)) :
  Calls Tryz.prog 86 #[.pointer (some ⟨pb,0,none⟩),gnA (nd g i) SV SP sc sp,gnA (nd g j) TV TP tc tp] w fun r w'=>r = .returned (.bool (fldsB (nd g i) (nd g j) u))∧Below w.heap.size w w':=by
 have hR:=hf.recd i (by omega) h7
 have hR':=hf.recd j (by omega) h7'
 have hK:=hf.kid i (by omega)
 have hK':=hf.kid j (by omega)
 have hI:=hf.kidI i (by omega)
 have hI':=hf.kidI j (by omega)
 have hD:=hf.dist (i:=i) (by omega) h7
 rw [hn] at hK hK'
 clear h7 h7'
 generalize nd g i=s at *
 generalize nd g j=t at *
 obtain ⟨sk,hsk⟩:∃ sk,s.keys.length=sk:=⟨_,rfl⟩
 obtain ⟨tk,htk⟩:∃ tk,t.keys.length=tk:=⟨_,rfl⟩
 have hskb:sk≤16:=by omega
 have htkb:tk≤16:=by omega
 have hsl:s.l.length=sk:=by omega
 have htl:t.l.length=tk:=by omega
 have hsl16:s.l.length≤100000:=by omega
 have HR:=hid (And.intro hR hR')
 have HKK:=hid (And.intro hK hK')
 have HII:=hid (And.intro hI hI')
 have HD:=hid hD
 have HM:=hid hm
 have HP:=hid hp
 have H1:=hid r1
 have H2:=hid r2
 have H3:=hid r3
 have H4:=hid r4
 have HSK:=hid hsk
 have HTK:=hid htk
 have HTL:=hid htl
 have HSL:=hid hsl16
 unfold gnA
 rw [hsk,htk,hsl,htl]
 clear hf hm hp r1 r2 r3 r4 hR hR' hK hK' hI hI' hD hsk htk hsl htl hsl16 hi hj hn
 have hbS:=Blk.new w 42 #[.int .i64 s.kind,.int .i64 s.num,.string s.nm,.slice SV sk sc,.slice SP sk sp]
 have hy1:=one_boxS w (.cells #[.int .i64 s.kind,.int .i64 s.num,.string s.nm,.slice SV sk sc,.slice SP sk sp] 42)
 obtain ⟨sb,hsb⟩:∃ sb,w.heap.size=sb:=⟨_,rfl⟩
 have HSB:=hid hsb
 rw [hsb] at hbS hy1 ⊢
 go_enter Tryz.func86,Tryz.ntmps86
 go_upto_region 1 with (fail)
 have hbT:=Blk.new (w.alloc (.cells #[.int .i64 s.kind,.int .i64 s.num,.string s.nm,.slice SV sk sc,.slice SP sk sp] 42)) 42 #[.int .i64 t.kind,.int .i64 t.num,.string t.nm,.slice TV tk tc,.slice TP tk tp]
 have hy2:=hy1.alloc (by have h:=hy1.size;rw [hsb] at h;exact h) (.cells #[.int .i64 t.kind,.int .i64 t.num,.string t.nm,.slice TV tk tc,.slice TP tk tp] 42)
 have hbS2:=hbS.alloc (.cells #[.int .i64 t.kind,.int .i64 t.num,.string t.nm,.slice TV tk tc,.slice TP tk tp] 42)
 have hsz:(w.alloc (.cells #[.int .i64 s.kind,.int .i64 s.num,.string s.nm,.slice SV sk sc,.slice SP sk sp] 42)).heap.size=sb+1:=by rw [← hsb];exact Array.size_push _
 rw [hsz] at hbT
 generalize (w.alloc (.cells #[.int .i64 s.kind,.int .i64 s.num,.string s.nm,.slice SV sk sc,.slice SP sk sp] 42)).alloc (.cells #[.int .i64 t.kind,.int .i64 t.num,.string t.nm,.slice TV tk tc,.slice TP tk tp] 42)=w1 at hbT hy2 hbS2 ⊢
 have HBS:=hid hbS2
 have HBT:=hid hbT
 have HY:=hid hy2
 rw [← hsb] at hy2
 have HM1:=hid (HM.out.below hy2)
 have HP1:=hid (HP.out.below hy2)
 have R1:=hid (H1.out.below hy2)
 have R2:=hid (H2.out.below hy2)
 have R3:=hid (H3.out.below hy2)
 have R4:=hid (H4.out.below hy2)
 have HYW:=hid hy2
 clear hbS hbS2 hbT hy1 hy2 hsz hsb HM HP H1 H2 H3 H4 HY
 go_wp2_with fail
 go_loopw [7] (fun u7 wr=>∃ k:Nat,k≤tk∧u7 = .int .i64 (k:Int)∧Hid (Below w1.heap.size w1 wr)∧Hid (∀ i,i<k→fldB s t u i s.keys.length=true)) (fun u7 _=>tk - (intOf u7).toNat)
 case atStart=>exact ⟨0,Nat.zero_le _,rfl,hid (Below.refl _ _),hid (fun i hi=>by omega)⟩
 case round =>
  obtain ⟨k,hk,rfl,HB,HF⟩:=hrel
  obtain ⟨ws,rfl⟩:∃ ws,ws=wr:=⟨_,rfl⟩
  have hbs:=HBS.out.below HB.out HBS.out.lt
  have hbt:=HBT.out.below HB.out HBT.out.lt
  have s0:=hbs.cell 0
  have s1:=hbs.cell 1
  have s2:=hbs.cell 2
  have s3:=hbs.cell 3
  have s4:=hbs.cell 4
  have t3:=hbt.cell 3
  have t4:=hbt.cell 4
  simp at s0 s1 s2 s3 s4 t3 t4
  clear hbs hbt
  by_cases hlt:k<tk
  ·have hkI:(k:Int)<(tk:Int):=by omega
   obtain ⟨key,hkey⟩:∃ key,t.keys[k]? = some key:=⟨_,List.getElem?_eq_getElem (by have:=HTK.out;omega)⟩
   obtain ⟨b,o,hA,hcell⟩:=rd_strG (R3.out.below HB.out) (by have:=HTK.out;omega)
   have c0:=hcell k key hkey
   have hgk:t.keys.getD k ⟨#[]⟩=key:=by rw [List.getD_eq_getElem?_getD,hkey];rfl
   have hdr:Below ws.heap.size ws ws.drew:=⟨rfl,rfl,rfl,Nat.le_refl _,fun _ _=>rfl⟩
   have C:=r8_field s key SV SP sc sp ws.drew ((R1.out.below HB.out).below hdr) ((R2.out.below HB.out).below hdr) (by have:=HR.out.1;omega) HSL.out
   unfold gnA at C
   rw [HSK.out,show s.l.length=sk by have:=HR.out.1.1;have:=HSK.out;omega] at C
   rw [hA] at t3
   have HGK:=hid hgk
   have HA:=hid hA
   rw [HA.out]
   clear hkey hcell hgk hdr hA
   go_upto_region 4 with (fail)
   have hS:Below ws.heap.size ws ws.drew:=⟨rfl,rfl,rfl,Nat.le_refl _,fun _ _=>rfl⟩
   refine K_start 100 (fun u=>Below ws.heap.size ws u) (by kernel_rfl) ?_
   refine K_takeA (i:=0) (v:=?_) (by simp only [List.getElem?_toArray,List.getElem?_cons_succ,List.getElem?_cons_zero];exact rfl) (by kernel_rfl) (by kernel_rfl) (by kernel_rfl) (of_decide_eq_true (by kernel_rfl)) (by kernel_rfl) (by exact fun _ _ _ h=>h) hS (by rfl) ?_ ?_
   rotate_left
   ·intro uu hu
    have s0_:=cell_below hu s0
    have s1_:=cell_below hu s1
    have s2_:=cell_below hu s2
    have s3_:=cell_below hu s3
    have s4_:=cell_below hu s4
    go_simp
    try with_reducible rfl
   simp only [Act.put,List.setIfInBounds_toArray,List.set_cons_zero,List.set_cons_succ]
   refine K_pure (i:=1) (v:=?_) (by simp only [List.getElem?_toArray,List.getElem?_cons_succ,List.getElem?_cons_zero];exact rfl) (by kernel_rfl) (by kernel_rfl) (by kernel_rfl) (by decide) (by exact fun _ _ _ h=>h) (fun _=>hS) (by rfl) ?_ ?_
   rotate_left
   ·intro uu
    go_simp
    try with_reducible rfl
   simp only [Act.put,List.setIfInBounds_toArray,List.set_cons_zero,List.set_cons_succ]
   refine K_takeA (i:=2) (v:=?_) (by simp only [List.getElem?_toArray,List.getElem?_cons_succ,List.getElem?_cons_zero];exact rfl) (by kernel_rfl) (by kernel_rfl) (by kernel_rfl) (of_decide_eq_true (by kernel_rfl)) (by kernel_rfl) (by exact fun _ _ _ h=>h) hS (by rfl) ?_ ?_
   rotate_left
   ·intro uu hu
    have t3_:=cell_below hu t3
    go_simp
    try with_reducible rfl
   simp only [Act.put,List.setIfInBounds_toArray,List.set_cons_zero,List.set_cons_succ]
   refine K_pure (i:=3) (v:=?_) (by simp only [List.getElem?_toArray,List.getElem?_cons_succ,List.getElem?_cons_zero];exact rfl) (by kernel_rfl) (by kernel_rfl) (by kernel_rfl) (by decide) (by exact fun _ _ _ h=>h) (fun _=>hS) (by rfl) ?_ ?_
   rotate_left
   ·intro uu
    go_simp
    try with_reducible rfl
   simp only [Act.put,List.setIfInBounds_toArray,List.set_cons_zero,List.set_cons_succ]
   refine K_pure (i:=4) (v:=?_) (by simp only [List.getElem?_toArray,List.getElem?_cons_succ,List.getElem?_cons_zero];exact rfl) (by kernel_rfl) (by kernel_rfl) (by kernel_rfl) (by decide) (by exact fun _ _ _ h=>h) (fun _=>hS) (by rfl) ?_ ?_
   rotate_left
   ·intro uu
    go_simp
    try with_reducible rfl
   simp only [Act.put,List.setIfInBounds_toArray,List.set_cons_zero,List.set_cons_succ]
   refine K_takeA (i:=5) (v:=?_) (by simp only [List.getElem?_toArray,List.getElem?_cons_succ,List.getElem?_cons_zero];exact rfl) (by kernel_rfl) (by kernel_rfl) (by kernel_rfl) (of_decide_eq_true (by kernel_rfl)) (by kernel_rfl) (by exact fun _ _ _ h=>h) hS (by rfl) ?_ ?_
   rotate_left
   ·intro uu hu
    have c0_:=cell_below hu c0
    go_simp
    try with_reducible rfl
   simp only [Act.put,List.setIfInBounds_toArray,List.set_cons_zero,List.set_cons_succ]
   refine K_one (i:=6) (by kernel_rfl) rfl (fun K hK=>?_)
   go_simp
   go_at_call 111
   refine C.mono ?_
   rintro e w5 ⟨v,rfl,hfi,hb5⟩
   have hS_w5:Below ws.heap.size ws w5:=hS.trans (hb5.mono hS.size)
   refine hK _ _ (fun _=>hS_w5) ?_
   clear hK K hS hb5
   have hS:=hS_w5
   clear hS_w5
   refine K_pure (i:=7) (v:=?_) (by simp only [List.getElem?_toArray,List.getElem?_cons_succ,List.getElem?_cons_zero];exact rfl) (by kernel_rfl) (by kernel_rfl) (by kernel_rfl) (by decide) (by exact fun _ _ _ h=>h) (fun _=>hS) (by rfl) ?_ ?_
   rotate_left
   ·intro uu
    go_simp
    try with_reducible rfl
   simp only [Act.put,List.setIfInBounds_toArray,List.set_cons_zero,List.set_cons_succ]
   refine K_done (by kernel_rfl) ?_
   have HS:=hid hS
   have HFI:=hid hfi
   have HB5:=hid (HB.out.trans (hS.mono HB.out.size))
   have q3:=cell_below hS t3
   have q4:=cell_below hS t4
   clear hS hfi C s0 s1 s2 s3 s4 t3 t4 c0
   have HBF:=hid (by have h:=HYW.out.trans (HB5.out.mono HYW.out.size);rw [HSB.out] at h;exact h)
   rcases fldB_first (u:=u) (y:=t) (k:=k) HD.out HII.out.1 (by rw [HGK.out];exact HFI.out) with ⟨rfl,hno⟩ | ⟨c,rfl,hc,hyes⟩
   ·have HNO:Hid (fldsB s t u=false):=hid (flds_no (by have:=HTK.out;omega) hno)
    clear hno
    go_wp2_with fail
    go_quiet (fail)
    go_wp2_with fail
    go_ret
    exact ⟨by rw [HNO.out];rfl,bel_drewN HBF.out nq⟩
   ·obtain ⟨b4,o4,hA4,c4,hkid⟩:=kids_get (R4.out.below HB5.out) HKK.out.2 HII.out.2 (i:=k) (by have:=HTL.out;omega)
    have hcn:c<n:=HKK.out.1 c hc
    have hm5:=HM1.out.below HB5.out
    obtain ⟨d,hd⟩:∃ d,(kids t).getD k 0=d:=⟨_,rfl⟩
    rw [hd] at c4 hkid hyes
    obtain ⟨rb,hRA,m0⟩:=hm5.rows c hcn
    have m1:=hm5.d hcn hkid
    have p2:=(HP1.out.below HB5.out).c2
    have hcn':(c:Int)<(n:Int):=by omega
    have hdn':(d:Int)<(n:Int):=by omega
    have hc0:¬ ((c:Int)<0):=by omega
    rw [hA4] at q4
    rw [hRA] at p2
    obtain ⟨ucd,hu⟩:∃ ucd,u c d=ucd:=⟨_,rfl⟩
    rw [hu] at hyes m1
    have HE:=hid hyes
    clear hyes hu hRA hA4 hm5 hd hkid hc
    cases ucd
    ·have HNO:Hid (fldsB s t u=false):=hid (flds_no (by have:=HTK.out;omega) HE.out)
     go_wp2_with fail
     go_quiet (fail)
     go_wp2_with fail
     go_ret
     exact ⟨by rw [HNO.out];rfl,bel_drewN HBF.out nq⟩
    ·have HF2:Hid (∀ i,i<k+1→fldB s t u i s.keys.length=true):=hid fun i hi=>by
      by_cases e:i=k
      ·rw [e];exact HE.out
      ·exact HF.out i (by omega)
     go_wp2_with fail
     go_quiet (fail)
     have HB6:Hid (Below w1.heap.size w1 (w5.drewN nq)):=hid (bel_drewN HB5.out nq)
     go_wp2_with fail
     go_roundw
     case rel=>exact ⟨k+1,by omega,by go_num,HB6,HF2⟩
     case measure=>simp [intOf];omega
  ·have hkI:¬ ((k:Int)<(tk:Int)):=by omega
   have HYES:Hid (fldsB s t u=true):=hid (flds_all fun i hi=>HF.out i (by have:=HTK.out;omega))
   have HBF:=hid (by have h:=HYW.out.trans (HB.out.mono HYW.out.size);rw [HSB.out] at h;exact h)
   go_wp2_with fail
   go_ret
   exact ⟨by rw [HYES.out];rfl,HBF.out⟩
end SM
end
section
open Lib (hid)
open Go.RowKit
namespace SM
open CM (nd kids)
set_option maxRecDepth 100000 in
set_option maxHeartbeats 8000000 in
theorem r8_does (g:List Gi) (hf:Fine g) (st:Bool) (i j n:Nat) (u:Nat→Nat→Bool) (pb:Nat) (GA RA:Option Addr) (gc rc:Nat) (q:Nat→Nat) (SV SP TV TP:Option Addr) (sc sp tc tp:Nat) (w:World) (hn:g.length=n) (hi:i<n) (hj:j<n) (h8:(nd g i).kind≠8)
  (hp:P8 w pb n GA gc st RA rc) (hm:Mz w n u RA q) (r1:RdV w SV ((nd g i).keys.flatMap sC)) (r2:RdV w SP ((nd g i).l.flatMap iC)) (r3:RdV w TV ((nd g j).keys.flatMap sC)) (r4:RdV w TP ((nd g j).l.flatMap iC)) :
  Calls Tryz.prog 65 #[.pointer (some ⟨pb,0,none⟩),gnA (nd g i) SV SP sc sp,gnA (nd g j) TV TP tc tp] w fun r w'=>r = .returned (.bool (doesB g st u i j))∧Below w.heap.size w w':=by
 have hD:=does_is hf (st:=st) (u:=u) (by omega) (j:=j) (by omega) h8
 have hREC:∀ w',Below w.heap.size w w'→(nd g i).kind=7→(nd g j).kind=7→Calls Tryz.prog 86 #[.pointer (some ⟨pb,0,none⟩),gnA (nd g i) SV SP sc sp,gnA (nd g j) TV TP tc tp] w' fun r w''=>r = .returned (.bool (fldsB (nd g i) (nd g j) u))∧Below w'.heap.size w' w'':=
  fun w' hb h7 h7'=>r8_records g hf st i j n u pb GA RA gc rc q SV SP TV TP sc sp tc tp w' hn hi hj h7 h7' (hp.below hb) (hm.below hb) (r1.below hb) (r2.below hb) (r3.below hb) (r4.below hb)
 have hKD:=hf.kind i (by omega)
 have hV9:=hf.var i (by omega)
 have hV9':=hf.var j (by omega)
 have hK:=hf.kid i (by omega)
 have hK':=hf.kid j (by omega)
 have hI:=hf.kidI i (by omega)
 have hI':=hf.kidI j (by omega)
 have hNM:=hf.name i (by omega)
 have hNM':=hf.name j (by omega)
 have hNU:=hf.num i (by omega)
 have hNU':=hf.num j (by omega)
 rw [hn] at hK hK'
 generalize doesB g st u i j=D at hD ⊢
 generalize nd g i=s at *
 generalize nd g j=t at *
 obtain ⟨sk,hsk⟩:∃ sk,s.keys.length=sk:=⟨_,rfl⟩
 obtain ⟨tk,htk⟩:∃ tk,t.keys.length=tk:=⟨_,rfl⟩
 obtain ⟨sl,hsl⟩:∃ sl,s.l.length=sl:=⟨_,rfl⟩
 obtain ⟨tl,htl⟩:∃ tl,t.l.length=tl:=⟨_,rfl⟩
 have HD:=hid hD
 have HKK:=hid (And.intro hK hK')
 have HII:=hid (And.intro hI hI')
 have HV:=hid (And.intro hV9 hV9')
 have HNM:=hid (And.intro hNM hNM')
 have HNU:=hid (And.intro hNU hNU')
 have HKD:=hid (And.intro hKD h8)
 unfold gnA at hREC ⊢
 rw [hsk,htk,hsl,htl] at hREC ⊢
 have HREC:=hid hREC
 have HM:=hid hm
 have HP:=hid hp
 have H1:=hid r1
 have H2:=hid r2
 have H3:=hid r3
 have H4:=hid r4
 have HSL:=hid hsl
 have HTL:=hid htl
 clear hf hm hp r1 r2 r3 r4 hK hK' hI hI' hsk htk hsl htl hi hj hn hD hREC hKD hV9 hV9' hNM hNM' hNU hNU' h8
 have hbS:=Blk.new w 42 #[.int .i64 s.kind,.int .i64 s.num,.string s.nm,.slice SV sk sc,.slice SP sl sp]
 have hy1:=one_boxS w (.cells #[.int .i64 s.kind,.int .i64 s.num,.string s.nm,.slice SV sk sc,.slice SP sl sp] 42)
 obtain ⟨sb,hsb⟩:∃ sb,w.heap.size=sb:=⟨_,rfl⟩
 have HSB:=hid hsb
 rw [hsb] at hbS hy1 ⊢
 go_enter Tryz.func65,Tryz.ntmps65
 go_upto_region 1 with (fail)
 have hbT:=Blk.new (w.alloc (.cells #[.int .i64 s.kind,.int .i64 s.num,.string s.nm,.slice SV sk sc,.slice SP sl sp] 42)) 42 #[.int .i64 t.kind,.int .i64 t.num,.string t.nm,.slice TV tk tc,.slice TP tl tp]
 have hy2:=hy1.alloc (by have h:=hy1.size;rw [hsb] at h;exact h) (.cells #[.int .i64 t.kind,.int .i64 t.num,.string t.nm,.slice TV tk tc,.slice TP tl tp] 42)
 have hbS2:=hbS.alloc (.cells #[.int .i64 t.kind,.int .i64 t.num,.string t.nm,.slice TV tk tc,.slice TP tl tp] 42)
 have hsz:(w.alloc (.cells #[.int .i64 s.kind,.int .i64 s.num,.string s.nm,.slice SV sk sc,.slice SP sl sp] 42)).heap.size=sb+1:=by rw [← hsb];exact Array.size_push _
 rw [hsz] at hbT
 generalize (w.alloc (.cells #[.int .i64 s.kind,.int .i64 s.num,.string s.nm,.slice SV sk sc,.slice SP sl sp] 42)).alloc (.cells #[.int .i64 t.kind,.int .i64 t.num,.string t.nm,.slice TV tk tc,.slice TP tl tp] 42)=w1 at hbT hy2 hbS2 ⊢
 have HBS:=hid hbS2
 have HBT:=hid hbT
 have HY:=hid hy2
 rw [← hsb] at hy2
 have HM1:=hid (HM.out.below hy2)
 have p1:=(HP.out.below hy2).c1
 have p2:=(HP.out.below hy2).c2
 have R2:=hid (H2.out.below hy2)
 have R4:=hid (H4.out.below hy2)
 have HR1:=hid (HREC.out w1 hy2)
 have HYW:=hid hy2
 clear hbS hbS2 hbT hy1 hy2 hsz hsb HM HP H1 H2 H3 H4 HREC
 have s0:=HBS.out.cell 0
 have s1:=HBS.out.cell 1
 have s2:=HBS.out.cell 2
 have s3:=HBS.out.cell 3
 have s4:=HBS.out.cell 4
 have t0:=HBT.out.cell 0
 have t1:=HBT.out.cell 1
 have t2:=HBT.out.cell 2
 have t3:=HBT.out.cell 3
 have t4:=HBT.out.cell 4
 simp at s0 s1 s2 s3 s4 t0 t1 t2 t3 t4
 obtain ⟨ks,hks⟩:∃ ks,s.kind=ks:=⟨_,rfl⟩
 obtain ⟨kt,hkt⟩:∃ kt,t.kind=kt:=⟨_,rfl⟩
 obtain ⟨ns,hns⟩:∃ ns,s.num=ns:=⟨_,rfl⟩
 obtain ⟨nt,hnt⟩:∃ nt,t.num=nt:=⟨_,rfl⟩
 obtain ⟨ms,hms⟩:∃ ms,s.nm=ms:=⟨_,rfl⟩
 obtain ⟨mt,hmt⟩:∃ mt,t.nm=mt:=⟨_,rfl⟩
 have HKS:=hid hks
 have HKT:=hid hkt
 have HNS:=hid hns
 have HNT:=hid hnt
 have HMS:=hid hms
 have HMT:=hid hmt
 rw [hks] at s0
 rw [hkt] at t0
 rw [hns] at s1
 rw [hnt] at t1
 rw [hms] at s2
 rw [hmt] at t2
 clear hks hkt hns hnt hms hmt
 by_cases h1:ks=1∨kt=1
 ·have HDD:Hid (D=(!st || decide (ks=kt))):=hid (by rw [HD.out.dyn (by rw [HKS.out,HKT.out];exact h1),HKS.out,HKT.out])
  by_cases hk1:ks=1
  ·have b1:(ks == 1)=true:=by simp [hk1]
   by_cases hkk:ks=kt
   ·have b2:(ks == kt)=true:=by simp [hkk]
    have HDT:Hid (D=true):=hid (by rw [HDD.out];simp [hkk])
    clear h1 hk1 hkk
    cases st
    ·go_wp2_with fail
     go_ret
     exact ⟨by rw [HDT.out];rfl,HY.out⟩
    ·go_wp2_with fail
     go_ret
     exact ⟨by rw [HDT.out];rfl,HY.out⟩
   ·have b2:(ks == kt)=false:=by simp [hkk]
    have HDT:Hid (D = !st):=hid (by rw [HDD.out];simp [hkk])
    clear h1 hk1 hkk
    cases st
    ·go_wp2_with fail
     go_ret
     exact ⟨by rw [HDT.out];rfl,HY.out⟩
    ·go_wp2_with fail
     go_ret
     exact ⟨by rw [HDT.out];rfl,HY.out⟩
  ·have b1:(ks == 1)=false:=by simp [hk1]
   have hkt1:kt=1:=h1.resolve_left hk1
   have b3:(kt == 1)=true:=by simp [hkt1]
   have hkk:ks≠kt:=by omega
   have b2:(ks == kt)=false:=by simp [hkk]
   have HDT:Hid (D = !st):=hid (by rw [HDD.out];simp [hkk])
   clear h1 hk1 hkk hkt1
   cases st
   ·go_wp2_with fail
    go_ret
    exact ⟨by rw [HDT.out];rfl,HY.out⟩
   ·go_wp2_with fail
    go_ret
    exact ⟨by rw [HDT.out];rfl,HY.out⟩
 ·have b1:(ks == 1)=false:=by simp;omega
  have b3:(kt == 1)=false:=by simp;omega
  have H11:=hid h1
  clear p1
  by_cases hkk:ks=kt
  ·subst hkk
   clear h1
   have H11:Hid (¬ (s.kind=1∨t.kind=1)):=hid (by rw [HKS.out,HKT.out];exact H11.out)
   have b2:(ks != ks)=false:=by simp
   have hkd:ks=2∨ks=3∨ks=4∨ks=5∨ks=7∨ks=9:=by
    have h1:=HKD.out.1
    have h2:=HKD.out.2
    have h3:=H11.out
    rw [HKS.out] at h1 h2 h3
    omega
   have HE:Hid (s.kind=t.kind):=hid (HKS.out.trans HKT.out.symm)
   rcases hkd with e | e | e | e | e | e
   ·have HDT:Hid (D=true):=hid (HD.out.else_ H11.out HE.out (by rw [HNM.out.1 (by rw [HKS.out];omega),HNM.out.2 (by rw [HKT.out];omega)]) (by rw [HKS.out];omega) (by rw [HKS.out];omega))
    subst e
    go_wp2_with fail
    go_ret
    exact ⟨by rw [HDT.out];rfl,HY.out⟩
   ·have HDT:Hid (D=true):=hid (HD.out.else_ H11.out HE.out (by rw [HNM.out.1 (by rw [HKS.out];omega),HNM.out.2 (by rw [HKT.out];omega)]) (by rw [HKS.out];omega) (by rw [HKS.out];omega))
    subst e
    go_wp2_with fail
    go_ret
    exact ⟨by rw [HDT.out];rfl,HY.out⟩
   ·have HDT:Hid (D=true):=hid (HD.out.else_ H11.out HE.out (by rw [HNM.out.1 (by rw [HKS.out];omega),HNM.out.2 (by rw [HKT.out];omega)]) (by rw [HKS.out];omega) (by rw [HKS.out];omega))
    subst e
    go_wp2_with fail
    go_ret
    exact ⟨by rw [HDT.out];rfl,HY.out⟩
   ·by_cases e3:ms=mt
    ·have b5:(ms.toList == mt.toList)=true:=by rw [e3];simp
     have HDT:Hid (D=true):=hid (HD.out.else_ H11.out HE.out (by rw [HMS.out,HMT.out];exact e3) (by rw [HKS.out];omega) (by rw [HKS.out];omega))
     clear e3
     subst e
     go_wp2_with fail
     go_ret
     exact ⟨by rw [HDT.out];rfl,HY.out⟩
    ·have b5:(ms.toList == mt.toList)=false:=by
      rw [beq_eq_false_iff_ne]
      intro e
      exact e3 (ba_data.1 (by rw [ByteArray.toList_eq,ByteArray.toList_eq] at e;exact e))
     have HDT:Hid (D=false):=hid (HD.out.no H11.out (.inr (.inr (by rw [HMS.out,HMT.out];exact e3))))
     clear e3
     subst e
     go_wp2_with fail
     go_ret
     exact ⟨by rw [HDT.out];rfl,HY.out⟩
   ·subst e
    have HDT:=hid (HD.out.rec_ HKS.out HKT.out)
    have C:=HR1.out HKS.out HKT.out
    rw [HNS.out,HNT.out,HMS.out,HMT.out,HKS.out,HKT.out] at C
    go_wp2_with fail
    refine C.mono ?_
    rintro r w2 ⟨rfl,hb2⟩
    have HB2:=hid (by have h:=HYW.out.trans (hb2.mono HYW.out.size);rw [HSB.out] at h;exact h)
    clear hb2 C
    go_wp2_with fail
    go_ret
    exact ⟨by rw [HDT.out];rfl,HB2.out⟩
   ·by_cases e2:ns=nt
    ·have b4:(ns == nt)=true:=by simp [e2]
     have HDT:=hid (HD.out.var (by rw [HKS.out];exact e) (by rw [HKT.out];exact e) (by rw [HNS.out,HNT.out];exact e2))
     have l1:s.l.length=1:=by rw [← kids_len];exact HV.out.1 (by rw [HKS.out];exact e)
     have l2:t.l.length=1:=by rw [← kids_len];exact HV.out.2 (by rw [HKT.out];exact e)
     obtain ⟨a1,o1,hA1,c1,d1⟩:=kids_get R2.out HKK.out.1 HII.out.1 (i:=0) (by omega)
     obtain ⟨a2,o2,hA2,c2,d2⟩:=kids_get R4.out HKK.out.2 HII.out.2 (i:=0) (by omega)
     have m0:=HM1.out
     obtain ⟨x,hx⟩:∃ x,(kids s).getD 0 0=x:=⟨_,rfl⟩
     obtain ⟨y,hy⟩:∃ y,(kids t).getD 0 0=y:=⟨_,rfl⟩
     rw [hx] at c1 d1 HDT
     rw [hy] at c2 d2 HDT
     obtain ⟨rb,hRA,m1⟩:=m0.rows x d1
     have m2:=m0.d d1 d2
     rw [hA1] at s4
     rw [hA2] at t4
     rw [hRA] at p2
     have es:sl=1:=by rw [← HSL.out];exact l1
     have et:tl=1:=by rw [← HTL.out];exact l2
     rw [es] at s4
     rw [et] at t4
     have hxn:(x:Int)<(n:Int):=by omega
     have hyn:(y:Int)<(n:Int):=by omega
     simp only [Nat.add_zero] at c1 c2
     obtain ⟨v,hv⟩:∃ v,u x y=v:=⟨_,rfl⟩
     rw [hv] at m2 HDT
     clear hx hy hv l1 l2 es et e2 hRA hA1 hA2 m0 d1 d2
     subst e
     go_wp2_with fail
     go_quiet (fail)
     go_wp2_with fail
     go_ret
     exact ⟨by rw [HDT.out];rfl,bel_drewN HY.out nq⟩
    ·have b4:(ns == nt)=false:=by simp [e2]
     have HDT:Hid (D=false):=hid (HD.out.no H11.out (.inr (.inl (by rw [HNS.out,HNT.out];exact e2))))
     clear e2
     subst e
     go_wp2_with fail
     go_quiet (fail)
     go_wp2_with fail
     go_ret
     exact ⟨by rw [HDT.out];rfl,bel_drewN HY.out nq⟩
  ·have b2:(ks != kt)=true:=by simp [hkk]
   have HDT:Hid (D=false):=hid (HD.out.no (by rw [HKS.out,HKT.out];exact h1) (.inl (by rw [HKS.out,HKT.out];exact hkk)))
   clear h1 hkk
   go_wp2_with fail
   go_ret
   exact ⟨by rw [HDT.out];rfl,HY.out⟩
end SM
end
section
open Lib (hid)
open Go.RowKit
namespace SM
open CM (nd kids)
def PickL (g:List Gi) (st:Bool) (u:Nat→Nat→Bool) (s b:Nat) (v:Int):Prop:=
 (∃ (k t:Nat),v=(k:Int)∧(mem g b)[k]? = some t∧doesB g st u s t=true∧∀ (j t':Nat),j<k→(mem g b)[j]? = some t'→doesB g st u s t'=false) ∨
 ((∀ (j t':Nat),(mem g b)[j]? = some t'→doesB g st u s t'=false)∧(((nd g s).kind=9∧u (bnd g s) b=true∧v = -1)∨(¬ ((nd g s).kind=9∧u (bnd g s) b=true)∧v = -2)))
theorem PickL.one {g:List Gi} {st:Bool} {u:Nat→Nat→Bool} {s b:Nat} {v:Int} (h:PickL g st u s b v):oneB g st u s b = !(v == -2):=by
 unfold oneB
 rcases h with ⟨k,t,rfl,h1,h2,-⟩ | ⟨h1,h2⟩
 ·have e:((mem g b).any fun t=>doesB g st u s t)=true:=List.any_eq_true.2 ⟨t,List.mem_of_getElem? h1,h2⟩
  rw [e,Bool.true_or]
  have:((k:Int) == -2)=false:=by rw [beq_eq_false_iff_ne];omega
  rw [this];rfl
 ·have e:((mem g b).any fun t=>doesB g st u s t)=false:=by
   rw [List.any_eq_false]
   intro t ht
   obtain ⟨j,hj⟩:=List.getElem?_of_mem ht
   rw [h1 j t hj];decide
  rw [e,Bool.false_or]
  rcases h2 with ⟨h3,h4,rfl⟩ | ⟨h3,rfl⟩
  ·rw [h3,h4];rfl
  ·cases hu:u (bnd g s) b
   ·simp
   ·have:(nd g s).kind≠9:=fun e=>h3 ⟨e,hu⟩
    simp [this]
set_option maxRecDepth 100000 in
set_option maxHeartbeats 8000000 in
theorem r8_pick (g:List Gi) (hf:Fine g) (st:Bool) (s b n:Nat) (u:Nat→Nat→Bool) (pb:Nat) (GA RA:Option Addr) (gc rc:Nat) (q:Nat→Nat) (w:World) (hn:g.length=n) (hs:s<n) (hb:b<n) (h8:(nd g s).kind≠8)
  (hp:P8 w pb n GA gc st RA rc) (hm:Mz w n u RA q) (hg:GsR w GA g) :
  Calls Tryz.prog 40 #[.pointer (some ⟨pb,0,none⟩),.int .i64 (s:Int),.int .i64 (b:Int)] w fun r w'=>∃ v,r = .returned (.int .i64 v)∧PickL g st u s b v∧Below w.heap.size w w':=by
 obtain ⟨gb,go_,rfl,-⟩:=hg.at_ (i:=s) (x:=nd g s) (by unfold CM.nd;rw [List.getD_eq_getElem?_getD,List.getElem?_eq_getElem (by omega)];rfl)
 have hnb:(n:Int)≤2000:=by have:=hf.len;omega
 have C1:=r6_members (some ⟨gb,go_,none⟩) gc g (b:Int) w (by omega) hg (short_of hf)
 rw [hn] at C1
 have hsn:(s:Int)<(n:Int):=by omega
 have p0:=hp.c0
 have HF:=hid hf
 have HN:=hid hn
 have HSN:=hid hs
 have HBN:=hid hb
 have H8:=hid h8
 have HP:=hid hp
 have HM:=hid hm
 have HG:=hid hg
 clear hf hn hs hb h8 hp hm hg
 go_enter Tryz.func40,Tryz.ntmps40
 go_wp2_with fail
 refine C1.mono ?_
 rintro r w2 ⟨v1,rfl,ho1,hb1⟩
 obtain ⟨YA,yc,rfl,-,-,hy⟩:=ho1.rd
 have hly:(memI g (b:Int)).length=(mem g b).length:=by rw [memI_mem HF.out (by rw [HN.out];exact HBN.out),List.length_map]
 obtain ⟨my,hmy⟩:∃ my,(mem g b).length=my:=⟨_,rfl⟩
 rw [hly,hmy]
 have hmyb:(my:Int)≤2000:=by have:=mem_len HF.out (b:=b) (by rw [HN.out];exact HBN.out);omega
 have HMY:=hid hmy
 have HY:=hid hy
 have HB2:=hid hb1
 have HG2:=hid (HG.out.below hb1)
 have HM2:=hid (HM.out.below hb1)
 have HP2:=hid (HP.out.below hb1)
 clear C1 ho1 hy hb1 hly hmy HM HG HP p0
 go_wp2_with fail
 go_loopw [8] (fun u8 wr=>∃ k:Nat,k≤my∧u8 = .int .i64 (k:Int)∧Hid (Below w2.heap.size w2 wr)∧Hid (∀ (j t':Nat),j<k→(mem g b)[j]? = some t'→doesB g st u s t'=false)) (fun u8 _=>my - (intOf u8).toNat)
 case atStart=>exact ⟨0,Nat.zero_le _,rfl,hid (Below.refl _ _),hid (fun i s hi=>by omega)⟩
 case round =>
  obtain ⟨k,hk,rfl,HB,HNO⟩:=hrel
  obtain ⟨ws,rfl⟩:∃ ws,ws=wr:=⟨_,rfl⟩
  have hp2:=HP2.out.below HB.out
  have p0:=hp2.c0
  have p2:=hp2.c2
  obtain ⟨gb1,go1,hA1,hgn1⟩:=(HG2.out.below HB.out).at_ (i:=s) (x:=nd g s) (by unfold CM.nd;rw [List.getD_eq_getElem?_getD,List.getElem?_eq_getElem (by have:=HN.out;have:=HSN.out;omega)];rfl)
  injection hA1 with hA1
  injection hA1 with e1 e2
  subst e1 e2
  obtain ⟨SV,sc,SP,sp,g0,g1,g2,g3,g4,r1,r2,-,-,-,-⟩:=hgn1
  clear hp2
  by_cases hlt:k<my
  ·have hkI:(k:Int)<(my:Int):=by omega
   obtain ⟨t,ht⟩:∃ t,(mem g b)[k]? = some t:=⟨_,List.getElem?_eq_getElem (by have:=HMY.out;omega)⟩
   have htl:t<n:=by rw [← HN.out];exact HF.out.mem_lt (by rw [HN.out];exact HBN.out) (List.mem_of_getElem? ht)
   obtain ⟨yb,yo,hYA,c0⟩:=rd_intG (HY.out.below HB.out) (memI_at HF.out (by rw [HN.out];exact HBN.out) ht)
   obtain ⟨gb1,go1,hA2,hgn2⟩:=(HG2.out.below HB.out).at_ (i:=t) (x:=nd g t) (by unfold CM.nd;rw [List.getD_eq_getElem?_getD,List.getElem?_eq_getElem (by have:=HN.out;omega)];rfl)
   injection hA2 with hA2
   injection hA2 with e1 e2
   subst e1 e2
   obtain ⟨TV,tc,TP,tp,k0,k1,k2,k3,k4,r3,r4,-,-,-,-⟩:=hgn2
   have hti:(t:Int)<(n:Int):=by omega
   have hdr:Below ws.heap.size ws ws.drew:=⟨rfl,rfl,rfl,Nat.le_refl _,fun _ _=>rfl⟩
   have C3:=r8_does g HF.out st s t n u pb (some ⟨gb,go_,none⟩) RA gc rc q SV SP TV TP sc sp tc tp ws.drew HN.out HSN.out htl H8.out ((HP2.out.below HB.out).below hdr) ((HM2.out.below HB.out).below hdr) (r1.below hdr) (r2.below hdr) (r3.below hdr) (r4.below hdr)
   unfold gnA at C3
   obtain ⟨D,hD⟩:∃ D,doesB g st u s t=D:=⟨_,rfl⟩
   rw [hD] at C3
   have HD:=hid hD
   have HT:=hid ht
   have HYY:=hid hYA
   rw [HYY.out]
   clear hD ht htl hdr r1 r2 r3 r4 hYA
   go_upto_region 5 with (fail)
   have hS:Below ws.heap.size ws ws.drew:=⟨rfl,rfl,rfl,Nat.le_refl _,fun _ _=>rfl⟩
   refine K_start 100 (fun u=>Below ws.heap.size ws u) (by kernel_rfl) ?_
   refine K_pure (i:=0) (v:=?_) (by simp only [List.getElem?_toArray,List.getElem?_cons_succ,List.getElem?_cons_zero];exact rfl) (by kernel_rfl) (by kernel_rfl) (by kernel_rfl) (by decide) (by exact fun _ _ _ h=>h) (fun _=>hS) (by rfl) ?_ ?_
   rotate_left
   ·intro uu
    go_simp
    try with_reducible rfl
   simp only [Act.put,List.setIfInBounds_toArray,List.set_cons_zero,List.set_cons_succ]
   refine K_pure (i:=1) (v:=?_) (by simp only [List.getElem?_toArray,List.getElem?_cons_succ,List.getElem?_cons_zero];exact rfl) (by kernel_rfl) (by kernel_rfl) (by kernel_rfl) (by decide) (by exact fun _ _ _ h=>h) (fun _=>hS) (by rfl) ?_ ?_
   rotate_left
   ·intro uu
    go_simp
    try with_reducible rfl
   simp only [Act.put,List.setIfInBounds_toArray,List.set_cons_zero,List.set_cons_succ]
   refine K_pure (i:=2) (v:=?_) (by simp only [List.getElem?_toArray,List.getElem?_cons_succ,List.getElem?_cons_zero];exact rfl) (by kernel_rfl) (by kernel_rfl) (by kernel_rfl) (by decide) (by exact fun _ _ _ h=>h) (fun _=>hS) (by rfl) ?_ ?_
   rotate_left
   ·intro uu
    go_simp
    try with_reducible rfl
   simp only [Act.put,List.setIfInBounds_toArray,List.set_cons_zero,List.set_cons_succ]
   refine K_pure (i:=3) (v:=?_) (by simp only [List.getElem?_toArray,List.getElem?_cons_succ,List.getElem?_cons_zero];exact rfl) (by kernel_rfl) (by kernel_rfl) (by kernel_rfl) (by decide) (by exact fun _ _ _ h=>h) (fun _=>hS) (by rfl) ?_ ?_
   rotate_left
   ·intro uu
    go_simp
    try with_reducible rfl
   simp only [Act.put,List.setIfInBounds_toArray,List.set_cons_zero,List.set_cons_succ]
   refine K_takeA (i:=4) (v:=?_) (by simp only [List.getElem?_toArray,List.getElem?_cons_succ,List.getElem?_cons_zero];exact rfl) (by kernel_rfl) (by kernel_rfl) (by kernel_rfl) (of_decide_eq_true (by kernel_rfl)) (by kernel_rfl) (by exact fun _ _ _ h=>h) hS (by rfl) ?_ ?_
   rotate_left
   ·intro uu hu
    have p0_:=cell_below hu p0
    go_simp
    try with_reducible rfl
   simp only [Act.put,List.setIfInBounds_toArray,List.set_cons_zero,List.set_cons_succ]
   refine K_pure (i:=5) (v:=?_) (by simp only [List.getElem?_toArray,List.getElem?_cons_succ,List.getElem?_cons_zero];exact rfl) (by kernel_rfl) (by kernel_rfl) (by kernel_rfl) (by decide) (by exact fun _ _ _ h=>h) (fun _=>hS) (by rfl) ?_ ?_
   rotate_left
   ·intro uu
    go_simp
    try with_reducible rfl
   simp only [Act.put,List.setIfInBounds_toArray,List.set_cons_zero,List.set_cons_succ]
   refine K_pure (i:=6) (v:=?_) (by simp only [List.getElem?_toArray,List.getElem?_cons_succ,List.getElem?_cons_zero];exact rfl) (by kernel_rfl) (by kernel_rfl) (by kernel_rfl) (by decide) (by exact fun _ _ _ h=>h) (fun _=>hS) (by rfl) ?_ ?_
   rotate_left
   ·intro uu
    go_simp
    try with_reducible rfl
   simp only [Act.put,List.setIfInBounds_toArray,List.set_cons_zero,List.set_cons_succ]
   refine K_takeA (i:=7) (v:=?_) (by simp only [List.getElem?_toArray,List.getElem?_cons_succ,List.getElem?_cons_zero];exact rfl) (by kernel_rfl) (by kernel_rfl) (by kernel_rfl) (of_decide_eq_true (by kernel_rfl)) (by kernel_rfl) (by exact fun _ _ _ h=>h) hS (by rfl) ?_ ?_
   rotate_left
   ·intro uu hu
    have g0_:=cell_below hu g0
    have g1_:=cell_below hu g1
    have g2_:=cell_below hu g2
    have g3_:=cell_below hu g3
    have g4_:=cell_below hu g4
    go_simp
    try with_reducible rfl
   simp only [Act.put,List.setIfInBounds_toArray,List.set_cons_zero,List.set_cons_succ]
   refine K_pure (i:=8) (v:=?_) (by simp only [List.getElem?_toArray,List.getElem?_cons_succ,List.getElem?_cons_zero];exact rfl) (by kernel_rfl) (by kernel_rfl) (by kernel_rfl) (by decide) (by exact fun _ _ _ h=>h) (fun _=>hS) (by rfl) ?_ ?_
   rotate_left
   ·intro uu
    go_simp
    try with_reducible rfl
   simp only [Act.put,List.setIfInBounds_toArray,List.set_cons_zero,List.set_cons_succ]
   refine K_pure (i:=9) (v:=?_) (by simp only [List.getElem?_toArray,List.getElem?_cons_succ,List.getElem?_cons_zero];exact rfl) (by kernel_rfl) (by kernel_rfl) (by kernel_rfl) (by decide) (by exact fun _ _ _ h=>h) (fun _=>hS) (by rfl) ?_ ?_
   rotate_left
   ·intro uu
    go_simp
    try with_reducible rfl
   simp only [Act.put,List.setIfInBounds_toArray,List.set_cons_zero,List.set_cons_succ]
   refine K_pure (i:=10) (v:=?_) (by simp only [List.getElem?_toArray,List.getElem?_cons_succ,List.getElem?_cons_zero];exact rfl) (by kernel_rfl) (by kernel_rfl) (by kernel_rfl) (by decide) (by exact fun _ _ _ h=>h) (fun _=>hS) (by rfl) ?_ ?_
   rotate_left
   ·intro uu
    go_simp
    try with_reducible rfl
   simp only [Act.put,List.setIfInBounds_toArray,List.set_cons_zero,List.set_cons_succ]
   refine K_takeA (i:=11) (v:=?_) (by simp only [List.getElem?_toArray,List.getElem?_cons_succ,List.getElem?_cons_zero];exact rfl) (by kernel_rfl) (by kernel_rfl) (by kernel_rfl) (of_decide_eq_true (by kernel_rfl)) (by kernel_rfl) (by exact fun _ _ _ h=>h) hS (by rfl) ?_ ?_
   rotate_left
   ·intro uu hu
    have p0_:=cell_below hu p0
    go_simp
    try with_reducible rfl
   simp only [Act.put,List.setIfInBounds_toArray,List.set_cons_zero,List.set_cons_succ]
   refine K_pure (i:=12) (v:=?_) (by simp only [List.getElem?_toArray,List.getElem?_cons_succ,List.getElem?_cons_zero];exact rfl) (by kernel_rfl) (by kernel_rfl) (by kernel_rfl) (by decide) (by exact fun _ _ _ h=>h) (fun _=>hS) (by rfl) ?_ ?_
   rotate_left
   ·intro uu
    go_simp
    try with_reducible rfl
   simp only [Act.put,List.setIfInBounds_toArray,List.set_cons_zero,List.set_cons_succ]
   refine K_pure (i:=13) (v:=?_) (by simp only [List.getElem?_toArray,List.getElem?_cons_succ,List.getElem?_cons_zero];exact rfl) (by kernel_rfl) (by kernel_rfl) (by kernel_rfl) (by decide) (by exact fun _ _ _ h=>h) (fun _=>hS) (by rfl) ?_ ?_
   rotate_left
   ·intro uu
    go_simp
    try with_reducible rfl
   simp only [Act.put,List.setIfInBounds_toArray,List.set_cons_zero,List.set_cons_succ]
   refine K_pure (i:=14) (v:=?_) (by simp only [List.getElem?_toArray,List.getElem?_cons_succ,List.getElem?_cons_zero];exact rfl) (by kernel_rfl) (by kernel_rfl) (by kernel_rfl) (by decide) (by exact fun _ _ _ h=>h) (fun _=>hS) (by rfl) ?_ ?_
   rotate_left
   ·intro uu
    go_simp
    try with_reducible rfl
   simp only [Act.put,List.setIfInBounds_toArray,List.set_cons_zero,List.set_cons_succ]
   refine K_takeA (i:=15) (v:=?_) (by simp only [List.getElem?_toArray,List.getElem?_cons_succ,List.getElem?_cons_zero];exact rfl) (by kernel_rfl) (by kernel_rfl) (by kernel_rfl) (of_decide_eq_true (by kernel_rfl)) (by kernel_rfl) (by exact fun _ _ _ h=>h) hS (by rfl) ?_ ?_
   rotate_left
   ·intro uu hu
    have c0_:=cell_below hu c0
    go_simp
    try with_reducible rfl
   simp only [Act.put,List.setIfInBounds_toArray,List.set_cons_zero,List.set_cons_succ]
   refine K_pure (i:=16) (v:=?_) (by simp only [List.getElem?_toArray,List.getElem?_cons_succ,List.getElem?_cons_zero];exact rfl) (by kernel_rfl) (by kernel_rfl) (by kernel_rfl) (by decide) (by exact fun _ _ _ h=>h) (fun _=>hS) (by rfl) ?_ ?_
   rotate_left
   ·intro uu
    go_simp
    try with_reducible rfl
   simp only [Act.put,List.setIfInBounds_toArray,List.set_cons_zero,List.set_cons_succ]
   refine K_takeA (i:=17) (v:=?_) (by simp only [List.getElem?_toArray,List.getElem?_cons_succ,List.getElem?_cons_zero];exact rfl) (by kernel_rfl) (by kernel_rfl) (by kernel_rfl) (of_decide_eq_true (by kernel_rfl)) (by kernel_rfl) (by exact fun _ _ _ h=>h) hS (by rfl) ?_ ?_
   rotate_left
   ·intro uu hu
    have k0_:=cell_below hu k0
    have k1_:=cell_below hu k1
    have k2_:=cell_below hu k2
    have k3_:=cell_below hu k3
    have k4_:=cell_below hu k4
    go_simp
    try with_reducible rfl
   simp only [Act.put,List.setIfInBounds_toArray,List.set_cons_zero,List.set_cons_succ]
   refine K_one (i:=18) (by kernel_rfl) rfl (fun K hK=>?_)
   go_simp
   go_at_call 65
   refine C3.mono ?_
   rintro e w5 ⟨rfl,hb5⟩
   have hS_w5:Below ws.heap.size ws w5:=hS.trans (hb5.mono hS.size)
   refine hK _ _ (fun _=>hS_w5) ?_
   clear hK K hS hb5
   have hS:=hS_w5
   clear hS_w5
   refine K_done (by kernel_rfl) ?_
   have HB5:=hid (HB.out.trans (hS.mono HB.out.size))
   have HBF:=hid (HB2.out.trans (HB5.out.mono HB2.out.size))
   clear hS C3 g0 g1 g2 g3 g4 k0 k1 k2 k3 k4 c0 p0 p2
   cases D
   ·have HNO2:Hid (∀ (j t':Nat),j<k+1→(mem g b)[j]? = some t'→doesB g st u s t'=false):=hid fun j t' hj ht'=>by
     by_cases e:j=k
     ·rw [e,HT.out] at ht'
      injection ht' with ht'
      rw [← ht'];exact HD.out
     ·exact HNO.out j t' (by omega) ht'
    go_wp2_with fail
    go_roundw
    case rel=>exact ⟨k+1,by omega,by go_num,HB5,HNO2⟩
    case measure=>simp [intOf];omega
   ·have HPL:Hid (PickL g st u s b (k:Int)):=hid (.inl ⟨k,t,rfl,HT.out,HD.out,HNO.out⟩)
    go_wp2_with fail
    go_ret
    exact ⟨_,rfl,HPL.out,HBF.out⟩
  ·have hkI:¬ ((k:Int)<(my:Int)):=by omega
   have HALL:Hid (∀ (j t':Nat),(mem g b)[j]? = some t'→doesB g st u s t'=false):=hid fun j t' ht'=>HNO.out j t' (by have:=(List.getElem?_eq_some_iff.1 ht').1;have:=HMY.out;omega) ht'
   have HBF:=hid (HB2.out.trans (HB.out.mono HB2.out.size))
   obtain ⟨ks,hks⟩:∃ ks,(nd g s).kind=ks:=⟨_,rfl⟩
   have HKS:=hid hks
   rw [hks] at g0
   clear hks r1 g1 g2 g3
   by_cases h9:ks=9
   ·have h99:(nd g s).kind=9:=by rw [HKS.out];exact h9
    have l1:(nd g s).l.length=1:=by rw [← kids_len];exact HF.out.var s (by rw [HN.out];exact HSN.out) h99
    obtain ⟨a1,o1,hA1,c1,d1⟩:=kids_get (n:=n) r2 (fun c hc=>by rw [← HN.out];exact HF.out.kid s (by rw [HN.out];exact HSN.out) c hc) (HF.out.kidI s (by rw [HN.out];exact HSN.out)) (i:=0) (by omega)
    have hx:(kids (nd g s)).getD 0 0=bnd g s:=rfl
    rw [hx] at c1 d1
    have m0:=HM2.out.below HB.out
    obtain ⟨rb,hRA,m1⟩:=m0.rows (bnd g s) d1
    have m2:=m0.d d1 HBN.out
    obtain ⟨x,hx2⟩:∃ x,bnd g s=x:=⟨_,rfl⟩
    rw [hx2] at c1 d1 m1 m2
    rw [l1,hA1] at g4
    rw [hRA] at p2
    have hxn:(x:Int)<(n:Int):=by omega
    have hbn:(b:Int)<(n:Int):=by have:=HBN.out;omega
    simp only [Nat.add_zero] at c1
    obtain ⟨v,hv⟩:∃ v,u x b=v:=⟨_,rfl⟩
    rw [hv] at m2
    have HX:=hid (And.intro hx2 hv)
    have H99:=hid h99
    clear hx hx2 hv l1 hRA hA1 m0 d1 h99 r2
    subst h9
    cases v
    ·have HPL:Hid (PickL g st u s b (-2)):=hid (.inr ⟨HALL.out,.inr ⟨(fun h=>by have h1:=h.2;rw [HX.out.1,HX.out.2] at h1;cases h1),rfl⟩⟩)
     go_wp2_with fail
     go_quiet (fail)
     go_wp2_with fail
     go_ret
     exact ⟨_,rfl,HPL.out,bel_drewN HBF.out nq⟩
    ·have HPL:Hid (PickL g st u s b (-1)):=hid (.inr ⟨HALL.out,.inl ⟨H99.out,by rw [HX.out.1,HX.out.2],rfl⟩⟩)
     go_wp2_with fail
     go_quiet (fail)
     go_wp2_with fail
     go_ret
     exact ⟨_,rfl,HPL.out,bel_drewN HBF.out nq⟩
   ·have b9:(ks == 9)=false:=by simp [h9]
    have HPL:Hid (PickL g st u s b (-2)):=hid (.inr ⟨HALL.out,.inr ⟨fun h=>h9 (by rw [← HKS.out];exact h.1),rfl⟩⟩)
    clear h9 r2 g4 p2
    go_wp2_with fail
    go_quiet (fail)
    go_wp2_with fail
    go_ret
    exact ⟨_,rfl,HPL.out,bel_drewN HBF.out nq⟩
end SM
end
section
open Lib (hid)
open Go.RowKit
namespace SM
open CM (nd kids)
set_option maxRecDepth 100000 in
set_option maxHeartbeats 8000000 in
theorem r8_stands (g:List Gi) (hf:Fine g) (st:Bool) (a b n:Nat) (u:Nat→Nat→Bool) (pb:Nat) (GA RA:Option Addr) (gc rc:Nat) (q:Nat→Nat) (w:World) (hn:g.length=n) (ha:a<n) (hb:b<n)
  (hp:P8 w pb n GA gc st RA rc) (hm:Mz w n u RA q) (hg:GsR w GA g) :
  Calls Tryz.prog 59 #[.pointer (some ⟨pb,0,none⟩),.int .i64 (a:Int),.int .i64 (b:Int)] w fun r w'=>r = .returned (.bool (holdsB g st u a b))∧Below w.heap.size w w':=by
 have hnb:(n:Int)≤2000:=by have:=hf.len;omega
 have C1:=r6_members GA gc g (a:Int) w (by omega) hg (short_of hf)
 rw [hn] at C1
 have p0:=hp.c0
 have HF:=hid hf
 have HN:=hid hn
 have HAN:=hid ha
 have HBN:=hid hb
 have HP:=hid hp
 have HM:=hid hm
 have HG:=hid hg
 clear hf hn ha hb hp hm hg
 go_enter Tryz.func59,Tryz.ntmps59
 go_wp2_with fail
 refine C1.mono ?_
 rintro r w2 ⟨v1,rfl,ho1,hb1⟩
 obtain ⟨YA,yc,rfl,-,-,hy⟩:=ho1.rd
 have hly:(memI g (a:Int)).length=(mem g a).length:=by rw [memI_mem HF.out (by rw [HN.out];exact HAN.out),List.length_map]
 obtain ⟨my,hmy⟩:∃ my,(mem g a).length=my:=⟨_,rfl⟩
 rw [hly,hmy]
 have hmyb:(my:Int)≤2000:=by have:=mem_len HF.out (b:=a) (by rw [HN.out];exact HAN.out);omega
 have HMY:=hid hmy
 have HY:=hid hy
 have HB2:=hid hb1
 have HG2:=hid (HG.out.below hb1)
 have HM2:=hid (HM.out.below hb1)
 have HP2:=hid (HP.out.below hb1)
 clear C1 ho1 hy hb1 hly hmy HM HG HP p0
 go_wp2_with fail
 go_loopw [8] (fun u8 wr=>∃ k:Nat,k≤my∧u8 = .int .i64 (k:Int)∧Hid (Below w2.heap.size w2 wr)∧Hid (∀ (i s:Nat),i<k→(mem g a)[i]? = some s→oneB g st u s b=true)) (fun u8 _=>my - (intOf u8).toNat)
 case atStart=>exact ⟨0,Nat.zero_le _,rfl,hid (Below.refl _ _),hid (fun i s hi=>by omega)⟩
 case round =>
  obtain ⟨k,hk,rfl,HB,HD⟩:=hrel
  obtain ⟨ws,rfl⟩:∃ ws,ws=wr:=⟨_,rfl⟩
  by_cases hlt:k<my
  ·have hkI:(k:Int)<(my:Int):=by omega
   obtain ⟨s,hs⟩:∃ s,(mem g a)[k]? = some s:=⟨_,List.getElem?_eq_getElem (by have:=HMY.out;omega)⟩
   have hsl:s<n:=by rw [← HN.out];exact HF.out.mem_lt (by rw [HN.out];exact HAN.out) (List.mem_of_getElem? hs)
   have hs8:=HF.out.mem_kind (by rw [HN.out];exact HAN.out) (List.mem_of_getElem? hs)
   obtain ⟨yb,yo,hYA,c0⟩:=rd_intG (HY.out.below HB.out) (memI_at HF.out (by rw [HN.out];exact HAN.out) hs)
   have C:=r8_pick g HF.out st s b n u pb GA RA gc rc q ws HN.out hsl HBN.out hs8 (HP2.out.below HB.out) (HM2.out.below HB.out) (HG2.out.below HB.out)
   have HS:=hid hs
   have HYY:=hid hYA
   rw [HYY.out]
   clear hs hsl hs8 hYA
   go_wp2_with fail
   refine C.mono ?_
   rintro r w5 ⟨v,rfl,hpl,hb5⟩
   have HONE:=hid hpl.one
   have HB5:=hid (HB.out.trans (hb5.mono HB.out.size))
   have HBF:=hid (HB2.out.trans (HB5.out.mono HB2.out.size))
   clear C hpl hb5 c0
   obtain ⟨f,hf⟩:∃ f,(v == -2)=f:=⟨_,rfl⟩
   have HFF:=hid hf
   cases f
   ·have HD2:Hid (∀ (i s:Nat),i<k+1→(mem g a)[i]? = some s→oneB g st u s b=true):=hid fun i s2 hi hs2=>by
     by_cases e:i=k
     ·rw [e,HS.out] at hs2
      injection hs2 with hs2
      rw [← hs2,HONE.out,HFF.out];rfl
     ·exact HD.out i s2 (by omega) hs2
    go_wp2_with fail
    go_roundw
    case rel=>exact ⟨k+1,by omega,by go_num,HB5,HD2⟩
    case measure=>simp [intOf];omega
   ·have HNO:Hid (holdsB g st u a b=false):=hid (holds_no HS.out (by rw [HONE.out,HFF.out];rfl))
    go_wp2_with fail
    go_ret
    exact ⟨by rw [HNO.out];rfl,HBF.out⟩
  ·have hkI:¬ ((k:Int)<(my:Int)):=by omega
   have HYES:Hid (holdsB g st u a b=true):=hid (holds_all fun i s hs=>HD.out i s (by have:=(List.getElem?_eq_some_iff.1 hs).1;have:=HMY.out;omega) hs)
   have HBF:=hid (HB2.out.trans (HB.out.mono HB2.out.size))
   go_wp2_with fail
   go_ret
   exact ⟨by rw [HYES.out];rfl,HBF.out⟩
end SM
end
section
open Go.RowKit
namespace SM
open CM (nd kids)
theorem info_boolsR:(Tryz.prog.info? 29).map (fun i=>(i.zero,i.size,i.bytes))=some (some (.slice none 0 0),1,24):=by kernel_rfl
def rowsV (q:Nat→Nat) (n i:Nat):List Value:=(List.range i).map fun j => .slice (some ⟨q j,0,none⟩) n n
theorem rowsV_get {q:Nat→Nat} {n i j:Nat} (h:j<i):(rowsV q n i)[j]? = some (.slice (some ⟨q j,0,none⟩) n n):=by
 unfold rowsV
 rw [List.getElem?_map,List.getElem?_range h];rfl
theorem rowsV_next (q:Nat→Nat) (n i rb:Nat):rowsV (fun j=>if j=i then rb else q j) n (i+1)=rowsV q n i++[.slice (some ⟨rb,0,none⟩) n n]:=by
 unfold rowsV
 rw [List.range_succ,List.map_append]
 congr 1
 ·refine List.map_congr_left fun j hj=>?_
  have:=List.mem_range.1 hj
  dsimp only
  rw [if_neg (by omega)]
 ·simp
theorem own1 {w:World} {base n:Nat} {t:TypeId} {v:Value} {xs:List Value} (h:w.ownsRow base t 1 v n xs) :
  ∃ A c,v = .slice A n c∧(0<n→∃ b cur,A=some ⟨b,0,none⟩∧v.ownBlock=some b∧base≤b∧Blk w b t cur∧∀ (j:Nat) u,xs[j]? = some u→cur[j]? = some u):=by
 rcases h.2 with ⟨rfl,h0⟩ | ⟨g,cap,cur,rfl,hb,hg,hn,hm,hcs,hr⟩
 ·exact ⟨none,0,by rw [h0],fun hn=>by omega⟩
 ·refine ⟨_,cap,rfl,fun _=>⟨g,cur,rfl,rfl,hb,hg,fun j u hj=>?_⟩⟩
  rw [← hr] at hj
  rw [List.getElem?_take] at hj
  split at hj
  ·rw [← Array.getElem?_toList];exact hj
  ·cases hj
set_option maxRecDepth 100000 in
theorem wpList_pushR (w:World) {ops:Array Oper} {rest:List Oper} {o:Oper} {a:Go.Act} {Q:Exit→Go.Act→World→Prop} (hgd:o.guard=none) (s x:Operand)
  (hop:o.op=Op.call { callee:=Callee.builtin Builtin.append,args := #[s,x],argTypes := #[24,24] })
  (base:Nat) (v:Value) (q:Nat→Nat) (n i rb eb:Nat) (hs:a.eval s=v) (hown:w.ownsRow base 29 1 v i (rowsV q n i)) (hx:a.eval x = .slice (some ⟨eb,0,none⟩) 1 1) (hc:w.cell? ⟨eb,0,none⟩=some (.slice (some ⟨rb,0,none⟩) n n)) (hlen:i≤1000000) (hbase:base≤w.heap.size)
  (h:∀ v' w',w'.ownsRow base 29 1 v' (i+1) (rowsV (fun j=>if j=i then rb else q j) n (i+1))→w.grownBy w' v.ownBlock→(v'.ownBlock=v.ownBlock∨v'.ownBlock=some w.heap.size)→wpList Tryz.prog ops Q rest (a.put o.dst v') w'):wpList Tryz.prog ops Q (o :: rest) a w:=by
 obtain ⟨i0,hi,hz0,hz1,hz2⟩:=info_parts info_boolsR
 refine wpList_append_own_at w hgd s x 24 hop base 29 i0 (.slice none 0 0) 1 24 Tryz.underlying24 hi hz0 hz1 hz2 rfl (by decide) v i (rowsV q n i) hs hown ⟨eb,0,none⟩ 1 1 [.slice (some ⟨rb,0,none⟩) n n] hx rfl ?_ ?_ (by unfold maxLen;omega) (by omega) hbase ?_
 ·intro j u hj
  have hj0:j=0:=by have:=(List.getElem?_eq_some_iff.1 hj).1;simp at this;omega
  subst hj0
  simp at hj
  subst hj
  exact hc
 ·intro u hu
  rw [List.mem_singleton] at hu
  subst hu;rfl
 ·intro v' w' h1 h2 _ h4
  refine h v' w' ?_ h2 h4
  rw [rowsV_next]
  exact h1
structure Bd (w0:World) (B n:Nat) (GA:Option Addr) (gc:Nat) (st:Bool) (pb i:Nat) (RV:Value) (q:Nat→Nat) (w:World):Prop where
 bel:Below B w0 w
 pB:B≤pb
 pr:Blk w pb 55 #[.slice GA n gc,.bool st,RV]
 own:w.ownsRow (pb+1) 29 1 RV i (rowsV q n i)
 row:∀ j,j<i→pb<q j∧q j<w.heap.size∧RV.ownBlock≠some (q j)∧Blk w (q j) 4 (vals (fun _ => .bool true) n)
 ne:∀ j k,j<i→k<i→j≠k→q j≠q k
section
variable {w0 w : World} {B n : Nat} {GA : Option Addr} {gc : Nat} {st : Bool} {pb i : Nat} {RV : Value} {q : Nat → Nat}
theorem Bd.B_le (h:Bd w0 B n GA gc st pb i RV q w):B≤w.heap.size:=by have:=h.pB;have:=h.pr.lt;omega
theorem Bd.below (h:Bd w0 B n GA gc st pb i RV q w) {w':World} (hb:Below w.heap.size w w'):Bd w0 B n GA gc st pb i RV q w':=
 ⟨h.bel.trans (hb.mono h.B_le),h.pB,h.pr.below hb h.pr.lt,own_keptG h.own (Kept.of_below hb (fun _=>False)) (fun _ _ h=>h),fun j hj=>⟨(h.row j hj).1,Nat.lt_of_lt_of_le (h.row j hj).2.1 hb.size,(h.row j hj).2.2.1,(h.row j hj).2.2.2.below hb (h.row j hj).2.2.2.lt⟩,h.ne⟩
theorem Bd.own_lt (h:Bd w0 B n GA gc st pb i RV q w) {k:Nat} (hk:RV.ownBlock=some k):pb<k∧k<w.heap.size:=by have:=own_ltG h.own hk;omega
theorem Bd.next (h:Bd w0 B n GA gc st pb i RV q w) {w1 w2 w3:World} {rb:Nat} {RV':Value} (hrb:w.heap.size=rb) (h1:Below w.heap.size w w1) (hrow:Blk w1 rb 4 (vals (fun _ => .bool true) n)) (h2:Below w1.heap.size w1 w2)
  (hown:w3.ownsRow (pb+1) 29 1 RV' (i+1) (rowsV (fun j=>if j=i then rb else q j) n (i+1))) (hgr:w2.grownBy w3 RV.ownBlock) (hv:RV'.ownBlock=RV.ownBlock∨RV'.ownBlock=some w2.heap.size) :
  Bd w0 B n GA gc st pb (i+1) RV' (fun j=>if j=i then rb else q j) (w3.setCell ⟨pb,2,none⟩ RV'):=by
 have hA:=(h.below h1).below h2
 have hk3:Kept (fun k=>RV.ownBlock=some k) w2 w3:=⟨hgr.os,hgr.tape,hgr.output,hgr.size,fun k hk hn=>hgr.block k hk (fun e=>hn e.symm)⟩
 have hp3:Blk w3 pb 55 #[.slice GA n gc,.bool st,RV]:=hk3.blk hA.pr (fun e=>by have:=h.own_lt e;omega)
 have hsz:(w3.setCell ⟨pb,2,none⟩ RV').heap.size=w3.heap.size:=by simp [World.setCell]
 have hr2:Blk w2 rb 4 (vals (fun _ => .bool true) n):=hrow.below h2 hrow.lt
 have hrbn:¬ RV.ownBlock=some rb:=fun e=>by have:=h.own_lt e;omega
 have hlt1:=hrow.lt
 have hs2:=h2.size
 have hs3:=hgr.size
 have hpw:=h.pr.lt
 have hbel3:Below B w0 w3:=hA.bel.trans (hk3.below hA.B_le (fun k hk e=>by have:=h.own_lt e;have:=h.pB;omega))
 have hvv:∀ k,RV'.ownBlock=some k→RV.ownBlock=some k∨k=w2.heap.size:=fun k hk=>by
  rcases hv with e | e
  ·exact .inl (by rw [← e];exact hk)
  ·rw [e] at hk;injection hk with hk;exact .inr hk.symm
 have hk4:=(Kept.refl (fun k=>k=pb) w3).setCell (p:=⟨pb,2,none⟩) (fun _=>rfl) RV'
 refine ⟨hbel3.setCell (show B≤pb from h.pB) _,h.pB,?_,own_keptG hown hk4 (fun k hk e=>by have:=(own_ltG hown hk).1;omega),fun j hj=>?_,fun j k hj hk hne=>?_⟩
 ·have:=hp3.set_ 2 RV'
  simpa using this
 ·rw [hsz]
  by_cases e:j=i
  ·rw [if_pos e]
   refine ⟨by omega,by omega,fun e'=>?_,(hk3.blk hr2 hrbn).far (p:=⟨pb,2,none⟩) (by show rb≠pb;omega) _⟩
   rcases hvv _ e' with e' | e'
   ·exact hrbn e'
   ·omega
  ·rw [if_neg e]
   obtain ⟨a1,a2,a3,a4⟩:=hA.row j (by omega)
   have a2':=(h.row j (by omega)).2.1
   refine ⟨a1,by omega,fun e'=>?_,(hk3.blk a4 a3).far (p:=⟨pb,2,none⟩) (by show q j≠pb;omega) _⟩
   rcases hvv _ e' with e' | e'
   ·exact a3 e'
   ·omega
 ·by_cases e:j=i
  ·rw [if_pos e,if_neg (by omega)]
   have:=(h.row k (by omega)).2.1
   omega
  ·rw [if_neg e]
   by_cases e':k=i
   ·rw [if_pos e']
    have:=(h.row j (by omega)).2.1
    omega
   ·rw [if_neg e'];exact h.ne j k (by omega) (by omega) hne
end
structure So (w0:World) (B n:Nat) (GA:Option Addr) (gc:Nat) (st:Bool) (pb:Nat) (RA:Option Addr) (rc:Nat) (q:Nat→Nat) (I:Nat→Nat→Bool) (w:World):Prop where
 bel:Below B w0 w
 pB:B≤pb
 pr:P8 w pb n GA gc st RA rc
 rows:∀ i,i<n→∃ rb cur,RA=some ⟨rb,0,none⟩∧(∀ j,j<n→q j≠rb)∧Blk w rb 29 cur∧cur[i]? = some (.slice (some ⟨q i,0,none⟩) n n)
 row:∀ j,j<n→pb<q j∧q j<w.heap.size∧Blk w (q j) 4 (vals (fun b => .bool (I j b)) n)
 ne:∀ j k,j<n→k<n→j≠k→q j≠q k
section
variable {w0 w : World} {B n : Nat} {GA : Option Addr} {gc : Nat} {st : Bool} {pb : Nat} {RV : Value} {RA : Option Addr} {rc : Nat} {q : Nat → Nat} {I : Nat → Nat → Bool}
theorem Bd.so (h:Bd w0 B n GA gc st pb n RV q w):∃ RA rc,RV = .slice RA n rc∧So w0 B n GA gc st pb RA rc q (fun _ _=>true) w:=by
 obtain ⟨RA,rc,rfl,hx⟩:=own1 h.own
 refine ⟨RA,rc,rfl,h.bel,h.pB,h.pr,fun i hi=>?_,fun j hj=>⟨(h.row j hj).1,(h.row j hj).2.1,(h.row j hj).2.2.2⟩,h.ne⟩
 obtain ⟨b,cur,hA,ho,-,hb,hc⟩:=hx (by omega)
 exact ⟨b,cur,hA,fun j hj e=>(h.row j hj).2.2.1 (by rw [e];exact ho),hb,hc i _ (rowsV_get hi)⟩
theorem So.mz (h:So w0 B n GA gc st pb RA rc q I w):Mz w n I RA q:=
 ⟨fun i hi=>by obtain ⟨rb,cur,hA,-,hb,hc⟩:=h.rows i hi;exact ⟨rb,hA,(hb.cell i).trans hc⟩,fun j hj=>(h.row j hj).2.2⟩
theorem So.B_le (h:So w0 B n GA gc st pb RA rc q I w):B≤w.heap.size:=by have:=h.pB;have:=Blk.lt h.pr;omega
theorem So.below (h:So w0 B n GA gc st pb RA rc q I w) {w':World} (hb:Below w.heap.size w w'):So w0 B n GA gc st pb RA rc q I w':=
 ⟨h.bel.trans (hb.mono h.B_le),h.pB,h.pr.below hb,fun i hi=>by obtain ⟨rb,cur,hA,hn,hbk,hc⟩:=h.rows i hi;exact ⟨rb,cur,hA,hn,hbk.below hb hbk.lt,hc⟩,fun j hj=>⟨(h.row j hj).1,Nat.lt_of_lt_of_le (h.row j hj).2.1 hb.size,(h.row j hj).2.2.below hb (h.row j hj).2.2.lt⟩,h.ne⟩
theorem So.put (h:So w0 B n GA gc st pb RA rc q I w) {i k:Nat} (hi:i<n) (v:Bool):So w0 B n GA gc st pb RA rc q (fun x y=>if x=i∧y=k then v else I x y) (w.setCell ⟨q i,k,none⟩ (.bool v)):=by
 obtain ⟨r1,r2,r3⟩:=h.row i hi
 have hsz:(w.setCell ⟨q i,k,none⟩ (.bool v)).heap.size=w.heap.size:=by simp [World.setCell]
 refine ⟨h.bel.setCell (show B≤q i by have:=h.pB;omega) _,h.pB,Blk.far h.pr (p:=⟨q i,k,none⟩) (by show pb≠q i;omega) _,fun j hj=>?_,fun j hj=>?_,h.ne⟩
 ·obtain ⟨rb,cur,hA,hn,hbk,hc⟩:=h.rows j hj
  exact ⟨rb,cur,hA,hn,hbk.far (p:=⟨q i,k,none⟩) (fun e=>hn i hi e.symm) _,hc⟩
 ·obtain ⟨a1,a2,a3⟩:=h.row j hj
  refine ⟨a1,by rw [hsz];exact a2,?_⟩
  by_cases e:j=i
  ·subst e
   have:=a3.set_ k (.bool v)
   rw [vals_set] at this
   have e:(fun b=>if b=k then Value.bool v else .bool (I j b))=fun b => .bool (if j=j∧b=k then v else I j b):=by
    funext b
    by_cases e:b=k
    ·rw [if_pos e,if_pos ⟨rfl,e⟩]
    ·rw [if_neg e,if_neg (fun c=>e c.2)]
   rw [← e];exact this
  ·have e1:(fun b=>Value.bool (if j=i∧b=k then v else I j b))=fun b => .bool (I j b):=by
    funext b;rw [if_neg (fun c=>e c.1)]
   rw [e1]
   exact a3.far (p:=⟨q i,k,none⟩) (h.ne j i hj hi e) _
theorem So.rdB (h:So w0 B n GA gc st pb RA rc q I w) {x y:Nat} (hx:x<n) (hy:y<n):readB w (q x) y=I x y:=by
 unfold SM.readB
 rw [h.mz.d hx hy]
theorem So.count (h:So w0 B n GA gc st pb RA rc q I w):sumP n (fun x y=>readB w (q x) y)=sumP n I:=sumP_congr fun x y hx hy=>h.rdB hx hy
end
def isT8 (v:Value):Nat:=match v with | .bool true=>1 | _=>0
end SM
end
section
open Lib (hid)
open Go.RowKit
namespace SM
open CM (nd kids)
structure Of8 (g:List Gi) (st:Bool) (n:Nat) (GA:Option Addr) (gc:Nat) (w w':World) (pb:Nat) (RA:Option Addr) (rc:Nat) (q:Nat→Nat) (u:Nat→Nat→Bool):Prop where
 pr:P8 w' pb n GA gc st RA rc
 mz:Mz w' n u RA q
 gr:∀ a b,a<n→b<n→(u a b=true↔Gr g st a b)
 bel:Below w.heap.size w w'
def Of8Out (g:List Gi) (st:Bool) (n:Nat) (GA:Option Addr) (gc:Nat) (w:World) (r:Ending) (w':World):Prop:=∃ pb RA rc q u,r = .returned (.pointer (some ⟨pb,0,none⟩))∧Of8 g st n GA gc w w' pb RA rc q u
set_option maxRecDepth 100000 in
set_option maxHeartbeats 16000000 in
theorem r8_of (g:List Gi) (hf:Fine g) (st:Bool) (n:Nat) (GA:Option Addr) (gc:Nat) (w:World) (hn:g.length=n) (hg:GsR w GA g) :
  Calls Tryz.prog 32 #[.slice GA n gc,.bool st] w (Of8Out g st n GA gc w):=by
 have hnb:(n:Int)≤2000:=by have:=hf.len;omega
 have HF:=hid hf
 have HN:=hid hn
 have HG:=hid hg
 clear hf hn hg
 have hpb:=Blk.new w 55 #[.slice GA n gc,.bool st,.slice none 0 0]
 have hy:=one_boxS w (.cells #[.slice GA n gc,.bool st,.slice none 0 0] 55)
 obtain ⟨pb,hpbe⟩:∃ pb,w.heap.size=pb:=⟨_,rfl⟩
 have HPB:=hid hpbe
 rw [hpbe] at hpb hy
 clear hpbe
 go_enter Tryz.func32,Tryz.ntmps32
 go_upto_region 2 with (fail)
 generalize w.alloc (.cells #[.slice GA n gc,.bool st,.slice none 0 0] 55)=w1 at hpb hy ⊢
 rw [HPB.out]
 have HBD:Hid (Bd w pb n GA gc st pb 0 (.slice none 0 0) (fun _=>0) w1):=hid ⟨hy,Nat.le_refl _,hpb,w1.ownsRow_nil _ _ _,fun j hj=>by omega,fun j k hj=>by omega⟩
 clear hpb hy
 go_wp2_with fail
 go_loopw [6] (fun u6 wr=>∃ (i:Nat) (RV:Value) (q:Nat→Nat),i≤n∧u6 = .int .i64 (i:Int)∧Hid (Bd w pb n GA gc st pb i RV q wr)) (fun u6 _=>n - (intOf u6).toNat)
 case atStart=>exact ⟨0,_,_,Nat.zero_le _,rfl,HBD⟩
 case round =>
  obtain ⟨i,RV,q,hi,rfl,HD⟩:=hrel
  obtain ⟨ws,rfl⟩:∃ ws,ws=wr:=⟨_,rfl⟩
  by_cases hlt:i<n
  ·have hii:(i:Int)<(n:Int):=by omega
   have hmk:=mk_bools n (by omega) ws
   have hrb:=Blk.new ws 4 (vals (fun _ => .bool false) n)
   have hbx:=one_boxS ws (.cells (vals (fun _ => .bool false) n) 4)
   obtain ⟨rb,hrbe⟩:∃ rb,ws.heap.size=rb:=⟨_,rfl⟩
   have HRB:=hid hrbe
   rw [hrbe] at hrb hmk
   clear hrbe
   go_upto_region 6 with (fail)
   have HBX:=hid hbx
   have HB5:Hid (Below ws.heap.size ws (ws.alloc (.cells (vals (fun _ => .bool false) n) 4))):=hid hbx
   have HR5:Hid (Blk (ws.alloc (.cells (vals (fun _ => .bool false) n) 4)) rb 4 (vals (fun b => .bool (decide (b<0))) n)):=hid (by
    have e:(fun b=>Value.bool (decide (b<0)))=fun _ => .bool false:=by funext b;simp
    rw [e];exact hrb)
   clear hmk hrb hbx
   generalize ws.alloc (.cells (vals (fun _ => .bool false) n) 4)=w5 at HB5 HR5 ⊢
   go_wp2_with fail
   go_loopw [8] (fun u8 wr=>∃ m:Nat,m≤n∧u8 = .int .i64 (m:Int)∧Hid (Below ws.heap.size ws wr)∧Hid (Blk wr rb 4 (vals (fun b => .bool (decide (b<m))) n))) (fun u8 _=>n - (intOf u8).toNat)
   case atStart=>exact ⟨0,Nat.zero_le _,rfl,HB5,HR5⟩
   case round =>
    obtain ⟨m,hm,rfl,HB6,HR6⟩:=hrel
    obtain ⟨wv,rfl⟩:∃ wv,wv=wr:=⟨_,rfl⟩
    by_cases hlm:m<n
    ·have hmi:(m:Int)<(n:Int):=by omega
     have d1:=(HR6.out.cell m).trans (vals_get hlm)
     have d2:=HR6.out.frozen m
     have HB7:Hid (Below ws.heap.size ws (wv.setCell ⟨rb,m,none⟩ (.bool true))):=hid (HB6.out.setCell (show ws.heap.size≤rb by have:=HRB.out;omega) _)
     have HR7:Hid (Blk (wv.setCell ⟨rb,m,none⟩ (.bool true)) rb 4 (vals (fun b => .bool (decide (b<m+1))) n)):=hid (by
      have:=HR6.out.set_ m (.bool true)
      rw [vals_set] at this
      have e:(fun j=>if j=m then Value.bool true else .bool (decide (j<m)))=fun b => .bool (decide (b<m+1)):=by
       funext j
       by_cases e:j=m
       ·rw [if_pos e,decide_eq_true (by omega)]
       ·rw [if_neg e]
        by_cases e':j<m
        ·rw [decide_eq_true e',decide_eq_true (by omega)]
        ·rw [decide_eq_false e',decide_eq_false (by omega)]
      rw [← e];exact this)
     go_wp2_with fail
     go_roundw
     case rel=>exact ⟨m+1,by omega,by go_num,HB7,HR7⟩
     case measure=>simp [intOf];omega
    ·have hmi:¬ ((m:Int)<(n:Int)):=by omega
     have hmn:m=n:=by omega
     have HR8:Hid (Blk wv rb 4 (vals (fun _ => .bool true) n)):=hid (by
      have:=HR6.out
      rw [hmn] at this
      have e:vals (fun b=>Value.bool (decide (b<n))) n=vals (fun _ => .bool true) n:=by
       apply Array.ext_getElem?
       intro j
       by_cases hj:j<n
       ·rw [vals_get hj,vals_get hj,decide_eq_true hj]
       ·rw [Array.getElem?_eq_none (by simp [vals];omega),Array.getElem?_eq_none (by simp [vals];omega)]
      rw [← e];exact this)
     clear hmn
     have hdv:=HD.out.below HB6.out
     obtain ⟨RA,rc,hRV,-⟩:=own1 hdv.own
     have hpr:=hdv.pr
     rw [hRV] at hpr
     have c2:=hpr.cell 2
     simp at c2
     have HRV:=hid hRV
     have hpl:=hpr.lt
     have HPL:=hid hpl
     clear hdv hRV hpr hpl
     go_wp2_with (at_builtin;refine unhidG ?_)
     refine hid ?_
     have he:=Blk.new wv 29 #[.slice (some ⟨rb,0,none⟩) n n]
     have hbe:=one_boxS wv (.cells #[.slice (some ⟨rb,0,none⟩) n n] 29)
     generalize wv.alloc (.cells #[.slice (some ⟨rb,0,none⟩) n n] 29)=w6 at he hbe ⊢
     have hd6:=(HD.out.below HB6.out).below hbe
     refine wpList_pushR w6 rfl _ _ rfl (pb+1) RV q n i rb wv.heap.size (by rw [HRV.out];rfl) hd6.own rfl (he.cell 0) (by omega) (by have:=hd6.pr.lt;omega) ?_
     intro v' w7 hown hgr hv
     have HNX:Hid (Bd w pb n GA gc st pb (i+1) v' (fun j=>if j=i then rb else q j) (w7.setCell ⟨pb,2,none⟩ v')):=hid (HD.out.next HRB.out HB6.out HR8.out hbe hown hgr hv)
     have hk3:Kept (fun k=>RV.ownBlock=some k) w6 w7:=⟨hgr.os,hgr.tape,hgr.output,hgr.size,fun k hk hn=>hgr.block k hk (fun e=>hn e.symm)⟩
     have hp7:=hk3.blk hd6.pr (fun e=>by have:=hd6.own_lt e;omega)
     have f2:=hp7.frozen 2
     have f3:=hp7.cell 2
     rw [HRV.out] at f3
     simp at f3
     obtain ⟨RA',rc',hv',-⟩:=own1 hown
     subst hv'
     clear hown hgr hv hk3 hp7 he hbe hd6 c2
     go_wp2_with fail
     go_roundw
     case rel=>exact ⟨i+1,_,_,by omega,by go_num,HNX⟩
     case measure=>simp [intOf];omega
  ·have hii:¬ ((i:Int)<(n:Int)):=by omega
   have hin:i=n:=by omega
   obtain ⟨RA,rc,hRV,hso⟩:=(show Bd w pb n GA gc st pb n RV q ws by have:=HD.out;rwa [hin] at this).so
   have HS4:=hid hso
   clear hin hRV hso
   go_wp2_with fail
   obtain ⟨w6,hw6⟩:∃ w6,w6=ws:=⟨_,rfl⟩
   rw [← hw6] at HS4 ⊢
   clear hw6
   go_loopw [9] (fun u9 wr=>∃ (I:Nat→Nat→Bool) (more:Bool),u9 = .bool more∧Hid (So w pb n GA gc st pb RA rc q I wr)∧Hid (∀ x y,x<n→y<n→Gr g st x y→I x y=true)∧Hid (more=false→∀ x y,x<n→y<n→I x y=true→holdsB g st I x y=true)) (fun u9 wr=>2*sumP n (fun x y=>readB wr (q x) y)+isT8 u9)
   case atStart=>exact ⟨fun _ _=>true,true,rfl,HS4,hid (fun _ _ _ _ _=>rfl),hid (fun h=>by cases h)⟩
   case round =>
    obtain ⟨I,more,rfl,HI,HSUP,HFIX⟩:=hrel
    obtain ⟨ws,rfl⟩:∃ ws,ws=wr:=⟨_,rfl⟩
    obtain ⟨c0,hc0⟩:∃ c0,sumP n I=c0:=⟨_,rfl⟩
    have HC00:=hid hc0
    have HCNT:Hid (sumP n (fun x y=>readB ws (q x) y)=c0):=hid (HI.out.count.trans hc0)
    cases more
    ·have HFX:Hid (∀ a b,a<n→b<n→(I a b=true↔Gr g st a b)):=hid fun a b ha hb=>greatest HF.out (I:=I) (fun x y hx hy=>HSUP.out x y (by rw [← HN.out];exact hx) (by rw [← HN.out];exact hy)) (fun x y hx hy hI=>HFIX.out rfl x y (by rw [← HN.out];exact hx) (by rw [← HN.out];exact hy) hI) (by rw [HN.out];exact ha) (by rw [HN.out];exact hb)
     have HB9:Hid (Below w.heap.size w ws):=hid (by rw [HPB.out];exact HI.out.bel)
     clear hc0
     go_wp2_with fail
     go_ret
     exact ⟨pb,RA,rc,q,I,rfl,HI.out.pr,HI.out.mz,HFX.out,HB9.out⟩
    ·have HP0:Hid (Pass g st n I false c0 0 0):=hid ⟨HSUP.out,fun h=>(by cases h),(by rw [HC00.out];exact Nat.le_refl _),fun _ x y _ _ ho=>(by omega)⟩
     clear hc0
     go_wp2_with fail
     go_loopw [9,10] (fun u9 u10 wr=>∃ (a:Nat) (J:Nat→Nat→Bool) (mo:Bool),a≤n∧u10 = .int .i64 (a:Int)∧u9 = .bool mo∧Hid (So w pb n GA gc st pb RA rc q J wr)∧Hid (Pass g st n J mo c0 a 0)) (fun _ u10 _=>n - (intOf u10).toNat)
     case atStart=>exact ⟨0,I,false,Nat.zero_le _,rfl,rfl,HI,HP0⟩
     case round =>
      obtain ⟨a,J,mo,ha,rfl,rfl,HJ,HP⟩:=hrel
      by_cases hla:a<n
      ·have hai:(a:Int)<(n:Int):=by omega
       go_wp2_with fail
       go_loopw [9,11] (fun u9 u11 wr=>∃ (b:Nat) (J:Nat→Nat→Bool) (mo:Bool),b≤n∧u11 = .int .i64 (b:Int)∧u9 = .bool mo∧Hid (So w pb n GA gc st pb RA rc q J wr)∧Hid (Pass g st n J mo c0 a b)) (fun _ u11 _=>n - (intOf u11).toNat)
       case atStart=>exact ⟨0,J,mo,Nat.zero_le _,rfl,rfl,HJ,HP⟩
       case round =>
        obtain ⟨b,K,mo2,hb,rfl,rfl,HK2,HP2⟩:=hrel
        obtain ⟨wv,rfl⟩:∃ wv,wv=wr:=⟨_,rfl⟩
        by_cases hlb:b<n
        ·have hbi:(b:Int)<(n:Int):=by omega
         have p2:=HK2.out.pr.c2
         obtain ⟨rb,hRA,e0⟩:=HK2.out.mz.rows a hla
         have e1:=HK2.out.mz.d hla hlb
         rw [hRA] at p2
         have HRA:=hid hRA
         clear hRA
         cases hI:K a b
         ·rw [hI] at e1
          have HP3:=hid (HP2.out.skip (fun h=>by rw [hI] at h;cases h))
          clear hI
          go_wp2_with fail
          go_roundw
          case rel=>exact ⟨b+1,K,mo2,by omega,by go_num,rfl,HK2,HP3⟩
          case measure=>simp [intOf];omega
         ·rw [hI] at e1
          have HI2:=hid hI
          have hbw:Below w.heap.size w wv:=by rw [HPB.out];exact HK2.out.bel
          have C5:=r8_stands g HF.out st a b n K pb GA RA gc rc q wv HN.out hla hlb HK2.out.pr HK2.out.mz (HG.out.below hbw)
          obtain ⟨hh,hhh⟩:∃ hh,holdsB g st K a b=hh:=⟨_,rfl⟩
          rw [hhh] at C5
          have HHH:=hid hhh
          have HLA:=hid (And.intro hla hlb)
          clear hI hbw hhh
          go_wp2_with fail
          refine C5.mono ?_
          rintro r w7 ⟨rfl,hb7⟩
          have HK7:=hid (HK2.out.below hb7)
          clear C5 hb7 e0 e1 p2
          have f0:=HK7.out.pr.c2
          obtain ⟨rb2,hRA2,f1⟩:=HK7.out.mz.rows a hla
          rw [hRA2] at f0
          have f2:=HK7.out.mz.d hla hlb
          have f3:=(HK7.out.row a hla).2.2.frozen b
          clear hRA2
          cases hh
          ·have HP3:=hid (HP2.out.drop HF.out HN.out hla hlb HI2.out HHH.out)
           have HK8:=hid (HK7.out.put (k:=b) hla false)
           go_wp2_with fail
           go_roundw
           case rel=>exact ⟨b+1,_,true,by omega,by go_num,rfl,HK8,HP3⟩
           case measure=>simp [intOf];omega
          ·have HP3:=hid (HP2.out.skip (fun _=>HHH.out))
           go_wp2_with fail
           go_roundw
           case rel=>exact ⟨b+1,K,mo2,by omega,by go_num,rfl,HK7,HP3⟩
           case measure=>simp [intOf];omega
        ·have hbi:¬ ((b:Int)<(n:Int)):=by omega
         have HP3:Hid (Pass g st n K mo2 c0 (a+1) 0):=hid (by have:=HP2.out;rw [show b=n by omega] at this;exact this.row)
         go_wp2_with fail
         go_roundw
         case rel=>exact ⟨a+1,K,mo2,by omega,by go_num,rfl,HK2,HP3⟩
         case measure=>simp [intOf];omega
      ·have hai:¬ ((a:Int)<(n:Int)):=by omega
       have HPn:Hid (Pass g st n J mo c0 n 0):=hid (by have:=HP.out;rwa [show a=n by omega] at this)
       go_wp2_with fail
       go_roundw
       case rel=>exact ⟨J,mo,rfl,HJ,hid HPn.out.sup,hid (fun h=>by subst h;exact HPn.out.fin)⟩
       case measure =>
        have h1:=HJ.out.count
        have h2:=HCNT.out
        have h3:=HPn.out.cnt
        have h4:=HPn.out.cnt0
        rw [h1,h2]
        cases mo
        ·show 2*sumP n J+0<2*c0+1
         omega
        ·have h5:=h3 rfl
         show 2*sumP n J+1<2*c0+1
         omega
end SM
end
section
open Lib (hid)
open Go.RowKit
namespace SM
open CM (nd kids)
theorem holds_gr {g:List Gi} (hf:Fine g) {st:Bool} {u:Nat→Nat→Bool} (hu:∀ a b,a<g.length→b<g.length→(u a b=true↔Gr g st a b)) {a b:Nat} (ha:a<g.length) (hb:b<g.length):holdsB g st u a b=true↔Gr g st a b:=by
 rw [holdsB_iff]
 constructor
 ·intro h
  exact Gr.of ((holds_in hf ha hb h).mono fun x y r=>(hu x y r.1 r.2.1).1 r.2.2)
 ·intro h
  exact (holds_in hf ha hb h.holds).mono fun x y r=>(hu x y r.1 r.2.1).2 r.2.2
theorem does_gr {g:List Gi} (hf:Fine g) {st:Bool} {u:Nat→Nat→Bool} (hu:∀ a b,a<g.length→b<g.length→(u a b=true↔Gr g st a b)) {s t:Nat} (hs:s<g.length) (ht:t<g.length):doesB g st u s t=true↔Does g st (Gr g st) s t:=by
 rw [doesB_iff]
 constructor
 ·intro h
  exact (does_in hf hs ht h).mono fun x y r=>(hu x y r.1 r.2.1).1 r.2.2
 ·intro h
  exact (does_in hf hs ht h).mono fun x y r=>(hu x y r.1 r.2.1).2 r.2.2
theorem PickL.is {g:List Gi} (hc:checkG g=0) {u:Nat→Nat→Bool} (hu:∀ a b,a<g.length→b<g.length→(u a b=true↔Gr g false a b)) {a b:Nat} (ha:a<g.length) (hb:b<g.length) (h8:(nd g a).kind≠8) {v:Int} (h:PickL g false u a b v):PickIs g (a:Int) (b:Int) v:=by
 have hf:=fine_of hc
 have hone:=h.one
 have hho:holdsB g false u a b=oneB g false u a b:=by
  unfold holdsB;rw [mem_no h8];simp
 have hgr:=holds_gr hf hu ha hb
 rw [hho,hone] at hgr
 unfold PickIs
 rw [Int.toNat_natCast,Int.toNat_natCast]
 constructor
 ·rintro ⟨-,-,-,-,hG⟩
  refine ⟨fun t=>doesB g false u a t.toNat,fun t ht=>?_,?_⟩
  ·rw [memI_mem hf hb] at ht
   obtain ⟨t',ht',rfl⟩:=List.mem_map.1 ht
   show doesB g false u a t'=true↔_
   exact does_gr hf hu ha (hf.mem_lt hb ht')
  ·rw [memI_mem hf hb]
   rcases h with ⟨k,t,rfl,h1,h2,h3⟩ | ⟨h1,h2⟩
   ·refine (idxI_at (k:=k) (x:=(t:Int)) ?_ ?_ ?_).symm
    ·rw [List.any_eq_false]
     intro y hy
     obtain ⟨j,hj⟩:=List.getElem?_of_mem hy
     have hjk:j<k:=by have:=(List.getElem?_eq_some_iff.1 hj).1;rw [List.length_take] at this;omega
     rw [List.getElem?_take,if_pos hjk,List.getElem?_map] at hj
     obtain ⟨t',ht',rfl⟩:=Option.map_eq_some_iff.1 hj
     rw [show doesB g false u a (nI t').toNat=doesB g false u a t' from rfl,h3 j t' hjk ht'];decide
    ·rw [List.getElem?_map,h1];rfl
    ·exact h2
   ·have hall:((mem g b).map nI).any (fun t=>doesB g false u a t.toNat)=false:=by
     rw [List.any_eq_false]
     intro y hy
     obtain ⟨t',ht',rfl⟩:=List.mem_map.1 hy
     obtain ⟨j,hj⟩:=List.getElem?_of_mem ht'
     rw [show doesB g false u a (nI t').toNat=doesB g false u a t' from rfl,h1 j t' hj];decide
    rw [idxI_none hall]
    rcases h2 with ⟨-,-,rfl⟩ | ⟨-,rfl⟩
    ·rfl
    ·have:=hgr.2 hG
     simp at this
 ·intro hno
  have hG:¬ Gr g false a b:=fun hG=>hno ⟨hc,exI_iff.2 (by omega),exI_iff.2 (by omega),h8,hG⟩
  cases e:(v == -2)
  ·rw [e] at hgr
   exact absurd (hgr.1 rfl) hG
  ·exact eq_of_beq e
def is8 (g:List Gi) (a b:Int):Bool:=decide (checkG g=0) && exI g.length a && exI g.length b
theorem is8_iff {g:List Gi} {a b:Int}:is8 g a b=true↔checkG g=0∧(0≤a∧a<(g.length:Int))∧(0≤b∧b<(g.length:Int)):=by
 unfold is8
 rw [Bool.and_eq_true,Bool.and_eq_true,decide_eq_true_eq,exI_iff,exI_iff,and_assoc]
set_option maxRecDepth 100000 in
set_option maxHeartbeats 4000000 in
theorem r8_is (g:List Gi) (A:Option Addr) (c:Nat) (a b:Int) (w:World) (hg:GsR w A g) (hl:(g.length:Int)≤9223372036854775807) (ht:Texts g) :
  Calls Tryz.prog 34 #[.slice A g.length c,.int .i64 a,.int .i64 b] w fun r w'=>r = .returned (.bool (is8 g a b))∧Below w.heap.size w w':=by
 have C:=r6_check A c g w hl hg ht
 have HI:Hid (is8 g a b=true↔checkG g=0∧(0≤a∧a<(g.length:Int))∧(0≤b∧b<(g.length:Int))):=hid is8_iff
 obtain ⟨v,hv⟩:∃ v,is8 g a b=v:=⟨_,rfl⟩
 rw [hv] at HI ⊢
 obtain ⟨e,he⟩:∃ e,checkG g=e:=⟨_,rfl⟩
 rw [he] at C HI
 obtain ⟨n,hn⟩:∃ n,g.length=n:=⟨_,rfl⟩
 rw [hn] at C HI ⊢
 clear hg ht hl hv he hn
 go_enter Tryz.func34,Tryz.ntmps34
 go_wp2_with fail
 refine C.mono ?_
 rintro r w2 ⟨rfl,hb2⟩
 have HB2:=hid hb2
 clear C hb2
 by_cases he:e=0
 ·subst he
  by_cases h1:0≤a
  ·by_cases h2:a<(n:Int)
   ·by_cases h3:0≤b
    ·by_cases h4:b<(n:Int)
     ·have HV:Hid (v=true):=hid (HI.out.2 ⟨rfl,⟨h1,h2⟩,h3,h4⟩)
      go_wp2_with fail
      go_ret
      exact ⟨by rw [HV.out];rfl,HB2.out⟩
     ·have HV:Hid (v=false):=hid (by cases v;rfl;exact absurd (HI.out.1 rfl).2.2.2 h4)
      have H4:=hid h4
      go_wp2_with fail
      go_ret
      exact ⟨by rw [HV.out,decide_eq_false (Int.not_lt.2 H4.out)];rfl,HB2.out⟩
    ·have HV:Hid (v=false):=hid (by cases v;rfl;exact absurd (HI.out.1 rfl).2.2.1 h3)
     go_wp2_with fail
     go_ret
     exact ⟨by rw [HV.out];rfl,HB2.out⟩
   ·have HV:Hid (v=false):=hid (by cases v;rfl;exact absurd (HI.out.1 rfl).2.1.2 h2)
    go_wp2_with fail
    go_ret
    exact ⟨by rw [HV.out];rfl,HB2.out⟩
  ·have HV:Hid (v=false):=hid (by cases v;rfl;exact absurd (HI.out.1 rfl).2.1.1 h1)
   go_wp2_with fail
   go_ret
   exact ⟨by rw [HV.out];rfl,HB2.out⟩
 ·have he2:((e:Int) == 0)=false:=by rw [beq_eq_false_iff_ne];omega
  have HV:Hid (v=false):=hid (by cases v;rfl;exact absurd (HI.out.1 rfl).1 he)
  clear he
  go_wp2_with fail
  go_ret
  exact ⟨by rw [HV.out];rfl,HB2.out⟩
set_option maxRecDepth 100000 in
set_option maxHeartbeats 4000000 in
theorem r8_may (g:List Gi) (A:Option Addr) (c:Nat) (a b:Int) (w:World) (hg:GsR w A g) (hl:(g.length:Int)≤9223372036854775807) (ht:Texts g) :
  Calls Tryz.prog 13 #[.slice A g.length c,.int .i64 a,.int .i64 b] w fun r w'=>∃ v,r = .returned (.bool v)∧Bel g false a b v∧Below w.heap.size w w':=by
 have C:=r8_is g A c a b w hg hl ht
 obtain ⟨v,hv⟩:∃ v,is8 g a b=v:=⟨_,rfl⟩
 rw [hv] at C
 have HV:=hid hv
 have HG:=hid hg
 obtain ⟨n,hn⟩:∃ n,g.length=n:=⟨_,rfl⟩
 have HN:=hid hn
 rw [hn] at C ⊢
 clear hg ht hl hv hn
 go_enter Tryz.func13,Tryz.ntmps13
 go_wp2_with fail
 refine C.mono ?_
 rintro r w2 ⟨rfl,hb2⟩
 have HB2:=hid hb2
 clear C
 cases v
 ·have HBEL:Hid (Bel g false a b false):=hid ⟨fun h=>(by cases h),fun h=>(by
   have:=is8_iff.2 ⟨h.1,exI_iff.1 h.2.1,exI_iff.1 h.2.2.1⟩
   rw [HV.out] at this;cases this)⟩
  clear hb2
  go_wp2_with fail
  go_ret
  exact ⟨false,rfl,HBEL.out,HB2.out⟩
 ·obtain ⟨hc,h1,h2⟩:=is8_iff.1 HV.out
  obtain ⟨a',rfl⟩:∃ a':Nat,a=(a':Int):=⟨a.toNat,by omega⟩
  obtain ⟨b',rfl⟩:∃ b':Nat,b=(b':Int):=⟨b.toNat,by omega⟩
  have han:a'<n:=by have:=HN.out;omega
  have hbn:b'<n:=by have:=HN.out;omega
  have C2:=r8_of g (fine_of hc) false n A c w2 HN.out (HG.out.below hb2)
  have HC:=hid hc
  have HAB:=hid (And.intro han hbn)
  have hai:(a':Int)<(n:Int):=by omega
  have hbi:(b':Int)<(n:Int):=by omega
  clear hb2 hc h1 h2 han hbn
  go_wp2_with fail
  refine C2.mono ?_
  rintro r w3 ⟨pb,RA,rc,q,u,rfl,ho⟩
  have p2:=ho.pr.c2
  obtain ⟨rb,hRA,m1⟩:=ho.mz.rows a' HAB.out.1
  have m2:=ho.mz.d HAB.out.1 HAB.out.2
  rw [hRA] at p2
  have HB3:=hid (HB2.out.trans (ho.bel.mono HB2.out.size))
  obtain ⟨x,hx⟩:∃ x,u a' b'=x:=⟨_,rfl⟩
  rw [hx] at m2
  have HBEL:Hid (Bel g false (a':Int) (b':Int) x):=hid (by
   have hgr:=ho.gr a' b' HAB.out.1 HAB.out.2
   rw [hx] at hgr
   unfold Bel
   rw [hgr,Int.toNat_natCast,Int.toNat_natCast]
   exact ⟨fun h=>⟨HC.out,exI_iff.2 (by have:=HN.out;have:=HAB.out;omega),exI_iff.2 (by have:=HN.out;have:=HAB.out;omega),h⟩,fun h=>h.2.2.2⟩)
  clear C2 ho hRA hx
  go_wp2_with fail
  go_ret
  exact ⟨x,rfl,HBEL.out,HB3.out⟩
set_option maxRecDepth 100000 in
set_option maxHeartbeats 4000000 in
theorem r8_strict (g:List Gi) (A:Option Addr) (c:Nat) (a b:Int) (w:World) (hg:GsR w A g) (hl:(g.length:Int)≤9223372036854775807) (ht:Texts g) :
  Calls Tryz.prog 15 #[.slice A g.length c,.int .i64 a,.int .i64 b] w fun r w'=>∃ v,r = .returned (.bool v)∧Bel g true a b v∧Below w.heap.size w w':=by
 have C:=r8_is g A c a b w hg hl ht
 obtain ⟨v,hv⟩:∃ v,is8 g a b=v:=⟨_,rfl⟩
 rw [hv] at C
 have HV:=hid hv
 have HG:=hid hg
 obtain ⟨n,hn⟩:∃ n,g.length=n:=⟨_,rfl⟩
 have HN:=hid hn
 rw [hn] at C ⊢
 clear hg ht hl hv hn
 go_enter Tryz.func15,Tryz.ntmps15
 go_wp2_with fail
 refine C.mono ?_
 rintro r w2 ⟨rfl,hb2⟩
 have HB2:=hid hb2
 clear C
 cases v
 ·have HBEL:Hid (Bel g true a b false):=hid ⟨fun h=>(by cases h),fun h=>(by
   have:=is8_iff.2 ⟨h.1,exI_iff.1 h.2.1,exI_iff.1 h.2.2.1⟩
   rw [HV.out] at this;cases this)⟩
  clear hb2
  go_wp2_with fail
  go_ret
  exact ⟨false,rfl,HBEL.out,HB2.out⟩
 ·obtain ⟨hc,h1,h2⟩:=is8_iff.1 HV.out
  obtain ⟨a',rfl⟩:∃ a':Nat,a=(a':Int):=⟨a.toNat,by omega⟩
  obtain ⟨b',rfl⟩:∃ b':Nat,b=(b':Int):=⟨b.toNat,by omega⟩
  have han:a'<n:=by have:=HN.out;omega
  have hbn:b'<n:=by have:=HN.out;omega
  have C2:=r8_of g (fine_of hc) true n A c w2 HN.out (HG.out.below hb2)
  have HC:=hid hc
  have HAB:=hid (And.intro han hbn)
  have hai:(a':Int)<(n:Int):=by omega
  have hbi:(b':Int)<(n:Int):=by omega
  clear hb2 hc h1 h2 han hbn
  go_wp2_with fail
  refine C2.mono ?_
  rintro r w3 ⟨pb,RA,rc,q,u,rfl,ho⟩
  have p2:=ho.pr.c2
  obtain ⟨rb,hRA,m1⟩:=ho.mz.rows a' HAB.out.1
  have m2:=ho.mz.d HAB.out.1 HAB.out.2
  rw [hRA] at p2
  have HB3:=hid (HB2.out.trans (ho.bel.mono HB2.out.size))
  obtain ⟨x,hx⟩:∃ x,u a' b'=x:=⟨_,rfl⟩
  rw [hx] at m2
  have HBEL:Hid (Bel g true (a':Int) (b':Int) x):=hid (by
   have hgr:=ho.gr a' b' HAB.out.1 HAB.out.2
   rw [hx] at hgr
   unfold Bel
   rw [hgr,Int.toNat_natCast,Int.toNat_natCast]
   exact ⟨fun h=>⟨HC.out,exI_iff.2 (by have:=HN.out;have:=HAB.out;omega),exI_iff.2 (by have:=HN.out;have:=HAB.out;omega),h⟩,fun h=>h.2.2.2⟩)
  clear C2 ho hRA hx
  go_wp2_with fail
  go_ret
  exact ⟨x,rfl,HBEL.out,HB3.out⟩
set_option maxRecDepth 100000 in
set_option maxHeartbeats 4000000 in
theorem r8_Pick (g:List Gi) (A:Option Addr) (c:Nat) (a b:Int) (w:World) (hg:GsR w A g) (hl:(g.length:Int)≤9223372036854775807) (ht:Texts g) :
  Calls Tryz.prog 17 #[.slice A g.length c,.int .i64 a,.int .i64 b] w fun r w'=>∃ k,r = .returned (.int .i64 k)∧PickIs g a b k∧Below w.heap.size w w':=by
 have C:=r8_is g A c a b w hg hl ht
 obtain ⟨v,hv⟩:∃ v,is8 g a b=v:=⟨_,rfl⟩
 rw [hv] at C
 have HV:=hid hv
 have HG:=hid hg
 obtain ⟨n,hn⟩:∃ n,g.length=n:=⟨_,rfl⟩
 have HN:=hid hn
 rw [hn] at C ⊢
 clear hg ht hl hv hn
 go_enter Tryz.func17,Tryz.ntmps17
 go_wp2_with fail
 refine C.mono ?_
 rintro r w2 ⟨rfl,hb2⟩
 have HB2:=hid hb2
 clear C
 cases v
 ·have HPK:Hid (PickIs g a b (-2)):=hid (PickIs.no fun h=>(by
   have:=is8_iff.2 ⟨h.1,exI_iff.1 h.2.1,exI_iff.1 h.2.2.1⟩
   rw [HV.out] at this;cases this))
  clear hb2
  go_wp2_with fail
  go_ret
  exact ⟨-2,rfl,HPK.out,HB2.out⟩
 ·obtain ⟨hc,h1,h2⟩:=is8_iff.1 HV.out
  obtain ⟨a',rfl⟩:∃ a':Nat,a=(a':Int):=⟨a.toNat,by omega⟩
  obtain ⟨b',rfl⟩:∃ b':Nat,b=(b':Int):=⟨b.toNat,by omega⟩
  have han:a'<n:=by have:=HN.out;omega
  have hbn:b'<n:=by have:=HN.out;omega
  have C2:=r8_of g (fine_of hc) false n A c w2 HN.out (HG.out.below hb2)
  have HG2:=hid (HG.out.below hb2)
  have HC:=hid hc
  have HAB:=hid (And.intro han hbn)
  have hai:(a':Int)<(n:Int):=by omega
  have hbi:(b':Int)<(n:Int):=by omega
  obtain ⟨gb,go_,hGA,hgn⟩:=HG2.out.at_ (i:=a') (x:=nd g a') (by unfold CM.nd;rw [List.getD_eq_getElem?_getD,List.getElem?_eq_getElem (by have:=HN.out;omega)];rfl)
  obtain ⟨SV,sc,SP,sp,g0,-⟩:=hgn
  have HGA:=hid hGA
  rw [HGA.out] at C2 ⊢
  obtain ⟨ks,hks⟩:∃ ks,(nd g a').kind=ks:=⟨_,rfl⟩
  have HKS:=hid hks
  rw [hks] at g0
  clear hb2 hc h1 h2 han hbn hGA hks
  by_cases h8:ks=8
  ·have HPK:Hid (PickIs g (a':Int) (b':Int) (-2)):=hid (PickIs.no fun h=>h.2.2.2.1 (by rw [Int.toNat_natCast,HKS.out];exact h8))
   subst h8
   clear C2
   go_wp2_with fail
   go_ret
   exact ⟨-2,rfl,HPK.out,HB2.out⟩
  ·have b8:(ks == 8)=false:=by simp [h8]
   have H8:Hid ((nd g a').kind≠8):=hid (by rw [HKS.out];exact h8)
   clear h8
   go_wp2_with fail
   refine C2.mono ?_
   rintro r w3 ⟨pb,RA,rc,q,u,rfl,ho⟩
   have HB3:=hid (HB2.out.trans (ho.bel.mono HB2.out.size))
   have C3:=r8_pick g (fine_of HC.out) false a' b' n u pb (some ⟨gb,go_,none⟩) RA c rc q w3 HN.out HAB.out.1 HAB.out.2 H8.out ho.pr ho.mz (by have:=HG2.out.below ho.bel;rwa [HGA.out] at this)
   have HGR:=hid ho.gr
   clear C2 ho g0
   go_wp2_with fail
   refine C3.mono ?_
   rintro r w4 ⟨v,rfl,hpl,hb4⟩
   have HPK:Hid (PickIs g (a':Int) (b':Int) v):=hid (hpl.is HC.out (by rw [HN.out];exact HGR.out) (by rw [HN.out];exact HAB.out.1) (by rw [HN.out];exact HAB.out.2) H8.out)
   have HB4:=hid (HB3.out.trans (hb4.mono HB3.out.size))
   clear C3 hpl hb4
   go_wp2_with fail
   go_ret
   exact ⟨v,rfl,HPK.out,HB4.out⟩
def All8 (g : List Gi) (st : Bool) (w : World) (r : Ending) (w' : World) : Prop := Below w.heap.size w w' ∧
  ((checkG g ≠ 0 ∧ r = .returned (.tuple #[.slice none 0 0, .int .i64 (checkG g : Int)])) ∨
   (checkG g = 0 ∧ ∃ RA rc q u, r = .returned (.tuple #[.slice RA g.length rc, .int .i64 0]) ∧ Mz w' g.length u RA q ∧ ∀ a b, a < g.length → b < g.length → (u a b = true ↔ Gr g st a b)))
set_option maxRecDepth 100000 in
set_option maxHeartbeats 4000000 in
theorem r8_all (g:List Gi) (A:Option Addr) (c:Nat) (st:Bool) (w:World) (hg:GsR w A g) (hl:(g.length:Int)≤9223372036854775807) (ht:Texts g) :
  Calls Tryz.prog 10 #[.slice A g.length c,.bool st] w (All8 g st w):=by
 have C:=r6_check A c g w hl hg ht
 have HG:=hid hg
 obtain ⟨e,he⟩:∃ e,checkG g=e:=⟨_,rfl⟩
 rw [he] at C
 have HE:=hid he
 obtain ⟨n,hn⟩:∃ n,g.length=n:=⟨_,rfl⟩
 have HN:=hid hn
 rw [hn] at C ⊢
 clear hg ht hl he hn
 go_enter Tryz.func10,Tryz.ntmps10
 go_wp2_with fail
 refine C.mono ?_
 rintro r w2 ⟨rfl,hb2⟩
 have HB2:=hid hb2
 clear C
 by_cases he:e=0
 ·subst he
  have C2:=r8_of g (fine_of HE.out) st n A c w2 HN.out (HG.out.below hb2)
  clear hb2
  go_wp2_with fail
  refine C2.mono ?_
  rintro r w3 ⟨pb,RA,rc,q,u,rfl,ho⟩
  have p2:=ho.pr.c2
  have HB3:=hid (HB2.out.trans (ho.bel.mono HB2.out.size))
  have HO:=hid ho
  clear C2 ho
  go_wp2_with fail
  go_returns
  exact ⟨HB3.out,.inr ⟨HE.out,RA,rc,q,u,(by rw [HN.out];rfl),by rw [HN.out];exact HO.out.mz,by rw [HN.out];exact HO.out.gr⟩⟩
 ·have he2:((e:Int) != 0)=true:=by rw [bne_iff_ne];omega
  have HN0:Hid (checkG g≠0):=hid (by rw [HE.out];exact he)
  clear hb2 he
  go_wp2_with fail
  go_returns
  exact ⟨HB2.out,.inl ⟨HN0.out,(by rw [HE.out];rfl)⟩⟩
end SM
end
section
open Lib (hid)
open Go.RowKit
namespace SM
open CM (nd kids)
def Least8 (g : List Gi) (l : List Int) (w : World) (r : Ending) (w' : World) : Prop := Below w.heap.size w w' ∧
  ((checkG g ≠ 0 ∧ r = .returned (.tuple #[.int .i64 0, .int .i64 (checkG g : Int)])) ∨
   (checkG g = 0 ∧ l.all (exI g.length) = false ∧ r = .returned (.tuple #[.int .i64 0, .int .i64 9])) ∨
   (checkG g = 0 ∧ l.all (exI g.length) = true ∧ (∃ m, LeastIs g l m ∧ r = .returned (.tuple #[.int .i64 m, .int .i64 0]))) ∨
   (checkG g = 0 ∧ l.all (exI g.length) = true ∧ (∀ a ∈ l, ∃ b ∈ l, ¬ Gr g true a.toNat b.toNat) ∧ r = .returned (.tuple #[.int .i64 0, .int .i64 2])))
def allK (u:Nat→Nat→Bool) (x:Int) (l:List Int) (k:Nat):Bool:=(l.take k).all fun y=>u x.toNat y.toNat
theorem allK_succ {u:Nat→Nat→Bool} {x y:Int} {l:List Int} {k:Nat} (h:l[k]? = some y):allK u x l (k+1)=(allK u x l k && u x.toNat y.toNat):=by
 unfold allK
 rw [List.take_add_one,h,List.all_append]
 simp
theorem all_exI {n:Nat} {l:List Int} (h:l.all (exI n)=true) {i:Nat} {y:Int} (hy:l[i]? = some y):0≤y∧y<(n:Int):=exI_iff.1 (List.all_eq_true.1 h y (List.mem_of_getElem? hy))
set_option maxRecDepth 100000 in
set_option maxHeartbeats 8000000 in
theorem r8_least (g:List Gi) (A LA:Option Addr) (c lc:Nat) (l:List Int) (w:World) (hg:GsR w A g) (hl:(g.length:Int)≤9223372036854775807) (ht:Texts g) (hll:(l.length:Int)≤1000000000000) (h:RdV w LA (l.flatMap iC)) :
  Calls Tryz.prog 21 #[.slice A g.length c,.slice LA l.length lc] w (Least8 g l w):=by
 have C:=r6_check A c g w hl hg ht
 have HG:=hid hg
 have HR:=hid h
 have HT:=hid ht
 have HL:=hid hl
 obtain ⟨e,he⟩:∃ e,checkG g=e:=⟨_,rfl⟩
 rw [he] at C
 have HE:=hid he
 obtain ⟨n,hn⟩:∃ n,g.length=n:=⟨_,rfl⟩
 have HN:=hid hn
 obtain ⟨m,hm⟩:∃ m,l.length=m:=⟨_,rfl⟩
 have HM:=hid hm
 rw [hn] at C ⊢
 rw [hm] at hll ⊢
 clear hg ht hl he hn h hm
 go_enter Tryz.func21,Tryz.ntmps21
 go_wp2_with fail
 refine C.mono ?_
 rintro r w2 ⟨rfl,hb2⟩
 have HB2:=hid hb2
 clear C
 by_cases he:e=0
 ·subst he
  have HG2:=hid (HG.out.below hb2)
  have HR2:=hid (HR.out.below hb2)
  clear hb2
  go_wp2_with fail
  go_loopw [7] (fun u7 wr=>∃ i:Nat,i≤m∧u7 = .int .i64 (i:Int)∧Hid (Below w2.heap.size w2 wr)∧Hid ((l.take i).all (exI n)=true)) (fun u7 _=>m - (intOf u7).toNat)
  case atStart=>exact ⟨0,Nat.zero_le _,rfl,hid (Below.refl _ _),hid (by simp)⟩
  case round =>
   obtain ⟨i,hi,rfl,HB,HP⟩:=hrel
   obtain ⟨ws,rfl⟩:∃ ws,ws=wr:=⟨_,rfl⟩
   by_cases hlt:i<m
   ·have hii:(i:Int)<(m:Int):=by omega
    obtain ⟨y,hy⟩:∃ y,l[i]? = some y:=⟨_,List.getElem?_eq_getElem (by have:=HM.out;omega)⟩
    obtain ⟨lb,lo,hLA,c0⟩:=rd_intG (HR2.out.below HB.out) hy
    have hdr:Below ws.heap.size ws ws.drew:=⟨rfl,rfl,rfl,Nat.le_refl _,fun _ _=>rfl⟩
    have C:=r8_is g A c y y ws.drew ((HG2.out.below HB.out).below hdr) HL.out HT.out
    rw [HN.out] at C
    obtain ⟨v,hv⟩:∃ v,is8 g y y=v:=⟨_,rfl⟩
    rw [hv] at C
    have HV:=hid hv
    have HY:=hid hy
    have HLA:=hid hLA
    rw [HLA.out]
    clear hy hdr hv hLA
    go_upto_region 7 with (fail)
    have hS:Below ws.heap.size ws ws.drew:=⟨rfl,rfl,rfl,Nat.le_refl _,fun _ _=>rfl⟩
    refine K_start 100 (fun u=>Below ws.heap.size ws u) (by kernel_rfl) ?_
    refine K_pure (i:=0) (v:=?_) (by simp only [List.getElem?_toArray,List.getElem?_cons_succ,List.getElem?_cons_zero];exact rfl) (by kernel_rfl) (by kernel_rfl) (by kernel_rfl) (by decide) (by exact fun _ _ _ h=>h) (fun _=>hS) (by rfl) ?_ ?_
    rotate_left
    ·intro uu
     go_simp
     try with_reducible rfl
    simp only [Act.put,List.setIfInBounds_toArray,List.set_cons_zero,List.set_cons_succ]
    refine K_pure (i:=1) (v:=?_) (by simp only [List.getElem?_toArray,List.getElem?_cons_succ,List.getElem?_cons_zero];exact rfl) (by kernel_rfl) (by kernel_rfl) (by kernel_rfl) (by decide) (by exact fun _ _ _ h=>h) (fun _=>hS) (by rfl) ?_ ?_
    rotate_left
    ·intro uu
     go_simp
     try with_reducible rfl
    simp only [Act.put,List.setIfInBounds_toArray,List.set_cons_zero,List.set_cons_succ]
    refine K_pure (i:=2) (v:=?_) (by simp only [List.getElem?_toArray,List.getElem?_cons_succ,List.getElem?_cons_zero];exact rfl) (by kernel_rfl) (by kernel_rfl) (by kernel_rfl) (by decide) (by exact fun _ _ _ h=>h) (fun _=>hS) (by rfl) ?_ ?_
    rotate_left
    ·intro uu
     go_simp
     try with_reducible rfl
    simp only [Act.put,List.setIfInBounds_toArray,List.set_cons_zero,List.set_cons_succ]
    refine K_pure (i:=3) (v:=?_) (by simp only [List.getElem?_toArray,List.getElem?_cons_succ,List.getElem?_cons_zero];exact rfl) (by kernel_rfl) (by kernel_rfl) (by kernel_rfl) (by decide) (by exact fun _ _ _ h=>h) (fun _=>hS) (by rfl) ?_ ?_
    rotate_left
    ·intro uu
     go_simp
     try with_reducible rfl
    simp only [Act.put,List.setIfInBounds_toArray,List.set_cons_zero,List.set_cons_succ]
    refine K_takeA (i:=4) (v:=?_) (by simp only [List.getElem?_toArray,List.getElem?_cons_succ,List.getElem?_cons_zero];exact rfl) (by kernel_rfl) (by kernel_rfl) (by kernel_rfl) (of_decide_eq_true (by kernel_rfl)) (by kernel_rfl) (by exact fun _ _ _ h=>h) hS (by rfl) ?_ ?_
    rotate_left
    ·intro uu hu
     have c0_:=cell_below hu c0
     go_simp
     try with_reducible rfl
    simp only [Act.put,List.setIfInBounds_toArray,List.set_cons_zero,List.set_cons_succ]
    refine K_pure (i:=5) (v:=?_) (by simp only [List.getElem?_toArray,List.getElem?_cons_succ,List.getElem?_cons_zero];exact rfl) (by kernel_rfl) (by kernel_rfl) (by kernel_rfl) (by decide) (by exact fun _ _ _ h=>h) (fun _=>hS) (by rfl) ?_ ?_
    rotate_left
    ·intro uu
     go_simp
     try with_reducible rfl
    simp only [Act.put,List.setIfInBounds_toArray,List.set_cons_zero,List.set_cons_succ]
    refine K_pure (i:=6) (v:=?_) (by simp only [List.getElem?_toArray,List.getElem?_cons_succ,List.getElem?_cons_zero];exact rfl) (by kernel_rfl) (by kernel_rfl) (by kernel_rfl) (by decide) (by exact fun _ _ _ h=>h) (fun _=>hS) (by rfl) ?_ ?_
    rotate_left
    ·intro uu
     go_simp
     try with_reducible rfl
    simp only [Act.put,List.setIfInBounds_toArray,List.set_cons_zero,List.set_cons_succ]
    refine K_pure (i:=7) (v:=?_) (by simp only [List.getElem?_toArray,List.getElem?_cons_succ,List.getElem?_cons_zero];exact rfl) (by kernel_rfl) (by kernel_rfl) (by kernel_rfl) (by decide) (by exact fun _ _ _ h=>h) (fun _=>hS) (by rfl) ?_ ?_
    rotate_left
    ·intro uu
     go_simp
     try with_reducible rfl
    simp only [Act.put,List.setIfInBounds_toArray,List.set_cons_zero,List.set_cons_succ]
    refine K_takeA (i:=8) (v:=?_) (by simp only [List.getElem?_toArray,List.getElem?_cons_succ,List.getElem?_cons_zero];exact rfl) (by kernel_rfl) (by kernel_rfl) (by kernel_rfl) (of_decide_eq_true (by kernel_rfl)) (by kernel_rfl) (by exact fun _ _ _ h=>h) hS (by rfl) ?_ ?_
    rotate_left
    ·intro uu hu
     have c0_:=cell_below hu c0
     go_simp
     try with_reducible rfl
    simp only [Act.put,List.setIfInBounds_toArray,List.set_cons_zero,List.set_cons_succ]
    refine K_one (i:=9) (by kernel_rfl) rfl (fun K hK=>?_)
    go_simp
    go_at_call 34
    refine C.mono ?_
    rintro e w5 ⟨rfl,hb5⟩
    have hS_w5:Below ws.heap.size ws w5:=hS.trans (hb5.mono hS.size)
    refine hK _ _ (fun _=>hS_w5) ?_
    clear hK K hS hb5
    have hS:=hS_w5
    clear hS_w5
    refine K_pure (i:=10) (v:=?_) (by simp only [List.getElem?_toArray,List.getElem?_cons_succ,List.getElem?_cons_zero];exact rfl) (by kernel_rfl) (by kernel_rfl) (by kernel_rfl) (by decide) (by exact fun _ _ _ h=>h) (fun _=>hS) (by rfl) ?_ ?_
    rotate_left
    ·intro uu
     go_simp
     try with_reducible rfl
    simp only [Act.put,List.setIfInBounds_toArray,List.set_cons_zero,List.set_cons_succ]
    refine K_done (by kernel_rfl) ?_
    have HB5:=hid (HB.out.trans (hS.mono HB.out.size))
    have HBF:=hid (HB2.out.trans (HB5.out.mono HB2.out.size))
    clear hS C c0
    cases v
    ·have HNO:Hid (l.all (exI g.length)=false):=hid (all_at HY.out (by
      cases e:exI g.length y
      ·rfl
      ·have:=is8_iff.2 ⟨HE.out,exI_iff.1 e,exI_iff.1 e⟩
       rw [HV.out] at this;cases this))
     go_wp2_with fail
     go_returns
     exact ⟨HBF.out,.inr (.inl ⟨HE.out,HNO.out,rfl⟩)⟩
    ·have HP2:Hid ((l.take (i+1)).all (exI n)=true):=hid (all_take HP.out HY.out (by have:=is8_iff.1 HV.out;rw [HN.out] at this;exact exI_iff.2 this.2.1))
     go_wp2_with fail
     go_roundw
     case rel=>exact ⟨i+1,by omega,by go_num,HB5,HP2⟩
     case measure=>simp [intOf];omega
   ·have hii:¬ ((i:Int)<(m:Int)):=by omega
    have HALL:Hid (l.all (exI n)=true):=hid (by have:=HP.out;rwa [show i=l.length by have:=HM.out;omega,List.take_length] at this)
    have HBW:=hid (HB2.out.trans (HB.out.mono HB2.out.size))
    have C2:=r8_of g (fine_of HE.out) true n A c ws HN.out (HG2.out.below HB.out)
    have HR3:=hid (HR2.out.below HB.out)
    go_wp2_with fail
    refine C2.mono ?_
    rintro r w3 ⟨pb,RA,rc,q,u,rfl,ho⟩
    have HO:=hid ho
    have HR4:=hid (HR3.out.below ho.bel)
    have HB3:=hid (HBW.out.trans (ho.bel.mono HBW.out.size))
    clear C2 ho
    go_wp2_with fail
    go_loopw [9] (fun u9 wr=>∃ i:Nat,i≤m∧u9 = .int .i64 (i:Int)∧Hid (Below w3.heap.size w3 wr)∧Hid (∀ (j:Nat) (x:Int),j<i→l[j]? = some x→allK u x l m=false)) (fun u9 _=>m - (intOf u9).toNat)
    case atStart=>exact ⟨0,Nat.zero_le _,rfl,hid (Below.refl _ _),hid (fun j x hj=>by omega)⟩
    case round =>
     obtain ⟨i,hi,rfl,HB,HNO⟩:=hrel
     obtain ⟨ws,rfl⟩:∃ ws,ws=wr:=⟨_,rfl⟩
     by_cases hlt:i<m
     ·have hii:(i:Int)<(m:Int):=by omega
      obtain ⟨y,hy⟩:∃ y,l[i]? = some y:=⟨_,List.getElem?_eq_getElem (by have:=HM.out;omega)⟩
      have hyn:=all_exI HALL.out hy
      obtain ⟨y',rfl⟩:∃ y':Nat,y=(y':Int):=⟨y.toNat,by omega⟩
      have HY:=hid hy
      have hyn':(y':Int)<(n:Int):=hyn.2
      clear hy hyn
      go_wp2_with fail
      go_loopw [10,11] (fun u10 u11 wr=>∃ k:Nat,k≤m∧u11 = .int .i64 (k:Int)∧u10 = .bool (allK u (y':Int) l k)∧Hid (Below w3.heap.size w3 wr)) (fun _ u11 _=>m - (intOf u11).toNat)
      case atStart=>exact ⟨0,Nat.zero_le _,rfl,rfl,HB⟩
      case round =>
       obtain ⟨k,hk,rfl,rfl,HBk⟩:=hrel
       obtain ⟨wv,rfl⟩:∃ wv,wv=wr:=⟨_,rfl⟩
       obtain ⟨f,hf⟩:∃ f,allK u (y':Int) l k=f:=⟨_,rfl⟩
       rw [hf]
       by_cases hlk:k<m
       ·have hki:(k:Int)<(m:Int):=by omega
        obtain ⟨z,hz⟩:∃ z,l[k]? = some z:=⟨_,List.getElem?_eq_getElem (by have:=HM.out;omega)⟩
        have hzn:=all_exI HALL.out hz
        obtain ⟨z',rfl⟩:∃ z':Nat,z=(z':Int):=⟨z.toNat,by omega⟩
        have hzn':(z':Int)<(n:Int):=hzn.2
        have hsu:=allK_succ (u:=u) (x:=(y':Int)) hz
        rw [hf,Int.toNat_natCast,Int.toNat_natCast] at hsu
        cases f
        ·rw [Bool.false_and] at hsu
         have HSU:=hid hsu
         clear hf hz hsu hzn
         go_wp2_with fail
         go_quiet (fail)
         have HBn:Hid (Below w3.heap.size w3 (wv.drewN nq)):=hid (bel_drewN HBk.out nq)
         go_wp2_with fail
         go_roundw
         case rel=>exact ⟨k+1,by omega,by go_num,by rw [HSU.out],HBn⟩
         case measure=>simp [intOf];omega
        ·rw [Bool.true_and] at hsu
         have hp:=HO.out.pr.below HBk.out
         have hmz:=HO.out.mz.below HBk.out
         have p2:=hp.c2
         obtain ⟨rb,hRA,m1⟩:=hmz.rows y' (by omega)
         have m2:=hmz.d (i:=y') (j:=z') (by omega) (by omega)
         rw [hRA] at p2
         obtain ⟨lb,lo,hLA,c0⟩:=rd_intG (HR4.out.below HBk.out) HY.out
         obtain ⟨lb2,lo2,hLA2,c1⟩:=rd_intG (HR4.out.below HBk.out) hz
         rw [hLA] at hLA2
         injection hLA2 with hLA2
         injection hLA2 with e1 e2
         subst e1 e2
         obtain ⟨x,hx⟩:∃ x,u y' z'=x:=⟨_,rfl⟩
         rw [hx] at m2 hsu
         have HSU:=hid hsu
         have HLA:=hid hLA
         rw [HLA.out]
         clear hf hz hsu hzn hp hmz hRA hLA hx
         go_wp2_with fail
         go_quiet (fail)
         have HBn:Hid (Below w3.heap.size w3 (wv.drewN nq)):=hid (bel_drewN HBk.out nq)
         go_wp2_with fail
         go_roundw
         case rel=>exact ⟨k+1,by omega,by go_num,by rw [HSU.out],HBn⟩
         case measure=>simp [intOf];omega
       ·have hki:¬ ((k:Int)<(m:Int)):=by omega
        have HF:Hid (allK u (y':Int) l m=f):=hid (by rw [← show k=m by omega];exact hf)
        clear hf
        cases f
        ·have HNO2:Hid (∀ (j:Nat) (x:Int),j<i+1→l[j]? = some x→allK u x l m=false):=hid fun j x hj hx=>by
          by_cases e:j=i
          ·rw [e,HY.out] at hx
           injection hx with hx
           rw [← hx];exact HF.out
          ·exact HNO.out j x (by omega) hx
         go_wp2_with fail
         go_roundw
         case rel=>exact ⟨i+1,by omega,by go_num,HBk,HNO2⟩
         case measure=>simp [intOf];omega
        ·obtain ⟨lb,lo,hLA,c0⟩:=rd_intG (HR4.out.below HBk.out) HY.out
         have HLI:Hid (LeastIs g l (y':Int)):=hid (by
          have hgr:=HO.out.gr
          have hall:=HF.out
          unfold allK at hall
          rw [← HM.out,List.take_length,List.all_eq_true] at hall
          refine ⟨i,HY.out,fun b hb=>?_,fun j a hj ha=>?_⟩
          ·obtain ⟨jb,hjb⟩:=List.getElem?_of_mem hb
           have hbn:=all_exI HALL.out hjb
           exact (hgr _ _ (by rw [Int.toNat_natCast];omega) (by omega)).1 (hall b hb)
          ·have h1:=HNO.out j a hj ha
           unfold allK at h1
           rw [← HM.out,List.take_length,List.all_eq_false] at h1
           obtain ⟨b,hb,h2⟩:=h1
           obtain ⟨jb,hjb⟩:=List.getElem?_of_mem hb
           have hbn:=all_exI HALL.out hjb
           have han:=all_exI HALL.out ha
           exact ⟨b,hb,fun hg=>h2 ((hgr _ _ (by omega) (by omega)).2 hg)⟩)
         have HBF:=hid (HB3.out.trans (HBk.out.mono HB3.out.size))
         have HLA:=hid hLA
         rw [HLA.out]
         clear hLA
         go_wp2_with fail
         go_returns
         exact ⟨HBF.out,.inr (.inr (.inl ⟨HE.out,by rw [HN.out];exact HALL.out,_,HLI.out,rfl⟩))⟩
     ·have hii:¬ ((i:Int)<(m:Int)):=by omega
      have HNONE:Hid (∀ a∈l,∃ b∈l,¬ Gr g true a.toNat b.toNat):=hid fun a ha=>by
       have hgr:=HO.out.gr
       obtain ⟨j,hj⟩:=List.getElem?_of_mem ha
       have h1:=HNO.out j a (by have:=(List.getElem?_eq_some_iff.1 hj).1;have:=HM.out;omega) hj
       unfold allK at h1
       rw [← HM.out,List.take_length,List.all_eq_false] at h1
       obtain ⟨b,hb,h2⟩:=h1
       obtain ⟨jb,hjb⟩:=List.getElem?_of_mem hb
       have hbn:=all_exI HALL.out hjb
       have han:=all_exI HALL.out hj
       exact ⟨b,hb,fun hg=>h2 ((hgr _ _ (by omega) (by omega)).2 hg)⟩
      have HBF:=hid (HB3.out.trans (HB.out.mono HB3.out.size))
      go_wp2_with fail
      go_returns
      exact ⟨HBF.out,.inr (.inr (.inr ⟨HE.out,by rw [HN.out];exact HALL.out,HNONE.out,rfl⟩))⟩
 ·have he2:((e:Int) != 0)=true:=by rw [bne_iff_ne];omega
  have HN0:Hid (checkG g≠0):=hid (by rw [HE.out];exact he)
  clear hb2 he
  go_wp2_with fail
  go_returns
  exact ⟨HB2.out,.inl ⟨HN0.out,(by rw [HE.out];rfl)⟩⟩
end SM
end
end Go.Proofs.YtmgbbndmmbgemaaGreatDoor
