/- Contracts and plain facts that the theorem rests on: PLawOdd. -/
import Derived.Test.YtmpaemchjehjbaaGreatDoorZR32
import Derived.Test.YtmpaemchjehjbaaGreatDoorZR31
import Derived.Test.YtmpaemchjehjbaaGreatDoorZR10
import Derived.Deep.Cut
import Derived.Deep.CutRange
import Derived.Deep.CutBlock
import Derived.Deep.DeepCutAuto
set_option linter.unusedSimpArgs false
set_option linter.unusedVariables false
namespace Go.Proofs.YtmpaemchjehjbaaGreatDoor
section
open Lib (hid)
open Go.RowKit
theorem XOk.drew {w0:World}{q xb:Nat}{wx:World}(h:XOk w0.drew q xb wx):XOk w0 q xb wx:=by
 obtain⟨x,KA,LA,kc,lc,h1,h2,h3,h4,h5,h6,h7,hk⟩:=h;exact⟨x,KA,LA,kc,lc,h1,h2,h3,h4,h5,h6,h7,⟨hk.os,hk.tape,hk.output,hk.size,hk.block⟩⟩
theorem sC_len4 (L:List ByteArray):(L.flatMap sC).length=L.length:=by
 induction L with
 | nil=>rfl
 | cons a l ih =>
  rw[List.flatMap_cons,List.length_append,ih,List.length_cons]
  show 1+l.length=l.length+1
  omega
theorem sC_one (L:List ByteArray):∀ u∈L.flatMap sC,u.oneCell'=true:=by
 intro u hu;obtain⟨x,_,hx⟩:=List.mem_flatMap.1 hu;simp[sC] at hx;subst hx
 rfl
set_option maxRecDepth 100000 in
set_option maxHeartbeats 8000000 in
theorem odd_any (s:ByteArray)(which how:Int)(w:World)(ht:Tabs w)(hs:(s.size:Int)≤9223372036854775807) :
  Calls Tryz.prog 9 #[.string s,.int .i64 which,.int .i64 how] w fun e w'=>e=.returned (.bool true)∧Below w.heap.size w w':=by
 have HT:=hid ht;clear ht;go_enter Tryz.func9,Tryz.ntmps9
 go_wp2_with fail
 obtain⟨T,hTT⟩:∃ T,s.extract 0 (min (s.size:Int) 1000).toNat=T:=⟨_,rfl⟩;have hTs:T.size≤65536:=by
  rw[← hTT,ByteArray.size_extract];omega
 rw[hTT];clear hTT;rcases hp:parseS T with x | m
 ·have hne:=parse_nz hTs hp;obtain⟨at_,er⟩:=x;simp only at hne;have heI:((er:Int) != 0)=true:=by simp;omega
  have heI2:((er:Int)==0)=false:=by simp;omega
  refine(Parse_eq4 w HT.out.ky hTs hp).mono ?_;rintro r w1 ⟨rfl,hb1⟩;unfold zeroM;have HB1:=hid hb1;clear hb1 hp hne hTs;go_wp2_with fail
  have hb2:=HB1.out.alloc HB1.out.size (.cells #[.string ⟨#[]⟩,.slice none 0 0,.slice none 0 0,.slice none 0 0,.slice none 0 0] 27);generalize hw2:w1.alloc (.cells #[.string ⟨#[]⟩,.slice none 0 0,.slice none 0 0,.slice none 0 0,.slice none 0 0] 27)=w2 at hb2 ⊢;have HB2:=hid hb2;clear hw2 hb2;have HT2:=HT.out.below HB2.out;refine(works4_any w2 HT2.ky HT2.kw HT2.pw).mono ?_;rintro r w3 ⟨rfl,hb3⟩;have HB3:=hid (HB2.out.trans (hb3.mono HB2.out.size));clear hb3 HT2;go_wp2_with fail
  go_ret
  exact⟨rfl,HB3.out⟩
 ·have hsm:=parse_small hTs hp;have hlm:=parse_lim hTs hp;refine(Parse_eq4 w HT.out.ky hTs hp).mono ?_;rintro r w1 ⟨⟨b,c,e,f,rfl,hv⟩,hb1⟩;by_cases hN:m.nodes.length=0
  ·obtain⟨A1,c1,A2,c2,A3,c3,A4,c4,rfl,rfl,rfl,rfl,hrd⟩:=hv.rd hsm;have hN2:m.toI.nodes.length=0:=by rw[← hN];exact List.length_map ..
   rw[hN2];have HB1:=hid hb1;clear hv hrd hb1 hp hsm hlm hN hN2 hTs;go_wp2_with fail
   have hb2:=HB1.out.alloc HB1.out.size (.cells #[.string m.nm,.slice A1 m.toI.imports.length c1,.slice A2 m.toI.types.length c2,.slice A3 m.toI.fns.length c3,.slice A4 0 c4] 27);generalize hw2:w1.alloc (.cells #[.string m.nm,.slice A1 m.toI.imports.length c1,.slice A2 m.toI.types.length c2,.slice A3 m.toI.fns.length c3,.slice A4 0 c4] 27)=w2 at hb2 ⊢;have HB2:=hid hb2;clear hw2 hb2;have HT2:=HT.out.below HB2.out;refine(works4_any w2 HT2.ky HT2.kw HT2.pw).mono ?_;rintro r w3 ⟨rfl,hb3⟩;have HB3:=hid (HB2.out.trans (hb3.mono HB2.out.size));clear hb3 HT2;go_wp2_with fail
   go_ret
   exact⟨rfl,HB3.out⟩
  ·have hNp:0<m.toI.nodes.length:=by rw[show m.toI.nodes.length=m.nodes.length from List.length_map ..];omega
   have hNle:(m.toI.nodes.length:Int)≤4000:=by rw[show m.toI.nodes.length=m.nodes.length from List.length_map ..];have:=hsm.nodes;omega
   obtain⟨n,hn,hnl⟩:∃ n:Nat,bring4 which (m.toI.nodes.length:Int)=(n:Int)∧n<m.toI.nodes.length:=by
    obtain⟨h1,h2⟩:=bring4_nat which (m.toI.nodes.length:Int) (by omega)
    exact⟨(bring4 which (m.toI.nodes.length:Int)).toNat,by omega,by omega⟩
   obtain⟨y,hy⟩:∃ y,m.nodes[n]? = some y:=⟨_,List.getElem?_eq_getElem (by rw[show m.toI.nodes.length=m.nodes.length from List.length_map ..] at hnl;exact hnl)⟩
   obtain⟨A1,c1,A2,c2,A3,c3,q,c4,cur,KA,kc,LA,lc,rfl,rfl,rfl,rfl,hqB,hset,hrd⟩:=mod_set hv hsm hy;have HNI:=hid (NiB.of (hlm.nodes y (List.mem_of_getElem? hy)));have HKL:=hid (And.intro (hsm.keys y (List.mem_of_getElem? hy)) (And.intro (hsm.l y (List.mem_of_getElem? hy)) (hlm.nodes y (List.mem_of_getElem? hy))));have HSM:=hid hsm;have HLM:=hid hlm;have HSET:=hid hset;have HB1:=hid hb1;have HQB:=hid hqB;have hNI:((m.toI.nodes.length:Int)==0)=false:=beq_eq_false_iff_ne.2 (by omega)
   have hNI2:¬((m.toI.nodes.length:Int)=0):=by omega
   clear hv hrd hb1 hp hsm hlm hN hTs hset hy hqB;go_wp2_with fail
   have z2:=Blk.new w1 27 #[.string m.nm,.slice A1 m.toI.imports.length c1,.slice A2 m.toI.types.length c2,.slice A3 m.toI.fns.length c3,.slice (some ⟨q,0,none⟩) m.toI.nodes.length c4];have b2:=(Below.refl w1.heap.size w1).alloc (Nat.le_refl _) (.cells #[.string m.nm,.slice A1 m.toI.imports.length c1,.slice A2 m.toI.types.length c2,.slice A3 m.toI.fns.length c3,.slice (some ⟨q,0,none⟩) m.toI.nodes.length c4] 27);have s2:(w1.alloc (.cells #[.string m.nm,.slice A1 m.toI.imports.length c1,.slice A2 m.toI.types.length c2,.slice A3 m.toI.fns.length c3,.slice (some ⟨q,0,none⟩) m.toI.nodes.length c4] 27)).heap.size=w1.heap.size+1:=by simp
   generalize hw2:w1.alloc (.cells #[.string m.nm,.slice A1 m.toI.imports.length c1,.slice A2 m.toI.types.length c2,.slice A3 m.toI.fns.length c3,.slice (some ⟨q,0,none⟩) m.toI.nodes.length c4] 27)=w2 at z2 b2 s2 ⊢;obtain⟨mb,hmb⟩:∃ g,w1.heap.size=g:=⟨_,rfl⟩;rw[hmb] at z2 s2 ⊢;have HMB:=hid hmb;have Z2:=hid z2;have B2:=hid b2;have S2:=hid s2;clear hw2 hmb;refine(bring4_any which (m.toI.nodes.length:Int) w2 (by omega) (by omega)).mono ?_
   rintro r w2' ⟨rfl,rfl⟩;rw[hn];have hnI:(n:Int)<(m.toI.nodes.length:Int):=by omega
   have hn0:(0:Int)≤(n:Int):=by omega
   have m4:w2.cell? ⟨mb,4,none⟩=some (.slice (some ⟨q,0,none⟩) m.toI.nodes.length c4):=z2.cell 4;have hrow:=HSET.out.row.below b2 HSET.out.row.lt;have r0:w2.cell? ⟨q,n*6,none⟩=some (.int .i64 (y.kind:Int)):=by rw[hrow.cell];exact HSET.out.c0
   have r1:w2.cell? ⟨q,n*6+1,none⟩=some (.int .i64 (y.num:Int)):=by rw[hrow.cell];exact HSET.out.c1
   have r2:w2.cell? ⟨q,n*6+2,none⟩=some (.string y.md):=by rw[hrow.cell];exact HSET.out.c2
   have r3:w2.cell? ⟨q,n*6+3,none⟩=some (.string y.nm):=by rw[hrow.cell];exact HSET.out.c3
   have r4:w2.cell? ⟨q,n*6+4,none⟩=some (.slice KA y.keys.length kc):=by rw[hrow.cell];exact HSET.out.c4
   have r5:w2.cell? ⟨q,n*6+5,none⟩=some (.slice LA y.l.length lc):=by rw[hrow.cell];exact HSET.out.c5
   have HROW:=hid hrow;clear hn b2 z2 s2 hrow;go_wp2_with fail
   have z3:=Blk.new w2 53 #[.int .i64 (y.kind:Int),.int .i64 (y.num:Int),.string y.md,.string y.nm,.slice KA y.keys.length kc,.slice LA y.l.length lc];have b3:=(Below.refl w2.heap.size w2).alloc (Nat.le_refl _) (.cells #[.int .i64 (y.kind:Int),.int .i64 (y.num:Int),.string y.md,.string y.nm,.slice KA y.keys.length kc,.slice LA y.l.length lc] 53);generalize hw3:w2.alloc (.cells #[.int .i64 (y.kind:Int),.int .i64 (y.num:Int),.string y.md,.string y.nm,.slice KA y.keys.length kc,.slice LA y.l.length lc] 53)=w3 at z3 b3 ⊢;obtain⟨xb,hxb⟩:∃ g,w2.heap.size=g:=⟨_,rfl⟩;rw[hxb] at z3 ⊢;have HXB:=hid hxb;have Z3:=hid z3;have B3:=hid b3;clear hw3 hxb r0 r1 r2 r3 r4 r5 m4 z3 b3;refine(bring4_any how 6 w3 (by omega) (by omega)).mono ?_
   rintro r w3' ⟨rfl,rfl⟩;obtain⟨h,hh,hh0,hhl⟩:∃ h:Int,bring4 how 6=h∧0≤h∧h<6:=by
    obtain⟨h1,h2⟩:=bring4_nat how 6 (by omega)
    exact⟨_,rfl,by omega,by omega⟩
   rw[hh];clear hh
   go_upto_block 0 with(fail)
   go_cut [] (fun wx=>XOk w3 q xb wx)
   case first =>
    have hx1:w1.heap.size≤xb:=by have:=S2.out;have:=HXB.out;have:=HMB.out;omega
    have hqm:q<w1.heap.size:=HSET.out.row.lt;have K13:=hid ((Kept.of_below B2.out (fun i=>i=q)).trans (Kept.of_below B3.out (fun i=>i=q)) (fun _ _ h=>h))
    have hnm:(y.nm.size:Int)≤65537:=by have:=HKL.out.2.2.nm;omega
    have hnu:(y.num:Int)≤4611686018427387904:=by have:=HKL.out.2.2.num;unfold numT at this;omega
    have hnu0:(0:Int)≤(y.num:Int):=by omega
    have x0:w3.cell? ⟨xb,0,none⟩=some (.int .i64 (y.kind:Int)):=Z3.out.cell 0;have x1:w3.cell? ⟨xb,1,none⟩=some (.int .i64 (y.num:Int)):=Z3.out.cell 1;have x2:w3.cell? ⟨xb,2,none⟩=some (.string y.md):=Z3.out.cell 2;have x3:w3.cell? ⟨xb,3,none⟩=some (.string y.nm):=Z3.out.cell 3;have x4:w3.cell? ⟨xb,4,none⟩=some (.slice KA y.keys.length kc):=Z3.out.cell 4;have x5:w3.cell? ⟨xb,5,none⟩=some (.slice LA y.l.length lc):=Z3.out.cell 5;have g0:=Z3.out.frozen 0;have g1:=Z3.out.frozen 1;have g2:=Z3.out.frozen 2;have g3:=Z3.out.frozen 3;have g4:=Z3.out.frozen 4;have g5:=Z3.out.frozen 5;rcases(by omega:h=0∨h=1∨h=2∨h=3∨h=4∨h=5) with rfl | rfl | rfl | rfl | rfl | rfl
    ·go_wp2_with fail
     refine K_start 4 (fun u=>u.cell? ⟨xb,0,none⟩=some (.int .i64 (y.kind:Int))) (by kernel_rfl) ?_
     have hS:w3.drew.cell? ⟨xb,0,none⟩=some (.int .i64 (y.kind:Int)):=x0;have hF:w3.drew.frozen? ⟨xb,0,none⟩=false:=g0;refine K_pure (i:=0) (v:=?_) rfl (by kernel_rfl) (by kernel_rfl) (by kernel_rfl) (by decide) (fun _ _ _ h=>h) (fun _=>hS) (by rfl) ?_ ?_
     rotate_left
     ·intro u
      go_simp
      try with_reducible rfl
     simp only[Act.put,List.setIfInBounds_toArray,List.set_cons_zero,List.set_cons_succ];refine K_take (i:=1) (v:=?_) rfl (by kernel_rfl) (by kernel_rfl) (by kernel_rfl) (by kernel_rfl) (by kernel_rfl) (fun _ _ _ h=>h) hS (by rfl) ?_ ?_
     rotate_left
     ·intro u hu
      go_simp
      try with_reducible rfl
     simp only[Act.put,List.setIfInBounds_toArray,List.set_cons_zero,List.set_cons_succ];refine K_pure (i:=2) (v:=?_) rfl (by kernel_rfl) (by kernel_rfl) (by kernel_rfl) (by decide) (fun _ _ _ h=>h) (fun _=>hS) (by rfl) ?_ ?_
     rotate_left
     ·intro u
      go_simp
      try with_reducible rfl
     simp only[Act.put,List.setIfInBounds_toArray,List.set_cons_zero,List.set_cons_succ];refine K_one (i:=3) (by kernel_rfl) rfl (fun K hK=>?_)
     go_simp
     refine(bring4_any which 20 w3.drew (by omega) (by omega)).mono ?_
     rintro r w3' ⟨rfl,rfl⟩;obtain⟨bb,hbb⟩:∃ b,bring4 which 20=b:=⟨_,rfl⟩;rw[hbb];clear hbb;refine hK _ _ (fun _=>hS) ?_
     clear hK K;refine K_one (i:=4) (by kernel_rfl) rfl (fun K hK=>?_)
     go_simp
     refine hK _ _ (fun h=>absurd h (by decide)) ?_
     clear hK K;refine K_pure (i:=5) (v:=?_) rfl (by kernel_rfl) (by kernel_rfl) (by kernel_rfl) (by decide) (fun _ _ _ h=>h) (fun h=>absurd h (by decide)) (by rfl) ?_ ?_
     rotate_left
     ·intro u
      go_simp
      try with_reducible rfl
     simp only[Act.put,List.setIfInBounds_toArray,List.set_cons_zero,List.set_cons_succ];refine K_pure (i:=6) (v:=?_) rfl (by kernel_rfl) (by kernel_rfl) (by kernel_rfl) (by decide) (fun _ _ _ h=>h) (fun h=>absurd h (by decide)) (by rfl) ?_ ?_
     rotate_left
     ·intro u
      go_simp
      try with_reducible rfl
     simp only[Act.put,List.setIfInBounds_toArray,List.set_cons_zero,List.set_cons_succ];refine K_pure (i:=7) (v:=?_) rfl (by kernel_rfl) (by kernel_rfl) (by kernel_rfl) (by decide) (fun _ _ _ h=>h) (fun h=>absurd h (by decide)) (by rfl) ?_ ?_
     rotate_left
     ·intro u
      go_simp
      try with_reducible rfl
     simp only[Act.put,List.setIfInBounds_toArray,List.set_cons_zero,List.set_cons_succ];refine K_one (i:=8) (by kernel_rfl) rfl (fun K hK=>?_)
     go_simp
     refine hK _ _ (fun h=>absurd h (by decide)) ?_
     clear hK K hS hF;refine K_done (by kernel_rfl) ?_
     go_wp2_with fail
     go_meet
     exact XOk.drew (XOk.one (w3:=w3.drew) HSET.out K13.out.drew hx1 HKL.out.1 HKL.out.2.1 Z3.out { y.toI with kind:=IntKind.i64.wrap (1+(IntKind.i64.wrap ((y.kind:Int)+bb)).tmod 24) } rfl rfl ⟨HNI.out.1.nm,HNI.out.1.md,HNI.out.1.keys,HNI.out.1.num⟩ HNI.out.2.1 HNI.out.2.2 0 _ rfl)
    ·have hbig:(9223372036854775807<y.nm.size+1)=False:=by simp;omega
     go_wp2_with fail
     go_meet
     exact XOk.one HSET.out K13.out hx1 HKL.out.1 HKL.out.2.1 Z3.out { y.toI with nm:=y.nm++⟨#[120]⟩ } rfl rfl ⟨by show(y.nm++_).size≤_;rw[ByteArray.size_append];show y.nm.size+1≤_;omega,HNI.out.1.md,HNI.out.1.keys,HNI.out.1.num⟩ HNI.out.2.1 HNI.out.2.2 3 _ rfl
    ·go_wp2_with fail
     go_meet
     exact XOk.one HSET.out K13.out hx1 HKL.out.1 HKL.out.2.1 Z3.out { y.toI with num:=(y.num:Int)+1 } rfl rfl ⟨HNI.out.1.nm,HNI.out.1.md,HNI.out.1.keys,itoa_small (by show _≤(y.num:Int)+1;omega) (by show(y.num:Int)+1≤_;omega)⟩ (by show _≤(y.num:Int)+1;omega) (by show(y.num:Int)+1≤_;omega) 1 _ rfl
    ·obtain⟨i0,hi,hz0,hz1,hz2⟩:=info_parts info_int4;have HI:=hid hi;have HZ0:=hid hz0;have HZ1:=hid hz1;have HZ2:=hid hz2;have HRD:=hid (HSET.out.l w3 K13.out);have HN:=hid (HKL.out.2.1);clear hi hz0 hz1 hz2;have a5:(w3.alloc (.cells #[] 3)).cell? ⟨xb,5,none⟩=some (.slice LA y.l.length lc):=(Z3.out.alloc _).cell 5;go_wp2_with (at_builtin;refine unhid ?_)
     refine hid ?_;refine wp_copy4 rfl _ _ 46 3 rfl Tryz.underlying46 i0 HI.out _ HZ0.out 8 HZ1.out HZ2.out rfl (by decide) w3 _ rfl rfl LA y.l.length lc (y.toI.l.flatMap iC) rfl ?_ HRD.out (iC_one _) (by have:=HN.out;omega) ?_
     ·rw[iC_len];exact List.length_map ..
     intro B5 cap5 w5 hown5 hb5 hs5;have HO5:=hid hown5;have HB5:=hid hb5;have HS5:=hid hs5;clear a5 hown5 hb5 hs5;go_wp2_with (at_builtin;refine unhid ?_)
     refine hid ?_;refine wp_push4 rfl _ _ 46 3 rfl Tryz.underlying46 i0 HI.out _ HZ0.out 8 HZ1.out HZ2.out rfl (by decide) w5 w3.heap.size HS5.out B5 y.l.length cap5 (y.toI.l.flatMap iC) rfl HO5.out _ _ rfl (.int .i64 0) rfl rfl (by have:=HN.out;omega) ?_
     intro g6 cap6 w6 hown6 hb6 hs6;have hb36:=HB5.out.trans hb6;have z6:=Z3.out.below hb36 Z3.out.lt;have c6:w6.cell? ⟨xb,5,none⟩=some (.slice LA y.l.length lc):=z6.cell 5;have f6:=z6.frozen 5;have HB36:=hid hb36;have HO6:=hid hown6;clear hb36 z6 hown6 hb6 hs6 x0 x1 x2 x3 x4 x5 g0 g1 g2 g3 g4 g5;go_wp2_with fail
     go_meet
     exact XOk.l_ HSET.out K13.out hx1 HKL.out.1 HKL.out.2.1 Z3.out hqm w6 HB36.out g6 cap6 (by rw[List.flatMap_append];exact HO6.out) HNI.out.1 HNI.out.2.1 HNI.out.2.2
    ·obtain⟨i0,hi,hz0,hz1,hz2⟩:=info_parts info_string3;have HI:=hid hi;have HZ0:=hid hz0;have HZ1:=hid hz1;have HZ2:=hid hz2;have HRD:=hid (HSET.out.keys w3 K13.out);have HN:=hid (HKL.out.1);clear hi hz0 hz1 hz2;have a5:(w3.alloc (.cells #[] 9)).cell? ⟨xb,4,none⟩=some (.slice KA y.keys.length kc):=(Z3.out.alloc _).cell 4;go_wp2_with (at_builtin;refine unhid ?_)
     refine hid ?_;refine wp_copy4 rfl _ _ 22 9 rfl Tryz.underlying22 i0 HI.out _ HZ0.out 16 HZ1.out HZ2.out rfl (by decide) w3 _ rfl rfl KA y.keys.length kc (y.keys.flatMap sC) rfl ?_ HRD.out (sC_one _) (by have:=HN.out;omega) ?_
     ·exact sC_len4 _
     intro B5 cap5 w5 hown5 hb5 hs5;have HO5:=hid hown5;have HB5:=hid hb5;have HS5:=hid hs5;clear a5 hown5 hb5 hs5;go_wp2_with (at_builtin;refine unhid ?_)
     refine hid ?_;refine wp_push4 rfl _ _ 22 9 rfl Tryz.underlying22 i0 HI.out _ HZ0.out 16 HZ1.out HZ2.out rfl (by decide) w5 w3.heap.size HS5.out B5 y.keys.length cap5 (y.keys.flatMap sC) rfl HO5.out _ _ rfl (.string (⟨#[107]⟩:ByteArray)) rfl rfl (by have:=HN.out;omega) ?_
     intro g6 cap6 w6 hown6 hb6 hs6;have hb36:=HB5.out.trans hb6;have z6:=Z3.out.below hb36 Z3.out.lt;have c6:w6.cell? ⟨xb,4,none⟩=some (.slice KA y.keys.length kc):=z6.cell 4;have f6:=z6.frozen 4;have HB36:=hid hb36;have HO6:=hid hown6;clear hb36 z6 hown6 hb6 hs6 x0 x1 x2 x3 x4 x5 g0 g1 g2 g3 g4 g5;go_wp2_with fail
     go_meet
     exact XOk.k_ HSET.out K13.out hx1 HKL.out.1 HKL.out.2.1 Z3.out hqm w6 HB36.out g6 cap6 (by rw[List.flatMap_append];exact HO6.out) HNI.out.1 HNI.out.2.1 HNI.out.2.2
    ·go_wp2_with fail
     go_meet
     exact XOk.one HSET.out K13.out hx1 HKL.out.1 HKL.out.2.1 Z3.out { y.toI with md:=⟨#[108,101,116]⟩ } rfl rfl ⟨HNI.out.1.nm,(show(⟨#[108,101,116]⟩:ByteArray).size≤65540 by decide),HNI.out.1.keys,HNI.out.1.num⟩ HNI.out.2.1 HNI.out.2.2 2 _ rfl
   case rest =>
    obtain⟨x,KX,LX,kx,lx,hxb,hrdx,hk1,hl1,hnx,hx0,hx1,hkp⟩:=hcut;have hxm:mb≠xb:=by have:=S2.out;have:=HXB.out;omega
    have hqm:q<w1.heap.size:=HSET.out.row.lt;have hxq:q≠xb:=by have:=S2.out;have:=HXB.out;have:=HMB.out;omega
    have hmx:Blk wc mb 27 #[.string m.nm,.slice A1 m.toI.imports.length c1,.slice A2 m.toI.types.length c2,.slice A3 m.toI.fns.length c3,.slice (some ⟨q,0,none⟩) m.toI.nodes.length c4]:=hkp.blk (Z2.out.below B3.out Z2.out.lt) hxm;have hqx:Blk wc q 53 cur:=hkp.blk (HROW.out.below B3.out HROW.out.lt) hxq;have h6:=(((((hqx.set_ (n*6) (.int .i64 x.kind)).set_ (n*6+1) (.int .i64 x.num)).set_ (n*6+2) (.string x.md)).set_ (n*6+3) (.string x.nm)).set_ (n*6+4) (.slice KX x.keys.length kx)).set_ (n*6+5) (.slice LX x.l.length lx);have k6:=(((((((Kept.refl (fun i=>i=q) wc).setCell (p:=⟨q,n*6,none⟩) (fun _=>rfl) (.int .i64 x.kind)).setCell (p:=⟨q,n*6+1,none⟩) (fun _=>rfl) (.int .i64 x.num)).setCell (p:=⟨q,n*6+2,none⟩) (fun _=>rfl) (.string x.md)).setCell (p:=⟨q,n*6+3,none⟩) (fun _=>rfl) (.string x.nm)).setCell (p:=⟨q,n*6+4,none⟩) (fun _=>rfl) (.slice KX x.keys.length kx)).setCell (p:=⟨q,n*6+5,none⟩) (fun _=>rfl) (.slice LX x.l.length lx))
    have m4:wc.cell? ⟨mb,4,none⟩=some (.slice (some ⟨q,0,none⟩) m.toI.nodes.length c4):=hmx.cell 4;have x0:wc.cell? ⟨xb,0,none⟩=some (.int .i64 x.kind):=hxb.cell 0;have x1:wc.cell? ⟨xb,1,none⟩=some (.int .i64 x.num):=hxb.cell 1;have x2:wc.cell? ⟨xb,2,none⟩=some (.string x.md):=hxb.cell 2;have x3:wc.cell? ⟨xb,3,none⟩=some (.string x.nm):=hxb.cell 3;have x4:wc.cell? ⟨xb,4,none⟩=some (.slice KX x.keys.length kx):=hxb.cell 4;have x5:wc.cell? ⟨xb,5,none⟩=some (.slice LX x.l.length lx):=hxb.cell 5;have r0:wc.cell? ⟨q,n*6,none⟩=some (.int .i64 (y.kind:Int)):=by rw[hqx.cell];exact HSET.out.c0
    have r1:wc.cell? ⟨q,n*6+1,none⟩=some (.int .i64 (y.num:Int)):=by rw[hqx.cell];exact HSET.out.c1
    have r2:wc.cell? ⟨q,n*6+2,none⟩=some (.string y.md):=by rw[hqx.cell];exact HSET.out.c2
    have r3:wc.cell? ⟨q,n*6+3,none⟩=some (.string y.nm):=by rw[hqx.cell];exact HSET.out.c3
    have r4:wc.cell? ⟨q,n*6+4,none⟩=some (.slice KA y.keys.length kc):=by rw[hqx.cell];exact HSET.out.c4
    have r5:wc.cell? ⟨q,n*6+5,none⟩=some (.slice LA y.l.length lc):=by rw[hqx.cell];exact HSET.out.c5
    have f0:=hqx.frozen (n*6);have f1:=hqx.frozen (n*6+1);have f2:=hqx.frozen (n*6+2);have f3:=hqx.frozen (n*6+3);have f4:=hqx.frozen (n*6+4);have f5:=hqx.frozen (n*6+5);have H6:=hid h6;have K6:=hid k6;have HXX:=hid (And.intro hrdx (And.intro hk1 (And.intro hl1 (And.intro hnx (And.intro hx0 hx1)))));have HKP:=hid hkp;have HMX:=hid hmx;have HNE:=hid (And.intro hxm (And.intro hqm hxq));clear h6 k6 hrdx hk1 hl1 hnx hx0 hx1 hkp hmx hxb hqx hxm hqm hxq
    go_upto_region 19 with(fail)
    have h6:=H6.out;have k6:=K6.out;clear H6 K6;generalize hw6:((((((wc.setCell ⟨q,n*6,none⟩ (.int .i64 x.kind)).setCell ⟨q,n*6+1,none⟩ (.int .i64 x.num)).setCell ⟨q,n*6+2,none⟩ (.string x.md)).setCell ⟨q,n*6+3,none⟩ (.string x.nm)).setCell ⟨q,n*6+4,none⟩ (.slice KX x.keys.length kx)).setCell ⟨q,n*6+5,none⟩ (.slice LX x.l.length lx))=w6 at h6 k6 ⊢;clear hw6 m4 x0 x1 x2 x3 x4 x5 r0 r1 r2 r3 r4 r5 f0 f1 f2 f3 f4 f5;have k63:Kept (fun i=>i=q) w2 w6:=((Kept.of_below B3.out (fun i=>i=q)).trans HKP.out (fun i hi h=>by have:=HXB.out;omega)).trans k6 (fun _ _ h=>h)
    have k61:Kept (fun i=>i=q) w1 w6:=(Kept.of_below B2.out (fun i=>i=q)).trans k63 (fun _ _ h=>h)
    have k60:Kept (fun i=>i=q) w w6:=(Kept.of_below HB1.out (fun i=>i=q)).trans k61 (fun _ _ h=>h)
    have hb6:Below w.heap.size w w6:=k60.below (Nat.le_refl _) (fun i hi h=>by have:=HQB.out;omega)
    obtain⟨mi,hmi⟩:∃ mi,mi={ m.toI with nodes:=m.toI.nodes.set n x }:=⟨_,rfl⟩
    have hrd6:MdR w6 mi A1 A2 A3 (some ⟨q,0,none⟩):=by rw[hmi];exact HSET.out.then_ w6 x KX LX kx lx k61 h6 (HXX.out.1 w6 k6).1 (HXX.out.1 w6 k6).2 HXX.out.2.1 HXX.out.2.2.1
    have hfine:Fine4 65536 mi:=by rw[hmi];exact fine_odd HLM.out HSM.out HXX.out.2.2.2.1 HXX.out.2.2.2.2.1 HXX.out.2.2.2.2.2
    have e0:mi.nm=m.nm:=by rw[hmi];rfl
    have e1:mi.imports=m.toI.imports:=by rw[hmi]
    have e2:mi.types=m.toI.types:=by rw[hmi]
    have e3:mi.fns=m.toI.fns:=by rw[hmi]
    have e4:mi.nodes.length=m.toI.nodes.length:=by rw[hmi];exact List.length_set ..
    have hzm:Blk w6 mb 27 #[.string mi.nm,.slice A1 mi.imports.length c1,.slice A2 mi.types.length c2,.slice A3 mi.fns.length c3,.slice (some ⟨q,0,none⟩) mi.nodes.length c4]:=by
     rw[e0,e1,e2,e3,e4];exact k6.blk HMX.out (by have:=HNE.out.2.1;have:=HMB.out;omega)
    have hT6:=HT.out.below hb6;have HBASE:=hid (Base4.mk hrd6 hT6.ky hT6.kw hT6.pw);have HFINE:=hid hfine;have HB6:=hid hb6;have HZM:=hid hzm;have HT6:=hid hT6;have s60:w6.cell? ⟨mb,0,none⟩=some (.string mi.nm):=HZM.out.cell 0;have s61:w6.cell? ⟨mb,1,none⟩=some (.slice A1 mi.imports.length c1):=HZM.out.cell 1;have s62:w6.cell? ⟨mb,2,none⟩=some (.slice A2 mi.types.length c2):=HZM.out.cell 2;have s63:w6.cell? ⟨mb,3,none⟩=some (.slice A3 mi.fns.length c3):=HZM.out.cell 3;have s64:w6.cell? ⟨mb,4,none⟩=some (.slice (some ⟨q,0,none⟩) mi.nodes.length c4):=HZM.out.cell 4;clear hrd6 hfine hmi e0 e1 e2 e3 e4 hT6 hb6 k60 k61 k63 k6 h6 HXX HKP HMX HSET HLM HSM HB1 HQB HNI hNI hNI2 HMB Z2 B2 S2 HROW HXB Z3 B3 HNE hzm hNp hNle hnl hnI hn0 hh0 hhl HKL;go_wp2_with fail
    refine(Module_any mi A1 A2 A3 (some ⟨q,0,none⟩) c1 c2 c3 c4 w6 HBASE.out HFINE.out).mono ?_;rintro e w7 ⟨he,hb7⟩;have HBASE7:=hid (HBASE.out.below hb7);have HT7:=hid (HT6.out.below hb7);have HB7:=hid (HB6.out.trans (hb7.mono HB6.out.size));have HZM7:=hid (HZM.out.below hb7 HZM.out.lt);clear s60 s61 s62 s63 s64 hb7;cases hp:printS mi with
    | none =>
     rw[hp] at he;subst he;have HC:Hid (checkS mi=2):=hid (by rw[checkS,hp])
     clear hp;have s70:w7.cell? ⟨mb,0,none⟩=some (.string mi.nm):=HZM7.out.cell 0;have s71:w7.cell? ⟨mb,1,none⟩=some (.slice A1 mi.imports.length c1):=HZM7.out.cell 1;have s72:w7.cell? ⟨mb,2,none⟩=some (.slice A2 mi.types.length c2):=HZM7.out.cell 2;have s73:w7.cell? ⟨mb,3,none⟩=some (.slice A3 mi.fns.length c3):=HZM7.out.cell 3;have s74:w7.cell? ⟨mb,4,none⟩=some (.slice (some ⟨q,0,none⟩) mi.nodes.length c4):=HZM7.out.cell 4;go_wp2_with fail
     refine(Check_any mi A1 A2 A3 (some ⟨q,0,none⟩) c1 c2 c3 c4 w7 HBASE7.out HFINE.out).mono ?_;rintro e w8 ⟨rfl,hb8⟩;rw[HC.out];have HT8:=hid (HT7.out.below hb8);have HB8:=hid (HB7.out.trans (hb8.mono HB7.out.size));clear s70 s71 s72 s73 s74 hb8;go_wp2_with fail
     refine(works4_any w8 HT8.out.ky HT8.out.kw HT8.out.pw).mono ?_;rintro r w9 ⟨rfl,hb9⟩;have HB9:=hid (HB8.out.trans (hb9.mono HB8.out.size));clear hb9;go_wp2_with fail
     go_ret
     exact⟨rfl,HB9.out⟩
    | some t =>
     rw[hp] at he;subst he;have HC:Hid (checkS mi=0):=hid (by rw[checkS,hp])
     obtain⟨htl,m2,hpl,hm2⟩:=printS_some hp;have HPL:=hid hpl;have HM2:=hid hm2;have HTL:=hid htl;clear hp hpl hm2 htl;go_wp2_with fail
     refine(parse_R4 t w7 HT7.out.ky (by have:=HTL.out;simp only[maxLen];omega)).mono ?_
     rintro r w8 ⟨⟨mk,er,at_,B1,B2,B3,B4,n1,n2,n3,n4,rfl,HMK,HRS,HAT⟩,hb8⟩;obtain⟨hk,rfl⟩:mi=mk∧er=0:=by
      have h1:=HRS.out;rw[HPL.out] at h1;exact⟨(h1.1.trans HM2.out).symm,h1.2⟩
     subst hk;have HBASE8:=hid (HBASE7.out.below hb8);have HT8:=hid (HT7.out.below hb8);have HB8:=hid (HB7.out.trans (hb8.mono HB7.out.size));have HZM8:=hid (HZM7.out.below hb8 HZM7.out.lt);clear hb8 HRS HAT HPL HM2 HTL HT7 HB7 HZM7 HBASE7 HBASE HB6 HZM HT6
     go_upto_region 23 with(fail)
     have b9:=(Below.refl w8.heap.size w8).alloc (Nat.le_refl _) (.cells #[.string mi.nm,.slice B1 mi.imports.length n1,.slice B2 mi.types.length n2,.slice B3 mi.fns.length n3,.slice B4 mi.nodes.length n4] 27);have z9:=Blk.new w8 27 #[.string mi.nm,.slice B1 mi.imports.length n1,.slice B2 mi.types.length n2,.slice B3 mi.fns.length n3,.slice B4 mi.nodes.length n4];generalize hw9:w8.alloc (.cells #[.string mi.nm,.slice B1 mi.imports.length n1,.slice B2 mi.types.length n2,.slice B3 mi.fns.length n3,.slice B4 mi.nodes.length n4] 27)=w9 at b9 z9 ⊢;obtain⟨kb,hkb⟩:∃ g,w8.heap.size=g:=⟨_,rfl⟩;have HBASE9:=hid (HBASE8.out.below b9);have HMK9:=hid (HMK.out.below b9);have HT9:=hid (HT8.out.below b9);have HB9:=hid (HB8.out.trans (b9.mono HB8.out.size));have HZM9:=hid (HZM8.out.below b9 HZM8.out.lt);rw[hkb] at z9 ⊢;have k0:w9.cell? ⟨kb,0,none⟩=some (.string mi.nm):=z9.cell 0;have k1:w9.cell? ⟨kb,1,none⟩=some (.slice B1 mi.imports.length n1):=z9.cell 1;have k2:w9.cell? ⟨kb,2,none⟩=some (.slice B2 mi.types.length n2):=z9.cell 2;have k3:w9.cell? ⟨kb,3,none⟩=some (.slice B3 mi.fns.length n3):=z9.cell 3;have k4:w9.cell? ⟨kb,4,none⟩=some (.slice B4 mi.nodes.length n4):=z9.cell 4;have s90:w9.cell? ⟨mb,0,none⟩=some (.string mi.nm):=HZM9.out.cell 0;have s91:w9.cell? ⟨mb,1,none⟩=some (.slice A1 mi.imports.length c1):=HZM9.out.cell 1;have s92:w9.cell? ⟨mb,2,none⟩=some (.slice A2 mi.types.length c2):=HZM9.out.cell 2;have s93:w9.cell? ⟨mb,3,none⟩=some (.slice A3 mi.fns.length c3):=HZM9.out.cell 3
     have s94:w9.cell? ⟨mb,4,none⟩=some (.slice (some ⟨q,0,none⟩) mi.nodes.length c4):=HZM9.out.cell 4;clear hw9 b9 hkb z9 HBASE8 HMK HT8 HB8 HZM8;go_wp2_with fail
     refine(Same_any mi mi A1 A2 A3 (some ⟨q,0,none⟩) B1 B2 B3 B4 c1 c2 c3 c4 n1 n2 n3 n4 w9 HBASE9.out.rd HMK9.out).mono ?_;rintro r w10 ⟨rfl,hb10⟩;rw[decide_eq_true rfl];have HBASE10:=hid (HBASE9.out.below hb10);have HT10:=hid (HT9.out.below hb10);have HB10:=hid (HB9.out.trans (hb10.mono HB9.out.size));have HZM10:=hid (HZM9.out.below hb10 HZM9.out.lt);clear hb10 s90 s91 s92 s93 s94 k0 k1 k2 k3 k4;have sx0:w10.cell? ⟨mb,0,none⟩=some (.string mi.nm):=HZM10.out.cell 0;have sx1:w10.cell? ⟨mb,1,none⟩=some (.slice A1 mi.imports.length c1):=HZM10.out.cell 1;have sx2:w10.cell? ⟨mb,2,none⟩=some (.slice A2 mi.types.length c2):=HZM10.out.cell 2;have sx3:w10.cell? ⟨mb,3,none⟩=some (.slice A3 mi.fns.length c3):=HZM10.out.cell 3;have sx4:w10.cell? ⟨mb,4,none⟩=some (.slice (some ⟨q,0,none⟩) mi.nodes.length c4):=HZM10.out.cell 4;go_wp2_with fail
     refine(Check_any mi A1 A2 A3 (some ⟨q,0,none⟩) c1 c2 c3 c4 w10 HBASE10.out HFINE.out).mono ?_;rintro e w11 ⟨rfl,hb11⟩;rw[HC.out];have HT11:=hid (HT10.out.below hb11);have HB11:=hid (HB10.out.trans (hb11.mono HB10.out.size));clear hb11 sx0 sx1 sx2 sx3 sx4;go_wp2_with fail
     refine(works4_any w11 HT11.out.ky HT11.out.kw HT11.out.pw).mono ?_;rintro r w12 ⟨rfl,hb12⟩;have HB12:=hid (HB11.out.trans (hb12.mono HB11.out.size));clear hb12;go_wp2_with fail
     go_ret
     exact⟨rfl,HB12.out⟩
end
end Go.Proofs.YtmpaemchjehjbaaGreatDoor
