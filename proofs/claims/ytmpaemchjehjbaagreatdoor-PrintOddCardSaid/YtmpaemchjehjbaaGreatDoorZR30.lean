/- Contracts and plain facts that the theorem rests on: POrdW. -/
import Derived.Test.YtmpaemchjehjbaaGreatDoorZR22
import Derived.Test.YtmpaemchjehjbaaGreatDoorZR18
import Derived.Deep.RegionHeld3
set_option linter.unusedSimpArgs false
set_option linter.unusedVariables false
namespace Go.Proofs.YtmpaemchjehjbaaGreatDoor
section
open Lib (hid)
open Go.RowKit
theorem info_bool4:(Tryz.prog.info? 4).map (fun i=>(i.zero,i.size,i.bytes))=some (some (.bool false),1,1):=by kernel_rfl
theorem made_one4 (v:Value)(hv:v.cells = #[v])(n:Nat):(madeCells v.cells (n*1)).toList=List.replicate n v:=by
 rw[Nat.mul_one,hv,toList_madeCells_one]
theorem useN_app:∀(l1:List Ni) (i:Nat) (us:List Bool) (l2:List Ni),useN i us (l1++l2)=(useN i us l1).bind fun u=>useN (i+l1.length) u l2:=by
 intro l1;induction l1 with
 | nil=>intro i us l2;rfl
 | cons x l1 ih =>
  intro i us l2;rw[List.cons_append,useN,useN];cases useS i us x.l with
  | none=>rfl
  | some u=>simp only[];rw[ih,List.length_cons,show i+1+l1.length=i+(l1.length+1) by omega]
theorem useN_len:∀(l:List Ni) (i:Nat) (us u:List Bool),useN i us l=some u→u.length=us.length:=by
 intro l;induction l with
 | nil=>intro i us u h;injection h with h;rw[h]
 | cons x l ih =>
  intro i us u h;rw[useN] at h;cases hu:useS i us x.l with
  | none=>rw[hu] at h;cases h
  | some u2=>rw[hu] at h;rw[ih _ _ _ h,useS_len _ _ _ _ hu]
theorem useN_next {nds:List Ni}{us u:List Bool}{k:Nat}{x:Ni}(h:useN 0 us (nds.take k)=some u)(hx:nds[k]? = some x)(hk:k≤nds.length):useN 0 us (nds.take (k+1))=useS k u x.l:=by
 rw[List.take_add_one,hx,Option.toList_some,useN_app,h]
 show useN (0+(nds.take k).length) u [x]=_
 rw[List.length_take,Nat.min_eq_left hk,Nat.zero_add,useN];cases useS k u x.l<;>rfl
theorem useN_none {nds:List Ni}{us:List Bool}{k:Nat}(h:useN 0 us (nds.take k)=none):useN 0 us nds=none:=by
 have e:nds=nds.take k++nds.drop k:=(List.take_append_drop ..).symm;rw[e,useN_app,h];rfl
theorem ordS_false {m:Mi}(h:m.nodes.length≤4000→useN 0 (List.replicate m.nodes.length false) m.nodes=none):ordS m=false:=by
 unfold ordS;by_cases h4:m.nodes.length≤4000
 ·rw[h h4];simp
 ·rw[decide_eq_false h4];rfl
theorem ordS_end {m:Mi}(h4:m.nodes.length≤4000){u:List Bool}(h:useN 0 (List.replicate m.nodes.length false) m.nodes=some u):ordS m=(useS m.nodes.length u (rootsI m)).isSome:=by
 unfold ordS;rw[h,decide_eq_true h4];rfl
theorem use_no (UA:Option Addr)(uc limit ub:Nat)(us:List Bool)(hUA:0<limit→UA=some ⟨ub,0,none⟩)(hlim:limit≤us.length)(huc:limit≤uc)(hl0:(limit:Int)≤9223372036854775807)(A:Option Addr)(c:Nat)(l:List Int)(hl:(l.length:Int)≤9223372036854775807)(w:World)(hu:Blk w ub 4 (boolV us))
  (hr:RdV w A (l.flatMap iC))(hAb:∀ b o,0<l.length→A=some ⟨b,o,none⟩→b≠ub)(hn:useS limit us l=none) :
  Calls Tryz.prog 76 #[.slice UA limit uc,.slice A l.length c] w fun e w'=>e=.returned (.bool false)∧Kept (fun i=>i=ub) w w'∧True:=by
 refine(use_any UA uc limit ub us hUA hlim huc hl0 A c l hl w hu hr hAb).mono ?_;rintro e w' ⟨h1,h2⟩;rw[hn] at h2;exact⟨h2,h1,trivial⟩
theorem use_yes (UA:Option Addr)(uc limit ub:Nat)(us u:List Bool)(hUA:0<limit→UA=some ⟨ub,0,none⟩)(hlim:limit≤us.length)(huc:limit≤uc)(hl0:(limit:Int)≤9223372036854775807)(A:Option Addr)(c:Nat)(l:List Int)(hl:(l.length:Int)≤9223372036854775807)(w:World)(hu:Blk w ub 4 (boolV us))
  (hr:RdV w A (l.flatMap iC))(hAb:∀ b o,0<l.length→A=some ⟨b,o,none⟩→b≠ub)(hn:useS limit us l=some u) :
  Calls Tryz.prog 76 #[.slice UA limit uc,.slice A l.length c] w fun e w'=>e=.returned (.bool true)∧Kept (fun i=>i=ub) w w'∧Blk w' ub 4 (boolV u):=by
 refine(use_any UA uc limit ub us hUA hlim huc hl0 A c l hl w hu hr hAb).mono ?_;rintro e w' ⟨h1,h2⟩;rw[hn] at h2;exact⟨h2.1,h1,h2.2⟩
def OrdOut (m:Mi)(w:World)(e:Ending)(w':World):Prop:=e=.returned (.bool (ordS m))∧Below w.heap.size w w'
set_option maxRecDepth 100000 in
set_option maxHeartbeats 8000000 in
theorem ordered4_any (m:Mi)(A1 A2 A3 A4:Option Addr)(c1 c2 c3 c4:Nat)(w:World)(hm:MdR w m A1 A2 A3 A4)(hr:(rootsI m).length≤1000000000000) :
  Calls Tryz.prog 37 #[.agg #[.string m.nm,.slice A1 m.imports.length c1,.slice A2 m.types.length c2,.slice A3 m.fns.length c3,.slice A4 m.nodes.length c4]] w (OrdOut m w):=by
 have HM:=hid hm;have HRL:=hid hr;have hl4:=hm.l4;clear hm hr;by_cases h4:m.nodes.length≤4000
 ·have h4I:¬(4000:Int)<(m.nodes.length:Int):=by omega
  have hb4:decide ((4000:Int)<(m.nodes.length:Int))=false:=by simp;omega
  obtain⟨i0,hi,hz0,hz1,hz2⟩:=info_parts info_bool4;have HI:=hid hi;have HZ0:=hid hz0;have HZ1:=hid hz1;have HZ2:=hid hz2;have H4:=hid h4;clear hi hz0 hz1 hz2;obtain⟨N,hN⟩:∃ N,m.nodes.length=N:=⟨_,rfl⟩;have HN:=hid hN;have hNn:N≤4000:=by omega
  rw[hN] at h4I hb4 hl4;have hgoal : #[.agg #[.string m.nm,.slice A1 m.imports.length c1,.slice A2 m.types.length c2,.slice A3 m.fns.length c3,.slice A4 m.nodes.length c4]] = #[Value.agg #[.string m.nm,.slice A1 m.imports.length c1,.slice A2 m.types.length c2,.slice A3 m.fns.length c3,.slice A4 N c4]]:=by rw[hN]
  rw[hgoal];clear hN h4 hgoal;go_enter Tryz.func37,Tryz.ntmps37
  go_wp2_with (at_make;refine unhid ?_)
  refine hid ?_;obtain⟨W1,hW1⟩:∃ W1,w.alloc (.cells #[.string m.nm,.slice A1 m.imports.length c1,.slice A2 m.types.length c2,.slice A3 m.fns.length c3,.slice A4 N c4] 27)=W1:=⟨_,rfl⟩;have hz:=Blk.new w 27 #[.string m.nm,.slice A1 m.imports.length c1,.slice A2 m.types.length c2,.slice A3 m.fns.length c3,.slice A4 N c4];have hb1:=(Below.refl w.heap.size w).alloc (Nat.le_refl _) (.cells #[.string m.nm,.slice A1 m.imports.length c1,.slice A2 m.types.length c2,.slice A3 m.fns.length c3,.slice A4 N c4] 27);have hsz1:W1.heap.size=w.heap.size+1:=by rw[← hW1];simp
  rw[hW1] at hz hb1 ⊢;refine wpList_make_full W1 rfl _ _ 120 rfl W1.heap.size 4 i0 (.bool false) 1 Tryz.underlying120 HI.out HZ0.out HZ1.out .i64 .i64 (N:Int) (N:Int) N rfl rfl rfl rfl (by rw[HZ2.out];omega) (by simp only[maxLen];omega) (Nat.le_refl _) ?_
  intro W2 ho hg1;have hbm2:Below W1.heap.size W1 W2:=(Below.refl _ _).grown hg1 (Nat.le_refl _) (fun k hk=>by cases hk)
  rw[made_one4 (.bool false) rfl N] at ho;have hu2:Blk W2 W1.heap.size 4 (boolV (List.replicate N false)):=by
   rcases ho.2 with⟨hv,_⟩ | ⟨g,cap,cur,hv,_,hg,_,_,hcs,htk⟩
   ·cases hv
   ·injection hv with e1 e2 e3
    injection e1 with e1
    injection e1 with e1
    subst e1;subst e3;rw[List.take_of_length_le (by rw[Array.length_toList,hcs];exact Nat.le_refl _)] at htk
    have e:cur=boolV (List.replicate N false):=by
     rw[boolV,List.map_replicate,← htk]
    rw[← e];exact hg
  have hz2:=hz.below hbm2 (by omega)
  have hb2:Below w.heap.size w W2:=hb1.trans (hbm2.mono (by omega))
  obtain⟨sb,hsb⟩:∃ sb,w.heap.size=sb:=⟨_,rfl⟩;obtain⟨ub,hub⟩:∃ ub,W1.heap.size=ub:=⟨_,rfl⟩;rw[hub] at hu2 ⊢;rw[hsb] at hz2;have hsu:w.heap.size<ub:=by omega
  have HU2:=hid hu2;have HZM:=hid hz2;have HB2:=hid hb2;have HSB:=hid hsb;have HSU:=hid hsu;have z4:W2.cell? ⟨sb,4,none⟩=some (.slice A4 N c4):=hz2.cell 4;clear ho hg1 hbm2 hz hz2 hb1 hb2 hsz1 hW1 hub hu2 hsu;rw[hsb];clear hsb;go_wp2_with fail
  go_loopw [17] (fun u17 wr=>∃ (k:Nat) (u:List Bool),k≤N∧u17=.int .i64 (k:Int)∧Hid (useN 0 (List.replicate N false) (m.nodes.take k)=some u)∧Hid (Blk wr ub 4 (boolV u))∧Hid (Kept (fun i=>i=ub) W2 wr)) (fun u17 _=>N-(intOf u17).toNat)
  case atStart=>exact⟨0,_,Nat.zero_le _,rfl,hid rfl,HU2,hid (Kept.refl _ _)⟩
  case round =>
   obtain⟨k,u,hk,rfl,HS,HB,HK⟩:=hrel;have hul:u.length=N:=by rw[useN_len _ _ _ _ HS.out,List.length_replicate]
   have hbw:Below w.heap.size w wr:=HB2.out.trans (HK.out.below (by have:=HB2.out.size;exact this) (fun i hi h=>by have:=HSU.out;omega))
   have HBW:=hid hbw;clear hbw;by_cases hlt:k<N
   ·obtain⟨x,hx⟩:∃ x,m.nodes[k]? = some x:=⟨_,List.getElem?_eq_getElem (by rw[HN.out];exact hlt)⟩
    obtain⟨nb,no,hA4,hc⟩:=HM.out.nodes (by rw[HN.out];omega)
    obtain⟨KA,kc,LA,lc,q0,q1,q2,q3,q4,q5,rk,rl,l1,l2⟩:=hc k x hx;have up:∀ {p:Addr} {y:Value},w.cell? p=some y→wr.cell? p=some y:=fun h=>cell_below HBW.out h
    have q0:=up q0;have q1:=up q1;have q2:=up q2;have q3:=up q3;have q4:=up q4;have q5:=up q5;have hAb:∀ b o,0<x.l.length→LA=some ⟨b,o,none⟩→b≠ub:=fun b o h0 hA=>by
     obtain⟨b',o',hA',hcc⟩:=rl (by rw[iC_len];exact h0)
     rw[hA] at hA';injection hA' with hA'
     injection hA' with hA'
     subst hA';obtain⟨y,hy⟩:∃ y,(x.l.flatMap iC)[0]? = some y:=⟨_,List.getElem?_eq_getElem (by rw[iC_len];exact h0)⟩
     have:=World.block_lt_of_cell? w _ (hcc 0 y hy);have h9:=HSU.out;simp only at this;omega
    have hkI:(k:Int)<(N:Int):=by omega
    have hk0:(0:Int)≤(k:Int):=by omega
    have hkN:(k:Int)≤(N:Int):=by omega
    have HNX:=hid (useN_next HS.out hx (by rw[HN.out];exact hk))
    have HRL2:=hid (rl.below HBW.out);have HAB:=hid hAb;have HA4:=hid hA4;clear hx hc rk rl up hAb hA4;rw[HA4.out];go_wp2_with fail
    have z3:=Blk.new wr 53 #[.int .i64 x.kind,.int .i64 x.num,.string x.md,.string x.nm,.slice KA x.keys.length kc,.slice LA x.l.length lc];have k3:=HK.out.alloc (.cells #[.int .i64 x.kind,.int .i64 x.num,.string x.md,.string x.nm,.slice KA x.keys.length kc,.slice LA x.l.length lc] 53);have b3:=HB.out.alloc (.cells #[.int .i64 x.kind,.int .i64 x.num,.string x.md,.string x.nm,.slice KA x.keys.length kc,.slice LA x.l.length lc] 53);have r3:=HRL2.out.below ((Below.refl wr.heap.size wr).alloc (Nat.le_refl _) (.cells #[.int .i64 x.kind,.int .i64 x.num,.string x.md,.string x.nm,.slice KA x.keys.length kc,.slice LA x.l.length lc] 53));have hgu:wr.heap.size≠ub:=by have:=HB.out.lt;omega
    generalize hw3:wr.alloc (.cells #[.int .i64 x.kind,.int .i64 x.num,.string x.md,.string x.nm,.slice KA x.keys.length kc,.slice LA x.l.length lc] 53)=w3 at z3 k3 b3 r3 ⊢;obtain⟨gx,hgx⟩:∃ g,wr.heap.size=g:=⟨_,rfl⟩;rw[hgx] at z3 hgu ⊢;have hdb:Below w3.heap.size w3 w3.drew:=⟨rfl,rfl,rfl,Nat.le_refl _,fun _ _=>rfl⟩
    have z5:w3.drew.cell? ⟨gx,5,none⟩=some (.slice LA x.l.length lc):=z3.cell 5;have HK3:Hid (Kept (fun i=>i=ub) W2 w3.drew):=hid (k3.drewN 1)
    have hS0:w3.drew.cell? ⟨gx,5,none⟩=some (.slice LA x.l.length lc)∧Hid (Kept (fun i=>i=ub) W2 w3.drew):=⟨z5,HK3⟩
    have HGX3:Hid (gx<w3.drew.heap.size):=hid z3.lt;have HGU:Hid (¬(gx=ub)):=hid hgu;have hlen9:=l2;rcases hus:useS k u x.l with _ | u2
    ·have hC:=use_no (some ⟨ub,0,none⟩) N k ub u (fun _=>rfl) (by omega) (by omega) (by omega) LA lc x.l l2 w3.drew (b3.below hdb b3.lt) (r3.below hdb) HAB.out hus
     have HC:=hid hC;have HOF:Hid (ordS m=false):=hid (ordS_false fun _=>by rw[HN.out];exact useN_none (k:=k+1) (by rw[HNX.out];exact hus))
     clear hus hC z3 k3 b3 r3 hw3 hgx hdb z5 q0 q1 q2 q3 q4 q5 l1 l2 hgu;have hC:=HC.out
     go_region_held3 (fun w'=>w'.cell? ⟨gx,5,none⟩=some (.slice LA x.l.length lc)∧Hid (Kept (fun i=>i=ub) W2 w')) (first | with_reducible exact hS0 | with_reducible exact hn) (first | (go_simp;go_at_call 76;refine hC.mono ?_;rintro e w4 ⟨rfl,hk4,hx4⟩;have HK4:=hid (HK3.out.trans hk4 (fun _ _ h=>h));have hn:w4.cell? ⟨gx,5,none⟩=some (.slice LA x.l.length lc)∧Hid (Kept (fun i=>i=ub) W2 w4):=⟨(hk4.cell (p:=⟨gx,5,none⟩) HGX3.out HGU.out).trans hS0.1,HK4⟩;have HX4:=hid hx4;clear hk4 hx4))
     all_goals
      rename_i hHH;clear hHH hn hS0 hC;go_wp2_with fail
      go_ret
      exact⟨by rw[HOF.out];rfl,HB2.out.trans (HK4.out.below (by have:=HB2.out.size;exact this) (fun i hi h=>by have:=HSU.out;omega))⟩
    ·have hC:=use_yes (some ⟨ub,0,none⟩) N k ub u u2 (fun _=>rfl) (by omega) (by omega) (by omega) LA lc x.l l2 w3.drew (b3.below hdb b3.lt) (r3.below hdb) HAB.out hus
     have HC:=hid hC;have HUS:Hid (useN 0 (List.replicate N false) (m.nodes.take (k+1))=some u2):=hid (by rw[HNX.out];exact hus)
     clear hus hC z3 k3 b3 r3 hw3 hgx hdb z5 q0 q1 q2 q3 q4 q5 l1 l2 hgu;have hC:=HC.out
     go_region_held3 (fun w'=>w'.cell? ⟨gx,5,none⟩=some (.slice LA x.l.length lc)∧Hid (Kept (fun i=>i=ub) W2 w')) (first | with_reducible exact hS0 | with_reducible exact hn) (first | (go_simp;go_at_call 76;refine hC.mono ?_;rintro e w4 ⟨rfl,hk4,hx4⟩;have HK4:=hid (HK3.out.trans hk4 (fun _ _ h=>h));have hn:w4.cell? ⟨gx,5,none⟩=some (.slice LA x.l.length lc)∧Hid (Kept (fun i=>i=ub) W2 w4):=⟨(hk4.cell (p:=⟨gx,5,none⟩) HGX3.out HGU.out).trans hS0.1,HK4⟩;have HX4:=hid hx4;clear hk4 hx4))
     all_goals
      rename_i hHH;clear hHH hn hS0 hC;go_wp2_with fail
      go_roundw
      case rel=>exact⟨k+1,u2,by omega,by go_num,HUS,HX4,HK4⟩
      case measure=>simp[intOf];omega
   ·have hkN:k=N:=by omega
    subst hkN;have hbr:Blk wr sb 27 #[.string m.nm,.slice A1 m.imports.length c1,.slice A2 m.types.length c2,.slice A3 m.fns.length c3,.slice A4 k c4]:=HK.out.blk HZM.out (by have h1:=HSB.out;have h2:=HSU.out;omega)
    have m0:wr.cell? ⟨sb,0,none⟩=some (.string m.nm):=hbr.cell 0;have m1:wr.cell? ⟨sb,1,none⟩=some (.slice A1 m.imports.length c1):=hbr.cell 1;have m2:wr.cell? ⟨sb,2,none⟩=some (.slice A2 m.types.length c2):=hbr.cell 2;have m3:wr.cell? ⟨sb,3,none⟩=some (.slice A3 m.fns.length c3):=hbr.cell 3;have m4:wr.cell? ⟨sb,4,none⟩=some (.slice A4 k c4):=hbr.cell 4;have HEN:=hid (ordS_end H4.out (u:=u) (by have h1:=HS.out;rw[List.take_of_length_le (by rw[HN.out];exact Nat.le_refl _)] at h1;rw[HN.out];exact h1))
    clear hbr z4;go_wp2_with fail
    have hro:=roots_any m A1 A2 A3 A4 c1 c2 c3 c4 wr (HM.out.below HBW.out) HRL.out;rw[HN.out] at hro;refine hro.mono ?_;rintro e w4 ⟨RA,rc,rfl,hrd,hb4,hra⟩;have hbl:=HB.out.below hb4 HB.out.lt;have hAb:∀ b o,0<(rootsI m).length→RA=some ⟨b,o,none⟩→b≠ub:=fun b o h0 hA=>by
     have h1:=hra b o h0 hA;have h2:=HB.out.lt;omega
    have HB4:=hid (HBW.out.trans (hb4.mono HBW.out.size));have hrl:=HRL.out;rcases hus:useS k u (rootsI m) with _ | u2
    ·have HC:=hid (use_no (some ⟨ub,0,none⟩) k k ub u (fun _=>rfl) (by omega) (by omega) (by omega) RA rc (rootsI m) (by omega) w4 hbl hrd hAb hus)
     have HOF:Hid (ordS m=false):=hid (by rw[HEN.out,HN.out,hus];rfl)
     clear hus hrd hb4 hra hbl hAb hro hrl m0 m1 m2 m3 m4;go_wp2_with fail
     refine HC.out.mono ?_;rintro e w5 ⟨rfl,hk5,-⟩;have HK5:=hid (HB4.out.trans (hk5.below (by have:=HB4.out.size;exact this) (fun i hi h=>by have:=HSU.out;omega)))
     clear hk5;go_wp2_with fail
     go_ret
     exact⟨by rw[HOF.out];rfl,HK5.out⟩
    ·have HC:=hid (use_yes (some ⟨ub,0,none⟩) k k ub u u2 (fun _=>rfl) (by omega) (by omega) (by omega) RA rc (rootsI m) (by omega) w4 hbl hrd hAb hus)
     have HOF:Hid (ordS m=true):=hid (by rw[HEN.out,HN.out,hus];rfl)
     clear hus hrd hb4 hra hbl hAb hro hrl m0 m1 m2 m3 m4;go_wp2_with fail
     refine HC.out.mono ?_;rintro e w5 ⟨rfl,hk5,-⟩;have HK5:=hid (HB4.out.trans (hk5.below (by have:=HB4.out.size;exact this) (fun i hi h=>by have:=HSU.out;omega)))
     clear hk5;go_wp2_with fail
     go_ret
     exact⟨by rw[HOF.out];rfl,HK5.out⟩
 ·have hb4:decide ((4000:Int)<(m.nodes.length:Int))=true:=by simp;omega
  have h4I:(4000:Int)<(m.nodes.length:Int):=by omega
  have HOF:Hid (ordS m=false):=hid (ordS_false fun h=>absurd h h4)
  clear h4;go_enter Tryz.func37,Tryz.ntmps37
  go_wp2_with fail
  go_ret
  exact⟨by rw[HOF.out];rfl,(Below.refl _ _).alloc (Nat.le_refl _) _⟩
end
end Go.Proofs.YtmpaemchjehjbaaGreatDoor
