/- Contracts and plain facts that the theorem rests on: S8CutA, S8Cut, S8LeP, S8LawL, S8Same, S8LawT, S8LawK. -/
import Derived.Test.YtmgbbndmmbgemaaGreatDoorZK3
import Derived.Test.YtmgbbndmmbgemaaGreatDoorZK36
import Derived.Test.YtmgbbndmmbgemaaGreatDoorZK35
import Derived.Test.YtmgbbndmmbgemaaGreatDoorZK30
import Derived.Test.YtmgbbndmmbgemaaGreatDoorZK34
set_option linter.unusedSimpArgs false
set_option linter.unusedVariables false
namespace Go.Proofs.YtmgbbndmmbgemaaGreatDoor
section
open Go.RowKit
namespace SM
open CM (nd kids)
def cutN (x:Gi):Gi:=⟨x.kind,x.num,x.nm.extract 0 (min x.nm.size 30),x.keys.take 20,x.l.take 40⟩
def cutG (g:List Gi):List Gi:=(g.take 30).map cutN
theorem cutN_keys (x:Gi):(cutN x).keys.length=min x.keys.length 20:=by unfold cutN;simp;omega
theorem cutN_l (x:Gi):(cutN x).l.length=min x.l.length 40:=by unfold cutN;simp;omega
theorem rdv_take {w:World} {A:Option Addr} {α:Type} {f:α→List Value} (hf:∀ a,(f a).length=1) {l:List α} (n:Nat) (h:RdV w A (l.flatMap f)):RdV w A ((l.take n).flatMap f):=fun h0=>by
 have hl:((l.take n).flatMap f).length≤(l.flatMap f).length:=by
  rw [rowc_len f 1 hf,rowc_len f 1 hf,List.length_take];omega
 obtain ⟨b,o,hA,hc⟩:=h (by omega)
 refine ⟨b,o,hA,fun j x hj=>hc j x ?_⟩
 have e:l.flatMap f=(l.take n).flatMap f++(l.drop n).flatMap f:=by rw [← List.flatMap_append,List.take_append_drop]
 rw [e,List.getElem?_append_left (List.getElem?_eq_some_iff.1 hj).1]
 exact hj
structure CutP (w:World) (v:Value) (p:Gp):Prop where
 k:∃ KA kc,p.2.1 = .slice KA p.1.keys.length kc∧p.1.keys.length≤kc∧(p.1.keys.length:Int)≤9223372036854775807∧RdV w KA (p.1.keys.flatMap sC)∧∀ b o,KA=some ⟨b,o,none⟩→v.ownBlock≠some b
 l:∃ LA lc,p.2.2 = .slice LA p.1.l.length lc∧p.1.l.length≤lc∧(p.1.l.length:Int)≤9223372036854775807∧RdV w LA (p.1.l.flatMap iC)∧∀ b o,LA=some ⟨b,o,none⟩→v.ownBlock≠some b
structure CutS (w:World) (B:Nat) (v:Value) (ps:List Gp):Prop where
 own:w.ownsRow B 42 5 v ps.length (gcells ps)
 lst:∀ p∈ps,CutP w v p
section
variable {w w' : World} {B : Nat} {v : Value} {ps : List Gp} {p : Gp}
theorem CutP.kept {P:Nat→Prop} (h:CutP w v p) (hk:Kept P w w') (hp:∀ i,P i→v.ownBlock=some i):CutP w' v p:=by
 obtain ⟨KA,kc,k1,k2,k3,k4,k5⟩:=h.k
 obtain ⟨LA,lc,l1,l2,l3,l4,l5⟩:=h.l
 exact ⟨⟨KA,kc,k1,k2,k3,k4.keptG hk (fun b o _ hA hP=>k5 b o hA (hp b hP)),k5⟩,⟨LA,lc,l1,l2,l3,l4.keptG hk (fun b o _ hA hP=>l5 b o hA (hp b hP)),l5⟩⟩
theorem CutS.below (h:CutS w B v ps) (hb:Below w.heap.size w w'):CutS w' B v ps:=
 ⟨own_keptG h.own (Kept.of_below hb (fun _=>False)) (fun _ _ h=>h),fun p hp=>(h.lst p hp).kept (Kept.of_below hb (fun _=>False)) (fun _ h=>h.elim)⟩
theorem CutP.cut (h:CutP w v p):∃ KA kc LA lc,p.2.1 = .slice KA p.1.keys.length kc∧p.2.2 = .slice LA p.1.l.length lc∧CutP w v (cutN p.1,.slice KA (min p.1.keys.length 20) kc,.slice LA (min p.1.l.length 40) lc):=by
 obtain ⟨KA,kc,k1,k2,k3,k4,k5⟩:=h.k
 obtain ⟨LA,lc,l1,l2,l3,l4,l5⟩:=h.l
 refine ⟨KA,kc,LA,lc,k1,l1,⟨KA,kc,by rw [cutN_keys],by rw [cutN_keys];omega,by rw [cutN_keys];omega,rdv_take (fun _=>rfl) 20 k4,k5⟩,⟨LA,lc,by rw [cutN_l],by rw [cutN_l];omega,by rw [cutN_l];omega,rdv_take (fun _=>rfl) 40 l4,l5⟩⟩
theorem OwnG.cutS {g:List Gi} (h:OwnG w B v g):∃ ps:List Gp,ps.map (·.1)=g∧CutS w B v ps:=by
 obtain ⟨ps,h1,h2,h3⟩:=h.rows
 refine ⟨ps,h1,h2,fun p hp=>?_⟩
 have hh:=h3 p hp
 obtain ⟨KA,kc,ek,hkc,hkc2,hkr⟩:=hh.k.rd
 obtain ⟨LA,lc,el,hlc,hlc2,hlr⟩:=hh.l.rd
 refine ⟨⟨KA,kc,ek,hkc,by omega,hkr,fun b o hA hv=>?_⟩,⟨LA,lc,el,hlc,by omega,hlr,fun b o hA hv=>?_⟩⟩
 ·exact hh.kb b (by rw [ek,hA];rfl) hv
 ·exact hh.lb b (by rw [el,hA];rfl) hv
theorem CutS.rd (h:CutS w B v ps):∃ A c,v = .slice A ps.length c∧ps.length≤c∧(c:Int)≤9223372036854775807∧GsR w A (ps.map (·.1)):=by
 obtain ⟨A,c,rfl,hc,hc2,hx⟩:=own_rd5 h.own
 refine ⟨A,c,rfl,hc,hc2,fun h0=>?_⟩
 rw [List.length_map] at h0
 obtain ⟨b,hA,hb,hcell⟩:=hx h0
 refine ⟨b,0,hA,fun i x hxi=>?_⟩
 rw [List.getElem?_map] at hxi
 obtain ⟨p,hp,hpx⟩:=Option.map_eq_some_iff.1 hxi
 subst hpx
 obtain ⟨KA,kc,ek,hkc,hkc2,hkr,-⟩:=(h.lst p (List.mem_of_getElem? hp)).k
 obtain ⟨LA,lc,el,hlc,hlc2,hlr,-⟩:=(h.lst p (List.mem_of_getElem? hp)).l
 have hcc:∀ (t:Nat) (u:Value),(Gp.cells p)[t]? = some u→w.cell? ⟨b,0+i*5+t,none⟩=some u:=fun t u hu=>by
  rw [Nat.zero_add];exact hcell _ u (rowc_get Gp.cells 5 (fun _=>rfl) ps i p hp t u hu)
 unfold Gp.cells at hcc
 rw [ek,el] at hcc
 exact ⟨KA,kc,LA,lc,hcc 0 _ rfl,hcc 1 _ rfl,hcc 2 _ rfl,hcc 3 _ rfl,hcc 4 _ rfl,hkr,hlr,hkc2,hlc2,hkc,hlc⟩
theorem CutS.blk (h:CutS w B v ps) (h0:0<ps.length):∃ b c cur,v = .slice (some ⟨b,0,none⟩) ps.length c∧B≤b∧ps.length≤c∧Blk w b 42 cur∧cur.size=c*5∧∀ (j:Nat) u,(gcells ps)[j]? = some u→cur[j]? = some u:=by
 rcases h.own.2 with ⟨_,h1⟩ | ⟨g,cap,cur,e,hb,hg,hn,hm,hcs,hr⟩
 ·omega
 ·refine ⟨g,cap,cur,e,hb,hn,hg,hcs,fun j u hj=>?_⟩
  rw [← hr,List.getElem?_take] at hj
  split at hj
  ·rw [← Array.getElem?_toList];exact hj
  ·cases hj
end
theorem gcells_set (ps:List Gp) (i:Nat) (p:Gp) (hi:i<ps.length):gcells (ps.set i p)=(((((gcells ps).set (i*5) (.int .i64 p.1.kind)).set (i*5+1) (.int .i64 p.1.num)).set (i*5+2) (.string p.1.nm)).set (i*5+3) p.2.1).set (i*5+4) p.2.2:=by
 apply List.ext_getElem?
 intro j
 have hlen:=gcells_len ps
 by_cases hj:j<ps.length*5
 ·obtain ⟨a,t,rfl,ht⟩:∃ a t,j=a*5+t∧t<5:=⟨j / 5,j % 5,by omega,by omega⟩
  have ha:a<ps.length:=by omega
  obtain ⟨q,hq⟩:∃ q,ps[a]? = some q:=⟨_,List.getElem?_eq_getElem ha⟩
  by_cases e:a=i
  ·subst e
   have h1:(ps.set a p)[a]? = some p:=by rw [List.getElem?_set,if_pos rfl,if_pos ha]
   rw [show gcells (ps.set a p)=(ps.set a p).flatMap Gp.cells from rfl,rowc_get Gp.cells 5 (fun _=>rfl) (ps.set a p) a p h1 t ((Gp.cells p)[t]'(by show t<5;exact ht)) (List.getElem?_eq_getElem _)]
   have:t=0∨t=1∨t=2∨t=3∨t=4:=by omega
   have hl5:a*5+4<(gcells ps).length:=by rw [hlen];omega
   rcases this with rfl | rfl | rfl | rfl | rfl <;> simp [Gp.cells,List.getElem?_set] <;> omega
  ·have h1:(ps.set i p)[a]? = some q:=by rw [List.getElem?_set,if_neg (fun h=>e h.symm)];exact hq
   have hlt:t<(Gp.cells q).length:=ht
   rw [show gcells (ps.set i p)=(ps.set i p).flatMap Gp.cells from rfl,rowc_get Gp.cells 5 (fun _=>rfl) (ps.set i p) a q h1 t ((Gp.cells q)[t]'hlt) (List.getElem?_eq_getElem _)]
   rw [List.getElem?_set,if_neg (by omega),List.getElem?_set,if_neg (by omega),List.getElem?_set,if_neg (by omega),List.getElem?_set,if_neg (by omega),List.getElem?_set,if_neg (by omega)]
   exact (rowc_get Gp.cells 5 (fun _=>rfl) ps a q hq t _ (List.getElem?_eq_getElem hlt)).symm
 ·rw [List.getElem?_eq_none (by rw [gcells_len,List.length_set];omega),List.getElem?_eq_none (by simp only [List.length_set];rw [hlen];omega)]
def set5 (w:World) (b k:Nat) (c0 c1 c2 c3 c4:Value):World:=((((w.setCell ⟨b,k,none⟩ c0).setCell ⟨b,k+1,none⟩ c1).setCell ⟨b,k+2,none⟩ c2).setCell ⟨b,k+3,none⟩ c3).setCell ⟨b,k+4,none⟩ c4
theorem CutS.put {w:World} {B:Nat} {v:Value} {ps:List Gp} (h:CutS w B v ps) {i:Nat} (hi:i<ps.length) {p:Gp} (hp:CutP w v p) {b:Nat} (hb:v.ownBlock=some b) :
  CutS (set5 w b (i*5) (.int .i64 p.1.kind) (.int .i64 p.1.num) (.string p.1.nm) p.2.1 p.2.2) B v (ps.set i p):=by
 have hk:Kept (fun j=>j=b) w (set5 w b (i*5) (.int .i64 p.1.kind) (.int .i64 p.1.num) (.string p.1.nm) p.2.1 p.2.2):=by
  unfold set5
  have k0:Kept (fun j=>j=b) w w:=Kept.refl _ w
  have k1:=k0.setCell (p:=⟨b,i*5,none⟩) (fun _=>rfl) (.int .i64 p.1.kind)
  have k2:=k1.setCell (p:=⟨b,i*5+1,none⟩) (fun _=>rfl) (.int .i64 p.1.num)
  have k3:=k2.setCell (p:=⟨b,i*5+2,none⟩) (fun _=>rfl) (.string p.1.nm)
  have k4:=k3.setCell (p:=⟨b,i*5+3,none⟩) (fun _=>rfl) p.2.1
  exact k4.setCell (p:=⟨b,i*5+4,none⟩) (fun _=>rfl) p.2.2
 refine ⟨?_,fun q hq=>?_⟩
 ·rcases h.own.2 with ⟨rfl,h1⟩ | ⟨g,cap,cur,e,hB,hg,hn,hm,hcs,hr⟩
  ·omega
  ·have egb:g=b:=by rw [e] at hb;simpa [Value.ownBlock] using hb
   subst egb
   have hg':Blk w g 42 cur:=hg
   have h5:=((((hg'.set_ (i*5) (.int .i64 p.1.kind)).set_ (i*5+1) (.int .i64 p.1.num)).set_ (i*5+2) (.string p.1.nm)).set_ (i*5+3) p.2.1).set_ (i*5+4) p.2.2
   rw [List.length_set]
   refine ⟨by rw [gcells_len,List.length_set],.inr ⟨g,cap,_,e,hB,h5,hn,hm,by simp only [Array.size_setIfInBounds];exact hcs,?_⟩⟩
   rw [gcells_set ps i p hi,← hr]
   simp only [Array.toList_setIfInBounds,List.take_set]
 ·rcases List.mem_or_eq_of_mem_set hq with hq | rfl
  ·exact (h.lst q hq).kept hk (fun j e=>by rw [e];exact hb)
  ·exact hp.kept hk (fun j e=>by rw [e];exact hb)
end SM
end
section
open Lib (hid)
open Go.RowKit
namespace SM
open CM (nd kids)
theorem gsr_take {w:World} {A:Option Addr} {g:List Gi} (n:Nat) (h:GsR w A g):GsR w A (g.take n):=fun h0=>by
 obtain ⟨b,o,hA,hc⟩:=h (by rw [List.length_take] at h0;omega)
 exact ⟨b,o,hA,fun i x hx=>hc i x (by rw [List.getElem?_take] at hx;split at hx;exact hx;cases hx)⟩
theorem cut_step {α:Type} (f:α→α) (l:List α) {k:Nat} {x:α} (h:l[k]? = some x):(((l.take k).map f++l.drop k).set k (f x))=(l.take (k+1)).map f++l.drop (k+1):=by
 have hk:=(List.getElem?_eq_some_iff.1 h).1
 have hlen:((l.take k).map f).length=k:=by rw [List.length_map,List.length_take];omega
 rw [List.set_append_right _ _ (by omega),hlen,Nat.sub_self]
 have hd:l.drop k=x :: l.drop (k+1):=by
  rw [List.drop_eq_getElem_cons hk,(List.getElem?_eq_some_iff.1 h).2]
 rw [hd,List.take_add_one,h,List.map_append]
 simp
set_option maxRecDepth 100000 in
set_option maxHeartbeats 8000000 in
theorem s8_cut (A:Option Addr) (c:Nat) (g:List Gi) (w:World) (hl:(g.length:Int)≤9223372036854775807) (hc:g.length≤c) (hr:GsR w A g) (hs:ListsG g) (ht:Texts g) :
  Calls Tryz.prog 7 #[.slice A g.length c] w fun r w'=>∃ VA vc,r = .returned (.slice VA (cutG g).length vc)∧GsR w' VA (cutG g)∧(cutG g).length≤vc∧Below w.heap.size w w':=by
 have HT:=hid ht
 have C:=r6_copy A c (g.take 30) w (by rw [List.length_take];omega) (gsr_take 30 hr) (fun x hx=>hs x (List.mem_of_mem_take hx))
 obtain ⟨n,hn⟩:∃ n,g.length=n:=⟨_,rfl⟩
 have hm:(g.take 30).length=min n 30:=by rw [List.length_take,hn];omega
 obtain ⟨m,hm2⟩:∃ m,min n 30=m:=⟨_,rfl⟩
 have HM:Hid ((g.take 30).length=m):=hid (hm.trans hm2)
 have HCL:Hid ((cutG g).length=m):=hid (by unfold cutG;rw [List.length_map];exact HM.out)
 rw [HM.out] at C
 rw [hn] at hl hc ⊢
 have hmin:min (n:Int) 30=(m:Int):=by omega
 have hmc:m≤c:=by omega
 have hmcI:(m:Int)≤(c:Int):=by omega
 have hm30:m≤30:=by omega
 rw [HCL.out]
 have HMN:=hid (And.intro hm2 hn)
 clear hr hs ht hn hm hm2
 go_enter Tryz.func7,Tryz.ntmps7
 go_wp2_with fail
 refine C.mono ?_
 rintro r w2 ⟨v,rfl,hown,hb2⟩
 obtain ⟨ps,hps,hcs⟩:=SM.OwnG.cutS hown
 obtain ⟨VA,vc,rfl,-,-,-⟩:=hcs.rd
 have hpl:ps.length=m:=by rw [← HM.out,← hps,List.length_map]
 rw [hpl]
 rw [hpl] at hcs
 have HCS:=hid hcs
 have HPS:=hid hps
 have HPL:=hid hpl
 have HB2:=hid hb2
 clear C hown hps hcs hpl hb2
 obtain ⟨B,hB⟩:∃ B,w.heap.size=B:=⟨_,rfl⟩
 rw [hB] at HCS HB2
 have HBB:=hid hB
 clear hB
 go_wp2_with fail
 go_loopw [3] (fun u3 wr=>∃ (k:Nat) (qs:List Gp),k≤m∧u3 = .int .i64 (k:Int)∧Hid (CutS wr B (.slice VA m vc) qs)∧Hid (qs.map (·.1)=((g.take 30).take k).map cutN++(g.take 30).drop k)∧Hid (Below B w wr)) (fun u3 _=>m - (intOf u3).toNat)
 case atStart=>exact ⟨0,ps,Nat.zero_le _,rfl,HCS,hid (by rw [HPS.out];simp),HB2⟩
 case round =>
  obtain ⟨k,qs,hk,rfl,HS,HQ,HB⟩:=hrel
  obtain ⟨ws,rfl⟩:∃ ws,ws=wr:=⟨_,rfl⟩
  by_cases hlt:k<m
  ·have hkI:(k:Int)<(m:Int):=by omega
   have hql:qs.length=m:=by
    have h1:=congrArg List.length HQ.out
    rw [List.length_map,List.length_append,List.length_map,List.length_take,List.length_drop,HM.out] at h1
    omega
   obtain ⟨p,hp⟩:∃ p,qs[k]? = some p:=⟨_,List.getElem?_eq_getElem (by omega)⟩
   obtain ⟨x,hx⟩:∃ x,(g.take 30)[k]? = some x:=⟨_,List.getElem?_eq_getElem (by have:=HM.out;omega)⟩
   have hpx:p.1=x:=by
    have h1:(qs.map (·.1))[k]? = some p.1:=by rw [List.getElem?_map,hp];rfl
    rw [HQ.out,List.getElem?_append_right (by rw [List.length_map,List.length_take];omega),List.length_map,List.length_take,HM.out,show min k m=k by omega,Nat.sub_self,List.getElem?_drop,Nat.add_zero,hx] at h1
    injection h1 with h1
    exact h1.symm
   obtain ⟨KA,kc,LA,lc,e1,e2,hcut⟩:=(HS.out.lst p (List.mem_of_getElem? hp)).cut
   obtain ⟨⟨KA',kc',f1,hkk,hk63,-⟩,⟨LA',lc',f2,hll,hl63,-⟩⟩:=HS.out.lst p (List.mem_of_getElem? hp)
   rw [e1] at f1
   rw [e2] at f2
   injection f1 with f1a f1b f1c
   injection f2 with f2a f2b f2c
   obtain ⟨b,c2,cur,hv,hBb,-,hbk,hcs,hcell⟩:=HS.out.blk (by omega)
   injection hv with hv1 hv2 hv3
   rw [hql] at hv2
   have g0:=(hbk.cell (k*5+0)).trans (hcell _ _ (rowc_get Gp.cells 5 (fun _=>rfl) qs k p hp 0 _ rfl))
   have g1:=(hbk.cell (k*5+1)).trans (hcell _ _ (rowc_get Gp.cells 5 (fun _=>rfl) qs k p hp 1 _ rfl))
   have g2:=(hbk.cell (k*5+2)).trans (hcell _ _ (rowc_get Gp.cells 5 (fun _=>rfl) qs k p hp 2 _ rfl))
   have g3:=(hbk.cell (k*5+3)).trans (hcell _ _ (rowc_get Gp.cells 5 (fun _=>rfl) qs k p hp 3 _ rfl))
   have g4:=(hbk.cell (k*5+4)).trans (hcell _ _ (rowc_get Gp.cells 5 (fun _=>rfl) qs k p hp 4 _ rfl))
   rw [e1] at g3
   rw [e2] at g4
   rw [Nat.add_zero] at g0
   rw [← f1c] at hkk
   rw [← f2c] at hll
   rw [hpx] at g0 g1 g2 g3 g4 hkk hll hcut hk63 hl63
   obtain ⟨kn,hkn⟩:∃ kn,x.keys.length=kn:=⟨_,rfl⟩
   obtain ⟨ln,hln⟩:∃ ln,x.l.length=ln:=⟨_,rfl⟩
   rw [hkn] at g3 hkk hcut hk63
   rw [hln] at g4 hll hcut hl63
   have hsz:=(HT.out x (List.mem_of_mem_take (List.mem_of_getElem? hx))).1
   have HCUT:=hid hcut
   have HP:=hid (And.intro hp hpx)
   have HX:=hid hx
   have HQL:=hid hql
   have HBK:=hid hbk
   have HV:=hid (And.intro hv1 hcs)
   have HBb:=hid hBb
   clear hBb
   subst hv1
   clear hp hpx hx hql hbk hcs hcell e1 e2 f1a f1b f1c f2a f2b f2c hcut hv2 hv3 hkn hln
   go_upto_region 6 with (fail)
   have hz:=Blk.new ws 42 #[.int .i64 x.kind,.int .i64 x.num,.string x.nm,.slice KA kn kc,.slice LA ln lc]
   have hy:=one_boxS ws (.cells #[.int .i64 x.kind,.int .i64 x.num,.string x.nm,.slice KA kn kc,.slice LA ln lc] 42)
   obtain ⟨nb,hnb⟩:∃ nb,ws.heap.size=nb:=⟨_,rfl⟩
   have HNB:=hid hnb
   rw [hnb] at hz ⊢
   clear hnb g0 g1 g2 g3 g4
   generalize ws.alloc (.cells #[.int .i64 x.kind,.int .i64 x.num,.string x.nm,.slice KA kn kc,.slice LA ln lc] 42)=w1 at hz hy ⊢
   obtain ⟨N1,hN1⟩:∃ N1:Nat,min (kn:Int) 20=(N1:Int):=⟨min kn 20,by omega⟩
   obtain ⟨N2,hN2⟩:∃ N2:Nat,min (ln:Int) 40=(N2:Int):=⟨min ln 40,by omega⟩
   obtain ⟨M1,hM1⟩:∃ M1:Nat,min (x.nm.size:Int) 30=(M1:Int):=⟨min x.nm.size 30,by omega⟩
   have hM1a:M1≤x.nm.size:=by omega
   have hM1b:(M1:Int)≤(x.nm.size:Int):=by omega
   have hN1b:N1≤kc:=by omega
   have hN1c:(N1:Int)≤(kc:Int):=by omega
   have hN2b:N2≤lc:=by omega
   have hN2c:(N2:Int)≤(lc:Int):=by omega
   have HEQ:Hid (N1=min kn 20∧N2=min ln 40∧M1=min x.nm.size 30):=hid ⟨by omega,by omega,by omega⟩
   have HZ:=hid hz
   have HY:=hid hy
   have hS:w1.drew.cell? ⟨nb,2,none⟩=some (.string x.nm)∧w1.drew.cell? ⟨nb,3,none⟩=some (.slice KA kn kc)∧w1.drew.cell? ⟨nb,4,none⟩=some (.slice LA ln lc):=⟨hz.cell 2,hz.cell 3,hz.cell 4⟩
   have hzd:Blk w1.drew nb 42 #[.int .i64 x.kind,.int .i64 x.num,.string x.nm,.slice KA kn kc,.slice LA ln lc]:=hz
   have hyd:Below ws.heap.size ws w1.drew:=⟨hy.os,hy.tape,hy.output,hy.size,hy.block⟩
   clear hz hy
   refine K_start 22 (fun u=>u.cell? ⟨nb,2,none⟩=some (.string x.nm)∧u.cell? ⟨nb,3,none⟩=some (.slice KA kn kc)∧u.cell? ⟨nb,4,none⟩=some (.slice LA ln lc)) (by kernel_rfl) ?_
   refine K_take (i:=0) (v:=?_) (by simp only [List.getElem?_toArray,List.getElem?_cons_succ,List.getElem?_cons_zero];exact rfl) (by kernel_rfl) (by kernel_rfl) (by kernel_rfl) (by kernel_rfl) (by kernel_rfl) (by exact fun _ _ _ h=>h) hS (by rfl) ?_ ?_
   rotate_left
   ·intro uu hu
    obtain ⟨g2,g3,g4⟩:=hu
    go_simp
    try with_reducible rfl
   simp only [Act.put,List.setIfInBounds_toArray,List.set_cons_zero,List.set_cons_succ]
   refine K_take (i:=1) (v:=?_) (by simp only [List.getElem?_toArray,List.getElem?_cons_succ,List.getElem?_cons_zero];exact rfl) (by kernel_rfl) (by kernel_rfl) (by kernel_rfl) (by kernel_rfl) (by kernel_rfl) (by exact fun _ _ _ h=>h) hS (by rfl) ?_ ?_
   rotate_left
   ·intro uu hu
    obtain ⟨g2,g3,g4⟩:=hu
    go_simp
    try with_reducible rfl
   simp only [Act.put,List.setIfInBounds_toArray,List.set_cons_zero,List.set_cons_succ]
   refine K_take (i:=2) (v:=?_) (by simp only [List.getElem?_toArray,List.getElem?_cons_succ,List.getElem?_cons_zero];exact rfl) (by kernel_rfl) (by kernel_rfl) (by kernel_rfl) (by kernel_rfl) (by kernel_rfl) (by exact fun _ _ _ h=>h) hS (by rfl) ?_ ?_
   rotate_left
   ·intro uu hu
    obtain ⟨g2,g3,g4⟩:=hu
    go_simp
    try with_reducible rfl
   simp only [Act.put,List.setIfInBounds_toArray,List.set_cons_zero,List.set_cons_succ]
   refine K_take (i:=3) (v:=?_) (by simp only [List.getElem?_toArray,List.getElem?_cons_succ,List.getElem?_cons_zero];exact rfl) (by kernel_rfl) (by kernel_rfl) (by kernel_rfl) (by kernel_rfl) (by kernel_rfl) (by exact fun _ _ _ h=>h) hS (by rfl) ?_ ?_
   rotate_left
   ·intro uu hu
    obtain ⟨g2,g3,g4⟩:=hu
    go_simp
    try with_reducible rfl
   simp only [Act.put,List.setIfInBounds_toArray,List.set_cons_zero,List.set_cons_succ]
   refine K_take (i:=4) (v:=?_) (by simp only [List.getElem?_toArray,List.getElem?_cons_succ,List.getElem?_cons_zero];exact rfl) (by kernel_rfl) (by kernel_rfl) (by kernel_rfl) (by kernel_rfl) (by kernel_rfl) (by exact fun _ _ _ h=>h) hS (by rfl) ?_ ?_
   rotate_left
   ·intro uu hu
    obtain ⟨g2,g3,g4⟩:=hu
    go_simp
    try with_reducible rfl
   simp only [Act.put,List.setIfInBounds_toArray,List.set_cons_zero,List.set_cons_succ]
   refine K_take (i:=5) (v:=?_) (by simp only [List.getElem?_toArray,List.getElem?_cons_succ,List.getElem?_cons_zero];exact rfl) (by kernel_rfl) (by kernel_rfl) (by kernel_rfl) (by kernel_rfl) (by kernel_rfl) (by exact fun _ _ _ h=>h) hS (by rfl) ?_ ?_
   rotate_left
   ·intro uu hu
    obtain ⟨g2,g3,g4⟩:=hu
    go_simp
    try with_reducible rfl
   simp only [Act.put,List.setIfInBounds_toArray,List.set_cons_zero,List.set_cons_succ]
   refine K_take (i:=6) (v:=?_) (by simp only [List.getElem?_toArray,List.getElem?_cons_succ,List.getElem?_cons_zero];exact rfl) (by kernel_rfl) (by kernel_rfl) (by kernel_rfl) (by kernel_rfl) (by kernel_rfl) (by exact fun _ _ _ h=>h) hS (by rfl) ?_ ?_
   rotate_left
   ·intro uu hu
    obtain ⟨g2,g3,g4⟩:=hu
    go_simp
    try with_reducible rfl
   simp only [Act.put,List.setIfInBounds_toArray,List.set_cons_zero,List.set_cons_succ]
   refine K_take (i:=7) (v:=?_) (by simp only [List.getElem?_toArray,List.getElem?_cons_succ,List.getElem?_cons_zero];exact rfl) (by kernel_rfl) (by kernel_rfl) (by kernel_rfl) (by kernel_rfl) (by kernel_rfl) (by exact fun _ _ _ h=>h) hS (by rfl) ?_ ?_
   rotate_left
   ·intro uu hu
    obtain ⟨g2,g3,g4⟩:=hu
    go_simp
    try with_reducible rfl
   simp only [Act.put,List.setIfInBounds_toArray,List.set_cons_zero,List.set_cons_succ]
   refine K_take (i:=8) (v:=?_) (by simp only [List.getElem?_toArray,List.getElem?_cons_succ,List.getElem?_cons_zero];exact rfl) (by kernel_rfl) (by kernel_rfl) (by kernel_rfl) (by kernel_rfl) (by kernel_rfl) (by exact fun _ _ _ h=>h) hS (by rfl) ?_ ?_
   rotate_left
   ·intro uu hu
    obtain ⟨g2,g3,g4⟩:=hu
    go_simp
    try with_reducible rfl
   simp only [Act.put,List.setIfInBounds_toArray,List.set_cons_zero,List.set_cons_succ]
   refine K_take (i:=9) (v:=?_) (by simp only [List.getElem?_toArray,List.getElem?_cons_succ,List.getElem?_cons_zero];exact rfl) (by kernel_rfl) (by kernel_rfl) (by kernel_rfl) (by kernel_rfl) (by kernel_rfl) (by exact fun _ _ _ h=>h) hS (by rfl) ?_ ?_
   rotate_left
   ·intro uu hu
    obtain ⟨g2,g3,g4⟩:=hu
    go_simp
    try with_reducible rfl
   simp only [Act.put,List.setIfInBounds_toArray,List.set_cons_zero,List.set_cons_succ]
   refine K_take (i:=10) (v:=?_) (by simp only [List.getElem?_toArray,List.getElem?_cons_succ,List.getElem?_cons_zero];exact rfl) (by kernel_rfl) (by kernel_rfl) (by kernel_rfl) (by kernel_rfl) (by kernel_rfl) (by exact fun _ _ _ h=>h) hS (by rfl) ?_ ?_
   rotate_left
   ·intro uu hu
    obtain ⟨g2,g3,g4⟩:=hu
    go_simp
    try with_reducible rfl
   simp only [Act.put,List.setIfInBounds_toArray,List.set_cons_zero,List.set_cons_succ]
   refine K_pure (i:=11) (v:=?_) (by simp only [List.getElem?_toArray,List.getElem?_cons_succ,List.getElem?_cons_zero];exact rfl) (by kernel_rfl) (by kernel_rfl) (by kernel_rfl) (by decide) (by exact fun _ _ _ h=>h) (fun _=>hS) (by rfl) ?_ ?_
   rotate_left
   ·intro uu
    go_simp
    try with_reducible rfl
   simp only [Act.put,List.setIfInBounds_toArray,List.set_cons_zero,List.set_cons_succ]
   refine K_pure (i:=12) (v:=?_) (by simp only [List.getElem?_toArray,List.getElem?_cons_succ,List.getElem?_cons_zero];exact rfl) (by kernel_rfl) (by kernel_rfl) (by kernel_rfl) (by decide) (by exact fun _ _ _ h=>h) (fun _=>hS) (by rfl) ?_ ?_
   rotate_left
   ·intro uu
    go_simp
    try with_reducible rfl
   simp only [Act.put,List.setIfInBounds_toArray,List.set_cons_zero,List.set_cons_succ]
   refine K_pure (i:=13) (v:=?_) (by simp only [List.getElem?_toArray,List.getElem?_cons_succ,List.getElem?_cons_zero];exact rfl) (by kernel_rfl) (by kernel_rfl) (by kernel_rfl) (by decide) (by exact fun _ _ _ h=>h) (fun _=>hS) (by rfl) ?_ ?_
   rotate_left
   ·intro uu
    go_simp
    try with_reducible rfl
   simp only [Act.put,List.setIfInBounds_toArray,List.set_cons_zero,List.set_cons_succ]
   refine K_take (i:=14) (v:=?_) (by simp only [List.getElem?_toArray,List.getElem?_cons_succ,List.getElem?_cons_zero];exact rfl) (by kernel_rfl) (by kernel_rfl) (by kernel_rfl) (by kernel_rfl) (by kernel_rfl) (by exact fun _ _ _ h=>h) hS (by rfl) ?_ ?_
   rotate_left
   ·intro uu hu
    obtain ⟨g2,g3,g4⟩:=hu
    go_simp
    try with_reducible rfl
   simp only [Act.put,List.setIfInBounds_toArray,List.set_cons_zero,List.set_cons_succ]
   refine K_take (i:=15) (v:=?_) (by simp only [List.getElem?_toArray,List.getElem?_cons_succ,List.getElem?_cons_zero];exact rfl) (by kernel_rfl) (by kernel_rfl) (by kernel_rfl) (by kernel_rfl) (by kernel_rfl) (by exact fun _ _ _ h=>h) hS (by rfl) ?_ ?_
   rotate_left
   ·intro uu hu
    obtain ⟨g2,g3,g4⟩:=hu
    go_simp
    try with_reducible rfl
   simp only [Act.put,List.setIfInBounds_toArray,List.set_cons_zero,List.set_cons_succ]
   refine K_take (i:=16) (v:=?_) (by simp only [List.getElem?_toArray,List.getElem?_cons_succ,List.getElem?_cons_zero];exact rfl) (by kernel_rfl) (by kernel_rfl) (by kernel_rfl) (by kernel_rfl) (by kernel_rfl) (by exact fun _ _ _ h=>h) hS (by rfl) ?_ ?_
   rotate_left
   ·intro uu hu
    obtain ⟨g2,g3,g4⟩:=hu
    go_simp
    try with_reducible rfl
   simp only [Act.put,List.setIfInBounds_toArray,List.set_cons_zero,List.set_cons_succ]
   refine K_take (i:=17) (v:=?_) (by simp only [List.getElem?_toArray,List.getElem?_cons_succ,List.getElem?_cons_zero];exact rfl) (by kernel_rfl) (by kernel_rfl) (by kernel_rfl) (by kernel_rfl) (by kernel_rfl) (by exact fun _ _ _ h=>h) hS (by rfl) ?_ ?_
   rotate_left
   ·intro uu hu
    obtain ⟨g2,g3,g4⟩:=hu
    go_simp
    try with_reducible rfl
   simp only [Act.put,List.setIfInBounds_toArray,List.set_cons_zero,List.set_cons_succ]
   refine K_pure (i:=18) (v:=?_) (by simp only [List.getElem?_toArray,List.getElem?_cons_succ,List.getElem?_cons_zero];exact rfl) (by kernel_rfl) (by kernel_rfl) (by kernel_rfl) (by decide) (by exact fun _ _ _ h=>h) (fun _=>hS) (by rfl) ?_ ?_
   rotate_left
   ·intro uu
    go_simp
    try with_reducible rfl
   simp only [Act.put,List.setIfInBounds_toArray,List.set_cons_zero,List.set_cons_succ]
   refine K_pure (i:=19) (v:=?_) (by simp only [List.getElem?_toArray,List.getElem?_cons_succ,List.getElem?_cons_zero];exact rfl) (by kernel_rfl) (by kernel_rfl) (by kernel_rfl) (by decide) (by exact fun _ _ _ h=>h) (fun _=>hS) (by rfl) ?_ ?_
   rotate_left
   ·intro uu
    go_simp
    try with_reducible rfl
   simp only [Act.put,List.setIfInBounds_toArray,List.set_cons_zero,List.set_cons_succ]
   refine K_pure (i:=20) (v:=?_) (by simp only [List.getElem?_toArray,List.getElem?_cons_succ,List.getElem?_cons_zero];exact rfl) (by kernel_rfl) (by kernel_rfl) (by kernel_rfl) (by decide) (by exact fun _ _ _ h=>h) (fun _=>hS) (by rfl) ?_ ?_
   rotate_left
   ·intro uu
    go_simp
    try with_reducible rfl
   simp only [Act.put,List.setIfInBounds_toArray,List.set_cons_zero,List.set_cons_succ]
   refine K_pure (i:=21) (v:=?_) (by simp only [List.getElem?_toArray,List.getElem?_cons_succ,List.getElem?_cons_zero];exact rfl) (by kernel_rfl) (by kernel_rfl) (by kernel_rfl) (by decide) (by exact fun _ _ _ h=>h) (fun _=>hS) (by rfl) ?_ ?_
   rotate_left
   ·intro uu
    go_simp
    try with_reducible rfl
   simp only [Act.put,List.setIfInBounds_toArray,List.set_cons_zero,List.set_cons_succ]
   have f3:=hzd.frozen 3
   have s3:=hS.2.1
   refine K_one (i:=22) (by kernel_rfl) rfl (fun K hK=>?_)
   go_simp
   refine hK _ _ (fun h=>absurd h (by decide)) ?_
   clear hK K hS
   have hzA0:=HZ.out.set_ 3 (.slice KA N1 kc)
   simp at hzA0
   have hzA:Blk (w1.setCell ⟨nb,3,none⟩ (.slice KA N1 kc)).drew nb 42 #[.int .i64 x.kind,.int .i64 x.num,.string x.nm,.slice KA N1 kc,.slice LA ln lc]:=hzA0
   have hyA0:=HY.out.setCell (p:=⟨nb,3,none⟩) (show ws.heap.size≤nb by have:=HNB.out;omega) (.slice KA N1 kc)
   have hyA:Below ws.heap.size ws (w1.setCell ⟨nb,3,none⟩ (.slice KA N1 kc)).drew:=⟨hyA0.os,hyA0.tape,hyA0.output,hyA0.size,hyA0.block⟩
   clear hzd hyd f3 s3 hzA0 hyA0
   generalize (w1.setCell ⟨nb,3,none⟩ (.slice KA N1 kc)).drew=w3 at hzA hyA ⊢
   refine K_one (i:=23) (by kernel_rfl) rfl (fun K hK=>?_)
   go_simp
   refine hK _ _ (fun h=>absurd h (by decide)) ?_
   clear hK K
   have f4:=hzA.frozen 4
   have s4:=hzA.cell 4
   simp at s4
   refine K_one (i:=24) (by kernel_rfl) rfl (fun K hK=>?_)
   go_simp
   refine hK _ _ (fun h=>absurd h (by decide)) ?_
   clear hK K
   have hzB:=hzA.set_ 4 (.slice LA N2 lc)
   have hyB:=hyA.setCell (p:=⟨nb,4,none⟩) (show ws.heap.size≤nb by have:=HNB.out;omega) (.slice LA N2 lc)
   simp at hzB
   clear hzA hyA f4 s4
   generalize w3.setCell ⟨nb,4,none⟩ (.slice LA N2 lc)=w4 at hzB hyB ⊢
   refine K_one (i:=25) (by kernel_rfl) rfl (fun K hK=>?_)
   go_simp
   refine hK _ _ (fun h=>absurd h (by decide)) ?_
   clear hK K
   have f2:=hzB.frozen 2
   have s2:=hzB.cell 2
   simp at s2
   refine K_one (i:=26) (by kernel_rfl) rfl (fun K hK=>?_)
   go_simp
   refine hK _ _ (fun h=>absurd h (by decide)) ?_
   clear hK K
   have hzC:=hzB.set_ 2 (.string (x.nm.extract 0 M1))
   have hyC:=hyB.setCell (p:=⟨nb,2,none⟩) (show ws.heap.size≤nb by have:=HNB.out;omega) (.string (x.nm.extract 0 M1))
   simp at hzC
   clear hzB hyB f2 s2
   generalize w4.setCell ⟨nb,2,none⟩ (.string (x.nm.extract 0 M1))=w5 at hzC hyC ⊢
   refine K_done (by kernel_rfl) ?_
   have z0:=hzC.cell 0
   have z1:=hzC.cell 1
   have z2:=hzC.cell 2
   have z3:=hzC.cell 3
   have z4:=hzC.cell 4
   simp at z0 z1 z2 z3 z4
   have hbk5:=HBK.out.below hyC HBK.out.lt
   have y0:=hbk5.frozen (k*5)
   have y1:=hbk5.frozen (k*5+1)
   have y2:=hbk5.frozen (k*5+2)
   have y3:=hbk5.frozen (k*5+3)
   have y4:=hbk5.frozen (k*5+4)
   have hsz5:k*5+4<cur.size:=by
    have h1:=HV.out.2
    have h2:=(HS.out.blk (by have:=HQL.out;omega))
    obtain ⟨b',c',cur',h3,-,h4,h5,h6,-⟩:=h2
    injection h3 with h3 _ _
    injection h3 with h3
    injection h3 with h3
    subst h3
    unfold Blk at h5
    have h7:=HBK.out
    unfold Blk at h7
    rw [h5] at h7
    injection h7 with h7
    injection h7 with h7
    rw [← h7,h6]
    have:=HQL.out
    omega
   obtain ⟨v0,x0⟩:∃ v,w5.cell? ⟨b,k*5,none⟩=some v:=⟨_,(hbk5.cell (k*5)).trans (Array.getElem?_eq_getElem (by omega))⟩
   obtain ⟨v1,x1⟩:∃ v,w5.cell? ⟨b,k*5+1,none⟩=some v:=⟨_,(hbk5.cell (k*5+1)).trans (Array.getElem?_eq_getElem (by omega))⟩
   obtain ⟨v2,x2⟩:∃ v,w5.cell? ⟨b,k*5+2,none⟩=some v:=⟨_,(hbk5.cell (k*5+2)).trans (Array.getElem?_eq_getElem (by omega))⟩
   obtain ⟨v3,x3⟩:∃ v,w5.cell? ⟨b,k*5+3,none⟩=some v:=⟨_,(hbk5.cell (k*5+3)).trans (Array.getElem?_eq_getElem (by omega))⟩
   obtain ⟨v4,x4⟩:∃ v,w5.cell? ⟨b,k*5+4,none⟩=some v:=⟨_,(hbk5.cell (k*5+4)).trans (Array.getElem?_eq_getElem (by omega))⟩
   have hcs5:=HS.out.below (hyC.mono (Nat.le_refl _))
   have hput:=hcs5.put (i:=k) (by have:=HQL.out;omega) (p:=(cutN x,.slice KA (min kn 20) kc,.slice LA (min ln 40) lc)) (HCUT.out.kept (Kept.of_below hyC (fun _=>False)) (fun _ h=>h.elim)) (b:=b) rfl
   have HNM:Hid ((cutN x).nm=x.nm.extract 0 M1):=hid (by unfold cutN;rw [HEQ.out.2.2])
   have HPUT:Hid (CutS (set5 w5 b (k*5) (.int .i64 x.kind) (.int .i64 x.num) (.string (x.nm.extract 0 M1)) (.slice KA N1 kc) (.slice LA N2 lc)) B (.slice (some ⟨b,0,none⟩) m vc) (qs.set k (cutN x,.slice KA (min kn 20) kc,.slice LA (min ln 40) lc))):=hid (by
    have h1:=hput
    dsimp only at h1
    rw [HNM.out,← HEQ.out.1,← HEQ.out.2.1] at h1
    rw [← HEQ.out.1,← HEQ.out.2.1]
    exact h1)
   have HQ2:Hid ((qs.set k (cutN x,.slice KA (min kn 20) kc,.slice LA (min ln 40) lc)).map (·.1)=((g.take 30).take (k+1)).map cutN++(g.take 30).drop (k+1)):=hid (by
    rw [List.map_set,HQ.out]
    exact cut_step cutN (g.take 30) HX.out)
   have hbw5:=HB.out.trans (hyC.mono (show B≤ws.heap.size by have:=HBb.out;have:=HBK.out.lt;omega))
   have hbw6:=((((hbw5.setCell (p:=⟨b,k*5,none⟩) HBb.out (.int .i64 x.kind)).setCell (p:=⟨b,k*5+1,none⟩) HBb.out (.int .i64 x.num)).setCell (p:=⟨b,k*5+2,none⟩) HBb.out (.string (x.nm.extract 0 M1))).setCell (p:=⟨b,k*5+3,none⟩) HBb.out (.slice KA N1 kc)).setCell (p:=⟨b,k*5+4,none⟩) HBb.out (.slice LA N2 lc)
   have HBW:Hid (Below B w (set5 w5 b (k*5) (.int .i64 x.kind) (.int .i64 x.num) (.string (x.nm.extract 0 M1)) (.slice KA N1 kc) (.slice LA N2 lc))):=hid hbw6
   clear hzC hyC hbk5 hsz5 hcs5 hput hbw5 hbw6 hM1a hM1b hN1b hN1c hN2b hN2c hN1 hN2 hM1 hsz
   go_wp2_with fail
   go_roundw
   case rel=>exact ⟨k+1,_,by omega,by go_num,HPUT,HQ2,HBW⟩
   case measure=>simp [intOf];omega
  ·have hkI:¬ ((k:Int)<(m:Int)):=by omega
   have HR:Hid (qs.map (·.1)=cutG g):=hid (by
    rw [HQ.out,List.take_of_length_le (by have:=HM.out;omega),List.drop_eq_nil_of_le (by have:=HM.out;omega),List.append_nil];rfl)
   obtain ⟨A2,c2,hv,hc2,-,hg⟩:=HS.out.rd
   injection hv with hv1 hv2 hv3
   rw [HR.out] at hg
   have hml:m≤vc:=by
    have h1:=congrArg List.length HR.out
    rw [List.length_map,HCL.out] at h1
    omega
   have HG:=hid hg
   have HML:=hid hml
   have HBF:Hid (Below w.heap.size w ws):=hid (by rw [HBB.out];exact HB.out)
   subst hv1
   clear hv2 hv3 hg hc2 hml
   go_wp2_with fail
   go_ret
   exact ⟨_,_,rfl,HG.out,HML.out,HBF.out⟩
end SM
end
section
open Go.RowKit
namespace SM
open CM (nd kids)
theorem mem_onceF {l:List Int} {x y:Int}:y∈onceF l x↔y∈l∨y=x:=by
 unfold onceF
 by_cases h:x∈l
 ·rw [if_pos h]
  exact ⟨.inl,fun h'=>h'.elim id (fun e=>by rw [e];exact h)⟩
 ·rw [if_neg h,List.mem_append,List.mem_singleton]
theorem once_mem_find (p:Int→Bool) (l:List Int):(∀ y,y∈onceS l↔y∈l)∧(onceS l).find? p=l.find? p:=by
 have key:∀ n,∀ l:List Int,l.length=n→(∀ y,y∈onceS l↔y∈l)∧(onceS l).find? p=l.find? p:=by
  intro n
  induction n with
  | zero=>intro l hl;rw [List.length_eq_zero_iff.1 hl];exact ⟨fun y=>Iff.rfl,rfl⟩
  | succ n ih =>
   intro l hl
   obtain ⟨m,x,rfl⟩:∃ m x,l=m++[x]:=by
    have h0:l≠[]:=fun e=>by rw [e] at hl;simp at hl
    exact ⟨l.dropLast,l.getLast h0,(List.dropLast_concat_getLast h0).symm⟩
   have hm:m.length=n:=by simp at hl;exact hl
   obtain ⟨h1,h2⟩:=ih m hm
   rw [onceS_snoc]
   refine ⟨fun y=>by rw [mem_onceF,h1,List.mem_append,List.mem_singleton],?_⟩
   rw [List.find?_append]
   unfold onceF
   by_cases hx:x∈onceS m
   ·rw [if_pos hx,h2]
    cases hf:m.find? p with
    | some z=>rfl
    | none =>
     have:=List.find?_eq_none.1 hf x ((h1 x).1 hx)
     simp [this]
   ·rw [if_neg hx,List.find?_append,h2]
 exact key l.length l rfl
theorem LeastIs.find {g:List Gi} {l:List Int} {m:Int} (h:LeastIs g l m) {p:Int→Bool} (hp:∀ a,p a=true↔∀ b∈l,Gr g true a.toNat b.toNat):l.find? p=some m:=by
 obtain ⟨k,h1,h2,h3⟩:=h
 rw [List.find?_eq_some_iff_getElem]
 refine ⟨(hp m).2 h2,k,(List.getElem?_eq_some_iff.1 h1).1,(List.getElem?_eq_some_iff.1 h1).2,fun j hj=>?_⟩
 have hjl:j<l.length:=Nat.lt_trans hj (List.getElem?_eq_some_iff.1 h1).1
 obtain ⟨b,hb,hn⟩:=h3 j l[j] hj (List.getElem?_eq_getElem hjl)
 cases e:p l[j]
 ·rfl
 ·exact absurd ((hp _).1 e b hb) hn
theorem least_same {g:List Gi} {l:List Int} {w w1 w2 w3:World} {r r':Ending} (h:LeastOut g l w r w1) (h':Least8 g l w2 r' w3):r=r':=by
 obtain ⟨-,h⟩:=h
 obtain ⟨-,h'⟩:=h'
 let p:Int→Bool:=fun a => @decide (∀ b∈l,Gr g true a.toNat b.toNat) (Classical.propDecidable _)
 have hp:∀ a,p a=true↔∀ b∈l,Gr g true a.toNat b.toNat:=fun a => @decide_eq_true_iff _ (Classical.propDecidable _)
 obtain ⟨hm,hf⟩:=once_mem_find p l
 have hp':∀ a,p a=true↔∀ b∈onceS l,Gr g true a.toNat b.toNat:=fun a=>(hp a).trans ⟨fun h b hb=>h b ((hm b).1 hb),fun h b hb=>h b ((hm b).2 hb)⟩
 rcases h with ⟨a1,a2⟩ | ⟨a1,a2,a3⟩ | ⟨a1,a2,m,a3,a4⟩ | ⟨a1,a2,a3,a4⟩ <;> rcases h' with ⟨b1,b2⟩ | ⟨b1,b2,b3⟩ | ⟨b1,b2,m',b3,b4⟩ | ⟨b1,b2,b3,b4⟩
 ·rw [a2,b2]
 ·exact absurd b1 a1
 ·exact absurd b1 a1
 ·exact absurd b1 a1
 ·exact absurd a1 b1
 ·rw [a3,b3]
 ·rw [a2] at b2;cases b2
 ·rw [a2] at b2;cases b2
 ·exact absurd a1 b1
 ·rw [a2] at b2;cases b2
 ·have e1:=a3.find hp'
  have e2:=b3.find hp
  rw [hf,e2] at e1
  injection e1 with e1
  rw [a4,b4,e1]
 ·have e1:=a3.find hp'
  have e2:=List.mem_of_find?_eq_some e1
  have e3:=(hp' m).1 (List.find?_some e1)
  obtain ⟨b,hb,hn⟩:=b3 m ((hm m).1 e2)
  exact absurd (e3 b ((hm b).2 hb)) hn
 ·exact absurd a1 b1
 ·rw [a2] at b2;cases b2
 ·have e2:=b3.find hp
  have e4:=List.mem_of_find?_eq_some e2
  have e3:=(hp m').1 (List.find?_some e2)
  obtain ⟨b,hb,hn⟩:=a3 m' ((hm m').2 e4)
  exact absurd (e3 b ((hm b).1 hb)) hn
 ·rw [a4,b4]
end SM
end
section
open Lib (hid)
open Go.RowKit
namespace SM
open CM (nd kids)
theorem cut_texts {g:List Gi} (h:Texts g):Texts (cutG g):=fun x hx=>by
 unfold cutG at hx
 obtain ⟨y,hy,rfl⟩:=List.mem_map.1 hx
 obtain ⟨h1,h2⟩:=h y (List.mem_of_mem_take hy)
 refine ⟨?_,fun s hs=>h2 s (List.mem_of_mem_take hs)⟩
 show (y.nm.extract 0 (min y.nm.size 30)).size≤maxLen
 rw [ByteArray.size_extract]
 omega
theorem cut_len (g:List Gi):(cutG g).length≤30:=by unfold cutG;rw [List.length_map,List.length_take];omega
theorem Gnd.next0 {w w':World} (h:Gnd w) (hb:Below w.heap.size w w'):Gnd w':=h.next hb
set_option maxRecDepth 100000 in
set_option maxHeartbeats 8000000 in
theorem least8_any (A LA:Option Addr) (c lc:Nat) (g:List Gi) (l:List Int) (w:World) (hk:Gnd w) (hl:(g.length:Int)≤9223372036854775807) (hc:g.length≤c) (hr:GsR w A g) (hs:ListsG g) (ht:Texts g)
  (hll:(l.length:Int)≤9223372036854775807) (hlc:l.length≤lc) (h:RdV w LA (l.flatMap iC)) :
  Calls Tryz.prog 4 #[.slice A g.length c,.slice LA l.length lc] w fun r w'=>r = .returned (.bool true)∧Below w.heap.size w w':=by
 have hdr:Below w.heap.size w w.drew:=⟨rfl,rfl,rfl,Nat.le_refl _,fun _ _=>rfl⟩
 have C:=s8_cut A c g w.drew hl hc (hr.below hdr) hs ht
 have HTX:=hid (cut_texts ht)
 have HCL:=hid (cut_len g)
 have HK:=hid hk
 have hrt:=rdv_take (f:=iC) (fun _=>rfl) 10 h
 have hlt:(l.take 10).length=min l.length 10:=by rw [List.length_take];omega
 obtain ⟨m,hm⟩:∃ m,min l.length 10=m:=⟨_,rfl⟩
 have HLT:Hid ((l.take 10).length=m):=hid (hlt.trans hm)
 have HRT:=hid hrt
 obtain ⟨n,hn⟩:∃ n,g.length=n:=⟨_,rfl⟩
 obtain ⟨ln,hln⟩:∃ ln,l.length=ln:=⟨_,rfl⟩
 rw [hn] at C ⊢
 rw [hln] at hm hll hlc ⊢
 have hmin:min (ln:Int) 10=(m:Int):=by omega
 have hmlc:m≤lc:=by omega
 have hmlcI:(m:Int)≤(lc:Int):=by omega
 clear hdr hk hl hc hr hs ht h hrt hlt hm hn hln
 go_enter Tryz.func4,Tryz.ntmps4
 go_upto_region 1 with (fail)
 have hS:Below w.heap.size w w.drew:=⟨rfl,rfl,rfl,Nat.le_refl _,fun _ _=>rfl⟩
 refine K_start 100 (fun u=>Below w.heap.size w u) (by kernel_rfl) ?_
 refine K_pure (i:=0) (v:=?_) (by simp only [List.getElem?_toArray,List.getElem?_cons_succ,List.getElem?_cons_zero];exact rfl) (by kernel_rfl) (by kernel_rfl) (by kernel_rfl) (by decide) (by exact fun _ _ _ h=>h) (fun _=>hS) (by rfl) ?_ ?_
 rotate_left
 ·intro uu
  go_simp
  try with_reducible rfl
 simp only [Act.put,List.setIfInBounds_toArray,List.set_cons_zero,List.set_cons_succ]
 refine K_pure (i:=2) (v:=?_) (by simp only [List.getElem?_toArray,List.getElem?_cons_succ,List.getElem?_cons_zero];exact rfl) (by kernel_rfl) (by kernel_rfl) (by kernel_rfl) (by decide) (by exact fun _ _ _ h=>h) (fun _=>hS) (by rfl) ?_ ?_
 rotate_left
 ·intro uu
  go_simp
  try with_reducible rfl
 simp only [Act.put,List.setIfInBounds_toArray,List.set_cons_zero,List.set_cons_succ]
 refine K_pure (i:=3) (v:=?_) (by simp only [List.getElem?_toArray,List.getElem?_cons_succ,List.getElem?_cons_zero];exact rfl) (by kernel_rfl) (by kernel_rfl) (by kernel_rfl) (by decide) (by exact fun _ _ _ h=>h) (fun _=>hS) (by rfl) ?_ ?_
 rotate_left
 ·intro uu
  go_simp
  try with_reducible rfl
 simp only [Act.put,List.setIfInBounds_toArray,List.set_cons_zero,List.set_cons_succ]
 refine K_pure (i:=4) (v:=?_) (by simp only [List.getElem?_toArray,List.getElem?_cons_succ,List.getElem?_cons_zero];exact rfl) (by kernel_rfl) (by kernel_rfl) (by kernel_rfl) (by decide) (by exact fun _ _ _ h=>h) (fun _=>hS) (by rfl) ?_ ?_
 rotate_left
 ·intro uu
  go_simp
  try with_reducible rfl
 simp only [Act.put,List.setIfInBounds_toArray,List.set_cons_zero,List.set_cons_succ]
 refine K_pure (i:=5) (v:=?_) (by simp only [List.getElem?_toArray,List.getElem?_cons_succ,List.getElem?_cons_zero];exact rfl) (by kernel_rfl) (by kernel_rfl) (by kernel_rfl) (by decide) (by exact fun _ _ _ h=>h) (fun _=>hS) (by rfl) ?_ ?_
 rotate_left
 ·intro uu
  go_simp
  try with_reducible rfl
 simp only [Act.put,List.setIfInBounds_toArray,List.set_cons_zero,List.set_cons_succ]
 refine K_pure (i:=6) (v:=?_) (by simp only [List.getElem?_toArray,List.getElem?_cons_succ,List.getElem?_cons_zero];exact rfl) (by kernel_rfl) (by kernel_rfl) (by kernel_rfl) (by decide) (by exact fun _ _ _ h=>h) (fun _=>hS) (by rfl) ?_ ?_
 rotate_left
 ·intro uu
  go_simp
  try with_reducible rfl
 simp only [Act.put,List.setIfInBounds_toArray,List.set_cons_zero,List.set_cons_succ]
 refine K_one (i:=1) (by kernel_rfl) rfl (fun K hK=>?_)
 go_simp
 go_at_call 7
 refine C.mono ?_
 rintro e w2 ⟨VA,vc,rfl,hgr,hvc,hb2⟩
 have hS_w2:Below w.heap.size w w2:=hS.trans (hb2.mono hS.size)
 refine hK _ _ (fun _=>hS_w2) ?_
 clear hK K hS hb2
 have hS:=hS_w2
 clear hS_w2
 refine K_pure (i:=7) (v:=?_) (by simp only [List.getElem?_toArray,List.getElem?_cons_succ,List.getElem?_cons_zero];exact rfl) (by kernel_rfl) (by kernel_rfl) (by kernel_rfl) (by decide) (by exact fun _ _ _ h=>h) (fun _=>hS) (by rfl) ?_ ?_
 rotate_left
 ·intro uu
  go_simp
  try with_reducible rfl
 simp only [Act.put,List.setIfInBounds_toArray,List.set_cons_zero,List.set_cons_succ]
 refine K_pure (i:=8) (v:=?_) (by simp only [List.getElem?_toArray,List.getElem?_cons_succ,List.getElem?_cons_zero];exact rfl) (by kernel_rfl) (by kernel_rfl) (by kernel_rfl) (by decide) (by exact fun _ _ _ h=>h) (fun _=>hS) (by rfl) ?_ ?_
 rotate_left
 ·intro uu
  go_simp
  try with_reducible rfl
 simp only [Act.put,List.setIfInBounds_toArray,List.set_cons_zero,List.set_cons_succ]
 refine K_done (by kernel_rfl) ?_
 have HB2:=hid hS
 have HG2:=hid hgr
 have HR2:=hid (HRT.out.below hS)
 have hk2:=HK.out.next hS
 have C1:=Least_any (cutG g) VA LA vc lc (l.take 10) w2 hgr hk2 (by have:=HCL.out;omega) HTX.out (by have:=HLT.out;omega) HR2.out
 have HK2:=hid hk2
 rw [HLT.out] at C1
 clear hS hgr C hk2 HRT
 go_wp2_with fail
 refine C1.mono ?_
 intro r w3 hlo
 have HLO:=hid hlo
 have hb3:=hlo.1
 have C2:=r8_least (cutG g) VA LA vc lc (l.take 10) w3 (HG2.out.below hb3) (by have:=HCL.out;omega) HTX.out (by have:=HLT.out;omega) (HR2.out.below hb3)
 rw [HLT.out] at C2
 have HB3:=hid (HB2.out.trans (hb3.mono HB2.out.size))
 have HK3:=hid (HK2.out.next hb3)
 obtain ⟨a,e,rfl⟩:∃ a e:Int,r = .returned (.tuple #[.int .i64 a,.int .i64 e]):=by
  rcases hlo.2 with ⟨-,h⟩ | ⟨-,-,h⟩ | ⟨-,-,m,-,h⟩ | ⟨-,-,-,h⟩ <;> exact ⟨_,_,h⟩
 clear C1 hlo hb3
 go_wp2_with fail
 refine C2.mono ?_
 intro r w4 hlo
 have hee:=least_same HLO.out hlo
 have hb4:=hlo.1
 subst hee
 have HB4:=hid (HB3.out.trans (hb4.mono HB3.out.size))
 have HK4:=hid (HK3.out.next hb4)
 have C3:=works8_any w4 HK4.out
 clear C2 hlo hb4
 go_wp2_with fail
 refine C3.mono ?_
 rintro r w5 ⟨rfl,hb5⟩
 have HB5:=hid (HB4.out.trans (hb5.mono HB4.out.size))
 clear C3 hb5
 go_wp2_with fail
 go_ret
 exact ⟨rfl,HB5.out⟩
end SM
end
section
open Lib (hid)
open Go.RowKit
namespace SM
open CM (nd kids)
theorem Mx.mz {w:World} {n:Nat} {u:Nat→Nat→Bool} {rb:Nat} {q:Nat→Nat} (h:Mx w n u rb q):Mz w n u (some ⟨rb,0,none⟩) q:=⟨fun i hi=>⟨rb,rfl,h.c hi⟩,h.row⟩
theorem Mz.nil (w:World) (u:Nat→Nat→Bool) (A:Option Addr) (q:Nat→Nat):Mz w 0 u A q:=⟨fun i hi=>by omega,fun j hj=>by omega⟩
theorem bel_uniq {g:List Gi} {st:Bool} {a b:Int} {v v':Bool} (h:Bel g st a b v) (h':Bel g st a b v'):v=v':=by
 unfold Bel at h h'
 cases v <;> cases v'
 ·rfl
 ·exact absurd (h.2 (h'.1 rfl)) (by decide)
 ·exact absurd (h'.2 (h.1 rfl)) (by decide)
 ·rfl
theorem idxI_congr8 {p p':Int→Bool} {l:List Int} (h:∀ t∈l,p t=p' t):idxI p l=idxI p' l:=by
 unfold idxI
 have:l.findIdx? p=l.findIdx? p':=by
  induction l with
  | nil=>rfl
  | cons x l ih =>
   rw [List.findIdx?_cons,List.findIdx?_cons,h x (List.mem_cons_self ..),ih fun t ht=>h t (List.mem_cons_of_mem _ ht)]
 rw [this]
theorem pickIs_uniq {g:List Gi} {a b k k':Int} (h:PickIs g a b k) (h':PickIs g a b k'):k=k':=by
 unfold PickIs at h h'
 by_cases hc:checkG g=0∧exI g.length a=true∧exI g.length b=true∧(nd g a.toNat).kind≠8∧Gr g false a.toNat b.toNat
 ·obtain ⟨p,hp,rfl⟩:=h.1 hc
  obtain ⟨p',hp',rfl⟩:=h'.1 hc
  refine idxI_congr8 fun t ht=>?_
  have h1:=hp t ht
  have h2:=hp' t ht
  cases e:p t <;> cases e':p' t
  ·rfl
  ·exact absurd (h1.2 (h2.1 e')) (by rw [e];decide)
  ·exact absurd (h2.2 (h1.1 e)) (by rw [e'];decide)
  ·rfl
 ·rw [h.2 hc,h'.2 hc]
set_option maxRecDepth 100000 in
set_option maxHeartbeats 8000000 in
theorem s8_same (n:Nat) (u v:Nat→Nat→Bool) (XA YA:Option Addr) (xc yc:Nat) (q p:Nat→Nat) (w:World) (hn:n≤2000) (hx:Mz w n u XA q) (hy:Mz w n v YA p) (he:∀ i j,i<n→j<n→u i j=v i j) :
  Calls Tryz.prog 11 #[.slice XA n xc,.slice YA n yc] w fun r w'=>r = .returned (.bool true)∧Below w.heap.size w w':=by
 have HX:=hid hx
 have HY:=hid hy
 have HE:=hid he
 have hbb:((n:Int) != (n:Int))=false:=by simp
 clear hx hy he
 go_enter Tryz.func11,Tryz.ntmps11
 go_wp2_with fail
 go_loopw [5] (fun u5 wr=>∃ i:Nat,i≤n∧u5 = .int .i64 (i:Int)∧Hid (Below w.heap.size w wr)) (fun u5 _=>n - (intOf u5).toNat)
 case atStart=>exact ⟨0,Nat.zero_le _,rfl,hid (Below.refl _ _)⟩
 case round =>
  obtain ⟨i,hi,rfl,HB⟩:=hrel
  obtain ⟨ws,rfl⟩:∃ ws,ws=wr:=⟨_,rfl⟩
  by_cases hlt:i<n
  ·have hii:(i:Int)<(n:Int):=by omega
   obtain ⟨rb,hXA,m0⟩:=(HX.out.below HB.out).rows i hlt
   obtain ⟨sb,hYA,m1⟩:=(HY.out.below HB.out).rows i hlt
   subst hXA hYA
   go_wp2_with fail
   go_quiet (fail)
   have HBn:Hid (Below w.heap.size w (ws.drewN nq)):=hid (bel_drewN HB.out nq)
   clear m0 m1
   go_wp2_with fail
   go_loopw [6] (fun u6 wr=>∃ j:Nat,j≤n∧u6 = .int .i64 (j:Int)∧Hid (Below w.heap.size w wr)) (fun u6 _=>n - (intOf u6).toNat)
   case atStart=>exact ⟨0,Nat.zero_le _,rfl,HBn⟩
   case round =>
    obtain ⟨j,hj,rfl,HBj⟩:=hrel
    obtain ⟨wv,rfl⟩:∃ wv,wv=wr:=⟨_,rfl⟩
    obtain ⟨rb',e1,m0⟩:=(HX.out.below HBj.out).rows i hlt
    obtain ⟨sb',e2,m1⟩:=(HY.out.below HBj.out).rows i hlt
    injection e1 with e1
    injection e1 with e1
    injection e2 with e2
    injection e2 with e2
    subst e1 e2
    by_cases hlj:j<n
    ·have hji:(j:Int)<(n:Int):=by omega
     have d0:=(HX.out.below HBj.out).d hlt hlj
     have d1:=(HY.out.below HBj.out).d hlt hlj
     rw [HE.out i j hlt hlj] at d0
     obtain ⟨b,hb⟩:∃ b,v i j=b:=⟨_,rfl⟩
     rw [hb] at d0 d1
     have hbx:(b != b)=false:=by cases b <;> rfl
     clear hb
     go_wp2_with fail
     go_quiet (fail)
     have HBj2:Hid (Below w.heap.size w (wv.drewN nq)):=hid (bel_drewN HBj.out nq)
     go_wp2_with fail
     go_roundw
     case rel=>exact ⟨j+1,by omega,by go_num,HBj2⟩
     case measure=>simp [intOf];omega
    ·have hji:¬ ((j:Int)<(n:Int)):=by omega
     go_wp2_with fail
     go_roundw
     case rel=>exact ⟨i+1,by omega,by go_num,HBj⟩
     case measure=>simp [intOf];omega
  ·have hii:¬ ((i:Int)<(n:Int)):=by omega
   go_wp2_with fail
   go_ret
   exact ⟨rfl,HB.out⟩
end SM
end
section
open Lib (hid)
open Go.RowKit
namespace SM
open CM (nd kids)
theorem cut_lists (g:List Gi):ListsG (cutG g):=fun x hx=>by
 unfold cutG at hx
 obtain ⟨y,hy,rfl⟩:=List.mem_map.1 hx
 have h1:=cutN_keys y
 have h2:=cutN_l y
 omega
set_option maxRecDepth 100000 in
set_option maxHeartbeats 16000000 in
theorem tells8_any (A:Option Addr) (c:Nat) (g:List Gi) (a b:Int) (w:World) (hk:Gnd w) (hl:(g.length:Int)≤9223372036854775807) (hc:g.length≤c) (hr:GsR w A g) (hs:ListsG g) (ht:Texts g) :
  Calls Tryz.prog 3 #[.slice A g.length c,.int .i64 a,.int .i64 b] w fun r w'=>r = .returned (.bool true)∧Below w.heap.size w w':=by
 have C:=s8_cut A c g w hl hc hr hs ht
 have HTX:=hid (cut_texts ht)
 have HCL:=hid (cut_len g)
 have HLS:=hid (cut_lists g)
 have HK:=hid hk
 obtain ⟨G,hG⟩:∃ G,cutG g=G:=⟨_,rfl⟩
 rw [hG] at C HTX HCL HLS
 obtain ⟨n,hn⟩:∃ n,G.length=n:=⟨_,rfl⟩
 have HN:=hid hn
 rw [hn] at C
 have hn30:n≤30:=by have:=HCL.out;omega
 clear hk hl hc hr hs ht hG hn
 go_enter Tryz.func3,Tryz.ntmps3
 go_wp2_with fail
 refine C.mono ?_
 rintro r w1 ⟨VA,vc,rfl,hg1,-,hb1⟩
 have HG1:=hid hg1
 have HB1:=hid hb1
 have HK1:=hid (HK.out.next hb1)
 have C2:=r6_copy VA vc G w1 (by have:=HN.out;omega) hg1 HLS.out
 rw [HN.out] at C2
 clear C hg1 hb1
 go_wp2_with fail
 refine C2.mono ?_
 rintro r w2 ⟨v,rfl,hown,hb2⟩
 obtain ⟨WA,wc,rfl,-,-,hw2⟩:=hown.rd
 rw [HN.out]
 have HG2:=hid (HG1.out.below hb2)
 have HW2:=hid hw2
 have HB2:=hid (HB1.out.trans (hb2.mono HB1.out.size))
 have HK2:=hid (HK1.out.next hb2)
 clear C2 hown hw2 hb2
 have C3:=All_any G VA vc false w2 HG2.out HK2.out (by have:=HN.out;omega) HTX.out
 rw [HN.out] at C3
 by_cases hcg:checkG G=0
 ·have HC:=hid hcg
  clear hcg
  go_wp2_with fail
  refine C3.mono ?_
  rintro r w3 ⟨hb3,ho⟩
  rcases ho with ⟨h0,-⟩ | ⟨-,rb,q,u,rfl,hsq,hu⟩
  ·exact absurd HC.out h0
  rw [HN.out] at hsq hu ⊢
  have HSQ:=hid hsq
  have HU:=hid hu
  have HG3:=hid (HG2.out.below hb3)
  have HW3:=hid (HW2.out.below hb3)
  have HK3:=hid (HK2.out.next hb3)
  clear C3 hb3 hsq hu
  have C4:=All_any G VA vc true w3 HG3.out HK3.out (by have:=HN.out;omega) HTX.out
  rw [HN.out] at C4
  go_wp2_with fail
  refine C4.mono ?_
  rintro r w4 ⟨hb4,ho⟩
  rcases ho with ⟨h0,-⟩ | ⟨-,rb2,q2,u2,rfl,hsq2,hu2⟩
  ·exact absurd HC.out h0
  rw [HN.out] at hsq2 hu2 ⊢
  have HSQ4:=hid (HSQ.out.below (Nat.le_trans (Nat.le_refl _) (HSQ.out.bel.size)) hb4)
  have HM2:=hid hsq2.mx.mz
  have HU2:=hid hu2
  have HG4:=hid (HG3.out.below hb4)
  have HW4:=hid (HW3.out.below hb4)
  have HK4:=hid (HK3.out.next hb4)
  clear C4 hb4 hsq2 hu2 HSQ
  have C5:=r8_all G WA wc false w4 HW4.out (by have:=HN.out;omega) HTX.out
  rw [HN.out] at C5
  go_wp2_with fail
  refine C5.mono ?_
  rintro r w5 ⟨hb5,ho⟩
  rcases ho with ⟨h0,-⟩ | ⟨-,RA3,rc3,q3,u3,rfl,hm3,hu3⟩
  ·exact absurd HC.out h0
  rw [HN.out] at hm3 hu3 ⊢
  have HSQ5:=hid (HSQ4.out.below (Nat.le_trans (Nat.le_refl _) (HSQ4.out.bel.size)) hb5)
  have HM25:=hid (HM2.out.below hb5)
  have HM3:=hid hm3
  have HU3:=hid hu3
  have HG5:=hid (HG4.out.below hb5)
  have HW5:=hid (HW4.out.below hb5)
  have HK5:=hid (HK4.out.next hb5)
  clear C5 hb5 hm3 hu3 HSQ4
  have C6:=r8_all G WA wc true w5 HW5.out (by have:=HN.out;omega) HTX.out
  rw [HN.out] at C6
  go_wp2_with fail
  refine C6.mono ?_
  rintro r w6 ⟨hb6,ho⟩
  rcases ho with ⟨h0,-⟩ | ⟨-,RA4,rc4,q4,u4,rfl,hm4,hu4⟩
  ·exact absurd HC.out h0
  rw [HN.out] at hm4 hu4 ⊢
  have HSQ6:=hid (HSQ5.out.below (Nat.le_trans (Nat.le_refl _) (HSQ5.out.bel.size)) hb6)
  have HM26:=hid (HM25.out.below hb6)
  have HM36:=hid (HM3.out.below hb6)
  have hm4':=hm4
  have C7:=s8_same n u u3 (some ⟨rb,0,none⟩) RA3 n rc3 q q3 w6 (by omega) HSQ6.out.mx.mz HM36.out (fun i j hi hj=>(by
   have h1:=HU.out i j hi hj
   have h2:=HU3.out i j hi hj
   cases e:u i j <;> cases e':u3 i j
   ·rfl
   ·exact absurd (h1.2 (h2.1 e')) (by rw [e];decide)
   ·exact absurd (h2.2 (h1.1 e)) (by rw [e'];decide)
   ·rfl))
  have HM4:=hid hm4
  have HU4:=hid hu4
  have HBW6:=hid (HSQ6.out.bel)
  clear C6 hb6 hm4 hu4 HSQ5 HM25 HM3
  go_wp2_with fail
  refine C7.mono ?_
  rintro r w7 ⟨rfl,hb7⟩
  have HSQ7:=hid (HSQ6.out.below (Nat.le_trans (Nat.le_refl _) (HSQ6.out.bel.size)) hb7)
  have C8:=s8_same n u2 u4 (some ⟨rb2,0,none⟩) RA4 n rc4 q2 q4 w7 (by omega) (HM26.out.below hb7) (HM4.out.below hb7) (fun i j hi hj=>(by
   have h1:=HU2.out i j hi hj
   have h2:=HU4.out i j hi hj
   cases e:u2 i j <;> cases e':u4 i j
   ·rfl
   ·exact absurd (h1.2 (h2.1 e')) (by rw [e];decide)
   ·exact absurd (h2.2 (h1.1 e)) (by rw [e'];decide)
   ·rfl))
  clear C7 hb7 HSQ6
  go_wp2_with fail
  refine C8.mono ?_
  rintro r w8 ⟨rfl,hb8⟩
  have HSQ8:=hid (HSQ7.out.below (Nat.le_trans (Nat.le_refl _) (HSQ7.out.bel.size)) hb8)
  clear C8 hb8 HSQ7 hm4'
  obtain ⟨B,hB⟩:∃ B,w2.heap.size=B:=⟨_,rfl⟩
  have HBB:=hid hB
  rw [hB] at HSQ8
  clear hB
  go_wp2_with fail
  go_loopw [16] (fun u16 wr=>∃ (i:Nat) (I:Nat→Nat→Bool),i≤n∧u16 = .int .i64 (i:Int)∧Hid (Sq w2 B n I rb q n wr)) (fun u16 _=>n - (intOf u16).toNat)
  case atStart=>exact ⟨0,u,Nat.zero_le _,rfl,HSQ8⟩
  case round =>
   obtain ⟨i,I,hi,rfl,HS⟩:=hrel
   obtain ⟨ws,rfl⟩:∃ ws,ws=wr:=⟨_,rfl⟩
   by_cases hlt:i<n
   ·have hii:(i:Int)<(n:Int):=by omega
    go_wp2_with fail
    go_loopw [17] (fun u17 wr=>∃ (j:Nat) (I:Nat→Nat→Bool),j≤n∧u17 = .int .i64 (j:Int)∧Hid (Sq w2 B n I rb q n wr)) (fun u17 _=>n - (intOf u17).toNat)
    case atStart=>exact ⟨0,I,Nat.zero_le _,rfl,HS⟩
    case round =>
     obtain ⟨j,J,hj,rfl,HSJ⟩:=hrel
     obtain ⟨wv,rfl⟩:∃ wv,wv=wr:=⟨_,rfl⟩
     have m0:=HSJ.out.mx.c hlt
     by_cases hlj:j<n
     ·have hji:(j:Int)<(n:Int):=by omega
      have d0:=HSJ.out.mx.d hlt hlj
      have d1:=(HSJ.out.row i hlt).2.2.2.frozen j
      have HP:=hid (HSJ.out.put (k:=j) hlt (!J i j))
      obtain ⟨x,hx⟩:∃ x,J i j=x:=⟨_,rfl⟩
      rw [hx] at d0
      rw [hx] at HP
      clear hx
      go_upto_region 15 with (fail)
      go_region
      have HP2:Hid (Sq w2 B n (fun x_1 y=>if x_1=i∧y=j then !x else J x_1 y) rb q n (wv.setCell ⟨q i,j,none⟩ (.bool (!x))).drew):=hid ⟨⟨HP.out.bel.os,HP.out.bel.tape,HP.out.bel.output,HP.out.bel.size,HP.out.bel.block⟩,HP.out.rows,HP.out.row,HP.out.ne⟩
      go_wp2_with fail
      go_roundw
      case rel=>exact ⟨j+1,_,by omega,by go_num,HP2⟩
      case measure=>simp [intOf];omega
     ·have hji:¬ ((j:Int)<(n:Int)):=by omega
      go_wp2_with fail
      go_roundw
      case rel=>exact ⟨i+1,J,by omega,by go_num,HSJ⟩
      case measure=>simp [intOf];omega
   ·have hii:¬ ((i:Int)<(n:Int)):=by omega
    have HBL:Hid (Below w2.heap.size w2 ws):=hid (by rw [HBB.out];exact HS.out.bel)
    obtain ⟨wf,hwf⟩:∃ wf,wf=ws:=⟨_,rfl⟩
    have HKF:Hid (Gnd wf):=hid (by rw [hwf];exact HK2.out.next HBL.out)
    have HGF:Hid (GsR wf VA G):=hid (by rw [hwf];exact HG2.out.below HBL.out)
    have HWF:Hid (GsR wf WA G):=hid (by rw [hwf];exact HW2.out.below HBL.out)
    have HBF:Hid (Below w.heap.size w wf):=hid (by rw [hwf];exact HB2.out.trans (HBL.out.mono HB2.out.size))
    rw [← hwf]
    clear hwf
    have C1:=May_any G VA vc a b wf HGF.out HKF.out (by have:=HN.out;omega) HTX.out
    rw [HN.out] at C1
    go_wp2_with fail
    refine C1.mono ?_
    rintro r w7 ⟨v1,rfl,hv1,hb7⟩
    have HV1:=hid hv1
    have HK7:=hid (HKF.out.next hb7)
    have HG7:=hid (HGF.out.below hb7)
    have HW7:=hid (HWF.out.below hb7)
    have HB7:=hid (HBF.out.trans (hb7.mono HBF.out.size))
    clear C1 hv1 hb7 HKF HGF HWF HBF
    have C1:=r8_may G WA wc a b w7 HW7.out (by have:=HN.out;omega) HTX.out
    rw [HN.out] at C1
    go_wp2_with fail
    refine C1.mono ?_
    rintro r w8 ⟨v1',rfl,hv1,hb8⟩
    obtain rfl:=bel_uniq HV1.out hv1
    have HK8:=hid (HK7.out.next hb8)
    have HG8:=hid (HG7.out.below hb8)
    have HW8:=hid (HW7.out.below hb8)
    have HB8:=hid (HB7.out.trans (hb8.mono HB7.out.size))
    have hvv:(v1 == v1)=true:=by cases v1 <;> rfl
    clear C1 hv1 hb8 HK7 HG7 HW7 HB7 HV1
    have C1:=Strict_any G VA vc a b w8 HG8.out HK8.out (by have:=HN.out;omega) HTX.out
    rw [HN.out] at C1
    go_wp2_with fail
    refine C1.mono ?_
    rintro r w9 ⟨v2,rfl,hv2,hb9⟩
    have HV2:=hid hv2
    have HK9:=hid (HK8.out.next hb9)
    have HG9:=hid (HG8.out.below hb9)
    have HW9:=hid (HW8.out.below hb9)
    have HB9:=hid (HB8.out.trans (hb9.mono HB8.out.size))
    clear C1 hv2 hb9 HK8 HG8 HW8 HB8 hvv
    have C1:=r8_strict G WA wc a b w9 HW9.out (by have:=HN.out;omega) HTX.out
    rw [HN.out] at C1
    go_wp2_with fail
    refine C1.mono ?_
    rintro r w10 ⟨v2',rfl,hv2,hb10⟩
    obtain rfl:=bel_uniq HV2.out hv2
    have HK10:=hid (HK9.out.next hb10)
    have HG10:=hid (HG9.out.below hb10)
    have HW10:=hid (HW9.out.below hb10)
    have HB10:=hid (HB9.out.trans (hb10.mono HB9.out.size))
    have hvv:(v2 == v2)=true:=by cases v2 <;> rfl
    clear C1 hv2 hb10 HK9 HG9 HW9 HB9 HV2
    have C1:=Pick_any G VA vc a b w10 HG10.out HK10.out (by have:=HN.out;omega) HTX.out
    rw [HN.out] at C1
    go_wp2_with fail
    refine C1.mono ?_
    rintro r w11 ⟨k1,rfl,hk1,hb11⟩
    have HP1:=hid hk1
    have HK11:=hid (HK10.out.next hb11)
    have HG11:=hid (HG10.out.below hb11)
    have HW11:=hid (HW10.out.below hb11)
    have HB11:=hid (HB10.out.trans (hb11.mono HB10.out.size))
    clear C1 hk1 hb11 HK10 HG10 HW10 HB10 hvv
    have C1:=r8_Pick G WA wc a b w11 HW11.out (by have:=HN.out;omega) HTX.out
    rw [HN.out] at C1
    go_wp2_with fail
    refine C1.mono ?_
    rintro r w12 ⟨k1',rfl,hk1,hb12⟩
    obtain rfl:=pickIs_uniq HP1.out hk1
    have HK12:=hid (HK11.out.next hb12)
    have HG12:=hid (HG11.out.below hb12)
    have HW12:=hid (HW11.out.below hb12)
    have HB12:=hid (HB11.out.trans (hb12.mono HB11.out.size))
    have hvv:(k1 == k1)=true:=by simp
    clear C1 hk1 hb12 HK11 HG11 HW11 HB11 HP1
    have C1:=r6_same VA WA vc wc G G w12 (by have:=HN.out;omega) (by have:=HN.out;omega) HG12.out HW12.out
    rw [decide_eq_true (rfl:G=G),HN.out] at C1
    go_wp2_with fail
    refine C1.mono ?_
    rintro r w13 ⟨rfl,hb13⟩
    have HK13:=hid (HK12.out.next hb13)
    have HB13:=hid (HB12.out.trans (hb13.mono HB12.out.size))
    clear C1 hb13 HK12 HG12 HW12 HB12 hvv
    have C1:=works8_any w13 HK13.out
    go_wp2_with fail
    refine C1.mono ?_
    rintro r w14 ⟨rfl,hb14⟩
    have HB14:=hid (HB13.out.trans (hb14.mono HB13.out.size))
    clear C1 hb14
    go_wp2_with fail
    go_ret
    exact ⟨rfl,HB14.out⟩
 ·obtain ⟨e,he⟩:∃ e,checkG G=e:=⟨_,rfl⟩
  have HC:Hid (checkG G=e):=hid he
  have HC0:Hid (checkG G≠0):=hid hcg
  clear hcg he
  go_wp2_with fail
  refine C3.mono ?_
  rintro r w3 ⟨hb3,ho⟩
  rcases ho with ⟨-,rfl⟩ | ⟨h0,-⟩
  rotate_left
  ·exact absurd h0 HC0.out
  rw [HC.out]
  have HG3:=hid (HG2.out.below hb3)
  have HW3:=hid (HW2.out.below hb3)
  have HK3:=hid (HK2.out.next hb3)
  have HB3:=hid (HB2.out.trans (hb3.mono HB2.out.size))
  clear C3 hb3
  have C4:=All_any G VA vc true w3 HG3.out HK3.out (by have:=HN.out;omega) HTX.out
  rw [HN.out] at C4
  go_wp2_with fail
  refine C4.mono ?_
  rintro r w4 ⟨hb4,ho⟩
  rcases ho with ⟨-,rfl⟩ | ⟨h0,-⟩
  rotate_left
  ·exact absurd h0 HC0.out
  rw [HC.out]
  have HG4:=hid (HG3.out.below hb4)
  have HW4:=hid (HW3.out.below hb4)
  have HK4:=hid (HK3.out.next hb4)
  have HB4:=hid (HB3.out.trans (hb4.mono HB3.out.size))
  clear C4 hb4
  have C5:=r8_all G WA wc false w4 HW4.out (by have:=HN.out;omega) HTX.out
  rw [HN.out] at C5
  go_wp2_with fail
  refine C5.mono ?_
  rintro r w5 ⟨hb5,ho⟩
  rcases ho with ⟨-,rfl⟩ | ⟨h0,-⟩
  rotate_left
  ·exact absurd h0 HC0.out
  rw [HC.out]
  have HG5:=hid (HG4.out.below hb5)
  have HW5:=hid (HW4.out.below hb5)
  have HK5:=hid (HK4.out.next hb5)
  have HB5:=hid (HB4.out.trans (hb5.mono HB4.out.size))
  clear C5 hb5
  have C6:=r8_all G WA wc true w5 HW5.out (by have:=HN.out;omega) HTX.out
  rw [HN.out] at C6
  go_wp2_with fail
  refine C6.mono ?_
  rintro r w6 ⟨hb6,ho⟩
  rcases ho with ⟨-,rfl⟩ | ⟨h0,-⟩
  rotate_left
  ·exact absurd h0 HC0.out
  rw [HC.out]
  have HG6:=hid (HG5.out.below hb6)
  have HW6:=hid (HW5.out.below hb6)
  have HK6:=hid (HK5.out.next hb6)
  have HB6:=hid (HB5.out.trans (hb6.mono HB5.out.size))
  clear C6 hb6
  have C7:∀ w',Calls Tryz.prog 11 #[.slice none 0 0,.slice none 0 0] w' fun r w''=>r = .returned (.bool true)∧Below w'.heap.size w' w'':=fun w'=>s8_same 0 (fun _ _=>true) (fun _ _=>true) none none 0 0 (fun _=>0) (fun _=>0) w' (by omega) (Mz.nil ..) (Mz.nil ..) (fun _ _ _ _=>rfl)
  go_wp2_with fail
  refine (C7 w6).mono ?_
  rintro r w7 ⟨rfl,hb7⟩
  have HB7:=hid hb7
  clear hb7
  go_wp2_with fail
  refine (C7 w7).mono ?_
  rintro r w8 ⟨rfl,hb8⟩
  have HB8:=hid (HB7.out.trans (hb8.mono HB7.out.size))
  have hee:((e:Int) != (e:Int))=false:=by simp
  clear hb8 C7
  go_wp2_with fail
  go_loopw [16] (fun u16 wr=>u16 = .int .i64 0∧wr=w8) (fun _ _=>0)
  case atStart=>exact ⟨rfl,rfl⟩
  case round =>
   obtain ⟨rfl,rfl⟩:=hrel
   obtain ⟨wf,hwf⟩:∃ wf,wf=wr:=⟨_,rfl⟩
   have HKF:Hid (Gnd wf):=hid (by rw [hwf];exact HK6.out.next HB8.out)
   have HGF:Hid (GsR wf VA G):=hid (by rw [hwf];exact HG6.out.below HB8.out)
   have HWF:Hid (GsR wf WA G):=hid (by rw [hwf];exact HW6.out.below HB8.out)
   have HBF:Hid (Below w.heap.size w wf):=hid (by rw [hwf];exact HB6.out.trans (HB8.out.mono HB6.out.size))
   rw [← hwf]
   clear hwf
   have C1:=May_any G VA vc a b wf HGF.out HKF.out (by have:=HN.out;omega) HTX.out
   rw [HN.out] at C1
   go_wp2_with fail
   refine C1.mono ?_
   rintro r w7 ⟨v1,rfl,hv1,hb7⟩
   have HV1:=hid hv1
   have HK7:=hid (HKF.out.next hb7)
   have HG7:=hid (HGF.out.below hb7)
   have HW7:=hid (HWF.out.below hb7)
   have HB7:=hid (HBF.out.trans (hb7.mono HBF.out.size))
   clear C1 hv1 hb7 HKF HGF HWF HBF
   have C1:=r8_may G WA wc a b w7 HW7.out (by have:=HN.out;omega) HTX.out
   rw [HN.out] at C1
   go_wp2_with fail
   refine C1.mono ?_
   rintro r w8 ⟨v1',rfl,hv1,hb8⟩
   obtain rfl:=bel_uniq HV1.out hv1
   have HK8:=hid (HK7.out.next hb8)
   have HG8:=hid (HG7.out.below hb8)
   have HW8:=hid (HW7.out.below hb8)
   have HB8:=hid (HB7.out.trans (hb8.mono HB7.out.size))
   have hvv:(v1 == v1)=true:=by cases v1 <;> rfl
   clear C1 hv1 hb8 HK7 HG7 HW7 HB7 HV1
   have C1:=Strict_any G VA vc a b w8 HG8.out HK8.out (by have:=HN.out;omega) HTX.out
   rw [HN.out] at C1
   go_wp2_with fail
   refine C1.mono ?_
   rintro r w9 ⟨v2,rfl,hv2,hb9⟩
   have HV2:=hid hv2
   have HK9:=hid (HK8.out.next hb9)
   have HG9:=hid (HG8.out.below hb9)
   have HW9:=hid (HW8.out.below hb9)
   have HB9:=hid (HB8.out.trans (hb9.mono HB8.out.size))
   clear C1 hv2 hb9 HK8 HG8 HW8 HB8 hvv
   have C1:=r8_strict G WA wc a b w9 HW9.out (by have:=HN.out;omega) HTX.out
   rw [HN.out] at C1
   go_wp2_with fail
   refine C1.mono ?_
   rintro r w10 ⟨v2',rfl,hv2,hb10⟩
   obtain rfl:=bel_uniq HV2.out hv2
   have HK10:=hid (HK9.out.next hb10)
   have HG10:=hid (HG9.out.below hb10)
   have HW10:=hid (HW9.out.below hb10)
   have HB10:=hid (HB9.out.trans (hb10.mono HB9.out.size))
   have hvv:(v2 == v2)=true:=by cases v2 <;> rfl
   clear C1 hv2 hb10 HK9 HG9 HW9 HB9 HV2
   have C1:=Pick_any G VA vc a b w10 HG10.out HK10.out (by have:=HN.out;omega) HTX.out
   rw [HN.out] at C1
   go_wp2_with fail
   refine C1.mono ?_
   rintro r w11 ⟨k1,rfl,hk1,hb11⟩
   have HP1:=hid hk1
   have HK11:=hid (HK10.out.next hb11)
   have HG11:=hid (HG10.out.below hb11)
   have HW11:=hid (HW10.out.below hb11)
   have HB11:=hid (HB10.out.trans (hb11.mono HB10.out.size))
   clear C1 hk1 hb11 HK10 HG10 HW10 HB10 hvv
   have C1:=r8_Pick G WA wc a b w11 HW11.out (by have:=HN.out;omega) HTX.out
   rw [HN.out] at C1
   go_wp2_with fail
   refine C1.mono ?_
   rintro r w12 ⟨k1',rfl,hk1,hb12⟩
   obtain rfl:=pickIs_uniq HP1.out hk1
   have HK12:=hid (HK11.out.next hb12)
   have HG12:=hid (HG11.out.below hb12)
   have HW12:=hid (HW11.out.below hb12)
   have HB12:=hid (HB11.out.trans (hb12.mono HB11.out.size))
   have hvv:(k1 == k1)=true:=by simp
   clear C1 hk1 hb12 HK11 HG11 HW11 HB11 HP1
   have C1:=r6_same VA WA vc wc G G w12 (by have:=HN.out;omega) (by have:=HN.out;omega) HG12.out HW12.out
   rw [decide_eq_true (rfl:G=G),HN.out] at C1
   go_wp2_with fail
   refine C1.mono ?_
   rintro r w13 ⟨rfl,hb13⟩
   have HK13:=hid (HK12.out.next hb13)
   have HB13:=hid (HB12.out.trans (hb13.mono HB12.out.size))
   clear C1 hb13 HK12 HG12 HW12 HB12 hvv
   have C1:=works8_any w13 HK13.out
   go_wp2_with fail
   refine C1.mono ?_
   rintro r w14 ⟨rfl,hb14⟩
   have HB14:=hid (HB13.out.trans (hb14.mono HB13.out.size))
   clear C1 hb14
   go_wp2_with fail
   go_ret
   exact ⟨rfl,HB14.out⟩
end SM
end
section
open Lib (hid)
open Go.RowKit
namespace SM
open CM (nd kids)
theorem lists_of {g:List Gi} (h:checkG g=0):ListsG g:=fun x hx=>by
 have hf:=fine_of h
 refine ⟨?_,by have:=hf.l_len x hx;omega⟩
 obtain ⟨i,hi⟩:=List.getElem?_of_mem hx
 have hil:=(List.getElem?_eq_some_iff.1 hi).1
 have e:nd g i=x:=by unfold CM.nd;rw [List.getD_eq_getElem?_getD,hi];rfl
 rw [← e]
 by_cases h7:(nd g i).kind=7
 ·have:=hf.recd i hil h7;omega
 ·rw [hf.nokeys i hil h7];simp
theorem pair_rd (w:World) (a b:Int):RdV (w.alloc (.cells #[.int .i64 a,.int .i64 b] 3)) (some ⟨w.heap.size,0,none⟩) (([a,b]:List Int).flatMap iC):=by
 obtain ⟨A,c,e,-,-,h⟩:=(lit2 w a b).rd
 injection e with e1 _ _
 rw [e1];exact h
theorem lit1_rd (w:World) (a:Int):RdV (w.alloc (.cells #[.int .i64 a] 3)) (some ⟨w.heap.size,0,none⟩) (([a]:List Int).flatMap iC):=by
 obtain ⟨A,c,e,-,-,h⟩:=(OwnI.lit1 w a).rd
 injection e with e1 _ _
 rw [e1];exact h
def zeroV:Value := .agg #[.int .i64 0,.int .i64 0,.string ⟨#[]⟩,.slice none 0 0,.slice none 0 0]
theorem zero_cells:zeroV.cells = #[.int .i64 0,.int .i64 0,.string ⟨#[]⟩,.slice none 0 0,.slice none 0 0]:=by rfl
theorem gsr_made {w:World} {base g n:Nat} (ho:w.ownsRow base 42 5 (.slice (some ⟨g,0,none⟩) n n) n (madeCells zeroV.cells (n*5)).toList):GsR w (some ⟨g,0,none⟩) (List.replicate n zeroN):=fun _=>⟨g,0,rfl,fun i x hx=>by
 have hi:i<n:=by have:=(List.getElem?_eq_some_iff.1 hx).1;rwa [List.length_replicate] at this
 have hxz:x=zeroN:=by
  have:=List.mem_of_getElem? hx
  exact List.eq_of_mem_replicate this
 subst hxz
 refine gn_of (VA:=none) (PA:=none) (vc:=0) (pc:=0) (fun k u hu=>?_) (rd_nil _ _) (rd_nil _ _) (Nat.le_refl _) (Nat.le_refl _) (by decide) (by decide)
 have hk:k<5:=(List.getElem?_eq_some_iff.1 hu).1
 have:=ho.cells (g:=g) rfl (i*5+k) u (by
  rw [zero_cells]
  unfold madeCells
  rw [Array.getElem?_toList,Array.getElem?_map,Array.getElem?_range]
  rw [if_pos (by omega)]
  have hm:(i*5+k) % 5=k:=by omega
  simp only [Option.map_some,List.size_toArray,List.length_cons,List.length_nil,Nat.zero_add,Nat.reduceAdd]
  rw [hm,← hu]
  have:k=0∨k=1∨k=2∨k=3∨k=4:=by omega
  rcases this with rfl | rfl | rfl | rfl | rfl <;> rfl)
 rw [addr_lit,Nat.zero_add] at this
 rw [Nat.zero_add]
 exact this⟩
theorem zero_rd (w:World):GsR (w.alloc (.cells #[.int .i64 0,.int .i64 0,.string ⟨#[]⟩,.slice none 0 0,.slice none 0 0] 42)) (some ⟨w.heap.size,0,none⟩) [zeroN]:=fun _=>⟨w.heap.size,0,rfl,fun i x hx=>by
 have hB:=Blk.new w 42 #[.int .i64 0,.int .i64 0,.string ⟨#[]⟩,.slice none 0 0,.slice none 0 0]
 have hi:i=0:=by have:=(List.getElem?_eq_some_iff.1 hx).1;simp at this;exact this
 subst hi
 simp at hx
 subst hx
 refine gn_of (VA:=none) (PA:=none) (vc:=0) (pc:=0) (fun k u hu=>?_) (rd_nil _ _) (rd_nil _ _) (Nat.le_refl _) (Nat.le_refl _) (by decide) (by decide)
 rw [show 0+0*5+k=k by omega,hB.cell]
 match k,hu with
 | 0,hu=>exact hu
 | 1,hu=>exact hu
 | 2,hu=>exact hu
 | 3,hu=>exact hu
 | 4,hu=>exact hu
 | k+5,hu=>cases hu⟩
def oddA (w:World):World:=((w.alloc (.cells #[.int .i64 0] 3)).alloc (.cells #[.int .i64 3] 3)).alloc (.cells #[.int .i64 4] 3)
def oddC (g:Nat):List Value:=[.int .i64 9,.int .i64 0,.string ⟨#[]⟩,.slice none 0 0,.slice (some ⟨g,0,none⟩) 1 1,.int .i64 9,.int .i64 1,.string ⟨#[]⟩,.slice none 0 0,.slice (some ⟨g+1,0,none⟩) 1 1,
 .int .i64 9,.int .i64 1,.string ⟨#[]⟩,.slice none 0 0,.slice (some ⟨g+1+1,0,none⟩) 1 1,.int .i64 4,.int .i64 0,.string ⟨#[]⟩,.slice none 0 0,.slice none 0 0,.int .i64 3,.int .i64 0,.string ⟨#[]⟩,.slice none 0 0,.slice none 0 0,
 .int .i64 5,.int .i64 0,.string ⟨#[97]⟩,.slice none 0 0,.slice none 0 0,.int .i64 5,.int .i64 0,.string ⟨#[98]⟩,.slice none 0 0,.slice none 0 0]
theorem odd_rd (w:World):GsR ((oddA w).alloc (.cells (oddC w.heap.size).toArray 42)) (some ⟨w.heap.size+1+1+1,0,none⟩) oddG∧Below w.heap.size w ((oddA w).alloc (.cells (oddC w.heap.size).toArray 42)):=by
 have y1:=one_boxS w (.cells #[.int .i64 0] 3)
 have s1:(w.alloc (.cells #[.int .i64 0] 3)).heap.size=w.heap.size+1:=Array.size_push _
 have y2:=one_boxS (w.alloc (.cells #[.int .i64 0] 3)) (.cells #[.int .i64 3] 3)
 have s2:((w.alloc (.cells #[.int .i64 0] 3)).alloc (.cells #[.int .i64 3] 3)).heap.size=w.heap.size+1+1:=by rw [← s1];exact Array.size_push _
 have y3:=one_boxS ((w.alloc (.cells #[.int .i64 0] 3)).alloc (.cells #[.int .i64 3] 3)) (.cells #[.int .i64 4] 3)
 have s3:(oddA w).heap.size=w.heap.size+1+1+1:=by rw [← s2];exact Array.size_push _
 have y4:=one_boxS (oddA w) (.cells (oddC w.heap.size).toArray 42)
 have r1:=((((lit1_rd w 0).below y2).below y3).below y4)
 have r2:=(((lit1_rd (w.alloc (.cells #[.int .i64 0] 3)) 3).below y3).below y4)
 have r3:=((lit1_rd ((w.alloc (.cells #[.int .i64 0] 3)).alloc (.cells #[.int .i64 3] 3)) 4).below y4)
 rw [s1] at r2
 rw [s2] at r3
 have hB:=Blk.new (oddA w) 42 (oddC w.heap.size).toArray
 rw [s3] at hB
 refine ⟨fun _=>⟨w.heap.size+1+1+1,0,rfl,fun i x hx=>?_⟩,((y1.trans (y2.mono y1.size)).trans (y3.mono (by rw [s2];omega))).trans (y4.mono (by rw [s3];omega))⟩
 have hcell:∀ (k:Nat) u,(oddC w.heap.size)[k]? = some u→((oddA w).alloc (.cells (oddC w.heap.size).toArray 42)).cell? ⟨w.heap.size+1+1+1,k,none⟩=some u:=fun k u hu=>by
  rw [hB.cell,List.getElem?_toArray];exact hu
 have hi:i<7:=(List.getElem?_eq_some_iff.1 hx).1
 have hsp:i=0∨i=1∨i=2∨i=3∨i=4∨i=5∨i=6:=by omega
 rcases hsp with rfl | rfl | rfl | rfl | rfl | rfl | rfl <;> (injection hx with hx;subst hx)
 ·exact ⟨none,0,some ⟨w.heap.size,0,none⟩,1,hcell 0 _ rfl,hcell 1 _ rfl,hcell 2 _ rfl,hcell 3 _ rfl,hcell 4 _ rfl,rd_nil _ _,r1,by decide,by decide,by decide,by decide⟩
 ·exact ⟨none,0,some ⟨w.heap.size+1,0,none⟩,1,hcell 5 _ rfl,hcell 6 _ rfl,hcell 7 _ rfl,hcell 8 _ rfl,hcell 9 _ rfl,rd_nil _ _,r2,by decide,by decide,by decide,by decide⟩
 ·exact ⟨none,0,some ⟨w.heap.size+1+1,0,none⟩,1,hcell 10 _ rfl,hcell 11 _ rfl,hcell 12 _ rfl,hcell 13 _ rfl,hcell 14 _ rfl,rd_nil _ _,r3,by decide,by decide,by decide,by decide⟩
 ·exact ⟨none,0,none,0,hcell 15 _ rfl,hcell 16 _ rfl,hcell 17 _ rfl,hcell 18 _ rfl,hcell 19 _ rfl,rd_nil _ _,rd_nil _ _,by decide,by decide,by decide,by decide⟩
 ·exact ⟨none,0,none,0,hcell 20 _ rfl,hcell 21 _ rfl,hcell 22 _ rfl,hcell 23 _ rfl,hcell 24 _ rfl,rd_nil _ _,rd_nil _ _,by decide,by decide,by decide,by decide⟩
 ·exact ⟨none,0,none,0,hcell 25 _ rfl,hcell 26 _ rfl,hcell 27 _ rfl,hcell 28 _ rfl,hcell 29 _ rfl,rd_nil _ _,rd_nil _ _,by decide,by decide,by decide,by decide⟩
 ·exact ⟨none,0,none,0,hcell 30 _ rfl,hcell 31 _ rfl,hcell 32 _ rfl,hcell 33 _ rfl,hcell 34 _ rfl,rd_nil _ _,rd_nil _ _,by decide,by decide,by decide,by decide⟩
set_option maxRecDepth 100000 in
set_option maxHeartbeats 16000000 in
theorem known8_any (w:World) (hk:Gnd w) :
  Calls Tryz.prog 6 #[] w fun r w'=>r = .returned (.bool true)∧Below w.heap.size w w':=by
 have HK:=hid hk
 clear hk
 have C:=chapter_any w
 go_enter Tryz.func6,Tryz.ntmps6
 go_wp2_with fail
 refine C.mono ?_
 rintro r w1 ⟨GA,rfl,hg1,hb1⟩
 have HG1:=hid hg1
 have HB1:=hid hb1
 have HK1:=hid (HK.out.next hb1)
 clear C hg1 hb1
 go_wp2_with fail
 go_loopw [2] (fun u2 wr=>∃ a:Int,-1≤a∧a≤12∧u2 = .int .i64 a∧Hid (Below w1.heap.size w1 wr)) (fun u2 _=>(12 - intOf u2).toNat)
 case atStart=>exact ⟨-1,by omega,by omega,rfl,hid (Below.refl _ _)⟩
 case round =>
  obtain ⟨a,ha1,ha2,rfl,HB⟩:=hrel
  obtain ⟨ws,rfl⟩:∃ ws,ws=wr:=⟨_,rfl⟩
  by_cases hla:a≤11
  ·go_wp2_with fail
   go_loopw [3] (fun u3 wr=>∃ b:Int,-1≤b∧b≤12∧u3 = .int .i64 b∧Hid (Below w1.heap.size w1 wr)) (fun u3 _=>(12 - intOf u3).toNat)
   case atStart=>exact ⟨-1,by omega,by omega,rfl,HB⟩
   case round =>
    obtain ⟨b,hb1,hb2,rfl,HBj⟩:=hrel
    obtain ⟨wv,rfl⟩:∃ wv,wv=wr:=⟨_,rfl⟩
    by_cases hlb:b≤11
    ·have hkv:=HK1.out.next HBj.out
     have hgv:=HG1.out.below HBj.out
     have C1:=tells8_any GA 11 chG a b wv hkv (by decide) (by decide) hgv (lists_of ch_ok) (texts_of ch_ok)
     rw [show chG.length=11 from rfl] at C1
     clear hkv hgv
     go_wp2_with fail
     refine C1.mono ?_
     rintro r w2 ⟨rfl,hb2⟩
     have HB2:=hid (HBj.out.trans (hb2.mono HBj.out.size))
     clear C1 hb2
     have hy:=one_boxS w2 (.cells #[.int .i64 a,.int .i64 b] 3)
     have HB3:=hid (HB2.out.trans (hy.mono HB2.out.size))
     have C2:=least8_any GA (some ⟨w2.heap.size,0,none⟩) 11 2 chG [a,b] (w2.alloc (.cells #[.int .i64 a,.int .i64 b] 3)) (HK1.out.next HB3.out) (by decide) (by decide) (HG1.out.below HB3.out) (lists_of ch_ok) (texts_of ch_ok) (show (2:Int)≤9223372036854775807 by decide) (Nat.le_refl 2) (pair_rd w2 a b)
     rw [show chG.length=11 from rfl,show [a,b].length=2 from rfl] at C2
     clear hy
     go_wp2_with fail
     refine C2.mono ?_
     rintro r w4 ⟨rfl,hb4⟩
     have HB4:=hid (HB3.out.trans (hb4.mono HB3.out.size))
     clear C2 hb4
     go_wp2_with fail
     go_roundw
     case rel=>exact ⟨b+1,by omega,by omega,by go_num,HB4⟩
     case measure=>simp [intOf];omega
    ·go_wp2_with fail
     go_roundw
     case rel=>exact ⟨a+1,by omega,by omega,by go_num,HBj⟩
     case measure=>simp [intOf];omega
  ·clear ha2
   go_wp2_with fail
   have HKs:=hid (HK1.out.next HB.out)
   have HGs:=hid (HG1.out.below HB.out)
   have HBs:=hid (HB1.out.trans (HB.out.mono HB1.out.size))
   obtain ⟨w2,hw2⟩:∃ w2,w2=ws:=⟨_,rfl⟩
   rw [← hw2] at HKs HGs HBs ⊢
   clear hw2
   go_loopw [4] (fun u4 wr=>∃ n:Nat,1≤n∧n≤9∧u4 = .int .i64 (n:Int)∧Hid (Below w2.heap.size w2 wr)) (fun u4 _=>9 - (intOf u4).toNat)
   case atStart=>exact ⟨1,by omega,by omega,rfl,hid (Below.refl _ _)⟩
   case round =>
    obtain ⟨n,hn1,hn9,rfl,HBn⟩:=hrel
    obtain ⟨w3,rfl⟩:∃ w3,w3=wr:=⟨_,rfl⟩
    by_cases hln:n<9
    ·have hni:(n:Int)<9:=by omega
     go_wp2_with fail
     go_loopw [5,6] (fun u5 u6 wr=>∃ (i:Nat),i≤n∧u6 = .int .i64 (i:Int)∧Hid (MadeR w3 wr u5 (chainA n i))) (fun _ u6 _=>n - (intOf u6).toNat)
     case atStart=>exact ⟨0,Nat.zero_le _,rfl,hid ⟨OwnG.nil _ _,Below.refl _ _⟩⟩
     case round =>
      obtain ⟨i,hi,rfl,HM⟩:=hrel
      obtain ⟨wv,rfl⟩:∃ wv,wv=wr:=⟨_,rfl⟩
      by_cases hlt:i<n
      ·have hii:(i:Int)<(n:Int):=by omega
       have hy:=one_boxS wv (.cells #[.int .i64 ((i:Int)+1)] 3)
       have hol:=OwnI.lit1 wv ((i:Int)+1)
       have C3:=rec_own (some ⟨wv.heap.size,0,none⟩) 1 1 (wv.alloc (.cells #[.int .i64 ((i:Int)+1)] 3)) (by decide)
       obtain ⟨VA,vc,hv,-⟩:=HM.out.1.rd
       have HV:=hid hv
       have HY:=hid hy
       have HOL:=hid hol
       clear hy hol hv
       go_wp2_with fail
       refine C3.mono ?_
       rintro r w4 ⟨KA,rfl,hks,hb4⟩
       have HKS:=hid (own_leS hks HY.out.size)
       have HLS:=hid (ownI_below HOL.out hb4)
       have HB4:=hid (HY.out.trans (hb4.mono HY.out.size))
       clear C3 hks hb4
       go_wp2_with (at_builtin;refine unhidG ?_)
       refine hid ?_
       refine wpList_leaf w3 wv w4 rfl _ _ rfl u5 (chainA n i) (recN [((i:Nat):Int)+1],.slice KA 1 3,.slice (some ⟨wv.heap.size,0,none⟩) 1 1) (by rw [HV.out];rfl) rfl HM.out HB4.out HKS.out HLS.out (by rw [chainA_len];omega) ?_
       intro v' w5 hm'
       have HM':Hid (MadeR w3 w5 v' (chainA n (i+1))):=hid (by rw [chainA_next];exact hm')
       clear hm'
       go_wp2_with fail
       go_roundw
       case rel=>exact ⟨i+1,by omega,by go_num,HM'⟩
       case measure=>simp [intOf];omega
      ·have hii:¬ ((i:Int)<(n:Int)):=by omega
       have HMA:Hid (MadeR w3 wv u5 (chainA n n)):=hid (by have:=HM.out;rwa [show i=n by omega] at this)
       obtain ⟨VA,vc,hv,-⟩:=HM.out.1.rd
       have HV:=hid hv
       clear hv
       go_wp2_with (at_builtin;refine unhidG ?_)
       refine hid ?_
       refine wpList_leaf w3 wv wv rfl _ _ rfl u5 (chainA n n) (intN,.slice none 0 0,.slice none 0 0) (by rw [HV.out];rfl) rfl HMA.out (Below.refl _ _) (OwnS.nil _ _) (OwnI.nil _ _) (by rw [chainA_len];omega) ?_
       intro v' w5 hm'
       have HM5:Hid (MadeR w3 w5 v' ((chainA n n++[intN])++chainB n 0)):=hid (by show MadeR w3 w5 v' ((chainA n n++[intN])++[]);rw [List.append_nil];exact hm')
       clear hm' hii
       go_wp2_with fail
       go_loopw [5,7] (fun u5 u7 wr=>∃ (j:Nat),j≤n∧u7 = .int .i64 (j:Int)∧Hid (MadeR w3 wr u5 ((chainA n n++[intN])++chainB n j))) (fun _ u7 _=>n - (intOf u7).toNat)
       case atStart=>exact ⟨0,Nat.zero_le _,rfl,HM5⟩
       case round =>
        obtain ⟨j,hj,rfl,HN⟩:=hrel
        obtain ⟨wx,rfl⟩:∃ wx,wx=wr:=⟨_,rfl⟩
        by_cases hlj:j<n
        ·have hji:(j:Int)<(n:Int):=by omega
         have hy:=one_boxS wx (.cells #[.int .i64 ((n:Int)+2+(j:Int))] 3)
         have hol:=OwnI.lit1 wx ((n:Int)+2+(j:Int))
         have C3:=rec_own (some ⟨wx.heap.size,0,none⟩) 1 1 (wx.alloc (.cells #[.int .i64 ((n:Int)+2+(j:Int))] 3)) (by decide)
         obtain ⟨VA2,vc2,hv2,-⟩:=HN.out.1.rd
         have HV2:=hid hv2
         have HY:=hid hy
         have HOL:=hid hol
         clear hy hol hv2
         go_wp2_with fail
         refine C3.mono ?_
         rintro r w4 ⟨KA,rfl,hks,hb4⟩
         have HKS:=hid (own_leS hks HY.out.size)
         have HLS:=hid (ownI_below HOL.out hb4)
         have HB4:=hid (HY.out.trans (hb4.mono HY.out.size))
         clear C3 hks hb4
         go_wp2_with (at_builtin;refine unhidG ?_)
         refine hid ?_
         refine wpList_leaf w3 wx w4 rfl _ _ rfl u5 ((chainA n n++[intN])++chainB n j) (recN [((n:Nat):Int)+2+((j:Nat):Int)],.slice KA 1 3,.slice (some ⟨wx.heap.size,0,none⟩) 1 1) (by rw [HV2.out];rfl) rfl HN.out HB4.out HKS.out HLS.out (by simp only [List.length_append,chainA_len,chainB_len,List.length_cons,List.length_nil];omega) ?_
         intro v' w6 hm'
         have HM':Hid (MadeR w3 w6 v' ((chainA n n++[intN])++chainB n (j+1))):=hid (by rw [chainB_next,← List.append_assoc];exact hm')
         clear hm'
         go_wp2_with fail
         go_roundw
         case rel=>exact ⟨j+1,by omega,by go_num,HM'⟩
         case measure=>simp [intOf];omega
        ·have hji:¬ ((j:Int)<(n:Int)):=by omega
         have HNB:Hid (MadeR w3 wx u5 ((chainA n n++[intN])++chainB n n)):=hid (by have:=HN.out;rwa [show j=n by omega] at this)
         obtain ⟨VA2,vc2,hv2,-⟩:=HN.out.1.rd
         have HV2:=hid hv2
         have hy:=one_boxS wx (.cells #[.int .i64 (n:Int),.int .i64 (2*(n:Int)+2)] 3)
         have hol:=lit2 wx (n:Int) (2*(n:Int)+2)
         have HY:=hid hy
         have HOL:=hid hol
         clear hy hol hv2 HN hj hji
         go_wp2_with (at_builtin;refine unhidG ?_)
         refine hid ?_
         obtain ⟨wy,hwy⟩:∃ wy,wy=wx.alloc (.cells #[.int .i64 (n:Int),.int .i64 (2*(n:Int)+2)] 3):=⟨_,rfl⟩
         have HYY:Hid (Below wx.heap.size wx wy):=hid (by rw [hwy];exact HY.out)
         have HOLY:Hid (OwnI wy wx.heap.size (.slice (some ⟨wx.heap.size,0,none⟩) 2 2) [(n:Int),2*(n:Int)+2]):=hid (by rw [hwy];exact HOL.out)
         have hsy:wy.heap.size=wx.heap.size+1:=by rw [hwy];exact Array.size_push _
         rw [← hwy]
         clear hwy HY HOL
         have hz:=Blk.new wy 42 (gcells [(uniN n,.slice none 0 0,.slice (some ⟨wx.heap.size,0,none⟩) 2 2),(nullN,.slice none 0 0,.slice none 0 0)]).toArray
         have hb2:=one_boxS wy (.cells (gcells [(uniN n,.slice none 0 0,.slice (some ⟨wx.heap.size,0,none⟩) 2 2),(nullN,.slice none 0 0,.slice none 0 0)]).toArray 42)
         have hM2:=(HNB.out.below HYY.out).below hb2
         rw [hsy] at hz
         refine SM.wpList_pushGs (wy.alloc (.cells (gcells [(uniN n,.slice none 0 0,.slice (some ⟨wx.heap.size,0,none⟩) 2 2),(nullN,.slice none 0 0,.slice none 0 0)]).toArray 42)) rfl _ _ rfl w3.heap.size u5 ((chainA n n++[intN])++chainB n n) [(uniN n,.slice none 0 0,.slice (some ⟨wx.heap.size,0,none⟩) 2 2),(nullN,.slice none 0 0,.slice none 0 0)] (wx.heap.size+1) (by rw [HV2.out];rfl) hM2.1 rfl hz (by simp only [List.length_append,chainA_len,chainB_len,List.length_cons,List.length_nil];omega) hM2.2.size ?_ ?_
         ·intro p hp
          rcases List.mem_cons.1 hp with rfl | hp
          ·exact held_leaf HNB.out (OwnS.nil _ _) HOLY.out hb2
          ·rw [List.mem_singleton] at hp
           subst hp
           exact held_leaf (w:=wy) HNB.out (OwnS.nil _ _) (OwnI.nil _ _) hb2
         intro v' w6 hown hgr _
         have HM6:Hid (MadeR w3 w6 v' (hG n)):=hid (MadeR.push HNB.out hM2 hown hgr)
         clear hz hb2 hM2 hown hgr hsy
         obtain ⟨HA,hc,hv6,hhc,-,hg6⟩:=HM6.out.1.rd
         have hkn:=chain_is hn1 hln
         have HCK:=hid hkn.1
         have HN1:=hid (And.intro hn1 hln)
         have hk6:=(HKs.out.next HBn.out).next HM6.out.2
         have HG6:=hid hg6
         have HK6:=hid hk6
         have HHC:=hid hhc
         have HB6:=hid (HBn.out.trans (HM6.out.2.mono HBn.out.size))
         obtain ⟨hl,hhl⟩:∃ hl,(hG n).length=hl:=⟨_,rfl⟩
         have HHL:=hid hhl
         have hlb:hl≤21:=by rw [hG_len] at hhl;omega
         have C1:=Strict_any (hG n) HA hc 0 ((n:Int)+1) w6 hg6 hk6 (by rw [hhl];omega) (texts_of hkn.1)
         rw [hhl] at C1 hv6
         subst hv6
         clear hkn hg6 hk6 hhc hhl HM6 HYY HOLY HNB HV2 HM HMA HM5 HV
         go_wp2_with fail
         refine C1.mono ?_
         rintro r w7 ⟨v1,rfl,hv1,hb7⟩
         obtain rfl:=chain_strict HN1.out.1 HN1.out.2 hv1
         have HG7:=hid (HG6.out.below hb7)
         have HK7:=hid (HK6.out.next hb7)
         have HB7:=hid (HB6.out.trans (hb7.mono HB6.out.size))
         clear C1 hv1 hb7 HG6 HK6 HB6
         have C1:=May_any (hG n) HA hc ((n:Int)+1) 0 w7 HG7.out HK7.out (by have:=HHL.out;omega) (texts_of HCK.out)
         rw [HHL.out] at C1
         go_wp2_with fail
         refine C1.mono ?_
         rintro r w8 ⟨v1,rfl,hv1,hb8⟩
         obtain rfl:=chain_may HN1.out.1 HN1.out.2 hv1
         have HG8:=hid (HG7.out.below hb8)
         have HK8:=hid (HK7.out.next hb8)
         have HB8:=hid (HB7.out.trans (hb8.mono HB7.out.size))
         clear C1 hv1 hb8 HG7 HK7 HB7
         have C1:=tells8_any HA hc (hG n) 0 ((n:Int)+1) w8 HK8.out (by have:=HHL.out;omega) HHC.out HG8.out (lists_of HCK.out) (texts_of HCK.out)
         rw [HHL.out] at C1
         go_wp2_with fail
         refine C1.mono ?_
         rintro r w9 ⟨rfl,hb9⟩
         have HG9:=hid (HG8.out.below hb9)
         have HK9:=hid (HK8.out.next hb9)
         have HB9:=hid (HB8.out.trans (hb9.mono HB8.out.size))
         clear C1 hb9 HG8 HK8 HB8
         have hy:=one_boxS w9 (.cells #[.int .i64 ((n:Int)+1),.int .i64 0] 3)
         have C1:=least8_any HA (some ⟨w9.heap.size,0,none⟩) hc 2 (hG n) [(n:Int)+1,0] (w9.alloc (.cells #[.int .i64 ((n:Int)+1),.int .i64 0] 3)) (HK9.out.next hy) (by have:=HHL.out;omega) HHC.out (HG9.out.below hy) (lists_of HCK.out) (texts_of HCK.out) (show (2:Int)≤9223372036854775807 by decide) (Nat.le_refl 2) (pair_rd w9 ((n:Int)+1) 0)
         rw [HHL.out,show [(n:Int)+1,0].length=2 from rfl] at C1
         have HB10:=hid (HB9.out.trans (hy.mono HB9.out.size))
         clear hy
         go_wp2_with fail
         refine C1.mono ?_
         rintro r w11 ⟨rfl,hb11⟩
         have HB11:=hid (HB10.out.trans (hb11.mono HB10.out.size))
         clear C1 hb11
         go_wp2_with fail
         go_roundw
         case rel=>exact ⟨n+1,by omega,by have:=HN1.out.2;omega,by go_num,HB11⟩
         case measure=>simp [intOf];have:=HN1.out.2;omega
    ·have hni:¬ ((n:Int)<9):=by omega
     have HKn:=hid (HKs.out.next HBn.out)
     have HGn:=hid (HGs.out.below HBn.out)
     have HBN:=hid (HBs.out.trans (HBn.out.mono HBs.out.size))
     go_upto_region 27 with (fail)
     obtain ⟨hg3,hb3⟩:=odd_rd w3
     unfold oddA oddC at hg3 hb3
     obtain ⟨ob,hob⟩:∃ ob,w3.heap.size+1+1+1=ob:=⟨_,rfl⟩
     rw [hob] at hg3 ⊢
     generalize (((w3.alloc (.cells #[.int .i64 0] 3)).alloc (.cells #[.int .i64 3] 3)).alloc (.cells #[.int .i64 4] 3)).alloc (.cells #[.int .i64 9,.int .i64 0,.string ⟨#[]⟩,.slice none 0 0,.slice (some ⟨w3.heap.size,0,none⟩) 1 1,.int .i64 9,.int .i64 1,.string ⟨#[]⟩,.slice none 0 0,.slice (some ⟨w3.heap.size+1,0,none⟩) 1 1,.int .i64 9,.int .i64 1,.string ⟨#[]⟩,.slice none 0 0,.slice (some ⟨w3.heap.size+1+1,0,none⟩) 1 1,.int .i64 4,.int .i64 0,.string ⟨#[]⟩,.slice none 0 0,.slice none 0 0,.int .i64 3,.int .i64 0,.string ⟨#[]⟩,.slice none 0 0,.slice none 0 0,.int .i64 5,.int .i64 0,.string ⟨#[97]⟩,.slice none 0 0,.slice none 0 0,.int .i64 5,.int .i64 0,.string ⟨#[98]⟩,.slice none 0 0,.slice none 0 0] 42)=w5 at hg3 hb3 ⊢
     have HO5:=hid hg3
     have HK5:=hid (HKn.out.next hb3)
     have HG5:=hid (HGn.out.below hb3)
     have HB5:=hid (HBN.out.trans (hb3.mono HBN.out.size))
     clear hg3 hb3 hob hni hn1 hn9
     go_wp2_with fail
     go_loopw [9] (fun u9 wr=>∃ a:Nat,a≤7∧u9 = .int .i64 (a:Int)∧Hid (Below w5.heap.size w5 wr)) (fun u9 _=>7 - (intOf u9).toNat)
     case atStart=>exact ⟨0,by omega,rfl,hid (Below.refl _ _)⟩
     case round =>
      obtain ⟨a,ha,rfl,HBa⟩:=hrel
      obtain ⟨wa,rfl⟩:∃ wa,wa=wr:=⟨_,rfl⟩
      by_cases hla:a<7
      ·have hai:(a:Int)<7:=by omega
       go_wp2_with fail
       go_loopw [10] (fun u10 wr=>∃ b:Nat,b≤7∧u10 = .int .i64 (b:Int)∧Hid (Below w5.heap.size w5 wr)) (fun u10 _=>7 - (intOf u10).toNat)
       case atStart=>exact ⟨0,by omega,rfl,HBa⟩
       case round =>
        obtain ⟨b,hb,rfl,HBb⟩:=hrel
        obtain ⟨wb,rfl⟩:∃ wb,wb=wr:=⟨_,rfl⟩
        by_cases hlb:b<7
        ·have hbi:(b:Int)<7:=by omega
         have hkv:=HK5.out.next HBb.out
         have hgv:=HO5.out.below HBb.out
         have C1:=tells8_any (some ⟨ob,0,none⟩) 7 oddG (a:Int) (b:Int) wb hkv (by decide) (by decide) hgv (lists_of odd_ok) (texts_of odd_ok)
         rw [show oddG.length=7 from rfl] at C1
         clear hkv hgv
         go_wp2_with fail
         refine C1.mono ?_
         rintro r w6 ⟨rfl,hb6⟩
         have HB6:=hid (HBb.out.trans (hb6.mono HBb.out.size))
         clear C1 hb6
         go_wp2_with fail
         go_roundw
         case rel=>exact ⟨b+1,by omega,by go_num,HB6⟩
         case measure=>simp [intOf];omega
        ·have hbi:¬ ((b:Int)<7):=by omega
         go_wp2_with fail
         go_roundw
         case rel=>exact ⟨a+1,by omega,by go_num,HBb⟩
         case measure=>simp [intOf];omega
      ·have hai:¬ ((a:Int)<7):=by omega
       have HKa:=hid (HK5.out.next HBa.out)
       have HGa:=hid (HG5.out.below HBa.out)
       have HBA:=hid (HB5.out.trans (HBa.out.mono HB5.out.size))
       obtain ⟨NL,hNL⟩:∃ N:Nat,(2001:Int)=(N:Int):=⟨2001,rfl⟩
       have hNLa:2000<NL:=by omega
       have hNLb:NL≤2001:=by omega
       have HNL:=hid hNL
       obtain ⟨i0,qa,qb,qc,qd⟩:=info_parts info_gnode
       have Hia:=hid qa
       have Hib:=hid qb
       have Hic:=hid qc
       have Hid_:=hid qd
       clear qa qb qc qd hNL ha hla
       go_wp2_with (at_make;refine unhidG ?_)
       refine hid ?_
       refine wpList_make_full wa rfl _ _ 22 rfl wa.heap.size 42 i0 zeroV 5 Tryz.underlying22 Hia.out Hib.out Hic.out .i64 .i64 2001 2001 NL rfl rfl HNL.out HNL.out (by rw [Hid_.out];omega) (by simp only [maxLen];omega) (Nat.le_refl _) ?_
       intro m1 ho hgm
       have hbm:Below wa.heap.size wa m1:=(Below.refl _ _).grown hgm (Nat.le_refl _) (fun k hk=>by cases hk)
       have hgz:=gsr_made ho
       have hkm:=HKa.out.next hbm
       have hcm:checkG (List.replicate NL zeroN)=5:=by
        unfold checkG
        rw [if_pos (by rw [List.length_replicate];exact hNLa)]
       have C1:=All_any (List.replicate NL zeroN) (some ⟨wa.heap.size,0,none⟩) NL true m1 hgz hkm (by rw [List.length_replicate];omega) (fun x hx=>by rw [List.eq_of_mem_replicate hx];exact ⟨Nat.zero_le _,fun s hs=>by cases hs⟩)
       unfold AllOut at C1
       rw [List.length_replicate] at C1
       have HCM:=hid hcm
       have HKm:=hid hkm
       have HGm:=hid (HGa.out.below hbm)
       have HBm:=hid (HBA.out.trans (hbm.mono HBA.out.size))
       clear ho hgm hbm hgz hkm hcm
       go_wp2_with fail
       refine C1.mono ?_
       rintro r m2 ⟨hb2,ho⟩
       rcases ho with ⟨-,rfl⟩ | ⟨h0,-⟩
       rotate_left
       ·rw [HCM.out] at h0;cases h0
       rw [HCM.out]
       have HK2:=hid (HKm.out.next hb2)
       have HG2:=hid (HGm.out.below hb2)
       have HB2:=hid (HBm.out.trans (hb2.mono HBm.out.size))
       have hz:=zero_rd m2
       have hyz:=one_boxS m2 (.cells #[.int .i64 0,.int .i64 0,.string ⟨#[]⟩,.slice none 0 0,.slice none 0 0] 42)
       have htz:Texts [zeroN]:=fun x hx=>by rw [List.mem_singleton] at hx;subst hx;exact ⟨Nat.zero_le _,fun s hs=>by cases hs⟩
       have HTZ:=hid htz
       have C1:=Least_any [zeroN] (some ⟨m2.heap.size,0,none⟩) none 1 0 [] (m2.alloc (.cells #[.int .i64 0,.int .i64 0,.string ⟨#[]⟩,.slice none 0 0,.slice none 0 0] 42)) hz (HK2.out.next hyz) (by decide) htz (by decide) (rd_nil _ _)
       rw [show [zeroN].length=1 from rfl,show ([]:List Int).length=0 from rfl] at C1
       have HK2':=hid (HK2.out.next hyz)
       have HG2':=hid (HG2.out.below hyz)
       have HB2':=hid (HB2.out.trans (hyz.mono HB2.out.size))
       clear hb2 hz hyz htz HCM HKm HGm HBm
       go_wp2_with fail
       refine C1.mono ?_
       rintro r m3 ⟨hb3,ho⟩
       rcases ho with ⟨-,rfl⟩ | ⟨h0,-⟩ | ⟨h0,-⟩ | ⟨h0,-⟩
       rotate_left
       ·rw [zero_no] at h0;cases h0
       ·rw [zero_no] at h0;cases h0
       ·rw [zero_no] at h0;cases h0
       rw [zero_no]
       have HK3:=hid (HK2'.out.next hb3)
       have HG3:=hid (HG2'.out.below hb3)
       have HB3:=hid (HB2'.out.trans (hb3.mono HB2'.out.size))
       clear C1 hb3 HK2 HG2 HB2 HK2' HG2' HB2'
       have C1:=Least_any chG GA none 11 0 [] m3 HG3.out HK3.out (by decide) (texts_of ch_ok) (by decide) (rd_nil _ _)
       rw [show chG.length=11 from rfl,show ([]:List Int).length=0 from rfl] at C1
       go_wp2_with fail
       refine C1.mono ?_
       rintro r m4 ⟨hb4,ho⟩
       rcases ho with ⟨h0,-⟩ | ⟨-,h0,-⟩ | ⟨-,-,m,⟨k,h0,-⟩,-⟩ | ⟨-,-,-,rfl⟩
       ·exact absurd ch_ok h0
       ·cases h0
       ·cases h0
       have HK4:=hid (HK3.out.next hb4)
       have HG4:=hid (HG3.out.below hb4)
       have HB4:=hid (HB3.out.trans (hb4.mono HB3.out.size))
       clear C1 hb4 HK3 HG3 HB3
       have hy:=one_boxS m4 (.cells #[.int .i64 99,.int .i64 0] 3)
       have C1:=Least_any chG GA (some ⟨m4.heap.size,0,none⟩) 11 2 [99,0] (m4.alloc (.cells #[.int .i64 99,.int .i64 0] 3)) (HG4.out.below hy) (HK4.out.next hy) (by decide) (texts_of ch_ok) (by decide) (pair_rd m4 99 0)
       rw [show chG.length=11 from rfl,show ([99,0]:List Int).length=2 from rfl] at C1
       have HK5':=hid (HK4.out.next hy)
       have HG5':=hid (HG4.out.below hy)
       have HB5':=hid (HB4.out.trans (hy.mono HB4.out.size))
       clear hy
       go_wp2_with fail
       refine C1.mono ?_
       rintro r m5 ⟨hb5,ho⟩
       rcases ho with ⟨h0,-⟩ | ⟨-,-,rfl⟩ | ⟨-,h0,-⟩ | ⟨-,h0,-⟩
       ·exact absurd ch_ok h0
       rotate_left
       ·cases h0
       ·cases h0
       have HK6:=hid (HK5'.out.next hb5)
       have HB6:=hid (HB5'.out.trans (hb5.mono HB5'.out.size))
       clear C1 hb5 HK5' HG5' HB5' HK4 HG4 HB4
       have C1:=works8_any m5 HK6.out
       go_wp2_with fail
       refine C1.mono ?_
       rintro r m6 ⟨rfl,hb6⟩
       have HK7:=hid (HK6.out.next hb6)
       have HB7:=hid (HB6.out.trans (hb6.mono HB6.out.size))
       clear C1 hb6 HK6 HB6
       have hz:=zero_rd m6
       have hyz:=one_boxS m6 (.cells #[.int .i64 0,.int .i64 0,.string ⟨#[]⟩,.slice none 0 0,.slice none 0 0] 42)
       have C1:=May_any [zeroN] (some ⟨m6.heap.size,0,none⟩) 1 0 0 (m6.alloc (.cells #[.int .i64 0,.int .i64 0,.string ⟨#[]⟩,.slice none 0 0,.slice none 0 0] 42)) hz (HK7.out.next hyz) (by decide) HTZ.out
       rw [show [zeroN].length=1 from rfl] at C1
       have HK8:=hid (HK7.out.next hyz)
       have HB8:=hid (HB7.out.trans (hyz.mono HB7.out.size))
       clear hz hyz
       go_wp2_with fail
       refine C1.mono ?_
       rintro r m7 ⟨v1,rfl,hv1,hb7⟩
       obtain rfl:v1=false:=by
        cases v1
        ·rfl
        ·have:=(hv1.1 rfl).1
         rw [zero_no] at this;cases this
       have HK9:=hid (HK8.out.next hb7)
       have HB9:=hid (HB8.out.trans (hb7.mono HB8.out.size))
       clear C1 hv1 hb7 HK7 HB7 HK8 HB8
       have C1:=Pick_any [] none 0 0 0 m7 (fun h=>by simp at h) HK9.out (by decide) (fun x hx=>by cases hx)
       rw [show ([]:List Gi).length=0 from rfl] at C1
       go_wp2_with fail
       refine C1.mono ?_
       rintro r m8 ⟨k1,rfl,hk1,hb8⟩
       obtain rfl:k1 = -2:=hk1.2 fun h=>by have:=h.2.1;cases this
       have HBX:=hid (HB9.out.trans (hb8.mono HB9.out.size))
       clear C1 hk1 hb8 HK9 HB9
       go_wp2_with fail
       go_ret
       exact ⟨rfl,HBX.out⟩
end SM
end
end Go.Proofs.YtmgbbndmmbgemaaGreatDoor
