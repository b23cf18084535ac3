/- Contracts and plain facts that the theorem rests on: SPush, SPick, SHoldL, SWorks, SWorks2, SPickP, SMadeA, SMadeH, SPush2. -/
import Derived.Test.YtmgbbndmmbgemaaGreatDoorZK34
import Derived.Deep.RegionLaw
import Derived.Deep.RegionLawGrows
import Derived.Test.YtmgbbndmmbgemaaGreatDoorZK30
import Derived.Test.YtmgbbndmmbgemaaGreatDoorZK29
import Derived.Test.YtmgbbndmmbgemaaGreatDoorZK18
import Derived.Test.YtmgbbndmmbgemaaGreatDoorZK12
import Derived.Test.YtmgbbndmmbgemaaGreatDoorZK33
import Derived.Test.YtmgbbndmmbgemaaGreatDoorZK2
set_option linter.unusedSimpArgs false
set_option linter.unusedVariables false
namespace Go.Proofs.YtmgbbndmmbgemaaGreatDoor
section
open Go.RowKit
namespace SM
open CM (nd kids)
theorem rd_pre {w:World} {A:Option Addr} {l:List Int} {p:Int} (h:RdV w A ((l++[p]).flatMap iC)):RdV w A (l.flatMap iC):=fun h0=>by
 rw [List.flatMap_append] at h
 obtain ⟨b,o,hA,hc⟩:=h (by rw [List.length_append];omega)
 exact ⟨b,o,hA,fun j v hj=>hc j v (by rw [List.getElem?_append_left (List.getElem?_eq_some_iff.1 hj).1];exact hj)⟩
theorem rd_blk {w:World} {g:Nat} {t:TypeId} {cs:Array Value} {l:List Value} (h:Blk w g t cs) (hl:∀ (j:Nat) (v:Value),l[j]? = some v→cs[j]? = some v):RdV w (some ⟨g,0,none⟩) l:=fun _=>⟨g,0,rfl,fun j v hj=>by
 rw [Nat.zero_add,h.cell j];exact hl j v hj⟩
theorem iC_flat (l:List Int):l.flatMap iC=l.map fun x=>Value.int .i64 x:=by
 induction l with
 | nil=>rfl
 | cons x l ih=>rw [List.flatMap_cons,List.map_cons,ih];rfl
set_option maxRecDepth 100000 in
theorem step_pushK (w:World) {ops:Array Oper} {o:Oper} {a:Go.Act} {K:Go.Act→World→Prop} {Q:Exit→Go.Act→World→Prop} {E:Prop} (hgd:o.guard=none) (s z:Operand)
  (hop:o.op=Op.call { callee:=Callee.builtin Builtin.append,args := #[s,z],argTypes := #[34,34] })
  (base:Nat) (VA:Option Addr) (vc:Nat) (l:List Int) (p:Int) (ad:Addr) (c:Nat) (hs:a.eval s = .slice VA l.length vc) (hown:OwnI w base (.slice VA l.length vc) l) (hx:a.eval z = .slice (some ad) 1 c)
  (hc0:w.cell? ad=some (.int .i64 p)) (hlen:l.length≤1000000000000)
  (h:∀ A' cap w',RdV w' A' ((l++[p]).flatMap iC)→RdV w' VA (l.flatMap iC)→Kept (fun k=>(Value.slice VA l.length vc).ownBlock=some k) w w'→K (a.put o.dst (.slice A' (l.length+1) cap)) w') :
  if Region.wanted o (yielded ops a.tmps)=true then Oper.wp Tryz.prog o a w K Q else E:=by
 obtain ⟨i0,hi,hz0,hz1,hz2⟩:=info_parts info_intG
 have hlast:∀ (j:Nat) u,[Value.int .i64 p][j]? = some u→w.cell? (ad.add j)=some u:=by
  intro j u hj
  match j with
  | 0=>simp at hj;subst hj;rw [show ad.add 0=ad from rfl];exact hc0
  | j+1=>simp at hj
 have hone:∀ u∈[Value.int .i64 p],u.oneCell'=true:=by
  intro u hu
  simp at hu
  rw [hu];rfl
 have hrd:=hown.rd
 by_cases hroom:l.length<vc
 ·rcases hown.2 with ⟨hv,_⟩ | ⟨g,cap,cur,hv,hbg,hg,hnc,hcm,hcs,htk⟩
  ·injection hv with e1 e2 e3
   omega
  ·injection hv with e1 e2 e3
   subst e1 e3
   have hb:Blk w g 3 cur:=hg
   have hlt:l.length<cur.size:=by rw [hcs];omega
   refine step_append_room hgd s z 34 hop 3 i0 1 Tryz.underlying34 hi hz1 g 0 l.length vc hs ad 1 c [.int .i64 p] hx rfl hlast hone (by omega) (fun j hj=>?_) ?_
   ·have hj0:j=0:=by simp at hj;exact hj
    subst hj0
    rw [Nat.zero_add,Nat.mul_one,Nat.add_zero,hb.cell,hb.frozen,Array.getElem?_eq_getElem hlt]
    exact ⟨rfl,rfl⟩
   ·have hw:w.setCells g (0+l.length*1) [.int .i64 p]=w.setCell ⟨g,l.length,none⟩ (.int .i64 p):=by
     rw [Nat.zero_add,Nat.mul_one];rfl
    rw [hw]
    have hb2:=hb.set_ l.length (.int .i64 p)
    have hget:∀ (j:Nat) (v:Value),(l.flatMap iC)[j]? = some v→cur[j]? = some v:=fun j v hj=>by
     rw [← htk] at hj
     rw [List.getElem?_take] at hj
     split at hj
     ·rw [← Array.getElem?_toList];exact hj
     ·cases hj
    have hall:RdV (w.setCell ⟨g,l.length,none⟩ (.int .i64 p)) (some ⟨g,0,none⟩) ((l++[p]).flatMap iC):=rd_blk hb2 fun j v hj=>by
     rw [Array.getElem?_setIfInBounds]
     rw [iC_flat,List.map_append] at hj
     by_cases e:l.length=j
     ·subst e
      rw [if_pos rfl,if_pos hlt]
      rw [List.getElem?_append_right (by rw [List.length_map];exact Nat.le_refl _),List.length_map,Nat.sub_self] at hj
      exact hj
     ·rw [if_neg e]
      by_cases e':j<l.length
      ·rw [List.getElem?_append_left (by rw [List.length_map];exact e')] at hj
       exact hget j v (by rw [iC_flat];exact hj)
      ·rw [List.getElem?_append_right (by rw [List.length_map];omega),List.length_map] at hj
       have:=(List.getElem?_eq_some_iff.1 hj).1
       simp at this
       omega
    exact h _ _ _ hall (rd_pre hall) ((Kept.refl (fun k=>(Value.slice (some ⟨g,0,none⟩) l.length vc).ownBlock=some k) w).setCell (p:=⟨g,l.length,none⟩) (fun _=>rfl) _)
 ·obtain ⟨A,cc,hv,h1,h2,h3⟩:=hrd
  injection hv with e1 e2 e3
  subst e1 e3
  have hnone:VA=none→l.length=0∧vc=0:=fun e=>by
   rcases hown.2 with ⟨hv,hz⟩ | ⟨g,cap,cur,hv,_⟩
   ·injection hv with e1 e2 e3;exact ⟨hz,e3⟩
   ·injection hv with e1;rw [e] at e1;cases e1
  refine step_append_grows hgd s z 34 hop 3 i0 _ 1 8 Tryz.underlying34 hi hz0 hz1 hz2 rfl (by decide) VA l.length vc (l.flatMap iC) hs hnone (by rw [iC_flat,List.length_map];omega) (fun b hb j u hj=>?_) ad 1 c [.int .i64 p] hx rfl hlast hone (by omega) (by unfold maxLen;omega) (by omega) ?_
  ·obtain ⟨bb,oo,hA,hcc⟩:=h3 (by have:=(List.getElem?_eq_some_iff.1 hj).1;omega)
   rw [hb] at hA
   injection hA with hA
   subst hA
   rw [addr_lit];exact hcc j u hj
  ·intro v' w' ho hg
   have ho':OwnI w' w.heap.size v' (l++[p]):=by
    unfold OwnI
    rw [List.flatMap_append,List.length_append];exact ho
   obtain ⟨A',cap',hv',-,-,hr'⟩:=ho'.rd
   subst hv'
   rw [List.length_append] at ho' ⊢
   have hk:Below w.heap.size w w':=grown_below hg
   exact h A' cap' w' hr' (h3.below hk) (Kept.of_below hk _)
end SM
end
section
open Lib (hid)
open Go.RowKit
namespace SM
open CM (nd kids)
theorem own_leG {w:World} {B B':Nat} {e:TypeId} {size n:Nat} {v:Value} {xs:List Value} (h:w.ownsRow B e size v n xs) (hb:B'≤B):w.ownsRow B' e size v n xs:=by
 refine ⟨h.1,?_⟩
 rcases h.2 with h | ⟨g,cap,cur,h1,h2,h3⟩
 ·exact .inl h
 ·exact .inr ⟨g,cap,cur,h1,by omega,h3⟩
theorem RelW.rebase {g:List Gi} {A:Option Addr} {c:Nat} {st:Bool} {B B0:Nat} {w w0:World} {y:Lay} {S:St} (h:RelW ⟨g,A,c,st,B⟩ w y S) (hB:B0≤B) (e:w0.heap.size=B0) (hg:GsR w0 A g) (hb:Below B0 w0 w):RelW ⟨g,A,c,st,B0⟩ w y S:=by
 refine ⟨fun X=>?_,h.inj,fun X k hX=>⟨by have:=(h.lt X k hX).1;exact Nat.le_trans hB this,(h.lt X k hX).2⟩,⟨w0,e,hg,hb⟩,h.len⟩
 cases X
 case rel=>exact h.comp .rel
 case lb=>exact h.comp .lb
 case rb=>exact h.comp .rb
 case kb=>exact h.comp .kb
 case ub=>exact h.comp .ub
 case sb=>exact h.comp .sb
 case mp=>exact h.comp .mp
 case prs=>exact own_leG (h.comp .prs) hB
 case ref=>exact own_leG (h.comp .ref) hB
 case lrow a=>exact h.comp (.lrow a)
 case rrow b=>exact h.comp (.rrow b)
 case un n=>exact own_leG (h.comp (.un n)) hB
 case us n=>exact own_leG (h.comp (.us n)) hB
 case nd n k=>exact own_leG (h.comp (.nd n k)) hB
def PkF (g:List Gi) (l:List Int) (a b:Nat) (y:Lay) (S:St):Prop:=
 (∀ t∈l,(a,t.toNat)∈S.P)∧(a,b)∈S.P∧(∀ p∈S.P,p.1<g.length∧p.2<g.length)∧(∀ a b,(a,b)∈S.P→RowsAt g y a b) ∧
 (∀ a b,(a,b)∈S.P→(S.q.cnt (a,b)≠0↔Gr g false a b))∧∀ a t,(a,t)∈S.P→(nd g a).kind≠8→(nd g t).kind≠8→(S.q.asm (a,t)=true↔Does g false (Gr g false) a t)
structure PkI (g:List Gi) (n:Nat) (A:Option Addr) (c:Nat) (l:List Int) (VA:Option Addr) (vc a b ab B2:Nat) (w0:World) (L:Nat→Bool) (vs:Nat→Value) (q33 q36 q8:Nat) (y:Lay) (S:St) (w:World):Prop where
 bel:Below B2 w0 w
 v0:vs 0 = .slice A n c
 v2:vs 2 = .int .i64 (b:Int)
 v4:vs 4 = .pointer (some ⟨ab,0,none⟩)
 v7:vs 7 = .slice VA l.length vc
 mem:RdV w VA (l.flatMap iC)
 own:L 6=false→OwnI w B2 (.slice VA l.length vc) l
 o0:L 0=true→vs 31 = .slice A n c
 o1:L 1=true→vs 32 = .int .i64 (a:Int)
 o2:L 2=true→vs 33 = .slice (some ⟨q33,0,none⟩) 1 1∧w0.heap.size≤q33∧Blk w q33 3 #[.int .i64 (a:Int)]
 o3:L 3=true→vs 34 = .slice VA l.length vc
 o4:L 4=true→vs 35 = .int .i64 (b:Int)
 o5:L 5=true→vs 36 = .slice (some ⟨q36,0,none⟩) 1 1∧w0.heap.size≤q36∧Blk w q36 3 #[.int .i64 (b:Int)]
 o6:L 6=true→L 7=false→∃ A' cap',vs 37 = .slice A' (l.length+1) cap'∧RdV w A' ((l++[(b:Int)]).flatMap iC)
 o7:L 7=true→vs 38 = .pointer (some ⟨y.rel,0,none⟩)∧RelW ⟨g,A,c,false,B2⟩ w y S∧PkF g l a b y S
 o8:L 8=true→vs 8 = .pointer (some ⟨q8,0,none⟩)∧w0.heap.size≤q8∧Blk w q8 49 (if L 9=true then #[.pointer (some ⟨y.rel,0,none⟩)] else #[.pointer none])
 n8:L 7=true→L 8=true→¬ Own y q8
 n2:L 2=true→L 8=true→q33≠q8
 n5:L 5=true→L 8=true→q36≠q8
 c9:L 9=true→L 7=true∧L 8=true
 c7:L 7=true→L 6=true
section
variable {g : List Gi} {n : Nat} {A : Option Addr} {c : Nat} {l : List Int} {VA : Option Addr} {vc a b ab B2 : Nat} {w0 : World} {L : Nat → Bool} {vs : Nat → Value} {q33 q36 q8 : Nat} {y : Lay} {S : St} {w : World}
theorem PkI.next (h : PkI g n A c l VA vc a b ab B2 w0 L vs q33 q36 q8 y S w) (hB : B2 ≤ w.heap.size) {w' : World} (hb : Below w.heap.size w w') : PkI g n A c l VA vc a b ab B2 w0 L vs q33 q36 q8 y S w' :=
  ⟨h.bel.trans (hb.mono hB), h.v0, h.v2, h.v4, h.v7, h.mem.below hb, fun e => own_keptG (h.own e) (Kept.of_below hb (fun _ => False)) (fun _ _ h => h), h.o0, h.o1, fun e => ⟨(h.o2 e).1, (h.o2 e).2.1, (h.o2 e).2.2.below hb (h.o2 e).2.2.lt⟩, h.o3, h.o4,
   fun e => ⟨(h.o5 e).1, (h.o5 e).2.1, (h.o5 e).2.2.below hb (h.o5 e).2.2.lt⟩, fun e e' => by obtain ⟨A', cap', h1, h2⟩ := h.o6 e e'; exact ⟨A', cap', h1, h2.below hb⟩,
   fun e => ⟨(h.o7 e).1, (h.o7 e).2.1.same hb, (h.o7 e).2.2⟩, fun e => ⟨(h.o8 e).1, (h.o8 e).2.1, (h.o8 e).2.2.below hb (h.o8 e).2.2.lt⟩, h.n8, h.n2, h.n5, h.c9, h.c7⟩
end
set_option maxRecDepth 100000 in
set_option maxHeartbeats 4000000 in
theorem pick_item (x:Cx) (y:Lay) (S:St) (rel a b rb ab:Nat) (w:World) (h:RelW x w y S) (hrel:y.rel=rel) (ha:a<2001) (hb:b<2001) (h1:Blk w rb 49 #[.pointer (some ⟨rel,0,none⟩)]) (h2:Blk w ab 3 #[.int .i64 (a:Int)]) :
  Calls Tryz.prog 38 #[.int .i64 (b:Int),.pointer (some ⟨rb,0,none⟩),.pointer (some ⟨ab,0,none⟩)] w fun r w'=>r = .returned (.bool (S.q.asm (a,b)))∧Below w.heap.size w w':=by
 subst hrel
 have c0:=h1.cell 0
 have c1:=h2.cell 0
 simp at c0 c1
 have c4:=h.c4
 have hcall:Calls Tryz.prog 39 #[.map (some y.mp),.agg #[.int .i64 (a:Int),.int .i64 (b:Int)]] w.drew (fun r w'=>r = .returned (.bool (S.q.asm (a,b)))∧Below w.heap.size w w'):=by
  have:=has_any y.mp a b S.q.asm w.drew (Comp.mp_ (x:=x) (h.drew.comp .mp)) ha hb
  exact this.mono fun r w' ⟨k1,k2⟩=>⟨k1,⟨k2.os,k2.tape,k2.output,k2.size,k2.block⟩⟩
 have HH:=hid h
 have H1:=hid h1
 have H2:=hid h2
 have hS:(w.drew.cell? ⟨rb,0,none⟩=some (.pointer (some ⟨y.rel,0,none⟩))∧w.drew.cell? ⟨ab,0,none⟩=some (.int .i64 (a:Int))∧w.drew.cell? ⟨y.rel,4,none⟩=some (.map (some y.mp))):=⟨c0,c1,c4⟩
 clear h h1 h2
 generalize S.q.asm (a,b)=v at hcall ⊢
 go_enter Tryz.func38,Tryz.ntmps38
 go_upto_region 1 with (fail)
 go_region_held3 (fun w'=>w'.cell? ⟨rb,0,none⟩=some (.pointer (some ⟨y.rel,0,none⟩))∧w'.cell? ⟨ab,0,none⟩=some (.int .i64 (a:Int))∧w'.cell? ⟨y.rel,4,none⟩=some (.map (some y.mp))) (first | with_reducible exact hS | with_reducible exact hn4) (first | (go_simp;go_at_call 39;refine hcall.mono ?_;rintro e w4 ⟨rfl,hb4⟩;have HB4:=hid hb4;have hn4:w4.cell? ⟨rb,0,none⟩=some (.pointer (some ⟨y.rel,0,none⟩))∧w4.cell? ⟨ab,0,none⟩=some (.int .i64 (a:Int))∧w4.cell? ⟨y.rel,4,none⟩=some (.map (some y.mp)):=⟨(H1.out.below hb4 H1.out.lt).cell 0,(H2.out.below hb4 H2.out.lt).cell 0,(HH.out.same hb4).c4⟩;clear hb4))
 all_goals
  rename_i hHH
  clear hHH hn4 hS c0 c1 c4 hcall
  go_wp2_with fail
  go_returns
  exact ⟨rfl,HB4.out⟩
theorem vals_of (T:Array Value) {n:Nat} (h:T.size=n):T=vals (fun k=>T.getD k undef) n:=by
 apply Array.ext_getElem?
 intro i
 by_cases hi:i<n
 ·rw [vals_get hi,Array.getD_eq_getD_getElem?,Array.getElem?_eq_getElem (by omega)];rfl
 ·rw [Array.getElem?_eq_none (by omega),Array.getElem?_eq_none (by simp [vals];omega)]
def PickIs (g:List Gi) (a b k:Int):Prop:=
 ((checkG g=0∧exI g.length a=true∧exI g.length b=true∧(nd g a.toNat).kind≠8∧Gr g false a.toNat b.toNat)→∃ p:Int→Bool,(∀ t∈memI g b,(p t=true↔Does g false (Gr g false) a.toNat t.toNat))∧k=idxI p (memI g b)) ∧
 (¬ (checkG g=0∧exI g.length a=true∧exI g.length b=true∧(nd g a.toNat).kind≠8∧Gr g false a.toNat b.toNat)→k = -2)
theorem PickIs.no {g:List Gi} {a b:Int} (h:¬ (checkG g=0∧exI g.length a=true∧exI g.length b=true∧(nd g a.toNat).kind≠8∧Gr g false a.toNat b.toNat)):PickIs g a b (-2):=⟨fun h'=>absurd h' h,fun _=>rfl⟩
theorem memI_mem {g:List Gi} (hf:Fine g) {b:Nat} (hb:b<g.length):memI g (b:Int)=(mem g b).map nI:=by
 unfold memI
 rw [show exI g.length (b:Int)=true from exI_iff.2 (by omega),if_pos rfl,Int.toNat_natCast]
 show (if (nd g b).kind=8 then (nd g b).l else [(b:Int)])=_
 unfold mem
 split
 ·unfold CM.kids
  rw [List.map_map]
  have:∀ z∈(nd g b).l,(nI ∘ Int.toNat) z=z:=fun z hz=>by have:=hf.kidI b hb z hz;show ((z.toNat:Nat):Int)=z;omega
  rw [List.map_congr_left this,List.map_id']
 ·rfl
theorem Fine.l_len {g:List Gi} (hf:Fine g):∀ x∈g,x.l.length≤2000:=fun x hx=>by
 obtain ⟨i,hi⟩:=List.getElem?_of_mem hx
 have hil:=(List.getElem?_eq_some_iff.1 hi).1
 have e:nd g i=x:=by unfold CM.nd;rw [List.getD_eq_getElem?_getD,hi];rfl
 rw [← e]
 have hk:=hf.kind i hil
 by_cases h5:(nd g i).kind≤5
 ·rw [hf.bare i hil h5];simp
 ·by_cases h7:(nd g i).kind=7
  ·have:=hf.recd i hil h7;omega
  ·by_cases h8:(nd g i).kind=8
   ·exact uni_len hf hil h8
   ·have:=hf.var i hil (by omega)
    rw [kids_len] at this
    omega
set_option maxRecDepth 100000 in
set_option maxHeartbeats 16000000 in
theorem Pick_any (g:List Gi) (A:Option Addr) (c:Nat) (a b:Int) (w:World) (hg:GsR w A g) (hk:Gnd w) (hl:(g.length:Int)≤9223372036854775807) (ht:Texts g) :
  Calls Tryz.prog 16 #[.slice A g.length c,.int .i64 a,.int .i64 b] w fun r w'=>∃ k,r = .returned (.int .i64 k)∧PickIs g a b k∧Below w.heap.size w w':=by
 have hbx:=Blk.new w 3 #[.int .i64 a]
 have hby:=one_boxS w (.cells #[.int .i64 a] 3)
 have C1:=check_any A c g (w.alloc (.cells #[.int .i64 a] 3)) (hk.next hby).kw hl (hg.below hby) ht
 have HG:=hid hg
 have HK:=hid hk
 have HLG:=hid hl
 obtain ⟨n,hn⟩:∃ n,g.length=n:=⟨_,rfl⟩
 have HN:=hid hn
 rw [hn] at C1 ⊢
 clear hg hk hl ht hn
 go_enter Tryz.func16,Tryz.ntmps16
 go_upto_region 1 with (fail)
 obtain ⟨ab,habs⟩:∃ ab,w.heap.size=ab:=⟨_,rfl⟩
 have HABS:=hid habs
 rw [habs] at hbx ⊢
 generalize w.alloc (.cells #[.int .i64 a] 3)=wa at hbx hby C1 ⊢
 have HBX:=hid hbx
 have HBY:=hid hby
 have z0:=hbx.cell 0
 simp at z0
 clear hbx hby habs
 go_wp2_with fail
 refine C1.mono ?_
 rintro r w1 ⟨rfl,hb1⟩
 have HB1:=hid (HBY.out.trans (hb1.mono HBY.out.size))
 have HBX1:=hid (HBX.out.below hb1 HBX.out.lt)
 have z1:=HBX1.out.cell 0
 simp at z1
 clear hb1 C1 z0 HBX HBY
 by_cases hc:checkG g=0
 ·have HC:=hid hc
  have HF:Hid (Fine g):=hid (fine_of hc)
  rw [hc]
  clear hc
  have hy1:=one_boxS w1 (.cells #[.int .i64 a,.int .i64 b] 3)
  have E1:=subexist_any A (some ⟨w1.heap.size,0,none⟩) n c 2 [a,b] _ (by simp) (rd_lit2 w1 a b)
  go_wp2_with fail
  refine E1.mono ?_
  rintro r w2 ⟨rfl,hb2⟩
  have hb12:=hy1.trans (hb2.mono hy1.size)
  have HB2:=hid (HB1.out.trans (hb12.mono HB1.out.size))
  have HBX2:=hid (HBX1.out.below hb12 HBX1.out.lt)
  have z2:=HBX2.out.cell 0
  simp at z2
  clear E1 hb2 hy1 hb12 z1
  cases hex:([a,b].all (exI n))
  ·have HE:Hid (¬ (exI n a=true∧exI n b=true)):=hid (fun h=>by simp [h.1,h.2] at hex)
   clear hex
   go_wp2_with fail
   go_returns
   exact ⟨-2,rfl,PickIs.no (fun h=>HE.out ⟨by rw [← HN.out];exact h.2.1,by rw [← HN.out];exact h.2.2.1⟩),HB2.out⟩
  ·have HE:Hid (exI n a=true∧exI n b=true):=hid (by simpa using hex)
   clear hex
   obtain ⟨ha0,ha1⟩:=exI_iff.1 HE.out.1
   obtain ⟨hb0,hb1⟩:=exI_iff.1 HE.out.2
   obtain ⟨a',rfl⟩:∃ a':Nat,a=(a':Int):=⟨a.toNat,by omega⟩
   obtain ⟨b',rfl⟩:∃ b':Nat,b=(b':Int):=⟨b.toNat,by omega⟩
   have HAL:Hid (a'<g.length):=hid (by rw [HN.out];omega)
   have HBL:Hid (b'<g.length):=hid (by rw [HN.out];omega)
   obtain ⟨gb,go_,hA,hgn⟩:=(HG.out.below HB2.out).at_ (i:=a') (x:=nd g a') (by unfold CM.nd;rw [List.getD_eq_getElem?_getD,List.getElem?_eq_getElem HAL.out];rfl)
   obtain ⟨VA',vc',PA',pc',k0,-⟩:=hgn
   have hai:(a':Int)<(n:Int):=by omega
   have HA:=hid hA
   subst hA
   by_cases h8:(nd g a').kind=8
   ·have t8:((nd g a').kind == 8)=true:=by simp [h8]
    have H8:=hid h8
    clear h8
    go_wp2_with fail
    go_returns
    exact ⟨-2,rfl,PickIs.no (fun h=>h.2.2.2.1 H8.out),HB2.out⟩
   ·have t8:((nd g a').kind == 8)=false:=by simp [h8]
    have H8:=hid h8
    have M1:=members_any (some ⟨gb,go_,none⟩) c g (b':Int) w2 HLG.out (HG.out.below HB2.out) (fun x hx=>by have:=HF.out.l_len x hx;omega)
    rw [HN.out] at M1
    clear h8
    go_wp2_with fail
    refine M1.mono ?_
    rintro r w3 ⟨v,rfl,ho3,hb3⟩
    obtain ⟨VA,vc,hv,hvc,hvc2,hrd⟩:=ho3.rd
    subst hv
    have hml:=memI_mem HF.out HBL.out
    obtain ⟨l,hlm⟩:∃ l,memI g (b':Int)=l:=⟨_,rfl⟩
    have HLM:=hid hlm
    rw [hlm] at ho3 hrd hml ⊢
    obtain ⟨B2,hB2⟩:∃ B2,w2.heap.size=B2:=⟨_,rfl⟩
    have HML:=hid hml
    have HLL:Hid (l.length≤1000000000000):=hid (by rw [hml,List.length_map];have:=nodup_sub_len (HF.out.mem_nodup HBL.out) (m:=List.range g.length) (fun z hz=>List.mem_range.2 (HF.out.mem_lt HBL.out hz));rw [List.length_range] at this;have:=HF.out.len;omega)
    have HLS:Hid ((mem g b').length≤2000):=hid (by have:=nodup_sub_len (HF.out.mem_nodup HBL.out) (m:=List.range g.length) (fun z hz=>List.mem_range.2 (HF.out.mem_lt HBL.out hz));rw [List.length_range] at this;have:=HF.out.len;omega)
    have HB23:Hid (Below B2 w2 w3.drew):=hid (by rw [← hB2];exact ⟨hb3.os,hb3.tape,hb3.output,hb3.size,hb3.block⟩)
    have hab:ab<B2:=by rw [← hB2];exact HBX2.out.lt
    have z3:w3.drew.cell? ⟨ab,0,none⟩=some (.int .i64 (a':Int)):=(HBX2.out.below hb3 HBX2.out.lt).cell 0
    have HB20:Hid (B2≤w3.drew.heap.size):=hid (by rw [← hB2];exact hb3.size)
    have HROW:Hid (∀ k,(Value.slice VA l.length vc).ownBlock=some k→k<w3.drew.heap.size):=hid (fun k hk=>(own_ltG ho3 hk).2)
    have HO3:Hid (OwnI w3.drew B2 (.slice VA l.length vc) l):=hid (by rw [← hB2];exact ho3)
    have HRD:Hid (RdV w3.drew VA (l.flatMap iC)):=hid hrd
    have HREL:Hid (∀ (q33:Nat) (A':Option Addr) (cap':Nat) (w':World),Below B2 w2 w'→B2≤w'.heap.size→Blk w' q33 3 #[.int .i64 (a':Int)]→RdV w' A' ((l++[(b':Int)]).flatMap iC) →
      Calls Tryz.prog 29 #[.slice (some ⟨gb,go_,none⟩) n c,.bool false,.slice (some ⟨q33,0,none⟩) 1 1,.slice A' (l.length+1) cap'] w' fun r w4=>∃ y S,r = .returned (.pointer (some ⟨y.rel,0,none⟩))∧RelW ⟨g,some ⟨gb,go_,none⟩,c,false,B2⟩ w4 y S∧(∀ X k,bl y X=some k→w'.heap.size≤k)∧Below w'.heap.size w' w4∧PkF g l a' b' y S):=hid (fun q33 A' cap' w' hbw hsz hq hr=>by
     have hGd:=HK.out.next HB2.out
     have hBlt:1<B2:=by rw [← hB2];exact hGd.lt
     have hgs2:=HG.out.below HB2.out
     have hr1:RdV w' (some ⟨q33,0,none⟩) (([a'].map nI).flatMap iC):=rd_blk hq fun j v hj=>by
      match j,hj with
      | 0,hj=>exact hj
      | j+1,hj=>cases hj
     have hr2:RdV w' A' (((mem g b'++[b']).map nI).flatMap iC):=by
      rw [List.map_append,← HML.out];exact hr
     have R:=newRelation_any g (some ⟨gb,go_,none⟩) c false (some ⟨q33,0,none⟩) A' 1 cap' [a'] (mem g b'++[b']) w' (hgs2.below (by rw [hB2];exact hbw)) HF.out hr1 hr2 (by simp) (by rw [List.length_append];have:=HLS.out;simp;omega) (by rw [List.length_append];have:=HLS.out;simp;omega) (fun z hz=>by rw [List.mem_singleton] at hz;subst hz;exact HAL.out) (fun z hz=>by
      rcases List.mem_append.1 hz with hz | hz
      ·exact HF.out.mem_lt HBL.out hz
      ·rw [List.mem_singleton] at hz;subst hz;exact HBL.out) (fun j hj=>(hbw.cell (p:=⟨_,j,none⟩) hBlt).trans (hGd.tab j hj)) (Nat.lt_of_lt_of_le hBlt hsz)
     have hlen2:(mem g b'++[b']).length=l.length+1:=by rw [List.length_append,HML.out,List.length_map];rfl
     rw [HN.out,hlen2] at R
     refine R.mono ?_
     rintro r w4 ⟨y,S,rfl,h4,hb4,hP,hle,hlt4,hrows,hgr,hasm⟩
     refine ⟨y,S,rfl,h4.rebase hsz hB2 hgs2 (hbw.trans (hb4.mono hsz)),fun X k hX=>(h4.lt X k hX).1,hb4,fun t ht=>?_,hP a' (by simp) b' (by simp),hlt4,hrows,hgr,hasm⟩
     rw [HML.out] at ht
     obtain ⟨t',ht',rfl⟩:=List.mem_map.1 ht
     have e2:(nI t').toNat=t':=by unfold nI;omega
     rw [e2]
     exact hP a' (by simp) t' (List.mem_append_left _ ht'))
    have HHB:Hid (w.heap.size≤B2):=hid (by rw [← hB2];exact HB2.out.size)
    clear ho3 hrd hvc hvc2 hb3 hml hlm M1 z2 k0 HA ha0 ha1 hb0 hb1 hB2
    go_upto_region 4 with (fail)
    refine wp_region_any (by kernel_rfl) ?_
    change wpAny _ _ _ _ _ _ _ (World.drew _)
    refine wpAny_inv (fun L aa w'=>∃ (vs:Nat→Value) (q33 q36 q8:Nat) (y:Lay) (S:St),aa=⟨vals vs 48,[]⟩∧PkI g n (some ⟨gb,go_,none⟩) c l VA vc a' b' ab B2 w3.drew L vs q33 q36 q8 y S w') (low_of (by kernel_rfl)) ?step ?done 10 _ _ _ (by rfl) (by decide) ?init
    case step =>
     intro L aa w' i hi hLi hdep hI
     obtain ⟨vs,q33,q36,q8,y,S,rfl,T⟩:=hI
     have hcs:i=0∨i=1∨i=2∨i=3∨i=4∨i=5∨i=6∨i=7∨i=8∨i=9:=by
      have:i<10:=hi
      omega
     have hnw:w3.drew.heap.size≤w'.heap.size:=T.bel.size
     have hnb:B2≤w'.heap.size:=by have:=HB20.out;omega
     rcases hcs with rfl | rfl | rfl | rfl | rfl | rfl | rfl | rfl | rfl | rfl
     ·have HT:=hid T
      have HLI:=hid hLi
      have HNW:=hid hnw
      have HNB:=hid hnb
      have g0:=(vals_getD (vs:=vs) (n:=48) (k:=0) (by decide)).trans T.v0
      clear hdep hi T
      refine wpOp_step rfl fun K' hK=>?_
      go_simp
      exact hK _ _ ⟨_,q33,q36,q8,y,S,congrArg (fun z=>(⟨z,[]⟩:Go.Act)) (vals_set _ _ _ _),⟨HT.out.bel,HT.out.v0,HT.out.v2,HT.out.v4,HT.out.v7,HT.out.mem,HT.out.own,fun _=>rfl,HT.out.o1,HT.out.o2,HT.out.o3,HT.out.o4,HT.out.o5,HT.out.o6,HT.out.o7,HT.out.o8,HT.out.n8,HT.out.n2,HT.out.n5,HT.out.c9,HT.out.c7⟩⟩
     ·have HT:=hid T
      have HLI:=hid hLi
      have HNW:=hid hnw
      have HNB:=hid hnb
      have g0:=(vals_getD (vs:=vs) (n:=48) (k:=4) (by decide)).trans T.v4
      have ca:=(T.bel.cell (p:=⟨ab,0,none⟩) hab).trans z3
      clear hdep hi T
      refine wpOp_step rfl fun K' hK=>?_
      go_simp
      exact hK _ _ ⟨_,q33,q36,q8,y,S,congrArg (fun z=>(⟨z,[]⟩:Go.Act)) (vals_set _ _ _ _),⟨HT.out.bel,HT.out.v0,HT.out.v2,HT.out.v4,HT.out.v7,HT.out.mem,HT.out.own,HT.out.o0,fun _=>rfl,HT.out.o2,HT.out.o3,HT.out.o4,HT.out.o5,HT.out.o6,HT.out.o7,HT.out.o8,HT.out.n8,HT.out.n2,HT.out.n5,HT.out.c9,HT.out.c7⟩⟩
     ·have d1:=hdep _ rfl ⟨1,.data⟩ (by simp) (by rfl)
      have HD1:=hid d1
      have HT:=hid T
      have HLI:=hid hLi
      have HNW:=hid hnw
      have HNB:=hid hnb
      have g0:=(vals_getD (vs:=vs) (n:=48) (k:=32) (by decide)).trans (T.o1 d1)
      have f0:=(congrArg (fun z=>z) (Array.getD_eq_getD_getElem? (xs:=vals vs 48) (i:=32) (d:=undef))).symm.trans g0
      clear hdep hi T d1
      refine wpOp_step rfl fun K' hK=>?_
      go_simp
      have h2:=HT.out.next HNB.out (one_boxS w' (.cells #[.int .i64 (a':Int)] 3))
      exact hK _ _ ⟨fun j=>if j=33 then .slice (some ⟨w'.heap.size,0,none⟩) 1 1 else vs j,w'.heap.size,q36,q8,y,S,congrArg (fun z=>(⟨z,[]⟩:Go.Act)) (vals_set _ _ _ _),⟨h2.bel,h2.v0,h2.v2,h2.v4,h2.v7,h2.mem,h2.own,h2.o0,h2.o1,fun _=>⟨rfl,HNW.out,Blk.new w' _ _⟩,h2.o3,h2.o4,h2.o5,h2.o6,h2.o7,h2.o8,h2.n8,fun _ e=>(by have:=(HT.out.o8 e).2.2.lt;omega),h2.n5,h2.c9,h2.c7⟩⟩
     ·have HT:=hid T
      have HLI:=hid hLi
      have HNW:=hid hnw
      have HNB:=hid hnb
      have g0:=(vals_getD (vs:=vs) (n:=48) (k:=7) (by decide)).trans T.v7
      clear hdep hi T
      refine wpOp_step rfl fun K' hK=>?_
      go_simp
      exact hK _ _ ⟨_,q33,q36,q8,y,S,congrArg (fun z=>(⟨z,[]⟩:Go.Act)) (vals_set _ _ _ _),⟨HT.out.bel,HT.out.v0,HT.out.v2,HT.out.v4,HT.out.v7,HT.out.mem,HT.out.own,HT.out.o0,HT.out.o1,HT.out.o2,fun _=>rfl,HT.out.o4,HT.out.o5,HT.out.o6,HT.out.o7,HT.out.o8,HT.out.n8,HT.out.n2,HT.out.n5,HT.out.c9,HT.out.c7⟩⟩
     ·have HT:=hid T
      have HLI:=hid hLi
      have HNW:=hid hnw
      have HNB:=hid hnb
      have g0:=(vals_getD (vs:=vs) (n:=48) (k:=2) (by decide)).trans T.v2
      clear hdep hi T
      refine wpOp_step rfl fun K' hK=>?_
      go_simp
      exact hK _ _ ⟨_,q33,q36,q8,y,S,congrArg (fun z=>(⟨z,[]⟩:Go.Act)) (vals_set _ _ _ _),⟨HT.out.bel,HT.out.v0,HT.out.v2,HT.out.v4,HT.out.v7,HT.out.mem,HT.out.own,HT.out.o0,HT.out.o1,HT.out.o2,HT.out.o3,fun _=>rfl,HT.out.o5,HT.out.o6,HT.out.o7,HT.out.o8,HT.out.n8,HT.out.n2,HT.out.n5,HT.out.c9,HT.out.c7⟩⟩
     ·have d4:=hdep _ rfl ⟨4,.data⟩ (by simp) (by rfl)
      have HD4:=hid d4
      have HT:=hid T
      have HLI:=hid hLi
      have HNW:=hid hnw
      have HNB:=hid hnb
      have g0:=(vals_getD (vs:=vs) (n:=48) (k:=35) (by decide)).trans (T.o4 d4)
      have f0:=(congrArg (fun z=>z) (Array.getD_eq_getD_getElem? (xs:=vals vs 48) (i:=35) (d:=undef))).symm.trans g0
      clear hdep hi T d4
      refine wpOp_step rfl fun K' hK=>?_
      go_simp
      have h2:=HT.out.next HNB.out (one_boxS w' (.cells #[.int .i64 (b':Int)] 3))
      exact hK _ _ ⟨fun j=>if j=36 then .slice (some ⟨w'.heap.size,0,none⟩) 1 1 else vs j,q33,w'.heap.size,q8,y,S,congrArg (fun z=>(⟨z,[]⟩:Go.Act)) (vals_set _ _ _ _),⟨h2.bel,h2.v0,h2.v2,h2.v4,h2.v7,h2.mem,h2.own,h2.o0,h2.o1,h2.o2,h2.o3,h2.o4,fun _=>⟨rfl,HNW.out,Blk.new w' _ _⟩,h2.o6,h2.o7,h2.o8,h2.n8,h2.n2,fun _ e=>(by have:=(HT.out.o8 e).2.2.lt;omega),h2.c9,h2.c7⟩⟩
     ·have d3:=hdep _ rfl ⟨3,.data⟩ (by simp) (by rfl)
      have HD3:=hid d3
      have d5:=hdep _ rfl ⟨5,.data⟩ (by simp) (by rfl)
      have HD5:=hid d5
      have HT:=hid T
      have HLI:=hid hLi
      have HNW:=hid hnw
      have HNB:=hid hnb
      have e34:=(eval_vals vs 48 [] (k:=34) (by decide)).trans (T.o3 d3)
      have e36:=(eval_vals vs 48 [] (k:=36) (by decide)).trans (T.o5 d5).1
      have hown:=T.own hLi
      have hb36:=(T.o5 d5).2.2
      clear hdep hi T d3 d5
      refine wpOp_step rfl fun K' hK=>?_
      refine step_pushK w' (by rfl) _ _ (by rfl) B2 VA vc l (b':Int) ⟨q36,0,none⟩ 1 e34 hown e36 (hb36.cell 0) HLL.out ?_
      intro A' cap' w2' hr1 hr2 hk2
      refine hK _ _ ⟨_,q33,q36,q8,y,S,put_vals _ _ _ _ _,?_⟩
      have hrow:∀ k,(Value.slice VA l.length vc).ownBlock=some k→k<w3.drew.heap.size:=HROW.out
      have hown2:=hown
      have off:∀ k,w3.drew.heap.size≤k→¬ (Value.slice VA l.length vc).ownBlock=some k:=fun k hk e=>by have:=hrow k e;omega
      have h7:L 7=true→False:=fun e=>by have:=HT.out.c7 e;rw [HLI.out] at this;cases this
      exact ⟨HT.out.bel.trans (hk2.below HNB.out (fun k hk e=>by have:=(own_ltG hown e).1;omega)),HT.out.v0,HT.out.v2,HT.out.v4,HT.out.v7,hr2,fun e=>(by cases e),HT.out.o0,HT.out.o1,fun e=>⟨(HT.out.o2 e).1,(HT.out.o2 e).2.1,hk2.blk (HT.out.o2 e).2.2 (off _ (HT.out.o2 e).2.1)⟩,HT.out.o3,HT.out.o4,fun e=>⟨(HT.out.o5 e).1,(HT.out.o5 e).2.1,hk2.blk (HT.out.o5 e).2.2 (off _ (HT.out.o5 e).2.1)⟩,fun _ _=>⟨A',cap',rfl,hr1⟩,fun e=>(h7 e).elim,fun e=>⟨(HT.out.o8 e).1,(HT.out.o8 e).2.1,hk2.blk (HT.out.o8 e).2.2 (off _ (HT.out.o8 e).2.1)⟩,HT.out.n8,HT.out.n2,HT.out.n5,HT.out.c9,fun _=>rfl⟩
     ·have d0:=hdep _ rfl ⟨0,.data⟩ (by simp) (by rfl)
      have HD0:=hid d0
      have d2:=hdep _ rfl ⟨2,.data⟩ (by simp) (by rfl)
      have HD2:=hid d2
      have d6:=hdep _ rfl ⟨6,.data⟩ (by simp) (by rfl)
      have HD6:=hid d6
      have HT:=hid T
      have HLI:=hid hLi
      have HNW:=hid hnw
      have HNB:=hid hnb
      have g0:=(vals_getD (vs:=vs) (n:=48) (k:=31) (by decide)).trans (T.o0 d0)
      have g1:=(vals_getD (vs:=vs) (n:=48) (k:=33) (by decide)).trans (T.o2 d2).1
      obtain ⟨A',cap',e37,hr37⟩:=T.o6 d6 hLi
      have g2:=(vals_getD (vs:=vs) (n:=48) (k:=37) (by decide)).trans e37
      have hw2:Below B2 w2 w':=HB23.out.trans T.bel
      have R1:=HREL.out q33 A' cap' w' hw2 hnb (T.o2 d2).2.2 hr37
      clear e37 hr37
      clear hdep hi T d0 d2 d6
      refine wpOp_step rfl fun K' hK=>?_
      go_simp
      refine R1.mono ?_
      rintro r w4 ⟨yy,SS,rfl,hrel4,hf4n,hb4,hf4⟩
      have h2:=HT.out.next HNB.out hb4
      refine hK _ _ ⟨_,q33,q36,q8,yy,SS,congrArg (fun z=>(⟨z,[]⟩:Go.Act)) (vals_set _ _ _ _),?_⟩
      have h9:L 9=true→False:=fun e=>by have:=(HT.out.c9 e).1;rw [HLI.out] at this;cases this
      have h9f:L 9=false:=by
       cases e:L 9
       ·rfl
       ·exact (h9 e).elim
      exact ⟨h2.bel,h2.v0,h2.v2,h2.v4,h2.v7,h2.mem,h2.own,h2.o0,h2.o1,h2.o2,h2.o3,h2.o4,h2.o5,fun _ e=>(by cases e),fun _=>⟨rfl,hrel4,hf4⟩,fun e=>⟨(h2.o8 e).1,(h2.o8 e).2.1,by have:=(h2.o8 e).2.2;rw [if_neg (by rw [h9f];simp)] at this;show Blk _ _ _ (if (if (9:Nat)=7 then true else L 9)=true then _ else _);rw [if_neg (by rw [if_neg (by decide),h9f];simp)];exact this⟩,fun _ e=>(fun ⟨X,hX⟩=>by have h1:=hrel4.lt X q8 hX;have h2':=(HT.out.o8 e).2.2.lt;exact absurd (hf4n X q8 hX) (by omega)),h2.n2,h2.n5,fun e=>((h9 (by simpa using e)).elim),fun _=>HD6.out⟩
     ·have HT:=hid T
      have HLI:=hid hLi
      have HNW:=hid hnw
      have HNB:=hid hnb
      clear hdep hi T
      refine wpOp_step rfl fun K' hK=>?_
      go_simp
      have h2:=HT.out.next HNB.out (one_boxS w' (.cells #[.pointer none] 49))
      have h9f:L 9=false:=by
       cases e:L 9
       ·rfl
       ·have:=(HT.out.c9 e).2;rw [HLI.out] at this;cases this
      exact hK _ _ ⟨_,q33,q36,w'.heap.size,y,S,congrArg (fun z=>(⟨z,[]⟩:Go.Act)) (vals_set _ _ _ _),⟨h2.bel,h2.v0,h2.v2,h2.v4,h2.v7,h2.mem,h2.own,h2.o0,h2.o1,h2.o2,h2.o3,h2.o4,h2.o5,h2.o6,h2.o7,fun _=>⟨rfl,HNW.out,by show Blk _ _ _ (if (if (9:Nat)=8 then true else L 9)=true then _ else _);rw [if_neg (by rw [if_neg (by decide),h9f];simp)];exact Blk.new w' _ _⟩,fun e _=>(fun ⟨X,hX⟩=>by have:=((HT.out.o7 e).2.1.lt X _ hX).2;omega),fun e _=>(by have:=(HT.out.o2 e).2.2.lt;omega),fun e _=>(by have:=(HT.out.o5 e).2.2.lt;omega),fun e=>(by rw [if_neg (by decide),h9f] at e;cases e),h2.c7⟩⟩
     ·have d8:=hdep _ rfl ⟨8,.data⟩ (by simp) (by rfl)
      have HD8:=hid d8
      have d7:=hdep _ rfl ⟨7,.data⟩ (by simp) (by rfl)
      have HD7:=hid d7
      have HT:=hid T
      have HLI:=hid hLi
      have HNW:=hid hnw
      have HNB:=hid hnb
      have g0:=(vals_getD (vs:=vs) (n:=48) (k:=8) (by decide)).trans (T.o8 d8).1
      have g1:=(vals_getD (vs:=vs) (n:=48) (k:=38) (by decide)).trans (T.o7 d7).1
      have hb8:=(T.o8 d8).2.2
      rw [if_neg (by rw [hLi];simp)] at hb8
      have r0:=hb8.cell 0
      have r1:=hb8.frozen 0
      simp at r0
      have HB8:=hid hb8
      clear hb8
      clear hdep hi T d8 d7
      refine wpOp_step rfl fun K' hK=>?_
      go_simp
      have hk2:Kept (· = q8) w' (w'.setCell ⟨q8,0,none⟩ (.pointer (some ⟨y.rel,0,none⟩))):=(Kept.refl (· = q8) w').setCell (p:=⟨q8,0,none⟩) (fun _=>rfl) _
      have hq8:=(HT.out.o8 HD8.out).2.1
      have hrow:∀ k,(Value.slice VA l.length vc).ownBlock=some k→k<w3.drew.heap.size:=HROW.out
      have h6:L 6=true:=HT.out.c7 HD7.out
      refine hK _ _ ⟨vs,q33,q36,q8,y,S,rfl,?_⟩
      exact ⟨HT.out.bel.trans (hk2.below HNB.out (fun k hk e=>by have:k=q8:=e;have:=HB20.out;omega)),HT.out.v0,HT.out.v2,HT.out.v4,HT.out.v7,RdV.keptG HT.out.mem hk2 (fun b' o' h0 e=>fun e'=>by have:=hrow b' (by rw [e];rfl);have:b'=q8:=e';omega),fun e=>(by rw [if_neg (by decide),h6] at e;cases e),HT.out.o0,HT.out.o1,fun e=>⟨(HT.out.o2 e).1,(HT.out.o2 e).2.1,hk2.blk (HT.out.o2 e).2.2 (HT.out.n2 e HD8.out)⟩,HT.out.o3,HT.out.o4,fun e=>⟨(HT.out.o5 e).1,(HT.out.o5 e).2.1,hk2.blk (HT.out.o5 e).2.2 (HT.out.n5 e HD8.out)⟩,fun _ e=>(by rw [if_neg (by decide),HD7.out] at e;cases e),fun e=>⟨(HT.out.o7 HD7.out).1,(HT.out.o7 HD7.out).2.1.other hk2 (fun k hk e=>by have:k=q8:=e;subst this;exact ⟨HT.out.n8 HD7.out HD8.out,by have:=HB20.out;show B2≤_;omega⟩),(HT.out.o7 HD7.out).2.2⟩,fun _=>⟨(HT.out.o8 HD8.out).1,hq8,by show Blk _ _ _ (if (if (9:Nat)=9 then true else L 9)=true then _ else _);rw [if_pos (by rw [if_pos rfl])];exact HB8.out.set_ 0 _⟩,HT.out.n8,HT.out.n2,HT.out.n5,fun _=>⟨HD7.out,HD8.out⟩,HT.out.c7⟩
    case init=>exact ⟨_,0,0,0,⟨0,0,0,0,0,0,0,nilV,nilV,fun _=>nilV,fun _=>nilV,fun _=>nilV,fun _=>nilV,fun _ _=>nilV⟩,st0,congrArg (fun z=>(⟨z,[]⟩:Go.Act)) (vals_of _ (n:=48) (by rfl)),⟨Below.refl _ _,rfl,rfl,rfl,rfl,HRD.out,fun _=>HO3.out,fun h=>(no_rep h).elim,fun h=>(no_rep h).elim,fun h=>(no_rep h).elim,fun h=>(no_rep h).elim,fun h=>(no_rep h).elim,fun h=>(no_rep h).elim,fun h=>(no_rep h).elim,fun h=>(no_rep h).elim,fun h=>(no_rep h).elim,fun h=>(no_rep h).elim,fun h=>(no_rep h).elim,fun h=>(no_rep h).elim,fun h=>(no_rep h).elim,fun h=>(no_rep h).elim⟩⟩
    case done =>
     intro L a2 w5 hall hI
     obtain ⟨vs,q33,q36,q8,y,S,rfl,T⟩:=hI
     have L7:L 7=true:=hall 7 (by decide)
     have L8:L 8=true:=hall 8 (by decide)
     have L9:L 9=true:=hall 9 (by decide)
     obtain ⟨e38,hrel,hf⟩:=T.o7 L7
     obtain ⟨e8,-,hb8⟩:=T.o8 L8
     rw [if_pos L9] at hb8
     have hbel:=HB23.out.trans T.bel
     have HB5:=hid (HB2.out.trans (hbel.mono HHB.out))
     have HAB:Hid (Blk w5 ab 3 #[.int .i64 (a':Int)]):=hid (HBX2.out.below hbel hab)
     have HB8:=hid hb8
     have HMEM:=hid T.mem
     have HRELW:=hid hrel
     have HFF:=hid hf
     have e0:=T.v0
     have e2:=T.v2
     have e4:=T.v4
     have e7:=T.v7
     have hv:vals vs 48 = #[vs 0,vs 1,vs 2,vs 3,vs 4,vs 5,vs 6,vs 7,vs 8,vs 9,vs 10,vs 11,vs 12,vs 13,vs 14,vs 15,vs 16,vs 17,vs 18,vs 19,vs 20,vs 21,vs 22,vs 23,vs 24,vs 25,vs 26,vs 27,vs 28,vs 29,vs 30,vs 31,vs 32,vs 33,vs 34,vs 35,vs 36,vs 37,vs 38,vs 39,vs 40,vs 41,vs 42,vs 43,vs 44,vs 45,vs 46,vs 47]:=rfl
     rw [hv,e0,e2,e4,e7,e8]
     clear T hall hf hrel hb8 hbel e0 e2 e4 e7 e8 e38 hv L7 L8 L9 HREL HO3 HROW HB20 HRD z3 HB23 hab
     have c8:=HB8.out.cell 0
     have c4:=HAB.out.cell 0
     simp at c8 c4
     have H1:=holds_any ⟨g,some ⟨gb,go_,none⟩,c,false,B2⟩ y S a' b' _ w5 HRELW.out rfl HAL.out HBL.out (HFF.out.2.2.2.1 a' b' HFF.out.2.1)
     obtain ⟨v,hv⟩:∃ v,decide (S.q.cnt (a',b')≠0)=v:=⟨_,rfl⟩
     rw [hv] at H1
     have HV:Hid (v=true↔Gr g false a' b'):=hid (by rw [← hv,decide_eq_true_eq];exact HFF.out.2.2.2.2.1 a' b' HFF.out.2.1)
     clear hv
     go_wp2_with fail
     refine H1.mono ?_
     rintro r w6 ⟨rfl,hb6⟩
     have HB6:=hid (HB5.out.trans (hb6.mono HB5.out.size))
     have HAB6:=hid (HAB.out.below hb6 HAB.out.lt)
     have HB86:=hid (HB8.out.below hb6 HB8.out.lt)
     have HMEM6:=hid (HMEM.out.below hb6)
     have HREL6:=hid (HRELW.out.same hb6)
     clear H1 hb6 c8 c4
     cases v
     ·go_wp2_with fail
      go_returns
      exact ⟨-2,rfl,PickIs.no (fun h=>by have:=HV.out.2 (by simpa using h.2.2.2.2);cases this),HB6.out⟩
     ·have K1:=index_pick (.pointer (some ⟨q8,0,none⟩)) (.pointer (some ⟨ab,0,none⟩)) (fun t=>S.q.asm (a',t.toNat)) VA vc l w6 (by have:=HLL.out;omega) HMEM6.out (fun t wr' htm hbr=>by
       rw [HML.out] at htm
       obtain ⟨t',ht',rfl⟩:=List.mem_map.1 htm
       have htl:=HF.out.mem_lt HBL.out ht'
       have hgl:=HF.out.len
       have e2:(nI t').toNat=t':=by unfold nI;omega
       rw [e2]
       exact pick_item _ y S _ a' t' q8 ab wr' (HREL6.out.same hbr) rfl (by have:=HAL.out;omega) (by omega) (HB86.out.below hbr HB86.out.lt) (HAB6.out.below hbr HAB6.out.lt))
      have HPK:Hid (PickIs g (a':Int) (b':Int) (idxI (fun t=>S.q.asm (a',t.toNat)) l)):=hid ⟨fun _=>⟨fun t=>S.q.asm (a',t.toNat),fun t ht=>by
       rw [HLM.out,HML.out] at ht
       obtain ⟨t',ht',rfl⟩:=List.mem_map.1 ht
       have e2:(nI t').toNat=t':=by unfold nI;omega
       show S.q.asm (a',(nI t').toNat)=true↔Does g false (Gr g false) a' (nI t').toNat
       rw [e2]
       exact HFF.out.2.2.2.2.2 a' t' (by have:=HFF.out.1 (nI t') (by rw [HML.out];exact List.mem_map.2 ⟨t',ht',rfl⟩);rw [e2] at this;exact this) H8.out (HF.out.mem_kind HBL.out ht'),by rw [HLM.out]⟩,fun h=>absurd ⟨HC.out,by rw [HN.out];exact HE.out.1,by rw [HN.out];exact HE.out.2,by simpa using H8.out,by simpa using HV.out.1 rfl⟩ h⟩
      generalize idxI (fun t=>S.q.asm (a',t.toNat)) l=kk at K1 HPK
      go_wp2_with fail
      refine K1.mono ?_
      rintro r w7 ⟨rfl,hb7⟩
      have HB7:=hid (HB6.out.trans (hb7.mono HB6.out.size))
      clear K1 hb7
      go_wp2_with fail
      go_returns
      exact ⟨kk,rfl,HPK.out,HB7.out⟩
 ·have hc1:(((checkG g:Nat):Int) != 0)=true:=by simp;omega
  have HC:=hid hc
  clear hc
  go_wp2_with fail
  go_returns
  exact ⟨-2,rfl,PickIs.no (fun h=>HC.out h.1),HB1.out⟩
end SM
end
section
open Go.RowKit
namespace SM
open CM (nd kids)
def oneK (g:List Gi) (st:Bool) (u:Nat→Nat→Bool) (s b k:Nat):Bool:=(decide ((nd g s).kind=9) && u (bnd g s) b) || ((mem g b).take k).any fun t=>doesB g st u s t
theorem oneK_succ {g:List Gi} {st:Bool} {u:Nat→Nat→Bool} {s b k t:Nat} (h:(mem g b)[k]? = some t):oneK g st u s b (k+1)=(oneK g st u s b k || doesB g st u s t):=by
 unfold oneK
 rw [List.take_add_one,h,List.any_append,← Bool.or_assoc]
 simp
theorem oneK_full {g:List Gi} {st:Bool} {u:Nat→Nat→Bool} {s b:Nat}:oneK g st u s b (mem g b).length=oneB g st u s b:=by
 unfold oneK oneB
 rw [List.take_length,Bool.or_comm]
theorem holds_all {g:List Gi} {st:Bool} {u:Nat→Nat→Bool} {a b:Nat} (h:∀ (i s:Nat),(mem g a)[i]? = some s→oneB g st u s b=true):holdsB g st u a b=true:=by
 unfold holdsB
 rw [List.all_eq_true]
 intro s hs
 obtain ⟨i,hi⟩:=List.getElem?_of_mem hs
 exact h i s hi
theorem holds_no {g:List Gi} {st:Bool} {u:Nat→Nat→Bool} {a b i s:Nat} (hs:(mem g a)[i]? = some s) (h:oneB g st u s b=false):holdsB g st u a b=false:=by
 cases e:holdsB g st u a b
 ·rfl
 ·unfold holdsB at e
  rw [List.all_eq_true] at e
  rw [e s (List.mem_of_getElem? hs)] at h;cases h
theorem mem_len {g:List Gi} (hf:Fine g) {b:Nat} (hb:b<g.length):(mem g b).length≤2000:=by
 have:=nodup_sub_len (hf.mem_nodup hb) (m:=List.range g.length) fun c hc=>List.mem_range.2 (hf.mem_lt hb hc)
 rw [List.length_range] at this
 have:=hf.len
 omega
theorem memI_at {g:List Gi} (hf:Fine g) {b:Nat} (hb:b<g.length) {i t:Nat} (h:(mem g b)[i]? = some t):(memI g (b:Int))[i]? = some ((t:Nat):Int):=by
 rw [memI_mem hf hb,List.getElem?_map,h];rfl
end SM
end
section
open Lib (hid)
open Go.RowKit
namespace SM
open CM (nd kids)
def recKeys (n:Nat):List ByteArray:=[ka,kb_,kc].take n
set_option maxRecDepth 100000 in
set_option maxHeartbeats 4000000 in
theorem rec_any (PA:Option Addr) (n pc:Nat) (w:World) (hn:n≤3) :
  Calls Tryz.prog 25 #[.slice PA n pc] w fun r w'=>∃ VA,r = .returned (.agg #[.int .i64 7,.int .i64 0,.string ⟨#[]⟩,.slice VA n 3,.slice PA n pc])∧RdV w' VA ((recKeys n).flatMap sC)∧Below w.heap.size w w':=by
 go_enter Tryz.func25,Tryz.ntmps25
 go_wp2_with fail
 have h1:=(Blk.new w 42 #[.int .i64 7,.int .i64 0,.string ⟨#[]⟩,.slice (some ⟨w.heap.size+1,0,none⟩) n 3,.slice PA n pc]).alloc (.cells #[.string ⟨#[97]⟩,.string ⟨#[98]⟩,.string ⟨#[99]⟩] 9)
 have h2:=Blk.new (w.alloc (.cells #[.int .i64 7,.int .i64 0,.string ⟨#[]⟩,.slice (some ⟨w.heap.size+1,0,none⟩) n 3,.slice PA n pc] 42)) 9 #[.string ⟨#[97]⟩,.string ⟨#[98]⟩,.string ⟨#[99]⟩]
 have hsz:(w.alloc (.cells #[.int .i64 7,.int .i64 0,.string ⟨#[]⟩,.slice (some ⟨w.heap.size+1,0,none⟩) n 3,.slice PA n pc] 42)).heap.size=w.heap.size+1:=Array.size_push _
 rw [hsz] at h2
 have hb:=(one_boxS w (.cells #[.int .i64 7,.int .i64 0,.string ⟨#[]⟩,.slice (some ⟨w.heap.size+1,0,none⟩) n 3,.slice PA n pc] 42)).alloc (by rw [hsz];exact Nat.le_succ _) (.cells #[.string ⟨#[97]⟩,.string ⟨#[98]⟩,.string ⟨#[99]⟩] 9)
 generalize (w.alloc (.cells #[.int .i64 7,.int .i64 0,.string ⟨#[]⟩,.slice (some ⟨w.heap.size+1,0,none⟩) n 3,.slice PA n pc] 42)).alloc (.cells #[.string ⟨#[97]⟩,.string ⟨#[98]⟩,.string ⟨#[99]⟩] 9)=w1 at h1 h2 hb ⊢
 have z0:=h1.cell 0
 have z1:=h1.cell 1
 have z2:=h1.cell 2
 have z3:=h1.cell 3
 have z4:=h1.cell 4
 simp at z0 z1 z2 z3 z4
 refine bodyPost_ret (v := .agg #[.int .i64 7,.int .i64 0,.string ⟨#[]⟩,.slice (some ⟨w.heap.size+1,0,none⟩) n 3,.slice PA n pc]) (by simp [results,Tryz.results25,go_sem,z0,z1,z2,z3,z4]) rfl ?_
 refine ⟨_,rfl,rd_blk h2 fun j v hj=>?_,hb⟩
 have hj2:(recKeys n).flatMap sC=[Value.string ⟨#[97]⟩,.string ⟨#[98]⟩,.string ⟨#[99]⟩].take n:=by
  unfold recKeys
  rcases Nat.lt_or_ge n 1 with h | h
  ·rw [show n=0 by omega];rfl
  ·rcases Nat.lt_or_ge n 2 with h | h
   ·rw [show n=1 by omega];rfl
   ·rcases Nat.lt_or_ge n 3 with h | h
    ·rw [show n=2 by omega];rfl
    ·rw [show n=3 by omega];rfl
 rw [hj2,List.getElem?_take] at hj
 split at hj
 ·rw [← List.getElem?_toArray] at hj;exact hj
 ·cases hj
theorem rd_ints {w:World} {g:Nat} {t:TypeId} {l:List Int} (h:Blk w g t (l.map fun x=>Value.int .i64 x).toArray):RdV w (some ⟨g,0,none⟩) (l.flatMap iC):=rd_blk h fun j v hj=>by
 rw [iC_flat] at hj;rw [List.getElem?_toArray];exact hj
theorem gn_of {w:World} {b o:Nat} {x:Gi} {VA PA:Option Addr} {vc pc:Nat} (hc:∀ (k:Nat) u,[Value.int .i64 x.kind,.int .i64 x.num,.string x.nm,.slice VA x.keys.length vc,.slice PA x.l.length pc][k]? = some u→w.cell? ⟨b,o+k,none⟩=some u)
  (h1:RdV w VA (x.keys.flatMap sC)) (h2:RdV w PA (x.l.flatMap iC)) (l1:x.keys.length≤vc) (l2:x.l.length≤pc) (m1:(x.keys.length:Int)≤9223372036854775807) (m2:(x.l.length:Int)≤9223372036854775807):GnR w b o x:=
 ⟨VA,vc,PA,pc,hc 0 _ rfl,hc 1 _ rfl,hc 2 _ rfl,hc 3 _ rfl,hc 4 _ rfl,h1,h2,m1,m2,l1,l2⟩
theorem rd_nil (w:World) (A:Option Addr):RdV w A []:=fun h=>by simp at h
set_option maxRecDepth 100000 in
set_option maxHeartbeats 16000000 in
theorem chapter_any (w:World) :
  Calls Tryz.prog 24 #[] w fun r w'=>∃ A,r = .returned (.slice A 11 11)∧GsR w' A chG∧Below w.heap.size w w':=by
 obtain ⟨w0,hw0⟩:∃ w0,w0=w:=⟨_,rfl⟩
 have HB0:Hid (Below w.heap.size w w0):=hid (by rw [hw0];exact Below.refl _ _)
 rw [← hw0]
 have HW0:=hid hw0
 clear hw0
 go_enter Tryz.func24,Tryz.ntmps24
 go_wp2_with fail
 have n0_0:=Blk.new w0 3 #[.int .i64 0]
 have y0:=one_boxS w0 (.cells #[.int .i64 0] 3)
 have C0:=rec_any (some ⟨w0.heap.size,0,none⟩) 1 1 (w0.alloc (.cells #[.int .i64 0] 3)) (by decide)
 refine C0.mono ?_
 rintro r w1 ⟨V0,rfl,hv0,hb0⟩
 have R0_0:=hid (n0_0.below hb0 n0_0.lt)
 have V_0:=hid hv0
 have B_0:=hid (y0.trans (hb0.mono y0.size))
 clear C0 hv0 hb0 y0 n0_0
 go_wp2_with fail
 have n1_0:=Blk.new w1 3 #[.int .i64 0,.int .i64 1]
 have y1:=one_boxS w1 (.cells #[.int .i64 0,.int .i64 1] 3)
 have C1:=rec_any (some ⟨w1.heap.size,0,none⟩) 2 2 (w1.alloc (.cells #[.int .i64 0,.int .i64 1] 3)) (by decide)
 refine C1.mono ?_
 rintro r w2 ⟨V1,rfl,hv1,hb1⟩
 have R1_0:=hid (n1_0.below hb1 n1_0.lt)
 have V_1:=hid hv1
 have B_1:=hid (y1.trans (hb1.mono y1.size))
 clear C1 hv1 hb1 y1 n1_0
 go_wp2_with fail
 have n2_0:=Blk.new w2 3 #[.int .i64 0,.int .i64 1]
 have n2_1:=Blk.new (w2.alloc (.cells #[.int .i64 0,.int .i64 1] 3)) 3 #[.int .i64 5]
 have hs2:(w2.alloc (.cells #[.int .i64 0,.int .i64 1] 3)).heap.size=w2.heap.size+1:=Array.size_push _
 rw [hs2] at n2_1
 replace n2_0:=n2_0.alloc (.cells #[.int .i64 5] 3)
 have y2:=(one_boxS w2 (.cells #[.int .i64 0,.int .i64 1] 3)).alloc (by rw [hs2];exact Nat.le_succ _) (.cells #[.int .i64 5] 3)
 have C2:=rec_any (some ⟨w2.heap.size+1,0,none⟩) 1 1 ((w2.alloc (.cells #[.int .i64 0,.int .i64 1] 3)).alloc (.cells #[.int .i64 5] 3)) (by decide)
 refine C2.mono ?_
 rintro r w3 ⟨V2,rfl,hv2,hb2⟩
 have R2_0:=hid (n2_0.below hb2 n2_0.lt)
 have R2_1:=hid (n2_1.below hb2 n2_1.lt)
 have V_2:=hid hv2
 have B_2:=hid (y2.trans (hb2.mono y2.size))
 clear C2 hv2 hb2 y2 n2_0 n2_1 hs2
 go_wp2_with fail
 have n3_0:=Blk.new w3 3 #[.int .i64 3]
 have n3_1:=Blk.new (w3.alloc (.cells #[.int .i64 3] 3)) 3 #[.int .i64 8]
 have hs3:(w3.alloc (.cells #[.int .i64 3] 3)).heap.size=w3.heap.size+1:=Array.size_push _
 rw [hs3] at n3_1
 replace n3_0:=n3_0.alloc (.cells #[.int .i64 8] 3)
 have y3:=(one_boxS w3 (.cells #[.int .i64 3] 3)).alloc (by rw [hs3];exact Nat.le_succ _) (.cells #[.int .i64 8] 3)
 have C3:=rec_any (some ⟨w3.heap.size+1,0,none⟩) 1 1 ((w3.alloc (.cells #[.int .i64 3] 3)).alloc (.cells #[.int .i64 8] 3)) (by decide)
 refine C3.mono ?_
 rintro r w4 ⟨V3,rfl,hv3,hb3⟩
 have R3_0:=hid (n3_0.below hb3 n3_0.lt)
 have R3_1:=hid (n3_1.below hb3 n3_1.lt)
 have V_3:=hid hv3
 have B_3:=hid (y3.trans (hb3.mono y3.size))
 clear C3 hv3 hb3 y3 n3_0 n3_1 hs3
 go_wp2_with fail
 have n4_0:=Blk.new w4 3 #[.int .i64 10]
 have y4:=one_boxS w4 (.cells #[.int .i64 10] 3)
 have C4:=rec_any (some ⟨w4.heap.size,0,none⟩) 1 1 (w4.alloc (.cells #[.int .i64 10] 3)) (by decide)
 refine C4.mono ?_
 rintro r w5 ⟨V4,rfl,hv4,hb4⟩
 have R4_0:=hid (n4_0.below hb4 n4_0.lt)
 have V_4:=hid hv4
 have B_4:=hid (y4.trans (hb4.mono y4.size))
 clear C4 hv4 hb4 y4 n4_0
 go_wp2_with fail
 have n5_0:=Blk.new w5 3 #[.int .i64 9,.int .i64 0]
 have y5:=one_boxS w5 (.cells #[.int .i64 9,.int .i64 0] 3)
 have C5:=rec_any (some ⟨w5.heap.size,0,none⟩) 2 2 (w5.alloc (.cells #[.int .i64 9,.int .i64 0] 3)) (by decide)
 refine C5.mono ?_
 rintro r w6 ⟨V5,rfl,hv5,hb5⟩
 have R5_0:=hid (n5_0.below hb5 n5_0.lt)
 have V_5:=hid hv5
 have B_5:=hid (y5.trans (hb5.mono y5.size))
 clear C5 hv5 hb5 y5 n5_0
 go_wp2_with fail
 have hB:=Blk.new w6 42 #[.int .i64 4,.int .i64 0,.string ⟨#[]⟩,.slice none 0 0,.slice none 0 0,.int .i64 2,.int .i64 0,.string ⟨#[]⟩,.slice none 0 0,.slice none 0 0,.int .i64 1,.int .i64 0,.string ⟨#[]⟩,.slice none 0 0,.slice none 0 0,.int .i64 7,.int .i64 0,.string ⟨#[]⟩,.slice V0 1 3,.slice (some ⟨w0.heap.size,0,none⟩) 1 1,.int .i64 7,.int .i64 0,.string ⟨#[]⟩,.slice V1 2 3,.slice (some ⟨w1.heap.size,0,none⟩) 2 2,.int .i64 8,.int .i64 0,.string ⟨#[]⟩,.slice none 0 0,.slice (some ⟨w2.heap.size,0,none⟩) 2 2,.int .i64 7,.int .i64 0,.string ⟨#[]⟩,.slice V2 1 3,.slice (some ⟨w2.heap.size+1,0,none⟩) 1 1,.int .i64 9,.int .i64 0,.string ⟨#[]⟩,.slice none 0 0,.slice (some ⟨w3.heap.size,0,none⟩) 1 1,.int .i64 7,.int .i64 0,.string ⟨#[]⟩,.slice V3 1 3,.slice (some ⟨w3.heap.size+1,0,none⟩) 1 1,.int .i64 7,.int .i64 0,.string ⟨#[]⟩,.slice V4 1 3,.slice (some ⟨w4.heap.size,0,none⟩) 1 1,.int .i64 7,.int .i64 0,.string ⟨#[]⟩,.slice V5 2 3,.slice (some ⟨w5.heap.size,0,none⟩) 2 2]
 have hbe:=one_boxS w6 (.cells #[.int .i64 4,.int .i64 0,.string ⟨#[]⟩,.slice none 0 0,.slice none 0 0,.int .i64 2,.int .i64 0,.string ⟨#[]⟩,.slice none 0 0,.slice none 0 0,.int .i64 1,.int .i64 0,.string ⟨#[]⟩,.slice none 0 0,.slice none 0 0,.int .i64 7,.int .i64 0,.string ⟨#[]⟩,.slice V0 1 3,.slice (some ⟨w0.heap.size,0,none⟩) 1 1,.int .i64 7,.int .i64 0,.string ⟨#[]⟩,.slice V1 2 3,.slice (some ⟨w1.heap.size,0,none⟩) 2 2,.int .i64 8,.int .i64 0,.string ⟨#[]⟩,.slice none 0 0,.slice (some ⟨w2.heap.size,0,none⟩) 2 2,.int .i64 7,.int .i64 0,.string ⟨#[]⟩,.slice V2 1 3,.slice (some ⟨w2.heap.size+1,0,none⟩) 1 1,.int .i64 9,.int .i64 0,.string ⟨#[]⟩,.slice none 0 0,.slice (some ⟨w3.heap.size,0,none⟩) 1 1,.int .i64 7,.int .i64 0,.string ⟨#[]⟩,.slice V3 1 3,.slice (some ⟨w3.heap.size+1,0,none⟩) 1 1,.int .i64 7,.int .i64 0,.string ⟨#[]⟩,.slice V4 1 3,.slice (some ⟨w4.heap.size,0,none⟩) 1 1,.int .i64 7,.int .i64 0,.string ⟨#[]⟩,.slice V5 2 3,.slice (some ⟨w5.heap.size,0,none⟩) 2 2] 42)
 obtain ⟨bb,hbb⟩:∃ bb,w6.heap.size=bb:=⟨_,rfl⟩
 rw [hbb] at hB ⊢
 generalize w6.alloc (.cells #[.int .i64 4,.int .i64 0,.string ⟨#[]⟩,.slice none 0 0,.slice none 0 0,.int .i64 2,.int .i64 0,.string ⟨#[]⟩,.slice none 0 0,.slice none 0 0,.int .i64 1,.int .i64 0,.string ⟨#[]⟩,.slice none 0 0,.slice none 0 0,.int .i64 7,.int .i64 0,.string ⟨#[]⟩,.slice V0 1 3,.slice (some ⟨w0.heap.size,0,none⟩) 1 1,.int .i64 7,.int .i64 0,.string ⟨#[]⟩,.slice V1 2 3,.slice (some ⟨w1.heap.size,0,none⟩) 2 2,.int .i64 8,.int .i64 0,.string ⟨#[]⟩,.slice none 0 0,.slice (some ⟨w2.heap.size,0,none⟩) 2 2,.int .i64 7,.int .i64 0,.string ⟨#[]⟩,.slice V2 1 3,.slice (some ⟨w2.heap.size+1,0,none⟩) 1 1,.int .i64 9,.int .i64 0,.string ⟨#[]⟩,.slice none 0 0,.slice (some ⟨w3.heap.size,0,none⟩) 1 1,.int .i64 7,.int .i64 0,.string ⟨#[]⟩,.slice V3 1 3,.slice (some ⟨w3.heap.size+1,0,none⟩) 1 1,.int .i64 7,.int .i64 0,.string ⟨#[]⟩,.slice V4 1 3,.slice (some ⟨w4.heap.size,0,none⟩) 1 1,.int .i64 7,.int .i64 0,.string ⟨#[]⟩,.slice V5 2 3,.slice (some ⟨w5.heap.size,0,none⟩) 2 2] 42)=w7 at hB hbe ⊢
 have c6:=hbe
 have c5:=B_5.out.trans (c6.mono B_5.out.size)
 have c4:=B_4.out.trans (c5.mono B_4.out.size)
 have c3:=B_3.out.trans (c4.mono B_3.out.size)
 have c2:=B_2.out.trans (c3.mono B_2.out.size)
 have c1:=B_1.out.trans (c2.mono B_1.out.size)
 have c0:=B_0.out.trans (c1.mono B_0.out.size)
 have q0_0:RdV w7 (some ⟨w0.heap.size,0,none⟩) ([(0:Int)].flatMap iC):=(rd_ints (l:=[(0:Int)]) R0_0.out).below c1
 have v0:=V_0.out.below c1
 have q1_0:RdV w7 (some ⟨w1.heap.size,0,none⟩) ([(0:Int),(1:Int)].flatMap iC):=(rd_ints (l:=[(0:Int),(1:Int)]) R1_0.out).below c2
 have v1:=V_1.out.below c2
 have q2_0:RdV w7 (some ⟨w2.heap.size,0,none⟩) ([(0:Int),(1:Int)].flatMap iC):=(rd_ints (l:=[(0:Int),(1:Int)]) R2_0.out).below c3
 have q2_1:RdV w7 (some ⟨w2.heap.size+1,0,none⟩) ([(5:Int)].flatMap iC):=(rd_ints (l:=[(5:Int)]) R2_1.out).below c3
 have v2:=V_2.out.below c3
 have q3_0:RdV w7 (some ⟨w3.heap.size,0,none⟩) ([(3:Int)].flatMap iC):=(rd_ints (l:=[(3:Int)]) R3_0.out).below c4
 have q3_1:RdV w7 (some ⟨w3.heap.size+1,0,none⟩) ([(8:Int)].flatMap iC):=(rd_ints (l:=[(8:Int)]) R3_1.out).below c4
 have v3:=V_3.out.below c4
 have q4_0:RdV w7 (some ⟨w4.heap.size,0,none⟩) ([(10:Int)].flatMap iC):=(rd_ints (l:=[(10:Int)]) R4_0.out).below c5
 have v4:=V_4.out.below c5
 have q5_0:RdV w7 (some ⟨w5.heap.size,0,none⟩) ([(9:Int),(0:Int)].flatMap iC):=(rd_ints (l:=[(9:Int),(0:Int)]) R5_0.out).below c6
 have v5:=V_5.out.below c6
 have hG:GsR w7 (some ⟨bb,0,none⟩) chG:=fun _=>⟨bb,0,rfl,fun i x hx=>by
  rw [Nat.zero_add]
  have hil:i<11:=(List.getElem?_eq_some_iff.1 hx).1
  have hcs:i=0∨i=1∨i=2∨i=3∨i=4∨i=5∨i=6∨i=7∨i=8∨i=9∨i=10:=by omega
  rcases hcs with rfl | rfl | rfl | rfl | rfl | rfl | rfl | rfl | rfl | rfl | rfl
  ·injection hx with hx
   subst hx
   refine gn_of (VA:=none) (PA:=none) (vc:=0) (pc:=0) (fun k u hu=>?_) (rd_nil _ _) (rd_nil _ _) (by decide) (by decide) (by decide) (by decide)
   rw [hB.cell]
   match k,hu with
   | 0,hu=>exact hu
   | 1,hu=>exact hu
   | 2,hu=>exact hu
   | 3,hu=>exact hu
   | 4,hu=>exact hu
   | k+5,hu=>cases hu
  ·injection hx with hx
   subst hx
   refine gn_of (VA:=none) (PA:=none) (vc:=0) (pc:=0) (fun k u hu=>?_) (rd_nil _ _) (rd_nil _ _) (by decide) (by decide) (by decide) (by decide)
   rw [hB.cell]
   match k,hu with
   | 0,hu=>exact hu
   | 1,hu=>exact hu
   | 2,hu=>exact hu
   | 3,hu=>exact hu
   | 4,hu=>exact hu
   | k+5,hu=>cases hu
  ·injection hx with hx
   subst hx
   refine gn_of (VA:=none) (PA:=none) (vc:=0) (pc:=0) (fun k u hu=>?_) (rd_nil _ _) (rd_nil _ _) (by decide) (by decide) (by decide) (by decide)
   rw [hB.cell]
   match k,hu with
   | 0,hu=>exact hu
   | 1,hu=>exact hu
   | 2,hu=>exact hu
   | 3,hu=>exact hu
   | 4,hu=>exact hu
   | k+5,hu=>cases hu
  ·injection hx with hx
   subst hx
   refine gn_of (VA:=V0) (PA:=some ⟨w0.heap.size,0,none⟩) (vc:=3) (pc:=1) (fun k u hu=>?_) (v0) (q0_0) (by decide) (by decide) (by decide) (by decide)
   rw [hB.cell]
   match k,hu with
   | 0,hu=>exact hu
   | 1,hu=>exact hu
   | 2,hu=>exact hu
   | 3,hu=>exact hu
   | 4,hu=>exact hu
   | k+5,hu=>cases hu
  ·injection hx with hx
   subst hx
   refine gn_of (VA:=V1) (PA:=some ⟨w1.heap.size,0,none⟩) (vc:=3) (pc:=2) (fun k u hu=>?_) (v1) (q1_0) (by decide) (by decide) (by decide) (by decide)
   rw [hB.cell]
   match k,hu with
   | 0,hu=>exact hu
   | 1,hu=>exact hu
   | 2,hu=>exact hu
   | 3,hu=>exact hu
   | 4,hu=>exact hu
   | k+5,hu=>cases hu
  ·injection hx with hx
   subst hx
   refine gn_of (VA:=none) (PA:=some ⟨w2.heap.size,0,none⟩) (vc:=0) (pc:=2) (fun k u hu=>?_) (rd_nil _ _) (q2_0) (by decide) (by decide) (by decide) (by decide)
   rw [hB.cell]
   match k,hu with
   | 0,hu=>exact hu
   | 1,hu=>exact hu
   | 2,hu=>exact hu
   | 3,hu=>exact hu
   | 4,hu=>exact hu
   | k+5,hu=>cases hu
  ·injection hx with hx
   subst hx
   refine gn_of (VA:=V2) (PA:=some ⟨w2.heap.size+1,0,none⟩) (vc:=3) (pc:=1) (fun k u hu=>?_) (v2) (q2_1) (by decide) (by decide) (by decide) (by decide)
   rw [hB.cell]
   match k,hu with
   | 0,hu=>exact hu
   | 1,hu=>exact hu
   | 2,hu=>exact hu
   | 3,hu=>exact hu
   | 4,hu=>exact hu
   | k+5,hu=>cases hu
  ·injection hx with hx
   subst hx
   refine gn_of (VA:=none) (PA:=some ⟨w3.heap.size,0,none⟩) (vc:=0) (pc:=1) (fun k u hu=>?_) (rd_nil _ _) (q3_0) (by decide) (by decide) (by decide) (by decide)
   rw [hB.cell]
   match k,hu with
   | 0,hu=>exact hu
   | 1,hu=>exact hu
   | 2,hu=>exact hu
   | 3,hu=>exact hu
   | 4,hu=>exact hu
   | k+5,hu=>cases hu
  ·injection hx with hx
   subst hx
   refine gn_of (VA:=V3) (PA:=some ⟨w3.heap.size+1,0,none⟩) (vc:=3) (pc:=1) (fun k u hu=>?_) (v3) (q3_1) (by decide) (by decide) (by decide) (by decide)
   rw [hB.cell]
   match k,hu with
   | 0,hu=>exact hu
   | 1,hu=>exact hu
   | 2,hu=>exact hu
   | 3,hu=>exact hu
   | 4,hu=>exact hu
   | k+5,hu=>cases hu
  ·injection hx with hx
   subst hx
   refine gn_of (VA:=V4) (PA:=some ⟨w4.heap.size,0,none⟩) (vc:=3) (pc:=1) (fun k u hu=>?_) (v4) (q4_0) (by decide) (by decide) (by decide) (by decide)
   rw [hB.cell]
   match k,hu with
   | 0,hu=>exact hu
   | 1,hu=>exact hu
   | 2,hu=>exact hu
   | 3,hu=>exact hu
   | 4,hu=>exact hu
   | k+5,hu=>cases hu
  ·injection hx with hx
   subst hx
   refine gn_of (VA:=V5) (PA:=some ⟨w5.heap.size,0,none⟩) (vc:=3) (pc:=2) (fun k u hu=>?_) (v5) (q5_0) (by decide) (by decide) (by decide) (by decide)
   rw [hB.cell]
   match k,hu with
   | 0,hu=>exact hu
   | 1,hu=>exact hu
   | 2,hu=>exact hu
   | 3,hu=>exact hu
   | 4,hu=>exact hu
   | k+5,hu=>cases hu
 ⟩
 have HG:=hid hG
 have HBF:=hid (HB0.out.trans (c0.mono HB0.out.size))
 clear hB hbe hbb hG c0 c1 c2 c3 c4 c5 c6 q0_0 q1_0 q2_0 q2_1 q3_0 q3_1 q4_0 q5_0 v0 v1 v2 v3 v4 v5
 go_wp2_with fail
 go_returns
 exact ⟨_,rfl,HG.out,by rw [HW0.out];exact HBF.out⟩
end SM
end
section
open Lib (hid)
open Go.RowKit
namespace SM
open CM (nd kids)
theorem ch_texts:Texts chG:=of_decide_eq_true (p:=∀ x∈chG,x.nm.size≤maxLen∧∀ s∈x.keys,s.size≤maxLen) (by kernel_rfl)
theorem ch_bel {st:Bool} {x y:Int} {a b:Nat} {v u:Bool} (h:Bel chG st x y v) (hx:x=(a:Int)) (hy:y=(b:Int)) (ha:a<11) (hb:b<11) (hu:isIn (chL st) a b=u):v=u:=by
 subst hx hy
 refine h.eq ?_
 rw [← hu,← ch_gr st ha hb]
 constructor
 ·intro hg
  exact ⟨ch_ok,exI_iff.2 (by have:chG.length=11:=rfl;omega),exI_iff.2 (by have:chG.length=11:=rfl;omega),by simpa using hg⟩
 ·intro hg
  simpa using hg.2.2.2
theorem ch_may_any (A:Option Addr) (x y:Int) (a b:Nat) (u:Bool) (w:World) (h:GsR w A chG) (hk:Gnd w) (hx:x=(a:Int)) (hy:y=(b:Int)) (ha:a<11) (hb:b<11) (hu:isIn (chL false) a b=u) :
  Calls Tryz.prog 12 #[.slice A 11 11,.int .i64 x,.int .i64 y] w fun r w'=>r = .returned (.bool u)∧Below w.heap.size w w':=by
 refine (May_any chG A 11 x y w h hk (by decide) ch_texts).mono ?_
 rintro r w' ⟨v,rfl,hv,hb'⟩
 rw [ch_bel hv hx hy ha hb hu]
 exact ⟨rfl,hb'⟩
theorem ch_strict_any (A:Option Addr) (x y:Int) (a b:Nat) (u:Bool) (w:World) (h:GsR w A chG) (hk:Gnd w) (hx:x=(a:Int)) (hy:y=(b:Int)) (ha:a<11) (hb:b<11) (hu:isIn (chL true) a b=u) :
  Calls Tryz.prog 14 #[.slice A 11 11,.int .i64 x,.int .i64 y] w fun r w'=>r = .returned (.bool u)∧Below w.heap.size w w':=by
 refine (Strict_any chG A 11 x y w h hk (by decide) ch_texts).mono ?_
 rintro r w' ⟨v,rfl,hv,hb'⟩
 rw [ch_bel hv hx hy ha hb hu]
 exact ⟨rfl,hb'⟩
def chDoes (a:Nat) (t:Nat):Bool:=doesB chG false (isIn (chL false)) a t
theorem ch_does {a t:Nat} (ha:a<11) (ht:t<11):Does chG false (Gr chG false) a t↔chDoes a t=true:=by
 unfold chDoes
 rw [doesB_iff]
 constructor
 ·intro h
  have hh:Holds chG false (Gr chG false) a a→True:=fun _=>trivial
  unfold Does at h ⊢
  split
  ·rename_i hc;rwa [if_pos hc] at h
  ·rename_i hc
   rw [if_neg hc] at h
   refine ⟨h.1,?_⟩
   rcases h.2 with h2 | h2 | ⟨h9,hn,hr⟩ | ⟨h7,hfl⟩
   ·exact .inl h2
   ·exact .inr (.inl h2)
   ·exact .inr (.inr (.inl ⟨h9,hn,(ch_gr false (ch_fine.bnd_lt ha h9) (ch_fine.bnd_lt ht (by omega))).1 hr⟩))
   ·refine .inr (.inr (.inr ⟨h7,fun i hi=>?_⟩))
    obtain ⟨j,hj,e,hr⟩:=hfl i hi
    exact ⟨j,hj,e,(ch_gr false (ch_fine.kid a ha _ (getD_mem (by rw [kids_len,← (ch_fine.recd a ha h7).1];exact hj))) (ch_fine.kid t ht _ (getD_mem (by rw [kids_len,← (ch_fine.recd t ht (by omega)).1];exact hi)))).1 hr⟩
 ·intro h
  unfold Does at h ⊢
  split
  ·rename_i hc;rwa [if_pos hc] at h
  ·rename_i hc
   rw [if_neg hc] at h
   refine ⟨h.1,?_⟩
   rcases h.2 with h2 | h2 | ⟨h9,hn,hr⟩ | ⟨h7,hfl⟩
   ·exact .inl h2
   ·exact .inr (.inl h2)
   ·exact .inr (.inr (.inl ⟨h9,hn,(ch_gr false (ch_fine.bnd_lt ha h9) (ch_fine.bnd_lt ht (by omega))).2 hr⟩))
   ·refine .inr (.inr (.inr ⟨h7,fun i hi=>?_⟩))
    obtain ⟨j,hj,e,hr⟩:=hfl i hi
    exact ⟨j,hj,e,(ch_gr false (ch_fine.kid a ha _ (getD_mem (by rw [kids_len,← (ch_fine.recd a ha h7).1];exact hj))) (ch_fine.kid t ht _ (getD_mem (by rw [kids_len,← (ch_fine.recd t ht (by omega)).1];exact hi)))).2 hr⟩
theorem idxI_congr {p q:Int→Bool}:∀ {l:List Int},(∀ t∈l,p t=q t)→idxI p l=idxI q l:=fun {l} h=>by
 unfold idxI
 have:l.findIdx? p=l.findIdx? q:=by
  induction l with
  | nil=>rfl
  | cons x l ih =>
   rw [List.findIdx?_cons,List.findIdx?_cons,h x (List.mem_cons_self ..),ih (fun t ht=>h t (List.mem_cons_of_mem _ ht))]
 rw [this]
theorem ch_pick {a b:Nat} {k:Int} (ha:a<11) (hb:b<11) (h:PickIs chG (a:Int) (b:Int) k) (h8:(nd chG a).kind≠8) (hg:isIn (chL false) a b=true):k=idxI (fun t=>chDoes a t.toNat) (memI chG (b:Int)):=by
 obtain ⟨p,hp,hk⟩:=h.1 ⟨ch_ok,exI_iff.2 (by have:chG.length=11:=rfl;omega),exI_iff.2 (by have:chG.length=11:=rfl;omega),by simpa using h8,by simpa using (ch_gr false ha hb).2 hg⟩
 rw [hk]
 refine idxI_congr fun t ht=>?_
 have hl:t.toNat<11:=by
  rw [memI_mem ch_fine hb] at ht
  obtain ⟨t',ht',rfl⟩:=List.mem_map.1 ht
  have:=ch_fine.mem_lt hb ht'
  have e:(nI t').toNat=t':=by unfold nI;omega
  rw [e];exact this
 have h1:=hp t ht
 have h2:=ch_does ha hl
 rw [Int.toNat_natCast] at h1
 cases e1:p t <;> cases e2:chDoes a t.toNat
 ·rfl
 ·have:=h1.2 (h2.2 e2);rw [e1] at this;cases this
 ·have:=h2.1 (h1.1 e1);rw [e2] at this;cases this
 ·rfl
theorem ch_pick_any (A:Option Addr) (x y:Int) (k:Int) (w:World) (h:GsR w A chG) (hk:Gnd w) (hu:∀ k',PickIs chG x y k'→k'=k) :
  Calls Tryz.prog 16 #[.slice A 11 11,.int .i64 x,.int .i64 y] w fun r w'=>r = .returned (.int .i64 k)∧Below w.heap.size w w':=by
 refine (Pick_any chG A 11 x y w h hk (by decide) ch_texts).mono ?_
 rintro r w' ⟨v,rfl,hv,hb'⟩
 rw [hu v hv]
 exact ⟨rfl,hb'⟩
theorem ch_pick1 (k:Int) (h:PickIs chG 7 3 k):k = -1:=(ch_pick (a:=7) (b:=3) (by decide) (by decide) h (by decide) (by kernel_rfl)).trans (by kernel_rfl)
theorem ch_pick2 (k:Int) (h:PickIs chG 1 5 k):k=1:=(ch_pick (a:=1) (b:=5) (by decide) (by decide) h (by decide) (by kernel_rfl)).trans (by kernel_rfl)
theorem ch_pick3 (k:Int) (h:PickIs chG 5 5 k):k = -2:=h.2 fun hc=>hc.2.2.2.1 (by decide)
theorem ch_least_any (A:Option Addr) (b cc:Nat) (w:World) (h:GsR w A chG) (hk:Gnd w) (hr:RdV w (some ⟨b,0,none⟩) ([(4:Int),3].flatMap iC)) :
  Calls Tryz.prog 20 #[.slice A 11 11,.slice (some ⟨b,0,none⟩) 2 cc] w fun r w'=>r = .returned (.tuple #[.int .i64 4,.int .i64 0])∧Below w.heap.size w w':=by
 refine (Least_any chG A (some ⟨b,0,none⟩) 11 cc [4,3] w h hk (by decide) ch_texts (by decide) hr).mono ?_
 rintro r w' ⟨hb,ho⟩
 have g44:Gr chG true 4 4:=(ch_gr true (by decide) (by decide)).2 (by kernel_rfl)
 have g43:Gr chG true 4 3:=(ch_gr true (by decide) (by decide)).2 (by kernel_rfl)
 have ho1:onceS [4,3]=[4,3]:=by decide
 have hal:∀ b∈([4,3]:List Int),Gr chG true (4:Int).toNat b.toNat:=fun b hb=>by
  rcases List.mem_cons.1 hb with rfl | hb
  ·exact g44
  ·rw [List.mem_singleton] at hb;subst hb;exact g43
 rcases ho with ⟨h1,_⟩ | ⟨_,h1,_⟩ | ⟨_,_,m,hm,rfl⟩ | ⟨_,_,h1,_⟩
 ·exact absurd ch_ok h1
 ·exact absurd h1 (by decide)
 ·rw [ho1] at hm
  obtain ⟨k,hk1,_,hk3⟩:=hm
  match k,hk1 with
  | 0,hk1 =>
   injection hk1 with hk1
   subst hk1
   exact ⟨rfl,hb⟩
  | k+1,hk1 =>
   obtain ⟨d,hd,hn⟩:=hk3 0 4 (by omega) rfl
   exact absurd (hal d hd) hn
 ·rw [ho1] at h1
  obtain ⟨d,hd,hn⟩:=h1 4 (by simp)
  exact absurd (hal d hd) hn
set_option maxRecDepth 100000 in
set_option maxHeartbeats 16000000 in
theorem works8_any (w:World) (hk:Gnd w) :
  Calls Tryz.prog 19 #[] w fun r w'=>r = .returned (.bool true)∧Below w.heap.size w w':=by
 have C:=chapter_any w
 have HK:=hid hk
 clear hk
 go_enter Tryz.func19,Tryz.ntmps19
 go_wp2_with fail
 refine C.mono ?_
 rintro r w0 ⟨A,rfl,hg,hb⟩
 have HG0:=hid hg
 have HB0:=hid hb
 clear C hg hb
 go_wp2_with fail
 refine (ch_may_any A 4 3 4 3 true w0 HG0.out (HK.out.next HB0.out) rfl rfl (by decide) (by decide) (by kernel_rfl)).mono ?_
 rintro r w1 ⟨rfl,hb⟩
 have HG1:=hid (HG0.out.below hb)
 have HB1:=hid (HB0.out.trans (hb.mono HB0.out.size))
 clear hb HG0 HB0
 go_wp2_with fail
 refine (ch_may_any A 3 4 3 4 false w1 HG1.out (HK.out.next HB1.out) rfl rfl (by decide) (by decide) (by kernel_rfl)).mono ?_
 rintro r w2 ⟨rfl,hb⟩
 have HG2:=hid (HG1.out.below hb)
 have HB2:=hid (HB1.out.trans (hb.mono HB1.out.size))
 clear hb HG1 HB1
 go_wp2_with fail
 refine (ch_may_any A 3 6 3 6 true w2 HG2.out (HK.out.next HB2.out) rfl rfl (by decide) (by decide) (by kernel_rfl)).mono ?_
 rintro r w3 ⟨rfl,hb⟩
 have HG3:=hid (HG2.out.below hb)
 have HB3:=hid (HB2.out.trans (hb.mono HB2.out.size))
 clear hb HG2 HB2
 go_wp2_with fail
 refine (ch_may_any A 6 3 6 3 false w3 HG3.out (HK.out.next HB3.out) rfl rfl (by decide) (by decide) (by kernel_rfl)).mono ?_
 rintro r w4 ⟨rfl,hb⟩
 have HG4:=hid (HG3.out.below hb)
 have HB4:=hid (HB3.out.trans (hb.mono HB3.out.size))
 clear hb HG3 HB3
 go_wp2_with fail
 refine (ch_may_any A 0 5 0 5 true w4 HG4.out (HK.out.next HB4.out) rfl rfl (by decide) (by decide) (by kernel_rfl)).mono ?_
 rintro r w5 ⟨rfl,hb⟩
 have HG5:=hid (HG4.out.below hb)
 have HB5:=hid (HB4.out.trans (hb.mono HB4.out.size))
 clear hb HG4 HB4
 go_wp2_with fail
 refine (ch_may_any A 2 0 2 0 true w5 HG5.out (HK.out.next HB5.out) rfl rfl (by decide) (by decide) (by kernel_rfl)).mono ?_
 rintro r w6 ⟨rfl,hb⟩
 have HG6:=hid (HG5.out.below hb)
 have HB6:=hid (HB5.out.trans (hb.mono HB5.out.size))
 clear hb HG5 HB5
 go_wp2_with fail
 refine (ch_may_any A 0 2 0 2 true w6 HG6.out (HK.out.next HB6.out) rfl rfl (by decide) (by decide) (by kernel_rfl)).mono ?_
 rintro r w7 ⟨rfl,hb⟩
 have HG7:=hid (HG6.out.below hb)
 have HB7:=hid (HB6.out.trans (hb.mono HB6.out.size))
 clear hb HG6 HB6
 go_wp2_with fail
 refine (ch_strict_any A 2 0 2 0 false w7 HG7.out (HK.out.next HB7.out) rfl rfl (by decide) (by decide) (by kernel_rfl)).mono ?_
 rintro r w8 ⟨rfl,hb⟩
 have HG8:=hid (HG7.out.below hb)
 have HB8:=hid (HB7.out.trans (hb.mono HB7.out.size))
 clear hb HG7 HB7
 go_wp2_with fail
 refine (ch_strict_any A 0 2 0 2 false w8 HG8.out (HK.out.next HB8.out) rfl rfl (by decide) (by decide) (by kernel_rfl)).mono ?_
 rintro r w9 ⟨rfl,hb⟩
 have HG9:=hid (HG8.out.below hb)
 have HB9:=hid (HB8.out.trans (hb.mono HB8.out.size))
 clear hb HG8 HB8
 go_wp2_with fail
 refine (ch_strict_any A 2 2 2 2 true w9 HG9.out (HK.out.next HB9.out) rfl rfl (by decide) (by decide) (by kernel_rfl)).mono ?_
 rintro r w10 ⟨rfl,hb⟩
 have HG10:=hid (HG9.out.below hb)
 have HB10:=hid (HB9.out.trans (hb.mono HB9.out.size))
 clear hb HG9 HB9
 go_wp2_with fail
 refine (ch_may_any A 7 3 7 3 true w10 HG10.out (HK.out.next HB10.out) rfl rfl (by decide) (by decide) (by kernel_rfl)).mono ?_
 rintro r w11 ⟨rfl,hb⟩
 have HG11:=hid (HG10.out.below hb)
 have HB11:=hid (HB10.out.trans (hb.mono HB10.out.size))
 clear hb HG10 HB10
 go_wp2_with fail
 refine (ch_may_any A 3 7 3 7 false w11 HG11.out (HK.out.next HB11.out) rfl rfl (by decide) (by decide) (by kernel_rfl)).mono ?_
 rintro r w12 ⟨rfl,hb⟩
 have HG12:=hid (HG11.out.below hb)
 have HB12:=hid (HB11.out.trans (hb.mono HB11.out.size))
 clear hb HG11 HB11
 go_wp2_with fail
 refine (ch_pick_any A 7 3 (-1) w12 HG12.out (HK.out.next HB12.out) ch_pick1).mono ?_
 rintro r w13 ⟨rfl,hb⟩
 have HG13:=hid (HG12.out.below hb)
 have HB13:=hid (HB12.out.trans (hb.mono HB12.out.size))
 clear hb HG12 HB12
 go_wp2_with fail
 refine (ch_pick_any A 1 5 1 w13 HG13.out (HK.out.next HB13.out) ch_pick2).mono ?_
 rintro r w14 ⟨rfl,hb⟩
 have HG14:=hid (HG13.out.below hb)
 have HB14:=hid (HB13.out.trans (hb.mono HB13.out.size))
 clear hb HG13 HB13
 go_wp2_with fail
 refine (ch_pick_any A 5 5 (-2) w14 HG14.out (HK.out.next HB14.out) ch_pick3).mono ?_
 rintro r w15 ⟨rfl,hb⟩
 have HG15:=hid (HG14.out.below hb)
 have HB15:=hid (HB14.out.trans (hb.mono HB14.out.size))
 clear hb HG14 HB14
 go_wp2_with fail
 have yl:=one_boxS w15 (.cells #[.int .i64 4,.int .i64 3] 3)
 refine (ch_least_any A w15.heap.size 2 (w15.alloc (.cells #[.int .i64 4,.int .i64 3] 3)) (HG15.out.below yl) ((HK.out.next HB15.out).next yl) (rd_lit2 w15 4 3)).mono ?_
 rintro r w16 ⟨rfl,hb⟩
 have HG16:=hid (HG15.out.below (yl.trans (hb.mono yl.size)))
 have HB16:=hid (HB15.out.trans ((yl.trans (hb.mono yl.size)).mono HB15.out.size))
 clear hb HG15 HB15 yl
 go_wp2_with fail
 refine (ch_may_any A 9 8 9 8 true w16 HG16.out (HK.out.next HB16.out) rfl rfl (by decide) (by decide) (by kernel_rfl)).mono ?_
 rintro r w17 ⟨rfl,hb⟩
 have HG17:=hid (HG16.out.below hb)
 have HB17:=hid (HB16.out.trans (hb.mono HB16.out.size))
 clear hb HG16 HB16
 go_wp2_with fail
 refine (ch_may_any A 8 9 8 9 false w17 HG17.out (HK.out.next HB17.out) rfl rfl (by decide) (by decide) (by kernel_rfl)).mono ?_
 rintro r w18 ⟨rfl,hb⟩
 have HG18:=hid (HG17.out.below hb)
 have HB18:=hid (HB17.out.trans (hb.mono HB17.out.size))
 clear hb HG17 HB17
 go_wp2_with fail
 go_returns
 exact ⟨rfl,HB18.out⟩
end SM
end
section
open Go.RowKit
namespace SM
open CM (nd kids)
theorem idxI_cases (p:Int→Bool) (l:List Int):(idxI p l = -1∧∀ x∈l,p x=false)∨∃ k:Nat,idxI p l=(k:Int)∧k<l.length∧(∀ x,l[k]? = some x→p x=true)∧∀ j x,j<k→l[j]? = some x→p x=false:=by
 unfold idxI
 cases h:l.findIdx? p with
 | none =>
  rw [List.findIdx?_eq_none_iff] at h
  exact .inl ⟨rfl,h⟩
 | some k =>
  rw [List.findIdx?_eq_some_iff_getElem] at h
  obtain ⟨hk,h1,h2⟩:=h
  refine .inr ⟨k,rfl,hk,fun x hx=>?_,fun j x hj hx=>?_⟩
  ·rw [List.getElem?_eq_getElem hk] at hx
   injection hx with hx
   rw [← hx];exact h1
  ·have hjl:j<l.length:=by omega
   rw [List.getElem?_eq_getElem hjl] at hx
   injection hx with hx
   have:=h2 j hj
   rw [hx] at this
   simpa using this
structure PickOk (g:List Gi) (a b k:Int):Prop where
 uni:(nd g a.toNat).kind=8→k = -2
 lo:(nd g a.toNat).kind≠8 → -2≤k
 hi:(nd g a.toNat).kind≠8→k<((memI g b).length:Int)
 may:(nd g a.toNat).kind≠8→(k = -2↔¬ Gr g false a.toNat b.toNat)
 ahead:∀ (i:Nat) t,(nd g a.toNat).kind≠8→(memI g b)[i]? = some t→(i:Int)<k→(nd g a.toNat).kind≠9→¬ Gr g false a.toNat t.toNat
 at_:∀ (i:Nat) t,(nd g a.toNat).kind≠8→(memI g b)[i]? = some t→(i:Int)=k→Gr g false a.toNat t.toNat
 last:(nd g a.toNat).kind≠8→k = -1→(nd g a.toNat).kind=9∧Gr g false (bnd g a.toNat) b.toNat
theorem pick_ok {g:List Gi} {a b:Nat} {k:Int} (hc:checkG g=0) (ha:a<g.length) (hb:b<g.length) (h:PickIs g (a:Int) (b:Int) k):PickOk g (a:Int) (b:Int) k:=by
 have hf:=fine_of hc
 have ea:exI g.length (a:Int)=true:=exI_iff.2 (by omega)
 have eb:exI g.length (b:Int)=true:=exI_iff.2 (by omega)
 have hmm:=memI_mem hf hb
 have hta:((a:Int)).toNat=a:=Int.toNat_natCast a
 have htb:((b:Int)).toNat=b:=Int.toNat_natCast b
 unfold PickIs at h
 rw [hta,htb] at h
 have key:(nd g a).kind≠8→(Gr g false a b→∃ p:Int→Bool,(∀ t∈memI g (b:Int),(p t=true↔Does g false (Gr g false) a t.toNat))∧k=idxI p (memI g (b:Int)))∧(¬ Gr g false a b→k = -2):=fun h8 =>
  ⟨fun hg=>h.1 ⟨hc,ea,eb,h8,hg⟩,fun hg=>h.2 fun c=>hg c.2.2.2.2⟩
 have hmk:∀ t∈memI g (b:Int),(nd g t.toNat).kind≠8:=fun t ht=>by
  rw [hmm] at ht
  obtain ⟨s,hs,rfl⟩:=List.mem_map.1 ht
  have e:(nI s).toNat=s:=by unfold nI;omega
  rw [e]
  exact hf.mem_kind hb hs
 refine ⟨fun h8=>?_,fun h8=>?_,fun h8=>?_,fun h8=>?_,fun i t h8 ht hi h9 hg=>?_,fun i t h8 ht hi=>?_,fun h8 hk=>?_⟩ <;> rw [hta] at *
 ·exact h.2 fun c=>c.2.2.2.1 h8
 ·by_cases hg:Gr g false a b
  ·obtain ⟨p,-,rfl⟩:=(key h8).1 hg
   rcases idxI_cases p (memI g (b:Int)) with ⟨e,-⟩ | ⟨k,e,-⟩ <;> omega
  ·have:=(key h8).2 hg;omega
 ·by_cases hg:Gr g false a b
  ·obtain ⟨p,-,rfl⟩:=(key h8).1 hg
   rcases idxI_cases p (memI g (b:Int)) with ⟨e,-⟩ | ⟨k,e,hk,-⟩
   ·have:(0:Int)≤((memI g (b:Int)).length:Int):=by omega
    omega
   ·omega
  ·have:=(key h8).2 hg;omega
 ·rw [htb]
  by_cases hg:Gr g false a b
  ·obtain ⟨p,-,rfl⟩:=(key h8).1 hg
   refine ⟨fun e=>?_,fun e=>absurd hg e⟩
   rcases idxI_cases p (memI g (b:Int)) with ⟨e',-⟩ | ⟨k,e',-⟩ <;> omega
  ·exact ⟨fun _=>hg,fun _=>(key h8).2 hg⟩
 ·by_cases hgb:Gr g false a b
  ·obtain ⟨p,hp,rfl⟩:=(key h8).1 hgb
   have htm:=List.mem_of_getElem? ht
   have hnp:p t=false:=by
    rcases idxI_cases p (memI g (b:Int)) with ⟨e,-⟩ | ⟨k,e,-,-,h2⟩
    ·omega
    ·exact h2 i t (by omega) ht
   have hone:=hg.holds a (by rw [mem_no h8];simp)
   rcases hone with ⟨t',ht',hd⟩ | ⟨h9',-⟩
   ·rw [mem_no (hmk t htm),List.mem_singleton] at ht'
    subst ht'
    have:=(hp t htm).2 hd
    rw [hnp] at this;cases this
   ·exact h9 h9'
  ·have:=(key h8).2 hgb;omega
 ·by_cases hgb:Gr g false a b
  ·obtain ⟨p,hp,rfl⟩:=(key h8).1 hgb
   have htm:=List.mem_of_getElem? ht
   have hpt:p t=true:=by
    rcases idxI_cases p (memI g (b:Int)) with ⟨e,-⟩ | ⟨k,e,-,h1,-⟩
    ·omega
    ·refine h1 t ?_
     rw [show k=i by omega];exact ht
   refine Gr.of fun s hs=>?_
   rw [mem_no h8,List.mem_singleton] at hs
   subst hs
   exact .inl ⟨t.toNat,by rw [mem_no (hmk t htm)];simp,(hp t htm).1 hpt⟩
  ·have:=(key h8).2 hgb;omega
 ·rw [htb]
  by_cases hgb:Gr g false a b
  ·obtain ⟨p,hp,rfl⟩:=(key h8).1 hgb
   have hno:∀ x∈memI g (b:Int),p x=false:=by
    rcases idxI_cases p (memI g (b:Int)) with ⟨e,h1⟩ | ⟨k,e,-⟩
    ·exact h1
    ·omega
   rcases hgb.holds a (by rw [mem_no h8];simp) with ⟨t,ht,hd⟩ | h9
   ·have hti:nI t∈memI g (b:Int):=by rw [hmm];exact List.mem_map_of_mem ht
    have e:(nI t).toNat=t:=by unfold nI;omega
    have:=(hp _ hti).2 (by rw [e];exact hd)
    rw [hno _ hti] at this;cases this
   ·exact h9
  ·have:=(key h8).2 hgb;omega
end SM
end
section
open Go.RowKit
namespace SM
open CM (nd kids)
set_option maxRecDepth 100000 in
set_option maxHeartbeats 4000000 in
theorem rec_own (PA:Option Addr) (n pc:Nat) (w:World) (hn:n≤3) :
  Calls Tryz.prog 25 #[.slice PA n pc] w fun r w'=>∃ VA,r = .returned (.agg #[.int .i64 7,.int .i64 0,.string ⟨#[]⟩,.slice VA n 3,.slice PA n pc])∧OwnS w' w.heap.size (.slice VA n 3) (recKeys n)∧Below w.heap.size w w':=by
 go_enter Tryz.func25,Tryz.ntmps25
 go_wp2_with fail
 have h1:=(Blk.new w 42 #[.int .i64 7,.int .i64 0,.string ⟨#[]⟩,.slice (some ⟨w.heap.size+1,0,none⟩) n 3,.slice PA n pc]).alloc (.cells #[.string ⟨#[97]⟩,.string ⟨#[98]⟩,.string ⟨#[99]⟩] 9)
 have h2:=Blk.new (w.alloc (.cells #[.int .i64 7,.int .i64 0,.string ⟨#[]⟩,.slice (some ⟨w.heap.size+1,0,none⟩) n 3,.slice PA n pc] 42)) 9 #[.string ⟨#[97]⟩,.string ⟨#[98]⟩,.string ⟨#[99]⟩]
 have hsz:(w.alloc (.cells #[.int .i64 7,.int .i64 0,.string ⟨#[]⟩,.slice (some ⟨w.heap.size+1,0,none⟩) n 3,.slice PA n pc] 42)).heap.size=w.heap.size+1:=Array.size_push _
 rw [hsz] at h2
 have hb:=(one_boxS w (.cells #[.int .i64 7,.int .i64 0,.string ⟨#[]⟩,.slice (some ⟨w.heap.size+1,0,none⟩) n 3,.slice PA n pc] 42)).alloc (by rw [hsz];exact Nat.le_succ _) (.cells #[.string ⟨#[97]⟩,.string ⟨#[98]⟩,.string ⟨#[99]⟩] 9)
 generalize (w.alloc (.cells #[.int .i64 7,.int .i64 0,.string ⟨#[]⟩,.slice (some ⟨w.heap.size+1,0,none⟩) n 3,.slice PA n pc] 42)).alloc (.cells #[.string ⟨#[97]⟩,.string ⟨#[98]⟩,.string ⟨#[99]⟩] 9)=w1 at h1 h2 hb ⊢
 have z0:=h1.cell 0
 have z1:=h1.cell 1
 have z2:=h1.cell 2
 have z3:=h1.cell 3
 have z4:=h1.cell 4
 simp at z0 z1 z2 z3 z4
 refine bodyPost_ret (v := .agg #[.int .i64 7,.int .i64 0,.string ⟨#[]⟩,.slice (some ⟨w.heap.size+1,0,none⟩) n 3,.slice PA n pc]) (by simp [results,Tryz.results25,go_sem,z0,z1,z2,z3,z4]) rfl ?_
 have hj2:(recKeys n).flatMap sC=[Value.string ⟨#[97]⟩,.string ⟨#[98]⟩,.string ⟨#[99]⟩].take n∧(recKeys n).length=n:=by
  unfold recKeys
  rcases Nat.lt_or_ge n 1 with h | h
  ·rw [show n=0 by omega];exact ⟨rfl,rfl⟩
  ·rcases Nat.lt_or_ge n 2 with h | h
   ·rw [show n=1 by omega];exact ⟨rfl,rfl⟩
   ·rcases Nat.lt_or_ge n 3 with h | h
    ·rw [show n=2 by omega];exact ⟨rfl,rfl⟩
    ·rw [show n=3 by omega];exact ⟨rfl,rfl⟩
 refine ⟨_,rfl,?_,hb⟩
 unfold OwnS
 rw [hj2.1,hj2.2]
 refine ⟨by rw [List.length_take];simp;omega,.inr ⟨w.heap.size+1,3,_,rfl,Nat.le_succ _,h2,hn,by decide,rfl,by rw [Nat.mul_one]⟩⟩
theorem step_pushG (w:World) {ops:Array Oper} {o:Oper} {a:Go.Act} {K:Go.Act→World→Prop} {Q:Exit→Go.Act→World→Prop} {E:Prop} (hgd:o.guard=none) (s x:Operand)
  (hop:o.op=Op.call { callee:=Callee.builtin Builtin.append,args := #[s,x],argTypes := #[22,22] })
  (B:Nat) (v:Value) (g:List Gi) (p:Gp) (eb:Nat) (hs:a.eval s=v) (hown:OwnG w B v g) (hx:a.eval x = .slice (some ⟨eb,0,none⟩) 1 1) (hc:Blk w eb 42 p.cells.toArray) (hlen:g.length≤100000000000) (hbase:B≤w.heap.size)
  (hp:HeldG w B (RowOf v) p)
  (h:∀ gg cap w',OwnG w' B (.slice (some ⟨gg,0,none⟩) (g.length+1) cap) (g++[p.1])→w.grownBy w' v.ownBlock→K (a.put o.dst (.slice (some ⟨gg,0,none⟩) (g.length+1) cap)) w') :
  if Region.wanted o (yielded ops a.tmps)=true then Oper.wp Tryz.prog o a w K Q else E:=by
 obtain ⟨i0,hi,hz0,hz1,hz2⟩:=info_parts info_gnode
 obtain ⟨ps,h1,h2,h3⟩:=hown.rows
 have hl:ps.length=g.length:=by rw [← h1,List.length_map]
 obtain ⟨KA,kc,ek,-⟩:=hp.k.rd
 obtain ⟨LA,lc,el,-⟩:=hp.l.rd
 refine step_append_lies w hgd s x 22 hop B 42 i0 (.agg #[.int .i64 0,.int .i64 0,.string ⟨#[]⟩,.slice none 0 0,.slice none 0 0]) 5 80 Tryz.underlying22 hi hz0 hz1 hz2 rfl (by decide) v ps.length (gcells ps) hs h2 ⟨eb,0,none⟩ 1 1 p.cells hx rfl ?_ ?_ (by decide) (by unfold maxLen;omega) (by omega) hbase w.heap.size rfl ?_
 ·intro j u hj
  rw [addr_lit,Nat.zero_add,hc.cell j,List.getElem?_toArray]
  exact hj
 ·intro u hu
  unfold Gp.cells at hu
  rw [ek,el] at hu
  simp only [List.mem_cons,List.not_mem_nil,or_false] at hu
  rcases hu with rfl | rfl | rfl | rfl | rfl <;> rfl
 ·intro gg cap w' h4 h5 h6 h7
  rw [hl] at h4 ⊢
  refine h gg cap w' ?_ h5
  have hk:Kept (RowOf v) w w':=(Kept.refl (RowOf v) w).grownG h5 fun i _ h=>h
  have hbar:∀ i,i<w.heap.size→RowOf (.slice (some ⟨gg,0,none⟩) (g.length+1) cap) i→RowOf v i:=fun i hi h=>by
   have hgi:gg=i:=by unfold RowOf Value.ownBlock at h;injection h
   subst hgi
   rcases h6 with h6 | h6
   ·exact h6
   ·omega
  refine ⟨ps++[p],by simp [h1],?_,fun q hq=>?_⟩
  ·rw [List.length_append,List.length_singleton,gcells,List.flatMap_append,hl]
   simpa [gcells] using h4
  ·rcases List.mem_append.1 hq with hq | hq
   ·exact (h3 q hq).kept hk (fun _ _ h=>h) hbar
   ·rw [List.mem_singleton] at hq
    subst hq
    exact hp.kept hk (fun _ _ h=>h) hbar
def RwAt (w:World) (b o:Nat) (x:Rw):Prop:=∃ PA pc,w.cell? ⟨b,o,none⟩=some (.int .i64 x.kind)∧w.cell? ⟨b,o+1,none⟩=some (.int .i64 x.num)∧w.cell? ⟨b,o+2,none⟩=some (.slice PA x.l.length pc)∧RdV w PA (x.l.flatMap iC)∧(x.l.length:Int)≤9223372036854775807
theorem RwAt.below {w w':World} {b o:Nat} {x:Rw} (h:RwAt w b o x) (hb:Below w.heap.size w w'):RwAt w' b o x:=by
 obtain ⟨PA,pc,h1,h2,h3,h4,h5⟩:=h
 exact ⟨PA,pc,cell_below hb h1,cell_below hb h2,cell_below hb h3,h4.below hb,h5⟩
def RowsR (w:World) (A:Option Addr) (l:List Rw):Prop:=0<l.length→∃ b o,A=some ⟨b,o,none⟩∧∀ (i:Nat) (x:Rw),l[i]? = some x→RwAt w b (o+i*3) x
theorem RowsR.below {w w':World} {A:Option Addr} {l:List Rw} (h:RowsR w A l) (hb:Below w.heap.size w w'):RowsR w' A l:=fun h0=>by
 obtain ⟨b,o,hA,hc⟩:=h h0
 exact ⟨b,o,hA,fun i x hx=>(hc i x hx).below hb⟩
theorem madeN_snoc (n:Nat) (dyn:Bool):∀ (l:List Rw) (i:Nat) (x:Rw),madeN n dyn i (l++[x])=madeN n dyn i l++[nodeS n dyn (i+l.length) x]
 | [],i,x=>by simp [madeN]
 | y :: l,i,x=>by
  rw [List.cons_append]
  unfold madeN
  rw [madeN_snoc n dyn l (i+1) x,List.cons_append,List.length_cons,show i+1+l.length=i+(l.length+1) by omega]
end SM
end
section
open Go.RowKit
namespace SM
open CM (nd kids)
def MadeR (w0 w:World) (v:Value) (g:List Gi):Prop:=OwnG w w0.heap.size v g∧Below w0.heap.size w0 w
theorem MadeR.below {w0 w w':World} {v:Value} {g:List Gi} (h:MadeR w0 w v g) (hb:Below w.heap.size w w'):MadeR w0 w' v g:=
 ⟨h.1.below hb,h.2.trans (hb.mono h.2.size)⟩
theorem MadeR.lt {w0 w:World} {v:Value} {g:List Gi} (h:MadeR w0 w v g) {i:Nat} (hi:RowOf v i):w0.heap.size≤i∧i<w.heap.size:=by
 obtain ⟨ps,-,h2,-⟩:=h.1.rows
 exact own_ltG h2 hi
theorem OwnS.nil (w:World) (base:Nat):OwnS w base (.slice none 0 0) []:=⟨rfl,.inl ⟨rfl,rfl⟩⟩
theorem ownI_below {w w':World} {B:Nat} {v:Value} {l:List Int} (h:OwnI w B v l) (hb:Below w.heap.size w w'):OwnI w' B v l:=h.kept (Kept.of_below hb (fun _=>False)) (fun _ _ h=>h)
theorem own_leS {w:World} {B B':Nat} {v:Value} {l:List ByteArray} (h:OwnS w B v l) (hb:B'≤B):OwnS w B' v l:=own_baseG h hb
theorem own_take1 {w:World} {B n c:Nat} {A:Option Addr} {a0:Int} {l1:List Int} (h:OwnI w B (.slice A n c) (a0 :: l1)):OwnI w B (.slice A 1 c) [a0]:=by
 obtain ⟨h1,h2⟩:=h
 rcases h2 with ⟨h0,h3⟩ | ⟨g,cap,cur,e,hg,h4,h5,h6,h7,h8⟩
 ·simp at h3
 ·injection e with e1 e2 e3
  refine ⟨rfl,.inr ⟨g,cap,cur,?_,hg,h4,?_,h6,h7,?_⟩⟩
  ·rw [e1,e3];rfl
  ·have:(a0 :: l1).length≤cap:=h5
   rw [List.length_cons] at this
   show 1≤cap
   omega
  ·have:=congrArg (List.take 1) h8
   rw [List.take_take] at this
   have hm:min 1 ((a0 :: l1).length*1)=1:=by rw [List.length_cons];omega
   rw [hm] at this
   exact this
theorem held_leaf {w0 w1 w wl:World} {v:Value} {g:List Gi} {p:Gp} (hm:MadeR w0 w1 v g) (hk:OwnS w w1.heap.size p.2.1 p.1.keys) (hl:OwnI w w1.heap.size p.2.2 p.1.l) (hb2:Below w.heap.size w wl):HeldG wl w0.heap.size (RowOf v) p:=by
 have hkk:=Kept.of_below hb2 (fun _=>False)
 have hsz:=hm.2.size
 refine ⟨own_baseG (hk.kept hkk fun _ _ h=>h) hsz,own_baseG (hl.kept hkk fun _ _ h=>h) hsz,fun i hi hr=>?_,fun i hi hr=>?_⟩
 ·have:=(hk.lt hi).1
  have:=(hm.lt hr).2
  omega
 ·have:=(hl.lt hi).1
  have:=(hm.lt hr).2
  omega
theorem MadeR.blk {w0 w1 W w4:World} {v:Value} {g:List Gi} (hm:MadeR w0 w1 v g) (hg:W.grownBy w4 v.ownBlock) {eb:Nat} {t:TypeId} {cs:Array Value} (hz:Blk W eb t cs) (he:w1.heap.size≤eb):Blk w4 eb t cs:=
 ((Kept.refl (RowOf v) W).grownG hg (fun i _ h=>h)).blk hz (fun hr=>by have:=(hm.lt hr).2;omega)
theorem MadeR.push {w0 w1 W w4:World} {v v':Value} {g g':List Gi} (hm:MadeR w0 w1 v g) (hW:MadeR w0 W v g) (ho:OwnG w4 w0.heap.size v' g') (hg:W.grownBy w4 v.ownBlock):MadeR w0 w4 v' g':=
 ⟨ho,hW.2.grown hg hW.2.size (fun i hi=>(hm.lt hi).1)⟩
theorem lit2 (w:World) (x y:Int):OwnI (w.alloc (.cells #[.int .i64 x,.int .i64 y] 3)) w.heap.size (.slice (some ⟨w.heap.size,0,none⟩) 2 2) [x,y]:=
 ⟨rfl,.inr ⟨w.heap.size,2,_,rfl,Nat.le_refl _,Blk.new w _ _,Nat.le_refl _,by decide,rfl,rfl⟩⟩
theorem MadeR.cell {w0 w1 W w4:World} {v:Value} {g:List Gi} {p:Addr} (hm:MadeR w0 w1 v g) (hg:W.grownBy w4 v.ownBlock) (he:w1.heap.size≤p.block) (hp:p.block<W.heap.size):w4.cell? p=W.cell? p:=
 ((Kept.refl (RowOf v) W).grownG hg (fun i _ h=>h)).cell hp (fun hr=>by have:=(hm.lt hr).2;omega)
theorem wpList_leaf (w0 w1 w:World) {ops:Array Oper} {rest:List Oper} {o:Oper} {a:Go.Act} {Q:Exit→Go.Act→World→Prop} (hgd:o.guard=none) (s x:Operand)
  (hop:o.op=Op.call { callee:=Callee.builtin Builtin.append,args := #[s,x],argTypes := #[22,22] })
  (v:Value) (g:List Gi) (p:Gp) (hs:a.eval s=v) (hx:a.eval x = .slice (some ⟨w.heap.size,0,none⟩) 1 1) (hm:MadeR w0 w1 v g) (hb:Below w1.heap.size w1 w) (hk:OwnS w w1.heap.size p.2.1 p.1.keys) (hl:OwnI w w1.heap.size p.2.2 p.1.l) (hlen:g.length≤100000000000)
  (h:∀ v' w',MadeR w0 w' v' (g++[p.1])→wpList Tryz.prog ops Q rest (a.put o.dst v') w'):wpList Tryz.prog ops Q (o :: rest) a (w.alloc (.cells p.cells.toArray 42)):=by
 have hb2:=one_boxS w (.cells p.cells.toArray 42)
 have hkk:=Kept.of_below hb2 (fun _=>False)
 have hm2:=(hm.below hb).below hb2
 have hsz:=hm.2.size
 refine wpList_pushG _ hgd s x hop w0.heap.size v g p w.heap.size hs hm2.1 hx (Blk.new w _ _) hlen hm2.2.size ⟨?_,?_,?_,?_⟩ ?_
 ·exact own_baseG (hk.kept hkk fun _ _ h=>h) hsz
 ·exact own_baseG (hl.kept hkk fun _ _ h=>h) hsz
 ·intro i hi hr
  have:=(hk.lt hi).1
  have:=(hm.lt hr).2
  omega
 ·intro i hi hr
  have:=(hl.lt hi).1
  have:=(hm.lt hr).2
  omega
 ·intro v' w7 hown hgr _
  exact h v' w7 ⟨hown,hm2.2.grown hgr hm2.2.size (fun i hi=>(hm.lt hi).1)⟩
end SM
end
section
open Go.RowKit
namespace SM
open CM (nd kids)
set_option maxRecDepth 100000 in
theorem wpList_pushGs (w:World) {ops:Array Oper} {rest:List Oper} {o:Oper} {a:Go.Act} {Q:Exit→Go.Act→World→Prop} (hgd:o.guard=none) (s x:Operand)
  (hop:o.op=Op.call { callee:=Callee.builtin Builtin.append,args := #[s,x],argTypes := #[22,22] })
  (B:Nat) (v:Value) (g:List Gi) (qs:List Gp) (eb:Nat) (hs:a.eval s=v) (hown:OwnG w B v g) (hx:a.eval x = .slice (some ⟨eb,0,none⟩) qs.length qs.length) (hc:Blk w eb 42 (gcells qs).toArray) (hlen:g.length+qs.length≤100000000000) (hbase:B≤w.heap.size)
  (hp:∀ p∈qs,HeldG w B (RowOf v) p)
  (h:∀ v' w',OwnG w' B v' (g++qs.map (·.1))→w.grownBy w' v.ownBlock→(v'.ownBlock=v.ownBlock∨v'.ownBlock=some w.heap.size)→wpList Tryz.prog ops Q rest (a.put o.dst v') w'):wpList Tryz.prog ops Q (o :: rest) a w:=by
 obtain ⟨i0,hi,hz0,hz1,hz2⟩:=info_parts info_gnode
 obtain ⟨ps,h1,h2,h3⟩:=hown.rows
 have hl:ps.length=g.length:=by rw [← h1,List.length_map]
 refine wpList_append_own_at w hgd s x 22 hop B 42 i0 (.agg #[.int .i64 0,.int .i64 0,.string ⟨#[]⟩,.slice none 0 0,.slice none 0 0]) 5 80 Tryz.underlying22 hi hz0 hz1 hz2 rfl (by decide) v ps.length (gcells ps) hs h2 ⟨eb,0,none⟩ qs.length qs.length (gcells qs) hx (gcells_len qs) ?_ ?_ (by unfold maxLen;omega) (by omega) hbase ?_
 ·intro j u hj
  rw [addr_lit,Nat.zero_add,hc.cell j,List.getElem?_toArray]
  exact hj
 ·intro u hu
  unfold gcells at hu
  obtain ⟨p,hpq,hu⟩:=List.mem_flatMap.1 hu
  obtain ⟨KA,kc,ek,-⟩:=(hp p hpq).k.rd
  obtain ⟨LA,lc,el,-⟩:=(hp p hpq).l.rd
  unfold Gp.cells at hu
  rw [ek,el] at hu
  simp only [List.mem_cons,List.not_mem_nil,or_false] at hu
  rcases hu with rfl | rfl | rfl | rfl | rfl <;> rfl
 ·intro v' w' h4 h5 _ h6
  refine h v' w' ?_ h5 h6
  have hk:Kept (RowOf v) w w':=(Kept.refl (RowOf v) w).grownG h5 fun i _ h=>h
  have hbar:∀ i,i<w.heap.size→RowOf v' i→RowOf v i:=fun i hi h=>by
   rcases h6 with h6 | h6
   ·unfold RowOf at h ⊢;rw [← h6];exact h
   ·unfold RowOf at h;rw [h6] at h;injection h with h;omega
  refine ⟨ps++qs,by simp [h1],?_,fun q hq=>?_⟩
  ·rw [List.length_append,gcells,List.flatMap_append]
   simpa [gcells] using h4
  ·rcases List.mem_append.1 hq with hq | hq
   ·exact (h3 q hq).kept hk (fun _ _ h=>h) hbar
   ·exact (hp q hq).kept hk (fun _ _ h=>h) hbar
theorem wpList_pushIs (w:World) {ops:Array Oper} {rest:List Oper} {o:Oper} {a:Go.Act} {Q:Exit→Go.Act→World→Prop} (hgd:o.guard=none) (s x:Operand)
  (hop:o.op=Op.call { callee:=Callee.builtin Builtin.append,args := #[s,x],argTypes := #[34,34] })
  (base:Nat) (v:Value) (l m:List Int) (ad:Addr) (c:Nat) (hs:a.eval s=v) (hown:OwnI w base v l) (hx:a.eval x = .slice (some ad) m.length c) (hr:RdV w (some ad) (m.flatMap iC)) (h0:0<m.length) (hlen:l.length+m.length≤1000000000000) (hbase:base≤w.heap.size)
  (h:∀ v' w',OwnI w' base v' (l++m)→w.grownBy w' v.ownBlock→(v'.ownBlock=v.ownBlock∨v'.ownBlock=some w.heap.size)→wpList Tryz.prog ops Q rest (a.put o.dst v') w'):wpList Tryz.prog ops Q (o :: rest) a w:=by
 obtain ⟨i0,hi,hz0,hz1,hz2⟩:=info_parts info_intG
 have hml:(m.flatMap iC).length=m.length*1:=rowc_len iC 1 (fun _=>rfl) m
 obtain ⟨b,oo,hA,hc⟩:=hr (by rw [hml];omega)
 injection hA with hA
 subst hA
 refine wpList_append_own_at w hgd s x 34 hop base 3 i0 (.int .i64 0) 1 8 Tryz.underlying34 hi hz0 hz1 hz2 rfl (by decide) v l.length (l.flatMap iC) hs hown ⟨b,oo,none⟩ m.length c (m.flatMap iC) hx hml ?_ ?_ (by unfold maxLen;omega) (by omega) hbase ?_
 ·intro j u hj
  rw [addr_lit]
  exact hc j u hj
 ·intro u hu
  obtain ⟨z,-,hu⟩:=List.mem_flatMap.1 hu
  have:u = .int .i64 z:=by simpa [iC] using hu
  subst this;rfl
 ·intro v' w' h1 h2 _ h4
  refine h v' w' ?_ h2 h4
  unfold OwnI
  rw [List.flatMap_append,List.length_append]
  exact h1
end SM
end
end Go.Proofs.YtmgbbndmmbgemaaGreatDoor
