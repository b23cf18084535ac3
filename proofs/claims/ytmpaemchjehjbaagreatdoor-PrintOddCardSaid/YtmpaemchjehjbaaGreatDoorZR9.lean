/- Contracts and plain facts that the theorem rests on: TEnclosed, TListS, THas, TModel, TGood, TFrom. -/
import Derived.Test.YtmpaemchjehjbaaGreatDoorZR8
import Derived.Deep.LoopGhost
set_option linter.unusedSimpArgs false
set_option linter.unusedVariables false
namespace Go.Proofs.YtmpaemchjehjbaaGreatDoor
section
open Lib (hid)
open Go.RowKit
def enclosedR (ws:List Wd)(Rx Rt:Nat→List Nd→Res)(k:Nat)(nds:List Nd):Res:=
 match behindR ws ⟨#[40]⟩ Rx k nds with
 | .error x=>.error x
 | .ok (v,k1,nds1)=>if seesW (tok ws k1) ⟨#[97,115]⟩ then match behindR ws ⟨#[97,115]⟩ Rt k1 nds1 with
   | .error x=>.error x
   | .ok (t,k2,nds2)=>if seesW (tok ws k2) ⟨#[41]⟩ then addR ws (k2+1) nds2 ⟨24,0,⟨#[]⟩,⟨#[]⟩,[],[v,t]⟩ else .error ((tok ws k2).at_,30)
  else if seesW (tok ws k1) ⟨#[41]⟩ then .ok (v,k1+1,nds1) else .error ((tok ws k1).at_,30)
theorem behindR_good {ws:List Wd}{R:Nat→List Nd→Res}{ok:Nat→List Nd→Prop}(hK:OkR ws R ok){t:ByteArray}{k:Nat}{nds:List Nd}{v k':Nat}{nds':List Nd}(h0:ok k nds)(h:behindR ws t R k nds=.ok (v,k',nds')):ok k' nds'∧k<k':=by
 rw[behindR] at h;split at h
 ·rename_i hs;have h1:=hK.next _ _ _ h0 hs;have:=hK.up _ _ _ _ _ h1 h;exact⟨hK.item _ _ _ _ _ h1 h,by omega⟩
 ·cases h
set_option maxRecDepth 100000 in
set_option maxHeartbeats 4000000 in
theorem enclosed_any (g:Nat)(ws:List Wd)(d:Nat)(a b c e:Value)(Rx Rt:Nat→List Nd→Res)(ok:Nat→List Nd→Prop)
  (hX:Rule 192 g ws d a b c e Rx ok)(hKX:OkR ws Rx ok)(hT:Rule 189 g ws d a b c e Rt ok)(hKT:OkR ws Rt ok)
  (w:World)(f:Value)(k:Nat)(nds:List Nd)(D:Nat→Prop)(h:Stm w g ws k d a b c e f)(hn:Nds w g f nds D)(hok:ok k nds) :
  Calls Tryz.prog 238 #[.pointer (some ⟨g,0,none⟩)] w fun r w'=>Out w g ws d a b c e f D (enclosedR ws Rx Rt k nds) r w':=by
 have HX:=hid hX;have HT:=hid hT;have HKX:=hid hKX;have HKT:=hid hKT;have HOK:=hid hok;have H:=hid h;have HN:=hid hn;have hg:=h.lt;have hlt:=hKX.lt _ _ hok;have hmf:∀(fn:Fn) (first cap:Array Value) (w:World),(Instr.makeFunc fn first cap).run Tryz.prog w=.ok (.func fn first cap) w:=fun _ _ _ _=>rfl
 clear hX hT hKX hKT hok h hn;go_enter Tryz.func238,Tryz.ntmps238
 go_wp2_with fail
 refine(behind_any _ g ws d a b c e Rx ok HX.out ⟨#[40]⟩ w f k nds D H.out HN.out hlt (fun hs=>HKX.out.next _ _ _ HOK.out hs)).mono ?_
 intro r w1 ho;rcases hres:behindR ws ⟨#[40]⟩ Rx k nds with⟨at_,er⟩ | ⟨v,k1,nds1⟩
 ·rw[hres] at ho;obtain⟨rfl,hk2⟩:=ho;refine And.intro rfl ?_;rw[enclosedR,hres];exact⟨rfl,hk2⟩
 ·obtain⟨hok1,_⟩:=behindR_good HKX.out HOK.out hres;have hlt1:=HKX.out.lt _ _ hok1;have HRES:=hid hres;rw[hres] at ho;obtain⟨rfl,⟨⟨f1,h1,hn1,hm1⟩,hk1⟩⟩:=ho;have HOK1:=hid hok1;have H1:=hid h1;have HN1:=hid hn1;have HM1:=hid hm1;have HK1:=hid hk1;have HX1:=hid (tok_at hlt1);clear hres hok1 h1 hn1 hm1 hk1;go_wp2_with fail
  refine(sees_any g ws k1 d a b c e f1 _ H1.out _ HX1.out ⟨#[97,115]⟩).mono ?_;rintro r w2 ⟨rfl,hb2⟩;have H2:=hid (H1.out.below hb2 H1.out.lt);have HN2:=hid (HN1.out.kept (Kept.of_below hb2 (fun i=>i=g)) (fun _ _ h=>h))
  have HK2:=hid (HK1.out.trans (Kept.of_below hb2 (Mut g f1)) HM1.out);clear hb2;by_cases has:seesW (tok ws k1) ⟨#[97,115]⟩=true
  ·have HAS:=hid has;rw[has];clear has;go_wp2_with fail
   refine(behind_any _ g ws d a b c e Rt ok HT.out ⟨#[97,115]⟩ _ f1 k1 nds1 _ H2.out HN2.out hlt1 (fun hs=>HKT.out.next _ _ _ HOK1.out hs)).mono ?_
   intro r w3 ho;rcases hres:behindR ws ⟨#[97,115]⟩ Rt k1 nds1 with⟨at_,er⟩ | ⟨t,k3,nds3⟩
   ·rw[hres] at ho;obtain⟨rfl,hk3⟩:=ho;refine And.intro rfl ?_;rw[enclosedR,HRES.out];simp only[HAS.out,if_true,hres];exact⟨rfl,HK2.out.trans hk3 HM1.out⟩
   ·obtain⟨hok3,_⟩:=behindR_good HKT.out HOK1.out hres;have hlt3:=HKX.out.lt _ _ hok3;have hrm3:=HKX.out.room _ _ hok3;have HRES3:=hid hres;rw[hres] at ho;obtain⟨rfl,⟨⟨f3,h3,hn3,hm3⟩,hk3⟩⟩:=ho;have hsz2:=HK2.out.size;have H3:=hid h3;have HN3:=hid (hn3.mono (D':=Dn D w) (fun i _ h=>by rcases h with(h | h) | h;exact .inl h;exact .inr h;exact .inr (by omega)))
    have HM3:Hid (∀ i,i<w.heap.size→Mut g f3 i→Mut g f i):=hid fun i hi h=>HM1.out i hi (hm3 i (by omega) h)
    have HK3:=hid (HK2.out.trans hk3 HM1.out);have HX3:=hid (tok_at hlt3);clear hres hok3 h3 hn3 hm3 hk3;go_wp2_with fail
    refine(need_any g ws k3 d a b c e f3 _ H3.out _ HX3.out ⟨#[41]⟩).mono ?_;intro r w4 hr;by_cases hs:seesW (tok ws k3) ⟨#[41]⟩=true
    ·have HS:=hid hs;rw[hs] at hr;obtain⟨rfl,hp⟩:=hr;have HP:=hid hp;have HN4:=hid (HN3.out.kept hp.kept (fun _ _ h=>h))
     have HK4:=hid (HK3.out.trans (hp.kept.mono fun i _ h=>(show Mut g f3 i from .inl h)) HM3.out)
     clear hs hp;go_wp2_with fail
     have hst5:=HP.out.stm.alloc (.cells #[.int .i64 (v:Int),.int .i64 (t:Int)] 3);have hn5:=HN4.out.kept (P:=fun _=>False) ((Kept.refl _ w4).alloc (.cells #[.int .i64 (v:Int),.int .i64 (t:Int)] 3)) (fun _ _ h=>h.elim)
     have hk5:=HK4.out.alloc (.cells #[.int .i64 (v:Int),.int .i64 (t:Int)] 3);have hbad:¬ Bad g f3 (Dn D w) w4.heap.size:=by
      have hsz:=HK4.out.size;rintro ((h | h) | h)
      ·omega
      ·have:=(HN4.out.own_lt h).2;omega
      ·exact h (.inr hsz)
     refine(add_any g ws k3 d a b c e f3 _ nds3 (Dn D w) hst5 hn5 hrm3 hlt3 ⟨⟨24,0,⟨#[]⟩,⟨#[]⟩,[],[v,t]⟩,.slice none 0 0,.slice (some ⟨w4.heap.size,0,none⟩) 2 2⟩ (SSq.nil _ _) (isq_new2 w4 v t hbad)).mono ?_;intro r w6 ho;have ho2:=Out.behind hk5 HM3.out ho;have HU:Hid (enclosedR ws Rx Rt k nds=addR ws (k3+1) nds3 ⟨24,0,⟨#[]⟩,⟨#[]⟩,[],[v,t]⟩):=by
      show _=_
      rw[enclosedR,HRES.out];simp only[HAS.out,if_true,HRES3.out,HS.out]
     rcases hres:addR ws (k3+1) nds3 ⟨24,0,⟨#[]⟩,⟨#[]⟩,[],[v,t]⟩ with⟨at_,er⟩ | ⟨v',k',nds'⟩
     ·rw[hres] at ho2;obtain⟨rfl,hk9⟩:=ho2;refine And.intro rfl ?_;rw[HU.out,hres];exact⟨rfl,hk9⟩
     ·rw[hres] at ho2;obtain⟨rfl,hm9⟩:=ho2;have HM9:=hid hm9;have HR9:=hid hres;clear ho hres hm9 hst5 hn5 hk5 hbad;go_wp2_with fail
      go_ret
      rw[HU.out,HR9.out];exact⟨rfl,HM9.out⟩
    ·have hs2:seesW (tok ws k3) ⟨#[41]⟩=false:=by simpa using hs
     rw[hs2] at hr;obtain⟨rfl,hp⟩:=hr;refine And.intro rfl ?_;rw[enclosedR,HRES.out];simp only[HAS.out,if_true,HRES3.out,hs2];exact⟨rfl,HK3.out.trans (hp.mono fun i _ h=>(show Mut g f3 i from .inl h)) HM3.out⟩
  ·have has2:seesW (tok ws k1) ⟨#[97,115]⟩=false:=by simpa using has
   have HAS:=hid has2;rw[has2];clear has has2;go_wp2_with fail
   refine(need_any g ws k1 d a b c e f1 _ H2.out _ HX1.out ⟨#[41]⟩).mono ?_;intro r w4 hr;by_cases hs:seesW (tok ws k1) ⟨#[41]⟩=true
   ·have HS:=hid hs;rw[hs] at hr;obtain⟨rfl,hp⟩:=hr;have HP:=hid hp;have HN4:=hid (HN2.out.kept hp.kept (fun _ _ h=>h))
    have HK4:=hid (HK2.out.trans (hp.kept.mono fun i _ h=>(show Mut g f1 i from .inl h)) HM1.out)
    clear hs hp;go_wp2_with fail
    go_ret
    rw[enclosedR,HRES.out];simp only[HAS.out,HS.out];exact⟨rfl,⟨f1,HP.out.stm,HN4.out,HM1.out⟩,HK4.out⟩
   ·have hs2:seesW (tok ws k1) ⟨#[41]⟩=false:=by simpa using hs
    rw[hs2] at hr;obtain⟨rfl,hp⟩:=hr;refine And.intro rfl ?_;rw[enclosedR,HRES.out];simp only[HAS.out,hs2];exact⟨rfl,HK2.out.trans (hp.mono fun i _ h=>(show Mut g f1 i from .inl h)) HM1.out⟩
end
section
open Lib (hid)
open Go.RowKit
abbrev RRes (σ:Type):=Except (Nat × Nat) (Nat × Nat × List Nd × σ)
abbrev LRes2 (σ:Type):=Except (Nat × Nat) (List Nat × Nat × List Nd × σ)
def listG {σ:Type}(ws:List Wd)(t:ByteArray)(R:σ→Nat→List Nd→RRes σ):Nat→List Nat→Nat→List Nd→σ→LRes2 σ
 | 0,_,_,_,_=>.error (0,0)
 | n+1,l,k,nds,s=>if seesW (tok ws k) t then(if 16≤l.length then .error ((tok ws (k+1)).at_,5) else match R s (k+1) nds with
   | .error x=>.error x
   | .ok (v,k',nds',s')=>listG ws t R n (l++[v]) k' nds' s') else .ok (l,k,nds,s)
def listS {σ:Type}(ws:List Wd)(t:ByteArray)(R:σ→Nat→List Nd→RRes σ)(k:Nat)(nds:List Nd)(s:σ):LRes2 σ:=
 match R s k nds with
 | .error x=>.error x
 | .ok (v,k',nds',s')=>listG ws t R 17 [v] k' nds' s'
def IOut {σ:Type}(It:World→Nat→List Nd→(Nat→Prop)→(Nat→Prop)→σ→Prop)(w:World)(D M:Nat→Prop)(res:RRes σ)(r:Ending)(w':World):Prop:=
 match res with
 | .ok (v,k',nds',s')=>r=.returned (.int .i64 (v:Int))∧∃ M',It w' k' nds' (Dn D w) M' s'∧(∀ i,i<w.heap.size→M' i→M i)∧Kept M w w'
 | .error (at_,er)=>r=.panicked (faultP at_ er)∧Kept M w w'
structure ItemS (σ:Type)(F:FuncId)(args:Array Value)(g:Nat)(ws:List Wd)(W0:Nat)(It:World→Nat→List Nd→(Nat→Prop)→(Nat→Prop)→σ→Prop)(R:σ→Nat→List Nd→RRes σ)(ok:Nat→List Nd→Prop):Prop where
 enters:∀(args:Array Value) (w:World),(callFunc F args).run Tryz.prog w=.ok (.enter F args) w
 stable:∀ {w w':World} {k:Nat} {nds:List Nd} {D M:Nat→Prop} {s:σ} {P:Nat→Prop},It w k nds D M s→Kept P w w'→(∀ i,i<w.heap.size→P i→W0≤i∧¬ M i∧¬ D i)→It w' k nds D M s
 mono:∀ {w:World} {k:Nat} {nds:List Nd} {D D' M:Nat→Prop} {s:σ},It w k nds D M s→(∀ i,i<w.heap.size→D i→D' i)→It w k nds D' M s
 msize:∀ {w:World} {k:Nat} {nds:List Nd} {D M:Nat→Prop} {s:σ} {i:Nat},It w k nds D M s→M i→i<w.heap.size
 take:∀ {w:World} {k:Nat} {nds:List Nd} {D M:Nat→Prop} {s:σ} (t:ByteArray),It w k nds D M s→k<ws.length →
  Calls Tryz.prog 146 #[.pointer (some ⟨g,0,none⟩),.string t] w fun r w'=>r=.returned (.bool (seesW (tok ws k) t))∧Kept M w w'∧It w' (adv (tok ws k) t k) nds D M s
 full:∀ {w:World} {k:Nat} {nds:List Nd} {D M:Nat→Prop} {s:σ} (n m:Nat),It w k nds D M s→k<ws.length→m≤n →
  Calls Tryz.prog 147 #[.pointer (some ⟨g,0,none⟩),.int .i64 (n:Int),.int .i64 (m:Int)] w fun r w'=>r=.panicked (faultP (tok ws k).at_ 5)∧Kept M w w'
 calls:∀(w:World) (k:Nat) (nds:List Nd) (D M:Nat→Prop) (s:σ),It w k nds D M s→ok k nds→Calls Tryz.prog F args w fun r w'=>IOut It w D M (R s k nds) r w'
structure OkS {σ:Type}(ws:List Wd)(R:σ→Nat→List Nd→RRes σ)(ok:Nat→List Nd→Prop):Prop where
 lt:∀ k nds,ok k nds→k<ws.length
 next:∀ k nds t,ok k nds→seesW (tok ws k) t=true→ok (k+1) nds
 item:∀ s k nds v k' nds' s',ok k nds→R s k nds=.ok (v,k',nds',s')→ok k' nds'
structure LstS {σ:Type}(It:World→Nat→List Nd→(Nat→Prop)→(Nat→Prop)→σ→Prop)(w w':World)(k:Nat)(nds:List Nd)(D M M0:Nat→Prop)(s:σ)(v:Value)(l:List Nat):Prop where
 it:It w' k nds (fun i=>Dn D w i∧v.ownBlock≠some i) M s
 turn:∀ i,i<w.heap.size→M i→M0 i
 kept:Kept M0 w w'
 own:w'.ownsRow w.heap.size 3 1 v l.length (ints3 l)
 far:∀ q,v.ownBlock=some q→¬ M q
def LOutS {σ:Type}(It:World→Nat→List Nd→(Nat→Prop)→(Nat→Prop)→σ→Prop)(w:World)(D M0:Nat→Prop)(res:LRes2 σ)(r:Ending)(w':World):Prop:=
 match res with
 | .ok (l,k',nds',s')=>∃ v M,r=.returned v∧LstS It w w' k' nds' D M M0 s' v l
 | .error (at_,er)=>r=.panicked (faultP at_ er)∧Kept M0 w w'
section
variable {σ : Type} {F : FuncId} {args : Array Value} {g : Nat} {ws : List Wd} {W0 : Nat} {It : World → Nat → List Nd → (Nat → Prop) → (Nat → Prop) → σ → Prop} {R : σ → Nat → List Nd → RRes σ} {ok : Nat → List Nd → Prop}
variable {w wr w2 w3 w5 : World} {k k' : Nat} {nds nds' : List Nd} {D M M' M0 : Nat → Prop} {s s' : σ} {u : Value} {l : List Nat}
theorem LstS.stp (h:LstS It w wr k nds D M M0 s u l)(hk:Kept M wr w2)(hi:It w2 k' nds (fun i=>Dn D w i∧u.ownBlock≠some i) M s):LstS It w w2 k' nds D M M0 s u l:=
 ⟨hi,h.turn,h.kept.trans hk h.turn,own_kept_ne h.own hk h.far,h.far⟩
theorem LstS.item (hI:ItemS σ F args g ws W0 It R ok)(h:LstS It w w2 k nds D M M0 s u l)(hi:It w3 k' nds' (Dn (fun i=>Dn D w i∧u.ownBlock≠some i) w2) M' s')
  (h3:∀ i,i<w2.heap.size→M' i→M i)(h4:Kept M w2 w3):LstS It w w3 k' nds' D M' M0 s' u l:=by
 have hsz:=h.kept.size;refine⟨hI.mono hi ?_,fun i hi hm=>h.turn i hi (h3 i (by omega) hm),h.kept.trans h4 h.turn,own_kept_ne h.own h4 h.far,fun q hq hm=>h.far q hq (h3 q (h.own.lt q hq).2 hm)⟩
 rintro i _ (hd | hd)
 ·exact hd
 ·exact⟨.inr (by omega),fun e=>by have:=(h.own.lt i e).2;omega⟩
theorem LstS.app (hI:ItemS σ F args g ws W0 It R ok)(hW:W0≤w.heap.size)(h:LstS It w w3 k nds D M M0 s u l){v gg cap:Nat}(hgr:(w3.alloc (.cells #[.int .i64 (v:Int)] 3)).grownBy w5 u.ownBlock)
  (ho:w5.ownsRow w.heap.size 3 1 (.slice (some ⟨gg,0,none⟩) (l.length+1) cap) (l.length+1) (ints3 l++[.int .i64 (v:Int)]))(hat:u.ownBlock=some gg∨gg=w3.heap.size+1) :
  LstS It w w5 k nds D M M0 s (.slice (some ⟨gg,0,none⟩) (l.length+1) cap) (l++[v]):=by
 have hsz:=h.kept.size;have hk:Kept (fun i=>u.ownBlock=some i) w3 w5:=((Kept.refl _ w3).alloc _).grown hgr (fun i _ h=>h)
 have hin:It w5 k nds (fun i=>Dn D w i∧u.ownBlock≠some i) M s:=hI.stable h.it hk fun i _ e=>⟨Nat.le_trans hW (h.own.lt i e).1,h.far i e,fun hd=>hd.2 e⟩
 refine⟨?_,h.turn,h.kept.trans hk (fun i hi e=>by have:=(h.own.lt i e).1;omega),?_,?_⟩
 ·rcases hat with h2 | h2
  ·exact hI.mono hin fun i _ hd=>⟨hd.1,fun e=>hd.2 (by rw[h2];simpa [Value.ownBlock] using e)⟩
  ·have hin2:It w3 k nds (fun i=>Dn D w i∧u.ownBlock≠some i∧(Value.slice (some ⟨gg,0,none⟩) (l.length+1) cap).ownBlock≠some i) M s:=hI.mono h.it fun i hi hd=>⟨hd.1,hd.2,fun e=>by
    have hgi:gg=i:=by simpa [Value.ownBlock] using e
    omega⟩
   exact hI.mono (hI.stable hin2 hk fun i _ e=>⟨Nat.le_trans hW (h.own.lt i e).1,h.far i e,fun hd=>hd.2.1 e⟩) fun i _ hd=>⟨hd.1,hd.2.2⟩
 ·rw[ints3_snoc] at ho;rw[List.length_append,List.length_singleton];exact ho
 ·intro q hq hm;have hgq:gg=q:=by simpa [Value.ownBlock] using hq
  rcases hat with h2 | h2
  ·exact h.far q (by rw[h2,hgq]) hm
  ·have:=hI.msize h.it hm;omega
theorem LstS.start (hI:ItemS σ F args g ws W0 It R ok)(hW:W0≤w.heap.size)(hi:It wr k nds (Dn D w) M s)(hm:∀ i,i<w.heap.size→M i→M0 i)(hk:Kept M0 w wr)(v:Nat) :
  LstS It w (wr.alloc (.cells #[.int .i64 (v:Int)] 3)) k nds D M M0 s (.slice (some ⟨wr.heap.size,0,none⟩) 1 1) [v]:=by
 have hsz:=hk.size;have hin:It wr k nds (fun i=>Dn D w i∧(Value.slice (some ⟨wr.heap.size,0,none⟩) 1 1).ownBlock≠some i) M s:=hI.mono hi fun i hi hd=>⟨hd,fun e=>by
  have:wr.heap.size=i:=by simpa [Value.ownBlock] using e
  omega⟩
 refine⟨hI.stable (P:=fun _=>False) hin ((Kept.refl _ wr).alloc _) (fun _ _ h=>h.elim),hm,hk.alloc _,⟨rfl,.inr ⟨wr.heap.size,1,#[.int .i64 (v:Int)],rfl,hsz,heap_alloc_new wr _,Nat.le_refl _,by simp[maxLen],rfl,rfl⟩⟩,?_⟩
 intro q hq hmq;have hqe:wr.heap.size=q:=by simpa [Value.ownBlock] using hq
 have:=hI.msize hi hmq;omega
end
theorem listG_err {σ:Type}{ws:List Wd}{t:ByteArray}{R:σ→Nat→List Nd→RRes σ}{n k:Nat}{l:List Nat}{nds:List Nd}{s:σ}{x:Nat × Nat}(hs:seesW (tok ws k) t=true)(h16:¬ 16≤l.length)(hr:R s (k+1) nds=.error x) :
  listG ws t R (n+1) l k nds s=.error x:=by rw[listG,if_pos hs,if_neg h16,hr]
theorem listG_ok {σ:Type}{ws:List Wd}{t:ByteArray}{R:σ→Nat→List Nd→RRes σ}{n k v k':Nat}{l:List Nat}{nds nds':List Nd}{s s':σ}(hs:seesW (tok ws k) t=true)(h16:¬ 16≤l.length)(hr:R s (k+1) nds=.ok (v,k',nds',s')) :
  listG ws t R (n+1) l k nds s=listG ws t R n (l++[v]) k' nds' s':=by rw[listG,if_pos hs,if_neg h16,hr]
set_option maxRecDepth 100000 in
set_option maxHeartbeats 4000000 in
theorem listS_any {σ:Type}(F:FuncId)(first caps args:Array Value)(hargs:first++caps=args)(g:Nat)(ws:List Wd)(W0:Nat)(It:World→Nat→List Nd→(Nat→Prop)→(Nat→Prop)→σ→Prop)(R:σ→Nat→List Nd→RRes σ)(ok:Nat→List Nd→Prop)
  (hI:ItemS σ F args g ws W0 It R ok)(hK:OkS ws R ok)(t:ByteArray)(w:World)(k:Nat)(nds:List Nd)(D M:Nat→Prop)(s:σ)(hW:W0≤w.heap.size)(h:It w k nds D M s)(hok:ok k nds) :
  Calls Tryz.prog 208 #[.pointer (some ⟨g,0,none⟩),.string t,.func (.func F) first caps] w fun r w'=>LOutS It w D M (listS ws t R k nds s) r w':=by
 obtain⟨i0,hi,hz0,hz1,hz2⟩:=info_parts info_int3;have HI:=hid hi;have HZ0:=hid hz0;have HZ1:=hid hz1;have HZ2:=hid hz2;have HR:=hid hI;have HK:=hid hK;have hF:∀(w:World),(callFunc F (first++caps)).run Tryz.prog w=.ok (.enter F args) w:=fun w=>by rw[hargs];exact hI.enters args w
 have H:=hid h;have HOK:=hid hok;have HW:=hid hW;clear hi hz0 hz1 hz2 hI hK h hok hargs hW;go_enter Tryz.func208,Tryz.ntmps208
 go_wp2_with fail
 refine(HR.out.calls w k nds D M s H.out HOK.out).mono ?_;intro r w1 ho;rcases hres:R s k nds with⟨at_,er⟩ | ⟨v,k1,nds1,s1⟩
 ·rw[hres] at ho;obtain⟨rfl,hk2⟩:=ho;refine And.intro rfl ?_;rw[listS,hres];exact⟨rfl,hk2⟩
 ·have hok1:=HK.out.item _ _ _ _ _ _ _ HOK.out hres;have HL:Hid (listS ws t R k nds s=listG ws t R 17 [v] k1 nds1 s1):=by show _=_;rw[listS,hres]
  rw[hres] at ho;obtain⟨rfl,M1,hi1,hm1,hk1⟩:=ho;have hsz1:=hk1.size;have HST1:=hid (LstS.start HR.out HW.out hi1 hm1 hk1 v);have HOK1:=hid hok1;clear hres hi1 hm1 hk1 hok1;go_wp2_with fail
  go_loopg [7] 17 (fun fz u wr=>∃ (l:List Nat) (k2:Nat) (nds2:List Nd) (s2:σ) (M2:Nat→Prop),l.length+fz=18∧l.length≤16∧0<l.length∧Hid (listS ws t R k nds s=listG ws t R fz l k2 nds2 s2)∧Hid (ok k2 nds2)∧Hid (LstS It w wr k2 nds2 D M2 M s2 u l)∧Hid (∃ A n,u=.slice A l.length n))
  case atStart=>exact⟨[v],k1,nds1,s1,M1,rfl,by simp,by simp,HL,HOK1,HST1,hid ⟨_,_,rfl⟩⟩
  case round =>
   obtain⟨l,k2,nds2,s2,M2,hlf,hl16,hl0,HLF,HOK2,HST,HU⟩:=hrel;obtain⟨fz,rfl⟩:∃ m,gk=m+1:=⟨gk-1,by omega⟩
   obtain⟨UA,un,rfl⟩:=HU.out;clear HU;have hlt2:=HK.out.lt _ _ HOK2.out;go_wp2_with fail
   refine(HR.out.take t HST.out.it hlt2).mono ?_;rintro r w2 ⟨rfl,hkp,hit⟩;by_cases hs:seesW (tok ws k2) t=true
   ·rw[adv_yes hs] at hit;rw[hs];have HST2:=hid (HST.out.stp hkp hit);have hok3:=HK.out.next _ _ _ HOK2.out hs;have hlt3:=HK.out.lt _ _ hok3;have HOK3:=hid hok3;have HS:=hid hs;clear hs hkp hit hok3;by_cases h16:16≤l.length
    ·have HLL:Hid (listG ws t R (fz+1) l k2 nds2 s2=.error ((tok ws (k2+1)).at_,5)):=by show _=_;rw[listG,if_pos HS.out,if_pos h16]
     go_wp2_with fail
     refine(HR.out.full l.length 16 HST2.out.it hlt3 h16).mono ?_;rintro r w3 ⟨rfl,hk3⟩;refine And.intro rfl ?_;rw[HLF.out,HLL.out];exact⟨rfl,HST2.out.kept.trans hk3 HST2.out.turn⟩
    ·have hs:=HS.out;go_wp2_with fail
     refine(room_ok l.length 16 (by omega) (by omega) _ _).mono ?_
     rintro r w3 ⟨rfl,rfl⟩;go_wp2_with fail
     refine(HR.out.calls _ (k2+1) nds2 _ _ s2 HST2.out.it HOK3.out).mono ?_;intro r w3 ho;rcases hres:R s2 (k2+1) nds2 with⟨at_,er⟩ | ⟨v3,k3,nds3,s3⟩
     ·rw[hres] at ho;obtain⟨rfl,hk3⟩:=ho;refine And.intro rfl ?_;rw[HLF.out,listG_err hs h16 hres];exact⟨rfl,HST2.out.kept.trans hk3 HST2.out.turn⟩
     ·have hok4:=HK.out.item _ _ _ _ _ _ _ HOK3.out hres;have HL4:Hid (listS ws t R k nds s=listG ws t R fz (l++[v3]) k3 nds3 s3):=by show _=_;rw[HLF.out,listG_ok hs h16 hres]
      rw[hres] at ho;obtain⟨rfl,M3,hi3,hm3,hk3⟩:=ho;have HST3:=hid (HST2.out.item HR.out hi3 hm3 hk3);have HOK4:=hid hok4;have hsz3:=HST3.out.kept.size;clear hres hi3 hm3 hk3 hok4;go_wp2_with (at_builtin;refine unhid ?_)
      refine hid ?_;refine wpList_append_lies (w3.alloc (.cells #[.int .i64 (v3:Int)] 3)) rfl _ _ _ rfl w.heap.size 3 i0 _ 1 8 Tryz.underlying46 HI.out HZ0.out HZ1.out HZ2.out rfl (by decide) (.slice UA l.length un) l.length (ints3 l) rfl (HST3.out.own.alloc _) ⟨w3.heap.size,0,none⟩ 1 1 [.int .i64 (v3:Int)] rfl rfl (World.news_of_block (cs := #[.int .i64 (v3:Int)]) (t:=3) (fr:=(0,0)) (heap_alloc_new w3 _)) (by simp[Value.oneCell']) (by omega) (by simp only[maxLen];omega) (by omega) (by simp;omega) (w3.heap.size+1) (by simp) ?_
      intro gg cap w5 hown5 hgrow5 hat5 hlt5;have HST5:=hid (HST3.out.app HR.out HW.out hgrow5 hown5 hat5);clear hown5 hgrow5 hat5;go_wp2_with fail
      go_roundg fz
      case rel=>exact⟨l++[v3],k3,nds3,s3,M3,by simp;omega,by simp;omega,by simp,HL4,HOK4,HST5,hid ⟨some ⟨gg,0,none⟩,cap,by rw[List.length_append,List.length_singleton]⟩⟩
      case measure=>omega
   ·have hs2:seesW (tok ws k2) t=false:=by simpa using hs
    rw[adv_no hs2] at hit;rw[hs2];have HST2:=hid (HST.out.stp hkp hit);have HLL:Hid (listG ws t R (fz+1) l k2 nds2 s2=.ok (l,k2,nds2,s2)):=by show _=_;rw[listG,if_neg hs]
    clear hs hs2 hkp hit;go_wp2_with fail
    go_ret
    rw[HLF.out,HLL.out];exact⟨_,M2,rfl,HST2.out⟩
end
section
open Lib (hid)
open Go.RowKit
def hasS (l:List ByteArray)(x:ByteArray):Bool:=l.any fun y=>decide (x=y)
def IdxOut (l:List ByteArray)(x:ByteArray)(w:World)(e:Ending)(w':World):Prop:=∃ i:Int,e=.returned (.int .i64 i)∧decide (0≤i)=hasS l x∧w'=w
theorem hasS_miss {l:List ByteArray}{x:ByteArray}(h:∀ y∈l,¬ x=y):hasS l x=false:=by
 rw[hasS,List.any_eq_false];intro y hy;simp[h y hy]
theorem hasS_hit {l:List ByteArray}{x y:ByteArray}(h:y∈l)(he:x=y):hasS l x=true:=by
 rw[hasS,List.any_eq_true];exact⟨y,h,by simp[he]⟩
set_option maxHeartbeats 1000000 in
theorem index_any (A:Option Addr)(c:Nat)(l:List ByteArray)(x:ByteArray)(w:World)(hl:l.length≤70000)(hc:0<l.length→∃ b o,A=some ⟨b,o,none⟩∧∀(j:Nat) (y:ByteArray),l[j]? = some y→w.cell? ⟨b,o+j,none⟩=some (.string y)) :
  Calls Tryz.prog 205 #[.slice A l.length c,.string x] w (IdxOut l x w):=by
 have HC:=hid hc;clear hc;go_enter Tryz.func205,Tryz.ntmps205
 go_wp2_with fail
 go_loop [5,8] (fun _ i=>∃ k:Nat,k≤l.length∧i=.int .i64 (k:Int)∧Hid (∀ y∈l.take k,¬ x=y)) (fun _ i=>match i with | .int _ m=>l.length-m.toNat | _=>0)
 case atStart=>exact⟨0,Nat.zero_le _,rfl,hid (by simp)⟩
 case round =>
  obtain⟨k,hk,rfl,HNE⟩:=hrel;by_cases hlt:k<l.length
  ·obtain⟨b,o,hA,hcell⟩:=HC.out (by omega)
   have hx:l[k]? = some l[k]:=List.getElem?_eq_getElem hlt;obtain⟨y,hy⟩:∃ y,l[k]=y:=⟨_,rfl⟩;rw[hy] at hx;have c0:=hcell k y hx;subst hA;have HX:=hid hx;clear hcell hx hy;by_cases he:x=y
   ·have hb:(x.toList==y.toList)=true:=by simp[he]
    have HE:=hid he;clear he;go_wp2_with fail
    go_ret
    refine⟨(k:Int),rfl,?_,rfl⟩;rw[hasS_hit (List.mem_of_getElem? HX.out) HE.out];simp
   ·have hb:=text_eq he;have HE:=hid he;clear he;go_wp2_with fail
    go_round
    case rel =>
     refine⟨k+1,by omega,by go_num,hid ?_⟩
     intro z hz;rw[List.take_add_one,HX.out] at hz;rcases List.mem_append.1 hz with hz | hz
     ·exact HNE.out z hz
     ·simp at hz;subst hz;exact HE.out
    case measure=>simp;omega
  ·go_wp2_with fail
   go_ret
   refine⟨-1,rfl,?_,rfl⟩;have:k=l.length:=by omega
   have h:=HNE.out;rw[this,List.take_length] at h;rw[hasS_miss h]
   rfl
theorem contains_any (A:Option Addr)(c:Nat)(l:List ByteArray)(x:ByteArray)(w:World)(hl:l.length≤70000)(hc:0<l.length→∃ b o,A=some ⟨b,o,none⟩∧∀(j:Nat) (y:ByteArray),l[j]? = some y→w.cell? ⟨b,o+j,none⟩=some (.string y)) :
  Calls Tryz.prog 184 #[.slice A l.length c,.string x] w fun e w'=>e=.returned (.bool (hasS l x))∧w'=w:=by
 have HC:=hid hc;clear hc;go_enter Tryz.func184,Tryz.ntmps184
 go_wp2_with fail
 refine(index_any A c l x w hl HC.out).mono ?_;rintro e w' ⟨i,rfl,hi,rfl⟩;have HI:=hid hi;clear hi;go_wp2_with fail
 go_ret
 exact⟨by rw[← HI.out];rfl,rfl⟩
end
section
open Go.RowKit
abbrev badAt {α:Type}(ws:List Wd)(k:Nat):Except (Nat × Nat) α:=.error ((tok ws k).at_,30)
def itemN (ws:List Wd)(kd:Nat)(sign:ByteArray)(R:Nat→List Nd→Res)(s:List ByteArray)(k:Nat)(nds:List Nd):RRes (List ByteArray):=
 if (tok ws k).kind=kd then(if hasS s (tok ws k).text=true then badAt ws k else match behindR ws sign R (k+1) nds with
  | .error x=>.error x
  | .ok (v,k',nds')=>.ok (v,k',nds',s++[(tok ws k).text])) else badAt ws k
abbrev LRes3:=LRes2 (List ByteArray)
def namedR (ws:List Wd)(kd:Nat)(sign:ByteArray)(R:Nat→List Nd→Res)(k:Nat)(nds:List Nd):LRes3:=listS ws ⟨#[44]⟩ (itemN ws kd sign R) k nds []
def recordR (ws:List Wd)(kind:Nat)(R:Nat→List Nd→Res)(k:Nat)(nds:List Nd):Res:=
 if seesW (tok ws k) ⟨#[123]⟩ then
  if seesW (tok ws (k+1)) ⟨#[125]⟩ then addR ws (k+2) nds ⟨kind,0,⟨#[]⟩,⟨#[]⟩,[],[]⟩
  else match namedR ws 1 ⟨#[58]⟩ R (k+1) nds with
   | .error x=>.error x
   | .ok (l,k',nds',ns)=>if seesW (tok ws k') ⟨#[125]⟩ then addR ws (k'+1) nds' ⟨kind,0,⟨#[]⟩,⟨#[]⟩,ns,l⟩ else badAt ws k'
 else badAt ws k
def partR (ws:List Wd)(Rt:Nat→List Nd→Res)(k:Nat)(nds:List Nd):Res:=
 if (tok ws k).kind=4 then addR ws (k+1) nds ⟨5,0,⟨#[]⟩,(tok ws k).text,[],[]⟩
 else if (tok ws k).kind=2 then addR ws (k+1) nds ⟨6,0,⟨#[]⟩,(tok ws k).text,[],[]⟩
 else if (tok ws k).kind=1 then
  if seesW (tok ws (k+1)) ⟨#[58,58]⟩ then
   if (tok ws (k+2)).kind=2 then addR ws (k+3) nds ⟨6,0,(tok ws k).text,(tok ws (k+2)).text,[],[]⟩ else badAt ws (k+2)
  else badAt ws (k+1)
 else if seesW (tok ws k) ⟨#[123]⟩ then recordR ws 7 Rt k nds
 else if seesW (tok ws k) ⟨#[40]⟩ then match behindR ws ⟨#[40]⟩ Rt k nds with
  | .error x=>.error x
  | .ok (v,k1,nds1)=>if seesW (tok ws k1) ⟨#[41]⟩ then .ok (v,k1+1,nds1) else badAt ws k1
 else keywordR ws typK k nds
def typeR (ws:List Wd):Nat→Nat→List Nd→Res
 | 0,k,_=>.error ((tok ws k).at_,31)
 | m+1,k,nds=>unionR ws (partR ws (typeR ws m)) k nds
def argsR (ws:List Wd)(Rx:Nat→List Nd→Res)(md nm:ByteArray)(l:List Nat)(k:Nat)(nds:List Nd):Res:=
 if seesW (tok ws k) ⟨#[40]⟩ then
  if seesW (tok ws (k+1)) ⟨#[41]⟩ then addR ws (k+2) nds ⟨19,l.length,md,nm,[],l⟩
  else match listR ws ⟨#[44]⟩ Rx (k+1) nds with
   | .error x=>.error x
   | .ok (l2,k2,nds2)=>if seesW (tok ws k2) ⟨#[41]⟩ then addR ws (k2+1) nds2 ⟨19,l.length,md,nm,[],l++l2⟩ else badAt ws k2
 else badAt ws k
def callR (ws:List Wd)(Rx Rt:Nat→List Nd→Res)(md nm:ByteArray)(k:Nat)(nds:List Nd):Res:=
 if seesW (tok ws k) ⟨#[91]⟩ then match listR ws ⟨#[44]⟩ Rt (k+1) nds with
  | .error x=>.error x
  | .ok (l,k1,nds1)=>if seesW (tok ws k1) ⟨#[93]⟩ then argsR ws Rx md nm l (k1+1) nds1 else badAt ws k1
 else argsR ws Rx md nm [] k nds
def varOrCallR (ws:List Wd)(Rx Rt:Nat→List Nd→Res)(k:Nat)(nds:List Nd):Res:=
 if (tok ws k).kind=1 then
  if seesW (tok ws (k+1)) ⟨#[58,58]⟩ then
   if (tok ws (k+2)).kind=1 then callR ws Rx Rt (tok ws k).text (tok ws (k+2)).text (k+3) nds else badAt ws (k+2)
  else if seesW (tok ws (k+1)) ⟨#[91]⟩ then callR ws Rx Rt ⟨#[]⟩ (tok ws k).text (k+1) nds
  else if seesW (tok ws (k+1)) ⟨#[40]⟩ then callR ws Rx Rt ⟨#[]⟩ (tok ws k).text (k+1) nds
  else addR ws (k+1) nds ⟨16,0,⟨#[]⟩,(tok ws k).text,[],[]⟩
 else badAt ws k
def atomR (ws:List Wd)(Rx Rt:Nat→List Nd→Res)(k:Nat)(nds:List Nd):Res:=
 if (tok ws k).kind=3 then addR ws (k+1) nds ⟨11,(tok ws k).num,⟨#[]⟩,⟨#[]⟩,[],[]⟩
 else if (tok ws k).kind=4 then addR ws (k+1) nds ⟨12,0,⟨#[]⟩,(tok ws k).text,[],[]⟩
 else if (tok ws k).kind=1 then varOrCallR ws Rx Rt k nds
 else if seesW (tok ws k) ⟨#[123]⟩ then recordR ws 17 Rx k nds
 else if seesW (tok ws k) ⟨#[40]⟩ then enclosedR ws Rx Rt k nds
 else keywordR ws conK k nds
def isVar (nds:List Nd)(v:Nat):Bool:=match nds[v]? with
 | some x=>decide (x.kind=16)
 | none=>false
def testableS (nds:List Nd)(v:Nat):Bool:=match nds[v]? with
 | some x=>if x.kind=18 then isVar nds (x.l.headD 0) else decide (x.kind=16)
 | none=>false
def shapeS (x:Wd):Option ByteArray:=
 if x.kind=4 then some (⟨#[39]⟩++x.text)
 else if seesW x ⟨#[110,117,108,108]⟩ then some x.text
 else if seesW x ⟨#[98,111,111,108]⟩ then some x.text
 else if seesW x ⟨#[105,110,116]⟩ then some x.text
 else if seesW x ⟨#[114,101,99]⟩ then some x.text
 else none
def testR (ws:List Wd)(R:Nat→List Nd→Res)(k:Nat)(nds:List Nd):Res:=
 match R k nds with
 | .error x=>.error x
 | .ok (v,k1,nds1)=>if seesW (tok ws k1) ⟨#[105,115]⟩ then
   if testableS nds1 v then match shapeS (tok ws (k1+1)) with
    | some t=>addR ws (k1+2) nds1 ⟨21,0,⟨#[]⟩,t,[],[v]⟩
    | none=>badAt ws (k1+1)
   else badAt ws k1
  else .ok (v,k1,nds1)
def letR (ws:List Wd)(Rx:Nat→List Nd→Res)(k:Nat)(nds:List Nd):Res:=
 if (tok ws k).kind=1 then match behindR ws ⟨#[61]⟩ Rx (k+1) nds with
  | .error x=>.error x
  | .ok (a,k1,nds1)=>match behindR ws ⟨#[105,110]⟩ Rx k1 nds1 with
   | .error x=>.error x
   | .ok (b,k2,nds2)=>addR ws k2 nds2 ⟨22,0,⟨#[]⟩,(tok ws k).text,[],[a,b]⟩
 else badAt ws k
def ifR (ws:List Wd)(Rx:Nat→List Nd→Res)(k:Nat)(nds:List Nd):Res:=
 match Rx k nds with
 | .error x=>.error x
 | .ok (a,k1,nds1)=>match behindR ws ⟨#[116,104,101,110]⟩ Rx k1 nds1 with
  | .error x=>.error x
  | .ok (b,k2,nds2)=>match behindR ws ⟨#[101,108,115,101]⟩ Rx k2 nds2 with
   | .error x=>.error x
   | .ok (c,k3,nds3)=>addR ws k3 nds3 ⟨20,0,⟨#[]⟩,⟨#[]⟩,[],[a,b,c]⟩
def letOrIfR (ws:List Wd)(Rx Rt:Nat→List Nd→Res)(k:Nat)(nds:List Nd):Res:=
 if seesW (tok ws k) ⟨#[108,101,116]⟩ then letR ws Rx (k+1) nds
 else if seesW (tok ws k) ⟨#[105,102]⟩ then ifR ws Rx (k+1) nds
 else testR ws (sumR ws (primR ws (atomR ws Rx Rt))) k nds
def exprR (ws:List Wd):Nat→Nat→List Nd→Res
 | 0,k,_=>.error ((tok ws k).at_,31)
 | m+1,k,nds=>letOrIfR ws (exprR ws m) (typeR ws m) k nds
end
section
open Go.RowKit
def NOk (nds:List Nd):Prop:=∀(i:Nat) (x:Nd),nds[i]? = some x→x.kind=18→∃ j,x.l=[j]∧j<i
structure OkP (ws:List Wd)(k:Nat)(nds:List Nd):Prop where
 lt:k<ws.length
 room:nds.length≤4000
 ok:NOk nds
def GoodR (ws:List Wd)(R:Nat→List Nd→Res):Prop:=∀ k nds v k' nds',OkP ws k nds→R k nds=.ok (v,k',nds')→k<k'∧OkP ws k' nds'∧v<nds'.length∧nds.length<nds'.length
theorem NOk.snoc {nds:List Nd}{x:Nd}(h:NOk nds)(hx:x.kind=18→∃ j,x.l=[j]∧j<nds.length):NOk (nds++[x]):=by
 intro i y hy hk;by_cases hi:i<nds.length
 ·rw[List.getElem?_append_left hi] at hy;exact h i y hy hk
 ·rw[List.getElem?_append_right (by omega)] at hy
  obtain⟨h0,rfl⟩:i-nds.length=0∧x=y:=by
   rcases hn:i-nds.length with _ | n
   ·rw[hn] at hy;exact⟨rfl,by simpa using hy⟩
   ·rw[hn] at hy;simp at hy
  obtain⟨j,h1,h2⟩:=hx hk;exact⟨j,h1,by omega⟩
theorem addR_good {ws:List Wd}{k:Nat}{nds:List Nd}{x:Nd}{v k':Nat}{nds':List Nd}(hk:k<ws.length)(h4:nds.length≤4000)(hn:NOk nds)(hx:x.kind=18→∃ j,x.l=[j]∧j<nds.length)
  (h:addR ws k nds x=.ok (v,k',nds')):k'=k∧OkP ws k nds'∧v<nds'.length∧nds.length<nds'.length:=by
 rw[addR] at h;split at h
 ·cases h
 ·rename_i hne;simp at h;obtain⟨rfl,rfl,rfl⟩:=h;refine⟨rfl,⟨hk,?_,hn.snoc hx⟩,by simp,by simp⟩
  rw[List.length_append,List.length_singleton];omega
theorem kind_next {ws:List Wd}(hE:EndW ws){k kd:Nat}(hk:k<ws.length)(h:(tok ws k).kind=kd)(h7:kd≠7):k+1<ws.length:=hE k hk (by rw[h];exact h7)
theorem behindR_ok {ws:List Wd}(hE:EndW ws){R:Nat→List Nd→Res}(hR:GoodR ws R)(t:ByteArray):GoodR ws (behindR ws t R):=by
 intro k nds v k' nds' h0 h;rw[behindR] at h;split at h
 ·rename_i hs;obtain⟨h1,h2,h3,h4⟩:=hR _ _ _ _ _ ⟨sees_next hE h0.lt hs,h0.room,h0.ok⟩ h;exact⟨by omega,h2,h3,h4⟩
 ·cases h
theorem okR_of {ws:List Wd}(hE:EndW ws){R:Nat→List Nd→Res}(hR:GoodR ws R):OkR ws R (OkP ws):=
 ⟨fun _ _ h=>h.lt,fun _ _ _ h hs=>⟨sees_next hE h.lt hs,h.room,h.ok⟩,fun _ _ _ _ _ h0 h=>(hR _ _ _ _ _ h0 h).2.1,fun _ _ _ _ _ h0 h=>(hR _ _ _ _ _ h0 h).1,fun _ _ h=>h.room⟩
theorem listF_len {ws:List Wd}{R:Nat→List Nd→Res}(hR:GoodR ws R)(hE:EndW ws)(t:ByteArray):∀(n:Nat) (l:List Nat) (k:Nat) (nds:List Nd) (l':List Nat) (k':Nat) (nds':List Nd),
  OkP ws k nds→listF ws t R n l k nds=.ok (l',k',nds')→nds.length≤nds'.length∧(l.length≤16→l'.length≤16)
 | 0,_,_,_,_,_,_,_,h=>by simp[listF] at h
 | n+1,l,k,nds,l',k',nds',h0,h=>by
  rw[listF] at h;split at h
  ·rename_i hs;split at h
   ·cases h
   ·split at h
    ·cases h
    ·rename_i h16 v k1 nds1 hr;obtain⟨q1,q2,q3,q4⟩:=hR _ _ _ _ _ ⟨sees_next hE h0.lt hs,h0.room,h0.ok⟩ hr;obtain⟨p1,p2⟩:=listF_len hR hE t n _ _ _ _ _ _ q2 h;exact⟨by omega,fun _=>p2 (by rw[List.length_append,List.length_singleton];omega)⟩
  ·simp at h;obtain⟨rfl,rfl,rfl⟩:=h;exact⟨Nat.le_refl _,fun h=>h⟩
theorem listR_len {ws:List Wd}{R:Nat→List Nd→Res}(hR:GoodR ws R)(hE:EndW ws)(t:ByteArray){k:Nat}{nds:List Nd}{l':List Nat}{k':Nat}{nds':List Nd}(h0:OkP ws k nds)(h:listR ws t R k nds=.ok (l',k',nds')) :
  OkP ws k' nds'∧k<k'∧0<l'.length∧l'.length≤16∧nds.length<nds'.length:=by
 obtain⟨q1,q2,q3⟩:=listR_good (okR_of hE hR) t h0 h;refine⟨q1,q2,q3,?_⟩;rw[listR] at h;split at h
 ·cases h
 ·rename_i v k1 nds1 hr;obtain⟨p1,p2,p3,p4⟩:=hR _ _ _ _ _ h0 hr;obtain⟨r1,r2⟩:=listF_len hR hE t _ _ _ _ _ _ _ p2 h;exact⟨r2 (by simp),by omega⟩
theorem unionR_good {ws:List Wd}(hE:EndW ws){R:Nat→List Nd→Res}(hR:GoodR ws R):GoodR ws (unionR ws R):=by
 intro k nds v k' nds' h0 h;rw[unionR] at h;split at h
 ·cases h
 ·rename_i l k1 nds1 hr;obtain⟨q1,q2,q3,_,q5⟩:=listR_len hR hE _ h0 hr;split at h
  ·rename_i h1;simp at h;obtain⟨rfl,rfl,rfl⟩:=h;refine⟨q2,q1,?_,q5⟩;obtain⟨x,rfl⟩:∃ x,l=[x]:=List.length_eq_one_iff.1 h1;rw[listR] at hr;split at hr
   ·cases hr
   ·rename_i v k2 nds2 hr2;obtain⟨p1,p2,p3,p4⟩:=hR _ _ _ _ _ h0 hr2;have hle:=(listF_len hR hE _ _ _ _ _ _ _ _ p2 hr).1;have:x=v:=by
     rw[listF] at hr;split at hr
     ·split at hr
      ·cases hr
      ·split at hr
       ·cases hr
       ·rename_i v3 k3 nds3 hr3;have:=(listF_good (okR_of hE hR) _ _ _ _ _ _ _ _ (hR _ _ _ _ _ ⟨sees_next hE p2.lt (by assumption),p2.room,p2.ok⟩ hr3).2.1 hr).2.2
        simp at this
     ·simp at hr;exact hr.1.symm
    show x<_
    omega
  ·obtain⟨rfl,p2,p3,p4⟩:=addR_good q1.lt q1.room q1.ok (fun h=>by cases h) h
   exact⟨q2,p2,p3,by omega⟩
end
section
open Go.RowKit
def NeedM (w:World)(g:Nat)(ws:List Wd)(k d:Nat)(a b c e f:Value)(nds:List Nd)(D:Nat→Prop)(ok:Bool)(at_:Nat)(v:Value)(r:Ending)(w':World):Prop:=
 match ok with
 | true=>r=.returned v∧Mde w w' g ws k d a b c e f nds D
 | false=>r=.panicked (faultP at_ 30)∧Kept (Mut g f) w w'
structure MdeL (w w':World)(g:Nat)(ws:List Wd)(k d:Nat)(a b c e f:Value)(nds:List Nd)(D:Nat→Prop)(nv lv:Value)(ns:List ByteArray)(l:List Nat):Prop where
 ex:∃ f',Stm w' g ws k d a b c e f'∧Nds w' g f' nds (Dn D w)∧(∀ i,i<w.heap.size→Mut g f' i→Mut g f i)∧SSq w' (Bad g f' (Dn D w)) nv ns∧ISq w' (Bad g f' (Dn D w)) lv l
 kept:Kept (Mut g f) w w'
section
variable {w w1 w2 w' : World} {g k k' d : Nat} {ws : List Wd} {a b c e f : Value} {nds nds' : List Nd} {D : Nat → Prop} {F : FuncId} {R : Nat → List Nd → Res} {ok : Nat → List Nd → Prop} {res : Res} {r : Ending} {v at_ er : Nat}
theorem Out.err (h:res=.error (at_,er))(hk:Kept (Mut g f) w w'):Out w g ws d a b c e f D res (.panicked (faultP at_ er)) w':=by subst h;exact⟨rfl,hk⟩
theorem Out.done (h:res=.ok (v,k',nds'))(hM:Mde w w' g ws k' d a b c e f nds' D):Out w g ws d a b c e f D res (.returned (.int .i64 (v:Int))) w':=by subst h;exact⟨rfl,hM⟩
theorem Mde.refl (h:Stm w g ws k d a b c e f)(hn:Nds w g f nds D):Mde w w g ws k d a b c e f nds D:=
 ⟨⟨f,h,hn.mono fun _ _ h=>.inl h,fun _ _ h=>h⟩,Kept.refl _ _⟩
theorem Rule.from_ (hR:Rule F g ws d a b c e R ok)(hM:Mde w w1 g ws k d a b c e f nds D)(h0:ok k nds) :
  Calls Tryz.prog F #[.pointer (some ⟨g,0,none⟩)] w1 fun r w2=>Out w g ws d a b c e f D (R k nds) r w2:=by
 obtain⟨⟨f1,h1,hn1,hm1⟩,hk1⟩:=hM;exact(hR.calls w1 f1 k nds _ h1 hn1 h0).mono fun _ _ ho=>ho.behind hk1 hm1
theorem Mde.behind_from (hM:Mde w w1 g ws k d a b c e f nds D)(hR:Rule F g ws d a b c e R ok)(hk:k<ws.length)(t:ByteArray)(hok:seesW (tok ws k) t=true→ok (k+1) nds) :
  Calls Tryz.prog 188 #[.pointer (some ⟨g,0,none⟩),.string t,.func (.func F) #[.pointer (some ⟨g,0,none⟩)] #[]] w1 fun r w2=>Out w g ws d a b c e f D (behindR ws t R k nds) r w2:=by
 obtain⟨⟨f1,h1,hn1,hm1⟩,hk1⟩:=hM;exact(behind_any F g ws d a b c e R ok hR t w1 f1 k nds _ h1 hn1 hk hok).mono fun _ _ ho=>ho.behind hk1 hm1
theorem Mde.take_from (hM:Mde w w1 g ws k d a b c e f nds D)(hk:k<ws.length)(t:ByteArray) :
  Calls Tryz.prog 146 #[.pointer (some ⟨g,0,none⟩),.string t] w1 fun r w2=>r=.returned (.bool (seesW (tok ws k) t))∧Mde w w2 g ws (adv (tok ws k) t k) d a b c e f nds D:=by
 obtain⟨⟨f1,h1,hn1,hm1⟩,hk1⟩:=hM;exact(take_any g ws k d a b c e f1 w1 h1 _ (tok_at hk) t).mono fun _ _ h=>⟨h.1,(Mde.of_stp h.2 hn1).behind hk1 hm1⟩
theorem Mde.sees_from (hM:Mde w w1 g ws k d a b c e f nds D)(hk:k<ws.length)(t:ByteArray) :
  Calls Tryz.prog 149 #[.pointer (some ⟨g,0,none⟩),.string t] w1 fun r w2=>r=.returned (.bool (seesW (tok ws k) t))∧Mde w w2 g ws k d a b c e f nds D:=by
 obtain⟨⟨f1,h1,hn1,hm1⟩,hk1⟩:=hM;exact(sees_any g ws k d a b c e f1 w1 h1 _ (tok_at hk) t).mono fun _ _ h=>⟨h.1,(Mde.of_below h.2 h1 hn1).behind hk1 hm1⟩
theorem Mde.has_from (hM:Mde w w1 g ws k d a b c e f nds D)(hk:k<ws.length)(kd:Nat) :
  Calls Tryz.prog 152 #[.pointer (some ⟨g,0,none⟩),.int .i64 (kd:Int)] w1 fun r w2=>r=.returned (.bool (decide ((tok ws k).kind=kd)))∧Mde w w2 g ws k d a b c e f nds D:=by
 obtain⟨⟨f1,h1,hn1,hm1⟩,hk1⟩:=hM;exact(has_any g ws k d a b c e f1 w1 h1 _ (tok_at hk) kd).mono fun _ _ h=>⟨h.1,(Mde.of_below h.2 h1 hn1).behind hk1 hm1⟩
theorem Mde.last_from (hM:Mde w w1 g ws (k+1) d a b c e f nds D)(hk:k<ws.length) :
  Calls Tryz.prog 204 #[.pointer (some ⟨g,0,none⟩)] w1 fun r w2=>r=.returned (wtup (tok ws k))∧Mde w w2 g ws (k+1) d a b c e f nds D:=by
 obtain⟨⟨f1,h1,hn1,hm1⟩,hk1⟩:=hM;exact(last_any g ws k d a b c e f1 w1 h1 _ (tok_at hk)).mono fun _ _ h=>⟨h.1,(Mde.of_below h.2 h1 hn1).behind hk1 hm1⟩
theorem Mde.fail_from (hM:Mde w w1 g ws k d a b c e f nds D)(hk:k<ws.length)(er:Nat) :
  Calls Tryz.prog 153 #[.pointer (some ⟨g,0,none⟩),.int .i64 (er:Int)] w1 fun r w2=>r=.panicked (faultP (tok ws k).at_ er)∧Kept (Mut g f) w w2:=by
 obtain⟨⟨f1,h1,hn1,hm1⟩,hk1⟩:=hM;exact(fail_any er g ws k d a b c e f1 w1 h1 _ (tok_at hk)).mono fun _ _ h=>⟨h.1,hk1.trans (Kept.of_below h.2 (Mut g f1)) hm1⟩
theorem Mde.full_from (hM:Mde w w1 g ws k d a b c e f nds D)(hk:k<ws.length)(n m:Nat)(h:m≤n) :
  Calls Tryz.prog 147 #[.pointer (some ⟨g,0,none⟩),.int .i64 (n:Int),.int .i64 (m:Int)] w1 fun r w2=>r=.panicked (faultP (tok ws k).at_ 5)∧Kept (Mut g f) w w2:=by
 obtain⟨⟨f1,h1,hn1,hm1⟩,hk1⟩:=hM;exact(room_full n m h g ws k d a b c e f1 w1 h1 _ (tok_at hk)).mono fun _ _ h=>⟨h.1,hk1.trans (Kept.of_below h.2 (Mut g f1)) hm1⟩
theorem NeedM.of {f1:Value}{o:Bool}{at_:Nat}{vv:Value}{r:Ending}(hn1:Nds w1 g f1 nds (Dn D w))(hm1:∀ i,i<w.heap.size→Mut g f1 i→Mut g f i)(hk1:Kept (Mut g f) w w1)(h:needR w1 g ws k d a b c e f1 o at_ vv r w2) :
  NeedM w g ws (k+1) d a b c e f nds D o at_ vv r w2:=by
 cases o with
 | true=>exact⟨h.1,(Mde.of_stp h.2 hn1).behind hk1 hm1⟩
 | false=>exact⟨h.1,hk1.trans (h.2.mono fun i _ h=>(show Mut g f1 i from .inl h)) hm1⟩
theorem Mde.need_from (hM:Mde w w1 g ws k d a b c e f nds D)(hk:k<ws.length)(t:ByteArray) :
  Calls Tryz.prog 144 #[.pointer (some ⟨g,0,none⟩),.string t] w1 fun r w2=>NeedM w g ws (k+1) d a b c e f nds D (seesW (tok ws k) t) (tok ws k).at_ (.tuple #[]) r w2:=by
 obtain⟨⟨f1,h1,hn1,hm1⟩,hk1⟩:=hM;exact(need_any g ws k d a b c e f1 w1 h1 _ (tok_at hk) t).mono fun _ _ h=>.of hn1 hm1 hk1 h
theorem Mde.word_from (hM:Mde w w1 g ws k d a b c e f nds D)(hk:k<ws.length)(kd:Nat) :
  Calls Tryz.prog 183 #[.pointer (some ⟨g,0,none⟩),.int .i64 (kd:Int)] w1 fun r w2=>NeedM w g ws (k+1) d a b c e f nds D (decide ((tok ws k).kind=kd)) (tok ws k).at_ (wtup (tok ws k)) r w2:=by
 obtain⟨⟨f1,h1,hn1,hm1⟩,hk1⟩:=hM;exact(word_any g ws k d a b c e f1 w1 h1 _ (tok_at hk) kd).mono fun _ _ h=>.of hn1 hm1 hk1 h
theorem Mde.name_from (hM:Mde w w1 g ws k d a b c e f nds D)(hk:k<ws.length) :
  Calls Tryz.prog 145 #[.pointer (some ⟨g,0,none⟩)] w1 fun r w2=>NeedM w g ws (k+1) d a b c e f nds D (decide ((tok ws k).kind=1)) (tok ws k).at_ (.string (tok ws k).text) r w2:=by
 obtain⟨⟨f1,h1,hn1,hm1⟩,hk1⟩:=hM;exact(name_any g ws k d a b c e f1 w1 h1 _ (tok_at hk)).mono fun _ _ h=>.of hn1 hm1 hk1 h
theorem Mde.typeName_from (hM:Mde w w1 g ws k d a b c e f nds D)(hk:k<ws.length) :
  Calls Tryz.prog 187 #[.pointer (some ⟨g,0,none⟩)] w1 fun r w2=>NeedM w g ws (k+1) d a b c e f nds D (decide ((tok ws k).kind=2)) (tok ws k).at_ (.string (tok ws k).text) r w2:=by
 obtain⟨⟨f1,h1,hn1,hm1⟩,hk1⟩:=hM;exact(typeName_any g ws k d a b c e f1 w1 h1 _ (tok_at hk)).mono fun _ _ h=>.of hn1 hm1 hk1 h
theorem Mde.keyword_from (hM:Mde w w1 g ws k d a b c e f nds D)(hk:k<ws.length)(h4:nds.length≤4000){K:ByteArray→Nat}(hK:KindF F K) :
  Calls Tryz.prog 223 #[.pointer (some ⟨g,0,none⟩),.func (.func F) #[] #[]] w1 fun r w2=>Out w g ws d a b c e f D (keywordR ws K k nds) r w2:=by
 obtain⟨⟨f1,h1,hn1,hm1⟩,hk1⟩:=hM;exact(keyword_any F K hK g ws d a b c e f1 w1 k nds _ h1 hn1 hk h4).mono fun _ _ ho=>ho.behind hk1 hm1
theorem Mde.add0_from (hM:Mde w w1 g ws (k+1) d a b c e f nds D)(hk:k<ws.length)(h4:nds.length≤4000)(kd nu:Nat)(md nm:ByteArray) :
  Calls Tryz.prog 215 #[.pointer (some ⟨g,0,none⟩),.agg #[.int .i64 (kd:Int),.int .i64 (nu:Int),.string md,.string nm,.slice none 0 0,.slice none 0 0]] w1
   fun r w2=>Out w g ws d a b c e f D (addR ws (k+1) nds ⟨kd,nu,md,nm,[],[]⟩) r w2:=by
 obtain⟨⟨f1,h1,hn1,hm1⟩,hk1⟩:=hM;exact(add_any g ws k d a b c e f1 w1 nds _ h1 hn1 h4 hk ⟨⟨kd,nu,md,nm,[],[]⟩,.slice none 0 0,.slice none 0 0⟩ (SSq.nil _ _) (ISq.nil _ _)).mono fun _ _ ho=>ho.behind hk1 hm1
theorem isq_ints {M:Nat→Prop}(w:World)(l:List Nat)(h:¬ M w.heap.size):ISq (w.alloc (.cells (ints3 l).toArray 3)) M (.slice (some ⟨w.heap.size,0,none⟩) l.length l.length) l:=by
 refine⟨_,l.length,rfl,fun _=>⟨w.heap.size,0,rfl,by simp,h,fun j x hj=>?_⟩⟩
 rw[Nat.zero_add,(Blk.new w 3 (ints3 l).toArray).cell];simp[ints3,hj]
theorem Mde.add_new_from (hM:Mde w w1 g ws (k+1) d a b c e f nds D)(hk:k<ws.length)(h4:nds.length≤4000)(kd nu:Nat)(md nm:ByteArray)(l:List Nat) :
  Calls Tryz.prog 215 #[.pointer (some ⟨g,0,none⟩),.agg #[.int .i64 (kd:Int),.int .i64 (nu:Int),.string md,.string nm,.slice none 0 0,.slice (some ⟨w1.heap.size,0,none⟩) l.length l.length]] (w1.alloc (.cells (ints3 l).toArray 3))
   fun r w2=>Out w g ws d a b c e f D (addR ws (k+1) nds ⟨kd,nu,md,nm,[],l⟩) r w2:=by
 obtain⟨⟨f1,h1,hn1,hm1⟩,hk1⟩:=hM;have hg:=h1.lt;have hbad:¬ Bad g f1 (Dn D w) w1.heap.size:=by
  have hsz:=hk1.size;rintro ((h | h) | h)
  ·omega
  ·have:=(hn1.own_lt h).2;omega
  ·exact h (.inr hsz)
 have hn5:=hn1.kept (P:=fun _=>False) ((Kept.refl _ w1).alloc (.cells (ints3 l).toArray 3)) (fun _ _ h=>h.elim)
 exact(add_any g ws k d a b c e f1 _ nds _ (h1.alloc _) hn5 h4 hk ⟨⟨kd,nu,md,nm,[],l⟩,.slice none 0 0,.slice (some ⟨w1.heap.size,0,none⟩) l.length l.length⟩ (SSq.nil _ _) (isq_ints w1 l hbad)).mono fun _ _ ho=>ho.behind (hk1.alloc _) hm1
variable {nv lv : Value} {ns : List ByteArray} {l : List Nat}
theorem SSq.stp {P M:Nat→Prop}(h:SSq w M nv ns)(hk:Kept P w w')(hp:∀ i,i<w.heap.size→P i→M i):SSq w' M nv ns:=h.kept (hk.mono hp) fun _ _ h=>h
theorem ISq.stp {P M:Nat→Prop}(h:ISq w M lv l)(hk:Kept P w w')(hp:∀ i,i<w.heap.size→P i→M i):ISq w' M lv l:=h.kept (hk.mono hp) fun _ _ h=>h
theorem MdeL.add_from (hM:MdeL w w1 g ws (k+1) d a b c e f nds D nv lv ns l)(hk:k<ws.length)(h4:nds.length≤4000)(kd nu:Nat)(md nm:ByteArray) :
  Calls Tryz.prog 215 #[.pointer (some ⟨g,0,none⟩),.agg #[.int .i64 (kd:Int),.int .i64 (nu:Int),.string md,.string nm,nv,lv]] w1
   fun r w2=>Out w g ws d a b c e f D (addR ws (k+1) nds ⟨kd,nu,md,nm,ns,l⟩) r w2:=by
 obtain⟨⟨f1,h1,hn1,hm1,hs1,hi1⟩,hk1⟩:=hM;exact(add_any g ws k d a b c e f1 w1 nds _ h1 hn1 h4 hk ⟨⟨kd,nu,md,nm,ns,l⟩,nv,lv⟩ hs1 hi1).mono fun _ _ ho=>ho.behind hk1 hm1
theorem Lst.back {f1 f2:Value}(hm1:∀ i,i<w.heap.size→Mut g f1 i→Mut g f i)(hk1:Kept (Mut g f) w w1)(h:Lst w1 w2 g ws k d a b c e f1 f2 nds (Dn D w) lv l):Lst w w2 g ws k d a b c e f f2 nds D lv l:=by
 have hsz:=hk1.size;refine⟨h.stm,h.nds.mono ?_,fun i hi hm=>hm1 i hi (h.turn i (by omega) hm),hk1.trans h.kept hm1,?_,h.far⟩
 ·rintro i _ ⟨(h | h),hq⟩
  ·exact⟨h,hq⟩
  ·exact⟨.inr (by omega),hq⟩
 ·refine⟨h.own.1,?_⟩;rcases h.own.2 with h0 | ⟨q,cap,cur,hv,hg,hb,hr⟩
  ·exact .inl h0
  ·exact .inr ⟨q,cap,cur,hv,by omega,hb,hr⟩
theorem Mde.list_from (hM:Mde w w1 g ws k d a b c e f nds D)(hR:Rule F g ws d a b c e R ok)(hK:OkR ws R ok)(t:ByteArray)(h0:ok k nds) :
  Calls Tryz.prog 208 #[.pointer (some ⟨g,0,none⟩),.string t,.func (.func F) #[.pointer (some ⟨g,0,none⟩)] #[]] w1 fun r w2=>LOut w g ws d a b c e f D (listR ws t R k nds) r w2:=by
 obtain⟨⟨f1,h1,hn1,hm1⟩,hk1⟩:=hM;refine(list_any F g ws d a b c e R ok hR hK t w1 f1 k nds _ h1 hn1 h0).mono ?_;intro r w2 ho;rcases hres:listR ws t R k nds with⟨at_,er⟩ | ⟨l,k',nds'⟩
 ·rw[hres] at ho;exact⟨ho.1,hk1.trans ho.2 hm1⟩
 ·rw[hres] at ho;obtain⟨v,f',hr,hl⟩:=ho;exact⟨v,f',hr,hl.back hm1 hk1⟩
end
end
end Go.Proofs.YtmpaemchjehjbaaGreatDoor
