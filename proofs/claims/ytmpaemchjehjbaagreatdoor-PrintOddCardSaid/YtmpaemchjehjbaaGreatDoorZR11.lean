/- Contracts and plain facts that the theorem rests on: TFresh, TItem, TNamed, THold, TRecord. -/
import Derived.Test.YtmpaemchjehjbaaGreatDoorZR9
import Derived.Test.YtmpaemchjehjbaaGreatDoorZR10
set_option linter.unusedSimpArgs false
set_option linter.unusedVariables false
namespace Go.Proofs.YtmpaemchjehjbaaGreatDoor
section
open Lib (hid)
open Go.RowKit
structure NameF (F:FuncId)(kd:Nat):Prop where
 enters:∀(args:Array Value) (w:World),(callFunc F args).run Tryz.prog w=.ok (.enter F args) w
 calls:∀(g:Nat) (ws:List Wd) (k d:Nat) (a b c e f:Value) (w:World),Stm w g ws k d a b c e f→∀ x,ws[k]? = some x →
  Calls Tryz.prog F #[.pointer (some ⟨g,0,none⟩)] w fun r w'=>needR w g ws k d a b c e f (decide (x.kind=kd)) x.at_ (.string x.text) r w'
theorem name_rule:NameF 145 1:=⟨fun _ _=>by simp[go_sem],fun g ws k d a b c e f w h x hx=>name_any g ws k d a b c e f w h x hx⟩
theorem typeName_rule:NameF 187 2:=⟨fun _ _=>by simp[go_sem],fun g ws k d a b c e f w h x hx=>typeName_any g ws k d a b c e f w h x hx⟩
def freshOk (x:Wd)(kd:Nat)(ns:List ByteArray):Bool:=decide (x.kind=kd) && !hasS ns x.text
set_option maxRecDepth 100000 in
theorem fresh_any (NF:FuncId)(kd:Nat)(hN:NameF NF kd)(g:Nat)(ws:List Wd)(k d:Nat)(a b c e f:Value)(w:World)(h:Stm w g ws k d a b c e f)(x:Wd)(hx:ws[k]? = some x)(A:Option Addr)(cap:Nat)(ns:List ByteArray)(hl:ns.length≤70000)
  (hc:0<ns.length→∃ b o,A=some ⟨b,o,none⟩∧b<w.heap.size∧¬ b=g∧∀(j:Nat) (y:ByteArray),ns[j]? = some y→w.cell? ⟨b,o+j,none⟩=some (.string y)) :
  Calls Tryz.prog 148 #[.pointer (some ⟨g,0,none⟩),.func (.func NF) #[.pointer (some ⟨g,0,none⟩)] #[],.slice A ns.length cap] w
   fun r w'=>needR w g ws k d a b c e f (freshOk x kd ns) x.at_ (.string x.text) r w':=by
 have H:=hid h;have HX:=hid hx;have HC:=hid hc;have HN:=hid hN;have hF:=hN.enters;clear h hx hc hN;go_enter Tryz.func148,Tryz.ntmps148
 go_wp2_with fail
 refine(HN.out.calls g ws k d a b c e f w H.out x HX.out).mono ?_;intro r w1 hr;by_cases hk:x.kind=kd
 ·have hk2:decide (x.kind=kd)=true:=by simp[hk]
  rw[hk2] at hr;obtain⟨rfl,hp⟩:=hr;have HP:=hid hp;have HK2:=hid hk2;have hc1:0<ns.length→∃ b o,A=some ⟨b,o,none⟩∧∀(j:Nat) (y:ByteArray),ns[j]? = some y→w1.cell? ⟨b,o+j,none⟩=some (.string y):=fun h0=>by
   obtain⟨b,o,hA,hb,hbg,hcell⟩:=HC.out h0;exact⟨b,o,hA,fun j y hy=>(HP.out.kept.cell (p:=⟨b,o+j,none⟩) hb hbg).trans (hcell j y hy)⟩
  have HC1:=hid hc1;clear hk hk2 hp hc1;go_wp2_with fail
  refine(contains_any A cap ns x.text w1 hl HC1.out).mono ?_;rintro r w2 ⟨rfl,rfl⟩;by_cases hs:hasS ns x.text=true
  ·have HS:=hid hs;rw[hs];clear hs;go_wp2_with fail
   refine(failBehind_any 30 g ws k d a b c e f _ HP.out.stm x HX.out).mono ?_;rintro r w3 ⟨rfl,hb3⟩;exact And.intro rfl (needR_no (by rw[freshOk,HK2.out,HS.out];rfl) rfl (HP.out.kept.then_below (hb3.mono HP.out.kept.size)))
  ·have hs2:hasS ns x.text=false:=by simpa using hs
   have HS:=hid hs2;rw[hs2];clear hs hs2;go_wp2_with fail
   go_ret
   exact needR_yes (by rw[freshOk,HK2.out,HS.out];rfl) rfl HP.out
 ·have hk2:decide (x.kind=kd)=false:=by simp[hk]
  rw[hk2] at hr;obtain⟨rfl,hp⟩:=hr;exact And.intro rfl (needR_no (by rw[freshOk,hk2];rfl) rfl hp)
def strs3 (l:List ByteArray):List Value:=l.map Value.string
theorem strs3_snoc (l:List ByteArray)(v:ByteArray):strs3 l++[.string v]=strs3 (l++[v]):=by simp[strs3]
theorem info_string3:(Tryz.prog.info? 9).map (fun i=>(i.zero,i.size,i.bytes))=some (some (.string ⟨#[]⟩),1,16):=by kernel_rfl
theorem own_strs {w:World}{base:Nat}{v:Value}{l:List ByteArray}(h:w.ownsRow base 9 1 v l.length (strs3 l))(h0:0<l.length) :
  ∃ q n,v=.slice (some ⟨q,0,none⟩) l.length n∧base≤q∧q<w.heap.size∧∀(j:Nat) (x:ByteArray),l[j]? = some x→w.cell? ⟨q,j,none⟩=some (.string x):=by
 obtain⟨q,n,rfl,hb,hq⟩:=h.form h0;refine⟨q,n,rfl,hb,hq,fun j x hj=>?_⟩
 have:=h.cells (g:=q) rfl j (.string x) (by simp[strs3,hj])
 rwa [addr_lit,Nat.zero_add] at this
structure NamS (g:Nat)(ws:List Wd)(d:Nat)(a b c e:Value)(F NF:FuncId)(sg:ByteArray)(B0:Nat)(w:World)(k:Nat)(nds:List Nd)(D M:Nat→Prop)(ns:List ByteArray):Prop where
 ex:∃ f nv,Stm w g ws k d a b c e f∧Nds w g f nds (fun i=>D i∧i≠B0+4∧nv.ownBlock≠some i)∧(∀ i,M i↔(Mut g f i∨i=B0+4∨nv.ownBlock=some i)) ∧
  w.ownsRow (B0+5) 9 1 nv ns.length (strs3 ns)∧Blk w (B0+4) 22 #[nv]∧(∀ q,f.ownBlock=some q→q<B0∨B0+5≤q)∧(∀ q,nv.ownBlock=some q→f.ownBlock≠some q)
 b0:Blk w B0 93 #[.pointer (some ⟨g,0,none⟩)]
 b1:Blk w (B0+1) 74 #[.func (.func NF) #[.pointer (some ⟨g,0,none⟩)] #[]]
 b2:Blk w (B0+2) 9 #[.string sg]
 b3:Blk w (B0+3) 107 #[.func (.func F) #[.pointer (some ⟨g,0,none⟩)] #[]]
 hg:g<B0
 len:ns.length≤k
section
variable {w w' : World} {g k d B0 : Nat} {ws : List Wd} {a b c e : Value} {F NF : FuncId} {sg : ByteArray} {nds : List Nd} {D D' M : Nat → Prop} {ns : List ByteArray}
theorem NamS.stable {P:Nat→Prop}(h:NamS g ws d a b c e F NF sg B0 w k nds D M ns)(hk:Kept P w w')(hp:∀ i,i<w.heap.size→P i→B0+5≤i∧¬ M i∧¬ D i):NamS g ws d a b c e F NF sg B0 w' k nds D M ns:=by
 obtain⟨⟨f,nv,h1,h2,h3,h4,h5,h6,h7⟩,b0,b1,b2,b3,hg,hlen⟩:=h;have hk2:Kept (fun i=>B0+5≤i∧¬ M i∧¬ D i) w w':=hk.mono hp
 refine⟨⟨f,nv,h1.kept hk2 (fun i hi h=>by omega),h2.kept2 hk2 (fun i _ h hd=>h.2.2 hd.1) (fun q hq h=>h.2.1 ((h3 q).2 (.inl (.inr hq)))),h3,own_kept_ne h4 hk2 (fun q hq h=>h.2.1 ((h3 q).2 (.inr (.inr hq)))),hk2.blk h5 (fun h=>by omega),h6,h7⟩,
  hk2.blk b0 (fun h=>by omega),hk2.blk b1 (fun h=>by omega),hk2.blk b2 (fun h=>by omega),hk2.blk b3 (fun h=>by omega),hg,hlen⟩
theorem NamS.mono (h:NamS g ws d a b c e F NF sg B0 w k nds D M ns)(hd:∀ i,i<w.heap.size→D i→D' i):NamS g ws d a b c e F NF sg B0 w k nds D' M ns:=by
 obtain⟨⟨f,nv,h1,h2,h3⟩,b0,b1,b2,b3,hg,hlen⟩:=h;exact⟨⟨f,nv,h1,h2.mono (fun i hi h=>⟨hd i hi h.1,h.2⟩),h3⟩,b0,b1,b2,b3,hg,hlen⟩
theorem NamS.msize {i:Nat}(h:NamS g ws d a b c e F NF sg B0 w k nds D M ns)(hm:M i):i<w.heap.size:=by
 obtain⟨⟨f,nv,h1,h2,h3,h4,h5,h6,h7⟩,_⟩:=h;rcases(h3 i).1 hm with(rfl | h) | rfl | h
 ·exact h1.lt
 ·exact(h2.own_lt h).2
 ·exact h5.lt
 ·exact(h4.lt i h).2
end
end
section
open Lib (hid)
open Go.RowKit
theorem itemN_no {ws:List Wd}{kd:Nat}{sg:ByteArray}{R:Nat→List Nd→Res}{s:List ByteArray}{k:Nat}{nds:List Nd}(h:freshOk (tok ws k) kd s=false):itemN ws kd sg R s k nds=.error ((tok ws k).at_,30):=by
 rw[itemN];by_cases h1:(tok ws k).kind=kd
 ·rw[if_pos h1];have:hasS s (tok ws k).text=true:=by simpa [freshOk,h1] using h
  rw[if_pos this]
 ·rw[if_neg h1]
theorem itemN_yes {ws:List Wd}{kd:Nat}{sg:ByteArray}{R:Nat→List Nd→Res}{s:List ByteArray}{k:Nat}{nds:List Nd}(h:freshOk (tok ws k) kd s=true):itemN ws kd sg R s k nds=match behindR ws sg R (k+1) nds with
  | .error x=>.error x
  | .ok (v,k',nds')=>.ok (v,k',nds',s++[(tok ws k).text]):=by
 rw[itemN];have h2:(tok ws k).kind=kd∧hasS s (tok ws k).text=false:=by simpa [freshOk] using h
 rw[if_pos h2.1,if_neg (by rw[h2.2];simp)]
 generalize behindR ws sg R (k+1) nds=q;rcases q with x | ⟨v,k',nds'⟩<;>rfl
structure NamA (g:Nat)(ws:List Wd)(d:Nat)(a b c e f:Value)(F NF:FuncId)(sg:ByteArray)(B0:Nat)(w w':World)(k:Nat)(nds:List Nd)(D M:Nat→Prop)(nv nv':Value)(ns:List ByteArray):Prop where
 stm:Stm w' g ws k d a b c e f
 nds:Nds w' g f nds (fun i=>D i∧i≠B0+4∧nv'.ownBlock≠some i)
 own:w'.ownsRow (B0+5) 9 1 nv' ns.length (strs3 ns)
 blk:Blk w' (B0+4) 22 #[nv']
 b0:Blk w' B0 93 #[.pointer (some ⟨g,0,none⟩)]
 b1:Blk w' (B0+1) 74 #[.func (.func NF) #[.pointer (some ⟨g,0,none⟩)] #[]]
 b2:Blk w' (B0+2) 9 #[.string sg]
 b3:Blk w' (B0+3) 107 #[.func (.func F) #[.pointer (some ⟨g,0,none⟩)] #[]]
 kept:Kept M w w'
 new_:∀ q,nv'.ownBlock=some q→nv.ownBlock=some q∨w.heap.size≤q
theorem nam_app {g:Nat}{ws:List Wd}{d:Nat}{a b c e f:Value}{F NF:FuncId}{sg:ByteArray}{B0:Nat}{w w2 w5:World}{k:Nat}{nds:List Nd}{D M:Nat→Prop}{nv:Value}{ns:List ByteArray}{x:ByteArray}{gg cap:Nat}
  (h2:Nds w g f nds (fun i=>D i∧i≠B0+4∧nv.ownBlock≠some i))(h3:∀ i,M i↔(Mut g f i∨i=B0+4∨nv.ownBlock=some i))(h4:w.ownsRow (B0+5) 9 1 nv ns.length (strs3 ns))(h5:Blk w (B0+4) 22 #[nv])
  (h6:∀ q,f.ownBlock=some q→q<B0∨B0+5≤q)(h7:∀ q,nv.ownBlock=some q→f.ownBlock≠some q)
  (b0:Blk w B0 93 #[.pointer (some ⟨g,0,none⟩)])(b1:Blk w (B0+1) 74 #[.func (.func NF) #[.pointer (some ⟨g,0,none⟩)] #[]])(b2:Blk w (B0+2) 9 #[.string sg])(b3:Blk w (B0+3) 107 #[.func (.func F) #[.pointer (some ⟨g,0,none⟩)] #[]])
  (hg:g<B0)(hp:Stp w w2 g ws k d a b c e f)(hgr:(w2.alloc (.cells #[.string x] 9)).grownBy w5 nv.ownBlock)
  (ho:w5.ownsRow (B0+5) 9 1 (.slice (some ⟨gg,0,none⟩) (ns.length+1) cap) (ns.length+1) (strs3 ns++[.string x]))(hat:nv.ownBlock=some gg∨gg=w2.heap.size+1) :
  NamA g ws d a b c e f F NF sg B0 w (w5.setCell ⟨B0+4,0,none⟩ (.slice (some ⟨gg,0,none⟩) (ns.length+1) cap)) k nds D M nv (.slice (some ⟨gg,0,none⟩) (ns.length+1) cap) (ns++[x]):=by
 have hsz1:=hp.kept.size;have hb5:=h5.lt;have hk2:Kept (fun i=>nv.ownBlock=some i) w2 w5:=((Kept.refl _ w2).alloc _).grown hgr (fun i _ h=>h)
 have hk3:Kept (fun i=>i=B0+4) w5 (w5.setCell ⟨B0+4,0,none⟩ (.slice (some ⟨gg,0,none⟩) (ns.length+1) cap)):=(Kept.refl (fun i=>i=B0+4) w5).setCell (p:=⟨B0+4,0,none⟩) (fun _=>rfl) _
 have hnv:∀ i,nv.ownBlock=some i→B0+5≤i:=fun i h=>(h4.lt i h).1
 have hgg:B0+5≤gg:=(ho.lt gg rfl).1;have hn2:=h2.kept hp.kept (fun _ _ h=>h)
 have hn3:Nds w2 g f nds (fun i=>(D i∧i≠B0+4∧nv.ownBlock≠some i)∧(Value.slice (some ⟨gg,0,none⟩) (ns.length+1) cap).ownBlock≠some i):=hn2.mono fun i hi hd=>⟨hd,fun e=>by
  have hgi:gg=i:=by simpa [Value.ownBlock] using e
  rcases hat with h | h
  ·exact hd.2.2 (by rw[h,hgi])
  ·omega⟩
 have hn4:=(hn3.kept2 hk2 (fun i _ h hd=>hd.1.2.2 h) (fun q hq h=>h7 q h hq)).kept2 hk3 (fun i _ h hd=>hd.1.2.1 h) (fun q hq h=>by have:=h6 q hq;omega)
 have hkb:∀ {t:TypeId} {cs:Array Value} (i:Nat),Blk w i t cs→i≠g→i<B0+4→Blk (w5.setCell ⟨B0+4,0,none⟩ (.slice (some ⟨gg,0,none⟩) (ns.length+1) cap)) i t cs:=fun i h h1 h2 =>
  hk3.blk (hk2.blk (hp.kept.blk h h1) (fun h=>by have:=hnv i h;omega)) (fun h=>by omega)
 refine⟨(hp.stm.kept hk2 (fun i hi h=>by have:=hnv i h;omega)).kept hk3 (fun i hi h=>by omega),hn4.mono fun i _ hd=>⟨hd.1.1,hd.1.2.1,hd.2⟩,?_,?_,hkb _ b0 (by omega) (by omega),hkb _ b1 (by omega) (by omega),hkb _ b2 (by omega) (by omega),hkb _ b3 (by omega) (by omega),?_,?_⟩
 ·rw[strs3_snoc] at ho;rw[List.length_append,List.length_singleton];exact own_kept_ne ho hk3 (fun q hq h=>by
   have hgq:gg=q:=by simpa [Value.ownBlock] using hq
   omega)
 ·exact(hk2.blk (hp.kept.blk h5 (by omega)) (fun h=>by have:=hnv _ h;omega)).set_ 0 _
 ·refine((hp.kept.mono (P':=M) fun i _ h=>(h3 i).2 (.inl (.inl h))).trans hk2 (fun i _ h=>(h3 i).2 (.inr (.inr h)))).trans hk3 (fun i _ h=>(h3 i).2 (.inr (.inl h)))
 ·intro q hq;have hgq:gg=q:=by simpa [Value.ownBlock] using hq
  rcases hat with h | h
  ·exact .inl (by rw[h,hgq])
  ·exact .inr (by omega)
theorem nam_out {g:Nat}{ws:List Wd}{d:Nat}{a b c e f:Value}{F NF:FuncId}{sg:ByteArray}{B0:Nat}{w w6 w7:World}{k k':Nat}{nds nds':List Nd}{D M:Nat→Prop}{nv nv':Value}{ns:List ByteArray}
  (h1:f.ownBlock=f.ownBlock∧g<w.heap.size)(hf:∀ q,f.ownBlock=some q→q<w.heap.size)(h3:∀ i,M i↔(Mut g f i∨i=B0+4∨nv.ownBlock=some i))(h6:∀ q,f.ownBlock=some q→q<B0∨B0+5≤q)(h7:∀ q,nv.ownBlock=some q→f.ownBlock≠some q)(hg:g<B0)(hlen:ns.length≤k')
  (hb5:B0+4<w.heap.size)(hA:NamA g ws d a b c e f F NF sg B0 w w6 k nds D M nv nv' ns)(hM:Mde w6 w7 g ws k' d a b c e f nds' (fun i=>D i∧i≠B0+4∧nv'.ownBlock≠some i)) :
  ∃ M',NamS g ws d a b c e F NF sg B0 w7 k' nds' (Dn D w) M' ns∧(∀ i,i<w.heap.size→M' i→M i)∧Kept M w w7:=by
 obtain⟨⟨f',hs,hn,ht⟩,hk⟩:=hM;have hsz:=hA.kept.size;have hgb:∀ i,i<w6.heap.size→i≠g→f.ownBlock≠some i→¬ Mut g f i:=fun i _ h1 h2 h=>by
  rcases h with h | h
  ·exact h1 h
  ·exact h2 h
 have hno:∀ q,nv'.ownBlock=some q→B0+5≤q∧q<w6.heap.size:=fun q hq=>hA.own.lt q hq
 have hkb:∀ {t:TypeId} {cs:Array Value} (i:Nat),Blk w6 i t cs→B0≤i→i<B0+5→Blk w7 i t cs:=fun i h h1 h2=>hk.blk h fun hm=>by
  rcases hm with hm | hm
  ·omega
  ·have:=h6 i hm;omega
 refine⟨fun i=>Mut g f' i∨i=B0+4∨nv'.ownBlock=some i,⟨⟨f',nv',hs,hn.mono ?_,fun _=>Iff.rfl,own_kept_ne hA.own hk ?_,hkb _ hA.blk (by omega) (by omega),?_,?_⟩,hkb _ hA.b0 (by omega) (by omega),hkb _ hA.b1 (by omega) (by omega),hkb _ hA.b2 (by omega) (by omega),hkb _ hA.b3 (by omega) (by omega),hg,hlen⟩,?_,?_⟩
 ·rintro i _ (hd | hd)
  ·exact⟨.inl hd.1,hd.2⟩
  ·refine⟨.inr (by omega),by omega,fun h=>?_⟩
   have:=(hno i h).2;omega
 ·intro q hq hm;have h1:=hno q hq;rcases hm with hm | hm
  ·omega
  ·rcases hA.new_ q hq with h | h
   ·exact h7 q h hm
   ·have:=hf q hm;omega
 ·intro q hq;by_cases hq6:q<w6.heap.size
  ·rcases ht q hq6 (.inr hq) with h | h
   ·omega
   ·exact h6 q h
  ·omega
 ·intro q hq hf';have h1:=hno q hq;rcases ht q h1.2 (.inr hf') with h | h
  ·omega
  ·rcases hA.new_ q hq with h2 | h2
   ·exact h7 q h2 h
   ·have:=hf q h;omega
 ·rintro i hi (hm | hm | hm)
  ·exact(h3 i).2 (.inl (ht i (by omega) hm))
  ·exact(h3 i).2 (.inr (.inl hm))
  ·rcases hA.new_ i hm with h | h
   ·exact(h3 i).2 (.inr (.inr h))
   ·omega
 ·exact hA.kept.trans hk fun i _ h=>(h3 i).2 (.inl h)
set_option maxRecDepth 100000 in
set_option maxHeartbeats 4000000 in
theorem item_any (F NF:FuncId)(kd:Nat)(hN:NameF NF kd)(hkd:kd≠7)(g:Nat)(ws:List Wd)(hE:EndW ws)(d:Nat)(a b c e:Value)(sg:ByteArray)(B0:Nat)(R:Nat→List Nd→Res)(hR:Rule F g ws d a b c e R (OkP ws))(hG:GoodR ws R)
  (w:World)(k:Nat)(nds:List Nd)(D M:Nat→Prop)(ns:List ByteArray)(h:NamS g ws d a b c e F NF sg B0 w k nds D M ns)(hok:OkP ws k nds) :
  Calls Tryz.prog 209 #[.pointer (some ⟨B0+4,0,none⟩),.pointer (some ⟨B0,0,none⟩),.pointer (some ⟨B0+1,0,none⟩),.pointer (some ⟨B0+2,0,none⟩),.pointer (some ⟨B0+3,0,none⟩)] w
   fun r w'=>IOut (NamS g ws d a b c e F NF sg B0) w D M (itemN ws kd sg R ns k nds) r w':=by
 obtain⟨i0,hi,hz0,hz1,hz2⟩:=info_parts info_string3;obtain⟨⟨f,nv,h1,h2,h3,h4,h5,h6,h7⟩,b0,b1,b2,b3,hg,hlen⟩:=h;obtain⟨NA,ncap,rfl⟩:∃ A n,nv=.slice A ns.length n:=by
  rcases h4.2 with⟨hv,h0⟩ | ⟨q,cap,cur,hv,_⟩
  ·exact⟨none,0,by rw[hv,h0]⟩
  ·exact⟨_,_,hv⟩
 have hlt:=hok.lt;have hle:=h1.le;have hsz5:=h5.lt;have hc:0<ns.length→∃ b o,NA=some ⟨b,o,none⟩∧b<w.heap.size∧¬ b=g∧∀(j:Nat) (y:ByteArray),ns[j]? = some y→w.cell? ⟨b,o+j,none⟩=some (.string y):=fun h0=>by
  obtain⟨q,n,hv,hbq,hq,hcell⟩:=own_strs h4 h0;cases hv
  exact⟨q,0,rfl,hq,by omega,fun j y hy=>by rw[Nat.zero_add];exact hcell j y hy⟩
 have HI:=hid hi;have HZ0:=hid hz0;have HZ1:=hid hz1;have HZ2:=hid hz2;have H1:=hid h1;have H2:=hid h2;have H3:=hid h3;have H4:=hid h4;have H5:=hid h5;have H6:=hid h6;have H7:=hid h7;have P0:=hid b0;have P1:=hid b1;have P2:=hid b2;have P3:=hid b3;have HC:=hid hc;have HOK:=hid hok;have HN:=hid hN;have HR:=hid hR;have HE:=hid hE;have HG:=hid hG;have hS:w.drew.cell? ⟨B0+4,0,none⟩=some (.slice NA ns.length ncap)∧w.drew.cell? ⟨B0,0,none⟩=some (.pointer (some ⟨g,0,none⟩))∧w.drew.cell? ⟨B0+1,0,none⟩=some (.func (.func NF) #[.pointer (some ⟨g,0,none⟩)] #[]):=⟨h5.cell 0,b0.cell 0,b1.cell 0⟩;clear hi hz0 hz1 hz2 h1 h2 h3 h4 h5 h6 h7 b0 b1 b2 b3 hc hok hN hR hE hG;go_enter Tryz.func209,Tryz.ntmps209
 go_wp2_with fail
 refine K_start 7 (fun u=>u.cell? ⟨B0+4,0,none⟩=some (.slice NA ns.length ncap)∧u.cell? ⟨B0,0,none⟩=some (.pointer (some ⟨g,0,none⟩))∧u.cell? ⟨B0+1,0,none⟩=some (.func (.func NF) #[.pointer (some ⟨g,0,none⟩)] #[])) (by kernel_rfl) ?_
 refine K_take (i:=0) (v:=?_) rfl (by kernel_rfl) (by kernel_rfl) (by kernel_rfl) (by kernel_rfl) (by kernel_rfl) (fun _ _ _ h=>h) hS (by rfl) ?_ ?_
 rotate_left
 ·intro u hu;obtain⟨g1,g2,g3⟩:=hu
  go_simp
  try with_reducible rfl
 simp only[Act.put,List.setIfInBounds_toArray,List.set_cons_zero,List.set_cons_succ];refine K_take (i:=1) (v:=?_) rfl (by kernel_rfl) (by kernel_rfl) (by kernel_rfl) (by kernel_rfl) (by kernel_rfl) (fun _ _ _ h=>h) hS (by rfl) ?_ ?_
 rotate_left
 ·intro u hu;obtain⟨g1,g2,g3⟩:=hu
  go_simp
  try with_reducible rfl
 simp only[Act.put,List.setIfInBounds_toArray,List.set_cons_zero,List.set_cons_succ];refine K_take (i:=2) (v:=?_) rfl (by kernel_rfl) (by kernel_rfl) (by kernel_rfl) (by kernel_rfl) (by kernel_rfl) (fun _ _ _ h=>h) hS (by rfl) ?_ ?_
 rotate_left
 ·intro u hu;obtain⟨g1,g2,g3⟩:=hu
  go_simp
  try with_reducible rfl
 simp only[Act.put,List.setIfInBounds_toArray,List.set_cons_zero,List.set_cons_succ];refine K_take (i:=3) (v:=?_) rfl (by kernel_rfl) (by kernel_rfl) (by kernel_rfl) (by kernel_rfl) (by kernel_rfl) (fun _ _ _ h=>h) hS (by rfl) ?_ ?_
 rotate_left
 ·intro u hu;obtain⟨g1,g2,g3⟩:=hu
  go_simp
  try with_reducible rfl
 simp only[Act.put,List.setIfInBounds_toArray,List.set_cons_zero,List.set_cons_succ];refine K_one (i:=4) (by kernel_rfl) rfl (fun K hK=>?_)
 go_simp
 refine(fresh_any NF kd HN.out g ws k d a b c e f w.drew (H1.out.drewN 1) _ (tok_at hlt) NA ncap ns (by omega) HC.out).mono ?_
 intro r w2 hr;by_cases hs:freshOk (tok ws k) kd ns=true
 ·rw[hs] at hr;obtain⟨rfl,hp'⟩:=hr;have hp:Stp w w2 g ws (k+1) d a b c e f:=⟨hp'.stm,⟨hp'.kept.os,hp'.kept.tape,hp'.kept.output,hp'.kept.size,hp'.kept.block⟩⟩;have q5:=hp.kept.blk H5.out (by omega)
  have q0:=hp.kept.blk P0.out (by omega)
  have q1:=hp.kept.blk P1.out (by omega)
  refine hK _ _ (fun _=>⟨q5.cell 0,q0.cell 0,q1.cell 0⟩) ?_
  clear hK K hS;have hk1:k+1<ws.length:=by
   refine kind_next HE.out hlt (kd:=kd) ?_ hkd;have:=hs;simp[freshOk] at this;exact this.1
  have ho2:=own_kept_ne H4.out hp.kept (fun q hq h=>by have:=(H4.out.lt q hq).1;omega)
  have hsz2:=hp.kept.size;have HS:=hid hs;have HP:=hid hp;have HO2:=hid ho2;have Q5:=hid q5;clear hs hp hp' q5 q0 q1 ho2;refine K_one (i:=5) (by kernel_rfl) rfl (fun K hK=>?_)
  go_simp
  refine hK _ _ (fun _=>?_) ?_
  ·have e5:=(Q5.out.alloc (.cells #[.string (tok ws k).text] 9)).cell 0;have e0:=((HP.out.kept.blk P0.out (by omega)).alloc (.cells #[.string (tok ws k).text] 9)).cell 0
   have e1:=((HP.out.kept.blk P1.out (by omega)).alloc (.cells #[.string (tok ws k).text] 9)).cell 0
   exact⟨e5,e0,e1⟩
  clear hK K;refine K_one (i:=6) (by kernel_rfl) rfl (fun K hK=>?_)
  refine step_append_lies _ (by rfl) _ _ _ (by rfl) (B0+5) 9 i0 _ 1 16 Tryz.underlying22 HI.out HZ0.out HZ1.out HZ2.out rfl (by decide) (.slice NA ns.length ncap) ns.length (strs3 ns) (by rfl) (HO2.out.alloc _) ⟨w2.heap.size,0,none⟩ 1 1 [.string (tok ws k).text] (by rfl) (by rfl) (World.news_of_block (cs := #[.string (tok ws k).text]) (t:=9) (fr:=(0,0)) (heap_alloc_new w2 _)) (by simp[Value.oneCell']) (by omega) (by simp only[maxLen];omega) (by omega) (by simp;omega) (w2.heap.size+1) (by simp) ?_
  intro gg cap w5 hown5 hgrow5 hat5 hlt5;have hne:∀ q,(Value.slice NA ns.length ncap).ownBlock=some q→q≠B0+4:=fun q hq=>by have:=(H4.out.lt q hq).1;omega
  have hb2:B0+4<w2.heap.size:=Q5.out.lt;have e5:w5.cell? ⟨B0+4,0,none⟩=some (.slice NA ns.length ncap):=(hgrow5.cell_far ⟨B0+4,0,none⟩ (by simp;omega) (fun h=>hne _ h.symm rfl)).trans ((Q5.out.alloc _).cell 0)
  have x5:w5.frozen? ⟨B0+4,0,none⟩=false:=(hgrow5.frozen_far ⟨B0+4,0,none⟩ (by simp;omega) (fun h=>hne _ h.symm rfl)).trans ((Q5.out.alloc _).frozen 0)
  have e0:w5.cell? ⟨B0,0,none⟩=some (.pointer (some ⟨g,0,none⟩)):=(hgrow5.cell_far ⟨B0,0,none⟩ (by simp;omega) (fun h=>by have h2:B0+5≤B0:=(H4.out.lt _ h.symm).1;omega)).trans (((HP.out.kept.blk P0.out (by omega)).alloc _).cell 0)
  have e1:w5.cell? ⟨B0+1,0,none⟩=some (.func (.func NF) #[.pointer (some ⟨g,0,none⟩)] #[]):=(hgrow5.cell_far ⟨B0+1,0,none⟩ (by simp;omega) (fun h=>by have h2:B0+5≤B0+1:=(H4.out.lt _ h.symm).1;omega)).trans (((HP.out.kept.blk P1.out (by omega)).alloc _).cell 0)
  refine hK _ _ (fun _=>⟨e5,e0,e1⟩) ?_
  clear hK K;have HA:=hid (nam_app (F:=F) (NF:=NF) (sg:=sg) H2.out H3.out H4.out H5.out H6.out H7.out P0.out P1.out P2.out P3.out hg HP.out hgrow5 hown5 hat5);clear hown5 hgrow5 hat5;refine K_one (i:=7) (by kernel_rfl) rfl (fun K hK=>?_)
  go_simp
  refine hK _ _ (fun h=>absurd h (by decide)) ?_
  clear hK K e5 x5 e0 e1;refine K_done (by kernel_rfl) ?_
  generalize hw6:w5.setCell ⟨B0+4,0,none⟩ (.slice (some ⟨gg,0,none⟩) (ns.length+1) cap)=w6 at HA ⊢;clear hw6;have z0:=HA.out.b0.cell 0;have z2:=HA.out.b2.cell 0;have z3:=HA.out.b3.cell 0;simp at z0 z2 z3;go_wp2_with fail
  have hok1:OkP ws (k+1) nds:=⟨hk1,HOK.out.room,HOK.out.ok⟩;refine(behind_any F g ws d a b c e R (OkP ws) HR.out sg w6 f (k+1) nds _ HA.out.stm HA.out.nds hk1 (fun hs=>⟨sees_next HE.out hk1 hs,HOK.out.room,HOK.out.ok⟩)).mono ?_
  intro r w7 ho;rcases hres:behindR ws sg R (k+1) nds with⟨at_,er⟩ | ⟨v,k',nds'⟩
  ·rw[hres] at ho;obtain⟨rfl,hk7⟩:=ho;refine And.intro rfl ?_;rw[itemN_yes HS.out,hres];exact⟨rfl,HA.out.kept.trans hk7 fun i _ h=>(H3.out i).2 (.inl h)⟩
  ·rw[hres] at ho;obtain⟨rfl,hm7⟩:=ho;have hkk:k+1<k':=(behindR_ok HE.out HG.out sg _ _ _ _ _ hok1 hres).1;have HRES:=hid hres;have HM7:=hid (nam_out ⟨rfl,H1.out.lt⟩ (fun q hq=>(H2.out.own_lt hq).2) H3.out H6.out H7.out hg (by rw[List.length_append,List.length_singleton];omega) hsz5 HA.out hm7)
   clear hres hm7;go_wp2_with fail
   go_ret
   rw[itemN_yes HS.out,HRES.out];exact⟨rfl,HM7.out⟩
 ·have hs2:freshOk (tok ws k) kd ns=false:=by simpa using hs
  rw[hs2] at hr;obtain⟨rfl,hp⟩:=hr;refine And.intro rfl ?_;rw[itemN_no hs2];have hp2:Kept (fun i=>i=g) w w2:=⟨hp.os,hp.tape,hp.output,hp.size,hp.block⟩
  exact⟨rfl,hp2.mono fun i _ h=>(H3.out i).2 (.inl (.inl h))⟩
end
section
open Lib (hid)
open Go.RowKit
def NOut (w:World)(g:Nat)(ws:List Wd)(d:Nat)(a b c e f:Value)(D:Nat→Prop)(res:LRes3)(r:Ending)(w':World):Prop:=
 match res with
 | .ok (l,k',nds',ns)=>∃ nv lv,r=.returned (.tuple #[nv,lv])∧MdeL w w' g ws k' d a b c e f nds' D nv lv ns l
 | .error (at_,er)=>r=.panicked (faultP at_ er)∧Kept (Mut g f) w w'
theorem item_rule (F NF:FuncId)(kd:Nat)(hN:NameF NF kd)(hkd:kd≠7)(g:Nat)(ws:List Wd)(hE:EndW ws)(d:Nat)(a b c e:Value)(sg:ByteArray)(B0:Nat)(R:Nat→List Nd→Res)(hR:Rule F g ws d a b c e R (OkP ws))(hG:GoodR ws R)(hgB:g<B0) :
  ItemS (List ByteArray) 209 #[.pointer (some ⟨B0+4,0,none⟩),.pointer (some ⟨B0,0,none⟩),.pointer (some ⟨B0+1,0,none⟩),.pointer (some ⟨B0+2,0,none⟩),.pointer (some ⟨B0+3,0,none⟩)]
   g ws (B0+5) (NamS g ws d a b c e F NF sg B0) (itemN ws kd sg R) (OkP ws) where
 enters:=fun _ _=>by simp[go_sem]
 stable:=fun h hk hp=>h.stable hk hp
 mono:=fun h hd=>h.mono hd
 msize:=fun h hm=>h.msize hm
 take:=by
  intro w k nds D M s t h hk;obtain⟨⟨f,nv,h1,h2,h3,h4,h5,h6,h7⟩,b0,b1,b2,b3,hg,hlen⟩:=h;refine(take_any g ws k d a b c e f w h1 _ (tok_at hk) t).mono ?_;rintro r w' ⟨rfl,hp⟩;have hadv:k≤adv (tok ws k) t k:=by rw[adv];split<;>omega
  exact⟨rfl,hp.kept.mono (fun i _ h=>(h3 i).2 (.inl (.inl h))),⟨⟨f,nv,hp.stm,h2.kept hp.kept (fun _ _ h=>h),h3,own_kept_ne h4 hp.kept (fun q hq e=>by have:=(h4.lt q hq).1;omega),hp.kept.blk h5 (by omega),h6,h7⟩,
   hp.kept.blk b0 (by omega),hp.kept.blk b1 (by omega),hp.kept.blk b2 (by omega),hp.kept.blk b3 (by omega),hg,by omega⟩⟩
 full:=by
  intro w k nds D M s n m h hk hnm;obtain⟨⟨f,nv,h1,h2,h3,_⟩,_⟩:=h;exact(room_full n m hnm g ws k d a b c e f w h1 _ (tok_at hk)).mono fun _ _ h=>⟨h.1,Kept.of_below h.2 _⟩
 calls:=fun w k nds D M s h hok=>item_any F NF kd hN hkd g ws hE d a b c e sg B0 R hR hG w k nds D M s h hok
theorem item_ok {ws:List Wd}(hE:EndW ws){kd:Nat}{sg:ByteArray}{R:Nat→List Nd→Res}(hG:GoodR ws R)(hkd:kd≠7):OkS ws (itemN ws kd sg R) (OkP ws) where
 lt:=fun _ _ h=>h.lt
 next:=fun _ _ _ h hs=>⟨sees_next hE h.lt hs,h.room,h.ok⟩
 item:=by
  intro s k nds v k' nds' s' h0 h;by_cases hs:freshOk (tok ws k) kd s=true
  ·rw[itemN_yes hs] at h;have hk:(tok ws k).kind=kd:=by
    have:=hs;simp[freshOk] at this;exact this.1
   split at h
   ·cases h
   ·rename_i v1 k1 nds1 hr;simp at h;obtain⟨rfl,rfl,rfl,rfl⟩:=h;exact(behindR_ok hE hG sg _ _ _ _ _ ⟨kind_next hE h0.lt hk hkd,h0.room,h0.ok⟩ hr).2.1
  ·rw[itemN_no (by simpa using hs)] at h
   cases h
set_option maxRecDepth 100000 in
set_option maxHeartbeats 4000000 in
theorem named_any (F NF:FuncId)(kd:Nat)(hN:NameF NF kd)(hkd:kd≠7)(g:Nat)(ws:List Wd)(hE:EndW ws)(d:Nat)(a b c e:Value)(sg:ByteArray)(R:Nat→List Nd→Res)(hR:Rule F g ws d a b c e R (OkP ws))(hG:GoodR ws R)
  (w:World)(f:Value)(k:Nat)(nds:List Nd)(D:Nat→Prop)(h:Stm w g ws k d a b c e f)(hn:Nds w g f nds D)(hok:OkP ws k nds) :
  Calls Tryz.prog 191 #[.pointer (some ⟨g,0,none⟩),.func (.func NF) #[.pointer (some ⟨g,0,none⟩)] #[],.string sg,.func (.func F) #[.pointer (some ⟨g,0,none⟩)] #[]] w
   fun r w'=>NOut w g ws d a b c e f D (namedR ws kd sg R k nds) r w':=by
 have H:=hid h;have HN:=hid hn;have HOK:=hid hok;have HNF:=hid hN;have HR:=hid hR;have HG:=hid hG;have HE:=hid hE;have hg:=h.lt;have hmf:∀(fn:Fn) (first cap:Array Value) (w:World),(Instr.makeFunc fn first cap).run Tryz.prog w=.ok (.func fn first cap) w:=fun _ _ _ _=>rfl
 clear h hn hok hN hR hG hE;go_enter Tryz.func191,Tryz.ntmps191
 go_wp2_with fail
 have hfl:∀ q,f.ownBlock=some q→q<w.heap.size:=fun q hq=>(HN.out.own_lt hq).2
 generalize hB:w.heap.size=B0 at hg hfl ⊢;have e0:=Blk.new w 93 #[.pointer (some ⟨g,0,none⟩)];have hkA:=(((((Kept.refl (fun _=>False) w).alloc (.cells #[.pointer (some ⟨g,0,none⟩)] 93)).alloc (.cells #[.func (.func NF) #[.pointer (some ⟨g,0,none⟩)] #[]] 74)).alloc (.cells #[.string sg] 9)).alloc (.cells #[.func (.func F) #[.pointer (some ⟨g,0,none⟩)] #[]] 107)).alloc (.cells #[.slice none 0 0] 22)
 have e1:=Blk.new (w.alloc (.cells #[.pointer (some ⟨g,0,none⟩)] 93)) 74 #[.func (.func NF) #[.pointer (some ⟨g,0,none⟩)] #[]];have e2:=Blk.new ((w.alloc (.cells #[.pointer (some ⟨g,0,none⟩)] 93)).alloc (.cells #[.func (.func NF) #[.pointer (some ⟨g,0,none⟩)] #[]] 74)) 9 #[.string sg];have e3:=Blk.new (((w.alloc (.cells #[.pointer (some ⟨g,0,none⟩)] 93)).alloc (.cells #[.func (.func NF) #[.pointer (some ⟨g,0,none⟩)] #[]] 74)).alloc (.cells #[.string sg] 9)) 107 #[.func (.func F) #[.pointer (some ⟨g,0,none⟩)] #[]];have e4:=Blk.new ((((w.alloc (.cells #[.pointer (some ⟨g,0,none⟩)] 93)).alloc (.cells #[.func (.func NF) #[.pointer (some ⟨g,0,none⟩)] #[]] 74)).alloc (.cells #[.string sg] 9)).alloc (.cells #[.func (.func F) #[.pointer (some ⟨g,0,none⟩)] #[]] 107)) 22 #[.slice none 0 0];have e0':=(((e0.alloc (.cells #[.func (.func NF) #[.pointer (some ⟨g,0,none⟩)] #[]] 74)).alloc (.cells #[.string sg] 9)).alloc (.cells #[.func (.func F) #[.pointer (some ⟨g,0,none⟩)] #[]] 107)).alloc (.cells #[.slice none 0 0] 22);have e1':=((e1.alloc (.cells #[.string sg] 9)).alloc (.cells #[.func (.func F) #[.pointer (some ⟨g,0,none⟩)] #[]] 107)).alloc (.cells #[.slice none 0 0] 22);have e2':=(e2.alloc (.cells #[.func (.func F) #[.pointer (some ⟨g,0,none⟩)] #[]] 107)).alloc (.cells #[.slice none 0 0] 22);have e3':=e3.alloc (.cells #[.slice none 0 0] 22)
 have hsz:(((((w.alloc (.cells #[.pointer (some ⟨g,0,none⟩)] 93)).alloc (.cells #[.func (.func NF) #[.pointer (some ⟨g,0,none⟩)] #[]] 74)).alloc (.cells #[.string sg] 9)).alloc (.cells #[.func (.func F) #[.pointer (some ⟨g,0,none⟩)] #[]] 107)).alloc (.cells #[.slice none 0 0] 22)).heap.size=B0+5:=by simp[hB]
 have s1:(w.alloc (.cells #[.pointer (some ⟨g,0,none⟩)] 93)).heap.size=B0+1:=by simp[hB]
 have s2:((w.alloc (.cells #[.pointer (some ⟨g,0,none⟩)] 93)).alloc (.cells #[.func (.func NF) #[.pointer (some ⟨g,0,none⟩)] #[]] 74)).heap.size=B0+2:=by simp[hB]
 have s3:(((w.alloc (.cells #[.pointer (some ⟨g,0,none⟩)] 93)).alloc (.cells #[.func (.func NF) #[.pointer (some ⟨g,0,none⟩)] #[]] 74)).alloc (.cells #[.string sg] 9)).heap.size=B0+3:=by simp[hB]
 have s4:((((w.alloc (.cells #[.pointer (some ⟨g,0,none⟩)] 93)).alloc (.cells #[.func (.func NF) #[.pointer (some ⟨g,0,none⟩)] #[]] 74)).alloc (.cells #[.string sg] 9)).alloc (.cells #[.func (.func F) #[.pointer (some ⟨g,0,none⟩)] #[]] 107)).heap.size=B0+4:=by simp[hB]
 rw[hB] at e0';rw[s1] at e1';rw[s2] at e2';rw[s3] at e3';rw[s4] at e4;clear e0 e1 e2 e3 s1 s2 s3 s4;generalize hw5:((((w.alloc (.cells #[.pointer (some ⟨g,0,none⟩)] 93)).alloc (.cells #[.func (.func NF) #[.pointer (some ⟨g,0,none⟩)] #[]] 74)).alloc (.cells #[.string sg] 9)).alloc (.cells #[.func (.func F) #[.pointer (some ⟨g,0,none⟩)] #[]] 107)).alloc (.cells #[.slice none 0 0] 22)=w5 at e0' e1' e2' e3' e4 hsz hkA ⊢;have hS5:Stm w5 g ws k d a b c e f:=H.out.kept hkA (fun _ _ h=>h)
 have hn0:Nds w g f nds (fun i=>D i∧i≠B0+4∧(Value.slice none 0 0).ownBlock≠some i):=HN.out.mono fun i hi hd=>⟨hd,by omega,by simp[Value.ownBlock]⟩
 have hn5:=hn0.kept hkA (fun _ _ h=>h.elim)
 have HS:Hid (NamS g ws d a b c e F NF sg B0 w5 k nds D (fun i=>Mut g f i∨i=B0+4) []):=hid ⟨⟨f,.slice none 0 0,hS5,hn5,fun i=>by simp[Value.ownBlock],⟨rfl,.inl ⟨rfl,rfl⟩⟩,e4,fun q hq=>.inl (hfl q hq),fun q hq=>by simp[Value.ownBlock] at hq⟩,e0',e1',e2',e3',hg,by simp⟩
 have HKA:=hid hkA;have HB:=hid hB;have HSZ:=hid hsz;clear hw5 hS5 hn0 hn5 e0' e1' e2' e3' e4 hkA hB hsz hfl;refine(listS_any _ #[] _ _ rfl g ws (B0+5) _ _ (OkP ws) (item_rule F NF kd HNF.out hkd g ws HE.out d a b c e sg B0 R HR.out HG.out hg) (item_ok HE.out HG.out hkd) ⟨#[44]⟩ w5 k nds D _ [] (Nat.le_of_eq HSZ.out.symm) HS.out HOK.out).mono ?_;intro r w6 ho;have hmm:∀ i,i<w.heap.size→(Mut g f i∨i=B0+4)→Mut g f i:=fun i hi h=>by
  rcases h with h | h
  ·exact h
  ·have:=HB.out;omega
 have hk5:Kept (Mut g f) w w5:=HKA.out.mono fun _ _ h=>h.elim
 rcases hres:listS ws ⟨#[44]⟩ (itemN ws kd sg R) k nds [] with⟨at_,er⟩ | ⟨l,k1,nds1,ns1⟩
 ·rw[hres] at ho;obtain⟨rfl,hk2⟩:=ho;refine And.intro rfl ?_;rw[namedR,hres];exact⟨rfl,hk5.trans hk2 hmm⟩
 ·have HL:Hid (namedR ws kd sg R k nds=.ok (l,k1,nds1,ns1)):=by show _=_;rw[namedR,hres]
  rw[hres] at ho;obtain⟨v,M',rfl,hst⟩:=ho;obtain⟨⟨f',nv,h1,h2,h3,h4,h5,h6,h7⟩,-,-,-,-,-,-⟩:=hst.it;obtain⟨NA,ncap,rfl⟩:∃ A n,nv=.slice A ns1.length n:=by
   rcases h4.2 with⟨hv,h0⟩ | ⟨q,cap,cur,hv,_⟩
   ·exact⟨none,0,by rw[hv,h0]⟩
   ·exact⟨_,_,hv⟩
  have z4:w6.cell? ⟨B0+1+1+1+1,0,none⟩=some (.slice NA ns1.length ncap):=h5.cell 0;have y4:w6.frozen? ⟨B0+1+1+1+1,0,none⟩=false:=h5.frozen 0;have HB5:=hid h5;have hsz6:=hst.kept.size;have HST:=hid hst;have Q1:=hid h1;have Q2:=hid h2;have Q3:=hid h3;have Q4:=hid h4;have Q7:=hid h7;have Q6:=hid h6;clear hres hst h1 h2 h3 h4 h5 h6 h7;go_wp2_with fail
  have HB6:=HB5.out.set_ 0 (.slice NA ns1.length ncap);refine bodyPost_ret (v:=.tuple #[.slice NA ns1.length ncap,v]) (by have c6:(w6.setCell ⟨B0+1+1+1+1,0,none⟩ (.slice NA ns1.length ncap)).cell? ⟨B0+1+1+1+1,0,none⟩=some (.slice NA ns1.length ncap):=HB6.cell 0;simp[results,Tryz.results191,go_sem,c6]) rfl ?_
  rw[HL.out];have hkS:Kept (fun i=>i=B0+4) w6 (w6.setCell ⟨B0+1+1+1+1,0,none⟩ (.slice NA ns1.length ncap)):=(Kept.refl (fun i=>i=B0+4) w6).setCell (p:=⟨B0+1+1+1+1,0,none⟩) (fun _=>rfl) _
  generalize w6.setCell ⟨B0+1+1+1+1,0,none⟩ (.slice NA ns1.length ncap)=w7 at hkS ⊢;have hB:=HB.out;have hS:=HSZ.out;have hnq:∀ q,(Value.slice NA ns1.length ncap).ownBlock=some q→B0+5≤q∧¬ Mut g f' q:=fun q hq=>by
   have h1:=(Q4.out.lt q hq).1;refine⟨h1,fun hm=>?_⟩
   rcases hm with hm | hm
   ·omega
   ·exact Q7.out q hq hm
  have hvq:∀ q,v.ownBlock=some q→B0+5≤q∧¬ Mut g f' q:=fun q hq=>by
   have h1:=(HST.out.own.lt q hq).1;refine⟨by omega,fun hm=>HST.out.far q hq ((Q3.out q).2 (.inl hm))⟩
  refine⟨_,v,rfl,⟨f',Q1.out.kept hkS (fun i hi h=>by omega),?_,?_,?_,?_⟩,?_⟩
  ·refine(Q2.out.kept2 hkS (fun i _ h hd=>hd.2.1 h) (fun q hq h=>?_)).mono ?_
   ·have:=Q6.out q hq;omega
   ·rintro i _ ⟨⟨hd | hd,_⟩,_⟩
    ·exact .inl hd
    ·exact .inr (by omega)
  ·exact fun i hi hm=>hmm i hi (HST.out.turn i (by omega) ((Q3.out i).2 (.inl hm)))
  ·have ho:=own_kept_ne Q4.out hkS (fun q hq h=>by have:=(hnq q hq).1;omega)
   refine⟨NA,ncap,rfl,fun h0=>?_⟩
   obtain⟨q,n,hv,hbq,hq,hcell⟩:=own_strs ho h0;cases hv
   refine⟨q,0,rfl,hq,fun hb=>?_,fun j y hy=>by rw[Nat.zero_add];exact hcell j y hy⟩
   rcases hb with hb | hb
   ·exact(hnq q rfl).2 hb
   ·exact hb (.inr (by omega))
  ·have ho:=own_kept_ne HST.out.own hkS (fun q hq h=>by have:=(hvq q hq).1;omega)
   rcases Nat.eq_zero_or_pos l.length with h0 | h0
   ·obtain rfl:=List.length_eq_zero_iff.1 h0;rcases ho.2 with⟨rfl,_⟩ | ⟨q,cap,cur,rfl,_⟩
    ·exact ISq.nil _ _
    ·exact⟨_,cap,rfl,fun h=>absurd h (by simp)⟩
   ·obtain⟨q,n,rfl,hbq,hq,hcell⟩:=own_ints ho h0;refine⟨_,n,rfl,fun _=>⟨q,0,rfl,hq,fun hb=>?_,fun j x hj=>by rw[Nat.zero_add];exact hcell j x hj⟩⟩
    rcases hb with hb | hb
    ·exact(hvq q rfl).2 hb
    ·exact hb (.inr (by omega))
  ·exact(hk5.trans HST.out.kept hmm).trans hkS (fun i hi h=>by omega)
theorem Mde.named_from {F NF:FuncId}{kd:Nat}(hN:NameF NF kd)(hkd:kd≠7){g:Nat}{ws:List Wd}(hE:EndW ws){d:Nat}{a b c e f:Value}(sg:ByteArray){R:Nat→List Nd→Res}(hR:Rule F g ws d a b c e R (OkP ws))(hG:GoodR ws R)
  {w w1:World}{k:Nat}{nds:List Nd}{D:Nat→Prop}(hM:Mde w w1 g ws k d a b c e f nds D)(hok:OkP ws k nds) :
  Calls Tryz.prog 191 #[.pointer (some ⟨g,0,none⟩),.func (.func NF) #[.pointer (some ⟨g,0,none⟩)] #[],.string sg,.func (.func F) #[.pointer (some ⟨g,0,none⟩)] #[]] w1
   fun r w'=>NOut w g ws d a b c e f D (namedR ws kd sg R k nds) r w':=by
 obtain⟨⟨f1,h1,hn1,hm1⟩,hk1⟩:=hM;refine(named_any F NF kd hN hkd g ws hE d a b c e sg R hR hG w1 f1 k nds _ h1 hn1 hok).mono ?_;intro r w2 ho;rcases hres:namedR ws kd sg R k nds with⟨at_,er⟩ | ⟨l,k',nds',ns⟩
 ·rw[hres] at ho;exact⟨ho.1,hk1.trans ho.2 hm1⟩
 ·rw[hres] at ho;obtain⟨nv,lv,hr,⟨f2,hs,hn,ht,hss,hii⟩,hk⟩:=ho;have hsz:=hk1.size;have hd:∀ i,Dn (Dn D w) w1 i→Dn D w i:=fun i h=>by
   rcases h with(h | h) | h
   ·exact .inl h
   ·exact .inr h
   ·exact .inr (by omega)
  have hb:∀ i,i<w2.heap.size→Bad g f2 (Dn D w) i→Bad g f2 (Dn (Dn D w) w1) i:=fun i _ h=>by
   rcases h with h | h
   ·exact .inl h
   ·exact .inr fun h2=>h (hd i h2)
  exact⟨nv,lv,hr,⟨f2,hs,hn.mono (fun i _ h=>hd i h),fun i hi h=>hm1 i hi (ht i (by omega) h),hss.kept (Kept.refl _ w2) hb,hii.kept (Kept.refl _ w2) hb⟩,hk1.trans hk hm1⟩
end
section
open Go.RowKit
def EX (X D:Nat→Prop)(w:World):Nat→Prop:=fun i=>Dn D w i∧¬ X i
def Same (X:Nat→Prop)(a b:World):Prop:=∀ i,X i→b.heap[i]? = a.heap[i]?
structure MdX (X:Nat→Prop)(w w':World)(g:Nat)(ws:List Wd)(k d:Nat)(a b c e f:Value)(nds:List Nd)(D:Nat→Prop):Prop where
 ex:∃ f',Stm w' g ws k d a b c e f'∧Nds w' g f' nds (EX X D w)∧(∀ i,i<w.heap.size→Mut g f' i→Mut g f i)∧(∀ i,X i→¬ Mut g f' i)
 kept:Kept (Mut g f) w w'
 inX:∀ i,X i→w.heap.size≤i∧i<w'.heap.size
 hg:g<w.heap.size
structure MdXL (X:Nat→Prop)(w w':World)(g:Nat)(ws:List Wd)(k d:Nat)(a b c e f:Value)(nds:List Nd)(D:Nat→Prop)(nv lv:Value)(ns:List ByteArray)(l:List Nat):Prop where
 ex:∃ f',Stm w' g ws k d a b c e f'∧Nds w' g f' nds (EX X D w)∧(∀ i,i<w.heap.size→Mut g f' i→Mut g f i)∧(∀ i,X i→¬ Mut g f' i)∧SSq w' (Bad g f' (EX X D w)) nv ns∧ISq w' (Bad g f' (EX X D w)) lv l
 kept:Kept (Mut g f) w w'
 inX:∀ i,X i→w.heap.size≤i∧i<w'.heap.size
 hg:g<w.heap.size
def OutX (X:Nat→Prop)(w w1:World)(g:Nat)(ws:List Wd)(d:Nat)(a b c e f:Value)(D:Nat→Prop)(res:Res)(r:Ending)(w':World):Prop:=
 match res with
 | .ok (v,k',nds')=>r=.returned (.int .i64 (v:Int))∧MdX X w w' g ws k' d a b c e f nds' D∧Same X w1 w'
 | .error (at_,er)=>r=.panicked (faultP at_ er)∧Kept (Mut g f) w w'
def NeedX (X:Nat→Prop)(w w1:World)(g:Nat)(ws:List Wd)(k d:Nat)(a b c e f:Value)(nds:List Nd)(D:Nat→Prop)(ok:Bool)(at_:Nat)(v:Value)(r:Ending)(w':World):Prop:=
 match ok with
 | true=>r=.returned v∧MdX X w w' g ws k d a b c e f nds D∧Same X w1 w'
 | false=>r=.panicked (faultP at_ 30)∧Kept (Mut g f) w w'
def NeedXL (X:Nat→Prop)(w w1:World)(g:Nat)(ws:List Wd)(k d:Nat)(a b c e f:Value)(nds:List Nd)(D:Nat→Prop)(nv lv:Value)(ns:List ByteArray)(l:List Nat)(ok:Bool)(at_:Nat)(v:Value)(r:Ending)(w':World):Prop:=
 match ok with
 | true=>r=.returned v∧MdXL X w w' g ws k d a b c e f nds D nv lv ns l∧Same X w1 w'
 | false=>r=.panicked (faultP at_ 30)∧Kept (Mut g f) w w'
def LOutX (X:Nat→Prop)(w w1:World)(g:Nat)(ws:List Wd)(d:Nat)(a b c e f:Value)(D:Nat→Prop)(res:LRes)(r:Ending)(w':World):Prop:=
 match res with
 | .ok (l,k',nds')=>∃ v,r=.returned v∧MdX (fun i=>X i∨v.ownBlock=some i) w w' g ws k' d a b c e f nds' D∧Same X w1 w'∧w'.ownsRow w1.heap.size 3 1 v l.length (ints3 l)
 | .error (at_,er)=>r=.panicked (faultP at_ er)∧Kept (Mut g f) w w'
def NOutX (X:Nat→Prop)(w w1:World)(g:Nat)(ws:List Wd)(d:Nat)(a b c e f:Value)(D:Nat→Prop)(res:LRes3)(r:Ending)(w':World):Prop:=
 match res with
 | .ok (l,k',nds',ns)=>∃ nv lv,r=.returned (.tuple #[nv,lv])∧MdXL X w w' g ws k' d a b c e f nds' D nv lv ns l∧Same X w1 w'
 | .error (at_,er)=>r=.panicked (faultP at_ er)∧Kept (Mut g f) w w'
section
variable {X Y : Nat → Prop} {w w1 w2 w' : World} {g k k' d : Nat} {ws : List Wd} {a b c e f : Value} {nds nds' : List Nd} {D : Nat → Prop} {F : FuncId} {R : Nat → List Nd → Res} {ok : Nat → List Nd → Prop} {res : Res} {r : Ending} {v at_ er : Nat}
variable {nv lv : Value} {ns : List ByteArray} {l : List Nat}
theorem Same.blk {N:Nat}{t:TypeId}{cs:Array Value}(h:Same X w1 w2)(hx:X N)(hb:Blk w1 N t cs):Blk w2 N t cs:=(h N hx).trans hb
theorem Same.trans_ (h:Same X w w1)(h2:Same X w1 w2):Same X w w2:=fun i hi=>(h2 i hi).trans (h i hi)
theorem Same.own {base:Nat}{t:TypeId}{n size:Nat}{v:Value}{xs:List Value}(h:Same X w1 w2)(hx:∀ q,v.ownBlock=some q→X q)(ho:w1.ownsRow base t size v n xs):w2.ownsRow base t size v n xs:=by
 refine⟨ho.1,?_⟩;rcases ho.2 with h0 | ⟨q,cap,cur,rfl,hg,hb,hr⟩
 ·exact .inl h0
 ·exact .inr ⟨q,cap,cur,rfl,hg,(h q (hx q rfl)).trans hb,hr⟩
theorem MdX.start (h:Stm w g ws k d a b c e f)(hn:Nds w g f nds D):MdX (fun _=>False) w w g ws k d a b c e f nds D:=
 ⟨⟨f,h,hn.mono fun _ _ h=>⟨.inl h,fun h=>h⟩,fun _ _ h=>h,fun _ h=>h.elim⟩,Kept.refl _ _,fun _ h=>h.elim,h.lt⟩
theorem MdX.more (hM:MdX X w w1 g ws k d a b c e f nds D)(hk:Kept X w1 w2)(hY:∀ i,Y i→X i∨(w1.heap.size≤i∧i<w2.heap.size)):MdX (fun i=>X i∨Y i) w w2 g ws k d a b c e f nds D:=by
 obtain⟨⟨f1,h1,hn1,ht1,hx1⟩,hk1,hin,hg⟩:=hM;have hsz:=hk.size;have hsz1:=hk1.size;have hn2:Nds w1 g f1 nds (fun i=>EX X D w i∧¬ Y i):=hn1.mono fun i hi h=>⟨h,fun hy=>by
  rcases hY i hy with h2 | h2
  ·exact h.2 h2
  ·omega⟩
 refine⟨⟨f1,h1.kept hk (fun i hi h=>by have:=hin i h;omega),(hn2.kept2 hk (fun i _ h hd=>hd.1.2 h) (fun q hq h=>hx1 q h (.inr hq))).mono fun i _ h=>⟨h.1.1,fun h2=>by
  rcases h2 with h2 | h2
  ·exact h.1.2 h2
  ·exact h.2 h2⟩,ht1,?_⟩,hk1.trans hk (fun i hi h=>by have:=hin i h;omega),?_,hg⟩
 ·rintro i (h | h)
  ·exact hx1 i h
  ·rcases hY i h with h2 | h2
   ·exact hx1 i h2
   ·intro hm;rcases hm with rfl | hm
    ·omega
    ·have:=(hn1.own_lt hm).2;omega
 ·rintro i (h | h)
  ·have:=hin i h;omega
  ·rcases hY i h with h2 | h2
   ·have:=hin i h2;omega
   ·omega
theorem MdX.less (hM:MdX X w w1 g ws k d a b c e f nds D)(hY:∀ i,Y i→X i):MdX Y w w1 g ws k d a b c e f nds D:=by
 obtain⟨⟨f1,h1,hn1,ht1,hx1⟩,hk1,hin,hg⟩:=hM;exact⟨⟨f1,h1,hn1.mono fun i _ h=>⟨h.1,fun hy=>h.2 (hY i hy)⟩,ht1,fun i h=>hx1 i (hY i h)⟩,hk1,fun i h=>hin i (hY i h),hg⟩
theorem MdX.mde (hM:MdX X w w1 g ws k d a b c e f nds D):Mde w w1 g ws k d a b c e f nds D:=by
 obtain⟨⟨f1,h1,hn1,ht1,hx1⟩,hk1,hin,hg⟩:=hM;exact⟨⟨f1,h1,hn1.mono fun _ _ h=>h.1,ht1⟩,hk1⟩
theorem MdX.put (hM:MdX X w w1 g ws k d a b c e f nds D){N:Nat}(hN:X N)(i:Nat)(v:Value):MdX X w (w1.setCell ⟨N,i,none⟩ v) g ws k d a b c e f nds D:=
 (hM.more (Y:=X) ((Kept.refl X w1).setCell (p:=⟨N,i,none⟩) (fun _=>hN) v) (fun i h=>.inl h)).less fun i h=>.inl h
theorem MdX.new (hM:MdX X w w1 g ws k d a b c e f nds D)(o:Obj):MdX (fun i=>X i∨i=w1.heap.size) w (w1.alloc o) g ws k d a b c e f nds D:=
 hM.more ((Kept.refl X w1).alloc o) (fun i h=>.inr (by subst h;simp))
theorem Same.put {N i:Nat}{v:Value}(h:¬ X N):Same X w1 (w1.setCell ⟨N,i,none⟩ v):=fun j hj=>Below.heap_setCell w1 ⟨N,i,none⟩ v j (fun e=>h (by have e2:j=N:=e;subst e2;exact hj))
theorem Same.alloc (h:∀ i,X i→i<w1.heap.size)(o:Obj):Same X w1 (w1.alloc o):=fun j hj=>Below.heap_alloc w1 o j (h j hj)
theorem MdX.open_ (hM:MdX X w w1 g ws k d a b c e f nds D):∃ f1,Mde w1 w1 g ws k d a b c e f1 nds (EX X D w) ∧
  (∀ {k':Nat} {nds':List Nd} {w2:World},Mde w1 w2 g ws k' d a b c e f1 nds' (EX X D w)→MdX X w w2 g ws k' d a b c e f nds' D∧Same X w1 w2) ∧
  (∀ {w2:World},Kept (Mut g f1) w1 w2→Kept (Mut g f) w w2) ∧
  (∀ {k':Nat} {nds':List Nd} {w2:World} {u:Value} {l:List Nat} {f2:Value},Lst w1 w2 g ws k' d a b c e f1 f2 nds' (EX X D w) u l→MdX (fun i=>X i∨u.ownBlock=some i) w w2 g ws k' d a b c e f nds' D∧Same X w1 w2) ∧
  (∀ {k':Nat} {nds':List Nd} {w2:World} {nv lv:Value} {ns:List ByteArray} {l:List Nat},MdeL w1 w2 g ws k' d a b c e f1 nds' (EX X D w) nv lv ns l→MdXL X w w2 g ws k' d a b c e f nds' D nv lv ns l∧Same X w1 w2):=by
 obtain⟨⟨f1,h1,hn1,ht1,hx1⟩,hk1,hin,hg⟩:=hM;have hsz1:=hk1.size;have hE:∀ i,Dn (EX X D w) w1 i→EX X D w i:=fun i h=>by
  rcases h with h | h
  ·exact h
  ·exact⟨.inr (by omega),fun hx=>by have:=hin i hx;omega⟩
 refine⟨f1,Mde.refl h1 hn1,?_,fun h=>hk1.trans h ht1,?_,?_⟩
 ·rintro k' nds' w2 ⟨⟨f2,h2,hn2,ht2⟩,hk2⟩;have hsz2:=hk2.size;exact⟨⟨⟨f2,h2,hn2.mono (fun i _ h=>hE i h),fun i hi h=>ht1 i hi (ht2 i (by omega) h),fun i hx h=>hx1 i hx (ht2 i (hin i hx).2 h)⟩,hk1.trans hk2 ht1,fun i hx=>by have:=hin i hx;omega,hg⟩,
   fun i hx=>hk2.block i (hin i hx).2 (hx1 i hx)⟩
 ·intro k' nds' w2 u l f2 hL;have hsz2:=hL.kept.size;refine⟨⟨⟨f2,hL.stm,hL.nds.mono ?_,fun i hi h=>ht1 i hi (hL.turn i (by omega) h),?_⟩,hk1.trans hL.kept ht1,?_,hg⟩,fun i hx=>hL.kept.block i (hin i hx).2 (hx1 i hx)⟩
  ·intro i _ h;have:=hE i h.1;exact⟨this.1,fun h2=>by
    rcases h2 with h2 | h2
    ·exact this.2 h2
    ·exact h.2 h2⟩
  ·rintro i (h | h)
   ·exact fun hm=>hx1 i h (hL.turn i (hin i h).2 hm)
   ·exact hL.far i h
  ·rintro i (h | h)
   ·have:=hin i h;omega
   ·have:=hL.own.lt i h;omega
 ·rintro k' nds' w2 nv lv ns l ⟨⟨f2,h2,hn2,ht2,hs2,hi2⟩,hk2⟩;have hsz2:=hk2.size;have hb:∀ i,i<w2.heap.size→Bad g f2 (EX X D w) i→Bad g f2 (Dn (EX X D w) w1) i:=fun i _ h=>by
   rcases h with h | h
   ·exact .inl h
   ·exact .inr fun h2=>h (hE i h2)
  exact⟨⟨⟨f2,h2,hn2.mono (fun i _ h=>hE i h),fun i hi h=>ht1 i hi (ht2 i (by omega) h),fun i hx h=>hx1 i hx (ht2 i (hin i hx).2 h),hs2.kept (Kept.refl _ w2) hb,hi2.kept (Kept.refl _ w2) hb⟩,hk1.trans hk2 ht1,fun i hx=>by have:=hin i hx;omega,hg⟩,
   fun i hx=>hk2.block i (hin i hx).2 (hx1 i hx)⟩
theorem MdX.sees_ (hM:MdX X w w1 g ws k d a b c e f nds D)(hk:k<ws.length)(t:ByteArray) :
  Calls Tryz.prog 149 #[.pointer (some ⟨g,0,none⟩),.string t] w1 fun r w2=>r=.returned (.bool (seesW (tok ws k) t))∧MdX X w w2 g ws k d a b c e f nds D∧Same X w1 w2:=by
 obtain⟨f1,h1,ho,_⟩:=hM.open_;exact(h1.sees_from hk t).mono fun _ _ h=>⟨h.1,ho h.2⟩
theorem MdX.take_ (hM:MdX X w w1 g ws k d a b c e f nds D)(hk:k<ws.length)(t:ByteArray) :
  Calls Tryz.prog 146 #[.pointer (some ⟨g,0,none⟩),.string t] w1 fun r w2=>r=.returned (.bool (seesW (tok ws k) t))∧MdX X w w2 g ws (adv (tok ws k) t k) d a b c e f nds D∧Same X w1 w2:=by
 obtain⟨f1,h1,ho,_⟩:=hM.open_;exact(h1.take_from hk t).mono fun _ _ h=>⟨h.1,ho h.2⟩
theorem MdX.has_ (hM:MdX X w w1 g ws k d a b c e f nds D)(hk:k<ws.length)(kd:Nat) :
  Calls Tryz.prog 152 #[.pointer (some ⟨g,0,none⟩),.int .i64 (kd:Int)] w1 fun r w2=>r=.returned (.bool (decide ((tok ws k).kind=kd)))∧MdX X w w2 g ws k d a b c e f nds D∧Same X w1 w2:=by
 obtain⟨f1,h1,ho,_⟩:=hM.open_;exact(h1.has_from hk kd).mono fun _ _ h=>⟨h.1,ho h.2⟩
theorem MdX.fail_ (hM:MdX X w w1 g ws k d a b c e f nds D)(hk:k<ws.length)(er:Nat) :
  Calls Tryz.prog 153 #[.pointer (some ⟨g,0,none⟩),.int .i64 (er:Int)] w1 fun r w2=>r=.panicked (faultP (tok ws k).at_ er)∧Kept (Mut g f) w w2:=by
 obtain⟨f1,h1,_,hp,_⟩:=hM.open_;exact(h1.fail_from hk er).mono fun _ _ h=>⟨h.1,hp h.2⟩
theorem MdX.full_ (hM:MdX X w w1 g ws k d a b c e f nds D)(hk:k<ws.length)(n m:Nat)(h:m≤n) :
  Calls Tryz.prog 147 #[.pointer (some ⟨g,0,none⟩),.int .i64 (n:Int),.int .i64 (m:Int)] w1 fun r w2=>r=.panicked (faultP (tok ws k).at_ 5)∧Kept (Mut g f) w w2:=by
 obtain⟨f1,h1,_,hp,_⟩:=hM.open_;exact(h1.full_from hk n m h).mono fun _ _ h=>⟨h.1,hp h.2⟩
theorem MdX.need_ (hM:MdX X w w1 g ws k d a b c e f nds D)(hk:k<ws.length)(t:ByteArray) :
  Calls Tryz.prog 144 #[.pointer (some ⟨g,0,none⟩),.string t] w1 fun r w2=>NeedX X w w1 g ws (k+1) d a b c e f nds D (seesW (tok ws k) t) (tok ws k).at_ (.tuple #[]) r w2:=by
 obtain⟨f1,h1,ho,hp,_⟩:=hM.open_;refine(h1.need_from hk t).mono fun _ _ h=>?_
 cases hs:seesW (tok ws k) t with
 | true=>rw[hs] at h;exact⟨h.1,ho h.2⟩
 | false=>rw[hs] at h;exact⟨h.1,hp h.2⟩
theorem MdX.name_ (hM:MdX X w w1 g ws k d a b c e f nds D)(hk:k<ws.length) :
  Calls Tryz.prog 145 #[.pointer (some ⟨g,0,none⟩)] w1 fun r w2=>NeedX X w w1 g ws (k+1) d a b c e f nds D (decide ((tok ws k).kind=1)) (tok ws k).at_ (.string (tok ws k).text) r w2:=by
 obtain⟨f1,h1,ho,hp,_⟩:=hM.open_;refine(h1.name_from hk).mono fun _ _ h=>?_
 cases hs:decide ((tok ws k).kind=1) with
 | true=>rw[hs] at h;exact⟨h.1,ho h.2⟩
 | false=>rw[hs] at h;exact⟨h.1,hp h.2⟩
theorem MdX.typeName_ (hM:MdX X w w1 g ws k d a b c e f nds D)(hk:k<ws.length) :
  Calls Tryz.prog 187 #[.pointer (some ⟨g,0,none⟩)] w1 fun r w2=>NeedX X w w1 g ws (k+1) d a b c e f nds D (decide ((tok ws k).kind=2)) (tok ws k).at_ (.string (tok ws k).text) r w2:=by
 obtain⟨f1,h1,ho,hp,_⟩:=hM.open_;refine(h1.typeName_from hk).mono fun _ _ h=>?_
 cases hs:decide ((tok ws k).kind=2) with
 | true=>rw[hs] at h;exact⟨h.1,ho h.2⟩
 | false=>rw[hs] at h;exact⟨h.1,hp h.2⟩
theorem OutX.of {f1:Value}(ho:∀ {k':Nat} {nds':List Nd} {w2:World},Mde w1 w2 g ws k' d a b c e f1 nds' (EX X D w)→MdX X w w2 g ws k' d a b c e f nds' D∧Same X w1 w2)
  (hp:∀ {w2:World},Kept (Mut g f1) w1 w2→Kept (Mut g f) w w2)(h:Out w1 g ws d a b c e f1 (EX X D w) res r w2):OutX X w w1 g ws d a b c e f D res r w2:=by
 rcases res with⟨at_,er⟩ | ⟨v,k',nds'⟩
 ·exact⟨h.1,hp h.2⟩
 ·exact⟨h.1,ho h.2⟩
theorem MdX.behind_ (hM:MdX X w w1 g ws k d a b c e f nds D)(hR:Rule F g ws d a b c e R ok)(hk:k<ws.length)(t:ByteArray)(hok:seesW (tok ws k) t=true→ok (k+1) nds) :
  Calls Tryz.prog 188 #[.pointer (some ⟨g,0,none⟩),.string t,.func (.func F) #[.pointer (some ⟨g,0,none⟩)] #[]] w1 fun r w2=>OutX X w w1 g ws d a b c e f D (behindR ws t R k nds) r w2:=by
 obtain⟨f1,h1,ho,hp,_⟩:=hM.open_;exact(h1.behind_from hR hk t hok).mono fun _ _ h=>.of ho hp h
theorem MdX.list_ (hM:MdX X w w1 g ws k d a b c e f nds D)(hR:Rule F g ws d a b c e R ok)(hK:OkR ws R ok)(t:ByteArray)(h0:ok k nds) :
  Calls Tryz.prog 208 #[.pointer (some ⟨g,0,none⟩),.string t,.func (.func F) #[.pointer (some ⟨g,0,none⟩)] #[]] w1 fun r w2=>LOutX X w w1 g ws d a b c e f D (listR ws t R k nds) r w2:=by
 obtain⟨f1,h1,_,hp,hl,_⟩:=hM.open_;refine(h1.list_from hR hK t h0).mono fun r w2 h=>?_
 rcases hres:listR ws t R k nds with⟨at_,er⟩ | ⟨l,k',nds'⟩
 ·rw[hres] at h;exact⟨h.1,hp h.2⟩
 ·rw[hres] at h;obtain⟨v,f2,hr,hL⟩:=h;exact⟨v,hr,(hl hL).1,(hl hL).2,hL.own⟩
theorem MdX.named_ (hM:MdX X w w1 g ws k d a b c e f nds D){NF:FuncId}{kd:Nat}(hN:NameF NF kd)(hkd:kd≠7)(hE:EndW ws)(sg:ByteArray)(hR:Rule F g ws d a b c e R (OkP ws))(hG:GoodR ws R)(h0:OkP ws k nds) :
  Calls Tryz.prog 191 #[.pointer (some ⟨g,0,none⟩),.func (.func NF) #[.pointer (some ⟨g,0,none⟩)] #[],.string sg,.func (.func F) #[.pointer (some ⟨g,0,none⟩)] #[]] w1
   fun r w2=>NOutX X w w1 g ws d a b c e f D (namedR ws kd sg R k nds) r w2:=by
 obtain⟨f1,h1,_,hp,_,hl⟩:=hM.open_;refine(h1.named_from hN hkd hE sg hR hG h0).mono fun r w2 h=>?_
 rcases hres:namedR ws kd sg R k nds with⟨at_,er⟩ | ⟨l,k',nds',ns⟩
 ·rw[hres] at h;exact⟨h.1,hp h.2⟩
 ·rw[hres] at h;obtain⟨nv,lv,hr,hL⟩:=h;exact⟨nv,lv,hr,hl hL⟩
theorem MdXL.mdx (hM:MdXL X w w1 g ws k d a b c e f nds D nv lv ns l):MdX X w w1 g ws k d a b c e f nds D:=by
 obtain⟨⟨f1,h1,h2,h3,h4,_⟩,h5,h6,h7⟩:=hM;exact⟨⟨f1,h1,h2,h3,h4⟩,h5,h6,h7⟩
theorem MdXL.put (hM:MdXL X w w1 g ws k d a b c e f nds D nv lv ns l){N:Nat}(hN:X N)(i:Nat)(v:Value):MdXL X w (w1.setCell ⟨N,i,none⟩ v) g ws k d a b c e f nds D nv lv ns l:=by
 obtain⟨⟨f1,h1,hn1,ht1,hx1,hs1,hi1⟩,hk1,hin,hg⟩:=hM;have hk:Kept X w1 (w1.setCell ⟨N,i,none⟩ v):=(Kept.refl X w1).setCell (p:=⟨N,i,none⟩) (fun _=>hN) v
 exact⟨⟨f1,h1.kept hk (fun i hi h=>by have:=hin i h;omega),hn1.kept2 hk (fun i _ h hd=>hd.2 h) (fun q hq h=>hx1 q h (.inr hq)),ht1,hx1,hs1.stp hk (fun i _ h=>.inr fun hd=>hd.2 h),hi1.stp hk (fun i _ h=>.inr fun hd=>hd.2 h)⟩,
  hk1.trans hk (fun i hi h=>by have:=hin i h;omega),fun i h=>by have:=hin i h;have:=hk.size;omega,hg⟩
theorem MdXL.need_ (hM:MdXL X w w1 g ws k d a b c e f nds D nv lv ns l)(hk:k<ws.length)(t:ByteArray) :
  Calls Tryz.prog 144 #[.pointer (some ⟨g,0,none⟩),.string t] w1 fun r w2=>NeedXL X w w1 g ws (k+1) d a b c e f nds D nv lv ns l (seesW (tok ws k) t) (tok ws k).at_ (.tuple #[]) r w2:=by
 obtain⟨⟨f1,h1,hn1,hm1,hx1,hs1,hi1⟩,hk1,hin,hg⟩:=hM;refine(need_any g ws k d a b c e f1 w1 h1 _ (tok_at hk) t).mono ?_;intro r w2 h;cases ho:seesW (tok ws k) t with
 | true =>
  rw[ho] at h;have hsz:=h.2.kept.size;exact⟨h.1,⟨⟨f1,h.2.stm,hn1.kept h.2.kept (fun _ _ h=>h),hm1,hx1,hs1.stp h.2.kept (fun _ _ h=>.inl (.inl h)),hi1.stp h.2.kept (fun _ _ h=>.inl (.inl h))⟩,hk1.trans (h.2.kept.mono fun i _ h=>(show Mut g f1 i from .inl h)) hm1,fun i hx=>by have:=hin i hx;omega,hg⟩,
   fun i hx=>h.2.kept.block i (hin i hx).2 (fun e=>by have:=hin i hx;omega)⟩
 | false =>
  rw[ho] at h;exact⟨h.1,hk1.trans (h.2.mono fun i _ h=>(show Mut g f1 i from .inl h)) hm1⟩
theorem MdXL.mdel (hM:MdXL X w w1 g ws k d a b c e f nds D nv lv ns l):MdeL w w1 g ws k d a b c e f nds D nv lv ns l:=by
 obtain⟨⟨f1,h1,hn1,hm1,hx1,hs1,hi1⟩,hk1,hin,hg⟩:=hM;have hb:∀ i,i<w1.heap.size→Bad g f1 (Dn D w) i→Bad g f1 (EX X D w) i:=fun i _ h=>by
  rcases h with h | h
  ·exact .inl h
  ·exact .inr fun h2=>h h2.1
 exact⟨⟨f1,h1,hn1.mono (fun _ _ h=>h.1),hm1,hs1.kept (Kept.refl _ w1) hb,hi1.kept (Kept.refl _ w1) hb⟩,hk1⟩
theorem MdX.hold {base:Nat}(hM:MdX X w w1 g ws k d a b c e f nds D)(ho:w1.ownsRow base 3 1 lv l.length (ints3 l))(hx:∀ q,lv.ownBlock=some q→X q):MdeL w w1 g ws k d a b c e f nds D (.slice none 0 0) lv [] l:=by
 obtain⟨⟨f1,h1,hn1,hm1,hx1⟩,hk1,hin,hg⟩:=hM;refine⟨⟨f1,h1,hn1.mono (fun _ _ h=>h.1),hm1,SSq.nil _ _,?_⟩,hk1⟩
 rcases Nat.eq_zero_or_pos l.length with h0 | h0
 ·obtain rfl:=List.length_eq_zero_iff.1 h0;rcases ho.2 with⟨rfl,_⟩ | ⟨q,cap,cur,rfl,_⟩
  ·exact ISq.nil _ _
  ·exact⟨_,cap,rfl,fun h=>absurd h (by simp)⟩
 ·obtain⟨q,n,rfl,hbq,hq,hcell⟩:=own_ints ho h0;refine⟨_,n,rfl,fun _=>⟨q,0,rfl,hq,fun hb=>?_,fun j x hj=>by rw[Nat.zero_add];exact hcell j x hj⟩⟩
  have hxq:=hx q rfl;rcases hb with hb | hb
  ·exact hx1 q hxq hb
  ·exact hb (.inr (hin q hxq).1)
end
end
section
open Lib (hid)
open Go.RowKit
theorem itemN_good {ws:List Wd}(hE:EndW ws){kd:Nat}(hkd:kd≠7){sg:ByteArray}{R:Nat→List Nd→Res}(hG:GoodR ws R){s:List ByteArray}{k:Nat}{nds:List Nd}{v k':Nat}{nds':List Nd}{s':List ByteArray}(h0:OkP ws k nds)(h:itemN ws kd sg R s k nds=.ok (v,k',nds',s')) :
  k<k'∧OkP ws k' nds'∧v<nds'.length∧nds.length<nds'.length∧s'.length=s.length+1:=by
 by_cases hs:freshOk (tok ws k) kd s=true
 ·rw[itemN_yes hs] at h;have hk:(tok ws k).kind=kd:=by
   have:=hs;simp[freshOk] at this;exact this.1
  split at h
  ·cases h
  ·rename_i v1 k1 nds1 hr;simp at h;obtain⟨rfl,rfl,rfl,rfl⟩:=h;obtain⟨h1,h2,h3,h4⟩:=behindR_ok hE hG sg _ _ _ _ _ ⟨kind_next hE h0.lt hk hkd,h0.room,h0.ok⟩ hr;exact⟨by omega,h2,h3,h4,by simp⟩
 ·rw[itemN_no (by simpa using hs)] at h
  cases h
theorem listG_good {ws:List Wd}(hE:EndW ws){kd:Nat}(hkd:kd≠7){sg:ByteArray}{R:Nat→List Nd→Res}(hG:GoodR ws R)(t:ByteArray):∀(n:Nat) (l:List Nat) (k:Nat) (nds:List Nd) (s:List ByteArray) (l':List Nat) (k':Nat) (nds':List Nd) (s':List ByteArray),
  OkP ws k nds→listG ws t (itemN ws kd sg R) n l k nds s=.ok (l',k',nds',s')→OkP ws k' nds'∧k≤k'∧nds.length≤nds'.length∧l'.length+s.length=l.length+s'.length∧l.length≤l'.length∧(l.length≤16→l'.length≤16)
 | 0,_,_,_,_,_,_,_,_,_,h=>by simp[listG] at h
 | n+1,l,k,nds,s,l',k',nds',s',h0,h=>by
  rw[listG] at h;split at h
  ·rename_i hs;split at h
   ·cases h
   ·split at h
    ·cases h
    ·rename_i h16 v k1 nds1 s1 hr;obtain⟨q1,q2,q3,q4,q5⟩:=itemN_good hE hkd hG ⟨sees_next hE h0.lt hs,h0.room,h0.ok⟩ hr;obtain⟨p1,p2,p3,p4,p5,p6⟩:=listG_good hE hkd hG t n _ _ _ _ _ _ _ _ q2 h;rw[List.length_append,List.length_singleton] at p4 p5 p6;exact⟨p1,by omega,by omega,by omega,by omega,fun _=>p6 (by omega)⟩
  ·simp at h;obtain⟨rfl,rfl,rfl,rfl⟩:=h;exact⟨h0,Nat.le_refl _,Nat.le_refl _,rfl,Nat.le_refl _,fun h=>h⟩
theorem namedR_good {ws:List Wd}(hE:EndW ws){kd:Nat}(hkd:kd≠7){sg:ByteArray}{R:Nat→List Nd→Res}(hG:GoodR ws R){k:Nat}{nds:List Nd}{l:List Nat}{k':Nat}{nds':List Nd}{ns:List ByteArray}(h0:OkP ws k nds)(h:namedR ws kd sg R k nds=.ok (l,k',nds',ns)) :
  OkP ws k' nds'∧k<k'∧nds.length<nds'.length∧ns.length=l.length∧l.length≤16:=by
 rw[namedR,listS] at h;split at h
 ·cases h
 ·rename_i v k1 nds1 s1 hr;obtain⟨q1,q2,q3,q4,q5⟩:=itemN_good hE hkd hG h0 hr;obtain⟨p1,p2,p3,p4,p5,p6⟩:=listG_good hE hkd hG _ _ _ _ _ _ _ _ _ _ q2 h;simp at p4 p5 p6 q5;exact⟨p1,by omega,by omega,by omega,p6⟩
set_option maxRecDepth 100000 in
set_option maxHeartbeats 4000000 in
theorem record_any (F:FuncId)(kind:Nat)(g:Nat)(ws:List Wd)(hE:EndW ws)(d:Nat)(a b c e:Value)(R:Nat→List Nd→Res)(hR:Rule F g ws d a b c e R (OkP ws))(hG:GoodR ws R)
  (w:World)(f:Value)(k:Nat)(nds:List Nd)(D:Nat→Prop)(h:Stm w g ws k d a b c e f)(hn:Nds w g f nds D)(hok:OkP ws k nds) :
  Calls Tryz.prog 222 #[.pointer (some ⟨g,0,none⟩),.int .i64 (kind:Int),.func (.func F) #[.pointer (some ⟨g,0,none⟩)] #[]] w fun r w'=>Out w g ws d a b c e f D (recordR ws kind R k nds) r w':=by
 have HX:=hid (MdX.start h hn);have HOK:=hid hok;have HR:=hid hR;have HG:=hid hG;have HE:=hid hE;have hlt:=hok.lt;have hrm:=hok.room;have hmf:∀(fn:Fn) (first cap:Array Value) (w:World),(Instr.makeFunc fn first cap).run Tryz.prog w=.ok (.func fn first cap) w:=fun _ _ _ _=>rfl
 clear h hn hok hR hG hE;go_enter Tryz.func222,Tryz.ntmps222
 go_wp2_with fail
 have hx1:=HX.out.new (.cells #[.int .i64 (kind:Int),.int .i64 0,.string ⟨#[]⟩,.string ⟨#[]⟩,.slice none 0 0,.slice none 0 0] 53);have hb1:=Blk.new w 53 #[.int .i64 (kind:Int),.int .i64 0,.string ⟨#[]⟩,.string ⟨#[]⟩,.slice none 0 0,.slice none 0 0];generalize hN:w.heap.size=N at hx1 hb1 ⊢;generalize hw1:w.alloc (.cells #[.int .i64 (kind:Int),.int .i64 0,.string ⟨#[]⟩,.string ⟨#[]⟩,.slice none 0 0,.slice none 0 0] 53)=w1 at hx1 hb1 ⊢;have HX1:=hid hx1;have HB1:=hid hb1;clear hw1 hx1 hb1 HX;refine(HX1.out.need_ hlt ⟨#[123]⟩).mono ?_;intro r w2 hr;by_cases hs:seesW (tok ws k) ⟨#[123]⟩=true
 ·rw[hs] at hr;obtain⟨rfl,hx2,hsm2⟩:=hr;have HX2:=hid hx2;have hb2:=hsm2.blk (.inr rfl) HB1.out;have HB2:=hid hb2;have hlt1:=sees_next HE.out hlt hs;have HS:=hid hs;clear hs hx2 hsm2 hb2;go_wp2_with fail
  refine(HX2.out.sees_ hlt1 ⟨#[125]⟩).mono ?_;rintro r w3 ⟨rfl,hx3,hsm3⟩;have HX3:=hid hx3;have HB3:=hid (hsm3.blk (.inr rfl) HB2.out);clear hx3 hsm3;by_cases hs:seesW (tok ws (k+1)) ⟨#[125]⟩=true
  ·rw[hs];have hlt2:=sees_next HE.out hlt1 hs;have HS1:=hid hs;clear hs;go_wp2_with fail
   refine(HX3.out.need_ hlt1 ⟨#[125]⟩).mono ?_;intro r w4 hr;rw[HS1.out] at hr;obtain⟨rfl,hx4,hsm4⟩:=hr;have HX4:=hid hx4;have hb4:=hsm4.blk (.inr rfl) HB3.out;have z0:=hb4.cell 0;have z1:=hb4.cell 1;have z2:=hb4.cell 2;have z3:=hb4.cell 3;have z4:=hb4.cell 4;have z5:=hb4.cell 5;simp at z0 z1 z2 z3 z4 z5;clear hx4 hsm4 hb4;go_wp2_with fail
   refine(HX4.out.mde.add0_from hlt1 hrm kind 0 ⟨#[]⟩ ⟨#[]⟩).mono ?_;intro r w5 ho;have HU:Hid (recordR ws kind R k nds=addR ws (k+2) nds ⟨kind,0,⟨#[]⟩,⟨#[]⟩,[],[]⟩):=by show _=_;rw[recordR,if_pos HS.out,if_pos HS1.out]
   rcases hres:addR ws (k+2) nds ⟨kind,0,⟨#[]⟩,⟨#[]⟩,[],[]⟩ with⟨at_,er⟩ | ⟨v,k',nds'⟩
   ·rw[hres] at ho;obtain⟨rfl,hk5⟩:=ho;exact And.intro rfl (Out.err (by rw[HU.out,hres]) hk5)
   ·rw[hres] at ho;obtain⟨rfl,hm5⟩:=ho;have HM5:=hid hm5;have HRES:=hid hres;clear hres hm5;go_wp2_with fail
    go_ret
    exact Out.done (by rw[HU.out,HRES.out]) HM5.out
  ·have hs2:seesW (tok ws (k+1)) ⟨#[125]⟩=false:=by simpa using hs
   rw[hs2];have HS1:=hid hs2;have hok1:OkP ws (k+1) nds:=⟨hlt1,hrm,HOK.out.ok⟩;clear hs hs2;go_wp2_with fail
   refine(HX3.out.named_ name_rule (by decide) HE.out ⟨#[58]⟩ HR.out HG.out hok1).mono ?_
   intro r w4 ho;rcases hres:namedR ws 1 ⟨#[58]⟩ R (k+1) nds with⟨at_,er⟩ | ⟨l,k1,nds1,ns⟩
   ·rw[hres] at ho;obtain⟨rfl,hk4⟩:=ho;refine And.intro rfl (Out.err ?_ hk4);rw[recordR,if_pos HS.out,if_neg (by rw[HS1.out];simp),hres]
   ·rw[hres] at ho;obtain⟨nv,lv,rfl,hx4,hsm4⟩:=ho;obtain⟨hok4,hk1p,-,-,-⟩:=namedR_good HE.out (by decide) HG.out hok1 hres
    have hlt4:=hok4.lt;have hrm4:=hok4.room;obtain⟨NA,ncap,rfl⟩:∃ A n,nv=.slice A ns.length n:=by obtain⟨⟨f4,_,_,_,_,⟨NA,ncap,h,_⟩,_⟩,_⟩:=hx4;exact⟨NA,ncap,h⟩
    obtain⟨LA,lcap,rfl⟩:∃ A n,lv=.slice A l.length n:=by obtain⟨⟨f4,_,_,_,_,_,⟨LA,lcap,h,_⟩⟩,_⟩:=hx4;exact⟨LA,lcap,h⟩
    have hb4:=hsm4.blk (.inr rfl) HB3.out;have y4:=hb4.frozen 4;have y5:=hb4.frozen 5;have hb5:=(hb4.set_ 4 (.slice NA ns.length ncap)).set_ 5 (.slice LA l.length lcap);simp at hb5;have HX5:=hid ((hx4.put (N:=N) (.inr rfl) 4 (.slice NA ns.length ncap)).put (N:=N) (.inr rfl) 5 (.slice LA l.length lcap));have HB5:=hid hb5;have HRES:=hid hres;have z4:=hb4.cell 4;have z5:=hb4.cell 5;simp at z4 z5;clear hx4 hsm4 hb4 hb5 hres hok4;go_wp2_with fail
    generalize hw5:(w4.setCell ⟨N,4,none⟩ (.slice NA ns.length ncap)).setCell ⟨N,5,none⟩ (.slice LA l.length lcap)=w5 at HX5 HB5 ⊢;clear hw5 z4 z5 y4 y5;refine(HX5.out.need_ hlt4 ⟨#[125]⟩).mono ?_;intro r w6 hr;by_cases hs:seesW (tok ws k1) ⟨#[125]⟩=true
    ·rw[hs] at hr;obtain⟨rfl,hx6,hsm6⟩:=hr;have HX6:=hid hx6;have hb6:=hsm6.blk (.inr rfl) HB5.out;have z0:=hb6.cell 0;have z1:=hb6.cell 1;have z2:=hb6.cell 2;have z3:=hb6.cell 3;have z4:=hb6.cell 4;have z5:=hb6.cell 5;simp at z0 z1 z2 z3 z4 z5;have HS6:=hid hs;clear hx6 hsm6 hb6 hs;go_wp2_with fail
     refine(HX6.out.mdel.add_from hlt4 hrm4 kind 0 ⟨#[]⟩ ⟨#[]⟩).mono ?_;intro r w7 ho;have HU:Hid (recordR ws kind R k nds=addR ws (k1+1) nds1 ⟨kind,0,⟨#[]⟩,⟨#[]⟩,ns,l⟩):=by
      show _=_
      rw[recordR,if_pos HS.out,if_neg (by rw[HS1.out];simp),HRES.out]
      simp only[HS6.out,if_true]
     rcases hres:addR ws (k1+1) nds1 ⟨kind,0,⟨#[]⟩,⟨#[]⟩,ns,l⟩ with⟨at_,er⟩ | ⟨v,k',nds'⟩
     ·rw[hres] at ho;obtain⟨rfl,hk5⟩:=ho;exact And.intro rfl (Out.err (by rw[HU.out,hres]) hk5)
     ·rw[hres] at ho;obtain⟨rfl,hm5⟩:=ho;have HM5:=hid hm5;have HRES:=hid hres;clear hres hm5;go_wp2_with fail
      go_ret
      exact Out.done (by rw[HU.out,HRES.out]) HM5.out
    ·have hs2:seesW (tok ws k1) ⟨#[125]⟩=false:=by simpa using hs
     rw[hs2] at hr;obtain⟨rfl,hk6⟩:=hr;refine And.intro rfl (Out.err ?_ hk6);rw[recordR,if_pos HS.out,if_neg (by rw[HS1.out];simp),HRES.out]
     simp only[hs2]
     rfl
 ·have hs2:seesW (tok ws k) ⟨#[123]⟩=false:=by simpa using hs
  rw[hs2] at hr;obtain⟨rfl,hk2⟩:=hr;exact And.intro rfl (Out.err (by rw[recordR,if_neg hs]) hk2)
end
end Go.Proofs.YtmpaemchjehjbaaGreatDoor
