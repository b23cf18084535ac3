/- Contracts and plain facts that the theorem rests on: TDecl2, TFn, TMod. -/
import Derived.Test.YtmpaemchjehjbaaGreatDoorZR13
set_option linter.unusedSimpArgs false
set_option linter.unusedVariables false
namespace Go.Proofs.YtmpaemchjehjbaaGreatDoor
section
open Lib (hid)
open Go.RowKit
abbrev DRes:=Except (Nat × Nat) (Dc × Nat × List Nd)
def declR (ws:List Wd)(Rt:Nat→List Nd→Res)(k:Nat)(nds:List Nd):DRes:=
 if seesW (tok ws k) ⟨#[116,121,112,101]⟩ then
  if (tok ws (k+1)).kind=2 then match behindR ws ⟨#[61]⟩ Rt (k+2) nds with
   | .error x=>.error x
   | .ok (v,k',nds')=>.ok (⟨(tok ws (k+1)).text,v⟩,k',nds')
  else badAt ws (k+1)
 else badAt ws k
structure Fd where
 nm:ByteArray
 vars:List Dc
 params:List Dc
 ret:Nat
 body:Nat
abbrev FRes:=Except (Nat × Nat) (Fd × Nat × List Nd)
def fnTail (ws:List Wd)(Rt Rx:Nat→List Nd→Res)(nm:ByteArray)(vars params:List Dc)(k:Nat)(nds:List Nd):FRes:=
 if seesW (tok ws k) ⟨#[41]⟩ then match behindR ws ⟨#[58]⟩ Rt (k+1) nds with
  | .error x=>.error x
  | .ok (r,k1,nds1)=>match behindR ws ⟨#[61]⟩ Rx k1 nds1 with
   | .error x=>.error x
   | .ok (b,k2,nds2)=>.ok (⟨nm,vars,params,r,b⟩,k2,nds2)
 else badAt ws k
def fnParams (ws:List Wd)(Rt Rx:Nat→List Nd→Res)(nm:ByteArray)(vars:List Dc)(k:Nat)(nds:List Nd):FRes:=
 if seesW (tok ws k) ⟨#[40]⟩ then
  if seesW (tok ws (k+1)) ⟨#[41]⟩ then fnTail ws Rt Rx nm vars [] (k+1) nds
  else match namedR ws 1 ⟨#[58]⟩ Rt (k+1) nds with
   | .error x=>.error x
   | .ok (l,k1,nds1,ns)=>fnTail ws Rt Rx nm vars (zipD ns l) k1 nds1
 else badAt ws k
def fnR (ws:List Wd)(Rt Rx:Nat→List Nd→Res)(k:Nat)(nds:List Nd):FRes:=
 if seesW (tok ws k) ⟨#[102,110]⟩ then
  if (tok ws (k+1)).kind=1 then
   if seesW (tok ws (k+2)) ⟨#[91]⟩ then match namedR ws 2 ⟨#[60,58]⟩ Rt (k+3) nds with
    | .error x=>.error x
    | .ok (l,k1,nds1,ns)=>if seesW (tok ws k1) ⟨#[93]⟩ then fnParams ws Rt Rx (tok ws (k+1)).text (zipD ns l) (k1+1) nds1 else badAt ws k1
   else fnParams ws Rt Rx (tok ws (k+1)).text [] (k+2) nds
  else badAt ws (k+1)
 else badAt ws k
def DOutX (X:Nat→Prop)(w w1:World)(g:Nat)(ws:List Wd)(d:Nat)(a b c e f:Value)(D:Nat→Prop)(res:DRes)(r:Ending)(w':World):Prop:=
 match res with
 | .ok (x,k',nds')=>r=.returned (.agg #[.string x.nm,.int .i64 (x.ty:Int)])∧MdX X w w' g ws k' d a b c e f nds' D∧Same X w1 w'
 | .error (at_,er)=>r=.panicked (faultP at_ er)∧Kept (Mut g f) w w'
def FOutX (X:Nat→Prop)(w w1:World)(g:Nat)(ws:List Wd)(d:Nat)(a b c e f:Value)(D:Nat→Prop)(res:FRes)(r:Ending)(w':World):Prop:=
 match res with
 | .ok (x,k',nds')=>∃ vv pv,r=.returned (.agg #[.string x.nm,vv,pv,.int .i64 (x.ret:Int),.int .i64 (x.body:Int)])∧MdX (fun i=>X i∨vv.ownBlock=some i∨pv.ownBlock=some i) w w' g ws k' d a b c e f nds' D∧Same X w1 w' ∧
   w'.ownsRow w1.heap.size 64 2 vv x.vars.length (dcells x.vars)∧w'.ownsRow w1.heap.size 64 2 pv x.params.length (dcells x.params)
 | .error (at_,er)=>r=.panicked (faultP at_ er)∧Kept (Mut g f) w w'
section
variable {X : Nat → Prop} {w w1 w' : World} {g k' d : Nat} {ws : List Wd} {a b c e f : Value} {nds' : List Nd} {D : Nat → Prop} {at_ er : Nat}
theorem DOutX.err {res:DRes}(h:res=.error (at_,er))(hk:Kept (Mut g f) w w'):DOutX X w w1 g ws d a b c e f D res (.panicked (faultP at_ er)) w':=by subst h;exact⟨rfl,hk⟩
theorem DOutX.done {res:DRes}{x:Dc}(h:res=.ok (x,k',nds'))(hM:MdX X w w' g ws k' d a b c e f nds' D)(hs:Same X w1 w'):DOutX X w w1 g ws d a b c e f D res (.returned (.agg #[.string x.nm,.int .i64 (x.ty:Int)])) w':=by subst h;exact⟨rfl,hM,hs⟩
theorem FOutX.err {res:FRes}(h:res=.error (at_,er))(hk:Kept (Mut g f) w w'):FOutX X w w1 g ws d a b c e f D res (.panicked (faultP at_ er)) w':=by subst h;exact⟨rfl,hk⟩
end
set_option maxRecDepth 100000 in
set_option maxHeartbeats 4000000 in
theorem decl_any (g:Nat)(ws:List Wd)(hE:EndW ws)(d:Nat)(a b c e f:Value)(R:Nat→List Nd→Res)(hR:Rule 189 g ws d a b c e R (OkP ws))(hG:GoodR ws R)
  (X:Nat→Prop)(w w1:World)(k:Nat)(nds:List Nd)(D:Nat→Prop)(hM:MdX X w w1 g ws k d a b c e f nds D)(hok:OkP ws k nds) :
  Calls Tryz.prog 150 #[.pointer (some ⟨g,0,none⟩)] w1 fun r w'=>DOutX X w w1 g ws d a b c e f D (declR ws R k nds) r w':=by
 have hin:=hM.inX;have HX0:=hid hM;have HOK:=hid hok;have HR:=hid hR;have HG:=hid hG;have HE:=hid hE;have HIN:=hid hin;have hlt:=hok.lt;have hmf:∀(fn:Fn) (first cap:Array Value) (w:World),(Instr.makeFunc fn first cap).run Tryz.prog w=.ok (.func fn first cap) w:=fun _ _ _ _=>rfl
 clear hM hok hR hG hE hin;go_enter Tryz.func150,Tryz.ntmps150
 go_wp2_with fail
 have hx1:=HX0.out.new (.cells #[.string ⟨#[]⟩,.int .i64 0] 63);have hb1:=Blk.new w1 63 #[.string ⟨#[]⟩,.int .i64 0];have hs1:Same X w1 (w1.alloc (.cells #[.string ⟨#[]⟩,.int .i64 0] 63)):=Same.alloc (fun i h=>(HIN.out i h).2) _
 have hnx:¬ X w1.heap.size:=fun h=>by have:=(HIN.out _ h).2;omega
 generalize hN:w1.heap.size=N at hx1 hb1 hnx ⊢;generalize hw2:w1.alloc (.cells #[.string ⟨#[]⟩,.int .i64 0] 63)=w2 at hx1 hb1 hs1 ⊢;have HXa:=hid hx1;have HBa:=hid hb1;have HSa:=hid hs1;clear hw2 hx1 hb1 hs1 HX0;refine(HXa.out.need_ hlt ⟨#[116,121,112,101]⟩).mono ?_;intro r wb hr;by_cases hs:seesW (tok ws k) ⟨#[116,121,112,101]⟩=true
 ·rw[hs] at hr;obtain⟨rfl,hm⟩:=hr;have HPb:=hid hm;have HCb:=hid hs;clear hs hm;obtain⟨hx,hsm⟩:=HPb.out;have HXb:=hid hx;have HBb:=hid (hsm.blk (.inr rfl) HBa.out);have HSb:=hid (HSa.out.trans_ (fun i hi=>hsm i (.inl hi)))
  clear hx hsm;have hlt1:=sees_next HE.out hlt HCb.out;go_wp2_with fail
  refine(HXb.out.typeName_ hlt1).mono ?_;intro r wc hr;by_cases hs:decide ((tok ws (k+1)).kind=2)=true
  ·rw[hs] at hr;obtain⟨rfl,hm⟩:=hr;have HPc:=hid hm;have HCc:=hid hs;clear hs hm;obtain⟨hx,hsm⟩:=HPc.out;have HXc:=hid hx;have HBc:=hid (hsm.blk (.inr rfl) HBb.out);have HSc:=hid (HSb.out.trans_ (fun i hi=>hsm i (.inl hi)))
   clear hx hsm;have hlt2:k+2<ws.length:=kind_next HE.out hlt1 (kd:=2) (by simpa using HCc.out) (by decide)
   go_wp2_with fail
   refine(HXc.out.behind_ HR.out hlt2 ⟨#[61]⟩ (fun hs=>⟨sees_next HE.out hlt2 hs,HOK.out.room,HOK.out.ok⟩)).mono ?_
   intro r wd ho;rcases hres:behindR ws ⟨#[61]⟩ R (k+2) nds with⟨at_,er⟩ | ⟨vd,kd,nd⟩
   ·rw[hres] at ho;obtain⟨rfl,hk9⟩:=ho;refine And.intro rfl (DOutX.err ?_ hk9);rw[declR,if_pos HCb.out,if_pos (by simpa using HCc.out),hres]
   ·rw[hres] at ho;obtain⟨rfl,hm⟩:=ho;have HPd:=hid hm;have HRd:=hid hres;clear hres hm;obtain⟨hx,hsm⟩:=HPd.out;have HXd:=hid hx;have HBd:=hid (hsm.blk (.inr rfl) HBc.out);have HSd:=hid (HSc.out.trans_ (fun i hi=>hsm i (.inl hi)))
    clear hx hsm;have y0:=HBd.out.frozen 0;have y1:=HBd.out.frozen 1;have z0:=HBd.out.cell 0;have z1:=HBd.out.cell 1;simp at z0 z1;go_wp2_with fail
    have hb9:=(HBd.out.set_ 0 (.string (tok ws (k+1)).text)).set_ 1 (.int .i64 (vd:Int));simp at hb9;have c0:=hb9.cell 0;have c1:=hb9.cell 1;simp at c0 c1;refine bodyPost_ret (v:=.agg #[.string (tok ws (k+1)).text,.int .i64 (vd:Int)]) (by simp[results,Tryz.results150,go_sem,c0,c1]) rfl ?_
    refine DOutX.done (x:=⟨(tok ws (k+1)).text,vd⟩) (k':=kd) (nds':=nd) ?_ (((HXd.out.put (N:=N) (.inr rfl) 0 _).put (N:=N) (.inr rfl) 1 _).less fun i h=>.inl h) ((HSd.out.trans_ (Same.put hnx)).trans_ (Same.put hnx))
    rw[declR,if_pos HCb.out,if_pos (by simpa using HCc.out),HRd.out]
  ·have hs2:decide ((tok ws (k+1)).kind=2)=false:=by simpa using hs
   rw[hs2] at hr;obtain⟨rfl,hk9⟩:=hr;refine And.intro rfl (DOutX.err ?_ hk9);rw[declR,if_pos HCb.out,if_neg (by simpa using hs2)]
 ·have hs2:seesW (tok ws k) ⟨#[116,121,112,101]⟩=false:=by simpa using hs
  rw[hs2] at hr;obtain⟨rfl,hk9⟩:=hr;refine And.intro rfl (DOutX.err ?_ hk9);rw[declR,if_neg (by rw[hs2];simp)]
end
section
open Lib (hid)
open Go.RowKit
theorem own_slice {w:World}{base n size:Nat}{t:TypeId}{v:Value}{xs:List Value}(h:w.ownsRow base t size v n xs):∃ A c,v=.slice A n c:=by
 rcases h.2 with⟨rfl,h0⟩ | ⟨q,cap,cur,rfl,_⟩
 ·exact⟨none,0,by rw[h0]⟩
 ·exact⟨_,_,rfl⟩
theorem own_put {w:World}{base n size N i:Nat}{t:TypeId}{v u:Value}{xs:List Value}(h:w.ownsRow base t size v n xs)(hN:N<base):(w.setCell ⟨N,i,none⟩ u).ownsRow base t size v n xs:=
 own_kept_ne h ((Kept.refl (fun i=>i=N) w).setCell (p:=⟨N,i,none⟩) (fun _=>rfl) u) fun q hq e=>by have:=(h.lt q hq).1;omega
theorem MdXL.lists {X:Nat→Prop}{w w1:World}{g k d:Nat}{ws:List Wd}{a b c e f:Value}{nds:List Nd}{D:Nat→Prop}{nv lv:Value}{ns:List ByteArray}{l:List Nat}(h:MdXL X w w1 g ws k d a b c e f nds D nv lv ns l) :
  ∃ NA nc LA lc M,nv=.slice NA ns.length nc∧lv=.slice LA l.length lc∧SSq w1 M (.slice NA ns.length nc) ns∧ISq w1 M (.slice LA l.length lc) l:=by
 obtain⟨⟨f4,_,_,_,_,hs,hi⟩,_⟩:=h;have hs':=hs;have hi':=hi;obtain⟨NA,nc,rfl,_⟩:=hs;obtain⟨LA,lc,rfl,_⟩:=hi;exact⟨NA,nc,LA,lc,_,rfl,rfl,hs',hi'⟩
theorem MdX.below {X:Nat→Prop}{w w1 w2:World}{g k d:Nat}{ws:List Wd}{a b c e f:Value}{nds:List Nd}{D:Nat→Prop}(h:MdX X w w1 g ws k d a b c e f nds D)(hb:Below w1.heap.size w1 w2){base n size:Nat}{t:TypeId}{v:Value}{xs:List Value}(ho:w2.ownsRow base t size v n xs)(hbase:w1.heap.size≤base) :
  MdX (fun i=>X i∨v.ownBlock=some i) w w2 g ws k d a b c e f nds D∧Same X w1 w2:=
 ⟨h.more (Kept.of_below hb X) fun i hi=>.inr (by have:=ho.lt i hi;omega),fun i hi=>hb.block i (h.inX i hi).2⟩
theorem FOutX.done {X Y:Nat→Prop}{w w1 w':World}{g k' d:Nat}{ws:List Wd}{a b c e f:Value}{nds':List Nd}{D:Nat→Prop}{res:FRes}{x:Fd}{vv pv:Value}(h:res=.ok (x,k',nds'))(hM:MdX Y w w' g ws k' d a b c e f nds' D)(hY:∀ i,(X i∨vv.ownBlock=some i∨pv.ownBlock=some i)→Y i)(hs:Same X w1 w')
  (hv:w'.ownsRow (w1.heap.size+1) 64 2 vv x.vars.length (dcells x.vars))(hp:w'.ownsRow (w1.heap.size+1) 64 2 pv x.params.length (dcells x.params)):FOutX X w w1 g ws d a b c e f D res (.returned (.agg #[.string x.nm,vv,pv,.int .i64 (x.ret:Int),.int .i64 (x.body:Int)])) w':=by
 subst h;exact⟨vv,pv,rfl,hM.less hY,hs,own_base hv (Nat.le_succ _),own_base hp (Nat.le_succ _)⟩
theorem fn_end {X Y:Nat→Prop}{w w1 w5:World}{g k d N:Nat}{ws:List Wd}{a b c e f:Value}{nds:List Nd}{D:Nat→Prop}(hM:MdX Y w w5 g ws k d a b c e f nds D)(hYN:Y N)(hnx:¬ X N)(hs:Same X w1 w5)(u0 u1 u2 u3 u4:Value)(hb:Blk w5 N 60 #[u0,u1,u2,u3,u4]) :
  MdX Y w (((((w5.setCell ⟨N,0,none⟩ u0).setCell ⟨N,1,none⟩ u1).setCell ⟨N,2,none⟩ u2).setCell ⟨N,3,none⟩ u3).setCell ⟨N,4,none⟩ u4) g ws k d a b c e f nds D ∧
   Same X w1 (((((w5.setCell ⟨N,0,none⟩ u0).setCell ⟨N,1,none⟩ u1).setCell ⟨N,2,none⟩ u2).setCell ⟨N,3,none⟩ u3).setCell ⟨N,4,none⟩ u4) ∧
   Blk (((((w5.setCell ⟨N,0,none⟩ u0).setCell ⟨N,1,none⟩ u1).setCell ⟨N,2,none⟩ u2).setCell ⟨N,3,none⟩ u3).setCell ⟨N,4,none⟩ u4) N 60 #[u0,u1,u2,u3,u4] ∧
   (∀(t:TypeId) (size n:Nat) (v:Value) (xs:List Value),w5.ownsRow (N+1) t size v n xs→(((((w5.setCell ⟨N,0,none⟩ u0).setCell ⟨N,1,none⟩ u1).setCell ⟨N,2,none⟩ u2).setCell ⟨N,3,none⟩ u3).setCell ⟨N,4,none⟩ u4).ownsRow (N+1) t size v n xs):=by
 refine⟨((((hM.put hYN 0 u0).put hYN 1 u1).put hYN 2 u2).put hYN 3 u3).put hYN 4 u4,((((hs.trans_ (Same.put hnx)).trans_ (Same.put hnx)).trans_ (Same.put hnx)).trans_ (Same.put hnx)).trans_ (Same.put hnx),?_,fun t size n v xs h=>?_⟩
 ·have:=((((hb.set_ 0 u0).set_ 1 u1).set_ 2 u2).set_ 3 u3).set_ 4 u4
  simpa using this
 ·exact own_put (own_put (own_put (own_put (own_put h (Nat.lt_succ_self N)) (Nat.lt_succ_self N)) (Nat.lt_succ_self N)) (Nat.lt_succ_self N)) (Nat.lt_succ_self N)
set_option maxRecDepth 100000 in
set_option maxHeartbeats 8000000 in
theorem fn_any (g:Nat)(ws:List Wd)(hE:EndW ws)(d:Nat)(a b c e f:Value)(Rt Rx:Nat→List Nd→Res)(hRt:Rule 189 g ws d a b c e Rt (OkP ws))(hGt:GoodR ws Rt)(hRx:Rule 192 g ws d a b c e Rx (OkP ws))(hGx:GoodR ws Rx)
  (X:Nat→Prop)(w w1:World)(k:Nat)(nds:List Nd)(D:Nat→Prop)(hM:MdX X w w1 g ws k d a b c e f nds D)(hok:OkP ws k nds) :
  Calls Tryz.prog 151 #[.pointer (some ⟨g,0,none⟩)] w1 fun r w'=>FOutX X w w1 g ws d a b c e f D (fnR ws Rt Rx k nds) r w':=by
 have hin:=hM.inX;have HX0:=hid hM;have HOK:=hid hok;have HRt:=hid hRt;have HGt:=hid hGt;have HRx:=hid hRx;have HGx:=hid hGx;have HE:=hid hE;have HIN:=hid hin;have hlt:=hok.lt;have hmf:∀(fn:Fn) (first cap:Array Value) (w:World),(Instr.makeFunc fn first cap).run Tryz.prog w=.ok (.func fn first cap) w:=fun _ _ _ _=>rfl
 clear hM hok hRt hGt hRx hGx hE hin;go_enter Tryz.func151,Tryz.ntmps151
 go_wp2_with fail
 have hx1:=HX0.out.new (.cells #[.string ⟨#[]⟩,.slice none 0 0,.slice none 0 0,.int .i64 0,.int .i64 0] 60);have hb1:=Blk.new w1 60 #[.string ⟨#[]⟩,.slice none 0 0,.slice none 0 0,.int .i64 0,.int .i64 0];have hs1:Same X w1 (w1.alloc (.cells #[.string ⟨#[]⟩,.slice none 0 0,.slice none 0 0,.int .i64 0,.int .i64 0] 60)):=Same.alloc (fun i h=>(HIN.out i h).2) _
 have hnx:¬ X w1.heap.size:=fun h=>by have:=(HIN.out _ h).2;omega
 have hNlt:=hb1.lt;generalize hN:w1.heap.size=N at hx1 hb1 hnx hNlt ⊢;generalize hw2:w1.alloc (.cells #[.string ⟨#[]⟩,.slice none 0 0,.slice none 0 0,.int .i64 0,.int .i64 0] 60)=w2 at hx1 hb1 hs1 hNlt ⊢;have HXa:=hid hx1;have HBa:=hid hb1;have HSa:=hid hs1;have HN:=hid hN;clear hw2 hx1 hb1 hs1 HX0 hN;refine(HXa.out.need_ hlt ⟨#[102,110]⟩).mono ?_;intro r wb hr;by_cases hs:seesW (tok ws k) ⟨#[102,110]⟩=true
 ·rw[hs] at hr;obtain⟨rfl,hm⟩:=hr;have HPb:=hid hm;have HCb:=hid hs;clear hs hm;obtain⟨hx,hsm⟩:=HPb.out;have HXb:=hid hx;have HBb:=hid (hsm.blk (.inr rfl) HBa.out);have HSb:=hid (HSa.out.trans_ (fun i hi=>hsm i ((.inl hi))))
  clear hx hsm;have hlt1:=sees_next HE.out hlt HCb.out;go_wp2_with fail
  refine(HXb.out.name_ hlt1).mono ?_;intro r wc hr;by_cases hs:decide ((tok ws (k+1)).kind=1)=true
  ·rw[hs] at hr;obtain⟨rfl,hm⟩:=hr;have HPc:=hid hm;have HCc:=hid hs;clear hs hm;obtain⟨hx,hsm⟩:=HPc.out;have HXc:=hid hx;have HBc:=hid (hsm.blk (.inr rfl) HBb.out);have HSc:=hid (HSb.out.trans_ (fun i hi=>hsm i ((.inl hi))))
   clear hx hsm;have hlt2:k+2<ws.length:=kind_next HE.out hlt1 (kd:=1) (by simpa using HCc.out) (by decide)
   have y0:=HBc.out.frozen 0;have z0:=HBc.out.cell 0;simp at z0;have hb9:=HBc.out.set_ 0 (.string (tok ws (k+1)).text);simp at hb9;have HXe:=hid (HXc.out.put (N:=N) (.inr rfl) 0 (.string (tok ws (k+1)).text));have HBe:=hid hb9;have HSe:=hid (HSc.out.trans_ (Same.put (w1:=wc) (i:=0) (v:=.string (tok ws (k+1)).text) hnx));clear hb9;go_wp2_with fail
   generalize hw9:wc.setCell ⟨N,0,none⟩ (.string (tok ws (k+1)).text)=we at HXe HBe HSe ⊢;clear hw9 y0 z0;refine(HXe.out.take_ hlt2 ⟨#[91]⟩).mono ?_;rintro r wf ⟨rfl,hm⟩;by_cases hs:seesW (tok ws (k+2)) ⟨#[91]⟩=true
   ·rw[adv_yes hs] at hm;have HPf:=hid hm;rw[hs];have HCf:=hid hs;clear hs hm;obtain⟨hx,hsm⟩:=HPf.out;have HXf:=hid hx;have HBf:=hid (hsm.blk (.inr rfl) HBe.out);have HSf:=hid (HSe.out.trans_ (fun i hi=>hsm i ((.inl hi))))
    clear hx hsm;have HOKf:Hid (OkP ws (k+3) nds):=hid ⟨sees_next HE.out hlt2 HCf.out,HOK.out.room,HOK.out.ok⟩;go_wp2_with fail
    refine(HXf.out.named_ typeName_rule (by decide) HE.out ⟨#[60,58]⟩ HRt.out HGt.out HOKf.out).mono ?_
    intro r wg ho;rcases hres:namedR ws 2 ⟨#[60,58]⟩ Rt (k+3) nds with⟨at_,er⟩ | ⟨lg,kg,ng,nsg⟩
    ·rw[hres] at ho;obtain⟨rfl,hk9⟩:=ho;refine And.intro rfl (FOutX.err ?_ hk9);rw[fnR,if_pos HCb.out,if_pos (by simpa using HCc.out),if_pos HCf.out,hres]
    ·obtain⟨hok9,-,-,hlen9,hl169⟩:=namedR_good HE.out (by decide) HGt.out HOKf.out hres
     rw[hres] at ho;obtain⟨nv,lv,rfl,hx9,hsm9⟩:=ho;obtain⟨NA,nc,LA,lc,M9,rfl,rfl,hss9,hii9⟩:=hx9.lists;have HOKg:=hid hok9;have HRg:=hid hres;have HLg:=hid hlen9;have HSSg:=hid hss9;have HIIg:=hid hii9;have HXg:=hid hx9.mdx;have HBg:=hid (hsm9.blk (.inr rfl) HBf.out);have HSg:=hid (HSf.out.trans_ (fun i hi=>hsm9 i ((.inl hi))))
     clear hres hok9 hlen9 hx9 hsm9 hss9 hii9;go_wp2_with fail
     refine(vars_any NA LA nc lc nsg lg wg M9 M9 HSSg.out HIIg.out HLg.out hl169).mono ?_;rintro r wgv ⟨v9,rfl,hb9,ho9⟩;obtain⟨VAg,vcg,rfl⟩:=own_slice ho9;obtain⟨hx9,hsm9⟩:=HXg.out.below hb9 ho9 (Nat.le_refl _);have hNn:N<wg.heap.size:=HBg.out.lt;have HXgv:=hid hx9;have HBgv:=hid (hsm9.blk (.inr rfl) HBg.out);have HSgv:=hid (HSg.out.trans_ (fun i hi=>hsm9 i ((.inl hi))))
     have HWgv:=hid (own_base ho9 (base':=N+1) hNn);clear hx9 hsm9 hb9 ho9;have y1:=HBgv.out.frozen 1;have z1:=HBgv.out.cell 1;simp at z1;have hb9:=HBgv.out.set_ 1 (.slice VAg (zipD nsg lg).length vcg);simp at hb9;have HXh:=hid (HXgv.out.put (N:=N) (.inl (.inr rfl)) 1 (.slice VAg (zipD nsg lg).length vcg));have HBh:=hid hb9;have HSh:=hid (HSgv.out.trans_ (Same.put (w1:=wgv) (i:=1) (v:=.slice VAg (zipD nsg lg).length vcg) hnx));have HWh:=hid (own_put (i:=1) (u:=.slice VAg (zipD nsg lg).length vcg) HWgv.out (Nat.lt_succ_self N));clear hb9;go_wp2_with fail
     generalize hw9:wgv.setCell ⟨N,1,none⟩ (.slice VAg (zipD nsg lg).length vcg)=wh at HXh HBh HSh HWh ⊢;clear hw9 y1 z1;refine(HXh.out.need_ HOKg.out.lt ⟨#[93]⟩).mono ?_;intro r wi hr;by_cases hs:seesW (tok ws kg) ⟨#[93]⟩=true
     ·rw[hs] at hr;obtain⟨rfl,hm⟩:=hr;have HPi:=hid hm;have HCi:=hid hs;clear hs hm;obtain⟨hx,hsm⟩:=HPi.out;have HXi:=hid hx;have HBi:=hid (hsm.blk (.inl (.inr rfl)) HBh.out);have HSi:=hid (HSh.out.trans_ (fun i hi=>hsm i ((.inl (.inl hi)))))
      have HWi:=hid (hsm.own (fun q h=>.inr h) HWh.out)
      clear hx hsm;have HOKi:Hid (OkP ws (kg+1) ng):=hid ⟨sees_next HE.out HOKg.out.lt HCi.out,HOKg.out.room,HOKg.out.ok⟩;have HVi:=HWi;go_wp2_with fail
      refine(HXi.out.need_ HOKi.out.lt ⟨#[40]⟩).mono ?_;intro r wi5 hr;by_cases hs:seesW (tok ws (kg+1)) ⟨#[40]⟩=true
      ·rw[hs] at hr;obtain⟨rfl,hm⟩:=hr;have HPi5:=hid hm;have HCi5:=hid hs;clear hs hm;obtain⟨hx,hsm⟩:=HPi5.out;have HXi5:=hid hx;have HBi5:=hid (hsm.blk (.inl (.inr rfl)) HBi.out);have HSi5:=hid (HSi.out.trans_ (fun i hi=>hsm i ((.inl (.inl hi)))))
       have HVi5:=hid (hsm.own (fun q h=>.inr h) HVi.out)
       clear hx hsm;have hlti5:=sees_next HE.out HOKi.out.lt HCi5.out;have HOKi5:Hid (OkP ws ((kg+1)+1) ng):=hid ⟨hlti5,HOKi.out.room,HOKi.out.ok⟩;go_wp2_with fail
       refine(HXi5.out.sees_ hlti5 ⟨#[41]⟩).mono ?_;rintro r wi6 ⟨rfl,hm⟩;have HPi6:=hid hm;clear hm;obtain⟨hx,hsm⟩:=HPi6.out;have HXi6:=hid hx;have HBi6:=hid (hsm.blk (.inl (.inr rfl)) HBi5.out);have HSi6:=hid (HSi5.out.trans_ (fun i hi=>hsm i ((.inl (.inl hi)))))
       have HVi6:=hid (hsm.own (fun q h=>.inr h) HVi5.out)
       clear hx hsm;by_cases hs:seesW (tok ws ((kg+1)+1)) ⟨#[41]⟩=true
       ·rw[hs];have HCi6:=hid hs;clear hs;have HOKi6:=HOKi5;go_wp2_with fail
        refine(HXi6.out.need_ HOKi6.out.lt ⟨#[41]⟩).mono ?_;intro r wi61 hr;by_cases hs:seesW (tok ws ((kg+1)+1)) ⟨#[41]⟩=true
        ·rw[hs] at hr;obtain⟨rfl,hm⟩:=hr;have HPi61:=hid hm;have HCi61:=hid hs;clear hs hm;obtain⟨hx,hsm⟩:=HPi61.out;have HXi61:=hid hx;have HBi61:=hid (hsm.blk (.inl (.inr rfl)) HBi6.out);have HSi61:=hid (HSi6.out.trans_ (fun i hi=>hsm i ((.inl (.inl hi)))))
         have HVi61:=hid (hsm.own (fun q h=>.inr h) HVi6.out)
         clear hx hsm;have hlti61:=sees_next HE.out HOKi6.out.lt HCi61.out;have HOKi61:Hid (OkP ws (((kg+1)+1)+1) ng):=hid ⟨hlti61,HOKi6.out.room,HOKi6.out.ok⟩;go_wp2_with fail
         refine(HXi61.out.behind_ HRt.out hlti61 ⟨#[58]⟩ (fun hs=>⟨sees_next HE.out hlti61 hs,HOKi6.out.room,HOKi6.out.ok⟩)).mono ?_
         intro r wi62 ho;rcases hres:behindR ws ⟨#[58]⟩ Rt (((kg+1)+1)+1) ng with⟨at_,er⟩ | ⟨vi62,ki62,ni62⟩
         ·rw[hres] at ho;obtain⟨rfl,hk9⟩:=ho;refine And.intro rfl (FOutX.err ?_ hk9);rw[fnR,if_pos HCb.out,if_pos (by simpa using HCc.out),if_pos HCf.out,HRg.out];simp only[HCi.out,if_true];rw[fnParams,if_pos HCi5.out,if_pos HCi6.out];rw[fnTail,if_pos HCi61.out,hres]
         ·rw[hres] at ho;obtain⟨rfl,hm⟩:=ho;have HPi62:=hid hm;have HRi62:=hid hres;obtain⟨-,hok9,-,-⟩:=behindR_ok HE.out HGt.out ⟨#[58]⟩ _ _ _ _ _ HOKi61.out hres;have HOKi62:=hid hok9;clear hok9;clear hres hm;obtain⟨hx,hsm⟩:=HPi62.out;have HXi62:=hid hx;have HBi62:=hid (hsm.blk (.inl (.inr rfl)) HBi61.out);have HSi62:=hid (HSi61.out.trans_ (fun i hi=>hsm i ((.inl (.inl hi)))))
          have HVi62:=hid (hsm.own (fun q h=>.inr h) HVi61.out)
          clear hx hsm;have y3:=HBi62.out.frozen 3;have z3:=HBi62.out.cell 3;simp at z3;have hb9:=HBi62.out.set_ 3 (.int .i64 (vi62:Int));simp at hb9;have HXi63:=hid (HXi62.out.put (N:=N) (.inl (.inr rfl)) 3 (.int .i64 (vi62:Int)));have HBi63:=hid hb9;have HSi63:=hid (HSi62.out.trans_ (Same.put (w1:=wi62) (i:=3) (v:=.int .i64 (vi62:Int)) hnx));have HVi63:=hid (own_put (i:=3) (u:=.int .i64 (vi62:Int)) HVi62.out (Nat.lt_succ_self N));clear hb9;go_wp2_with fail
          generalize hw9:wi62.setCell ⟨N,3,none⟩ (.int .i64 (vi62:Int))=wi63 at HXi63 HBi63 HSi63 HVi63 ⊢;clear hw9 y3 z3;refine(HXi63.out.behind_ HRx.out HOKi62.out.lt ⟨#[61]⟩ (fun hs=>⟨sees_next HE.out HOKi62.out.lt hs,HOKi62.out.room,HOKi62.out.ok⟩)).mono ?_
          intro r wi64 ho;rcases hres:behindR ws ⟨#[61]⟩ Rx ki62 ni62 with⟨at_,er⟩ | ⟨vi64,ki64,ni64⟩
          ·rw[hres] at ho;obtain⟨rfl,hk9⟩:=ho;refine And.intro rfl (FOutX.err ?_ hk9);rw[fnR,if_pos HCb.out,if_pos (by simpa using HCc.out),if_pos HCf.out,HRg.out];simp only[HCi.out,if_true];rw[fnParams,if_pos HCi5.out,if_pos HCi6.out];rw[fnTail,if_pos HCi61.out,HRi62.out];simp only[hres]
          ·rw[hres] at ho;obtain⟨rfl,hm⟩:=ho;have HPi64:=hid hm;have HRi64:=hid hres;obtain⟨-,hok9,-,-⟩:=behindR_ok HE.out HGx.out ⟨#[61]⟩ _ _ _ _ _ HOKi62.out hres;have HOKi64:=hid hok9;clear hok9;clear hres hm;obtain⟨hx,hsm⟩:=HPi64.out;have HXi64:=hid hx;have HBi64:=hid (hsm.blk (.inl (.inr rfl)) HBi63.out);have HSi64:=hid (HSi63.out.trans_ (fun i hi=>hsm i ((.inl (.inl hi)))))
           have HVi64:=hid (hsm.own (fun q h=>.inr h) HVi63.out)
           clear hx hsm;have y4:=HBi64.out.frozen 4;have z4:=HBi64.out.cell 4;simp at z4;have hb9:=HBi64.out.set_ 4 (.int .i64 (vi64:Int));simp at hb9;have HXi69:=hid (HXi64.out.put (N:=N) (.inl (.inr rfl)) 4 (.int .i64 (vi64:Int)));have HBi69:=hid hb9;have HSi69:=hid (HSi64.out.trans_ (Same.put (w1:=wi64) (i:=4) (v:=.int .i64 (vi64:Int)) hnx));have HVi69:=hid (own_put (i:=4) (u:=.int .i64 (vi64:Int)) HVi64.out (Nat.lt_succ_self N));clear hb9;have hb10:=HBi69.out;have c0:=hb10.cell 0;have c1:=hb10.cell 1;have c2:=hb10.cell 2;have c3:=hb10.cell 3;have c4:=hb10.cell 4;have e0:=hb10.frozen 0;have e1:=hb10.frozen 1;have e2:=hb10.frozen 2;have e3:=hb10.frozen 3;have e4:=hb10.frozen 4;simp at c0 c1 c2 c3 c4;clear hb10
           go_upto_region 12 with(fail)
           generalize hw9:wi64.setCell ⟨N,4,none⟩ (.int .i64 (vi64:Int))=wi69 at HXi69 HBi69 HSi69 HVi69 c0 c1 c2 c3 c4 e0 e1 e2 e3 e4 ⊢;clear hw9 y4 z4;go_wp2_with fail
           obtain⟨hx10,hs10,hb10,ho10⟩:=fn_end HXi69.out (.inl (.inr rfl)) hnx HSi69.out _ _ _ _ _ HBi69.out;have d0:=hb10.cell 0;have d1:=hb10.cell 1;have d2:=hb10.cell 2;have d3:=hb10.cell 3;have d4:=hb10.cell 4;simp only[List.getElem?_toArray,List.getElem?_cons_zero,List.getElem?_cons_succ] at d0 d1 d2 d3 d4;refine bodyPost_ret (v:=.agg #[.string (tok ws (k+1)).text,Value.slice VAg (zipD nsg lg).length vcg,Value.slice none 0 0,.int .i64 (vi62:Int),.int .i64 (vi64:Int)]) (by simp[results,Tryz.results151,go_sem,d0,d1,d2,d3,d4]) rfl ?_
           refine FOutX.done (x:=⟨(tok ws (k+1)).text,(zipD nsg lg),[],vi62,vi64⟩) (k':=ki64) (nds':=ni64) (vv:=Value.slice VAg (zipD nsg lg).length vcg) (pv:=Value.slice none 0 0) ?_ hx10 ?_ hs10 (by rw[HN.out];exact ho10 _ _ _ _ _ HVi69.out) (by rw[HN.out];exact⟨rfl,.inl ⟨rfl,rfl⟩⟩)
           ·rw[fnR,if_pos HCb.out,if_pos (by simpa using HCc.out),if_pos HCf.out,HRg.out];simp only[HCi.out,if_true];rw[fnParams,if_pos HCi5.out,if_pos HCi6.out];rw[fnTail,if_pos HCi61.out,HRi62.out];simp only[HRi64.out]
           ·rintro i (h | h | h)
            ·exact(.inl (.inl h))
            ·exact .inr h
            ·simp[Value.ownBlock] at h
        ·have hs2:seesW (tok ws ((kg+1)+1)) ⟨#[41]⟩=false:=by simpa using hs
         rw[hs2] at hr;obtain⟨rfl,hk9⟩:=hr;refine And.intro rfl (FOutX.err ?_ hk9);rw[fnR,if_pos HCb.out,if_pos (by simpa using HCc.out),if_pos HCf.out,HRg.out];simp only[HCi.out,if_true];rw[fnParams,if_pos HCi5.out,if_pos HCi6.out];rw[fnTail,if_neg (by rw[hs2];simp)]
       ·have hs2:seesW (tok ws ((kg+1)+1)) ⟨#[41]⟩=false:=by simpa using hs
        rw[hs2];have HCi6:=hid hs2;clear hs hs2;go_wp2_with fail
        refine(HXi6.out.named_ name_rule (by decide) HE.out ⟨#[58]⟩ HRt.out HGt.out HOKi5.out).mono ?_
        intro r wi7 ho;rcases hres:namedR ws 1 ⟨#[58]⟩ Rt ((kg+1)+1) ng with⟨at_,er⟩ | ⟨li7,ki7,ni7,nsi7⟩
        ·rw[hres] at ho;obtain⟨rfl,hk9⟩:=ho;refine And.intro rfl (FOutX.err ?_ hk9);rw[fnR,if_pos HCb.out,if_pos (by simpa using HCc.out),if_pos HCf.out,HRg.out];simp only[HCi.out,if_true];rw[fnParams,if_pos HCi5.out,if_neg (by rw[HCi6.out];simp),hres]
        ·obtain⟨hok9,-,-,hlen9,hl169⟩:=namedR_good HE.out (by decide) HGt.out HOKi5.out hres
         rw[hres] at ho;obtain⟨nv,lv,rfl,hx9,hsm9⟩:=ho;obtain⟨NA,nc,LA,lc,M9,rfl,rfl,hss9,hii9⟩:=hx9.lists;have HOKi7:=hid hok9;have HRi7:=hid hres;have HLi7:=hid hlen9;have HSSi7:=hid hss9;have HIIi7:=hid hii9;have HXi7:=hid hx9.mdx;have HBi7:=hid (hsm9.blk (.inl (.inr rfl)) HBi6.out);have HSi7:=hid (HSi6.out.trans_ (fun i hi=>hsm9 i ((.inl (.inl hi)))))
         have HVi7:=hid (hsm9.own (fun q h=>.inr h) HVi6.out)
         clear hres hok9 hlen9 hx9 hsm9 hss9 hii9;go_wp2_with fail
         refine(vars_any NA LA nc lc nsi7 li7 wi7 M9 M9 HSSi7.out HIIi7.out HLi7.out hl169).mono ?_;rintro r wi7v ⟨v9,rfl,hb9,ho9⟩;obtain⟨VAi7,vci7,rfl⟩:=own_slice ho9;obtain⟨hx9,hsm9⟩:=HXi7.out.below hb9 ho9 (Nat.le_refl _);have hNn:N<wi7.heap.size:=HBi7.out.lt;have HXi7v:=hid hx9;have HBi7v:=hid (hsm9.blk (.inl (.inr rfl)) HBi7.out);have HSi7v:=hid (HSi7.out.trans_ (fun i hi=>hsm9 i ((.inl (.inl hi)))))
         have HWi7v:=hid (own_base ho9 (base':=N+1) hNn);have HVi7v:=hid (hsm9.own (fun q h=>.inr h) HVi7.out)
         clear hx9 hsm9 hb9 ho9;have y2:=HBi7v.out.frozen 2;have z2:=HBi7v.out.cell 2;simp at z2;have hb9:=HBi7v.out.set_ 2 (.slice VAi7 (zipD nsi7 li7).length vci7);simp at hb9;have HXi8:=hid (HXi7v.out.put (N:=N) (.inl (.inl (.inr rfl))) 2 (.slice VAi7 (zipD nsi7 li7).length vci7));have HBi8:=hid hb9;have HSi8:=hid (HSi7v.out.trans_ (Same.put (w1:=wi7v) (i:=2) (v:=.slice VAi7 (zipD nsi7 li7).length vci7) hnx));have HVi8:=hid (own_put (i:=2) (u:=.slice VAi7 (zipD nsi7 li7).length vci7) HVi7v.out (Nat.lt_succ_self N));have HWi8:=hid (own_put (i:=2) (u:=.slice VAi7 (zipD nsi7 li7).length vci7) HWi7v.out (Nat.lt_succ_self N));clear hb9;go_wp2_with fail
         generalize hw9:wi7v.setCell ⟨N,2,none⟩ (.slice VAi7 (zipD nsi7 li7).length vci7)=wi8 at HXi8 HBi8 HSi8 HVi8 HWi8 ⊢;clear hw9 y2 z2;have HOKi8:=HOKi7;go_wp2_with fail
         refine(HXi8.out.need_ HOKi8.out.lt ⟨#[41]⟩).mono ?_;intro r wi81 hr;by_cases hs:seesW (tok ws ki7) ⟨#[41]⟩=true
         ·rw[hs] at hr;obtain⟨rfl,hm⟩:=hr;have HPi81:=hid hm;have HCi81:=hid hs;clear hs hm;obtain⟨hx,hsm⟩:=HPi81.out;have HXi81:=hid hx;have HBi81:=hid (hsm.blk (.inl (.inl (.inr rfl))) HBi8.out);have HSi81:=hid (HSi8.out.trans_ (fun i hi=>hsm i ((.inl (.inl (.inl hi))))))
          have HVi81:=hid (hsm.own (fun q h=>.inl ((fun q h=>.inr h) q h)) HVi8.out)
          have HWi81:=hid (hsm.own (fun q h=>.inr h) HWi8.out)
          clear hx hsm;have hlti81:=sees_next HE.out HOKi8.out.lt HCi81.out;have HOKi81:Hid (OkP ws (ki7+1) ni7):=hid ⟨hlti81,HOKi8.out.room,HOKi8.out.ok⟩;go_wp2_with fail
          refine(HXi81.out.behind_ HRt.out hlti81 ⟨#[58]⟩ (fun hs=>⟨sees_next HE.out hlti81 hs,HOKi8.out.room,HOKi8.out.ok⟩)).mono ?_
          intro r wi82 ho;rcases hres:behindR ws ⟨#[58]⟩ Rt (ki7+1) ni7 with⟨at_,er⟩ | ⟨vi82,ki82,ni82⟩
          ·rw[hres] at ho;obtain⟨rfl,hk9⟩:=ho;refine And.intro rfl (FOutX.err ?_ hk9);rw[fnR,if_pos HCb.out,if_pos (by simpa using HCc.out),if_pos HCf.out,HRg.out];simp only[HCi.out,if_true];rw[fnParams,if_pos HCi5.out,if_neg (by rw[HCi6.out];simp),HRi7.out];dsimp only;rw[fnTail,if_pos HCi81.out,hres]
          ·rw[hres] at ho;obtain⟨rfl,hm⟩:=ho;have HPi82:=hid hm;have HRi82:=hid hres;obtain⟨-,hok9,-,-⟩:=behindR_ok HE.out HGt.out ⟨#[58]⟩ _ _ _ _ _ HOKi81.out hres;have HOKi82:=hid hok9;clear hok9;clear hres hm;obtain⟨hx,hsm⟩:=HPi82.out;have HXi82:=hid hx;have HBi82:=hid (hsm.blk (.inl (.inl (.inr rfl))) HBi81.out);have HSi82:=hid (HSi81.out.trans_ (fun i hi=>hsm i ((.inl (.inl (.inl hi))))))
           have HVi82:=hid (hsm.own (fun q h=>.inl ((fun q h=>.inr h) q h)) HVi81.out)
           have HWi82:=hid (hsm.own (fun q h=>.inr h) HWi81.out)
           clear hx hsm;have y3:=HBi82.out.frozen 3;have z3:=HBi82.out.cell 3;simp at z3;have hb9:=HBi82.out.set_ 3 (.int .i64 (vi82:Int));simp at hb9;have HXi83:=hid (HXi82.out.put (N:=N) (.inl (.inl (.inr rfl))) 3 (.int .i64 (vi82:Int)));have HBi83:=hid hb9;have HSi83:=hid (HSi82.out.trans_ (Same.put (w1:=wi82) (i:=3) (v:=.int .i64 (vi82:Int)) hnx));have HVi83:=hid (own_put (i:=3) (u:=.int .i64 (vi82:Int)) HVi82.out (Nat.lt_succ_self N));have HWi83:=hid (own_put (i:=3) (u:=.int .i64 (vi82:Int)) HWi82.out (Nat.lt_succ_self N));clear hb9;go_wp2_with fail
           generalize hw9:wi82.setCell ⟨N,3,none⟩ (.int .i64 (vi82:Int))=wi83 at HXi83 HBi83 HSi83 HVi83 HWi83 ⊢;clear hw9 y3 z3;refine(HXi83.out.behind_ HRx.out HOKi82.out.lt ⟨#[61]⟩ (fun hs=>⟨sees_next HE.out HOKi82.out.lt hs,HOKi82.out.room,HOKi82.out.ok⟩)).mono ?_
           intro r wi84 ho;rcases hres:behindR ws ⟨#[61]⟩ Rx ki82 ni82 with⟨at_,er⟩ | ⟨vi84,ki84,ni84⟩
           ·rw[hres] at ho;obtain⟨rfl,hk9⟩:=ho;refine And.intro rfl (FOutX.err ?_ hk9);rw[fnR,if_pos HCb.out,if_pos (by simpa using HCc.out),if_pos HCf.out,HRg.out];simp only[HCi.out,if_true];rw[fnParams,if_pos HCi5.out,if_neg (by rw[HCi6.out];simp),HRi7.out];dsimp only;rw[fnTail,if_pos HCi81.out,HRi82.out];simp only[hres]
           ·rw[hres] at ho;obtain⟨rfl,hm⟩:=ho;have HPi84:=hid hm;have HRi84:=hid hres;obtain⟨-,hok9,-,-⟩:=behindR_ok HE.out HGx.out ⟨#[61]⟩ _ _ _ _ _ HOKi82.out hres;have HOKi84:=hid hok9;clear hok9;clear hres hm;obtain⟨hx,hsm⟩:=HPi84.out;have HXi84:=hid hx;have HBi84:=hid (hsm.blk (.inl (.inl (.inr rfl))) HBi83.out);have HSi84:=hid (HSi83.out.trans_ (fun i hi=>hsm i ((.inl (.inl (.inl hi))))))
            have HVi84:=hid (hsm.own (fun q h=>.inl ((fun q h=>.inr h) q h)) HVi83.out)
            have HWi84:=hid (hsm.own (fun q h=>.inr h) HWi83.out)
            clear hx hsm;have y4:=HBi84.out.frozen 4;have z4:=HBi84.out.cell 4;simp at z4;have hb9:=HBi84.out.set_ 4 (.int .i64 (vi84:Int));simp at hb9;have HXi89:=hid (HXi84.out.put (N:=N) (.inl (.inl (.inr rfl))) 4 (.int .i64 (vi84:Int)));have HBi89:=hid hb9;have HSi89:=hid (HSi84.out.trans_ (Same.put (w1:=wi84) (i:=4) (v:=.int .i64 (vi84:Int)) hnx));have HVi89:=hid (own_put (i:=4) (u:=.int .i64 (vi84:Int)) HVi84.out (Nat.lt_succ_self N));have HWi89:=hid (own_put (i:=4) (u:=.int .i64 (vi84:Int)) HWi84.out (Nat.lt_succ_self N));clear hb9;have hb10:=HBi89.out;have c0:=hb10.cell 0;have c1:=hb10.cell 1;have c2:=hb10.cell 2;have c3:=hb10.cell 3;have c4:=hb10.cell 4;have e0:=hb10.frozen 0;have e1:=hb10.frozen 1;have e2:=hb10.frozen 2;have e3:=hb10.frozen 3;have e4:=hb10.frozen 4;simp at c0 c1 c2 c3 c4;clear hb10
            go_upto_region 12 with(fail)
            generalize hw9:wi84.setCell ⟨N,4,none⟩ (.int .i64 (vi84:Int))=wi89 at HXi89 HBi89 HSi89 HVi89 HWi89 c0 c1 c2 c3 c4 e0 e1 e2 e3 e4 ⊢;clear hw9 y4 z4;go_wp2_with fail
            obtain⟨hx10,hs10,hb10,ho10⟩:=fn_end HXi89.out (.inl (.inl (.inr rfl))) hnx HSi89.out _ _ _ _ _ HBi89.out;have d0:=hb10.cell 0;have d1:=hb10.cell 1;have d2:=hb10.cell 2;have d3:=hb10.cell 3;have d4:=hb10.cell 4;simp only[List.getElem?_toArray,List.getElem?_cons_zero,List.getElem?_cons_succ] at d0 d1 d2 d3 d4;refine bodyPost_ret (v:=.agg #[.string (tok ws (k+1)).text,Value.slice VAg (zipD nsg lg).length vcg,Value.slice VAi7 (zipD nsi7 li7).length vci7,.int .i64 (vi82:Int),.int .i64 (vi84:Int)]) (by simp[results,Tryz.results151,go_sem,d0,d1,d2,d3,d4]) rfl ?_
            refine FOutX.done (x:=⟨(tok ws (k+1)).text,(zipD nsg lg),(zipD nsi7 li7),vi82,vi84⟩) (k':=ki84) (nds':=ni84) (vv:=Value.slice VAg (zipD nsg lg).length vcg) (pv:=Value.slice VAi7 (zipD nsi7 li7).length vci7) ?_ hx10 ?_ hs10 (by rw[HN.out];exact ho10 _ _ _ _ _ HVi89.out) (by rw[HN.out];exact ho10 _ _ _ _ _ HWi89.out)
            ·rw[fnR,if_pos HCb.out,if_pos (by simpa using HCc.out),if_pos HCf.out,HRg.out];simp only[HCi.out,if_true];rw[fnParams,if_pos HCi5.out,if_neg (by rw[HCi6.out];simp),HRi7.out];dsimp only;rw[fnTail,if_pos HCi81.out,HRi82.out];simp only[HRi84.out]
            ·rintro i (h | h | h)
             ·exact(.inl (.inl (.inl h)))
             ·exact .inl (.inr h)
             ·exact .inr h
         ·have hs2:seesW (tok ws ki7) ⟨#[41]⟩=false:=by simpa using hs
          rw[hs2] at hr;obtain⟨rfl,hk9⟩:=hr;refine And.intro rfl (FOutX.err ?_ hk9);rw[fnR,if_pos HCb.out,if_pos (by simpa using HCc.out),if_pos HCf.out,HRg.out];simp only[HCi.out,if_true];rw[fnParams,if_pos HCi5.out,if_neg (by rw[HCi6.out];simp),HRi7.out];dsimp only;rw[fnTail,if_neg (by rw[hs2];simp)]
      ·have hs2:seesW (tok ws (kg+1)) ⟨#[40]⟩=false:=by simpa using hs
       rw[hs2] at hr;obtain⟨rfl,hk9⟩:=hr;refine And.intro rfl (FOutX.err ?_ hk9);rw[fnR,if_pos HCb.out,if_pos (by simpa using HCc.out),if_pos HCf.out,HRg.out];simp only[HCi.out,if_true];rw[fnParams,if_neg (by rw[hs2];simp)]
     ·have hs2:seesW (tok ws kg) ⟨#[93]⟩=false:=by simpa using hs
      rw[hs2] at hr;obtain⟨rfl,hk9⟩:=hr;refine And.intro rfl (FOutX.err ?_ hk9);rw[fnR,if_pos HCb.out,if_pos (by simpa using HCc.out),if_pos HCf.out,HRg.out];simp only[hs2];rfl
   ·have hs2:seesW (tok ws (k+2)) ⟨#[91]⟩=false:=by simpa using hs
    rw[adv_no hs2] at hm;have HPf:=hid hm;rw[hs2];have HCf:=hid hs2;clear hs hs2 hm;obtain⟨hx,hsm⟩:=HPf.out;have HXf:=hid hx;have HBf:=hid (hsm.blk (.inr rfl) HBe.out);have HSf:=hid (HSe.out.trans_ (fun i hi=>hsm i ((.inl hi))))
    clear hx hsm;have HOKf:Hid (OkP ws (k+2) nds):=hid ⟨hlt2,HOK.out.room,HOK.out.ok⟩;go_wp2_with fail
    refine(HXf.out.need_ HOKf.out.lt ⟨#[40]⟩).mono ?_;intro r wf5 hr;by_cases hs:seesW (tok ws (k+2)) ⟨#[40]⟩=true
    ·rw[hs] at hr;obtain⟨rfl,hm⟩:=hr;have HPf5:=hid hm;have HCf5:=hid hs;clear hs hm;obtain⟨hx,hsm⟩:=HPf5.out;have HXf5:=hid hx;have HBf5:=hid (hsm.blk (.inr rfl) HBf.out);have HSf5:=hid (HSf.out.trans_ (fun i hi=>hsm i ((.inl hi))))
     clear hx hsm;have hltf5:=sees_next HE.out HOKf.out.lt HCf5.out;have HOKf5:Hid (OkP ws ((k+2)+1) nds):=hid ⟨hltf5,HOKf.out.room,HOKf.out.ok⟩;go_wp2_with fail
     refine(HXf5.out.sees_ hltf5 ⟨#[41]⟩).mono ?_;rintro r wf6 ⟨rfl,hm⟩;have HPf6:=hid hm;clear hm;obtain⟨hx,hsm⟩:=HPf6.out;have HXf6:=hid hx;have HBf6:=hid (hsm.blk (.inr rfl) HBf5.out);have HSf6:=hid (HSf5.out.trans_ (fun i hi=>hsm i ((.inl hi))))
     clear hx hsm;by_cases hs:seesW (tok ws ((k+2)+1)) ⟨#[41]⟩=true
     ·rw[hs];have HCf6:=hid hs;clear hs;have HOKf6:=HOKf5;go_wp2_with fail
      refine(HXf6.out.need_ HOKf6.out.lt ⟨#[41]⟩).mono ?_;intro r wf61 hr;by_cases hs:seesW (tok ws ((k+2)+1)) ⟨#[41]⟩=true
      ·rw[hs] at hr;obtain⟨rfl,hm⟩:=hr;have HPf61:=hid hm;have HCf61:=hid hs;clear hs hm;obtain⟨hx,hsm⟩:=HPf61.out;have HXf61:=hid hx;have HBf61:=hid (hsm.blk (.inr rfl) HBf6.out);have HSf61:=hid (HSf6.out.trans_ (fun i hi=>hsm i ((.inl hi))))
       clear hx hsm;have hltf61:=sees_next HE.out HOKf6.out.lt HCf61.out;have HOKf61:Hid (OkP ws (((k+2)+1)+1) nds):=hid ⟨hltf61,HOKf6.out.room,HOKf6.out.ok⟩;go_wp2_with fail
       refine(HXf61.out.behind_ HRt.out hltf61 ⟨#[58]⟩ (fun hs=>⟨sees_next HE.out hltf61 hs,HOKf6.out.room,HOKf6.out.ok⟩)).mono ?_
       intro r wf62 ho;rcases hres:behindR ws ⟨#[58]⟩ Rt (((k+2)+1)+1) nds with⟨at_,er⟩ | ⟨vf62,kf62,nf62⟩
       ·rw[hres] at ho;obtain⟨rfl,hk9⟩:=ho;refine And.intro rfl (FOutX.err ?_ hk9);rw[fnR,if_pos HCb.out,if_pos (by simpa using HCc.out),if_neg (by rw[HCf.out];simp)];rw[fnParams,if_pos HCf5.out,if_pos HCf6.out];rw[fnTail,if_pos HCf61.out,hres]
       ·rw[hres] at ho;obtain⟨rfl,hm⟩:=ho;have HPf62:=hid hm;have HRf62:=hid hres;obtain⟨-,hok9,-,-⟩:=behindR_ok HE.out HGt.out ⟨#[58]⟩ _ _ _ _ _ HOKf61.out hres;have HOKf62:=hid hok9;clear hok9;clear hres hm;obtain⟨hx,hsm⟩:=HPf62.out;have HXf62:=hid hx;have HBf62:=hid (hsm.blk (.inr rfl) HBf61.out);have HSf62:=hid (HSf61.out.trans_ (fun i hi=>hsm i ((.inl hi))))
        clear hx hsm;have y3:=HBf62.out.frozen 3;have z3:=HBf62.out.cell 3;simp at z3;have hb9:=HBf62.out.set_ 3 (.int .i64 (vf62:Int));simp at hb9;have HXf63:=hid (HXf62.out.put (N:=N) (.inr rfl) 3 (.int .i64 (vf62:Int)));have HBf63:=hid hb9;have HSf63:=hid (HSf62.out.trans_ (Same.put (w1:=wf62) (i:=3) (v:=.int .i64 (vf62:Int)) hnx));clear hb9;go_wp2_with fail
        generalize hw9:wf62.setCell ⟨N,3,none⟩ (.int .i64 (vf62:Int))=wf63 at HXf63 HBf63 HSf63 ⊢;clear hw9 y3 z3;refine(HXf63.out.behind_ HRx.out HOKf62.out.lt ⟨#[61]⟩ (fun hs=>⟨sees_next HE.out HOKf62.out.lt hs,HOKf62.out.room,HOKf62.out.ok⟩)).mono ?_
        intro r wf64 ho;rcases hres:behindR ws ⟨#[61]⟩ Rx kf62 nf62 with⟨at_,er⟩ | ⟨vf64,kf64,nf64⟩
        ·rw[hres] at ho;obtain⟨rfl,hk9⟩:=ho;refine And.intro rfl (FOutX.err ?_ hk9);rw[fnR,if_pos HCb.out,if_pos (by simpa using HCc.out),if_neg (by rw[HCf.out];simp)];rw[fnParams,if_pos HCf5.out,if_pos HCf6.out];rw[fnTail,if_pos HCf61.out,HRf62.out];simp only[hres]
        ·rw[hres] at ho;obtain⟨rfl,hm⟩:=ho;have HPf64:=hid hm;have HRf64:=hid hres;obtain⟨-,hok9,-,-⟩:=behindR_ok HE.out HGx.out ⟨#[61]⟩ _ _ _ _ _ HOKf62.out hres;have HOKf64:=hid hok9;clear hok9;clear hres hm;obtain⟨hx,hsm⟩:=HPf64.out;have HXf64:=hid hx;have HBf64:=hid (hsm.blk (.inr rfl) HBf63.out);have HSf64:=hid (HSf63.out.trans_ (fun i hi=>hsm i ((.inl hi))))
         clear hx hsm;have y4:=HBf64.out.frozen 4;have z4:=HBf64.out.cell 4;simp at z4;have hb9:=HBf64.out.set_ 4 (.int .i64 (vf64:Int));simp at hb9;have HXf69:=hid (HXf64.out.put (N:=N) (.inr rfl) 4 (.int .i64 (vf64:Int)));have HBf69:=hid hb9;have HSf69:=hid (HSf64.out.trans_ (Same.put (w1:=wf64) (i:=4) (v:=.int .i64 (vf64:Int)) hnx));clear hb9;have hb10:=HBf69.out;have c0:=hb10.cell 0;have c1:=hb10.cell 1;have c2:=hb10.cell 2;have c3:=hb10.cell 3;have c4:=hb10.cell 4;have e0:=hb10.frozen 0;have e1:=hb10.frozen 1;have e2:=hb10.frozen 2;have e3:=hb10.frozen 3;have e4:=hb10.frozen 4;simp at c0 c1 c2 c3 c4;clear hb10
         go_upto_region 12 with(fail)
         generalize hw9:wf64.setCell ⟨N,4,none⟩ (.int .i64 (vf64:Int))=wf69 at HXf69 HBf69 HSf69  c0 c1 c2 c3 c4 e0 e1 e2 e3 e4 ⊢;clear hw9 y4 z4;go_wp2_with fail
         obtain⟨hx10,hs10,hb10,ho10⟩:=fn_end HXf69.out (.inr rfl) hnx HSf69.out _ _ _ _ _ HBf69.out;have d0:=hb10.cell 0;have d1:=hb10.cell 1;have d2:=hb10.cell 2;have d3:=hb10.cell 3;have d4:=hb10.cell 4;simp only[List.getElem?_toArray,List.getElem?_cons_zero,List.getElem?_cons_succ] at d0 d1 d2 d3 d4;refine bodyPost_ret (v:=.agg #[.string (tok ws (k+1)).text,Value.slice none 0 0,Value.slice none 0 0,.int .i64 (vf62:Int),.int .i64 (vf64:Int)]) (by simp[results,Tryz.results151,go_sem,d0,d1,d2,d3,d4]) rfl ?_
         refine FOutX.done (x:=⟨(tok ws (k+1)).text,[],[],vf62,vf64⟩) (k':=kf64) (nds':=nf64) (vv:=Value.slice none 0 0) (pv:=Value.slice none 0 0) ?_ hx10 ?_ hs10 (by rw[HN.out];exact⟨rfl,.inl ⟨rfl,rfl⟩⟩) (by rw[HN.out];exact⟨rfl,.inl ⟨rfl,rfl⟩⟩)
         ·rw[fnR,if_pos HCb.out,if_pos (by simpa using HCc.out),if_neg (by rw[HCf.out];simp)];rw[fnParams,if_pos HCf5.out,if_pos HCf6.out];rw[fnTail,if_pos HCf61.out,HRf62.out];simp only[HRf64.out]
         ·rintro i (h | h | h)
          ·exact(.inl h)
          ·simp[Value.ownBlock] at h
          ·simp[Value.ownBlock] at h
      ·have hs2:seesW (tok ws ((k+2)+1)) ⟨#[41]⟩=false:=by simpa using hs
       rw[hs2] at hr;obtain⟨rfl,hk9⟩:=hr;refine And.intro rfl (FOutX.err ?_ hk9);rw[fnR,if_pos HCb.out,if_pos (by simpa using HCc.out),if_neg (by rw[HCf.out];simp)];rw[fnParams,if_pos HCf5.out,if_pos HCf6.out];rw[fnTail,if_neg (by rw[hs2];simp)]
     ·have hs2:seesW (tok ws ((k+2)+1)) ⟨#[41]⟩=false:=by simpa using hs
      rw[hs2];have HCf6:=hid hs2;clear hs hs2;go_wp2_with fail
      refine(HXf6.out.named_ name_rule (by decide) HE.out ⟨#[58]⟩ HRt.out HGt.out HOKf5.out).mono ?_
      intro r wf7 ho;rcases hres:namedR ws 1 ⟨#[58]⟩ Rt ((k+2)+1) nds with⟨at_,er⟩ | ⟨lf7,kf7,nf7,nsf7⟩
      ·rw[hres] at ho;obtain⟨rfl,hk9⟩:=ho;refine And.intro rfl (FOutX.err ?_ hk9);rw[fnR,if_pos HCb.out,if_pos (by simpa using HCc.out),if_neg (by rw[HCf.out];simp)];rw[fnParams,if_pos HCf5.out,if_neg (by rw[HCf6.out];simp),hres]
      ·obtain⟨hok9,-,-,hlen9,hl169⟩:=namedR_good HE.out (by decide) HGt.out HOKf5.out hres
       rw[hres] at ho;obtain⟨nv,lv,rfl,hx9,hsm9⟩:=ho;obtain⟨NA,nc,LA,lc,M9,rfl,rfl,hss9,hii9⟩:=hx9.lists;have HOKf7:=hid hok9;have HRf7:=hid hres;have HLf7:=hid hlen9;have HSSf7:=hid hss9;have HIIf7:=hid hii9;have HXf7:=hid hx9.mdx;have HBf7:=hid (hsm9.blk (.inr rfl) HBf6.out);have HSf7:=hid (HSf6.out.trans_ (fun i hi=>hsm9 i ((.inl hi))))
       clear hres hok9 hlen9 hx9 hsm9 hss9 hii9;go_wp2_with fail
       refine(vars_any NA LA nc lc nsf7 lf7 wf7 M9 M9 HSSf7.out HIIf7.out HLf7.out hl169).mono ?_;rintro r wf7v ⟨v9,rfl,hb9,ho9⟩;obtain⟨VAf7,vcf7,rfl⟩:=own_slice ho9;obtain⟨hx9,hsm9⟩:=HXf7.out.below hb9 ho9 (Nat.le_refl _);have hNn:N<wf7.heap.size:=HBf7.out.lt;have HXf7v:=hid hx9;have HBf7v:=hid (hsm9.blk (.inr rfl) HBf7.out);have HSf7v:=hid (HSf7.out.trans_ (fun i hi=>hsm9 i ((.inl hi))))
       have HWf7v:=hid (own_base ho9 (base':=N+1) hNn);clear hx9 hsm9 hb9 ho9;have y2:=HBf7v.out.frozen 2;have z2:=HBf7v.out.cell 2;simp at z2;have hb9:=HBf7v.out.set_ 2 (.slice VAf7 (zipD nsf7 lf7).length vcf7);simp at hb9;have HXf8:=hid (HXf7v.out.put (N:=N) (.inl (.inr rfl)) 2 (.slice VAf7 (zipD nsf7 lf7).length vcf7));have HBf8:=hid hb9;have HSf8:=hid (HSf7v.out.trans_ (Same.put (w1:=wf7v) (i:=2) (v:=.slice VAf7 (zipD nsf7 lf7).length vcf7) hnx));have HWf8:=hid (own_put (i:=2) (u:=.slice VAf7 (zipD nsf7 lf7).length vcf7) HWf7v.out (Nat.lt_succ_self N));clear hb9;go_wp2_with fail
       generalize hw9:wf7v.setCell ⟨N,2,none⟩ (.slice VAf7 (zipD nsf7 lf7).length vcf7)=wf8 at HXf8 HBf8 HSf8 HWf8 ⊢;clear hw9 y2 z2;have HOKf8:=HOKf7;go_wp2_with fail
       refine(HXf8.out.need_ HOKf8.out.lt ⟨#[41]⟩).mono ?_;intro r wf81 hr;by_cases hs:seesW (tok ws kf7) ⟨#[41]⟩=true
       ·rw[hs] at hr;obtain⟨rfl,hm⟩:=hr;have HPf81:=hid hm;have HCf81:=hid hs;clear hs hm;obtain⟨hx,hsm⟩:=HPf81.out;have HXf81:=hid hx;have HBf81:=hid (hsm.blk (.inl (.inr rfl)) HBf8.out);have HSf81:=hid (HSf8.out.trans_ (fun i hi=>hsm i ((.inl (.inl hi)))))
        have HWf81:=hid (hsm.own (fun q h=>.inr h) HWf8.out)
        clear hx hsm;have hltf81:=sees_next HE.out HOKf8.out.lt HCf81.out;have HOKf81:Hid (OkP ws (kf7+1) nf7):=hid ⟨hltf81,HOKf8.out.room,HOKf8.out.ok⟩;go_wp2_with fail
        refine(HXf81.out.behind_ HRt.out hltf81 ⟨#[58]⟩ (fun hs=>⟨sees_next HE.out hltf81 hs,HOKf8.out.room,HOKf8.out.ok⟩)).mono ?_
        intro r wf82 ho;rcases hres:behindR ws ⟨#[58]⟩ Rt (kf7+1) nf7 with⟨at_,er⟩ | ⟨vf82,kf82,nf82⟩
        ·rw[hres] at ho;obtain⟨rfl,hk9⟩:=ho;refine And.intro rfl (FOutX.err ?_ hk9);rw[fnR,if_pos HCb.out,if_pos (by simpa using HCc.out),if_neg (by rw[HCf.out];simp)];rw[fnParams,if_pos HCf5.out,if_neg (by rw[HCf6.out];simp),HRf7.out];dsimp only;rw[fnTail,if_pos HCf81.out,hres]
        ·rw[hres] at ho;obtain⟨rfl,hm⟩:=ho;have HPf82:=hid hm;have HRf82:=hid hres;obtain⟨-,hok9,-,-⟩:=behindR_ok HE.out HGt.out ⟨#[58]⟩ _ _ _ _ _ HOKf81.out hres;have HOKf82:=hid hok9;clear hok9;clear hres hm;obtain⟨hx,hsm⟩:=HPf82.out;have HXf82:=hid hx;have HBf82:=hid (hsm.blk (.inl (.inr rfl)) HBf81.out);have HSf82:=hid (HSf81.out.trans_ (fun i hi=>hsm i ((.inl (.inl hi)))))
         have HWf82:=hid (hsm.own (fun q h=>.inr h) HWf81.out)
         clear hx hsm;have y3:=HBf82.out.frozen 3;have z3:=HBf82.out.cell 3;simp at z3;have hb9:=HBf82.out.set_ 3 (.int .i64 (vf82:Int));simp at hb9;have HXf83:=hid (HXf82.out.put (N:=N) (.inl (.inr rfl)) 3 (.int .i64 (vf82:Int)));have HBf83:=hid hb9;have HSf83:=hid (HSf82.out.trans_ (Same.put (w1:=wf82) (i:=3) (v:=.int .i64 (vf82:Int)) hnx));have HWf83:=hid (own_put (i:=3) (u:=.int .i64 (vf82:Int)) HWf82.out (Nat.lt_succ_self N));clear hb9;go_wp2_with fail
         generalize hw9:wf82.setCell ⟨N,3,none⟩ (.int .i64 (vf82:Int))=wf83 at HXf83 HBf83 HSf83 HWf83 ⊢;clear hw9 y3 z3;refine(HXf83.out.behind_ HRx.out HOKf82.out.lt ⟨#[61]⟩ (fun hs=>⟨sees_next HE.out HOKf82.out.lt hs,HOKf82.out.room,HOKf82.out.ok⟩)).mono ?_
         intro r wf84 ho;rcases hres:behindR ws ⟨#[61]⟩ Rx kf82 nf82 with⟨at_,er⟩ | ⟨vf84,kf84,nf84⟩
         ·rw[hres] at ho;obtain⟨rfl,hk9⟩:=ho;refine And.intro rfl (FOutX.err ?_ hk9);rw[fnR,if_pos HCb.out,if_pos (by simpa using HCc.out),if_neg (by rw[HCf.out];simp)];rw[fnParams,if_pos HCf5.out,if_neg (by rw[HCf6.out];simp),HRf7.out];dsimp only;rw[fnTail,if_pos HCf81.out,HRf82.out];simp only[hres]
         ·rw[hres] at ho;obtain⟨rfl,hm⟩:=ho;have HPf84:=hid hm;have HRf84:=hid hres;obtain⟨-,hok9,-,-⟩:=behindR_ok HE.out HGx.out ⟨#[61]⟩ _ _ _ _ _ HOKf82.out hres;have HOKf84:=hid hok9;clear hok9;clear hres hm;obtain⟨hx,hsm⟩:=HPf84.out;have HXf84:=hid hx;have HBf84:=hid (hsm.blk (.inl (.inr rfl)) HBf83.out);have HSf84:=hid (HSf83.out.trans_ (fun i hi=>hsm i ((.inl (.inl hi)))))
          have HWf84:=hid (hsm.own (fun q h=>.inr h) HWf83.out)
          clear hx hsm;have y4:=HBf84.out.frozen 4;have z4:=HBf84.out.cell 4;simp at z4;have hb9:=HBf84.out.set_ 4 (.int .i64 (vf84:Int));simp at hb9;have HXf89:=hid (HXf84.out.put (N:=N) (.inl (.inr rfl)) 4 (.int .i64 (vf84:Int)));have HBf89:=hid hb9;have HSf89:=hid (HSf84.out.trans_ (Same.put (w1:=wf84) (i:=4) (v:=.int .i64 (vf84:Int)) hnx));have HWf89:=hid (own_put (i:=4) (u:=.int .i64 (vf84:Int)) HWf84.out (Nat.lt_succ_self N));clear hb9;have hb10:=HBf89.out;have c0:=hb10.cell 0;have c1:=hb10.cell 1;have c2:=hb10.cell 2;have c3:=hb10.cell 3;have c4:=hb10.cell 4;have e0:=hb10.frozen 0;have e1:=hb10.frozen 1;have e2:=hb10.frozen 2;have e3:=hb10.frozen 3;have e4:=hb10.frozen 4;simp at c0 c1 c2 c3 c4;clear hb10
          go_upto_region 12 with(fail)
          generalize hw9:wf84.setCell ⟨N,4,none⟩ (.int .i64 (vf84:Int))=wf89 at HXf89 HBf89 HSf89 HWf89 c0 c1 c2 c3 c4 e0 e1 e2 e3 e4 ⊢;clear hw9 y4 z4;go_wp2_with fail
          obtain⟨hx10,hs10,hb10,ho10⟩:=fn_end HXf89.out (.inl (.inr rfl)) hnx HSf89.out _ _ _ _ _ HBf89.out;have d0:=hb10.cell 0;have d1:=hb10.cell 1;have d2:=hb10.cell 2;have d3:=hb10.cell 3;have d4:=hb10.cell 4;simp only[List.getElem?_toArray,List.getElem?_cons_zero,List.getElem?_cons_succ] at d0 d1 d2 d3 d4;refine bodyPost_ret (v:=.agg #[.string (tok ws (k+1)).text,Value.slice none 0 0,Value.slice VAf7 (zipD nsf7 lf7).length vcf7,.int .i64 (vf82:Int),.int .i64 (vf84:Int)]) (by simp[results,Tryz.results151,go_sem,d0,d1,d2,d3,d4]) rfl ?_
          refine FOutX.done (x:=⟨(tok ws (k+1)).text,[],(zipD nsf7 lf7),vf82,vf84⟩) (k':=kf84) (nds':=nf84) (vv:=Value.slice none 0 0) (pv:=Value.slice VAf7 (zipD nsf7 lf7).length vcf7) ?_ hx10 ?_ hs10 (by rw[HN.out];exact⟨rfl,.inl ⟨rfl,rfl⟩⟩) (by rw[HN.out];exact ho10 _ _ _ _ _ HWf89.out)
          ·rw[fnR,if_pos HCb.out,if_pos (by simpa using HCc.out),if_neg (by rw[HCf.out];simp)];rw[fnParams,if_pos HCf5.out,if_neg (by rw[HCf6.out];simp),HRf7.out];dsimp only;rw[fnTail,if_pos HCf81.out,HRf82.out];simp only[HRf84.out]
          ·rintro i (h | h | h)
           ·exact(.inl (.inl h))
           ·simp[Value.ownBlock] at h
           ·exact .inr h
       ·have hs2:seesW (tok ws kf7) ⟨#[41]⟩=false:=by simpa using hs
        rw[hs2] at hr;obtain⟨rfl,hk9⟩:=hr;refine And.intro rfl (FOutX.err ?_ hk9);rw[fnR,if_pos HCb.out,if_pos (by simpa using HCc.out),if_neg (by rw[HCf.out];simp)];rw[fnParams,if_pos HCf5.out,if_neg (by rw[HCf6.out];simp),HRf7.out];dsimp only;rw[fnTail,if_neg (by rw[hs2];simp)]
    ·have hs2:seesW (tok ws (k+2)) ⟨#[40]⟩=false:=by simpa using hs
     rw[hs2] at hr;obtain⟨rfl,hk9⟩:=hr;refine And.intro rfl (FOutX.err ?_ hk9);rw[fnR,if_pos HCb.out,if_pos (by simpa using HCc.out),if_neg (by rw[HCf.out];simp)];rw[fnParams,if_neg (by rw[hs2];simp)]
  ·have hs2:decide ((tok ws (k+1)).kind=1)=false:=by simpa using hs
   rw[hs2] at hr;obtain⟨rfl,hk9⟩:=hr;refine And.intro rfl (FOutX.err ?_ hk9);rw[fnR,if_pos HCb.out,if_neg (by simpa using hs2)]
 ·have hs2:seesW (tok ws k) ⟨#[102,110]⟩=false:=by simpa using hs
  rw[hs2] at hr;obtain⟨rfl,hk9⟩:=hr;refine And.intro rfl (FOutX.err ?_ hk9);rw[fnR,if_neg (by rw[hs2];simp)]
end
section
open Go.RowKit
abbrev Fv:=Fd × Value × Value
def Fv.cells (p:Fv):List Value:=[.string p.1.nm,p.2.1,p.2.2,.int .i64 (p.1.ret:Int),.int .i64 (p.1.body:Int)]
def fcells (l:List Fv):List Value:=l.flatMap Fv.cells
theorem fcells_snoc (l:List Fv)(p:Fv):fcells l++p.cells=fcells (l++[p]):=by simp[fcells]
def HeldF (w:World)(F:Nat→Prop)(l:List Fv):Prop:=∀ p∈l,(∃ B,w.ownsRow B 64 2 p.2.1 p.1.vars.length (dcells p.1.vars))∧(∃ B,w.ownsRow B 64 2 p.2.2 p.1.params.length (dcells p.1.params)) ∧
 (∀ q,p.2.1.ownBlock=some q→F q)∧(∀ q,p.2.2.ownBlock=some q→F q)
theorem HeldF.same {w w':World}{F F':Nat→Prop}{l:List Fv}(h:HeldF w F l)(hs:Same F w w')(hf:∀ i,F i→F' i):HeldF w' F' l:=fun p hp=>by
 obtain⟨⟨B1,h1⟩,⟨B2,h2⟩,h3,h4⟩:=h p hp;exact⟨⟨B1,hs.own h3 h1⟩,⟨B2,hs.own h4 h2⟩,fun q hq=>hf q (h3 q hq),fun q hq=>hf q (h4 q hq)⟩
structure Md where
 nm:ByteArray
 imports:List ByteArray
 types:List Dc
 fns:List Fd
 nodes:List Nd
def importsF (ws:List Wd):Nat→List ByteArray→Nat→Except (Nat × Nat) (List ByteArray × Nat)
 | 0,_,_=>.error (0,0)
 | n+1,l,k=>if seesW (tok ws k) ⟨#[105,109,112,111,114,116]⟩ then(if 16≤l.length then .error ((tok ws (k+1)).at_,5) else if freshOk (tok ws (k+1)) 1 l then importsF ws n (l++[(tok ws (k+1)).text]) (k+2) else badAt ws (k+1)) else .ok (l,k)
def typesF (ws:List Wd)(Rt:Nat→List Nd→Res):Nat→List Dc→Nat→List Nd→Except (Nat × Nat) (List Dc × Nat × List Nd)
 | 0,_,_,_=>.error (0,0)
 | n+1,l,k,nds=>if seesW (tok ws k) ⟨#[116,121,112,101]⟩ then(if 64≤l.length then .error ((tok ws k).at_,5) else match declR ws Rt k nds with
   | .error x=>.error x
   | .ok (x,k',nds')=>typesF ws Rt n (l++[x]) k' nds') else .ok (l,k,nds)
def fnsF (ws:List Wd)(Rt Rx:Nat→List Nd→Res):Nat→List Fd→Nat→List Nd→Except (Nat × Nat) (List Fd × Nat × List Nd)
 | 0,_,_,_=>.error (0,0)
 | n+1,l,k,nds=>if seesW (tok ws k) ⟨#[102,110]⟩ then(if 64≤l.length then .error ((tok ws k).at_,5) else match fnR ws Rt Rx k nds with
   | .error x=>.error x
   | .ok (x,k',nds')=>fnsF ws Rt Rx n (l++[x]) k' nds') else .ok (l,k,nds)
def moduleR (ws:List Wd):Except (Nat × Nat) Md:=
 if seesW (tok ws 0) ⟨#[109,111,100,117,108,101]⟩ then
  if (tok ws 1).kind=1 then match importsF ws 17 [] 2 with
   | .error x=>.error x
   | .ok (im,k1)=>match typesF ws (typeR ws 60) 65 [] k1 [] with
    | .error x=>.error x
    | .ok (ty,k2,n2)=>match fnsF ws (typeR ws 60) (exprR ws 60) 65 [] k2 n2 with
     | .error x=>.error x
     | .ok (fs,k3,n3)=>if (tok ws k3).kind=7 then .ok ⟨(tok ws 1).text,im,ty,fs,n3⟩ else badAt ws k3
  else badAt ws 1
 else badAt ws 0
section
variable {X : Nat → Prop} {w w1 : World} {g k d : Nat} {ws : List Wd} {a b c e f : Value} {nds : List Nd} {D : Nat → Prop}
theorem MdX.blk_ (hM:MdX X w w1 g ws k d a b c e f nds D):∃ A n f',Blk w1 g 95 #[.slice A ws.length n,.int .i64 (k:Int),.int .i64 (d:Int),a,b,c,e,f']:=by
 obtain⟨⟨f1,h1,_⟩,_⟩:=hM;obtain⟨A,n,hb,_⟩:=h1.blk;exact⟨A,n,f1,hb⟩
theorem Stm.putI {w:World}{a b c e f:Value}(h:Stm w g ws k d a b c e f)(i:Nat)(v:Value)(a' b' c' e':Value)(hi:∀ A n,(#[.slice A ws.length n,.int .i64 (k:Int),.int .i64 (d:Int),a,b,c,e,f]:Array Value).setIfInBounds i v = #[.slice A ws.length n,.int .i64 (k:Int),.int .i64 (d:Int),a',b',c',e',f]) :
  Stm (w.setCell ⟨g,i,none⟩ v) g ws k d a' b' c' e' f:=by
 obtain⟨A,n,h1,B1,hs,h2⟩:=h.blk;have hlt:=h1.lt;have hk:Kept (fun i=>i=g) w (w.setCell ⟨g,i,none⟩ v):=(Kept.refl (fun i=>i=g) w).setCell (p:=⟨g,i,none⟩) (fun _=>rfl) _
 refine⟨⟨A,n,?_,B1,fun h0=>?_,h2⟩,h.le⟩
 ·rw[← hi A n];exact h1.set_ i v
 ·obtain⟨bb,o,hA,hbB,hc⟩:=hs h0;exact⟨bb,o,hA,hbB,fun j u hu=>(hk.cell (p:=⟨bb,o+j,none⟩) (show bb<_ by omega) (by show ¬ bb=g;omega)).trans (hc j u hu)⟩
theorem MdX.putI (hM:MdX X w w1 g ws k d a b c e f nds D)(i:Nat)(v:Value)(a' b' c' e':Value)(hi:∀ A n f',(#[.slice A ws.length n,.int .i64 (k:Int),.int .i64 (d:Int),a,b,c,e,f']:Array Value).setIfInBounds i v = #[.slice A ws.length n,.int .i64 (k:Int),.int .i64 (d:Int),a',b',c',e',f']) :
  MdX X w (w1.setCell ⟨g,i,none⟩ v) g ws k d a' b' c' e' f nds D∧Same X w1 (w1.setCell ⟨g,i,none⟩ v):=by
 obtain⟨⟨f1,h1,hn1,ht1,hx1⟩,hk1,hin,hg⟩:=hM;have hk:Kept (fun i=>i=g) w1 (w1.setCell ⟨g,i,none⟩ v):=(Kept.refl (fun i=>i=g) w1).setCell (p:=⟨g,i,none⟩) (fun _=>rfl) _
 exact⟨⟨⟨f1,h1.putI i v a' b' c' e' (fun A n=>hi A n f1),hn1.kept hk (fun _ _ h=>h),ht1,hx1⟩,hk1.trans hk (fun i _ h=>.inl h),fun i h=>by have:=hin i h;have:=hk.size;omega,hg⟩,
  fun j hj=>hk.block j (hin j hj).2 (fun e=>by have:=hin j hj;omega)⟩
theorem MdX.fresh_ (hM:MdX X w w1 g ws k d a b c e f nds D){NF:FuncId}{kd:Nat}(hN:NameF NF kd)(hk:k<ws.length)(A:Option Addr)(cap:Nat)(ns:List ByteArray)(hl:ns.length≤70000)
  (hc:0<ns.length→∃ b o,A=some ⟨b,o,none⟩∧b<w1.heap.size∧¬ b=g∧∀(j:Nat) (y:ByteArray),ns[j]? = some y→w1.cell? ⟨b,o+j,none⟩=some (.string y)) :
  Calls Tryz.prog 148 #[.pointer (some ⟨g,0,none⟩),.func (.func NF) #[.pointer (some ⟨g,0,none⟩)] #[],.slice A ns.length cap] w1
   fun r w2=>NeedX X w w1 g ws (k+1) d a b c e f nds D (freshOk (tok ws k) kd ns) (tok ws k).at_ (.string (tok ws k).text) r w2:=by
 obtain⟨⟨f1,h1,hn1,ht1,hx1⟩,hk1,hin,hg⟩:=hM;refine(fresh_any NF kd hN g ws k d a b c e f1 w1 h1 _ (tok_at hk) A cap ns hl hc).mono fun r w2 h=>?_
 have hM:MdX X w w1 g ws k d a b c e f nds D:=⟨⟨f1,h1,hn1,ht1,hx1⟩,hk1,hin,hg⟩;cases hs:freshOk (tok ws k) kd ns with
 | true =>
  rw[hs] at h;have hsz:=h.2.kept.size;exact⟨h.1,⟨⟨f1,h.2.stm,hn1.kept h.2.kept (fun _ _ h=>h),ht1,hx1⟩,hk1.trans h.2.kept (fun i _ h=>.inl h),fun i hi=>by have:=hin i hi;omega,hg⟩,fun j hj=>h.2.kept.block j (hin j hj).2 (fun e=>by have:=hin j hj;omega)⟩
 | false =>
  rw[hs] at h;exact⟨h.1,hk1.trans h.2 (fun i _ h=>.inl h)⟩
end
end
end Go.Proofs.YtmpaemchjehjbaaGreatDoor
