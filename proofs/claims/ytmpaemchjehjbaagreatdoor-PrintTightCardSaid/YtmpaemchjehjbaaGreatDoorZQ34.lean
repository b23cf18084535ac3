/- Contracts and plain facts that the theorem rests on: PLim. -/
import Derived.Test.YtmpaemchjehjbaaGreatDoorZQ20
set_option linter.unusedSimpArgs false
set_option linter.unusedVariables false
namespace Go.Proofs.YtmpaemchjehjbaaGreatDoor
section
open Go.RowKit
def numT:Nat:=4611686018427387904
def TkB (ws:List Wd)(B:Nat):Prop:=∀ k,(tok ws k).text.size≤B∧(tok ws k).num≤numT
structure NdB (B:Nat)(x:Nd):Prop where
 nm:x.nm.size≤B+1
 md:x.md.size≤B
 keys:∀ s∈x.keys,s.size≤B
 num:x.num≤numT
def AllB (B:Nat)(nds:List Nd):Prop:=∀ x∈nds,NdB B x
def LmR (B:Nat)(R:Nat→List Nd→Res):Prop:=∀ k nds v k' nds',AllB B nds→R k nds=.ok (v,k',nds')→AllB B nds'
theorem AllB.snoc {B:Nat}{nds:List Nd}{x:Nd}(h:AllB B nds)(hx:NdB B x):AllB B (nds++[x]):=fun y hy=>by
 rcases List.mem_append.1 hy with hy | hy
 ·exact h y hy
 ·rw[List.mem_singleton.1 hy];exact hx
theorem addR_lm {ws:List Wd}{B k:Nat}{nds:List Nd}{x:Nd}{v k':Nat}{nds':List Nd}(hn:AllB B nds)(hx:NdB B x)(h:addR ws k nds x=.ok (v,k',nds')):AllB B nds':=by
 rw[addR] at h;split at h
 ·cases h
 ·simp at h;obtain⟨_,_,rfl⟩:=h;exact hn.snoc hx
theorem NdB.bare (B kd:Nat)(l:List Nat):NdB B ⟨kd,0,⟨#[]⟩,⟨#[]⟩,[],l⟩:=⟨Nat.zero_le _,Nat.zero_le _,fun _ h=>(by cases h),Nat.zero_le _⟩
theorem NdB.named (B kd:Nat)(l:List Nat){t:ByteArray}(h:t.size≤B):NdB B ⟨kd,0,⟨#[]⟩,t,[],l⟩:=⟨Nat.le_succ_of_le h,Nat.zero_le _,fun _ h=>(by cases h),Nat.zero_le _⟩
theorem behindR_lm {ws:List Wd}{B:Nat}{R:Nat→List Nd→Res}(hR:LmR B R)(t:ByteArray):LmR B (behindR ws t R):=by
 intro k nds v k' nds' h0 h;rw[behindR] at h;split at h
 ·exact hR _ _ _ _ _ h0 h
 ·cases h
theorem listF_lm {ws:List Wd}{B:Nat}{R:Nat→List Nd→Res}(hR:LmR B R)(t:ByteArray):∀(n:Nat) (l:List Nat) (k:Nat) (nds:List Nd) (l':List Nat) (k':Nat) (nds':List Nd),
  AllB B nds→l.length≤17→listF ws t R n l k nds=.ok (l',k',nds')→AllB B nds'∧l'.length≤17
 | 0,_,_,_,_,_,_,_,_,h=>by simp[listF] at h
 | n+1,l,k,nds,l',k',nds',h0,hl,h=>by
  rw[listF] at h;split at h
  ·split at h
   ·cases h
   ·split at h
    ·cases h
    ·rename_i h16 v k1 nds1 hr;exact listF_lm hR t n _ _ _ _ _ _ (hR _ _ _ _ _ h0 hr) (by rw[List.length_append,List.length_singleton];omega) h
  ·simp at h;obtain⟨rfl,rfl,rfl⟩:=h;exact⟨h0,hl⟩
theorem listR_lm {ws:List Wd}{B:Nat}{R:Nat→List Nd→Res}(hR:LmR B R)(t:ByteArray){k:Nat}{nds:List Nd}{l':List Nat}{k':Nat}{nds':List Nd}(h0:AllB B nds)(h:listR ws t R k nds=.ok (l',k',nds')) :
  AllB B nds'∧l'.length≤17:=by
 rw[listR] at h;split at h
 ·cases h
 ·rename_i v k1 nds1 hr;exact listF_lm hR t _ _ _ _ _ _ _ (hR _ _ _ _ _ h0 hr) (by simp) h
theorem unionR_lm {ws:List Wd}{B:Nat}{R:Nat→List Nd→Res}(hR:LmR B R):LmR B (unionR ws R):=by
 intro k nds v k' nds' h0 h;rw[unionR] at h;split at h
 ·cases h
 ·rename_i l k1 nds1 hr;have h1:=(listR_lm hR _ h0 hr).1;split at h
  ·simp at h;obtain⟨_,_,rfl⟩:=h;exact h1
  ·exact addR_lm h1 (NdB.bare _ _ _) h
theorem keywordR_lm {ws:List Wd}{B:Nat}{K:ByteArray→Nat}:LmR B (keywordR ws K):=by
 intro k nds v k' nds' h0 h;rw[keywordR] at h;split at h
 ·cases h
 ·split at h
  ·exact addR_lm h0 (NdB.bare _ _ _) h
  ·cases h
theorem itemN_lm {ws:List Wd}{B:Nat}(hT:TkB ws B){R:Nat→List Nd→Res}(hR:LmR B R){kd:Nat}{sign:ByteArray}{s:List ByteArray}{k:Nat}{nds:List Nd}{v k':Nat}{nds':List Nd}{s':List ByteArray}(h0:AllB B nds)(hs:∀ y∈s,y.size≤B)
  (h:itemN ws kd sign R s k nds=.ok (v,k',nds',s')):AllB B nds'∧∀ y∈s',y.size≤B:=by
 rw[itemN] at h;split at h
 ·split at h
  ·cases h
  ·split at h
   ·cases h
   ·rename_i v1 k1 nds1 hr;simp at h;obtain⟨_,_,rfl,rfl⟩:=h;refine⟨behindR_lm hR _ _ _ _ _ _ h0 hr,fun y hy=>?_⟩
    rcases List.mem_append.1 hy with hy | hy
    ·exact hs y hy
    ·rw[List.mem_singleton.1 hy];exact(hT k).1
 ·cases h
theorem listG_lm {ws:List Wd}{B:Nat}(hT:TkB ws B){R:Nat→List Nd→Res}(hR:LmR B R){kd:Nat}{sign:ByteArray}(t:ByteArray):∀(n:Nat) (l:List Nat) (k:Nat) (nds:List Nd) (s:List ByteArray) (l':List Nat) (k':Nat) (nds':List Nd) (s':List ByteArray),
  AllB B nds→(∀ y∈s,y.size≤B)→listG ws t (itemN ws kd sign R) n l k nds s=.ok (l',k',nds',s')→AllB B nds'∧∀ y∈s',y.size≤B
 | 0,_,_,_,_,_,_,_,_,_,_,h=>by simp[listG] at h
 | n+1,l,k,nds,s,l',k',nds',s',h0,hs,h=>by
  rw[listG] at h;split at h
  ·split at h
   ·cases h
   ·split at h
    ·cases h
    ·rename_i v k1 nds1 s1 hr;obtain⟨q1,q2⟩:=itemN_lm hT hR h0 hs hr;exact listG_lm hT hR t n _ _ _ _ _ _ _ _ q1 q2 h
  ·simp at h;obtain⟨rfl,rfl,rfl,rfl⟩:=h;exact⟨h0,hs⟩
theorem namedR_lm {ws:List Wd}{B:Nat}(hT:TkB ws B){R:Nat→List Nd→Res}(hR:LmR B R){kd:Nat}{sign:ByteArray}{k:Nat}{nds:List Nd}{l':List Nat}{k':Nat}{nds':List Nd}{s':List ByteArray}(h0:AllB B nds)
  (h:namedR ws kd sign R k nds=.ok (l',k',nds',s')):AllB B nds'∧∀ y∈s',y.size≤B:=by
 rw[namedR,listS] at h;split at h
 ·cases h
 ·rename_i v k1 nds1 s1 hr;obtain⟨q1,q2⟩:=itemN_lm hT hR h0 (fun _ h=>by cases h) hr
  exact listG_lm hT hR _ _ _ _ _ _ _ _ _ _ q1 q2 h
theorem recordR_lm {ws:List Wd}{B:Nat}(hT:TkB ws B){kind:Nat}{R:Nat→List Nd→Res}(hR:LmR B R):LmR B (recordR ws kind R):=by
 intro k nds v k' nds' h0 h;rw[recordR] at h;split at h
 ·split at h
  ·exact addR_lm h0 (NdB.bare _ _ _) h
  ·split at h
   ·cases h
   ·rename_i l k1 nds1 ns hr;obtain⟨q1,q2⟩:=namedR_lm hT hR h0 hr;split at h
    ·exact addR_lm q1 ⟨Nat.zero_le _,Nat.zero_le _,q2,Nat.zero_le _⟩ h
    ·cases h
 ·cases h
theorem partR_lm {ws:List Wd}{B:Nat}(hT:TkB ws B){R:Nat→List Nd→Res}(hR:LmR B R):LmR B (partR ws R):=by
 intro k nds v k' nds' h0 h;rw[partR] at h;split at h
 ·exact addR_lm h0 (NdB.named _ _ _ (hT k).1) h
 ·split at h
  ·exact addR_lm h0 (NdB.named _ _ _ (hT k).1) h
  ·split at h
   ·split at h
    ·split at h
     ·exact addR_lm h0 ⟨Nat.le_succ_of_le (hT _).1,(hT k).1,fun _ h=>(by cases h),Nat.zero_le _⟩ h
     ·cases h
    ·cases h
   ·split at h
    ·exact recordR_lm hT hR _ _ _ _ _ h0 h
    ·split at h
     ·split at h
      ·cases h
      ·rename_i v1 k1 nds1 hr;have q:=behindR_lm hR _ _ _ _ _ _ h0 hr;split at h
       ·simp at h;obtain⟨_,_,rfl⟩:=h;exact q
       ·cases h
     ·exact keywordR_lm _ _ _ _ _ h0 h
theorem typeR_lm {ws:List Wd}{B:Nat}(hT:TkB ws B):∀ m,LmR B (typeR ws m)
 | 0=>fun k nds v k' nds' _ h=>by rw[typeR] at h;cases h
 | m+1=>fun k nds v k' nds' h0 h=>by rw[typeR] at h;exact unionR_lm (partR_lm hT (typeR_lm hT m)) _ _ _ _ _ h0 h
theorem argsR_lm {ws:List Wd}{B:Nat}{Rx:Nat→List Nd→Res}(hG:LmR B Rx){md nm:ByteArray}(hm:md.size≤B)(hn:nm.size≤B){l:List Nat}(hl:l.length≤17):LmR B (argsR ws Rx md nm l):=by
 have hN:∀ l2,NdB B ⟨19,l.length,md,nm,[],l2⟩:=fun l2=>⟨Nat.le_succ_of_le hn,hm,fun _ h=>(by cases h),Nat.le_trans hl (by decide)⟩
 intro k nds v k' nds' h0 h;rw[argsR] at h;split at h
 ·split at h
  ·exact addR_lm h0 (hN _) h
  ·split at h
   ·cases h
   ·rename_i l2 k2 nds2 hr;have q:=(listR_lm hG _ h0 hr).1;split at h
    ·exact addR_lm q (hN _) h
    ·cases h
 ·cases h
theorem callR_lm {ws:List Wd}{B:Nat}{Rx Rt:Nat→List Nd→Res}(hG:LmR B Rx)(hGt:LmR B Rt){md nm:ByteArray}(hm:md.size≤B)(hn:nm.size≤B):LmR B (callR ws Rx Rt md nm):=by
 intro k nds v k' nds' h0 h;rw[callR] at h;split at h
 ·split at h
  ·cases h
  ·rename_i l k1 nds1 hr;obtain⟨q1,q2⟩:=listR_lm hGt _ h0 hr;split at h
   ·exact argsR_lm hG hm hn q2 _ _ _ _ _ q1 h
   ·cases h
 ·exact argsR_lm hG hm hn (by simp) _ _ _ _ _ h0 h
theorem varOrCallR_lm {ws:List Wd}{B:Nat}(hT:TkB ws B){Rx Rt:Nat→List Nd→Res}(hG:LmR B Rx)(hGt:LmR B Rt):LmR B (varOrCallR ws Rx Rt):=by
 intro k nds v k' nds' h0 h;rw[varOrCallR] at h;split at h
 ·split at h
  ·split at h
   ·exact callR_lm hG hGt (hT _).1 (hT _).1 _ _ _ _ _ h0 h
   ·cases h
  ·split at h
   ·exact callR_lm hG hGt (Nat.zero_le _) (hT _).1 _ _ _ _ _ h0 h
   ·split at h
    ·exact callR_lm hG hGt (Nat.zero_le _) (hT _).1 _ _ _ _ _ h0 h
    ·exact addR_lm h0 (NdB.named _ _ _ (hT _).1) h
 ·cases h
theorem enclosedR_lm {ws:List Wd}{B:Nat}{Rx Rt:Nat→List Nd→Res}(hG:LmR B Rx)(hGt:LmR B Rt):LmR B (enclosedR ws Rx Rt):=by
 intro k nds v k' nds' h0 h;rw[enclosedR] at h;split at h
 ·cases h
 ·rename_i v1 k1 nds1 hr;have q:=behindR_lm hG _ _ _ _ _ _ h0 hr;split at h
  ·split at h
   ·cases h
   ·rename_i t k2 nds2 hr2;have q2:=behindR_lm hGt _ _ _ _ _ _ q hr2;split at h
    ·exact addR_lm q2 (NdB.bare _ _ _) h
    ·cases h
  ·split at h
   ·simp at h;obtain⟨_,_,rfl⟩:=h;exact q
   ·cases h
theorem atomR_lm {ws:List Wd}{B:Nat}(hT:TkB ws B){Rx Rt:Nat→List Nd→Res}(hG:LmR B Rx)(hGt:LmR B Rt):LmR B (atomR ws Rx Rt):=by
 intro k nds v k' nds' h0 h;rw[atomR] at h;split at h
 ·exact addR_lm h0 ⟨Nat.zero_le _,Nat.zero_le _,fun _ h=>(by cases h),(hT k).2⟩ h
 ·split at h
  ·exact addR_lm h0 (NdB.named _ _ _ (hT k).1) h
  ·split at h
   ·exact varOrCallR_lm hT hG hGt _ _ _ _ _ h0 h
   ·split at h
    ·exact recordR_lm hT hG _ _ _ _ _ h0 h
    ·split at h
     ·exact enclosedR_lm hG hGt _ _ _ _ _ h0 h
     ·exact keywordR_lm _ _ _ _ _ h0 h
theorem primF_lm {ws:List Wd}{B:Nat}(hT:TkB ws B):∀(n v k:Nat) (nds:List Nd) (v' k':Nat) (nds':List Nd),AllB B nds→primF ws n v k nds=.ok (v',k',nds')→AllB B nds'
 | 0,_,_,_,_,_,_,_,h=>by simp[primF] at h
 | n+1,v,k,nds,v',k',nds',h0,h=>by
  rw[primF] at h;split at h
  ·split at h
   ·split at h
    ·cases h
    ·rename_i v1 k1 nds1 hr;exact primF_lm hT n _ _ _ _ _ _ (addR_lm h0 (NdB.named _ _ _ (hT _).1) hr) h
   ·cases h
  ·simp at h;obtain⟨_,_,rfl⟩:=h;exact h0
theorem primR_lm {ws:List Wd}{B:Nat}(hT:TkB ws B){R:Nat→List Nd→Res}(hG:LmR B R):LmR B (primR ws R):=by
 intro k nds v k' nds' h0 h;rw[primR] at h;split at h
 ·cases h
 ·rename_i v1 k1 nds1 hr;exact primF_lm hT _ _ _ _ _ _ _ (hG _ _ _ _ _ h0 hr) h
theorem sumF_lm {ws:List Wd}{B:Nat}(hT:TkB ws B){R:Nat→List Nd→Res}(hG:LmR B R):∀(n v k:Nat) (nds:List Nd) (v' k':Nat) (nds':List Nd),AllB B nds→sumF ws R n v k nds=.ok (v',k',nds')→AllB B nds'
 | 0,_,_,_,_,_,_,_,h=>by simp[sumF] at h
 | n+1,v,k,nds,v',k',nds',h0,h=>by
  rw[sumF] at h;split at h
  ·split at h
   ·cases h
   ·rename_i v1 k1 nds1 hr;split at h
    ·cases h
    ·rename_i v2 k2 nds2 hr2;exact sumF_lm hT hG n _ _ _ _ _ _ (addR_lm (hG _ _ _ _ _ h0 hr) (NdB.named _ _ _ (hT _).1) hr2) h
  ·simp at h;obtain⟨_,_,rfl⟩:=h;exact h0
theorem sumR_lm {ws:List Wd}{B:Nat}(hT:TkB ws B){R:Nat→List Nd→Res}(hG:LmR B R):LmR B (sumR ws R):=by
 intro k nds v k' nds' h0 h;rw[sumR] at h;split at h
 ·cases h
 ·rename_i v1 k1 nds1 hr;exact sumF_lm hT hG _ _ _ _ _ _ _ (hG _ _ _ _ _ h0 hr) h
theorem shapeS_size {x:Wd}{t:ByteArray}{B:Nat}(hx:x.text.size≤B)(h:shapeS x=some t):t.size≤B+1:=by
 unfold shapeS at h;split at h
 ·injection h with h
  subst h;rw[ByteArray.size_append]
  show 1+x.text.size≤B+1
  omega
 ·split at h
  ·injection h with h;subst h;omega
  ·split at h
   ·injection h with h;subst h;omega
   ·split at h
    ·injection h with h;subst h;omega
    ·split at h
     ·injection h with h;subst h;omega
     ·cases h
theorem testR_lm {ws:List Wd}{B:Nat}(hT:TkB ws B){R:Nat→List Nd→Res}(hG:LmR B R):LmR B (testR ws R):=by
 intro k nds v k' nds' h0 h;rw[testR] at h;split at h
 ·cases h
 ·rename_i v1 k1 nds1 hr;have q:=hG _ _ _ _ _ h0 hr;split at h
  ·split at h
   ·split at h
    ·rename_i t ht;exact addR_lm q ⟨shapeS_size (hT _).1 ht,Nat.zero_le _,fun _ h=>(by cases h),Nat.zero_le _⟩ h
    ·cases h
   ·cases h
  ·simp at h;obtain⟨_,_,rfl⟩:=h;exact q
theorem letR_lm {ws:List Wd}{B:Nat}(hT:TkB ws B){Rx:Nat→List Nd→Res}(hG:LmR B Rx):LmR B (letR ws Rx):=by
 intro k nds v k' nds' h0 h;rw[letR] at h;split at h
 ·split at h
  ·cases h
  ·rename_i a k1 nds1 hr;have q:=behindR_lm hG _ _ _ _ _ _ h0 hr;split at h
   ·cases h
   ·rename_i b k2 nds2 hr2;exact addR_lm (behindR_lm hG _ _ _ _ _ _ q hr2) (NdB.named _ _ _ (hT _).1) h
 ·cases h
theorem ifR_lm {ws:List Wd}{B:Nat}{Rx:Nat→List Nd→Res}(hG:LmR B Rx):LmR B (ifR ws Rx):=by
 intro k nds v k' nds' h0 h;rw[ifR] at h;split at h
 ·cases h
 ·rename_i a k1 nds1 hr;have q:=hG _ _ _ _ _ h0 hr;split at h
  ·cases h
  ·rename_i b k2 nds2 hr2;have q2:=behindR_lm hG _ _ _ _ _ _ q hr2;split at h
   ·cases h
   ·rename_i c k3 nds3 hr3;exact addR_lm (behindR_lm hG _ _ _ _ _ _ q2 hr3) (NdB.bare _ _ _) h
theorem letOrIfR_lm {ws:List Wd}{B:Nat}(hT:TkB ws B){Rx Rt:Nat→List Nd→Res}(hG:LmR B Rx)(hGt:LmR B Rt):LmR B (letOrIfR ws Rx Rt):=by
 intro k nds v k' nds' h0 h;rw[letOrIfR] at h;split at h
 ·exact letR_lm hT hG _ _ _ _ _ h0 h
 ·split at h
  ·exact ifR_lm hG _ _ _ _ _ h0 h
  ·exact testR_lm hT (sumR_lm hT (primR_lm hT (atomR_lm hT hG hGt))) _ _ _ _ _ h0 h
theorem exprR_lm {ws:List Wd}{B:Nat}(hT:TkB ws B):∀ m,LmR B (exprR ws m)
 | 0=>fun k nds v k' nds' _ h=>by rw[exprR] at h;cases h
 | m+1=>fun k nds v k' nds' h0 h=>by rw[exprR] at h;exact letOrIfR_lm hT (exprR_lm hT m) (typeR_lm hT m) _ _ _ _ _ h0 h
def DcB (B:Nat)(x:Dc):Prop:=x.nm.size≤B
structure FdB (B:Nat)(x:Fd):Prop where
 nm:x.nm.size≤B
 vars:∀ d∈x.vars,DcB B d
 params:∀ d∈x.params,DcB B d
structure MdB (B:Nat)(m:Md):Prop where
 nm:m.nm.size≤B
 imports:∀ s∈m.imports,s.size≤B
 types:∀ d∈m.types,DcB B d
 fns:∀ f∈m.fns,FdB B f
 nodes:AllB B m.nodes
theorem zipD_lm {B:Nat}:∀ {ns:List ByteArray} {ts:List Nat},(∀ y∈ns,y.size≤B)→∀ d∈zipD ns ts,DcB B d
 | [],_,_,d,hd=>by simp[zipD] at hd
 | n::ns,[],_,d,hd=>by simp[zipD] at hd
 | n::ns,t::ts,h,d,hd=>by
  rw[zipD] at hd;rcases List.mem_cons.1 hd with rfl | hd
  ·exact h n (by simp)
  ·exact zipD_lm (fun y hy=>h y (List.mem_cons_of_mem _ hy)) d hd
theorem declR_lm {ws:List Wd}{B:Nat}(hT:TkB ws B){R:Nat→List Nd→Res}(hR:LmR B R){k:Nat}{nds:List Nd}{x:Dc}{k':Nat}{nds':List Nd}(h0:AllB B nds)(h:declR ws R k nds=.ok (x,k',nds')):AllB B nds'∧DcB B x:=by
 rw[declR] at h;split at h
 ·split at h
  ·split at h
   ·cases h
   ·rename_i v1 k1 nds1 hr;simp at h;obtain⟨rfl,_,rfl⟩:=h;exact⟨behindR_lm hR _ _ _ _ _ _ h0 hr,(hT _).1⟩
  ·cases h
 ·cases h
theorem fnTail_lm {ws:List Wd}{B:Nat}{Rt Rx:Nat→List Nd→Res}(hRt:LmR B Rt)(hRx:LmR B Rx){nm:ByteArray}{vs ps:List Dc}(hn:nm.size≤B)(hv:∀ d∈vs,DcB B d)(hp:∀ d∈ps,DcB B d){k:Nat}{nds:List Nd}{x:Fd}{k':Nat}{nds':List Nd}(h0:AllB B nds)
  (h:fnTail ws Rt Rx nm vs ps k nds=.ok (x,k',nds')):AllB B nds'∧FdB B x:=by
 rw[fnTail] at h;split at h
 ·split at h
  ·cases h
  ·rename_i r k1 nds1 hr;split at h
   ·cases h
   ·rename_i b k2 nds2 hr2;simp at h;obtain⟨rfl,_,rfl⟩:=h;exact⟨behindR_lm hRx _ _ _ _ _ _ (behindR_lm hRt _ _ _ _ _ _ h0 hr) hr2,⟨hn,hv,hp⟩⟩
 ·cases h
theorem fnParams_lm {ws:List Wd}{B:Nat}(hT:TkB ws B){Rt Rx:Nat→List Nd→Res}(hRt:LmR B Rt)(hRx:LmR B Rx){nm:ByteArray}{vs:List Dc}(hn:nm.size≤B)(hv:∀ d∈vs,DcB B d){k:Nat}{nds:List Nd}{x:Fd}{k':Nat}{nds':List Nd}(h0:AllB B nds)
  (h:fnParams ws Rt Rx nm vs k nds=.ok (x,k',nds')):AllB B nds'∧FdB B x:=by
 rw[fnParams] at h;split at h
 ·split at h
  ·exact fnTail_lm hRt hRx hn hv (fun _ h=>by cases h) h0 h
  ·split at h
   ·cases h
   ·rename_i l k1 nds1 ns hr;obtain⟨q1,q2⟩:=namedR_lm hT hRt h0 hr;exact fnTail_lm hRt hRx hn hv (zipD_lm q2) q1 h
 ·cases h
theorem fnR_lm {ws:List Wd}{B:Nat}(hT:TkB ws B){Rt Rx:Nat→List Nd→Res}(hRt:LmR B Rt)(hRx:LmR B Rx){k:Nat}{nds:List Nd}{x:Fd}{k':Nat}{nds':List Nd}(h0:AllB B nds)(h:fnR ws Rt Rx k nds=.ok (x,k',nds')):AllB B nds'∧FdB B x:=by
 rw[fnR] at h;split at h
 ·split at h
  ·split at h
   ·split at h
    ·cases h
    ·rename_i l k1 nds1 ns hr;obtain⟨q1,q2⟩:=namedR_lm hT hRt h0 hr;split at h
     ·exact fnParams_lm hT hRt hRx (hT _).1 (zipD_lm q2) q1 h
     ·cases h
   ·exact fnParams_lm hT hRt hRx (hT _).1 (fun _ h=>by cases h) h0 h
  ·cases h
 ·cases h
theorem importsF_lm {ws:List Wd}{B:Nat}(hT:TkB ws B):∀(n:Nat) (l:List ByteArray) (k:Nat) (l':List ByteArray) (k':Nat),(∀ y∈l,y.size≤B)→importsF ws n l k=.ok (l',k')→∀ y∈l',y.size≤B
 | 0,_,_,_,_,_,h=>by simp[importsF] at h
 | n+1,l,k,l',k',hl,h=>by
  rw[importsF] at h;split at h
  ·split at h
   ·cases h
   ·split at h
    ·refine importsF_lm hT n _ _ _ _ (fun y hy=>?_) h
     rcases List.mem_append.1 hy with hy | hy
     ·exact hl y hy
     ·rw[List.mem_singleton.1 hy];exact(hT _).1
    ·cases h
  ·simp at h;obtain⟨rfl,_⟩:=h;exact hl
theorem typesF_lm {ws:List Wd}{B:Nat}(hT:TkB ws B){R:Nat→List Nd→Res}(hR:LmR B R):∀(n:Nat) (l:List Dc) (k:Nat) (nds:List Nd) (l':List Dc) (k':Nat) (nds':List Nd),AllB B nds→(∀ d∈l,DcB B d)→typesF ws R n l k nds=.ok (l',k',nds')→AllB B nds'∧∀ d∈l',DcB B d
 | 0,_,_,_,_,_,_,_,_,h=>by simp[typesF] at h
 | n+1,l,k,nds,l',k',nds',h0,hl,h=>by
  rw[typesF] at h;split at h
  ·split at h
   ·cases h
   ·split at h
    ·cases h
    ·rename_i x k1 nds1 hr;obtain⟨q1,q2⟩:=declR_lm hT hR h0 hr;refine typesF_lm hT hR n _ _ _ _ _ _ q1 (fun d hd=>?_) h
     rcases List.mem_append.1 hd with hd | hd
     ·exact hl d hd
     ·rw[List.mem_singleton.1 hd];exact q2
  ·simp at h;obtain⟨rfl,_,rfl⟩:=h;exact⟨h0,hl⟩
theorem fnsF_lm {ws:List Wd}{B:Nat}(hT:TkB ws B){Rt Rx:Nat→List Nd→Res}(hRt:LmR B Rt)(hRx:LmR B Rx):∀(n:Nat) (l:List Fd) (k:Nat) (nds:List Nd) (l':List Fd) (k':Nat) (nds':List Nd),AllB B nds→(∀ d∈l,FdB B d)→fnsF ws Rt Rx n l k nds=.ok (l',k',nds')→AllB B nds'∧∀ d∈l',FdB B d
 | 0,_,_,_,_,_,_,_,_,h=>by simp[fnsF] at h
 | n+1,l,k,nds,l',k',nds',h0,hl,h=>by
  rw[fnsF] at h;split at h
  ·split at h
   ·cases h
   ·split at h
    ·cases h
    ·rename_i x k1 nds1 hr;obtain⟨q1,q2⟩:=fnR_lm hT hRt hRx h0 hr;refine fnsF_lm hT hRt hRx n _ _ _ _ _ _ q1 (fun d hd=>?_) h
     rcases List.mem_append.1 hd with hd | hd
     ·exact hl d hd
     ·rw[List.mem_singleton.1 hd];exact q2
  ·simp at h;obtain⟨rfl,_,rfl⟩:=h;exact⟨h0,hl⟩
theorem moduleR_lm {ws:List Wd}{B:Nat}(hT:TkB ws B){m:Md}(h:moduleR ws=.ok m):MdB B m:=by
 rw[moduleR] at h;split at h
 ·split at h
  ·split at h
   ·cases h
   ·rename_i im k1 hi;split at h
    ·cases h
    ·rename_i ty k2 n2 ht;obtain⟨q1,q2⟩:=typesF_lm hT (typeR_lm hT 60) _ _ _ _ _ _ _ (fun _ h=>by cases h) (fun _ h=>by cases h) ht
     split at h
     ·cases h
     ·rename_i fs k3 n3 hf;obtain⟨q3,q4⟩:=fnsF_lm hT (typeR_lm hT 60) (exprR_lm hT 60) _ _ _ _ _ _ _ q1 (fun _ h=>by cases h) hf
      split at h
      ·injection h with h
       subst h;exact⟨(hT 1).1,importsF_lm hT _ _ _ _ _ (fun _ h=>by cases h) hi,q2,q4,q3⟩
      ·cases h
  ·cases h
 ·cases h
end
end Go.Proofs.YtmpaemchjehjbaaGreatDoor
