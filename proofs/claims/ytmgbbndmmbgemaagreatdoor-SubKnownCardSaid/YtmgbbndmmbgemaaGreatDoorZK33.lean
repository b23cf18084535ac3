/- Contracts and plain facts that the theorem rests on: SMadeP, SChap. -/
import Derived.Test.YtmgbbndmmbgemaaGreatDoorZK29
import Derived.Test.YtmgbbndmmbgemaaGreatDoorZK32
import Derived.Test.YtmgbbndmmbgemaaGreatDoorZK1
set_option linter.unusedSimpArgs false
set_option linter.unusedVariables false
namespace Go.Proofs.YtmgbbndmmbgemaaGreatDoor
section
open Go.RowKit
namespace SM
open CM (nd kids)
structure Rw where
 kind:Int
 num:Int
 l:List Int
def padS (l:List Int):List Int:=l++List.replicate (2 - l.length) 0
def someS (l:List Int) (n:Int):List Int:=padS ((l.take 4).map fun x=>bringG x n)
def onceS (l:List Int):List Int:=l.foldl (fun o x=>if x∈o then o else o++[x]) []
def ka:ByteArray:=⟨#[97]⟩
def kb_:ByteArray:=⟨#[98]⟩
def kc:ByteArray:=⟨#[99]⟩
def recS (l:List Int):Gi:=⟨7,0,⟨#[]⟩,[ka,kb_,kc].take l.length,l⟩
def plainS (n:Nat):Nat:=(2*n+2) / 3
def baseS (n:Nat) (dyn:Bool) (x:Rw):Gi:=
 if bringG x.kind 7=0 then ⟨if bringG x.num 4=0∧dyn=false then 4 else 1+bringG x.num 4,0,⟨#[]⟩,[],[]⟩
 else if bringG x.kind 7=1 then ⟨5,0,if bringG x.num 2=0 then ka else kb_,[],[]⟩
 else if bringG x.kind 7=2 then ⟨9,bringG x.num 2,⟨#[]⟩,[],(someS x.l n).take 1⟩
 else if bringG x.kind 7=3 then recS ((someS x.l n).take 2)
 else if bringG x.kind 7=4 then recS []
 else recS ((someS x.l n).take 1)
def nodeS (n:Nat) (dyn:Bool) (i:Nat) (x:Rw):Gi:=
 if plainS n≤i∧2≤(onceS (someS x.l (plainS n))).length then ⟨8,0,⟨#[]⟩,[],onceS (someS x.l (plainS n))⟩ else baseS n dyn x
def madeN (n:Nat) (dyn:Bool):Nat→List Rw→List Gi
 | _,[]=>[]
 | i,x :: l=>nodeS n dyn i x :: madeN n dyn (i+1) l
def madeS (l:List Rw) (dyn:Bool):List Gi:=madeN (l.take 14).length dyn 0 (l.take 14)
theorem madeN_len (n:Nat) (dyn:Bool):∀ (l:List Rw) (i:Nat),(madeN n dyn i l).length=l.length
 | [],_=>rfl
 | _ :: l,i=>by unfold madeN;rw [List.length_cons,List.length_cons,madeN_len n dyn l]
theorem madeN_at (n:Nat) (dyn:Bool):∀ (l:List Rw) (i k:Nat),(madeN n dyn i l)[k]? = (l[k]?).map (nodeS n dyn (i+k))
 | [],_,_=>by simp [madeN]
 | x :: l,i,0=>by simp [madeN]
 | x :: l,i,k+1=>by
  unfold madeN
  rw [List.getElem?_cons_succ,List.getElem?_cons_succ,madeN_at n dyn l (i+1) k,show i+1+k=i+(k+1) by omega]
theorem someS_len (l:List Int) (n:Int):2≤(someS l n).length∧(someS l n).length≤4:=by
 unfold someS padS
 rw [List.length_append,List.length_replicate,List.length_map,List.length_take]
 omega
theorem someS_in (l:List Int) (n:Int) (hn:0<n):∀ x∈someS l n,0≤x∧x<n:=fun x hx=>by
 unfold someS padS at hx
 rcases List.mem_append.1 hx with hx | hx
 ·obtain ⟨y,_,rfl⟩:=List.mem_map.1 hx
  exact bringG_nat y n hn
 ·rw [(List.mem_replicate.1 hx).2];omega
def onceF (o:List Int) (x:Int):List Int:=if x∈o then o else o++[x]
theorem onceS_fold (l:List Int):∀ o,(∀ x∈l.foldl onceF o,x∈o∨x∈l)∧(o.Nodup→(l.foldl onceF o).Nodup)∧(l.foldl onceF o).length≤o.length+l.length:=by
 induction l with
 | nil=>intro o;exact ⟨fun x h => .inl h,id,Nat.le_refl _⟩
 | cons x l ih =>
  intro o
  rw [List.foldl_cons]
  obtain ⟨h1,h2,h3⟩:=ih (onceF o x)
  refine ⟨fun y hy=>?_,fun hn=>h2 ?_,?_⟩
  ·rcases h1 y hy with hy | hy
   ·unfold onceF at hy
    split at hy
    ·exact .inl hy
    ·rcases List.mem_append.1 hy with hy | hy
     ·exact .inl hy
     ·rw [List.mem_singleton] at hy;subst hy;exact .inr (List.mem_cons_self ..)
   ·exact .inr (List.mem_cons_of_mem _ hy)
  ·unfold onceF
   split
   ·exact hn
   ·rename_i hx
    rw [List.nodup_append]
    exact ⟨hn,by simp,fun a ha b hb e=>by rw [List.mem_singleton] at hb;subst hb;subst e;exact hx ha⟩
  ·rw [List.length_cons]
   have:(onceF o x).length≤o.length+1:=by unfold onceF;split <;> simp
   omega
theorem onceS_in (l:List Int):(∀ x∈onceS l,x∈l)∧(onceS l).Nodup∧(onceS l).length≤l.length:=by
 obtain ⟨h1,h2,h3⟩:=onceS_fold l []
 exact ⟨fun x hx=>(h1 x hx).elim (fun h=>by cases h) id,h2 (by simp),by have:=h3;rw [List.length_nil,Nat.zero_add] at this;exact this⟩
theorem takeS_ok (g:List Gi):∀ (l:List Int) (us:List Bool),us.length=g.length→(∀ x∈l,exI g.length x=true∧(g.getD x.toNat ⟨0,0,⟨#[]⟩,[],[]⟩).kind≠8∧us.getD x.toNat false=false)→l.Nodup→(takeS g us l).isSome=true
 | [],_,_,_,_=>rfl
 | x :: l,us,hl,h,hn=>by
  unfold takeS
  rw [if_pos (h x (List.mem_cons_self ..))]
  rw [List.nodup_cons] at hn
  refine takeS_ok g l _ (by rw [List.length_set];exact hl) (fun y hy=>?_) hn.2
  obtain ⟨h1,h2,h3⟩:=h y (List.mem_cons_of_mem _ hy)
  refine ⟨h1,h2,?_⟩
  rw [List.getD_eq_getElem?_getD,List.getElem?_set]
  have hx:=exI_iff.1 (h x (List.mem_cons_self ..)).1
  have hy':=exI_iff.1 h1
  rw [if_neg (fun e=>by
   have:x=y:=by omega
   subst this
   exact hn.1 hy)]
  rw [← List.getD_eq_getElem?_getD];exact h3
theorem valid_of {g:List Gi} {x:Gi} (h:okG g x=true) (hr:restG x=⟨x.kind,0,⟨#[]⟩,[],[]⟩):validG g x=true:=by unfold validG;rw [h,decide_eq_true hr];rfl
theorem rec_ok {g:List Gi} {l:List Int} (hl:l.length≤2) (h:∀ x∈l,0≤x∧x<(g.length:Int)):validG g (recS l)=true:=by
 have hk:keysOk ([ka,kb_,kc].take l.length)=true:=by
  rcases Nat.lt_or_ge l.length 1 with h0 | h0
  ·rw [show l.length=0 by omega];kernel_rfl
  ·rcases Nat.lt_or_ge l.length 2 with h1 | h1
   ·rw [show l.length=1 by omega];kernel_rfl
   ·rw [show l.length=2 by omega];kernel_rfl
 have hlen:([ka,kb_,kc].take l.length).length=l.length:=by rw [List.length_take];simp;omega
 refine valid_of ?_ ?_
 ·unfold okG recS
  dsimp only
  rw [if_neg (by decide),if_neg (by decide),if_pos rfl,hk,hlen,Bool.true_and,Bool.and_eq_true]
  exact ⟨decide_eq_true rfl,List.all_eq_true.2 fun x hx=>exI_iff.2 (h x hx)⟩
 ·unfold restG recS
  dsimp only
  rw [if_neg (by decide),if_pos rfl]
theorem base_ok {g:List Gi} {n:Nat} (dyn:Bool) (x:Rw) (hn:0<n) (hg:g.length=n):validG g (baseS n dyn x)=true∧(baseS n dyn x).kind≠8:=by
 have hb7:=bringG_nat x.kind 7 (by decide)
 have hb4:=bringG_nat x.num 4 (by decide)
 have hb2:=bringG_nat x.num 2 (by decide)
 have hin:=someS_in x.l n (by omega)
 have hsl:=someS_len x.l n
 unfold baseS
 split
 ·generalize bringG x.num 4=k at hb4 ⊢
  obtain ⟨m,hm,h1,h2⟩:∃ m:Int,(if k=0∧dyn=false then 4 else 1+k)=m∧1≤m∧m≤4:=⟨_,rfl,by split <;> omega,by split <;> omega⟩
  rw [hm]
  refine ⟨valid_of ?_ ?_,by show m≠8;omega⟩
  ·unfold okG
   dsimp only
   rw [if_pos (by omega)]
  ·unfold restG
   dsimp only
   rw [if_neg (by omega),if_neg (by omega),if_neg (by omega),if_neg (by omega)]
 ·split
  ·refine ⟨valid_of ?_ ?_,by show (5:Int)≠8;decide⟩
   ·unfold okG
    dsimp only
    rw [if_neg (by decide),if_pos rfl]
    split <;> kernel_rfl
   ·unfold restG
    dsimp only
    rw [if_pos rfl]
  ·split
   ·refine ⟨valid_of ?_ ?_,by show (9:Int)≠8;decide⟩
    ·unfold okG
     dsimp only
     rw [if_neg (by decide),if_neg (by decide),if_neg (by decide),if_neg (by decide),if_pos rfl,Bool.and_eq_true,Bool.and_eq_true]
     refine ⟨⟨decide_eq_true (by omega),decide_eq_true (by rw [List.length_take];omega)⟩,List.all_eq_true.2 fun y hy=>exI_iff.2 ?_⟩
     rw [hg];exact hin y (List.mem_of_mem_take hy)
    ·unfold restG
     dsimp only
     rw [if_neg (by decide),if_neg (by decide),if_neg (by decide),if_pos rfl]
   ·split
    ·exact ⟨rec_ok (by rw [List.length_take];omega) fun y hy=>by rw [hg];exact hin y (List.mem_of_mem_take hy),by show (7:Int)≠8;decide⟩
    ·split
     ·exact ⟨rec_ok (by simp) (by simp),by show (7:Int)≠8;decide⟩
     ·exact ⟨rec_ok (by rw [List.length_take];omega) fun y hy=>by rw [hg];exact hin y (List.mem_of_mem_take hy),by show (7:Int)≠8;decide⟩
theorem madeS_at (l:List Rw) (dyn:Bool) (k:Nat):(madeS l dyn)[k]? = ((l.take 14)[k]?).map (nodeS (l.take 14).length dyn k):=by
 unfold madeS
 rw [madeN_at,Nat.zero_add]
theorem madeS_len (l:List Rw) (dyn:Bool):(madeS l dyn).length=(l.take 14).length:=madeN_len _ _ _ _
theorem made_ok (l:List Rw) (dyn:Bool):checkG (madeS l dyn)=0:=by
 have hlen:=madeS_len l dyn
 have h14:(l.take 14).length≤14:=by rw [List.length_take];omega
 unfold checkG
 rw [if_neg (by omega)]
 have hall:(madeS l dyn).all (validG (madeS l dyn))=true:=by
  rw [List.all_eq_true]
  intro z hz
  obtain ⟨k,hk⟩:=List.getElem?_of_mem hz
  have hkl:=(List.getElem?_eq_some_iff.1 hk).1
  rw [madeS_at] at hk
  obtain ⟨x,hx,rfl⟩:=Option.map_eq_some_iff.1 hk
  have hn:0<(l.take 14).length:=by omega
  generalize hN:(l.take 14).length=n at hlen hn h14 hkl ⊢
  have hbase:∀ y,validG (madeS l dyn) (baseS n dyn y)=true∧(baseS n dyn y).kind≠8:=fun y=>base_ok dyn y hn hlen
  unfold nodeS
  split
  ·rename_i hc
   have hp:0<plainS n:=by unfold plainS;omega
   have hpn:plainS n≤n:=by unfold plainS;omega
   obtain ⟨o1,o2,o3⟩:=onceS_in (someS x.l (plainS n))
   have hin:=someS_in x.l (plainS n) (by omega)
   refine valid_of ?_ (by unfold restG;dsimp only;rw [if_neg (by decide),if_neg (by decide),if_pos rfl])
   unfold okG
   dsimp only
   rw [if_neg (by decide),if_neg (by decide),if_neg (by decide),if_pos rfl]
   unfold membOk
   rw [Bool.and_eq_true,decide_eq_true_eq]
   refine ⟨takeS_ok _ _ _ (by rw [List.length_replicate]) (fun y hy=>?_) o2,hc.2⟩
   have hyb:=hin y (o1 y hy)
   refine ⟨exI_iff.2 (by omega),?_,by rw [List.getD_eq_getElem?_getD,List.getElem?_replicate];split <;> rfl⟩
   rw [List.getD_eq_getElem?_getD,madeS_at,hN]
   obtain ⟨x',hx'⟩:∃ x',(l.take 14)[y.toNat]? = some x':=⟨_,List.getElem?_eq_getElem (by omega)⟩
   rw [hx']
   show (nodeS n dyn y.toNat x').kind≠8
   unfold nodeS
   rw [if_neg (by omega)]
   exact (hbase x').2
  ·exact (hbase x).1
 rw [if_pos hall]
end SM
end
section
open Go.RowKit
namespace SM
open CM (nd kids)
def recN (l:List Int):Gi:=⟨7,0,⟨#[]⟩,[ka,kb_,kc].take l.length,l⟩
def chG:List Gi:=[⟨4,0,⟨#[]⟩,[],[]⟩,⟨2,0,⟨#[]⟩,[],[]⟩,⟨1,0,⟨#[]⟩,[],[]⟩,recN [0],recN [0,1],⟨8,0,⟨#[]⟩,[],[0,1]⟩,recN [5],⟨9,0,⟨#[]⟩,[],[3]⟩,recN [8],recN [10],recN [9,0]]
theorem ch_ok:checkG chG=0:=by kernel_rfl
theorem ch_fine:Fine chG:=fine_of ch_ok
def chL (st:Bool):List (Nat × Nat):=roundsL chG st 4 (allP 11)
theorem ch_stable (st:Bool):(chL st).all (fun p=>holdsB chG st (isIn (chL st)) p.1 p.2)=true:=by cases st <;> kernel_rfl
theorem ch_gr (st:Bool) {a b:Nat} (ha:a<11) (hb:b<11):Gr chG st a b↔isIn (chL st) a b=true:=gr_rounds ch_fine 4 (ch_stable st) ha hb
theorem ch_may:(isIn (chL false) 4 3 && !isIn (chL false) 3 4 && isIn (chL false) 3 6 && !isIn (chL false) 6 3 && isIn (chL false) 0 5 && isIn (chL false) 2 0 && isIn (chL false) 0 2 && isIn (chL false) 7 3 && !isIn (chL false) 3 7 && isIn (chL false) 9 8 && !isIn (chL false) 8 9)=true:=by kernel_rfl
theorem ch_strict:(!isIn (chL true) 2 0 && !isIn (chL true) 0 2 && isIn (chL true) 2 2)=true:=by kernel_rfl
end SM
end
end Go.Proofs.YtmgbbndmmbgemaaGreatDoor
