/- Contracts and plain facts that the theorem rests on: SFine, SRulP, SRulQ. -/
import Derived.Test.YtmgbbndmmbgemaaGreatDoorZK7
import Derived.Test.YtmgbbndmmbgemaaGreatDoorZK22
import Derived.Test.YtmgbbndmmbgemaaGreatDoorZK1
import Derived.Test.YtmgbbndmmbgemaaGreatDoorZK19
set_option linter.unusedSimpArgs false
set_option linter.unusedVariables false
namespace Go.Proofs.YtmgbbndmmbgemaaGreatDoor
section
open Go.RowKit
namespace SM
open CM (nd kids)
theorem takeS_some (g:List Gi):∀ (l:List Int) (us u:List Bool),us.length=g.length→takeS g us l=some u →
  (∀ x∈l,exI g.length x=true∧(g.getD x.toNat ⟨0,0,⟨#[]⟩,[],[]⟩).kind≠8∧us.getD x.toNat false=false)∧(l.map Int.toNat).Nodup
 | [],_,_,_,_=>⟨by simp,by simp⟩
 | x :: l,us,u,hl,h=>by
  unfold takeS at h
  split at h
  ·rename_i hc
   obtain ⟨i1,i2⟩:=takeS_some g l _ u (by rw [List.length_set];exact hl) h
   have hx:=exI_iff.1 hc.1
   have key:∀ y∈l,y.toNat≠x.toNat∧us.getD y.toNat false=false:=fun y hy=>by
    have h3:=(i1 y hy).2.2
    rw [List.getD_eq_getElem?_getD,List.getElem?_set] at h3
    by_cases e:x.toNat=y.toNat
    ·rw [if_pos e,if_pos (by omega)] at h3
     cases h3
    ·rw [if_neg e] at h3
     exact ⟨fun e'=>e e'.symm,by rw [List.getD_eq_getElem?_getD];exact h3⟩
   refine ⟨fun y hy=>?_,?_⟩
   ·rcases List.mem_cons.1 hy with rfl | hy
    ·exact hc
    ·exact ⟨(i1 y hy).1,(i1 y hy).2.1,(key y hy).2⟩
   ·rw [List.map_cons,List.nodup_cons]
    refine ⟨fun hm=>?_,i2⟩
    obtain ⟨y,hy,e⟩:=List.mem_map.1 hm
    exact (key y hy).1 e
  ·cases h
theorem nameB_sz {s:ByteArray} (h:nameB s=true):s.size≤16∧s.size≠0:=by
 unfold nameB at h
 rw [Bool.and_eq_true] at h
 have h1:=h.1
 unfold nkB wholeB at h1
 rw [Bool.and_eq_true,Bool.and_eq_true,decide_eq_true_eq] at h1
 refine ⟨h1.1.1,fun e=>?_⟩
 have e0:s=⟨#[]⟩:=by
  obtain ⟨⟨l⟩⟩:=s
  have:l.length=0:=e
  rw [List.length_eq_zero_iff.1 this]
 subst e0
 have:smallC (chr ⟨#[]⟩ 0)=false:=by kernel_rfl
 rw [this] at h1
 exact absurd h1.1.2 (by decide)
theorem rest_eq {x:Gi} (h:restG x=⟨x.kind,0,⟨#[]⟩,[],[]⟩):(x.kind≠5→x.nm=⟨#[]⟩)∧(x.kind≠7→x.keys=[])∧(x.kind≠7→x.kind≠8→x.kind≠9→x.l=[])∧(x.kind≠9→x.num=0):=by
 unfold restG at h
 obtain ⟨kind,num,nm,keys,l⟩:=x
 simp only at h ⊢
 by_cases h5:kind=5
 ·subst h5
  rw [if_pos rfl] at h
  simp at h
  exact ⟨fun e=>absurd rfl e,fun _=>h.2.1,fun _ _ _=>h.2.2,fun _=>h.1⟩
 ·rw [if_neg h5] at h
  by_cases h7:kind=7
  ·subst h7
   rw [if_pos rfl] at h
   simp at h
   exact ⟨fun _=>h.2,fun e=>absurd rfl e,fun e=>absurd rfl e,fun _=>h.1⟩
  ·rw [if_neg h7] at h
   by_cases h8:kind=8
   ·subst h8
    rw [if_pos rfl] at h
    simp at h
    exact ⟨fun _=>h.2.1,fun _=>h.2.2,fun _ e=>absurd rfl e,fun _=>h.1⟩
   ·rw [if_neg h8] at h
    by_cases h9:kind=9
    ·subst h9
     rw [if_pos rfl] at h
     simp at h
     exact ⟨fun _=>h.1,fun _=>h.2,fun _ _ e=>absurd rfl e,fun e=>absurd rfl e⟩
    ·rw [if_neg h9] at h
     simp at h
     exact ⟨fun _=>h.2.1,fun _=>h.2.2.1,fun _ _ _=>h.2.2.2,fun _=>h.1⟩
theorem keyAt_at {l:List ByteArray} (h:keysOk l=true) {i:Nat} (hi:i<l.length):nameB (l.getD i ⟨#[]⟩)=true∧(0<i→Op.bytesLess (l.getD (i - 1) ⟨#[]⟩).toList (l.getD i ⟨#[]⟩).toList=true):=by
 unfold keysOk at h
 rw [Bool.and_eq_true,List.all_eq_true] at h
 have:=h.2 i (List.mem_range.2 hi)
 unfold keyAt at this
 rw [Bool.and_eq_true,Bool.or_eq_true] at this
 refine ⟨this.1,fun h0=>?_⟩
 rcases this.2 with e | e
 ·rw [beq_iff_eq] at e;omega
 ·exact e
theorem keys_less {l:List ByteArray} (h:keysOk l=true):∀ (d i:Nat),i+d+1<l.length→Op.bytesLess (l.getD i ⟨#[]⟩).toList (l.getD (i+d+1) ⟨#[]⟩).toList=true
 | 0,i,hi=>(keyAt_at h hi).2 (by omega)
 | d+1,i,hi=>bytesLess_trans _ _ _ (keys_less h d i (by omega)) ((keyAt_at h (i:=i+(d+1)+1) hi).2 (by omega))
theorem fine_of {g:List Gi} (h:checkG g=0):Fine g:=by
 unfold checkG at h
 by_cases hl:2000<g.length
 ·rw [if_pos hl] at h;cases h
 ·rw [if_neg hl] at h
  by_cases hv:g.all (validG g)=true
  ·clear h
   have hnd:∀ n,n<g.length→validG g (nd g n)=true:=fun n hn=>by
    refine List.all_eq_true.1 hv _ ?_
    unfold CM.nd
    rw [List.getD_eq_getElem?_getD,List.getElem?_eq_getElem hn]
    exact List.getElem_mem hn
   have hok:∀ n,n<g.length→okG g (nd g n)=true:=fun n hn=>by
    have:=hnd n hn;unfold validG at this;rw [Bool.and_eq_true] at this;exact this.1
   have hre:∀ n,n<g.length→restG (nd g n)=⟨(nd g n).kind,0,⟨#[]⟩,[],[]⟩:=fun n hn=>by
    have:=hnd n hn;unfold validG at this;rw [Bool.and_eq_true,decide_eq_true_eq] at this;exact this.2
   have k7:∀ n,n<g.length→(nd g n).kind=7→keysOk (nd g n).keys=true∧(nd g n).l.length=(nd g n).keys.length∧(nd g n).l.all (exI g.length)=true:=fun n hn e=>by
    have:=hok n hn
    unfold okG at this
    rw [if_neg (by omega),if_neg (by omega),if_pos e,Bool.and_eq_true,Bool.and_eq_true,decide_eq_true_eq] at this
    exact ⟨this.1.1,this.1.2,this.2⟩
   have k8:∀ n,n<g.length→(nd g n).kind=8→((∀ x∈(nd g n).l,exI g.length x=true∧(g.getD x.toNat ⟨0,0,⟨#[]⟩,[],[]⟩).kind≠8)∧((nd g n).l.map Int.toNat).Nodup)∧2≤(nd g n).l.length:=fun n hn e=>by
    have:=hok n hn
    unfold okG at this
    rw [if_neg (by omega),if_neg (by omega),if_neg (by omega),if_pos e] at this
    unfold membOk at this
    rw [Bool.and_eq_true,decide_eq_true_eq,Option.isSome_iff_exists] at this
    obtain ⟨⟨u,hu⟩,h2⟩:=this
    obtain ⟨i1,i2⟩:=takeS_some g _ _ u (by rw [List.length_replicate]) hu
    exact ⟨⟨fun x hx=>⟨(i1 x hx).1,(i1 x hx).2.1⟩,i2⟩,h2⟩
   have k9:∀ n,n<g.length→(nd g n).kind=9→(nd g n).l.length=1∧(nd g n).l.all (exI g.length)=true:=fun n hn e=>by
    have:=hok n hn
    unfold okG at this
    rw [if_neg (by omega),if_neg (by omega),if_neg (by omega),if_neg (by omega),if_pos e,Bool.and_eq_true,Bool.and_eq_true,decide_eq_true_eq,decide_eq_true_eq] at this
    exact ⟨this.1.2,this.2⟩
   have hkinds:∀ n,n<g.length→1≤(nd g n).kind∧(nd g n).kind≤9∧(nd g n).kind≠6:=fun n hn=>by
    have:=hok n hn
    unfold okG at this
    split at this
    ·omega
    ·split at this
     ·omega
     ·split at this
      ·omega
      ·split at this
       ·omega
       ·split at this
        ·omega
        ·cases this
   have hbare:∀ n,n<g.length→(nd g n).kind≤5→(nd g n).l=[]:=fun n hn h5=>(rest_eq (hre n hn)).2.2.1 (by omega) (by omega) (by omega)
   have hin:∀ n,n<g.length→∀ x∈(nd g n).l,exI g.length x=true:=fun n hn x hx=>by
    by_cases h7:(nd g n).kind=7
    ·exact List.all_eq_true.1 (k7 n hn h7).2.2 x hx
    ·by_cases h8:(nd g n).kind=8
     ·exact ((k8 n hn h8).1.1 x hx).1
     ·by_cases h9:(nd g n).kind=9
      ·exact List.all_eq_true.1 (k9 n hn h9).2 x hx
      ·rw [(rest_eq (hre n hn)).2.2.1 h7 h8 h9] at hx;cases hx
   have hkeys:∀ n,n<g.length→(nd g n).kind=7→∀ k∈(nd g n).keys,k.size≤16∧k.size≠0:=fun n hn h7 k hk=>by
    obtain ⟨i,hi⟩:=List.getElem?_of_mem hk
    have:=(keyAt_at (k7 n hn h7).1 (List.getElem?_eq_some_iff.1 hi).1).1
    rw [List.getD_eq_getElem?_getD,hi] at this
    exact nameB_sz this
   refine ⟨by omega,hkinds,fun n hn h8=>⟨(k8 n hn h8).1.2,by rw [kids_len];exact (k8 n hn h8).2,fun c hc=>?_⟩,fun n hn h9=>by rw [kids_len];exact (k9 n hn h9).1,
    fun n hn h7=>⟨(k7 n hn h7).2.1.symm,?_⟩,fun n hn h7 i j hij hj=>?_,fun n hn h7 k hk=>(hkeys n hn h7 k hk).2,fun n hn h7=>(rest_eq (hre n hn)).2.1 h7,fun n hn k hk=>?_,fun n hn c hc=>?_,fun n hn y hy=>(exI_iff.1 (hin n hn y hy)).1,hbare,fun n hn h5=>(rest_eq (hre n hn)).1 h5,fun n hn h9=>(rest_eq (hre n hn)).2.2.2 h9⟩
   ·obtain ⟨x,hx,rfl⟩:=List.mem_map.1 hc
    exact ((k8 n hn h8).1.1 x hx).2
   ·have:=(k7 n hn h7).1
    unfold keysOk at this
    rw [Bool.and_eq_true,decide_eq_true_eq] at this
    exact this.1
   ·obtain ⟨d,rfl⟩:∃ d,j=i+d+1:=⟨j - i - 1,by omega⟩
    exact keys_less (k7 n hn h7).1 d i hj
   ·by_cases h7:(nd g n).kind=7
    ·exact (hkeys n hn h7 k hk).1
    ·rw [(rest_eq (hre n hn)).2.1 h7] at hk;cases hk
   ·obtain ⟨x,hx,rfl⟩:=List.mem_map.1 hc
    have:=exI_iff.1 (hin n hn x hx)
    omega
  ·rw [if_neg hv] at h;cases h
end SM
end
section
open Go.RowKit
theorem keyB_szR {s:ByteArray} (h:keyB s=true):s.size≤16:=by
 unfold keyB at h
 have h1:s.data.toList∈keyL:=by simpa using h
 have h2:∀ l∈keyL,l.length≤16:=by decide
 have h3:=h2 _ h1
 rw [Array.length_toList] at h3
 exact h3
namespace SM
open CM (nd kids)
section
variable {g : List Gi} {st : Bool}
theorem does_in (hf:Fine g) {R:Rel} {s t:Nat} (hs:s<g.length) (ht:t<g.length) (h:Does g st R s t):Does g st (fun a b=>a<g.length∧b<g.length∧R a b) s t:=by
 unfold Does at h ⊢
 split
 ·rename_i hc;rwa [if_pos hc] at h
 ·rename_i hc
  rw [if_neg hc] at h
  refine ⟨h.1,?_⟩
  rcases h.2 with h2 | h2 | ⟨h9,hn,hr⟩ | ⟨h7,hfl⟩
  ·exact .inl h2
  ·exact .inr (.inl h2)
  ·exact .inr (.inr (.inl ⟨h9,hn,hf.bnd_lt hs h9,hf.bnd_lt ht (by omega),hr⟩))
  ·refine .inr (.inr (.inr ⟨h7,fun i hi=>?_⟩))
   obtain ⟨j,hj,e,hr⟩:=hfl i hi
   exact ⟨j,hj,e,hf.kid s hs _ (getD_mem (by rw [kids_len,← (hf.recd s hs h7).1];exact hj)),hf.kid t ht _ (getD_mem (by rw [kids_len,← (hf.recd t ht (by omega)).1];exact hi)),hr⟩
theorem holds_in (hf:Fine g) {R:Rel} {a b:Nat} (ha:a<g.length) (hb:b<g.length) (h:Holds g st R a b):Holds g st (fun a b=>a<g.length∧b<g.length∧R a b) a b:=fun s hs=>by
 have hsl:=hf.mem_lt ha hs
 rcases h s hs with ⟨t,ht,hd⟩ | ⟨h9,hr⟩
 ·exact .inl ⟨t,ht,does_in hf hsl (hf.mem_lt hb ht) hd⟩
 ·exact .inr ⟨h9,hf.bnd_lt hsl h9,hb,hr⟩
theorem greatest (hf:Fine g) {I:Nat→Nat→Bool} (hsup:∀ a b,a<g.length→b<g.length→Gr g st a b→I a b=true)
  (hfix:∀ a b,a<g.length→b<g.length→I a b=true→holdsB g st I a b=true) {a b:Nat} (ha:a<g.length) (hb:b<g.length):I a b=true↔Gr g st a b:=by
 refine ⟨fun h=>?_,hsup a b ha hb⟩
 refine ⟨fun a b=>a<g.length∧b<g.length∧I a b=true,fun a b r=>?_,ha,hb,h⟩
 exact holds_in hf r.1 r.2.1 (holdsB_iff.1 (hfix a b r.1 r.2.1 r.2.2))
theorem not_gr (hf:Fine g) {I:Nat→Nat→Bool} (hsup:∀ a b,a<g.length→b<g.length→Gr g st a b→I a b=true) {a b:Nat} (ha:a<g.length) (hb:b<g.length)
  (h:holdsB g st I a b=false):¬ Gr g st a b:=fun hg=>by
 have h1:=holds_in hf ha hb hg.holds
 have h2:holdsB g st I a b=true:=holdsB_iff.2 (h1.mono fun x y r=>hsup x y r.1 r.2.1 r.2.2)
 rw [h] at h2;cases h2
end
theorem texts_of {g:List Gi} (h:checkG g=0):Texts g:=fun x hx=>by
 obtain ⟨i,hi⟩:=List.getElem?_of_mem hx
 have hil:=(List.getElem?_eq_some_iff.1 hi).1
 have e:nd g i=x:=by unfold CM.nd;rw [List.getD_eq_getElem?_getD,hi];rfl
 have hf:=fine_of h
 have hv:validG g x=true:=by
  unfold checkG at h
  by_cases hl:2000<g.length
  ·rw [if_pos hl] at h;cases h
  ·rw [if_neg hl] at h
   by_cases hv:g.all (validG g)=true
   ·exact List.all_eq_true.1 hv x hx
   ·rw [if_neg hv] at h;cases h
 refine ⟨?_,fun s hs=>?_⟩
 ·by_cases h5:x.kind=5
  ·unfold validG okG at hv
   rw [Bool.and_eq_true,if_neg (by omega),if_pos h5,Bool.or_eq_true] at hv
   unfold maxLen
   rcases hv.1 with h1 | h1
   ·have:=(nameB_sz h1).1;omega
   ·have:=keyB_szR h1;omega
  ·have:=hf.name i hil (by rw [e];exact h5)
   rw [e] at this
   rw [this]
   exact Nat.zero_le _
 ·have:=hf.ksz i hil s (by rw [e];exact hs)
  unfold maxLen;omega
theorem short_of {g:List Gi} (h:Fine g):∀ x∈g,x.l.length≤1000000000000:=fun x hx=>by
 obtain ⟨i,hi⟩:=List.getElem?_of_mem hx
 have hil:=(List.getElem?_eq_some_iff.1 hi).1
 have e:nd g i=x:=by unfold CM.nd;rw [List.getD_eq_getElem?_getD,hi];rfl
 obtain ⟨k1,k2,k3⟩:=h.kind i hil
 rw [e] at k1 k2 k3
 have hlen:=h.len
 by_cases h5:x.kind≤5
 ·have:=h.bare i hil (by rw [e];exact h5)
  rw [e] at this;rw [this];simp
 ·by_cases h7:x.kind=7
  ·have:=h.recd i hil (by rw [e];exact h7)
   rw [e] at this;omega
  ·by_cases h9:x.kind=9
   ·have:=h.var i hil (by rw [e];exact h9)
    rw [e,kids_len] at this;omega
   ·obtain ⟨hn,_,_⟩:=h.uni i hil (by rw [e];omega)
    have hs:(kids (nd g i)).length≤(List.range g.length).length:=nodup_sub_len hn (m:=List.range g.length) fun c hc=>List.mem_range.2 (h.kid i hil c hc)
    rw [e,kids_len,List.length_range] at hs
    omega
def sumP (n:Nat) (F:Nat→Nat→Bool):Nat:=((List.range n).map fun a=>((List.range n).map fun b=>(F a b).toNat).sum).sum
theorem sum_le {f g:Nat→Nat}:∀ {l:List Nat},(∀ x∈l,f x≤g x)→(l.map f).sum≤(l.map g).sum
 | [],_=>Nat.le_refl _
 | x :: l,h=>by
  rw [List.map_cons,List.map_cons,List.sum_cons,List.sum_cons]
  exact Nat.add_le_add (h x (List.mem_cons_self ..)) (sum_le fun y hy=>h y (List.mem_cons_of_mem _ hy))
theorem sum_lt {f g:Nat→Nat}:∀ {l:List Nat} {z:Nat},(∀ x∈l,f x≤g x)→z∈l→f z<g z→(l.map f).sum<(l.map g).sum
 | [],_,_,hz,_=>by cases hz
 | x :: l,z,h,hz,hlt=>by
  rw [List.map_cons,List.map_cons,List.sum_cons,List.sum_cons]
  rcases List.mem_cons.1 hz with rfl | hz
  ·exact Nat.add_lt_add_of_lt_of_le hlt (sum_le fun y hy=>h y (List.mem_cons_of_mem _ hy))
  ·exact Nat.add_lt_add_of_le_of_lt (h x (List.mem_cons_self ..)) (sum_lt (fun y hy=>h y (List.mem_cons_of_mem _ hy)) hz hlt)
theorem sumP_drop {n:Nat} {F:Nat→Nat→Bool} {a b:Nat} (ha:a<n) (hb:b<n) (h:F a b=true):sumP n (fun x y=>if x=a∧y=b then false else F x y)<sumP n F:=by
 unfold sumP
 refine sum_lt (z:=a) (fun x _=>sum_le fun y _=>?_) (List.mem_range.2 ha) (sum_lt (z:=b) (fun y _=>?_) (List.mem_range.2 hb) ?_)
 ·dsimp only
  by_cases e:x=a∧y=b
  ·rw [if_pos e];exact Nat.zero_le _
  ·rw [if_neg e];exact Nat.le_refl _
 ·dsimp only
  by_cases e:a=a∧y=b
  ·rw [if_pos e];exact Nat.zero_le _
  ·rw [if_neg e];exact Nat.le_refl _
 ·dsimp only
  rw [if_pos ⟨rfl,rfl⟩,h];decide
end SM
end
section
open Go.RowKit
namespace SM
open CM (nd kids)
structure Pass (g:List Gi) (st:Bool) (n:Nat) (I:Nat→Nat→Bool) (more:Bool) (c0 a b:Nat):Prop where
 sup:∀ x y,x<n→y<n→Gr g st x y→I x y=true
 cnt:more=true→sumP n I<c0
 cnt0:sumP n I≤c0
 bef:more=false→∀ x y,x<n→y<n→(x<a∨(x=a∧y<b))→I x y=true→holdsB g st I x y=true
section
variable {g : List Gi} {st : Bool} {n : Nat} {I : Nat → Nat → Bool} {more : Bool} {c0 a b : Nat}
theorem Pass.skip (h:Pass g st n I more c0 a b) (hk:I a b=true→holdsB g st I a b=true):Pass g st n I more c0 a (b+1):=by
 refine ⟨h.sup,h.cnt,h.cnt0,fun hm x y hx hy ho hI=>?_⟩
 by_cases e:x=a∧y=b
 ·obtain ⟨rfl,rfl⟩:=e;exact hk hI
 ·exact h.bef hm x y hx hy (by omega) hI
theorem Pass.drop (h:Pass g st n I more c0 a b) (hf:Fine g) (hn:g.length=n) (ha:a<n) (hb:b<n) (hI:I a b=true) (hk:holdsB g st I a b=false) :
  Pass g st n (fun x y=>if x=a∧y=b then false else I x y) true c0 a (b+1):=by
 subst hn
 have hlt:=sumP_drop ha hb hI
 have hc:=h.cnt0
 refine ⟨fun x y hx hy hg=>?_,fun _=>by omega,by omega,fun hm=>by cases hm⟩
 by_cases e:x=a∧y=b
 ·obtain ⟨rfl,rfl⟩:=e
  exact absurd hg (not_gr hf h.sup hx hy hk)
 ·rw [if_neg e];exact h.sup x y hx hy hg
theorem Pass.row (h:Pass g st n I more c0 a n):Pass g st n I more c0 (a+1) 0:=
 ⟨h.sup,h.cnt,h.cnt0,fun hm x y hx hy ho hI=>h.bef hm x y hx hy (by omega) hI⟩
theorem Pass.fin (h:Pass g st n I false c0 n 0):∀ x y,x<n→y<n→I x y=true→holdsB g st I x y=true:=fun x y hx hy hI=>h.bef rfl x y hx hy (.inl hx) hI
end
def readB (w:World) (q x:Nat):Bool:=match w.cell? ⟨q,x,none⟩ with | some (.bool b)=>b | _=>false
theorem sumP_congr {n:Nat} {F G:Nat→Nat→Bool} (h:∀ x y,x<n→y<n→F x y=G x y):sumP n F=sumP n G:=by
 unfold sumP
 refine Nat.le_antisymm (sum_le fun x hx=>sum_le fun y hy=>?_) (sum_le fun x hx=>sum_le fun y hy=>?_)
 ·rw [h x y (List.mem_range.1 hx) (List.mem_range.1 hy)];exact Nat.le_refl _
 ·rw [h x y (List.mem_range.1 hx) (List.mem_range.1 hy)];exact Nat.le_refl _
end SM
end
end Go.Proofs.YtmgbbndmmbgemaaGreatDoor
