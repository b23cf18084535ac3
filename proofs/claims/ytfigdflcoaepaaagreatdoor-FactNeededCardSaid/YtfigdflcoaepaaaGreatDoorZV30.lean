/- Contracts and plain facts that the theorem rests on: THeld, HHeld, FChain, SAlw, KShort. -/
import Derived.Test.YtfigdflcoaepaaaGreatDoorZV0
import Derived.OrdersHeld
import Derived.StillTail
import Derived.RegionTactic
set_option linter.unusedSimpArgs false
set_option linter.unusedVariables false
namespace Go.Proofs.YtfigdflcoaepaaaGreatDoor
section
open Go.RowKit
section
variable {P : Program} {ops : Array Oper} {Q : Exit → Act → World → Prop} {md : Region.Mode} {S : World → Prop} {k : Nat}
def wpAnyK (P:Program)(md:Region.Mode)(ops:Array Oper)(Q:Exit→Act→World→Prop)(S:World→Prop)(k:Nat):Nat→Array Bool→Act→World→Prop
 | 0,listed,a,w=>Region.ready md ops listed=[]∧Q .normal a w
 | n+1,listed,a,w=>(Region.ready md ops listed=[]→Q .normal a w) ∧
  ∀ i∈Region.ready md ops listed,wpOp P ops Q i (fun b u=>((listed.setIfInBounds i true).getD k false=false→S u)∧wpAnyK P md ops Q S k n (listed.setIfInBounds i true) b u) a w
theorem any_of_K:∀(n:Nat) (listed:Array Bool) (a:Act) (w:World),wpAnyK P md ops Q S k n listed a w→wpAny P md ops Q n listed a w
 | 0,_,_,_,h=>h
 | n+1,_,_,_,h=>⟨h.1,fun i hi=>wpOp_mono (fun b u hb=>any_of_K n _ b u hb.2) (h.2 i hi)⟩
theorem not_k {i j:Nat}{listed:Array Bool}(hk:Region.waitsFor md ops k i=true)(hi:i∈Region.ready md ops listed)(hj:j∈Region.ready md ops listed):j≠k:=by
 rintro rfl;obtain⟨ok,hok,e,he,hb,hon⟩:=Region.waitsFor_spec hk;obtain⟨_,o,ho,hall⟩:=mem_ready.1 hj;obtain rfl:o=ok:=Option.some.inj (ho.symm.trans hok);have h1:=hall e he hb;rw[hon,getD_both (mem_ready.1 hi).1] at h1;cases h1
theorem K_first {i:Nat}{oi:Oper}{v:Value}(hi:ops[i]? = some oi)(hsel:∀(j:Nat) (o:Oper) cs b,ops[j]? = some o→o.op ≠ .select cs b)
  (hQ:∀ c a w,Q (.panic c) (a.put oi.dst v) w→Q (.panic c) a w)(hk:Region.waitsFor md ops k i=true)(n:Nat) :
  ∀(listed:Array Bool) (a:Act) (w:World),
   (∀ j oj,ops[j]? = some oj→j≠i→listed.getD j true=false→(∀ e∈oj.after,Region.binds md e=true→e.on≠i)→oi.apart ops oj=true) →
   i∈Region.ready md ops listed→listed.getD k false=false→YieldsIf P ops S oi v a→S w →
   wpAnyK P md ops Q S k n (listed.setIfInBounds i true) (a.put oi.dst v) w→wpAnyK P md ops Q S k (n+1) listed a w:=by
 induction n with
 | zero =>
  intro listed a w _ hr _ hy hS H;refine⟨fun h0=>absurd hr (by rw[h0];exact List.not_mem_nil),fun j hj=>?_⟩
  rcases Decidable.em (j=i) with rfl | hne
  ·exact hy.wpOp hi hS ⟨fun _=>hS,H⟩
  ·exact absurd (ready_mono hj hne) (by rw[H.1];exact List.not_mem_nil)
 | succ n ih =>
  intro listed a w hf hr hu hy hS H;refine⟨fun h0=>absurd hr (by rw[h0];exact List.not_mem_nil),fun j hj=>?_⟩
  rcases Decidable.em (j=i) with rfl | hne
  ·exact hy.wpOp hi hS ⟨fun _=>hS,H⟩
  ·have hjk:=not_k hk hr hj;have hik:=not_k hk hr hr;obtain⟨hj0,oj,hoj,hall⟩:=mem_ready.1 hj;have hw:∀ e∈oj.after,Region.binds md e=true→e.on≠i:=by
    intro e he hb hon;have h1:=hall e he hb;rw[hon,getD_both (mem_ready.1 hr).1] at h1;cases h1
   have hu2:(listed.setIfInBounds j true).getD k false=false:=by rw[getD_set_ne false hjk];exact hu
   have hu3:((listed.setIfInBounds i true).setIfInBounds j true).getD k false=false:=by rw[getD_set_ne false hjk,getD_set_ne false hik];exact hu
   have h2:=wpOp_putIf hoj (hf j oj hoj hne hj0 hw) (fun cs b=>hsel i oi cs b hi) (fun cs b=>hsel j oj cs b hoj) hQ hy (H.2 j (ready_mono hj hne))
   refine wpOp_mono (fun b u hb=>⟨fun _=>hb.2.1 hu3,ih (listed.setIfInBounds j true) b u ?_ (ready_mono hr (Ne.symm hne)) hu2 hb.1 (hb.2.1 hu3) ?_⟩) h2
   ·intro m om hm hmi hm0 hmw;refine hf m om hm hmi ?_ hmw;rcases Decidable.em (j=m) with rfl | hjm
    ·exact hj0
    ·rw[getD_set_ne true hjm] at hm0;exact hm0
   ·rw[Array.setIfInBounds_comm _ _ hne];exact hb.2.2
theorem K_take {i:Nat}{oi:Oper}{v:Value}{n:Nat}{listed:Array Bool}{a:Act}{w:World}(hi:ops[i]? = some oi)(hs:Region.noSelect ops=true)(hf:Region.free md ops listed i=true)
  (hr:(Region.ready md ops listed).contains i=true)(hk:Region.waitsFor md ops k i=true)(hu:listed.getD k false=false)
  (hQ:∀ c a w,Q (.panic c) (a.put oi.dst v) w→Q (.panic c) a w)(hS:S w)(hw:Region.wanted oi (yielded ops a.tmps)=true)(hy:∀ u,S u→(execOp a.eval oi).run P u=.ok (.value v) u)
  (h:wpAnyK P md ops Q S k n (listed.setIfInBounds i true) (a.put oi.dst v) w):wpAnyK P md ops Q S k (n+1) listed a w:=
 K_first hi (Region.noSelect_spec hs) hQ hk n listed a w (Region.free_spec hi hf) (by simpa using hr) hu (.inl ⟨hw,hy⟩) hS h
theorem K_free {i:Nat}{oi:Oper}{v:Value}(hi:ops[i]? = some oi)(hsel:∀(j:Nat) (o:Oper) cs b,ops[j]? = some o→o.op ≠ .select cs b)
  (hQ:∀ c a w,Q (.panic c) (a.put oi.dst v) w→Q (.panic c) a w)(hik:i≠k)(n:Nat) :
  ∀(listed:Array Bool) (a:Act) (w:World),
   (∀ j oj,ops[j]? = some oj→j≠i→listed.getD j true=false→(∀ e∈oj.after,Region.binds md e=true→e.on≠i)→oi.apart ops oj=true) →
   i∈Region.ready md ops listed→(listed.getD k false=false→S w)→YieldsIf P ops (fun _=>True) oi v a →
   wpAnyK P md ops Q S k n (listed.setIfInBounds i true) (a.put oi.dst v) w→wpAnyK P md ops Q S k (n+1) listed a w:=by
 induction n with
 | zero =>
  intro listed a w _ hr hS hy H;refine⟨fun h0=>absurd hr (by rw[h0];exact List.not_mem_nil),fun j hj=>?_⟩
  rcases Decidable.em (j=i) with rfl | hne
  ·exact hy.wpOp hi trivial ⟨fun h=>hS (by rw[getD_set_ne false hik] at h;exact h),H⟩
  ·exact absurd (ready_mono hj hne) (by rw[H.1];exact List.not_mem_nil)
 | succ n ih =>
  intro listed a w hf hr hS hy H;refine⟨fun h0=>absurd hr (by rw[h0];exact List.not_mem_nil),fun j hj=>?_⟩
  rcases Decidable.em (j=i) with rfl | hne
  ·exact hy.wpOp hi trivial ⟨fun h=>hS (by rw[getD_set_ne false hik] at h;exact h),H⟩
  ·obtain⟨hj0,oj,hoj,hall⟩:=mem_ready.1 hj;have hw:∀ e∈oj.after,Region.binds md e=true→e.on≠i:=by
    intro e he hb hon;have h1:=hall e he hb;rw[hon,getD_both (mem_ready.1 hr).1] at h1;cases h1
   have hu:(listed.setIfInBounds j true).getD k false=false→((listed.setIfInBounds i true).setIfInBounds j true).getD k false=false:=by
    intro h;rw[Array.setIfInBounds_comm _ _ (Ne.symm hne),getD_set_ne false hik];exact h
   have h2:=wpOp_putIf hoj (hf j oj hoj hne hj0 hw) (fun cs b=>hsel i oi cs b hi) (fun cs b=>hsel j oj cs b hoj) hQ hy (H.2 j (ready_mono hj hne))
   refine wpOp_mono (fun b u hb=>⟨fun h=>hb.2.1 (hu h),ih (listed.setIfInBounds j true) b u ?_ (ready_mono hr (Ne.symm hne)) (fun h=>hb.2.1 (hu h)) hb.1 ?_⟩) h2
   ·intro m om hm hmi hm0 hmw;refine hf m om hm hmi ?_ hmw;rcases Decidable.em (j=m) with rfl | hjm
    ·exact hj0
    ·rw[getD_set_ne true hjm] at hm0;exact hm0
   ·rw[Array.setIfInBounds_comm _ _ hne];exact hb.2.2
theorem K_pure {i:Nat}{oi:Oper}{v:Value}{n:Nat}{listed:Array Bool}{a:Act}{w:World}(hi:ops[i]? = some oi)(hs:Region.noSelect ops=true)(hf:Region.free md ops listed i=true)
  (hr:(Region.ready md ops listed).contains i=true)(hik:i≠k)
  (hQ:∀ c a w,Q (.panic c) (a.put oi.dst v) w→Q (.panic c) a w)(hS:listed.getD k false=false→S w)(hw:Region.wanted oi (yielded ops a.tmps)=true)(hy:∀ u,(execOp a.eval oi).run P u=.ok (.value v) u)
  (h:wpAnyK P md ops Q S k n (listed.setIfInBounds i true) (a.put oi.dst v) w):wpAnyK P md ops Q S k (n+1) listed a w:=
 K_free hi (Region.noSelect_spec hs) hQ hik n listed a w (Region.free_spec hi hf) (by simpa using hr) hS (.inl ⟨hw,fun u _=>hy u⟩) h
theorem K_one {i:Nat}{o:Oper}{n:Nat}{listed:Array Bool}{a:Act}{w:World}(hr:Region.ready md ops listed=[i])(ho:ops[i]? = some o)
  (h:∀ K:Act→World→Prop,(∀ b u,((listed.setIfInBounds i true).getD k false=false→S u)→wpAnyK P md ops Q S k n (listed.setIfInBounds i true) b u→K b u) →
   if Region.wanted o (yielded ops a.tmps)=true then Oper.wp P o a w K Q else K (a.put o.dst undef) w):wpAnyK P md ops Q S k (n+1) listed a w:=by
 refine⟨fun h0=>absurd (hr.symm.trans h0) (by simp),fun j hj=>?_⟩
 rw[hr,List.mem_singleton] at hj;subst hj;exact wpOp_step ho fun K hK=>h K fun b u h1 h2=>hK b u ⟨h1,h2⟩
theorem K_done {n:Nat}{listed:Array Bool}{a:Act}{w:World}(hr:Region.ready md ops listed=[])(h:Q .normal a w):wpAnyK P md ops Q S k n listed a w:=by
 cases n with
 | zero=>exact⟨hr,h⟩
 | succ n=>exact⟨fun _=>h,fun i hi=>absurd hi (by rw[hr];exact List.not_mem_nil)⟩
theorem K_start {id:Nat}{a:Act}{w:World}(k:Nat)(S:World→Prop)(hm:P.follows .mixedOrders=true)
  (h:wpAnyK P .any ops Q S k ops.size (Array.replicate ops.size false) a w.drew):(Code.region id ops true).wp P Q a w:=
 wp_region_any hm (any_of_K _ _ _ _ h)
end
end
section
open Go.RowKit
section
variable {P : Program} {ops : Array Oper} {Q : Exit → Act → World → Prop} {md : Region.Mode} {S : World → Prop} {k m : Nat}
theorem not_k2 {j:Nat}{listed:Array Bool}(hk:Region.waitsFor md ops k m=true)(hm:listed.getD m true=false)(hj:j∈Region.ready md ops listed):j≠k:=by
 rintro rfl;obtain⟨ok,hok,e,he,hb,hon⟩:=Region.waitsFor_spec hk;obtain⟨_,o,ho,hall⟩:=mem_ready.1 hj;obtain rfl:o=ok:=Option.some.inj (ho.symm.trans hok);have h1:=hall e he hb;rw[hon,getD_both hm] at h1;cases h1
end
end
section
open Go.RowKit
section
variable {P : Program} {ops : Array Oper} {Q : Exit → Act → World → Prop} {md : Region.Mode} {S : World → Prop} {k : Nat}
def chainK (md:Region.Mode)(ops:Array Oper)(i:Nat):List Nat→Bool
 | []=>true
 | [m]=>Region.waitsFor md ops m i
 | m::m'::ms=>Region.waitsFor md ops m m'&&chainK md ops i (m'::ms)
def openK (listed:Array Bool)(l:List Nat):Bool:=l.all fun m => !listed.getD m true
theorem not_chain {listed:Array Bool}{i j:Nat}(hi:listed.getD i true=false)(hj:j∈Region.ready md ops listed):∀(l:List Nat),chainK md ops i l=true→openK listed l=true→∀ x∈l,j≠x
 | [],_,_,x,hx=>by cases hx
 | [m],hc,_,x,hx=>by
  rw[List.mem_singleton] at hx;subst hx;exact not_k2 hc hi hj
 | m::m'::ms,hc,ho,x,hx=>by
  unfold chainK at hc;rw[Bool.and_eq_true] at hc;unfold openK at ho;rw[List.all_cons,Bool.and_eq_true] at ho;rcases List.mem_cons.1 hx with rfl | hx
  ·have h1:=ho.2;rw[List.all_cons,Bool.and_eq_true] at h1;exact not_k2 hc.1 (by simpa using h1.1) hj
  ·exact not_chain hi hj (m'::ms) hc.2 ho.2 x hx
theorem open_set {listed:Array Bool}{j:Nat}{l:List Nat}(ho:openK listed l=true)(hj:∀ x∈l,j≠x):openK (listed.setIfInBounds j true) l=true:=by
 unfold openK at ho ⊢;rw[List.all_eq_true] at ho ⊢;intro x hx;rw[getD_set_ne true (hj x hx)];exact ho x hx
theorem K_firstN {i:Nat}{oi:Oper}{v:Value}{ms:List Nat}(hi:ops[i]? = some oi)(hsel:∀(j:Nat) (o:Oper) cs b,ops[j]? = some o→o.op ≠ .select cs b)
  (hQ:∀ c a w,Q (.panic c) (a.put oi.dst v) w→Q (.panic c) a w)(hc:chainK md ops i (k::ms)=true)(hne:∀ x∈k::ms,i≠x)(n:Nat) :
  ∀(listed:Array Bool) (a:Act) (w:World),
   (∀ j oj,ops[j]? = some oj→j≠i→listed.getD j true=false→(∀ e∈oj.after,Region.binds md e=true→e.on≠i)→oi.apart ops oj=true) →
   i∈Region.ready md ops listed→openK listed (k::ms)=true→listed.getD k false=false→YieldsIf P ops S oi v a→S w →
   wpAnyK P md ops Q S k n (listed.setIfInBounds i true) (a.put oi.dst v) w→wpAnyK P md ops Q S k (n+1) listed a w:=by
 induction n with
 | zero =>
  intro listed a w _ hr _ _ hy hS H;refine⟨fun h0=>absurd hr (by rw[h0];exact List.not_mem_nil),fun j hj=>?_⟩
  rcases Decidable.em (j=i) with rfl | hne
  ·exact hy.wpOp hi hS ⟨fun _=>hS,H⟩
  ·exact absurd (ready_mono hj hne) (by rw[H.1];exact List.not_mem_nil)
 | succ n ih =>
  intro listed a w hf hr ho hu hy hS H;refine⟨fun h0=>absurd hr (by rw[h0];exact List.not_mem_nil),fun j hj=>?_⟩
  rcases Decidable.em (j=i) with rfl | hji
  ·exact hy.wpOp hi hS ⟨fun _=>hS,H⟩
  ·have hil:listed.getD i true=false:=(mem_ready.1 hr).1;have hjs:=not_chain hil hj (k::ms) hc ho;have hjk:j≠k:=hjs k (List.mem_cons_self ..);have hik:i≠k:=hne k (List.mem_cons_self ..);obtain⟨hj0,oj,hoj,hall⟩:=mem_ready.1 hj;have hw:∀ e∈oj.after,Region.binds md e=true→e.on≠i:=by
    intro e he hb hon;have h1:=hall e he hb;rw[hon,getD_both hil] at h1;cases h1
   have hu2:(listed.setIfInBounds j true).getD k false=false:=by rw[getD_set_ne false hjk];exact hu
   have hu3:((listed.setIfInBounds i true).setIfInBounds j true).getD k false=false:=by rw[getD_set_ne false hjk,getD_set_ne false hik];exact hu
   have h2:=wpOp_putIf hoj (hf j oj hoj hji hj0 hw) (fun cs b=>hsel i oi cs b hi) (fun cs b=>hsel j oj cs b hoj) hQ hy (H.2 j (ready_mono hj hji))
   refine wpOp_mono (fun b u hb=>⟨fun _=>hb.2.1 hu3,ih (listed.setIfInBounds j true) b u ?_ (ready_mono hr (Ne.symm hji)) (open_set ho hjs) hu2 hb.1 (hb.2.1 hu3) ?_⟩) h2
   ·intro m om hm hmi hm0 hmw;refine hf m om hm hmi ?_ hmw;rcases Decidable.em (j=m) with rfl | hjm
    ·exact hj0
    ·rw[getD_set_ne true hjm] at hm0;exact hm0
   ·rw[Array.setIfInBounds_comm _ _ hji];exact hb.2.2
theorem K_takeN {i:Nat}(ms:List Nat){oi:Oper}{v:Value}{n:Nat}{listed:Array Bool}{a:Act}{w:World}(hi:ops[i]? = some oi)(hs:Region.noSelect ops=true)(hf:Region.free md ops listed i=true)
  (hr:(Region.ready md ops listed).contains i=true)(hc:chainK md ops i (k::ms)=true)(hne:(k::ms).all (fun x=>decide (i≠x))=true)(ho:openK listed (k::ms)=true)(hu:listed.getD k false=false)
  (hQ:∀ c a w,Q (.panic c) (a.put oi.dst v) w→Q (.panic c) a w)(hS:S w)(hw:Region.wanted oi (yielded ops a.tmps)=true)(hy:∀ u,S u→(execOp a.eval oi).run P u=.ok (.value v) u)
  (h:wpAnyK P md ops Q S k n (listed.setIfInBounds i true) (a.put oi.dst v) w):wpAnyK P md ops Q S k (n+1) listed a w:=
 K_firstN hi (Region.noSelect_spec hs) hQ hc (fun x hx=>of_decide_eq_true (List.all_eq_true.1 hne x hx)) n listed a w (Region.free_spec hi hf) (by simpa using hr) ho hu (.inl ⟨hw,hy⟩) hS h
end
end
section
open Go.RowKit
section
variable {P : Program} {ops : Array Oper} {Q : Exit → Act → World → Prop} {md : Region.Mode} {S : World → Prop} {k : Nat}
theorem ready_ne {j:Nat}{listed:Array Bool}(hk:ops.size≤k)(hj:j∈Region.ready md ops listed):j≠k:=by
 obtain⟨_,o,ho,_⟩:=mem_ready.1 hj;have:=(Array.getElem?_eq_some_iff.1 ho).1;omega
theorem K_firstA {i:Nat}{oi:Oper}{v:Value}(hi:ops[i]? = some oi)(hsel:∀(j:Nat) (o:Oper) cs b,ops[j]? = some o→o.op ≠ .select cs b)
  (hQ:∀ c a w,Q (.panic c) (a.put oi.dst v) w→Q (.panic c) a w)(hk:ops.size≤k)(n:Nat) :
  ∀(listed:Array Bool) (a:Act) (w:World),
   (∀ j oj,ops[j]? = some oj→j≠i→listed.getD j true=false→(∀ e∈oj.after,Region.binds md e=true→e.on≠i)→oi.apart ops oj=true) →
   i∈Region.ready md ops listed→listed.getD k false=false→YieldsIf P ops S oi v a→S w →
   wpAnyK P md ops Q S k n (listed.setIfInBounds i true) (a.put oi.dst v) w→wpAnyK P md ops Q S k (n+1) listed a w:=by
 induction n with
 | zero =>
  intro listed a w _ hr _ hy hS H;refine⟨fun h0=>absurd hr (by rw[h0];exact List.not_mem_nil),fun j hj=>?_⟩
  rcases Decidable.em (j=i) with rfl | hne
  ·exact hy.wpOp hi hS ⟨fun _=>hS,H⟩
  ·exact absurd (ready_mono hj hne) (by rw[H.1];exact List.not_mem_nil)
 | succ n ih =>
  intro listed a w hf hr hu hy hS H;refine⟨fun h0=>absurd hr (by rw[h0];exact List.not_mem_nil),fun j hj=>?_⟩
  rcases Decidable.em (j=i) with rfl | hne
  ·exact hy.wpOp hi hS ⟨fun _=>hS,H⟩
  ·have hjk:j≠k:=ready_ne hk hj;have hik:i≠k:=ready_ne hk hr;obtain⟨hj0,oj,hoj,hall⟩:=mem_ready.1 hj;have hw:∀ e∈oj.after,Region.binds md e=true→e.on≠i:=by
    intro e he hb hon;have h1:=hall e he hb;rw[hon,getD_both (mem_ready.1 hr).1] at h1;cases h1
   have hu2:(listed.setIfInBounds j true).getD k false=false:=by rw[getD_set_ne false hjk];exact hu
   have hu3:((listed.setIfInBounds i true).setIfInBounds j true).getD k false=false:=by rw[getD_set_ne false hjk,getD_set_ne false hik];exact hu
   have h2:=wpOp_putIf hoj (hf j oj hoj hne hj0 hw) (fun cs b=>hsel i oi cs b hi) (fun cs b=>hsel j oj cs b hoj) hQ hy (H.2 j (ready_mono hj hne))
   refine wpOp_mono (fun b u hb=>⟨fun _=>hb.2.1 hu3,ih (listed.setIfInBounds j true) b u ?_ (ready_mono hr (Ne.symm hne)) hu2 hb.1 (hb.2.1 hu3) ?_⟩) h2
   ·intro m om hm hmi hm0 hmw;refine hf m om hm hmi ?_ hmw;rcases Decidable.em (j=m) with rfl | hjm
    ·exact hj0
    ·rw[getD_set_ne true hjm] at hm0;exact hm0
   ·rw[Array.setIfInBounds_comm _ _ hne];exact hb.2.2
theorem K_takeA {i:Nat}{oi:Oper}{v:Value}{n:Nat}{listed:Array Bool}{a:Act}{w:World}(hi:ops[i]? = some oi)(hs:Region.noSelect ops=true)(hf:Region.free md ops listed i=true)
  (hr:(Region.ready md ops listed).contains i=true)(hk:ops.size≤k)(hu:listed.getD k false=false)
  (hQ:∀ c a w,Q (.panic c) (a.put oi.dst v) w→Q (.panic c) a w)(hS:S w)(hw:Region.wanted oi (yielded ops a.tmps)=true)(hy:∀ u,S u→(execOp a.eval oi).run P u=.ok (.value v) u)
  (h:wpAnyK P md ops Q S k n (listed.setIfInBounds i true) (a.put oi.dst v) w):wpAnyK P md ops Q S k (n+1) listed a w:=
 K_firstA hi (Region.noSelect_spec hs) hQ hk n listed a w (Region.free_spec hi hf) (by simpa using hr) hu (.inl ⟨hw,hy⟩) hS h
theorem K_skipA {i:Nat}{oi:Oper}{n:Nat}{listed:Array Bool}{a:Act}{w:World}(hi:ops[i]? = some oi)(hs:Region.noSelect ops=true)(hf:Region.free md ops listed i=true)
  (hr:(Region.ready md ops listed).contains i=true)(hk:ops.size≤k)(hu:listed.getD k false=false)
  (hQ:∀ c a w,Q (.panic c) (a.put oi.dst undef) w→Q (.panic c) a w)(hS:S w)(hw:Region.wanted oi (yielded ops a.tmps)=false)
  (h:wpAnyK P md ops Q S k n (listed.setIfInBounds i true) (a.put oi.dst undef) w):wpAnyK P md ops Q S k (n+1) listed a w:=
 K_firstA hi (Region.noSelect_spec hs) hQ hk n listed a w (Region.free_spec hi hf) (by simpa using hr) hu (.inr ⟨hw,rfl⟩) hS h
end
end
section
open Go.RowKit
section
variable {P : Program} {ops : Array Oper} {Q : Exit → Act → World → Prop} {md : Region.Mode} {S : World → Prop} {k : Nat}
theorem Kp (i:Nat){oi:Oper}{v:Value}{n:Nat}{l:Array Bool}{a a2:Act}{w:World}(hS:l.getD k false=false→S w)
  (h:wpAnyK P md ops Q S k n (l.setIfInBounds i true) a2 w)
  (hi:ops[i]? = some oi:=by simp only[List.getElem?_toArray,List.getElem?_cons_succ,List.getElem?_cons_zero];exact rfl)
  (hs:Region.noSelect ops=true:=by kernel_rfl)(hf:Region.free md ops l i=true:=by kernel_rfl)
  (hr:(Region.ready md ops l).contains i=true:=by kernel_rfl)(hik:i≠k:=by decide)
  (hQ:∀ c a w,Q (.panic c) (Act.put a oi.dst v) w→Q (.panic c) a w:=by exact fun _ _ _ h=>h)(hw:Region.wanted oi (yielded ops a.tmps)=true:=by rfl)
  (hy:∀ u,(execOp a.eval oi).run P u=.ok (.value v) u:=by intro uu;go_simp;try with_reducible rfl)
  (ha:a.put oi.dst v=a2:=by simp only[Act.put,List.setIfInBounds_toArray,List.set_cons_zero,List.set_cons_succ];exact rfl):wpAnyK P md ops Q S k (n+1) l a w:=
 K_pure hi hs hf hr hik hQ hS hw hy (by rw[ha];exact h)
theorem Kt (i:Nat){oi:Oper}{v:Value}{n:Nat}{l:Array Bool}{a a2:Act}{w:World}(hi:ops[i]? = some oi:=by simp only[List.getElem?_toArray,List.getElem?_cons_succ,List.getElem?_cons_zero];exact rfl)(hS:S w)(hy:∀ u,S u→(execOp a.eval oi).run P u=.ok (.value v) u)
  (h:wpAnyK P md ops Q S k n (l.setIfInBounds i true) a2 w)
  (hs:Region.noSelect ops=true:=by kernel_rfl)(hf:Region.free md ops l i=true:=by kernel_rfl)
  (hr:(Region.ready md ops l).contains i=true:=by kernel_rfl)(hk:Region.waitsFor md ops k i=true:=by kernel_rfl)(hu:l.getD k false=false:=by kernel_rfl)
  (hQ:∀ c a w,Q (.panic c) (Act.put a oi.dst v) w→Q (.panic c) a w:=by exact fun _ _ _ h=>h)(hw:Region.wanted oi (yielded ops a.tmps)=true:=by rfl)
  (ha:a.put oi.dst v=a2:=by simp only[Act.put,List.setIfInBounds_toArray,List.set_cons_zero,List.set_cons_succ];exact rfl):wpAnyK P md ops Q S k (n+1) l a w:=
 K_take hi hs hf hr hk hu hQ hS hw hy (by rw[ha];exact h)
theorem Ka (i:Nat){oi:Oper}{v:Value}{n:Nat}{l:Array Bool}{a a2:Act}{w:World}(hi:ops[i]? = some oi:=by simp only[List.getElem?_toArray,List.getElem?_cons_succ,List.getElem?_cons_zero];exact rfl)(hS:S w)(hy:∀ u,S u→(execOp a.eval oi).run P u=.ok (.value v) u)
  (h:wpAnyK P md ops Q S k n (l.setIfInBounds i true) a2 w)
  (hs:Region.noSelect ops=true:=by kernel_rfl)(hf:Region.free md ops l i=true:=by kernel_rfl)
  (hr:(Region.ready md ops l).contains i=true:=by kernel_rfl)(hk:ops.size≤k:=by exact of_decide_eq_true (by kernel_rfl))(hu:l.getD k false=false:=by kernel_rfl)
  (hQ:∀ c a w,Q (.panic c) (Act.put a oi.dst v) w→Q (.panic c) a w:=by exact fun _ _ _ h=>h)(hw:Region.wanted oi (yielded ops a.tmps)=true:=by rfl)
  (ha:a.put oi.dst v=a2:=by simp only[Act.put,List.setIfInBounds_toArray,List.set_cons_zero,List.set_cons_succ];exact rfl):wpAnyK P md ops Q S k (n+1) l a w:=
 K_takeA hi hs hf hr hk hu hQ hS hw hy (by rw[ha];exact h)
theorem Kn (i:Nat)(ms:List Nat){oi:Oper}{v:Value}{n:Nat}{l:Array Bool}{a a2:Act}{w:World}(hi:ops[i]? = some oi:=by simp only[List.getElem?_toArray,List.getElem?_cons_succ,List.getElem?_cons_zero];exact rfl)(hS:S w)(hy:∀ u,S u→(execOp a.eval oi).run P u=.ok (.value v) u)
  (h:wpAnyK P md ops Q S k n (l.setIfInBounds i true) a2 w)
  (hs:Region.noSelect ops=true:=by kernel_rfl)(hf:Region.free md ops l i=true:=by kernel_rfl)
  (hr:(Region.ready md ops l).contains i=true:=by kernel_rfl)(hc:chainK md ops i (k::ms)=true:=by kernel_rfl)(hne:(k::ms).all (fun x=>decide (i≠x))=true:=by kernel_rfl)(ho:openK l (k::ms)=true:=by kernel_rfl)(hu:l.getD k false=false:=by kernel_rfl)
  (hQ:∀ c a w,Q (.panic c) (Act.put a oi.dst v) w→Q (.panic c) a w:=by exact fun _ _ _ h=>h)(hw:Region.wanted oi (yielded ops a.tmps)=true:=by rfl)
  (ha:a.put oi.dst v=a2:=by simp only[Act.put,List.setIfInBounds_toArray,List.set_cons_zero,List.set_cons_succ];exact rfl):wpAnyK P md ops Q S k (n+1) l a w:=
 K_takeN ms hi hs hf hr hc hne ho hu hQ hS hw hy (by rw[ha];exact h)
end
end
end Go.Proofs.YtfigdflcoaepaaaGreatDoor
