/- Contracts and plain facts that the theorem rests on: SMadeP, SChap. -/
import Derived.Test.YtfigdflcoaepaaaGreatDoorZV20
import Derived.Test.YtfigdflcoaepaaaGreatDoorZV22
import Derived.Test.YtfigdflcoaepaaaGreatDoorZV1
set_option linter.unusedSimpArgs false
set_option linter.unusedVariables false
namespace Go.Proofs.YtfigdflcoaepaaaGreatDoor
section
open Go.RowKit
namespace SM
open CM (nd kids)
def ka:ByteArray:=⟨#[97]⟩
def kc:ByteArray:=⟨#[99]⟩
theorem takeS_ok (g:List Gi):∀(l:List Int) (us:List Bool),us.length=g.length→(∀ x∈l,exI g.length x=true∧(g.getD x.toNat ⟨0,0,⟨#[]⟩,[],[]⟩).kind≠8∧us.getD x.toNat false=false)→l.Nodup→(takeS g us l).isSome=true
 | [],_,_,_,_=>rfl
 | x::l,us,hl,h,hn=>by
  unfold takeS;rw[if_pos (h x (List.mem_cons_self ..))];rw[List.nodup_cons] at hn;refine takeS_ok g l _ (by rw[List.length_set];exact hl) (fun y hy=>?_) hn.2
  obtain⟨h1,h2,h3⟩:=h y (List.mem_cons_of_mem _ hy);refine⟨h1,h2,?_⟩;rw[List.getD_eq_getElem?_getD,List.getElem?_set];have hx:=exI_iff.1 (h x (List.mem_cons_self ..)).1;have hy':=exI_iff.1 h1;rw[if_neg (fun e=>by
   have:x=y:=by omega
   subst this;exact hn.1 hy)]
  rw[← List.getD_eq_getElem?_getD];exact h3
theorem valid_of {g:List Gi}{x:Gi}(h:okG g x=true)(hr:restG x=⟨x.kind,0,⟨#[]⟩,[],[]⟩):validG g x=true:=by unfold validG;rw[h,decide_eq_true hr];rfl
end SM
end
section
open Go.RowKit
namespace SM
open CM (nd kids)
end SM
end
end Go.Proofs.YtfigdflcoaepaaaGreatDoor
