/- Contracts and plain facts that the theorem rests on: FSmU. -/
import Derived.Test.YtfigdflcoaepaaaGreatDoorZV29
import Derived.Test.YtfigdflcoaepaaaGreatDoorZV36
set_option linter.unusedSimpArgs false
set_option linter.unusedVariables false
namespace Go.Proofs.YtfigdflcoaepaaaGreatDoor
section
open Go.RowKit
namespace FM
open CM (nd kids)
open SM
def findFU (g:List Gi)(u:Nat→Nat→Bool)(ps:List (Int × Int)):Nat × List Fc × List Nat:=
 if checkG g≠0 then(checkG g,[],[]) else if ps.any (fun x => !(exI g.length x.1&&exI g.length x.2))=true then(9,[],[])
 else if ps.any (fun x => !u x.1.toNat x.2.toNat)=true then(160,[],[]) else match findsN g u ps [] with
 | none=>(5,[],[])
 | some r=>(0,r.2,r.1)
theorem findF_U (g:List Gi)(ps:List (Int × Int)):findF g ps=findFU g (grU g) ps:=rfl
def smL:List (Nat × Nat):=roundsL smG false 4 (allP 7)
def smU (a b:Nat):Bool:=decide (a<7)&&(decide (b<7)&&isIn smL a b)
theorem sm_stable:smL.all (fun p=>holdsB smG false (isIn smL) p.1 p.2)=true:=by kernel_rfl
theorem sm_gr {a b:Nat}(ha:a<7)(hb:b<7):Gr smG false a b↔isIn smL a b=true:=gr_rounds sm_fine 4 sm_stable ha hb
theorem sm_u:grU smG=smU:=by
 funext a b
 have h1:=grU_iff (g:=smG) (a:=a) (b:=b);have h2:smU a b=true↔a<7∧b<7∧isIn smL a b=true:=by unfold smU;simp only[Bool.and_eq_true,decide_eq_true_eq]
 have h3:grU smG a b=true↔smU a b=true:=by
  rw[h1,h2];constructor
  ·rintro ⟨ha,hb,hr⟩;exact⟨ha,hb,(sm_gr ha hb).1 hr⟩
  ·rintro ⟨ha,hb,hr⟩;exact⟨ha,hb,(sm_gr ha hb).2 hr⟩
 cases hx:grU smG a b<;>cases hy:smU a b<;>rw[hx,hy] at h3<;>simp at h3<;>rfl
theorem sm_find (ps:List (Int × Int)):findF smG ps=findFU smG smU ps:=by rw[findF_U,sm_u]
theorem sm_1:findFU smG smU [(0,2)]=(0,[⟨0,2,[0]⟩],[0]):=by kernel_rfl
theorem sm_2:findFU smG smU [(3,4)]=(0,[⟨3,4,[0,1]⟩,⟨0,2,[0]⟩],[0]):=by kernel_rfl
theorem sm_3:findFU smG smU [(6,4),(2,5)]=(0,[⟨6,4,[-1,1]⟩,⟨3,4,[0,2]⟩,⟨0,2,[0]⟩,⟨2,5,[4,5]⟩,⟨0,5,[0]⟩,⟨1,5,[0]⟩],[0,3]):=by kernel_rfl
theorem sm_4:(findFU smG smU [(2,0)]).1=160:=by kernel_rfl
theorem sm_5:(findFU smG smU [(7,0)]).1=9:=by kernel_rfl
theorem sm_6:firstP smG [⟨0,1,[0]⟩]=(0,0):=by kernel_rfl
theorem sm_7:firstP smG [⟨3,4,[0,0]⟩]=(0,0):=by kernel_rfl
theorem sm_8:castsP smG [⟨5,0,[0]⟩] 0=true:=by
 have h:castsB smG [⟨5,0,[0]⟩] 0=true:=castsB_yes ⟨0,.refl,by kernel_rfl⟩
 unfold castsP;rw[show((0:Int).toNat)=0 from rfl,h]
 have h0:checkF smG [⟨5,0,[0]⟩]=0:=by kernel_rfl
 rw[h0];rfl
theorem sm_9:castsP smG [⟨0,5,[0]⟩] 0=false:=by
 have h:castsB smG [⟨0,5,[0]⟩] 0=false:=castsB_no (by
  have key:∀ i,ReachF smG [⟨0,5,[0]⟩] 0 i→i=0:=fun i hr=>by
   induction hr with
   | refl=>rfl
   | step hr hj ih =>
    subst ih;exact absurd hj (by
     have:onF smG ([⟨0,5,[0]⟩].getD 0 ⟨0,0,[]⟩)=[]:=by kernel_rfl
     rw[this];exact List.not_mem_nil)
  rintro ⟨i,hr,hc⟩;rw[key i hr] at hc;have:castF smG ([⟨0,5,[0]⟩].getD 0 ⟨0,0,[]⟩)=false:=by kernel_rfl
  rw[this] at hc;cases hc)
 unfold castsP;rw[show((0:Int).toNat)=0 from rfl,h]
 simp
end FM
end
end Go.Proofs.YtfigdflcoaepaaaGreatDoor
