/- Contracts and plain facts that the theorem rests on: FKeys. -/
import Derived.Test.YtfigdflcoaepaaaGreatDoorZV21
import Derived.Test.YtfigdflcoaepaaaGreatDoorRows
import Derived.ProofKit
import Derived.LaidMore
import Derived.OpenShut
import Derived.ShutString
import Derived.Stop.Joined
import Derived.Stop.LaidErr
import Derived.ChangeArms
import Derived.FnData
import Derived.Below
import Derived.Lib.LaidTab
import Derived.WideKeyPair
set_option linter.unusedSimpArgs false
set_option linter.unusedVariables false
namespace Go.Proofs.YtfigdflcoaepaaaGreatDoor
section
open Go.ChangeShapes Go.WideShapes Go.ChangeAt Go.RowKit
theorem own:ownKnob Tryz.prog.godebug=none:=by kernel_rfl
theorem cellsStr:Tryz.prog.cellsOf 9=1:=by kernel_rfl
set_option maxRecDepth 100000 in
theorem strs_of {W:World}{name:String}{l:List (List UInt8)}{rest:List (String × DataW Unit)}{g t n:Nat}(hg:Tryz.prog.globalNamed name=some g)(hty:(Tryz.prog.globals[g]?).map (·.type)=some t)
  (ht:Tryz.prog.underlying t=some (.array n 9))(hl0:l.length=n)(h:laidMet Tryz.prog ((name,.agg (l.map fun b=>.lit (.string b)))::rest) W) :
  ∀ i b,l[i]? = some b→W.cell? ⟨g,i,none⟩=some (.string ⟨b.toArray⟩):=by
 obtain⟨ps,⟨g0,t0,cs0,f0,p0,q0,hg0,ht0,hv0,hd0,_,_⟩,_⟩:=h;obtain rfl:=Option.some.inj (hg.symm.trans hg0);obtain rfl:=Option.some.inj (hty.symm.trans ht0);obtain⟨xs,m1,rfl,hx1,hlen,hn18,hel⟩:=DataW.trod_array ht hd0;rw[cellsStr] at hel;have hx2:xs.map (·.1)=l.map fun l=>DataW.lit (.string l):=by
  simp only[Prod.mk.injEq] at hx1;have h1:=hx1.1;injection h1 with h1
  rw[← h1]
 intro i b hb;have hi:i<n:=by have:=(List.getElem?_eq_some_iff.1 hb).1;omega
 have h1:=hel i hi;have hxi:xs[i]? = some xs[i]:=List.getElem?_eq_getElem (by omega)
 rw[hxi] at h1;obtain⟨s,hs,hx,_⟩:=DataW.trod_string Tryz.underlying9 h1;have h2:(xs.map (·.1))[i]? = some (DataW.lit (.string s.data.toList)):=by rw[List.getElem?_map,hxi];simp[hx]
 rw[hx2,List.getElem?_map,hb] at h2;simp at h2;have h3:cs0.toList[i]? = some (.string s):=by
  have h4:((cs0.toList.drop (i*1)).take 1)[0]? = some (.string s):=by rw[hs];rfl
  rw[List.getElem?_take,if_pos (by omega),List.getElem?_drop,Nat.mul_one,Nat.add_zero] at h4
  exact h4
 rw[World.var?_cell hg hv0 i,← Array.getElem?_toList,h3,h2]
set_option maxRecDepth 100000 in
theorem keys_of {W:World}(h:laidMetH Tryz.prog Rows.factSoundRow.laid W):SM.Gnd W:=by
 rw[MakeChecks.laidMetH_plain _ _ _ (by kernel_rfl)] at h
 have h1 : laidMet Tryz.prog (("math/bits.deBruijn64tab", Rows.laid_math_bits_deBruijn64tab) :: ("armillary/lex.keys", Rows.laid_armillary_lex_keys) :: []) W := h
 have h2:=laidMet.tail h1;have e1:(Rows.laid_math_bits_deBruijn64tab:DataW Unit)=Lib.tabData .u8 (Lib.deBruijn64tab.map fun j:Nat=>(j:Int)):=by kernel_rfl
 have e2:(Rows.laid_armillary_lex_keys:DataW Unit)=.agg (keyL.map fun b=>.lit (.string b)):=by kernel_rfl
 rw[e1] at h1;rw[e2] at h2;have k2:=strs_of (g:=0) (t:=152) (n:=18) (by kernel_rfl) (by kernel_rfl) Tryz.underlying152 rfl h2
 have k1:=Lib.tabIs_of_head (g:=1) (t:=174) (e:=5) (n:=64) (by kernel_rfl) (by kernel_rfl) Tryz.underlying174 Tryz.underlying5 (by kernel_rfl) (by kernel_rfl) h1
 unfold Lib.TabIs at k1;have hg : Tryz.prog.globalNamed "math/bits.deBruijn64tab" = some 1 := by kernel_rfl
 have hc:∀ j,j<Lib.deBruijn64tab.length→W.cell? ⟨1,j,none⟩=some (.int .u8 ((Lib.deBruijn64tab.getD j 0:Nat):Int)):=fun j hl=>by
  rw[World.var?_cell hg k1 j,List.getElem?_toArray,List.map_map,List.getElem?_map,List.getElem?_eq_getElem hl,List.getD_eq_getElem?_getD,List.getElem?_eq_getElem hl]
  rfl
 exact⟨⟨World.block_lt_of_cell? W ⟨0,0,none⟩ (k2 0 _ rfl),k2⟩,hc,World.block_lt_of_cell? W ⟨1,0,none⟩ (hc 0 (by decide))⟩
end
end Go.Proofs.YtfigdflcoaepaaaGreatDoor
