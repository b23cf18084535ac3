/- Contracts and plain facts that the theorem rests on: PKeys. -/
import Derived.Test.YtmpaemchjehjbaaGreatDoorZR31
import Derived.Test.YtmpaemchjehjbaaGreatDoorRows
import Derived.ProofKit
import Derived.LaidMore
import Derived.OpenShut
import Derived.ShutString
import Derived.Stop.Joined
import Derived.Stop.LaidErr
import Derived.ChangeArms
import Derived.FnData
import Derived.Below
import Derived.Lib.LaidTab
set_option linter.unusedSimpArgs false
set_option linter.unusedVariables false
namespace Go.Proofs.YtmpaemchjehjbaaGreatDoor
section
open Go.ChangeShapes Go.WideShapes Go.ChangeAt Go.RowKit
theorem own:ownKnob Tryz.prog.godebug=none:=by kernel_rfl
theorem door_met (os:Os)(args:Array Value):laidMetH Tryz.prog Rows.printOddRow.laid ((World.doorLaid Tryz.prog 400 os).forCall (fun _ _=>0) ⟨#[],args,[]⟩).memory:=
 laidMetH_of_parts3 (fuel:=8) (laidMet_of_run' 8 (by kernel_rfl) (by kernel_rfl)) (by kernel_rfl) (by kernel_rfl)
theorem cellsStr:Tryz.prog.cellsOf 9=1:=by kernel_rfl
set_option maxRecDepth 100000 in
theorem strs_of {W:World}{name:String}{l:List (List UInt8)}{rest:List (String × DataW Unit)}{g t n:Nat}(hg:Tryz.prog.globalNamed name=some g)(hty:(Tryz.prog.globals[g]?).map (·.type)=some t)
  (ht:Tryz.prog.underlying t=some (.array n 9))(hl0:l.length=n)(h:laidMet Tryz.prog ((name,.agg (l.map fun b=>.lit (.string b)))::rest) W) :
  ∀ i b,l[i]? = some b→W.cell? ⟨g,i,none⟩=some (.string ⟨b.toArray⟩):=by
 obtain⟨ps,⟨g0,t0,cs0,f0,p0,q0,hg0,ht0,hv0,hd0,_,_⟩,_⟩:=h;obtain rfl:=Option.some.inj (hg.symm.trans hg0);obtain rfl:=Option.some.inj (hty.symm.trans ht0);obtain⟨xs,m1,rfl,hx1,hlen,hn18,hel⟩:=DataW.trod_array ht hd0;rw[cellsStr] at hel;have hx2:xs.map (·.1)=l.map fun l=>DataW.lit (.string l):=by
  simp only[Prod.mk.injEq] at hx1;have h1:=hx1.1;injection h1 with h1
  rw[← h1]
 intro i b hb;have hi:i<n:=by have:=(List.getElem?_eq_some_iff.1 hb).1;omega
 have h1:=hel i hi;have hxi:xs[i]? = some xs[i]:=List.getElem?_eq_getElem (by omega)
 rw[hxi] at h1;obtain⟨s,hs,hx,_⟩:=DataW.trod_string Tryz.underlying9 h1;have h2:(xs.map (·.1))[i]? = some (DataW.lit (.string s.data.toList)):=by rw[List.getElem?_map,hxi];simp[hx]
 rw[hx2,List.getElem?_map,hb] at h2;simp at h2;have h3:cs0.toList[i]? = some (.string s):=by
  have h4:((cs0.toList.drop (i*1)).take 1)[0]? = some (.string s):=by rw[hs];rfl
  rw[List.getElem?_take,if_pos (by omega),List.getElem?_drop,Nat.mul_one,Nat.add_zero] at h4
  exact h4
 rw[World.var?_cell hg hv0 i,← Array.getElem?_toList,h3,h2]
set_option maxRecDepth 100000 in
theorem tabs_of {W:World}(h:laidMetH Tryz.prog Rows.printOddRow.laid W):Tabs W:=by
 rw[MakeChecks.laidMetH_plain _ _ _ (by kernel_rfl)] at h
 have h3 := (laidMet.tail (laidMet.tail (show laidMet Tryz.prog (("math/bits.deBruijn32tab", Rows.laid_math_bits_deBruijn32tab) :: ("math/bits.deBruijn64tab", Rows.laid_math_bits_deBruijn64tab) :: ("internal/strconv.uint64pow10", Rows.laid_internal_strconv_uint64pow10) :: ("armillary/lex.keys", Rows.laid_armillary_lex_keys) :: ("armillary/print.keywords", Rows.laid_armillary_print_keywords) :: []) W from h)))
 have h4:=laidMet.tail h3;have h5:=laidMet.tail h4;have e3:(Rows.laid_internal_strconv_uint64pow10:DataW Unit)=Lib.tabData .u64 Lib.pow10Tab:=by kernel_rfl
 have e4:(Rows.laid_armillary_lex_keys:DataW Unit)=.agg (keyL.map fun b=>.lit (.string b)):=by kernel_rfl
 have e5:(Rows.laid_armillary_print_keywords:DataW Unit)=.agg (kwL.map fun b=>.lit (.string b)):=by kernel_rfl
 rw[e3] at h3;rw[e4] at h4;rw[e5] at h5;have k4:=strs_of (g:=1) (t:=179) (n:=18) (by kernel_rfl) (by kernel_rfl) Tryz.underlying179 rfl h4
 have k5:=strs_of (g:=0) (t:=168) (n:=25) (by kernel_rfl) (by kernel_rfl) Tryz.underlying168 rfl h5
 refine⟨⟨World.block_lt_of_cell? W ⟨1,0,none⟩ (k4 0 _ rfl),k4⟩,k5,?_⟩;exact Lib.tabIs_of_head (g:=2) (t:=197) (e:=188) (n:=20) (by kernel_rfl) (by kernel_rfl) Tryz.underlying197 Tryz.underlying188 (by kernel_rfl) (by kernel_rfl) h3
theorem keys_of {W:World}(h:laidMetH Tryz.prog Rows.printOddRow.laid W):Keys W:=(tabs_of h).ky
end
end Go.Proofs.YtmpaemchjehjbaaGreatDoor
