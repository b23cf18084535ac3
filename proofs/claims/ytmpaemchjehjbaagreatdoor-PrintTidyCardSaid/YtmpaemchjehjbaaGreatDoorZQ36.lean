/- Contracts and plain facts that the theorem rests on: PFine. -/
import Derived.Test.YtmpaemchjehjbaaGreatDoorZQ12
import Derived.Test.YtmpaemchjehjbaaGreatDoorZQ35
import Derived.Test.YtmpaemchjehjbaaGreatDoorZQ33
import Derived.Lib.ItoaLen
set_option linter.unusedSimpArgs false
set_option linter.unusedVariables false
namespace Go.Proofs.YtmpaemchjehjbaaGreatDoor
section
open Go.RowKit
theorem itoa_small {n:Int}(h0 : -9223372036854775808≤n)(h1:n≤9223372036854775807):(Lib.itoa n).length≤65540:=Nat.le_trans (Lib.itoa_length_le n h0 h1) (by decide)
theorem NiB.of {y:Nd}(h:NdB 65536 y):NiB 65540 y.toI ∧ -9223372036854775808≤y.toI.num∧y.toI.num≤9223372036854775807:=by
 have hn:y.toI.num=(y.num:Int):=rfl;have h1:=h.num;unfold numT at h1;have b0 : -9223372036854775808≤y.toI.num:=by rw[hn];omega
 have b1:y.toI.num≤9223372036854775807:=by rw[hn];omega
 exact⟨⟨by have:=h.nm;show y.nm.size≤_;omega,by have:=h.md;show y.md.size≤_;omega,fun s hs=>by have:=h.keys s hs;omega,itoa_small b0 b1⟩,b0,b1⟩
theorem flatR_len {α:Type}(g:α→List Int)(K:Nat):∀(l:List α),(∀ a∈l,(g a).length≤K)→(l.flatMap g).length≤l.length*K
 | [],_=>Nat.zero_le _
 | a::l,h=>by
  rw[List.flatMap_cons,List.length_append,List.length_cons,Nat.succ_mul];have h1:=h a (by simp)
  have h2:=flatR_len g K l (fun b hb=>h b (List.mem_cons_of_mem _ hb))
  omega
theorem roots_small {m:Md}(hs:Small m):(rootsI m.toI).length≤1000000000000:=by
 have e:rootsI m.toI=m.toI.types.map Di.ty++m.toI.fns.flatMap fnR4:=rfl;have h1:=flatR_len fnR4 100 m.toI.fns (fun f hf=>by
  obtain⟨f',h1,rfl⟩:=List.mem_map.1 hf;obtain⟨s1,s2⟩:=hs.f f' h1;simp only[fnR4,List.length_append,List.length_map,List.length_cons,List.length_nil,Fd.toI];omega)
 have h2:=hs.fns;have h3:=hs.types;rw[e,List.length_append,List.length_map];have n2:m.toI.types.length=m.types.length:=List.length_map ..;have n3:m.toI.fns.length=m.fns.length:=List.length_map ..;omega
theorem nums_of {s:ByteArray}{m:Md}(hs:s.size≤65536)(h:parseS s=.ok m):NumsOk m.toI:=fun z hz=>by
 obtain⟨y,h1,rfl⟩:=List.mem_map.1 hz;exact(NiB.of ((parse_lim hs h).nodes y h1)).2
end
end Go.Proofs.YtmpaemchjehjbaaGreatDoor
