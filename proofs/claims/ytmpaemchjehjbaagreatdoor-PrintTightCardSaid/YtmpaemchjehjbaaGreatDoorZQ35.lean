/- Contracts and plain facts that the theorem rests on: PLim2. -/
import Derived.Test.YtmpaemchjehjbaaGreatDoorZQ34
import Derived.Test.YtmpaemchjehjbaaGreatDoorZQ11
import Derived.Test.YtmpaemchjehjbaaGreatDoorZQ20
set_option linter.unusedSimpArgs false
set_option linter.unusedVariables false
namespace Go.Proofs.YtmpaemchjehjbaaGreatDoor
section
open Go.RowKit
theorem numGo_le:∀(l:List UInt8) (n m:Nat),n≤2147483647→numGo n l=some m→m≤2147483647
 | [],n,m,hn,h=>by simp[numGo] at h;omega
 | c::l,n,m,hn,h=>by
  rw[numGo] at h;split at h
  ·split at h
   ·cases h
   ·exact numGo_le l _ m (by omega) h
  ·cases h
theorem kindS_le {t:ByteArray}{kd n:Nat}(h:kindS t=some (kd,n)):n≤2147483647:=by
 unfold kindS at h;split at h
 ·simp at h;omega
 ·split at h
  ·simp at h;omega
  ·split at h
   ·simp at h;omega
   ·cases hn:numS t with
    | none=>rw[hn] at h;simp at h
    | some m =>
     rw[hn] at h;simp at h;obtain⟨_,rfl⟩:=h;unfold numS at hn;split at hn
     ·cases hn
     ·exact numGo_le _ _ _ (by omega) hn
theorem tokS_num {s:ByteArray}{k kd n en:Nat}{t:ByteArray}(h:tokS s k=some (kd,t,n,en)):n≤2147483647:=by
 unfold tokS at h;split at h
 ·split at h
  ·unfold tagS at h;split at h
   ·simp at h;omega
   ·cases h
  ·split at h
   ·unfold runS at h;cases hk:kindS (s.extract k (stop runC s k)) with
    | none=>rw[hk] at h;simp at h
    | some p =>
     obtain⟨a,b⟩:=p;rw[hk] at h;simp at h;have:=kindS_le hk;omega
   ·unfold signS at h;split at h
    ·cases h
    ·simp at h;omega
 ·simp at h;omega
theorem wordsF_num:∀(f:Nat) (s:ByteArray) (k:Nat) (l:List Wd),wordsF f s k=.ok l→∀ x∈l,x.num≤2147483647
 | 0,_,_,_,h=>by simp[wordsF] at h
 | f+1,s,k,l,h=>by
  rw[wordsF] at h;split at h
  ·cases h
  ·rename_i kd t n en ht;have hts:=tokS_num ht;split at h
   ·simp at h;subst h;intro x hx;simp at hx;subst hx;exact hts
   ·rcases hr:wordsF f s en with a | r
    ·rw[hr] at h;cases h
    ·rw[hr] at h;simp[consR] at h;subst h;intro x hx;rcases List.mem_cons.1 hx with rfl | hx
     ·exact hts
     ·exact wordsF_num f s en r hr x hx
theorem parse_lim {s:ByteArray}{m:Md}(hs:s.size≤65536)(h:parseS s=.ok m):MdB 65536 m:=by
 rw[parseS] at h;split at h
 ·cases h
 ·rename_i l hl;refine moduleR_lm (fun k=>?_) h
  by_cases hk:k<l.length
  ·have h1:=(wordsF_ok _ _ _ _ hl).2.2.2 _ (List.mem_of_getElem? (tok_at hk));have h2:=wordsF_num _ _ _ _ hl _ (List.mem_of_getElem? (tok_at hk));exact⟨by omega,Nat.le_trans h2 (by decide)⟩
  ·rw[tok,List.getD_eq_getElem?_getD,List.getElem?_eq_none (by omega)]
   exact⟨Nat.zero_le _,Nat.zero_le _⟩
structure NiB (K:Nat)(x:Ni):Prop where
 nm:x.nm.size≤K
 md:x.md.size≤K
 keys:∀ s∈x.keys,s.size≤K
 num:(Lib.itoa x.num).length≤K
end
end Go.Proofs.YtmpaemchjehjbaaGreatDoor
