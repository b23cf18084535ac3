/- Contract of the document's answer: two lists of tokens that are the same. -/
import Derived.Test.YtknbeipbfehpkaaDoorLRefE
namespace Go.Proofs.YtknbeipbfehpkaaDoor
open Go.RowKit

set_option maxHeartbeats 1000000 in
theorem same_any (A A2 : Option Addr) (c c2 B B2 : Nat) (l : List Wd) (w : World) (h1 : WSeq w B A l) (h2 : WSeq w B2 A2 l) (hl : (l.length : Int) ≤ 9223372036854775807) :
    Calls Tryd.prog 12 #[.slice A l.length c, .slice A2 l.length c2] w fun e w' => e = .returned (.bool true) ∧ ∃ q, w' = w.drewN q := by
  have H1 := Lib.hid h1
  have H2 := Lib.hid h2
  have hb : ((l.length : Int) != (l.length : Int)) = false := by simp
  clear h1 h2
  go_enter Tryd.func12, Tryd.ntmps12
  go_wp2_with fail
  go_loopw [5] (fun i wr => ∃ (j q : Nat), j ≤ l.length ∧ i = .int .i64 j ∧ Hid (wr = w.drewN q)) (fun i _ => l.length - (intOf i).toNat)
  case atStart => exact ⟨0, 0, by omega, rfl, rfl⟩
  case round =>
    obtain ⟨j, q, hj, rfl, HW⟩ := hrel
    by_cases hlt : j < l.length
    · have hx : l[j]? = some l[j] := List.getElem?_eq_getElem hlt
      obtain ⟨x, hxx⟩ : ∃ x, l[j] = x := ⟨_, rfl⟩
      rw [hxx] at hx
      have s1 : WSeq wr B A l := by rw [HW.out]; exact H1.out
      have s2 : WSeq wr B2 A2 l := by rw [HW.out]; exact H2.out
      obtain ⟨b, o, hA, _, k0, k1, k2, k3⟩ := s1.at_ hx
      obtain ⟨b2, o2, hA2, _, m0, m1, m2, m3⟩ := s2.at_ hx
      have HA := Lib.hid hA
      have HA2 := Lib.hid hA2
      subst hA
      subst hA2
      clear hx hxx s1 s2
      go_wp2_with fail
      go_quiet (fail)
      go_wp2_with fail
      go_roundw
      case rel => exact ⟨j + 1, _, by omega, by go_num, by show _ = _; rw [HW.out]; exact World.drewN_drewN _ _ _⟩
      case measure => simp [intOf]; omega
    · go_wp2_with fail
      go_ret
      exact ⟨rfl, q, HW.out⟩
end Go.Proofs.YtknbeipbfehpkaaDoor
