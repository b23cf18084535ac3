/- Lists of tokens of any kind: appended one by one, compared. -/
import Derived.Test.YtknbeipbfehpkaaDoorLRefJoin
import Derived.Test.YtknbeipbfehpkaaDoorLSame
namespace Go.Proofs.YtknbeipbfehpkaaDoor
open Go.RowKit

theorem icells_len (l : List Wi) : (icells l).length = l.length * 4 := by
  induction l with
  | nil => rfl
  | cons x l ih => rw [icells, List.flatMap_cons, List.length_append, ← icells, ih]; simp [Wi.cells]; omega
theorem icells_snoc (l : List Wi) (x : Wi) : icells l ++ x.cells = icells (l ++ [x]) := by simp [icells]
theorem icells_one (l : List Wi) : ∀ u ∈ icells l, u.oneCell' = true := by
  intro u hu
  obtain ⟨x, _, h⟩ := List.mem_flatMap.1 hu
  simp [Wi.cells] at h
  rcases h with rfl | rfl | rfl | rfl <;> rfl
/-- 'append(l, w)' of one token: the translation lays w in a block of its own first. -/
theorem wpList_append_wi {P : Program} (w : World) {ops : Array Oper} {rest : List Oper} {o : Oper} {a : Act} {Q : Exit → Act → World → Prop} (hgd : o.guard = none) (s x : Operand) (t : TypeId)
    (ho : o.op = .call { callee := .builtin .append, args := #[s, x], argTypes := #[t, t] })
    (base : Nat) (e : TypeId) (i : TypeInfo) (z : Value) (bytes : Nat) (ht : P.underlying t = some (.slice e)) (hi : P.info? e = some i) (hz : i.zero = some z)
    (hsize : i.size = 4) (hby : i.bytes = bytes) (hzs : z.cells.size = 4)
    (v : Value) (n : Nat) (l : List Wi) (hs : a.eval s = v) (hown : w.ownsRow base e 4 v n (icells l))
    (u : Wi) (hx : a.eval x = .slice (some ⟨w.heap.size, 0, none⟩) 1 1)
    (h63 : n + 1 ≤ maxLen) (hbytes : (n + 1) * bytes ≤ 140737488355328) (hbase : base ≤ w.heap.size)
    (h : ∀ v' w', w'.ownsRow base e 4 v' (n + 1) (icells (l ++ [u])) → w.grownBy w' v.ownBlock → Below base w w' → wpList P ops Q rest (a.put o.dst v') w') :
    wpList P ops Q (o :: rest) a (w.alloc (.cells #[.int .i64 u.kind, .string u.text, .int .i64 u.num, .int .i64 u.at_] e)) := by
  have hsz : (w.alloc (.cells #[.int .i64 u.kind, .string u.text, .int .i64 u.num, .int .i64 u.at_] e)).heap.size = w.heap.size + 1 := by simp
  refine wpList_append_own_at (P := P) _ hgd s x t ho base e i z 4 bytes ht hi hz hsize hby hzs (by omega) v n (icells l) hs (hown.alloc _) ⟨w.heap.size, 0, none⟩ 1 1 u.cells hx rfl (fun j c hj => ?_) ?_ h63 hbytes (by omega) fun v' w' h2 h3 _ _ => ?_
  · rw [addr_lit, Nat.zero_add]
    have := Blk.cell (Blk.new w e #[.int .i64 u.kind, .string u.text, .int .i64 u.num, .int .i64 u.at_]) j
    rw [this]
    simpa [Wi.cells] using hj
  · have := icells_one [u]
    simpa [icells] using this
  · have hg : w.grownBy w' v.ownBlock := (World.grownBy_alloc w _ _).trans h3
    rw [icells_snoc] at h2
    exact h v' w' h2 hg ((Below.refl _ _).grown hg hbase fun k hk => (hown.lt k hk).1)

theorem own_shapeI {w : World} {base : Nat} {v : Value} {l : List Wi} (h : w.ownsRow base 30 4 v l.length (icells l)) : ∃ A c, v = .slice A l.length c ∧ l.length ≤ c ∧ c ≤ maxLen ∧ ISeq w w.heap.size A l := by
  rcases h.2 with ⟨rfl, h0⟩ | ⟨g, cap, cur, rfl, hb, hg, hn, hm, hr⟩
  · exact ⟨none, 0, by rw [h0], by omega, by simp [maxLen], fun hl => by omega⟩
  · refine ⟨_, cap, rfl, hn, hm, fun _ => ⟨g, 0, rfl, (Array.getElem?_eq_some_iff.1 hg).1, fun j u hu => ?_⟩⟩
    have := h.cells (g := g) rfl j u hu
    rwa [addr_lit] at this
set_option maxHeartbeats 1000000 in
theorem sameI_any (A A2 : Option Addr) (c c2 B B2 : Nat) (l : List Wi) (w : World) (h1 : ISeq w B A l) (h2 : ISeq w B2 A2 l) (hl : (l.length : Int) ≤ 9223372036854775807) :
    Calls Tryd.prog 12 #[.slice A l.length c, .slice A2 l.length c2] w fun e w' => e = .returned (.bool true) ∧ ∃ q, w' = w.drewN q := by
  have H1 := Lib.hid h1
  have H2 := Lib.hid h2
  have hb : ((l.length : Int) != (l.length : Int)) = false := by simp
  clear h1 h2
  go_enter Tryd.func12, Tryd.ntmps12
  go_wp2_with fail
  go_loopw [5] (fun i wr => ∃ (j q : Nat), j ≤ l.length ∧ i = .int .i64 j ∧ Hid (wr = w.drewN q)) (fun i _ => l.length - (intOf i).toNat)
  case atStart => exact ⟨0, 0, by omega, rfl, rfl⟩
  case round =>
    obtain ⟨j, q, hj, rfl, HW⟩ := hrel
    by_cases hlt : j < l.length
    · have hx : l[j]? = some l[j] := List.getElem?_eq_getElem hlt
      obtain ⟨x, hxx⟩ : ∃ x, l[j] = x := ⟨_, rfl⟩
      rw [hxx] at hx
      have s1 : ISeq wr B A l := by rw [HW.out]; exact H1.out
      have s2 : ISeq wr B2 A2 l := by rw [HW.out]; exact H2.out
      obtain ⟨b, o, hA, _, k0, k1, k2, k3⟩ := s1.at_ hx
      obtain ⟨b2, o2, hA2, _, m0, m1, m2, m3⟩ := s2.at_ hx
      have HA := Lib.hid hA
      have HA2 := Lib.hid hA2
      subst hA
      subst hA2
      clear hx hxx s1 s2
      go_wp2_with fail
      go_quiet (fail)
      go_wp2_with fail
      go_roundw
      case rel => exact ⟨j + 1, _, by omega, by go_num, by show _ = _; rw [HW.out]; exact World.drewN_drewN _ _ _⟩
      case measure => simp [intOf]; omega
    · go_wp2_with fail
      go_ret
      exact ⟨rfl, q, HW.out⟩
end Go.Proofs.YtknbeipbfehpkaaDoor
