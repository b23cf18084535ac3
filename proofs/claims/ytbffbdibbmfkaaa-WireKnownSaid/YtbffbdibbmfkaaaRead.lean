/- Contracts of wire.Reader: what it reads, one thing after the other. -/
import Derived.Test.YtbffbdibbmfkaaaRefList
import Derived.Deep.QuietTactic
import Derived.BigQuiet
namespace Go.Proofs.Ytbffbdibbmfkaaa
open Go.RowKit

/-- a number's bytes, read: the number and what is left, or the error -/
def rd (k n : Nat) : List UInt8 → Except Int (Nat × List UInt8)
  | [] => .error 3
  | d :: r => if (k = 7 ∧ 16 ≤ d.toNat) ∨ (0 < k ∧ d.toNat = 0) then .error 4 else if d.toNat < 128 then .ok (n + d.toNat % 128 * 128 ^ k, r) else rd (k + 1) (n + d.toNat % 128 * 128 ^ k) r
/-- what is left of a reader, and its error: behind an error nothing is left -/
def rNum (l : List UInt8) (er : Int) : Int × List UInt8 × Int :=
  if er = 0 then (match rd 0 0 l with
    | .ok (v, r) => ((v : Int), r, 0)
    | .error c => (0, [], c)) else (0, l, er)

/-- a reader of the program: its block, the bytes, where it stands, its error -/
def WRd (w : World) (g : Nat) (l : List UInt8) (er : Int) : Prop :=
  ∃ (A : Option Addr) (bs : List UInt8) (c at_ : Nat), at_ ≤ bs.length ∧ bs.length ≤ 17592186044416 ∧ bs.length ≤ c ∧ Blk w g 61 #[.slice A bs.length c, .int .i64 (at_ : Int), .int .i64 er, .bool true] ∧ Seq w g A bs.length (u8s bs) ∧ (er = 0 → bs.drop at_ = l)

/-- how many bytes remain -/
def rLeft (l : List UInt8) (er : Int) : Int := if er = 0 then (l.length : Int) else 0

theorem err_any (g : Nat) (l : List UInt8) (er : Int) (w : World) (h : WRd w g l er) :
    Calls Try.prog 28 #[.pointer (some ⟨g, 0, none⟩)] w fun e w' => e = .returned (.int .i64 er) ∧ w = w' := by
  obtain ⟨A, bs, c, at_, _, _, _, hg, _, _⟩ := h
  have c0 := hg.cell 0
  have c1 := hg.cell 1
  have c2 := hg.cell 2
  have c3 := hg.cell 3
  simp at c0 c1 c2 c3
  clear hg
  go_enter Try.func28, Try.ntmps28
  go_wp2
  go_ret
  exact ⟨rfl, rfl⟩

theorem left_any (g : Nat) (l : List UInt8) (er : Int) (w : World) (h : WRd w g l er) :
    Calls Try.prog 26 #[.pointer (some ⟨g, 0, none⟩)] w fun e w' => e = .returned (.int .i64 (rLeft l er)) ∧ ∃ n, w' = w.drewN n := by
  by_cases he : er = 0
  · subst he
    have h0 := h
    obtain ⟨A, bs, c, at_, hat, hmax, hc, hg, hs, hl⟩ := h
    have hl := hl rfl
    have c0 := hg.cell 0
    have c1 := hg.cell 1
    simp at c0 c1
    have hlen : (l.length : Int) = bs.length - at_ := by rw [← hl, List.length_drop]; omega
    have HL := Lib.hid hlen
    have HH := Lib.hid h0
    clear hg hl hlen h0
    go_enter Try.func26, Try.ntmps26
    go_wp2_with (go_at_call 28; refine (err_any g l 0 _ HH.out).mono ?_; rintro e w1 ⟨rfl, rfl⟩)
    go_quiet (fail)
    go_wp2
    go_ret
    exact ⟨by rw [rLeft, if_pos rfl, HL.out]; rfl, _, rfl⟩
  · have hb : (er == 0) = false := by simpa using he
    have hb2 : (er != 0) = true := by simpa using he
    have HE := Lib.hid he
    have HH := Lib.hid h
    clear he h
    go_enter Try.func26, Try.ntmps26
    go_wp2_with (go_at_call 28; refine (err_any g l er _ HH.out).mono ?_; rintro e w1 ⟨rfl, rfl⟩)
    go_ret
    exact ⟨by rw [rLeft, if_neg HE.out]; rfl, 0, rfl⟩

theorem WRd.kept {P : Nat → Prop} {w w' : World} {g : Nat} {l : List UInt8} {er : Int} (h : WRd w g l er) (hk : Kept P w w') (hp : ∀ i, i ≤ g → ¬ P i) : WRd w' g l er := by
  obtain ⟨A, bs, c, at_, h1, h2, h3, hg, hs, hl⟩ := h
  exact ⟨A, bs, c, at_, h1, h2, h3, hk.blk hg (hp g (Nat.le_refl _)), hs.kept hk (by have := hg.lt; omega) (fun i hi => hp i (by omega)), hl⟩
theorem WRd.drewN {w : World} {g : Nat} {l : List UInt8} {er : Int} (h : WRd w g l er) (n : Nat) : WRd (w.drewN n) g l er := h
theorem WRd.lt {w : World} {g : Nat} {l : List UInt8} {er : Int} (h : WRd w g l er) : g < w.heap.size := by
  obtain ⟨A, bs, c, at_, _, _, _, hg, _⟩ := h
  exact hg.lt
/-- a field of the reader is written -/
theorem Seq.far {w : World} {g n : Nat} {A : Option Addr} {xs : List Value} (h : Seq w g A n xs) (i : Nat) (u : Value) : Seq (w.setCell ⟨g, i, none⟩ u) g A n xs :=
  h.keep fun p hp => World.cell?_setCell_other w ⟨g, i, none⟩ p u (fun e => by subst e; simp at hp)

/-- where a number is under way -/
def Und (l0 : List UInt8) (k n : Nat) (l : List UInt8) : Prop := rd 0 0 l0 = rd k n l

section
variable {w : World} {g : Nat} {t : TypeId} {a b c d u : Value}
theorem blk_f1 (h : Blk w g t #[a, b, c, d]) : Blk (w.setCell ⟨g, 1, none⟩ u) g t #[a, u, c, d] := by simpa using h.set_ 1 u
theorem blk_f2 (h : Blk w g t #[a, b, c, d]) : Blk (w.setCell ⟨g, 2, none⟩ u) g t #[a, b, u, d] := by simpa using h.set_ 2 u
end
theorem rNum_ok {l r : List UInt8} {v : Nat} (h : rd 0 0 l = .ok (v, r)) : rNum l 0 = ((v : Int), r, 0) := by simp [rNum, h]
theorem rNum_err {l : List UInt8} {c : Int} (h : rd 0 0 l = .error c) : rNum l 0 = (0, [], c) := by simp [rNum, h]
theorem Und.form {l r : List UInt8} {k n : Nat} {d : UInt8} (h : Und l k n (d :: r)) (hf : (k = 7 ∧ 16 ≤ d.toNat) ∨ (0 < k ∧ d.toNat = 0)) : rd 0 0 l = .error 4 := by
  unfold Und at h
  rw [h, rd, if_pos hf]
theorem Und.last {l r : List UInt8} {k n : Nat} {d : UInt8} (h : Und l k n (d :: r)) (hf : ¬ ((k = 7 ∧ 16 ≤ d.toNat) ∨ (0 < k ∧ d.toNat = 0))) (hd : d.toNat < 128) : rd 0 0 l = .ok (n + d.toNat % 128 * 128 ^ k, r) := by
  unfold Und at h
  rw [h, rd, if_neg hf, if_pos hd]
theorem Und.step {l r : List UInt8} {k n : Nat} {d : UInt8} (h : Und l k n (d :: r)) (hf : ¬ ((k = 7 ∧ 16 ≤ d.toNat) ∨ (0 < k ∧ d.toNat = 0))) (hd : 128 ≤ d.toNat) : Und l (k + 1) (n + d.toNat % 128 * 128 ^ k) r := by
  unfold Und at h ⊢
  rw [h, rd, if_neg hf, if_neg (by omega)]
theorem Und.trunc {l : List UInt8} {k n : Nat} (h : Und l k n []) : rd 0 0 l = .error 3 := by
  unfold Und at h
  rw [h, rd]
theorem pow7 (k : Nat) : (2 : Int) ^ (k * 7) = ((128 ^ k : Nat) : Int) := by
  rw [Nat.mul_comm, Int.pow_mul]
  simp
theorem pow_le (k : Nat) (hk : k ≤ 7) : 128 ^ k ≤ 562949953421312 := by
  have : 128 ^ k ≤ 128 ^ 7 := Nat.pow_le_pow_right (by omega) hk
  simpa using this
/-- the sum of a number that is under way and its next digit: nothing wraps -/
theorem num_sum {k n d : Nat} (hk : k ≤ 7) (hn : n < 128 ^ k) : wrap64 ((n : Int) + wrap64 ((d : Int) % 128 * 2 ^ (k * 7))) = ((n + d % 128 * 128 ^ k : Nat) : Int) ∧ n + d % 128 * 128 ^ k < 128 ^ (k + 1) := by
  have h1 := pow_le k hk
  have h2 : d % 128 * 128 ^ k ≤ 127 * 128 ^ k := Nat.mul_le_mul_right _ (by omega)
  have e : (d : Int) % 128 * 2 ^ (k * 7) = ((d % 128 * 128 ^ k : Nat) : Int) := by
    rw [pow7, Int.natCast_mul]
    simp
  have h3 : 128 ^ (k + 1) = 128 ^ k * 128 := Nat.pow_succ ..
  generalize 128 ^ k = M at *
  generalize d % 128 * M = X at *
  rw [e, IntWalk.wrap64_in (X : Int) ⟨by omega, by omega⟩, IntWalk.wrap64_in _ ⟨by omega, by omega⟩]
  exact ⟨by omega, by omega⟩

set_option maxRecDepth 100000 in
set_option maxHeartbeats 4000000 in
theorem num_any (g : Nat) (l : List UInt8) (er : Int) (w : World) (h : WRd w g l er) :
    Calls Try.prog 34 #[.pointer (some ⟨g, 0, none⟩)] w fun e w' => e = .returned (.int .i64 (rNum l er).1) ∧ WRd w' g (rNum l er).2.1 (rNum l er).2.2 ∧ Kept (· = g) w w' := by
  by_cases he : er = 0
  · subst he
    have h0 := h
    obtain ⟨A, bs, c, at0, hat, hmax, hc, hg, hs, hl⟩ := h
    have hl := hl rfl
    have HH := Lib.hid h0
    have HG := Lib.hid hg
    have HL := Lib.hid hl
    clear hl h0 hg
    go_enter Try.func34, Try.ntmps34
    go_wp2_with (go_at_call 28; refine (err_any g l 0 _ HH.out).mono ?_; rintro e w1 ⟨rfl, rfl⟩)
    go_loopw [3, 4] (fun n k wr => ∃ (kk nn at_ : Nat), kk ≤ 7 ∧ nn < 128 ^ kk ∧ at_ ≤ bs.length ∧ n = .int .i64 nn ∧ k = .int .i64 kk ∧ Blk wr g 61 #[.slice A bs.length c, .int .i64 (at_ : Int), .int .i64 0, .bool true] ∧ Kept (· = g) w wr ∧ Und l kk nn (bs.drop at_)) (fun _ k _ => 8 - (intOf k).toNat)
    case atStart => exact ⟨0, 0, at0, by omega, by simp, hat, rfl, rfl, HG.out, Kept.refl _ _, by rw [HL.out]; rfl⟩
    case round =>
      obtain ⟨kk, nn, at_, hk, hn, ha, rfl, rfl, hg, hkept, hu⟩ := hrel
      have c0 := hg.cell 0
      have c1 := hg.cell 1
      have c2 := hg.cell 2
      simp at c0 c1 c2
      have f1 := hg.frozen 1
      have f2 := hg.frozen 2
      have HG2 := Lib.hid hg
      have HU := Lib.hid hu
      have hs2 := hs.kept hkept (by have := HH.out.lt; omega) (fun i hi => by omega)
      clear hg hu
      by_cases hlt : at_ < bs.length
      · have hne : ((at_ : Int) == (bs.length : Int)) = false := by simp; omega
        obtain ⟨b, o, u, hA, hbB, hu, hcell⟩ := hs2.at_ hlt
        obtain ⟨d, hd, rfl⟩ : ∃ d : UInt8, bs[at_]? = some d ∧ u = .int .u8 (d.toNat : Int) := by
          simp only [u8s, List.getElem?_map, Option.map_eq_some_iff] at hu
          obtain ⟨x, h1, h2⟩ := hu
          exact ⟨x, h1, h2.symm⟩
        subst hA
        have hdr : bs.drop at_ = d :: bs.drop (at_ + 1) := drop_cons hd
        have hu2 := HU.out
        rw [hdr] at hu2
        have hd256 : d.toNat < 256 := d.toNat_lt
        by_cases h7 : kk = 7
        · subst h7
          by_cases h16 : d.toNat < 16
          · have h16b : decide ((16 : Int) ≤ (d.toNat : Int)) = false := by simp; omega
            by_cases hz : d.toNat = 0
            · have hzb : ((d.toNat : Int) == 0) = true := by simp; omega
              have hr := rNum_err (hu2.form (by omega))
              have HR := Lib.hid hr
              clear hd hu hu2 hr hdr
              go_wp2
              go_quiet (fail)
              go_wp2
              go_quiet (fail)
              go_wp2
              go_ret
              refine ⟨by rw [HR.out]; rfl, ?_, ((hkept.drewN _).setCell (p := ⟨g, 1, none⟩) (fun _ => rfl) _).setCell (p := ⟨g, 2, none⟩) (fun _ => rfl) _⟩
              rw [HR.out]
              exact ⟨_, bs, c, at_ + 1, by omega, hmax, hc, blk_f2 (blk_f1 HG2.out), (Seq.far (Seq.far hs2 1 _) 2 _), fun h => absurd h (by decide)⟩
            · have hzb : ((d.toNat : Int) == 0) = false := by simp; omega
              have hd128 : d.toNat < 128 := by omega
              have hr := rNum_ok (hu2.last (by omega) hd128)
              have hsum : (nn : Int) + (d.toNat : Int) % 128 * 562949953421312 = ((nn + d.toNat % 128 * 128 ^ 7 : Nat) : Int) := by
                rw [show 128 ^ 7 = 562949953421312 from by decide]; omega
              have HR := Lib.hid hr
              have HS := Lib.hid hsum
              clear hd hu hu2 hr hdr hsum
              go_wp2
              go_quiet (fail)
              go_wp2
              go_quiet (fail)
              go_wp2
              go_ret
              refine ⟨by rw [HR.out]; first | exact congrArg (fun z => Ending.returned (.int .i64 z)) HS.out | skip, ?_, (hkept.drewN _).setCell (p := ⟨g, 1, none⟩) (fun _ => rfl) _⟩
              rw [HR.out]
              exact ⟨_, bs, c, at_ + 1, by omega, hmax, hc, blk_f1 HG2.out, Seq.far hs2 1 _, fun _ => rfl⟩
          · have h16b : decide ((16 : Int) ≤ (d.toNat : Int)) = true := by simp; omega
            have hr := rNum_err (hu2.form (by omega))
            have HR := Lib.hid hr
            clear hd hu hu2 hr hdr
            go_wp2
            go_quiet (fail)
            go_wp2
            go_quiet (fail)
            go_wp2
            go_ret
            refine ⟨by rw [HR.out]; rfl, ?_, ((hkept.drewN _).setCell (p := ⟨g, 1, none⟩) (fun _ => rfl) _).setCell (p := ⟨g, 2, none⟩) (fun _ => rfl) _⟩
            rw [HR.out]
            exact ⟨_, bs, c, at_ + 1, by omega, hmax, hc, blk_f2 (blk_f1 HG2.out), (Seq.far (Seq.far hs2 1 _) 2 _), fun h => absurd h (by decide)⟩
        · have h7b : ((kk : Int) == 7) = false := by simp; omega
          by_cases hk0 : 0 < kk
          · have hk0b : decide ((0 : Int) < (kk : Int)) = true := by simp; omega
            by_cases hz : d.toNat = 0
            · have hzb : ((d.toNat : Int) == 0) = true := by simp; omega
              have hr := rNum_err (hu2.form (by omega))
              have HR := Lib.hid hr
              clear hd hu hu2 hr hdr
              go_wp2
              go_quiet (fail)
              go_wp2
              go_quiet (fail)
              go_wp2
              go_ret
              refine ⟨by rw [HR.out]; rfl, ?_, ((hkept.drewN _).setCell (p := ⟨g, 1, none⟩) (fun _ => rfl) _).setCell (p := ⟨g, 2, none⟩) (fun _ => rfl) _⟩
              rw [HR.out]
              exact ⟨_, bs, c, at_ + 1, by omega, hmax, hc, blk_f2 (blk_f1 HG2.out), (Seq.far (Seq.far hs2 1 _) 2 _), fun h => absurd h (by decide)⟩
            · have hzb : ((d.toNat : Int) == 0) = false := by simp; omega
              by_cases hd128 : d.toNat < 128
              · skip
                have hr := rNum_ok (hu2.last (by omega) hd128)
                have hsum := (num_sum (d := d.toNat) hk hn).1
                have HR := Lib.hid hr
                have HS := Lib.hid hsum
                clear hd hu hu2 hr hdr hsum
                go_wp2
                go_quiet (fail)
                go_wp2
                go_quiet (fail)
                go_wp2
                go_ret
                refine ⟨by rw [HR.out]; first | exact congrArg (fun z => Ending.returned (.int .i64 z)) HS.out | skip, ?_, (hkept.drewN _).setCell (p := ⟨g, 1, none⟩) (fun _ => rfl) _⟩
                rw [HR.out]
                exact ⟨_, bs, c, at_ + 1, by omega, hmax, hc, blk_f1 HG2.out, Seq.far hs2 1 _, fun _ => rfl⟩
              · skip
                have hu3 := hu2.step (by omega) (by omega)
                have hsum := num_sum (d := d.toNat) hk hn
                have HU3 := Lib.hid hu3
                have HS := Lib.hid hsum
                clear hd hu hu2 hdr hsum hu3
                go_wp2
                go_quiet (fail)
                go_wp2
                go_quiet (fail)
                go_wp2
                go_roundw
                case rel => exact ⟨kk + 1, _, at_ + 1, by omega, HS.out.2, by omega, congrArg (Value.int .i64) HS.out.1, by go_num, blk_f1 HG2.out, (hkept.drewN _).setCell (p := ⟨g, 1, none⟩) (fun _ => rfl) _, HU3.out⟩
                case measure => simp [intOf]; omega
          · have hk0b : decide ((0 : Int) < (kk : Int)) = false := by simp; omega
            by_cases hd128 : d.toNat < 128
            · skip
              have hr := rNum_ok (hu2.last (by omega) hd128)
              have hsum := (num_sum (d := d.toNat) hk hn).1
              have HR := Lib.hid hr
              have HS := Lib.hid hsum
              clear hd hu hu2 hr hdr hsum
              go_wp2
              go_quiet (fail)
              go_wp2
              go_quiet (fail)
              go_wp2
              go_ret
              refine ⟨by rw [HR.out]; first | exact congrArg (fun z => Ending.returned (.int .i64 z)) HS.out | skip, ?_, (hkept.drewN _).setCell (p := ⟨g, 1, none⟩) (fun _ => rfl) _⟩
              rw [HR.out]
              exact ⟨_, bs, c, at_ + 1, by omega, hmax, hc, blk_f1 HG2.out, Seq.far hs2 1 _, fun _ => rfl⟩
            · skip
              have hu3 := hu2.step (by omega) (by omega)
              have hsum := num_sum (d := d.toNat) hk hn
              have HU3 := Lib.hid hu3
              have HS := Lib.hid hsum
              clear hd hu hu2 hdr hsum hu3
              go_wp2
              go_quiet (fail)
              go_wp2
              go_quiet (fail)
              go_wp2
              go_roundw
              case rel => exact ⟨kk + 1, _, at_ + 1, by omega, HS.out.2, by omega, congrArg (Value.int .i64) HS.out.1, by go_num, blk_f1 HG2.out, (hkept.drewN _).setCell (p := ⟨g, 1, none⟩) (fun _ => rfl) _, HU3.out⟩
              case measure => simp [intOf]; omega
      · have hae : at_ = bs.length := by omega
        have hu2 := HU.out
        rw [hae, List.drop_eq_nil_of_le (Nat.le_refl _)] at hu2
        have hr := rNum_err hu2.trunc
        have HR := Lib.hid hr
        have heq : ((at_ : Int) == (bs.length : Int)) = true := by simp; omega
        clear hr hu2
        clear hae
        go_wp2
        go_quiet (fail)
        go_wp2
        go_ret
        refine ⟨by rw [HR.out]; rfl, ?_, (hkept.drewN _).setCell (p := ⟨g, 2, none⟩) (fun _ => rfl) _⟩
        rw [HR.out]
        exact ⟨A, bs, c, at_, ha, hmax, hc, blk_f2 HG2.out, Seq.far hs2 2 _, fun h => absurd h (by decide)⟩
  · have hb : (er == 0) = false := by simpa using he
    have hb2 : (er != 0) = true := by simpa using he
    have HE := Lib.hid he
    have HH := Lib.hid h
    clear he h
    go_enter Try.func34, Try.ntmps34
    go_wp2_with (go_at_call 28; refine (err_any g l er _ HH.out).mono ?_; rintro e w1 ⟨rfl, rfl⟩)
    go_ret
    exact ⟨by rw [rNum, if_neg HE.out]; rfl, by rw [rNum, if_neg HE.out]; exact HH.out, Kept.refl _ _⟩
end Go.Proofs.Ytbffbdibbmfkaaa
