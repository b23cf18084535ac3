/- The statement WireCut: its walk. -/
import Derived.Test.YtaehpaeocdlegaaRows5
import Derived.Test.YtaehpaeocdlegaaFlip
import Derived.Test.YtaehpaeocdlegaaWorks
import Derived.Deep.DeepCutAuto
namespace Go.Proofs.Ytaehpaeocdlegaa
open Go.RowKit

/-- where the first j rows end -/
def off (rs : List RowV) (j : Nat) : Nat := (encRows (rs.take j)).length
def offs (rs : List RowV) (k : Nat) : List Int := (List.range k).map fun j => (off rs (j + 1) : Int)
theorem offs_succ (rs : List RowV) (k : Nat) : i64s (offs rs k) ++ [.int .i64 (off rs (k + 1) : Int)] = i64s (offs rs (k + 1)) := by
  simp [offs, i64s, List.range_succ]
theorem offs_at (rs : List RowV) (k j : Nat) (h : j < k) : (i64s (offs rs k))[j]? = some (.int .i64 (off rs (j + 1) : Int)) := by
  simp [offs, i64s, h]
theorem off_succ {rs : List RowV} {j : Nat} {r : RowV} {e : List UInt8} (hr : rs[j]? = some r) (he : r.enc = .ok e) : off rs (j + 1) = off rs j + e.length := by
  rw [off, encRows_take hr he, List.length_append, off]
theorem seq_grown {w w' : World} {row : Option Nat} {A : Option Addr} {n : Nat} {xs : List Value} (h : Seq w w.heap.size A n xs) (hg : w.grownBy w' row) (hne : ∀ a, A = some a → row ≠ some a.block) : Seq w' w'.heap.size A n xs := by
  refine ⟨h.1, fun hn => ?_⟩
  obtain ⟨b, o, e, hb, hc⟩ := h.2 hn
  refine ⟨b, o, e, Nat.lt_of_lt_of_le hb hg.size, fun j u hu => ?_⟩
  rw [← hc j u hu]
  exact World.cell?_of_block (w := w) (hg.block b hb fun h => hne _ e h.symm)

theorem seq_takeB {w : World} {B n k : Nat} {A : Option Addr} {l : List UInt8} (h : Seq w B A n (u8s l)) (hk : k ≤ n) : Seq w B A k (u8s (l.take k)) := by
  have := h.take hk
  simpa [u8s] using this

set_option maxRecDepth 100000 in
set_option maxHeartbeats 8000000 in
theorem wireCut_law (A : Option Addr) (n c : Nat) (rs : List RowV) (at_ : Int) (w : World)
    (hr : RowsIn w w.heap.size A n rs) (hn : (n : Int) ≤ 9223372036854775807) :
    Calls Try.prog 6 #[.slice A n c, .int .i64 at_] w fun e w' => e = .returned (.bool true) ∧ Below w.heap.size w w' := by
  have HR := Lib.hid hr
  clear hr
  obtain ⟨i0, hi, hz0, hz1, hz2⟩ := info_parts info_int
  go_enter Try.func6, Try.ntmps6
  go_wp2_with fail
  go_loopw [5, 6, 7] (fun b v i wr => ∃ (k nb : Nat) (A' : Option Addr) (c' : Nat), k ≤ n ∧ k ≤ 20 ∧ i = .int .i64 k ∧ b = .slice A' nb c' ∧ nb ≤ c' ∧ (c' : Int) ≤ 9223372036854775807 ∧ nb ≤ k * 600000000 ∧ Seq wr wr.heap.size A' nb (u8s (encRows (rs.take k))) ∧ wr.ownsRow w.heap.size 3 1 v k (i64s (offs rs k)) ∧ (∀ a, A' = some a → v.ownBlock ≠ some a.block) ∧ Below w.heap.size w wr) (fun _ _ i _ => 20 - (intOf i).toNat)
  case atStart => exact ⟨0, 0, none, 0, by omega, by omega, rfl, rfl, by omega, by omega, by omega, Seq.nil_, World.ownsRow_nil _ _ _ _, fun a h => by simp at h, Below.refl _ _⟩
  case round =>
    obtain ⟨k, nb, A', c', hk, hk20, rfl, rfl, hnc, hc'm, hnb, hsq, hown, hne, hbr⟩ := hrel
    have hsz := hbr.size
    by_cases hlt : k < n
    · have hltb : decide ((k : Int) < (n : Int)) = true := by simp; omega
      by_cases h20 : k < 20
      · have h20b : decide ((k : Int) < 20) = true := by simp; omega
        obtain ⟨hrl, hrok, hrc2⟩ := HR.out.below hbr
        obtain ⟨b, o, hA, hbB, hcell⟩ := hrc2 (by omega)
        have hkr : k < rs.length := by omega
        obtain ⟨r, hrk⟩ : ∃ r, rs[k]? = some r := ⟨_, List.getElem?_eq_getElem hkr⟩
        obtain ⟨d0, d1, d2, d3⟩ := hcell k r hrk
        obtain ⟨hrs, hrn, hrz⟩ := hrok k r hrk
        obtain ⟨en, hen, hen1, hen2⟩ := rowEnc_ok r.kind r.num r.s r.l
        have hput := put_any A' nb c' (encRows (rs.take k)) r.kind r.num r.s r.A r.n r.c r.l wr hsq (by omega) (hrs.more hsz) hrn hrz en hen
        have hls : (encRows (rs.take k)).length = nb := by simpa [u8s] using hsq.1
        have htk := encRows_take hrk hen
        have HTK := Lib.hid htk
        obtain ⟨nn, hnn⟩ : ∃ nn, nn = off rs (k + 1) := ⟨_, rfl⟩
        have hnn2 : nn = nb + en.length := by rw [hnn, off_succ hrk hen, off, hls]
        have HP := Lib.hid hput
        have HO := Lib.hid hown
        have HNE := Lib.hid hne
        have HNN := Lib.hid hnn
        have HNM := Lib.hid hnn2
        subst hA
        clear hput hrk hen hsq hcell hrok hrs hrl hrc2 hown hne hnn hls htk hnn2
        go_wp2_with fail
        refine HP.out.mono ?_
        rintro e w3 ⟨ho3, hb3⟩
        obtain ⟨v3, rfl, hown3⟩ := ho3
        rw [← HTK.out, show (encRows (rs.take (k + 1))).length = nn from HNN.out.symm] at hown3
        obtain ⟨A4, c4, rfl, hc4, hm4, hs4⟩ := own_shape hown3
        obtain ⟨gi, hgi, hgb, hgs⟩ := own_some hown3 (by have := HNM.out; omega)
        have HG4 := Lib.hid hgi
        have HS4 := Lib.hid hs4
        have hO3 := own_belowR HO.out hb3
        have HOL := Lib.hid HO.out.lt
        have hsz3 : w.heap.size ≤ w3.heap.size := by have := hb3.size; omega
        clear hgi hs4 hown3
        go_wp2_with (at_builtin; refine wpList_append_one w3 rfl (.tmp 35) (.tmp 38) 23 rfl w.heap.size 3 i0 _ 8 Try.underlying23 hi hz0 hz1 hz2 rfl u6 k (i64s (offs rs k)) rfl hO3 (.int .i64 (nn : Int)) rfl rfl (by simp only [maxLen]; omega) (by omega) hsz3 ?_; intro v5 w5 hown5 hg5 hat5 hb5)
        go_roundw
        case rel => exact ⟨k + 1, nn, A4, c4, by omega, by omega, by go_num, rfl, hc4, by simp only [maxLen] at hm4; omega, by have := HNM.out; omega, seq_grown HS4.out hg5 (fun a ha h => by
            rw [HG4.out] at ha; injection ha with ha; subst ha
            have := (HOL.out _ h).2; simp at this; omega), by rw [← offs_succ, ← HNN.out]; exact hown5, fun a ha h => by
            rw [HG4.out] at ha; injection ha with ha; subst ha
            rcases hat5 with h5 | h5
            · rw [h5] at h; have := (HOL.out _ h).2; simp at this; omega
            · rw [h5] at h; injection h with h; simp at h; omega, (hbr.trans (hb3.mono hsz)).trans hb5⟩
        case measure => simp [intOf]; omega
      · have h20b : decide ((k : Int) < 20) = false := by simp; omega
        obtain ⟨kk, hkk, hkk0⟩ : ∃ kk : Nat, bring at_ ((nb : Int) + 1) = (kk : Int) ∧ kk ≤ nb := by
          have := bring_nat at_ ((nb : Int) + 1) (by omega)
          exact ⟨(bring at_ ((nb : Int) + 1)).toNat, by omega, by omega⟩
        have hbri := fun W => bring_any at_ ((nb : Int) + 1) W (by omega) (by omega)
        rw [hkk] at hbri
        have HBR := Lib.hid hbri
        obtain ⟨AE, cE, rfl, hcE, hmE, hsE⟩ := own_shape hown
        have hls : (encRows (rs.take k)).length = nb := by simpa [u8s] using hsq.1
        have HLS := Lib.hid hls
        have HSE := Lib.hid hsE
        have hst : Seq wr wr.heap.size A' kk (u8s ((encRows (rs.take k)).take kk)) := seq_takeB hsq hkk0
        have HSQ := Lib.hid hst
        have hkc : (kk : Int) ≤ (c' : Int) := by omega
        clear hkk hbri hown hsE hsq hne hls hst
        go_wp2_with fail
        refine (HBR.out _).mono ?_
        rintro e w3 ⟨rfl, rfl⟩
        go_wp2_with fail
        refine (newReader_any A' kk c' ((encRows (rs.take k)).take kk) wr HSQ.out (by omega)).mono ?_
        rintro e w4 ⟨g, rfl, hgw, hrd, hb4⟩
        have hsz4 := hb4.size
        have hgw' : w.heap.size ≤ g := by omega
        have HB4 := Lib.hid hb4
        have HRD := Lib.hid hrd
        have HBR2 := Lib.hid hbr
        clear hrd hb4 hbr
        go_wp2_with fail
        go_loopw [12] (fun i wv => ∃ (j : Nat) (lk : List UInt8) (er : Int), j ≤ k ∧ i = .int .i64 j ∧ WRd wv g lk er ∧ ((er = 0 ∧ off rs j ≤ kk ∧ lk = (encRows ((rs.take k).drop j)).take (kk - off rs j)) ∨ (er = 3 ∧ lk = [] ∧ kk < off rs j)) ∧ Below wr.heap.size wr wv) (fun i _ => k - (intOf i).toNat)
        case atStart => exact ⟨0, _, 0, by omega, rfl, HRD.out, .inl ⟨rfl, by simp [off, encRows], by simp [off, encRows]⟩, HB4.out⟩
        case round =>
          obtain ⟨j, lk, er, hj, rfl, hrj, hor, hbj⟩ := hrel
          have hbw := HBR2.out.trans (hbj.mono hsz)
          have hszj := hbj.size
          have hszw := hbw.size
          by_cases hjk : j < k
          · have hltj : decide ((j : Int) < (k : Int)) = true := by simp; omega
            obtain ⟨hrl, hrok, hrc2⟩ := HR.out.below hbw
            obtain ⟨b, o, hA, hbB, hcell⟩ := hrc2 (by omega)
            have hjr : j < rs.length := by omega
            obtain ⟨r, hrk⟩ : ∃ r, rs[j]? = some r := ⟨_, List.getElem?_eq_getElem hjr⟩
            obtain ⟨d0, d1, d2, d3⟩ := hcell j r hrk
            obtain ⟨hrs, hrn, hrz⟩ := hrok j r hrk
            obtain ⟨en, hen, hen1, hen2⟩ := rowEnc_ok r.kind r.num r.s r.l
            have hrk2 : (rs.take k)[j]? = some r := by rw [List.getElem?_take_of_lt hjk]; exact hrk
            obtain ⟨be, oe, ue, hAE, hbE, hue, hcE'⟩ := (HSE.out.below hbj).at_ hjk
            rw [offs_at rs k j hjk] at hue
            injection hue with hue
            subst hue
            have hos := off_succ hrk hen
            obtain ⟨X, hX⟩ : ∃ X, X = off rs (j + 1) := ⟨_, rfl⟩
            rw [← hX] at hcE' hos
            subst hA hAE
            by_cases hXk : (X : Int) ≤ (kk : Int)
            · rcases hor with ⟨rfl, ho1, rfl⟩ | ⟨_, _, h3⟩
              · have hlk : (encRows ((rs.take k).drop j)).take (kk - off rs j) = en ++ (encRows ((rs.take k).drop (j + 1))).take (kk - X) := by
                  rw [encRows_drop hrk2 hen, List.take_append, List.take_of_length_le (by omega), show kk - off rs j - en.length = kk - X from by omega]
                rw [hlk] at hrj
                have hgot := got_true g en _ r.kind r.num r.s r.A r.n r.c r.l _ hrj (hrs.more hgw') hrn hrz hen
                have HGO := Lib.hid hgot
                have HX := Lib.hid hX
                clear hgot hrj hrk hrk2 hen hcell hrok hrs hrl hrc2 hlk hos hX ho1
                go_wp2_with fail
                refine HGO.out.mono ?_
                rintro e w6 ⟨rfl, hr6, hk6⟩
                have HR6 := Lib.hid hr6
                clear hr6
                go_wp2_with fail
                refine (err_any g _ 0 _ HR6.out).mono ?_
                rintro e w7 ⟨rfl, rfl⟩
                go_wp2_with fail
                go_roundw
                case rel => exact ⟨j + 1, _, 0, by omega, by go_num, HR6.out, .inl ⟨rfl, by rw [← HX.out]; omega, by rw [← HX.out]⟩, hbj.trans (hk6.below hszj (fun i hi h1 => by omega))⟩
                case measure => simp [intOf]; omega
              · exfalso; omega
            · have hdead : Calls Try.prog 32 #[.pointer (some ⟨g, 0, none⟩), .agg #[.int .i64 r.kind, .int .i64 r.num, .string r.s, .slice r.A r.n r.c]] wr fun e w' => (∃ b, e = .returned (.bool b)) ∧ WRd w' g [] 3 ∧ Kept (· = g) wr w' := by
                rcases hor with ⟨rfl, ho1, rfl⟩ | ⟨rfl, rfl, h3⟩
                · rw [encRows_drop hrk2 hen, List.take_append, show kk - off rs j - en.length = 0 from by omega, List.take_zero, List.append_nil] at hrj
                  exact got_cut g en (kk - off rs j) r.kind r.num r.s r.A r.n r.c r.l _ hrj (hrs.more hgw') hrn hrz hen (by omega)
                · exact got_dead g r.kind r.num r.s r.A r.n r.c r.l _ hrj (hrs.more hgw') hrn hrz
              have HGO := Lib.hid hdead
              have HX := Lib.hid hX
              have hnx : (kk : Int) < (X : Int) := by omega
              clear hdead hrj hrk hrk2 hen hcell hrok hrs hrl hrc2 hos hX hor
              go_wp2_with fail
              refine HGO.out.mono ?_
              rintro e w6 ⟨⟨bb, rfl⟩, hr6, hk6⟩
              have HR6 := Lib.hid hr6
              have HK6 := Lib.hid hk6
              clear hr6 hk6
              go_wp2_with fail
              refine (err_any g _ 3 _ HR6.out).mono ?_
              rintro e w7 ⟨rfl, rfl⟩
              go_wp2_with fail
              refine (left_any g [] 3 _ (by exact HR6.out)).mono ?_
              rintro e w7 ⟨rfl, q, rfl⟩
              go_wp2_with fail
              refine (num_any g [] 3 _ (by exact HR6.out)).mono ?_
              rintro e w7 ⟨rfl, hr7, hk7⟩
              have HR7 : Hid (WRd w7 g [] 3) := Lib.hid hr7
              have HK7 := Lib.hid hk7
              clear hr7 hk7
              go_wp2_with fail
              refine (text_any g [] 3 _ (by exact HR7.out)).mono ?_
              rw [show rText [] 3 = ((⟨#[]⟩ : ByteArray), [], 3) from rfl]
              rintro e w8 ⟨rfl, hr8, hk8⟩
              have HR8 : Hid (WRd w8 g [] 3) := Lib.hid hr8
              have HK8 := Lib.hid hk8
              clear hr8 hk8
              go_wp2_with fail
              refine (Nums_any g [] 3 _ (by exact HR8.out)).mono ?_
              rw [show rList rNum [] 3 = ([], [], 3) from rfl]
              rintro e w9 ⟨v9, rfl, hown9, hr9, hk9⟩
              obtain ⟨A9, c9, rfl, _, _, _⟩ := own_shape hown9
              have HR9 : Hid (WRd w9 g [] 3) := Lib.hid hr9
              have HK9 := Lib.hid hk9
              clear hr9 hk9 hown9
              go_wp2_with fail
              refine (Texts_any g [] 3 _ (by exact HR9.out)).mono ?_
              rw [show rList rText [] 3 = ([], [], 3) from rfl]
              rintro e w10 ⟨v10, rfl, hown10, hr10, hk10⟩
              obtain ⟨A10, c10, rfl, _, _, _⟩ := own_shape hown10
              have HR10 : Hid (WRd w10 g [] 3) := Lib.hid hr10
              have HK10 := Lib.hid hk10
              clear hr10 hk10 hown10
              go_wp2_with fail
              refine (end_any g [] 3 _ (by exact HR10.out)).mono ?_
              rw [show rEnd [] 3 = (3, [], 3) from rfl]
              rintro e w11 ⟨rfl, hr11, hk11⟩
              have HR11 : Hid (WRd w11 g [] 3) := Lib.hid hr11
              have HK11 := Lib.hid hk11
              clear hr11 hk11
              go_wp2_with fail
              go_roundw
              case rel => exact ⟨j + 1, [], 3, by omega, by go_num, HR11.out, .inr ⟨rfl, rfl, by rw [← HX.out]; omega⟩, by
                have h7 : Kept (· = g) w6 w7 := ⟨HK7.out.os, HK7.out.tape, HK7.out.output, HK7.out.size, HK7.out.block⟩
                exact hbj.trans (Kept.below ((((((HK6.out.same h7).same HK8.out).same HK9.out).same HK10.out).same HK11.out)) hszj (fun i hi h1 => by omega))⟩
              case measure => simp [intOf]; omega
          · have hjk2 : decide ((j : Int) < (k : Int)) = false := by simp; omega
            clear hor hrj
            go_wp2_with fail
            refine (works_any _).mono ?_
            rintro e w6 ⟨rfl, hb6⟩
            go_wp2_with fail
            go_ret
            exact ⟨rfl, hbw.trans (hb6.mono hszw)⟩
    · have hltb : decide ((k : Int) < (n : Int)) = false := by simp; omega
      obtain ⟨kk, hkk, hkk0⟩ : ∃ kk : Nat, bring at_ ((nb : Int) + 1) = (kk : Int) ∧ kk ≤ nb := by
        have := bring_nat at_ ((nb : Int) + 1) (by omega)
        exact ⟨(bring at_ ((nb : Int) + 1)).toNat, by omega, by omega⟩
      have hbri := fun W => bring_any at_ ((nb : Int) + 1) W (by omega) (by omega)
      rw [hkk] at hbri
      have HBR := Lib.hid hbri
      obtain ⟨AE, cE, rfl, hcE, hmE, hsE⟩ := own_shape hown
      have hls : (encRows (rs.take k)).length = nb := by simpa [u8s] using hsq.1
      have HLS := Lib.hid hls
      have HSE := Lib.hid hsE
      have hst : Seq wr wr.heap.size A' kk (u8s ((encRows (rs.take k)).take kk)) := seq_takeB hsq hkk0
      have HSQ := Lib.hid hst
      have hkc : (kk : Int) ≤ (c' : Int) := by omega
      clear hkk hbri hown hsE hsq hne hls hst
      go_wp2_with fail
      refine (HBR.out _).mono ?_
      rintro e w3 ⟨rfl, rfl⟩
      go_wp2_with fail
      refine (newReader_any A' kk c' ((encRows (rs.take k)).take kk) wr HSQ.out (by omega)).mono ?_
      rintro e w4 ⟨g, rfl, hgw, hrd, hb4⟩
      have hsz4 := hb4.size
      have hgw' : w.heap.size ≤ g := by omega
      have HB4 := Lib.hid hb4
      have HRD := Lib.hid hrd
      have HBR2 := Lib.hid hbr
      clear hrd hb4 hbr
      go_wp2_with fail
      go_loopw [12] (fun i wv => ∃ (j : Nat) (lk : List UInt8) (er : Int), j ≤ k ∧ i = .int .i64 j ∧ WRd wv g lk er ∧ ((er = 0 ∧ off rs j ≤ kk ∧ lk = (encRows ((rs.take k).drop j)).take (kk - off rs j)) ∨ (er = 3 ∧ lk = [] ∧ kk < off rs j)) ∧ Below wr.heap.size wr wv) (fun i _ => k - (intOf i).toNat)
      case atStart => exact ⟨0, _, 0, by omega, rfl, HRD.out, .inl ⟨rfl, by simp [off, encRows], by simp [off, encRows]⟩, HB4.out⟩
      case round =>
        obtain ⟨j, lk, er, hj, rfl, hrj, hor, hbj⟩ := hrel
        have hbw := HBR2.out.trans (hbj.mono hsz)
        have hszj := hbj.size
        have hszw := hbw.size
        by_cases hjk : j < k
        · have hltj : decide ((j : Int) < (k : Int)) = true := by simp; omega
          obtain ⟨hrl, hrok, hrc2⟩ := HR.out.below hbw
          obtain ⟨b, o, hA, hbB, hcell⟩ := hrc2 (by omega)
          have hjr : j < rs.length := by omega
          obtain ⟨r, hrk⟩ : ∃ r, rs[j]? = some r := ⟨_, List.getElem?_eq_getElem hjr⟩
          obtain ⟨d0, d1, d2, d3⟩ := hcell j r hrk
          obtain ⟨hrs, hrn, hrz⟩ := hrok j r hrk
          obtain ⟨en, hen, hen1, hen2⟩ := rowEnc_ok r.kind r.num r.s r.l
          have hrk2 : (rs.take k)[j]? = some r := by rw [List.getElem?_take_of_lt hjk]; exact hrk
          obtain ⟨be, oe, ue, hAE, hbE, hue, hcE'⟩ := (HSE.out.below hbj).at_ hjk
          rw [offs_at rs k j hjk] at hue
          injection hue with hue
          subst hue
          have hos := off_succ hrk hen
          obtain ⟨X, hX⟩ : ∃ X, X = off rs (j + 1) := ⟨_, rfl⟩
          rw [← hX] at hcE' hos
          subst hA hAE
          by_cases hXk : (X : Int) ≤ (kk : Int)
          · rcases hor with ⟨rfl, ho1, rfl⟩ | ⟨_, _, h3⟩
            · have hlk : (encRows ((rs.take k).drop j)).take (kk - off rs j) = en ++ (encRows ((rs.take k).drop (j + 1))).take (kk - X) := by
                rw [encRows_drop hrk2 hen, List.take_append, List.take_of_length_le (by omega), show kk - off rs j - en.length = kk - X from by omega]
              rw [hlk] at hrj
              have hgot := got_true g en _ r.kind r.num r.s r.A r.n r.c r.l _ hrj (hrs.more hgw') hrn hrz hen
              have HGO := Lib.hid hgot
              have HX := Lib.hid hX
              clear hgot hrj hrk hrk2 hen hcell hrok hrs hrl hrc2 hlk hos hX ho1
              go_wp2_with fail
              refine HGO.out.mono ?_
              rintro e w6 ⟨rfl, hr6, hk6⟩
              have HR6 := Lib.hid hr6
              clear hr6
              go_wp2_with fail
              refine (err_any g _ 0 _ HR6.out).mono ?_
              rintro e w7 ⟨rfl, rfl⟩
              go_wp2_with fail
              go_roundw
              case rel => exact ⟨j + 1, _, 0, by omega, by go_num, HR6.out, .inl ⟨rfl, by rw [← HX.out]; omega, by rw [← HX.out]⟩, hbj.trans (hk6.below hszj (fun i hi h1 => by omega))⟩
              case measure => simp [intOf]; omega
            · exfalso; omega
          · have hdead : Calls Try.prog 32 #[.pointer (some ⟨g, 0, none⟩), .agg #[.int .i64 r.kind, .int .i64 r.num, .string r.s, .slice r.A r.n r.c]] wr fun e w' => (∃ b, e = .returned (.bool b)) ∧ WRd w' g [] 3 ∧ Kept (· = g) wr w' := by
              rcases hor with ⟨rfl, ho1, rfl⟩ | ⟨rfl, rfl, h3⟩
              · rw [encRows_drop hrk2 hen, List.take_append, show kk - off rs j - en.length = 0 from by omega, List.take_zero, List.append_nil] at hrj
                exact got_cut g en (kk - off rs j) r.kind r.num r.s r.A r.n r.c r.l _ hrj (hrs.more hgw') hrn hrz hen (by omega)
              · exact got_dead g r.kind r.num r.s r.A r.n r.c r.l _ hrj (hrs.more hgw') hrn hrz
            have HGO := Lib.hid hdead
            have HX := Lib.hid hX
            have hnx : (kk : Int) < (X : Int) := by omega
            clear hdead hrj hrk hrk2 hen hcell hrok hrs hrl hrc2 hos hX hor
            go_wp2_with fail
            refine HGO.out.mono ?_
            rintro e w6 ⟨⟨bb, rfl⟩, hr6, hk6⟩
            have HR6 := Lib.hid hr6
            have HK6 := Lib.hid hk6
            clear hr6 hk6
            go_wp2_with fail
            refine (err_any g _ 3 _ HR6.out).mono ?_
            rintro e w7 ⟨rfl, rfl⟩
            go_wp2_with fail
            refine (left_any g [] 3 _ (by exact HR6.out)).mono ?_
            rintro e w7 ⟨rfl, q, rfl⟩
            go_wp2_with fail
            refine (num_any g [] 3 _ (by exact HR6.out)).mono ?_
            rintro e w7 ⟨rfl, hr7, hk7⟩
            have HR7 : Hid (WRd w7 g [] 3) := Lib.hid hr7
            have HK7 := Lib.hid hk7
            clear hr7 hk7
            go_wp2_with fail
            refine (text_any g [] 3 _ (by exact HR7.out)).mono ?_
            rw [show rText [] 3 = ((⟨#[]⟩ : ByteArray), [], 3) from rfl]
            rintro e w8 ⟨rfl, hr8, hk8⟩
            have HR8 : Hid (WRd w8 g [] 3) := Lib.hid hr8
            have HK8 := Lib.hid hk8
            clear hr8 hk8
            go_wp2_with fail
            refine (Nums_any g [] 3 _ (by exact HR8.out)).mono ?_
            rw [show rList rNum [] 3 = ([], [], 3) from rfl]
            rintro e w9 ⟨v9, rfl, hown9, hr9, hk9⟩
            obtain ⟨A9, c9, rfl, _, _, _⟩ := own_shape hown9
            have HR9 : Hid (WRd w9 g [] 3) := Lib.hid hr9
            have HK9 := Lib.hid hk9
            clear hr9 hk9 hown9
            go_wp2_with fail
            refine (Texts_any g [] 3 _ (by exact HR9.out)).mono ?_
            rw [show rList rText [] 3 = ([], [], 3) from rfl]
            rintro e w10 ⟨v10, rfl, hown10, hr10, hk10⟩
            obtain ⟨A10, c10, rfl, _, _, _⟩ := own_shape hown10
            have HR10 : Hid (WRd w10 g [] 3) := Lib.hid hr10
            have HK10 := Lib.hid hk10
            clear hr10 hk10 hown10
            go_wp2_with fail
            refine (end_any g [] 3 _ (by exact HR10.out)).mono ?_
            rw [show rEnd [] 3 = (3, [], 3) from rfl]
            rintro e w11 ⟨rfl, hr11, hk11⟩
            have HR11 : Hid (WRd w11 g [] 3) := Lib.hid hr11
            have HK11 := Lib.hid hk11
            clear hr11 hk11
            go_wp2_with fail
            go_roundw
            case rel => exact ⟨j + 1, [], 3, by omega, by go_num, HR11.out, .inr ⟨rfl, rfl, by rw [← HX.out]; omega⟩, by
              have h7 : Kept (· = g) w6 w7 := ⟨HK7.out.os, HK7.out.tape, HK7.out.output, HK7.out.size, HK7.out.block⟩
              exact hbj.trans (Kept.below ((((((HK6.out.same h7).same HK8.out).same HK9.out).same HK10.out).same HK11.out)) hszj (fun i hi h1 => by omega))⟩
            case measure => simp [intOf]; omega
        · have hjk2 : decide ((j : Int) < (k : Int)) = false := by simp; omega
          clear hor hrj
          go_wp2_with fail
          refine (works_any _).mono ?_
          rintro e w6 ⟨rfl, hb6⟩
          go_wp2_with fail
          go_ret
          exact ⟨rfl, hbw.trans (hb6.mono hszw)⟩
end Go.Proofs.Ytaehpaeocdlegaa
