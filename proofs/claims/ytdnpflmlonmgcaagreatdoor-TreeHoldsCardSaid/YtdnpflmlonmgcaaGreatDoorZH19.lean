/- Contracts and plain facts that the theorem rests on: TAtom, TExpr, TDecl, TDecl2, TFn, TMod. -/
import Derived.Test.YtdnpflmlonmgcaaGreatDoorZH18
set_option linter.unusedSimpArgs false
set_option linter.unusedVariables false
namespace Go.Proofs.YtdnpflmlonmgcaaGreatDoor
open Go.RowKit

theorem Mde.call_from {w w1 : World} {g k d : Nat} {ws : List Wd} {a b c e f : Value} {nds : List Nd} {D : Nat → Prop} (hM : Mde w w1 g ws k d a b c e f nds D) (hE : EndW ws) {Rx Rt : Nat → List Nd → Res} (hR : Rule 88 g ws d a b c e Rx (OkP ws)) (hG : GoodR ws Rx)
    (hRt : Rule 85 g ws d a b c e Rt (OkP ws)) (hGt : GoodR ws Rt) (md nm : ByteArray) (hok : OkP ws k nds) :
    Calls Tryz.prog 114 #[.pointer (some ⟨g, 0, none⟩), .string md, .string nm] w1 fun r w2 => Out w g ws d a b c e f D (callR ws Rx Rt md nm k nds) r w2 := by
  obtain ⟨⟨f1, h1, hn1, hm1⟩, hk1⟩ := hM
  exact (call_any g ws hE d a b c e Rx Rt hR hG hRt hGt md nm w1 f1 k nds _ h1 hn1 hok).mono fun _ _ ho => ho.behind hk1 hm1

set_option maxRecDepth 100000 in
set_option maxHeartbeats 4000000 in
theorem varOrCall_any (g : Nat) (ws : List Wd) (hE : EndW ws) (d : Nat) (a b c e : Value) (Rx Rt : Nat → List Nd → Res) (hR : Rule 88 g ws d a b c e Rx (OkP ws)) (hG : GoodR ws Rx)
    (hRt : Rule 85 g ws d a b c e Rt (OkP ws)) (hGt : GoodR ws Rt)
    (w : World) (f : Value) (k : Nat) (nds : List Nd) (D : Nat → Prop) (h : Stm w g ws k d a b c e f) (hn : Nds w g f nds D) (hok : OkP ws k nds) :
    Calls Tryz.prog 111 #[.pointer (some ⟨g, 0, none⟩)] w fun r w' => Out w g ws d a b c e f D (varOrCallR ws Rx Rt k nds) r w' := by
  have HM0 := Lib.hid (Mde.refl h hn)
  have HOK := Lib.hid hok
  have HR := Lib.hid hR
  have HG := Lib.hid hG
  have HRt := Lib.hid hRt
  have HGt := Lib.hid hGt
  have HE := Lib.hid hE
  have hlt := hok.lt
  have hrm := hok.room
  have hmf : ∀ (fn : Fn) (first cap : Array Value) (w : World), (Instr.makeFunc fn first cap).run Tryz.prog w = .ok (.func fn first cap) w := fun _ _ _ _ => rfl
  clear h hn hok hR hG hRt hGt hE
  go_enter Tryz.func111, Tryz.ntmps111
  go_wp2_with fail

  refine (HM0.out.name_from hlt).mono ?_
  intro r w1 hr
  by_cases hs : decide ((tok ws k).kind = 1) = true
  · rw [hs] at hr
    obtain ⟨rfl, hm⟩ := hr
    have HMw1 := Lib.hid hm
    have HSw1 := Lib.hid hs
    clear hs hm
    have hlt1 : k + 1 < ws.length := kind_next HE.out hlt (kd := 1) (by simpa using HSw1.out) (by decide)
    have HOK1 : Hid (OkP ws (k + 1) nds) := Lib.hid ⟨hlt1, hrm, HOK.out.ok⟩
    go_wp2_with fail

    refine (HMw1.out.take_from hlt1 ⟨#[58, 58]⟩).mono ?_
    rintro r w2 ⟨rfl, hm⟩
    by_cases hs : seesW (tok ws (k + 1)) ⟨#[58, 58]⟩ = true
    · rw [adv_yes hs] at hm
      have HMw2 := Lib.hid hm
      rw [hs]
      have HSw2 := Lib.hid hs
      clear hs hm
      have hlt2 := sees_next HE.out hlt1 HSw2.out
      go_wp2_with fail

      refine (HMw2.out.name_from hlt2).mono ?_
      intro r w3 hr
      by_cases hs : decide ((tok ws (k + 2)).kind = 1) = true
      · rw [hs] at hr
        obtain ⟨rfl, hm⟩ := hr
        have HMw3 := Lib.hid hm
        have HSw3 := Lib.hid hs
        clear hs hm
        have hlt3 : k + 3 < ws.length := kind_next HE.out hlt2 (kd := 1) (by simpa using HSw3.out) (by decide)
        have HOK3 : Hid (OkP ws (k + 3) nds) := Lib.hid ⟨hlt3, hrm, HOK.out.ok⟩
        go_wp2_with fail

        refine (HMw3.out.call_from HE.out HR.out HG.out HRt.out HGt.out (tok ws k).text (tok ws (k + 2)).text HOK3.out).mono ?_
        intro r w4 ho
        have HU : Hid (varOrCallR ws Rx Rt k nds = callR ws Rx Rt (tok ws k).text (tok ws (k + 2)).text (k + 3) nds) := by
          show _ = _
          rw [varOrCallR, if_pos (by simpa using HSw1.out), if_pos HSw2.out, if_pos (by simpa using HSw3.out)]
        rcases hres : callR ws Rx Rt (tok ws k).text (tok ws (k + 2)).text (k + 3) nds with ⟨at_, er⟩ | ⟨v, k', nds'⟩
        · rw [hres] at ho
          obtain ⟨rfl, hk9⟩ := ho
          exact And.intro rfl (Out.err (by rw [HU.out, hres]) hk9)
        · rw [hres] at ho
          obtain ⟨rfl, hm9⟩ := ho
          have HM9 := Lib.hid hm9
          have HRES9 := Lib.hid hres
          clear hres hm9
          go_wp2_with fail
          go_ret
          exact Out.done (by rw [HU.out, HRES9.out]) HM9.out
      · have hs2 : decide ((tok ws (k + 2)).kind = 1) = false := by simpa using hs
        rw [hs2] at hr
        obtain ⟨rfl, hk9⟩ := hr
        refine And.intro rfl (Out.err ?_ hk9)
        rw [varOrCallR, if_pos (by simpa using HSw1.out), if_pos HSw2.out, if_neg (by simpa using hs2)]
    · have hs2 : seesW (tok ws (k + 1)) ⟨#[58, 58]⟩ = false := by simpa using hs
      rw [adv_no hs2] at hm
      have HMw2 := Lib.hid hm
      rw [hs2]
      have HSw2 := Lib.hid hs2
      clear hs hs2 hm
      go_wp2_with fail

      refine (HMw2.out.sees_from hlt1 ⟨#[91]⟩).mono ?_
      rintro r w3 ⟨rfl, hm⟩
      have HMw3 := Lib.hid hm
      clear hm
      by_cases hs : seesW (tok ws (k + 1)) ⟨#[91]⟩ = true
      · rw [hs]
        have HSw3 := Lib.hid hs
        clear hs
        go_wp2_with fail

        refine (HMw3.out.call_from HE.out HR.out HG.out HRt.out HGt.out ⟨#[]⟩ (tok ws k).text HOK1.out).mono ?_
        intro r w4 ho
        have HU : Hid (varOrCallR ws Rx Rt k nds = callR ws Rx Rt ⟨#[]⟩ (tok ws k).text (k + 1) nds) := by
          show _ = _
          rw [varOrCallR, if_pos (by simpa using HSw1.out), if_neg (by rw [HSw2.out]; simp), if_pos HSw3.out]
        rcases hres : callR ws Rx Rt ⟨#[]⟩ (tok ws k).text (k + 1) nds with ⟨at_, er⟩ | ⟨v, k', nds'⟩
        · rw [hres] at ho
          obtain ⟨rfl, hk9⟩ := ho
          exact And.intro rfl (Out.err (by rw [HU.out, hres]) hk9)
        · rw [hres] at ho
          obtain ⟨rfl, hm9⟩ := ho
          have HM9 := Lib.hid hm9
          have HRES9 := Lib.hid hres
          clear hres hm9
          go_wp2_with fail
          go_ret
          exact Out.done (by rw [HU.out, HRES9.out]) HM9.out
      · have hs2 : seesW (tok ws (k + 1)) ⟨#[91]⟩ = false := by simpa using hs
        rw [hs2]
        have HSw3 := Lib.hid hs2
        clear hs hs2
        go_wp2_with fail

        refine (HMw3.out.sees_from hlt1 ⟨#[40]⟩).mono ?_
        rintro r w4 ⟨rfl, hm⟩
        have HMw4 := Lib.hid hm
        clear hm
        by_cases hs : seesW (tok ws (k + 1)) ⟨#[40]⟩ = true
        · rw [hs]
          have HSw4 := Lib.hid hs
          clear hs
          go_wp2_with fail

          refine (HMw4.out.call_from HE.out HR.out HG.out HRt.out HGt.out ⟨#[]⟩ (tok ws k).text HOK1.out).mono ?_
          intro r w5 ho
          have HU : Hid (varOrCallR ws Rx Rt k nds = callR ws Rx Rt ⟨#[]⟩ (tok ws k).text (k + 1) nds) := by
            show _ = _
            rw [varOrCallR, if_pos (by simpa using HSw1.out), if_neg (by rw [HSw2.out]; simp), if_neg (by rw [HSw3.out]; simp), if_pos HSw4.out]
          rcases hres : callR ws Rx Rt ⟨#[]⟩ (tok ws k).text (k + 1) nds with ⟨at_, er⟩ | ⟨v, k', nds'⟩
          · rw [hres] at ho
            obtain ⟨rfl, hk9⟩ := ho
            exact And.intro rfl (Out.err (by rw [HU.out, hres]) hk9)
          · rw [hres] at ho
            obtain ⟨rfl, hm9⟩ := ho
            have HM9 := Lib.hid hm9
            have HRES9 := Lib.hid hres
            clear hres hm9
            go_wp2_with fail
            go_ret
            exact Out.done (by rw [HU.out, HRES9.out]) HM9.out
        · have hs2 : seesW (tok ws (k + 1)) ⟨#[40]⟩ = false := by simpa using hs
          rw [hs2]
          have HSw4 := Lib.hid hs2
          clear hs hs2
          go_wp2_with fail

          refine (HMw4.out.add0_from hlt hrm 16 0 ⟨#[]⟩ (tok ws k).text).mono ?_
          intro r w5 ho
          have HU : Hid (varOrCallR ws Rx Rt k nds = addR ws (k + 1) nds ⟨16, 0, ⟨#[]⟩, (tok ws k).text, [], []⟩) := by
            show _ = _
            rw [varOrCallR, if_pos (by simpa using HSw1.out), if_neg (by rw [HSw2.out]; simp), if_neg (by rw [HSw3.out]; simp), if_neg (by rw [HSw4.out]; simp)]
          rcases hres : addR ws (k + 1) nds ⟨16, 0, ⟨#[]⟩, (tok ws k).text, [], []⟩ with ⟨at_, er⟩ | ⟨v, k', nds'⟩
          · rw [hres] at ho
            obtain ⟨rfl, hk9⟩ := ho
            exact And.intro rfl (Out.err (by rw [HU.out, hres]) hk9)
          · rw [hres] at ho
            obtain ⟨rfl, hm9⟩ := ho
            have HM9 := Lib.hid hm9
            have HRES9 := Lib.hid hres
            clear hres hm9
            go_wp2_with fail
            go_ret
            exact Out.done (by rw [HU.out, HRES9.out]) HM9.out
  · have hs2 : decide ((tok ws k).kind = 1) = false := by simpa using hs
    rw [hs2] at hr
    obtain ⟨rfl, hk9⟩ := hr
    refine And.intro rfl (Out.err ?_ hk9)
    rw [varOrCallR, if_neg (by simpa using hs2)]

set_option maxRecDepth 100000 in
set_option maxHeartbeats 4000000 in
theorem atom_any (g : Nat) (ws : List Wd) (hE : EndW ws) (d : Nat) (a b c e : Value) (Rx Rt : Nat → List Nd → Res) (hR : Rule 88 g ws d a b c e Rx (OkP ws)) (hG : GoodR ws Rx)
    (hRt : Rule 85 g ws d a b c e Rt (OkP ws)) (hGt : GoodR ws Rt)
    (w : World) (f : Value) (k : Nat) (nds : List Nd) (D : Nat → Prop) (h : Stm w g ws k d a b c e f) (hn : Nds w g f nds D) (hok : OkP ws k nds) :
    Calls Tryz.prog 110 #[.pointer (some ⟨g, 0, none⟩)] w fun r w' => Out w g ws d a b c e f D (atomR ws Rx Rt k nds) r w' := by
  have HM0 := Lib.hid (Mde.refl h hn)
  have HOK := Lib.hid hok
  have HR := Lib.hid hR
  have HG := Lib.hid hG
  have HRt := Lib.hid hRt
  have HGt := Lib.hid hGt
  have HE := Lib.hid hE
  have hlt := hok.lt
  have hrm := hok.room
  have hmf : ∀ (fn : Fn) (first cap : Array Value) (w : World), (Instr.makeFunc fn first cap).run Tryz.prog w = .ok (.func fn first cap) w := fun _ _ _ _ => rfl
  clear h hn hok hR hG hRt hGt hE
  go_enter Tryz.func110, Tryz.ntmps110
  go_wp2_with fail

  refine (HM0.out.has_from hlt 3).mono ?_
  rintro r w1 ⟨rfl, hm⟩
  have HMw1 := Lib.hid hm
  clear hm
  by_cases hs : decide ((tok ws k).kind = 3) = true
  · rw [hs]
    have HSw1 := Lib.hid hs
    clear hs
    have f2 := field_word2 (tok ws k)
    go_wp2_with fail

    refine (HMw1.out.word_from hlt 3).mono ?_
    intro r w2 hr
    by_cases hs : decide ((tok ws k).kind = 3) = true
    · rw [hs] at hr
      obtain ⟨rfl, hm⟩ := hr
      have HMw2 := Lib.hid hm
      have HSw2 := Lib.hid hs
      clear hs hm
      go_wp2_with fail

      refine (HMw2.out.add0_from hlt hrm 11 (tok ws k).num ⟨#[]⟩ ⟨#[]⟩).mono ?_
      intro r w3 ho
      have HU : Hid (atomR ws Rx Rt k nds = addR ws (k + 1) nds ⟨11, (tok ws k).num, ⟨#[]⟩, ⟨#[]⟩, [], []⟩) := by
        show _ = _
        rw [atomR, if_pos (by simpa using HSw1.out)]
      rcases hres : addR ws (k + 1) nds ⟨11, (tok ws k).num, ⟨#[]⟩, ⟨#[]⟩, [], []⟩ with ⟨at_, er⟩ | ⟨v, k', nds'⟩
      · rw [hres] at ho
        obtain ⟨rfl, hk9⟩ := ho
        exact And.intro rfl (Out.err (by rw [HU.out, hres]) hk9)
      · rw [hres] at ho
        obtain ⟨rfl, hm9⟩ := ho
        have HM9 := Lib.hid hm9
        have HRES9 := Lib.hid hres
        clear hres hm9
        go_wp2_with fail
        go_ret
        exact Out.done (by rw [HU.out, HRES9.out]) HM9.out
    · have hs2 : decide ((tok ws k).kind = 3) = false := by simpa using hs
      rw [hs2] at hr
      obtain ⟨rfl, hk9⟩ := hr
      refine And.intro rfl (Out.err ?_ hk9)
      exact absurd HSw1.out hs
  · have hs2 : decide ((tok ws k).kind = 3) = false := by simpa using hs
    rw [hs2]
    have HSw1 := Lib.hid hs2
    clear hs hs2
    go_wp2_with fail

    refine (HMw1.out.has_from hlt 4).mono ?_
    rintro r w2 ⟨rfl, hm⟩
    have HMw2 := Lib.hid hm
    clear hm
    by_cases hs : decide ((tok ws k).kind = 4) = true
    · rw [hs]
      have HSw2 := Lib.hid hs
      clear hs
      have f1 := field_word1 (tok ws k)
      go_wp2_with fail

      refine (HMw2.out.word_from hlt 4).mono ?_
      intro r w3 hr
      by_cases hs : decide ((tok ws k).kind = 4) = true
      · rw [hs] at hr
        obtain ⟨rfl, hm⟩ := hr
        have HMw3 := Lib.hid hm
        have HSw3 := Lib.hid hs
        clear hs hm
        go_wp2_with fail

        refine (HMw3.out.add0_from hlt hrm 12 0 ⟨#[]⟩ (tok ws k).text).mono ?_
        intro r w4 ho
        have HU : Hid (atomR ws Rx Rt k nds = addR ws (k + 1) nds ⟨12, 0, ⟨#[]⟩, (tok ws k).text, [], []⟩) := by
          show _ = _
          rw [atomR, if_neg (by simpa using HSw1.out), if_pos (by simpa using HSw2.out)]
        rcases hres : addR ws (k + 1) nds ⟨12, 0, ⟨#[]⟩, (tok ws k).text, [], []⟩ with ⟨at_, er⟩ | ⟨v, k', nds'⟩
        · rw [hres] at ho
          obtain ⟨rfl, hk9⟩ := ho
          exact And.intro rfl (Out.err (by rw [HU.out, hres]) hk9)
        · rw [hres] at ho
          obtain ⟨rfl, hm9⟩ := ho
          have HM9 := Lib.hid hm9
          have HRES9 := Lib.hid hres
          clear hres hm9
          go_wp2_with fail
          go_ret
          exact Out.done (by rw [HU.out, HRES9.out]) HM9.out
      · have hs2 : decide ((tok ws k).kind = 4) = false := by simpa using hs
        rw [hs2] at hr
        obtain ⟨rfl, hk9⟩ := hr
        refine And.intro rfl (Out.err ?_ hk9)
        exact absurd HSw2.out hs
    · have hs2 : decide ((tok ws k).kind = 4) = false := by simpa using hs
      rw [hs2]
      have HSw2 := Lib.hid hs2
      clear hs hs2
      go_wp2_with fail

      refine (HMw2.out.has_from hlt 1).mono ?_
      rintro r w3 ⟨rfl, hm⟩
      have HMw3 := Lib.hid hm
      clear hm
      by_cases hs : decide ((tok ws k).kind = 1) = true
      · rw [hs]
        have HSw3 := Lib.hid hs
        clear hs
        go_wp2_with fail
        obtain ⟨⟨f4, h4, hn4, ht4⟩, hk4⟩ := HMw3.out
        have H4 := Lib.hid h4
        have HN4 := Lib.hid hn4
        have HT4 := Lib.hid ht4
        have HK4 := Lib.hid hk4
        clear h4 hn4 ht4 hk4

        refine ((varOrCall_any g ws HE.out d a b c e Rx Rt HR.out HG.out HRt.out HGt.out w3 f4 k nds _ H4.out HN4.out HOK.out).mono fun _ _ ho => Out.behind HK4.out HT4.out ho).mono ?_
        intro r w4 ho
        have HU : Hid (atomR ws Rx Rt k nds = varOrCallR ws Rx Rt k nds) := by
          show _ = _
          rw [atomR, if_neg (by simpa using HSw1.out), if_neg (by simpa using HSw2.out), if_pos (by simpa using HSw3.out)]
        rcases hres : varOrCallR ws Rx Rt k nds with ⟨at_, er⟩ | ⟨v, k', nds'⟩
        · rw [hres] at ho
          obtain ⟨rfl, hk9⟩ := ho
          exact And.intro rfl (Out.err (by rw [HU.out, hres]) hk9)
        · rw [hres] at ho
          obtain ⟨rfl, hm9⟩ := ho
          have HM9 := Lib.hid hm9
          have HRES9 := Lib.hid hres
          clear hres hm9
          go_wp2_with fail
          go_ret
          exact Out.done (by rw [HU.out, HRES9.out]) HM9.out
      · have hs2 : decide ((tok ws k).kind = 1) = false := by simpa using hs
        rw [hs2]
        have HSw3 := Lib.hid hs2
        clear hs hs2
        go_wp2_with fail

        refine (HMw3.out.sees_from hlt ⟨#[123]⟩).mono ?_
        rintro r w4 ⟨rfl, hm⟩
        have HMw4 := Lib.hid hm
        clear hm
        by_cases hs : seesW (tok ws k) ⟨#[123]⟩ = true
        · rw [hs]
          have HSw4 := Lib.hid hs
          clear hs
          go_wp2_with fail
          obtain ⟨⟨f4, h4, hn4, ht4⟩, hk4⟩ := HMw4.out
          have H4 := Lib.hid h4
          have HN4 := Lib.hid hn4
          have HT4 := Lib.hid ht4
          have HK4 := Lib.hid hk4
          clear h4 hn4 ht4 hk4

          refine ((record_any _ 17 g ws HE.out d a b c e Rx HR.out HG.out w4 f4 k nds _ H4.out HN4.out HOK.out).mono fun _ _ ho => Out.behind HK4.out HT4.out ho).mono ?_
          intro r w5 ho
          have HU : Hid (atomR ws Rx Rt k nds = recordR ws 17 Rx k nds) := by
            show _ = _
            rw [atomR, if_neg (by simpa using HSw1.out), if_neg (by simpa using HSw2.out), if_neg (by simpa using HSw3.out), if_pos HSw4.out]
          rcases hres : recordR ws 17 Rx k nds with ⟨at_, er⟩ | ⟨v, k', nds'⟩
          · rw [hres] at ho
            obtain ⟨rfl, hk9⟩ := ho
            exact And.intro rfl (Out.err (by rw [HU.out, hres]) hk9)
          · rw [hres] at ho
            obtain ⟨rfl, hm9⟩ := ho
            have HM9 := Lib.hid hm9
            have HRES9 := Lib.hid hres
            clear hres hm9
            go_wp2_with fail
            go_ret
            exact Out.done (by rw [HU.out, HRES9.out]) HM9.out
        · have hs2 : seesW (tok ws k) ⟨#[123]⟩ = false := by simpa using hs
          rw [hs2]
          have HSw4 := Lib.hid hs2
          clear hs hs2
          go_wp2_with fail

          refine (HMw4.out.sees_from hlt ⟨#[40]⟩).mono ?_
          rintro r w5 ⟨rfl, hm⟩
          have HMw5 := Lib.hid hm
          clear hm
          by_cases hs : seesW (tok ws k) ⟨#[40]⟩ = true
          · rw [hs]
            have HSw5 := Lib.hid hs
            clear hs
            go_wp2_with fail
            obtain ⟨⟨f4, h4, hn4, ht4⟩, hk4⟩ := HMw5.out
            have H4 := Lib.hid h4
            have HN4 := Lib.hid hn4
            have HT4 := Lib.hid ht4
            have HK4 := Lib.hid hk4
            clear h4 hn4 ht4 hk4

            refine ((enclosed_any g ws d a b c e Rx Rt (OkP ws) HR.out (okR_of HE.out HG.out) HRt.out (okR_of HE.out HGt.out) w5 f4 k nds _ H4.out HN4.out HOK.out).mono fun _ _ ho => Out.behind HK4.out HT4.out ho).mono ?_
            intro r w6 ho
            have HU : Hid (atomR ws Rx Rt k nds = enclosedR ws Rx Rt k nds) := by
              show _ = _
              rw [atomR, if_neg (by simpa using HSw1.out), if_neg (by simpa using HSw2.out), if_neg (by simpa using HSw3.out), if_neg (by rw [HSw4.out]; simp), if_pos HSw5.out]
            rcases hres : enclosedR ws Rx Rt k nds with ⟨at_, er⟩ | ⟨v, k', nds'⟩
            · rw [hres] at ho
              obtain ⟨rfl, hk9⟩ := ho
              exact And.intro rfl (Out.err (by rw [HU.out, hres]) hk9)
            · rw [hres] at ho
              obtain ⟨rfl, hm9⟩ := ho
              have HM9 := Lib.hid hm9
              have HRES9 := Lib.hid hres
              clear hres hm9
              go_wp2_with fail
              go_ret
              exact Out.done (by rw [HU.out, HRES9.out]) HM9.out
          · have hs2 : seesW (tok ws k) ⟨#[40]⟩ = false := by simpa using hs
            rw [hs2]
            have HSw5 := Lib.hid hs2
            clear hs hs2
            go_wp2_with fail

            refine (HMw5.out.keyword_from hlt hrm constant_kinds).mono ?_
            intro r w6 ho
            have HU : Hid (atomR ws Rx Rt k nds = keywordR ws conK k nds) := by
              show _ = _
              rw [atomR, if_neg (by simpa using HSw1.out), if_neg (by simpa using HSw2.out), if_neg (by simpa using HSw3.out), if_neg (by rw [HSw4.out]; simp), if_neg (by rw [HSw5.out]; simp)]
            rcases hres : keywordR ws conK k nds with ⟨at_, er⟩ | ⟨v, k', nds'⟩
            · rw [hres] at ho
              obtain ⟨rfl, hk9⟩ := ho
              exact And.intro rfl (Out.err (by rw [HU.out, hres]) hk9)
            · rw [hres] at ho
              obtain ⟨rfl, hm9⟩ := ho
              have HM9 := Lib.hid hm9
              have HRES9 := Lib.hid hres
              clear hres hm9
              go_wp2_with fail
              go_ret
              exact Out.done (by rw [HU.out, HRES9.out]) HM9.out
end Go.Proofs.YtdnpflmlonmgcaaGreatDoor
namespace Go.Proofs.YtdnpflmlonmgcaaGreatDoor
open Go.RowKit

theorem argsR_good {ws : List Wd} (hE : EndW ws) {Rx : Nat → List Nd → Res} (hG : GoodR ws Rx) (md nm : ByteArray) (l : List Nat) : GoodR ws (argsR ws Rx md nm l) := by
  intro k nds v k' nds' h0 h
  rw [argsR] at h
  split at h
  · rename_i hs
    have l1 := sees_next hE h0.lt hs
    split at h
    · rename_i hs1
      exact add_good (sees_next hE l1 hs1) (by omega) h0 (show 19 ≠ 18 by decide) (Nat.le_refl _) h
    · split at h
      · cases h
      · rename_i l2 k2 nds2 hr
        obtain ⟨q1, q2, _, _, q5⟩ := listR_len hG hE _ ⟨l1, h0.room, h0.ok⟩ hr
        split at h
        · rename_i hs2
          obtain ⟨p1, p2, p3, p4⟩ := add_good (sees_next hE q1.lt hs2) (k0 := k2) (by omega) q1 (show 19 ≠ 18 by decide) (Nat.le_of_lt q5) h
          exact ⟨by omega, p2, p3, p4⟩
        · cases h
  · cases h
theorem callR_good {ws : List Wd} (hE : EndW ws) {Rx Rt : Nat → List Nd → Res} (hG : GoodR ws Rx) (hGt : GoodR ws Rt) (md nm : ByteArray) : GoodR ws (callR ws Rx Rt md nm) := by
  intro k nds v k' nds' h0 h
  rw [callR] at h
  split at h
  · rename_i hs
    split at h
    · cases h
    · rename_i l k1 nds1 hr
      obtain ⟨q1, q2, _, _, q5⟩ := listR_len hGt hE _ ⟨sees_next hE h0.lt hs, h0.room, h0.ok⟩ hr
      split at h
      · rename_i hs1
        obtain ⟨p1, p2, p3, p4⟩ := argsR_good hE hG md nm l _ _ _ _ _ ⟨sees_next hE q1.lt hs1, q1.room, q1.ok⟩ h
        exact ⟨by omega, p2, p3, by omega⟩
      · cases h
  · exact argsR_good hE hG md nm [] _ _ _ _ _ h0 h
theorem varOrCallR_good {ws : List Wd} (hE : EndW ws) {Rx Rt : Nat → List Nd → Res} (hG : GoodR ws Rx) (hGt : GoodR ws Rt) : GoodR ws (varOrCallR ws Rx Rt) := by
  intro k nds v k' nds' h0 h
  rw [varOrCallR] at h
  split at h
  · rename_i h1
    have l1 := kind_next hE h0.lt h1 (by decide)
    have h01 : OkP ws (k + 1) nds := ⟨l1, h0.room, h0.ok⟩
    split at h
    · rename_i hs
      have l2 := sees_next hE l1 hs
      split at h
      · rename_i h2
        obtain ⟨p1, p2, p3, p4⟩ := callR_good hE hG hGt _ _ _ _ _ _ _ ⟨kind_next hE l2 h2 (by decide), h0.room, h0.ok⟩ h
        exact ⟨by omega, p2, p3, p4⟩
      · cases h
    split at h
    · obtain ⟨p1, p2, p3, p4⟩ := callR_good hE hG hGt _ _ _ _ _ _ _ h01 h
      exact ⟨by omega, p2, p3, p4⟩
    split at h
    · obtain ⟨p1, p2, p3, p4⟩ := callR_good hE hG hGt _ _ _ _ _ _ _ h01 h
      exact ⟨by omega, p2, p3, p4⟩
    · exact add_good l1 (by omega) h0 (show 16 ≠ 18 by decide) (Nat.le_refl _) h
  · cases h
theorem enclosedR_good {ws : List Wd} (hE : EndW ws) {Rx Rt : Nat → List Nd → Res} (hG : GoodR ws Rx) (hGt : GoodR ws Rt) : GoodR ws (enclosedR ws Rx Rt) := by
  intro k nds v k' nds' h0 h
  rw [enclosedR] at h
  split at h
  · cases h
  · rename_i v1 k1 nds1 hr
    obtain ⟨q1, q2, q3, q4⟩ := behindR_ok hE hG _ _ _ _ _ _ h0 hr
    split at h
    · split at h
      · cases h
      · rename_i t k2 nds2 hr2
        obtain ⟨r1, r2, r3, r4⟩ := behindR_ok hE hGt _ _ _ _ _ _ q2 hr2
        split at h
        · rename_i hs
          obtain ⟨p1, p2, p3, p4⟩ := add_good (sees_next hE r2.lt hs) (k0 := k2) (by omega) r2 (show 24 ≠ 18 by decide) (Nat.le_of_lt r4) h
          exact ⟨by omega, p2, p3, by omega⟩
        · cases h
    · split at h
      · rename_i hs
        simp at h
        obtain ⟨rfl, rfl, rfl⟩ := h
        exact ⟨by omega, ⟨sees_next hE q2.lt hs, q2.room, q2.ok⟩, q3, q4⟩
      · cases h
theorem atomR_good {ws : List Wd} (hE : EndW ws) {Rx Rt : Nat → List Nd → Res} (hG : GoodR ws Rx) (hGt : GoodR ws Rt) : GoodR ws (atomR ws Rx Rt) := by
  intro k nds v k' nds' h0 h
  rw [atomR] at h
  split at h
  · rename_i h1
    exact add_good (kind_next hE h0.lt h1 (by decide)) (by omega) h0 (show 11 ≠ 18 by decide) (Nat.le_refl _) h
  split at h
  · rename_i h1
    exact add_good (kind_next hE h0.lt h1 (by decide)) (by omega) h0 (show 12 ≠ 18 by decide) (Nat.le_refl _) h
  split at h
  · exact varOrCallR_good hE hG hGt _ _ _ _ _ h0 h
  split at h
  · exact recordR_good hE (by decide) hG _ _ _ _ _ h0 h
  split at h
  · exact enclosedR_good hE hG hGt _ _ _ _ _ h0 h
  · exact keywordR_good hE conK_ne _ _ _ _ _ h0 h
theorem primF_good {ws : List Wd} (hE : EndW ws) : ∀ (n v k : Nat) (nds : List Nd) (v' k' : Nat) (nds' : List Nd), OkP ws k nds → v < nds.length → primF ws n v k nds = .ok (v', k', nds') → k ≤ k' ∧ OkP ws k' nds' ∧ v' < nds'.length ∧ nds.length ≤ nds'.length
  | 0, _, _, _, _, _, _, _, _, h => by simp [primF] at h
  | n + 1, v, k, nds, v', k', nds', h0, hv, h => by
    rw [primF] at h
    split at h
    · rename_i hs
      have l1 := sees_next hE h0.lt hs
      split at h
      · rename_i h1
        split at h
        · cases h
        · rename_i v2 k2 nds2 hr
          obtain ⟨rfl, p2, p3, p4⟩ := addR_good (kind_next hE l1 h1 (by decide)) h0.room h0.ok (fun _ => ⟨v, rfl, hv⟩) hr
          obtain ⟨q1, q2, q3, q4⟩ := primF_good hE n _ _ _ _ _ _ p2 p3 h
          exact ⟨by omega, q2, q3, by omega⟩
      · cases h
    · simp at h
      obtain ⟨rfl, rfl, rfl⟩ := h
      exact ⟨Nat.le_refl _, h0, hv, Nat.le_refl _⟩
theorem primR_good {ws : List Wd} (hE : EndW ws) {R : Nat → List Nd → Res} (hG : GoodR ws R) : GoodR ws (primR ws R) := by
  intro k nds v k' nds' h0 h
  rw [primR] at h
  split at h
  · cases h
  · rename_i v1 k1 nds1 hr
    obtain ⟨q1, q2, q3, q4⟩ := hG _ _ _ _ _ h0 hr
    obtain ⟨p1, p2, p3, p4⟩ := primF_good hE _ _ _ _ _ _ _ q2 q3 h
    exact ⟨by omega, p2, p3, by omega⟩
theorem sumF_good {ws : List Wd} (hE : EndW ws) {R : Nat → List Nd → Res} (hG : GoodR ws R) : ∀ (n v k : Nat) (nds : List Nd) (v' k' : Nat) (nds' : List Nd), OkP ws k nds → v < nds.length → sumF ws R n v k nds = .ok (v', k', nds') → k ≤ k' ∧ OkP ws k' nds' ∧ v' < nds'.length ∧ nds.length ≤ nds'.length
  | 0, _, _, _, _, _, _, _, _, h => by simp [sumF] at h
  | n + 1, v, k, nds, v', k', nds', h0, hv, h => by
    rw [sumF] at h
    split at h
    · rename_i hs
      split at h
      · cases h
      · rename_i v1 k1 nds1 hr
        obtain ⟨r1, r2, r3, r4⟩ := hG _ _ _ _ _ ⟨isOp_next hE h0.lt hs, h0.room, h0.ok⟩ hr
        split at h
        · cases h
        · rename_i v2 k2 nds2 hr2
          obtain ⟨rfl, p2, p3, p4⟩ := addR_good r2.lt r2.room r2.ok (fun h => absurd h (show 23 ≠ 18 by decide)) hr2
          obtain ⟨q1, q2, q3, q4⟩ := sumF_good hE hG n _ _ _ _ _ _ p2 p3 h
          exact ⟨by omega, q2, q3, by omega⟩
    · simp at h
      obtain ⟨rfl, rfl, rfl⟩ := h
      exact ⟨Nat.le_refl _, h0, hv, Nat.le_refl _⟩
theorem sumR_good {ws : List Wd} (hE : EndW ws) {R : Nat → List Nd → Res} (hG : GoodR ws R) : GoodR ws (sumR ws R) := by
  intro k nds v k' nds' h0 h
  rw [sumR] at h
  split at h
  · cases h
  · rename_i v1 k1 nds1 hr
    obtain ⟨q1, q2, q3, q4⟩ := hG _ _ _ _ _ h0 hr
    obtain ⟨p1, p2, p3, p4⟩ := sumF_good hE hG _ _ _ _ _ _ _ q2 q3 h
    exact ⟨by omega, p2, p3, by omega⟩
theorem shapeS_next {ws : List Wd} (hE : EndW ws) {k : Nat} {t : ByteArray} (hk : k < ws.length) (h : shapeS (tok ws k) = some t) : k + 1 < ws.length := by
  rw [shapeS] at h
  split at h
  · rename_i h4
    exact kind_next hE hk h4 (by decide)
  split at h
  · rename_i hs; exact sees_next hE hk hs
  split at h
  · rename_i hs; exact sees_next hE hk hs
  split at h
  · rename_i hs; exact sees_next hE hk hs
  split at h
  · rename_i hs; exact sees_next hE hk hs
  · cases h
theorem testR_good {ws : List Wd} (hE : EndW ws) {R : Nat → List Nd → Res} (hG : GoodR ws R) : GoodR ws (testR ws R) := by
  intro k nds v k' nds' h0 h
  rw [testR] at h
  split at h
  · cases h
  · rename_i v1 k1 nds1 hr
    obtain ⟨q1, q2, q3, q4⟩ := hG _ _ _ _ _ h0 hr
    split at h
    · rename_i hs
      split at h
      · split at h
        · rename_i t ht
          obtain ⟨p1, p2, p3, p4⟩ := add_good (shapeS_next hE (sees_next hE q2.lt hs) ht) (k0 := k1) (by omega) q2 (show 21 ≠ 18 by decide) (Nat.le_of_lt q4) h
          exact ⟨by omega, p2, p3, p4⟩
        · cases h
      · cases h
    · simp at h
      obtain ⟨rfl, rfl, rfl⟩ := h
      exact ⟨q1, q2, q3, q4⟩
theorem letR_good {ws : List Wd} (hE : EndW ws) {Rx : Nat → List Nd → Res} (hG : GoodR ws Rx) : GoodR ws (letR ws Rx) := by
  intro k nds v k' nds' h0 h
  rw [letR] at h
  split at h
  · rename_i h1
    split at h
    · cases h
    · rename_i a k1 nds1 hr
      obtain ⟨q1, q2, q3, q4⟩ := behindR_ok hE hG _ _ _ _ _ _ ⟨kind_next hE h0.lt h1 (by decide), h0.room, h0.ok⟩ hr
      split at h
      · cases h
      · rename_i b k2 nds2 hr2
        obtain ⟨r1, r2, r3, r4⟩ := behindR_ok hE hG _ _ _ _ _ _ q2 hr2
        obtain ⟨p1, p2, p3, p4⟩ := add_good r2.lt (k0 := k) (by omega) ⟨h0.lt, r2.room, r2.ok⟩ (show 22 ≠ 18 by decide) (Nat.le_of_lt r4) h
        exact ⟨p1, p2, p3, by omega⟩
  · cases h
theorem ifR_good {ws : List Wd} (hE : EndW ws) {Rx : Nat → List Nd → Res} (hG : GoodR ws Rx) : GoodR ws (ifR ws Rx) := by
  intro k nds v k' nds' h0 h
  rw [ifR] at h
  split at h
  · cases h
  · rename_i a k1 nds1 hr
    obtain ⟨q1, q2, q3, q4⟩ := hG _ _ _ _ _ h0 hr
    split at h
    · cases h
    · rename_i b k2 nds2 hr2
      obtain ⟨r1, r2, r3, r4⟩ := behindR_ok hE hG _ _ _ _ _ _ q2 hr2
      split at h
      · cases h
      · rename_i c k3 nds3 hr3
        obtain ⟨s1, s2, s3, s4⟩ := behindR_ok hE hG _ _ _ _ _ _ r2 hr3
        obtain ⟨p1, p2, p3, p4⟩ := add_good s2.lt (k0 := k) (by omega) ⟨h0.lt, s2.room, s2.ok⟩ (show 20 ≠ 18 by decide) (Nat.le_of_lt s4) h
        exact ⟨p1, p2, p3, by omega⟩
theorem letOrIfR_good {ws : List Wd} (hE : EndW ws) {Rx Rt : Nat → List Nd → Res} (hG : GoodR ws Rx) (hGt : GoodR ws Rt) : GoodR ws (letOrIfR ws Rx Rt) := by
  intro k nds v k' nds' h0 h
  rw [letOrIfR] at h
  split at h
  · rename_i hs
    obtain ⟨p1, p2, p3, p4⟩ := letR_good hE hG _ _ _ _ _ ⟨sees_next hE h0.lt hs, h0.room, h0.ok⟩ h
    exact ⟨by omega, p2, p3, p4⟩
  split at h
  · rename_i hs
    obtain ⟨p1, p2, p3, p4⟩ := ifR_good hE hG _ _ _ _ _ ⟨sees_next hE h0.lt hs, h0.room, h0.ok⟩ h
    exact ⟨by omega, p2, p3, p4⟩
  · exact testR_good hE (sumR_good hE (primR_good hE (atomR_good hE hG hGt))) _ _ _ _ _ h0 h
theorem exprR_good {ws : List Wd} (hE : EndW ws) : ∀ m, GoodR ws (exprR ws m)
  | 0 => fun k nds v k' nds' _ h => by rw [exprR] at h; cases h
  | m + 1 => fun k nds v k' nds' h0 h => by rw [exprR] at h; exact letOrIfR_good hE (exprR_good hE m) (typeR_good hE m) _ _ _ _ _ h0 h

set_option maxRecDepth 100000 in
theorem expr_any (g : Nat) (ws : List Wd) (d : Nat) (a b c e : Value) (R : Nat → List Nd → Res) (hd : d ≤ 60) (hR : d < 60 → Rule 99 g ws (d + 1) a b c e R (OkP ws))
    (w : World) (f : Value) (k : Nat) (nds : List Nd) (D : Nat → Prop) (h : Stm w g ws k d a b c e f) (hn : Nds w g f nds D) (hok : OkP ws k nds) :
    Calls Tryz.prog 88 #[.pointer (some ⟨g, 0, none⟩)] w fun r w' => Out w g ws d a b c e f D (deeperR ws d R k nds) r w' := by
  have H := Lib.hid h
  have HN := Lib.hid hn
  have HOK := Lib.hid hok
  have HR := Lib.hid hR
  have hmf : ∀ (fn : Fn) (first cap : Array Value) (w : World), (Instr.makeFunc fn first cap).run Tryz.prog w = .ok (.func fn first cap) w := fun _ _ _ _ => rfl
  clear h hn hok hR
  go_enter Tryz.func88, Tryz.ntmps88
  go_wp2_with fail
  refine (deeper_any _ g ws d a b c e R (OkP ws) hd HR.out w f k nds D H.out HN.out HOK.out.lt HOK.out).mono ?_
  intro r w1 ho
  rcases hres : deeperR ws d R k nds with ⟨at_, er⟩ | ⟨v, k', nds'⟩
  · rw [hres] at ho
    obtain ⟨rfl, hk9⟩ := ho
    exact And.intro rfl (Out.err hres hk9)
  · rw [hres] at ho
    obtain ⟨rfl, hm9⟩ := ho
    have HM9 := Lib.hid hm9
    have HR9 := Lib.hid hres
    clear hres hm9
    go_wp2_with fail
    go_ret
    exact Out.done HR9.out HM9.out
/-- the rule of expressions at a depth -/
theorem expr_rule {ws : List Wd} (hE : EndW ws) (hT : TextW ws) (g : Nat) (a b c e : Value) : ∀ (m d : Nat), d + m = 60 → Rule 88 g ws d a b c e (exprR ws m) (OkP ws)
  | 0, d, hd => by
    obtain rfl : d = 60 := by omega
    refine ⟨fun _ _ => by simp [go_sem], fun w f k nds D h hn hok => ?_⟩
    have := expr_any g ws 60 a b c e (fun _ _ => .error (0, 0)) (Nat.le_refl _) (fun h => absurd h (by omega)) w f k nds D h hn hok
    rw [deeperR, if_pos rfl] at this
    exact this
  | m + 1, d, hd => by
    have ih := expr_rule hE hT g a b c e m (d + 1) (by omega)
    have it := aType_rule hE g a b c e m (d + 1) (by omega)
    have hGx := exprR_good hE m
    have hGt := typeR_good hE m
    refine ⟨fun _ _ => by simp [go_sem], fun w f k nds D h hn hok => ?_⟩
    have hatom : Rule 110 g ws (d + 1) a b c e (atomR ws (exprR ws m) (typeR ws m)) (OkP ws) := ⟨fun _ _ => by simp [go_sem], fun w f k nds D h hn hok => atom_any g ws hE (d + 1) a b c e _ _ ih hGx it hGt w f k nds D h hn hok⟩
    have hprim : Rule 109 g ws (d + 1) a b c e (primR ws (atomR ws (exprR ws m) (typeR ws m))) (OkP ws) := ⟨fun _ _ => by simp [go_sem], fun w f k nds D h hn hok => prim_any g ws hE (d + 1) a b c e _ _ hatom (okR_of hE (atomR_good hE hGx hGt)) w f k nds D h hn hok⟩
    have hsum : Rule 106 g ws (d + 1) a b c e (sumR ws (primR ws (atomR ws (exprR ws m) (typeR ws m)))) (OkP ws) := ⟨fun _ _ => by simp [go_sem], fun w f k nds D h hn hok => sum_any g ws hE (d + 1) a b c e _ _ hprim (okR_of hE (primR_good hE (atomR_good hE hGx hGt)))
      (fun k nds h hk => ⟨hk, h.room, h.ok⟩) (fun k nds x v k' nds' h hx hr => by obtain ⟨rfl, p, _, _⟩ := addR_good h.lt h.room h.ok (fun h => by omega) hr; exact p) w f k nds D h hn hok⟩
    have htest : Rule 102 g ws (d + 1) a b c e (testR ws (sumR ws (primR ws (atomR ws (exprR ws m) (typeR ws m))))) (OkP ws) := ⟨fun _ _ => by simp [go_sem], fun w f k nds D h hn hok => test_any g ws hE hT (d + 1) a b c e _ hsum (sumR_good hE (primR_good hE (atomR_good hE hGx hGt))) w f k nds D h hn hok⟩
    have hlet : Rule 99 g ws (d + 1) a b c e (letOrIfR ws (exprR ws m) (typeR ws m)) (OkP ws) := ⟨fun _ _ => by simp [go_sem], fun w f k nds D h hn hok => letOrIf_any g ws hE (d + 1) a b c e _ _ ih hGx htest w f k nds D h hn hok⟩
    have := expr_any g ws d a b c e _ (by omega) (fun _ => hlet) w f k nds D h hn hok
    rw [deeperR, if_neg (by omega)] at this
    exact this
end Go.Proofs.YtdnpflmlonmgcaaGreatDoor
namespace Go.Proofs.YtdnpflmlonmgcaaGreatDoor
open Go.RowKit

/-- a declared type, or a parameter: a name and a place -/
structure Dc where
  nm : ByteArray
  ty : Nat
def Dc.cells (x : Dc) : List Value := [.string x.nm, .int .i64 (x.ty : Int)]
def dcells (l : List Dc) : List Value := l.flatMap Dc.cells
theorem dcells_snoc (l : List Dc) (x : Dc) : dcells l ++ x.cells = dcells (l ++ [x]) := by simp [dcells]
theorem dcells_one (l : List Dc) : ∀ u ∈ dcells l, u.oneCell' = true := by
  intro u hu
  simp only [dcells, List.mem_flatMap, Dc.cells] at hu
  obtain ⟨x, _, hu⟩ := hu
  simp at hu
  rcases hu with rfl | rfl <;> rfl
def zipD : List ByteArray → List Nat → List Dc
  | n :: ns, t :: ts => ⟨n, t⟩ :: zipD ns ts
  | _, _ => []
theorem zipD_take (ns : List ByteArray) (ts : List Nat) (h : ns.length = ts.length) (k : Nat) (n : ByteArray) (t : Nat) (hn : ns[k]? = some n) (ht : ts[k]? = some t) : (zipD ns ts).take k ++ [⟨n, t⟩] = (zipD ns ts).take (k + 1) := by
  induction ns generalizing ts k with
  | nil => simp at hn
  | cons a ns ih =>
    cases ts with
    | nil => simp at h
    | cons b ts =>
      cases k with
      | zero => simp at hn ht; subst hn; subst ht; simp [zipD]
      | succ k =>
        simp at hn ht h
        simp only [zipD, List.take_succ_cons, List.cons_append]
        rw [ih ts h k hn ht]
theorem zipD_len (ns : List ByteArray) (ts : List Nat) (h : ns.length = ts.length) : (zipD ns ts).length = ns.length := by
  induction ns generalizing ts with
  | nil => simp [zipD]
  | cons a ns ih =>
    cases ts with
    | nil => simp at h
    | cons b ts => simp at h; simp [zipD, ih ts h]
theorem info_var : (Tryz.prog.info? 58).map (fun i => (i.zero, i.size, i.bytes)) = some (some (.agg #[.string ⟨#[]⟩, .int .i64 0]), 2, 24) := by kernel_rfl

def VarsOut (w : World) (l : List Dc) (r : Ending) (w' : World) : Prop := ∃ v, r = .returned v ∧ Below w.heap.size w w' ∧ w'.ownsRow w.heap.size 58 2 v l.length (dcells l)
set_option maxRecDepth 100000 in
set_option maxHeartbeats 4000000 in
theorem vars_any (NA LA : Option Addr) (nc lc : Nat) (ns : List ByteArray) (ts : List Nat) (w : World) (M M' : Nat → Prop) (hn : SSq w M (.slice NA ns.length nc) ns) (ht : ISq w M' (.slice LA ts.length lc) ts) (hl : ns.length = ts.length) (h16 : ts.length ≤ 16) :
    Calls Tryz.prog 86 #[.slice NA ns.length nc, .slice LA ts.length lc] w (VarsOut w (zipD ns ts)) := by
  obtain ⟨i0, hi, hz0, hz1, hz2⟩ := info_parts info_var
  have HI := Lib.hid hi
  have HZ0 := Lib.hid hz0
  have HZ1 := Lib.hid hz1
  have HZ2 := Lib.hid hz2
  have HN := Lib.hid hn
  have HT := Lib.hid ht
  have HL := Lib.hid hl
  have hn16 : ns.length ≤ 16 := by omega
  clear hi hz0 hz1 hz2 hn ht hl
  go_enter Tryz.func86, Tryz.ntmps86
  go_wp2_with fail
  go_loopw [4, 9] (fun v i wr => ∃ k : Nat, k ≤ ns.length ∧ i = .int .i64 (k : Int) ∧ Hid (Below w.heap.size w wr) ∧ Hid (wr.ownsRow w.heap.size 58 2 v k (dcells ((zipD ns ts).take k))) ∧ Hid (∃ A n, v = .slice A k n)) (fun _ i _ => ns.length - (intOf i).toNat)
  case atStart => exact ⟨0, Nat.zero_le _, rfl, Lib.hid (Below.refl _ _), Lib.hid ⟨rfl, .inl ⟨rfl, rfl⟩⟩, Lib.hid ⟨none, 0, rfl⟩⟩
  case round =>
    obtain ⟨k, hk, rfl, HB, HO, HV⟩ := hrel
    obtain ⟨VA, vn, rfl⟩ := HV.out
    clear HV
    by_cases hlt : k < ns.length
    · obtain ⟨n, hn⟩ : ∃ n, ns[k]? = some n := ⟨_, List.getElem?_eq_getElem hlt⟩
      obtain ⟨t, ht⟩ : ∃ t, ts[k]? = some t := ⟨_, List.getElem?_eq_getElem (by have := HL.out; omega)⟩
      obtain ⟨A1, c1, he1, hc1⟩ := HN.out
      cases he1
      obtain ⟨b1, o1, rfl, hb1, _, hcell1⟩ := hc1 (by omega)
      obtain ⟨A2, c2, he2, hc2⟩ := HT.out
      cases he2
      obtain ⟨b2, o2, rfl, hb2, _, hcell2⟩ := hc2 (by have := HL.out; omega)
      have d1 : wr.cell? ⟨b1, o1 + k, none⟩ = some (.string n) := (HB.out.cell (p := ⟨b1, o1 + k, none⟩) hb1).trans (hcell1 k n hn)
      have d2 : wr.cell? ⟨b2, o2 + k, none⟩ = some (.int .i64 (t : Int)) := (HB.out.cell (p := ⟨b2, o2 + k, none⟩) hb2).trans (hcell2 k t ht)
      have hsz : w.heap.size ≤ wr.heap.size := HB.out.size
      have hkt : k < ts.length := by have := HL.out; omega
      have HZ := Lib.hid (zipD_take ns ts HL.out k n t hn ht)
      clear hn ht hc1 hcell1 hc2 hcell2
      go_wp2_with (at_builtin; refine unhid ?_)
      refine Lib.hid ?_
      refine wpList_append_lies (wr.alloc (.cells #[.string n, .int .i64 (t : Int)] 58)) rfl _ _ _ rfl w.heap.size 58 i0 _ 2 24 Tryz.underlying38 HI.out HZ0.out HZ1.out HZ2.out rfl (by decide) (.slice VA k vn) k (dcells ((zipD ns ts).take k)) rfl (HO.out.alloc _) ⟨wr.heap.size, 0, none⟩ 1 1 [.string n, .int .i64 (t : Int)] rfl rfl (World.news_of_block (cs := #[.string n, .int .i64 (t : Int)]) (t := 58) (fr := (0, 0)) (heap_alloc_new wr _)) (by simp [Value.oneCell']) (by omega) (by simp only [maxLen]; omega) (by omega) (by simp; omega) (wr.heap.size + 1) (by simp) ?_
      intro gg cap w5 hown5 hgrow5 hat5 hlt5
      have HK5 : Kept (fun i => (Value.slice VA k vn).ownBlock = some i) wr w5 := ((Kept.refl _ wr).alloc _).grown hgrow5 (fun i _ h => h)
      have HB5 : Hid (Below w.heap.size w w5) := Lib.hid (((Kept.of_below HB.out (fun i => w.heap.size ≤ i)).trans HK5 (fun i _ h => (HO.out.lt i h).1)).below (Nat.le_refl _) (fun i hi h => by omega))
      have HO5 : Hid (w5.ownsRow w.heap.size 58 2 (.slice (some ⟨gg, 0, none⟩) (k + 1) cap) (k + 1) (dcells ((zipD ns ts).take (k + 1)))) := Lib.hid (by
        rw [← HZ.out, ← dcells_snoc]
        exact hown5)
      clear hown5 hgrow5 hat5 HK5
      go_wp2_with fail
      go_roundw
      case rel => exact ⟨k + 1, by omega, by go_num, HB5, HO5, Lib.hid ⟨_, _, rfl⟩⟩
      case measure => simp [intOf]; omega
    · go_wp2_with fail
      go_ret
      have hkn : k = ns.length := by omega
      subst hkn
      refine ⟨_, rfl, HB.out, ?_⟩
      have := HO.out
      rw [zipD_len ns ts HL.out]
      rwa [List.take_of_length_le (Nat.le_of_eq (zipD_len ns ts HL.out))] at this
end Go.Proofs.YtdnpflmlonmgcaaGreatDoor
namespace Go.Proofs.YtdnpflmlonmgcaaGreatDoor
open Go.RowKit

abbrev DRes := Except (Nat × Nat) (Dc × Nat × List Nd)
def declR (ws : List Wd) (Rt : Nat → List Nd → Res) (k : Nat) (nds : List Nd) : DRes :=
  if seesW (tok ws k) ⟨#[116, 121, 112, 101]⟩ then
    if (tok ws (k + 1)).kind = 2 then match behindR ws ⟨#[61]⟩ Rt (k + 2) nds with
      | .error x => .error x
      | .ok (v, k', nds') => .ok (⟨(tok ws (k + 1)).text, v⟩, k', nds')
    else badAt ws (k + 1)
  else badAt ws k
structure Fd where
  nm : ByteArray
  vars : List Dc
  params : List Dc
  ret : Nat
  body : Nat
abbrev FRes := Except (Nat × Nat) (Fd × Nat × List Nd)
def fnTail (ws : List Wd) (Rt Rx : Nat → List Nd → Res) (nm : ByteArray) (vars params : List Dc) (k : Nat) (nds : List Nd) : FRes :=
  if seesW (tok ws k) ⟨#[41]⟩ then match behindR ws ⟨#[58]⟩ Rt (k + 1) nds with
    | .error x => .error x
    | .ok (r, k1, nds1) => match behindR ws ⟨#[61]⟩ Rx k1 nds1 with
      | .error x => .error x
      | .ok (b, k2, nds2) => .ok (⟨nm, vars, params, r, b⟩, k2, nds2)
  else badAt ws k
def fnParams (ws : List Wd) (Rt Rx : Nat → List Nd → Res) (nm : ByteArray) (vars : List Dc) (k : Nat) (nds : List Nd) : FRes :=
  if seesW (tok ws k) ⟨#[40]⟩ then
    if seesW (tok ws (k + 1)) ⟨#[41]⟩ then fnTail ws Rt Rx nm vars [] (k + 1) nds
    else match namedR ws 1 ⟨#[58]⟩ Rt (k + 1) nds with
      | .error x => .error x
      | .ok (l, k1, nds1, ns) => fnTail ws Rt Rx nm vars (zipD ns l) k1 nds1
  else badAt ws k
def fnR (ws : List Wd) (Rt Rx : Nat → List Nd → Res) (k : Nat) (nds : List Nd) : FRes :=
  if seesW (tok ws k) ⟨#[102, 110]⟩ then
    if (tok ws (k + 1)).kind = 1 then
      if seesW (tok ws (k + 2)) ⟨#[91]⟩ then match namedR ws 2 ⟨#[60, 58]⟩ Rt (k + 3) nds with
        | .error x => .error x
        | .ok (l, k1, nds1, ns) => if seesW (tok ws k1) ⟨#[93]⟩ then fnParams ws Rt Rx (tok ws (k + 1)).text (zipD ns l) (k1 + 1) nds1 else badAt ws k1
      else fnParams ws Rt Rx (tok ws (k + 1)).text [] (k + 2) nds
    else badAt ws (k + 1)
  else badAt ws k

def DOutX (X : Nat → Prop) (w w1 : World) (g : Nat) (ws : List Wd) (d : Nat) (a b c e f : Value) (D : Nat → Prop) (res : DRes) (r : Ending) (w' : World) : Prop :=
  match res with
  | .ok (x, k', nds') => r = .returned (.agg #[.string x.nm, .int .i64 (x.ty : Int)]) ∧ MdX X w w' g ws k' d a b c e f nds' D ∧ Same X w1 w'
  | .error (at_, er) => r = .panicked (faultP at_ er) ∧ Kept (Mut g f) w w'
def FOutX (X : Nat → Prop) (w w1 : World) (g : Nat) (ws : List Wd) (d : Nat) (a b c e f : Value) (D : Nat → Prop) (res : FRes) (r : Ending) (w' : World) : Prop :=
  match res with
  | .ok (x, k', nds') => ∃ vv pv, r = .returned (.agg #[.string x.nm, vv, pv, .int .i64 (x.ret : Int), .int .i64 (x.body : Int)]) ∧ MdX (fun i => X i ∨ vv.ownBlock = some i ∨ pv.ownBlock = some i) w w' g ws k' d a b c e f nds' D ∧ Same X w1 w' ∧
      w'.ownsRow w1.heap.size 58 2 vv x.vars.length (dcells x.vars) ∧ w'.ownsRow w1.heap.size 58 2 pv x.params.length (dcells x.params)
  | .error (at_, er) => r = .panicked (faultP at_ er) ∧ Kept (Mut g f) w w'
section
variable {X : Nat → Prop} {w w1 w' : World} {g k' d : Nat} {ws : List Wd} {a b c e f : Value} {nds' : List Nd} {D : Nat → Prop} {at_ er : Nat}
theorem DOutX.err {res : DRes} (h : res = .error (at_, er)) (hk : Kept (Mut g f) w w') : DOutX X w w1 g ws d a b c e f D res (.panicked (faultP at_ er)) w' := by subst h; exact ⟨rfl, hk⟩
theorem DOutX.done {res : DRes} {x : Dc} (h : res = .ok (x, k', nds')) (hM : MdX X w w' g ws k' d a b c e f nds' D) (hs : Same X w1 w') : DOutX X w w1 g ws d a b c e f D res (.returned (.agg #[.string x.nm, .int .i64 (x.ty : Int)])) w' := by subst h; exact ⟨rfl, hM, hs⟩
theorem FOutX.err {res : FRes} (h : res = .error (at_, er)) (hk : Kept (Mut g f) w w') : FOutX X w w1 g ws d a b c e f D res (.panicked (faultP at_ er)) w' := by subst h; exact ⟨rfl, hk⟩
end

set_option maxRecDepth 100000 in
set_option maxHeartbeats 4000000 in
theorem decl_any (g : Nat) (ws : List Wd) (hE : EndW ws) (d : Nat) (a b c e f : Value) (R : Nat → List Nd → Res) (hR : Rule 85 g ws d a b c e R (OkP ws)) (hG : GoodR ws R)
    (X : Nat → Prop) (w w1 : World) (k : Nat) (nds : List Nd) (D : Nat → Prop) (hM : MdX X w w1 g ws k d a b c e f nds D) (hok : OkP ws k nds) :
    Calls Tryz.prog 65 #[.pointer (some ⟨g, 0, none⟩)] w1 fun r w' => DOutX X w w1 g ws d a b c e f D (declR ws R k nds) r w' := by
  have hin := hM.inX
  have HX0 := Lib.hid hM
  have HOK := Lib.hid hok
  have HR := Lib.hid hR
  have HG := Lib.hid hG
  have HE := Lib.hid hE
  have HIN := Lib.hid hin
  have hlt := hok.lt
  have hmf : ∀ (fn : Fn) (first cap : Array Value) (w : World), (Instr.makeFunc fn first cap).run Tryz.prog w = .ok (.func fn first cap) w := fun _ _ _ _ => rfl
  clear hM hok hR hG hE hin
  go_enter Tryz.func65, Tryz.ntmps65
  go_wp2_with fail
  have hx1 := HX0.out.new (.cells #[.string ⟨#[]⟩, .int .i64 0] 45)
  have hb1 := Blk.new w1 45 #[.string ⟨#[]⟩, .int .i64 0]
  have hs1 : Same X w1 (w1.alloc (.cells #[.string ⟨#[]⟩, .int .i64 0] 45)) := Same.alloc (fun i h => (HIN.out i h).2) _
  have hnx : ¬ X w1.heap.size := fun h => by have := (HIN.out _ h).2; omega
  generalize hN : w1.heap.size = N at hx1 hb1 hnx ⊢
  generalize hw2 : w1.alloc (.cells #[.string ⟨#[]⟩, .int .i64 0] 45) = w2 at hx1 hb1 hs1 ⊢
  have HXa := Lib.hid hx1
  have HBa := Lib.hid hb1
  have HSa := Lib.hid hs1
  clear hw2 hx1 hb1 hs1 HX0
  refine (HXa.out.need_ hlt ⟨#[116, 121, 112, 101]⟩).mono ?_
  intro r wb hr
  by_cases hs : seesW (tok ws k) ⟨#[116, 121, 112, 101]⟩ = true
  · rw [hs] at hr
    obtain ⟨rfl, hm⟩ := hr
    have HPb := Lib.hid hm
    have HCb := Lib.hid hs
    clear hs hm
    obtain ⟨hx, hsm⟩ := HPb.out
    have HXb := Lib.hid hx
    have HBb := Lib.hid (hsm.blk (.inr rfl) HBa.out)
    have HSb := Lib.hid (HSa.out.trans_ (fun i hi => hsm i (.inl hi)))
    clear hx hsm
    have hlt1 := sees_next HE.out hlt HCb.out
    go_wp2_with fail

    refine (HXb.out.typeName_ hlt1).mono ?_
    intro r wc hr
    by_cases hs : decide ((tok ws (k + 1)).kind = 2) = true
    · rw [hs] at hr
      obtain ⟨rfl, hm⟩ := hr
      have HPc := Lib.hid hm
      have HCc := Lib.hid hs
      clear hs hm
      obtain ⟨hx, hsm⟩ := HPc.out
      have HXc := Lib.hid hx
      have HBc := Lib.hid (hsm.blk (.inr rfl) HBb.out)
      have HSc := Lib.hid (HSb.out.trans_ (fun i hi => hsm i (.inl hi)))
      clear hx hsm
      have hlt2 : k + 2 < ws.length := kind_next HE.out hlt1 (kd := 2) (by simpa using HCc.out) (by decide)
      go_wp2_with fail

      refine (HXc.out.behind_ HR.out hlt2 ⟨#[61]⟩ (fun hs => ⟨sees_next HE.out hlt2 hs, HOK.out.room, HOK.out.ok⟩)).mono ?_
      intro r wd ho
      rcases hres : behindR ws ⟨#[61]⟩ R (k + 2) nds with ⟨at_, er⟩ | ⟨vd, kd, nd⟩
      · rw [hres] at ho
        obtain ⟨rfl, hk9⟩ := ho
        refine And.intro rfl (DOutX.err ?_ hk9)
        rw [declR, if_pos HCb.out, if_pos (by simpa using HCc.out), hres]
      · rw [hres] at ho
        obtain ⟨rfl, hm⟩ := ho
        have HPd := Lib.hid hm
        have HRd := Lib.hid hres

        clear hres hm
        obtain ⟨hx, hsm⟩ := HPd.out
        have HXd := Lib.hid hx
        have HBd := Lib.hid (hsm.blk (.inr rfl) HBc.out)
        have HSd := Lib.hid (HSc.out.trans_ (fun i hi => hsm i (.inl hi)))
        clear hx hsm
        have y0 := HBd.out.frozen 0
        have y1 := HBd.out.frozen 1
        have z0 := HBd.out.cell 0
        have z1 := HBd.out.cell 1
        simp at z0 z1
        go_wp2_with fail
        have hb9 := (HBd.out.set_ 0 (.string (tok ws (k + 1)).text)).set_ 1 (.int .i64 (vd : Int))
        simp at hb9
        have c0 := hb9.cell 0
        have c1 := hb9.cell 1
        simp at c0 c1
        refine bodyPost_ret (v := .agg #[.string (tok ws (k + 1)).text, .int .i64 (vd : Int)]) (by simp [results, Tryz.results65, go_sem, c0, c1]) rfl ?_
        refine DOutX.done (x := ⟨(tok ws (k + 1)).text, vd⟩) (k' := kd) (nds' := nd) ?_ (((HXd.out.put (N := N) (.inr rfl) 0 _).put (N := N) (.inr rfl) 1 _).less fun i h => .inl h) ((HSd.out.trans_ (Same.put hnx)).trans_ (Same.put hnx))
        rw [declR, if_pos HCb.out, if_pos (by simpa using HCc.out), HRd.out]
    · have hs2 : decide ((tok ws (k + 1)).kind = 2) = false := by simpa using hs
      rw [hs2] at hr
      obtain ⟨rfl, hk9⟩ := hr
      refine And.intro rfl (DOutX.err ?_ hk9)
      rw [declR, if_pos HCb.out, if_neg (by simpa using hs2)]
  · have hs2 : seesW (tok ws k) ⟨#[116, 121, 112, 101]⟩ = false := by simpa using hs
    rw [hs2] at hr
    obtain ⟨rfl, hk9⟩ := hr
    refine And.intro rfl (DOutX.err ?_ hk9)
    rw [declR, if_neg (by rw [hs2]; simp)]
end Go.Proofs.YtdnpflmlonmgcaaGreatDoor
namespace Go.Proofs.YtdnpflmlonmgcaaGreatDoor
open Go.RowKit

theorem own_slice {w : World} {base n size : Nat} {t : TypeId} {v : Value} {xs : List Value} (h : w.ownsRow base t size v n xs) : ∃ A c, v = .slice A n c := by
  rcases h.2 with ⟨rfl, h0⟩ | ⟨q, cap, cur, rfl, _⟩
  · exact ⟨none, 0, by rw [h0]⟩
  · exact ⟨_, _, rfl⟩
theorem own_put {w : World} {base n size N i : Nat} {t : TypeId} {v u : Value} {xs : List Value} (h : w.ownsRow base t size v n xs) (hN : N < base) : (w.setCell ⟨N, i, none⟩ u).ownsRow base t size v n xs :=
  own_kept_ne h ((Kept.refl (fun i => i = N) w).setCell (p := ⟨N, i, none⟩) (fun _ => rfl) u) fun q hq e => by have := (h.lt q hq).1; omega
theorem MdXL.lists {X : Nat → Prop} {w w1 : World} {g k d : Nat} {ws : List Wd} {a b c e f : Value} {nds : List Nd} {D : Nat → Prop} {nv lv : Value} {ns : List ByteArray} {l : List Nat} (h : MdXL X w w1 g ws k d a b c e f nds D nv lv ns l) :
    ∃ NA nc LA lc M, nv = .slice NA ns.length nc ∧ lv = .slice LA l.length lc ∧ SSq w1 M (.slice NA ns.length nc) ns ∧ ISq w1 M (.slice LA l.length lc) l := by
  obtain ⟨⟨f4, _, _, _, _, hs, hi⟩, _⟩ := h
  have hs' := hs
  have hi' := hi
  obtain ⟨NA, nc, rfl, _⟩ := hs
  obtain ⟨LA, lc, rfl, _⟩ := hi
  exact ⟨NA, nc, LA, lc, _, rfl, rfl, hs', hi'⟩
theorem MdX.below {X : Nat → Prop} {w w1 w2 : World} {g k d : Nat} {ws : List Wd} {a b c e f : Value} {nds : List Nd} {D : Nat → Prop} (h : MdX X w w1 g ws k d a b c e f nds D) (hb : Below w1.heap.size w1 w2) {base n size : Nat} {t : TypeId} {v : Value} {xs : List Value} (ho : w2.ownsRow base t size v n xs) (hbase : w1.heap.size ≤ base) :
    MdX (fun i => X i ∨ v.ownBlock = some i) w w2 g ws k d a b c e f nds D ∧ Same X w1 w2 :=
  ⟨h.more (Kept.of_below hb X) fun i hi => .inr (by have := ho.lt i hi; omega), fun i hi => hb.block i (h.inX i hi).2⟩

theorem FOutX.done {X Y : Nat → Prop} {w w1 w' : World} {g k' d : Nat} {ws : List Wd} {a b c e f : Value} {nds' : List Nd} {D : Nat → Prop} {res : FRes} {x : Fd} {vv pv : Value} (h : res = .ok (x, k', nds')) (hM : MdX Y w w' g ws k' d a b c e f nds' D) (hY : ∀ i, (X i ∨ vv.ownBlock = some i ∨ pv.ownBlock = some i) → Y i) (hs : Same X w1 w')
    (hv : w'.ownsRow (w1.heap.size + 1) 58 2 vv x.vars.length (dcells x.vars)) (hp : w'.ownsRow (w1.heap.size + 1) 58 2 pv x.params.length (dcells x.params)) : FOutX X w w1 g ws d a b c e f D res (.returned (.agg #[.string x.nm, vv, pv, .int .i64 (x.ret : Int), .int .i64 (x.body : Int)])) w' := by
  subst h
  exact ⟨vv, pv, rfl, hM.less hY, hs, own_base hv (Nat.le_succ _), own_base hp (Nat.le_succ _)⟩
/-- the function's block is written once more -/
theorem fn_end {X Y : Nat → Prop} {w w1 w5 : World} {g k d N : Nat} {ws : List Wd} {a b c e f : Value} {nds : List Nd} {D : Nat → Prop} (hM : MdX Y w w5 g ws k d a b c e f nds D) (hYN : Y N) (hnx : ¬ X N) (hs : Same X w1 w5) (u0 u1 u2 u3 u4 : Value) (hb : Blk w5 N 40 #[u0, u1, u2, u3, u4]) :
    MdX Y w (((((w5.setCell ⟨N, 0, none⟩ u0).setCell ⟨N, 1, none⟩ u1).setCell ⟨N, 2, none⟩ u2).setCell ⟨N, 3, none⟩ u3).setCell ⟨N, 4, none⟩ u4) g ws k d a b c e f nds D ∧
      Same X w1 (((((w5.setCell ⟨N, 0, none⟩ u0).setCell ⟨N, 1, none⟩ u1).setCell ⟨N, 2, none⟩ u2).setCell ⟨N, 3, none⟩ u3).setCell ⟨N, 4, none⟩ u4) ∧
      Blk (((((w5.setCell ⟨N, 0, none⟩ u0).setCell ⟨N, 1, none⟩ u1).setCell ⟨N, 2, none⟩ u2).setCell ⟨N, 3, none⟩ u3).setCell ⟨N, 4, none⟩ u4) N 40 #[u0, u1, u2, u3, u4] ∧
      (∀ (t : TypeId) (size n : Nat) (v : Value) (xs : List Value), w5.ownsRow (N + 1) t size v n xs → (((((w5.setCell ⟨N, 0, none⟩ u0).setCell ⟨N, 1, none⟩ u1).setCell ⟨N, 2, none⟩ u2).setCell ⟨N, 3, none⟩ u3).setCell ⟨N, 4, none⟩ u4).ownsRow (N + 1) t size v n xs) := by
  refine ⟨((((hM.put hYN 0 u0).put hYN 1 u1).put hYN 2 u2).put hYN 3 u3).put hYN 4 u4, ((((hs.trans_ (Same.put hnx)).trans_ (Same.put hnx)).trans_ (Same.put hnx)).trans_ (Same.put hnx)).trans_ (Same.put hnx), ?_, fun t size n v xs h => ?_⟩
  · have := ((((hb.set_ 0 u0).set_ 1 u1).set_ 2 u2).set_ 3 u3).set_ 4 u4
    simpa using this
  · exact own_put (own_put (own_put (own_put (own_put h (Nat.lt_succ_self N)) (Nat.lt_succ_self N)) (Nat.lt_succ_self N)) (Nat.lt_succ_self N)) (Nat.lt_succ_self N)

set_option maxRecDepth 100000 in
set_option maxHeartbeats 8000000 in
theorem fn_any (g : Nat) (ws : List Wd) (hE : EndW ws) (d : Nat) (a b c e f : Value) (Rt Rx : Nat → List Nd → Res) (hRt : Rule 85 g ws d a b c e Rt (OkP ws)) (hGt : GoodR ws Rt) (hRx : Rule 88 g ws d a b c e Rx (OkP ws)) (hGx : GoodR ws Rx)
    (X : Nat → Prop) (w w1 : World) (k : Nat) (nds : List Nd) (D : Nat → Prop) (hM : MdX X w w1 g ws k d a b c e f nds D) (hok : OkP ws k nds) :
    Calls Tryz.prog 66 #[.pointer (some ⟨g, 0, none⟩)] w1 fun r w' => FOutX X w w1 g ws d a b c e f D (fnR ws Rt Rx k nds) r w' := by
  have hin := hM.inX
  have HX0 := Lib.hid hM
  have HOK := Lib.hid hok
  have HRt := Lib.hid hRt
  have HGt := Lib.hid hGt
  have HRx := Lib.hid hRx
  have HGx := Lib.hid hGx
  have HE := Lib.hid hE
  have HIN := Lib.hid hin
  have hlt := hok.lt
  have hmf : ∀ (fn : Fn) (first cap : Array Value) (w : World), (Instr.makeFunc fn first cap).run Tryz.prog w = .ok (.func fn first cap) w := fun _ _ _ _ => rfl
  clear hM hok hRt hGt hRx hGx hE hin
  go_enter Tryz.func66, Tryz.ntmps66
  go_wp2_with fail
  have hx1 := HX0.out.new (.cells #[.string ⟨#[]⟩, .slice none 0 0, .slice none 0 0, .int .i64 0, .int .i64 0] 40)
  have hb1 := Blk.new w1 40 #[.string ⟨#[]⟩, .slice none 0 0, .slice none 0 0, .int .i64 0, .int .i64 0]
  have hs1 : Same X w1 (w1.alloc (.cells #[.string ⟨#[]⟩, .slice none 0 0, .slice none 0 0, .int .i64 0, .int .i64 0] 40)) := Same.alloc (fun i h => (HIN.out i h).2) _
  have hnx : ¬ X w1.heap.size := fun h => by have := (HIN.out _ h).2; omega
  have hNlt := hb1.lt
  generalize hN : w1.heap.size = N at hx1 hb1 hnx hNlt ⊢
  generalize hw2 : w1.alloc (.cells #[.string ⟨#[]⟩, .slice none 0 0, .slice none 0 0, .int .i64 0, .int .i64 0] 40) = w2 at hx1 hb1 hs1 hNlt ⊢
  have HXa := Lib.hid hx1
  have HBa := Lib.hid hb1
  have HSa := Lib.hid hs1
  have HN := Lib.hid hN
  clear hw2 hx1 hb1 hs1 HX0 hN
  refine (HXa.out.need_ hlt ⟨#[102, 110]⟩).mono ?_
  intro r wb hr
  by_cases hs : seesW (tok ws k) ⟨#[102, 110]⟩ = true
  · rw [hs] at hr
    obtain ⟨rfl, hm⟩ := hr
    have HPb := Lib.hid hm
    have HCb := Lib.hid hs
    clear hs hm
    obtain ⟨hx, hsm⟩ := HPb.out
    have HXb := Lib.hid hx
    have HBb := Lib.hid (hsm.blk (.inr rfl) HBa.out)
    have HSb := Lib.hid (HSa.out.trans_ (fun i hi => hsm i ((.inl hi))))
    clear hx hsm
    have hlt1 := sees_next HE.out hlt HCb.out
    go_wp2_with fail

    refine (HXb.out.name_ hlt1).mono ?_
    intro r wc hr
    by_cases hs : decide ((tok ws (k + 1)).kind = 1) = true
    · rw [hs] at hr
      obtain ⟨rfl, hm⟩ := hr
      have HPc := Lib.hid hm
      have HCc := Lib.hid hs
      clear hs hm
      obtain ⟨hx, hsm⟩ := HPc.out
      have HXc := Lib.hid hx
      have HBc := Lib.hid (hsm.blk (.inr rfl) HBb.out)
      have HSc := Lib.hid (HSb.out.trans_ (fun i hi => hsm i ((.inl hi))))
      clear hx hsm
      have hlt2 : k + 2 < ws.length := kind_next HE.out hlt1 (kd := 1) (by simpa using HCc.out) (by decide)
      have y0 := HBc.out.frozen 0
      have z0 := HBc.out.cell 0
      simp at z0
      have hb9 := HBc.out.set_ 0 (.string (tok ws (k + 1)).text)
      simp at hb9
      have HXe := Lib.hid (HXc.out.put (N := N) (.inr rfl) 0 (.string (tok ws (k + 1)).text))
      have HBe := Lib.hid hb9
      have HSe := Lib.hid (HSc.out.trans_ (Same.put (w1 := wc) (i := 0) (v := .string (tok ws (k + 1)).text) hnx))
      clear hb9
      go_wp2_with fail
      generalize hw9 : wc.setCell ⟨N, 0, none⟩ (.string (tok ws (k + 1)).text) = we at HXe HBe HSe ⊢
      clear hw9 y0 z0

      refine (HXe.out.take_ hlt2 ⟨#[91]⟩).mono ?_
      rintro r wf ⟨rfl, hm⟩
      by_cases hs : seesW (tok ws (k + 2)) ⟨#[91]⟩ = true
      · rw [adv_yes hs] at hm
        have HPf := Lib.hid hm
        rw [hs]
        have HCf := Lib.hid hs
        clear hs hm
        obtain ⟨hx, hsm⟩ := HPf.out
        have HXf := Lib.hid hx
        have HBf := Lib.hid (hsm.blk (.inr rfl) HBe.out)
        have HSf := Lib.hid (HSe.out.trans_ (fun i hi => hsm i ((.inl hi))))
        clear hx hsm
        have HOKf : Hid (OkP ws (k + 3) nds) := Lib.hid ⟨sees_next HE.out hlt2 HCf.out, HOK.out.room, HOK.out.ok⟩
        go_wp2_with fail

        refine (HXf.out.named_ typeName_rule (by decide) HE.out ⟨#[60, 58]⟩ HRt.out HGt.out HOKf.out).mono ?_
        intro r wg ho
        rcases hres : namedR ws 2 ⟨#[60, 58]⟩ Rt (k + 3) nds with ⟨at_, er⟩ | ⟨lg, kg, ng, nsg⟩
        · rw [hres] at ho
          obtain ⟨rfl, hk9⟩ := ho
          refine And.intro rfl (FOutX.err ?_ hk9)
          rw [fnR, if_pos HCb.out, if_pos (by simpa using HCc.out), if_pos HCf.out, hres]
        · obtain ⟨hok9, -, -, hlen9, hl169⟩ := namedR_good HE.out (by decide) HGt.out HOKf.out hres
          rw [hres] at ho
          obtain ⟨nv, lv, rfl, hx9, hsm9⟩ := ho
          obtain ⟨NA, nc, LA, lc, M9, rfl, rfl, hss9, hii9⟩ := hx9.lists
          have HOKg := Lib.hid hok9
          have HRg := Lib.hid hres
          have HLg := Lib.hid hlen9
          have HSSg := Lib.hid hss9
          have HIIg := Lib.hid hii9
          have HXg := Lib.hid hx9.mdx
          have HBg := Lib.hid (hsm9.blk (.inr rfl) HBf.out)
          have HSg := Lib.hid (HSf.out.trans_ (fun i hi => hsm9 i ((.inl hi))))
          clear hres hok9 hlen9 hx9 hsm9 hss9 hii9
          go_wp2_with fail
          refine (vars_any NA LA nc lc nsg lg wg M9 M9 HSSg.out HIIg.out HLg.out hl169).mono ?_
          rintro r wgv ⟨v9, rfl, hb9, ho9⟩
          obtain ⟨VAg, vcg, rfl⟩ := own_slice ho9
          obtain ⟨hx9, hsm9⟩ := HXg.out.below hb9 ho9 (Nat.le_refl _)
          have hNn : N < wg.heap.size := HBg.out.lt
          have HXgv := Lib.hid hx9
          have HBgv := Lib.hid (hsm9.blk (.inr rfl) HBg.out)
          have HSgv := Lib.hid (HSg.out.trans_ (fun i hi => hsm9 i ((.inl hi))))
          have HWgv := Lib.hid (own_base ho9 (base' := N + 1) hNn)
          clear hx9 hsm9 hb9 ho9
          have y1 := HBgv.out.frozen 1
          have z1 := HBgv.out.cell 1
          simp at z1
          have hb9 := HBgv.out.set_ 1 (.slice VAg (zipD nsg lg).length vcg)
          simp at hb9
          have HXh := Lib.hid (HXgv.out.put (N := N) (.inl (.inr rfl)) 1 (.slice VAg (zipD nsg lg).length vcg))
          have HBh := Lib.hid hb9
          have HSh := Lib.hid (HSgv.out.trans_ (Same.put (w1 := wgv) (i := 1) (v := .slice VAg (zipD nsg lg).length vcg) hnx))
          have HWh := Lib.hid (own_put (i := 1) (u := .slice VAg (zipD nsg lg).length vcg) HWgv.out (Nat.lt_succ_self N))
          clear hb9
          go_wp2_with fail
          generalize hw9 : wgv.setCell ⟨N, 1, none⟩ (.slice VAg (zipD nsg lg).length vcg) = wh at HXh HBh HSh HWh ⊢
          clear hw9 y1 z1

          refine (HXh.out.need_ HOKg.out.lt ⟨#[93]⟩).mono ?_
          intro r wi hr
          by_cases hs : seesW (tok ws kg) ⟨#[93]⟩ = true
          · rw [hs] at hr
            obtain ⟨rfl, hm⟩ := hr
            have HPi := Lib.hid hm
            have HCi := Lib.hid hs
            clear hs hm
            obtain ⟨hx, hsm⟩ := HPi.out
            have HXi := Lib.hid hx
            have HBi := Lib.hid (hsm.blk (.inl (.inr rfl)) HBh.out)
            have HSi := Lib.hid (HSh.out.trans_ (fun i hi => hsm i ((.inl (.inl hi)))))
            have HWi := Lib.hid (hsm.own (fun q h => .inr h) HWh.out)
            clear hx hsm
            have HOKi : Hid (OkP ws (kg + 1) ng) := Lib.hid ⟨sees_next HE.out HOKg.out.lt HCi.out, HOKg.out.room, HOKg.out.ok⟩
            have HVi := HWi
            go_wp2_with fail

            refine (HXi.out.need_ HOKi.out.lt ⟨#[40]⟩).mono ?_
            intro r wi5 hr
            by_cases hs : seesW (tok ws (kg + 1)) ⟨#[40]⟩ = true
            · rw [hs] at hr
              obtain ⟨rfl, hm⟩ := hr
              have HPi5 := Lib.hid hm
              have HCi5 := Lib.hid hs
              clear hs hm
              obtain ⟨hx, hsm⟩ := HPi5.out
              have HXi5 := Lib.hid hx
              have HBi5 := Lib.hid (hsm.blk (.inl (.inr rfl)) HBi.out)
              have HSi5 := Lib.hid (HSi.out.trans_ (fun i hi => hsm i ((.inl (.inl hi)))))
              have HVi5 := Lib.hid (hsm.own (fun q h => .inr h) HVi.out)
              clear hx hsm
              have hlti5 := sees_next HE.out HOKi.out.lt HCi5.out
              have HOKi5 : Hid (OkP ws ((kg + 1) + 1) ng) := Lib.hid ⟨hlti5, HOKi.out.room, HOKi.out.ok⟩
              go_wp2_with fail

              refine (HXi5.out.sees_ hlti5 ⟨#[41]⟩).mono ?_
              rintro r wi6 ⟨rfl, hm⟩
              have HPi6 := Lib.hid hm
              clear hm
              obtain ⟨hx, hsm⟩ := HPi6.out
              have HXi6 := Lib.hid hx
              have HBi6 := Lib.hid (hsm.blk (.inl (.inr rfl)) HBi5.out)
              have HSi6 := Lib.hid (HSi5.out.trans_ (fun i hi => hsm i ((.inl (.inl hi)))))
              have HVi6 := Lib.hid (hsm.own (fun q h => .inr h) HVi5.out)
              clear hx hsm
              by_cases hs : seesW (tok ws ((kg + 1) + 1)) ⟨#[41]⟩ = true
              · rw [hs]
                have HCi6 := Lib.hid hs
                clear hs
                have HOKi6 := HOKi5
                go_wp2_with fail

                refine (HXi6.out.need_ HOKi6.out.lt ⟨#[41]⟩).mono ?_
                intro r wi61 hr
                by_cases hs : seesW (tok ws ((kg + 1) + 1)) ⟨#[41]⟩ = true
                · rw [hs] at hr
                  obtain ⟨rfl, hm⟩ := hr
                  have HPi61 := Lib.hid hm
                  have HCi61 := Lib.hid hs
                  clear hs hm
                  obtain ⟨hx, hsm⟩ := HPi61.out
                  have HXi61 := Lib.hid hx
                  have HBi61 := Lib.hid (hsm.blk (.inl (.inr rfl)) HBi6.out)
                  have HSi61 := Lib.hid (HSi6.out.trans_ (fun i hi => hsm i ((.inl (.inl hi)))))
                  have HVi61 := Lib.hid (hsm.own (fun q h => .inr h) HVi6.out)
                  clear hx hsm
                  have hlti61 := sees_next HE.out HOKi6.out.lt HCi61.out
                  have HOKi61 : Hid (OkP ws (((kg + 1) + 1) + 1) ng) := Lib.hid ⟨hlti61, HOKi6.out.room, HOKi6.out.ok⟩
                  go_wp2_with fail

                  refine (HXi61.out.behind_ HRt.out hlti61 ⟨#[58]⟩ (fun hs => ⟨sees_next HE.out hlti61 hs, HOKi6.out.room, HOKi6.out.ok⟩)).mono ?_
                  intro r wi62 ho
                  rcases hres : behindR ws ⟨#[58]⟩ Rt (((kg + 1) + 1) + 1) ng with ⟨at_, er⟩ | ⟨vi62, ki62, ni62⟩
                  · rw [hres] at ho
                    obtain ⟨rfl, hk9⟩ := ho
                    refine And.intro rfl (FOutX.err ?_ hk9)
                    rw [fnR, if_pos HCb.out, if_pos (by simpa using HCc.out), if_pos HCf.out, HRg.out]; simp only [HCi.out, if_true]; rw [fnParams, if_pos HCi5.out, if_pos HCi6.out]; rw [fnTail, if_pos HCi61.out, hres]
                  · rw [hres] at ho
                    obtain ⟨rfl, hm⟩ := ho
                    have HPi62 := Lib.hid hm
                    have HRi62 := Lib.hid hres
                    obtain ⟨-, hok9, -, -⟩ := behindR_ok HE.out HGt.out ⟨#[58]⟩ _ _ _ _ _ HOKi61.out hres
                    have HOKi62 := Lib.hid hok9
                    clear hok9
                    clear hres hm
                    obtain ⟨hx, hsm⟩ := HPi62.out
                    have HXi62 := Lib.hid hx
                    have HBi62 := Lib.hid (hsm.blk (.inl (.inr rfl)) HBi61.out)
                    have HSi62 := Lib.hid (HSi61.out.trans_ (fun i hi => hsm i ((.inl (.inl hi)))))
                    have HVi62 := Lib.hid (hsm.own (fun q h => .inr h) HVi61.out)
                    clear hx hsm
                    have y3 := HBi62.out.frozen 3
                    have z3 := HBi62.out.cell 3
                    simp at z3
                    have hb9 := HBi62.out.set_ 3 (.int .i64 (vi62 : Int))
                    simp at hb9
                    have HXi63 := Lib.hid (HXi62.out.put (N := N) (.inl (.inr rfl)) 3 (.int .i64 (vi62 : Int)))
                    have HBi63 := Lib.hid hb9
                    have HSi63 := Lib.hid (HSi62.out.trans_ (Same.put (w1 := wi62) (i := 3) (v := .int .i64 (vi62 : Int)) hnx))
                    have HVi63 := Lib.hid (own_put (i := 3) (u := .int .i64 (vi62 : Int)) HVi62.out (Nat.lt_succ_self N))
                    clear hb9
                    go_wp2_with fail
                    generalize hw9 : wi62.setCell ⟨N, 3, none⟩ (.int .i64 (vi62 : Int)) = wi63 at HXi63 HBi63 HSi63 HVi63 ⊢
                    clear hw9 y3 z3

                    refine (HXi63.out.behind_ HRx.out HOKi62.out.lt ⟨#[61]⟩ (fun hs => ⟨sees_next HE.out HOKi62.out.lt hs, HOKi62.out.room, HOKi62.out.ok⟩)).mono ?_
                    intro r wi64 ho
                    rcases hres : behindR ws ⟨#[61]⟩ Rx ki62 ni62 with ⟨at_, er⟩ | ⟨vi64, ki64, ni64⟩
                    · rw [hres] at ho
                      obtain ⟨rfl, hk9⟩ := ho
                      refine And.intro rfl (FOutX.err ?_ hk9)
                      rw [fnR, if_pos HCb.out, if_pos (by simpa using HCc.out), if_pos HCf.out, HRg.out]; simp only [HCi.out, if_true]; rw [fnParams, if_pos HCi5.out, if_pos HCi6.out]; rw [fnTail, if_pos HCi61.out, HRi62.out]; simp only [hres]
                    · rw [hres] at ho
                      obtain ⟨rfl, hm⟩ := ho
                      have HPi64 := Lib.hid hm
                      have HRi64 := Lib.hid hres
                      obtain ⟨-, hok9, -, -⟩ := behindR_ok HE.out HGx.out ⟨#[61]⟩ _ _ _ _ _ HOKi62.out hres
                      have HOKi64 := Lib.hid hok9
                      clear hok9
                      clear hres hm
                      obtain ⟨hx, hsm⟩ := HPi64.out
                      have HXi64 := Lib.hid hx
                      have HBi64 := Lib.hid (hsm.blk (.inl (.inr rfl)) HBi63.out)
                      have HSi64 := Lib.hid (HSi63.out.trans_ (fun i hi => hsm i ((.inl (.inl hi)))))
                      have HVi64 := Lib.hid (hsm.own (fun q h => .inr h) HVi63.out)
                      clear hx hsm
                      have y4 := HBi64.out.frozen 4
                      have z4 := HBi64.out.cell 4
                      simp at z4
                      have hb9 := HBi64.out.set_ 4 (.int .i64 (vi64 : Int))
                      simp at hb9
                      have HXi69 := Lib.hid (HXi64.out.put (N := N) (.inl (.inr rfl)) 4 (.int .i64 (vi64 : Int)))
                      have HBi69 := Lib.hid hb9
                      have HSi69 := Lib.hid (HSi64.out.trans_ (Same.put (w1 := wi64) (i := 4) (v := .int .i64 (vi64 : Int)) hnx))
                      have HVi69 := Lib.hid (own_put (i := 4) (u := .int .i64 (vi64 : Int)) HVi64.out (Nat.lt_succ_self N))
                      clear hb9
                      have hb10 := HBi69.out
                      have c0 := hb10.cell 0
                      have c1 := hb10.cell 1
                      have c2 := hb10.cell 2
                      have c3 := hb10.cell 3
                      have c4 := hb10.cell 4
                      have e0 := hb10.frozen 0
                      have e1 := hb10.frozen 1
                      have e2 := hb10.frozen 2
                      have e3 := hb10.frozen 3
                      have e4 := hb10.frozen 4
                      simp at c0 c1 c2 c3 c4
                      clear hb10
                      go_upto_region 12 with (fail)
                      generalize hw9 : wi64.setCell ⟨N, 4, none⟩ (.int .i64 (vi64 : Int)) = wi69 at HXi69 HBi69 HSi69 HVi69 c0 c1 c2 c3 c4 e0 e1 e2 e3 e4 ⊢
                      clear hw9 y4 z4
                      go_wp2_with fail
                      obtain ⟨hx10, hs10, hb10, ho10⟩ := fn_end HXi69.out (.inl (.inr rfl)) hnx HSi69.out _ _ _ _ _ HBi69.out
                      have d0 := hb10.cell 0
                      have d1 := hb10.cell 1
                      have d2 := hb10.cell 2
                      have d3 := hb10.cell 3
                      have d4 := hb10.cell 4
                      simp only [List.getElem?_toArray, List.getElem?_cons_zero, List.getElem?_cons_succ] at d0 d1 d2 d3 d4
                      refine bodyPost_ret (v := .agg #[.string (tok ws (k + 1)).text, Value.slice VAg (zipD nsg lg).length vcg, Value.slice none 0 0, .int .i64 (vi62 : Int), .int .i64 (vi64 : Int)]) (by simp [results, Tryz.results66, go_sem, d0, d1, d2, d3, d4]) rfl ?_
                      refine FOutX.done (x := ⟨(tok ws (k + 1)).text, (zipD nsg lg), [], vi62, vi64⟩) (k' := ki64) (nds' := ni64) (vv := Value.slice VAg (zipD nsg lg).length vcg) (pv := Value.slice none 0 0) ?_ hx10 ?_ hs10 (by rw [HN.out]; exact ho10 _ _ _ _ _ HVi69.out) (by rw [HN.out]; exact ⟨rfl, .inl ⟨rfl, rfl⟩⟩)
                      · rw [fnR, if_pos HCb.out, if_pos (by simpa using HCc.out), if_pos HCf.out, HRg.out]; simp only [HCi.out, if_true]; rw [fnParams, if_pos HCi5.out, if_pos HCi6.out]; rw [fnTail, if_pos HCi61.out, HRi62.out]; simp only [HRi64.out]
                      · rintro i (h | h | h)
                        · exact (.inl (.inl h))
                        · exact .inr h
                        · simp [Value.ownBlock] at h
                · have hs2 : seesW (tok ws ((kg + 1) + 1)) ⟨#[41]⟩ = false := by simpa using hs
                  rw [hs2] at hr
                  obtain ⟨rfl, hk9⟩ := hr
                  refine And.intro rfl (FOutX.err ?_ hk9)
                  rw [fnR, if_pos HCb.out, if_pos (by simpa using HCc.out), if_pos HCf.out, HRg.out]; simp only [HCi.out, if_true]; rw [fnParams, if_pos HCi5.out, if_pos HCi6.out]; rw [fnTail, if_neg (by rw [hs2]; simp)]
              · have hs2 : seesW (tok ws ((kg + 1) + 1)) ⟨#[41]⟩ = false := by simpa using hs
                rw [hs2]
                have HCi6 := Lib.hid hs2
                clear hs hs2
                go_wp2_with fail

                refine (HXi6.out.named_ name_rule (by decide) HE.out ⟨#[58]⟩ HRt.out HGt.out HOKi5.out).mono ?_
                intro r wi7 ho
                rcases hres : namedR ws 1 ⟨#[58]⟩ Rt ((kg + 1) + 1) ng with ⟨at_, er⟩ | ⟨li7, ki7, ni7, nsi7⟩
                · rw [hres] at ho
                  obtain ⟨rfl, hk9⟩ := ho
                  refine And.intro rfl (FOutX.err ?_ hk9)
                  rw [fnR, if_pos HCb.out, if_pos (by simpa using HCc.out), if_pos HCf.out, HRg.out]; simp only [HCi.out, if_true]; rw [fnParams, if_pos HCi5.out, if_neg (by rw [HCi6.out]; simp), hres]
                · obtain ⟨hok9, -, -, hlen9, hl169⟩ := namedR_good HE.out (by decide) HGt.out HOKi5.out hres
                  rw [hres] at ho
                  obtain ⟨nv, lv, rfl, hx9, hsm9⟩ := ho
                  obtain ⟨NA, nc, LA, lc, M9, rfl, rfl, hss9, hii9⟩ := hx9.lists
                  have HOKi7 := Lib.hid hok9
                  have HRi7 := Lib.hid hres
                  have HLi7 := Lib.hid hlen9
                  have HSSi7 := Lib.hid hss9
                  have HIIi7 := Lib.hid hii9
                  have HXi7 := Lib.hid hx9.mdx
                  have HBi7 := Lib.hid (hsm9.blk (.inl (.inr rfl)) HBi6.out)
                  have HSi7 := Lib.hid (HSi6.out.trans_ (fun i hi => hsm9 i ((.inl (.inl hi)))))
                  have HVi7 := Lib.hid (hsm9.own (fun q h => .inr h) HVi6.out)
                  clear hres hok9 hlen9 hx9 hsm9 hss9 hii9
                  go_wp2_with fail
                  refine (vars_any NA LA nc lc nsi7 li7 wi7 M9 M9 HSSi7.out HIIi7.out HLi7.out hl169).mono ?_
                  rintro r wi7v ⟨v9, rfl, hb9, ho9⟩
                  obtain ⟨VAi7, vci7, rfl⟩ := own_slice ho9
                  obtain ⟨hx9, hsm9⟩ := HXi7.out.below hb9 ho9 (Nat.le_refl _)
                  have hNn : N < wi7.heap.size := HBi7.out.lt
                  have HXi7v := Lib.hid hx9
                  have HBi7v := Lib.hid (hsm9.blk (.inl (.inr rfl)) HBi7.out)
                  have HSi7v := Lib.hid (HSi7.out.trans_ (fun i hi => hsm9 i ((.inl (.inl hi)))))
                  have HWi7v := Lib.hid (own_base ho9 (base' := N + 1) hNn)
                  have HVi7v := Lib.hid (hsm9.own (fun q h => .inr h) HVi7.out)
                  clear hx9 hsm9 hb9 ho9
                  have y2 := HBi7v.out.frozen 2
                  have z2 := HBi7v.out.cell 2
                  simp at z2
                  have hb9 := HBi7v.out.set_ 2 (.slice VAi7 (zipD nsi7 li7).length vci7)
                  simp at hb9
                  have HXi8 := Lib.hid (HXi7v.out.put (N := N) (.inl (.inl (.inr rfl))) 2 (.slice VAi7 (zipD nsi7 li7).length vci7))
                  have HBi8 := Lib.hid hb9
                  have HSi8 := Lib.hid (HSi7v.out.trans_ (Same.put (w1 := wi7v) (i := 2) (v := .slice VAi7 (zipD nsi7 li7).length vci7) hnx))
                  have HVi8 := Lib.hid (own_put (i := 2) (u := .slice VAi7 (zipD nsi7 li7).length vci7) HVi7v.out (Nat.lt_succ_self N))
                  have HWi8 := Lib.hid (own_put (i := 2) (u := .slice VAi7 (zipD nsi7 li7).length vci7) HWi7v.out (Nat.lt_succ_self N))
                  clear hb9
                  go_wp2_with fail
                  generalize hw9 : wi7v.setCell ⟨N, 2, none⟩ (.slice VAi7 (zipD nsi7 li7).length vci7) = wi8 at HXi8 HBi8 HSi8 HVi8 HWi8 ⊢
                  clear hw9 y2 z2
                  have HOKi8 := HOKi7
                  go_wp2_with fail

                  refine (HXi8.out.need_ HOKi8.out.lt ⟨#[41]⟩).mono ?_
                  intro r wi81 hr
                  by_cases hs : seesW (tok ws ki7) ⟨#[41]⟩ = true
                  · rw [hs] at hr
                    obtain ⟨rfl, hm⟩ := hr
                    have HPi81 := Lib.hid hm
                    have HCi81 := Lib.hid hs
                    clear hs hm
                    obtain ⟨hx, hsm⟩ := HPi81.out
                    have HXi81 := Lib.hid hx
                    have HBi81 := Lib.hid (hsm.blk (.inl (.inl (.inr rfl))) HBi8.out)
                    have HSi81 := Lib.hid (HSi8.out.trans_ (fun i hi => hsm i ((.inl (.inl (.inl hi))))))
                    have HVi81 := Lib.hid (hsm.own (fun q h => .inl ((fun q h => .inr h) q h)) HVi8.out)
                    have HWi81 := Lib.hid (hsm.own (fun q h => .inr h) HWi8.out)
                    clear hx hsm
                    have hlti81 := sees_next HE.out HOKi8.out.lt HCi81.out
                    have HOKi81 : Hid (OkP ws (ki7 + 1) ni7) := Lib.hid ⟨hlti81, HOKi8.out.room, HOKi8.out.ok⟩
                    go_wp2_with fail

                    refine (HXi81.out.behind_ HRt.out hlti81 ⟨#[58]⟩ (fun hs => ⟨sees_next HE.out hlti81 hs, HOKi8.out.room, HOKi8.out.ok⟩)).mono ?_
                    intro r wi82 ho
                    rcases hres : behindR ws ⟨#[58]⟩ Rt (ki7 + 1) ni7 with ⟨at_, er⟩ | ⟨vi82, ki82, ni82⟩
                    · rw [hres] at ho
                      obtain ⟨rfl, hk9⟩ := ho
                      refine And.intro rfl (FOutX.err ?_ hk9)
                      rw [fnR, if_pos HCb.out, if_pos (by simpa using HCc.out), if_pos HCf.out, HRg.out]; simp only [HCi.out, if_true]; rw [fnParams, if_pos HCi5.out, if_neg (by rw [HCi6.out]; simp), HRi7.out]; dsimp only; rw [fnTail, if_pos HCi81.out, hres]
                    · rw [hres] at ho
                      obtain ⟨rfl, hm⟩ := ho
                      have HPi82 := Lib.hid hm
                      have HRi82 := Lib.hid hres
                      obtain ⟨-, hok9, -, -⟩ := behindR_ok HE.out HGt.out ⟨#[58]⟩ _ _ _ _ _ HOKi81.out hres
                      have HOKi82 := Lib.hid hok9
                      clear hok9
                      clear hres hm
                      obtain ⟨hx, hsm⟩ := HPi82.out
                      have HXi82 := Lib.hid hx
                      have HBi82 := Lib.hid (hsm.blk (.inl (.inl (.inr rfl))) HBi81.out)
                      have HSi82 := Lib.hid (HSi81.out.trans_ (fun i hi => hsm i ((.inl (.inl (.inl hi))))))
                      have HVi82 := Lib.hid (hsm.own (fun q h => .inl ((fun q h => .inr h) q h)) HVi81.out)
                      have HWi82 := Lib.hid (hsm.own (fun q h => .inr h) HWi81.out)
                      clear hx hsm
                      have y3 := HBi82.out.frozen 3
                      have z3 := HBi82.out.cell 3
                      simp at z3
                      have hb9 := HBi82.out.set_ 3 (.int .i64 (vi82 : Int))
                      simp at hb9
                      have HXi83 := Lib.hid (HXi82.out.put (N := N) (.inl (.inl (.inr rfl))) 3 (.int .i64 (vi82 : Int)))
                      have HBi83 := Lib.hid hb9
                      have HSi83 := Lib.hid (HSi82.out.trans_ (Same.put (w1 := wi82) (i := 3) (v := .int .i64 (vi82 : Int)) hnx))
                      have HVi83 := Lib.hid (own_put (i := 3) (u := .int .i64 (vi82 : Int)) HVi82.out (Nat.lt_succ_self N))
                      have HWi83 := Lib.hid (own_put (i := 3) (u := .int .i64 (vi82 : Int)) HWi82.out (Nat.lt_succ_self N))
                      clear hb9
                      go_wp2_with fail
                      generalize hw9 : wi82.setCell ⟨N, 3, none⟩ (.int .i64 (vi82 : Int)) = wi83 at HXi83 HBi83 HSi83 HVi83 HWi83 ⊢
                      clear hw9 y3 z3

                      refine (HXi83.out.behind_ HRx.out HOKi82.out.lt ⟨#[61]⟩ (fun hs => ⟨sees_next HE.out HOKi82.out.lt hs, HOKi82.out.room, HOKi82.out.ok⟩)).mono ?_
                      intro r wi84 ho
                      rcases hres : behindR ws ⟨#[61]⟩ Rx ki82 ni82 with ⟨at_, er⟩ | ⟨vi84, ki84, ni84⟩
                      · rw [hres] at ho
                        obtain ⟨rfl, hk9⟩ := ho
                        refine And.intro rfl (FOutX.err ?_ hk9)
                        rw [fnR, if_pos HCb.out, if_pos (by simpa using HCc.out), if_pos HCf.out, HRg.out]; simp only [HCi.out, if_true]; rw [fnParams, if_pos HCi5.out, if_neg (by rw [HCi6.out]; simp), HRi7.out]; dsimp only; rw [fnTail, if_pos HCi81.out, HRi82.out]; simp only [hres]
                      · rw [hres] at ho
                        obtain ⟨rfl, hm⟩ := ho
                        have HPi84 := Lib.hid hm
                        have HRi84 := Lib.hid hres
                        obtain ⟨-, hok9, -, -⟩ := behindR_ok HE.out HGx.out ⟨#[61]⟩ _ _ _ _ _ HOKi82.out hres
                        have HOKi84 := Lib.hid hok9
                        clear hok9
                        clear hres hm
                        obtain ⟨hx, hsm⟩ := HPi84.out
                        have HXi84 := Lib.hid hx
                        have HBi84 := Lib.hid (hsm.blk (.inl (.inl (.inr rfl))) HBi83.out)
                        have HSi84 := Lib.hid (HSi83.out.trans_ (fun i hi => hsm i ((.inl (.inl (.inl hi))))))
                        have HVi84 := Lib.hid (hsm.own (fun q h => .inl ((fun q h => .inr h) q h)) HVi83.out)
                        have HWi84 := Lib.hid (hsm.own (fun q h => .inr h) HWi83.out)
                        clear hx hsm
                        have y4 := HBi84.out.frozen 4
                        have z4 := HBi84.out.cell 4
                        simp at z4
                        have hb9 := HBi84.out.set_ 4 (.int .i64 (vi84 : Int))
                        simp at hb9
                        have HXi89 := Lib.hid (HXi84.out.put (N := N) (.inl (.inl (.inr rfl))) 4 (.int .i64 (vi84 : Int)))
                        have HBi89 := Lib.hid hb9
                        have HSi89 := Lib.hid (HSi84.out.trans_ (Same.put (w1 := wi84) (i := 4) (v := .int .i64 (vi84 : Int)) hnx))
                        have HVi89 := Lib.hid (own_put (i := 4) (u := .int .i64 (vi84 : Int)) HVi84.out (Nat.lt_succ_self N))
                        have HWi89 := Lib.hid (own_put (i := 4) (u := .int .i64 (vi84 : Int)) HWi84.out (Nat.lt_succ_self N))
                        clear hb9
                        have hb10 := HBi89.out
                        have c0 := hb10.cell 0
                        have c1 := hb10.cell 1
                        have c2 := hb10.cell 2
                        have c3 := hb10.cell 3
                        have c4 := hb10.cell 4
                        have e0 := hb10.frozen 0
                        have e1 := hb10.frozen 1
                        have e2 := hb10.frozen 2
                        have e3 := hb10.frozen 3
                        have e4 := hb10.frozen 4
                        simp at c0 c1 c2 c3 c4
                        clear hb10
                        go_upto_region 12 with (fail)
                        generalize hw9 : wi84.setCell ⟨N, 4, none⟩ (.int .i64 (vi84 : Int)) = wi89 at HXi89 HBi89 HSi89 HVi89 HWi89 c0 c1 c2 c3 c4 e0 e1 e2 e3 e4 ⊢
                        clear hw9 y4 z4
                        go_wp2_with fail
                        obtain ⟨hx10, hs10, hb10, ho10⟩ := fn_end HXi89.out (.inl (.inl (.inr rfl))) hnx HSi89.out _ _ _ _ _ HBi89.out
                        have d0 := hb10.cell 0
                        have d1 := hb10.cell 1
                        have d2 := hb10.cell 2
                        have d3 := hb10.cell 3
                        have d4 := hb10.cell 4
                        simp only [List.getElem?_toArray, List.getElem?_cons_zero, List.getElem?_cons_succ] at d0 d1 d2 d3 d4
                        refine bodyPost_ret (v := .agg #[.string (tok ws (k + 1)).text, Value.slice VAg (zipD nsg lg).length vcg, Value.slice VAi7 (zipD nsi7 li7).length vci7, .int .i64 (vi82 : Int), .int .i64 (vi84 : Int)]) (by simp [results, Tryz.results66, go_sem, d0, d1, d2, d3, d4]) rfl ?_
                        refine FOutX.done (x := ⟨(tok ws (k + 1)).text, (zipD nsg lg), (zipD nsi7 li7), vi82, vi84⟩) (k' := ki84) (nds' := ni84) (vv := Value.slice VAg (zipD nsg lg).length vcg) (pv := Value.slice VAi7 (zipD nsi7 li7).length vci7) ?_ hx10 ?_ hs10 (by rw [HN.out]; exact ho10 _ _ _ _ _ HVi89.out) (by rw [HN.out]; exact ho10 _ _ _ _ _ HWi89.out)
                        · rw [fnR, if_pos HCb.out, if_pos (by simpa using HCc.out), if_pos HCf.out, HRg.out]; simp only [HCi.out, if_true]; rw [fnParams, if_pos HCi5.out, if_neg (by rw [HCi6.out]; simp), HRi7.out]; dsimp only; rw [fnTail, if_pos HCi81.out, HRi82.out]; simp only [HRi84.out]
                        · rintro i (h | h | h)
                          · exact (.inl (.inl (.inl h)))
                          · exact .inl (.inr h)
                          · exact .inr h
                  · have hs2 : seesW (tok ws ki7) ⟨#[41]⟩ = false := by simpa using hs
                    rw [hs2] at hr
                    obtain ⟨rfl, hk9⟩ := hr
                    refine And.intro rfl (FOutX.err ?_ hk9)
                    rw [fnR, if_pos HCb.out, if_pos (by simpa using HCc.out), if_pos HCf.out, HRg.out]; simp only [HCi.out, if_true]; rw [fnParams, if_pos HCi5.out, if_neg (by rw [HCi6.out]; simp), HRi7.out]; dsimp only; rw [fnTail, if_neg (by rw [hs2]; simp)]
            · have hs2 : seesW (tok ws (kg + 1)) ⟨#[40]⟩ = false := by simpa using hs
              rw [hs2] at hr
              obtain ⟨rfl, hk9⟩ := hr
              refine And.intro rfl (FOutX.err ?_ hk9)
              rw [fnR, if_pos HCb.out, if_pos (by simpa using HCc.out), if_pos HCf.out, HRg.out]; simp only [HCi.out, if_true]; rw [fnParams, if_neg (by rw [hs2]; simp)]
          · have hs2 : seesW (tok ws kg) ⟨#[93]⟩ = false := by simpa using hs
            rw [hs2] at hr
            obtain ⟨rfl, hk9⟩ := hr
            refine And.intro rfl (FOutX.err ?_ hk9)
            rw [fnR, if_pos HCb.out, if_pos (by simpa using HCc.out), if_pos HCf.out, HRg.out]; simp only [hs2]; rfl
      · have hs2 : seesW (tok ws (k + 2)) ⟨#[91]⟩ = false := by simpa using hs
        rw [adv_no hs2] at hm
        have HPf := Lib.hid hm
        rw [hs2]
        have HCf := Lib.hid hs2
        clear hs hs2 hm
        obtain ⟨hx, hsm⟩ := HPf.out
        have HXf := Lib.hid hx
        have HBf := Lib.hid (hsm.blk (.inr rfl) HBe.out)
        have HSf := Lib.hid (HSe.out.trans_ (fun i hi => hsm i ((.inl hi))))
        clear hx hsm
        have HOKf : Hid (OkP ws (k + 2) nds) := Lib.hid ⟨hlt2, HOK.out.room, HOK.out.ok⟩
        go_wp2_with fail

        refine (HXf.out.need_ HOKf.out.lt ⟨#[40]⟩).mono ?_
        intro r wf5 hr
        by_cases hs : seesW (tok ws (k + 2)) ⟨#[40]⟩ = true
        · rw [hs] at hr
          obtain ⟨rfl, hm⟩ := hr
          have HPf5 := Lib.hid hm
          have HCf5 := Lib.hid hs
          clear hs hm
          obtain ⟨hx, hsm⟩ := HPf5.out
          have HXf5 := Lib.hid hx
          have HBf5 := Lib.hid (hsm.blk (.inr rfl) HBf.out)
          have HSf5 := Lib.hid (HSf.out.trans_ (fun i hi => hsm i ((.inl hi))))
          clear hx hsm
          have hltf5 := sees_next HE.out HOKf.out.lt HCf5.out
          have HOKf5 : Hid (OkP ws ((k + 2) + 1) nds) := Lib.hid ⟨hltf5, HOKf.out.room, HOKf.out.ok⟩
          go_wp2_with fail

          refine (HXf5.out.sees_ hltf5 ⟨#[41]⟩).mono ?_
          rintro r wf6 ⟨rfl, hm⟩
          have HPf6 := Lib.hid hm
          clear hm
          obtain ⟨hx, hsm⟩ := HPf6.out
          have HXf6 := Lib.hid hx
          have HBf6 := Lib.hid (hsm.blk (.inr rfl) HBf5.out)
          have HSf6 := Lib.hid (HSf5.out.trans_ (fun i hi => hsm i ((.inl hi))))
          clear hx hsm
          by_cases hs : seesW (tok ws ((k + 2) + 1)) ⟨#[41]⟩ = true
          · rw [hs]
            have HCf6 := Lib.hid hs
            clear hs
            have HOKf6 := HOKf5
            go_wp2_with fail

            refine (HXf6.out.need_ HOKf6.out.lt ⟨#[41]⟩).mono ?_
            intro r wf61 hr
            by_cases hs : seesW (tok ws ((k + 2) + 1)) ⟨#[41]⟩ = true
            · rw [hs] at hr
              obtain ⟨rfl, hm⟩ := hr
              have HPf61 := Lib.hid hm
              have HCf61 := Lib.hid hs
              clear hs hm
              obtain ⟨hx, hsm⟩ := HPf61.out
              have HXf61 := Lib.hid hx
              have HBf61 := Lib.hid (hsm.blk (.inr rfl) HBf6.out)
              have HSf61 := Lib.hid (HSf6.out.trans_ (fun i hi => hsm i ((.inl hi))))
              clear hx hsm
              have hltf61 := sees_next HE.out HOKf6.out.lt HCf61.out
              have HOKf61 : Hid (OkP ws (((k + 2) + 1) + 1) nds) := Lib.hid ⟨hltf61, HOKf6.out.room, HOKf6.out.ok⟩
              go_wp2_with fail

              refine (HXf61.out.behind_ HRt.out hltf61 ⟨#[58]⟩ (fun hs => ⟨sees_next HE.out hltf61 hs, HOKf6.out.room, HOKf6.out.ok⟩)).mono ?_
              intro r wf62 ho
              rcases hres : behindR ws ⟨#[58]⟩ Rt (((k + 2) + 1) + 1) nds with ⟨at_, er⟩ | ⟨vf62, kf62, nf62⟩
              · rw [hres] at ho
                obtain ⟨rfl, hk9⟩ := ho
                refine And.intro rfl (FOutX.err ?_ hk9)
                rw [fnR, if_pos HCb.out, if_pos (by simpa using HCc.out), if_neg (by rw [HCf.out]; simp)]; rw [fnParams, if_pos HCf5.out, if_pos HCf6.out]; rw [fnTail, if_pos HCf61.out, hres]
              · rw [hres] at ho
                obtain ⟨rfl, hm⟩ := ho
                have HPf62 := Lib.hid hm
                have HRf62 := Lib.hid hres
                obtain ⟨-, hok9, -, -⟩ := behindR_ok HE.out HGt.out ⟨#[58]⟩ _ _ _ _ _ HOKf61.out hres
                have HOKf62 := Lib.hid hok9
                clear hok9
                clear hres hm
                obtain ⟨hx, hsm⟩ := HPf62.out
                have HXf62 := Lib.hid hx
                have HBf62 := Lib.hid (hsm.blk (.inr rfl) HBf61.out)
                have HSf62 := Lib.hid (HSf61.out.trans_ (fun i hi => hsm i ((.inl hi))))
                clear hx hsm
                have y3 := HBf62.out.frozen 3
                have z3 := HBf62.out.cell 3
                simp at z3
                have hb9 := HBf62.out.set_ 3 (.int .i64 (vf62 : Int))
                simp at hb9
                have HXf63 := Lib.hid (HXf62.out.put (N := N) (.inr rfl) 3 (.int .i64 (vf62 : Int)))
                have HBf63 := Lib.hid hb9
                have HSf63 := Lib.hid (HSf62.out.trans_ (Same.put (w1 := wf62) (i := 3) (v := .int .i64 (vf62 : Int)) hnx))
                clear hb9
                go_wp2_with fail
                generalize hw9 : wf62.setCell ⟨N, 3, none⟩ (.int .i64 (vf62 : Int)) = wf63 at HXf63 HBf63 HSf63 ⊢
                clear hw9 y3 z3

                refine (HXf63.out.behind_ HRx.out HOKf62.out.lt ⟨#[61]⟩ (fun hs => ⟨sees_next HE.out HOKf62.out.lt hs, HOKf62.out.room, HOKf62.out.ok⟩)).mono ?_
                intro r wf64 ho
                rcases hres : behindR ws ⟨#[61]⟩ Rx kf62 nf62 with ⟨at_, er⟩ | ⟨vf64, kf64, nf64⟩
                · rw [hres] at ho
                  obtain ⟨rfl, hk9⟩ := ho
                  refine And.intro rfl (FOutX.err ?_ hk9)
                  rw [fnR, if_pos HCb.out, if_pos (by simpa using HCc.out), if_neg (by rw [HCf.out]; simp)]; rw [fnParams, if_pos HCf5.out, if_pos HCf6.out]; rw [fnTail, if_pos HCf61.out, HRf62.out]; simp only [hres]
                · rw [hres] at ho
                  obtain ⟨rfl, hm⟩ := ho
                  have HPf64 := Lib.hid hm
                  have HRf64 := Lib.hid hres
                  obtain ⟨-, hok9, -, -⟩ := behindR_ok HE.out HGx.out ⟨#[61]⟩ _ _ _ _ _ HOKf62.out hres
                  have HOKf64 := Lib.hid hok9
                  clear hok9
                  clear hres hm
                  obtain ⟨hx, hsm⟩ := HPf64.out
                  have HXf64 := Lib.hid hx
                  have HBf64 := Lib.hid (hsm.blk (.inr rfl) HBf63.out)
                  have HSf64 := Lib.hid (HSf63.out.trans_ (fun i hi => hsm i ((.inl hi))))
                  clear hx hsm
                  have y4 := HBf64.out.frozen 4
                  have z4 := HBf64.out.cell 4
                  simp at z4
                  have hb9 := HBf64.out.set_ 4 (.int .i64 (vf64 : Int))
                  simp at hb9
                  have HXf69 := Lib.hid (HXf64.out.put (N := N) (.inr rfl) 4 (.int .i64 (vf64 : Int)))
                  have HBf69 := Lib.hid hb9
                  have HSf69 := Lib.hid (HSf64.out.trans_ (Same.put (w1 := wf64) (i := 4) (v := .int .i64 (vf64 : Int)) hnx))
                  clear hb9
                  have hb10 := HBf69.out
                  have c0 := hb10.cell 0
                  have c1 := hb10.cell 1
                  have c2 := hb10.cell 2
                  have c3 := hb10.cell 3
                  have c4 := hb10.cell 4
                  have e0 := hb10.frozen 0
                  have e1 := hb10.frozen 1
                  have e2 := hb10.frozen 2
                  have e3 := hb10.frozen 3
                  have e4 := hb10.frozen 4
                  simp at c0 c1 c2 c3 c4
                  clear hb10
                  go_upto_region 12 with (fail)
                  generalize hw9 : wf64.setCell ⟨N, 4, none⟩ (.int .i64 (vf64 : Int)) = wf69 at HXf69 HBf69 HSf69  c0 c1 c2 c3 c4 e0 e1 e2 e3 e4 ⊢
                  clear hw9 y4 z4
                  go_wp2_with fail
                  obtain ⟨hx10, hs10, hb10, ho10⟩ := fn_end HXf69.out (.inr rfl) hnx HSf69.out _ _ _ _ _ HBf69.out
                  have d0 := hb10.cell 0
                  have d1 := hb10.cell 1
                  have d2 := hb10.cell 2
                  have d3 := hb10.cell 3
                  have d4 := hb10.cell 4
                  simp only [List.getElem?_toArray, List.getElem?_cons_zero, List.getElem?_cons_succ] at d0 d1 d2 d3 d4
                  refine bodyPost_ret (v := .agg #[.string (tok ws (k + 1)).text, Value.slice none 0 0, Value.slice none 0 0, .int .i64 (vf62 : Int), .int .i64 (vf64 : Int)]) (by simp [results, Tryz.results66, go_sem, d0, d1, d2, d3, d4]) rfl ?_
                  refine FOutX.done (x := ⟨(tok ws (k + 1)).text, [], [], vf62, vf64⟩) (k' := kf64) (nds' := nf64) (vv := Value.slice none 0 0) (pv := Value.slice none 0 0) ?_ hx10 ?_ hs10 (by rw [HN.out]; exact ⟨rfl, .inl ⟨rfl, rfl⟩⟩) (by rw [HN.out]; exact ⟨rfl, .inl ⟨rfl, rfl⟩⟩)
                  · rw [fnR, if_pos HCb.out, if_pos (by simpa using HCc.out), if_neg (by rw [HCf.out]; simp)]; rw [fnParams, if_pos HCf5.out, if_pos HCf6.out]; rw [fnTail, if_pos HCf61.out, HRf62.out]; simp only [HRf64.out]
                  · rintro i (h | h | h)
                    · exact (.inl h)
                    · simp [Value.ownBlock] at h
                    · simp [Value.ownBlock] at h
            · have hs2 : seesW (tok ws ((k + 2) + 1)) ⟨#[41]⟩ = false := by simpa using hs
              rw [hs2] at hr
              obtain ⟨rfl, hk9⟩ := hr
              refine And.intro rfl (FOutX.err ?_ hk9)
              rw [fnR, if_pos HCb.out, if_pos (by simpa using HCc.out), if_neg (by rw [HCf.out]; simp)]; rw [fnParams, if_pos HCf5.out, if_pos HCf6.out]; rw [fnTail, if_neg (by rw [hs2]; simp)]
          · have hs2 : seesW (tok ws ((k + 2) + 1)) ⟨#[41]⟩ = false := by simpa using hs
            rw [hs2]
            have HCf6 := Lib.hid hs2
            clear hs hs2
            go_wp2_with fail

            refine (HXf6.out.named_ name_rule (by decide) HE.out ⟨#[58]⟩ HRt.out HGt.out HOKf5.out).mono ?_
            intro r wf7 ho
            rcases hres : namedR ws 1 ⟨#[58]⟩ Rt ((k + 2) + 1) nds with ⟨at_, er⟩ | ⟨lf7, kf7, nf7, nsf7⟩
            · rw [hres] at ho
              obtain ⟨rfl, hk9⟩ := ho
              refine And.intro rfl (FOutX.err ?_ hk9)
              rw [fnR, if_pos HCb.out, if_pos (by simpa using HCc.out), if_neg (by rw [HCf.out]; simp)]; rw [fnParams, if_pos HCf5.out, if_neg (by rw [HCf6.out]; simp), hres]
            · obtain ⟨hok9, -, -, hlen9, hl169⟩ := namedR_good HE.out (by decide) HGt.out HOKf5.out hres
              rw [hres] at ho
              obtain ⟨nv, lv, rfl, hx9, hsm9⟩ := ho
              obtain ⟨NA, nc, LA, lc, M9, rfl, rfl, hss9, hii9⟩ := hx9.lists
              have HOKf7 := Lib.hid hok9
              have HRf7 := Lib.hid hres
              have HLf7 := Lib.hid hlen9
              have HSSf7 := Lib.hid hss9
              have HIIf7 := Lib.hid hii9
              have HXf7 := Lib.hid hx9.mdx
              have HBf7 := Lib.hid (hsm9.blk (.inr rfl) HBf6.out)
              have HSf7 := Lib.hid (HSf6.out.trans_ (fun i hi => hsm9 i ((.inl hi))))
              clear hres hok9 hlen9 hx9 hsm9 hss9 hii9
              go_wp2_with fail
              refine (vars_any NA LA nc lc nsf7 lf7 wf7 M9 M9 HSSf7.out HIIf7.out HLf7.out hl169).mono ?_
              rintro r wf7v ⟨v9, rfl, hb9, ho9⟩
              obtain ⟨VAf7, vcf7, rfl⟩ := own_slice ho9
              obtain ⟨hx9, hsm9⟩ := HXf7.out.below hb9 ho9 (Nat.le_refl _)
              have hNn : N < wf7.heap.size := HBf7.out.lt
              have HXf7v := Lib.hid hx9
              have HBf7v := Lib.hid (hsm9.blk (.inr rfl) HBf7.out)
              have HSf7v := Lib.hid (HSf7.out.trans_ (fun i hi => hsm9 i ((.inl hi))))
              have HWf7v := Lib.hid (own_base ho9 (base' := N + 1) hNn)
              clear hx9 hsm9 hb9 ho9
              have y2 := HBf7v.out.frozen 2
              have z2 := HBf7v.out.cell 2
              simp at z2
              have hb9 := HBf7v.out.set_ 2 (.slice VAf7 (zipD nsf7 lf7).length vcf7)
              simp at hb9
              have HXf8 := Lib.hid (HXf7v.out.put (N := N) (.inl (.inr rfl)) 2 (.slice VAf7 (zipD nsf7 lf7).length vcf7))
              have HBf8 := Lib.hid hb9
              have HSf8 := Lib.hid (HSf7v.out.trans_ (Same.put (w1 := wf7v) (i := 2) (v := .slice VAf7 (zipD nsf7 lf7).length vcf7) hnx))
              have HWf8 := Lib.hid (own_put (i := 2) (u := .slice VAf7 (zipD nsf7 lf7).length vcf7) HWf7v.out (Nat.lt_succ_self N))
              clear hb9
              go_wp2_with fail
              generalize hw9 : wf7v.setCell ⟨N, 2, none⟩ (.slice VAf7 (zipD nsf7 lf7).length vcf7) = wf8 at HXf8 HBf8 HSf8 HWf8 ⊢
              clear hw9 y2 z2
              have HOKf8 := HOKf7
              go_wp2_with fail

              refine (HXf8.out.need_ HOKf8.out.lt ⟨#[41]⟩).mono ?_
              intro r wf81 hr
              by_cases hs : seesW (tok ws kf7) ⟨#[41]⟩ = true
              · rw [hs] at hr
                obtain ⟨rfl, hm⟩ := hr
                have HPf81 := Lib.hid hm
                have HCf81 := Lib.hid hs
                clear hs hm
                obtain ⟨hx, hsm⟩ := HPf81.out
                have HXf81 := Lib.hid hx
                have HBf81 := Lib.hid (hsm.blk (.inl (.inr rfl)) HBf8.out)
                have HSf81 := Lib.hid (HSf8.out.trans_ (fun i hi => hsm i ((.inl (.inl hi)))))
                have HWf81 := Lib.hid (hsm.own (fun q h => .inr h) HWf8.out)
                clear hx hsm
                have hltf81 := sees_next HE.out HOKf8.out.lt HCf81.out
                have HOKf81 : Hid (OkP ws (kf7 + 1) nf7) := Lib.hid ⟨hltf81, HOKf8.out.room, HOKf8.out.ok⟩
                go_wp2_with fail

                refine (HXf81.out.behind_ HRt.out hltf81 ⟨#[58]⟩ (fun hs => ⟨sees_next HE.out hltf81 hs, HOKf8.out.room, HOKf8.out.ok⟩)).mono ?_
                intro r wf82 ho
                rcases hres : behindR ws ⟨#[58]⟩ Rt (kf7 + 1) nf7 with ⟨at_, er⟩ | ⟨vf82, kf82, nf82⟩
                · rw [hres] at ho
                  obtain ⟨rfl, hk9⟩ := ho
                  refine And.intro rfl (FOutX.err ?_ hk9)
                  rw [fnR, if_pos HCb.out, if_pos (by simpa using HCc.out), if_neg (by rw [HCf.out]; simp)]; rw [fnParams, if_pos HCf5.out, if_neg (by rw [HCf6.out]; simp), HRf7.out]; dsimp only; rw [fnTail, if_pos HCf81.out, hres]
                · rw [hres] at ho
                  obtain ⟨rfl, hm⟩ := ho
                  have HPf82 := Lib.hid hm
                  have HRf82 := Lib.hid hres
                  obtain ⟨-, hok9, -, -⟩ := behindR_ok HE.out HGt.out ⟨#[58]⟩ _ _ _ _ _ HOKf81.out hres
                  have HOKf82 := Lib.hid hok9
                  clear hok9
                  clear hres hm
                  obtain ⟨hx, hsm⟩ := HPf82.out
                  have HXf82 := Lib.hid hx
                  have HBf82 := Lib.hid (hsm.blk (.inl (.inr rfl)) HBf81.out)
                  have HSf82 := Lib.hid (HSf81.out.trans_ (fun i hi => hsm i ((.inl (.inl hi)))))
                  have HWf82 := Lib.hid (hsm.own (fun q h => .inr h) HWf81.out)
                  clear hx hsm
                  have y3 := HBf82.out.frozen 3
                  have z3 := HBf82.out.cell 3
                  simp at z3
                  have hb9 := HBf82.out.set_ 3 (.int .i64 (vf82 : Int))
                  simp at hb9
                  have HXf83 := Lib.hid (HXf82.out.put (N := N) (.inl (.inr rfl)) 3 (.int .i64 (vf82 : Int)))
                  have HBf83 := Lib.hid hb9
                  have HSf83 := Lib.hid (HSf82.out.trans_ (Same.put (w1 := wf82) (i := 3) (v := .int .i64 (vf82 : Int)) hnx))
                  have HWf83 := Lib.hid (own_put (i := 3) (u := .int .i64 (vf82 : Int)) HWf82.out (Nat.lt_succ_self N))
                  clear hb9
                  go_wp2_with fail
                  generalize hw9 : wf82.setCell ⟨N, 3, none⟩ (.int .i64 (vf82 : Int)) = wf83 at HXf83 HBf83 HSf83 HWf83 ⊢
                  clear hw9 y3 z3

                  refine (HXf83.out.behind_ HRx.out HOKf82.out.lt ⟨#[61]⟩ (fun hs => ⟨sees_next HE.out HOKf82.out.lt hs, HOKf82.out.room, HOKf82.out.ok⟩)).mono ?_
                  intro r wf84 ho
                  rcases hres : behindR ws ⟨#[61]⟩ Rx kf82 nf82 with ⟨at_, er⟩ | ⟨vf84, kf84, nf84⟩
                  · rw [hres] at ho
                    obtain ⟨rfl, hk9⟩ := ho
                    refine And.intro rfl (FOutX.err ?_ hk9)
                    rw [fnR, if_pos HCb.out, if_pos (by simpa using HCc.out), if_neg (by rw [HCf.out]; simp)]; rw [fnParams, if_pos HCf5.out, if_neg (by rw [HCf6.out]; simp), HRf7.out]; dsimp only; rw [fnTail, if_pos HCf81.out, HRf82.out]; simp only [hres]
                  · rw [hres] at ho
                    obtain ⟨rfl, hm⟩ := ho
                    have HPf84 := Lib.hid hm
                    have HRf84 := Lib.hid hres
                    obtain ⟨-, hok9, -, -⟩ := behindR_ok HE.out HGx.out ⟨#[61]⟩ _ _ _ _ _ HOKf82.out hres
                    have HOKf84 := Lib.hid hok9
                    clear hok9
                    clear hres hm
                    obtain ⟨hx, hsm⟩ := HPf84.out
                    have HXf84 := Lib.hid hx
                    have HBf84 := Lib.hid (hsm.blk (.inl (.inr rfl)) HBf83.out)
                    have HSf84 := Lib.hid (HSf83.out.trans_ (fun i hi => hsm i ((.inl (.inl hi)))))
                    have HWf84 := Lib.hid (hsm.own (fun q h => .inr h) HWf83.out)
                    clear hx hsm
                    have y4 := HBf84.out.frozen 4
                    have z4 := HBf84.out.cell 4
                    simp at z4
                    have hb9 := HBf84.out.set_ 4 (.int .i64 (vf84 : Int))
                    simp at hb9
                    have HXf89 := Lib.hid (HXf84.out.put (N := N) (.inl (.inr rfl)) 4 (.int .i64 (vf84 : Int)))
                    have HBf89 := Lib.hid hb9
                    have HSf89 := Lib.hid (HSf84.out.trans_ (Same.put (w1 := wf84) (i := 4) (v := .int .i64 (vf84 : Int)) hnx))
                    have HWf89 := Lib.hid (own_put (i := 4) (u := .int .i64 (vf84 : Int)) HWf84.out (Nat.lt_succ_self N))
                    clear hb9
                    have hb10 := HBf89.out
                    have c0 := hb10.cell 0
                    have c1 := hb10.cell 1
                    have c2 := hb10.cell 2
                    have c3 := hb10.cell 3
                    have c4 := hb10.cell 4
                    have e0 := hb10.frozen 0
                    have e1 := hb10.frozen 1
                    have e2 := hb10.frozen 2
                    have e3 := hb10.frozen 3
                    have e4 := hb10.frozen 4
                    simp at c0 c1 c2 c3 c4
                    clear hb10
                    go_upto_region 12 with (fail)
                    generalize hw9 : wf84.setCell ⟨N, 4, none⟩ (.int .i64 (vf84 : Int)) = wf89 at HXf89 HBf89 HSf89 HWf89 c0 c1 c2 c3 c4 e0 e1 e2 e3 e4 ⊢
                    clear hw9 y4 z4
                    go_wp2_with fail
                    obtain ⟨hx10, hs10, hb10, ho10⟩ := fn_end HXf89.out (.inl (.inr rfl)) hnx HSf89.out _ _ _ _ _ HBf89.out
                    have d0 := hb10.cell 0
                    have d1 := hb10.cell 1
                    have d2 := hb10.cell 2
                    have d3 := hb10.cell 3
                    have d4 := hb10.cell 4
                    simp only [List.getElem?_toArray, List.getElem?_cons_zero, List.getElem?_cons_succ] at d0 d1 d2 d3 d4
                    refine bodyPost_ret (v := .agg #[.string (tok ws (k + 1)).text, Value.slice none 0 0, Value.slice VAf7 (zipD nsf7 lf7).length vcf7, .int .i64 (vf82 : Int), .int .i64 (vf84 : Int)]) (by simp [results, Tryz.results66, go_sem, d0, d1, d2, d3, d4]) rfl ?_
                    refine FOutX.done (x := ⟨(tok ws (k + 1)).text, [], (zipD nsf7 lf7), vf82, vf84⟩) (k' := kf84) (nds' := nf84) (vv := Value.slice none 0 0) (pv := Value.slice VAf7 (zipD nsf7 lf7).length vcf7) ?_ hx10 ?_ hs10 (by rw [HN.out]; exact ⟨rfl, .inl ⟨rfl, rfl⟩⟩) (by rw [HN.out]; exact ho10 _ _ _ _ _ HWf89.out)
                    · rw [fnR, if_pos HCb.out, if_pos (by simpa using HCc.out), if_neg (by rw [HCf.out]; simp)]; rw [fnParams, if_pos HCf5.out, if_neg (by rw [HCf6.out]; simp), HRf7.out]; dsimp only; rw [fnTail, if_pos HCf81.out, HRf82.out]; simp only [HRf84.out]
                    · rintro i (h | h | h)
                      · exact (.inl (.inl h))
                      · simp [Value.ownBlock] at h
                      · exact .inr h
              · have hs2 : seesW (tok ws kf7) ⟨#[41]⟩ = false := by simpa using hs
                rw [hs2] at hr
                obtain ⟨rfl, hk9⟩ := hr
                refine And.intro rfl (FOutX.err ?_ hk9)
                rw [fnR, if_pos HCb.out, if_pos (by simpa using HCc.out), if_neg (by rw [HCf.out]; simp)]; rw [fnParams, if_pos HCf5.out, if_neg (by rw [HCf6.out]; simp), HRf7.out]; dsimp only; rw [fnTail, if_neg (by rw [hs2]; simp)]
        · have hs2 : seesW (tok ws (k + 2)) ⟨#[40]⟩ = false := by simpa using hs
          rw [hs2] at hr
          obtain ⟨rfl, hk9⟩ := hr
          refine And.intro rfl (FOutX.err ?_ hk9)
          rw [fnR, if_pos HCb.out, if_pos (by simpa using HCc.out), if_neg (by rw [HCf.out]; simp)]; rw [fnParams, if_neg (by rw [hs2]; simp)]
    · have hs2 : decide ((tok ws (k + 1)).kind = 1) = false := by simpa using hs
      rw [hs2] at hr
      obtain ⟨rfl, hk9⟩ := hr
      refine And.intro rfl (FOutX.err ?_ hk9)
      rw [fnR, if_pos HCb.out, if_neg (by simpa using hs2)]
  · have hs2 : seesW (tok ws k) ⟨#[102, 110]⟩ = false := by simpa using hs
    rw [hs2] at hr
    obtain ⟨rfl, hk9⟩ := hr
    refine And.intro rfl (FOutX.err ?_ hk9)
    rw [fnR, if_neg (by rw [hs2]; simp)]
end Go.Proofs.YtdnpflmlonmgcaaGreatDoor
namespace Go.Proofs.YtdnpflmlonmgcaaGreatDoor
open Go.RowKit

/-- a function with the values of its two lists, as cells -/
abbrev Fv := Fd × Value × Value
def Fv.cells (p : Fv) : List Value := [.string p.1.nm, p.2.1, p.2.2, .int .i64 (p.1.ret : Int), .int .i64 (p.1.body : Int)]
def fcells (l : List Fv) : List Value := l.flatMap Fv.cells
theorem fcells_snoc (l : List Fv) (p : Fv) : fcells l ++ p.cells = fcells (l ++ [p]) := by simp [fcells]
def HeldF (w : World) (F : Nat → Prop) (l : List Fv) : Prop := ∀ p ∈ l, (∃ B, w.ownsRow B 58 2 p.2.1 p.1.vars.length (dcells p.1.vars)) ∧ (∃ B, w.ownsRow B 58 2 p.2.2 p.1.params.length (dcells p.1.params)) ∧
  (∀ q, p.2.1.ownBlock = some q → F q) ∧ (∀ q, p.2.2.ownBlock = some q → F q)
theorem HeldF.same {w w' : World} {F F' : Nat → Prop} {l : List Fv} (h : HeldF w F l) (hs : Same F w w') (hf : ∀ i, F i → F' i) : HeldF w' F' l := fun p hp => by
  obtain ⟨⟨B1, h1⟩, ⟨B2, h2⟩, h3, h4⟩ := h p hp
  exact ⟨⟨B1, hs.own h3 h1⟩, ⟨B2, hs.own h4 h2⟩, fun q hq => hf q (h3 q hq), fun q hq => hf q (h4 q hq)⟩

structure Md where
  nm : ByteArray
  imports : List ByteArray
  types : List Dc
  fns : List Fd
  nodes : List Nd
def importsF (ws : List Wd) : Nat → List ByteArray → Nat → Except (Nat × Nat) (List ByteArray × Nat)
  | 0, _, _ => .error (0, 0)
  | n + 1, l, k => if seesW (tok ws k) ⟨#[105, 109, 112, 111, 114, 116]⟩ then (if 16 ≤ l.length then .error ((tok ws (k + 1)).at_, 5) else if freshOk (tok ws (k + 1)) 1 l then importsF ws n (l ++ [(tok ws (k + 1)).text]) (k + 2) else badAt ws (k + 1)) else .ok (l, k)
def typesF (ws : List Wd) (Rt : Nat → List Nd → Res) : Nat → List Dc → Nat → List Nd → Except (Nat × Nat) (List Dc × Nat × List Nd)
  | 0, _, _, _ => .error (0, 0)
  | n + 1, l, k, nds => if seesW (tok ws k) ⟨#[116, 121, 112, 101]⟩ then (if 64 ≤ l.length then .error ((tok ws k).at_, 5) else match declR ws Rt k nds with
      | .error x => .error x
      | .ok (x, k', nds') => typesF ws Rt n (l ++ [x]) k' nds') else .ok (l, k, nds)
def fnsF (ws : List Wd) (Rt Rx : Nat → List Nd → Res) : Nat → List Fd → Nat → List Nd → Except (Nat × Nat) (List Fd × Nat × List Nd)
  | 0, _, _, _ => .error (0, 0)
  | n + 1, l, k, nds => if seesW (tok ws k) ⟨#[102, 110]⟩ then (if 64 ≤ l.length then .error ((tok ws k).at_, 5) else match fnR ws Rt Rx k nds with
      | .error x => .error x
      | .ok (x, k', nds') => fnsF ws Rt Rx n (l ++ [x]) k' nds') else .ok (l, k, nds)
def moduleR (ws : List Wd) : Except (Nat × Nat) Md :=
  if seesW (tok ws 0) ⟨#[109, 111, 100, 117, 108, 101]⟩ then
    if (tok ws 1).kind = 1 then match importsF ws 17 [] 2 with
      | .error x => .error x
      | .ok (im, k1) => match typesF ws (typeR ws 60) 65 [] k1 [] with
        | .error x => .error x
        | .ok (ty, k2, n2) => match fnsF ws (typeR ws 60) (exprR ws 60) 65 [] k2 n2 with
          | .error x => .error x
          | .ok (fs, k3, n3) => if (tok ws k3).kind = 7 then .ok ⟨(tok ws 1).text, im, ty, fs, n3⟩ else badAt ws k3
    else badAt ws 1
  else badAt ws 0

section
variable {X : Nat → Prop} {w w1 : World} {g k d : Nat} {ws : List Wd} {a b c e f : Value} {nds : List Nd} {D : Nat → Prop}
theorem MdX.blk_ (hM : MdX X w w1 g ws k d a b c e f nds D) : ∃ A n f', Blk w1 g 72 #[.slice A ws.length n, .int .i64 (k : Int), .int .i64 (d : Int), a, b, c, e, f'] := by
  obtain ⟨⟨f1, h1, _⟩, _⟩ := hM
  obtain ⟨A, n, hb, _⟩ := h1.blk
  exact ⟨A, n, f1, hb⟩
theorem Stm.putI {w : World} {a b c e f : Value} (h : Stm w g ws k d a b c e f) (i : Nat) (v : Value) (a' b' c' e' : Value) (hi : ∀ A n, (#[.slice A ws.length n, .int .i64 (k : Int), .int .i64 (d : Int), a, b, c, e, f] : Array Value).setIfInBounds i v = #[.slice A ws.length n, .int .i64 (k : Int), .int .i64 (d : Int), a', b', c', e', f]) :
    Stm (w.setCell ⟨g, i, none⟩ v) g ws k d a' b' c' e' f := by
  obtain ⟨A, n, h1, B1, hs, h2⟩ := h.blk
  have hlt := h1.lt
  have hk : Kept (fun i => i = g) w (w.setCell ⟨g, i, none⟩ v) := (Kept.refl (fun i => i = g) w).setCell (p := ⟨g, i, none⟩) (fun _ => rfl) _
  refine ⟨⟨A, n, ?_, B1, fun h0 => ?_, h2⟩, h.le⟩
  · rw [← hi A n]; exact h1.set_ i v
  · obtain ⟨bb, o, hA, hbB, hc⟩ := hs h0
    exact ⟨bb, o, hA, hbB, fun j u hu => (hk.cell (p := ⟨bb, o + j, none⟩) (show bb < _ by omega) (by show ¬ bb = g; omega)).trans (hc j u hu)⟩
theorem MdX.putI (hM : MdX X w w1 g ws k d a b c e f nds D) (i : Nat) (v : Value) (a' b' c' e' : Value) (hi : ∀ A n f', (#[.slice A ws.length n, .int .i64 (k : Int), .int .i64 (d : Int), a, b, c, e, f'] : Array Value).setIfInBounds i v = #[.slice A ws.length n, .int .i64 (k : Int), .int .i64 (d : Int), a', b', c', e', f']) :
    MdX X w (w1.setCell ⟨g, i, none⟩ v) g ws k d a' b' c' e' f nds D ∧ Same X w1 (w1.setCell ⟨g, i, none⟩ v) := by
  obtain ⟨⟨f1, h1, hn1, ht1, hx1⟩, hk1, hin, hg⟩ := hM
  have hk : Kept (fun i => i = g) w1 (w1.setCell ⟨g, i, none⟩ v) := (Kept.refl (fun i => i = g) w1).setCell (p := ⟨g, i, none⟩) (fun _ => rfl) _
  exact ⟨⟨⟨f1, h1.putI i v a' b' c' e' (fun A n => hi A n f1), hn1.kept hk (fun _ _ h => h), ht1, hx1⟩, hk1.trans hk (fun i _ h => .inl h), fun i h => by have := hin i h; have := hk.size; omega, hg⟩,
    fun j hj => hk.block j (hin j hj).2 (fun e => by have := hin j hj; omega)⟩
theorem MdX.fresh_ (hM : MdX X w w1 g ws k d a b c e f nds D) {NF : FuncId} {kd : Nat} (hN : NameF NF kd) (hk : k < ws.length) (A : Option Addr) (cap : Nat) (ns : List ByteArray) (hl : ns.length ≤ 70000)
    (hc : 0 < ns.length → ∃ b o, A = some ⟨b, o, none⟩ ∧ b < w1.heap.size ∧ ¬ b = g ∧ ∀ (j : Nat) (y : ByteArray), ns[j]? = some y → w1.cell? ⟨b, o + j, none⟩ = some (.string y)) :
    Calls Tryz.prog 63 #[.pointer (some ⟨g, 0, none⟩), .func (.func NF) #[.pointer (some ⟨g, 0, none⟩)] #[], .slice A ns.length cap] w1
      fun r w2 => NeedX X w w1 g ws (k + 1) d a b c e f nds D (freshOk (tok ws k) kd ns) (tok ws k).at_ (.string (tok ws k).text) r w2 := by
  obtain ⟨⟨f1, h1, hn1, ht1, hx1⟩, hk1, hin, hg⟩ := hM
  refine (fresh_any NF kd hN g ws k d a b c e f1 w1 h1 _ (tok_at hk) A cap ns hl hc).mono fun r w2 h => ?_
  have hM : MdX X w w1 g ws k d a b c e f nds D := ⟨⟨f1, h1, hn1, ht1, hx1⟩, hk1, hin, hg⟩
  cases hs : freshOk (tok ws k) kd ns with
  | true =>
    rw [hs] at h
    have hsz := h.2.kept.size
    exact ⟨h.1, ⟨⟨f1, h.2.stm, hn1.kept h.2.kept (fun _ _ h => h), ht1, hx1⟩, hk1.trans h.2.kept (fun i _ h => .inl h), fun i hi => by have := hin i hi; omega, hg⟩, fun j hj => h.2.kept.block j (hin j hj).2 (fun e => by have := hin j hj; omega)⟩
  | false =>
    rw [hs] at h
    exact ⟨h.1, hk1.trans h.2 (fun i _ h => .inl h)⟩
end
end Go.Proofs.YtdnpflmlonmgcaaGreatDoor
