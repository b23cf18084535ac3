/- Contracts and plain facts that the theorem rests on: TModule. -/
import Derived.Test.YtdnpflmlonmgcaaGreatDoorZH19
set_option linter.unusedSimpArgs false
set_option linter.unusedVariables false
namespace Go.Proofs.YtdnpflmlonmgcaaGreatDoor
open Go.RowKit

/-- what reading a module leaves -/
structure ModV (B : Nat) (w' : World) (m : Md) (b c e f : Value) : Prop where
  imports : ∃ B', w'.ownsRow B' 9 1 b m.imports.length (strs3 m.imports)
  types : ∃ B', w'.ownsRow B' 45 2 c m.types.length (dcells m.types)
  fns : ∃ fv : List Fv, fv.map (·.1) = m.fns ∧ (∃ B', w'.ownsRow B' 40 5 e fv.length (fcells fv)) ∧ HeldF w' (fun i => B ≤ i) fv
  nodes : ∃ (g : Nat) (E : Nat → Prop), Nds w' g f m.nodes E ∧ (∀ i, E i → B ≤ i)
  bb : ∀ q, b.ownBlock = some q → B ≤ q
  cb : ∀ q, c.ownBlock = some q → B ≤ q
  eb : ∀ q, e.ownBlock = some q → B ≤ q
  fb : ∀ q, f.ownBlock = some q → B ≤ q
theorem ModV.kept {B : Nat} {w w' : World} {m : Md} {b c e f : Value} (h : ModV B w m b c e f) {P : Nat → Prop} (hk : Kept P w w') (hp : ∀ i, B ≤ i → ¬ P i) : ModV B w' m b c e f := by
  obtain ⟨⟨B1, h1⟩, ⟨B2, h2⟩, ⟨fv, h3, ⟨B3, h4⟩, h5⟩, ⟨g, E, h6, h7⟩, hb, hc, he, hf⟩ := h
  refine ⟨⟨B1, own_kept_ne h1 hk fun q hq => hp q (hb q hq)⟩, ⟨B2, own_kept_ne h2 hk fun q hq => hp q (hc q hq)⟩, ⟨fv, h3, ⟨B3, own_kept_ne h4 hk fun q hq => hp q (he q hq)⟩, fun p hp' => ?_⟩, ⟨g, E, h6.kept2 hk (fun i _ hi hE => hp i (h7 i hE) hi) (fun q hq => hp q (hf q hq)), h7⟩, hb, hc, he, hf⟩
  obtain ⟨⟨B4, k1⟩, ⟨B5, k2⟩, k3, k4⟩ := h5 p hp'
  exact ⟨⟨B4, own_kept_ne k1 hk fun q hq => hp q (k3 q hq)⟩, ⟨B5, own_kept_ne k2 hk fun q hq => hp q (k4 q hq)⟩, k3, k4⟩
structure ModS (B : Nat) (w' : World) (g : Nat) (ws : List Wd) (m : Md) : Prop where
  ex : ∃ (k : Nat) (b c e f : Value), Stm w' g ws k 0 (.string m.nm) b c e f ∧ ModV B w' m b c e f
def ModOut (w : World) (g : Nat) (f : Value) (ws : List Wd) (res : Except (Nat × Nat) Md) (r : Ending) (w' : World) : Prop :=
  match res with
  | .ok m => r = .returned (.tuple #[]) ∧ ModS w.heap.size w' g ws m ∧ Kept (Mut g f) w w'
  | .error (at_, er) => r = .panicked (faultP at_ er) ∧ Kept (Mut g f) w w'
theorem ModOut.err {w : World} {g : Nat} {f : Value} {ws : List Wd} {res : Except (Nat × Nat) Md} {at_ er : Nat} {w' : World} (h : res = .error (at_, er)) (hk : Kept (Mut g f) w w') : ModOut w g f ws res (.panicked (faultP at_ er)) w' := by subst h; exact ⟨rfl, hk⟩
theorem info_decl : (Tryz.prog.info? 45).map (fun i => (i.zero, i.size, i.bytes)) = some (some (.agg #[.string ⟨#[]⟩, .int .i64 0]), 2, 24) := by kernel_rfl
theorem info_fn : (Tryz.prog.info? 40).map (fun i => (i.zero, i.size, i.bytes)) = some (some (.agg #[.string ⟨#[]⟩, .slice none 0 0, .slice none 0 0, .int .i64 0, .int .i64 0]), 5, 80) := by kernel_rfl
theorem importsF_full {ws : List Wd} {n k : Nat} {l : List ByteArray} (hs : seesW (tok ws k) ⟨#[105, 109, 112, 111, 114, 116]⟩ = true) (h : 16 ≤ l.length) : importsF ws (n + 1) l k = .error ((tok ws (k + 1)).at_, 5) := by rw [importsF, if_pos hs, if_pos h]
theorem importsF_no {ws : List Wd} {n k : Nat} {l : List ByteArray} (hs : seesW (tok ws k) ⟨#[105, 109, 112, 111, 114, 116]⟩ = true) (h : ¬ 16 ≤ l.length) (hf : freshOk (tok ws (k + 1)) 1 l = false) : importsF ws (n + 1) l k = .error ((tok ws (k + 1)).at_, 30) := by rw [importsF, if_pos hs, if_neg h, hf]; rfl
theorem importsF_yes {ws : List Wd} {n k : Nat} {l : List ByteArray} (hs : seesW (tok ws k) ⟨#[105, 109, 112, 111, 114, 116]⟩ = true) (h : ¬ 16 ≤ l.length) (hf : freshOk (tok ws (k + 1)) 1 l = true) : importsF ws (n + 1) l k = importsF ws n (l ++ [(tok ws (k + 1)).text]) (k + 2) := by rw [importsF, if_pos hs, if_neg h, hf]; rfl
theorem importsF_end {ws : List Wd} {n k : Nat} {l : List ByteArray} (hs : seesW (tok ws k) ⟨#[105, 109, 112, 111, 114, 116]⟩ = false) : importsF ws (n + 1) l k = .ok (l, k) := by rw [importsF, hs]; rfl

theorem declR_good {ws : List Wd} (hE : EndW ws) {R : Nat → List Nd → Res} (hG : GoodR ws R) {k : Nat} {nds : List Nd} {x : Dc} {k' : Nat} {nds' : List Nd} (h0 : OkP ws k nds) (h : declR ws R k nds = .ok (x, k', nds')) : OkP ws k' nds' := by
  rw [declR] at h
  split at h
  · rename_i hs
    have l1 := sees_next hE h0.lt hs
    split at h
    · rename_i h2
      split at h
      · cases h
      · rename_i v k1 nds1 hr
        simp at h
        obtain ⟨_, rfl, rfl⟩ := h
        exact (behindR_ok hE hG _ _ _ _ _ _ ⟨kind_next hE l1 h2 (by decide), h0.room, h0.ok⟩ hr).2.1
    · cases h
  · cases h
theorem fnTail_good {ws : List Wd} (hE : EndW ws) {Rt Rx : Nat → List Nd → Res} (hGt : GoodR ws Rt) (hGx : GoodR ws Rx) {nm : ByteArray} {vs ps : List Dc} {k : Nat} {nds : List Nd} {x : Fd} {k' : Nat} {nds' : List Nd} (h0 : OkP ws k nds) (h : fnTail ws Rt Rx nm vs ps k nds = .ok (x, k', nds')) : OkP ws k' nds' := by
  rw [fnTail] at h
  split at h
  · rename_i hs
    split at h
    · cases h
    · rename_i r k1 nds1 hr
      have h1 := (behindR_ok hE hGt _ _ _ _ _ _ ⟨sees_next hE h0.lt hs, h0.room, h0.ok⟩ hr).2.1
      split at h
      · cases h
      · rename_i b k2 nds2 hr2
        simp at h
        obtain ⟨_, rfl, rfl⟩ := h
        exact (behindR_ok hE hGx _ _ _ _ _ _ h1 hr2).2.1
  · cases h
theorem fnParams_good {ws : List Wd} (hE : EndW ws) {Rt Rx : Nat → List Nd → Res} (hGt : GoodR ws Rt) (hGx : GoodR ws Rx) {nm : ByteArray} {vs : List Dc} {k : Nat} {nds : List Nd} {x : Fd} {k' : Nat} {nds' : List Nd} (h0 : OkP ws k nds) (h : fnParams ws Rt Rx nm vs k nds = .ok (x, k', nds')) : OkP ws k' nds' := by
  rw [fnParams] at h
  split at h
  · rename_i hs
    have h1 : OkP ws (k + 1) nds := ⟨sees_next hE h0.lt hs, h0.room, h0.ok⟩
    split at h
    · exact fnTail_good hE hGt hGx h1 h
    · split at h
      · cases h
      · rename_i l k1 nds1 ns hr
        exact fnTail_good hE hGt hGx (namedR_good hE (by decide) hGt h1 hr).1 h
  · cases h
theorem fnR_good {ws : List Wd} (hE : EndW ws) {Rt Rx : Nat → List Nd → Res} (hGt : GoodR ws Rt) (hGx : GoodR ws Rx) {k : Nat} {nds : List Nd} {x : Fd} {k' : Nat} {nds' : List Nd} (h0 : OkP ws k nds) (h : fnR ws Rt Rx k nds = .ok (x, k', nds')) : OkP ws k' nds' := by
  rw [fnR] at h
  split at h
  · rename_i hs
    have l1 := sees_next hE h0.lt hs
    split at h
    · rename_i h2
      have l2 : k + 2 < ws.length := kind_next hE l1 h2 (by decide)
      split at h
      · rename_i hs2
        split at h
        · cases h
        · rename_i l k1 nds1 ns hr
          have h1 := (namedR_good hE (by decide) hGt ⟨sees_next hE l2 hs2, h0.room, h0.ok⟩ hr).1
          split at h
          · rename_i hs3
            exact fnParams_good hE hGt hGx ⟨sees_next hE h1.lt hs3, h1.room, h1.ok⟩ h
          · cases h
      · exact fnParams_good hE hGt hGx ⟨l2, h0.room, h0.ok⟩ h
    · cases h
  · cases h
theorem typesF_full {ws : List Wd} {R : Nat → List Nd → Res} {n k : Nat} {l : List Dc} {nds : List Nd} (hs : seesW (tok ws k) ⟨#[116, 121, 112, 101]⟩ = true) (h : 64 ≤ l.length) : typesF ws R (n + 1) l k nds = .error ((tok ws k).at_, 5) := by rw [typesF, if_pos hs, if_pos h]
theorem typesF_err {ws : List Wd} {R : Nat → List Nd → Res} {n k : Nat} {l : List Dc} {nds : List Nd} {x : Nat × Nat} (hs : seesW (tok ws k) ⟨#[116, 121, 112, 101]⟩ = true) (h : ¬ 64 ≤ l.length) (hr : declR ws R k nds = .error x) : typesF ws R (n + 1) l k nds = .error x := by rw [typesF, if_pos hs, if_neg h, hr]
theorem typesF_ok {ws : List Wd} {R : Nat → List Nd → Res} {n k k' : Nat} {l : List Dc} {nds nds' : List Nd} {x : Dc} (hs : seesW (tok ws k) ⟨#[116, 121, 112, 101]⟩ = true) (h : ¬ 64 ≤ l.length) (hr : declR ws R k nds = .ok (x, k', nds')) : typesF ws R (n + 1) l k nds = typesF ws R n (l ++ [x]) k' nds' := by rw [typesF, if_pos hs, if_neg h, hr]
theorem typesF_end {ws : List Wd} {R : Nat → List Nd → Res} {n k : Nat} {l : List Dc} {nds : List Nd} (hs : seesW (tok ws k) ⟨#[116, 121, 112, 101]⟩ = false) : typesF ws R (n + 1) l k nds = .ok (l, k, nds) := by rw [typesF, hs]; rfl
theorem fnsF_full {ws : List Wd} {Rt Rx : Nat → List Nd → Res} {n k : Nat} {l : List Fd} {nds : List Nd} (hs : seesW (tok ws k) ⟨#[102, 110]⟩ = true) (h : 64 ≤ l.length) : fnsF ws Rt Rx (n + 1) l k nds = .error ((tok ws k).at_, 5) := by rw [fnsF, if_pos hs, if_pos h]
theorem fnsF_err {ws : List Wd} {Rt Rx : Nat → List Nd → Res} {n k : Nat} {l : List Fd} {nds : List Nd} {x : Nat × Nat} (hs : seesW (tok ws k) ⟨#[102, 110]⟩ = true) (h : ¬ 64 ≤ l.length) (hr : fnR ws Rt Rx k nds = .error x) : fnsF ws Rt Rx (n + 1) l k nds = .error x := by rw [fnsF, if_pos hs, if_neg h, hr]
theorem fnsF_ok {ws : List Wd} {Rt Rx : Nat → List Nd → Res} {n k k' : Nat} {l : List Fd} {nds nds' : List Nd} {x : Fd} (hs : seesW (tok ws k) ⟨#[102, 110]⟩ = true) (h : ¬ 64 ≤ l.length) (hr : fnR ws Rt Rx k nds = .ok (x, k', nds')) : fnsF ws Rt Rx (n + 1) l k nds = fnsF ws Rt Rx n (l ++ [x]) k' nds' := by rw [fnsF, if_pos hs, if_neg h, hr]
theorem fnsF_end {ws : List Wd} {Rt Rx : Nat → List Nd → Res} {n k : Nat} {l : List Fd} {nds : List Nd} (hs : seesW (tok ws k) ⟨#[102, 110]⟩ = false) : fnsF ws Rt Rx (n + 1) l k nds = .ok (l, k, nds) := by rw [fnsF, hs]; rfl
/-- what is held beside a row that grows -/
def Bes (X : Nat → Prop) (u : Value) : Nat → Prop := fun i => X i ∧ u.ownBlock ≠ some i
theorem Bes.grown {X : Nat → Prop} {u u' : Value} {w w' : World} (hin : ∀ i, X i → i < w.heap.size) (hk : Kept (fun i => u.ownBlock = some i) w w') {gg : Nat} (hu' : u'.ownBlock = some gg) (hat : u.ownBlock = some gg ∨ w.heap.size ≤ gg) :
    Same (Bes X u) w w' ∧ ∀ i, Bes X u i → Bes (fun i => X i ∨ i = gg) u' i := by
  refine ⟨fun i hi => hk.block i (hin i hi.1) hi.2, fun i hi => ⟨.inl hi.1, fun e => ?_⟩⟩
  rw [hu'] at e
  have e2 : gg = i := by simpa using e
  rcases hat with h | h
  · exact hi.2 (by rw [h, e2])
  · have := hin i hi.1; omega

set_option maxRecDepth 100000 in
set_option maxHeartbeats 8000000 in
theorem module_any (g : Nat) (ws : List Wd) (hE : EndW ws) (hT : TextW ws) (h0 : 0 < ws.length) (w : World) (h : Stm w g ws 0 0 (.string ⟨#[]⟩) (.slice none 0 0) (.slice none 0 0) (.slice none 0 0) (.slice none 0 0)) :
    Calls Tryz.prog 49 #[.pointer (some ⟨g, 0, none⟩)] w fun r w' => ModOut w g (.slice none 0 0) ws (moduleR ws) r w' := by
  obtain ⟨i0, hi, hz0, hz1, hz2⟩ := info_parts info_string3
  obtain ⟨i1, hi1, hz10, hz11, hz12⟩ := info_parts info_decl
  obtain ⟨i2, hi2, hz20, hz21, hz22⟩ := info_parts info_fn
  have HI := Lib.hid hi
  have HZ0 := Lib.hid hz0
  have HZ1 := Lib.hid hz1
  have HZ2 := Lib.hid hz2
  have HI1 := Lib.hid hi1
  have HZ10 := Lib.hid hz10
  have HZ11 := Lib.hid hz11
  have HZ12 := Lib.hid hz12
  have HI2 := Lib.hid hi2
  have HZ20 := Lib.hid hz20
  have HZ21 := Lib.hid hz21
  have HZ22 := Lib.hid hz22
  have hn0 : Nds w g (.slice none 0 0) [] (fun _ => False) := ⟨[], rfl, ⟨rfl, .inl ⟨rfl, rfl⟩⟩, fun p hp => absurd hp (by simp)⟩
  have HX0 := Lib.hid (MdX.start h hn0)
  have hg := h.lt
  have hle := h.le
  have HE := Lib.hid hE
  have HT := Lib.hid hT
  have hmf : ∀ (fn : Fn) (first cap : Array Value) (w : World), (Instr.makeFunc fn first cap).run Tryz.prog w = .ok (.func fn first cap) w := fun _ _ _ _ => rfl
  clear hi hz0 hz1 hz2 hi1 hz10 hz11 hz12 hi2 hz20 hz21 hz22 h hn0 hE hT
  go_enter Tryz.func49, Tryz.ntmps49
  go_wp2_with fail

  refine (HX0.out.need_ h0 ⟨#[109, 111, 100, 117, 108, 101]⟩).mono ?_
  intro r w1 hr
  by_cases hs : seesW (tok ws 0) ⟨#[109, 111, 100, 117, 108, 101]⟩ = true
  · rw [hs] at hr
    obtain ⟨rfl, hx, hsm⟩ := hr
    have HX1 := Lib.hid hx
    have HC1 := Lib.hid hs
    clear hs hx hsm
    have hl1 := sees_next HE.out h0 HC1.out
    go_wp2_with fail

    refine (HX1.out.name_ hl1).mono ?_
    intro r w2 hr
    by_cases hs : decide ((tok ws (0 + 1)).kind = 1) = true
    · rw [hs] at hr
      obtain ⟨rfl, hx, hsm⟩ := hr
      have HX2 := Lib.hid hx
      have HC2 := Lib.hid hs
      clear hs hx hsm
      have hl2 : 2 < ws.length := kind_next HE.out hl1 (kd := 1) (by simpa using HC2.out) (by decide)
      obtain ⟨SA0, sn0, f0, hblk0⟩ := HX2.out.blk_
      have c3 := hblk0.cell 3
      have y3 := hblk0.frozen 3
      simp at c3
      obtain ⟨hx3, -⟩ := HX2.out.putI 3 (.string (tok ws (0 + 1)).text) (.string (tok ws (0 + 1)).text) _ _ _ (fun _ _ _ => rfl)
      have HX3 := Lib.hid hx3
      clear hblk0 hx3
      go_wp2_with fail
      generalize hw3 : w2.setCell ⟨g, 3, none⟩ (.string (tok ws (0 + 1)).text) = w3 at HX3 ⊢
      clear hw3 c3 y3
      go_loopg [] 17 (fun fz wr => ∃ (X : Nat → Prop) (b : Value) (im : List ByteArray) (k : Nat), im.length + fz = 17 ∧ im.length ≤ 16 ∧ k < ws.length ∧ Hid (importsF ws 17 [] 2 = importsF ws fz im k) ∧ Hid (MdX X w wr g ws k 0 (.string (tok ws (0 + 1)).text) b (.slice none 0 0) (.slice none 0 0) (.slice none 0 0) [] (fun _ => False)) ∧ Hid (wr.ownsRow (g + 1) 9 1 b im.length (strs3 im)) ∧ Hid (∀ q, b.ownBlock = some q → X q))
      case atStart => exact ⟨_, _, [], 2, rfl, by simp, hl2, Lib.hid rfl, HX3, Lib.hid ⟨rfl, .inl ⟨rfl, rfl⟩⟩, Lib.hid (fun q h => by simp [Value.ownBlock] at h)⟩
      case round =>
        obtain ⟨X, b, im, k, him, him16, hk, HL, HX, HO, HB⟩ := hrel
        obtain ⟨fz, rfl⟩ : ∃ m, gk = m + 1 := ⟨gk - 1, by omega⟩
        obtain ⟨BA, bc, rfl⟩ := own_slice HO.out
        go_wp2_with fail
        refine (HX.out.take_ hk ⟨#[105, 109, 112, 111, 114, 116]⟩).mono ?_
        rintro r w2 ⟨rfl, hx2, hsm2⟩
        by_cases hs : seesW (tok ws k) ⟨#[105, 109, 112, 111, 114, 116]⟩ = true
        · rw [adv_yes hs] at hx2
          rw [hs]
          have hk1 := sees_next HE.out hk hs
          have HS := Lib.hid hs
          have HX2 := Lib.hid hx2
          have HO2 := Lib.hid (hsm2.own HB.out HO.out)
          obtain ⟨SA, sn, f2, hblk⟩ := hx2.blk_
          have c4 := hblk.cell 4
          simp at c4
          have HBK := Lib.hid hblk
          clear hs hx2 hsm2 hblk HX HO
          by_cases h16 : 16 ≤ im.length
          · go_wp2_with fail
            refine (HX2.out.full_ hk1 im.length 16 h16).mono ?_
            rintro r w3 ⟨rfl, hk9⟩
            refine And.intro rfl (ModOut.err ?_ hk9)
            rw [moduleR, if_pos HC1.out, if_pos (by simpa using HC2.out), HL.out, importsF_full HS.out h16]
          · have H16 := Lib.hid h16
            have hi16 : im.length < 16 := by omega
            clear h16
            go_wp2_with fail
            refine (room_ok im.length 16 hi16 (by omega) _ _).mono ?_
            rintro r w3 ⟨rfl, rfl⟩
            have hS : w3.drew.cell? ⟨g, 4, none⟩ = some (.slice BA im.length bc) := c4
            go_wp2_with fail
            refine K_start 20 (fun u => u.cell? ⟨g, 4, none⟩ = some (.slice BA im.length bc)) (by kernel_rfl) ?_
            refine K_pure (i := 0) (v := ?_) rfl (by kernel_rfl) (by kernel_rfl) (by kernel_rfl) (by decide) (fun _ _ _ h => h) (fun _ => hS) (by rfl) ?_ ?_
            rotate_left
            · intro u
              go_simp
              try with_reducible rfl
            simp only [Act.put, List.setIfInBounds_toArray, List.set_cons_zero, List.set_cons_succ]
            refine K_pure (i := 1) (v := ?_) rfl (by kernel_rfl) (by kernel_rfl) (by kernel_rfl) (by decide) (fun _ _ _ h => h) (fun _ => hS) (by rfl) ?_ ?_
            rotate_left
            · intro u
              go_simp
              try with_reducible rfl
            simp only [Act.put, List.setIfInBounds_toArray, List.set_cons_zero, List.set_cons_succ]
            refine K_pure (i := 2) (v := ?_) rfl (by kernel_rfl) (by kernel_rfl) (by kernel_rfl) (by decide) (fun _ _ _ h => h) (fun _ => hS) (by rfl) ?_ ?_
            rotate_left
            · intro u
              go_simp
              try with_reducible rfl
            simp only [Act.put, List.setIfInBounds_toArray, List.set_cons_zero, List.set_cons_succ]
            refine K_pure (i := 3) (v := ?_) rfl (by kernel_rfl) (by kernel_rfl) (by kernel_rfl) (by decide) (fun _ _ _ h => h) (fun _ => hS) (by rfl) ?_ ?_
            rotate_left
            · intro u
              go_simp
              try with_reducible rfl
            simp only [Act.put, List.setIfInBounds_toArray, List.set_cons_zero, List.set_cons_succ]
            refine K_pure (i := 4) (v := ?_) rfl (by kernel_rfl) (by kernel_rfl) (by kernel_rfl) (by decide) (fun _ _ _ h => h) (fun _ => hS) (by rfl) ?_ ?_
            rotate_left
            · intro u
              go_simp
              try with_reducible rfl
            simp only [Act.put, List.setIfInBounds_toArray, List.set_cons_zero, List.set_cons_succ]
            refine K_take (i := 5) (v := ?_) rfl (by kernel_rfl) (by kernel_rfl) (by kernel_rfl) (by kernel_rfl) (by kernel_rfl) (fun _ _ _ h => h) hS (by rfl) ?_ ?_
            rotate_left
            · intro u hu
              go_simp
              try with_reducible rfl
            simp only [Act.put, List.setIfInBounds_toArray, List.set_cons_zero, List.set_cons_succ]
            refine K_pure (i := 6) (v := ?_) rfl (by kernel_rfl) (by kernel_rfl) (by kernel_rfl) (by decide) (fun _ _ _ h => h) (fun _ => hS) (by rfl) ?_ ?_
            rotate_left
            · intro u
              go_simp
              try with_reducible rfl
            simp only [Act.put, List.setIfInBounds_toArray, List.set_cons_zero, List.set_cons_succ]
            refine K_pure (i := 7) (v := ?_) rfl (by kernel_rfl) (by kernel_rfl) (by kernel_rfl) (by decide) (fun _ _ _ h => h) (fun _ => hS) (by rfl) ?_ ?_
            rotate_left
            · intro u
              go_simp
              try with_reducible rfl
            simp only [Act.put, List.setIfInBounds_toArray, List.set_cons_zero, List.set_cons_succ]
            refine K_pure (i := 8) (v := ?_) rfl (by kernel_rfl) (by kernel_rfl) (by kernel_rfl) (by decide) (fun _ _ _ h => h) (fun _ => hS) (by rfl) ?_ ?_
            rotate_left
            · intro u
              go_simp
              try with_reducible rfl
            simp only [Act.put, List.setIfInBounds_toArray, List.set_cons_zero, List.set_cons_succ]
            refine K_pure (i := 9) (v := ?_) rfl (by kernel_rfl) (by kernel_rfl) (by kernel_rfl) (by decide) (fun _ _ _ h => h) (fun _ => hS) (by rfl) ?_ ?_
            rotate_left
            · intro u
              go_simp
              try with_reducible rfl
            simp only [Act.put, List.setIfInBounds_toArray, List.set_cons_zero, List.set_cons_succ]
            refine K_pure (i := 10) (v := ?_) rfl (by kernel_rfl) (by kernel_rfl) (by kernel_rfl) (by decide) (fun _ _ _ h => h) (fun _ => hS) (by rfl) ?_ ?_
            rotate_left
            · intro u
              go_simp
              try with_reducible rfl
            simp only [Act.put, List.setIfInBounds_toArray, List.set_cons_zero, List.set_cons_succ]
            refine K_pure (i := 11) (v := ?_) rfl (by kernel_rfl) (by kernel_rfl) (by kernel_rfl) (by decide) (fun _ _ _ h => h) (fun _ => hS) (by rfl) ?_ ?_
            rotate_left
            · intro u
              go_simp
              try with_reducible rfl
            simp only [Act.put, List.setIfInBounds_toArray, List.set_cons_zero, List.set_cons_succ]
            refine K_pure (i := 12) (v := ?_) rfl (by kernel_rfl) (by kernel_rfl) (by kernel_rfl) (by decide) (fun _ _ _ h => h) (fun _ => hS) (by rfl) ?_ ?_
            rotate_left
            · intro u
              go_simp
              try with_reducible rfl
            simp only [Act.put, List.setIfInBounds_toArray, List.set_cons_zero, List.set_cons_succ]
            refine K_take (i := 13) (v := ?_) rfl (by kernel_rfl) (by kernel_rfl) (by kernel_rfl) (by kernel_rfl) (by kernel_rfl) (fun _ _ _ h => h) hS (by rfl) ?_ ?_
            rotate_left
            · intro u hu
              go_simp
              try with_reducible rfl
            simp only [Act.put, List.setIfInBounds_toArray, List.set_cons_zero, List.set_cons_succ]
            refine K_one (i := 14) (by kernel_rfl) rfl (fun K hK => ?_)
            go_simp
            have hc : 0 < im.length → ∃ b o, BA = some ⟨b, o, none⟩ ∧ b < w3.drew.heap.size ∧ ¬ b = g ∧ ∀ (j : Nat) (y : ByteArray), im[j]? = some y → w3.drew.cell? ⟨b, o + j, none⟩ = some (.string y) := fun h0 => by
              obtain ⟨q, n, hv, hbq, hq, hcell⟩ := own_strs HO2.out h0
              cases hv
              exact ⟨q, 0, rfl, hq, by omega, fun j y hy => by rw [Nat.zero_add]; exact hcell j y hy⟩
            refine (HX2.out.drew.fresh_ name_rule hk1 BA bc im (by omega) hc).mono ?_
            intro r w4 hr
            by_cases hf : freshOk (tok ws (k + 1)) 1 im = true
            · rw [hf] at hr
              obtain ⟨rfl, hx4, hsm4'⟩ := hr
              have hsm4 : Same X w3 w4 := fun i hi => hsm4' i hi
              have HF := Lib.hid hf
              have hk2 : k + 2 < ws.length := by
                refine kind_next HE.out hk1 (kd := 1) ?_ (by decide)
                have := hf
                simp [freshOk] at this
                exact this.1
              obtain ⟨SA4, sn4, f4, hblk4⟩ := hx4.blk_
              have d4 := hblk4.cell 4
              simp at d4
              refine hK _ _ (fun _ => d4) ?_
              clear hK K hS c4
              have HX4 := Lib.hid hx4
              have HO4 := Lib.hid (hsm4.own HB.out HO2.out)
              have hg4 : g < w4.heap.size := hblk4.lt
              have HBK4 := Lib.hid hblk4
              clear hf hx4 hsm4 hsm4' hblk4 d4
              refine K_one (i := 15) (by kernel_rfl) rfl (fun K hK => ?_)
              go_simp
              have e4 := (HBK4.out.alloc (.cells #[.string (tok ws (k + 1)).text] 9)).cell 4
              refine hK _ _ (fun _ => e4) ?_
              clear hK K e4
              refine K_one (i := 16) (by kernel_rfl) rfl (fun K hK => ?_)
              refine step_append_lies _ (by rfl) _ _ _ (by rfl) (g + 1) 9 i0 _ 1 16 Tryz.underlying22 HI.out HZ0.out HZ1.out HZ2.out rfl (by decide) (.slice BA im.length bc) im.length (strs3 im) (by rfl) (HO4.out.alloc _) ⟨w4.heap.size, 0, none⟩ 1 1 [.string (tok ws (k + 1)).text] (by rfl) (by rfl) (World.news_of_block (cs := #[.string (tok ws (k + 1)).text]) (t := 9) (fr := (0, 0)) (heap_alloc_new w4 _)) (by simp [Value.oneCell']) (by omega) (by simp only [maxLen]; omega) (by omega) (by simp; omega) (w4.heap.size + 1) (by simp) ?_
              intro gg cap w5 hown5 hgrow5 hat5 hlt5
              have hkg : Kept (fun i => (Value.slice BA im.length bc).ownBlock = some i) w4 w5 := ((Kept.refl _ w4).alloc _).grown hgrow5 (fun i _ h => h)
              have hbk5 := hkg.blk HBK4.out (fun h => by have := (HO4.out.lt _ h).1; omega)
              have hx5 := HX4.out.app HB.out hkg (hat5.imp id (fun h => by omega)) hlt5
              have e4 := hbk5.cell 4
              have y4 := hbk5.frozen 4
              simp at e4
              refine hK _ _ (fun _ => e4) ?_
              clear hK K
              have HX5 := Lib.hid hx5
              have ho5 : w5.ownsRow (g + 1) 9 1 (.slice (some ⟨gg, 0, none⟩) (im.length + 1) cap) (im ++ [(tok ws (k + 1)).text]).length (strs3 (im ++ [(tok ws (k + 1)).text])) := by
                rw [strs3_snoc] at hown5
                rw [List.length_append, List.length_singleton]
                exact hown5
              have HO5 := Lib.hid ho5
              have hgg : g + 1 ≤ gg := (ho5.lt gg rfl).1
              clear hown5 hgrow5 hat5 hbk5 hx5 ho5 hkg
              refine K_one (i := 17) (by kernel_rfl) rfl (fun K hK => ?_)
              go_simp
              refine hK _ _ (fun _ => e4) ?_
              clear hK K
              refine K_one (i := 18) (by kernel_rfl) rfl (fun K hK => ?_)
              go_simp
              refine hK _ _ (fun _ => e4) ?_
              clear hK K
              refine K_one (i := 19) (by kernel_rfl) rfl (fun K hK => ?_)
              go_simp
              refine hK _ _ (fun _ => e4) ?_
              clear hK K
              refine K_one (i := 20) (by kernel_rfl) rfl (fun K hK => ?_)
              go_simp
              refine hK _ _ (fun h => absurd h (by decide)) ?_
              clear hK K e4 y4
              refine K_done (by kernel_rfl) ?_
              obtain ⟨hx6, hsm6⟩ := HX5.out.putI 4 (.slice (some ⟨gg, 0, none⟩) (im.length + 1) cap) _ (.slice (some ⟨gg, 0, none⟩) (im.length + 1) cap) _ _ (fun _ _ _ => rfl)
              have HX6 := Lib.hid hx6
              have hX6 : ∀ q, (Value.slice (some ⟨gg, 0, none⟩) (im.length + 1) cap).ownBlock = some q → (X q ∨ q = gg) := fun q h => .inr (by simpa [Value.ownBlock] using h.symm)
              have HO6 := Lib.hid (hsm6.own hX6 HO5.out)
              have HH6 := Lib.hid hX6
              have HL6 : Hid (importsF ws 17 [] 2 = importsF ws fz (im ++ [(tok ws (k + 1)).text]) (k + 2)) := by show _ = _; rw [HL.out, importsF_yes HS.out H16.out HF.out]
              clear hx6 hsm6 hX6
              go_wp2_with fail
              go_roundg fz
              case rel => exact ⟨_, _, im ++ [(tok ws (k + 1)).text], k + 2, by simp; omega, by simp; omega, hk2, HL6, HX6, HO6, HH6⟩
              case measure => omega
            · have hf2 : freshOk (tok ws (k + 1)) 1 im = false := by simpa using hf
              rw [hf2] at hr
              obtain ⟨rfl, hk9⟩ := hr
              refine And.intro rfl (ModOut.err ?_ hk9)
              rw [moduleR, if_pos HC1.out, if_pos (by simpa using HC2.out), HL.out, importsF_no HS.out H16.out hf2]
        · have hs2 : seesW (tok ws k) ⟨#[105, 109, 112, 111, 114, 116]⟩ = false := by simpa using hs
          rw [adv_no hs2] at hx2
          rw [hs2]
          have HL2 : Hid (importsF ws 17 [] 2 = .ok (im, k)) := by show _ = _; rw [HL.out, importsF_end hs2]
          have HX2 := Lib.hid hx2
          have HO2 := Lib.hid (hsm2.own HB.out HO.out)
          clear hs hs2 hx2 hsm2 HX HO HL
          obtain ⟨kI, rfl⟩ : ∃ kI, kI = k := ⟨_, rfl⟩
          go_wp2_with fail
          have hbq : ∀ q, (Value.slice BA im.length bc).ownBlock = some q → Bes X (.slice none 0 0) q := fun q h => ⟨HB.out q h, by simp [Value.ownBlock]⟩
          have HBQ := Lib.hid hbq
          clear hbq
          go_loopg [] 65 (fun fz wr => ∃ (X : Nat → Prop) (c : Value) (ty : List Dc) (k : Nat) (nds : List Nd), ty.length + fz = 65 ∧ ty.length ≤ 64 ∧ Hid (OkP ws k nds) ∧ Hid (typesF ws (typeR ws 60) 65 [] kI [] = typesF ws (typeR ws 60) fz ty k nds) ∧ Hid (MdX X w wr g ws k 0 (.string (tok ws (0 + 1)).text) (.slice BA im.length bc) c (.slice none 0 0) (.slice none 0 0) nds (fun _ => False)) ∧ Hid (wr.ownsRow (g + 1) 45 2 c ty.length (dcells ty)) ∧ Hid (∀ q, c.ownBlock = some q → X q) ∧ Hid (wr.ownsRow (g + 1) 9 1 (.slice BA im.length bc) im.length (strs3 im)) ∧ Hid (∀ q, (Value.slice BA im.length bc).ownBlock = some q → Bes X c q))
          case atStart => exact ⟨_, _, [], kI, [], rfl, by simp, Lib.hid ⟨hk, by simp, fun i x h => by simp at h⟩, Lib.hid rfl, HX2, Lib.hid ⟨rfl, .inl ⟨rfl, rfl⟩⟩, Lib.hid (fun q h => by simp [Value.ownBlock] at h), HO2, HBQ⟩
          case round =>
            clear HX2 HO2 HB HBQ hk
            obtain ⟨X, u, ty, k, nds, hty, hty64, HOK, HL, HX, HU, HUX, HB, HQB⟩ := hrel
            obtain ⟨fz, rfl⟩ : ∃ m, gk = m + 1 := ⟨gk - 1, by omega⟩
            obtain ⟨TA, tc, rfl⟩ := own_slice HU.out
            have hk := HOK.out.lt
            go_wp2_with fail
            refine (HX.out.sees_ hk ⟨#[116, 121, 112, 101]⟩).mono ?_
            rintro r w2 ⟨rfl, hx2, hsm2⟩
            have HX2 := Lib.hid hx2
            have HU2 := Lib.hid (hsm2.own HUX.out HU.out)
            have HB2 := Lib.hid (hsm2.own (fun q h => (HQB.out q h).1) HB.out)
            by_cases hs : seesW (tok ws k) ⟨#[116, 121, 112, 101]⟩ = true
            · rw [hs]
              have HS := Lib.hid hs
              obtain ⟨SA, sn, f2, hblk⟩ := hx2.blk_
              have c4 := hblk.cell 5
              simp at c4
              have HBK := Lib.hid hblk
              clear hs hx2 hsm2 hblk HX HU
              by_cases h16 : 64 ≤ ty.length
              · go_wp2_with fail
                refine (HX2.out.full_ hk ty.length 64 h16).mono ?_
                rintro r w3 ⟨rfl, hk9⟩
                refine And.intro rfl (ModOut.err ?_ hk9)
                rw [moduleR, if_pos HC1.out, if_pos (by simpa using HC2.out), HL2.out]; dsimp only; rw [HL.out, typesF_full HS.out h16]
              · have H16 : Hid (¬ 64 ≤ ty.length) := Lib.hid h16
                have hi16 : ty.length < 64 := by omega
                clear h16
                go_wp2_with fail
                refine (room_ok ty.length 64 hi16 (by omega) _ _).mono ?_
                rintro r w3 ⟨rfl, rfl⟩
                have hS : w3.drew.cell? ⟨g, 5, none⟩ = some (.slice TA ty.length tc) := c4
                go_wp2_with fail
                refine K_start 13 (fun u => u.cell? ⟨g, 5, none⟩ = some (.slice TA ty.length tc)) (by kernel_rfl) ?_
                refine K_pure (i := 0) (v := ?_) rfl (by kernel_rfl) (by kernel_rfl) (by kernel_rfl) (by decide) (fun _ _ _ h => h) (fun _ => hS) (by rfl) ?_ ?_
                rotate_left
                · intro u
                  go_simp
                  try with_reducible rfl
                simp only [Act.put, List.setIfInBounds_toArray, List.set_cons_zero, List.set_cons_succ]
                refine K_pure (i := 1) (v := ?_) rfl (by kernel_rfl) (by kernel_rfl) (by kernel_rfl) (by decide) (fun _ _ _ h => h) (fun _ => hS) (by rfl) ?_ ?_
                rotate_left
                · intro u
                  go_simp
                  try with_reducible rfl
                simp only [Act.put, List.setIfInBounds_toArray, List.set_cons_zero, List.set_cons_succ]
                refine K_pure (i := 2) (v := ?_) rfl (by kernel_rfl) (by kernel_rfl) (by kernel_rfl) (by decide) (fun _ _ _ h => h) (fun _ => hS) (by rfl) ?_ ?_
                rotate_left
                · intro u
                  go_simp
                  try with_reducible rfl
                simp only [Act.put, List.setIfInBounds_toArray, List.set_cons_zero, List.set_cons_succ]
                refine K_pure (i := 3) (v := ?_) rfl (by kernel_rfl) (by kernel_rfl) (by kernel_rfl) (by decide) (fun _ _ _ h => h) (fun _ => hS) (by rfl) ?_ ?_
                rotate_left
                · intro u
                  go_simp
                  try with_reducible rfl
                simp only [Act.put, List.setIfInBounds_toArray, List.set_cons_zero, List.set_cons_succ]
                refine K_pure (i := 4) (v := ?_) rfl (by kernel_rfl) (by kernel_rfl) (by kernel_rfl) (by decide) (fun _ _ _ h => h) (fun _ => hS) (by rfl) ?_ ?_
                rotate_left
                · intro u
                  go_simp
                  try with_reducible rfl
                simp only [Act.put, List.setIfInBounds_toArray, List.set_cons_zero, List.set_cons_succ]
                refine K_take (i := 5) (v := ?_) rfl (by kernel_rfl) (by kernel_rfl) (by kernel_rfl) (by kernel_rfl) (by kernel_rfl) (fun _ _ _ h => h) hS (by rfl) ?_ ?_
                rotate_left
                · intro u hu
                  go_simp
                  try with_reducible rfl
                simp only [Act.put, List.setIfInBounds_toArray, List.set_cons_zero, List.set_cons_succ]
                refine K_pure (i := 6) (v := ?_) rfl (by kernel_rfl) (by kernel_rfl) (by kernel_rfl) (by decide) (fun _ _ _ h => h) (fun _ => hS) (by rfl) ?_ ?_
                rotate_left
                · intro u
                  go_simp
                  try with_reducible rfl
                simp only [Act.put, List.setIfInBounds_toArray, List.set_cons_zero, List.set_cons_succ]
                refine K_one (i := 7) (by kernel_rfl) rfl (fun K hK => ?_)
                go_simp
                refine (decl_any g ws HE.out 0 _ _ _ _ _ _ (aType_rule HE.out g _ _ _ _ 60 0 rfl) (typeR_good HE.out 60) X w w3.drew k nds _ HX2.out.drew HOK.out).mono ?_
                intro r w4 ho
                rcases hres : declR ws (typeR ws 60) k nds with ⟨at_, er⟩ | ⟨x, k', nds'⟩
                · rw [hres] at ho
                  obtain ⟨rfl, hk9⟩ := ho
                  refine And.intro rfl (ModOut.err ?_ hk9)
                  rw [moduleR, if_pos HC1.out, if_pos (by simpa using HC2.out), HL2.out]; dsimp only; rw [HL.out, typesF_err HS.out H16.out hres]
                · have hok4 := declR_good HE.out (typeR_good HE.out 60) HOK.out hres
                  rw [hres] at ho
                  obtain ⟨rfl, hx4, hsm4'⟩ := ho
                  have hsm4 : Same X w3 w4 := fun i hi => hsm4' i hi
                  have hsz3 : ∀ i, X i → i < w3.heap.size := fun i hi => (HX2.out.inX i hi).2
                  obtain ⟨SA4, sn4, f4, hblk4⟩ := hx4.blk_
                  have d4 := hblk4.cell 5
                  simp at d4
                  refine hK _ _ (fun _ => d4) ?_
                  clear hK K hS c4
                  have HX4 := Lib.hid hx4
                  have HU4 := Lib.hid (hsm4.own HUX.out HU2.out)
                  have HB4 := Lib.hid (hsm4.own (fun q h => (HQB.out q h).1) HB2.out)
                  have hg4 : g < w4.heap.size := hblk4.lt
                  have HBK4 := Lib.hid hblk4
                  have HRES := Lib.hid hres
                  have HOK4 := Lib.hid hok4
                  clear hres hx4 hsm4 hsm4' hblk4 d4 hok4 
                  refine K_one (i := 8) (by kernel_rfl) rfl (fun K hK => ?_)
                  go_simp
                  have e4 := (HBK4.out.alloc (.cells #[.string x.nm, .int .i64 (x.ty : Int)] 45)).cell 5
                  refine hK _ _ (fun _ => e4) ?_
                  clear hK K e4
                  refine K_one (i := 9) (by kernel_rfl) rfl (fun K hK => ?_)
                  refine step_append_lies _ (by rfl) _ _ _ (by rfl) (g + 1) 45 i1 _ 2 24 Tryz.underlying23 HI1.out HZ10.out HZ11.out HZ12.out rfl (by decide) (.slice TA ty.length tc) ty.length (dcells ty) (by rfl) (HU4.out.alloc _) ⟨w4.heap.size, 0, none⟩ 1 1 [.string x.nm, .int .i64 (x.ty : Int)] (by rfl) (by rfl) (World.news_of_block (cs := #[.string x.nm, .int .i64 (x.ty : Int)]) (t := 45) (fr := (0, 0)) (heap_alloc_new w4 _)) (by simp [Value.oneCell']) (by omega) (by simp only [maxLen]; omega) (by omega) (by simp; omega) (w4.heap.size + 1) (by simp) ?_
                  intro gg cap w5 hown5 hgrow5 hat5 hlt5
                  have hkg : Kept (fun i => (Value.slice TA ty.length tc).ownBlock = some i) w4 w5 := ((Kept.refl _ w4).alloc _).grown hgrow5 (fun i _ h => h)
                  have hbk5 := hkg.blk HBK4.out (fun h => by have := (HU4.out.lt _ h).1; omega)
                  have hux4 : ∀ q, (Value.slice TA ty.length tc).ownBlock = some q → X q := fun q h => HUX.out q h
                  have hat5' : (Value.slice TA ty.length tc).ownBlock = some gg ∨ w4.heap.size ≤ gg := hat5.imp id (fun h => by omega)
                  have hx5 := HX4.out.app hux4 hkg hat5' hlt5
                  obtain ⟨hsq, hq⟩ := Bes.grown (X := X) (u' := .slice (some ⟨gg, 0, none⟩) (ty.length + 1) cap) (fun i h => (HX4.out.inX i h).2) hkg rfl hat5'
                  have e4 := hbk5.cell 5
                  have y4 := hbk5.frozen 5
                  simp at e4
                  refine hK _ _ (fun _ => e4) ?_
                  clear hK K
                  have HX5 := Lib.hid hx5
                  have ho5 : w5.ownsRow (g + 1) 45 2 (.slice (some ⟨gg, 0, none⟩) (ty.length + 1) cap) (ty ++ [x]).length (dcells (ty ++ [x])) := by
                    rw [← dcells_snoc, List.length_append, List.length_singleton]
                    exact hown5
                  have HU5 := Lib.hid ho5
                  have hgg : g + 1 ≤ gg := (ho5.lt gg rfl).1
                  have hqB : ∀ q, (Value.slice BA im.length bc).ownBlock = some q → Bes X (Value.slice TA ty.length tc) q := fun q h => HQB.out q h
                  have HB5 := Lib.hid (hsq.own hqB HB4.out)
                  have HQB5 : Hid (∀ q, (Value.slice BA im.length bc).ownBlock = some q → Bes (fun i => X i ∨ i = gg) (.slice (some ⟨gg, 0, none⟩) (ty.length + 1) cap) q) := Lib.hid fun q h => hq q (hqB q h)
                  clear hown5 hgrow5 hat5 hat5' hbk5 hx5 ho5 hkg hsq hq hux4 hqB 
                  refine K_one (i := 10) (by kernel_rfl) rfl (fun K hK => ?_)
                  go_simp
                  refine hK _ _ (fun _ => e4) ?_
                  clear hK K
                  refine K_one (i := 11) (by kernel_rfl) rfl (fun K hK => ?_)
                  go_simp
                  refine hK _ _ (fun _ => e4) ?_
                  clear hK K
                  refine K_one (i := 12) (by kernel_rfl) rfl (fun K hK => ?_)
                  go_simp
                  refine hK _ _ (fun _ => e4) ?_
                  clear hK K
                  refine K_one (i := 13) (by kernel_rfl) rfl (fun K hK => ?_)
                  go_simp
                  refine hK _ _ (fun h => absurd h (by decide)) ?_
                  clear hK K e4 y4
                  refine K_done (by kernel_rfl) ?_
                  obtain ⟨hx6, hsm6⟩ := HX5.out.putI 5 (.slice (some ⟨gg, 0, none⟩) (ty.length + 1) cap) _ _ (.slice (some ⟨gg, 0, none⟩) (ty.length + 1) cap) _ (fun _ _ _ => rfl)
                  have HX6 := Lib.hid hx6
                  have hX6 : ∀ q, (Value.slice (some ⟨gg, 0, none⟩) (ty.length + 1) cap).ownBlock = some q → (X q ∨ q = gg) := fun q h => .inr (by simpa [Value.ownBlock] using h.symm)
                  have HU6 := Lib.hid (hsm6.own hX6 HU5.out)
                  have HH6 := Lib.hid hX6
                  have HB6 := Lib.hid (hsm6.own (fun q h => (HQB5.out q h).1) HB5.out)
                  have HL6 : Hid (typesF ws (typeR ws 60) 65 [] kI [] = typesF ws (typeR ws 60) fz (ty ++ [x]) k' nds') := by show _ = _; rw [HL.out, typesF_ok HS.out H16.out HRES.out]
                  clear hx6 hsm6 hX6
                  go_wp2_with fail
                  go_roundg fz
                  case rel => exact ⟨_, _, ty ++ [x], k', nds', by simp; omega, by simp; omega, HOK4, HL6, HX6, HU6, HH6, HB6, HQB5⟩
                  case measure => omega
            · have hs2 : seesW (tok ws k) ⟨#[116, 121, 112, 101]⟩ = false := by simpa using hs
              rw [hs2]
              have HT2 : Hid (typesF ws (typeR ws 60) 65 [] kI [] = .ok (ty, k, nds)) := by show _ = _; rw [HL.out, typesF_end hs2]
              clear hs hs2 hx2 hsm2 HX HU HL
              obtain ⟨kT, rfl⟩ : ∃ kT, kT = k := ⟨_, rfl⟩
              obtain ⟨nT, rfl⟩ : ∃ nT, nT = nds := ⟨_, rfl⟩
              go_wp2_with fail
              have hbq : ∀ q, (Value.slice BA im.length bc).ownBlock = some q → Bes X (.slice none 0 0) q := fun q h => ⟨(HQB.out q h).1, by simp [Value.ownBlock]⟩
              have hcq : ∀ q, (Value.slice TA ty.length tc).ownBlock = some q → Bes X (.slice none 0 0) q := fun q h => ⟨HUX.out q h, by simp [Value.ownBlock]⟩
              have HBQ := Lib.hid hbq
              have HCQ := Lib.hid hcq
              clear hbq hcq
              go_loopg [] 65 (fun fz wr => ∃ (X : Nat → Prop) (e : Value) (fv : List Fv) (k : Nat) (nds : List Nd), fv.length + fz = 65 ∧ fv.length ≤ 64 ∧ Hid (OkP ws k nds) ∧ Hid (fnsF ws (typeR ws 60) (exprR ws 60) 65 [] kT nT = fnsF ws (typeR ws 60) (exprR ws 60) fz (fv.map (·.1)) k nds) ∧ Hid (MdX X w wr g ws k 0 (.string (tok ws (0 + 1)).text) (.slice BA im.length bc) (.slice TA ty.length tc) e (.slice none 0 0) nds (fun _ => False)) ∧ Hid (wr.ownsRow (g + 1) 40 5 e fv.length (fcells fv)) ∧ Hid (∀ q, e.ownBlock = some q → X q) ∧ Hid (wr.ownsRow (g + 1) 9 1 (.slice BA im.length bc) im.length (strs3 im)) ∧ Hid (∀ q, (Value.slice BA im.length bc).ownBlock = some q → Bes X e q) ∧
                  Hid (wr.ownsRow (g + 1) 45 2 (.slice TA ty.length tc) ty.length (dcells ty)) ∧ Hid (∀ q, (Value.slice TA ty.length tc).ownBlock = some q → Bes X e q) ∧ Hid (HeldF wr (Bes X e) fv))
              case atStart => exact ⟨_, _, [], kT, nT, rfl, by simp, HOK, Lib.hid rfl, HX2, Lib.hid ⟨rfl, .inl ⟨rfl, rfl⟩⟩, Lib.hid (fun q h => by simp [Value.ownBlock] at h), HB2, HBQ, HU2, HCQ, Lib.hid (fun p hp => absurd hp (by simp))⟩
              case round =>
                clear HX2 HU2 HB2 HB HQB HBQ HCQ HUX HOK hk hty hty64
                obtain ⟨X, u, fv, k, nds, hty, hty64, HOK, HL, HX, HU, HUX, HB, HQB, HC, HQC, HF⟩ := hrel
                obtain ⟨fz, rfl⟩ : ∃ m, gk = m + 1 := ⟨gk - 1, by omega⟩
                obtain ⟨UA, uc, rfl⟩ := own_slice HU.out
                have hk := HOK.out.lt
                go_wp2_with fail
                refine (HX.out.sees_ hk ⟨#[102, 110]⟩).mono ?_
                rintro r w2 ⟨rfl, hx2, hsm2⟩
                have HX2 := Lib.hid hx2
                have HU2 := Lib.hid (hsm2.own HUX.out HU.out)
                have HB2 := Lib.hid (hsm2.own (fun q h => (HQB.out q h).1) HB.out)
                have HC2b := Lib.hid (hsm2.own (fun q h => (HQC.out q h).1) HC.out)
                have HF2 := Lib.hid (HF.out.same (fun i hi => hsm2 i hi.1) (fun _ h => h))
                by_cases hs : seesW (tok ws k) ⟨#[102, 110]⟩ = true
                · rw [hs]
                  have HS := Lib.hid hs
                  obtain ⟨SA, sn, f2, hblk⟩ := hx2.blk_
                  have c4 := hblk.cell 6
                  simp at c4
                  have HBK := Lib.hid hblk
                  clear hs hx2 hsm2 hblk HX HU
                  by_cases h16 : 64 ≤ fv.length
                  · go_wp2_with fail
                    refine (HX2.out.full_ hk fv.length 64 h16).mono ?_
                    rintro r w3 ⟨rfl, hk9⟩
                    refine And.intro rfl (ModOut.err ?_ hk9)
                    rw [moduleR, if_pos HC1.out, if_pos (by simpa using HC2.out), HL2.out]; dsimp only; rw [HT2.out]; dsimp only; rw [HL.out, fnsF_full HS.out (by rw [List.length_map]; exact h16)]
                  · have H16 : Hid (¬ 64 ≤ (fv.map (·.1)).length) := Lib.hid (by rw [List.length_map]; exact h16)
                    have hi16 : fv.length < 64 := by omega
                    clear h16
                    go_wp2_with fail
                    refine (room_ok fv.length 64 hi16 (by omega) _ _).mono ?_
                    rintro r w3 ⟨rfl, rfl⟩
                    have hS : w3.drew.cell? ⟨g, 6, none⟩ = some (.slice UA fv.length uc) := c4
                    go_wp2_with fail
                    refine K_start 13 (fun u => u.cell? ⟨g, 6, none⟩ = some (.slice UA fv.length uc)) (by kernel_rfl) ?_
                    refine K_pure (i := 0) (v := ?_) rfl (by kernel_rfl) (by kernel_rfl) (by kernel_rfl) (by decide) (fun _ _ _ h => h) (fun _ => hS) (by rfl) ?_ ?_
                    rotate_left
                    · intro u
                      go_simp
                      try with_reducible rfl
                    simp only [Act.put, List.setIfInBounds_toArray, List.set_cons_zero, List.set_cons_succ]
                    refine K_pure (i := 1) (v := ?_) rfl (by kernel_rfl) (by kernel_rfl) (by kernel_rfl) (by decide) (fun _ _ _ h => h) (fun _ => hS) (by rfl) ?_ ?_
                    rotate_left
                    · intro u
                      go_simp
                      try with_reducible rfl
                    simp only [Act.put, List.setIfInBounds_toArray, List.set_cons_zero, List.set_cons_succ]
                    refine K_pure (i := 2) (v := ?_) rfl (by kernel_rfl) (by kernel_rfl) (by kernel_rfl) (by decide) (fun _ _ _ h => h) (fun _ => hS) (by rfl) ?_ ?_
                    rotate_left
                    · intro u
                      go_simp
                      try with_reducible rfl
                    simp only [Act.put, List.setIfInBounds_toArray, List.set_cons_zero, List.set_cons_succ]
                    refine K_pure (i := 3) (v := ?_) rfl (by kernel_rfl) (by kernel_rfl) (by kernel_rfl) (by decide) (fun _ _ _ h => h) (fun _ => hS) (by rfl) ?_ ?_
                    rotate_left
                    · intro u
                      go_simp
                      try with_reducible rfl
                    simp only [Act.put, List.setIfInBounds_toArray, List.set_cons_zero, List.set_cons_succ]
                    refine K_pure (i := 4) (v := ?_) rfl (by kernel_rfl) (by kernel_rfl) (by kernel_rfl) (by decide) (fun _ _ _ h => h) (fun _ => hS) (by rfl) ?_ ?_
                    rotate_left
                    · intro u
                      go_simp
                      try with_reducible rfl
                    simp only [Act.put, List.setIfInBounds_toArray, List.set_cons_zero, List.set_cons_succ]
                    refine K_take (i := 5) (v := ?_) rfl (by kernel_rfl) (by kernel_rfl) (by kernel_rfl) (by kernel_rfl) (by kernel_rfl) (fun _ _ _ h => h) hS (by rfl) ?_ ?_
                    rotate_left
                    · intro u hu
                      go_simp
                      try with_reducible rfl
                    simp only [Act.put, List.setIfInBounds_toArray, List.set_cons_zero, List.set_cons_succ]
                    refine K_pure (i := 6) (v := ?_) rfl (by kernel_rfl) (by kernel_rfl) (by kernel_rfl) (by decide) (fun _ _ _ h => h) (fun _ => hS) (by rfl) ?_ ?_
                    rotate_left
                    · intro u
                      go_simp
                      try with_reducible rfl
                    simp only [Act.put, List.setIfInBounds_toArray, List.set_cons_zero, List.set_cons_succ]
                    refine K_one (i := 7) (by kernel_rfl) rfl (fun K hK => ?_)
                    go_simp
                    refine (fn_any g ws HE.out 0 _ _ _ _ _ _ _ (aType_rule HE.out g _ _ _ _ 60 0 rfl) (typeR_good HE.out 60) (expr_rule HE.out HT.out g _ _ _ _ 60 0 rfl) (exprR_good HE.out 60) X w w3.drew k nds _ HX2.out.drew HOK.out).mono ?_
                    intro r w4 ho
                    rcases hres : fnR ws (typeR ws 60) (exprR ws 60) k nds with ⟨at_, er⟩ | ⟨x, k', nds'⟩
                    · rw [hres] at ho
                      obtain ⟨rfl, hk9⟩ := ho
                      refine And.intro rfl (ModOut.err ?_ hk9)
                      rw [moduleR, if_pos HC1.out, if_pos (by simpa using HC2.out), HL2.out]; dsimp only; rw [HT2.out]; dsimp only; rw [HL.out, fnsF_err HS.out H16.out hres]
                    · have hok4 := fnR_good HE.out (typeR_good HE.out 60) (exprR_good HE.out 60) HOK.out hres
                      rw [hres] at ho
                      obtain ⟨vv, pv, rfl, hx4, hsm4', hvv, hpv⟩ := ho
                      obtain ⟨VA, vc, rfl⟩ := own_slice hvv
                      obtain ⟨PA, pc, rfl⟩ := own_slice hpv
                      have hsm4 : Same X w3 w4 := fun i hi => hsm4' i hi
                      have hsz3 : ∀ i, X i → i < w3.heap.size := fun i hi => (HX2.out.inX i hi).2
                      obtain ⟨SA4, sn4, f4, hblk4⟩ := hx4.blk_
                      have d4 := hblk4.cell 6
                      simp at d4
                      refine hK _ _ (fun _ => d4) ?_
                      clear hK K hS c4
                      have HX4 := Lib.hid hx4
                      have HU4 := Lib.hid (hsm4.own HUX.out HU2.out)
                      have HB4 := Lib.hid (hsm4.own (fun q h => (HQB.out q h).1) HB2.out)
                      have HC4 := Lib.hid (hsm4.own (fun q h => (HQC.out q h).1) HC2b.out)
                      have HF4 := Lib.hid (HF2.out.same (fun i hi => hsm4 i hi.1) (fun _ h => h))
                      have hg4 : g < w4.heap.size := hblk4.lt
                      have HBK4 := Lib.hid hblk4
                      have HRES := Lib.hid hres
                      have HOK4 := Lib.hid hok4
                      have HVV := Lib.hid hvv
                      have HPV := Lib.hid hpv
                      have hul3 : ∀ q, (Value.slice UA fv.length uc).ownBlock = some q → q < w3.heap.size := fun q h => hsz3 q (HUX.out q h)
                      have HUL3 := Lib.hid hul3
                      clear hres hx4 hsm4 hsm4' hblk4 d4 hok4 hvv hpv hul3
                      refine K_one (i := 8) (by kernel_rfl) rfl (fun K hK => ?_)
                      go_simp
                      have e4 := (HBK4.out.alloc (.cells #[.string x.nm, .slice VA x.vars.length vc, .slice PA x.params.length pc, .int .i64 (x.ret : Int), .int .i64 (x.body : Int)] 40)).cell 6
                      refine hK _ _ (fun _ => e4) ?_
                      clear hK K e4
                      refine K_one (i := 9) (by kernel_rfl) rfl (fun K hK => ?_)
                      refine step_append_lies _ (by rfl) _ _ _ (by rfl) (g + 1) 40 i2 _ 5 80 Tryz.underlying24 HI2.out HZ20.out HZ21.out HZ22.out rfl (by decide) (.slice UA fv.length uc) fv.length (fcells fv) (by rfl) (HU4.out.alloc _) ⟨w4.heap.size, 0, none⟩ 1 1 [.string x.nm, .slice VA x.vars.length vc, .slice PA x.params.length pc, .int .i64 (x.ret : Int), .int .i64 (x.body : Int)] (by rfl) (by rfl) (World.news_of_block (cs := #[.string x.nm, .slice VA x.vars.length vc, .slice PA x.params.length pc, .int .i64 (x.ret : Int), .int .i64 (x.body : Int)]) (t := 40) (fr := (0, 0)) (heap_alloc_new w4 _)) (by simp [Value.oneCell']) (by omega) (by simp only [maxLen]; omega) (by omega) (by simp; omega) (w4.heap.size + 1) (by simp) ?_
                      intro gg cap w5 hown5 hgrow5 hat5 hlt5
                      have hkg : Kept (fun i => (Value.slice UA fv.length uc).ownBlock = some i) w4 w5 := ((Kept.refl _ w4).alloc _).grown hgrow5 (fun i _ h => h)
                      have hbk5 := hkg.blk HBK4.out (fun h => by have := (HU4.out.lt _ h).1; omega)
                      have hux4 : ∀ q, (Value.slice UA fv.length uc).ownBlock = some q → (fun i => X i ∨ (Value.slice VA x.vars.length vc).ownBlock = some i ∨ (Value.slice PA x.params.length pc).ownBlock = some i) q := fun q h => .inl (HUX.out q h)
                      have hat5' : (Value.slice UA fv.length uc).ownBlock = some gg ∨ w4.heap.size ≤ gg := hat5.imp id (fun h => by omega)
                      have hx5 := HX4.out.app hux4 hkg hat5' hlt5
                      obtain ⟨hsq, hq⟩ := Bes.grown (X := (fun i => X i ∨ (Value.slice VA x.vars.length vc).ownBlock = some i ∨ (Value.slice PA x.params.length pc).ownBlock = some i)) (u' := .slice (some ⟨gg, 0, none⟩) (fv.length + 1) cap) (fun i h => (HX4.out.inX i h).2) hkg rfl hat5'
                      have e4 := hbk5.cell 6
                      have y4 := hbk5.frozen 6
                      simp at e4
                      refine hK _ _ (fun _ => e4) ?_
                      clear hK K
                      have HX5 := Lib.hid hx5
                      have ho5 : w5.ownsRow (g + 1) 40 5 (.slice (some ⟨gg, 0, none⟩) (fv.length + 1) cap) (fv ++ [(⟨x, .slice VA x.vars.length vc, .slice PA x.params.length pc⟩ : Fv)]).length (fcells (fv ++ [(⟨x, .slice VA x.vars.length vc, .slice PA x.params.length pc⟩ : Fv)])) := by
                        rw [← fcells_snoc, List.length_append, List.length_singleton]
                        exact hown5
                      have HU5 := Lib.hid ho5
                      have hgg : g + 1 ≤ gg := (ho5.lt gg rfl).1
                      have hqB : ∀ q, (Value.slice BA im.length bc).ownBlock = some q → Bes (fun i => X i ∨ (Value.slice VA x.vars.length vc).ownBlock = some i ∨ (Value.slice PA x.params.length pc).ownBlock = some i) (Value.slice UA fv.length uc) q := fun q h => ⟨.inl (HQB.out q h).1, (HQB.out q h).2⟩
                      have HB5 := Lib.hid (hsq.own hqB HB4.out)
                      have HQB5 : Hid (∀ q, (Value.slice BA im.length bc).ownBlock = some q → Bes (fun i => (fun i => X i ∨ (Value.slice VA x.vars.length vc).ownBlock = some i ∨ (Value.slice PA x.params.length pc).ownBlock = some i) i ∨ i = gg) (.slice (some ⟨gg, 0, none⟩) (fv.length + 1) cap) q) := Lib.hid fun q h => hq q (hqB q h)
                      have hqC : ∀ q, (Value.slice TA ty.length tc).ownBlock = some q → Bes (fun i => X i ∨ (Value.slice VA x.vars.length vc).ownBlock = some i ∨ (Value.slice PA x.params.length pc).ownBlock = some i) (Value.slice UA fv.length uc) q := fun q h => ⟨.inl (HQC.out q h).1, (HQC.out q h).2⟩
                      have HC5 := Lib.hid (hsq.own hqC HC4.out)
                      have HQC5 : Hid (∀ q, (Value.slice TA ty.length tc).ownBlock = some q → Bes (fun i => (fun i => X i ∨ (Value.slice VA x.vars.length vc).ownBlock = some i ∨ (Value.slice PA x.params.length pc).ownBlock = some i) i ∨ i = gg) (.slice (some ⟨gg, 0, none⟩) (fv.length + 1) cap) q) := Lib.hid fun q h => hq q (hqC q h)
                      have hf4 : HeldF w4 (Bes (fun i => X i ∨ (Value.slice VA x.vars.length vc).ownBlock = some i ∨ (Value.slice PA x.params.length pc).ownBlock = some i) (Value.slice UA fv.length uc)) (fv ++ [(⟨x, .slice VA x.vars.length vc, .slice PA x.params.length pc⟩ : Fv)]) := by
                        intro p hp
                        rcases List.mem_append.1 hp with hp | hp
                        · obtain ⟨h1, h2, h3, h4⟩ := HF4.out p hp
                          exact ⟨h1, h2, fun q hq => ⟨.inl (h3 q hq).1, (h3 q hq).2⟩, fun q hq => ⟨.inl (h4 q hq).1, (h4 q hq).2⟩⟩
                        · rw [List.mem_singleton] at hp
                          subst hp
                          have hb3 : w3.drew.heap.size = w3.heap.size := rfl
                          exact ⟨⟨_, HVV.out⟩, ⟨_, HPV.out⟩, fun q hq => ⟨.inr (.inl hq), fun e => by have h1 := (HVV.out.lt q hq).1; have h2 := HUL3.out q e; omega⟩, fun q hq => ⟨.inr (.inr hq), fun e => by have h1 := (HPV.out.lt q hq).1; have h2 := HUL3.out q e; omega⟩⟩
                      have HF5 := Lib.hid (hf4.same hsq hq)
                      clear hown5 hgrow5 hat5 hat5' hbk5 hx5 ho5 hkg hsq hq hux4 hqB hqC hf4
                      refine K_one (i := 10) (by kernel_rfl) rfl (fun K hK => ?_)
                      go_simp
                      refine hK _ _ (fun _ => e4) ?_
                      clear hK K
                      refine K_one (i := 11) (by kernel_rfl) rfl (fun K hK => ?_)
                      go_simp
                      refine hK _ _ (fun _ => e4) ?_
                      clear hK K
                      refine K_one (i := 12) (by kernel_rfl) rfl (fun K hK => ?_)
                      go_simp
                      refine hK _ _ (fun _ => e4) ?_
                      clear hK K
                      refine K_one (i := 13) (by kernel_rfl) rfl (fun K hK => ?_)
                      go_simp
                      refine hK _ _ (fun h => absurd h (by decide)) ?_
                      clear hK K e4 y4
                      refine K_done (by kernel_rfl) ?_
                      obtain ⟨hx6, hsm6⟩ := HX5.out.putI 6 (.slice (some ⟨gg, 0, none⟩) (fv.length + 1) cap) _ _ _ (.slice (some ⟨gg, 0, none⟩) (fv.length + 1) cap) (fun _ _ _ => rfl)
                      have HX6 := Lib.hid hx6
                      have hX6 : ∀ q, (Value.slice (some ⟨gg, 0, none⟩) (fv.length + 1) cap).ownBlock = some q → ((fun i => X i ∨ (Value.slice VA x.vars.length vc).ownBlock = some i ∨ (Value.slice PA x.params.length pc).ownBlock = some i) q ∨ q = gg) := fun q h => .inr (by simpa [Value.ownBlock] using h.symm)
                      have HU6 := Lib.hid (hsm6.own hX6 HU5.out)
                      have HH6 := Lib.hid hX6
                      have HB6 := Lib.hid (hsm6.own (fun q h => (HQB5.out q h).1) HB5.out)
                      have HC6 := Lib.hid (hsm6.own (fun q h => (HQC5.out q h).1) HC5.out)
                      have HF6 := Lib.hid (HF5.out.same (fun i hi => hsm6 i hi.1) (fun _ h => h))
                      have HL6 : Hid (fnsF ws (typeR ws 60) (exprR ws 60) 65 [] kT nT = fnsF ws (typeR ws 60) (exprR ws 60) fz ((fv ++ [(⟨x, .slice VA x.vars.length vc, .slice PA x.params.length pc⟩ : Fv)]).map (·.1)) k' nds') := by show _ = _; rw [HL.out, fnsF_ok HS.out H16.out HRES.out]; simp
                      clear hx6 hsm6 hX6
                      go_wp2_with fail
                      go_roundg fz
                      case rel => exact ⟨_, _, fv ++ [(⟨x, .slice VA x.vars.length vc, .slice PA x.params.length pc⟩ : Fv)], k', nds', by simp; omega, by simp; omega, HOK4, HL6, HX6, HU6, HH6, HB6, HQB5, HC6, HQC5, HF6⟩
                      case measure => omega
                · have hs2 : seesW (tok ws k) ⟨#[102, 110]⟩ = false := by simpa using hs
                  rw [hs2]
                  have HFN2 : Hid (fnsF ws (typeR ws 60) (exprR ws 60) 65 [] kT nT = .ok ((fv.map (·.1)), k, nds)) := by show _ = _; rw [HL.out, fnsF_end hs2]
                  clear hs hs2 hx2 hsm2 HX HU HL
                  go_wp2_with fail
                  refine (HX2.out.has_ hk 7).mono ?_
                  rintro r w3 ⟨rfl, hx3, hsm3⟩
                  by_cases hs : decide ((tok ws k).kind = 7) = true
                  · rw [hs]
                    have HS := Lib.hid hs
                    have HX3 := Lib.hid hx3
                    have HU3 := Lib.hid (hsm3.own HUX.out HU2.out)
                    have HB3 := Lib.hid (hsm3.own (fun q h => (HQB.out q h).1) HB2.out)
                    have HC3 := Lib.hid (hsm3.own (fun q h => (HQC.out q h).1) HC2b.out)
                    have HF3 := Lib.hid (HF2.out.same (fun i hi => hsm3 i hi.1) (fun i hi => (HX2.out.inX i hi.1).1) (F' := fun i => w.heap.size ≤ i))
                    clear hs hx3 hsm3
                    go_wp2_with fail
                    go_end0
                    have hm : moduleR ws = .ok ⟨(tok ws 1).text, im, ty, fv.map (·.1), nds⟩ := by
                      rw [moduleR, if_pos HC1.out, if_pos (by simpa using HC2.out), HL2.out]; dsimp only; rw [HT2.out]; dsimp only; rw [HFN2.out]; dsimp only
                      rw [if_pos (by simpa using HS.out)]
                    rw [hm]
                    obtain ⟨f3, h3, hn3, ht3, _⟩ := HX3.out.ex
                    have hin := HX3.out.inX
                    refine ⟨rfl, ⟨k, _, _, _, f3, h3, ⟨⟨_, HB3.out⟩, ⟨_, HC3.out⟩, ⟨fv, rfl, ⟨_, HU3.out⟩, HF3.out⟩, ⟨g, _, hn3, fun i hi => ?_⟩, fun q hq => (hin q (HQB.out q hq).1).1, fun q hq => (hin q (HQC.out q hq).1).1, fun q hq => (hin q (HUX.out q hq)).1, fun q hq => ?_⟩⟩, HX3.out.kept⟩
                    · rcases hi.1 with h | h
                      · exact h.elim
                      · exact h
                    · rcases Nat.lt_or_ge q w.heap.size with h | h
                      · have h1 := (hn3.own_lt hq).1
                        rcases ht3 q h (.inr hq) with h2 | h2
                        · omega
                        · simp [Value.ownBlock] at h2
                      · exact h
                  · have hs2 : decide ((tok ws k).kind = 7) = false := by simpa using hs
                    rw [hs2]
                    have HS := Lib.hid hs2
                    have HX3 := Lib.hid hx3
                    clear hs hs2 hx3 hsm3
                    go_wp2_with fail
                    refine (HX3.out.fail_ hk 30).mono ?_
                    rintro r w4 ⟨rfl, hk9⟩
                    refine And.intro rfl (ModOut.err ?_ hk9)
                    rw [moduleR, if_pos HC1.out, if_pos (by simpa using HC2.out), HL2.out]; dsimp only; rw [HT2.out]; dsimp only; rw [HFN2.out]; dsimp only
                    rw [if_neg (by simpa using HS.out)]
    · have hs2 : decide ((tok ws (0 + 1)).kind = 1) = false := by simpa using hs
      rw [hs2] at hr
      obtain ⟨rfl, hk9⟩ := hr
      refine And.intro rfl (ModOut.err ?_ hk9)
      rw [moduleR, if_pos HC1.out, if_neg (by simpa using hs2)]
  · have hs2 : seesW (tok ws 0) ⟨#[109, 111, 100, 117, 108, 101]⟩ = false := by simpa using hs
    rw [hs2] at hr
    obtain ⟨rfl, hk9⟩ := hr
    refine And.intro rfl (ModOut.err ?_ hk9)
    rw [moduleR, if_neg (by rw [hs2]; simp)]
end Go.Proofs.YtdnpflmlonmgcaaGreatDoor
