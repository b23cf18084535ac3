/- Contracts and plain facts that the theorem rests on: TFresh, TItem, TNamed, THold, TRecord, TPart, TType, TShape, TTestable, TTest, TLetIf, TCall. -/
import Derived.Test.YtdnpflmlonmgcaaGreatDoorZH17
import Derived.Test.YtdnpflmlonmgcaaGreatDoorZH9
set_option linter.unusedSimpArgs false
set_option linter.unusedVariables false
namespace Go.Proofs.YtdnpflmlonmgcaaGreatDoor
open Go.RowKit

/-- a rule of names, by its function -/
structure NameF (F : FuncId) (kd : Nat) : Prop where
  enters : ∀ (args : Array Value) (w : World), (callFunc F args).run Tryz.prog w = .ok (.enter F args) w
  calls : ∀ (g : Nat) (ws : List Wd) (k d : Nat) (a b c e f : Value) (w : World), Stm w g ws k d a b c e f → ∀ x, ws[k]? = some x →
    Calls Tryz.prog F #[.pointer (some ⟨g, 0, none⟩)] w fun r w' => needR w g ws k d a b c e f (decide (x.kind = kd)) x.at_ (.string x.text) r w'
theorem name_rule : NameF 60 1 := ⟨fun _ _ => by simp [go_sem], fun g ws k d a b c e f w h x hx => name_any g ws k d a b c e f w h x hx⟩
theorem typeName_rule : NameF 83 2 := ⟨fun _ _ => by simp [go_sem], fun g ws k d a b c e f w h x hx => typeName_any g ws k d a b c e f w h x hx⟩

def freshOk (x : Wd) (kd : Nat) (ns : List ByteArray) : Bool := decide (x.kind = kd) && !hasS ns x.text
set_option maxRecDepth 100000 in
theorem fresh_any (NF : FuncId) (kd : Nat) (hN : NameF NF kd) (g : Nat) (ws : List Wd) (k d : Nat) (a b c e f : Value) (w : World) (h : Stm w g ws k d a b c e f) (x : Wd) (hx : ws[k]? = some x) (A : Option Addr) (cap : Nat) (ns : List ByteArray) (hl : ns.length ≤ 70000)
    (hc : 0 < ns.length → ∃ b o, A = some ⟨b, o, none⟩ ∧ b < w.heap.size ∧ ¬ b = g ∧ ∀ (j : Nat) (y : ByteArray), ns[j]? = some y → w.cell? ⟨b, o + j, none⟩ = some (.string y)) :
    Calls Tryz.prog 63 #[.pointer (some ⟨g, 0, none⟩), .func (.func NF) #[.pointer (some ⟨g, 0, none⟩)] #[], .slice A ns.length cap] w
      fun r w' => needR w g ws k d a b c e f (freshOk x kd ns) x.at_ (.string x.text) r w' := by
  have H := Lib.hid h
  have HX := Lib.hid hx
  have HC := Lib.hid hc
  have HN := Lib.hid hN
  have hF := hN.enters
  clear h hx hc hN
  go_enter Tryz.func63, Tryz.ntmps63
  go_wp2_with fail
  refine (HN.out.calls g ws k d a b c e f w H.out x HX.out).mono ?_
  intro r w1 hr
  by_cases hk : x.kind = kd
  · have hk2 : decide (x.kind = kd) = true := by simp [hk]
    rw [hk2] at hr
    obtain ⟨rfl, hp⟩ := hr
    have HP := Lib.hid hp
    have HK2 := Lib.hid hk2
    have hc1 : 0 < ns.length → ∃ b o, A = some ⟨b, o, none⟩ ∧ ∀ (j : Nat) (y : ByteArray), ns[j]? = some y → w1.cell? ⟨b, o + j, none⟩ = some (.string y) := fun h0 => by
      obtain ⟨b, o, hA, hb, hbg, hcell⟩ := HC.out h0
      exact ⟨b, o, hA, fun j y hy => (HP.out.kept.cell (p := ⟨b, o + j, none⟩) hb hbg).trans (hcell j y hy)⟩
    have HC1 := Lib.hid hc1
    clear hk hk2 hp hc1
    go_wp2_with fail
    refine (contains_any A cap ns x.text w1 hl HC1.out).mono ?_
    rintro r w2 ⟨rfl, rfl⟩
    by_cases hs : hasS ns x.text = true
    · have HS := Lib.hid hs
      rw [hs]
      clear hs
      go_wp2_with fail
      refine (failBehind_any 30 g ws k d a b c e f _ HP.out.stm x HX.out).mono ?_
      rintro r w3 ⟨rfl, hb3⟩
      exact And.intro rfl (needR_no (by rw [freshOk, HK2.out, HS.out]; rfl) rfl (HP.out.kept.then_below (hb3.mono HP.out.kept.size)))
    · have hs2 : hasS ns x.text = false := by simpa using hs
      have HS := Lib.hid hs2
      rw [hs2]
      clear hs hs2
      go_wp2_with fail
      go_ret
      exact needR_yes (by rw [freshOk, HK2.out, HS.out]; rfl) rfl HP.out
  · have hk2 : decide (x.kind = kd) = false := by simp [hk]
    rw [hk2] at hr
    obtain ⟨rfl, hp⟩ := hr
    exact And.intro rfl (needR_no (by rw [freshOk, hk2]; rfl) rfl hp)

def strs3 (l : List ByteArray) : List Value := l.map Value.string
theorem strs3_snoc (l : List ByteArray) (v : ByteArray) : strs3 l ++ [.string v] = strs3 (l ++ [v]) := by simp [strs3]
theorem info_string3 : (Tryz.prog.info? 9).map (fun i => (i.zero, i.size, i.bytes)) = some (some (.string ⟨#[]⟩), 1, 16) := by kernel_rfl
theorem own_strs {w : World} {base : Nat} {v : Value} {l : List ByteArray} (h : w.ownsRow base 9 1 v l.length (strs3 l)) (h0 : 0 < l.length) :
    ∃ q n, v = .slice (some ⟨q, 0, none⟩) l.length n ∧ base ≤ q ∧ q < w.heap.size ∧ ∀ (j : Nat) (x : ByteArray), l[j]? = some x → w.cell? ⟨q, j, none⟩ = some (.string x) := by
  obtain ⟨q, n, rfl, hb, hq⟩ := h.form h0
  refine ⟨q, n, rfl, hb, hq, fun j x hj => ?_⟩
  have := h.cells (g := q) rfl j (.string x) (by simp [strs3, hj])
  rwa [addr_lit, Nat.zero_add] at this

/-- items with names: what is under way. B0: the first of the five blocks that the literal captures -/
structure NamS (g : Nat) (ws : List Wd) (d : Nat) (a b c e : Value) (F NF : FuncId) (sg : ByteArray) (B0 : Nat) (w : World) (k : Nat) (nds : List Nd) (D M : Nat → Prop) (ns : List ByteArray) : Prop where
  ex : ∃ f nv, Stm w g ws k d a b c e f ∧ Nds w g f nds (fun i => D i ∧ i ≠ B0 + 4 ∧ nv.ownBlock ≠ some i) ∧ (∀ i, M i ↔ (Mut g f i ∨ i = B0 + 4 ∨ nv.ownBlock = some i)) ∧
    w.ownsRow (B0 + 5) 9 1 nv ns.length (strs3 ns) ∧ Blk w (B0 + 4) 22 #[nv] ∧ (∀ q, f.ownBlock = some q → q < B0 ∨ B0 + 5 ≤ q) ∧ (∀ q, nv.ownBlock = some q → f.ownBlock ≠ some q)
  b0 : Blk w B0 70 #[.pointer (some ⟨g, 0, none⟩)]
  b1 : Blk w (B0 + 1) 88 #[.func (.func NF) #[.pointer (some ⟨g, 0, none⟩)] #[]]
  b2 : Blk w (B0 + 2) 9 #[.string sg]
  b3 : Blk w (B0 + 3) 105 #[.func (.func F) #[.pointer (some ⟨g, 0, none⟩)] #[]]
  hg : g < B0
  len : ns.length ≤ k

section
variable {w w' : World} {g k d B0 : Nat} {ws : List Wd} {a b c e : Value} {F NF : FuncId} {sg : ByteArray} {nds : List Nd} {D D' M : Nat → Prop} {ns : List ByteArray}
theorem NamS.stable {P : Nat → Prop} (h : NamS g ws d a b c e F NF sg B0 w k nds D M ns) (hk : Kept P w w') (hp : ∀ i, i < w.heap.size → P i → B0 + 5 ≤ i ∧ ¬ M i ∧ ¬ D i) : NamS g ws d a b c e F NF sg B0 w' k nds D M ns := by
  obtain ⟨⟨f, nv, h1, h2, h3, h4, h5, h6, h7⟩, b0, b1, b2, b3, hg, hlen⟩ := h
  have hk2 : Kept (fun i => B0 + 5 ≤ i ∧ ¬ M i ∧ ¬ D i) w w' := hk.mono hp
  refine ⟨⟨f, nv, h1.kept hk2 (fun i hi h => by omega), h2.kept2 hk2 (fun i _ h hd => h.2.2 hd.1) (fun q hq h => h.2.1 ((h3 q).2 (.inl (.inr hq)))), h3, own_kept_ne h4 hk2 (fun q hq h => h.2.1 ((h3 q).2 (.inr (.inr hq)))), hk2.blk h5 (fun h => by omega), h6, h7⟩,
    hk2.blk b0 (fun h => by omega), hk2.blk b1 (fun h => by omega), hk2.blk b2 (fun h => by omega), hk2.blk b3 (fun h => by omega), hg, hlen⟩
theorem NamS.mono (h : NamS g ws d a b c e F NF sg B0 w k nds D M ns) (hd : ∀ i, i < w.heap.size → D i → D' i) : NamS g ws d a b c e F NF sg B0 w k nds D' M ns := by
  obtain ⟨⟨f, nv, h1, h2, h3⟩, b0, b1, b2, b3, hg, hlen⟩ := h
  exact ⟨⟨f, nv, h1, h2.mono (fun i hi h => ⟨hd i hi h.1, h.2⟩), h3⟩, b0, b1, b2, b3, hg, hlen⟩
theorem NamS.msize {i : Nat} (h : NamS g ws d a b c e F NF sg B0 w k nds D M ns) (hm : M i) : i < w.heap.size := by
  obtain ⟨⟨f, nv, h1, h2, h3, h4, h5, h6, h7⟩, _⟩ := h
  rcases (h3 i).1 hm with (rfl | h) | rfl | h
  · exact h1.lt
  · exact (h2.own_lt h).2
  · exact h5.lt
  · exact (h4.lt i h).2
theorem NamS.stp {k' : Nat} (h : NamS g ws d a b c e F NF sg B0 w k nds D M ns) (hw : ∀ f, Stm w g ws k d a b c e f → Stm w' g ws k' d a b c e f) (hk : Kept (fun i => i = g) w w') (hkk : k ≤ k') : NamS g ws d a b c e F NF sg B0 w' k' nds D M ns := by
  obtain ⟨⟨f, nv, h1, h2, h3, h4, h5, h6, h7⟩, b0, b1, b2, b3, hg, hlen⟩ := h
  exact ⟨⟨f, nv, hw f h1, h2.kept hk (fun _ _ h => h), h3, own_kept_ne h4 hk (fun q hq e => by have := (h4.lt q hq).1; omega), hk.blk h5 (by omega), h6, h7⟩,
    hk.blk b0 (by omega), hk.blk b1 (by omega), hk.blk b2 (by omega), hk.blk b3 (by omega), hg, by omega⟩
end
end Go.Proofs.YtdnpflmlonmgcaaGreatDoor
namespace Go.Proofs.YtdnpflmlonmgcaaGreatDoor
open Go.RowKit

theorem itemN_no {ws : List Wd} {kd : Nat} {sg : ByteArray} {R : Nat → List Nd → Res} {s : List ByteArray} {k : Nat} {nds : List Nd} (h : freshOk (tok ws k) kd s = false) : itemN ws kd sg R s k nds = .error ((tok ws k).at_, 30) := by
  rw [itemN]
  by_cases h1 : (tok ws k).kind = kd
  · rw [if_pos h1]
    have : hasS s (tok ws k).text = true := by simpa [freshOk, h1] using h
    rw [if_pos this]
  · rw [if_neg h1]
theorem itemN_yes {ws : List Wd} {kd : Nat} {sg : ByteArray} {R : Nat → List Nd → Res} {s : List ByteArray} {k : Nat} {nds : List Nd} (h : freshOk (tok ws k) kd s = true) : itemN ws kd sg R s k nds = match behindR ws sg R (k + 1) nds with
    | .error x => .error x
    | .ok (v, k', nds') => .ok (v, k', nds', s ++ [(tok ws k).text]) := by
  rw [itemN]
  have h2 : (tok ws k).kind = kd ∧ hasS s (tok ws k).text = false := by simpa [freshOk] using h
  rw [if_pos h2.1, if_neg (by rw [h2.2]; simp)]
  generalize behindR ws sg R (k + 1) nds = q
  rcases q with x | ⟨v, k', nds'⟩ <;> rfl

/-- behind the append of a name -/
structure NamA (g : Nat) (ws : List Wd) (d : Nat) (a b c e f : Value) (F NF : FuncId) (sg : ByteArray) (B0 : Nat) (w w' : World) (k : Nat) (nds : List Nd) (D M : Nat → Prop) (nv nv' : Value) (ns : List ByteArray) : Prop where
  stm : Stm w' g ws k d a b c e f
  nds : Nds w' g f nds (fun i => D i ∧ i ≠ B0 + 4 ∧ nv'.ownBlock ≠ some i)
  own : w'.ownsRow (B0 + 5) 9 1 nv' ns.length (strs3 ns)
  blk : Blk w' (B0 + 4) 22 #[nv']
  b0 : Blk w' B0 70 #[.pointer (some ⟨g, 0, none⟩)]
  b1 : Blk w' (B0 + 1) 88 #[.func (.func NF) #[.pointer (some ⟨g, 0, none⟩)] #[]]
  b2 : Blk w' (B0 + 2) 9 #[.string sg]
  b3 : Blk w' (B0 + 3) 105 #[.func (.func F) #[.pointer (some ⟨g, 0, none⟩)] #[]]
  kept : Kept M w w'
  new_ : ∀ q, nv'.ownBlock = some q → nv.ownBlock = some q ∨ w.heap.size ≤ q
theorem nam_app {g : Nat} {ws : List Wd} {d : Nat} {a b c e f : Value} {F NF : FuncId} {sg : ByteArray} {B0 : Nat} {w w2 w5 : World} {k : Nat} {nds : List Nd} {D M : Nat → Prop} {nv : Value} {ns : List ByteArray} {x : ByteArray} {gg cap : Nat}
    (h2 : Nds w g f nds (fun i => D i ∧ i ≠ B0 + 4 ∧ nv.ownBlock ≠ some i)) (h3 : ∀ i, M i ↔ (Mut g f i ∨ i = B0 + 4 ∨ nv.ownBlock = some i)) (h4 : w.ownsRow (B0 + 5) 9 1 nv ns.length (strs3 ns)) (h5 : Blk w (B0 + 4) 22 #[nv])
    (h6 : ∀ q, f.ownBlock = some q → q < B0 ∨ B0 + 5 ≤ q) (h7 : ∀ q, nv.ownBlock = some q → f.ownBlock ≠ some q)
    (b0 : Blk w B0 70 #[.pointer (some ⟨g, 0, none⟩)]) (b1 : Blk w (B0 + 1) 88 #[.func (.func NF) #[.pointer (some ⟨g, 0, none⟩)] #[]]) (b2 : Blk w (B0 + 2) 9 #[.string sg]) (b3 : Blk w (B0 + 3) 105 #[.func (.func F) #[.pointer (some ⟨g, 0, none⟩)] #[]])
    (hg : g < B0) (hp : Stp w w2 g ws k d a b c e f) (hgr : (w2.alloc (.cells #[.string x] 9)).grownBy w5 nv.ownBlock)
    (ho : w5.ownsRow (B0 + 5) 9 1 (.slice (some ⟨gg, 0, none⟩) (ns.length + 1) cap) (ns.length + 1) (strs3 ns ++ [.string x])) (hat : nv.ownBlock = some gg ∨ gg = w2.heap.size + 1) :
    NamA g ws d a b c e f F NF sg B0 w (w5.setCell ⟨B0 + 4, 0, none⟩ (.slice (some ⟨gg, 0, none⟩) (ns.length + 1) cap)) k nds D M nv (.slice (some ⟨gg, 0, none⟩) (ns.length + 1) cap) (ns ++ [x]) := by
  have hsz1 := hp.kept.size
  have hb5 := h5.lt
  have hk2 : Kept (fun i => nv.ownBlock = some i) w2 w5 := ((Kept.refl _ w2).alloc _).grown hgr (fun i _ h => h)
  have hk3 : Kept (fun i => i = B0 + 4) w5 (w5.setCell ⟨B0 + 4, 0, none⟩ (.slice (some ⟨gg, 0, none⟩) (ns.length + 1) cap)) := (Kept.refl (fun i => i = B0 + 4) w5).setCell (p := ⟨B0 + 4, 0, none⟩) (fun _ => rfl) _
  have hnv : ∀ i, nv.ownBlock = some i → B0 + 5 ≤ i := fun i h => (h4.lt i h).1
  have hgg : B0 + 5 ≤ gg := (ho.lt gg rfl).1
  have hn2 := h2.kept hp.kept (fun _ _ h => h)
  have hn3 : Nds w2 g f nds (fun i => (D i ∧ i ≠ B0 + 4 ∧ nv.ownBlock ≠ some i) ∧ (Value.slice (some ⟨gg, 0, none⟩) (ns.length + 1) cap).ownBlock ≠ some i) := hn2.mono fun i hi hd => ⟨hd, fun e => by
    have hgi : gg = i := by simpa [Value.ownBlock] using e
    rcases hat with h | h
    · exact hd.2.2 (by rw [h, hgi])
    · omega⟩
  have hn4 := (hn3.kept2 hk2 (fun i _ h hd => hd.1.2.2 h) (fun q hq h => h7 q h hq)).kept2 hk3 (fun i _ h hd => hd.1.2.1 h) (fun q hq h => by have := h6 q hq; omega)
  have hkb : ∀ {t : TypeId} {cs : Array Value} (i : Nat), Blk w i t cs → i ≠ g → i < B0 + 4 → Blk (w5.setCell ⟨B0 + 4, 0, none⟩ (.slice (some ⟨gg, 0, none⟩) (ns.length + 1) cap)) i t cs := fun i h h1 h2 =>
    hk3.blk (hk2.blk (hp.kept.blk h h1) (fun h => by have := hnv i h; omega)) (fun h => by omega)
  refine ⟨(hp.stm.kept hk2 (fun i hi h => by have := hnv i h; omega)).kept hk3 (fun i hi h => by omega), hn4.mono fun i _ hd => ⟨hd.1.1, hd.1.2.1, hd.2⟩, ?_, ?_, hkb _ b0 (by omega) (by omega), hkb _ b1 (by omega) (by omega), hkb _ b2 (by omega) (by omega), hkb _ b3 (by omega) (by omega), ?_, ?_⟩
  · rw [strs3_snoc] at ho
    rw [List.length_append, List.length_singleton]
    exact own_kept_ne ho hk3 (fun q hq h => by
      have hgq : gg = q := by simpa [Value.ownBlock] using hq
      omega)
  · exact (hk2.blk (hp.kept.blk h5 (by omega)) (fun h => by have := hnv _ h; omega)).set_ 0 _
  · refine ((hp.kept.mono (P' := M) fun i _ h => (h3 i).2 (.inl (.inl h))).trans hk2 (fun i _ h => (h3 i).2 (.inr (.inr h)))).trans hk3 (fun i _ h => (h3 i).2 (.inr (.inl h)))
  · intro q hq
    have hgq : gg = q := by simpa [Value.ownBlock] using hq
    rcases hat with h | h
    · exact .inl (by rw [h, hgq])
    · exact .inr (by omega)
theorem nam_out {g : Nat} {ws : List Wd} {d : Nat} {a b c e f : Value} {F NF : FuncId} {sg : ByteArray} {B0 : Nat} {w w6 w7 : World} {k k' : Nat} {nds nds' : List Nd} {D M : Nat → Prop} {nv nv' : Value} {ns : List ByteArray}
    (h1 : f.ownBlock = f.ownBlock ∧ g < w.heap.size) (hf : ∀ q, f.ownBlock = some q → q < w.heap.size) (h3 : ∀ i, M i ↔ (Mut g f i ∨ i = B0 + 4 ∨ nv.ownBlock = some i)) (h6 : ∀ q, f.ownBlock = some q → q < B0 ∨ B0 + 5 ≤ q) (h7 : ∀ q, nv.ownBlock = some q → f.ownBlock ≠ some q) (hg : g < B0) (hlen : ns.length ≤ k')
    (hb5 : B0 + 4 < w.heap.size) (hA : NamA g ws d a b c e f F NF sg B0 w w6 k nds D M nv nv' ns) (hM : Mde w6 w7 g ws k' d a b c e f nds' (fun i => D i ∧ i ≠ B0 + 4 ∧ nv'.ownBlock ≠ some i)) :
    ∃ M', NamS g ws d a b c e F NF sg B0 w7 k' nds' (Dn D w) M' ns ∧ (∀ i, i < w.heap.size → M' i → M i) ∧ Kept M w w7 := by
  obtain ⟨⟨f', hs, hn, ht⟩, hk⟩ := hM
  have hsz := hA.kept.size
  have hgb : ∀ i, i < w6.heap.size → i ≠ g → f.ownBlock ≠ some i → ¬ Mut g f i := fun i _ h1 h2 h => by
    rcases h with h | h
    · exact h1 h
    · exact h2 h
  have hno : ∀ q, nv'.ownBlock = some q → B0 + 5 ≤ q ∧ q < w6.heap.size := fun q hq => hA.own.lt q hq
  have hkb : ∀ {t : TypeId} {cs : Array Value} (i : Nat), Blk w6 i t cs → B0 ≤ i → i < B0 + 5 → Blk w7 i t cs := fun i h h1 h2 => hk.blk h fun hm => by
    rcases hm with hm | hm
    · omega
    · have := h6 i hm; omega
  refine ⟨fun i => Mut g f' i ∨ i = B0 + 4 ∨ nv'.ownBlock = some i, ⟨⟨f', nv', hs, hn.mono ?_, fun _ => Iff.rfl, own_kept_ne hA.own hk ?_, hkb _ hA.blk (by omega) (by omega), ?_, ?_⟩, hkb _ hA.b0 (by omega) (by omega), hkb _ hA.b1 (by omega) (by omega), hkb _ hA.b2 (by omega) (by omega), hkb _ hA.b3 (by omega) (by omega), hg, hlen⟩, ?_, ?_⟩
  · rintro i _ (hd | hd)
    · exact ⟨.inl hd.1, hd.2⟩
    · refine ⟨.inr (by omega), by omega, fun h => ?_⟩
      have := (hno i h).2; omega
  · intro q hq hm
    have h1 := hno q hq
    rcases hm with hm | hm
    · omega
    · rcases hA.new_ q hq with h | h
      · exact h7 q h hm
      · have := hf q hm; omega
  · intro q hq
    by_cases hq6 : q < w6.heap.size
    · rcases ht q hq6 (.inr hq) with h | h
      · omega
      · exact h6 q h
    · omega
  · intro q hq hf'
    have h1 := hno q hq
    rcases ht q h1.2 (.inr hf') with h | h
    · omega
    · rcases hA.new_ q hq with h2 | h2
      · exact h7 q h2 h
      · have := hf q h; omega
  · rintro i hi (hm | hm | hm)
    · exact (h3 i).2 (.inl (ht i (by omega) hm))
    · exact (h3 i).2 (.inr (.inl hm))
    · rcases hA.new_ i hm with h | h
      · exact (h3 i).2 (.inr (.inr h))
      · omega
  · exact hA.kept.trans hk fun i _ h => (h3 i).2 (.inl h)

set_option maxRecDepth 100000 in
set_option maxHeartbeats 4000000 in
theorem item_any (F NF : FuncId) (kd : Nat) (hN : NameF NF kd) (hkd : kd ≠ 7) (g : Nat) (ws : List Wd) (hE : EndW ws) (d : Nat) (a b c e : Value) (sg : ByteArray) (B0 : Nat) (R : Nat → List Nd → Res) (hR : Rule F g ws d a b c e R (OkP ws)) (hG : GoodR ws R)
    (w : World) (k : Nat) (nds : List Nd) (D M : Nat → Prop) (ns : List ByteArray) (h : NamS g ws d a b c e F NF sg B0 w k nds D M ns) (hok : OkP ws k nds) :
    Calls Tryz.prog 98 #[.pointer (some ⟨B0 + 4, 0, none⟩), .pointer (some ⟨B0, 0, none⟩), .pointer (some ⟨B0 + 1, 0, none⟩), .pointer (some ⟨B0 + 2, 0, none⟩), .pointer (some ⟨B0 + 3, 0, none⟩)] w
      fun r w' => IOut (NamS g ws d a b c e F NF sg B0) w D M (itemN ws kd sg R ns k nds) r w' := by
  obtain ⟨i0, hi, hz0, hz1, hz2⟩ := info_parts info_string3
  obtain ⟨⟨f, nv, h1, h2, h3, h4, h5, h6, h7⟩, b0, b1, b2, b3, hg, hlen⟩ := h
  obtain ⟨NA, ncap, rfl⟩ : ∃ A n, nv = .slice A ns.length n := by
    rcases h4.2 with ⟨hv, h0⟩ | ⟨q, cap, cur, hv, _⟩
    · exact ⟨none, 0, by rw [hv, h0]⟩
    · exact ⟨_, _, hv⟩
  have hlt := hok.lt
  have hle := h1.le
  have hsz5 := h5.lt
  have hc : 0 < ns.length → ∃ b o, NA = some ⟨b, o, none⟩ ∧ b < w.heap.size ∧ ¬ b = g ∧ ∀ (j : Nat) (y : ByteArray), ns[j]? = some y → w.cell? ⟨b, o + j, none⟩ = some (.string y) := fun h0 => by
    obtain ⟨q, n, hv, hbq, hq, hcell⟩ := own_strs h4 h0
    cases hv
    exact ⟨q, 0, rfl, hq, by omega, fun j y hy => by rw [Nat.zero_add]; exact hcell j y hy⟩
  have HI := Lib.hid hi
  have HZ0 := Lib.hid hz0
  have HZ1 := Lib.hid hz1
  have HZ2 := Lib.hid hz2
  have H1 := Lib.hid h1
  have H2 := Lib.hid h2
  have H3 := Lib.hid h3
  have H4 := Lib.hid h4
  have H5 := Lib.hid h5
  have H6 := Lib.hid h6
  have H7 := Lib.hid h7
  have P0 := Lib.hid b0
  have P1 := Lib.hid b1
  have P2 := Lib.hid b2
  have P3 := Lib.hid b3
  have HC := Lib.hid hc
  have HOK := Lib.hid hok
  have HN := Lib.hid hN
  have HR := Lib.hid hR
  have HE := Lib.hid hE
  have HG := Lib.hid hG
  have hS : w.drew.cell? ⟨B0 + 4, 0, none⟩ = some (.slice NA ns.length ncap) ∧ w.drew.cell? ⟨B0, 0, none⟩ = some (.pointer (some ⟨g, 0, none⟩)) ∧ w.drew.cell? ⟨B0 + 1, 0, none⟩ = some (.func (.func NF) #[.pointer (some ⟨g, 0, none⟩)] #[]) := ⟨h5.cell 0, b0.cell 0, b1.cell 0⟩
  clear hi hz0 hz1 hz2 h1 h2 h3 h4 h5 h6 h7 b0 b1 b2 b3 hc hok hN hR hE hG
  go_enter Tryz.func98, Tryz.ntmps98
  go_wp2_with fail
  refine K_start 7 (fun u => u.cell? ⟨B0 + 4, 0, none⟩ = some (.slice NA ns.length ncap) ∧ u.cell? ⟨B0, 0, none⟩ = some (.pointer (some ⟨g, 0, none⟩)) ∧ u.cell? ⟨B0 + 1, 0, none⟩ = some (.func (.func NF) #[.pointer (some ⟨g, 0, none⟩)] #[])) (by kernel_rfl) ?_
  refine K_take (i := 0) (v := ?_) rfl (by kernel_rfl) (by kernel_rfl) (by kernel_rfl) (by kernel_rfl) (by kernel_rfl) (fun _ _ _ h => h) hS (by rfl) ?_ ?_
  rotate_left
  · intro u hu
    obtain ⟨g1, g2, g3⟩ := hu
    go_simp
    try with_reducible rfl
  simp only [Act.put, List.setIfInBounds_toArray, List.set_cons_zero, List.set_cons_succ]
  refine K_take (i := 1) (v := ?_) rfl (by kernel_rfl) (by kernel_rfl) (by kernel_rfl) (by kernel_rfl) (by kernel_rfl) (fun _ _ _ h => h) hS (by rfl) ?_ ?_
  rotate_left
  · intro u hu
    obtain ⟨g1, g2, g3⟩ := hu
    go_simp
    try with_reducible rfl
  simp only [Act.put, List.setIfInBounds_toArray, List.set_cons_zero, List.set_cons_succ]
  refine K_take (i := 2) (v := ?_) rfl (by kernel_rfl) (by kernel_rfl) (by kernel_rfl) (by kernel_rfl) (by kernel_rfl) (fun _ _ _ h => h) hS (by rfl) ?_ ?_
  rotate_left
  · intro u hu
    obtain ⟨g1, g2, g3⟩ := hu
    go_simp
    try with_reducible rfl
  simp only [Act.put, List.setIfInBounds_toArray, List.set_cons_zero, List.set_cons_succ]
  refine K_take (i := 3) (v := ?_) rfl (by kernel_rfl) (by kernel_rfl) (by kernel_rfl) (by kernel_rfl) (by kernel_rfl) (fun _ _ _ h => h) hS (by rfl) ?_ ?_
  rotate_left
  · intro u hu
    obtain ⟨g1, g2, g3⟩ := hu
    go_simp
    try with_reducible rfl
  simp only [Act.put, List.setIfInBounds_toArray, List.set_cons_zero, List.set_cons_succ]
  refine K_one (i := 4) (by kernel_rfl) rfl (fun K hK => ?_)
  go_simp
  refine (fresh_any NF kd HN.out g ws k d a b c e f w.drew (H1.out.drewN 1) _ (tok_at hlt) NA ncap ns (by omega) HC.out).mono ?_
  intro r w2 hr
  by_cases hs : freshOk (tok ws k) kd ns = true
  · rw [hs] at hr
    obtain ⟨rfl, hp'⟩ := hr
    have hp : Stp w w2 g ws (k + 1) d a b c e f := ⟨hp'.stm, ⟨hp'.kept.os, hp'.kept.tape, hp'.kept.output, hp'.kept.size, hp'.kept.block⟩⟩
    have q5 := hp.kept.blk H5.out (by omega)
    have q0 := hp.kept.blk P0.out (by omega)
    have q1 := hp.kept.blk P1.out (by omega)
    refine hK _ _ (fun _ => ⟨q5.cell 0, q0.cell 0, q1.cell 0⟩) ?_
    clear hK K hS
    have hk1 : k + 1 < ws.length := by
      refine kind_next HE.out hlt (kd := kd) ?_ hkd
      have := hs
      simp [freshOk] at this
      exact this.1
    have ho2 := own_kept_ne H4.out hp.kept (fun q hq h => by have := (H4.out.lt q hq).1; omega)
    have hsz2 := hp.kept.size
    have HS := Lib.hid hs
    have HP := Lib.hid hp
    have HO2 := Lib.hid ho2
    have Q5 := Lib.hid q5
    clear hs hp hp' q5 q0 q1 ho2
    refine K_one (i := 5) (by kernel_rfl) rfl (fun K hK => ?_)
    go_simp
    refine hK _ _ (fun _ => ?_) ?_
    · have e5 := (Q5.out.alloc (.cells #[.string (tok ws k).text] 9)).cell 0
      have e0 := ((HP.out.kept.blk P0.out (by omega)).alloc (.cells #[.string (tok ws k).text] 9)).cell 0
      have e1 := ((HP.out.kept.blk P1.out (by omega)).alloc (.cells #[.string (tok ws k).text] 9)).cell 0
      exact ⟨e5, e0, e1⟩
    clear hK K
    refine K_one (i := 6) (by kernel_rfl) rfl (fun K hK => ?_)
    refine step_append_lies _ (by rfl) _ _ _ (by rfl) (B0 + 5) 9 i0 _ 1 16 Tryz.underlying22 HI.out HZ0.out HZ1.out HZ2.out rfl (by decide) (.slice NA ns.length ncap) ns.length (strs3 ns) (by rfl) (HO2.out.alloc _) ⟨w2.heap.size, 0, none⟩ 1 1 [.string (tok ws k).text] (by rfl) (by rfl) (World.news_of_block (cs := #[.string (tok ws k).text]) (t := 9) (fr := (0, 0)) (heap_alloc_new w2 _)) (by simp [Value.oneCell']) (by omega) (by simp only [maxLen]; omega) (by omega) (by simp; omega) (w2.heap.size + 1) (by simp) ?_
    intro gg cap w5 hown5 hgrow5 hat5 hlt5
    have hne : ∀ q, (Value.slice NA ns.length ncap).ownBlock = some q → q ≠ B0 + 4 := fun q hq => by have := (H4.out.lt q hq).1; omega
    have hb2 : B0 + 4 < w2.heap.size := Q5.out.lt
    have e5 : w5.cell? ⟨B0 + 4, 0, none⟩ = some (.slice NA ns.length ncap) := (hgrow5.cell_far ⟨B0 + 4, 0, none⟩ (by simp; omega) (fun h => hne _ h.symm rfl)).trans ((Q5.out.alloc _).cell 0)
    have x5 : w5.frozen? ⟨B0 + 4, 0, none⟩ = false := (hgrow5.frozen_far ⟨B0 + 4, 0, none⟩ (by simp; omega) (fun h => hne _ h.symm rfl)).trans ((Q5.out.alloc _).frozen 0)
    have e0 : w5.cell? ⟨B0, 0, none⟩ = some (.pointer (some ⟨g, 0, none⟩)) := (hgrow5.cell_far ⟨B0, 0, none⟩ (by simp; omega) (fun h => by have h2 : B0 + 5 ≤ B0 := (H4.out.lt _ h.symm).1; omega)).trans (((HP.out.kept.blk P0.out (by omega)).alloc _).cell 0)
    have e1 : w5.cell? ⟨B0 + 1, 0, none⟩ = some (.func (.func NF) #[.pointer (some ⟨g, 0, none⟩)] #[]) := (hgrow5.cell_far ⟨B0 + 1, 0, none⟩ (by simp; omega) (fun h => by have h2 : B0 + 5 ≤ B0 + 1 := (H4.out.lt _ h.symm).1; omega)).trans (((HP.out.kept.blk P1.out (by omega)).alloc _).cell 0)
    refine hK _ _ (fun _ => ⟨e5, e0, e1⟩) ?_
    clear hK K
    have HA := Lib.hid (nam_app (F := F) (NF := NF) (sg := sg) H2.out H3.out H4.out H5.out H6.out H7.out P0.out P1.out P2.out P3.out hg HP.out hgrow5 hown5 hat5)
    clear hown5 hgrow5 hat5
    refine K_one (i := 7) (by kernel_rfl) rfl (fun K hK => ?_)
    go_simp
    refine hK _ _ (fun h => absurd h (by decide)) ?_
    clear hK K e5 x5 e0 e1
    refine K_done (by kernel_rfl) ?_
    generalize hw6 : w5.setCell ⟨B0 + 4, 0, none⟩ (.slice (some ⟨gg, 0, none⟩) (ns.length + 1) cap) = w6 at HA ⊢
    clear hw6
    have z0 := HA.out.b0.cell 0
    have z2 := HA.out.b2.cell 0
    have z3 := HA.out.b3.cell 0
    simp at z0 z2 z3
    go_wp2_with fail
    have hok1 : OkP ws (k + 1) nds := ⟨hk1, HOK.out.room, HOK.out.ok⟩
    refine (behind_any F g ws d a b c e R (OkP ws) HR.out sg w6 f (k + 1) nds _ HA.out.stm HA.out.nds hk1 (fun hs => ⟨sees_next HE.out hk1 hs, HOK.out.room, HOK.out.ok⟩)).mono ?_
    intro r w7 ho
    rcases hres : behindR ws sg R (k + 1) nds with ⟨at_, er⟩ | ⟨v, k', nds'⟩
    · rw [hres] at ho
      obtain ⟨rfl, hk7⟩ := ho
      refine And.intro rfl ?_
      rw [itemN_yes HS.out, hres]
      exact ⟨rfl, HA.out.kept.trans hk7 fun i _ h => (H3.out i).2 (.inl h)⟩
    · rw [hres] at ho
      obtain ⟨rfl, hm7⟩ := ho
      have hkk : k + 1 < k' := (behindR_ok HE.out HG.out sg _ _ _ _ _ hok1 hres).1
      have HRES := Lib.hid hres
      have HM7 := Lib.hid (nam_out ⟨rfl, H1.out.lt⟩ (fun q hq => (H2.out.own_lt hq).2) H3.out H6.out H7.out hg (by rw [List.length_append, List.length_singleton]; omega) hsz5 HA.out hm7)
      clear hres hm7
      go_wp2_with fail
      go_ret
      rw [itemN_yes HS.out, HRES.out]
      exact ⟨rfl, HM7.out⟩
  · have hs2 : freshOk (tok ws k) kd ns = false := by simpa using hs
    rw [hs2] at hr
    obtain ⟨rfl, hp⟩ := hr
    refine And.intro rfl ?_
    rw [itemN_no hs2]
    have hp2 : Kept (fun i => i = g) w w2 := ⟨hp.os, hp.tape, hp.output, hp.size, hp.block⟩
    exact ⟨rfl, hp2.mono fun i _ h => (H3.out i).2 (.inl (.inl h))⟩
end Go.Proofs.YtdnpflmlonmgcaaGreatDoor
namespace Go.Proofs.YtdnpflmlonmgcaaGreatDoor
open Go.RowKit

def NOut (w : World) (g : Nat) (ws : List Wd) (d : Nat) (a b c e f : Value) (D : Nat → Prop) (res : LRes3) (r : Ending) (w' : World) : Prop :=
  match res with
  | .ok (l, k', nds', ns) => ∃ nv lv, r = .returned (.tuple #[nv, lv]) ∧ MdeL w w' g ws k' d a b c e f nds' D nv lv ns l
  | .error (at_, er) => r = .panicked (faultP at_ er) ∧ Kept (Mut g f) w w'

theorem item_rule (F NF : FuncId) (kd : Nat) (hN : NameF NF kd) (hkd : kd ≠ 7) (g : Nat) (ws : List Wd) (hE : EndW ws) (d : Nat) (a b c e : Value) (sg : ByteArray) (B0 : Nat) (R : Nat → List Nd → Res) (hR : Rule F g ws d a b c e R (OkP ws)) (hG : GoodR ws R) (hgB : g < B0) :
    ItemS (List ByteArray) 98 #[.pointer (some ⟨B0 + 4, 0, none⟩), .pointer (some ⟨B0, 0, none⟩), .pointer (some ⟨B0 + 1, 0, none⟩), .pointer (some ⟨B0 + 2, 0, none⟩), .pointer (some ⟨B0 + 3, 0, none⟩)]
      g ws (B0 + 5) (NamS g ws d a b c e F NF sg B0) (itemN ws kd sg R) (OkP ws) where
  enters := fun _ _ => by simp [go_sem]
  stable := fun h hk hp => h.stable hk hp
  mono := fun h hd => h.mono hd
  msize := fun h hm => h.msize hm
  take := by
    intro w k nds D M s t h hk
    obtain ⟨⟨f, nv, h1, h2, h3, h4, h5, h6, h7⟩, b0, b1, b2, b3, hg, hlen⟩ := h
    refine (take_any g ws k d a b c e f w h1 _ (tok_at hk) t).mono ?_
    rintro r w' ⟨rfl, hp⟩
    have hadv : k ≤ adv (tok ws k) t k := by rw [adv]; split <;> omega
    exact ⟨rfl, hp.kept.mono (fun i _ h => (h3 i).2 (.inl (.inl h))), ⟨⟨f, nv, hp.stm, h2.kept hp.kept (fun _ _ h => h), h3, own_kept_ne h4 hp.kept (fun q hq e => by have := (h4.lt q hq).1; omega), hp.kept.blk h5 (by omega), h6, h7⟩,
      hp.kept.blk b0 (by omega), hp.kept.blk b1 (by omega), hp.kept.blk b2 (by omega), hp.kept.blk b3 (by omega), hg, by omega⟩⟩
  full := by
    intro w k nds D M s n m h hk hnm
    obtain ⟨⟨f, nv, h1, h2, h3, _⟩, _⟩ := h
    exact (room_full n m hnm g ws k d a b c e f w h1 _ (tok_at hk)).mono fun _ _ h => ⟨h.1, Kept.of_below h.2 _⟩
  calls := fun w k nds D M s h hok => item_any F NF kd hN hkd g ws hE d a b c e sg B0 R hR hG w k nds D M s h hok
theorem item_ok {ws : List Wd} (hE : EndW ws) {kd : Nat} {sg : ByteArray} {R : Nat → List Nd → Res} (hG : GoodR ws R) (hkd : kd ≠ 7) : OkS ws (itemN ws kd sg R) (OkP ws) where
  lt := fun _ _ h => h.lt
  next := fun _ _ _ h hs => ⟨sees_next hE h.lt hs, h.room, h.ok⟩
  item := by
    intro s k nds v k' nds' s' h0 h
    by_cases hs : freshOk (tok ws k) kd s = true
    · rw [itemN_yes hs] at h
      have hk : (tok ws k).kind = kd := by
        have := hs
        simp [freshOk] at this
        exact this.1
      split at h
      · cases h
      · rename_i v1 k1 nds1 hr
        simp at h
        obtain ⟨rfl, rfl, rfl, rfl⟩ := h
        exact (behindR_ok hE hG sg _ _ _ _ _ ⟨kind_next hE h0.lt hk hkd, h0.room, h0.ok⟩ hr).2.1
    · rw [itemN_no (by simpa using hs)] at h
      cases h

set_option maxRecDepth 100000 in
set_option maxHeartbeats 4000000 in
theorem named_any (F NF : FuncId) (kd : Nat) (hN : NameF NF kd) (hkd : kd ≠ 7) (g : Nat) (ws : List Wd) (hE : EndW ws) (d : Nat) (a b c e : Value) (sg : ByteArray) (R : Nat → List Nd → Res) (hR : Rule F g ws d a b c e R (OkP ws)) (hG : GoodR ws R)
    (w : World) (f : Value) (k : Nat) (nds : List Nd) (D : Nat → Prop) (h : Stm w g ws k d a b c e f) (hn : Nds w g f nds D) (hok : OkP ws k nds) :
    Calls Tryz.prog 87 #[.pointer (some ⟨g, 0, none⟩), .func (.func NF) #[.pointer (some ⟨g, 0, none⟩)] #[], .string sg, .func (.func F) #[.pointer (some ⟨g, 0, none⟩)] #[]] w
      fun r w' => NOut w g ws d a b c e f D (namedR ws kd sg R k nds) r w' := by
  have H := Lib.hid h
  have HN := Lib.hid hn
  have HOK := Lib.hid hok
  have HNF := Lib.hid hN
  have HR := Lib.hid hR
  have HG := Lib.hid hG
  have HE := Lib.hid hE
  have hg := h.lt
  have hmf : ∀ (fn : Fn) (first cap : Array Value) (w : World), (Instr.makeFunc fn first cap).run Tryz.prog w = .ok (.func fn first cap) w := fun _ _ _ _ => rfl
  clear h hn hok hN hR hG hE
  go_enter Tryz.func87, Tryz.ntmps87
  go_wp2_with fail
  have hfl : ∀ q, f.ownBlock = some q → q < w.heap.size := fun q hq => (HN.out.own_lt hq).2
  generalize hB : w.heap.size = B0 at hg hfl ⊢
  have e0 := Blk.new w 70 #[.pointer (some ⟨g, 0, none⟩)]
  have hkA := (((((Kept.refl (fun _ => False) w).alloc (.cells #[.pointer (some ⟨g, 0, none⟩)] 70)).alloc (.cells #[.func (.func NF) #[.pointer (some ⟨g, 0, none⟩)] #[]] 88)).alloc (.cells #[.string sg] 9)).alloc (.cells #[.func (.func F) #[.pointer (some ⟨g, 0, none⟩)] #[]] 105)).alloc (.cells #[.slice none 0 0] 22)
  have e1 := Blk.new (w.alloc (.cells #[.pointer (some ⟨g, 0, none⟩)] 70)) 88 #[.func (.func NF) #[.pointer (some ⟨g, 0, none⟩)] #[]]
  have e2 := Blk.new ((w.alloc (.cells #[.pointer (some ⟨g, 0, none⟩)] 70)).alloc (.cells #[.func (.func NF) #[.pointer (some ⟨g, 0, none⟩)] #[]] 88)) 9 #[.string sg]
  have e3 := Blk.new (((w.alloc (.cells #[.pointer (some ⟨g, 0, none⟩)] 70)).alloc (.cells #[.func (.func NF) #[.pointer (some ⟨g, 0, none⟩)] #[]] 88)).alloc (.cells #[.string sg] 9)) 105 #[.func (.func F) #[.pointer (some ⟨g, 0, none⟩)] #[]]
  have e4 := Blk.new ((((w.alloc (.cells #[.pointer (some ⟨g, 0, none⟩)] 70)).alloc (.cells #[.func (.func NF) #[.pointer (some ⟨g, 0, none⟩)] #[]] 88)).alloc (.cells #[.string sg] 9)).alloc (.cells #[.func (.func F) #[.pointer (some ⟨g, 0, none⟩)] #[]] 105)) 22 #[.slice none 0 0]
  have e0' := (((e0.alloc (.cells #[.func (.func NF) #[.pointer (some ⟨g, 0, none⟩)] #[]] 88)).alloc (.cells #[.string sg] 9)).alloc (.cells #[.func (.func F) #[.pointer (some ⟨g, 0, none⟩)] #[]] 105)).alloc (.cells #[.slice none 0 0] 22)
  have e1' := ((e1.alloc (.cells #[.string sg] 9)).alloc (.cells #[.func (.func F) #[.pointer (some ⟨g, 0, none⟩)] #[]] 105)).alloc (.cells #[.slice none 0 0] 22)
  have e2' := (e2.alloc (.cells #[.func (.func F) #[.pointer (some ⟨g, 0, none⟩)] #[]] 105)).alloc (.cells #[.slice none 0 0] 22)
  have e3' := e3.alloc (.cells #[.slice none 0 0] 22)
  have hsz : (((((w.alloc (.cells #[.pointer (some ⟨g, 0, none⟩)] 70)).alloc (.cells #[.func (.func NF) #[.pointer (some ⟨g, 0, none⟩)] #[]] 88)).alloc (.cells #[.string sg] 9)).alloc (.cells #[.func (.func F) #[.pointer (some ⟨g, 0, none⟩)] #[]] 105)).alloc (.cells #[.slice none 0 0] 22)).heap.size = B0 + 5 := by simp [hB]
  have s1 : (w.alloc (.cells #[.pointer (some ⟨g, 0, none⟩)] 70)).heap.size = B0 + 1 := by simp [hB]
  have s2 : ((w.alloc (.cells #[.pointer (some ⟨g, 0, none⟩)] 70)).alloc (.cells #[.func (.func NF) #[.pointer (some ⟨g, 0, none⟩)] #[]] 88)).heap.size = B0 + 2 := by simp [hB]
  have s3 : (((w.alloc (.cells #[.pointer (some ⟨g, 0, none⟩)] 70)).alloc (.cells #[.func (.func NF) #[.pointer (some ⟨g, 0, none⟩)] #[]] 88)).alloc (.cells #[.string sg] 9)).heap.size = B0 + 3 := by simp [hB]
  have s4 : ((((w.alloc (.cells #[.pointer (some ⟨g, 0, none⟩)] 70)).alloc (.cells #[.func (.func NF) #[.pointer (some ⟨g, 0, none⟩)] #[]] 88)).alloc (.cells #[.string sg] 9)).alloc (.cells #[.func (.func F) #[.pointer (some ⟨g, 0, none⟩)] #[]] 105)).heap.size = B0 + 4 := by simp [hB]
  rw [hB] at e0'
  rw [s1] at e1'
  rw [s2] at e2'
  rw [s3] at e3'
  rw [s4] at e4
  clear e0 e1 e2 e3 s1 s2 s3 s4
  generalize hw5 : ((((w.alloc (.cells #[.pointer (some ⟨g, 0, none⟩)] 70)).alloc (.cells #[.func (.func NF) #[.pointer (some ⟨g, 0, none⟩)] #[]] 88)).alloc (.cells #[.string sg] 9)).alloc (.cells #[.func (.func F) #[.pointer (some ⟨g, 0, none⟩)] #[]] 105)).alloc (.cells #[.slice none 0 0] 22) = w5 at e0' e1' e2' e3' e4 hsz hkA ⊢
  have hS5 : Stm w5 g ws k d a b c e f := H.out.kept hkA (fun _ _ h => h)
  have hn0 : Nds w g f nds (fun i => D i ∧ i ≠ B0 + 4 ∧ (Value.slice none 0 0).ownBlock ≠ some i) := HN.out.mono fun i hi hd => ⟨hd, by omega, by simp [Value.ownBlock]⟩
  have hn5 := hn0.kept hkA (fun _ _ h => h.elim)
  have HS : Hid (NamS g ws d a b c e F NF sg B0 w5 k nds D (fun i => Mut g f i ∨ i = B0 + 4) []) := Lib.hid ⟨⟨f, .slice none 0 0, hS5, hn5, fun i => by simp [Value.ownBlock], ⟨rfl, .inl ⟨rfl, rfl⟩⟩, e4, fun q hq => .inl (hfl q hq), fun q hq => by simp [Value.ownBlock] at hq⟩, e0', e1', e2', e3', hg, by simp⟩
  have HKA := Lib.hid hkA
  have HB := Lib.hid hB
  have HSZ := Lib.hid hsz
  clear hw5 hS5 hn0 hn5 e0' e1' e2' e3' e4 hkA hB hsz hfl
  refine (listS_any _ #[] _ _ rfl g ws (B0 + 5) _ _ (OkP ws) (item_rule F NF kd HNF.out hkd g ws HE.out d a b c e sg B0 R HR.out HG.out hg) (item_ok HE.out HG.out hkd) ⟨#[44]⟩ w5 k nds D _ [] (Nat.le_of_eq HSZ.out.symm) HS.out HOK.out).mono ?_
  intro r w6 ho
  have hmm : ∀ i, i < w.heap.size → (Mut g f i ∨ i = B0 + 4) → Mut g f i := fun i hi h => by
    rcases h with h | h
    · exact h
    · have := HB.out; omega
  have hk5 : Kept (Mut g f) w w5 := HKA.out.mono fun _ _ h => h.elim
  rcases hres : listS ws ⟨#[44]⟩ (itemN ws kd sg R) k nds [] with ⟨at_, er⟩ | ⟨l, k1, nds1, ns1⟩
  · rw [hres] at ho
    obtain ⟨rfl, hk2⟩ := ho
    refine And.intro rfl ?_
    rw [namedR, hres]
    exact ⟨rfl, hk5.trans hk2 hmm⟩
  · have HL : Hid (namedR ws kd sg R k nds = .ok (l, k1, nds1, ns1)) := by show _ = _; rw [namedR, hres]
    rw [hres] at ho
    obtain ⟨v, M', rfl, hst⟩ := ho
    obtain ⟨⟨f', nv, h1, h2, h3, h4, h5, h6, h7⟩, -, -, -, -, -, -⟩ := hst.it
    obtain ⟨NA, ncap, rfl⟩ : ∃ A n, nv = .slice A ns1.length n := by
      rcases h4.2 with ⟨hv, h0⟩ | ⟨q, cap, cur, hv, _⟩
      · exact ⟨none, 0, by rw [hv, h0]⟩
      · exact ⟨_, _, hv⟩
    have z4 : w6.cell? ⟨B0 + 1 + 1 + 1 + 1, 0, none⟩ = some (.slice NA ns1.length ncap) := h5.cell 0
    have y4 : w6.frozen? ⟨B0 + 1 + 1 + 1 + 1, 0, none⟩ = false := h5.frozen 0
    have HB5 := Lib.hid h5
    have hsz6 := hst.kept.size
    have HST := Lib.hid hst
    have Q1 := Lib.hid h1
    have Q2 := Lib.hid h2
    have Q3 := Lib.hid h3
    have Q4 := Lib.hid h4
    have Q7 := Lib.hid h7
    have Q6 := Lib.hid h6
    clear hres hst h1 h2 h3 h4 h5 h6 h7
    go_wp2_with fail
    have HB6 := HB5.out.set_ 0 (.slice NA ns1.length ncap)
    refine bodyPost_ret (v := .tuple #[.slice NA ns1.length ncap, v]) (by have c6 : (w6.setCell ⟨B0 + 1 + 1 + 1 + 1, 0, none⟩ (.slice NA ns1.length ncap)).cell? ⟨B0 + 1 + 1 + 1 + 1, 0, none⟩ = some (.slice NA ns1.length ncap) := HB6.cell 0; simp [results, Tryz.results87, go_sem, c6]) rfl ?_
    rw [HL.out]
    have hkS : Kept (fun i => i = B0 + 4) w6 (w6.setCell ⟨B0 + 1 + 1 + 1 + 1, 0, none⟩ (.slice NA ns1.length ncap)) := (Kept.refl (fun i => i = B0 + 4) w6).setCell (p := ⟨B0 + 1 + 1 + 1 + 1, 0, none⟩) (fun _ => rfl) _
    generalize w6.setCell ⟨B0 + 1 + 1 + 1 + 1, 0, none⟩ (.slice NA ns1.length ncap) = w7 at hkS ⊢
    have hB := HB.out
    have hS := HSZ.out
    have hnq : ∀ q, (Value.slice NA ns1.length ncap).ownBlock = some q → B0 + 5 ≤ q ∧ ¬ Mut g f' q := fun q hq => by
      have h1 := (Q4.out.lt q hq).1
      refine ⟨h1, fun hm => ?_⟩
      rcases hm with hm | hm
      · omega
      · exact Q7.out q hq hm
    have hvq : ∀ q, v.ownBlock = some q → B0 + 5 ≤ q ∧ ¬ Mut g f' q := fun q hq => by
      have h1 := (HST.out.own.lt q hq).1
      refine ⟨by omega, fun hm => HST.out.far q hq ((Q3.out q).2 (.inl hm))⟩
    refine ⟨_, v, rfl, ⟨f', Q1.out.kept hkS (fun i hi h => by omega), ?_, ?_, ?_, ?_⟩, ?_⟩
    · refine (Q2.out.kept2 hkS (fun i _ h hd => hd.2.1 h) (fun q hq h => ?_)).mono ?_
      · have := Q6.out q hq; omega
      · rintro i _ ⟨⟨hd | hd, _⟩, _⟩
        · exact .inl hd
        · exact .inr (by omega)
    · exact fun i hi hm => hmm i hi (HST.out.turn i (by omega) ((Q3.out i).2 (.inl hm)))
    · have ho := own_kept_ne Q4.out hkS (fun q hq h => by have := (hnq q hq).1; omega)
      refine ⟨NA, ncap, rfl, fun h0 => ?_⟩
      obtain ⟨q, n, hv, hbq, hq, hcell⟩ := own_strs ho h0
      cases hv
      refine ⟨q, 0, rfl, hq, fun hb => ?_, fun j y hy => by rw [Nat.zero_add]; exact hcell j y hy⟩
      rcases hb with hb | hb
      · exact (hnq q rfl).2 hb
      · exact hb (.inr (by omega))
    · have ho := own_kept_ne HST.out.own hkS (fun q hq h => by have := (hvq q hq).1; omega)
      rcases Nat.eq_zero_or_pos l.length with h0 | h0
      · obtain rfl := List.length_eq_zero_iff.1 h0
        rcases ho.2 with ⟨rfl, _⟩ | ⟨q, cap, cur, rfl, _⟩
        · exact ISq.nil _ _
        · exact ⟨_, cap, rfl, fun h => absurd h (by simp)⟩
      · obtain ⟨q, n, rfl, hbq, hq, hcell⟩ := own_ints ho h0
        refine ⟨_, n, rfl, fun _ => ⟨q, 0, rfl, hq, fun hb => ?_, fun j x hj => by rw [Nat.zero_add]; exact hcell j x hj⟩⟩
        rcases hb with hb | hb
        · exact (hvq q rfl).2 hb
        · exact hb (.inr (by omega))
    · exact (hk5.trans HST.out.kept hmm).trans hkS (fun i hi h => by omega)

theorem Mde.named_from {F NF : FuncId} {kd : Nat} (hN : NameF NF kd) (hkd : kd ≠ 7) {g : Nat} {ws : List Wd} (hE : EndW ws) {d : Nat} {a b c e f : Value} (sg : ByteArray) {R : Nat → List Nd → Res} (hR : Rule F g ws d a b c e R (OkP ws)) (hG : GoodR ws R)
    {w w1 : World} {k : Nat} {nds : List Nd} {D : Nat → Prop} (hM : Mde w w1 g ws k d a b c e f nds D) (hok : OkP ws k nds) :
    Calls Tryz.prog 87 #[.pointer (some ⟨g, 0, none⟩), .func (.func NF) #[.pointer (some ⟨g, 0, none⟩)] #[], .string sg, .func (.func F) #[.pointer (some ⟨g, 0, none⟩)] #[]] w1
      fun r w' => NOut w g ws d a b c e f D (namedR ws kd sg R k nds) r w' := by
  obtain ⟨⟨f1, h1, hn1, hm1⟩, hk1⟩ := hM
  refine (named_any F NF kd hN hkd g ws hE d a b c e sg R hR hG w1 f1 k nds _ h1 hn1 hok).mono ?_
  intro r w2 ho
  rcases hres : namedR ws kd sg R k nds with ⟨at_, er⟩ | ⟨l, k', nds', ns⟩
  · rw [hres] at ho
    exact ⟨ho.1, hk1.trans ho.2 hm1⟩
  · rw [hres] at ho
    obtain ⟨nv, lv, hr, ⟨f2, hs, hn, ht, hss, hii⟩, hk⟩ := ho
    have hsz := hk1.size
    have hd : ∀ i, Dn (Dn D w) w1 i → Dn D w i := fun i h => by
      rcases h with (h | h) | h
      · exact .inl h
      · exact .inr h
      · exact .inr (by omega)
    have hb : ∀ i, i < w2.heap.size → Bad g f2 (Dn D w) i → Bad g f2 (Dn (Dn D w) w1) i := fun i _ h => by
      rcases h with h | h
      · exact .inl h
      · exact .inr fun h2 => h (hd i h2)
    exact ⟨nv, lv, hr, ⟨f2, hs, hn.mono (fun i _ h => hd i h), fun i hi h => hm1 i hi (ht i (by omega) h), hss.kept (Kept.refl _ w2) hb, hii.kept (Kept.refl _ w2) hb⟩, hk1.trans hk hm1⟩
end Go.Proofs.YtdnpflmlonmgcaaGreatDoor
namespace Go.Proofs.YtdnpflmlonmgcaaGreatDoor
open Go.RowKit

/-- where nodes' lists lie: in D, or new, and not in what is held -/
def EX (X D : Nat → Prop) (w : World) : Nat → Prop := fun i => Dn D w i ∧ ¬ X i
/-- what is held has not turned -/
def Same (X : Nat → Prop) (a b : World) : Prop := ∀ i, X i → b.heap[i]? = a.heap[i]?
structure MdX (X : Nat → Prop) (w w' : World) (g : Nat) (ws : List Wd) (k d : Nat) (a b c e f : Value) (nds : List Nd) (D : Nat → Prop) : Prop where
  ex : ∃ f', Stm w' g ws k d a b c e f' ∧ Nds w' g f' nds (EX X D w) ∧ (∀ i, i < w.heap.size → Mut g f' i → Mut g f i) ∧ (∀ i, X i → ¬ Mut g f' i)
  kept : Kept (Mut g f) w w'
  inX : ∀ i, X i → w.heap.size ≤ i ∧ i < w'.heap.size
  hg : g < w.heap.size
/-- two more lists are held -/
structure MdXL (X : Nat → Prop) (w w' : World) (g : Nat) (ws : List Wd) (k d : Nat) (a b c e f : Value) (nds : List Nd) (D : Nat → Prop) (nv lv : Value) (ns : List ByteArray) (l : List Nat) : Prop where
  ex : ∃ f', Stm w' g ws k d a b c e f' ∧ Nds w' g f' nds (EX X D w) ∧ (∀ i, i < w.heap.size → Mut g f' i → Mut g f i) ∧ (∀ i, X i → ¬ Mut g f' i) ∧ SSq w' (Bad g f' (EX X D w)) nv ns ∧ ISq w' (Bad g f' (EX X D w)) lv l
  kept : Kept (Mut g f) w w'
  inX : ∀ i, X i → w.heap.size ≤ i ∧ i < w'.heap.size
  hg : g < w.heap.size
def OutX (X : Nat → Prop) (w w1 : World) (g : Nat) (ws : List Wd) (d : Nat) (a b c e f : Value) (D : Nat → Prop) (res : Res) (r : Ending) (w' : World) : Prop :=
  match res with
  | .ok (v, k', nds') => r = .returned (.int .i64 (v : Int)) ∧ MdX X w w' g ws k' d a b c e f nds' D ∧ Same X w1 w'
  | .error (at_, er) => r = .panicked (faultP at_ er) ∧ Kept (Mut g f) w w'
def NeedX (X : Nat → Prop) (w w1 : World) (g : Nat) (ws : List Wd) (k d : Nat) (a b c e f : Value) (nds : List Nd) (D : Nat → Prop) (ok : Bool) (at_ : Nat) (v : Value) (r : Ending) (w' : World) : Prop :=
  match ok with
  | true => r = .returned v ∧ MdX X w w' g ws k d a b c e f nds D ∧ Same X w1 w'
  | false => r = .panicked (faultP at_ 30) ∧ Kept (Mut g f) w w'
def NeedXL (X : Nat → Prop) (w w1 : World) (g : Nat) (ws : List Wd) (k d : Nat) (a b c e f : Value) (nds : List Nd) (D : Nat → Prop) (nv lv : Value) (ns : List ByteArray) (l : List Nat) (ok : Bool) (at_ : Nat) (v : Value) (r : Ending) (w' : World) : Prop :=
  match ok with
  | true => r = .returned v ∧ MdXL X w w' g ws k d a b c e f nds D nv lv ns l ∧ Same X w1 w'
  | false => r = .panicked (faultP at_ 30) ∧ Kept (Mut g f) w w'
def LOutX (X : Nat → Prop) (w w1 : World) (g : Nat) (ws : List Wd) (d : Nat) (a b c e f : Value) (D : Nat → Prop) (res : LRes) (r : Ending) (w' : World) : Prop :=
  match res with
  | .ok (l, k', nds') => ∃ v, r = .returned v ∧ MdX (fun i => X i ∨ v.ownBlock = some i) w w' g ws k' d a b c e f nds' D ∧ Same X w1 w' ∧ w'.ownsRow w1.heap.size 3 1 v l.length (ints3 l)
  | .error (at_, er) => r = .panicked (faultP at_ er) ∧ Kept (Mut g f) w w'
def NOutX (X : Nat → Prop) (w w1 : World) (g : Nat) (ws : List Wd) (d : Nat) (a b c e f : Value) (D : Nat → Prop) (res : LRes3) (r : Ending) (w' : World) : Prop :=
  match res with
  | .ok (l, k', nds', ns) => ∃ nv lv, r = .returned (.tuple #[nv, lv]) ∧ MdXL X w w' g ws k' d a b c e f nds' D nv lv ns l ∧ Same X w1 w'
  | .error (at_, er) => r = .panicked (faultP at_ er) ∧ Kept (Mut g f) w w'

section
variable {X Y : Nat → Prop} {w w1 w2 w' : World} {g k k' d : Nat} {ws : List Wd} {a b c e f : Value} {nds nds' : List Nd} {D : Nat → Prop} {F : FuncId} {R : Nat → List Nd → Res} {ok : Nat → List Nd → Prop} {res : Res} {r : Ending} {v at_ er : Nat}
variable {nv lv : Value} {ns : List ByteArray} {l : List Nat}
theorem Same.blk {N : Nat} {t : TypeId} {cs : Array Value} (h : Same X w1 w2) (hx : X N) (hb : Blk w1 N t cs) : Blk w2 N t cs := (h N hx).trans hb
theorem Same.trans_ (h : Same X w w1) (h2 : Same X w1 w2) : Same X w w2 := fun i hi => (h2 i hi).trans (h i hi)
theorem Same.own {base : Nat} {t : TypeId} {n size : Nat} {v : Value} {xs : List Value} (h : Same X w1 w2) (hx : ∀ q, v.ownBlock = some q → X q) (ho : w1.ownsRow base t size v n xs) : w2.ownsRow base t size v n xs := by
  refine ⟨ho.1, ?_⟩
  rcases ho.2 with h0 | ⟨q, cap, cur, rfl, hg, hb, hr⟩
  · exact .inl h0
  · exact .inr ⟨q, cap, cur, rfl, hg, (h q (hx q rfl)).trans hb, hr⟩
theorem MdX.start (h : Stm w g ws k d a b c e f) (hn : Nds w g f nds D) : MdX (fun _ => False) w w g ws k d a b c e f nds D :=
  ⟨⟨f, h, hn.mono fun _ _ h => ⟨.inl h, fun h => h⟩, fun _ _ h => h, fun _ h => h.elim⟩, Kept.refl _ _, fun _ h => h.elim, h.lt⟩
/-- what is held turns, and more is held -/
theorem MdX.more (hM : MdX X w w1 g ws k d a b c e f nds D) (hk : Kept X w1 w2) (hY : ∀ i, Y i → X i ∨ (w1.heap.size ≤ i ∧ i < w2.heap.size)) : MdX (fun i => X i ∨ Y i) w w2 g ws k d a b c e f nds D := by
  obtain ⟨⟨f1, h1, hn1, ht1, hx1⟩, hk1, hin, hg⟩ := hM
  have hsz := hk.size
  have hsz1 := hk1.size
  have hn2 : Nds w1 g f1 nds (fun i => EX X D w i ∧ ¬ Y i) := hn1.mono fun i hi h => ⟨h, fun hy => by
    rcases hY i hy with h2 | h2
    · exact h.2 h2
    · omega⟩
  refine ⟨⟨f1, h1.kept hk (fun i hi h => by have := hin i h; omega), (hn2.kept2 hk (fun i _ h hd => hd.1.2 h) (fun q hq h => hx1 q h (.inr hq))).mono fun i _ h => ⟨h.1.1, fun h2 => by
    rcases h2 with h2 | h2
    · exact h.1.2 h2
    · exact h.2 h2⟩, ht1, ?_⟩, hk1.trans hk (fun i hi h => by have := hin i h; omega), ?_, hg⟩
  · rintro i (h | h)
    · exact hx1 i h
    · rcases hY i h with h2 | h2
      · exact hx1 i h2
      · intro hm
        rcases hm with rfl | hm
        · omega
        · have := (hn1.own_lt hm).2; omega
  · rintro i (h | h)
    · have := hin i h; omega
    · rcases hY i h with h2 | h2
      · have := hin i h2; omega
      · omega
theorem MdX.less (hM : MdX X w w1 g ws k d a b c e f nds D) (hY : ∀ i, Y i → X i) : MdX Y w w1 g ws k d a b c e f nds D := by
  obtain ⟨⟨f1, h1, hn1, ht1, hx1⟩, hk1, hin, hg⟩ := hM
  exact ⟨⟨f1, h1, hn1.mono fun i _ h => ⟨h.1, fun hy => h.2 (hY i hy)⟩, ht1, fun i h => hx1 i (hY i h)⟩, hk1, fun i h => hin i (hY i h), hg⟩
theorem MdX.mde (hM : MdX X w w1 g ws k d a b c e f nds D) : Mde w w1 g ws k d a b c e f nds D := by
  obtain ⟨⟨f1, h1, hn1, ht1, hx1⟩, hk1, hin, hg⟩ := hM
  exact ⟨⟨f1, h1, hn1.mono fun _ _ h => h.1, ht1⟩, hk1⟩
theorem MdX.put (hM : MdX X w w1 g ws k d a b c e f nds D) {N : Nat} (hN : X N) (i : Nat) (v : Value) : MdX X w (w1.setCell ⟨N, i, none⟩ v) g ws k d a b c e f nds D :=
  (hM.more (Y := X) ((Kept.refl X w1).setCell (p := ⟨N, i, none⟩) (fun _ => hN) v) (fun i h => .inl h)).less fun i h => .inl h
theorem MdX.new (hM : MdX X w w1 g ws k d a b c e f nds D) (o : Obj) : MdX (fun i => X i ∨ i = w1.heap.size) w (w1.alloc o) g ws k d a b c e f nds D :=
  hM.more ((Kept.refl X w1).alloc o) (fun i h => .inr (by subst h; simp))
theorem Same.put {N i : Nat} {v : Value} (h : ¬ X N) : Same X w1 (w1.setCell ⟨N, i, none⟩ v) := fun j hj => Below.heap_setCell w1 ⟨N, i, none⟩ v j (fun e => h (by have e2 : j = N := e; subst e2; exact hj))
theorem Same.alloc (h : ∀ i, X i → i < w1.heap.size) (o : Obj) : Same X w1 (w1.alloc o) := fun j hj => Below.heap_alloc w1 o j (h j hj)
/-- steps from here on -/
theorem MdX.open_ (hM : MdX X w w1 g ws k d a b c e f nds D) : ∃ f1, Mde w1 w1 g ws k d a b c e f1 nds (EX X D w) ∧
    (∀ {k' : Nat} {nds' : List Nd} {w2 : World}, Mde w1 w2 g ws k' d a b c e f1 nds' (EX X D w) → MdX X w w2 g ws k' d a b c e f nds' D ∧ Same X w1 w2) ∧
    (∀ {w2 : World}, Kept (Mut g f1) w1 w2 → Kept (Mut g f) w w2) ∧
    (∀ {k' : Nat} {nds' : List Nd} {w2 : World} {u : Value} {l : List Nat} {f2 : Value}, Lst w1 w2 g ws k' d a b c e f1 f2 nds' (EX X D w) u l → MdX (fun i => X i ∨ u.ownBlock = some i) w w2 g ws k' d a b c e f nds' D ∧ Same X w1 w2) ∧
    (∀ {k' : Nat} {nds' : List Nd} {w2 : World} {nv lv : Value} {ns : List ByteArray} {l : List Nat}, MdeL w1 w2 g ws k' d a b c e f1 nds' (EX X D w) nv lv ns l → MdXL X w w2 g ws k' d a b c e f nds' D nv lv ns l ∧ Same X w1 w2) := by
  obtain ⟨⟨f1, h1, hn1, ht1, hx1⟩, hk1, hin, hg⟩ := hM
  have hsz1 := hk1.size
  have hE : ∀ i, Dn (EX X D w) w1 i → EX X D w i := fun i h => by
    rcases h with h | h
    · exact h
    · exact ⟨.inr (by omega), fun hx => by have := hin i hx; omega⟩
  refine ⟨f1, Mde.refl h1 hn1, ?_, fun h => hk1.trans h ht1, ?_, ?_⟩
  · rintro k' nds' w2 ⟨⟨f2, h2, hn2, ht2⟩, hk2⟩
    have hsz2 := hk2.size
    exact ⟨⟨⟨f2, h2, hn2.mono (fun i _ h => hE i h), fun i hi h => ht1 i hi (ht2 i (by omega) h), fun i hx h => hx1 i hx (ht2 i (hin i hx).2 h)⟩, hk1.trans hk2 ht1, fun i hx => by have := hin i hx; omega, hg⟩,
      fun i hx => hk2.block i (hin i hx).2 (hx1 i hx)⟩
  · intro k' nds' w2 u l f2 hL
    have hsz2 := hL.kept.size
    refine ⟨⟨⟨f2, hL.stm, hL.nds.mono ?_, fun i hi h => ht1 i hi (hL.turn i (by omega) h), ?_⟩, hk1.trans hL.kept ht1, ?_, hg⟩, fun i hx => hL.kept.block i (hin i hx).2 (hx1 i hx)⟩
    · intro i _ h
      have := hE i h.1
      exact ⟨this.1, fun h2 => by
        rcases h2 with h2 | h2
        · exact this.2 h2
        · exact h.2 h2⟩
    · rintro i (h | h)
      · exact fun hm => hx1 i h (hL.turn i (hin i h).2 hm)
      · exact hL.far i h
    · rintro i (h | h)
      · have := hin i h; omega
      · have := hL.own.lt i h; omega
  · rintro k' nds' w2 nv lv ns l ⟨⟨f2, h2, hn2, ht2, hs2, hi2⟩, hk2⟩
    have hsz2 := hk2.size
    have hb : ∀ i, i < w2.heap.size → Bad g f2 (EX X D w) i → Bad g f2 (Dn (EX X D w) w1) i := fun i _ h => by
      rcases h with h | h
      · exact .inl h
      · exact .inr fun h2 => h (hE i h2)
    exact ⟨⟨⟨f2, h2, hn2.mono (fun i _ h => hE i h), fun i hi h => ht1 i hi (ht2 i (by omega) h), fun i hx h => hx1 i hx (ht2 i (hin i hx).2 h), hs2.kept (Kept.refl _ w2) hb, hi2.kept (Kept.refl _ w2) hb⟩, hk1.trans hk2 ht1, fun i hx => by have := hin i hx; omega, hg⟩,
      fun i hx => hk2.block i (hin i hx).2 (hx1 i hx)⟩
theorem MdX.sees_ (hM : MdX X w w1 g ws k d a b c e f nds D) (hk : k < ws.length) (t : ByteArray) :
    Calls Tryz.prog 64 #[.pointer (some ⟨g, 0, none⟩), .string t] w1 fun r w2 => r = .returned (.bool (seesW (tok ws k) t)) ∧ MdX X w w2 g ws k d a b c e f nds D ∧ Same X w1 w2 := by
  obtain ⟨f1, h1, ho, _⟩ := hM.open_
  exact (h1.sees_from hk t).mono fun _ _ h => ⟨h.1, ho h.2⟩
theorem MdX.take_ (hM : MdX X w w1 g ws k d a b c e f nds D) (hk : k < ws.length) (t : ByteArray) :
    Calls Tryz.prog 61 #[.pointer (some ⟨g, 0, none⟩), .string t] w1 fun r w2 => r = .returned (.bool (seesW (tok ws k) t)) ∧ MdX X w w2 g ws (adv (tok ws k) t k) d a b c e f nds D ∧ Same X w1 w2 := by
  obtain ⟨f1, h1, ho, _⟩ := hM.open_
  exact (h1.take_from hk t).mono fun _ _ h => ⟨h.1, ho h.2⟩
theorem MdX.has_ (hM : MdX X w w1 g ws k d a b c e f nds D) (hk : k < ws.length) (kd : Nat) :
    Calls Tryz.prog 67 #[.pointer (some ⟨g, 0, none⟩), .int .i64 (kd : Int)] w1 fun r w2 => r = .returned (.bool (decide ((tok ws k).kind = kd))) ∧ MdX X w w2 g ws k d a b c e f nds D ∧ Same X w1 w2 := by
  obtain ⟨f1, h1, ho, _⟩ := hM.open_
  exact (h1.has_from hk kd).mono fun _ _ h => ⟨h.1, ho h.2⟩
theorem MdX.fail_ (hM : MdX X w w1 g ws k d a b c e f nds D) (hk : k < ws.length) (er : Nat) :
    Calls Tryz.prog 68 #[.pointer (some ⟨g, 0, none⟩), .int .i64 (er : Int)] w1 fun r w2 => r = .panicked (faultP (tok ws k).at_ er) ∧ Kept (Mut g f) w w2 := by
  obtain ⟨f1, h1, _, hp, _⟩ := hM.open_
  exact (h1.fail_from hk er).mono fun _ _ h => ⟨h.1, hp h.2⟩
theorem MdX.full_ (hM : MdX X w w1 g ws k d a b c e f nds D) (hk : k < ws.length) (n m : Nat) (h : m ≤ n) :
    Calls Tryz.prog 62 #[.pointer (some ⟨g, 0, none⟩), .int .i64 (n : Int), .int .i64 (m : Int)] w1 fun r w2 => r = .panicked (faultP (tok ws k).at_ 5) ∧ Kept (Mut g f) w w2 := by
  obtain ⟨f1, h1, _, hp, _⟩ := hM.open_
  exact (h1.full_from hk n m h).mono fun _ _ h => ⟨h.1, hp h.2⟩
theorem MdX.need_ (hM : MdX X w w1 g ws k d a b c e f nds D) (hk : k < ws.length) (t : ByteArray) :
    Calls Tryz.prog 59 #[.pointer (some ⟨g, 0, none⟩), .string t] w1 fun r w2 => NeedX X w w1 g ws (k + 1) d a b c e f nds D (seesW (tok ws k) t) (tok ws k).at_ (.tuple #[]) r w2 := by
  obtain ⟨f1, h1, ho, hp, _⟩ := hM.open_
  refine (h1.need_from hk t).mono fun _ _ h => ?_
  cases hs : seesW (tok ws k) t with
  | true => rw [hs] at h; exact ⟨h.1, ho h.2⟩
  | false => rw [hs] at h; exact ⟨h.1, hp h.2⟩
theorem MdX.name_ (hM : MdX X w w1 g ws k d a b c e f nds D) (hk : k < ws.length) :
    Calls Tryz.prog 60 #[.pointer (some ⟨g, 0, none⟩)] w1 fun r w2 => NeedX X w w1 g ws (k + 1) d a b c e f nds D (decide ((tok ws k).kind = 1)) (tok ws k).at_ (.string (tok ws k).text) r w2 := by
  obtain ⟨f1, h1, ho, hp, _⟩ := hM.open_
  refine (h1.name_from hk).mono fun _ _ h => ?_
  cases hs : decide ((tok ws k).kind = 1) with
  | true => rw [hs] at h; exact ⟨h.1, ho h.2⟩
  | false => rw [hs] at h; exact ⟨h.1, hp h.2⟩
theorem MdX.typeName_ (hM : MdX X w w1 g ws k d a b c e f nds D) (hk : k < ws.length) :
    Calls Tryz.prog 83 #[.pointer (some ⟨g, 0, none⟩)] w1 fun r w2 => NeedX X w w1 g ws (k + 1) d a b c e f nds D (decide ((tok ws k).kind = 2)) (tok ws k).at_ (.string (tok ws k).text) r w2 := by
  obtain ⟨f1, h1, ho, hp, _⟩ := hM.open_
  refine (h1.typeName_from hk).mono fun _ _ h => ?_
  cases hs : decide ((tok ws k).kind = 2) with
  | true => rw [hs] at h; exact ⟨h.1, ho h.2⟩
  | false => rw [hs] at h; exact ⟨h.1, hp h.2⟩
theorem OutX.of {f1 : Value} (ho : ∀ {k' : Nat} {nds' : List Nd} {w2 : World}, Mde w1 w2 g ws k' d a b c e f1 nds' (EX X D w) → MdX X w w2 g ws k' d a b c e f nds' D ∧ Same X w1 w2)
    (hp : ∀ {w2 : World}, Kept (Mut g f1) w1 w2 → Kept (Mut g f) w w2) (h : Out w1 g ws d a b c e f1 (EX X D w) res r w2) : OutX X w w1 g ws d a b c e f D res r w2 := by
  rcases res with ⟨at_, er⟩ | ⟨v, k', nds'⟩
  · exact ⟨h.1, hp h.2⟩
  · exact ⟨h.1, ho h.2⟩
theorem MdX.rule_ (hM : MdX X w w1 g ws k d a b c e f nds D) (hR : Rule F g ws d a b c e R ok) (h0 : ok k nds) :
    Calls Tryz.prog F #[.pointer (some ⟨g, 0, none⟩)] w1 fun r w2 => OutX X w w1 g ws d a b c e f D (R k nds) r w2 := by
  obtain ⟨f1, h1, ho, hp, _⟩ := hM.open_
  exact (hR.from_ h1 h0).mono fun _ _ h => .of ho hp h
theorem MdX.behind_ (hM : MdX X w w1 g ws k d a b c e f nds D) (hR : Rule F g ws d a b c e R ok) (hk : k < ws.length) (t : ByteArray) (hok : seesW (tok ws k) t = true → ok (k + 1) nds) :
    Calls Tryz.prog 84 #[.pointer (some ⟨g, 0, none⟩), .string t, .func (.func F) #[.pointer (some ⟨g, 0, none⟩)] #[]] w1 fun r w2 => OutX X w w1 g ws d a b c e f D (behindR ws t R k nds) r w2 := by
  obtain ⟨f1, h1, ho, hp, _⟩ := hM.open_
  exact (h1.behind_from hR hk t hok).mono fun _ _ h => .of ho hp h
theorem MdX.list_ (hM : MdX X w w1 g ws k d a b c e f nds D) (hR : Rule F g ws d a b c e R ok) (hK : OkR ws R ok) (t : ByteArray) (h0 : ok k nds) :
    Calls Tryz.prog 97 #[.pointer (some ⟨g, 0, none⟩), .string t, .func (.func F) #[.pointer (some ⟨g, 0, none⟩)] #[]] w1 fun r w2 => LOutX X w w1 g ws d a b c e f D (listR ws t R k nds) r w2 := by
  obtain ⟨f1, h1, _, hp, hl, _⟩ := hM.open_
  refine (h1.list_from hR hK t h0).mono fun r w2 h => ?_
  rcases hres : listR ws t R k nds with ⟨at_, er⟩ | ⟨l, k', nds'⟩
  · rw [hres] at h
    exact ⟨h.1, hp h.2⟩
  · rw [hres] at h
    obtain ⟨v, f2, hr, hL⟩ := h
    exact ⟨v, hr, (hl hL).1, (hl hL).2, hL.own⟩
theorem MdX.named_ (hM : MdX X w w1 g ws k d a b c e f nds D) {NF : FuncId} {kd : Nat} (hN : NameF NF kd) (hkd : kd ≠ 7) (hE : EndW ws) (sg : ByteArray) (hR : Rule F g ws d a b c e R (OkP ws)) (hG : GoodR ws R) (h0 : OkP ws k nds) :
    Calls Tryz.prog 87 #[.pointer (some ⟨g, 0, none⟩), .func (.func NF) #[.pointer (some ⟨g, 0, none⟩)] #[], .string sg, .func (.func F) #[.pointer (some ⟨g, 0, none⟩)] #[]] w1
      fun r w2 => NOutX X w w1 g ws d a b c e f D (namedR ws kd sg R k nds) r w2 := by
  obtain ⟨f1, h1, _, hp, _, hl⟩ := hM.open_
  refine (h1.named_from hN hkd hE sg hR hG h0).mono fun r w2 h => ?_
  rcases hres : namedR ws kd sg R k nds with ⟨at_, er⟩ | ⟨l, k', nds', ns⟩
  · rw [hres] at h
    exact ⟨h.1, hp h.2⟩
  · rw [hres] at h
    obtain ⟨nv, lv, hr, hL⟩ := h
    exact ⟨nv, lv, hr, hl hL⟩

theorem MdXL.mdx (hM : MdXL X w w1 g ws k d a b c e f nds D nv lv ns l) : MdX X w w1 g ws k d a b c e f nds D := by
  obtain ⟨⟨f1, h1, h2, h3, h4, _⟩, h5, h6, h7⟩ := hM
  exact ⟨⟨f1, h1, h2, h3, h4⟩, h5, h6, h7⟩
theorem MdXL.put (hM : MdXL X w w1 g ws k d a b c e f nds D nv lv ns l) {N : Nat} (hN : X N) (i : Nat) (v : Value) : MdXL X w (w1.setCell ⟨N, i, none⟩ v) g ws k d a b c e f nds D nv lv ns l := by
  obtain ⟨⟨f1, h1, hn1, ht1, hx1, hs1, hi1⟩, hk1, hin, hg⟩ := hM
  have hk : Kept X w1 (w1.setCell ⟨N, i, none⟩ v) := (Kept.refl X w1).setCell (p := ⟨N, i, none⟩) (fun _ => hN) v
  exact ⟨⟨f1, h1.kept hk (fun i hi h => by have := hin i h; omega), hn1.kept2 hk (fun i _ h hd => hd.2 h) (fun q hq h => hx1 q h (.inr hq)), ht1, hx1, hs1.stp hk (fun i _ h => .inr fun hd => hd.2 h), hi1.stp hk (fun i _ h => .inr fun hd => hd.2 h)⟩,
    hk1.trans hk (fun i hi h => by have := hin i h; omega), fun i h => by have := hin i h; have := hk.size; omega, hg⟩
theorem MdXL.need_ (hM : MdXL X w w1 g ws k d a b c e f nds D nv lv ns l) (hk : k < ws.length) (t : ByteArray) :
    Calls Tryz.prog 59 #[.pointer (some ⟨g, 0, none⟩), .string t] w1 fun r w2 => NeedXL X w w1 g ws (k + 1) d a b c e f nds D nv lv ns l (seesW (tok ws k) t) (tok ws k).at_ (.tuple #[]) r w2 := by
  obtain ⟨⟨f1, h1, hn1, hm1, hx1, hs1, hi1⟩, hk1, hin, hg⟩ := hM
  refine (need_any g ws k d a b c e f1 w1 h1 _ (tok_at hk) t).mono ?_
  intro r w2 h
  cases ho : seesW (tok ws k) t with
  | true =>
    rw [ho] at h
    have hsz := h.2.kept.size
    exact ⟨h.1, ⟨⟨f1, h.2.stm, hn1.kept h.2.kept (fun _ _ h => h), hm1, hx1, hs1.stp h.2.kept (fun _ _ h => .inl (.inl h)), hi1.stp h.2.kept (fun _ _ h => .inl (.inl h))⟩, hk1.trans (h.2.kept.mono fun i _ h => (show Mut g f1 i from .inl h)) hm1, fun i hx => by have := hin i hx; omega, hg⟩,
      fun i hx => h.2.kept.block i (hin i hx).2 (fun e => by have := hin i hx; omega)⟩
  | false =>
    rw [ho] at h
    exact ⟨h.1, hk1.trans (h.2.mono fun i _ h => (show Mut g f1 i from .inl h)) hm1⟩
theorem MdXL.mdel (hM : MdXL X w w1 g ws k d a b c e f nds D nv lv ns l) : MdeL w w1 g ws k d a b c e f nds D nv lv ns l := by
  obtain ⟨⟨f1, h1, hn1, hm1, hx1, hs1, hi1⟩, hk1, hin, hg⟩ := hM
  have hb : ∀ i, i < w1.heap.size → Bad g f1 (Dn D w) i → Bad g f1 (EX X D w) i := fun i _ h => by
    rcases h with h | h
    · exact .inl h
    · exact .inr fun h2 => h h2.1
  exact ⟨⟨f1, h1, hn1.mono (fun _ _ h => h.1), hm1, hs1.kept (Kept.refl _ w1) hb, hi1.kept (Kept.refl _ w1) hb⟩, hk1⟩
/-- a row of one's own, as a list that is held -/
theorem MdX.hold {base : Nat} (hM : MdX X w w1 g ws k d a b c e f nds D) (ho : w1.ownsRow base 3 1 lv l.length (ints3 l)) (hx : ∀ q, lv.ownBlock = some q → X q) : MdeL w w1 g ws k d a b c e f nds D (.slice none 0 0) lv [] l := by
  obtain ⟨⟨f1, h1, hn1, hm1, hx1⟩, hk1, hin, hg⟩ := hM
  refine ⟨⟨f1, h1, hn1.mono (fun _ _ h => h.1), hm1, SSq.nil _ _, ?_⟩, hk1⟩
  rcases Nat.eq_zero_or_pos l.length with h0 | h0
  · obtain rfl := List.length_eq_zero_iff.1 h0
    rcases ho.2 with ⟨rfl, _⟩ | ⟨q, cap, cur, rfl, _⟩
    · exact ISq.nil _ _
    · exact ⟨_, cap, rfl, fun h => absurd h (by simp)⟩
  · obtain ⟨q, n, rfl, hbq, hq, hcell⟩ := own_ints ho h0
    refine ⟨_, n, rfl, fun _ => ⟨q, 0, rfl, hq, fun hb => ?_, fun j x hj => by rw [Nat.zero_add]; exact hcell j x hj⟩⟩
    have hxq := hx q rfl
    rcases hb with hb | hb
    · exact hx1 q hxq hb
    · exact hb (.inr (hin q hxq).1)
end
end Go.Proofs.YtdnpflmlonmgcaaGreatDoor
namespace Go.Proofs.YtdnpflmlonmgcaaGreatDoor
open Go.RowKit

theorem itemN_good {ws : List Wd} (hE : EndW ws) {kd : Nat} (hkd : kd ≠ 7) {sg : ByteArray} {R : Nat → List Nd → Res} (hG : GoodR ws R) {s : List ByteArray} {k : Nat} {nds : List Nd} {v k' : Nat} {nds' : List Nd} {s' : List ByteArray} (h0 : OkP ws k nds) (h : itemN ws kd sg R s k nds = .ok (v, k', nds', s')) :
    k < k' ∧ OkP ws k' nds' ∧ v < nds'.length ∧ nds.length < nds'.length ∧ s'.length = s.length + 1 := by
  by_cases hs : freshOk (tok ws k) kd s = true
  · rw [itemN_yes hs] at h
    have hk : (tok ws k).kind = kd := by
      have := hs
      simp [freshOk] at this
      exact this.1
    split at h
    · cases h
    · rename_i v1 k1 nds1 hr
      simp at h
      obtain ⟨rfl, rfl, rfl, rfl⟩ := h
      obtain ⟨h1, h2, h3, h4⟩ := behindR_ok hE hG sg _ _ _ _ _ ⟨kind_next hE h0.lt hk hkd, h0.room, h0.ok⟩ hr
      exact ⟨by omega, h2, h3, h4, by simp⟩
  · rw [itemN_no (by simpa using hs)] at h
    cases h
theorem listG_good {ws : List Wd} (hE : EndW ws) {kd : Nat} (hkd : kd ≠ 7) {sg : ByteArray} {R : Nat → List Nd → Res} (hG : GoodR ws R) (t : ByteArray) : ∀ (n : Nat) (l : List Nat) (k : Nat) (nds : List Nd) (s : List ByteArray) (l' : List Nat) (k' : Nat) (nds' : List Nd) (s' : List ByteArray),
    OkP ws k nds → listG ws t (itemN ws kd sg R) n l k nds s = .ok (l', k', nds', s') → OkP ws k' nds' ∧ k ≤ k' ∧ nds.length ≤ nds'.length ∧ l'.length + s.length = l.length + s'.length ∧ l.length ≤ l'.length ∧ (l.length ≤ 16 → l'.length ≤ 16)
  | 0, _, _, _, _, _, _, _, _, _, h => by simp [listG] at h
  | n + 1, l, k, nds, s, l', k', nds', s', h0, h => by
    rw [listG] at h
    split at h
    · rename_i hs
      split at h
      · cases h
      · split at h
        · cases h
        · rename_i h16 v k1 nds1 s1 hr
          obtain ⟨q1, q2, q3, q4, q5⟩ := itemN_good hE hkd hG ⟨sees_next hE h0.lt hs, h0.room, h0.ok⟩ hr
          obtain ⟨p1, p2, p3, p4, p5, p6⟩ := listG_good hE hkd hG t n _ _ _ _ _ _ _ _ q2 h
          rw [List.length_append, List.length_singleton] at p4 p5 p6
          exact ⟨p1, by omega, by omega, by omega, by omega, fun _ => p6 (by omega)⟩
    · simp at h
      obtain ⟨rfl, rfl, rfl, rfl⟩ := h
      exact ⟨h0, Nat.le_refl _, Nat.le_refl _, rfl, Nat.le_refl _, fun h => h⟩
theorem namedR_good {ws : List Wd} (hE : EndW ws) {kd : Nat} (hkd : kd ≠ 7) {sg : ByteArray} {R : Nat → List Nd → Res} (hG : GoodR ws R) {k : Nat} {nds : List Nd} {l : List Nat} {k' : Nat} {nds' : List Nd} {ns : List ByteArray} (h0 : OkP ws k nds) (h : namedR ws kd sg R k nds = .ok (l, k', nds', ns)) :
    OkP ws k' nds' ∧ k < k' ∧ nds.length < nds'.length ∧ ns.length = l.length ∧ l.length ≤ 16 := by
  rw [namedR, listS] at h
  split at h
  · cases h
  · rename_i v k1 nds1 s1 hr
    obtain ⟨q1, q2, q3, q4, q5⟩ := itemN_good hE hkd hG h0 hr
    obtain ⟨p1, p2, p3, p4, p5, p6⟩ := listG_good hE hkd hG _ _ _ _ _ _ _ _ _ _ q2 h
    simp at p4 p5 p6 q5
    exact ⟨p1, by omega, by omega, by omega, p6⟩

set_option maxRecDepth 100000 in
set_option maxHeartbeats 4000000 in
theorem record_any (F : FuncId) (kind : Nat) (g : Nat) (ws : List Wd) (hE : EndW ws) (d : Nat) (a b c e : Value) (R : Nat → List Nd → Res) (hR : Rule F g ws d a b c e R (OkP ws)) (hG : GoodR ws R)
    (w : World) (f : Value) (k : Nat) (nds : List Nd) (D : Nat → Prop) (h : Stm w g ws k d a b c e f) (hn : Nds w g f nds D) (hok : OkP ws k nds) :
    Calls Tryz.prog 103 #[.pointer (some ⟨g, 0, none⟩), .int .i64 (kind : Int), .func (.func F) #[.pointer (some ⟨g, 0, none⟩)] #[]] w fun r w' => Out w g ws d a b c e f D (recordR ws kind R k nds) r w' := by
  have HX := Lib.hid (MdX.start h hn)
  have HOK := Lib.hid hok
  have HR := Lib.hid hR
  have HG := Lib.hid hG
  have HE := Lib.hid hE
  have hlt := hok.lt
  have hrm := hok.room
  have hmf : ∀ (fn : Fn) (first cap : Array Value) (w : World), (Instr.makeFunc fn first cap).run Tryz.prog w = .ok (.func fn first cap) w := fun _ _ _ _ => rfl
  clear h hn hok hR hG hE
  go_enter Tryz.func103, Tryz.ntmps103
  go_wp2_with fail
  have hx1 := HX.out.new (.cells #[.int .i64 (kind : Int), .int .i64 0, .string ⟨#[]⟩, .string ⟨#[]⟩, .slice none 0 0, .slice none 0 0] 37)
  have hb1 := Blk.new w 37 #[.int .i64 (kind : Int), .int .i64 0, .string ⟨#[]⟩, .string ⟨#[]⟩, .slice none 0 0, .slice none 0 0]
  generalize hN : w.heap.size = N at hx1 hb1 ⊢
  generalize hw1 : w.alloc (.cells #[.int .i64 (kind : Int), .int .i64 0, .string ⟨#[]⟩, .string ⟨#[]⟩, .slice none 0 0, .slice none 0 0] 37) = w1 at hx1 hb1 ⊢
  have HX1 := Lib.hid hx1
  have HB1 := Lib.hid hb1
  clear hw1 hx1 hb1 HX
  refine (HX1.out.need_ hlt ⟨#[123]⟩).mono ?_
  intro r w2 hr
  by_cases hs : seesW (tok ws k) ⟨#[123]⟩ = true
  · rw [hs] at hr
    obtain ⟨rfl, hx2, hsm2⟩ := hr
    have HX2 := Lib.hid hx2
    have hb2 := hsm2.blk (.inr rfl) HB1.out
    have HB2 := Lib.hid hb2
    have hlt1 := sees_next HE.out hlt hs
    have HS := Lib.hid hs
    clear hs hx2 hsm2 hb2
    go_wp2_with fail
    refine (HX2.out.sees_ hlt1 ⟨#[125]⟩).mono ?_
    rintro r w3 ⟨rfl, hx3, hsm3⟩
    have HX3 := Lib.hid hx3
    have HB3 := Lib.hid (hsm3.blk (.inr rfl) HB2.out)
    clear hx3 hsm3
    by_cases hs : seesW (tok ws (k + 1)) ⟨#[125]⟩ = true
    · rw [hs]
      have hlt2 := sees_next HE.out hlt1 hs
      have HS1 := Lib.hid hs
      clear hs
      go_wp2_with fail
      refine (HX3.out.need_ hlt1 ⟨#[125]⟩).mono ?_
      intro r w4 hr
      rw [HS1.out] at hr
      obtain ⟨rfl, hx4, hsm4⟩ := hr
      have HX4 := Lib.hid hx4
      have hb4 := hsm4.blk (.inr rfl) HB3.out
      have z0 := hb4.cell 0
      have z1 := hb4.cell 1
      have z2 := hb4.cell 2
      have z3 := hb4.cell 3
      have z4 := hb4.cell 4
      have z5 := hb4.cell 5
      simp at z0 z1 z2 z3 z4 z5
      clear hx4 hsm4 hb4
      go_wp2_with fail
      refine (HX4.out.mde.add0_from hlt1 hrm kind 0 ⟨#[]⟩ ⟨#[]⟩).mono ?_
      intro r w5 ho
      have HU : Hid (recordR ws kind R k nds = addR ws (k + 2) nds ⟨kind, 0, ⟨#[]⟩, ⟨#[]⟩, [], []⟩) := by show _ = _; rw [recordR, if_pos HS.out, if_pos HS1.out]
      rcases hres : addR ws (k + 2) nds ⟨kind, 0, ⟨#[]⟩, ⟨#[]⟩, [], []⟩ with ⟨at_, er⟩ | ⟨v, k', nds'⟩
      · rw [hres] at ho
        obtain ⟨rfl, hk5⟩ := ho
        exact And.intro rfl (Out.err (by rw [HU.out, hres]) hk5)
      · rw [hres] at ho
        obtain ⟨rfl, hm5⟩ := ho
        have HM5 := Lib.hid hm5
        have HRES := Lib.hid hres
        clear hres hm5
        go_wp2_with fail
        go_ret
        exact Out.done (by rw [HU.out, HRES.out]) HM5.out
    · have hs2 : seesW (tok ws (k + 1)) ⟨#[125]⟩ = false := by simpa using hs
      rw [hs2]
      have HS1 := Lib.hid hs2
      have hok1 : OkP ws (k + 1) nds := ⟨hlt1, hrm, HOK.out.ok⟩
      clear hs hs2
      go_wp2_with fail
      refine (HX3.out.named_ name_rule (by decide) HE.out ⟨#[58]⟩ HR.out HG.out hok1).mono ?_
      intro r w4 ho
      rcases hres : namedR ws 1 ⟨#[58]⟩ R (k + 1) nds with ⟨at_, er⟩ | ⟨l, k1, nds1, ns⟩
      · rw [hres] at ho
        obtain ⟨rfl, hk4⟩ := ho
        refine And.intro rfl (Out.err ?_ hk4)
        rw [recordR, if_pos HS.out, if_neg (by rw [HS1.out]; simp), hres]
      · rw [hres] at ho
        obtain ⟨nv, lv, rfl, hx4, hsm4⟩ := ho
        obtain ⟨hok4, hk1p, -, -, -⟩ := namedR_good HE.out (by decide) HG.out hok1 hres
        have hlt4 := hok4.lt
        have hrm4 := hok4.room
        obtain ⟨NA, ncap, rfl⟩ : ∃ A n, nv = .slice A ns.length n := by obtain ⟨⟨f4, _, _, _, _, ⟨NA, ncap, h, _⟩, _⟩, _⟩ := hx4; exact ⟨NA, ncap, h⟩
        obtain ⟨LA, lcap, rfl⟩ : ∃ A n, lv = .slice A l.length n := by obtain ⟨⟨f4, _, _, _, _, _, ⟨LA, lcap, h, _⟩⟩, _⟩ := hx4; exact ⟨LA, lcap, h⟩
        have hb4 := hsm4.blk (.inr rfl) HB3.out
        have y4 := hb4.frozen 4
        have y5 := hb4.frozen 5
        have hb5 := (hb4.set_ 4 (.slice NA ns.length ncap)).set_ 5 (.slice LA l.length lcap)
        simp at hb5
        have HX5 := Lib.hid ((hx4.put (N := N) (.inr rfl) 4 (.slice NA ns.length ncap)).put (N := N) (.inr rfl) 5 (.slice LA l.length lcap))
        have HB5 := Lib.hid hb5
        have HRES := Lib.hid hres
        have z4 := hb4.cell 4
        have z5 := hb4.cell 5
        simp at z4 z5
        clear hx4 hsm4 hb4 hb5 hres hok4
        go_wp2_with fail
        generalize hw5 : (w4.setCell ⟨N, 4, none⟩ (.slice NA ns.length ncap)).setCell ⟨N, 5, none⟩ (.slice LA l.length lcap) = w5 at HX5 HB5 ⊢
        clear hw5 z4 z5 y4 y5
        refine (HX5.out.need_ hlt4 ⟨#[125]⟩).mono ?_
        intro r w6 hr
        by_cases hs : seesW (tok ws k1) ⟨#[125]⟩ = true
        · rw [hs] at hr
          obtain ⟨rfl, hx6, hsm6⟩ := hr
          have HX6 := Lib.hid hx6
          have hb6 := hsm6.blk (.inr rfl) HB5.out
          have z0 := hb6.cell 0
          have z1 := hb6.cell 1
          have z2 := hb6.cell 2
          have z3 := hb6.cell 3
          have z4 := hb6.cell 4
          have z5 := hb6.cell 5
          simp at z0 z1 z2 z3 z4 z5
          have HS6 := Lib.hid hs
          clear hx6 hsm6 hb6 hs
          go_wp2_with fail
          refine (HX6.out.mdel.add_from hlt4 hrm4 kind 0 ⟨#[]⟩ ⟨#[]⟩).mono ?_
          intro r w7 ho
          have HU : Hid (recordR ws kind R k nds = addR ws (k1 + 1) nds1 ⟨kind, 0, ⟨#[]⟩, ⟨#[]⟩, ns, l⟩) := by
            show _ = _
            rw [recordR, if_pos HS.out, if_neg (by rw [HS1.out]; simp), HRES.out]
            simp only [HS6.out, if_true]
          rcases hres : addR ws (k1 + 1) nds1 ⟨kind, 0, ⟨#[]⟩, ⟨#[]⟩, ns, l⟩ with ⟨at_, er⟩ | ⟨v, k', nds'⟩
          · rw [hres] at ho
            obtain ⟨rfl, hk5⟩ := ho
            exact And.intro rfl (Out.err (by rw [HU.out, hres]) hk5)
          · rw [hres] at ho
            obtain ⟨rfl, hm5⟩ := ho
            have HM5 := Lib.hid hm5
            have HRES := Lib.hid hres
            clear hres hm5
            go_wp2_with fail
            go_ret
            exact Out.done (by rw [HU.out, HRES.out]) HM5.out
        · have hs2 : seesW (tok ws k1) ⟨#[125]⟩ = false := by simpa using hs
          rw [hs2] at hr
          obtain ⟨rfl, hk6⟩ := hr
          refine And.intro rfl (Out.err ?_ hk6)
          rw [recordR, if_pos HS.out, if_neg (by rw [HS1.out]; simp), HRES.out]
          simp only [hs2]
          rfl
  · have hs2 : seesW (tok ws k) ⟨#[123]⟩ = false := by simpa using hs
    rw [hs2] at hr
    obtain ⟨rfl, hk2⟩ := hr
    exact And.intro rfl (Out.err (by rw [recordR, if_neg hs]) hk2)
end Go.Proofs.YtdnpflmlonmgcaaGreatDoor
namespace Go.Proofs.YtdnpflmlonmgcaaGreatDoor
open Go.RowKit

set_option maxRecDepth 100000 in
set_option maxHeartbeats 4000000 in
theorem part_any (g : Nat) (ws : List Wd) (hE : EndW ws) (d : Nat) (a b c e : Value) (R : Nat → List Nd → Res) (hR : Rule 85 g ws d a b c e R (OkP ws)) (hG : GoodR ws R)
    (w : World) (f : Value) (k : Nat) (nds : List Nd) (D : Nat → Prop) (h : Stm w g ws k d a b c e f) (hn : Nds w g f nds D) (hok : OkP ws k nds) :
    Calls Tryz.prog 100 #[.pointer (some ⟨g, 0, none⟩)] w fun r w' => Out w g ws d a b c e f D (partR ws R k nds) r w' := by
  have HM0 := Lib.hid (Mde.refl h hn)
  have HOK := Lib.hid hok
  have HR := Lib.hid hR
  have HG := Lib.hid hG
  have HE := Lib.hid hE
  have hlt := hok.lt
  have hrm := hok.room
  have hmf : ∀ (fn : Fn) (first cap : Array Value) (w : World), (Instr.makeFunc fn first cap).run Tryz.prog w = .ok (.func fn first cap) w := fun _ _ _ _ => rfl
  clear h hn hok hR hG hE
  go_enter Tryz.func100, Tryz.ntmps100
  go_wp2_with fail

  refine (HM0.out.has_from hlt 4).mono ?_
  rintro r w1 ⟨rfl, hm⟩
  have HMw1 := Lib.hid hm
  clear hm
  by_cases hs : decide ((tok ws k).kind = 4) = true
  · rw [hs]
    have HSw1 := Lib.hid hs
    clear hs
    have f1 := field_word1 (tok ws k)
    go_wp2_with fail

    refine (HMw1.out.word_from hlt 4).mono ?_
    intro r w2 hr
    by_cases hs : decide ((tok ws k).kind = 4) = true
    · rw [hs] at hr
      obtain ⟨rfl, hm⟩ := hr
      have HMw2 := Lib.hid hm
      have HSw2 := Lib.hid hs
      clear hs hm
      go_wp2_with fail

      refine (HMw2.out.add0_from hlt hrm 5 0 ⟨#[]⟩ (tok ws k).text).mono ?_
      intro r w3 ho
      have HU : Hid (partR ws R k nds = addR ws (k + 1) nds ⟨5, 0, ⟨#[]⟩, (tok ws k).text, [], []⟩) := by
        show _ = _
        rw [partR, if_pos (by simpa using HSw1.out)]
      rcases hres : addR ws (k + 1) nds ⟨5, 0, ⟨#[]⟩, (tok ws k).text, [], []⟩ with ⟨at_, er⟩ | ⟨v, k', nds'⟩
      · rw [hres] at ho
        obtain ⟨rfl, hk9⟩ := ho
        exact And.intro rfl (Out.err (by rw [HU.out, hres]) hk9)
      · rw [hres] at ho
        obtain ⟨rfl, hm9⟩ := ho
        have HM9 := Lib.hid hm9
        have HRES9 := Lib.hid hres
        clear hres hm9
        go_wp2_with fail
        go_ret
        exact Out.done (by rw [HU.out, HRES9.out]) HM9.out
    · have hs2 : decide ((tok ws k).kind = 4) = false := by simpa using hs
      rw [hs2] at hr
      obtain ⟨rfl, hk9⟩ := hr
      refine And.intro rfl (Out.err ?_ hk9)
      exact absurd HSw1.out hs
  · have hs2 : decide ((tok ws k).kind = 4) = false := by simpa using hs
    rw [hs2]
    have HSw1 := Lib.hid hs2
    clear hs hs2
    go_wp2_with fail

    refine (HMw1.out.has_from hlt 2).mono ?_
    rintro r w2 ⟨rfl, hm⟩
    have HMw2 := Lib.hid hm
    clear hm
    by_cases hs : decide ((tok ws k).kind = 2) = true
    · rw [hs]
      have HSw2 := Lib.hid hs
      clear hs
      go_wp2_with fail

      refine (HMw2.out.typeName_from hlt).mono ?_
      intro r w3 hr
      by_cases hs : decide ((tok ws k).kind = 2) = true
      · rw [hs] at hr
        obtain ⟨rfl, hm⟩ := hr
        have HMw3 := Lib.hid hm
        have HSw3 := Lib.hid hs
        clear hs hm
        go_wp2_with fail

        refine (HMw3.out.add0_from hlt hrm 6 0 ⟨#[]⟩ (tok ws k).text).mono ?_
        intro r w4 ho
        have HU : Hid (partR ws R k nds = addR ws (k + 1) nds ⟨6, 0, ⟨#[]⟩, (tok ws k).text, [], []⟩) := by
          show _ = _
          rw [partR, if_neg (by simpa using HSw1.out), if_pos (by simpa using HSw2.out)]
        rcases hres : addR ws (k + 1) nds ⟨6, 0, ⟨#[]⟩, (tok ws k).text, [], []⟩ with ⟨at_, er⟩ | ⟨v, k', nds'⟩
        · rw [hres] at ho
          obtain ⟨rfl, hk9⟩ := ho
          exact And.intro rfl (Out.err (by rw [HU.out, hres]) hk9)
        · rw [hres] at ho
          obtain ⟨rfl, hm9⟩ := ho
          have HM9 := Lib.hid hm9
          have HRES9 := Lib.hid hres
          clear hres hm9
          go_wp2_with fail
          go_ret
          exact Out.done (by rw [HU.out, HRES9.out]) HM9.out
      · have hs2 : decide ((tok ws k).kind = 2) = false := by simpa using hs
        rw [hs2] at hr
        obtain ⟨rfl, hk9⟩ := hr
        refine And.intro rfl (Out.err ?_ hk9)
        exact absurd HSw2.out hs
    · have hs2 : decide ((tok ws k).kind = 2) = false := by simpa using hs
      rw [hs2]
      have HSw2 := Lib.hid hs2
      clear hs hs2
      go_wp2_with fail

      refine (HMw2.out.has_from hlt 1).mono ?_
      rintro r w3 ⟨rfl, hm⟩
      have HMw3 := Lib.hid hm
      clear hm
      by_cases hs : decide ((tok ws k).kind = 1) = true
      · rw [hs]
        have HSw3 := Lib.hid hs
        clear hs
        go_wp2_with fail

        refine (HMw3.out.name_from hlt).mono ?_
        intro r w4 hr
        by_cases hs : decide ((tok ws k).kind = 1) = true
        · rw [hs] at hr
          obtain ⟨rfl, hm⟩ := hr
          have HMw4 := Lib.hid hm
          have HSw4 := Lib.hid hs
          clear hs hm
          have hlt1 : k + 1 < ws.length := kind_next HE.out hlt (kd := 1) (by simpa using HSw3.out) (by decide)
          go_wp2_with fail

          refine (HMw4.out.need_from hlt1 ⟨#[58, 58]⟩).mono ?_
          intro r w5 hr
          by_cases hs : seesW (tok ws (k + 1)) ⟨#[58, 58]⟩ = true
          · rw [hs] at hr
            obtain ⟨rfl, hm⟩ := hr
            have HMw5 := Lib.hid hm
            have HSw5 := Lib.hid hs
            clear hs hm
            have hlt2 : k + 2 < ws.length := sees_next HE.out hlt1 HSw5.out
            go_wp2_with fail

            refine (HMw5.out.typeName_from hlt2).mono ?_
            intro r w6 hr
            by_cases hs : decide ((tok ws (k + 2)).kind = 2) = true
            · rw [hs] at hr
              obtain ⟨rfl, hm⟩ := hr
              have HMw6 := Lib.hid hm
              have HSw6 := Lib.hid hs
              clear hs hm
              go_wp2_with fail

              refine (HMw6.out.add0_from hlt2 hrm 6 0 (tok ws k).text (tok ws (k + 2)).text).mono ?_
              intro r w7 ho
              have HU : Hid (partR ws R k nds = addR ws (k + 3) nds ⟨6, 0, (tok ws k).text, (tok ws (k + 2)).text, [], []⟩) := by
                show _ = _
                rw [partR, if_neg (by simpa using HSw1.out), if_neg (by simpa using HSw2.out), if_pos (by simpa using HSw3.out), if_pos HSw5.out, if_pos (by simpa using HSw6.out)]
              rcases hres : addR ws (k + 3) nds ⟨6, 0, (tok ws k).text, (tok ws (k + 2)).text, [], []⟩ with ⟨at_, er⟩ | ⟨v, k', nds'⟩
              · rw [hres] at ho
                obtain ⟨rfl, hk9⟩ := ho
                exact And.intro rfl (Out.err (by rw [HU.out, hres]) hk9)
              · rw [hres] at ho
                obtain ⟨rfl, hm9⟩ := ho
                have HM9 := Lib.hid hm9
                have HRES9 := Lib.hid hres
                clear hres hm9
                go_wp2_with fail
                go_ret
                exact Out.done (by rw [HU.out, HRES9.out]) HM9.out
            · have hs2 : decide ((tok ws (k + 2)).kind = 2) = false := by simpa using hs
              rw [hs2] at hr
              obtain ⟨rfl, hk9⟩ := hr
              refine And.intro rfl (Out.err ?_ hk9)
              rw [partR, if_neg (by simpa using HSw1.out), if_neg (by simpa using HSw2.out), if_pos (by simpa using HSw3.out), if_pos HSw5.out, if_neg (by simpa using hs2)]
          · have hs2 : seesW (tok ws (k + 1)) ⟨#[58, 58]⟩ = false := by simpa using hs
            rw [hs2] at hr
            obtain ⟨rfl, hk9⟩ := hr
            refine And.intro rfl (Out.err ?_ hk9)
            rw [partR, if_neg (by simpa using HSw1.out), if_neg (by simpa using HSw2.out), if_pos (by simpa using HSw3.out), if_neg (by simpa using hs2)]
        · have hs2 : decide ((tok ws k).kind = 1) = false := by simpa using hs
          rw [hs2] at hr
          obtain ⟨rfl, hk9⟩ := hr
          refine And.intro rfl (Out.err ?_ hk9)
          exact absurd HSw3.out hs
      · have hs2 : decide ((tok ws k).kind = 1) = false := by simpa using hs
        rw [hs2]
        have HSw3 := Lib.hid hs2
        clear hs hs2
        go_wp2_with fail

        refine (HMw3.out.sees_from hlt ⟨#[123]⟩).mono ?_
        rintro r w4 ⟨rfl, hm⟩
        have HMw4 := Lib.hid hm
        clear hm
        by_cases hs : seesW (tok ws k) ⟨#[123]⟩ = true
        · rw [hs]
          have HSw4 := Lib.hid hs
          clear hs
          go_wp2_with fail
          obtain ⟨⟨f4, h4, hn4, ht4⟩, hk4⟩ := HMw4.out
          have H4 := Lib.hid h4
          have HN4 := Lib.hid hn4
          have HT4 := Lib.hid ht4
          have HK4 := Lib.hid hk4
          clear h4 hn4 ht4 hk4

          refine ((record_any _ 7 g ws HE.out d a b c e R HR.out HG.out w4 f4 k nds _ H4.out HN4.out HOK.out).mono fun _ _ ho => Out.behind HK4.out HT4.out ho).mono ?_
          intro r w5 ho
          have HU : Hid (partR ws R k nds = recordR ws 7 R k nds) := by
            show _ = _
            rw [partR, if_neg (by simpa using HSw1.out), if_neg (by simpa using HSw2.out), if_neg (by simpa using HSw3.out), if_pos HSw4.out]
          rcases hres : recordR ws 7 R k nds with ⟨at_, er⟩ | ⟨v, k', nds'⟩
          · rw [hres] at ho
            obtain ⟨rfl, hk9⟩ := ho
            exact And.intro rfl (Out.err (by rw [HU.out, hres]) hk9)
          · rw [hres] at ho
            obtain ⟨rfl, hm9⟩ := ho
            have HM9 := Lib.hid hm9
            have HRES9 := Lib.hid hres
            clear hres hm9
            go_wp2_with fail
            go_ret
            exact Out.done (by rw [HU.out, HRES9.out]) HM9.out
        · have hs2 : seesW (tok ws k) ⟨#[123]⟩ = false := by simpa using hs
          rw [hs2]
          have HSw4 := Lib.hid hs2
          clear hs hs2
          go_wp2_with fail

          refine (HMw4.out.sees_from hlt ⟨#[40]⟩).mono ?_
          rintro r w5 ⟨rfl, hm⟩
          have HMw5 := Lib.hid hm
          clear hm
          by_cases hs : seesW (tok ws k) ⟨#[40]⟩ = true
          · rw [hs]
            have HSw5 := Lib.hid hs
            clear hs
            go_wp2_with fail

            refine (HMw5.out.behind_from HR.out hlt ⟨#[40]⟩ (fun hs => ⟨sees_next HE.out hlt hs, hrm, HOK.out.ok⟩)).mono ?_
            intro r w6 ho
            rcases hres : behindR ws ⟨#[40]⟩ R k nds with ⟨at_, er⟩ | ⟨vw6, kw6, nw6⟩
            · rw [hres] at ho
              obtain ⟨rfl, hk9⟩ := ho
              refine And.intro rfl (Out.err ?_ hk9)
              rw [partR, if_neg (by simpa using HSw1.out), if_neg (by simpa using HSw2.out), if_neg (by simpa using HSw3.out), if_neg (by rw [HSw4.out]; simp), if_pos HSw5.out, hres]
            · rw [hres] at ho
              obtain ⟨rfl, hm⟩ := ho
              have HMw6 := Lib.hid hm
              have HRw6 := Lib.hid hres
              have hok6 := (behindR_ok HE.out HG.out ⟨#[40]⟩ _ _ _ _ _ HOK.out hres).2.1
              clear hres hm
              go_wp2_with fail

              refine (HMw6.out.need_from hok6.lt ⟨#[41]⟩).mono ?_
              intro r w7 hr
              by_cases hs : seesW (tok ws kw6) ⟨#[41]⟩ = true
              · rw [hs] at hr
                obtain ⟨rfl, hm⟩ := hr
                have HMw7 := Lib.hid hm
                have HSw7 := Lib.hid hs
                clear hs hm
                go_wp2_with fail
                go_ret
                refine Out.done ?_ HMw7.out
                rw [partR, if_neg (by simpa using HSw1.out), if_neg (by simpa using HSw2.out), if_neg (by simpa using HSw3.out), if_neg (by rw [HSw4.out]; simp), if_pos HSw5.out, HRw6.out]
                simp only [HSw7.out, if_true]
              · have hs2 : seesW (tok ws kw6) ⟨#[41]⟩ = false := by simpa using hs
                rw [hs2] at hr
                obtain ⟨rfl, hk9⟩ := hr
                refine And.intro rfl (Out.err ?_ hk9)
                rw [partR, if_neg (by simpa using HSw1.out), if_neg (by simpa using HSw2.out), if_neg (by simpa using HSw3.out), if_neg (by rw [HSw4.out]; simp), if_pos HSw5.out, HRw6.out]
                simp only [hs2]
                rfl
          · have hs2 : seesW (tok ws k) ⟨#[40]⟩ = false := by simpa using hs
            rw [hs2]
            have HSw5 := Lib.hid hs2
            clear hs hs2
            go_wp2_with fail

            refine (HMw5.out.keyword_from hlt hrm type_kinds).mono ?_
            intro r w6 ho
            have HU : Hid (partR ws R k nds = keywordR ws typK k nds) := by
              show _ = _
              rw [partR, if_neg (by simpa using HSw1.out), if_neg (by simpa using HSw2.out), if_neg (by simpa using HSw3.out), if_neg (by rw [HSw4.out]; simp), if_neg (by rw [HSw5.out]; simp)]
            rcases hres : keywordR ws typK k nds with ⟨at_, er⟩ | ⟨v, k', nds'⟩
            · rw [hres] at ho
              obtain ⟨rfl, hk9⟩ := ho
              exact And.intro rfl (Out.err (by rw [HU.out, hres]) hk9)
            · rw [hres] at ho
              obtain ⟨rfl, hm9⟩ := ho
              have HM9 := Lib.hid hm9
              have HRES9 := Lib.hid hres
              clear hres hm9
              go_wp2_with fail
              go_ret
              exact Out.done (by rw [HU.out, HRES9.out]) HM9.out
end Go.Proofs.YtdnpflmlonmgcaaGreatDoor
namespace Go.Proofs.YtdnpflmlonmgcaaGreatDoor
open Go.RowKit

theorem keywordR_good {ws : List Wd} (hE : EndW ws) {K : ByteArray → Nat} (hK : ∀ t, K t ≠ 18) : GoodR ws (keywordR ws K) := by
  intro k nds v k' nds' h0 h
  rw [keywordR] at h
  split at h
  · cases h
  · split at h
    · rename_i h5
      obtain ⟨rfl, h2, h3, h4⟩ := addR_good (kind_next hE h0.lt h5 (by decide)) h0.room h0.ok (fun h => absurd h (hK _)) h
      exact ⟨by omega, h2, h3, h4⟩
    · cases h
theorem typK_ne (t : ByteArray) : typK t ≠ 18 := by unfold typK; (repeat' split) <;> decide
theorem conK_ne (t : ByteArray) : conK t ≠ 18 := by unfold conK; (repeat' split) <;> decide
theorem add_good {ws : List Wd} {k k0 : Nat} {nds nds0 : List Nd} {x : Nd} {v k' : Nat} {nds' : List Nd} (hk : k < ws.length) (hkk : k0 < k) (h0 : OkP ws k0 nds) (hx : x.kind ≠ 18) (hnn : nds0.length ≤ nds.length)
    (h : addR ws k nds x = .ok (v, k', nds')) : k0 < k' ∧ OkP ws k' nds' ∧ v < nds'.length ∧ nds0.length < nds'.length := by
  obtain ⟨rfl, h2, h3, h4⟩ := addR_good hk h0.room h0.ok (fun h => absurd h hx) h
  exact ⟨hkk, h2, h3, by omega⟩
theorem recordR_good {ws : List Wd} (hE : EndW ws) {kind : Nat} (hkd : kind ≠ 18) {R : Nat → List Nd → Res} (hG : GoodR ws R) : GoodR ws (recordR ws kind R) := by
  intro k nds v k' nds' h0 h
  rw [recordR] at h
  split at h
  · rename_i hs
    have h1 := sees_next hE h0.lt hs
    split at h
    · rename_i hs1
      exact add_good (sees_next hE h1 hs1) (by omega) h0 hkd (Nat.le_refl _) h
    · split at h
      · cases h
      · rename_i l k1 nds1 ns hr
        obtain ⟨q1, q2, q3, _, _⟩ := namedR_good hE (by decide) hG ⟨h1, h0.room, h0.ok⟩ hr
        split at h
        · rename_i hs2
          have h2 := sees_next hE q1.lt hs2
          obtain ⟨p1, p2, p3, p4⟩ := add_good h2 (k0 := k1) (by omega) q1 hkd (Nat.le_of_lt q3) h
          exact ⟨by omega, p2, p3, p4⟩
        · cases h
  · cases h
theorem partR_good {ws : List Wd} (hE : EndW ws) {R : Nat → List Nd → Res} (hG : GoodR ws R) : GoodR ws (partR ws R) := by
  intro k nds v k' nds' h0 h
  rw [partR] at h
  split at h
  · rename_i h4
    exact add_good (kind_next hE h0.lt h4 (by decide)) (by omega) h0 (show 5 ≠ 18 by decide) (Nat.le_refl _) h
  split at h
  · rename_i h2
    exact add_good (kind_next hE h0.lt h2 (by decide)) (by omega) h0 (show 6 ≠ 18 by decide) (Nat.le_refl _) h
  split at h
  · rename_i h1
    have l1 := kind_next hE h0.lt h1 (by decide)
    split at h
    · rename_i hs
      have l2 := sees_next hE l1 hs
      split at h
      · rename_i h3
        exact add_good (kind_next hE l2 h3 (by decide)) (by omega) h0 (show 6 ≠ 18 by decide) (Nat.le_refl _) h
      · cases h
    · cases h
  split at h
  · exact recordR_good hE (by decide) hG _ _ _ _ _ h0 h
  split at h
  · rename_i hs
    split at h
    · cases h
    · rename_i v1 k1 nds1 hr
      obtain ⟨q1, q2, q3, q4⟩ := behindR_ok hE hG _ _ _ _ _ _ h0 hr
      split at h
      · rename_i hs1
        simp at h
        obtain ⟨rfl, rfl, rfl⟩ := h
        exact ⟨by omega, ⟨sees_next hE q2.lt hs1, q2.room, q2.ok⟩, q3, q4⟩
      · cases h
  · exact keywordR_good hE typK_ne _ _ _ _ _ h0 h
theorem typeR_good {ws : List Wd} (hE : EndW ws) : ∀ m, GoodR ws (typeR ws m)
  | 0 => fun k nds v k' nds' _ h => by rw [typeR] at h; cases h
  | m + 1 => fun k nds v k' nds' h0 h => by rw [typeR] at h; exact unionR_good hE (partR_good hE (typeR_good hE m)) _ _ _ _ _ h0 h

set_option maxRecDepth 100000 in
theorem aType_any (g : Nat) (ws : List Wd) (d : Nat) (a b c e : Value) (R : Nat → List Nd → Res) (hd : d ≤ 60) (hR : d < 60 → Rule 96 g ws (d + 1) a b c e R (OkP ws))
    (w : World) (f : Value) (k : Nat) (nds : List Nd) (D : Nat → Prop) (h : Stm w g ws k d a b c e f) (hn : Nds w g f nds D) (hok : OkP ws k nds) :
    Calls Tryz.prog 85 #[.pointer (some ⟨g, 0, none⟩)] w fun r w' => Out w g ws d a b c e f D (deeperR ws d R k nds) r w' := by
  have H := Lib.hid h
  have HN := Lib.hid hn
  have HOK := Lib.hid hok
  have HR := Lib.hid hR
  have hmf : ∀ (fn : Fn) (first cap : Array Value) (w : World), (Instr.makeFunc fn first cap).run Tryz.prog w = .ok (.func fn first cap) w := fun _ _ _ _ => rfl
  clear h hn hok hR
  go_enter Tryz.func85, Tryz.ntmps85
  go_wp2_with fail
  refine (deeper_any _ g ws d a b c e R (OkP ws) hd HR.out w f k nds D H.out HN.out HOK.out.lt HOK.out).mono ?_
  intro r w1 ho
  rcases hres : deeperR ws d R k nds with ⟨at_, er⟩ | ⟨v, k', nds'⟩
  · rw [hres] at ho
    obtain ⟨rfl, hk9⟩ := ho
    exact And.intro rfl (Out.err hres hk9)
  · rw [hres] at ho
    obtain ⟨rfl, hm9⟩ := ho
    have HM9 := Lib.hid hm9
    have HR9 := Lib.hid hres
    clear hres hm9
    go_wp2_with fail
    go_ret
    exact Out.done HR9.out HM9.out
/-- the rule of types at a depth -/
theorem aType_rule {ws : List Wd} (hE : EndW ws) (g : Nat) (a b c e : Value) : ∀ (m d : Nat), d + m = 60 → Rule 85 g ws d a b c e (typeR ws m) (OkP ws)
  | 0, d, hd => by
    obtain rfl : d = 60 := by omega
    refine ⟨fun _ _ => by simp [go_sem], fun w f k nds D h hn hok => ?_⟩
    have := aType_any g ws 60 a b c e (fun _ _ => .error (0, 0)) (Nat.le_refl _) (fun h => absurd h (by omega)) w f k nds D h hn hok
    rw [deeperR, if_pos rfl] at this
    exact this
  | m + 1, d, hd => by
    have ih := aType_rule hE g a b c e m (d + 1) (by omega)
    refine ⟨fun _ _ => by simp [go_sem], fun w f k nds D h hn hok => ?_⟩
    have hpart : Rule 100 g ws (d + 1) a b c e (partR ws (typeR ws m)) (OkP ws) := ⟨fun _ _ => by simp [go_sem], fun w f k nds D h hn hok => part_any g ws hE (d + 1) a b c e _ ih (typeR_good hE m) w f k nds D h hn hok⟩
    have hunion : Rule 96 g ws (d + 1) a b c e (unionR ws (partR ws (typeR ws m))) (OkP ws) := ⟨fun _ _ => by simp [go_sem], fun w f k nds D h hn hok => union_any g ws (d + 1) a b c e _ _ hpart (okR_of hE (partR_good hE (typeR_good hE m))) w f k nds D h hn hok⟩
    have := aType_any g ws d a b c e _ (by omega) (fun _ => hunion) w f k nds D h hn hok
    rw [deeperR, if_neg (by omega)] at this
    exact this
end Go.Proofs.YtdnpflmlonmgcaaGreatDoor
namespace Go.Proofs.YtdnpflmlonmgcaaGreatDoor
open Go.RowKit

/-- texts of tokens are no longer than texts may be -/
def TextW (ws : List Wd) : Prop := ∀ k, (tok ws k).text.size ≤ 70000
def ShapeM (w : World) (g : Nat) (ws : List Wd) (k d : Nat) (a b c e f : Value) (nds : List Nd) (D : Nat → Prop) (o : Option ByteArray) (at_ : Nat) (r : Ending) (w' : World) : Prop :=
  match o with
  | some t => r = .returned (.string t) ∧ Mde w w' g ws (k + 1) d a b c e f nds D
  | none => r = .panicked (faultP at_ 30) ∧ Kept (Mut g f) w w'
theorem ShapeM.yes {w : World} {g : Nat} {ws : List Wd} {k d : Nat} {a b c e f : Value} {nds : List Nd} {D : Nat → Prop} {o : Option ByteArray} {at_ : Nat} {r : Ending} {w' : World} {t : ByteArray} (h : o = some t) (hr : r = .returned (.string t)) (hM : Mde w w' g ws (k + 1) d a b c e f nds D) : ShapeM w g ws k d a b c e f nds D o at_ r w' := by subst h; exact ⟨hr, hM⟩
theorem ShapeM.no {w : World} {g : Nat} {ws : List Wd} {k d : Nat} {a b c e f : Value} {nds : List Nd} {D : Nat → Prop} {o : Option ByteArray} {at_ : Nat} {r : Ending} {w' : World} (h : o = none) (hr : r = .panicked (faultP at_ 30)) (hM : Kept (Mut g f) w w') : ShapeM w g ws k d a b c e f nds D o at_ r w' := by subst h; exact ⟨hr, hM⟩
set_option maxRecDepth 100000 in
set_option maxHeartbeats 2000000 in
theorem shape_any (g : Nat) (ws : List Wd) (hE : EndW ws) (hT : TextW ws) (d : Nat) (a b c e f : Value) (w w1 : World) (k : Nat) (nds : List Nd) (D : Nat → Prop) (hM : Mde w w1 g ws k d a b c e f nds D) (hlt : k < ws.length) :
    Calls Tryz.prog 108 #[.pointer (some ⟨g, 0, none⟩)] w1 fun r w' => ShapeM w g ws k d a b c e f nds D (shapeS (tok ws k)) (tok ws k).at_ r w' := by
  have HM0 := Lib.hid hM
  have HE := Lib.hid hE
  have f1 := field_word1 (tok ws k)
  have hsz : (9223372036854775807 < (tok ws k).text.size + 1) = False := by have := hT k; simp; omega
  have hsz2 : (9223372036854775807 < 1 + (tok ws k).text.size) = False := by have := hT k; simp; omega
  clear hM hE hT
  go_enter Tryz.func108, Tryz.ntmps108
  go_wp2_with fail
  refine (HM0.out.has_from hlt 4).mono ?_
  rintro r w2 ⟨rfl, hm⟩
  have HM1 := Lib.hid hm
  clear hm
  by_cases hs : decide ((tok ws k).kind = 4) = true
  · rw [hs]
    have HS := Lib.hid hs
    clear hs
    go_wp2_with fail
    refine (HM1.out.word_from hlt 4).mono ?_
    intro r w3 hr
    rw [HS.out] at hr
    obtain ⟨rfl, hm⟩ := hr
    have HM2 := Lib.hid hm
    clear hm
    go_wp2_with fail
    go_ret
    exact ShapeM.yes (by rw [shapeS, if_pos (by simpa using HS.out)]) rfl HM2.out
  · have hs2 : decide ((tok ws k).kind = 4) = false := by simpa using hs
    rw [hs2]
    have HS := Lib.hid hs2
    clear hs hs2
    have hsS : Hid (shapeS (tok ws k) = if seesW (tok ws k) ⟨#[110, 117, 108, 108]⟩ then some (tok ws k).text
      else if seesW (tok ws k) ⟨#[98, 111, 111, 108]⟩ then some (tok ws k).text
      else if seesW (tok ws k) ⟨#[105, 110, 116]⟩ then some (tok ws k).text
      else if seesW (tok ws k) ⟨#[114, 101, 99]⟩ then some (tok ws k).text
      else none) := by show _ = _; rw [shapeS, if_neg (by simpa using HS.out)]
    go_wp2_with fail
    refine (HM1.out.take_from hlt ⟨#[110, 117, 108, 108]⟩).mono ?_
    rintro r w3 ⟨rfl, hm⟩
    by_cases hs : seesW (tok ws k) ⟨#[110, 117, 108, 108]⟩ = true
    · rw [adv_yes hs] at hm
      rw [hs]
      have HS1 := Lib.hid hs
      have HM2 := Lib.hid hm
      clear hs hm
      go_wp2_with fail
      refine (HM2.out.last_from hlt).mono ?_
      rintro r w3b ⟨rfl, hm⟩
      have HM2b := Lib.hid hm
      clear hm
      go_wp2_with fail
      go_ret
      exact ShapeM.yes (by rw [hsS.out, if_pos HS1.out]) rfl HM2b.out
    · have hs2 : seesW (tok ws k) ⟨#[110, 117, 108, 108]⟩ = false := by simpa using hs
      rw [adv_no hs2] at hm
      rw [hs2]
      have HS1 := Lib.hid hs
      have HM2 := Lib.hid hm
      clear hs hs2 hm
      go_wp2_with fail
      refine (HM2.out.take_from hlt ⟨#[98, 111, 111, 108]⟩).mono ?_
      rintro r w4 ⟨rfl, hm⟩
      by_cases hs : seesW (tok ws k) ⟨#[98, 111, 111, 108]⟩ = true
      · rw [adv_yes hs] at hm
        rw [hs]
        have HS2 := Lib.hid hs
        have HM3 := Lib.hid hm
        clear hs hm
        go_wp2_with fail
        refine (HM3.out.last_from hlt).mono ?_
        rintro r w4b ⟨rfl, hm⟩
        have HM3b := Lib.hid hm
        clear hm
        go_wp2_with fail
        go_ret
        exact ShapeM.yes (by rw [hsS.out, if_neg HS1.out, if_pos HS2.out]) rfl HM3b.out
      · have hs2 : seesW (tok ws k) ⟨#[98, 111, 111, 108]⟩ = false := by simpa using hs
        rw [adv_no hs2] at hm
        rw [hs2]
        have HS2 := Lib.hid hs
        have HM3 := Lib.hid hm
        clear hs hs2 hm
        go_wp2_with fail
        refine (HM3.out.take_from hlt ⟨#[105, 110, 116]⟩).mono ?_
        rintro r w5 ⟨rfl, hm⟩
        by_cases hs : seesW (tok ws k) ⟨#[105, 110, 116]⟩ = true
        · rw [adv_yes hs] at hm
          rw [hs]
          have HS3 := Lib.hid hs
          have HM4 := Lib.hid hm
          clear hs hm
          go_wp2_with fail
          refine (HM4.out.last_from hlt).mono ?_
          rintro r w5b ⟨rfl, hm⟩
          have HM4b := Lib.hid hm
          clear hm
          go_wp2_with fail
          go_ret
          exact ShapeM.yes (by rw [hsS.out, if_neg HS1.out, if_neg HS2.out, if_pos HS3.out]) rfl HM4b.out
        · have hs2 : seesW (tok ws k) ⟨#[105, 110, 116]⟩ = false := by simpa using hs
          rw [adv_no hs2] at hm
          rw [hs2]
          have HS3 := Lib.hid hs
          have HM4 := Lib.hid hm
          clear hs hs2 hm
          go_wp2_with fail
          refine (HM4.out.take_from hlt ⟨#[114, 101, 99]⟩).mono ?_
          rintro r w6 ⟨rfl, hm⟩
          by_cases hs : seesW (tok ws k) ⟨#[114, 101, 99]⟩ = true
          · rw [adv_yes hs] at hm
            rw [hs]
            have HS4 := Lib.hid hs
            have HM5 := Lib.hid hm
            clear hs hm
            go_wp2_with fail
            refine (HM5.out.last_from hlt).mono ?_
            rintro r w6b ⟨rfl, hm⟩
            have HM5b := Lib.hid hm
            clear hm
            go_wp2_with fail
            go_ret
            exact ShapeM.yes (by rw [hsS.out, if_neg HS1.out, if_neg HS2.out, if_neg HS3.out, if_pos HS4.out]) rfl HM5b.out
          · have hs2 : seesW (tok ws k) ⟨#[114, 101, 99]⟩ = false := by simpa using hs
            rw [adv_no hs2] at hm
            rw [hs2]
            have HS4 := Lib.hid hs
            have HM5 := Lib.hid hm
            clear hs hs2 hm
            go_wp2_with fail
            refine (HM5.out.fail_from hlt 30).mono ?_
            rintro r w7 ⟨rfl, hk9⟩
            exact And.intro rfl (ShapeM.no (by rw [hsS.out, if_neg HS1.out, if_neg HS2.out, if_neg HS3.out, if_neg HS4.out]) rfl hk9)
end Go.Proofs.YtdnpflmlonmgcaaGreatDoor
namespace Go.Proofs.YtdnpflmlonmgcaaGreatDoor
open Go.RowKit

theorem ncells_at (l : List Np) (i j : Nat) (x : Np) (u : Value) (hx : l[i]? = some x) (hj : x.cells[j]? = some u) : (ncells l)[i * 6 + j]? = some u := by
  induction l generalizing i with
  | nil => simp at hx
  | cons y l ih =>
    have hl : y.cells.length = 6 := rfl
    have hj4 : j < 6 := (List.getElem?_eq_some_iff.1 hj).1
    rw [ncells, List.flatMap_cons, ← ncells]
    cases i with
    | zero =>
      simp at hx
      subst hx
      rw [List.getElem?_append_left (by omega), Nat.zero_mul, Nat.zero_add, hj]
    | succ i =>
      rw [List.getElem?_append_right (by omega), hl]
      have := ih i (by simpa using hx)
      rw [show (i + 1) * 6 + j - 6 = i * 6 + j by omega]
      exact this
/-- a node in memory -/
theorem Nds.at_ {w : World} {g : Nat} {f : Value} {nds : List Nd} {D : Nat → Prop} (h : Nds w g f nds D) {i : Nat} {x : Nd} (hx : nds[i]? = some x) : ∃ q n kv lv, f = .slice (some ⟨q, 0, none⟩) nds.length n ∧ q < w.heap.size ∧
    w.cell? ⟨q, i * 6, none⟩ = some (.int .i64 (x.kind : Int)) ∧ w.cell? ⟨q, i * 6 + 1, none⟩ = some (.int .i64 (x.num : Int)) ∧ w.cell? ⟨q, i * 6 + 2, none⟩ = some (.string x.md) ∧ w.cell? ⟨q, i * 6 + 3, none⟩ = some (.string x.nm) ∧ w.cell? ⟨q, i * 6 + 4, none⟩ = some kv ∧ w.cell? ⟨q, i * 6 + 5, none⟩ = some lv ∧
    SSq w (Bad g f D) kv x.keys ∧ ISq w (Bad g f D) lv x.l := by
  obtain ⟨ps, hps, hown, hall⟩ := h.rows
  have hlen : nds.length = ps.length := by rw [← hps]; simp
  have hlt := (List.getElem?_eq_some_iff.1 hx).1
  obtain ⟨q, n, rfl, _, hq⟩ := hown.form (by omega)
  have hp : ∃ p, ps[i]? = some p ∧ p.1 = x := by
    rw [← hps, List.getElem?_map] at hx
    rcases hpi : ps[i]? with _ | p
    · rw [hpi] at hx; cases hx
    · rw [hpi] at hx; exact ⟨p, rfl, by simpa using hx⟩
  obtain ⟨p, hp, rfl⟩ := hp
  have hc : ∀ j u, p.cells[j]? = some u → w.cell? ⟨q, i * 6 + j, none⟩ = some u := fun j u hu => by
    have := hown.cells (g := q) rfl (i * 6 + j) u (ncells_at ps i j p u hp hu)
    rwa [addr_lit, Nat.zero_add] at this
  obtain ⟨h1, h2⟩ := hall p (List.mem_of_getElem? hp)
  exact ⟨q, n, p.2.1, p.2.2, by rw [hlen], hq, hc 0 _ rfl, hc 1 _ rfl, hc 2 _ rfl, hc 3 _ rfl, hc 4 _ rfl, hc 5 _ rfl, h1, h2⟩

set_option maxRecDepth 100000 in
set_option maxHeartbeats 2000000 in
theorem testable_any (g : Nat) (ws : List Wd) (k d : Nat) (a b c e f : Value) (w : World) (nds : List Nd) (D : Nat → Prop) (h : Stm w g ws k d a b c e f) (hn : Nds w g f nds D) (hok : NOk nds) (h4 : nds.length ≤ 4000) (v : Nat) (hv : v < nds.length) :
    Calls Tryz.prog 107 #[.pointer (some ⟨g, 0, none⟩), .int .i64 (v : Int)] w fun r w' => r = .returned (.bool (testableS nds v)) ∧ Below w.heap.size w w' := by
  obtain ⟨x, hx⟩ : ∃ x, nds[v]? = some x := ⟨_, List.getElem?_eq_getElem hv⟩
  obtain ⟨q, n, kv, lv, rfl, hq, c0, c1, c2, c3, c4, c5, hks, hls⟩ := hn.at_ hx
  obtain ⟨KA, kc, rfl, _⟩ := hks
  have hls' := hls
  obtain ⟨LA, lc, rfl, hlc⟩ := hls
  have hg := h.lt
  obtain ⟨AA, nn, hbk, _⟩ := h.blk
  have s7 := hbk.cell 7
  simp at s7
  have HN := Lib.hid hn
  have HOK := Lib.hid hok
  have HX := Lib.hid hx
  have HL := Lib.hid hls'
  have HLC := Lib.hid hlc
  have HB := Lib.hid hbk
  clear h hn hok hx hls' hlc hbk
  by_cases h18 : x.kind = 18
  · have hb18 : ((x.kind : Int) == 18) = true := by rw [beq_iff_eq]; omega
    have H18 := Lib.hid h18
    clear h18
    go_enter Tryz.func107, Tryz.ntmps107
    obtain ⟨j, hj, hjv⟩ := HOK.out v x HX.out H18.out
    have hxl : x.l.length = 1 := by rw [hj]; rfl
    obtain ⟨b3, o3, rfl, hb3, hbad3, hcell⟩ := HLC.out (by omega)
    have l0' := hcell 0 j (by rw [hj]; rfl)
    rw [Nat.add_zero] at l0'
    have HL0 := Lib.hid l0'
    have HXL := Lib.hid hxl
    clear hxl l0' hcell
    go_wp2_with fail
    have hz := Blk.new w 37 #[.int .i64 (x.kind : Int), .int .i64 (x.num : Int), .string x.md, .string x.nm, .slice KA x.keys.length kc, .slice (some ⟨b3, o3, none⟩) 1 lc]
    have hb1 := (Below.refl w.heap.size w).alloc (Nat.le_refl _) (.cells #[.int .i64 (x.kind : Int), .int .i64 (x.num : Int), .string x.md, .string x.nm, .slice KA x.keys.length kc, .slice (some ⟨b3, o3, none⟩) 1 lc] 37)
    have hn1 := HN.out.kept (Kept.of_below hb1 (fun i => i = g)) (fun _ _ h => h)
    have hbk1 := HB.out.below hb1 hg
    obtain ⟨y, hy⟩ : ∃ y, nds[j]? = some y := ⟨_, List.getElem?_eq_getElem (by omega)⟩
    obtain ⟨q2, n2, kv2, lv2, hf2, hq2, d0, d1, d2, d3, d4, d5, hks2, hls2⟩ := hn1.at_ hy
    cases hf2
    obtain ⟨KA2, kc2, rfl, _⟩ := hks2
    obtain ⟨LA2, lc2, rfl, _⟩ := hls2
    have l0 : (w.alloc (.cells #[.int .i64 (x.kind : Int), .int .i64 (x.num : Int), .string x.md, .string x.nm, .slice KA x.keys.length kc, .slice (some ⟨b3, o3, none⟩) 1 lc] 37)).cell? ⟨b3, o3, none⟩ = some (.int .i64 (j : Int)) := (hb1.cell (p := ⟨b3, o3, none⟩) hb3).trans HL0.out
    have s7 := hbk1.cell 7
    simp at s7
    have y0 := hz.frozen 0
    have y1 := hz.frozen 1
    have y2 := hz.frozen 2
    have y3 := hz.frozen 3
    have y4 := hz.frozen 4
    have y5 := hz.frozen 5
    generalize hw1 : w.alloc (.cells #[.int .i64 (x.kind : Int), .int .i64 (x.num : Int), .string x.md, .string x.nm, .slice KA x.keys.length kc, .slice (some ⟨b3, o3, none⟩) 1 lc] 37) = w1 at hb1 hbk1 hn1 s7 y0 y1 y2 y3 y4 y5 l0 d0 d1 d2 d3 d4 d5 hz ⊢
    have z0 := hz.cell 0
    have z1 := hz.cell 1
    have z2 := hz.cell 2
    have z3 := hz.cell 3
    have z4 := hz.cell 4
    have z5 := hz.cell 5
    simp at z0 z1 z2 z3 z4 z5
    have HJ := Lib.hid hj
    have HY := Lib.hid hy
    have HJV := Lib.hid hjv
    have hb16 : ((y.kind : Int) == 16) = decide (y.kind = 16) := by
      by_cases h : y.kind = 16
      · simp [h]
      · have h2 : ¬ ((y.kind : Int) = 16) := by omega
        simp [h, h2]
    have H16 := Lib.hid hb16
    have HB1 := Lib.hid hb1
    have HZ := Lib.hid hz
    have hjn : j < nds.length := by omega
    clear hb1 hz hb16 hj hy hjv hbk1 hn1 hw1 c0 c1 c2 c3 c4 c5
    go_still_tail 11, (by kernel_rfl)
    change wpList _ _ _ _ _ w1.drew
    go_wp2_with fail
    go_ret
    have hT : testableS nds v = decide (y.kind = 16) := by
      rw [testableS, HX.out]
      simp only [if_pos H18.out]
      rw [HJ.out, List.headD_cons, isVar, HY.out]
    refine ⟨by rw [hT, ← H16.out]; rfl, ?_⟩
    have hk := ((Kept.of_below HB1.out (fun i => w.heap.size ≤ i)).set4 (Z := w.heap.size) (Nat.le_refl _) (.int .i64 (y.kind : Int)) (.int .i64 (y.num : Int)) (.string y.md) (.string y.nm))
    have hk2 := (hk.setCell (p := ⟨w.heap.size, 4, none⟩) (fun _ => Nat.le_refl _) (.slice KA2 y.keys.length kc2)).setCell (p := ⟨w.heap.size, 5, none⟩) (fun _ => Nat.le_refl _) (.slice LA2 y.l.length lc2)
    exact hk2.drew.below (Nat.le_refl _) (fun i hi h => by omega)
  · have hb18 : ((x.kind : Int) == 18) = false := by rw [beq_eq_false_iff_ne]; omega
    have hb16 : ((x.kind : Int) == 16) = decide (x.kind = 16) := by
      by_cases h : x.kind = 16
      · simp [h]
      · have h2 : ¬ ((x.kind : Int) = 16) := by omega
        simp [h, h2]
    have H18 := Lib.hid h18
    have H16 := Lib.hid hb16
    clear h18 hb16
    go_enter Tryz.func107, Tryz.ntmps107
    go_wp2_with fail
    go_ret
    refine ⟨?_, (Below.refl _ _).alloc (Nat.le_refl _) _⟩
    have hT : testableS nds v = decide (x.kind = 16) := by rw [testableS, HX.out]; simp only [if_neg H18.out]
    rw [hT, ← H16.out]
    rfl
end Go.Proofs.YtdnpflmlonmgcaaGreatDoor
namespace Go.Proofs.YtdnpflmlonmgcaaGreatDoor
open Go.RowKit

theorem Mde.testable_from {w w1 : World} {g k d : Nat} {ws : List Wd} {a b c e f : Value} {nds : List Nd} {D : Nat → Prop} (hM : Mde w w1 g ws k d a b c e f nds D) (hok : NOk nds) (h4 : nds.length ≤ 4000) (v : Nat) (hv : v < nds.length) :
    Calls Tryz.prog 107 #[.pointer (some ⟨g, 0, none⟩), .int .i64 (v : Int)] w1 fun r w2 => r = .returned (.bool (testableS nds v)) ∧ Mde w w2 g ws k d a b c e f nds D := by
  obtain ⟨⟨f1, h1, hn1, hm1⟩, hk1⟩ := hM
  exact (testable_any g ws k d a b c e f1 w1 nds _ h1 hn1 hok h4 v hv).mono fun _ _ h => ⟨h.1, (Mde.of_below h.2 h1 hn1).behind hk1 hm1⟩

set_option maxRecDepth 100000 in
set_option maxHeartbeats 4000000 in
theorem test_any (g : Nat) (ws : List Wd) (hE : EndW ws) (hT : TextW ws) (d : Nat) (a b c e : Value) (R : Nat → List Nd → Res) (hR : Rule 106 g ws d a b c e R (OkP ws)) (hG : GoodR ws R)
    (w : World) (f : Value) (k : Nat) (nds : List Nd) (D : Nat → Prop) (h : Stm w g ws k d a b c e f) (hn : Nds w g f nds D) (hok : OkP ws k nds) :
    Calls Tryz.prog 102 #[.pointer (some ⟨g, 0, none⟩)] w fun r w' => Out w g ws d a b c e f D (testR ws R k nds) r w' := by
  have HM0 := Lib.hid (Mde.refl h hn)
  have HOK := Lib.hid hok
  have HR := Lib.hid hR
  have HG := Lib.hid hG
  have HE := Lib.hid hE
  have HT := Lib.hid hT
  clear h hn hok hR hG hE hT
  go_enter Tryz.func102, Tryz.ntmps102
  go_wp2_with fail

  refine (HR.out.from_ HM0.out HOK.out).mono ?_
  intro r w1 ho
  rcases hres : R k nds with ⟨at_, er⟩ | ⟨vw1, kw1, nw1⟩
  · rw [hres] at ho
    obtain ⟨rfl, hk9⟩ := ho
    refine And.intro rfl (Out.err ?_ hk9)
    rw [testR, hres]
  · rw [hres] at ho
    obtain ⟨rfl, hm⟩ := ho
    have HMw1 := Lib.hid hm
    have HRw1 := Lib.hid hres
    obtain ⟨hup1, hok1, hvw1, hlen1⟩ := HG.out _ _ _ _ _ HOK.out hres
    have HOK1 := Lib.hid hok1
    clear hok1 hlen1 hup1
    clear hres hm
    go_wp2_with fail

    refine (HMw1.out.sees_from HOK1.out.lt ⟨#[105, 115]⟩).mono ?_
    rintro r w2 ⟨rfl, hm⟩
    have HMw2 := Lib.hid hm
    clear hm
    by_cases hs : seesW (tok ws kw1) ⟨#[105, 115]⟩ = true
    · rw [hs]
      have HSw2 := Lib.hid hs
      clear hs
      go_wp2_with fail

      refine (HMw2.out.testable_from HOK1.out.ok HOK1.out.room vw1 hvw1).mono ?_
      rintro r w3 ⟨rfl, hm⟩
      have HMw3 := Lib.hid hm
      clear hm
      by_cases hs : testableS nw1 vw1 = true
      · rw [hs]
        have HSw3 := Lib.hid hs
        clear hs
        have hlt2 : kw1 + 1 < ws.length := sees_next HE.out HOK1.out.lt HSw2.out
        go_wp2_with fail
        refine (HMw3.out.need_from HOK1.out.lt ⟨#[105, 115]⟩).mono ?_
        intro r w4 hr
        rw [HSw2.out] at hr
        obtain ⟨rfl, hm⟩ := hr
        have HMw4 := Lib.hid hm
        clear hm
        go_wp2_with fail
        refine (shape_any g ws HE.out HT.out d a b c e f w w4 (kw1 + 1) nw1 D HMw4.out hlt2).mono ?_
        intro r w5 ho
        rcases hsh : shapeS (tok ws (kw1 + 1)) with _ | t
        · rw [hsh] at ho
          obtain ⟨rfl, hk9⟩ := ho
          refine And.intro rfl (Out.err ?_ hk9)
          rw [testR, HRw1.out]
          simp only [HSw2.out, HSw3.out, if_true, hsh]
        · rw [hsh] at ho
          obtain ⟨rfl, hm⟩ := ho
          have HMw5 := Lib.hid hm
          have HSH := Lib.hid hsh
          clear hm hsh
          go_wp2_with fail
          refine (HMw5.out.add_new_from hlt2 HOK1.out.room 21 0 ⟨#[]⟩ t [vw1]).mono ?_
          intro r w6 ho
          have HU : Hid (testR ws R k nds = addR ws (kw1 + 2) nw1 ⟨21, 0, ⟨#[]⟩, t, [], [vw1]⟩) := by
            show _ = _
            rw [testR, HRw1.out]
            simp only [HSw2.out, HSw3.out, if_true, HSH.out]
          rcases hres : addR ws (kw1 + 2) nw1 ⟨21, 0, ⟨#[]⟩, t, [], [vw1]⟩ with ⟨at_, er⟩ | ⟨v, k', nds'⟩
          · rw [hres] at ho
            obtain ⟨rfl, hk9⟩ := ho
            exact And.intro rfl (Out.err (by rw [HU.out, hres]) hk9)
          · rw [hres] at ho
            obtain ⟨rfl, hm9⟩ := ho
            have HM9 := Lib.hid hm9
            have HRES9 := Lib.hid hres
            clear hres hm9
            go_wp2_with fail
            go_ret
            exact Out.done (by rw [HU.out, HRES9.out]) HM9.out
      · have hs2 : testableS nw1 vw1 = false := by simpa using hs
        rw [hs2]
        have HSw3 := Lib.hid hs2
        clear hs hs2
        go_wp2_with fail
        refine (HMw3.out.fail_from HOK1.out.lt 30).mono ?_
        rintro r w4 ⟨rfl, hk9⟩
        refine And.intro rfl (Out.err ?_ hk9)
        rw [testR, HRw1.out]
        simp only [HSw2.out, HSw3.out, if_true]
        rfl
    · have hs2 : seesW (tok ws kw1) ⟨#[105, 115]⟩ = false := by simpa using hs
      rw [hs2]
      have HSw2 := Lib.hid hs2
      clear hs hs2
      go_wp2_with fail
      go_ret
      refine Out.done ?_ HMw2.out
      rw [testR, HRw1.out]
      simp only [HSw2.out]
      rfl
end Go.Proofs.YtdnpflmlonmgcaaGreatDoor
namespace Go.Proofs.YtdnpflmlonmgcaaGreatDoor
open Go.RowKit

set_option maxRecDepth 100000 in
set_option maxHeartbeats 4000000 in
theorem letOrIf_any (g : Nat) (ws : List Wd) (hE : EndW ws) (d : Nat) (a b c e : Value) (Rx Rt : Nat → List Nd → Res) (hR : Rule 88 g ws d a b c e Rx (OkP ws)) (hG : GoodR ws Rx)
    (hQ : Rule 102 g ws d a b c e (testR ws (sumR ws (primR ws (atomR ws Rx Rt)))) (OkP ws))
    (w : World) (f : Value) (k : Nat) (nds : List Nd) (D : Nat → Prop) (h : Stm w g ws k d a b c e f) (hn : Nds w g f nds D) (hok : OkP ws k nds) :
    Calls Tryz.prog 99 #[.pointer (some ⟨g, 0, none⟩)] w fun r w' => Out w g ws d a b c e f D (letOrIfR ws Rx Rt k nds) r w' := by
  have HM0 := Lib.hid (Mde.refl h hn)
  have HOK := Lib.hid hok
  have HR := Lib.hid hR
  have HG := Lib.hid hG
  have HE := Lib.hid hE
  have HQ := Lib.hid hQ
  have hlt := hok.lt
  have hmf : ∀ (fn : Fn) (first cap : Array Value) (w : World), (Instr.makeFunc fn first cap).run Tryz.prog w = .ok (.func fn first cap) w := fun _ _ _ _ => rfl
  clear h hn hok hR hG hE hQ
  go_enter Tryz.func99, Tryz.ntmps99
  go_wp2_with fail

  refine (HM0.out.take_from hlt ⟨#[108, 101, 116]⟩).mono ?_
  rintro r w1 ⟨rfl, hm⟩
  by_cases hs : seesW (tok ws k) ⟨#[108, 101, 116]⟩ = true
  · rw [adv_yes hs] at hm
    have HMw1 := Lib.hid hm
    rw [hs]
    have HSw1 := Lib.hid hs
    clear hs hm
    have hlt1 : k + 1 < ws.length := sees_next HE.out hlt HSw1.out
    go_wp2_with fail

    refine (HMw1.out.name_from hlt1).mono ?_
    intro r w2 hr
    by_cases hs : decide ((tok ws (k + 1)).kind = 1) = true
    · rw [hs] at hr
      obtain ⟨rfl, hm⟩ := hr
      have HMw2 := Lib.hid hm
      have HSw2 := Lib.hid hs
      clear hs hm
      have hlt2 : k + 2 < ws.length := kind_next HE.out hlt1 (kd := 1) (by simpa using HSw2.out) (by decide)
      have HOK2 : Hid (OkP ws (k + 2) nds) := Lib.hid ⟨hlt2, HOK.out.room, HOK.out.ok⟩
      go_wp2_with fail

      refine (HMw2.out.behind_from HR.out hlt2 ⟨#[61]⟩ (fun hs => ⟨sees_next HE.out HOK2.out.lt hs, HOK2.out.room, HOK2.out.ok⟩)).mono ?_
      intro r w3 ho
      rcases hres : behindR ws ⟨#[61]⟩ Rx (k + 2) nds with ⟨at_, er⟩ | ⟨vw3, kw3, nw3⟩
      · rw [hres] at ho
        obtain ⟨rfl, hk9⟩ := ho
        refine And.intro rfl (Out.err ?_ hk9)
        rw [letOrIfR, if_pos HSw1.out, letR, if_pos (by simpa using HSw2.out), hres]
      · rw [hres] at ho
        obtain ⟨rfl, hm⟩ := ho
        have HMw3 := Lib.hid hm
        have HRw3 := Lib.hid hres
        obtain ⟨hupw3, hokw3, hvw3, hlenw3⟩ := behindR_ok HE.out HG.out ⟨#[61]⟩ _ _ _ _ _ HOK2.out hres
        have HOKw3 := Lib.hid hokw3
        clear hokw3 hlenw3 hvw3
        clear hres hm
        go_wp2_with fail

        refine (HMw3.out.behind_from HR.out HOKw3.out.lt ⟨#[105, 110]⟩ (fun hs => ⟨sees_next HE.out HOKw3.out.lt hs, HOKw3.out.room, HOKw3.out.ok⟩)).mono ?_
        intro r w4 ho
        rcases hres : behindR ws ⟨#[105, 110]⟩ Rx kw3 nw3 with ⟨at_, er⟩ | ⟨vw4, kw4, nw4⟩
        · rw [hres] at ho
          obtain ⟨rfl, hk9⟩ := ho
          refine And.intro rfl (Out.err ?_ hk9)
          rw [letOrIfR, if_pos HSw1.out, letR, if_pos (by simpa using HSw2.out), HRw3.out]
          simp only [hres]
        · rw [hres] at ho
          obtain ⟨rfl, hm⟩ := ho
          have HMw4 := Lib.hid hm
          have HRw4 := Lib.hid hres
          obtain ⟨hupw4, hokw4, hvw4, hlenw4⟩ := behindR_ok HE.out HG.out ⟨#[105, 110]⟩ _ _ _ _ _ HOKw3.out hres
          have HOKw4 := Lib.hid hokw4
          clear hokw4 hlenw4 hvw4
          clear hres hm
          obtain ⟨kw4, rfl⟩ : ∃ k4, kw4 = k4 + 1 := ⟨kw4 - 1, by omega⟩
          have hlt4 := HOKw4.out.lt
          go_wp2_with fail

          refine (HMw4.out.add_new_from (by omega) HOKw4.out.room 22 0 ⟨#[]⟩ (tok ws (k + 1)).text [vw3, vw4]).mono ?_
          intro r w5 ho
          have HU : Hid (letOrIfR ws Rx Rt k nds = addR ws (kw4 + 1) nw4 ⟨22, 0, ⟨#[]⟩, (tok ws (k + 1)).text, [], [vw3, vw4]⟩) := by
            show _ = _
            rw [letOrIfR, if_pos HSw1.out, letR, if_pos (by simpa using HSw2.out), HRw3.out]
            simp only [HRw4.out]
          rcases hres : addR ws (kw4 + 1) nw4 ⟨22, 0, ⟨#[]⟩, (tok ws (k + 1)).text, [], [vw3, vw4]⟩ with ⟨at_, er⟩ | ⟨v, k', nds'⟩
          · rw [hres] at ho
            obtain ⟨rfl, hk9⟩ := ho
            exact And.intro rfl (Out.err (by rw [HU.out, hres]) hk9)
          · rw [hres] at ho
            obtain ⟨rfl, hm9⟩ := ho
            have HM9 := Lib.hid hm9
            have HRES9 := Lib.hid hres
            clear hres hm9
            go_wp2_with fail
            go_ret
            exact Out.done (by rw [HU.out, HRES9.out]) HM9.out
    · have hs2 : decide ((tok ws (k + 1)).kind = 1) = false := by simpa using hs
      rw [hs2] at hr
      obtain ⟨rfl, hk9⟩ := hr
      refine And.intro rfl (Out.err ?_ hk9)
      rw [letOrIfR, if_pos HSw1.out, letR, if_neg (by simpa using hs2)]
  · have hs2 : seesW (tok ws k) ⟨#[108, 101, 116]⟩ = false := by simpa using hs
    rw [adv_no hs2] at hm
    have HMw1 := Lib.hid hm
    rw [hs2]
    have HSw1 := Lib.hid hs2
    clear hs hs2 hm
    go_wp2_with fail

    refine (HMw1.out.take_from hlt ⟨#[105, 102]⟩).mono ?_
    rintro r w2 ⟨rfl, hm⟩
    by_cases hs : seesW (tok ws k) ⟨#[105, 102]⟩ = true
    · rw [adv_yes hs] at hm
      have HMw2 := Lib.hid hm
      rw [hs]
      have HSw2 := Lib.hid hs
      clear hs hm
      have hlt1 : k + 1 < ws.length := sees_next HE.out hlt HSw2.out
      have HOK2 : Hid (OkP ws (k + 1) nds) := Lib.hid ⟨hlt1, HOK.out.room, HOK.out.ok⟩
      go_wp2_with fail

      refine (HR.out.from_ HMw2.out HOK2.out).mono ?_
      intro r w3 ho
      rcases hres : Rx (k + 1) nds with ⟨at_, er⟩ | ⟨vw3, kw3, nw3⟩
      · rw [hres] at ho
        obtain ⟨rfl, hk9⟩ := ho
        refine And.intro rfl (Out.err ?_ hk9)
        rw [letOrIfR, if_neg (by rw [HSw1.out]; simp), if_pos HSw2.out, ifR, hres]
      · rw [hres] at ho
        obtain ⟨rfl, hm⟩ := ho
        have HMw3 := Lib.hid hm
        have HRw3 := Lib.hid hres
        obtain ⟨hupw3, hokw3, hvw3, hlenw3⟩ := HG.out _ _ _ _ _ HOK2.out hres
        have HOKw3 := Lib.hid hokw3
        clear hokw3 hlenw3 hvw3
        clear hres hm
        go_wp2_with fail

        refine (HMw3.out.behind_from HR.out HOKw3.out.lt ⟨#[116, 104, 101, 110]⟩ (fun hs => ⟨sees_next HE.out HOKw3.out.lt hs, HOKw3.out.room, HOKw3.out.ok⟩)).mono ?_
        intro r w4 ho
        rcases hres : behindR ws ⟨#[116, 104, 101, 110]⟩ Rx kw3 nw3 with ⟨at_, er⟩ | ⟨vw4, kw4, nw4⟩
        · rw [hres] at ho
          obtain ⟨rfl, hk9⟩ := ho
          refine And.intro rfl (Out.err ?_ hk9)
          rw [letOrIfR, if_neg (by rw [HSw1.out]; simp), if_pos HSw2.out, ifR, HRw3.out]
          simp only [hres]
        · rw [hres] at ho
          obtain ⟨rfl, hm⟩ := ho
          have HMw4 := Lib.hid hm
          have HRw4 := Lib.hid hres
          obtain ⟨hupw4, hokw4, hvw4, hlenw4⟩ := behindR_ok HE.out HG.out ⟨#[116, 104, 101, 110]⟩ _ _ _ _ _ HOKw3.out hres
          have HOKw4 := Lib.hid hokw4
          clear hokw4 hlenw4 hvw4
          clear hres hm
          go_wp2_with fail

          refine (HMw4.out.behind_from HR.out HOKw4.out.lt ⟨#[101, 108, 115, 101]⟩ (fun hs => ⟨sees_next HE.out HOKw4.out.lt hs, HOKw4.out.room, HOKw4.out.ok⟩)).mono ?_
          intro r w5 ho
          rcases hres : behindR ws ⟨#[101, 108, 115, 101]⟩ Rx kw4 nw4 with ⟨at_, er⟩ | ⟨vw5, kw5, nw5⟩
          · rw [hres] at ho
            obtain ⟨rfl, hk9⟩ := ho
            refine And.intro rfl (Out.err ?_ hk9)
            rw [letOrIfR, if_neg (by rw [HSw1.out]; simp), if_pos HSw2.out, ifR, HRw3.out]
            simp only [HRw4.out, hres]
          · rw [hres] at ho
            obtain ⟨rfl, hm⟩ := ho
            have HMw5 := Lib.hid hm
            have HRw5 := Lib.hid hres
            obtain ⟨hupw5, hokw5, hvw5, hlenw5⟩ := behindR_ok HE.out HG.out ⟨#[101, 108, 115, 101]⟩ _ _ _ _ _ HOKw4.out hres
            have HOKw5 := Lib.hid hokw5
            clear hokw5 hlenw5 hvw5
            clear hres hm
            obtain ⟨kw5, rfl⟩ : ∃ k5, kw5 = k5 + 1 := ⟨kw5 - 1, by omega⟩
            have hlt5 := HOKw5.out.lt
            go_wp2_with fail

            refine (HMw5.out.add_new_from (by omega) HOKw5.out.room 20 0 ⟨#[]⟩ ⟨#[]⟩ [vw3, vw4, vw5]).mono ?_
            intro r w6 ho
            have HU : Hid (letOrIfR ws Rx Rt k nds = addR ws (kw5 + 1) nw5 ⟨20, 0, ⟨#[]⟩, ⟨#[]⟩, [], [vw3, vw4, vw5]⟩) := by
              show _ = _
              rw [letOrIfR, if_neg (by rw [HSw1.out]; simp), if_pos HSw2.out, ifR, HRw3.out]
              simp only [HRw4.out, HRw5.out]
            rcases hres : addR ws (kw5 + 1) nw5 ⟨20, 0, ⟨#[]⟩, ⟨#[]⟩, [], [vw3, vw4, vw5]⟩ with ⟨at_, er⟩ | ⟨v, k', nds'⟩
            · rw [hres] at ho
              obtain ⟨rfl, hk9⟩ := ho
              exact And.intro rfl (Out.err (by rw [HU.out, hres]) hk9)
            · rw [hres] at ho
              obtain ⟨rfl, hm9⟩ := ho
              have HM9 := Lib.hid hm9
              have HRES9 := Lib.hid hres
              clear hres hm9
              go_wp2_with fail
              go_ret
              exact Out.done (by rw [HU.out, HRES9.out]) HM9.out
    · have hs2 : seesW (tok ws k) ⟨#[105, 102]⟩ = false := by simpa using hs
      rw [adv_no hs2] at hm
      have HMw2 := Lib.hid hm
      rw [hs2]
      have HSw2 := Lib.hid hs2
      clear hs hs2 hm
      go_wp2_with fail

      refine (HQ.out.from_ HMw2.out HOK.out).mono ?_
      intro r w3 ho
      have HU : Hid (letOrIfR ws Rx Rt k nds = testR ws (sumR ws (primR ws (atomR ws Rx Rt))) k nds) := by
        show _ = _
        rw [letOrIfR, if_neg (by rw [HSw1.out]; simp), if_neg (by rw [HSw2.out]; simp)]
      rcases hres : testR ws (sumR ws (primR ws (atomR ws Rx Rt))) k nds with ⟨at_, er⟩ | ⟨v, k', nds'⟩
      · rw [hres] at ho
        obtain ⟨rfl, hk9⟩ := ho
        exact And.intro rfl (Out.err (by rw [HU.out, hres]) hk9)
      · rw [hres] at ho
        obtain ⟨rfl, hm9⟩ := ho
        have HM9 := Lib.hid hm9
        have HRES9 := Lib.hid hres
        clear hres hm9
        go_wp2_with fail
        go_ret
        exact Out.done (by rw [HU.out, HRES9.out]) HM9.out
end Go.Proofs.YtdnpflmlonmgcaaGreatDoor
namespace Go.Proofs.YtdnpflmlonmgcaaGreatDoor
open Go.RowKit

section
variable {X : Nat → Prop} {w w1 w3 w5 : World} {g k d : Nat} {ws : List Wd} {a b c e f : Value} {nds : List Nd} {D : Nat → Prop}
theorem MdX.drew (hM : MdX X w w1 g ws k d a b c e f nds D) : MdX X w w1.drew g ws k d a b c e f nds D :=
  (hM.more (Y := X) ((Kept.refl X w1).drew) (fun i h => .inl h)).less fun i h => .inl h
theorem own_base {base base' n size : Nat} {t : TypeId} {v : Value} {xs : List Value} (h : w.ownsRow base t size v n xs) (hb : base' ≤ base) : w.ownsRow base' t size v n xs := by
  refine ⟨h.1, ?_⟩
  rcases h.2 with h0 | ⟨q, cap, cur, hv, hg, hbb, hr⟩
  · exact .inl h0
  · exact .inr ⟨q, cap, cur, hv, by omega, hbb, hr⟩
/-- an own row that is held grows -/
theorem MdX.app (hM : MdX X w w3 g ws k d a b c e f nds D) {lv : Value} {gg : Nat} (hl : ∀ q, lv.ownBlock = some q → X q) (hk : Kept (fun i => lv.ownBlock = some i) w3 w5) (hat : lv.ownBlock = some gg ∨ w3.heap.size ≤ gg) (hlt : gg < w5.heap.size) :
    MdX (fun i => X i ∨ i = gg) w w5 g ws k d a b c e f nds D :=
  hM.more (hk.mono fun i _ h => hl i h) fun i h => by
    subst h
    rcases hat with h | h
    · exact .inl (hl _ h)
    · exact .inr ⟨h, hlt⟩
end
theorem ints3_app (l m : List Nat) : ints3 (l ++ m) = ints3 l ++ ints3 m := by simp [ints3]
theorem ints3_one (l : List Nat) : ∀ u ∈ ints3 l, u.oneCell' = true := by
  intro u hu
  simp only [ints3, List.mem_map] at hu
  obtain ⟨x, _, rfl⟩ := hu
  rfl

set_option maxRecDepth 100000 in
set_option maxHeartbeats 8000000 in
theorem call_any (g : Nat) (ws : List Wd) (hE : EndW ws) (d : Nat) (a b c e : Value) (Rx Rt : Nat → List Nd → Res) (hR : Rule 88 g ws d a b c e Rx (OkP ws)) (hG : GoodR ws Rx)
    (hRt : Rule 85 g ws d a b c e Rt (OkP ws)) (hGt : GoodR ws Rt) (md nm : ByteArray)
    (w : World) (f : Value) (k : Nat) (nds : List Nd) (D : Nat → Prop) (h : Stm w g ws k d a b c e f) (hn : Nds w g f nds D) (hok : OkP ws k nds) :
    Calls Tryz.prog 114 #[.pointer (some ⟨g, 0, none⟩), .string md, .string nm] w fun r w' => Out w g ws d a b c e f D (callR ws Rx Rt md nm k nds) r w' := by
  obtain ⟨i0, hi, hz0, hz1, hz2⟩ := info_parts info_int3
  have HI := Lib.hid hi
  have HZ0 := Lib.hid hz0
  have HZ1 := Lib.hid hz1
  have HZ2 := Lib.hid hz2
  have HX := Lib.hid (MdX.start h hn)
  have HOK := Lib.hid hok
  have HR := Lib.hid hR
  have HG := Lib.hid hG
  have HRt := Lib.hid hRt
  have HGt := Lib.hid hGt
  have HE := Lib.hid hE
  have hlt := hok.lt
  have hmf : ∀ (fn : Fn) (first cap : Array Value) (w : World), (Instr.makeFunc fn first cap).run Tryz.prog w = .ok (.func fn first cap) w := fun _ _ _ _ => rfl
  clear hi hz0 hz1 hz2 h hn hok hR hG hRt hGt hE
  go_enter Tryz.func114, Tryz.ntmps114
  go_wp2_with fail
  have hx1 := HX.out.new (.cells #[.int .i64 19, .int .i64 0, .string md, .string nm, .slice none 0 0, .slice none 0 0] 37)
  have hb1 := Blk.new w 37 #[.int .i64 19, .int .i64 0, .string md, .string nm, .slice none 0 0, .slice none 0 0]
  generalize hN : w.heap.size = N at hx1 hb1 ⊢
  generalize hw1 : w.alloc (.cells #[.int .i64 19, .int .i64 0, .string md, .string nm, .slice none 0 0, .slice none 0 0] 37) = w1 at hx1 hb1 ⊢
  have HX1 := Lib.hid hx1
  have HB1 := Lib.hid hb1
  have HNN := Lib.hid hN
  clear hw1 hx1 hb1 HX hN
  refine (HX1.out.take_ hlt ⟨#[91]⟩).mono ?_
  rintro r w2 ⟨rfl, hx2, hsm2⟩
  by_cases hs : seesW (tok ws k) ⟨#[91]⟩ = true
  · rw [adv_yes hs] at hx2
    rw [hs]
    have HX2 := Lib.hid hx2
    have HB2 := Lib.hid (hsm2.blk (.inr rfl) HB1.out)
    have HS2 := Lib.hid hs
    have hlt1 := sees_next HE.out hlt hs
    have hok1 : OkP ws (k + 1) nds := ⟨hlt1, HOK.out.room, HOK.out.ok⟩
    have HOK1 := Lib.hid hok1
    have hsz2 : w.heap.size ≤ w2.heap.size := hx2.kept.size
    have hNl2 : N < w2.heap.size := HB2.out.lt
    clear hs hx2 hsm2 hok1
    go_wp2_with fail
    refine (HX2.out.list_ HRt.out (okR_of HE.out HGt.out) ⟨#[44]⟩ HOK1.out).mono ?_
    intro r w3 ho
    rcases hres : listR ws ⟨#[44]⟩ Rt (k + 1) nds with ⟨at_, er⟩ | ⟨l, k1, nds1⟩
    · rw [hres] at ho
      obtain ⟨rfl, hk9⟩ := ho
      refine And.intro rfl (Out.err ?_ hk9)
      rw [callR, if_pos HS2.out, hres]
    · obtain ⟨hok1, hk1p, hl0, hl16, -⟩ := listR_len HGt.out HE.out _ HOK1.out hres
      rw [hres] at ho
      obtain ⟨v1, rfl, hx3, hsm3, ho3⟩ := ho
      obtain ⟨q1, n1, rfl, hbq1, hq1, -⟩ := own_ints ho3 hl0
      have HRES1 := Lib.hid hres
      have HOK3 := Lib.hid hok1
      have hb3 := hsm3.blk (.inr rfl) HB2.out
      have y5 := hb3.frozen 5
      have y1 := hb3.frozen 1
      have z5 := hb3.cell 5
      have z1 := hb3.cell 1
      simp at z5 z1
      have hx5 := (hx3.put (N := N) (.inl (.inr rfl)) 5 (.slice (some ⟨q1, 0, none⟩) l.length n1)).put (N := N) (.inl (.inr rfl)) 1 (.int .i64 (l.length : Int))
      have hb5 := (hb3.set_ 5 (.slice (some ⟨q1, 0, none⟩) l.length n1)).set_ 1 (.int .i64 (l.length : Int))
      simp at hb5
      have hkN := ((Kept.refl (fun i => i = N) w3).setCell (p := ⟨N, 5, none⟩) (fun _ => rfl) (.slice (some ⟨q1, 0, none⟩) l.length n1)).setCell (p := ⟨N, 1, none⟩) (fun _ => rfl) (.int .i64 (l.length : Int))
      have ho5 := own_base (own_kept_ne ho3 hkN (fun q hq h => by have h2 : q1 = q := by simpa [Value.ownBlock] using hq
                                                                  omega)) (base' := N) (by omega)
      have HX5 := Lib.hid hx5
      have HB5 := Lib.hid hb5
      have HO5 := Lib.hid ho5
      clear hres hok1 hx3 hsm3 ho3 hb3 hx5 hb5 hkN ho5
      go_wp2_with fail
      generalize hw5 : (w3.setCell ⟨N, 5, none⟩ (.slice (some ⟨q1, 0, none⟩) l.length n1)).setCell ⟨N, 1, none⟩ (.int .i64 (l.length : Int)) = w5 at HX5 HB5 HO5 ⊢
      clear hw5 z5 z1 y5 y1
      refine (HX5.out.need_ HOK3.out.lt ⟨#[93]⟩).mono ?_
      intro r w6 hr
      by_cases hs : seesW (tok ws k1) ⟨#[93]⟩ = true
      · rw [hs] at hr
        obtain ⟨rfl, hx6, hsm6⟩ := hr
        have HS6 := Lib.hid hs
        obtain ⟨Xp, hXp⟩ : ∃ Xp : Nat → Prop, Xp = (fun i => (False ∨ i = N) ∨ (Value.slice (some ⟨q1, 0, none⟩) l.length n1).ownBlock = some i) := ⟨_, rfl⟩
        have HXp : Hid (MdX Xp w w6 g ws (k1 + 1) d a b c e f nds1 D) := Lib.hid (by rw [hXp]; exact hx6)
        have hXN : Xp N := by rw [hXp]; exact .inl (.inr rfl)
        have HBp := Lib.hid (hsm6.blk (.inl (.inr rfl)) HB5.out)
        have HOp := Lib.hid (hsm6.own (fun q h => .inr h) HO5.out)
        have hXl : ∀ q, (Value.slice (some ⟨q1, 0, none⟩) l.length n1).ownBlock = some q → Xp q := fun q h => by rw [hXp]; exact .inr h
        have hNl : ∀ q, (Value.slice (some ⟨q1, 0, none⟩) l.length n1).ownBlock = some q → q ≠ N := fun q h => by
          have h2 : q1 = q := by simpa [Value.ownBlock] using h
          omega
        have HOKp : Hid (OkP ws (k1 + 1) nds1) := Lib.hid ⟨sees_next HE.out HOK3.out.lt hs, HOK3.out.room, HOK3.out.ok⟩
        clear hs hx6 hsm6 hXp
        go_wp2_with fail

        refine (HXp.out.need_ HOKp.out.lt ⟨#[40]⟩).mono ?_
        intro r p1 hr
        by_cases hs : seesW (tok ws (k1 + 1)) ⟨#[40]⟩ = true
        · rw [hs] at hr
          obtain ⟨rfl, hm⟩ := hr
          have HYp1 := Lib.hid hm
          have HSp1 := Lib.hid hs
          clear hs hm
          obtain ⟨hx1, hsm1⟩ := HYp1.out
          have HXp1 := Lib.hid hx1
          have HBp1 := Lib.hid (hsm1.blk hXN HBp.out)
          have HOp1 := Lib.hid (hsm1.own hXl HOp.out)
          have hltp1 := sees_next HE.out HOKp.out.lt HSp1.out
          have HOKp1 : Hid (OkP ws ((k1 + 1) + 1) nds1) := Lib.hid ⟨hltp1, HOKp.out.room, HOKp.out.ok⟩
          clear hx1 hsm1
          go_wp2_with fail
          refine (HXp1.out.sees_ hltp1 ⟨#[41]⟩).mono ?_
          rintro r p2 ⟨rfl, hx2, hsm2⟩
          have HXp2 := Lib.hid hx2
          have HBp2 := Lib.hid (hsm2.blk hXN HBp1.out)
          have HOp2 := Lib.hid (hsm2.own hXl HOp1.out)
          clear hx2 hsm2
          by_cases hs : seesW (tok ws ((k1 + 1) + 1)) ⟨#[41]⟩ = true
          · rw [hs]
            have HSp2 := Lib.hid hs
            clear hs
            go_wp2_with fail
            refine (HXp2.out.need_ hltp1 ⟨#[41]⟩).mono ?_
            intro r p3 hr
            rw [HSp2.out] at hr
            obtain ⟨rfl, hx3, hsm3⟩ := hr
            have HXp3 := Lib.hid hx3
            have hb3 := hsm3.blk hXN HBp2.out
            have HOp3 := Lib.hid (hsm3.own hXl HOp2.out)
            have z0 := hb3.cell 0
            have z1 := hb3.cell 1
            have z2 := hb3.cell 2
            have z3 := hb3.cell 3
            have z4 := hb3.cell 4
            have z5 := hb3.cell 5
            simp at z0 z1 z2 z3 z4 z5
            clear hx3 hsm3 hb3
            go_wp2_with fail

            refine (((HXp3.out.hold HOp3.out hXl).add_from hltp1 HOKp.out.room 19 l.length md nm)).mono ?_
            intro r p4 ho
            have HU : Hid (callR ws Rx Rt md nm k nds = addR ws ((k1 + 1) + 1 + 1) nds1 ⟨19, l.length, md, nm, [], l⟩) := by
              show _ = _
              rw [callR, if_pos HS2.out, HRES1.out]; simp only [HS6.out, if_true]; rw [argsR, if_pos HSp1.out, if_pos HSp2.out]
            rcases hres : addR ws ((k1 + 1) + 1 + 1) nds1 ⟨19, l.length, md, nm, [], l⟩ with ⟨at_, er⟩ | ⟨v, k', nds'⟩
            · rw [hres] at ho
              obtain ⟨rfl, hk9⟩ := ho
              exact And.intro rfl (Out.err (by rw [HU.out, hres]) hk9)
            · rw [hres] at ho
              obtain ⟨rfl, hm9⟩ := ho
              have HM9 := Lib.hid hm9
              have HRES9 := Lib.hid hres
              clear hres hm9
              go_wp2_with fail
              go_ret
              exact Out.done (by rw [HU.out, HRES9.out]) HM9.out
          · have hs2 : seesW (tok ws ((k1 + 1) + 1)) ⟨#[41]⟩ = false := by simpa using hs
            rw [hs2]
            have HSp2 := Lib.hid hs2
            clear hs hs2
            have hS : (p2 : World).drew.cell? ⟨N, 5, none⟩ = some (Value.slice (some ⟨q1, 0, none⟩) l.length n1) := HBp2.out.cell 5
            go_wp2_with fail
            refine K_start 8 (fun u => u.cell? ⟨N, 5, none⟩ = some (Value.slice (some ⟨q1, 0, none⟩) l.length n1)) (by kernel_rfl) ?_
            refine K_pure (i := 0) (v := ?_) rfl (by kernel_rfl) (by kernel_rfl) (by kernel_rfl) (by decide) (fun _ _ _ h => h) (fun _ => hS) (by rfl) ?_ ?_
            rotate_left
            · intro u
              go_simp
              try with_reducible rfl
            simp only [Act.put, List.setIfInBounds_toArray, List.set_cons_zero, List.set_cons_succ]
            refine K_take (i := 1) (v := ?_) rfl (by kernel_rfl) (by kernel_rfl) (by kernel_rfl) (by kernel_rfl) (by kernel_rfl) (fun _ _ _ h => h) hS (by rfl) ?_ ?_
            rotate_left
            · intro u hu
              go_simp
              try with_reducible rfl
            simp only [Act.put, List.setIfInBounds_toArray, List.set_cons_zero, List.set_cons_succ]
            refine K_pure (i := 2) (v := ?_) rfl (by kernel_rfl) (by kernel_rfl) (by kernel_rfl) (by decide) (fun _ _ _ h => h) (fun _ => hS) (by rfl) ?_ ?_
            rotate_left
            · intro u
              go_simp
              try with_reducible rfl
            simp only [Act.put, List.setIfInBounds_toArray, List.set_cons_zero, List.set_cons_succ]
            refine K_pure (i := 3) (v := ?_) rfl (by kernel_rfl) (by kernel_rfl) (by kernel_rfl) (by decide) (fun _ _ _ h => h) (fun _ => hS) (by rfl) ?_ ?_
            rotate_left
            · intro u
              go_simp
              try with_reducible rfl
            simp only [Act.put, List.setIfInBounds_toArray, List.set_cons_zero, List.set_cons_succ]
            refine K_pure (i := 4) (v := ?_) rfl (by kernel_rfl) (by kernel_rfl) (by kernel_rfl) (by decide) (fun _ _ _ h => h) (fun _ => hS) (by rfl) ?_ ?_
            rotate_left
            · intro u
              go_simp
              try with_reducible rfl
            simp only [Act.put, List.setIfInBounds_toArray, List.set_cons_zero, List.set_cons_succ]
            refine K_one (i := 5) (by kernel_rfl) rfl (fun K hK => ?_)
            go_simp
            refine (HXp2.out.drew.list_ HR.out (okR_of HE.out HG.out) ⟨#[44]⟩ HOKp1.out).mono ?_
            intro r p3 ho
            rcases hres : listR ws ⟨#[44]⟩ Rx ((k1 + 1) + 1) nds1 with ⟨at_, er⟩ | ⟨l2, k2, nds2⟩
            · rw [hres] at ho
              obtain ⟨rfl, hk9⟩ := ho
              refine And.intro rfl (Out.err ?_ hk9)
              rw [callR, if_pos HS2.out, HRES1.out]; simp only [HS6.out, if_true]; rw [argsR, if_pos HSp1.out, if_neg (by rw [HSp2.out]; simp), hres]
            · obtain ⟨hok2, hk2p, hl20, hl216, _⟩ := listR_len HG.out HE.out _ HOKp1.out hres
              rw [hres] at ho
              obtain ⟨v2, rfl, hx3, hsm3', ho3⟩ := ho
              have hsm3 : Same (fun i => Xp i) p2 p3 := fun i hi => hsm3' i hi
              obtain ⟨q2, n2, rfl, hbq2, hq2, _⟩ := own_ints ho3 hl20
              have hb3 := hsm3.blk hXN HBp2.out
              have hown3 := own_base (hsm3.own hXl HOp2.out) (Nat.le_refl _)
              refine hK _ _ (fun _ => hb3.cell 5) ?_
              clear hK K hS
              have HXp3 := Lib.hid (hx3.less (Y := Xp) fun i h => .inl h)
              have HRES := Lib.hid hres
              have HOK2 := Lib.hid hok2
              have hsz3 : w.heap.size ≤ p3.heap.size := hx3.kept.size
              have hNlt3 : N < p3.heap.size := hb3.lt
              have HBp3 := Lib.hid hb3
              have HOp3 := Lib.hid hown3
              have HO3 := Lib.hid ho3
              have y5 := hb3.frozen 5
              clear hres hx3 hsm3 hsm3' hb3 hown3 ho3 hok2
              have hl16' := hl16
              refine K_one (i := 6) (by kernel_rfl) rfl (fun K hK => ?_)
              refine step_append_lies _ (by rfl) _ _ _ (by rfl) _ 3 i0 _ 1 8 Tryz.underlying29 HI.out HZ0.out HZ1.out HZ2.out rfl (by decide) (Value.slice (some ⟨q1, 0, none⟩) l.length n1) l.length (ints3 l) (by rfl) HOp3.out ⟨q2, 0, none⟩ l2.length n2 (ints3 l2) (by rfl) (by simp [ints3]) (HO3.out.cells (g := q2) rfl) (ints3_one l2) hl20 (by simp only [maxLen]; omega) (by omega) (Nat.le_of_lt hNlt3) (p3.heap.size) rfl ?_
              intro gg cap p5 hown5 hgrow5 hat5 hlt5
              have hkg : Kept (fun i => (Value.slice (some ⟨q1, 0, none⟩) l.length n1).ownBlock = some i) p3 p5 := (Kept.refl _ p3).grown hgrow5 (fun i _ h => h)
              have hb5 := hkg.blk HBp3.out (fun h => hNl _ h rfl)
              have hggN : gg ≠ N := by
                rcases hat5 with h | h
                · exact hNl _ h
                · omega
              have hx5 := HXp3.out.app hXl hkg (hat5.imp id (fun h => Nat.le_of_eq h.symm)) hlt5
              refine hK _ _ (fun h => ?_) ?_
              · exact hb5.cell 5
              clear hK K y5
              have y5 := hb5.frozen 5
              have z5 := hb5.cell 5
              have z5r : p5.cell? ⟨N, 5, none⟩ = some (Value.slice (some ⟨q1, 0, none⟩) l.length n1) := z5
              simp at z5
              have HXp5 := Lib.hid (hx5.put (N := N) (.inl hXN) 5 (.slice (some ⟨gg, 0, none⟩) (l.length + l2.length) cap))
              have hb6 := hb5.set_ 5 (.slice (some ⟨gg, 0, none⟩) (l.length + l2.length) cap)
              simp at hb6
              have hown6 := own_kept_ne hown5 ((Kept.refl (fun i => i = N) p5).setCell (p := ⟨N, 5, none⟩) (fun _ => rfl) (.slice (some ⟨gg, 0, none⟩) (l.length + l2.length) cap)) (fun q hq h => hggN ((show gg = q from by simpa [Value.ownBlock] using hq).trans h))
              have HBp5 := Lib.hid hb6
              have HOp5 := Lib.hid hown6
              clear hown5 hgrow5 hat5 hb5 hb6 hx5 hown6 hkg
              refine K_one (i := 7) (by kernel_rfl) rfl (fun K hK => ?_)
              go_simp
              refine hK _ _ (fun _ => z5r) ?_
              clear hK K
              refine K_one (i := 8) (by kernel_rfl) rfl (fun K hK => ?_)
              go_simp
              refine hK _ _ (fun h => absurd h (by decide)) ?_
              clear hK K z5 z5r y5
              refine K_done (by kernel_rfl) ?_
              generalize hw6 : p5.setCell ⟨N, 5, none⟩ (.slice (some ⟨gg, 0, none⟩) (l.length + l2.length) cap) = p6 at HXp5 HBp5 HOp5 ⊢
              clear hw6
              have hlt2 := HOK2.out.lt
              have hX6 : ∀ q, (Value.slice (some ⟨gg, 0, none⟩) (l.length + l2.length) cap).ownBlock = some q → (Xp q ∨ q = gg) := fun q h => .inr (by simpa [Value.ownBlock] using h.symm)
              obtain ⟨k3, rfl⟩ : ∃ k3, k2 = k3 + 1 := ⟨k2 - 1, by omega⟩
              go_wp2_with fail
              refine (HXp5.out.need_ hlt2 ⟨#[41]⟩).mono ?_
              intro r p7 hr
              by_cases hs : seesW (tok ws (k3 + 1)) ⟨#[41]⟩ = true
              · rw [hs] at hr
                obtain ⟨rfl, hx7, hsm7⟩ := hr
                have HXp7 := Lib.hid hx7
                have hb7 := hsm7.blk (.inl hXN) HBp5.out
                have ho7 : p7.ownsRow N 3 1 (.slice (some ⟨gg, 0, none⟩) (l.length + l2.length) cap) (l ++ l2).length (ints3 (l ++ l2)) := by
                  have := hsm7.own hX6 HOp5.out
                  rw [List.length_append, ints3_app]; exact this
                have HOp7 := Lib.hid ho7
                have HS7 := Lib.hid hs
                have z0 := hb7.cell 0
                have z1 := hb7.cell 1
                have z2 := hb7.cell 2
                have z3 := hb7.cell 3
                have z4 := hb7.cell 4
                have z5 := hb7.cell 5
                simp at z0 z1 z2 z3 z4 z5
                clear hx7 hsm7 hb7 hs ho7
                go_wp2_with fail

                refine (((HXp7.out.hold HOp7.out hX6).add_from hlt2 HOK2.out.room 19 l.length md nm)).mono ?_
                intro r p8 ho
                have HU : Hid (callR ws Rx Rt md nm k nds = addR ws ((k3 + 1) + 1) nds2 ⟨19, l.length, md, nm, [], (l ++ l2)⟩) := by
                  show _ = _
                  rw [callR, if_pos HS2.out, HRES1.out]; simp only [HS6.out, if_true]; rw [argsR, if_pos HSp1.out, if_neg (by rw [HSp2.out]; simp), HRES.out]
                  simp only [HS7.out, if_true]
                rcases hres : addR ws ((k3 + 1) + 1) nds2 ⟨19, l.length, md, nm, [], (l ++ l2)⟩ with ⟨at_, er⟩ | ⟨v, k', nds'⟩
                · rw [hres] at ho
                  obtain ⟨rfl, hk9⟩ := ho
                  exact And.intro rfl (Out.err (by rw [HU.out, hres]) hk9)
                · rw [hres] at ho
                  obtain ⟨rfl, hm9⟩ := ho
                  have HM9 := Lib.hid hm9
                  have HRES9 := Lib.hid hres
                  clear hres hm9
                  go_wp2_with fail
                  go_ret
                  exact Out.done (by rw [HU.out, HRES9.out]) HM9.out
              · have hs2 : seesW (tok ws (k3 + 1)) ⟨#[41]⟩ = false := by simpa using hs
                rw [hs2] at hr
                obtain ⟨rfl, hk9⟩ := hr
                refine And.intro rfl (Out.err ?_ hk9)
                rw [callR, if_pos HS2.out, HRES1.out]; simp only [HS6.out, if_true]; rw [argsR, if_pos HSp1.out, if_neg (by rw [HSp2.out]; simp), HRES.out]
                simp only [hs2]
                rfl
        · have hs2 : seesW (tok ws (k1 + 1)) ⟨#[40]⟩ = false := by simpa using hs
          rw [hs2] at hr
          obtain ⟨rfl, hk9⟩ := hr
          refine And.intro rfl (Out.err ?_ hk9)
          rw [callR, if_pos HS2.out, HRES1.out]; simp only [HS6.out, if_true]; rw [argsR, if_neg (by rw [hs2]; simp)]
      · have hs2 : seesW (tok ws k1) ⟨#[93]⟩ = false := by simpa using hs
        rw [hs2] at hr
        obtain ⟨rfl, hk9⟩ := hr
        refine And.intro rfl (Out.err ?_ hk9)
        rw [callR, if_pos HS2.out, HRES1.out]
        simp only [hs2]
        rfl
  · have hs2 : seesW (tok ws k) ⟨#[91]⟩ = false := by simpa using hs
    rw [adv_no hs2] at hx2
    rw [hs2]
    have HS2 := Lib.hid hs2
    obtain ⟨Xp, hXp⟩ : ∃ Xp : Nat → Prop, Xp = (fun i => False ∨ i = N) := ⟨_, rfl⟩
    have HXp : Hid (MdX Xp w w2 g ws k d a b c e f nds D) := Lib.hid (by rw [hXp]; exact hx2)
    have hXN : Xp N := by rw [hXp]; exact .inr rfl
    have HBp := Lib.hid (hsm2.blk (.inr rfl) HB1.out)
    have HOp : Hid (w2.ownsRow N 3 1 (.slice none 0 0) ([] : List Nat).length (ints3 [])) := Lib.hid ⟨rfl, .inl ⟨rfl, rfl⟩⟩
    have hXl : ∀ q, (Value.slice none 0 0).ownBlock = some q → Xp q := fun q h => by simp [Value.ownBlock] at h
    have hNl : ∀ q, (Value.slice none 0 0).ownBlock = some q → q ≠ N := fun q h => by simp [Value.ownBlock] at h
    have HOKp := HOK
    have hl16 : ([] : List Nat).length ≤ 16 := by simp
    clear hs hs2 hx2 hsm2 hXp
    go_wp2_with fail

    refine (HXp.out.need_ HOKp.out.lt ⟨#[40]⟩).mono ?_
    intro r p1 hr
    by_cases hs : seesW (tok ws k) ⟨#[40]⟩ = true
    · rw [hs] at hr
      obtain ⟨rfl, hm⟩ := hr
      have HYp1 := Lib.hid hm
      have HSp1 := Lib.hid hs
      clear hs hm
      obtain ⟨hx1, hsm1⟩ := HYp1.out
      have HXp1 := Lib.hid hx1
      have HBp1 := Lib.hid (hsm1.blk hXN HBp.out)
      have HOp1 := Lib.hid (hsm1.own hXl HOp.out)
      have hltp1 := sees_next HE.out HOKp.out.lt HSp1.out
      have HOKp1 : Hid (OkP ws (k + 1) nds) := Lib.hid ⟨hltp1, HOKp.out.room, HOKp.out.ok⟩
      clear hx1 hsm1
      go_wp2_with fail
      refine (HXp1.out.sees_ hltp1 ⟨#[41]⟩).mono ?_
      rintro r p2 ⟨rfl, hx2, hsm2⟩
      have HXp2 := Lib.hid hx2
      have HBp2 := Lib.hid (hsm2.blk hXN HBp1.out)
      have HOp2 := Lib.hid (hsm2.own hXl HOp1.out)
      clear hx2 hsm2
      by_cases hs : seesW (tok ws (k + 1)) ⟨#[41]⟩ = true
      · rw [hs]
        have HSp2 := Lib.hid hs
        clear hs
        go_wp2_with fail
        refine (HXp2.out.need_ hltp1 ⟨#[41]⟩).mono ?_
        intro r p3 hr
        rw [HSp2.out] at hr
        obtain ⟨rfl, hx3, hsm3⟩ := hr
        have HXp3 := Lib.hid hx3
        have hb3 := hsm3.blk hXN HBp2.out
        have HOp3 := Lib.hid (hsm3.own hXl HOp2.out)
        have z0 := hb3.cell 0
        have z1 := hb3.cell 1
        have z2 := hb3.cell 2
        have z3 := hb3.cell 3
        have z4 := hb3.cell 4
        have z5 := hb3.cell 5
        simp at z0 z1 z2 z3 z4 z5
        clear hx3 hsm3 hb3
        go_wp2_with fail

        refine (((HXp3.out.hold HOp3.out hXl).add_from hltp1 HOKp.out.room 19 0 md nm)).mono ?_
        intro r p4 ho
        have HU : Hid (callR ws Rx Rt md nm k nds = addR ws (k + 1 + 1) nds ⟨19, 0, md, nm, [], []⟩) := by
          show _ = _
          rw [callR, if_neg (by rw [HS2.out]; simp), argsR, if_pos HSp1.out, if_pos HSp2.out]
          rfl
        rcases hres : addR ws (k + 1 + 1) nds ⟨19, 0, md, nm, [], []⟩ with ⟨at_, er⟩ | ⟨v, k', nds'⟩
        · rw [hres] at ho
          obtain ⟨rfl, hk9⟩ := ho
          exact And.intro rfl (Out.err (by rw [HU.out, hres]) hk9)
        · rw [hres] at ho
          obtain ⟨rfl, hm9⟩ := ho
          have HM9 := Lib.hid hm9
          have HRES9 := Lib.hid hres
          clear hres hm9
          go_wp2_with fail
          go_ret
          exact Out.done (by rw [HU.out, HRES9.out]) HM9.out
      · have hs2 : seesW (tok ws (k + 1)) ⟨#[41]⟩ = false := by simpa using hs
        rw [hs2]
        have HSp2 := Lib.hid hs2
        clear hs hs2
        have hS : (p2 : World).drew.cell? ⟨N, 5, none⟩ = some (Value.slice none 0 0) := HBp2.out.cell 5
        go_wp2_with fail
        refine K_start 8 (fun u => u.cell? ⟨N, 5, none⟩ = some (Value.slice none 0 0)) (by kernel_rfl) ?_
        refine K_pure (i := 0) (v := ?_) rfl (by kernel_rfl) (by kernel_rfl) (by kernel_rfl) (by decide) (fun _ _ _ h => h) (fun _ => hS) (by rfl) ?_ ?_
        rotate_left
        · intro u
          go_simp
          try with_reducible rfl
        simp only [Act.put, List.setIfInBounds_toArray, List.set_cons_zero, List.set_cons_succ]
        refine K_take (i := 1) (v := ?_) rfl (by kernel_rfl) (by kernel_rfl) (by kernel_rfl) (by kernel_rfl) (by kernel_rfl) (fun _ _ _ h => h) hS (by rfl) ?_ ?_
        rotate_left
        · intro u hu
          go_simp
          try with_reducible rfl
        simp only [Act.put, List.setIfInBounds_toArray, List.set_cons_zero, List.set_cons_succ]
        refine K_pure (i := 2) (v := ?_) rfl (by kernel_rfl) (by kernel_rfl) (by kernel_rfl) (by decide) (fun _ _ _ h => h) (fun _ => hS) (by rfl) ?_ ?_
        rotate_left
        · intro u
          go_simp
          try with_reducible rfl
        simp only [Act.put, List.setIfInBounds_toArray, List.set_cons_zero, List.set_cons_succ]
        refine K_pure (i := 3) (v := ?_) rfl (by kernel_rfl) (by kernel_rfl) (by kernel_rfl) (by decide) (fun _ _ _ h => h) (fun _ => hS) (by rfl) ?_ ?_
        rotate_left
        · intro u
          go_simp
          try with_reducible rfl
        simp only [Act.put, List.setIfInBounds_toArray, List.set_cons_zero, List.set_cons_succ]
        refine K_pure (i := 4) (v := ?_) rfl (by kernel_rfl) (by kernel_rfl) (by kernel_rfl) (by decide) (fun _ _ _ h => h) (fun _ => hS) (by rfl) ?_ ?_
        rotate_left
        · intro u
          go_simp
          try with_reducible rfl
        simp only [Act.put, List.setIfInBounds_toArray, List.set_cons_zero, List.set_cons_succ]
        refine K_one (i := 5) (by kernel_rfl) rfl (fun K hK => ?_)
        go_simp
        refine (HXp2.out.drew.list_ HR.out (okR_of HE.out HG.out) ⟨#[44]⟩ HOKp1.out).mono ?_
        intro r p3 ho
        rcases hres : listR ws ⟨#[44]⟩ Rx (k + 1) nds with ⟨at_, er⟩ | ⟨l2, k2, nds2⟩
        · rw [hres] at ho
          obtain ⟨rfl, hk9⟩ := ho
          refine And.intro rfl (Out.err ?_ hk9)
          rw [callR, if_neg (by rw [HS2.out]; simp), argsR, if_pos HSp1.out, if_neg (by rw [HSp2.out]; simp), hres]
        · obtain ⟨hok2, hk2p, hl20, hl216, _⟩ := listR_len HG.out HE.out _ HOKp1.out hres
          rw [hres] at ho
          obtain ⟨v2, rfl, hx3, hsm3', ho3⟩ := ho
          have hsm3 : Same (fun i => Xp i) p2 p3 := fun i hi => hsm3' i hi
          obtain ⟨q2, n2, rfl, hbq2, hq2, _⟩ := own_ints ho3 hl20
          have hb3 := hsm3.blk hXN HBp2.out
          have hown3 := own_base (hsm3.own hXl HOp2.out) (Nat.le_refl _)
          refine hK _ _ (fun _ => hb3.cell 5) ?_
          clear hK K hS
          have HXp3 := Lib.hid (hx3.less (Y := Xp) fun i h => .inl h)
          have HRES := Lib.hid hres
          have HOK2 := Lib.hid hok2
          have hsz3 : w.heap.size ≤ p3.heap.size := hx3.kept.size
          have hNlt3 : N < p3.heap.size := hb3.lt
          have HBp3 := Lib.hid hb3
          have HOp3 := Lib.hid hown3
          have HO3 := Lib.hid ho3
          have y5 := hb3.frozen 5
          clear hres hx3 hsm3 hsm3' hb3 hown3 ho3 hok2
          have hl16' := hl16
          refine K_one (i := 6) (by kernel_rfl) rfl (fun K hK => ?_)
          refine step_append_lies _ (by rfl) _ _ _ (by rfl) _ 3 i0 _ 1 8 Tryz.underlying29 HI.out HZ0.out HZ1.out HZ2.out rfl (by decide) (Value.slice none 0 0) ([] : List Nat).length (ints3 []) (by rfl) HOp3.out ⟨q2, 0, none⟩ l2.length n2 (ints3 l2) (by rfl) (by simp [ints3]) (HO3.out.cells (g := q2) rfl) (ints3_one l2) hl20 (by simp only [maxLen]; simp; omega) (by simp; omega) (Nat.le_of_lt hNlt3) (p3.heap.size) rfl ?_
          intro gg cap p5 hown5 hgrow5 hat5 hlt5
          simp only [List.length_nil, Nat.zero_add] at hown5
          have hkg : Kept (fun i => (Value.slice none 0 0).ownBlock = some i) p3 p5 := (Kept.refl _ p3).grown hgrow5 (fun i _ h => h)
          have hb5 := hkg.blk HBp3.out (fun h => hNl _ h rfl)
          have hggN : gg ≠ N := by
            rcases hat5 with h | h
            · exact hNl _ h
            · omega
          have hx5 := HXp3.out.app hXl hkg (hat5.imp id (fun h => Nat.le_of_eq h.symm)) hlt5
          refine hK _ _ (fun h => ?_) ?_
          · exact hb5.cell 5
          clear hK K y5
          have y5 := hb5.frozen 5
          have z5 := hb5.cell 5
          have z5r : p5.cell? ⟨N, 5, none⟩ = some (Value.slice none 0 0) := z5
          simp at z5
          have HXp5 := Lib.hid (hx5.put (N := N) (.inl hXN) 5 (.slice (some ⟨gg, 0, none⟩) l2.length cap))
          have hb6 := hb5.set_ 5 (.slice (some ⟨gg, 0, none⟩) l2.length cap)
          simp at hb6
          have hown6 := own_kept_ne hown5 ((Kept.refl (fun i => i = N) p5).setCell (p := ⟨N, 5, none⟩) (fun _ => rfl) (.slice (some ⟨gg, 0, none⟩) l2.length cap)) (fun q hq h => hggN ((show gg = q from by simpa [Value.ownBlock] using hq).trans h))
          have HBp5 := Lib.hid hb6
          have HOp5 := Lib.hid hown6
          clear hown5 hgrow5 hat5 hb5 hb6 hx5 hown6 hkg
          refine K_one (i := 7) (by kernel_rfl) rfl (fun K hK => ?_)
          go_simp
          refine hK _ _ (fun _ => z5r) ?_
          clear hK K
          refine K_one (i := 8) (by kernel_rfl) rfl (fun K hK => ?_)
          go_simp
          refine hK _ _ (fun h => absurd h (by decide)) ?_
          clear hK K z5 z5r y5
          refine K_done (by kernel_rfl) ?_
          generalize hw6 : p5.setCell ⟨N, 5, none⟩ (.slice (some ⟨gg, 0, none⟩) l2.length cap) = p6 at HXp5 HBp5 HOp5 ⊢
          clear hw6
          have hlt2 := HOK2.out.lt
          have hX6 : ∀ q, (Value.slice (some ⟨gg, 0, none⟩) l2.length cap).ownBlock = some q → (Xp q ∨ q = gg) := fun q h => .inr (by simpa [Value.ownBlock] using h.symm)
          obtain ⟨k3, rfl⟩ : ∃ k3, k2 = k3 + 1 := ⟨k2 - 1, by omega⟩
          go_wp2_with fail
          refine (HXp5.out.need_ hlt2 ⟨#[41]⟩).mono ?_
          intro r p7 hr
          by_cases hs : seesW (tok ws (k3 + 1)) ⟨#[41]⟩ = true
          · rw [hs] at hr
            obtain ⟨rfl, hx7, hsm7⟩ := hr
            have HXp7 := Lib.hid hx7
            have hb7 := hsm7.blk (.inl hXN) HBp5.out
            have ho7 : p7.ownsRow N 3 1 (.slice (some ⟨gg, 0, none⟩) l2.length cap) l2.length (ints3 l2) := by
              have := hsm7.own hX6 HOp5.out
              exact this
            have HOp7 := Lib.hid ho7
            have HS7 := Lib.hid hs
            have z0 := hb7.cell 0
            have z1 := hb7.cell 1
            have z2 := hb7.cell 2
            have z3 := hb7.cell 3
            have z4 := hb7.cell 4
            have z5 := hb7.cell 5
            simp at z0 z1 z2 z3 z4 z5
            clear hx7 hsm7 hb7 hs ho7
            go_wp2_with fail

            refine (((HXp7.out.hold HOp7.out hX6).add_from hlt2 HOK2.out.room 19 0 md nm)).mono ?_
            intro r p8 ho
            have HU : Hid (callR ws Rx Rt md nm k nds = addR ws ((k3 + 1) + 1) nds2 ⟨19, 0, md, nm, [], l2⟩) := by
              show _ = _
              rw [callR, if_neg (by rw [HS2.out]; simp), argsR, if_pos HSp1.out, if_neg (by rw [HSp2.out]; simp), HRES.out]
              simp only [HS7.out, if_true]
              rfl
            rcases hres : addR ws ((k3 + 1) + 1) nds2 ⟨19, 0, md, nm, [], l2⟩ with ⟨at_, er⟩ | ⟨v, k', nds'⟩
            · rw [hres] at ho
              obtain ⟨rfl, hk9⟩ := ho
              exact And.intro rfl (Out.err (by rw [HU.out, hres]) hk9)
            · rw [hres] at ho
              obtain ⟨rfl, hm9⟩ := ho
              have HM9 := Lib.hid hm9
              have HRES9 := Lib.hid hres
              clear hres hm9
              go_wp2_with fail
              go_ret
              exact Out.done (by rw [HU.out, HRES9.out]) HM9.out
          · have hs2 : seesW (tok ws (k3 + 1)) ⟨#[41]⟩ = false := by simpa using hs
            rw [hs2] at hr
            obtain ⟨rfl, hk9⟩ := hr
            refine And.intro rfl (Out.err ?_ hk9)
            rw [callR, if_neg (by rw [HS2.out]; simp), argsR, if_pos HSp1.out, if_neg (by rw [HSp2.out]; simp), HRES.out]
            simp only [hs2]
            rfl
    · have hs2 : seesW (tok ws k) ⟨#[40]⟩ = false := by simpa using hs
      rw [hs2] at hr
      obtain ⟨rfl, hk9⟩ := hr
      refine And.intro rfl (Out.err ?_ hk9)
      rw [callR, if_neg (by rw [HS2.out]; simp), argsR, if_neg (by rw [hs2]; simp)]
end Go.Proofs.YtdnpflmlonmgcaaGreatDoor
