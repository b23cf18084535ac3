/- Contracts and plain facts that the theorem rests on: TSameV. -/
import Derived.Test.YtbdepdckfkjonaaGreatDoorZB12
import Derived.Test.YtbdepdckfkjonaaGreatDoorZB13
import Derived.Test.YtbdepdckfkjonaaGreatDoorZB14
namespace Go.Proofs.YtbdepdckfkjonaaGreatDoor
open Go.RowKit

def Dc.toI (d : Dc) : Di := ⟨d.nm, (d.ty : Int)⟩
def Fd.toI (f : Fd) : Fi := ⟨f.nm, f.vars.map Dc.toI, f.params.map Dc.toI, (f.ret : Int), (f.body : Int)⟩
def natI (v : Nat) : Int := (v : Int)
def Nd.toI (x : Nd) : Ni := ⟨(x.kind : Int), (x.num : Int), x.md, x.nm, x.keys, x.l.map natI⟩
def Md.toI (m : Md) : Mi := ⟨m.nm, m.imports, m.types.map Dc.toI, m.fns.map Fd.toI, m.nodes.map Nd.toI⟩

theorem rd_own {w : World} {base : Nat} {t : TypeId} {k : Nat} {A : Option Addr} {n c : Nat} {vs : List Value} (h : w.ownsRow base t k (.slice A n c) n vs) (hn : 0 < vs.length → 0 < n) : RdV w A vs := fun h0 => by
  obtain ⟨q, c', e, hb, hq⟩ := h.form (hn h0)
  cases e
  exact ⟨q, 0, rfl, fun j x hj => by have := h.cells (g := q) rfl j x hj; rwa [addr_lit] at this⟩
theorem rd_sq {w : World} {M : Nat → Prop} {A : Option Addr} {c : Nat} {l : List ByteArray} (h : SSq w M (.slice A l.length c) l) : RdV w A (l.flatMap sC) := fun h0 => by
  rw [rowc_len sC 1 (fun _ => rfl), Nat.mul_one] at h0
  obtain ⟨A', c', e, hc⟩ := h
  cases e
  obtain ⟨b, o, hA, _, _, hx⟩ := hc h0
  refine ⟨b, o, hA, fun j v hv => ?_⟩
  have hj : j < l.length := by
    have := (List.getElem?_eq_some_iff.1 hv).1
    rwa [rowc_len sC 1 (fun _ => rfl), Nat.mul_one] at this
  have h1 := rowc_get sC 1 (fun _ => rfl) l j l[j] (List.getElem?_eq_getElem hj) 0 (.string l[j]) rfl
  rw [Nat.mul_one, Nat.add_zero, hv] at h1
  injection h1 with h1
  rw [h1]
  exact hx j _ (List.getElem?_eq_getElem hj)
theorem rd_iq {w : World} {M : Nat → Prop} {A : Option Addr} {c : Nat} {l : List Nat} (h : ISq w M (.slice A l.length c) l) : RdV w A ((l.map natI).flatMap iC) := fun h0 => by
  rw [rowc_len iC 1 (fun _ => rfl), Nat.mul_one, List.length_map] at h0
  obtain ⟨A', c', e, hc⟩ := h
  cases e
  obtain ⟨b, o, hA, _, _, hx⟩ := hc h0
  refine ⟨b, o, hA, fun j v hv => ?_⟩
  have hj : j < l.length := by
    have := (List.getElem?_eq_some_iff.1 hv).1
    rwa [rowc_len iC 1 (fun _ => rfl), Nat.mul_one, List.length_map] at this
  have h1 := rowc_get iC 1 (fun _ => rfl) (l.map natI) j (natI l[j]) (by rw [List.getElem?_map, List.getElem?_eq_getElem hj]; rfl) 0 (.int .i64 (natI l[j])) rfl
  rw [Nat.mul_one, Nat.add_zero, hv] at h1
  injection h1 with h1
  rw [h1]
  exact hx j _ (List.getElem?_eq_getElem hj)
theorem strs3_flat (l : List ByteArray) : strs3 l = l.flatMap sC := by
  induction l with
  | nil => rfl
  | cons x l ih => rw [List.flatMap_cons, ← ih]; rfl
theorem dcells_flat (l : List Dc) : dcells l = (l.map Dc.toI).flatMap Di.cells := by
  induction l with
  | nil => rfl
  | cons x l ih => rw [List.map_cons, List.flatMap_cons, ← ih]; rfl
theorem rd_ds {w : World} {B : Nat} {t : TypeId} {A : Option Addr} {c : Nat} {l : List Dc} (h : w.ownsRow B t 2 (.slice A l.length c) l.length (dcells l)) : RdV w A ((l.map Dc.toI).flatMap Di.cells) := by
  rw [dcells_flat] at h
  refine rd_own h fun h0 => ?_
  rw [rowc_len Di.cells 2 (fun _ => rfl), List.length_map] at h0
  omega
theorem fns_rd {w : World} {F : Nat → Prop} {B : Nat} {A : Option Addr} {c : Nat} {fv : List Fv} (h : w.ownsRow B 54 5 (.slice A fv.length c) fv.length (fcells fv)) (hh : HeldF w F fv) (hs : ∀ p ∈ fv, SmallF p.1) :
    FnsR w A ((fv.map (·.1)).map Fd.toI) := fun h0 => by
  rw [List.length_map, List.length_map] at h0
  obtain ⟨q, c', e, hb, hq⟩ := h.form h0
  cases e
  refine ⟨q, 0, rfl, fun i x hx => ?_⟩
  obtain ⟨p, hp, rfl⟩ : ∃ p, fv[i]? = some p ∧ p.1.toI = x := by
    rw [List.getElem?_map, List.getElem?_map] at hx
    cases hf : fv[i]? with
    | none => rw [hf] at hx; simp at hx
    | some p => rw [hf] at hx; simp at hx; exact ⟨p, rfl, hx⟩
  have hm := List.mem_of_getElem? hp
  obtain ⟨⟨B1, o1⟩, ⟨B2, o2⟩, _⟩ := hh p hm
  obtain ⟨s1, s2⟩ := hs p hm
  have hc : ∀ (t : Nat) (v : Value), (Fv.cells p)[t]? = some v → w.cell? ⟨q, 0 + i * 5 + t, none⟩ = some v := by
    intro t v hv
    have := h.cells (g := q) rfl _ v (rowc_get Fv.cells 5 (fun _ => rfl) fv i p hp t v hv)
    rw [addr_lit, ← Nat.add_assoc] at this
    exact this
  obtain ⟨pf, v1, v2⟩ := p
  obtain ⟨VA, vc, e1⟩ := own_slice o1
  obtain ⟨PA, pc, e2⟩ := own_slice o2
  simp only [] at e1 e2
  subst e1
  subst e2
  refine ⟨VA, vc, PA, pc, hc 0 _ rfl, ?_, ?_, hc 3 _ rfl, hc 4 _ rfl, rd_ds o1, rd_ds o2, ?_, ?_⟩
  · rw [show (Fd.toI pf).vars.length = pf.vars.length from List.length_map ..]; exact hc 1 _ rfl
  · rw [show (Fd.toI pf).params.length = pf.params.length from List.length_map ..]; exact hc 2 _ rfl
  · rw [show (Fd.toI pf).vars.length = pf.vars.length from List.length_map ..]; simp only [] at s1; omega
  · rw [show (Fd.toI pf).params.length = pf.params.length from List.length_map ..]; simp only [] at s2; omega
theorem nds_rd {w : World} {g : Nat} {D : Nat → Prop} {A : Option Addr} {c : Nat} {ps : List Np} (h : w.ownsRow (g + 1) 51 6 (.slice A ps.length c) ps.length (ncells ps)) {M : Nat → Prop} (hh : ∀ p ∈ ps, SSq w M p.2.1 p.1.keys ∧ ISq w M p.2.2 p.1.l)
    (hk : ∀ p ∈ ps, p.1.keys.length ≤ 17 ∧ p.1.l.length ≤ 4000) : NdsR w A ((ps.map (·.1)).map Nd.toI) := fun h0 => by
  rw [List.length_map, List.length_map] at h0
  obtain ⟨q, c', e, hb, hq⟩ := h.form h0
  cases e
  refine ⟨q, 0, rfl, fun i x hx => ?_⟩
  obtain ⟨p, hp, rfl⟩ : ∃ p, ps[i]? = some p ∧ p.1.toI = x := by
    rw [List.getElem?_map, List.getElem?_map] at hx
    cases hf : ps[i]? with
    | none => rw [hf] at hx; simp at hx
    | some p => rw [hf] at hx; simp at hx; exact ⟨p, rfl, hx⟩
  have hm := List.mem_of_getElem? hp
  obtain ⟨o1, o2⟩ := hh p hm
  obtain ⟨s1, s2⟩ := hk p hm
  have hc : ∀ (t : Nat) (v : Value), (Np.cells p)[t]? = some v → w.cell? ⟨q, 0 + i * 6 + t, none⟩ = some v := by
    intro t v hv
    have := h.cells (g := q) rfl _ v (rowc_get Np.cells 6 (fun _ => rfl) ps i p hp t v hv)
    rw [addr_lit, ← Nat.add_assoc] at this
    exact this
  obtain ⟨pf, v1, v2⟩ := p
  obtain ⟨VA, vc, e1⟩ : ∃ VA vc, v1 = .slice VA pf.keys.length vc := by obtain ⟨A, c, e, _⟩ := o1; exact ⟨A, c, e⟩
  obtain ⟨PA, pc, e2⟩ : ∃ PA pc, v2 = .slice PA pf.l.length pc := by obtain ⟨A, c, e, _⟩ := o2; exact ⟨A, c, e⟩
  subst e1
  subst e2
  refine ⟨VA, vc, PA, pc, hc 0 _ rfl, hc 1 _ rfl, hc 2 _ rfl, hc 3 _ rfl, hc 4 _ rfl, ?_, rd_sq o1, rd_iq o2, ?_, ?_⟩
  · rw [show (Nd.toI pf).l.length = pf.l.length from List.length_map ..]; exact hc 5 _ rfl
  · show (pf.keys.length : Int) ≤ _; simp only [] at s1; omega
  · rw [show (Nd.toI pf).l.length = pf.l.length from List.length_map ..]; simp only [] at s2; omega
theorem ModV.rd {B : Nat} {w : World} {m : Md} {b c e f : Value} (h : ModV B w m b c e f) (hs : Small m) :
    ∃ A1 c1 A2 c2 A3 c3 A4 c4, b = .slice A1 m.toI.imports.length c1 ∧ c = .slice A2 m.toI.types.length c2 ∧ e = .slice A3 m.toI.fns.length c3 ∧ f = .slice A4 m.toI.nodes.length c4 ∧ MdR w m.toI A1 A2 A3 A4 := by
  obtain ⟨B1, o1⟩ := h.imports
  obtain ⟨B2, o2⟩ := h.types
  obtain ⟨fv, hfv, ⟨B3, o3⟩, hh⟩ := h.fns
  obtain ⟨g, E, hn, _⟩ := h.nodes
  obtain ⟨ps, hps, o4, hnd⟩ := hn.rows
  obtain ⟨A1, c1, rfl⟩ := own_slice o1
  obtain ⟨A2, c2, rfl⟩ := own_slice o2
  obtain ⟨A3, c3, rfl⟩ := own_slice o3
  obtain ⟨A4, c4, rfl⟩ := own_slice o4
  have l3 : fv.length = m.fns.length := by rw [← hfv, List.length_map]
  have l4 : ps.length = m.nodes.length := by rw [← hps, List.length_map]
  have n2 : m.toI.types.length = m.types.length := List.length_map ..
  have n3 : m.toI.fns.length = m.fns.length := List.length_map ..
  have n4 : m.toI.nodes.length = m.nodes.length := List.length_map ..
  refine ⟨A1, c1, A2, c2, A3, c3, A4, c4, rfl, by rw [n2], by rw [n3, l3], by rw [n4, l4], ⟨?_, rd_ds o2, ?_, ?_, ?_, ?_, ?_, ?_⟩⟩
  · rw [strs3_flat] at o1
    refine rd_own o1 fun h0 => ?_
    rw [rowc_len sC 1 (fun _ => rfl), Nat.mul_one] at h0
    exact h0
  · have := fns_rd o3 hh (fun p hp => hs.f p.1 (by rw [← hfv]; exact List.mem_map_of_mem hp))
    rw [hfv] at this
    exact this
  · have := nds_rd (D := fun _ => True) o4 hnd (fun p hp => ⟨hs.keys p.1 (by rw [← hps]; exact List.mem_map_of_mem hp), hs.l p.1 (by rw [← hps]; exact List.mem_map_of_mem hp)⟩)
    rw [hps] at this
    exact this
  · show (m.imports.length : Int) ≤ _; have := hs.imports; omega
  · rw [n2]; have := hs.types; omega
  · rw [n3]; have := hs.fns; omega
  · rw [n4]; have := hs.nodes; omega
theorem MdR.zero (w : World) : MdR w ⟨⟨#[]⟩, [], [], [], []⟩ none none none none :=
  ⟨fun h => by simp at h, fun h => by simp at h, fun h => by simp at h, fun h => by simp at h, by simp, by simp, by simp, by simp⟩
end Go.Proofs.YtbdepdckfkjonaaGreatDoor
