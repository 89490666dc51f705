/- Records that came in, in a row. -/
import Derived.Test.YtbdlojnigflanacGreatDoorKa09
set_option linter.all false
set_option maxRecDepth 100000
namespace Go.Proofs.YtbdlojnigflanacGreatDoor
open Go.ChangeShapes Go.WideShapes Go.ChangeAt Go.RowKit Go.Deep Go.Maps

theorem open_recs0 {H : Type} {enc : TypeId × Value → H} {W : World} {base : Nat} {sp : Nat → Bool} {held : Bool} {fuel : Nat} {cv : Value} {x : DataW H × List MemPlace} (h : DataW.trod enc Tryz.prog W base sp held fuel 53 [cv] = some x) : ∃ rs, RecsAt W.heap.size W cv rs := by
  rcases open_slice Tryz.underlying53 h with ⟨h0, _⟩ | ⟨a, len, cap, m, n, D, Pl, h0, _, hl, hm, hmm, _, hx⟩
  · simp at h0
    subst h0
    exact ⟨[], none, 0, rfl, Nat.le_refl _, Nat.zero_le _, fun i c hc => by simp at hc⟩
  · simp at h0
    subst h0
    have h5 : Tryz.prog.cellsOf 38 = 5 := by kernel_rfl
    have hp2 : Tryz.prog.cellsOf 24 = 2 := by kernel_rfl
    have hi1 : Tryz.prog.cellsOf 3 = 1 := by kernel_rfl
    rw [h5] at hx
    have hlm : len ≤ m := by rw [hmm]; split <;> omega
    have each : ∀ i, i < len → ∃ r : RecT, a = ⟨a.block, a.off, none⟩ ∧ a.block < W.heap.size ∧ RecIn W.heap.size W a.block (a.off + i * 5) r := by
      intro i hi
      have h00 : W.cell? (a.add 0) ≠ none := by
        obtain ⟨cs', g1, _⟩ := hx 0 (by omega)
        obtain ⟨_, hlen, hcell⟩ := World.cells?_some g1
        have := hcell 0 (by omega)
        rw [add_add] at this
        simp at this
        match cs', hlen with
        | [v0, v1, v2, v3, v4], _ => simp at this ⊢; rw [this]; simp
      obtain ⟨v, hv⟩ := Option.ne_none_iff_exists'.1 h00
      obtain ⟨ha, hb⟩ := addr_plain hv
      obtain ⟨cs', g1, g2⟩ := hx i (by omega)
      obtain ⟨_, hlen, hcell⟩ := World.cells?_some g1
      obtain ⟨y0, y1, y2, y3, k, _, _, e0, e1, e2, e3⟩ := Go.Joins.trod_struct4 Tryz.underlying38 g2
      match cs', hlen with
      | [v0, v1, v2, v3, v4], _ =>
        simp [hp2, hi1] at e0 e1 e2 e3
        obtain ⟨k0, q0, _, w0⟩ := DataW.trod_int Tryz.underlying3 e0
        obtain ⟨k1, q1, _, w1⟩ := DataW.trod_int Tryz.underlying3 e1
        obtain ⟨k2, q2, _, w2⟩ := DataW.trod_int Tryz.underlying3 e2
        simp at q0 q1 q2
        subst q0 q1 q2
        obtain ⟨pp, hpp⟩ := polOf_cells e3
        obtain ⟨rv, e, hd, hrs⟩ := id hpp
        simp at e
        obtain ⟨rfl, rfl⟩ := e
        have c0 := hcell 0 (by omega)
        have c1 := hcell 1 (by omega)
        have c2 := hcell 2 (by omega)
        have c3 := hcell 3 (by omega)
        have c4 := hcell 4 (by omega)
        rw [add_add, ha, add_at] at c0 c1 c2 c3 c4
        exact ⟨(k0, k1, k2, pp), ha, hb, v3, by simpa using c0, by simpa [Nat.add_assoc] using c1, by simpa [Nat.add_assoc] using c2, by simpa [Nat.add_assoc] using c3, by simpa [Nat.add_assoc] using c4, v3, rfl, w0, w1, w2, hpp⟩
    obtain ⟨rs, hcl, hcp⟩ := list_of _ len each
    refine ⟨rs, some a, cap, by rw [hcl], by omega, hm, fun i c hc => ?_⟩
    obtain ⟨ha, hb, hat⟩ := hcp i c hc
    exact ⟨a.block, a.off, by rw [← ha], hb, hat⟩
theorem open_recs {H : Type} {enc : TypeId × Value → H} {W : World} {r : Reach} {b0 base : Nat} {sp : Nat → Bool} {held : Bool} {v : Value} {d : DataW H} {p : List MemPlace}
    (hv : Value.okWide Tryz.prog W r b0 53 v) (h : DataW.Trod enc Tryz.prog W base sp held 53 v d p) : ∃ rs, RecsAt W.heap.size W v rs := by
  obtain ⟨a, len, cap, rfl⟩ := okWide_slice Tryz.underlying53 hv
  obtain ⟨fuel, hf⟩ := h
  have hf' : DataW.trod enc Tryz.prog W base sp held fuel 53 [.slice a len cap] = some (d, p) := hf
  exact open_recs0 hf'
end Go.Proofs.YtbdlojnigflanacGreatDoor
