/- Sessions that came in. -/
import Derived.Test.YtbdlojnigflanacGreatDoorKa09
import Derived.Test.YtbdlojnigflanacGreatDoorKa25
import Derived.Deep.Strs
set_option linter.all false
set_option maxRecDepth 100000
namespace Go.Proofs.YtbdlojnigflanacGreatDoor
open Go.ChangeShapes Go.WideShapes Go.ChangeAt Go.RowKit Go.Deep Go.Maps

theorem open_cells0 {H : Type} {enc : TypeId × Value → H} {W : World} {base : Nat} {sp : Nat → Bool} {held : Bool} {fuel : Nat} {cv : Value} {x : DataW H × List MemPlace} (h : DataW.trod enc Tryz.prog W base sp held fuel 66 [cv] = some x) : ∃ l, CellsAt W.heap.size W cv l := by
  rcases open_slice Tryz.underlying66 h with ⟨h0, _⟩ | ⟨a, len, cap, m, n, D, Pl, h0, _, hl, hm, hmm, _, hx⟩
  · simp at h0
    subst h0
    exact ⟨[], none, 0, rfl, Nat.le_refl _, Nat.zero_le _, fun i c hc => by simp at hc⟩
  · simp at h0
    subst h0
    have h4 : Tryz.prog.cellsOf 77 = 4 := by kernel_rfl
    have hp2 : Tryz.prog.cellsOf 24 = 2 := by kernel_rfl
    have hi1 : Tryz.prog.cellsOf 4 = 1 := by kernel_rfl
    have hc1 : Tryz.prog.cellsOf 75 = 1 := by kernel_rfl
    rw [h4] at hx
    have hlm : len ≤ m := by rw [hmm]; split <;> omega
    have each : ∀ i, i < len → ∃ c : CellT, a = ⟨a.block, a.off, none⟩ ∧ a.block < W.heap.size ∧ CellIn W.heap.size W a.block (a.off + i * 4) c := by
      intro i hi
      have h00 : W.cell? (a.add 0) ≠ none := by
        obtain ⟨cs', g1, _⟩ := hx 0 (by omega)
        obtain ⟨_, hlen, hcell⟩ := World.cells?_some g1
        have := hcell 0 (by omega)
        rw [add_add] at this
        simp at this
        match cs', hlen with
        | [v0, v1, v2, v3], _ => simp at this ⊢; rw [this]; simp
      obtain ⟨v, hv⟩ := Option.ne_none_iff_exists'.1 h00
      obtain ⟨ha, hb⟩ := addr_plain hv
      obtain ⟨cs', g1, g2⟩ := hx i (by omega)
      obtain ⟨_, hlen, hcell⟩ := World.cells?_some g1
      obtain ⟨y0, y1, y2, k, _, _, e0, e1, e2⟩ := trod_struct3 Tryz.underlying77 g2
      match cs', hlen with
      | [v0, v1, v2, v3], _ =>
        simp [hp2, hi1, hc1] at e0 e1 e2
        obtain ⟨ob, q0, _⟩ := DataW.trod_bool Tryz.underlying4 e0
        simp at q0
        subst q0
        obtain ⟨ls, hls⟩ := open_chs0 e1
        obtain ⟨pp, hpp⟩ := polOf_cells e2
        obtain ⟨rv, e, hd, hrs⟩ := id hpp
        simp at e
        obtain ⟨rfl, rfl⟩ := e
        have c0 := hcell 0 (by omega)
        have c1 := hcell 1 (by omega)
        have c2 := hcell 2 (by omega)
        have c3 := hcell 3 (by omega)
        rw [add_add, ha, add_at] at c0 c1 c2 c3
        exact ⟨(ob, ls, pp), ha, hb, v1, v2, by simpa using c0, by simpa [Nat.add_assoc] using c1, by simpa [Nat.add_assoc] using c2, by simpa [Nat.add_assoc] using c3, hls, hpp⟩
    obtain ⟨l, hcl, hcp⟩ := list_of _ len each
    refine ⟨l, some a, cap, by rw [hcl], by omega, hm, fun i c hc => ?_⟩
    obtain ⟨ha, hb, hat⟩ := hcp i c hc
    exact ⟨a.block, a.off, by rw [← ha], hb, hat⟩
theorem open_cells {H : Type} {enc : TypeId × Value → H} {W : World} {r : Reach} {b0 base : Nat} {sp : Nat → Bool} {held : Bool} {v : Value} {d : DataW H} {p : List MemPlace}
    (hv : Value.okWide Tryz.prog W r b0 66 v) (h : DataW.Trod enc Tryz.prog W base sp held 66 v d p) : ∃ l, CellsAt W.heap.size W v l := by
  obtain ⟨a, len, cap, rfl⟩ := okWide_slice Tryz.underlying66 hv
  obtain ⟨fuel, hf⟩ := h
  have hf' : DataW.trod enc Tryz.prog W base sp held fuel 66 [.slice a len cap] = some (d, p) := hf
  exact open_cells0 hf'
end Go.Proofs.YtbdlojnigflanacGreatDoor
