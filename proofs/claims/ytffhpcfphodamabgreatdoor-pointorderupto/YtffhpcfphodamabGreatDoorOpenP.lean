/- Several policies that came in; a number that came in. -/
import Derived.Test.YtffhpcfphodamabGreatDoorOpen
import Derived.Test.YtffhpcfphodamabGreatDoorPols
set_option linter.all false
set_option maxRecDepth 100000
namespace Go.Proofs.YtffhpcfphodamabGreatDoor
open Go.ChangeShapes Go.WideShapes Go.ChangeAt Go.RowKit Go.Deep

theorem open_pols0 {H : Type} {enc : TypeId × Value → H} {W : World} {base : Nat} {sp : Nat → Bool} {held : Bool} {fuel : Nat} {rv : Value} {x : DataW H × List MemPlace} (h : DataW.trod enc Tryz.prog W base sp held fuel 22 [rv] = some x) : ∃ ps, PolsAt W.heap.size W rv ps := by
  rcases open_slice_pairs Tryz.underlying22 Tryz.underlying43 (by kernel_rfl) rfl rfl (by kernel_rfl) (by kernel_rfl) h with ⟨h0, _⟩ | ⟨a, len, cap, m, n, V0, V1, _, _, _, _, h0, _, hl, hm, hmm, _, hx⟩
  · simp at h0
    subst h0
    exact ⟨[], none, 0, rfl, Nat.le_refl _, Nat.zero_le _, fun i c hc => by simp at hc⟩
  · simp at h0
    subst h0
    have hlm : len ≤ m := by rw [hmm]; split <;> omega
    have each : ∀ i, i < len → ∃ p : PolT, a = ⟨a.block, a.off, none⟩ ∧ a.block < W.heap.size ∧ PolC W.heap.size W a.block (a.off + i * 2) p := by
      intro i hi
      obtain ⟨ha, hb⟩ := addr_plain (hx 0 (by omega)).1
      obtain ⟨c0, c1, t0, t1⟩ := hx i (by omega)
      obtain ⟨rs, hrs⟩ := open_rules t0
      obtain ⟨v, q1, _, w1⟩ := DataW.trod_int Tryz.underlying3 t1
      simp at q1
      rw [q1] at c1
      rw [ha, add_at] at c0 c1
      exact ⟨(rs, v), ha, hb, V0 i, c0, by simpa [Nat.add_assoc] using c1, w1, hrs⟩
    obtain ⟨ps, hpl, hpp⟩ := list_of _ len each
    refine ⟨ps, some a, cap, by rw [hpl], by omega, hm, fun i p hp => ?_⟩
    obtain ⟨ha, hb, hat⟩ := hpp i p hp
    exact ⟨a.block, a.off, by rw [← ha], hb, hat⟩
theorem open_pols {H : Type} {enc : TypeId × Value → H} {W : World} {r : Reach} {b0 base : Nat} {sp : Nat → Bool} {held : Bool} {v : Value} {d : DataW H} {p : List MemPlace}
    (hv : Value.okWide Tryz.prog W r b0 22 v) (h : DataW.Trod enc Tryz.prog W base sp held 22 v d p) : ∃ ps, PolsAt W.heap.size W v ps ∧ (ps = [] ∨ ∃ elems spare, d = .slice elems spare ∧ ps.length = elems.length) := by
  obtain ⟨a, len, cap, rfl⟩ := okWide_slice Tryz.underlying22 hv
  obtain ⟨fuel, hf⟩ := h
  have hf' : DataW.trod enc Tryz.prog W base sp held fuel 22 [.slice a len cap] = some (d, p) := hf
  obtain ⟨rs, hrs⟩ := open_pols0 hf'
  refine ⟨rs, hrs, ?_⟩
  obtain ⟨a', cap', e, _⟩ := hrs
  simp at e
  rcases open_slice Tryz.underlying22 hf' with ⟨h0, _⟩ | ⟨a2, len2, cap2, m, n, D, Pl, h0, _, _, _, _, hx, _⟩
  · simp at h0
    exact .inl (List.length_eq_zero_iff.1 (by omega))
  · simp at h0 hx
    exact .inr ⟨_, _, hx.1, by simp; omega⟩
theorem open_int {H : Type} {enc : TypeId × Value → H} {W : World} {r : Reach} {b0 base : Nat} {sp : Nat → Bool} {held : Bool} {v : Value} {d : DataW H} {p : List MemPlace}
    (hv : Value.okWide Tryz.prog W r b0 3 v) (h : DataW.Trod enc Tryz.prog W base sp held 3 v d p) : ∃ n, v = .int .i64 n ∧ wf n := by
  obtain ⟨n, rfl⟩ := okWide_int Tryz.underlying3 hv
  obtain ⟨fuel, hf⟩ := h
  have hf' : DataW.trod enc Tryz.prog W base sp held fuel 3 [.int .i64 n] = some (d, p) := hf
  obtain ⟨m, q, _, hw⟩ := DataW.trod_int Tryz.underlying3 hf'
  simp at q
  subst q
  exact ⟨n, rfl, hw⟩

end Go.Proofs.YtffhpcfphodamabGreatDoor
