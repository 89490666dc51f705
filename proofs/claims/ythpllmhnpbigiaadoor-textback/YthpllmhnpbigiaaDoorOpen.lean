/- Policies and calls that came in, as plain data; all arguments behind a call that turned nothing old. -/
import Derived.Test.YthpllmhnpbigiaaDoorRows
import Derived.Test.YthpllmhnpbigiaaDoorMade
import Derived.ProofKit
import Derived.OpenShut
import Derived.ShutString
import Derived.ChangeOld
import Derived.Below
import Derived.Deep.SlicePairs
import Derived.Deep.Strs
set_option linter.all false
set_option maxRecDepth 100000
namespace Go.Proofs.YthpllmhnpbigiaaDoor
open Go.ChangeShapes Go.WideShapes Go.ChangeAt Go.RowKit Go.Deep

section
variable {H : Type} {enc : TypeId × Value → H} {W : World} {base : Nat} {sp : Nat → Bool} {held : Bool}

theorem open_conds {fuel : Nat} {cv : Value} {x : DataW H × List MemPlace} (h : DataW.trod enc Tryd.prog W base sp held fuel 39 [cv] = some x) : ∃ cs, CondsAt W.heap.size W cv cs := by
  rcases open_slice Tryd.underlying39 h with ⟨h0, _⟩ | ⟨a, len, cap, m, n, D, Pl, h0, _, hl, hm, hmm, _, hx⟩
  · simp at h0
    subst h0
    exact ⟨[], none, 0, rfl, Nat.le_refl _, Nat.zero_le _, fun i c hc => by simp at hc⟩
  · simp at h0
    subst h0
    have h3 : Tryd.prog.cellsOf 63 = 3 := by kernel_rfl
    have h1 : Tryd.prog.cellsOf 3 = 1 := by kernel_rfl
    rw [h3] at hx
    have hlm : len ≤ m := by rw [hmm]; split <;> omega
    have each : ∀ i, i < len → ∃ c : CondT, a = ⟨a.block, a.off, none⟩ ∧ a.block < W.heap.size ∧ CondAt W a.block (a.off + i * 3) c := by
      intro i hi
      have h00 : W.cell? (a.add 0) ≠ none := by
        obtain ⟨cs', g1, _⟩ := hx 0 (by omega)
        obtain ⟨_, hlen, hcell⟩ := World.cells?_some g1
        have := hcell 0 (by omega)
        rw [add_add] at this
        simp at this
        match cs', hlen with
        | [v0, v1, v2], _ => simp at this ⊢; rw [this]; simp
      obtain ⟨v, hv⟩ := Option.ne_none_iff_exists'.1 h00
      obtain ⟨ha, hb⟩ := addr_plain hv
      obtain ⟨cs', g1, g2⟩ := hx i (by omega)
      obtain ⟨_, hlen, hcell⟩ := World.cells?_some g1
      obtain ⟨y0, y1, y2, k, _, _, e0, e1, e2⟩ := trod_struct3 Tryd.underlying63 g2
      match cs', hlen with
      | [v0, v1, v2], _ =>
        simp [h1] at e0 e1 e2
        obtain ⟨f, q0, _, w0⟩ := DataW.trod_int Tryd.underlying3 e0
        obtain ⟨o, q1, _, w1⟩ := DataW.trod_int Tryd.underlying3 e1
        obtain ⟨u, q2, _, w2⟩ := DataW.trod_int Tryd.underlying3 e2
        simp at q0 q1 q2
        subst q0 q1 q2
        have c0 := hcell 0 (by omega)
        have c1 := hcell 1 (by omega)
        have c2 := hcell 2 (by omega)
        rw [add_add, ha, add_at] at c0 c1 c2
        exact ⟨(f, o, u), ha, hb, by simpa using c0, by simpa [Nat.add_assoc] using c1, by simpa [Nat.add_assoc] using c2, w0, w1, w2⟩
    obtain ⟨cs, hcl, hcp⟩ := list_of _ len each
    refine ⟨cs, some a, cap, by rw [hcl], by omega, hm, fun i c hc => ?_⟩
    obtain ⟨ha, hb, hat⟩ := hcp i c hc
    exact ⟨a.block, a.off, by rw [← ha], hb, hat⟩

theorem open_rules {fuel : Nat} {rv : Value} {x : DataW H × List MemPlace} (h : DataW.trod enc Tryd.prog W base sp held fuel 22 [rv] = some x) : ∃ rs, RulesAt W.heap.size W rv rs := by
  rcases open_slice_pairs Tryd.underlying22 Tryd.underlying41 (by kernel_rfl) rfl rfl (by kernel_rfl) (by kernel_rfl) h with ⟨h0, _⟩ | ⟨a, len, cap, m, n, V0, V1, _, _, _, _, h0, _, hl, hm, hmm, _, hx⟩
  · simp at h0
    subst h0
    exact ⟨[], none, 0, rfl, Nat.le_refl _, Nat.zero_le _, fun i c hc => by simp at hc⟩
  · simp at h0
    subst h0
    have hlm : len ≤ m := by rw [hmm]; split <;> omega
    have each : ∀ i, i < len → ∃ r : RuleT, a = ⟨a.block, a.off, none⟩ ∧ a.block < W.heap.size ∧ RuleAt W.heap.size W a.block (a.off + i * 2) r := by
      intro i hi
      obtain ⟨ha, hb⟩ := addr_plain (hx 0 (by omega)).1
      obtain ⟨c0, c1, t0, t1⟩ := hx i (by omega)
      obtain ⟨cs, hcs⟩ := open_conds t0
      obtain ⟨v, q1, _, w1⟩ := DataW.trod_int Tryd.underlying3 t1
      simp at q1
      rw [q1] at c1
      rw [ha, add_at] at c0 c1
      exact ⟨(cs, v), ha, hb, V0 i, c0, by simpa [Nat.add_assoc] using c1, w1, hcs⟩
    obtain ⟨rs, hrl, hrp⟩ := list_of _ len each
    refine ⟨rs, some a, cap, by rw [hrl], by omega, hm, fun i r hr => ?_⟩
    obtain ⟨ha, hb, hat⟩ := hrp i r hr
    exact ⟨a.block, a.off, by rw [← ha], hb, hat⟩
end

/-- A policy that came in. -/
theorem open_pol {H : Type} {enc : TypeId × Value → H} {W : World} {r : Reach} {b0 base : Nat} {sp : Nat → Bool} {held : Bool} {v : Value} {d : DataW H} {p : List MemPlace}
    (hv : Value.okWide Tryd.prog W r b0 24 v) (h : DataW.Trod enc Tryd.prog W base sp held 24 v d p) : ∃ pp, PolAt W.heap.size W v pp := by
  obtain ⟨cs, rfl, hsz⟩ := okWide_struct Tryd.underlying24 hv
  obtain ⟨fuel, hf⟩ := h
  obtain ⟨y0, y1, n, _, _, t0, t1⟩ := trod_struct2 Tryd.underlying24 hf
  have h2 : Tryd.prog.cellsOf 24 = 2 := by kernel_rfl
  have hr1 : Tryd.prog.cellsOf 22 = 1 := by kernel_rfl
  have hi1 : Tryd.prog.cellsOf 3 = 1 := by kernel_rfl
  rw [h2] at hsz
  obtain ⟨l⟩ := cs
  match l, hsz with
  | [c0, c1], _ =>
    simp [Value.cells, hr1, hi1] at t0 t1
    obtain ⟨rs, hrs⟩ := open_rules t0
    obtain ⟨dd, q1, _, w1⟩ := DataW.trod_int Tryd.underlying3 t1
    simp at q1
    subst q1
    exact ⟨(rs, dd), c0, rfl, w1, hrs⟩

/-- What every row's first world gives. -/
theorem env_of_shaped {W : World} (h : W.ShapedOpen Tryd.prog) : EnvAt W := Tryd.laysM145.s1_3 W h

end Go.Proofs.YthpllmhnpbigiaaDoor
