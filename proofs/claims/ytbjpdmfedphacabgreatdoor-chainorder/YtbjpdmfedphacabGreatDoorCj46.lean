/- ChainDelta returns true, whatever the policies and the call, in whatever memory. -/
import Derived.Test.YtbjpdmfedphacabGreatDoorCj45
import Derived.Test.YtbjpdmfedphacabGreatDoorCj43
import Derived.Test.YtbjpdmfedphacabGreatDoorCj15
set_option linter.all false
set_option maxRecDepth 100000
namespace Go.Proofs.YtbjpdmfedphacabGreatDoor
open Go.RowKit Go.Maps

theorem five_at {w : World} {b : Nat} {y : Nat → Int} {T : TypeId} (h : w.heap[b]? = some (.cells (cellsX y) T (0, 0))) : w.cell? ⟨b, 0, none⟩ = some (.int .i64 (y 0)) ∧ w.cell? ⟨b, 1, none⟩ = some (.int .i64 (y 1)) ∧ w.cell? ⟨b, 2, none⟩ = some (.int .i64 (y 2)) ∧ w.cell? ⟨b, 3, none⟩ = some (.int .i64 (y 3)) ∧ w.cell? ⟨b, 4, none⟩ = some (.int .i64 (y 4)) :=
  ⟨(cellsX_at h).1 0 (by omega), (cellsX_at h).1 1 (by omega), (cellsX_at h).1 2 (by omega), (cellsX_at h).1 3 (by omega), (cellsX_at h).1 4 (by omega)⟩
theorem two_at {w : World} {b : Nat} {u v : Value} {T : TypeId} {fr : Nat × Nat} (h : w.heap[b]? = some (.cells #[u, v] T fr)) : w.cell? ⟨b, 0, none⟩ = some u ∧ w.cell? ⟨b, 1, none⟩ = some v := ⟨heap_cell h 0 rfl, heap_cell h 1 rfl⟩
theorem judge_none {x : Nat → Int} (hx : chkx x = 0) : judgeP ([], 4) x = (4, 0, 0) := by
  have : polErr ([], 4) = 0 := by decide
  rw [judgeP_ok this hx]
  rfl
/-- What is asked of a delta that is told. -/
theorem delta_all {p q : PolT} (h : deltaE p q = 0) {x : Nat → Int} (hx : chkx x = 0) : ∃ u v w k l m, judgeP (deltaR p q) x = (u, k, 0) ∧ judgeP p x = (v, l, 0) ∧ judgeP q x = (w, m, 0) ∧ (v = w ∧ u = 4 ∨ v ≠ w ∧ u = w) := by
  obtain ⟨h1, h2, h3, h4, h5, hp, hq, hm, hd⟩ := delta_ok h
  obtain ⟨hle, hs⟩ := delta_says h hx
  refine ⟨_, _, _, _, _, _, judge_right hd hx, judge_right hp hx, judge_right hq hx, ?_⟩
  rw [hs]
  by_cases hlt : vP q x < vP p x
  · rw [if_pos hlt]
    exact .inr ⟨by omega, rfl⟩
  · rw [if_neg hlt]
    exact .inl ⟨by omega, rfl⟩

end Go.Proofs.YtbjpdmfedphacabGreatDoor
