/- What the counterpart's PointsOf says: all points, by number. -/
import Derived.Test.YtbjpdmfedphacacGreatDoorCj13
set_option linter.all false
set_option maxRecDepth 100000
namespace Go.Proofs.YtbjpdmfedphacacGreatDoor
open Go.RowKit Go.Maps

theorem infoCall : ∃ i, Tryz.prog.info? 26 = some i ∧ i.zero = some (.agg #[.int .i64 0, .int .i64 0, .int .i64 0, .int .i64 0, .int .i64 0]) ∧ i.size = 5 ∧ i.bytes = 40 := infoOf (by kernel_rfl)
def nilI : Value := .slice none 0 0
def cells5 (V : Nat → Value) (k : Nat) : Array Value := #[if 0 < k then V 0 else nilI, if 1 < k then V 1 else nilI, if 2 < k then V 2 else nilI, if 3 < k then V 3 else nilI, if 4 < k then V 4 else nilI]
def setV (V : Nat → Value) (k : Nat) (v : Value) (j : Nat) : Value := if j = k then v else V j
theorem cells5_set (V : Nat → Value) (k : Nat) (hk : k < 5) (v : Value) : (cells5 V k).setIfInBounds k v = cells5 (setV V k v) (k + 1) := by
  have : k = 0 ∨ k = 1 ∨ k = 2 ∨ k = 3 ∨ k = 4 := by omega
  rcases this with rfl | rfl | rfl | rfl | rfl <;> simp [cells5, setV]
theorem cells5_get (V : Nat → Value) (k : Nat) (hk : k < 5) : (cells5 V 5)[k]? = some (V k) ∧ (cells5 V k)[k]? = some nilI := by
  have : k = 0 ∨ k = 1 ∨ k = 2 ∨ k = 3 ∨ k = 4 := by omega
  rcases this with rfl | rfl | rfl | rfl | rfl <;> simp [cells5]
theorem own_other {w : World} {base size n b o : Nat} {e T : TypeId} {v u : Value} {xs : List Value} {cur : Array Value} (h : w.ownsRow base e size v n xs) (hb : w.heap[b]? = some (.cells cur T (0, 0))) (hT : T ≠ e) : (w.setCell ⟨b, o, none⟩ u).ownsRow base e size v n xs :=
  ownsRow_block h fun g cur' _ hg => Below.heap_setCell _ _ _ _ (by
    show g ≠ b
    intro e'
    subst e'
    rw [hb] at hg
    cases hg
    exact hT rfl)
def ptM (ps : List PolT) (i m j : Nat) : Int := if m ≤ j then pt ps i j else 0
theorem ptM_set (ps : List PolT) (i k : Nat) (hk : k < 5) : (cellsX (ptM ps i (k + 1))).setIfInBounds k (.int .i64 (pt ps i k)) = cellsX (ptM ps i k) := by
  have : k = 0 ∨ k = 1 ∨ k = 2 ∨ k = 3 ∨ k = 4 := by omega
  rcases this with rfl | rfl | rfl | rfl | rfl <;> simp [cellsX, ptM]

end Go.Proofs.YtbjpdmfedphacacGreatDoor
