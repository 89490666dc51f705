/- What the counterpart's HomeOf says: the home. -/
import Derived.Test.YtffhpcfphodamabGreatDoorCut2
import Derived.Test.YtffhpcfphodamabGreatDoorRight
set_option linter.all false
set_option maxRecDepth 100000
namespace Go.Proofs.YtffhpcfphodamabGreatDoor
open Go.RowKit Go.Maps

theorem lastLe_snoc (x : Int) : ∀ (l : List Int) (best n : Int), lastLe x best (l ++ [n]) = if n ≤ x then n else lastLe x best l
  | [], best, n => rfl
  | m :: r, best, n => by
    show lastLe x (if m ≤ x then m else best) (r ++ [n]) = _
    rw [lastLe_snoc x r _ n]
    rfl
theorem lastLe_take (x : Int) (l : List Int) (i : Nat) (n : Int) (h : l[i]? = some n) : lastLe x 0 (l.take (i + 1)) = if n ≤ x then n else lastLe x 0 (l.take i) := by
  rw [List.take_succ, h]
  exact lastLe_snoc x _ 0 n
def mixH (y x : Nat → Int) (k j : Nat) : Int := if j < k then y j else x j
theorem mixH_set (y x : Nat → Int) (k : Nat) (hk : k < 5) : (cellsX (mixH y x k)).setIfInBounds k (.int .i64 (y k)) = cellsX (mixH y x (k + 1)) := by
  have : k = 0 ∨ k = 1 ∨ k = 2 ∨ k = 3 ∨ k = 4 := by omega
  rcases this with rfl | rfl | rfl | rfl | rfl <;> simp [cellsX, mixH]

end Go.Proofs.YtffhpcfphodamabGreatDoor
