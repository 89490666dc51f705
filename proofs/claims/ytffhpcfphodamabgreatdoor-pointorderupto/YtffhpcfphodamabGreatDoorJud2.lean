/- The program's own Judge, whole. -/
import Derived.Test.YtffhpcfphodamabGreatDoorJud
set_option linter.all false
namespace Go.Proofs.YtffhpcfphodamabGreatDoor
open Go.RowKit Go.Maps

theorem ruleOk_first (x : Nat → Int) (cs : List CondT) (v : Int) : (!decide (0 ≤ firstAt (fun c => !condOk x c) 0 cs)) = ruleOk x (cs, v) := by
  rw [firstAt_none]
  unfold ruleOk
  simp [List.all_eq_not_any_not]

end Go.Proofs.YtffhpcfphodamabGreatDoor
