/- What the counterpart's Judged says of a right policy: as the program's own Judge. -/
import Derived.Test.YtffhpcfphodamaaGreatDoorJud3
import Derived.Test.YtffhpcfphodamaaGreatDoorHolds
set_option linter.all false
namespace Go.Proofs.YtffhpcfphodamaaGreatDoor
open Go.RowKit Go.Maps

def backAt (p : PolT) (x : Nat → Int) (m : Nat) : Int × Int := verdictAt p (firstAt (ruleOk x) m (p.1.drop m))
theorem backAt_end (p : PolT) (x : Nat → Int) : backAt p x p.1.length = (p.2, (p.1.length : Int)) := by
  unfold backAt
  rw [List.drop_eq_nil_of_le (Nat.le_refl _)]
  rfl
theorem backAt_step (p : PolT) (x : Nat → Int) (m : Nat) (r : RuleT) (h : p.1[m]? = some r) : backAt p x m = if ruleOk x r = true then (r.2, (m : Int)) else backAt p x (m + 1) := by
  unfold backAt
  rw [firstAt_step _ _ _ _ h]
  split
  · rw [verdictAt, if_neg (by omega)]
    simp [List.getD, h]
  · rfl
theorem all_take (f : CondT → Bool) (cs : List CondT) (j : Nat) (c : CondT) (h : cs[j]? = some c) : (cs.take (j + 1)).all f = ((cs.take j).all f && f c) := by
  rw [List.take_add_one, h, List.all_append]
  simp

end Go.Proofs.YtffhpcfphodamaaGreatDoor
