/- The program's own Judge, whole. -/
import Derived.Test.YtffhpcfphodamabGreatDoorJud2
set_option linter.all false
namespace Go.Proofs.YtffhpcfphodamabGreatDoor
open Go.RowKit Go.Maps

@[go_sem] theorem run_store_fn {P : Program} {w : World} {a : Addr} {m : Mode} (fn : Fn) (first captured : Array Value) : (store a (.func fn first captured) m).run P w = stored P w a (.func fn first captured) m := run_store P w a _ m rfl

/-- The verdict and the rule's number, of a right policy and call. -/
def verdictAt (p : PolT) (i : Int) : Int × Int := if i < 0 then (p.2, p.1.length) else ((p.1.getD i.toNat ([], 0)).2, i)
def judgeP (p : PolT) (x : Nat → Int) : Int × Int × Int :=
  if polErr p = 0 then (if chkx x = 0 then ((verdictAt p (firstAt (ruleOk x) 0 p.1)).1, (verdictAt p (firstAt (ruleOk x) 0 p.1)).2, 0) else (0, 0, chkx x)) else (0, 0, polErr p)

theorem firstAt_lt {α : Type} (f : α → Bool) : ∀ (l : List α) (k : Nat), 0 ≤ firstAt f k l → (k : Int) ≤ firstAt f k l ∧ firstAt f k l < (k : Int) + l.length
  | [], _, h => by simp [firstAt] at h
  | c :: r, k, h => by
    unfold firstAt at h ⊢
    by_cases hc : f c = true
    · simp [hc]
      omega
    · simp only [if_neg hc] at h ⊢
      have := firstAt_lt f r (k + 1) h
      simp at this ⊢
      omega

end Go.Proofs.YtffhpcfphodamabGreatDoor
