/- What package point answers: plain data. -/
import Derived.Test.YtffhpcfphodamabGreatDoorPtC
set_option linter.all false
namespace Go.Proofs.YtffhpcfphodamabGreatDoor

def cutsE (ps : List PolT) (f : Int) : Int := if polsErr ps = 0 then (if 0 ≤ f ∧ f < 5 then 0 else 5) else polsErr ps
def cutsL (ps : List PolT) (f : Int) : List Int := if cutsE ps f = 0 then cutsP ps f else []
def homeE (ps : List PolT) (x : Nat → Int) : Int := if chkx x = 0 then polsErr ps else chkx x
def homeC (ps : List PolT) (x : Nat → Int) : Nat → Int := if homeE ps x = 0 then homeP ps x else fun _ => 0
theorem pointsL_five (ps : List PolT) : ∀ x ∈ pointsL ps, ∃ a b c d e, x = [a, b, c, d, e] := by
  intro x h
  unfold pointsL at h
  split at h
  · have h' := (mem_prodL _ _).1 h
    unfold cuts5 at h'
    match x, h' with
    | [a, b, c, d, e], _ => exact ⟨a, b, c, d, e, rfl⟩
  · cases h

end Go.Proofs.YtffhpcfphodamabGreatDoor
