/- What the counterpart's FirstLooser says: the first point at which the first policy says more. -/
import Derived.Test.YtmdcalaapgbaiaaGreatDoorMj20
import Derived.Test.YtmdcalaapgbaiaaGreatDoorMj14
import Derived.Test.YtmdcalaapgbaiaaGreatDoorMj06
set_option linter.all false
set_option maxRecDepth 100000
namespace Go.Proofs.YtmdcalaapgbaiaaGreatDoor
open Go.RowKit Go.Maps

theorem point_five {l : List PolT} {x : List Int} (h : x ∈ pointsL l) : ∃ a b c d e, x = [a, b, c, d, e] := by
  unfold pointsL at h
  split at h
  · have h' := (mem_prodL _ _).1 h
    unfold cuts5 at h'
    match x, h' with
    | [a, b, c, d, e], _ => exact ⟨a, b, c, d, e, rfl⟩
  · cases h
theorem callCells_get : ∀ (l : List (List Int)), (∀ x ∈ l, ∃ a b c d e, x = [a, b, c, d, e]) → ∀ (i : Nat) (a b c d e : Int), l[i]? = some [a, b, c, d, e] →
    (callCells l)[i * 5]? = some (.int .i64 a) ∧ (callCells l)[i * 5 + 1]? = some (.int .i64 b) ∧ (callCells l)[i * 5 + 2]? = some (.int .i64 c) ∧ (callCells l)[i * 5 + 3]? = some (.int .i64 d) ∧ (callCells l)[i * 5 + 4]? = some (.int .i64 e)
  | [], _, _, _, _, _, _, _, h => by simp at h
  | x :: l, hx, 0, a, b, c, d, e, h => by
    simp at h
    subst h
    simp [callCells]
  | x :: l, hx, i + 1, a, b, c, d, e, h => by
    obtain ⟨a', b', c', d', e', rfl⟩ := hx x (by simp)
    have ih := callCells_get l (fun y hy => hx y (by simp [hy])) i a b c d e (by simpa using h)
    have e1 : callCells ([a', b', c', d', e'] :: l) = .int .i64 a' :: .int .i64 b' :: .int .i64 c' :: .int .i64 d' :: .int .i64 e' :: callCells l := rfl
    rw [e1, show (i + 1) * 5 = i * 5 + 5 by omega]
    exact ih
def looserC (p q : PolT) : Nat → Int := match looserP p q with
  | some x => ofL x
  | none => fun _ => 0
theorem find_take {α : Type} (f : α → Bool) (l : List α) (i : Nat) (h : ∀ x ∈ l.take i, f x = false) (x : α) (hx : l[i]? = some x) (hf : f x = true) : l.find? f = some x := by
  have e : l = l.take i ++ x :: l.drop (i + 1) := by
    obtain ⟨hi, rfl⟩ := List.getElem?_eq_some_iff.1 hx
    rw [← List.drop_eq_getElem_cons hi, List.take_append_drop]
  rw [e, List.find?_append, List.find?_eq_none.2 (fun y hy => by simp [h y hy])]
  simp [hf]

end Go.Proofs.YtmdcalaapgbaiaaGreatDoor
