/- Joined: HomeR Pts0. -/
import Derived.Test.YtclehchkmienoabGreatDoorOj18
import Derived.Test.YtclehchkmienoabGreatDoorOj19
import Derived.Test.YtclehchkmienoabGreatDoorOj17
import Derived.Test.YtclehchkmienoabGreatDoorOj14
section
/- What the counterpart's HomeOf says: the home. -/
set_option linter.all false
set_option maxRecDepth 100000
namespace Go.Proofs.YtclehchkmienoabGreatDoor
open Go.RowKit Go.Maps

theorem lastLe_snoc (x : Int) : ∀ (l : List Int) (best n : Int), lastLe x best (l ++ [n]) = if n ≤ x then n else lastLe x best l
  | [], best, n => rfl
  | m :: r, best, n => by
    show lastLe x (if m ≤ x then m else best) (r ++ [n]) = _
    rw [lastLe_snoc x r _ n]
    rfl
theorem lastLe_take (x : Int) (l : List Int) (i : Nat) (n : Int) (h : l[i]? = some n) : lastLe x 0 (l.take (i + 1)) = if n ≤ x then n else lastLe x 0 (l.take i) := by
  rw [List.take_succ, h]
  exact lastLe_snoc x _ 0 n
def mixH (y x : Nat → Int) (k j : Nat) : Int := if j < k then y j else x j
theorem mixH_set (y x : Nat → Int) (k : Nat) (hk : k < 5) : (cellsX (mixH y x k)).setIfInBounds k (.int .i64 (y k)) = cellsX (mixH y x (k + 1)) := by
  have : k = 0 ∨ k = 1 ∨ k = 2 ∨ k = 3 ∨ k = 4 := by omega
  rcases this with rfl | rfl | rfl | rfl | rfl <;> simp [cellsX, mixH]

end Go.Proofs.YtclehchkmienoabGreatDoor
end
section
/- Points by number: plain facts. -/
set_option linter.all false
namespace Go.Proofs.YtclehchkmienoabGreatDoor

def lenP (ps : List PolT) : Nat → Nat
  | 0 => 1
  | k + 1 => lenP ps k * (cutsP ps k).length
def tailP (ps : List PolT) (k : Nat) : Nat := (prodL ((cuts5 ps).drop k)).length
theorem cuts5_get (ps : List PolT) (k : Nat) (hk : k < 5) : (cuts5 ps)[k]? = some (cutsP ps k) := by
  have : k = 0 ∨ k = 1 ∨ k = 2 ∨ k = 3 ∨ k = 4 := by omega
  rcases this with rfl | rfl | rfl | rfl | rfl <;> rfl
theorem tailP_step (ps : List PolT) (k : Nat) (hk : k < 5) : tailP ps k = (cutsP ps k).length * tailP ps (k + 1) := by
  unfold tailP
  have h := cuts5_get ps k hk
  obtain ⟨hlt, e⟩ := List.getElem?_eq_some_iff.1 h
  rw [List.drop_eq_getElem_cons hlt, e, prodL_length]
theorem tailP_five (ps : List PolT) : tailP ps 5 = 1 := rfl
theorem cut_pos (ps : List PolT) (k : Int) : 0 < (cutsP ps k).length := List.length_pos_iff.2 (cutsP_ne ps k)
theorem tailP_pos (ps : List PolT) : ∀ m k : Nat, k + m = 5 → 0 < tailP ps k
  | 0, k, h => by
    obtain rfl : k = 5 := by omega
    exact Nat.one_pos
  | m + 1, k, h => by
    rw [tailP_step ps k (by omega)]
    exact Nat.mul_pos (cut_pos ps k) (tailP_pos ps m (k + 1) (by omega))
theorem lenP_tail (ps : List PolT) : ∀ k, k ≤ 5 → lenP ps k * tailP ps k = (pointsP ps).length
  | 0, _ => by
    show 1 * tailP ps 0 = _
    rw [Nat.one_mul]
    rfl
  | k + 1, h => by
    rw [← lenP_tail ps k (by omega), tailP_step ps k (by omega), lenP, Nat.mul_assoc]
theorem lenP_le (ps : List PolT) (k : Nat) (hk : k ≤ 5) : lenP ps k ≤ (pointsP ps).length := by
  rw [← lenP_tail ps k hk]
  exact Nat.le_mul_of_pos_right _ (tailP_pos ps (5 - k) k (by omega))
theorem lenP_five (ps : List PolT) : lenP ps 5 = (pointsP ps).length := by
  rw [← lenP_tail ps 5 (by omega), tailP_five, Nat.mul_one]
def pt (ps : List PolT) (i j : Nat) : Int := digit (cutsP ps j) (i / tailP ps (j + 1))
def ptL (ps : List PolT) (i : Nat) : List Int := [pt ps i 0, pt ps i 1, pt ps i 2, pt ps i 3, pt ps i 4]
theorem point_get (ps : List PolT) (i : Nat) (h : i < (pointsP ps).length) : (pointsP ps)[i]? = some (ptL ps i) := by
  obtain ⟨x, h1, h2, h3⟩ := prodL_digits (cuts5 ps) i (by
    intro L hL
    unfold cuts5 at hL
    simp at hL
    rcases hL with rfl | rfl | rfl | rfl | rfl <;> exact cutsP_ne _ _) h
  have e : x = ptL ps i := by
    refine List.ext_getElem? fun k => ?_
    by_cases hk : k < 5
    · rw [h3 k _ (cuts5_get ps k hk)]
      have : k = 0 ∨ k = 1 ∨ k = 2 ∨ k = 3 ∨ k = 4 := by omega
      rcases this with rfl | rfl | rfl | rfl | rfl <;> rfl
    · have h5 : (cuts5 ps).length = 5 := rfl
      rw [List.getElem?_eq_none (by omega), List.getElem?_eq_none (by simp [ptL]; omega)]
  rw [← e]
  exact h1
def callCells (l : List (List Int)) : List Value := l.flatMap fun x => x.map (.int .i64)
theorem callCells_append (l m : List (List Int)) : callCells (l ++ m) = callCells l ++ callCells m := by unfold callCells; exact List.flatMap_append

end Go.Proofs.YtclehchkmienoabGreatDoor
end
