/- What the program's own Judge says: the first rule that holds. -/
import Derived.Test.YtffhpcfphodamabGreatDoorPol3
set_option linter.all false
namespace Go.Proofs.YtffhpcfphodamabGreatDoor
open Go.RowKit Go.Maps

def holdsB (op v n : Int) : Bool := if op = 1 then n == v else if op = 2 then n != v else if op = 3 then decide (n < v) else decide (v ≤ n)
def condOk (x : Nat → Int) (c : CondT) : Bool := holdsB c.2.1 c.2.2 (x c.1.toNat)
def ruleOk (x : Nat → Int) (r : RuleT) : Bool := r.1.all (condOk x)
/-- The first place from k on at which f says yes, or -1. -/
def firstAt {α : Type} (f : α → Bool) : Nat → List α → Int
  | _, [] => -1
  | k, c :: r => if f c then k else firstAt f (k + 1) r
theorem firstAt_step {α : Type} (f : α → Bool) (l : List α) (k : Nat) (c : α) (h : l[k]? = some c) : firstAt f k (l.drop k) = if f c then (k : Int) else firstAt f (k + 1) (l.drop (k + 1)) := by
  obtain ⟨hk, rfl⟩ := List.getElem?_eq_some_iff.1 h
  rw [List.drop_eq_getElem_cons hk]
  rfl
theorem firstAt_none {α : Type} (f : α → Bool) : ∀ (l : List α) (k : Nat), (decide (0 ≤ firstAt f k l)) = l.any f
  | [], _ => rfl
  | c :: r, k => by
    unfold firstAt
    by_cases h : f c = true
    · simp [h]
    · simp [h, firstAt_none f r (k + 1)]

theorem condErr_ok {c : CondT} (h : condErr c = 0) : (0 ≤ c.1 ∧ c.1 < 5) ∧ (1 ≤ c.2.1 ∧ c.2.1 ≤ 4) ∧ (0 ≤ c.2.2 ∧ c.2.2 ≤ most c.1) := by
  unfold condErr at h
  split at h
  · cases h
  · split at h
    · cases h
    · split at h
      · cases h
      · omega
theorem condsErr_all {cs : List CondT} (h : condsErr cs = 0) : ∀ c ∈ cs, condErr c = 0 := by
  induction cs with
  | nil => intro c hc; cases hc
  | cons a r ih =>
    unfold condsErr at h
    split at h
    · rename_i h0
      intro c hc
      rcases List.mem_cons.1 hc with rfl | hc
      · exact h0
      · exact ih h c hc
    · rename_i h0; exact absurd h h0
theorem rulesErr_all {rs : List RuleT} (h : rulesErr rs = 0) : ∀ r ∈ rs, ruleErr r = 0 := by
  induction rs with
  | nil => intro c hc; cases hc
  | cons a r ih =>
    unfold rulesErr at h
    split at h
    · rename_i h0
      intro c hc
      rcases List.mem_cons.1 hc with rfl | hc
      · exact h0
      · exact ih h c hc
    · rename_i h0; exact absurd h h0
theorem ruleErr_ok {r : RuleT} (h : ruleErr r = 0) : r.1.length ≤ 10 ∧ verdictOk r.2 = true ∧ condsErr r.1 = 0 := by
  unfold ruleErr at h
  split at h
  · cases h
  · split at h
    · exact ⟨by omega, by assumption, h⟩
    · cases h
theorem polErr_ok {p : PolT} (h : polErr p = 0) : p.1.length ≤ 120 ∧ verdictOk p.2 = true ∧ rulesErr p.1 = 0 := by
  unfold polErr at h
  split at h
  · cases h
  · split at h
    · exact ⟨by omega, by assumption, h⟩
    · cases h

end Go.Proofs.YtffhpcfphodamabGreatDoor
