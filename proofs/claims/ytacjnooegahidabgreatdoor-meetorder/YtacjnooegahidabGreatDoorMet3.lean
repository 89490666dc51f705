/- The meeting in the order: plain facts. -/
import Derived.Test.YtacjnooegahidabGreatDoorMet1
import Derived.Test.YtacjnooegahidabGreatDoorOrd1
set_option linter.all false
namespace Go.Proofs.YtacjnooegahidabGreatDoor

theorem ofV_least (a b : Int) : ofV false a b ≤ a ∧ ofV false a b ≤ b ∧ (ofV false a b = a ∨ ofV false a b = b) := by
  unfold ofV
  simp only [Bool.false_eq_true, if_false]
  split <;> omega
theorem meetR_eq {p q : PolT} (h : meetE false p q = 0) : meetR false p q = meetP false p q := by rw [meetR, if_pos h]
theorem meet_under {p q : PolT} (h : meetE false p q = 0) {x : Nat → Int} (hx : chkx x = 0) : vP (meetR false p q) x = ofV false (vP p x) (vP q x) := by
  obtain ⟨hp, hq, hm⟩ := meetE_ok h
  rw [meetR_eq h]
  exact vP_meet false hp hq hm hx
theorem meet_first {p q : PolT} (h : meetE false p q = 0) (he : pointsE [meetR false p q, p] = 0) : (looserP (meetR false p q) p).isSome = false := by
  cases hl : looserP (meetR false p q) p with
  | none => rfl
  | some y =>
    obtain ⟨x, _, hx, hv⟩ := looser_some he hl
    rw [meet_under h hx] at hv
    have := (ofV_least (vP p x) (vP q x)).1
    omega
theorem meet_second {p q : PolT} (h : meetE false p q = 0) (he : pointsE [meetR false p q, q] = 0) : (looserP (meetR false p q) q).isSome = false := by
  cases hl : looserP (meetR false p q) q with
  | none => rfl
  | some y =>
    obtain ⟨x, _, hx, hv⟩ := looser_some he hl
    rw [meet_under h hx] at hv
    have := (ofV_least (vP p x) (vP q x)).2.1
    omega
theorem meet_greatest {p q r : PolT} (h : meetE false p q = 0) (h1 : pointsE [r, p] = 0) (h2 : pointsE [r, q] = 0) (h3 : pointsE [r, meetR false p q] = 0) (a : looserP r p = none) (b : looserP r q = none) : looserP r (meetR false p q) = none := by
  cases hl : looserP r (meetR false p q) with
  | none => rfl
  | some y =>
    obtain ⟨x, _, hx, hv⟩ := looser_some h3 hl
    rw [meet_under h hx] at hv
    have k1 := looser_none h1 a hx
    have k2 := looser_none h2 b hx
    rcases (ofV_least (vP p x) (vP q x)).2.2 with e | e <;> omega
theorem meet_order {p q r : PolT} (h : meetE false p q = 0) : (decide (pointsE [r, p] ≠ 0) || decide (pointsE [r, q] ≠ 0) || decide (pointsE [r, meetR false p q] ≠ 0) || (looserP r p).isSome || (looserP r q).isSome || !(looserP r (meetR false p q)).isSome) = true := by
  by_cases h1 : pointsE [r, p] = 0
  · by_cases h2 : pointsE [r, q] = 0
    · by_cases h3 : pointsE [r, meetR false p q] = 0
      · cases ha : looserP r p with
        | some _ => simp
        | none =>
          cases hb : looserP r q with
          | some _ => simp
          | none => simp [meet_greatest h h1 h2 h3 ha hb]
      · simp [h3]
    · simp [h2]
  · simp [h1]
end Go.Proofs.YtacjnooegahidabGreatDoor
