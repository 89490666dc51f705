/- What package order answers: plain facts. -/
import Derived.Test.YtacjnooegahidabGreatDoorMj26
import Derived.Test.YtacjnooegahidabGreatDoorMj06
set_option linter.all false
namespace Go.Proofs.YtacjnooegahidabGreatDoor

def alikeB (p q : PolT) : Bool := if pointsE [p, q] = 0 then !(looserP p q).isSome && !(looserP q p).isSome else false
theorem pointsE_swap {p q : PolT} (h : pointsE [p, q] = 0) : pointsE [q, p] = 0 := by
  obtain ⟨h1, h2⟩ := pointsE_ok.1 h
  have hs : ∀ r ∈ [q, p], r ∈ [p, q] := fun r hr => by simp at hr ⊢; exact hr.symm
  have hc := points_count hs
  exact pointsE_ok.2 ⟨fun r hr => h1 r (hs r hr), by omega⟩
theorem looser_err {p q : PolT} (h : pointsE [p, q] ≠ 0) : looserP p q = none := by
  unfold looserP pointsL
  rw [if_neg h]
  rfl
theorem looser_self {p : PolT} (h : pointsE [p, p] = 0) : looserP p p = none := by
  cases hl : looserP p p with
  | none => rfl
  | some y =>
    obtain ⟨x, _, _, hv⟩ := looser_some h hl
    omega
theorem looser_chain {p q r : PolT} (h1 : pointsE [p, q] = 0) (h2 : pointsE [q, r] = 0) (h3 : pointsE [p, r] = 0) (a : looserP p q = none) (b : looserP q r = none) : looserP p r = none := by
  cases hl : looserP p r with
  | none => rfl
  | some y =>
    obtain ⟨x, _, hx, hv⟩ := looser_some h3 hl
    have k1 := looser_none h1 a hx
    have k2 := looser_none h2 b hx
    omega
theorem chain_true {p q r : PolT} : (decide (pointsE [p, q] ≠ 0) || decide (pointsE [q, r] ≠ 0) || decide (pointsE [p, r] ≠ 0) || (looserP p q).isSome || (looserP q r).isSome || !(looserP p r).isSome) = true := by
  by_cases h1 : pointsE [p, q] = 0
  · by_cases h2 : pointsE [q, r] = 0
    · by_cases h3 : pointsE [p, r] = 0
      · cases ha : looserP p q with
        | some _ => simp
        | none =>
          cases hb : looserP q r with
          | some _ => simp
          | none => simp [looser_chain h1 h2 h3 ha hb]
      · simp [h3]
    · simp [h2]
  · simp [h1]
end Go.Proofs.YtacjnooegahidabGreatDoor
