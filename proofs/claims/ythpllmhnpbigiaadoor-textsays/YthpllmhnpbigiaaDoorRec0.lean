/- Records: plain data, and when one is right. -/
import Derived.Test.YthpllmhnpbigiaaDoorPol2
set_option linter.all false
namespace Go.Proofs.YthpllmhnpbigiaaDoor

abbrev RecT := Int × Int × Int × PolT
def decPol : DecidableEq PolT := fun p q => inferInstance
instance decRec : DecidableEq RecT := @instDecidableEqProd _ _ inferInstance (@instDecidableEqProd _ _ inferInstance (@instDecidableEqProd _ _ inferInstance decPol))
def recErr (r : RecT) : Int :=
  if r.1 < 1 ∨ 4 < r.1 then 4
  else if (r.2.1 < 0 ∨ 3 < r.2.1) ∨ (r.2.2.1 < 0 ∨ 3 < r.2.2.1) then 3
  else if (0 < r.2.2.1 ∧ r.1 ≠ 3) ∨ (¬ (r.1 = 1 ∨ r.1 = 2) ∧ ¬ (r.2.2.2.2 = 0 ∧ r.2.2.2.1 = [])) then 4
  else if r.1 = 1 ∨ r.1 = 2 then polErr r.2.2.2 else 0
def zeroRec : RecT := (0, 0, 0, [], 0)
theorem recErr_ok {r : RecT} (h : recErr r = 0) : (1 ≤ r.1 ∧ r.1 ≤ 4) ∧ (0 ≤ r.2.1 ∧ r.2.1 ≤ 3) ∧ (0 ≤ r.2.2.1 ∧ r.2.2.1 ≤ 3) ∧ (r.1 = 3 ∨ r.2.2.1 = 0) ∧ ((r.1 = 1 ∨ r.1 = 2) ∧ polErr r.2.2.2 = 0 ∨ (r.1 = 3 ∨ r.1 = 4) ∧ r.2.2.2 = ([], 0)) := by
  unfold recErr at h
  split at h
  · cases h
  · rename_i h1
    split at h
    · cases h
    · rename_i h2
      split at h
      · cases h
      · rename_i h3
        have hk : r.1 = 1 ∨ r.1 = 2 ∨ r.1 = 3 ∨ r.1 = 4 := by omega
        have h3' : ¬ (0 < r.2.2.1 ∧ r.1 ≠ 3) := fun e => h3 (.inl e)
        refine ⟨by omega, by omega, by omega, by omega, ?_⟩
        by_cases hp : r.1 = 1 ∨ r.1 = 2
        · rw [if_pos hp] at h
          exact .inl ⟨hp, h⟩
        · refine .inr ⟨by omega, ?_⟩
          have hz : r.2.2.2.2 = 0 ∧ r.2.2.2.1 = [] := by
            apply Classical.byContradiction
            intro e
            exact h3 (.inr ⟨hp, e⟩)
          obtain ⟨k, c, f, rs, d⟩ := r
          simp only at hz
          rw [hz.1, hz.2]
theorem polAt_zero (B : Nat) (w : World) : PolAt B w (.agg #[.slice none 0 0, .int .i64 0]) ([], 0) :=
  ⟨_, rfl, by unfold wf; decide, none, 0, rfl, Nat.le_refl _, Nat.zero_le _, fun i r h => by simp at h⟩
end Go.Proofs.YthpllmhnpbigiaaDoor
