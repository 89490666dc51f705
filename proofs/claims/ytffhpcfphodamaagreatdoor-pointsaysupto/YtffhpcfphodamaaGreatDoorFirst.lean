/- What a judgement says of a policy whose end is another one, and of one with a rule left out. -/
import Derived.Test.YtffhpcfphodamaaGreatDoorJud3
set_option linter.all false
namespace Go.Proofs.YtffhpcfphodamaaGreatDoor

theorem firstAt_eq {α : Type} (f : α → Bool) : ∀ (l : List α) (k0 j : Nat) (c : α), l[j]? = some c → f c = true → (∀ i, i < j → ∀ c, l[i]? = some c → f c = false) → firstAt f k0 l = ((k0 + j : Nat) : Int)
  | [], _, _, _, h, _, _ => by simp at h
  | d :: r, k0, 0, c, h, hf, _ => by
    simp at h
    subst h
    simp [firstAt, hf]
  | d :: r, k0, j + 1, c, h, hf, hn => by
    have h0 := hn 0 (by omega) d rfl
    have ih := firstAt_eq f r (k0 + 1) j c (by simpa using h) hf (fun i hi c hc => hn (i + 1) (by omega) c (by simpa using hc))
    unfold firstAt
    rw [if_neg (by simp [h0]), ih]
    congr 1
    omega
theorem firstAt_no {α : Type} (f : α → Bool) : ∀ (l : List α) (k0 : Nat), (∀ c ∈ l, f c = false) → firstAt f k0 l = -1
  | [], _, _ => rfl
  | d :: r, k0, h => by
    unfold firstAt
    rw [if_neg (by simp [h d (by simp)])]
    exact firstAt_no f r (k0 + 1) fun c hc => h c (by simp [hc])
theorem firstAt_inv {α : Type} (f : α → Bool) : ∀ (l : List α) (k0 : Nat), (firstAt f k0 l = -1 ∧ ∀ c ∈ l, f c = false) ∨ ∃ j c, firstAt f k0 l = ((k0 + j : Nat) : Int) ∧ l[j]? = some c ∧ f c = true ∧ ∀ i, i < j → ∀ c, l[i]? = some c → f c = false
  | [], _ => .inl ⟨rfl, fun c hc => by cases hc⟩
  | d :: r, k0 => by
    by_cases hd : f d = true
    · exact .inr ⟨0, d, by simp [firstAt, hd], rfl, hd, fun i hi => by omega⟩
    · have hd' : f d = false := by simpa using hd
      have e : firstAt f k0 (d :: r) = firstAt f (k0 + 1) r := by
        show (if f d then (k0 : Int) else _) = _
        rw [if_neg hd]
      rcases firstAt_inv f r (k0 + 1) with ⟨h1, h2⟩ | ⟨j, c, h1, h2, h3, h4⟩
      · refine .inl ⟨e.trans h1, fun c hc => ?_⟩
        rcases List.mem_cons.1 hc with rfl | hc
        · exact hd'
        · exact h2 c hc
      · refine .inr ⟨j + 1, c, ?_, by simpa using h2, h3, fun i hi c hc => ?_⟩
        · rw [e, h1]; congr 1; omega
        · cases i with
          | zero => simp at hc; subst hc; exact hd'
          | succ i => exact h4 i (by omega) c (by simpa using hc)

theorem rulesErr_of {rs : List RuleT} (h : ∀ r ∈ rs, ruleErr r = 0) : rulesErr rs = 0 := by
  induction rs with
  | nil => rfl
  | cons r s ih =>
    unfold rulesErr
    rw [if_pos (h r (by simp))]
    exact ih fun r hr => h r (by simp [hr])
theorem polErr_of {p : PolT} (h1 : p.1.length ≤ 120) (h2 : verdictOk p.2 = true) (h3 : ∀ r ∈ p.1, ruleErr r = 0) : polErr p = 0 := by
  unfold polErr
  rw [if_neg (by omega), if_pos h2]
  exact rulesErr_of h3

theorem judgeP_ok {p : PolT} {x : Nat → Int} (hp : polErr p = 0) (hx : chkx x = 0) : judgeP p x = ((verdictAt p (firstAt (ruleOk x) 0 p.1)).1, (verdictAt p (firstAt (ruleOk x) 0 p.1)).2, 0) := by
  unfold judgeP
  rw [if_pos hp, if_pos hx]
theorem judgeP_bad {p : PolT} {x : Nat → Int} (hx : chkx x = 0) (hp : polErr p ≠ 0) : judgeP p x = (0, 0, polErr p) := by
  unfold judgeP
  rw [if_neg hp]

/-- All that the law wants of a judgement. -/
theorem judge_facts (p : PolT) (x : Nat → Int) (hp : polErr p = 0) (hx : chkx x = 0) : ∃ (v : Int) (k : Nat), judgeP p x = (v, (k : Int), 0) ∧ k ≤ p.1.length ∧
    (k < p.1.length → ∀ more, polErr (p.1.take (k + 1) ++ more, p.2) = 0 → judgeP (p.1.take (k + 1) ++ more, p.2) x = (v, (k : Int), 0)) ∧
    (∀ i, i < k → judgeP (p.1.eraseIdx i, p.2) x = (v, (k : Int) - 1, 0)) := by
  obtain ⟨hl, hv, hr⟩ := polErr_ok hp
  have hall := rulesErr_all hr
  have hout : ∀ i, polErr (p.1.eraseIdx i, p.2) = 0 := fun i => polErr_of (Nat.le_trans (List.length_eraseIdx_le _ _) hl) hv fun r h => hall r (List.mem_of_mem_eraseIdx h)
  rw [judgeP_ok hp hx]
  rcases firstAt_inv (ruleOk x) p.1 0 with ⟨h1, h2⟩ | ⟨j, c, h1, h2, h3, h4⟩
  · refine ⟨p.2, p.1.length, by rw [h1]; rfl, Nat.le_refl _, fun h => absurd h (Nat.lt_irrefl _), fun i hi => ?_⟩
    rw [judgeP_ok (hout i) hx]
    have e := firstAt_no (ruleOk x) (p.1.eraseIdx i) 0 fun c hc => h2 c (List.mem_of_mem_eraseIdx hc)
    simp only [e, verdictAt]
    have : ((p.1.eraseIdx i).length : Int) = (p.1.length : Int) - 1 := by rw [List.length_eraseIdx_of_lt hi]; omega
    simp [this]
  · rw [Nat.zero_add] at h1
    have hj : j < p.1.length := (List.getElem?_eq_some_iff.1 h2).1
    have hget : ∀ (l : List RuleT) (m : Nat), l[m]? = some c → verdictAt (l, p.2) (m : Int) = (c.2, (m : Int)) := fun l m h => by
      unfold verdictAt
      rw [if_neg (by omega)]
      simp [h]
    have hgp : verdictAt p (j : Int) = (c.2, (j : Int)) := hget p.1 j h2
    refine ⟨c.2, j, by rw [h1, hgp], by omega, fun _ more hq => ?_, fun i hi => ?_⟩
    · rw [judgeP_ok hq hx]
      have hin : ∀ m, m ≤ j → (p.1.take (j + 1) ++ more)[m]? = p.1[m]? := fun m hm => by
        rw [List.getElem?_append_left (by simp; omega), List.getElem?_take_of_lt (by omega)]
      have e := firstAt_eq (ruleOk x) (p.1.take (j + 1) ++ more) 0 j c ((hin j (Nat.le_refl _)).trans h2) h3 fun i hi c hc => h4 i hi c (by rw [← hin i (by omega)]; exact hc)
      rw [Nat.zero_add] at e
      simp only [e]
      rw [hget _ j ((hin j (Nat.le_refl _)).trans h2)]
    · rw [judgeP_ok (hout i) hx]
      have h2' : (p.1.eraseIdx i)[j - 1]? = some c := by
        rw [List.getElem?_eraseIdx_of_ge (by omega), show j - 1 + 1 = j by omega]; exact h2
      have e := firstAt_eq (ruleOk x) (p.1.eraseIdx i) 0 (j - 1) c h2' h3 fun m hm c hc => by
        by_cases hmi : m < i
        · rw [List.getElem?_eraseIdx_of_lt hmi] at hc; exact h4 m (by omega) c hc
        · rw [List.getElem?_eraseIdx_of_ge (by omega)] at hc; exact h4 (m + 1) (by omega) c hc
      rw [Nat.zero_add] at e
      simp only [e]
      rw [hget _ _ h2', show ((j - 1 : Nat) : Int) = (j : Int) - 1 by omega]
end Go.Proofs.YtffhpcfphodamaaGreatDoor
