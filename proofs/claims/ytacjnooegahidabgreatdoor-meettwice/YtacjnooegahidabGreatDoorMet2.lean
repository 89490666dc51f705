/- Meetings, the other way round: plain facts. -/
import Derived.Test.YtacjnooegahidabGreatDoorMet1
set_option linter.all false
namespace Go.Proofs.YtacjnooegahidabGreatDoor

theorem rulesErr_zero : ∀ {l : List RuleT}, (∀ r ∈ l, ruleErr r = 0) → rulesErr l = 0
  | [], _ => rfl
  | r :: l, h => by
    unfold rulesErr
    rw [if_pos (h r (by simp))]
    exact rulesErr_zero fun s hs => h s (by simp [hs])
theorem condsErr_zero : ∀ {l : List CondT}, (∀ c ∈ l, condErr c = 0) → condsErr l = 0
  | [], _ => rfl
  | c :: l, h => by
    unfold condsErr
    rw [if_pos (h c (by simp))]
    exact condsErr_zero fun d hd => h d (by simp [hd])
theorem ofV_ok {exc : Bool} {a b : Int} (ha : verdictOk a = true) (hb : verdictOk b = true) : verdictOk (ofV exc a b) = true := by
  unfold ofV
  split
  · exact ha
  · split
    · rfl
    · exact hb
/-- A pair of right rules is right, if it has few enough conditions. -/
theorem pair_ok {r s : RuleT} (hr : ruleErr r = 0) (hs : ruleErr s = 0) (hl : r.1.length + s.1.length ≤ 10) (exc : Bool) : ruleErr (pairR exc r s) = 0 := by
  obtain ⟨_, hrv, hrc⟩ := ruleErr_ok hr
  obtain ⟨_, hsv, hsc⟩ := ruleErr_ok hs
  unfold ruleErr pairR
  simp only []
  rw [if_neg (by rw [List.length_append]; omega), if_pos (ofV_ok hrv hsv)]
  refine condsErr_zero fun c hc => ?_
  rcases List.mem_append.1 hc with hc | hc
  · exact condsErr_all hrc c hc
  · exact condsErr_all hsc c hc
theorem default_ok {d : Int} (h : verdictOk d = true) : ruleErr ([], d) = 0 := by
  unfold ruleErr
  simp only []
  rw [if_neg (by simp), if_pos h]
  rfl
theorem mem_meetRs {exc : Bool} {p q : PolT} {t : RuleT} : t ∈ meetRs exc p q ↔ (∃ r ∈ p.1, (∃ s ∈ q.1, t = pairR exc r s) ∨ t = pairR exc r ([], q.2)) ∨ ∃ s ∈ q.1, t = pairR exc ([], p.2) s := by
  unfold meetRs
  rw [List.mem_append, List.mem_flatMap, List.mem_map]
  constructor
  · rintro (⟨r, hr, h⟩ | ⟨s, hs, h⟩)
    · refine .inl ⟨r, hr, ?_⟩
      rcases List.mem_append.1 h with h | h
      · obtain ⟨s, hs, e⟩ := List.mem_map.1 h
        exact .inl ⟨s, hs, e.symm⟩
      · exact .inr (by simpa using h)
    · exact .inr ⟨s, hs, h.symm⟩
  · rintro (⟨r, hr, h⟩ | ⟨s, hs, h⟩)
    · refine .inl ⟨r, hr, List.mem_append.2 ?_⟩
      rcases h with ⟨s, hs, h⟩ | h
      · exact .inl (List.mem_map.2 ⟨s, hs, h.symm⟩)
      · exact .inr (by simp [h])
    · exact .inr ⟨s, hs, h.symm⟩
theorem meetRs_length (exc : Bool) (p q : PolT) : (meetRs exc p q).length = p.1.length * (q.1.length + 1) + q.1.length := by
  unfold meetRs
  rw [List.length_append, length_flatMap_const _ (q.1.length + 1) _ (fun r _ => by simp)]
  simp
theorem meetRs_swap (p q : PolT) : (meetRs false q p).length = (meetRs false p q).length := by
  rw [meetRs_length, meetRs_length, Nat.mul_add, Nat.mul_add, Nat.mul_comm]
  omega
/-- Who meets, meets the other way round. -/
theorem meet_swap {p q : PolT} (h : meetE false p q = 0) : meetE false q p = 0 := by
  obtain ⟨hp, hq, hm⟩ := meetE_ok h
  have h0 : polsErr [q, p] = 0 := polsErr_ok.2 fun s hs => by
    simp at hs
    rcases hs with rfl | rfl
    · exact hq
    · exact hp
  obtain ⟨hl, _, hr⟩ := polErr_ok hm
  obtain ⟨_, hpv, hpr⟩ := polErr_ok hp
  obtain ⟨_, hqv, hqr⟩ := polErr_ok hq
  have hA := rulesErr_all hr
  have few : ∀ r s, pairR false r s ∈ meetRs false p q → r.1.length + s.1.length ≤ 10 := fun r s hm => by
    have := (ruleErr_ok (hA _ hm)).1
    simpa [pairR] using this
  rw [meetE, if_pos h0]
  unfold polErr meetP
  simp only []
  have hl' : (meetRs false p q).length ≤ 120 := hl
  rw [if_neg (by rw [meetRs_swap]; omega), if_pos (ofV_ok hqv hpv)]
  refine rulesErr_zero fun t ht => ?_
  rcases mem_meetRs.1 ht with ⟨s, hs, ⟨r, hr', rfl⟩ | rfl⟩ | ⟨r, hr', rfl⟩
  · have := few r s (mem_meetRs.2 (.inl ⟨r, hr', .inl ⟨s, hs, rfl⟩⟩))
    exact pair_ok (rulesErr_all hqr s hs) (rulesErr_all hpr r hr') (by omega) false
  · have := few ([], p.2) s (mem_meetRs.2 (.inr ⟨s, hs, rfl⟩))
    exact pair_ok (rulesErr_all hqr s hs) (default_ok hpv) (by simpa using this) false
  · have := few r ([], q.2) (mem_meetRs.2 (.inl ⟨r, hr', .inr rfl⟩))
    exact pair_ok (default_ok hqv) (rulesErr_all hpr r hr') (by simpa using this) false
/-- What MeetTwice asks. -/
theorem twice {p q : PolT} (h : meetE false p q = 0) {x : Nat → Int} (hx : chkx x = 0) : meetE false q p = 0 ∧ (meetR false q p).1.length = (meetR false p q).1.length ∧ ∃ v k l, judgeP (meetR false p q) x = (v, k, 0) ∧ judgeP (meetR false q p) x = (v, l, 0) := by
  have h' := meet_swap h
  obtain ⟨hp, hq, hm⟩ := meetE_ok h
  obtain ⟨_, _, hm'⟩ := meetE_ok h'
  have e1 : meetR false p q = meetP false p q := by rw [meetR, if_pos h]
  have e2 : meetR false q p = meetP false q p := by rw [meetR, if_pos h']
  have j1 := judge_right hm hx
  have j2 := judge_right hm' hx
  rw [vP_meet false hp hq hm hx] at j1
  rw [vP_meet false hq hp hm' hx] at j2
  have e3 : ofV false (vP q x) (vP p x) = ofV false (vP p x) (vP q x) := by
    unfold ofV
    simp only [Bool.false_eq_true, if_false]
    split <;> split <;> omega
  rw [e3] at j2
  exact ⟨h', by rw [e1, e2]; exact meetRs_swap p q, _, _, _, by rw [e1]; exact j1, by rw [e2]; exact j2⟩
theorem itself {p : PolT} (h : meetE false p p = 0) {x : Nat → Int} (hx : chkx x = 0) : ∃ v k l, judgeP p x = (v, k, 0) ∧ judgeP (meetR false p p) x = (v, l, 0) := by
  obtain ⟨hp, _, hm⟩ := meetE_ok h
  have e1 : meetR false p p = meetP false p p := by rw [meetR, if_pos h]
  have j1 := judge_right hm hx
  rw [vP_meet false hp hp hm hx] at j1
  have e3 : ofV false (vP p x) (vP p x) = vP p x := by
    unfold ofV
    simp
  rw [e3] at j1
  exact ⟨_, _, _, judge_right hp hx, by rw [e1]; exact j1⟩

end Go.Proofs.YtacjnooegahidabGreatDoor
