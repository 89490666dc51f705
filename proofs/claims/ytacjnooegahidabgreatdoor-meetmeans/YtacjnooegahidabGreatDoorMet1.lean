/- Meetings: plain facts for the statements on them. -/
import Derived.Test.YtacjnooegahidabGreatDoorMj14
import Derived.Test.YtacjnooegahidabGreatDoorOAl0
import Derived.Test.YtacjnooegahidabGreatDoorMj27
set_option linter.all false
namespace Go.Proofs.YtacjnooegahidabGreatDoor

theorem ruleErr_pair {r s : RuleT} (hr : verdictOk r.2 = true) (hs : verdictOk s.2 = true) (exc : Bool) : ruleErr (pairR exc r s) = ruleErr (pairR false r s) := by
  have hv : ∀ e, verdictOk (ofV e r.2 s.2) = true := fun e => by
    unfold ofV
    split
    · exact hr
    · split
      · rfl
      · exact hs
  unfold ruleErr pairR
  simp only [hv]
theorem rulesErr_congr : ∀ (l m : List RuleT), l.map ruleErr = m.map ruleErr → rulesErr l = rulesErr m
  | [], [], _ => rfl
  | [], b :: m, h => by simp at h
  | a :: l, [], h => by simp at h
  | a :: l, b :: m, h => by
    simp only [List.map_cons, List.cons.injEq] at h
    unfold rulesErr
    rw [h.1, rulesErr_congr l m h.2]
theorem meetRs_len1 (exc : Bool) (p q : PolT) : (meetRs exc p q).length = (meetRs false p q).length := by
  unfold meetRs
  rw [List.length_append, List.length_append, length_flatMap_const _ (q.1.length + 1) _ (fun r _ => by simp), length_flatMap_const _ (q.1.length + 1) _ (fun r _ => by simp)]
  simp
theorem meetE_exc (p q : PolT) : meetE true p q = meetE false p q := by
  unfold meetE
  by_cases h0 : polsErr [p, q] = 0
  · rw [if_pos h0, if_pos h0]
    obtain ⟨hp, hq⟩ := polsErr_two h0
    obtain ⟨_, hpv, hpr⟩ := polErr_ok hp
    obtain ⟨_, hqv, hqr⟩ := polErr_ok hq
    have hrv : ∀ r ∈ p.1, verdictOk r.2 = true := fun r hr => (ruleErr_ok (rulesErr_all hpr r hr)).2.1
    have hsv : ∀ r ∈ q.1, verdictOk r.2 = true := fun r hr => (ruleErr_ok (rulesErr_all hqr r hr)).2.1
    have hd : ∀ e, verdictOk (ofV e p.2 q.2) = true := fun e => by
      unfold ofV
      split
      · exact hpv
      · split
        · rfl
        · exact hqv
    have hm : (meetRs true p q).map ruleErr = (meetRs false p q).map ruleErr := by
      unfold meetRs
      rw [List.map_append, List.map_append, List.map_flatMap, List.map_flatMap, List.map_map, List.map_map]
      congr 1
      · rw [List.flatMap_def, List.flatMap_def]
        congr 1
        refine List.map_congr_left fun r hr => ?_
        rw [List.map_append, List.map_append, List.map_map, List.map_map]
        congr 1
        · exact List.map_congr_left fun s hs => ruleErr_pair (hrv r hr) (hsv s hs) true
        · simp only [List.map_cons, List.map_nil]
          rw [ruleErr_pair (s := ([], q.2)) (hrv r hr) hqv true]
      · exact List.map_congr_left fun s hs => ruleErr_pair (r := ([], p.2)) hpv (hsv s hs) true
    unfold polErr meetP
    simp only [hd, meetRs_len1 true p q, rulesErr_congr _ _ hm]
  · rw [if_neg h0, if_neg h0]
theorem meetE_ok {exc : Bool} {p q : PolT} (h : meetE exc p q = 0) : polErr p = 0 ∧ polErr q = 0 ∧ polErr (meetP exc p q) = 0 := by
  unfold meetE at h
  split at h
  · rename_i h0
    exact ⟨(polsErr_two h0).1, (polsErr_two h0).2, h⟩
  · rename_i h0
    exact absurd h h0
theorem judge_right {p : PolT} (hp : polErr p = 0) {x : Nat → Int} (hx : chkx x = 0) : judgeP p x = (vP p x, (judgeP p x).2.1, 0) := judge_zero (ps := [p]) (fun q hq => by simp at hq; subst hq; exact hp) (by simp) hx
/-- What MeetMeans asks. -/
theorem means {p q : PolT} (h : meetE false p q = 0) {x : Nat → Int} (hx : chkx x = 0) : ∃ v k w l m n, judgeP p x = (v, k, 0) ∧ judgeP q x = (w, l, 0) ∧ judgeP (meetR false p q) x = (ofV false v w, m, 0) ∧ judgeP (meetR true p q) x = (ofV true v w, n, 0) := by
  have h' : meetE true p q = 0 := by rw [meetE_exc]; exact h
  obtain ⟨hp, hq, hm⟩ := meetE_ok h
  obtain ⟨_, _, hm'⟩ := meetE_ok h'
  have e1 : meetR false p q = meetP false p q := by rw [meetR, if_pos h]
  have e2 : meetR true p q = meetP true p q := by rw [meetR, if_pos h']
  have j1 := judge_right hm hx
  have j2 := judge_right hm' hx
  rw [vP_meet false hp hq hm hx] at j1
  rw [vP_meet true hp hq hm' hx] at j2
  exact ⟨_, _, _, _, _, _, judge_right hp hx, judge_right hq hx, by rw [e1]; exact j1, by rw [e2]; exact j2⟩
/-- What MeetShort asks. -/
theorem shorts {p : PolT} (h : pointsE [p] = 0) {x : Nat → Int} (hx : chkx x = 0) : ∃ v k l, judgeP p x = (v, k, 0) ∧ judgeP (shortR p) x = (v, l, 0) ∧ pointsE [shortR p] = 0 ∧ shortR (shortR p) = shortR p ∧ (shortR p).1.length ≤ p.1.length := by
  have hp : polErr p = 0 := (pointsE_ok.1 h).1 p (by simp)
  have e : shortR p = shortP p := by unfold shortR; rw [if_pos h]
  have hs := short_points h
  have e2 : shortR (shortP p) = shortP (shortP p) := by unfold shortR; rw [if_pos hs]
  have j1 := judge_right (shortP_ok hp) hx
  rw [vP_short hp hx] at j1
  exact ⟨_, _, _, judge_right hp hx, by rw [e]; exact j1, by rw [e]; exact hs, by rw [e, e2, short_twice hp], by rw [e]; exact shortP_len p⟩

end Go.Proofs.YtacjnooegahidabGreatDoor
