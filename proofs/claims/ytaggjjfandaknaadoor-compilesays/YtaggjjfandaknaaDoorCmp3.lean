/- What the program's own Compile says of a policy. -/
import Derived.Test.YtaggjjfandaknaaDoorCmp2
import Derived.Test.YtaggjjfandaknaaDoorCod
set_option linter.all false
set_option maxRecDepth 100000
namespace Go.Proofs.YtaggjjfandaknaaDoor
open Go.RowKit Go.Maps

theorem wf_of {n : Int} (h : -9223372036854775808 ≤ n ∧ n ≤ 9223372036854775807) : wf n := WalkArith.wf_i64 h
theorem rulesI_take (rs : List RuleT) (k : Nat) (r : RuleT) (h : rs[k]? = some r) : rulesI (rs.take (k + 1)) = rulesI (rs.take k) ++ ruleI r := by
  rw [List.take_succ, h]
  simp [rulesI]
theorem condsI_wf : ∀ (cs : List CondT), cs.length ≤ 10 → (∀ c ∈ cs, condErr c = 0) → ∀ i ∈ condsI cs, insWf i
  | [], _, _, i, h => by simp [condsI] at h
  | c :: r, hl, hc, i, h => by
    obtain ⟨h1, h2, h3⟩ := condErr_ok (hc c (by simp))
    have hm := most_le c.1
    have hl' : r.length + 1 ≤ 10 := by simpa using hl
    rw [condsI] at h
    rcases List.mem_cons.1 h with rfl | h
    · exact ⟨wf_of (by simp only []; omega), wf_of (by simp only []; omega), wf_of (by simp only []; omega), wf_of (by simp only []; omega)⟩
    · rcases List.mem_cons.1 h with rfl | h
      · unfold askI
        split
        · exact ⟨wf_of (by simp only []; omega), wf_of (by simp only []; omega), wf_of (by simp only []; omega), wf_of (by simp only []; omega)⟩
        · split
          · exact ⟨wf_of (by simp only []; omega), wf_of (by simp only []; omega), wf_of (by simp only []; omega), wf_of (by simp only []; omega)⟩
          · split
            · exact ⟨wf_of (by simp only []; omega), wf_of (by simp only []; omega), wf_of (by simp only []; omega), wf_of (by simp only []; omega)⟩
            · exact ⟨wf_of (by simp only []; omega), wf_of (by simp only []; omega), wf_of (by simp only []; omega), wf_of (by simp only []; omega)⟩
      · exact condsI_wf r (by omega) (fun d hd => hc d (by simp [hd])) i h
theorem retI_wf {v : Int} (h : verdictOk v = true) : insWf (4, v, 0, 0) := by
  have := verdictOk_ok h
  exact ⟨wf_of (by simp only []; omega), wf_of (by simp only []; omega), wf_of (by simp only []; omega), wf_of (by simp only []; omega)⟩
theorem polI_wf {p : PolT} (h : polErr p = 0) : ∀ i ∈ polI p, insWf i := by
  obtain ⟨_, hv, hr⟩ := polErr_ok h
  intro i hi
  unfold polI at hi
  rcases List.mem_append.1 hi with hi | hi
  · unfold rulesI at hi
    obtain ⟨r, hr1, hi⟩ := List.mem_flatMap.1 hi
    obtain ⟨h1, h2, h3⟩ := ruleErr_ok (rulesErr_all hr r hr1)
    unfold ruleI at hi
    rcases List.mem_append.1 hi with hi | hi
    · exact condsI_wf r.1 h1 (condsErr_all h3) i hi
    · rw [List.mem_singleton] at hi
      subst hi
      exact retI_wf h2
  · rw [List.mem_singleton] at hi
    subst hi
    exact retI_wf hv
theorem rulesI_len : ∀ (rs : List RuleT), (∀ r ∈ rs, ruleErr r = 0) → (rulesI rs).length ≤ rs.length * 21
  | [], _ => by simp [rulesI]
  | r :: s, h => by
    obtain ⟨h1, _, _⟩ := ruleErr_ok (h r (by simp))
    have := rulesI_len s fun d hd => h d (by simp [hd])
    rw [rulesI_cons, List.length_append, ruleI_length, List.length_cons]
    omega
theorem insErr_int (h : Int) : (h != 0) = false ↔ h = 0 := by simp

end Go.Proofs.YtaggjjfandaknaaDoor
