/- What is printed: plain data. -/
import Derived.Test.YthpllmhnpbigiaaDoorTxt
import Derived.Test.YthpllmhnpbigiaaDoorPol2
set_option linter.all false
namespace Go.Proofs.YthpllmhnpbigiaaDoor
open Go.RowKit Go.Maps

def vName (v : Int) : Bs := vN.getD v.toNat []
def fName (f : Int) : Bs := fN.getD f.toNat []
def opSign (o : Int) : UInt8 := opC.getD (o - 1).toNat 0
def condText (c : CondT) : Bs := 32 :: (fName c.1 ++ (opSign c.2.1 :: Lib.itoa c.2.2))
def ruleText (r : RuleT) : Bs := vName r.2 ++ r.1.flatMap condText ++ [59]
def polText (p : PolT) : Bs := p.1.flatMap ruleText ++ vName p.2

theorem decDigits_len : ∀ u : Nat, (Lib.decDigits u).length ≤ u + 1 := by
  intro u
  induction u using Nat.strongRecOn with
  | _ u ih =>
    rw [Lib.decDigits]
    split
    · simp
    · rename_i h
      have := ih (u / 10) (by omega)
      simp
      omega
theorem vName_len (v : Int) : (vName v).length ≤ 5 := by
  unfold vName
  generalize v.toNat = k
  match k with
  | 0 => decide
  | 1 => decide
  | 2 => decide
  | 3 => decide
  | 4 => decide
  | k + 5 => simp [vN]
theorem fName_len (v : Int) : (fName v).length ≤ 4 := by
  unfold fName
  generalize v.toNat = k
  match k with
  | 0 => decide
  | 1 => decide
  | 2 => decide
  | 3 => decide
  | 4 => decide
  | k + 5 => simp [fN]
theorem condErr_num {c : CondT} (h : condErr c = 0) : (0 ≤ c.1 ∧ c.1 < 5) ∧ (1 ≤ c.2.1 ∧ c.2.1 ≤ 4) ∧ (0 ≤ c.2.2 ∧ c.2.2 ≤ 65535) := by
  unfold condErr at h
  split at h
  · cases h
  · split at h
    · cases h
    · split at h
      · cases h
      · have := most_le c.1
        omega
theorem condText_len {c : CondT} (h : condErr c = 0) : (condText c).length ≤ 70000 := by
  obtain ⟨_, _, h3⟩ := condErr_num h
  have h1 := fName_len c.1
  have h2 : (Lib.itoa c.2.2).length ≤ 65536 := by
    unfold Lib.itoa
    rw [if_neg (by omega)]
    have := decDigits_len c.2.2.toNat
    omega
  unfold condText
  simp
  omega
theorem condsText_len : ∀ (cs : List CondT), (∀ c ∈ cs, condErr c = 0) → (cs.flatMap condText).length ≤ cs.length * 70000
  | [], _ => by simp
  | c :: r, h => by
    have := condsText_len r fun d hd => h d (by simp [hd])
    have := condText_len (h c (by simp))
    simp only [List.flatMap_cons, List.length_append, List.length_cons]
    omega
theorem condsErr_each : ∀ (cs : List CondT), condsErr cs = 0 → ∀ c ∈ cs, condErr c = 0
  | [], _, c, h => by cases h
  | d :: r, h, c, hc => by
    unfold condsErr at h
    by_cases h0 : condErr d = 0
    · rw [if_pos h0] at h
      rcases List.mem_cons.1 hc with rfl | hc
      · exact h0
      · exact condsErr_each r h c hc
    · rw [if_neg h0] at h
      exact absurd h h0
theorem ruleErr_all {r : RuleT} (h : ruleErr r = 0) : r.1.length ≤ 10 ∧ (0 ≤ r.2 ∧ r.2 ≤ 4) ∧ ∀ c ∈ r.1, condErr c = 0 := by
  unfold ruleErr at h
  split at h
  · cases h
  · split at h
    · rename_i hv
      unfold verdictOk at hv
      simp at hv
      exact ⟨by omega, hv, condsErr_each _ h⟩
    · cases h
theorem rulesErr_each : ∀ (rs : List RuleT), rulesErr rs = 0 → ∀ r ∈ rs, ruleErr r = 0
  | [], _, c, h => by cases h
  | d :: r, h, c, hc => by
    unfold rulesErr at h
    by_cases h0 : ruleErr d = 0
    · rw [if_pos h0] at h
      rcases List.mem_cons.1 hc with rfl | hc
      · exact h0
      · exact rulesErr_each r h c hc
    · rw [if_neg h0] at h
      exact absurd h h0
theorem polErr_all {p : PolT} (h : polErr p = 0) : p.1.length ≤ 120 ∧ (0 ≤ p.2 ∧ p.2 ≤ 4) ∧ ∀ r ∈ p.1, ruleErr r = 0 := by
  unfold polErr at h
  split at h
  · cases h
  · split at h
    · rename_i hv
      unfold verdictOk at hv
      simp at hv
      exact ⟨by omega, hv, rulesErr_each _ h⟩
    · cases h
theorem ruleText_len {r : RuleT} (h : ruleErr r = 0) : (ruleText r).length ≤ 800000 := by
  obtain ⟨h1, _, h3⟩ := ruleErr_all h
  have := condsText_len r.1 h3
  have := vName_len r.2
  unfold ruleText
  simp only [List.length_append, List.length_cons, List.length_nil]
  omega
theorem rulesText_len : ∀ (rs : List RuleT), (∀ r ∈ rs, ruleErr r = 0) → (rs.flatMap ruleText).length ≤ rs.length * 800000
  | [], _ => by simp
  | c :: r, h => by
    have := rulesText_len r fun d hd => h d (by simp [hd])
    have := ruleText_len (h c (by simp))
    simp only [List.flatMap_cons, List.length_append, List.length_cons]
    omega

end Go.Proofs.YthpllmhnpbigiaaDoor
