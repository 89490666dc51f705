/- Compile: the filter of a policy as plain data; a right policy's filter is right but for its length, and says of each call what the policy says. -/
import Derived.Test.YtaggjjfandaknaaDoorIns
import Derived.Test.YtaggjjfandaknaaDoorFirst
set_option linter.all false
namespace Go.Proofs.YtaggjjfandaknaaDoor

def askI (c : CondT) (left : Int) : InsT := if c.2.1 = 1 then (2, c.2.2, 0, left) else if c.2.1 = 2 then (2, c.2.2, left, 0) else if c.2.1 = 3 then (3, c.2.2, 0, left) else (3, c.2.2, left, 0)
def condsI : List CondT → List InsT
  | [] => []
  | c :: r => (1, c.1, 0, 0) :: askI c (2 * (r.length : Int) + 1) :: condsI r
def ruleI (r : RuleT) : List InsT := condsI r.1 ++ [(4, r.2, 0, 0)]
def rulesI (rs : List RuleT) : List InsT := rs.flatMap ruleI
def polI (p : PolT) : List InsT := rulesI p.1 ++ [(4, p.2, 0, 0)]

theorem condsI_length : ∀ cs : List CondT, (condsI cs).length = 2 * cs.length
  | [] => rfl
  | c :: r => by rw [condsI]; simp [condsI_length r]; omega
theorem ruleI_length (r : RuleT) : (ruleI r).length = 2 * r.1.length + 1 := by rw [ruleI]; simp [condsI_length]
theorem rulesI_cons (r : RuleT) (s : List RuleT) : rulesI (r :: s) = ruleI r ++ rulesI s := by simp [rulesI]
theorem polI_ne (p : PolT) : polI p ≠ [] := by unfold polI; simp

theorem lastKind_snoc : ∀ (l : List InsT) (c : InsT), lastKind (l ++ [c]) = c.1
  | [], c => rfl
  | [d], c => rfl
  | d :: e :: r, c => by
    show lastKind (d :: e :: (r ++ [c])) = c.1
    rw [lastKind]
    exact lastKind_snoc (e :: r) c

theorem insErr_ret0 {v n : Int} (h0 : 0 ≤ v) (h1 : v ≤ 4) : insErr (4, v, 0, 0) n = 0 := by
  simp [insErr]
  omega
theorem insErr_ld0 {v n : Int} (h0 : 0 ≤ v) (h1 : v < 5) : insErr (1, v, 0, 0) n = 0 := by
  simp [insErr]
  omega
theorem insErr_jmp0 {k v b c n : Int} (hk : k = 2 ∨ k = 3) (h0 : 0 ≤ v) (h1 : v ≤ 65535) (hb : 0 ≤ b) (hb' : b < n) (hc : 0 ≤ c) (hc' : c < n) : insErr (k, v, b, c) n = 0 := by
  unfold insErr
  simp only []
  rw [if_neg (by omega), if_pos hk, if_neg (by omega), if_neg (by omega)]
theorem insErr_ask {c : CondT} {left n : Int} (hc : condErr c = 0) (hl : 0 ≤ left) (hn : left < n) : insErr (askI c left) n = 0 := by
  obtain ⟨_, _, h3, h4⟩ := condErr_ok hc
  have := most_le c.1
  unfold askI
  split
  · exact insErr_jmp0 (.inl rfl) h3 (by omega) (by omega) (by omega) hl hn
  · split
    · exact insErr_jmp0 (.inl rfl) h3 (by omega) hl hn (by omega) (by omega)
    · split
      · exact insErr_jmp0 (.inr rfl) h3 (by omega) (by omega) (by omega) hl hn
      · exact insErr_jmp0 (.inr rfl) h3 (by omega) hl hn (by omega) (by omega)
theorem verdictOk_ok {v : Int} (h : verdictOk v = true) : 0 ≤ v ∧ v ≤ 4 := by
  unfold verdictOk at h
  simpa using h

theorem inssErr_rule (v : Int) (hv : 0 ≤ v ∧ v ≤ 4) (rest : List InsT) (hr : rest ≠ []) : ∀ cs : List CondT, (∀ c ∈ cs, condErr c = 0) → inssErr (condsI cs ++ (4, v, 0, 0) :: rest) = inssErr rest
  | [], _ => by
    show inssErr ((4, v, 0, 0) :: rest) = _
    rw [inssErr, if_pos (insErr_ret0 hv.1 hv.2)]
  | c :: r, h => by
    have hp : 0 < rest.length := List.length_pos_iff.2 hr
    have hc := condErr_ok (h c (by simp))
    rw [condsI]
    show inssErr ((1, c.1, 0, 0) :: askI c (2 * (r.length : Int) + 1) :: (condsI r ++ (4, v, 0, 0) :: rest)) = _
    rw [inssErr, if_pos (insErr_ld0 hc.1.1 hc.1.2), inssErr, if_pos (insErr_ask (h c (by simp)) (by omega) (by
      rw [List.length_append, condsI_length, List.length_cons]
      omega))]
    exact inssErr_rule v hv rest hr r fun d hd => h d (by simp [hd])
theorem inssErr_rules (tail : List InsT) (ht : tail ≠ []) : ∀ rs : List RuleT, (∀ r ∈ rs, ruleErr r = 0) → inssErr (rulesI rs ++ tail) = inssErr tail
  | [], _ => rfl
  | r :: s, h => by
    obtain ⟨_, hv, hc⟩ := ruleErr_ok (h r (by simp))
    rw [rulesI_cons, ruleI, List.append_assoc, List.append_assoc]
    show inssErr (condsI r.1 ++ (4, r.2, 0, 0) :: (rulesI s ++ tail)) = _
    rw [inssErr_rule r.2 (verdictOk_ok hv) _ (by simp [ht]) r.1 (condsErr_all hc)]
    exact inssErr_rules tail ht s fun d hd => h d (by simp [hd])

/-- A right policy's filter is right, unless it is too long. -/
theorem codeErr_pol {p : PolT} (h : polErr p = 0) : codeErr (polI p) = if 1500 < (polI p).length then 2 else 0 := by
  obtain ⟨_, hv, hr⟩ := polErr_ok h
  have hv := verdictOk_ok hv
  have h1 : 0 < (polI p).length := List.length_pos_iff.2 (polI_ne p)
  have h2 : inssErr (polI p) = 0 := by
    unfold polI
    rw [inssErr_rules _ (by simp) p.1 (rulesErr_all hr), inssErr, if_pos (insErr_ret0 hv.1 hv.2)]
    rfl
  have h3 : lastKind (polI p) = 4 := by unfold polI; rw [lastKind_snoc]
  unfold codeErr
  by_cases hl : 1500 < (polI p).length
  · rw [if_pos (.inr hl), if_pos hl]
  · rw [if_neg (by omega), if_pos h2, if_pos h3, if_neg hl]

/-! What the filter says. -/
def verd (x : Nat → Int) (d : Int) : List RuleT → Int
  | [] => d
  | r :: s => if ruleOk x r then r.2 else verd x d s
theorem hop_ask (n : Int) (c : CondT) (left : Int) : hop n (askI c left) = if holdsB c.2.1 c.2.2 n then 0 else left.toNat := by
  unfold askI holdsB hop
  by_cases h1 : c.2.1 = 1
  · simp only [if_pos h1]
    by_cases e : n = c.2.2 <;> simp [e]
  · simp only [if_neg h1]
    by_cases h2 : c.2.1 = 2
    · simp only [if_pos h2]
      by_cases e : n = c.2.2 <;> simp [e]
    · simp only [if_neg h2]
      by_cases h3 : c.2.1 = 3
      · simp only [if_pos h3]
        by_cases e : n < c.2.2 <;> simp [e]
      · simp only [if_neg h3]
        by_cases e : n < c.2.2
        · have e' : ¬ c.2.2 ≤ n := by omega
          simp [e, e']
        · have e' : c.2.2 ≤ n := by omega
          simp [e, e']
theorem askI_kind (c : CondT) (left : Int) : (askI c left).1 = 2 ∨ (askI c left).1 = 3 := by
  unfold askI
  split
  · exact .inl rfl
  · split
    · exact .inl rfl
    · split <;> exact .inr rfl
theorem runs_rule (x : Nat → Int) (v : Int) (rest : List InsT) : ∀ (cs : List CondT) (n : Int), ∃ n', (runs x n 0 (condsI cs ++ (4, v, 0, 0) :: rest)).1 = if cs.all (condOk x) then v else (runs x n' 0 rest).1
  | [], n => ⟨n, by
    show (runs x n 0 ((4, v, 0, 0) :: rest)).1 = _
    rw [runs, if_neg (by simp), if_neg (by simp)]
    rfl⟩
  | c :: r, n => by
    rw [condsI]
    show ∃ n', (runs x n 0 ((1, c.1, 0, 0) :: askI c (2 * (r.length : Int) + 1) :: (condsI r ++ (4, v, 0, 0) :: rest))).1 = _
    have ha := askI_kind c (2 * (r.length : Int) + 1)
    rw [runs, if_pos rfl, runs, if_neg (by omega), if_pos ha, hop_ask]
    by_cases h : condOk x c = true
    · have h' : holdsB c.2.1 c.2.2 (x c.1.toNat) = true := h
      obtain ⟨n', e⟩ := runs_rule x v rest r (x c.1.toNat)
      refine ⟨n', ?_⟩
      simp only []
      rw [if_pos h']
      show (runs x (x c.1.toNat) 0 (condsI r ++ (4, v, 0, 0) :: rest)).1 = _
      rw [e, List.all_cons, h, Bool.true_and]
    · have h' : ¬ holdsB c.2.1 c.2.2 (x c.1.toNat) = true := h
      refine ⟨x c.1.toNat, ?_⟩
      simp only []
      rw [if_neg h']
      show (runs x (x c.1.toNat) (2 * (r.length : Int) + 1).toNat (condsI r ++ (4, v, 0, 0) :: rest)).1 = _
      have hd : (condsI r ++ (4, v, 0, 0) :: rest).drop (2 * (r.length : Int) + 1).toNat = rest := by
        rw [show (2 * (r.length : Int) + 1).toNat = (condsI r).length + 1 by rw [condsI_length]; omega, ← List.drop_drop, List.drop_left]
        rfl
      rw [runs_skip, hd, List.all_cons]
      simp [h]
theorem runs_rules (x : Nat → Int) (d : Int) : ∀ (rs : List RuleT) (n : Int), (runs x n 0 (rulesI rs ++ [(4, d, 0, 0)])).1 = verd x d rs
  | [], n => by
    show (runs x n 0 [(4, d, 0, 0)]).1 = _
    rw [runs, if_neg (by simp), if_neg (by simp)]
    rfl
  | r :: s, n => by
    rw [rulesI_cons, ruleI, List.append_assoc, List.append_assoc]
    show (runs x n 0 (condsI r.1 ++ (4, r.2, 0, 0) :: (rulesI s ++ [(4, d, 0, 0)]))).1 = _
    obtain ⟨n', e⟩ := runs_rule x r.2 (rulesI s ++ [(4, d, 0, 0)]) r.1 n
    rw [e, runs_rules x d s n', verd]
    rfl
theorem verd_first (x : Nat → Int) (d : Int) (rs0 : List RuleT) : ∀ (rs : List RuleT) (k : Nat), rs0.drop k = rs → verd x d rs = (verdictAt (rs0, d) (firstAt (ruleOk x) k rs)).1
  | [], k, _ => by simp [verd, firstAt, verdictAt]
  | r :: s, k, h => by
    have hk : rs0[k]? = some r := by
      have : (rs0.drop k)[0]? = some r := by rw [h]; rfl
      simpa using this
    rw [verd, firstAt]
    by_cases hr : ruleOk x r = true
    · rw [if_pos hr, if_pos hr, verdictAt, if_neg (by omega)]
      simp [hk]
    · rw [if_neg hr, if_neg hr]
      refine verd_first x d rs0 s (k + 1) ?_
      rw [← List.drop_drop, h]
      rfl

/-- A filter says of each call what its policy says. -/
theorem runs_pol {p : PolT} {x : Nat → Int} (hp : polErr p = 0) (hx : chkx x = 0) : (runs x 0 0 (polI p)).1 = (judgeP p x).1 := by
  rw [judgeP_ok hp hx, polI, runs_rules]
  exact verd_first x p.2 p.1 p.1 0 rfl

/-- What Compile answers. -/
def compE (p : PolT) : Int := if polErr p = 0 then (if 1500 < (polI p).length then 2 else 0) else polErr p
def compL (p : PolT) : List InsT := if compE p = 0 then polI p else []

end Go.Proofs.YtaggjjfandaknaaDoor
