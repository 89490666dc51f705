/- Policies held against each other, met, made shorter, as plain data. -/
import Derived.Test.YtffhpcfphodamaaGreatDoorPnt0
set_option linter.all false
namespace Go.Proofs.YtffhpcfphodamaaGreatDoor

/-- What a policy says of a call. -/
def vP (p : PolT) (x : Nat → Int) : Int := (judgeP p x).1
def kP (p : PolT) (x : Nat → Int) : Int := (judgeP p x).2.1
def ofL (l : List Int) : Nat → Int := at5 (l.getD 0 0) (l.getD 1 0) (l.getD 2 0) (l.getD 3 0) (l.getD 4 0)
theorem judge_fields {p : PolT} {x y : Nat → Int} (h : ∀ j, j < 5 → x j = y j) : judgeP p x = judgeP p y := by
  have hc : chkx x = chkx y := by unfold chkx; rw [h 0 (by omega), h 1 (by omega), h 2 (by omega), h 3 (by omega), h 4 (by omega)]
  by_cases hp : polErr p = 0
  · by_cases hx : chkx x = 0
    · rw [judgeP_ok hp hx, judgeP_ok hp (hc ▸ hx)]
      have hr : ∀ r ∈ p.1, ruleOk x r = ruleOk y r := by
        intro r hr
        have hcs := condsErr_all (ruleErr_ok (rulesErr_all (polErr_ok hp).2.2 r hr)).2.2
        unfold ruleOk
        rw [Bool.eq_iff_iff, List.all_eq_true, List.all_eq_true]
        have : ∀ c ∈ r.1, condOk x c = condOk y c := fun c hc' => by
          have := (condErr_ok (hcs c hc')).1
          unfold condOk
          rw [h c.1.toNat (by omega)]
        constructor
        · intro hh c hc'; rw [← this c hc']; exact hh c hc'
        · intro hh c hc'; rw [this c hc']; exact hh c hc'
      rw [firstAt_congr _ _ p.1 0 hr]
    · unfold judgeP
      rw [if_pos hp, if_neg hx, if_pos hp, if_neg (hc ▸ hx), hc]
  · unfold judgeP
    rw [if_neg hp, if_neg hp]
theorem ofL_fields (x : Nat → Int) : ∀ j, j < 5 → ofL (fieldsOf x) j = x j := by
  intro j hj
  have : j = 0 ∨ j = 1 ∨ j = 2 ∨ j = 3 ∨ j = 4 := by omega
  rcases this with rfl | rfl | rfl | rfl | rfl <;> rfl

/-! Errors of several. -/
def polsErr : List PolT → Int
  | [] => 0
  | p :: r => if polErr p = 0 then polsErr r else polErr p
theorem polsErr_ok : ∀ {l : List PolT}, polsErr l = 0 ↔ AllOk l
  | [] => by simp [polsErr, AllOk]
  | p :: r => by
    unfold polsErr
    by_cases h : polErr p = 0
    · rw [if_pos h, polsErr_ok]
      constructor
      · intro hr q hq
        rcases List.mem_cons.1 hq with rfl | hq
        · exact h
        · exact hr q hq
      · intro hr q hq
        exact hr q (by simp [hq])
    · rw [if_neg h]
      constructor
      · intro h'; exact absurd h' h
      · intro hr; exact hr p (by simp)
def pointsE (l : List PolT) : Int := if polsErr l = 0 then (if 1000 < (pointsP l).length then 2 else 0) else polsErr l
def pointsL (l : List PolT) : List (List Int) := if pointsE l = 0 then pointsP l else []
theorem pointsE_ok {l : List PolT} : pointsE l = 0 ↔ AllOk l ∧ (pointsP l).length ≤ 1000 := by
  unfold pointsE
  by_cases h : polsErr l = 0
  · rw [if_pos h]
    constructor
    · intro h'
      refine ⟨polsErr_ok.1 h, ?_⟩
      split at h'
      · cases h'
      · omega
    · rintro ⟨_, h'⟩
      rw [if_neg (by omega)]
  · rw [if_neg h]
    constructor
    · intro h'; exact absurd h' h
    · rintro ⟨h', _⟩; exact absurd (polsErr_ok.2 h') h

/-! The order. -/
def loosePt (p q : PolT) (x : List Int) : Bool := decide (vP q (ofL x) < vP p (ofL x))
def looserP (p q : PolT) : Option (List Int) := (pointsL [p, q]).find? (loosePt p q)
/-- What isn't looser at any point is so nowhere. -/
theorem looser_none {p q : PolT} (he : pointsE [p, q] = 0) (h : looserP p q = none) {x : Nat → Int} (hx : chkx x = 0) : vP p x ≤ vP q x := by
  obtain ⟨hok, _⟩ := pointsE_ok.1 he
  unfold looserP pointsL at h
  rw [if_pos he, List.find?_eq_none] at h
  have h1 := h _ (home_point hok hx)
  unfold loosePt at h1
  rw [decide_eq_true_eq] at h1
  have e : ∀ r ∈ [p, q], vP r (ofL (fieldsOf (homeP [p, q] x))) = vP r x := fun r hr => by
    unfold vP
    rw [judge_fields (ofL_fields _), judge_home hok hx hr]
  rw [e p (by simp), e q (by simp)] at h1
  omega
theorem looser_some {p q : PolT} (he : pointsE [p, q] = 0) {y : List Int} (h : looserP p q = some y) : ∃ x : Nat → Int, y = fieldsOf x ∧ chkx x = 0 ∧ vP q x < vP p x := by
  obtain ⟨hok, _⟩ := pointsE_ok.1 he
  unfold looserP pointsL at h
  rw [if_pos he] at h
  have hy := List.mem_of_find?_eq_some h
  have hl := List.find?_some h
  obtain ⟨x, rfl, hx, _⟩ := point_right hok hy
  refine ⟨x, rfl, hx, ?_⟩
  unfold loosePt at hl
  rw [decide_eq_true_eq] at hl
  unfold vP at hl ⊢
  rw [judge_fields (ofL_fields x), judge_fields (ofL_fields x)] at hl
  exact hl

/-! Meeting. -/
def ofV (exc : Bool) (a b : Int) : Int := if a < b then a else if exc then 4 else b
def pairR (exc : Bool) (r s : RuleT) : RuleT := (r.1 ++ s.1, ofV exc r.2 s.2)
def meetRs (exc : Bool) (p q : PolT) : List RuleT := p.1.flatMap (fun r => q.1.map (pairR exc r) ++ [pairR exc r ([], q.2)]) ++ q.1.map (pairR exc ([], p.2))
def meetP (exc : Bool) (p q : PolT) : PolT := (meetRs exc p q, ofV exc p.2 q.2)
def verdO (x : Nat → Int) (d : Int) : List RuleT → Int
  | [] => d
  | r :: s => if ruleOk x r then r.2 else verdO x d s
theorem verdO_first (x : Nat → Int) (d : Int) (rs0 : List RuleT) : ∀ (rs : List RuleT) (k : Nat), rs0.drop k = rs → verdO x d rs = (verdictAt (rs0, d) (firstAt (ruleOk x) k rs)).1
  | [], k, _ => by simp [verdO, firstAt, verdictAt]
  | r :: s, k, h => by
    have hk : rs0[k]? = some r := by
      have : (rs0.drop k)[0]? = some r := by rw [h]; rfl
      simpa using this
    rw [verdO, firstAt]
    by_cases hr : ruleOk x r = true
    · rw [if_pos hr, if_pos hr, verdictAt, if_neg (by omega)]
      simp [hk]
    · rw [if_neg hr, if_neg hr]
      refine verdO_first x d rs0 s (k + 1) ?_
      rw [← List.drop_drop, h]
      rfl
theorem vP_verd {p : PolT} {x : Nat → Int} (hp : polErr p = 0) (hx : chkx x = 0) : vP p x = verdO x p.2 p.1 := by
  unfold vP
  rw [judgeP_ok hp hx]
  exact (verdO_first x p.2 p.1 p.1 0 rfl).symm
theorem ruleOk_pair (x : Nat → Int) (exc : Bool) (r s : RuleT) : ruleOk x (pairR exc r s) = (ruleOk x r && ruleOk x s) := by
  unfold ruleOk pairR
  rw [List.all_append]
theorem verdO_append (x : Nat → Int) (d : Int) : ∀ (l m : List RuleT), verdO x d (l ++ m) = verdO x (verdO x d m) l
  | [], m => rfl
  | r :: l, m => by
    show (if ruleOk x r then r.2 else verdO x d (l ++ m)) = if ruleOk x r then r.2 else verdO x (verdO x d m) l
    rw [verdO_append x d l m]
theorem verdO_no (x : Nat → Int) (d : Int) : ∀ l : List RuleT, (∀ r ∈ l, ruleOk x r = false) → verdO x d l = d
  | [], _ => rfl
  | r :: l, h => by
    rw [verdO, if_neg (by simp [h r (by simp)])]
    exact verdO_no x d l fun s hs => h s (by simp [hs])
/-- One rule of p with all of q. -/
theorem verdO_pairs (x : Nat → Int) (exc : Bool) (r : RuleT) (hr : ruleOk x r = true) (dq d : Int) : ∀ l : List RuleT, verdO x (ofV exc r.2 dq) (l.map (pairR exc r)) = ofV exc r.2 (verdO x dq l)
  | [] => rfl
  | s :: l => by
    rw [List.map_cons, verdO, verdO, ruleOk_pair, hr, Bool.true_and, verdO_pairs x exc r hr dq d l]
    split <;> rfl
theorem verdO_meet (x : Nat → Int) (exc : Bool) (q : PolT) (dp : Int) : ∀ ps : List RuleT, verdO x (ofV exc dp q.2) (meetRs exc (ps, dp) q) = ofV exc (verdO x dp ps) (verdO x q.2 q.1)
  | [] => by
    unfold meetRs
    simp only [List.flatMap_nil, List.nil_append]
    exact verdO_pairs x exc ([], dp) rfl q.2 0 q.1
  | r :: ps => by
    have ih := verdO_meet x exc q dp ps
    unfold meetRs at ih ⊢
    simp only [List.flatMap_cons] at ih ⊢
    rw [List.append_assoc, verdO_append, ih]
    by_cases hr : ruleOk x r = true
    · have e1 : verdO x (ofV exc (verdO x dp ps) (verdO x q.2 q.1)) [pairR exc r ([], q.2)] = ofV exc r.2 q.2 := by
        rw [verdO, ruleOk_pair, hr]
        rfl
      rw [verdO_append, e1, verdO_pairs x exc r hr q.2 0 q.1, verdO, if_pos hr]
    · rw [verdO_no, verdO, if_neg hr]
      intro s hs
      have hr' : ruleOk x r = false := by simpa using hr
      rcases List.mem_append.1 hs with hs | hs
      · obtain ⟨t, _, rfl⟩ := List.mem_map.1 hs
        rw [ruleOk_pair, hr']
        rfl
      · rw [List.mem_singleton] at hs
        subst hs
        rw [ruleOk_pair, hr']
        rfl
/-- Meet says of each call the stricter verdict. -/
theorem vP_meet {p q : PolT} {x : Nat → Int} (exc : Bool) (hp : polErr p = 0) (hq : polErr q = 0) (hm : polErr (meetP exc p q) = 0) (hx : chkx x = 0) : vP (meetP exc p q) x = ofV exc (vP p x) (vP q x) := by
  rw [vP_verd hm hx, vP_verd hp hx, vP_verd hq hx]
  exact verdO_meet x exc q p.2 p.1

end Go.Proofs.YtffhpcfphodamaaGreatDoor
