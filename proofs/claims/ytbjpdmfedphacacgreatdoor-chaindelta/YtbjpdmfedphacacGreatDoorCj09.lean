/- Joined: Ord0 Sht0 Met0 Last. -/
import Derived.Test.YtbjpdmfedphacacGreatDoorCj08
import Derived.Test.YtbjpdmfedphacacGreatDoorCj04
import Derived.Test.YtbjpdmfedphacacGreatDoorCj01
section
/- Policies held against each other, met, made shorter, as plain data. -/
set_option linter.all false
namespace Go.Proofs.YtbjpdmfedphacacGreatDoor

/-- What a policy says of a call. -/
def vP (p : PolT) (x : Nat → Int) : Int := (judgeP p x).1
def kP (p : PolT) (x : Nat → Int) : Int := (judgeP p x).2.1
def ofL (l : List Int) : Nat → Int := at5 (l.getD 0 0) (l.getD 1 0) (l.getD 2 0) (l.getD 3 0) (l.getD 4 0)
theorem judge_fields {p : PolT} {x y : Nat → Int} (h : ∀ j, j < 5 → x j = y j) : judgeP p x = judgeP p y := by
  have hc : chkx x = chkx y := by unfold chkx; rw [h 0 (by omega), h 1 (by omega), h 2 (by omega), h 3 (by omega), h 4 (by omega)]
  by_cases hp : polErr p = 0
  · by_cases hx : chkx x = 0
    · rw [judgeP_ok hp hx, judgeP_ok hp (hc ▸ hx)]
      have hr : ∀ r ∈ p.1, ruleOk x r = ruleOk y r := by
        intro r hr
        have hcs := condsErr_all (ruleErr_ok (rulesErr_all (polErr_ok hp).2.2 r hr)).2.2
        unfold ruleOk
        rw [Bool.eq_iff_iff, List.all_eq_true, List.all_eq_true]
        have : ∀ c ∈ r.1, condOk x c = condOk y c := fun c hc' => by
          have := (condErr_ok (hcs c hc')).1
          unfold condOk
          rw [h c.1.toNat (by omega)]
        constructor
        · intro hh c hc'; rw [← this c hc']; exact hh c hc'
        · intro hh c hc'; rw [this c hc']; exact hh c hc'
      rw [firstAt_congr _ _ p.1 0 hr]
    · unfold judgeP
      rw [if_pos hp, if_neg hx, if_pos hp, if_neg (hc ▸ hx), hc]
  · unfold judgeP
    rw [if_neg hp, if_neg hp]
theorem ofL_fields (x : Nat → Int) : ∀ j, j < 5 → ofL (fieldsOf x) j = x j := by
  intro j hj
  have : j = 0 ∨ j = 1 ∨ j = 2 ∨ j = 3 ∨ j = 4 := by omega
  rcases this with rfl | rfl | rfl | rfl | rfl <;> rfl

/-! Errors of several. -/
def polsErr : List PolT → Int
  | [] => 0
  | p :: r => if polErr p = 0 then polsErr r else polErr p
theorem polsErr_ok : ∀ {l : List PolT}, polsErr l = 0 ↔ AllOk l
  | [] => by simp [polsErr, AllOk]
  | p :: r => by
    unfold polsErr
    by_cases h : polErr p = 0
    · rw [if_pos h, polsErr_ok]
      constructor
      · intro hr q hq
        rcases List.mem_cons.1 hq with rfl | hq
        · exact h
        · exact hr q hq
      · intro hr q hq
        exact hr q (by simp [hq])
    · rw [if_neg h]
      constructor
      · intro h'; exact absurd h' h
      · intro hr; exact hr p (by simp)
def pointsE (l : List PolT) : Int := if polsErr l = 0 then (if 1000 < (pointsP l).length then 2 else 0) else polsErr l
def pointsL (l : List PolT) : List (List Int) := if pointsE l = 0 then pointsP l else []
theorem pointsE_ok {l : List PolT} : pointsE l = 0 ↔ AllOk l ∧ (pointsP l).length ≤ 1000 := by
  unfold pointsE
  by_cases h : polsErr l = 0
  · rw [if_pos h]
    constructor
    · intro h'
      refine ⟨polsErr_ok.1 h, ?_⟩
      split at h'
      · cases h'
      · omega
    · rintro ⟨_, h'⟩
      rw [if_neg (by omega)]
  · rw [if_neg h]
    constructor
    · intro h'; exact absurd h' h
    · rintro ⟨h', _⟩; exact absurd (polsErr_ok.2 h') h

/-! The order. -/
def loosePt (p q : PolT) (x : List Int) : Bool := decide (vP q (ofL x) < vP p (ofL x))
def looserP (p q : PolT) : Option (List Int) := (pointsL [p, q]).find? (loosePt p q)
/-- What isn't looser at any point is so nowhere. -/
theorem looser_none {p q : PolT} (he : pointsE [p, q] = 0) (h : looserP p q = none) {x : Nat → Int} (hx : chkx x = 0) : vP p x ≤ vP q x := by
  obtain ⟨hok, _⟩ := pointsE_ok.1 he
  unfold looserP pointsL at h
  rw [if_pos he, List.find?_eq_none] at h
  have h1 := h _ (home_point hok hx)
  unfold loosePt at h1
  rw [decide_eq_true_eq] at h1
  have e : ∀ r ∈ [p, q], vP r (ofL (fieldsOf (homeP [p, q] x))) = vP r x := fun r hr => by
    unfold vP
    rw [judge_fields (ofL_fields _), judge_home hok hx hr]
  rw [e p (by simp), e q (by simp)] at h1
  omega
theorem looser_some {p q : PolT} (he : pointsE [p, q] = 0) {y : List Int} (h : looserP p q = some y) : ∃ x : Nat → Int, y = fieldsOf x ∧ chkx x = 0 ∧ vP q x < vP p x := by
  obtain ⟨hok, _⟩ := pointsE_ok.1 he
  unfold looserP pointsL at h
  rw [if_pos he] at h
  have hy := List.mem_of_find?_eq_some h
  have hl := List.find?_some h
  obtain ⟨x, rfl, hx, _⟩ := point_right hok hy
  refine ⟨x, rfl, hx, ?_⟩
  unfold loosePt at hl
  rw [decide_eq_true_eq] at hl
  unfold vP at hl ⊢
  rw [judge_fields (ofL_fields x), judge_fields (ofL_fields x)] at hl
  exact hl

/-! Meeting. -/
def ofV (exc : Bool) (a b : Int) : Int := if a < b then a else if exc then 4 else b
def pairR (exc : Bool) (r s : RuleT) : RuleT := (r.1 ++ s.1, ofV exc r.2 s.2)
def meetRs (exc : Bool) (p q : PolT) : List RuleT := p.1.flatMap (fun r => q.1.map (pairR exc r) ++ [pairR exc r ([], q.2)]) ++ q.1.map (pairR exc ([], p.2))
def meetP (exc : Bool) (p q : PolT) : PolT := (meetRs exc p q, ofV exc p.2 q.2)
def verdO (x : Nat → Int) (d : Int) : List RuleT → Int
  | [] => d
  | r :: s => if ruleOk x r then r.2 else verdO x d s
theorem verdO_first (x : Nat → Int) (d : Int) (rs0 : List RuleT) : ∀ (rs : List RuleT) (k : Nat), rs0.drop k = rs → verdO x d rs = (verdictAt (rs0, d) (firstAt (ruleOk x) k rs)).1
  | [], k, _ => by simp [verdO, firstAt, verdictAt]
  | r :: s, k, h => by
    have hk : rs0[k]? = some r := by
      have : (rs0.drop k)[0]? = some r := by rw [h]; rfl
      simpa using this
    rw [verdO, firstAt]
    by_cases hr : ruleOk x r = true
    · rw [if_pos hr, if_pos hr, verdictAt, if_neg (by omega)]
      simp [hk]
    · rw [if_neg hr, if_neg hr]
      refine verdO_first x d rs0 s (k + 1) ?_
      rw [← List.drop_drop, h]
      rfl
theorem vP_verd {p : PolT} {x : Nat → Int} (hp : polErr p = 0) (hx : chkx x = 0) : vP p x = verdO x p.2 p.1 := by
  unfold vP
  rw [judgeP_ok hp hx]
  exact (verdO_first x p.2 p.1 p.1 0 rfl).symm
theorem ruleOk_pair (x : Nat → Int) (exc : Bool) (r s : RuleT) : ruleOk x (pairR exc r s) = (ruleOk x r && ruleOk x s) := by
  unfold ruleOk pairR
  rw [List.all_append]
theorem verdO_append (x : Nat → Int) (d : Int) : ∀ (l m : List RuleT), verdO x d (l ++ m) = verdO x (verdO x d m) l
  | [], m => rfl
  | r :: l, m => by
    show (if ruleOk x r then r.2 else verdO x d (l ++ m)) = if ruleOk x r then r.2 else verdO x (verdO x d m) l
    rw [verdO_append x d l m]
theorem verdO_no (x : Nat → Int) (d : Int) : ∀ l : List RuleT, (∀ r ∈ l, ruleOk x r = false) → verdO x d l = d
  | [], _ => rfl
  | r :: l, h => by
    rw [verdO, if_neg (by simp [h r (by simp)])]
    exact verdO_no x d l fun s hs => h s (by simp [hs])
/-- One rule of p with all of q. -/
theorem verdO_pairs (x : Nat → Int) (exc : Bool) (r : RuleT) (hr : ruleOk x r = true) (dq d : Int) : ∀ l : List RuleT, verdO x (ofV exc r.2 dq) (l.map (pairR exc r)) = ofV exc r.2 (verdO x dq l)
  | [] => rfl
  | s :: l => by
    rw [List.map_cons, verdO, verdO, ruleOk_pair, hr, Bool.true_and, verdO_pairs x exc r hr dq d l]
    split <;> rfl
theorem verdO_meet (x : Nat → Int) (exc : Bool) (q : PolT) (dp : Int) : ∀ ps : List RuleT, verdO x (ofV exc dp q.2) (meetRs exc (ps, dp) q) = ofV exc (verdO x dp ps) (verdO x q.2 q.1)
  | [] => by
    unfold meetRs
    simp only [List.flatMap_nil, List.nil_append]
    exact verdO_pairs x exc ([], dp) rfl q.2 0 q.1
  | r :: ps => by
    have ih := verdO_meet x exc q dp ps
    unfold meetRs at ih ⊢
    simp only [List.flatMap_cons] at ih ⊢
    rw [List.append_assoc, verdO_append, ih]
    by_cases hr : ruleOk x r = true
    · have e1 : verdO x (ofV exc (verdO x dp ps) (verdO x q.2 q.1)) [pairR exc r ([], q.2)] = ofV exc r.2 q.2 := by
        rw [verdO, ruleOk_pair, hr]
        rfl
      rw [verdO_append, e1, verdO_pairs x exc r hr q.2 0 q.1, verdO, if_pos hr]
    · rw [verdO_no, verdO, if_neg hr]
      intro s hs
      have hr' : ruleOk x r = false := by simpa using hr
      rcases List.mem_append.1 hs with hs | hs
      · obtain ⟨t, _, rfl⟩ := List.mem_map.1 hs
        rw [ruleOk_pair, hr']
        rfl
      · rw [List.mem_singleton] at hs
        subst hs
        rw [ruleOk_pair, hr']
        rfl
/-- Meet says of each call the stricter verdict. -/
theorem vP_meet {p q : PolT} {x : Nat → Int} (exc : Bool) (hp : polErr p = 0) (hq : polErr q = 0) (hm : polErr (meetP exc p q) = 0) (hx : chkx x = 0) : vP (meetP exc p q) x = ofV exc (vP p x) (vP q x) := by
  rw [vP_verd hm hx, vP_verd hp hx, vP_verd hq hx]
  exact verdO_meet x exc q p.2 p.1

end Go.Proofs.YtbjpdmfedphacacGreatDoor
end
section
/- Policies made shorter, as plain data. -/
set_option linter.all false
namespace Go.Proofs.YtbjpdmfedphacacGreatDoor

def keepIdx (p : PolT) (i : Int) : Bool := (pointsP [p]).any fun x => kP p (ofL x) == i
def keepFrom (p : PolT) : Nat → List RuleT → List RuleT
  | _, [] => []
  | k, r :: s => if keepIdx p k then r :: keepFrom p (k + 1) s else keepFrom p (k + 1) s
def cutEnd (d : Int) : List RuleT → List RuleT
  | [] => []
  | r :: s => if cutEnd d s = [] ∧ r.2 = d then [] else r :: cutEnd d s
def shortP (p : PolT) : PolT := (cutEnd p.2 (keepFrom p 0 p.1), p.2)

theorem verdO_cutEnd (x : Nat → Int) (d : Int) : ∀ l : List RuleT, verdO x d (cutEnd d l) = verdO x d l
  | [] => rfl
  | r :: s => by
    have ih := verdO_cutEnd x d s
    unfold cutEnd
    split
    · rename_i h
      rw [h.1] at ih
      show d = if ruleOk x r then r.2 else verdO x d s
      rw [← ih]
      split
      · exact h.2.symm
      · rfl
    · show (if ruleOk x r then r.2 else verdO x d (cutEnd d s)) = if ruleOk x r then r.2 else verdO x d s
      rw [ih]
theorem cutEnd_take (d : Int) : ∀ l : List RuleT, ∃ n, cutEnd d l = l.take n
  | [] => ⟨0, rfl⟩
  | r :: s => by
    obtain ⟨n, h⟩ := cutEnd_take d s
    unfold cutEnd
    split
    · exact ⟨0, rfl⟩
    · exact ⟨n + 1, by rw [h]; rfl⟩
theorem cutEnd_twice (d : Int) : ∀ l : List RuleT, cutEnd d (cutEnd d l) = cutEnd d l
  | [] => rfl
  | r :: s => by
    have ih := cutEnd_twice d s
    by_cases h : cutEnd d s = [] ∧ r.2 = d
    · have : cutEnd d (r :: s) = [] := by show (if cutEnd d s = [] ∧ r.2 = d then [] else r :: cutEnd d s) = []; rw [if_pos h]
      rw [this]
      rfl
    · have e : cutEnd d (r :: s) = r :: cutEnd d s := by show (if cutEnd d s = [] ∧ r.2 = d then [] else r :: cutEnd d s) = _; rw [if_neg h]
      rw [e]
      show (if cutEnd d (cutEnd d s) = [] ∧ r.2 = d then [] else r :: cutEnd d (cutEnd d s)) = _
      rw [ih, if_neg h]
theorem keepFrom_mem (p : PolT) : ∀ (l : List RuleT) (k : Nat), ∀ r ∈ keepFrom p k l, r ∈ l
  | [], _, r, h => by simp [keepFrom] at h
  | s :: l, k, r, h => by
    unfold keepFrom at h
    split at h
    · rcases List.mem_cons.1 h with rfl | h
      · simp
      · simp [keepFrom_mem p l (k + 1) r h]
    · simp [keepFrom_mem p l (k + 1) r h]
theorem keepFrom_len (p : PolT) : ∀ (l : List RuleT) (k : Nat), (keepFrom p k l).length ≤ l.length
  | [], _ => by simp [keepFrom]
  | s :: l, k => by
    have := keepFrom_len p l (k + 1)
    unfold keepFrom
    split <;> simp <;> omega
theorem shortP_mem (p : PolT) : ∀ r ∈ (shortP p).1, r ∈ p.1 := by
  intro r hr
  unfold shortP at hr
  obtain ⟨n, h⟩ := cutEnd_take p.2 (keepFrom p 0 p.1)
  simp only [h] at hr
  exact keepFrom_mem p p.1 0 r (List.mem_of_mem_take hr)
theorem shortP_len (p : PolT) : (shortP p).1.length ≤ p.1.length := by
  unfold shortP
  obtain ⟨n, h⟩ := cutEnd_take p.2 (keepFrom p 0 p.1)
  simp only [h, List.length_take]
  have := keepFrom_len p p.1 0
  omega
theorem shortP_ok {p : PolT} (h : polErr p = 0) : polErr (shortP p) = 0 := by
  obtain ⟨h1, h2, h3⟩ := polErr_ok h
  exact polErr_of (Nat.le_trans (shortP_len p) h1) h2 fun r hr => rulesErr_all h3 r (shortP_mem p r hr)

/-- The rule by which a policy judges a call. -/
theorem kP_ok {p : PolT} {x : Nat → Int} (hp : polErr p = 0) (hx : chkx x = 0) : kP p x = (verdictAt p (firstAt (ruleOk x) 0 p.1)).2 := by
  unfold kP
  rw [judgeP_ok hp hx]
theorem keep_first {p : PolT} {x : Nat → Int} (hp : polErr p = 0) (hx : chkx x = 0) {i : Int} (hi : firstAt (ruleOk x) 0 p.1 = i) (h0 : 0 ≤ i) : keepIdx p i = true := by
  have hok : AllOk [p] := fun q hq => by rw [List.mem_singleton] at hq; subst hq; exact hp
  unfold keepIdx
  rw [List.any_eq_true]
  refine ⟨_, home_point hok hx, ?_⟩
  rw [beq_iff_eq]
  unfold kP
  rw [judge_fields (ofL_fields _), judge_home hok hx (by simp), judgeP_ok hp hx, hi, verdictAt, if_neg (by omega)]
theorem verdO_keep {p : PolT} (x : Nat → Int) (d : Int) : ∀ (l : List RuleT) (k : Nat), (∀ i, firstAt (ruleOk x) k l = i → 0 ≤ i → keepIdx p i = true) → verdO x d (keepFrom p k l) = verdO x d l
  | [], _, _ => rfl
  | r :: s, k, h => by
    unfold keepFrom
    by_cases hr : ruleOk x r = true
    · have := h k (by rw [firstAt, if_pos hr]) (by omega)
      rw [if_pos this, verdO, if_pos hr, verdO, if_pos hr]
    · have ih := verdO_keep (p := p) x d s (k + 1) fun i hi h0 => h i (by rw [firstAt, if_neg hr]; exact hi) h0
      have e : verdO x d (r :: s) = verdO x d s := by rw [verdO, if_neg hr]
      rw [e, ← ih]
      split
      · rw [verdO, if_neg hr]
      · rfl
/-- Short says of each call what the policy says. -/
theorem vP_short {p : PolT} {x : Nat → Int} (hp : polErr p = 0) (hx : chkx x = 0) : vP (shortP p) x = vP p x := by
  rw [vP_verd (shortP_ok hp) hx, vP_verd hp hx]
  show verdO x p.2 (cutEnd p.2 (keepFrom p 0 p.1)) = _
  rw [verdO_cutEnd]
  exact verdO_keep x p.2 p.1 0 fun i hi h0 => keep_first hp hx hi h0

/-! Made shorter again it is the same. -/
theorem cuts_sub {l m : List PolT} (h : ∀ c ∈ polsConds l, c ∈ polsConds m) (f : Int) : ∀ n ∈ cutsP l f, n ∈ cutsP m f := by
  intro n hn
  obtain ⟨h1, h2⟩ := mem_cutsP.1 hn
  refine mem_cutsP.2 ⟨?_, h2⟩
  rcases h1 with h1 | ⟨c, hc, h1⟩
  · exact .inl h1
  · exact .inr ⟨c, h c hc, h1⟩
theorem points_sub {l m : List PolT} (h : ∀ c ∈ polsConds l, c ∈ polsConds m) : (pointsP l).length ≤ (pointsP m).length := by
  have c := fun f => rising_sub _ _ (cutsP_rising l f) (cutsP_rising m f) (cuts_sub h f)
  unfold pointsP cuts5
  simp only [prodL_length]
  exact Nat.mul_le_mul (c 0) (Nat.mul_le_mul (c 1) (Nat.mul_le_mul (c 2) (Nat.mul_le_mul (c 3) (Nat.mul_le_mul (c 4) (Nat.le_refl _)))))
theorem short_points {p : PolT} (h : pointsE [p] = 0) : pointsE [shortP p] = 0 := by
  obtain ⟨h1, h2⟩ := pointsE_ok.1 h
  refine pointsE_ok.2 ⟨fun q hq => ?_, ?_⟩
  · rw [List.mem_singleton] at hq
    subst hq
    exact shortP_ok (h1 p (by simp))
  · refine Nat.le_trans (points_sub fun c hc => ?_) h2
    obtain ⟨q, hq, hc⟩ := List.mem_flatMap.1 hc
    rw [List.mem_singleton] at hq
    subst hq
    obtain ⟨r, hr, hc⟩ := List.mem_flatMap.1 hc
    exact List.mem_flatMap.2 ⟨p, by simp, List.mem_flatMap.2 ⟨r, shortP_mem p r hr, hc⟩⟩
theorem keepFrom_get (p : PolT) : ∀ (l : List RuleT) (k i : Nat) (r : RuleT), (keepFrom p k l)[i]? = some r → ∃ j, l[j]? = some r ∧ keepIdx p ((k + j : Nat) : Int) = true ∧ ∀ i' r', i' < i → (keepFrom p k l)[i']? = some r' → ∃ j', j' < j ∧ l[j']? = some r'
  | [], k, i, r, h => by simp [keepFrom] at h
  | s :: l, k, i, r, h => by
    by_cases hk : keepIdx p k = true
    · have e : keepFrom p k (s :: l) = s :: keepFrom p (k + 1) l := by rw [keepFrom, if_pos hk]
      rw [e] at h ⊢
      cases i with
      | zero =>
        simp at h
        subst h
        exact ⟨0, rfl, by simpa using hk, fun i' r' h => absurd h (by omega)⟩
      | succ i =>
        obtain ⟨j, h1, h2, h3⟩ := keepFrom_get p l (k + 1) i r (by simpa using h)
        refine ⟨j + 1, by simpa using h1, by rw [show k + (j + 1) = k + 1 + j by omega]; exact h2, fun i' r' hi hr => ?_⟩
        cases i' with
        | zero => simp at hr; subst hr; exact ⟨0, by omega, rfl⟩
        | succ i' =>
          obtain ⟨j', h4, h5⟩ := h3 i' r' (by omega) (by simpa using hr)
          exact ⟨j' + 1, by omega, by simpa using h5⟩
    · have e : keepFrom p k (s :: l) = keepFrom p (k + 1) l := by rw [keepFrom, if_neg hk]
      rw [e] at h ⊢
      obtain ⟨j, h1, h2, h3⟩ := keepFrom_get p l (k + 1) i r h
      refine ⟨j + 1, by simpa using h1, by rw [show k + (j + 1) = k + 1 + j by omega]; exact h2, fun i' r' hi hr => ?_⟩
      obtain ⟨j', h4, h5⟩ := h3 i' r' hi hr
      exact ⟨j' + 1, by omega, by simpa using h5⟩
/-- At a point by which a rule is kept, that rule holds and none ahead of it does. -/
theorem keep_point {p : PolT} (hp : polErr p = 0) {j : Nat} {r : RuleT} (hr : p.1[j]? = some r) (h : keepIdx p (j : Int) = true) : ∃ x : Nat → Int, chkx x = 0 ∧ ruleOk x r = true ∧ ∀ j' r', j' < j → p.1[j']? = some r' → ruleOk x r' = false := by
  have hok : AllOk [p] := fun q hq => by rw [List.mem_singleton] at hq; subst hq; exact hp
  unfold keepIdx at h
  rw [List.any_eq_true] at h
  obtain ⟨y, hy, hk⟩ := h
  obtain ⟨x, rfl, hx, _⟩ := point_right hok hy
  rw [beq_iff_eq] at hk
  unfold kP at hk
  rw [judge_fields (ofL_fields x)] at hk
  have hk : kP p x = j := hk
  rw [kP_ok hp hx] at hk
  have hjl := (List.getElem?_eq_some_iff.1 hr).1
  refine ⟨x, hx, ?_⟩
  rcases firstAt_inv (ruleOk x) p.1 0 with ⟨h1, _⟩ | ⟨i, c, h1, h2, h3, h4⟩
  · rw [h1, verdictAt, if_pos (by omega)] at hk
    simp only [] at hk
    omega
  · rw [h1, verdictAt, if_neg (by omega)] at hk
    simp only [] at hk
    obtain rfl : i = j := by omega
    rw [hr] at h2
    cases h2
    exact ⟨h3, fun j' r' hj hr' => h4 j' hj r' hr'⟩
theorem short_keeps {p : PolT} (hp : polErr p = 0) : ∀ (i : Nat) (r : RuleT), (shortP p).1[i]? = some r → keepIdx (shortP p) i = true := by
  intro i r hr
  have hs := shortP_ok hp
  obtain ⟨n, hn⟩ := cutEnd_take p.2 (keepFrom p 0 p.1)
  have e : (shortP p).1 = (keepFrom p 0 p.1).take n := hn
  have get : ∀ (i : Nat) (r : RuleT), (shortP p).1[i]? = some r → (keepFrom p 0 p.1)[i]? = some r := fun i r h => by
    rw [e] at h
    rw [List.getElem?_take] at h
    split at h
    · exact h
    · cases h
  obtain ⟨j, h1, h2, h3⟩ := keepFrom_get p p.1 0 i r (get i r hr)
  rw [Nat.zero_add] at h2
  obtain ⟨x, hx, hh, hno⟩ := keep_point hp h1 h2
  have hf := firstAt_eq (ruleOk x) _ 0 i r hr hh fun i' hi' r' hr' => by
    obtain ⟨j', hj', hr''⟩ := h3 i' r' hi' (get i' r' hr')
    exact hno j' r' hj' hr''
  rw [Nat.zero_add] at hf
  exact keep_first hs hx hf (by omega)
theorem keepFrom_all (p : PolT) : ∀ (l : List RuleT) (k : Nat), (∀ i r, l[i]? = some r → keepIdx p ((k + i : Nat) : Int) = true) → keepFrom p k l = l
  | [], _, _ => rfl
  | r :: l, k, h => by
    rw [keepFrom, if_pos (by simpa using h 0 r rfl), keepFrom_all p l (k + 1) fun i s hs => by
      have := h (i + 1) s (by simpa using hs)
      rw [show k + 1 + i = k + (i + 1) by omega]
      exact this]
theorem short_twice {p : PolT} (hp : polErr p = 0) : shortP (shortP p) = shortP p := by
  have h : keepFrom (shortP p) 0 (shortP p).1 = (shortP p).1 := keepFrom_all _ _ 0 fun i r hr => by
    rw [Nat.zero_add]
    exact short_keeps hp i r hr
  have : shortP (shortP p) = (cutEnd p.2 (keepFrom (shortP p) 0 (shortP p).1), p.2) := rfl
  rw [this, h]
  show (cutEnd p.2 (cutEnd p.2 (keepFrom p 0 p.1)), p.2) = _
  rw [cutEnd_twice]
  rfl

end Go.Proofs.YtbjpdmfedphacacGreatDoor
end
section
/- What package meet answers: plain data. -/
set_option linter.all false
namespace Go.Proofs.YtbjpdmfedphacacGreatDoor

def meetE (exc : Bool) (p q : PolT) : Int := if polsErr [p, q] = 0 then polErr (meetP exc p q) else polsErr [p, q]
def meetR (exc : Bool) (p q : PolT) : PolT := if meetE exc p q = 0 then meetP exc p q else ([], 0)
theorem polsErr_two {p q : PolT} (h : polsErr [p, q] = 0) : polErr p = 0 ∧ polErr q = 0 := by
  have := polsErr_ok.1 h
  exact ⟨this p (by simp), this q (by simp)⟩
/-- The rules of both, as they are made: those of the first i rules of p. -/
def meetI (exc : Bool) (p q : PolT) (i : Nat) : List RuleT := (p.1.take i).flatMap fun r => q.1.map (pairR exc r) ++ [pairR exc r ([], q.2)]
theorem meetI_succ (exc : Bool) (p q : PolT) (i : Nat) (r : RuleT) (h : p.1[i]? = some r) : meetI exc p q (i + 1) = meetI exc p q i ++ q.1.map (pairR exc r) ++ [pairR exc r ([], q.2)] := by
  unfold meetI
  rw [List.take_succ, h]
  simp
theorem meetI_all (exc : Bool) (p q : PolT) : meetRs exc p q = meetI exc p q p.1.length ++ q.1.map (pairR exc ([], p.2)) := by
  unfold meetI meetRs
  rw [List.take_length]
theorem meetI_len (exc : Bool) (p q : PolT) : ∀ i, (meetI exc p q i).length ≤ i * (q.1.length + 1)
  | 0 => by simp [meetI]
  | i + 1 => by
    have ih := meetI_len exc p q i
    rw [Nat.add_mul, Nat.one_mul]
    by_cases h : i < p.1.length
    · obtain ⟨r, hr⟩ : ∃ r, p.1[i]? = some r := ⟨p.1[i], by simp [h]⟩
      rw [meetI_succ exc p q i r hr]
      simp
      omega
    · have e : meetI exc p q (i + 1) = meetI exc p q i := by
        unfold meetI
        rw [List.take_of_length_le (by omega), List.take_of_length_le (by omega)]
      rw [e]
      omega
theorem map_take_rule (g : RuleT → RuleT) (l : List RuleT) (j : Nat) (r : RuleT) (h : l[j]? = some r) : (l.take (j + 1)).map g = (l.take j).map g ++ [g r] := by
  rw [List.take_succ, h]
  simp

end Go.Proofs.YtbjpdmfedphacacGreatDoor
end
section
/- A region that draws its order, whose callees may make memory, and whose last operation, which may write, waits for all: one walk of the text's order serves every order. -/
set_option linter.all false
namespace Go.Proofs.YtbjpdmfedphacacGreatDoor
open Go.RowKit

section
variable {P : Program} {ops : Array Oper} {md : Region.Mode} {C : World → Prop} {n : Nat} {B : Act → Prop} {on : Oper}

def wpAnyL (P : Program) (md : Region.Mode) (ops : Array Oper) (C : World → Prop) (n : Nat) (B : Act → Prop) : Nat → Array Bool → Act → Prop
  | 0, listed, a => Region.ready md ops listed = [n] ∧ Region.ready md ops (listed.setIfInBounds n true) = [] ∧ B a
  | fuel + 1, listed, a => Region.ready md ops listed ≠ [] ∧ ∀ i ∈ Region.ready md ops listed, qOp P ops C i (wpAnyL P md ops C n B fuel (listed.setIfInBounds i true)) a

theorem wpAny_of_L {Q : Exit → Act → World → Prop} (hB : ∀ a w, C w → B a → wpOp P ops Q n (fun a' w' => Q .normal a' w') a w) :
    ∀ (fuel : Nat) (listed : Array Bool) (a : Act) (w : World), C w → wpAnyL P md ops C n B fuel listed a → wpAny P md ops Q (fuel + 1) listed a w
  | 0, listed, a, w, hw, h => by
    obtain ⟨h1, h2, h3⟩ := h
    refine ⟨fun h0 => (by rw [h1] at h0; cases h0), fun i hi => ?_⟩
    rw [h1, List.mem_singleton] at hi
    subst hi
    have := hB a w hw h3
    unfold wpOp at this ⊢
    split at this
    · rename_i ho; simp only [ho]; exact ⟨h2, this⟩
    · rename_i o ho
      simp only [ho]
      split
      · rename_i hwa
        simp only [hwa, if_true] at this
        exact this.imp (Oper.wp_mono fun a' w' hq => ⟨h2, hq⟩) (fun h => h)
      · rename_i hwa
        simp only [hwa] at this
        exact ⟨h2, this⟩
  | fuel + 1, listed, a, w, hw, h =>
    ⟨fun h0 => absurd h0 h.1, fun i hi => wpOp_of_qOp hw (fun a' w' hw' hk => wpAny_of_L hB fuel _ a' w' hw' hk) (h.2 i hi)⟩

theorem wpAnyL_first (hn : ops[n]? = some on) {i : Nat} {oi : Oper} {v : Value} (hi : ops[i]? = some oi) (hni : waitsFor md on i) (hsel : ∀ (j : Nat) (o : Oper) cs b, ops[j]? = some o → o.op ≠ .select cs b) :
    ∀ (fuel : Nat) (listed : Array Bool) (a : Act),
      (∀ j oj, ops[j]? = some oj → j ≠ i → listed.getD j true = false → (∀ e ∈ oj.after, Region.binds md e = true → e.on ≠ i) → oi.apart ops oj = true) →
      i ∈ Region.ready md ops listed → YieldsIn P ops C oi v a →
      wpAnyL P md ops C n B fuel (listed.setIfInBounds i true) (a.put oi.dst v) → wpAnyL P md ops C n B (fuel + 1) listed a := by
  intro fuel
  induction fuel with
  | zero =>
    intro listed a _ hr hy H
    refine ⟨fun h => (by rw [h] at hr; cases hr), fun j hj => ?_⟩
    by_cases hji : j = i
    · subst hji; exact hy.qOp hi H
    · have := ready_mono hj hji
      rw [H.1, List.mem_singleton] at this
      subst this
      exact (not_ready_of_waits hn hni hr hj).elim
  | succ fuel ih =>
    intro listed a hfree hr hy H
    refine ⟨fun h => (by rw [h] at hr; cases hr), fun j hj => ?_⟩
    by_cases hji : j = i
    · subst hji; exact hy.qOp hi H
    · have h1 := H.2 j (ready_mono hj hji)
      obtain ⟨hjun, oj, hoj, hall⟩ := mem_ready.1 hj
      have hnot : ∀ e ∈ oj.after, Region.binds md e = true → e.on ≠ i := fun e he hb heq => not_ready_of_waits hoj ⟨e, he, hb, heq⟩ hr hj
      have h2 := qOp_put hoj (hfree j oj hoj hji hjun hnot) (fun cs b => hsel i oi cs b hi) (fun cs b => hsel j oj cs b hoj) hy h1
      have hfree' : ∀ k ok, ops[k]? = some ok → k ≠ i → (listed.setIfInBounds j true).getD k true = false →
          (∀ e ∈ ok.after, Region.binds md e = true → e.on ≠ i) → oi.apart ops ok = true := fun k ok hk hki hun hno => by
        refine hfree k ok hk hki ?_ hno
        by_cases hjk : j = k
        · subst hjk; exact hjun
        · rw [getD_set_ne true hjk] at hun; exact hun
      refine qOp_mono (fun a' h3 => ih (listed.setIfInBounds j true) a' hfree' (ready_mono hr (Ne.symm hji)) h3.1 ?_) h2
      rw [Array.setIfInBounds_comm _ _ hji]
      exact h3.2

theorem wpAnyL_lex (hn : ops[n]? = some on) (hsz : n = ops.size - 1) (hs : Region.noSelect ops = true) : ∀ (l : List Oper) (k : Nat) (listed : Array Bool) (a : Act), (∀ j, j < l.length → l[j]? = ops[k + j]?) → k + l.length = n →
    lexT md ops (fun _ => false) l.length k listed = true → wpQuiet P ops C B l a → wpAnyL P md ops C n B l.length listed a
  | [], k, listed, a, _, hk, hB, h => by
    simp only [List.length_nil, lexT, Bool.and_eq_true, beq_iff_eq, List.isEmpty_iff] at hB
    simp at hk
    subst hk
    exact ⟨hB.1, hB.2, h⟩
  | o :: l, k, listed, a, hl, hk, hB, h => by
    have h0 : ops[k]? = some o := by simpa using (hl 0 (by simp)).symm
    simp only [List.length_cons, lexT, Bool.and_eq_true] at hB
    obtain ⟨⟨⟨⟨hr, hf⟩, hwb⟩, hlast⟩, hB'⟩ := hB
    rw [← hsz, hn] at hlast
    have hni : waitsFor md on k := waitsB_spec hlast
    have hl' : ∀ j, j < l.length → l[j]? = ops[k + 1 + j]? := fun j hj => by have := hl (j + 1) (by simp; omega); simpa [Nat.add_assoc, Nat.add_comm 1 j] using this
    have hst : qOp P ops C k (wpQuiet P ops C B l) a := by unfold qOp; simp only [h0]; exact h
    obtain ⟨v, hy, hK⟩ := yieldsIn_of_qOp h0 hst
    exact wpAnyL_first hn h0 hni (Region.noSelect_spec hs) l.length listed a (Region.free_spec h0 hf) (by simpa using hr) hy
      (wpAnyL_lex hn hsz hs l (k + 1) _ _ hl' (by simp at hk; omega) hB' hK)

theorem wp_region_quiet_last {id : Nat} {Q : Exit → Act → World → Prop} {a : Act} {w : World} {full : List Oper} (l : List Oper) (last : Oper) (hf : full = l ++ [last]) (C : World → Prop) (hm : P.follows .mixedOrders = true) (hB : stagedB full.toArray (fun _ => false) = true) (hC : C w.drew)
    (h : wpQuiet P full.toArray C (fun a' => ∀ w', C w' → wpList P full.toArray Q [last] a' w') l a) : (Code.region id full.toArray true).wp P Q a w := by
  subst hf
  simp only [stagedB, Bool.and_eq_true] at hB
  have hsz : (l ++ [last]).toArray.size - 1 = l.length := by simp
  have hn : (l ++ [last]).toArray[l.length]? = some last := by simp
  rw [hsz] at hB
  have h1 := wpAnyL_lex (n := l.length) (md := .any) hn hsz.symm hB.1 l 0 (Array.replicate (l ++ [last]).toArray.size false) a (fun j hj => by simp [List.getElem?_append_left hj]) (by simp) hB.2 h
  refine wp_region_any hm ?_
  have h2 := wpAny_of_L (Q := Q) (fun a w hw hb => ?_) l.length _ a { w with drawn := w.drawn + 1 } hC h1
  · simpa using h2
  · have := hb w hw
    unfold wpList at this
    unfold wpOp
    rw [hn]
    simp only []
    split at this
    · rename_i hwa; simp only [hwa, if_true]; exact this.imp (Oper.wp_mono fun a' w' hq => by simpa [wpList] using hq) (fun h => h)
    · rename_i hwa; simp only [hwa]; simpa [wpList] using this

/-- The class of all later worlds; the last operation in whatever later world. -/
theorem wp_region_later_last {id : Nat} {Q : Exit → Act → World → Prop} {a : Act} {w : World} {full : List Oper} (l : List Oper) (last : Oper) (hf : full = l ++ [last]) (hm : P.follows .mixedOrders = true) (hB : stagedB full.toArray (fun _ => false) = true)
    (h : wpQuiet P full.toArray (fun w' => ∃ x : Later w, w' = x.1) (fun a' => ∀ w', (∃ x : Later w, w' = x.1) → wpList P full.toArray Q [last] a' w') l a) : (Code.region id full.toArray true).wp P Q a w :=
  wp_region_quiet_last l last hf _ hm hB ⟨⟨w.drew, (Below.refl _ _).drew⟩, rfl⟩ h
end
end Go.Proofs.YtbjpdmfedphacacGreatDoor
end
