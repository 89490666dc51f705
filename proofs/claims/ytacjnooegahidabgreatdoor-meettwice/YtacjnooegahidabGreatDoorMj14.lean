/- Joined: Sht0 Met0 Pols PolsN. -/
import Derived.Test.YtacjnooegahidabGreatDoorMj08
import Derived.Test.YtacjnooegahidabGreatDoorMj10
section
/- Policies made shorter, as plain data. -/
set_option linter.all false
namespace Go.Proofs.YtacjnooegahidabGreatDoor

def keepIdx (p : PolT) (i : Int) : Bool := (pointsP [p]).any fun x => kP p (ofL x) == i
def keepFrom (p : PolT) : Nat → List RuleT → List RuleT
  | _, [] => []
  | k, r :: s => if keepIdx p k then r :: keepFrom p (k + 1) s else keepFrom p (k + 1) s
def cutEnd (d : Int) : List RuleT → List RuleT
  | [] => []
  | r :: s => if cutEnd d s = [] ∧ r.2 = d then [] else r :: cutEnd d s
def shortP (p : PolT) : PolT := (cutEnd p.2 (keepFrom p 0 p.1), p.2)

theorem verdO_cutEnd (x : Nat → Int) (d : Int) : ∀ l : List RuleT, verdO x d (cutEnd d l) = verdO x d l
  | [] => rfl
  | r :: s => by
    have ih := verdO_cutEnd x d s
    unfold cutEnd
    split
    · rename_i h
      rw [h.1] at ih
      show d = if ruleOk x r then r.2 else verdO x d s
      rw [← ih]
      split
      · exact h.2.symm
      · rfl
    · show (if ruleOk x r then r.2 else verdO x d (cutEnd d s)) = if ruleOk x r then r.2 else verdO x d s
      rw [ih]
theorem cutEnd_take (d : Int) : ∀ l : List RuleT, ∃ n, cutEnd d l = l.take n
  | [] => ⟨0, rfl⟩
  | r :: s => by
    obtain ⟨n, h⟩ := cutEnd_take d s
    unfold cutEnd
    split
    · exact ⟨0, rfl⟩
    · exact ⟨n + 1, by rw [h]; rfl⟩
theorem cutEnd_twice (d : Int) : ∀ l : List RuleT, cutEnd d (cutEnd d l) = cutEnd d l
  | [] => rfl
  | r :: s => by
    have ih := cutEnd_twice d s
    by_cases h : cutEnd d s = [] ∧ r.2 = d
    · have : cutEnd d (r :: s) = [] := by show (if cutEnd d s = [] ∧ r.2 = d then [] else r :: cutEnd d s) = []; rw [if_pos h]
      rw [this]
      rfl
    · have e : cutEnd d (r :: s) = r :: cutEnd d s := by show (if cutEnd d s = [] ∧ r.2 = d then [] else r :: cutEnd d s) = _; rw [if_neg h]
      rw [e]
      show (if cutEnd d (cutEnd d s) = [] ∧ r.2 = d then [] else r :: cutEnd d (cutEnd d s)) = _
      rw [ih, if_neg h]
theorem keepFrom_mem (p : PolT) : ∀ (l : List RuleT) (k : Nat), ∀ r ∈ keepFrom p k l, r ∈ l
  | [], _, r, h => by simp [keepFrom] at h
  | s :: l, k, r, h => by
    unfold keepFrom at h
    split at h
    · rcases List.mem_cons.1 h with rfl | h
      · simp
      · simp [keepFrom_mem p l (k + 1) r h]
    · simp [keepFrom_mem p l (k + 1) r h]
theorem keepFrom_len (p : PolT) : ∀ (l : List RuleT) (k : Nat), (keepFrom p k l).length ≤ l.length
  | [], _ => by simp [keepFrom]
  | s :: l, k => by
    have := keepFrom_len p l (k + 1)
    unfold keepFrom
    split <;> simp <;> omega
theorem shortP_mem (p : PolT) : ∀ r ∈ (shortP p).1, r ∈ p.1 := by
  intro r hr
  unfold shortP at hr
  obtain ⟨n, h⟩ := cutEnd_take p.2 (keepFrom p 0 p.1)
  simp only [h] at hr
  exact keepFrom_mem p p.1 0 r (List.mem_of_mem_take hr)
theorem shortP_len (p : PolT) : (shortP p).1.length ≤ p.1.length := by
  unfold shortP
  obtain ⟨n, h⟩ := cutEnd_take p.2 (keepFrom p 0 p.1)
  simp only [h, List.length_take]
  have := keepFrom_len p p.1 0
  omega
theorem shortP_ok {p : PolT} (h : polErr p = 0) : polErr (shortP p) = 0 := by
  obtain ⟨h1, h2, h3⟩ := polErr_ok h
  exact polErr_of (Nat.le_trans (shortP_len p) h1) h2 fun r hr => rulesErr_all h3 r (shortP_mem p r hr)

/-- The rule by which a policy judges a call. -/
theorem kP_ok {p : PolT} {x : Nat → Int} (hp : polErr p = 0) (hx : chkx x = 0) : kP p x = (verdictAt p (firstAt (ruleOk x) 0 p.1)).2 := by
  unfold kP
  rw [judgeP_ok hp hx]
theorem keep_first {p : PolT} {x : Nat → Int} (hp : polErr p = 0) (hx : chkx x = 0) {i : Int} (hi : firstAt (ruleOk x) 0 p.1 = i) (h0 : 0 ≤ i) : keepIdx p i = true := by
  have hok : AllOk [p] := fun q hq => by rw [List.mem_singleton] at hq; subst hq; exact hp
  unfold keepIdx
  rw [List.any_eq_true]
  refine ⟨_, home_point hok hx, ?_⟩
  rw [beq_iff_eq]
  unfold kP
  rw [judge_fields (ofL_fields _), judge_home hok hx (by simp), judgeP_ok hp hx, hi, verdictAt, if_neg (by omega)]
theorem verdO_keep {p : PolT} (x : Nat → Int) (d : Int) : ∀ (l : List RuleT) (k : Nat), (∀ i, firstAt (ruleOk x) k l = i → 0 ≤ i → keepIdx p i = true) → verdO x d (keepFrom p k l) = verdO x d l
  | [], _, _ => rfl
  | r :: s, k, h => by
    unfold keepFrom
    by_cases hr : ruleOk x r = true
    · have := h k (by rw [firstAt, if_pos hr]) (by omega)
      rw [if_pos this, verdO, if_pos hr, verdO, if_pos hr]
    · have ih := verdO_keep (p := p) x d s (k + 1) fun i hi h0 => h i (by rw [firstAt, if_neg hr]; exact hi) h0
      have e : verdO x d (r :: s) = verdO x d s := by rw [verdO, if_neg hr]
      rw [e, ← ih]
      split
      · rw [verdO, if_neg hr]
      · rfl
/-- Short says of each call what the policy says. -/
theorem vP_short {p : PolT} {x : Nat → Int} (hp : polErr p = 0) (hx : chkx x = 0) : vP (shortP p) x = vP p x := by
  rw [vP_verd (shortP_ok hp) hx, vP_verd hp hx]
  show verdO x p.2 (cutEnd p.2 (keepFrom p 0 p.1)) = _
  rw [verdO_cutEnd]
  exact verdO_keep x p.2 p.1 0 fun i hi h0 => keep_first hp hx hi h0

/-! Made shorter again it is the same. -/
theorem cuts_sub {l m : List PolT} (h : ∀ c ∈ polsConds l, c ∈ polsConds m) (f : Int) : ∀ n ∈ cutsP l f, n ∈ cutsP m f := by
  intro n hn
  obtain ⟨h1, h2⟩ := mem_cutsP.1 hn
  refine mem_cutsP.2 ⟨?_, h2⟩
  rcases h1 with h1 | ⟨c, hc, h1⟩
  · exact .inl h1
  · exact .inr ⟨c, h c hc, h1⟩
theorem points_sub {l m : List PolT} (h : ∀ c ∈ polsConds l, c ∈ polsConds m) : (pointsP l).length ≤ (pointsP m).length := by
  have c := fun f => rising_sub _ _ (cutsP_rising l f) (cutsP_rising m f) (cuts_sub h f)
  unfold pointsP cuts5
  simp only [prodL_length]
  exact Nat.mul_le_mul (c 0) (Nat.mul_le_mul (c 1) (Nat.mul_le_mul (c 2) (Nat.mul_le_mul (c 3) (Nat.mul_le_mul (c 4) (Nat.le_refl _)))))
theorem short_points {p : PolT} (h : pointsE [p] = 0) : pointsE [shortP p] = 0 := by
  obtain ⟨h1, h2⟩ := pointsE_ok.1 h
  refine pointsE_ok.2 ⟨fun q hq => ?_, ?_⟩
  · rw [List.mem_singleton] at hq
    subst hq
    exact shortP_ok (h1 p (by simp))
  · refine Nat.le_trans (points_sub fun c hc => ?_) h2
    obtain ⟨q, hq, hc⟩ := List.mem_flatMap.1 hc
    rw [List.mem_singleton] at hq
    subst hq
    obtain ⟨r, hr, hc⟩ := List.mem_flatMap.1 hc
    exact List.mem_flatMap.2 ⟨p, by simp, List.mem_flatMap.2 ⟨r, shortP_mem p r hr, hc⟩⟩
theorem keepFrom_get (p : PolT) : ∀ (l : List RuleT) (k i : Nat) (r : RuleT), (keepFrom p k l)[i]? = some r → ∃ j, l[j]? = some r ∧ keepIdx p ((k + j : Nat) : Int) = true ∧ ∀ i' r', i' < i → (keepFrom p k l)[i']? = some r' → ∃ j', j' < j ∧ l[j']? = some r'
  | [], k, i, r, h => by simp [keepFrom] at h
  | s :: l, k, i, r, h => by
    by_cases hk : keepIdx p k = true
    · have e : keepFrom p k (s :: l) = s :: keepFrom p (k + 1) l := by rw [keepFrom, if_pos hk]
      rw [e] at h ⊢
      cases i with
      | zero =>
        simp at h
        subst h
        exact ⟨0, rfl, by simpa using hk, fun i' r' h => absurd h (by omega)⟩
      | succ i =>
        obtain ⟨j, h1, h2, h3⟩ := keepFrom_get p l (k + 1) i r (by simpa using h)
        refine ⟨j + 1, by simpa using h1, by rw [show k + (j + 1) = k + 1 + j by omega]; exact h2, fun i' r' hi hr => ?_⟩
        cases i' with
        | zero => simp at hr; subst hr; exact ⟨0, by omega, rfl⟩
        | succ i' =>
          obtain ⟨j', h4, h5⟩ := h3 i' r' (by omega) (by simpa using hr)
          exact ⟨j' + 1, by omega, by simpa using h5⟩
    · have e : keepFrom p k (s :: l) = keepFrom p (k + 1) l := by rw [keepFrom, if_neg hk]
      rw [e] at h ⊢
      obtain ⟨j, h1, h2, h3⟩ := keepFrom_get p l (k + 1) i r h
      refine ⟨j + 1, by simpa using h1, by rw [show k + (j + 1) = k + 1 + j by omega]; exact h2, fun i' r' hi hr => ?_⟩
      obtain ⟨j', h4, h5⟩ := h3 i' r' hi hr
      exact ⟨j' + 1, by omega, by simpa using h5⟩
/-- At a point by which a rule is kept, that rule holds and none ahead of it does. -/
theorem keep_point {p : PolT} (hp : polErr p = 0) {j : Nat} {r : RuleT} (hr : p.1[j]? = some r) (h : keepIdx p (j : Int) = true) : ∃ x : Nat → Int, chkx x = 0 ∧ ruleOk x r = true ∧ ∀ j' r', j' < j → p.1[j']? = some r' → ruleOk x r' = false := by
  have hok : AllOk [p] := fun q hq => by rw [List.mem_singleton] at hq; subst hq; exact hp
  unfold keepIdx at h
  rw [List.any_eq_true] at h
  obtain ⟨y, hy, hk⟩ := h
  obtain ⟨x, rfl, hx, _⟩ := point_right hok hy
  rw [beq_iff_eq] at hk
  unfold kP at hk
  rw [judge_fields (ofL_fields x)] at hk
  have hk : kP p x = j := hk
  rw [kP_ok hp hx] at hk
  have hjl := (List.getElem?_eq_some_iff.1 hr).1
  refine ⟨x, hx, ?_⟩
  rcases firstAt_inv (ruleOk x) p.1 0 with ⟨h1, _⟩ | ⟨i, c, h1, h2, h3, h4⟩
  · rw [h1, verdictAt, if_pos (by omega)] at hk
    simp only [] at hk
    omega
  · rw [h1, verdictAt, if_neg (by omega)] at hk
    simp only [] at hk
    obtain rfl : i = j := by omega
    rw [hr] at h2
    cases h2
    exact ⟨h3, fun j' r' hj hr' => h4 j' hj r' hr'⟩
theorem short_keeps {p : PolT} (hp : polErr p = 0) : ∀ (i : Nat) (r : RuleT), (shortP p).1[i]? = some r → keepIdx (shortP p) i = true := by
  intro i r hr
  have hs := shortP_ok hp
  obtain ⟨n, hn⟩ := cutEnd_take p.2 (keepFrom p 0 p.1)
  have e : (shortP p).1 = (keepFrom p 0 p.1).take n := hn
  have get : ∀ (i : Nat) (r : RuleT), (shortP p).1[i]? = some r → (keepFrom p 0 p.1)[i]? = some r := fun i r h => by
    rw [e] at h
    rw [List.getElem?_take] at h
    split at h
    · exact h
    · cases h
  obtain ⟨j, h1, h2, h3⟩ := keepFrom_get p p.1 0 i r (get i r hr)
  rw [Nat.zero_add] at h2
  obtain ⟨x, hx, hh, hno⟩ := keep_point hp h1 h2
  have hf := firstAt_eq (ruleOk x) _ 0 i r hr hh fun i' hi' r' hr' => by
    obtain ⟨j', hj', hr''⟩ := h3 i' r' hi' (get i' r' hr')
    exact hno j' r' hj' hr''
  rw [Nat.zero_add] at hf
  exact keep_first hs hx hf (by omega)
theorem keepFrom_all (p : PolT) : ∀ (l : List RuleT) (k : Nat), (∀ i r, l[i]? = some r → keepIdx p ((k + i : Nat) : Int) = true) → keepFrom p k l = l
  | [], _, _ => rfl
  | r :: l, k, h => by
    rw [keepFrom, if_pos (by simpa using h 0 r rfl), keepFrom_all p l (k + 1) fun i s hs => by
      have := h (i + 1) s (by simpa using hs)
      rw [show k + 1 + i = k + (i + 1) by omega]
      exact this]
theorem short_twice {p : PolT} (hp : polErr p = 0) : shortP (shortP p) = shortP p := by
  have h : keepFrom (shortP p) 0 (shortP p).1 = (shortP p).1 := keepFrom_all _ _ 0 fun i r hr => by
    rw [Nat.zero_add]
    exact short_keeps hp i r hr
  have : shortP (shortP p) = (cutEnd p.2 (keepFrom (shortP p) 0 (shortP p).1), p.2) := rfl
  rw [this, h]
  show (cutEnd p.2 (cutEnd p.2 (keepFrom p 0 p.1)), p.2) = _
  rw [cutEnd_twice]
  rfl

end Go.Proofs.YtacjnooegahidabGreatDoor
end
section
/- What package meet answers: plain data. -/
set_option linter.all false
namespace Go.Proofs.YtacjnooegahidabGreatDoor

def meetE (exc : Bool) (p q : PolT) : Int := if polsErr [p, q] = 0 then polErr (meetP exc p q) else polsErr [p, q]
def meetR (exc : Bool) (p q : PolT) : PolT := if meetE exc p q = 0 then meetP exc p q else ([], 0)
theorem polsErr_two {p q : PolT} (h : polsErr [p, q] = 0) : polErr p = 0 ∧ polErr q = 0 := by
  have := polsErr_ok.1 h
  exact ⟨this p (by simp), this q (by simp)⟩
/-- The rules of both, as they are made: those of the first i rules of p. -/
def meetI (exc : Bool) (p q : PolT) (i : Nat) : List RuleT := (p.1.take i).flatMap fun r => q.1.map (pairR exc r) ++ [pairR exc r ([], q.2)]
theorem meetI_succ (exc : Bool) (p q : PolT) (i : Nat) (r : RuleT) (h : p.1[i]? = some r) : meetI exc p q (i + 1) = meetI exc p q i ++ q.1.map (pairR exc r) ++ [pairR exc r ([], q.2)] := by
  unfold meetI
  rw [List.take_succ, h]
  simp
theorem meetI_all (exc : Bool) (p q : PolT) : meetRs exc p q = meetI exc p q p.1.length ++ q.1.map (pairR exc ([], p.2)) := by
  unfold meetI meetRs
  rw [List.take_length]
theorem meetI_len (exc : Bool) (p q : PolT) : ∀ i, (meetI exc p q i).length ≤ i * (q.1.length + 1)
  | 0 => by simp [meetI]
  | i + 1 => by
    have ih := meetI_len exc p q i
    rw [Nat.add_mul, Nat.one_mul]
    by_cases h : i < p.1.length
    · obtain ⟨r, hr⟩ : ∃ r, p.1[i]? = some r := ⟨p.1[i], by simp [h]⟩
      rw [meetI_succ exc p q i r hr]
      simp
      omega
    · have e : meetI exc p q (i + 1) = meetI exc p q i := by
        unfold meetI
        rw [List.take_of_length_le (by omega), List.take_of_length_le (by omega)]
      rw [e]
      omega
theorem map_take_rule (g : RuleT → RuleT) (l : List RuleT) (j : Nat) (r : RuleT) (h : l[j]? = some r) : (l.take (j + 1)).map g = (l.take j).map g ++ [g r] := by
  rw [List.take_succ, h]
  simp

end Go.Proofs.YtacjnooegahidabGreatDoor
end
section
/- Several policies in memory; what the counterpart's CheckAll says of them. -/
set_option linter.all false
set_option maxRecDepth 100000
namespace Go.Proofs.YtacjnooegahidabGreatDoor
open Go.RowKit Go.Maps

/-- A policy in two cells. -/
def PolC (B : Nat) (w : World) (b o : Nat) (p : PolT) : Prop := ∃ rv, w.cell? ⟨b, o, none⟩ = some rv ∧ w.cell? ⟨b, o + 1, none⟩ = some (.int .i64 p.2) ∧ wf p.2 ∧ RulesAt B w rv p.1
def PolsAt (B : Nat) (w : World) (v : Value) (ps : List PolT) : Prop :=
  ∃ a cap, v = .slice a ps.length cap ∧ ps.length ≤ cap ∧ cap ≤ maxLen ∧ ∀ (i : Nat) p, ps[i]? = some p → ∃ b o, a = some ⟨b, o, none⟩ ∧ b < B ∧ PolC B w b (o + i * 2) p
theorem PolC.later {B B' : Nat} {w w' : World} {b o : Nat} {p : PolT} (h : PolC B w b o p) (hb : Below B' w w') (hB : B ≤ B') (hl : b < B) : PolC B w' b o p := by
  obtain ⟨rv, h1, h2, h3, h4⟩ := h
  exact ⟨rv, (hb.cell (p := ⟨b, o, none⟩) (by show b < B'; omega)).trans h1, (hb.cell (p := ⟨b, o + 1, none⟩) (by show b < B'; omega)).trans h2, h3, h4.later hb hB⟩
theorem PolsAt.later {B B' : Nat} {w w' : World} {v : Value} {ps : List PolT} (h : PolsAt B w v ps) (hb : Below B' w w') (hB : B ≤ B') : PolsAt B w' v ps := by
  obtain ⟨a, cap, h1, h2, h3, h4⟩ := h
  refine ⟨a, cap, h1, h2, h3, fun i c hc => ?_⟩
  obtain ⟨b, o, e, hl, k⟩ := h4 i c hc
  exact ⟨b, o, e, hl, k.later hb hB hl⟩
theorem PolC.pol {B : Nat} {w : World} {b o : Nat} {p : PolT} (h : PolC B w b o p) : ∃ a n cap, w.cell? ⟨b, o, none⟩ = some (.slice a n cap) ∧ w.cell? ⟨b, o + 1, none⟩ = some (.int .i64 p.2) ∧ PolAt B w (.agg #[.slice a n cap, .int .i64 p.2]) p := by
  obtain ⟨rv, h1, h2, h3, h4⟩ := h
  obtain ⟨a, cap, rfl, h5⟩ := h4
  exact ⟨a, _, cap, h1, h2, _, rfl, h3, a, cap, rfl, h5⟩

theorem polsErr_drop (ps : List PolT) (k : Nat) (p : PolT) (h : ps[k]? = some p) : polsErr (ps.drop k) = if polErr p = 0 then polsErr (ps.drop (k + 1)) else polErr p := by
  obtain ⟨hk, rfl⟩ := List.getElem?_eq_some_iff.1 h
  rw [List.drop_eq_getElem_cons hk]
  rfl

set_option maxHeartbeats 2000000 in
theorem checkAll_any (B : Nat) (lv : Value) (ps : List PolT) (w : World) (hl : PolsAt B w lv ps) (hB : B ≤ w.heap.size) :
    Calls Tryz.prog 61 #[lv] w fun e w' => e = .returned (.int .i64 (polsErr ps)) ∧ Below w.heap.size w w' := by
  have HL : Hid (∀ w', Below w.heap.size w w' → PolsAt B w' lv ps) := fun w' h => hl.later h hB
  obtain ⟨a, cap, rfl, hlc, hcm, -⟩ := hl
  have hml := maxLen_eq
  generalize hlen : ps.length = len at *
  have hlenH : Hid (ps.length = len) := hlen
  clear hlen
  go_enter Tryz.func61, Tryz.ntmps61
  go_wp2
  go_loopw [8] (fun iv wr => ∃ k : Nat, k ≤ len ∧ iv = .int .i64 k ∧ Hid (polsErr ps = polsErr (ps.drop k)) ∧ Below w.heap.size w wr) (fun iv _ => len - (intOf iv).toNat)
  case atStart => exact ⟨0, by omega, rfl, rfl, Below.refl _ _⟩
  case round =>
    obtain ⟨k, hk, rfl, H, hbr⟩ := hrel
    obtain ⟨wo, hwo⟩ : ∃ x, x = wr := ⟨_, rfl⟩
    subst hwo
    have i0 : (0 : Int) ≤ (k : Int) := by omega
    have hos := hbr.size
    by_cases hlt : k < len
    · have i1 : (k : Int) < (len : Int) := by omega
      obtain ⟨p, hpk⟩ : ∃ p, ps[k]? = some p := ⟨ps[k]'(by rw [hlenH.out]; omega), by simp⟩
      have S : Hid (polsErr (ps.drop k) = if polErr p = 0 then polsErr (ps.drop (k + 1)) else polErr p) := polsErr_drop ps k p hpk
      obtain ⟨_, _, e1, -, -, hat⟩ := HL.out _ hbr
      obtain ⟨b, o, e, hbB, hpc⟩ := hat k p hpk
      simp at e1
      obtain ⟨rfl, -, -⟩ := e1
      subst e
      clear hat
      obtain ⟨a2, n2, c2, k0, k1, hpa⟩ := hpc.pol
      have HPA : Hid (∀ w', Below wo.heap.size wo w' → Calls Tryz.prog 65 #[.agg #[.slice a2 n2 c2, .int .i64 p.2]] w' fun e w'' => e = .returned (.int .i64 (polErr p)) ∧ Below w'.heap.size w' w'') := fun w' h => checkPolicy_any B _ p w' (hpa.later h (Nat.le_trans hB hos)) (Nat.le_trans hB (Nat.le_trans hos h.size))
      clear hpc hpa
      by_cases he : polErr p = 0
      · rw [he] at HPA
        have S' : Hid (polsErr ps = polsErr (ps.drop (k + 1))) := by unfold Hid; rw [H.out, S.out, if_pos he]
        clear he S
        go_wp2_with (first | (go_at_call 65; go_must (refine Calls.mono (HPA.out _ ((Below.refl _ _).alloc (Nat.le_refl _) _)) ?_; rintro e w2 ⟨rfl, hb2⟩)))
        exact ⟨⟨k + 1, by omega, by go_num, S', Below.thenOf (hbr.alloc hos _) hb2 (by simp; omega)⟩, by simp [intOf]; omega⟩
      · have S' : Hid (polsErr ps = polErr p) := by unfold Hid; rw [H.out, S.out, if_neg he]
        have hq : (polErr p != 0) = true := by simpa using he
        clear he S
        generalize polErr p = pe at *
        go_wp2_with (first | (go_at_call 65; go_must (refine Calls.mono (HPA.out _ ((Below.refl _ _).alloc (Nat.le_refl _) _)) ?_; rintro e w2 ⟨rfl, hb2⟩)))
        go_ret
        exact ⟨by rw [S'.out]; rfl, Below.thenOf (hbr.alloc hos _) hb2 (by simp; omega)⟩
    · go_wp2
      go_ret
      exact ⟨by rw [H.out, List.drop_eq_nil_of_le (by rw [hlenH.out]; omega)]; rfl, hbr⟩

end Go.Proofs.YtacjnooegahidabGreatDoor
end
section
/- Lists of one and of two policies, just written. -/
set_option linter.all false
namespace Go.Proofs.YtacjnooegahidabGreatDoor
open Go.RowKit Go.Maps

theorem CondsAt.mono {B B' : Nat} {w : World} {v : Value} {cs : List CondT} (h : CondsAt B w v cs) (hB : B ≤ B') : CondsAt B' w v cs := by
  obtain ⟨a, cap, h1, h2, h3, h4⟩ := h
  refine ⟨a, cap, h1, h2, h3, fun i c hc => ?_⟩
  obtain ⟨b, o, e, hl, k⟩ := h4 i c hc
  exact ⟨b, o, e, by omega, k⟩
theorem RulesAt.mono {B B' : Nat} {w : World} {v : Value} {rs : List RuleT} (h : RulesAt B w v rs) (hB : B ≤ B') : RulesAt B' w v rs := by
  obtain ⟨a, cap, h1, h2, h3, h4⟩ := h
  refine ⟨a, cap, h1, h2, h3, fun i c hc => ?_⟩
  obtain ⟨b, o, e, hl, cv, k1, k2, k3, k4⟩ := h4 i c hc
  exact ⟨b, o, e, by omega, cv, k1, k2, k3, k4.mono hB⟩
/-- A list of two policies, just written. -/
theorem pols_two {B : Nat} {w : World} {rv sv : Value} {p q : PolT} (hB : B ≤ w.heap.size) (hp : RulesAt B w rv p.1) (hpd : wf p.2) (hq : RulesAt B w sv q.1) (hqd : wf q.2) (T : TypeId) :
    PolsAt (w.heap.size + 1) (w.alloc (.cells #[rv, .int .i64 p.2, sv, .int .i64 q.2] T)) (.slice (some ⟨w.heap.size, 0, none⟩) 2 2) [p, q] := by
  have hb : Below w.heap.size w (w.alloc (.cells #[rv, .int .i64 p.2, sv, .int .i64 q.2] T)) := (Below.refl _ _).alloc (Nat.le_refl _) _
  have hm := heap_made w (.cells #[rv, .int .i64 p.2, sv, .int .i64 q.2] T)
  refine ⟨some ⟨w.heap.size, 0, none⟩, 2, rfl, Nat.le_refl _, by rw [maxLen_eq]; omega, fun i r hr => ⟨w.heap.size, 0, rfl, by omega, ?_⟩⟩
  match i, hr with
  | 0, hr =>
    simp at hr
    subst hr
    exact ⟨rv, heap_cell hm 0 rfl, heap_cell hm 1 rfl, hpd, (hp.later hb hB).mono (by omega)⟩
  | 1, hr =>
    simp at hr
    subst hr
    exact ⟨sv, heap_cell hm 2 rfl, heap_cell hm 3 rfl, hqd, (hq.later hb hB).mono (by omega)⟩
  | i + 2, hr => simp at hr
theorem pols_one {B : Nat} {w : World} {rv : Value} {p : PolT} (hB : B ≤ w.heap.size) (hp : RulesAt B w rv p.1) (hpd : wf p.2) (T : TypeId) :
    PolsAt (w.heap.size + 1) (w.alloc (.cells #[rv, .int .i64 p.2] T)) (.slice (some ⟨w.heap.size, 0, none⟩) 1 1) [p] := by
  have hb : Below w.heap.size w (w.alloc (.cells #[rv, .int .i64 p.2] T)) := (Below.refl _ _).alloc (Nat.le_refl _) _
  have hm := heap_made w (.cells #[rv, .int .i64 p.2] T)
  refine ⟨some ⟨w.heap.size, 0, none⟩, 1, rfl, Nat.le_refl _, by rw [maxLen_eq]; omega, fun i r hr => ⟨w.heap.size, 0, rfl, by omega, ?_⟩⟩
  match i, hr with
  | 0, hr =>
    simp at hr
    subst hr
    exact ⟨rv, heap_cell hm 0 rfl, heap_cell hm 1 rfl, hpd, (hp.later hb hB).mono (by omega)⟩
  | i + 1, hr => simp at hr

end Go.Proofs.YtacjnooegahidabGreatDoor
end
