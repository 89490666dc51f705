/- Cuts as the counterpart gathers them: plain facts. -/
import Derived.Test.YtffhpcfphodamaaGreatDoorPnt0
set_option linter.all false
namespace Go.Proofs.YtffhpcfphodamaaGreatDoor

/-- What stands in the map behind the conditions cs. -/
def atB (f : Int) (cs : List CondT) (n : Int) : Bool := decide (n = 0) || cs.any fun c => decide (c.1 = f) && (decide (c.2.2 = n) || decide (c.2.2 + 1 = n) && (decide (c.2.1 = 1) || decide (c.2.1 = 2)))
theorem atB_iff {f : Int} {cs : List CondT} {n : Int} : atB f cs n = true ↔ n = 0 ∨ ∃ c ∈ cs, c.1 = f ∧ (c.2.2 = n ∨ c.2.2 + 1 = n ∧ (c.2.1 = 1 ∨ c.2.1 = 2)) := by
  unfold atB
  simp only [Bool.or_eq_true, decide_eq_true_eq, List.any_eq_true, Bool.and_eq_true]
theorem mem_cuts_at {l : List PolT} {f n : Int} : n ∈ cutsP l f ↔ atB f (polsConds l) n = true ∧ n ≤ most f := by
  rw [mem_cutsP, atB_iff]
theorem atB_other {f : Int} {cs : List CondT} {c : CondT} (h : c.1 ≠ f) (n : Int) : atB f (cs ++ [c]) n = atB f cs n := by
  unfold atB
  rw [List.any_append]
  simp [h]
theorem atB_same {f : Int} {cs : List CondT} {c : CondT} (h : c.1 = f) (n : Int) : atB f (cs ++ [c]) n = (atB f cs n || decide (c.2.2 = n) || decide (c.2.2 + 1 = n) && (decide (c.2.1 = 1) || decide (c.2.1 = 2))) := by
  unfold atB
  rw [List.any_append]
  simp only [List.any_cons, List.any_nil, h, decide_true, Bool.true_and, Bool.or_false, Bool.or_assoc]

theorem insS_length (n : Int) : ∀ l : List Int, n ∉ l → (insS n l).length = l.length + 1
  | [], _ => rfl
  | m :: r, h => by
    have h1 : n ≠ m := fun e => h (by simp [e])
    have h2 : n ∉ r := fun e => h (by simp [e])
    unfold insS
    split
    · rfl
    · rw [List.length_cons, insS_length n r h2, List.length_cons]
theorem sortS_length : ∀ l : List Int, l.Nodup → (sortS l).length = l.length
  | [], _ => rfl
  | n :: l, h => by
    have h' := List.nodup_cons.1 h
    show (insS n (sortS l)).length = _
    rw [insS_length n _ (fun e => h'.1 ((mem_sortS n l).1 e)), sortS_length l h'.2, List.length_cons]
def upTo (N : Nat) : List Int := (List.range N).map fun i : Nat => (i : Int)
theorem upTo_rising (N : Nat) : Rising (upTo N) := by
  unfold upTo Rising
  rw [List.pairwise_map]
  exact List.pairwise_lt_range.imp fun h => by omega
theorem mem_upTo {N : Nat} {x : Int} (h0 : 0 ≤ x) (h1 : x < N) : x ∈ upTo N := List.mem_map.2 ⟨x.toNat, List.mem_range.2 (by omega), by omega⟩
/-- Unlike numbers below N are N at most. -/
theorem nodup_few {l : List Int} (h : l.Nodup) {N : Nat} (hr : ∀ x ∈ l, 0 ≤ x ∧ x < N) : l.length ≤ N := by
  have := rising_sub (sortS l) (upTo N) (sortS_rising l) (upTo_rising N) fun x hx => mem_upTo (hr x ((mem_sortS x l).1 hx)).1 (hr x ((mem_sortS x l).1 hx)).2
  rw [sortS_length l h] at this
  simpa [upTo] using this
theorem rising_few {l : List Int} (h : Rising l) {N : Nat} (hr : ∀ x ∈ l, 0 ≤ x ∧ x < N) : l.length ≤ N := by
  have := rising_sub l (upTo N) h (upTo_rising N) fun x hx => mem_upTo (hr x hx).1 (hr x hx).2
  simpa [upTo] using this
theorem sort_rising (xs : List Int) (h : xs.Nodup) : Rising (xs.mergeSort fun x y => decide (x ≤ y)) := by
  have h1 : (xs.mergeSort fun x y => decide (x ≤ y)).Pairwise fun a b => decide (a ≤ b) = true := List.pairwise_mergeSort (fun a b c => by simp only [decide_eq_true_eq]; omega) (fun a b => by simp only [Bool.or_eq_true, decide_eq_true_eq]; omega) xs
  have h2 : (xs.mergeSort fun x y => decide (x ≤ y)).Nodup := (List.mergeSort_perm xs _).nodup_iff.2 h
  exact (h1.and h2).imp fun ⟨a, b⟩ => by
    rw [decide_eq_true_eq] at a
    omega
/-- What was gathered, sorted, are the cuts. -/
theorem gathered {l : List PolT} {f : Int} {xs : List Int} (h : xs.Nodup) (hm : ∀ n, n ∈ xs ↔ atB f (polsConds l) n = true ∧ n ≤ most f) : (xs.mergeSort fun x y => decide (x ≤ y)) = cutsP l f :=
  rising_ext _ _ (sort_rising xs h) (cutsP_rising l f) fun x => by rw [List.mem_mergeSort, hm, mem_cuts_at]
theorem cuts_few {l : List PolT} (h : AllOk l) (f : Int) : (cutsP l f).length ≤ 65536 := rising_few (cutsP_rising l f) fun x hx => by
  have h1 := cut_range h hx
  have h2 : most f ≤ 65535 := by
    unfold most
    split
    · omega
    · split <;> omega
  omega

/-! The place of a point, by dividing. -/
def digit (L : List Int) (i : Nat) : Int := L.getD (i % L.length) 0
theorem prodL_digits : ∀ (Ls : List (List Int)) (i : Nat), (∀ L ∈ Ls, L ≠ []) → i < (prodL Ls).length → ∃ x, (prodL Ls)[i]? = some x ∧ x.length = Ls.length ∧ ∀ k L, Ls[k]? = some L → x[k]? = some (digit L (i / (prodL (Ls.drop (k + 1))).length))
  | [], i, _, h => by
    have : i = 0 := by have : (prodL []).length = 1 := rfl; omega
    subst this
    exact ⟨[], rfl, rfl, fun k L h => by simp at h⟩
  | L :: Ls, i, hne, h => by
    rw [prodL_length] at h
    have hL : 0 < L.length := List.length_pos_iff.2 (hne L (by simp))
    have hp : 0 < (prodL Ls).length := by
      rcases Nat.eq_zero_or_pos (prodL Ls).length with e | e
      · rw [e, Nat.mul_zero] at h; omega
      · exact e
    obtain ⟨x, h1, h2, h3⟩ := prodL_digits Ls (i % (prodL Ls).length) (fun M hM => hne M (by simp [hM])) (Nat.mod_lt _ hp)
    have hd : i / (prodL Ls).length < L.length := by
      rw [Nat.div_lt_iff_lt_mul hp]
      exact h
    obtain ⟨a, ha⟩ : ∃ a, L[i / (prodL Ls).length]? = some a := ⟨L[i / (prodL Ls).length], by simp [hd]⟩
    refine ⟨a :: x, prodL_get L Ls i a x ha h1, by simp [h2], fun k M hM => ?_⟩
    cases k with
    | zero =>
      simp at hM
      subst hM
      simp only [List.getElem?_cons_zero, List.drop_succ_cons, List.drop_zero, digit, Nat.mod_eq_of_lt hd]
      rw [List.getD_eq_getElem?_getD, ha]
      rfl
    | succ k =>
      have hM' : Ls[k]? = some M := by simpa using hM
      rw [List.getElem?_cons_succ, h3 k M hM', List.drop_succ_cons]
      congr 1
      -- the digits of the rest hang on the rest alone
      have hdvd : (prodL (Ls.drop (k + 1))).length * M.length ∣ (prodL Ls).length := by
        have e : Ls.drop k = M :: Ls.drop (k + 1) := by
          obtain ⟨hk, rfl⟩ := List.getElem?_eq_some_iff.1 hM'
          exact List.drop_eq_getElem_cons hk
        have h4 : (prodL (Ls.drop k)).length = M.length * (prodL (Ls.drop (k + 1))).length := by rw [e, prodL_length]
        have h5 : ∀ (n : Nat) (As : List (List Int)), (prodL (As.drop n)).length ∣ (prodL As).length := by
          intro n
          induction n with
          | zero => intro As; simp
          | succ n ih =>
            intro As
            cases As with
            | nil => simp
            | cons A As =>
              rw [List.drop_succ_cons, prodL_length]
              exact Nat.dvd_trans (ih As) (Nat.dvd_mul_left _ _)
        have := h5 k Ls
        rw [h4, Nat.mul_comm] at this
        exact this
      unfold digit
      congr 1
      obtain ⟨q, hq⟩ := hdvd
      rw [hq, Nat.mul_assoc, Nat.mod_mul_right_div_self, Nat.mod_mul_right_mod]

end Go.Proofs.YtffhpcfphodamaaGreatDoor
