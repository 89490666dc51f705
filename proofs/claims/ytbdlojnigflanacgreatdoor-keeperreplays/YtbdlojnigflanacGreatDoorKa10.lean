/- Joined: Pnt0 Ord0 Sht0 Met0 Pols. -/
import Derived.Test.YtbdlojnigflanacGreatDoorKa09
section
/- Cuts, homes and points as plain data: each policy says of a call what it says of its home. -/
set_option linter.all false
namespace Go.Proofs.YtbdlojnigflanacGreatDoor

/-! Lists that rise, each number once. -/
def insS (n : Int) : List Int → List Int
  | [] => [n]
  | m :: r => if n < m then n :: m :: r else if n = m then m :: r else m :: insS n r
def sortS (l : List Int) : List Int := l.foldr insS []
def Rising (l : List Int) : Prop := l.Pairwise (· < ·)
theorem mem_insS (n x : Int) : ∀ l : List Int, x ∈ insS n l ↔ x = n ∨ x ∈ l
  | [] => by simp [insS]
  | m :: r => by
    unfold insS
    split
    · simp
    · split
      · rename_i h; subst h; simp
      · simp only [List.mem_cons, mem_insS n x r]
        constructor
        · rintro (h | h | h) <;> simp [h]
        · rintro (h | h | h) <;> simp [h]
theorem insS_rising (n : Int) : ∀ l : List Int, Rising l → Rising (insS n l)
  | [], _ => by simp [insS, Rising]
  | m :: r, h => by
    have h' := List.pairwise_cons.1 h
    unfold insS
    split
    · rename_i hn
      refine List.pairwise_cons.2 ⟨fun x hx => ?_, h⟩
      rcases List.mem_cons.1 hx with rfl | hx
      · exact hn
      · have := h'.1 x hx; omega
    · split
      · exact h
      · rename_i h1 h2
        refine List.pairwise_cons.2 ⟨fun x hx => ?_, insS_rising n r h'.2⟩
        rcases (mem_insS n x r).1 hx with rfl | hx
        · omega
        · exact h'.1 x hx
theorem mem_sortS (x : Int) : ∀ l : List Int, x ∈ sortS l ↔ x ∈ l
  | [] => by simp [sortS]
  | n :: l => by
    show x ∈ insS n (sortS l) ↔ _
    rw [mem_insS, mem_sortS x l, List.mem_cons]
theorem sortS_rising : ∀ l : List Int, Rising (sortS l)
  | [] => List.Pairwise.nil
  | n :: l => insS_rising n _ (sortS_rising l)
/-- Two that rise and have the same members are the same. -/
theorem rising_ext : ∀ (l m : List Int), Rising l → Rising m → (∀ x, x ∈ l ↔ x ∈ m) → l = m
  | [], [], _, _, _ => rfl
  | [], b :: m, _, _, h => by have := (h b).2 (by simp); simp at this
  | a :: l, [], _, _, h => by have := (h a).1 (by simp); simp at this
  | a :: l, b :: m, hl, hm, h => by
    have hl' := List.pairwise_cons.1 hl
    have hm' := List.pairwise_cons.1 hm
    have hab : a = b := by
      rcases List.mem_cons.1 ((h a).1 (by simp)) with e | e
      · exact e
      · rcases List.mem_cons.1 ((h b).2 (by simp)) with e' | e'
        · exact e'.symm
        · have := hl'.1 b e'; have := hm'.1 a e; omega
    subst hab
    congr 1
    refine rising_ext l m hl'.2 hm'.2 fun x => ?_
    constructor
    · intro hx
      rcases List.mem_cons.1 ((h x).1 (by simp [hx])) with e | e
      · have := hl'.1 x hx; omega
      · exact e
    · intro hx
      rcases List.mem_cons.1 ((h x).2 (by simp [hx])) with e | e
      · have := hm'.1 x hx; omega
      · exact e

/-! Cuts. -/
def condCuts (f : Int) (c : CondT) : List Int := if c.1 = f then (if c.2.1 = 1 ∨ c.2.1 = 2 then [c.2.2, c.2.2 + 1] else [c.2.2]) else []
def polConds (p : PolT) : List CondT := p.1.flatMap (·.1)
def polsConds (l : List PolT) : List CondT := l.flatMap polConds
def rawCuts (f : Int) (cs : List CondT) : List Int := 0 :: cs.flatMap (condCuts f)
def cutsP (l : List PolT) (f : Int) : List Int := sortS ((rawCuts f (polsConds l)).filter fun n => decide (n ≤ most f))
theorem mem_cutsP {l : List PolT} {f n : Int} : n ∈ cutsP l f ↔ (n = 0 ∨ ∃ c ∈ polsConds l, c.1 = f ∧ (c.2.2 = n ∨ c.2.2 + 1 = n ∧ (c.2.1 = 1 ∨ c.2.1 = 2))) ∧ n ≤ most f := by
  unfold cutsP rawCuts
  rw [mem_sortS, List.mem_filter, List.mem_cons, List.mem_flatMap, decide_eq_true_eq]
  constructor
  · rintro ⟨h, hm⟩
    refine ⟨?_, hm⟩
    rcases h with h | ⟨c, hc, h⟩
    · exact .inl h
    · refine .inr ⟨c, hc, ?_⟩
      unfold condCuts at h
      split at h
      · rename_i hf
        split at h
        · rename_i ho
          simp at h
          exact ⟨hf, by rcases h with h | h
                        · exact .inl h.symm
                        · exact .inr ⟨h.symm, ho⟩⟩
        · simp at h
          exact ⟨hf, .inl h.symm⟩
      · simp at h
  · rintro ⟨h, hm⟩
    refine ⟨?_, hm⟩
    rcases h with h | ⟨c, hc, hf, h⟩
    · exact .inl h
    · refine .inr ⟨c, hc, ?_⟩
      unfold condCuts
      rw [if_pos hf]
      rcases h with h | ⟨h, ho⟩
      · split <;> simp [h]
      · rw [if_pos ho]; simp [h]
theorem cutsP_rising (l : List PolT) (f : Int) : Rising (cutsP l f) := sortS_rising _
theorem most_nn (f : Int) : 0 ≤ most f := by
  unfold most
  split
  · omega
  · split <;> omega
theorem zero_cut (l : List PolT) (f : Int) : 0 ∈ cutsP l f := mem_cutsP.2 ⟨.inl rfl, most_nn f⟩
theorem cutsP_ne (l : List PolT) (f : Int) : cutsP l f ≠ [] := fun h => by have := zero_cut l f; rw [h] at this; simp at this

/-- Right policies. -/
def AllOk (l : List PolT) : Prop := ∀ p ∈ l, polErr p = 0
theorem conds_ok {l : List PolT} (h : AllOk l) : ∀ c ∈ polsConds l, condErr c = 0 := by
  intro c hc
  obtain ⟨p, hp, hc⟩ := List.mem_flatMap.1 hc
  obtain ⟨r, hr, hc⟩ := List.mem_flatMap.1 hc
  exact condsErr_all (ruleErr_ok (rulesErr_all (polErr_ok (h p hp)).2.2 r hr)).2.2 c hc
theorem cut_range {l : List PolT} (h : AllOk l) {f n : Int} (hn : n ∈ cutsP l f) : 0 ≤ n ∧ n ≤ most f := by
  obtain ⟨h1, h2⟩ := mem_cutsP.1 hn
  refine ⟨?_, h2⟩
  rcases h1 with h1 | ⟨c, hc, _, h1⟩
  · omega
  · have := (condErr_ok (conds_ok h c hc)).2.2.1
    rcases h1 with h1 | ⟨h1, _⟩ <;> omega

/-! Homes. -/
def lastLe (x : Int) : Int → List Int → Int
  | best, [] => best
  | best, n :: r => lastLe x (if n ≤ x then n else best) r
theorem lastLe_mem (x : Int) : ∀ (l : List Int) (best : Int), lastLe x best l = best ∨ lastLe x best l ∈ l
  | [], best => .inl rfl
  | n :: r, best => by
    unfold lastLe
    rcases lastLe_mem x r (if n ≤ x then n else best) with h | h
    · rw [h]
      split
      · right; simp
      · left; rfl
    · right; simp [h]
theorem lastLe_le (x : Int) : ∀ (l : List Int) (best : Int), best ≤ x → lastLe x best l ≤ x
  | [], best, h => h
  | n :: r, best, h => by
    unfold lastLe
    apply lastLe_le
    split <;> omega
theorem lastLe_ge (x : Int) : ∀ (l : List Int) (best : Int), Rising l → (∀ m ∈ l, best ≤ m) → best ≤ lastLe x best l ∧ ∀ n ∈ l, n ≤ x → n ≤ lastLe x best l
  | [], best, _, _ => ⟨Int.le_refl _, fun n h => by simp at h⟩
  | n :: r, best, hr, hb => by
    have hr' := List.pairwise_cons.1 hr
    have hn := hb n (by simp)
    unfold lastLe
    by_cases hx : n ≤ x
    · rw [if_pos hx]
      obtain ⟨h1, h2⟩ := lastLe_ge x r n hr'.2 fun m hm => by have := hr'.1 m hm; omega
      refine ⟨by omega, fun m hm hmx => ?_⟩
      rcases List.mem_cons.1 hm with rfl | hm
      · exact h1
      · exact h2 m hm hmx
    · rw [if_neg hx]
      obtain ⟨h1, h2⟩ := lastLe_ge x r best hr'.2 fun m hm => hb m (by simp [hm])
      refine ⟨h1, fun m hm hmx => ?_⟩
      rcases List.mem_cons.1 hm with rfl | hm
      · omega
      · exact h2 m hm hmx
def homeP (l : List PolT) (x : Nat → Int) (j : Nat) : Int := lastLe (x j) 0 (cutsP l j)
theorem home_spec {l : List PolT} (hl : AllOk l) {x : Nat → Int} {j : Nat} (hx : 0 ≤ x j) : homeP l x j ∈ cutsP l j ∧ homeP l x j ≤ x j ∧ ∀ n ∈ cutsP l j, n ≤ x j → n ≤ homeP l x j := by
  unfold homeP
  refine ⟨?_, lastLe_le _ _ _ hx, (lastLe_ge (x j) (cutsP l j) 0 (cutsP_rising l j) fun m hm => (cut_range hl hm).1).2⟩
  rcases lastLe_mem (x j) (cutsP l j) 0 with h | h
  · rw [h]; exact zero_cut l j
  · exact h

theorem inR_iff {k v : Int} : inR k v = true ↔ 0 ≤ v ∧ v ≤ most k := by unfold inR; simp
theorem chkx_zero {x : Nat → Int} : chkx x = 0 ↔ ∀ j, j < 5 → 0 ≤ x j ∧ x j ≤ most j := by
  unfold chkx chk
  constructor
  · intro h
    split at h
    · rename_i h'
      simp only [okFrom, Bool.and_eq_true, inR_iff] at h'
      intro j hj
      have : j = 0 ∨ j = 1 ∨ j = 2 ∨ j = 3 ∨ j = 4 := by omega
      obtain ⟨h0, h1, h2, h3, h4, _⟩ := h'
      rcases this with rfl | rfl | rfl | rfl | rfl
      · exact h0
      · exact h1
      · exact h2
      · exact h3
      · exact h4
    · cases h
  · intro h
    have h' : okFrom 0 [x 0, x 1, x 2, x 3, x 4] = true := by
      simp only [okFrom, Bool.and_eq_true, inR_iff]
      exact ⟨h 0 (by omega), h 1 (by omega), h 2 (by omega), h 3 (by omega), h 4 (by omega), trivial⟩
    rw [if_pos h']
theorem home_right {l : List PolT} (hl : AllOk l) {x : Nat → Int} (hx : chkx x = 0) : chkx (homeP l x) = 0 := by
  rw [chkx_zero] at hx ⊢
  intro j hj
  exact cut_range hl (home_spec hl (hx j hj).1).1
/-- A condition says of a number what it says of its home. -/
theorem cond_home {l : List PolT} (hl : AllOk l) {x : Nat → Int} (hx : chkx x = 0) {c : CondT} (hc : c ∈ polsConds l) : condOk (homeP l x) c = condOk x c := by
  obtain ⟨⟨f0, f5⟩, ⟨o1, o4⟩, ⟨v0, vm⟩⟩ := condErr_ok (conds_ok hl c hc)
  obtain ⟨j, hj⟩ : ∃ j : Nat, c.1 = j := ⟨c.1.toNat, by omega⟩
  have hx' := (chkx_zero.1 hx) j (by omega)
  obtain ⟨h1, h2, h3⟩ := home_spec hl hx'.1
  have hv : c.2.2 ∈ cutsP l j := mem_cutsP.2 ⟨.inr ⟨c, hc, hj, .inl rfl⟩, by rw [← hj]; exact vm⟩
  have hv1 : (c.2.1 = 1 ∨ c.2.1 = 2) → c.2.2 + 1 ≤ most j → c.2.2 + 1 ∈ cutsP l j := fun ho hm => mem_cutsP.2 ⟨.inr ⟨c, hc, hj, .inr ⟨rfl, ho⟩⟩, hm⟩
  have hge : c.2.2 ≤ x j → c.2.2 ≤ homeP l x j := h3 _ hv
  unfold condOk
  rw [hj, Int.toNat_natCast]
  unfold holdsB
  by_cases e1 : c.2.1 = 1
  · simp only [if_pos e1]
    rw [Bool.eq_iff_iff]
    simp only [beq_iff_eq]
    by_cases e : c.2.2 + 1 ≤ x j
    · have := h3 _ (hv1 (.inl e1) (by omega)) e
      omega
    · omega
  · simp only [if_neg e1]
    by_cases e2 : c.2.1 = 2
    · simp only [if_pos e2]
      rw [Bool.eq_iff_iff]
      simp only [bne_iff_ne, ne_eq]
      by_cases e : c.2.2 + 1 ≤ x j
      · have := h3 _ (hv1 (.inr e2) (by omega)) e
        omega
      · omega
    · simp only [if_neg e2]
      by_cases e3 : c.2.1 = 3
      · simp only [if_pos e3]
        rw [Bool.eq_iff_iff]
        simp only [decide_eq_true_eq]
        omega
      · simp only [if_neg e3]
        rw [Bool.eq_iff_iff]
        simp only [decide_eq_true_eq]
        omega
theorem rule_home {l : List PolT} (hl : AllOk l) {x : Nat → Int} (hx : chkx x = 0) {p : PolT} (hp : p ∈ l) {r : RuleT} (hr : r ∈ p.1) : ruleOk (homeP l x) r = ruleOk x r := by
  unfold ruleOk
  rw [Bool.eq_iff_iff, List.all_eq_true, List.all_eq_true]
  have h : ∀ c ∈ r.1, condOk (homeP l x) c = condOk x c := fun c hc => cond_home hl hx (List.mem_flatMap.2 ⟨p, hp, List.mem_flatMap.2 ⟨r, hr, hc⟩⟩)
  constructor
  · intro hh c hc; rw [← h c hc]; exact hh c hc
  · intro hh c hc; rw [h c hc]; exact hh c hc
theorem firstAt_congr {α : Type} (f g : α → Bool) : ∀ (l : List α) (k : Nat), (∀ c ∈ l, f c = g c) → firstAt f k l = firstAt g k l
  | [], _, _ => rfl
  | c :: r, k, h => by
    unfold firstAt
    rw [h c (by simp), firstAt_congr f g r (k + 1) fun d hd => h d (by simp [hd])]
/-- Each policy says of a call what it says of its home, by the same rule. -/
theorem judge_home {l : List PolT} (hl : AllOk l) {x : Nat → Int} (hx : chkx x = 0) {p : PolT} (hp : p ∈ l) : judgeP p (homeP l x) = judgeP p x := by
  rw [judgeP_ok (hl p hp) hx, judgeP_ok (hl p hp) (home_right hl hx), firstAt_congr (ruleOk (homeP l x)) (ruleOk x) p.1 0 fun r hr => rule_home hl hx hp hr]

/-! Points. -/
def prodL : List (List Int) → List (List Int)
  | [] => [[]]
  | L :: Ls => L.flatMap fun a => (prodL Ls).map (a :: ·)
def cuts5 (l : List PolT) : List (List Int) := [cutsP l 0, cutsP l 1, cutsP l 2, cutsP l 3, cutsP l 4]
def pointsP (l : List PolT) : List (List Int) := prodL (cuts5 l)
def inAll : List Int → List (List Int) → Prop
  | [], [] => True
  | a :: x, L :: Ls => a ∈ L ∧ inAll x Ls
  | _, _ => False
theorem prodL_cons (L : List Int) (Ls : List (List Int)) : prodL (L :: Ls) = L.flatMap fun a => (prodL Ls).map (a :: ·) := rfl
theorem mem_prodL : ∀ (Ls : List (List Int)) (x : List Int), x ∈ prodL Ls ↔ inAll x Ls
  | [], x => by
    show x ∈ [[]] ↔ _
    rw [List.mem_singleton]
    constructor
    · rintro rfl; trivial
    · intro h
      cases x with
      | nil => rfl
      | cons a y => exact h.elim
  | L :: Ls, x => by
    rw [prodL_cons, List.mem_flatMap]
    constructor
    · rintro ⟨a, ha, h⟩
      obtain ⟨y, hy, rfl⟩ := List.mem_map.1 h
      exact ⟨ha, (mem_prodL Ls y).1 hy⟩
    · intro h
      cases x with
      | nil => exact h.elim
      | cons a y => exact ⟨a, h.1, List.mem_map.2 ⟨y, (mem_prodL Ls y).2 h.2, rfl⟩⟩
theorem length_flatMap_const {α β : Type} (f : α → List β) (n : Nat) : ∀ (L : List α), (∀ a ∈ L, (f a).length = n) → (L.flatMap f).length = L.length * n
  | [], _ => by simp
  | a :: L, h => by
    rw [List.flatMap_cons, List.length_append, h a (by simp), length_flatMap_const f n L fun b hb => h b (by simp [hb]), List.length_cons, Nat.add_mul]
    omega
theorem prodL_length (L : List Int) (Ls : List (List Int)) : (prodL (L :: Ls)).length = L.length * (prodL Ls).length := by
  rw [prodL_cons]
  exact length_flatMap_const _ _ _ fun a _ => by simp
/-- The place of a point among all. -/
theorem flatMap_get {α β : Type} (f : α → List β) (n : Nat) (hn : 0 < n) : ∀ (L : List α), (∀ a ∈ L, (f a).length = n) → ∀ (i : Nat) (a : α), L[i / n]? = some a → (L.flatMap f)[i]? = (f a)[i % n]?
  | [], _, i, a, h => by simp at h
  | b :: L, hf, i, a, h => by
    rw [List.flatMap_cons]
    have hb := hf b (by simp)
    by_cases hi : i < n
    · rw [Nat.div_eq_of_lt hi] at h
      simp at h
      subst h
      rw [List.getElem?_append_left (by omega), Nat.mod_eq_of_lt hi]
    · obtain ⟨j, rfl⟩ : ∃ j, i = j + n := ⟨i - n, by omega⟩
      rw [Nat.add_div_right _ hn] at h
      rw [List.getElem?_append_right (by omega), Nat.add_mod_right, show j + n - (f b).length = j by omega]
      exact flatMap_get f n hn L (fun c hc => hf c (by simp [hc])) j a (by simpa using h)
theorem prodL_get (L : List Int) (Ls : List (List Int)) (i : Nat) (a : Int) (x : List Int) (ha : L[i / (prodL Ls).length]? = some a) (hx : (prodL Ls)[i % (prodL Ls).length]? = some x) : (prodL (L :: Ls))[i]? = some (a :: x) := by
  have hn : 0 < (prodL Ls).length := by
    have := (List.getElem?_eq_some_iff.1 hx).1
    omega
  rw [prodL_cons, flatMap_get _ _ hn L (fun a _ => by simp) i a ha]
  simp [hx]

def fieldsOf (x : Nat → Int) : List Int := [x 0, x 1, x 2, x 3, x 4]
/-- A home is a point. -/
theorem home_point {l : List PolT} (hl : AllOk l) {x : Nat → Int} (hx : chkx x = 0) : fieldsOf (homeP l x) ∈ pointsP l := by
  have h := chkx_zero.1 hx
  refine (mem_prodL _ _).2 ?_
  exact ⟨(home_spec hl (h 0 (by omega)).1).1, (home_spec hl (h 1 (by omega)).1).1, (home_spec hl (h 2 (by omega)).1).1, (home_spec hl (h 3 (by omega)).1).1, (home_spec hl (h 4 (by omega)).1).1, trivial⟩
/-- A point is a right call, and its own home. -/
theorem point_right {l : List PolT} (hl : AllOk l) {x : List Int} (hx : x ∈ pointsP l) : ∃ y : Nat → Int, x = fieldsOf y ∧ chkx y = 0 ∧ ∀ j : Nat, j < 5 → y j ∈ cutsP l j := by
  have h := (mem_prodL _ _).1 hx
  unfold cuts5 at h
  match x, h with
  | [a, b, c, d, e], h =>
    obtain ⟨h0, h1, h2, h3, h4, _⟩ := h
    refine ⟨at5 a b c d e, rfl, ?_, ?_⟩
    · rw [chkx_zero]
      intro j hj
      have : j = 0 ∨ j = 1 ∨ j = 2 ∨ j = 3 ∨ j = 4 := by omega
      rcases this with rfl | rfl | rfl | rfl | rfl
      · exact cut_range hl h0
      · exact cut_range hl h1
      · exact cut_range hl h2
      · exact cut_range hl h3
      · exact cut_range hl h4
    · intro j hj
      have : j = 0 ∨ j = 1 ∨ j = 2 ∨ j = 3 ∨ j = 4 := by omega
      rcases this with rfl | rfl | rfl | rfl | rfl
      · exact h0
      · exact h1
      · exact h2
      · exact h3
      · exact h4
theorem rising_sub : ∀ (l m : List Int), Rising l → Rising m → (∀ x ∈ l, x ∈ m) → l.length ≤ m.length
  | [], m, _, _, _ => by simp
  | a :: l, [], _, _, h => by have := h a (by simp); simp at this
  | a :: l, b :: m, hl, hm, h => by
    have hl' := List.pairwise_cons.1 hl
    have hm' := List.pairwise_cons.1 hm
    have : l.length ≤ m.length := by
      refine rising_sub l m hl'.2 hm'.2 fun x hx => ?_
      rcases List.mem_cons.1 (h x (by simp [hx])) with e | e
      · exfalso
        have h1 := hl'.1 x hx
        rcases List.mem_cons.1 (h a (by simp)) with e' | e'
        · omega
        · have := hm'.1 a e'; omega
      · exact e
    simp; omega
end Go.Proofs.YtbdlojnigflanacGreatDoor
end
section
/- Policies held against each other, met, made shorter, as plain data. -/
set_option linter.all false
namespace Go.Proofs.YtbdlojnigflanacGreatDoor

/-- What a policy says of a call. -/
def vP (p : PolT) (x : Nat → Int) : Int := (judgeP p x).1
def kP (p : PolT) (x : Nat → Int) : Int := (judgeP p x).2.1
def ofL (l : List Int) : Nat → Int := at5 (l.getD 0 0) (l.getD 1 0) (l.getD 2 0) (l.getD 3 0) (l.getD 4 0)
theorem judge_fields {p : PolT} {x y : Nat → Int} (h : ∀ j, j < 5 → x j = y j) : judgeP p x = judgeP p y := by
  have hc : chkx x = chkx y := by unfold chkx; rw [h 0 (by omega), h 1 (by omega), h 2 (by omega), h 3 (by omega), h 4 (by omega)]
  by_cases hp : polErr p = 0
  · by_cases hx : chkx x = 0
    · rw [judgeP_ok hp hx, judgeP_ok hp (hc ▸ hx)]
      have hr : ∀ r ∈ p.1, ruleOk x r = ruleOk y r := by
        intro r hr
        have hcs := condsErr_all (ruleErr_ok (rulesErr_all (polErr_ok hp).2.2 r hr)).2.2
        unfold ruleOk
        rw [Bool.eq_iff_iff, List.all_eq_true, List.all_eq_true]
        have : ∀ c ∈ r.1, condOk x c = condOk y c := fun c hc' => by
          have := (condErr_ok (hcs c hc')).1
          unfold condOk
          rw [h c.1.toNat (by omega)]
        constructor
        · intro hh c hc'; rw [← this c hc']; exact hh c hc'
        · intro hh c hc'; rw [this c hc']; exact hh c hc'
      rw [firstAt_congr _ _ p.1 0 hr]
    · unfold judgeP
      rw [if_pos hp, if_neg hx, if_pos hp, if_neg (hc ▸ hx), hc]
  · unfold judgeP
    rw [if_neg hp, if_neg hp]
theorem ofL_fields (x : Nat → Int) : ∀ j, j < 5 → ofL (fieldsOf x) j = x j := by
  intro j hj
  have : j = 0 ∨ j = 1 ∨ j = 2 ∨ j = 3 ∨ j = 4 := by omega
  rcases this with rfl | rfl | rfl | rfl | rfl <;> rfl

/-! Errors of several. -/
def polsErr : List PolT → Int
  | [] => 0
  | p :: r => if polErr p = 0 then polsErr r else polErr p
theorem polsErr_ok : ∀ {l : List PolT}, polsErr l = 0 ↔ AllOk l
  | [] => by simp [polsErr, AllOk]
  | p :: r => by
    unfold polsErr
    by_cases h : polErr p = 0
    · rw [if_pos h, polsErr_ok]
      constructor
      · intro hr q hq
        rcases List.mem_cons.1 hq with rfl | hq
        · exact h
        · exact hr q hq
      · intro hr q hq
        exact hr q (by simp [hq])
    · rw [if_neg h]
      constructor
      · intro h'; exact absurd h' h
      · intro hr; exact hr p (by simp)
def pointsE (l : List PolT) : Int := if polsErr l = 0 then (if 1000 < (pointsP l).length then 2 else 0) else polsErr l
def pointsL (l : List PolT) : List (List Int) := if pointsE l = 0 then pointsP l else []
theorem pointsE_ok {l : List PolT} : pointsE l = 0 ↔ AllOk l ∧ (pointsP l).length ≤ 1000 := by
  unfold pointsE
  by_cases h : polsErr l = 0
  · rw [if_pos h]
    constructor
    · intro h'
      refine ⟨polsErr_ok.1 h, ?_⟩
      split at h'
      · cases h'
      · omega
    · rintro ⟨_, h'⟩
      rw [if_neg (by omega)]
  · rw [if_neg h]
    constructor
    · intro h'; exact absurd h' h
    · rintro ⟨h', _⟩; exact absurd (polsErr_ok.2 h') h

/-! The order. -/
def loosePt (p q : PolT) (x : List Int) : Bool := decide (vP q (ofL x) < vP p (ofL x))
def looserP (p q : PolT) : Option (List Int) := (pointsL [p, q]).find? (loosePt p q)
/-- What isn't looser at any point is so nowhere. -/
theorem looser_none {p q : PolT} (he : pointsE [p, q] = 0) (h : looserP p q = none) {x : Nat → Int} (hx : chkx x = 0) : vP p x ≤ vP q x := by
  obtain ⟨hok, _⟩ := pointsE_ok.1 he
  unfold looserP pointsL at h
  rw [if_pos he, List.find?_eq_none] at h
  have h1 := h _ (home_point hok hx)
  unfold loosePt at h1
  rw [decide_eq_true_eq] at h1
  have e : ∀ r ∈ [p, q], vP r (ofL (fieldsOf (homeP [p, q] x))) = vP r x := fun r hr => by
    unfold vP
    rw [judge_fields (ofL_fields _), judge_home hok hx hr]
  rw [e p (by simp), e q (by simp)] at h1
  omega
/-! Meeting. -/
def ofV (exc : Bool) (a b : Int) : Int := if a < b then a else if exc then 4 else b
def pairR (exc : Bool) (r s : RuleT) : RuleT := (r.1 ++ s.1, ofV exc r.2 s.2)
def meetRs (exc : Bool) (p q : PolT) : List RuleT := p.1.flatMap (fun r => q.1.map (pairR exc r) ++ [pairR exc r ([], q.2)]) ++ q.1.map (pairR exc ([], p.2))
def meetP (exc : Bool) (p q : PolT) : PolT := (meetRs exc p q, ofV exc p.2 q.2)
def verdO (x : Nat → Int) (d : Int) : List RuleT → Int
  | [] => d
  | r :: s => if ruleOk x r then r.2 else verdO x d s
theorem verdO_first (x : Nat → Int) (d : Int) (rs0 : List RuleT) : ∀ (rs : List RuleT) (k : Nat), rs0.drop k = rs → verdO x d rs = (verdictAt (rs0, d) (firstAt (ruleOk x) k rs)).1
  | [], k, _ => by simp [verdO, firstAt, verdictAt]
  | r :: s, k, h => by
    have hk : rs0[k]? = some r := by
      have : (rs0.drop k)[0]? = some r := by rw [h]; rfl
      simpa using this
    rw [verdO, firstAt]
    by_cases hr : ruleOk x r = true
    · rw [if_pos hr, if_pos hr, verdictAt, if_neg (by omega)]
      simp [hk]
    · rw [if_neg hr, if_neg hr]
      refine verdO_first x d rs0 s (k + 1) ?_
      rw [← List.drop_drop, h]
      rfl
theorem vP_verd {p : PolT} {x : Nat → Int} (hp : polErr p = 0) (hx : chkx x = 0) : vP p x = verdO x p.2 p.1 := by
  unfold vP
  rw [judgeP_ok hp hx]
  exact (verdO_first x p.2 p.1 p.1 0 rfl).symm
theorem ruleOk_pair (x : Nat → Int) (exc : Bool) (r s : RuleT) : ruleOk x (pairR exc r s) = (ruleOk x r && ruleOk x s) := by
  unfold ruleOk pairR
  rw [List.all_append]
theorem verdO_append (x : Nat → Int) (d : Int) : ∀ (l m : List RuleT), verdO x d (l ++ m) = verdO x (verdO x d m) l
  | [], m => rfl
  | r :: l, m => by
    show (if ruleOk x r then r.2 else verdO x d (l ++ m)) = if ruleOk x r then r.2 else verdO x (verdO x d m) l
    rw [verdO_append x d l m]
theorem verdO_no (x : Nat → Int) (d : Int) : ∀ l : List RuleT, (∀ r ∈ l, ruleOk x r = false) → verdO x d l = d
  | [], _ => rfl
  | r :: l, h => by
    rw [verdO, if_neg (by simp [h r (by simp)])]
    exact verdO_no x d l fun s hs => h s (by simp [hs])
/-- One rule of p with all of q. -/
theorem verdO_pairs (x : Nat → Int) (exc : Bool) (r : RuleT) (hr : ruleOk x r = true) (dq d : Int) : ∀ l : List RuleT, verdO x (ofV exc r.2 dq) (l.map (pairR exc r)) = ofV exc r.2 (verdO x dq l)
  | [] => rfl
  | s :: l => by
    rw [List.map_cons, verdO, verdO, ruleOk_pair, hr, Bool.true_and, verdO_pairs x exc r hr dq d l]
    split <;> rfl
theorem verdO_meet (x : Nat → Int) (exc : Bool) (q : PolT) (dp : Int) : ∀ ps : List RuleT, verdO x (ofV exc dp q.2) (meetRs exc (ps, dp) q) = ofV exc (verdO x dp ps) (verdO x q.2 q.1)
  | [] => by
    unfold meetRs
    simp only [List.flatMap_nil, List.nil_append]
    exact verdO_pairs x exc ([], dp) rfl q.2 0 q.1
  | r :: ps => by
    have ih := verdO_meet x exc q dp ps
    unfold meetRs at ih ⊢
    simp only [List.flatMap_cons] at ih ⊢
    rw [List.append_assoc, verdO_append, ih]
    by_cases hr : ruleOk x r = true
    · have e1 : verdO x (ofV exc (verdO x dp ps) (verdO x q.2 q.1)) [pairR exc r ([], q.2)] = ofV exc r.2 q.2 := by
        rw [verdO, ruleOk_pair, hr]
        rfl
      rw [verdO_append, e1, verdO_pairs x exc r hr q.2 0 q.1, verdO, if_pos hr]
    · rw [verdO_no, verdO, if_neg hr]
      intro s hs
      have hr' : ruleOk x r = false := by simpa using hr
      rcases List.mem_append.1 hs with hs | hs
      · obtain ⟨t, _, rfl⟩ := List.mem_map.1 hs
        rw [ruleOk_pair, hr']
        rfl
      · rw [List.mem_singleton] at hs
        subst hs
        rw [ruleOk_pair, hr']
        rfl
/-- Meet says of each call the stricter verdict. -/
theorem vP_meet {p q : PolT} {x : Nat → Int} (exc : Bool) (hp : polErr p = 0) (hq : polErr q = 0) (hm : polErr (meetP exc p q) = 0) (hx : chkx x = 0) : vP (meetP exc p q) x = ofV exc (vP p x) (vP q x) := by
  rw [vP_verd hm hx, vP_verd hp hx, vP_verd hq hx]
  exact verdO_meet x exc q p.2 p.1

end Go.Proofs.YtbdlojnigflanacGreatDoor
end
section
/- Policies made shorter, as plain data. -/
set_option linter.all false
namespace Go.Proofs.YtbdlojnigflanacGreatDoor

def keepIdx (p : PolT) (i : Int) : Bool := (pointsP [p]).any fun x => kP p (ofL x) == i
def keepFrom (p : PolT) : Nat → List RuleT → List RuleT
  | _, [] => []
  | k, r :: s => if keepIdx p k then r :: keepFrom p (k + 1) s else keepFrom p (k + 1) s
def cutEnd (d : Int) : List RuleT → List RuleT
  | [] => []
  | r :: s => if cutEnd d s = [] ∧ r.2 = d then [] else r :: cutEnd d s
def shortP (p : PolT) : PolT := (cutEnd p.2 (keepFrom p 0 p.1), p.2)

theorem verdO_cutEnd (x : Nat → Int) (d : Int) : ∀ l : List RuleT, verdO x d (cutEnd d l) = verdO x d l
  | [] => rfl
  | r :: s => by
    have ih := verdO_cutEnd x d s
    unfold cutEnd
    split
    · rename_i h
      rw [h.1] at ih
      show d = if ruleOk x r then r.2 else verdO x d s
      rw [← ih]
      split
      · exact h.2.symm
      · rfl
    · show (if ruleOk x r then r.2 else verdO x d (cutEnd d s)) = if ruleOk x r then r.2 else verdO x d s
      rw [ih]
theorem cutEnd_take (d : Int) : ∀ l : List RuleT, ∃ n, cutEnd d l = l.take n
  | [] => ⟨0, rfl⟩
  | r :: s => by
    obtain ⟨n, h⟩ := cutEnd_take d s
    unfold cutEnd
    split
    · exact ⟨0, rfl⟩
    · exact ⟨n + 1, by rw [h]; rfl⟩
theorem keepFrom_mem (p : PolT) : ∀ (l : List RuleT) (k : Nat), ∀ r ∈ keepFrom p k l, r ∈ l
  | [], _, r, h => by simp [keepFrom] at h
  | s :: l, k, r, h => by
    unfold keepFrom at h
    split at h
    · rcases List.mem_cons.1 h with rfl | h
      · simp
      · simp [keepFrom_mem p l (k + 1) r h]
    · simp [keepFrom_mem p l (k + 1) r h]
theorem keepFrom_len (p : PolT) : ∀ (l : List RuleT) (k : Nat), (keepFrom p k l).length ≤ l.length
  | [], _ => by simp [keepFrom]
  | s :: l, k => by
    have := keepFrom_len p l (k + 1)
    unfold keepFrom
    split <;> simp <;> omega
theorem shortP_mem (p : PolT) : ∀ r ∈ (shortP p).1, r ∈ p.1 := by
  intro r hr
  unfold shortP at hr
  obtain ⟨n, h⟩ := cutEnd_take p.2 (keepFrom p 0 p.1)
  simp only [h] at hr
  exact keepFrom_mem p p.1 0 r (List.mem_of_mem_take hr)
theorem shortP_len (p : PolT) : (shortP p).1.length ≤ p.1.length := by
  unfold shortP
  obtain ⟨n, h⟩ := cutEnd_take p.2 (keepFrom p 0 p.1)
  simp only [h, List.length_take]
  have := keepFrom_len p p.1 0
  omega
theorem shortP_ok {p : PolT} (h : polErr p = 0) : polErr (shortP p) = 0 := by
  obtain ⟨h1, h2, h3⟩ := polErr_ok h
  exact polErr_of (Nat.le_trans (shortP_len p) h1) h2 fun r hr => rulesErr_all h3 r (shortP_mem p r hr)

/-- The rule by which a policy judges a call. -/
theorem kP_ok {p : PolT} {x : Nat → Int} (hp : polErr p = 0) (hx : chkx x = 0) : kP p x = (verdictAt p (firstAt (ruleOk x) 0 p.1)).2 := by
  unfold kP
  rw [judgeP_ok hp hx]
theorem keep_first {p : PolT} {x : Nat → Int} (hp : polErr p = 0) (hx : chkx x = 0) {i : Int} (hi : firstAt (ruleOk x) 0 p.1 = i) (h0 : 0 ≤ i) : keepIdx p i = true := by
  have hok : AllOk [p] := fun q hq => by rw [List.mem_singleton] at hq; subst hq; exact hp
  unfold keepIdx
  rw [List.any_eq_true]
  refine ⟨_, home_point hok hx, ?_⟩
  rw [beq_iff_eq]
  unfold kP
  rw [judge_fields (ofL_fields _), judge_home hok hx (by simp), judgeP_ok hp hx, hi, verdictAt, if_neg (by omega)]
theorem verdO_keep {p : PolT} (x : Nat → Int) (d : Int) : ∀ (l : List RuleT) (k : Nat), (∀ i, firstAt (ruleOk x) k l = i → 0 ≤ i → keepIdx p i = true) → verdO x d (keepFrom p k l) = verdO x d l
  | [], _, _ => rfl
  | r :: s, k, h => by
    unfold keepFrom
    by_cases hr : ruleOk x r = true
    · have := h k (by rw [firstAt, if_pos hr]) (by omega)
      rw [if_pos this, verdO, if_pos hr, verdO, if_pos hr]
    · have ih := verdO_keep (p := p) x d s (k + 1) fun i hi h0 => h i (by rw [firstAt, if_neg hr]; exact hi) h0
      have e : verdO x d (r :: s) = verdO x d s := by rw [verdO, if_neg hr]
      rw [e, ← ih]
      split
      · rw [verdO, if_neg hr]
      · rfl
/-- Short says of each call what the policy says. -/
theorem vP_short {p : PolT} {x : Nat → Int} (hp : polErr p = 0) (hx : chkx x = 0) : vP (shortP p) x = vP p x := by
  rw [vP_verd (shortP_ok hp) hx, vP_verd hp hx]
  show verdO x p.2 (cutEnd p.2 (keepFrom p 0 p.1)) = _
  rw [verdO_cutEnd]
  exact verdO_keep x p.2 p.1 0 fun i hi h0 => keep_first hp hx hi h0

end Go.Proofs.YtbdlojnigflanacGreatDoor
end
section
/- What package meet answers: plain data. -/
set_option linter.all false
namespace Go.Proofs.YtbdlojnigflanacGreatDoor

def meetE (exc : Bool) (p q : PolT) : Int := if polsErr [p, q] = 0 then polErr (meetP exc p q) else polsErr [p, q]
def meetR (exc : Bool) (p q : PolT) : PolT := if meetE exc p q = 0 then meetP exc p q else ([], 0)
theorem polsErr_two {p q : PolT} (h : polsErr [p, q] = 0) : polErr p = 0 ∧ polErr q = 0 := by
  have := polsErr_ok.1 h
  exact ⟨this p (by simp), this q (by simp)⟩
/-- The rules of both, as they are made: those of the first i rules of p. -/
def meetI (exc : Bool) (p q : PolT) (i : Nat) : List RuleT := (p.1.take i).flatMap fun r => q.1.map (pairR exc r) ++ [pairR exc r ([], q.2)]
theorem meetI_succ (exc : Bool) (p q : PolT) (i : Nat) (r : RuleT) (h : p.1[i]? = some r) : meetI exc p q (i + 1) = meetI exc p q i ++ q.1.map (pairR exc r) ++ [pairR exc r ([], q.2)] := by
  unfold meetI
  rw [List.take_succ, h]
  simp
theorem meetI_all (exc : Bool) (p q : PolT) : meetRs exc p q = meetI exc p q p.1.length ++ q.1.map (pairR exc ([], p.2)) := by
  unfold meetI meetRs
  rw [List.take_length]
theorem meetI_len (exc : Bool) (p q : PolT) : ∀ i, (meetI exc p q i).length ≤ i * (q.1.length + 1)
  | 0 => by simp [meetI]
  | i + 1 => by
    have ih := meetI_len exc p q i
    rw [Nat.add_mul, Nat.one_mul]
    by_cases h : i < p.1.length
    · obtain ⟨r, hr⟩ : ∃ r, p.1[i]? = some r := ⟨p.1[i], by simp [h]⟩
      rw [meetI_succ exc p q i r hr]
      simp
      omega
    · have e : meetI exc p q (i + 1) = meetI exc p q i := by
        unfold meetI
        rw [List.take_of_length_le (by omega), List.take_of_length_le (by omega)]
      rw [e]
      omega
theorem map_take_rule (g : RuleT → RuleT) (l : List RuleT) (j : Nat) (r : RuleT) (h : l[j]? = some r) : (l.take (j + 1)).map g = (l.take j).map g ++ [g r] := by
  rw [List.take_succ, h]
  simp

end Go.Proofs.YtbdlojnigflanacGreatDoor
end
section
/- Several policies in memory; what the counterpart's CheckAll says of them. -/
set_option linter.all false
set_option maxRecDepth 100000
namespace Go.Proofs.YtbdlojnigflanacGreatDoor
open Go.RowKit Go.Maps

/-- A policy in two cells. -/
def PolC (B : Nat) (w : World) (b o : Nat) (p : PolT) : Prop := ∃ rv, w.cell? ⟨b, o, none⟩ = some rv ∧ w.cell? ⟨b, o + 1, none⟩ = some (.int .i64 p.2) ∧ wf p.2 ∧ RulesAt B w rv p.1
def PolsAt (B : Nat) (w : World) (v : Value) (ps : List PolT) : Prop :=
  ∃ a cap, v = .slice a ps.length cap ∧ ps.length ≤ cap ∧ cap ≤ maxLen ∧ ∀ (i : Nat) p, ps[i]? = some p → ∃ b o, a = some ⟨b, o, none⟩ ∧ b < B ∧ PolC B w b (o + i * 2) p
theorem PolC.later {B B' : Nat} {w w' : World} {b o : Nat} {p : PolT} (h : PolC B w b o p) (hb : Below B' w w') (hB : B ≤ B') (hl : b < B) : PolC B w' b o p := by
  obtain ⟨rv, h1, h2, h3, h4⟩ := h
  exact ⟨rv, (hb.cell (p := ⟨b, o, none⟩) (by show b < B'; omega)).trans h1, (hb.cell (p := ⟨b, o + 1, none⟩) (by show b < B'; omega)).trans h2, h3, h4.later hb hB⟩
theorem PolsAt.later {B B' : Nat} {w w' : World} {v : Value} {ps : List PolT} (h : PolsAt B w v ps) (hb : Below B' w w') (hB : B ≤ B') : PolsAt B w' v ps := by
  obtain ⟨a, cap, h1, h2, h3, h4⟩ := h
  refine ⟨a, cap, h1, h2, h3, fun i c hc => ?_⟩
  obtain ⟨b, o, e, hl, k⟩ := h4 i c hc
  exact ⟨b, o, e, hl, k.later hb hB hl⟩
theorem PolC.pol {B : Nat} {w : World} {b o : Nat} {p : PolT} (h : PolC B w b o p) : ∃ a n cap, w.cell? ⟨b, o, none⟩ = some (.slice a n cap) ∧ w.cell? ⟨b, o + 1, none⟩ = some (.int .i64 p.2) ∧ PolAt B w (.agg #[.slice a n cap, .int .i64 p.2]) p := by
  obtain ⟨rv, h1, h2, h3, h4⟩ := h
  obtain ⟨a, cap, rfl, h5⟩ := h4
  exact ⟨a, _, cap, h1, h2, _, rfl, h3, a, cap, rfl, h5⟩

theorem polsErr_drop (ps : List PolT) (k : Nat) (p : PolT) (h : ps[k]? = some p) : polsErr (ps.drop k) = if polErr p = 0 then polsErr (ps.drop (k + 1)) else polErr p := by
  obtain ⟨hk, rfl⟩ := List.getElem?_eq_some_iff.1 h
  rw [List.drop_eq_getElem_cons hk]
  rfl

set_option maxHeartbeats 2000000 in
theorem checkAll_any (B : Nat) (lv : Value) (ps : List PolT) (w : World) (hl : PolsAt B w lv ps) (hB : B ≤ w.heap.size) :
    Calls Tryz.prog 222 #[lv] w fun e w' => e = .returned (.int .i64 (polsErr ps)) ∧ Below w.heap.size w w' := by
  have HL : Hid (∀ w', Below w.heap.size w w' → PolsAt B w' lv ps) := fun w' h => hl.later h hB
  obtain ⟨a, cap, rfl, hlc, hcm, -⟩ := hl
  have hml := maxLen_eq
  generalize hlen : ps.length = len at *
  have hlenH : Hid (ps.length = len) := hlen
  clear hlen
  go_enter Tryz.func222, Tryz.ntmps222
  go_wp2
  go_loopw [8] (fun iv wr => ∃ k : Nat, k ≤ len ∧ iv = .int .i64 k ∧ Hid (polsErr ps = polsErr (ps.drop k)) ∧ Below w.heap.size w wr) (fun iv _ => len - (intOf iv).toNat)
  case atStart => exact ⟨0, by omega, rfl, rfl, Below.refl _ _⟩
  case round =>
    obtain ⟨k, hk, rfl, H, hbr⟩ := hrel
    obtain ⟨wo, hwo⟩ : ∃ x, x = wr := ⟨_, rfl⟩
    subst hwo
    have i0 : (0 : Int) ≤ (k : Int) := by omega
    have hos := hbr.size
    by_cases hlt : k < len
    · have i1 : (k : Int) < (len : Int) := by omega
      obtain ⟨p, hpk⟩ : ∃ p, ps[k]? = some p := ⟨ps[k]'(by rw [hlenH.out]; omega), by simp⟩
      have S : Hid (polsErr (ps.drop k) = if polErr p = 0 then polsErr (ps.drop (k + 1)) else polErr p) := polsErr_drop ps k p hpk
      obtain ⟨_, _, e1, -, -, hat⟩ := HL.out _ hbr
      obtain ⟨b, o, e, hbB, hpc⟩ := hat k p hpk
      simp at e1
      obtain ⟨rfl, -, -⟩ := e1
      subst e
      clear hat
      obtain ⟨a2, n2, c2, k0, k1, hpa⟩ := hpc.pol
      have HPA : Hid (∀ w', Below wo.heap.size wo w' → Calls Tryz.prog 105 #[.agg #[.slice a2 n2 c2, .int .i64 p.2]] w' fun e w'' => e = .returned (.int .i64 (polErr p)) ∧ Below w'.heap.size w' w'') := fun w' h => checkPolicy_any B _ p w' (hpa.later h (Nat.le_trans hB hos)) (Nat.le_trans hB (Nat.le_trans hos h.size))
      clear hpc hpa
      by_cases he : polErr p = 0
      · rw [he] at HPA
        have S' : Hid (polsErr ps = polsErr (ps.drop (k + 1))) := by unfold Hid; rw [H.out, S.out, if_pos he]
        clear he S
        go_wp2_with (first | (go_at_call 105; go_must (refine Calls.mono (HPA.out _ ((Below.refl _ _).alloc (Nat.le_refl _) _)) ?_; rintro e w2 ⟨rfl, hb2⟩)))
        exact ⟨⟨k + 1, by omega, by go_num, S', Below.thenOf (hbr.alloc hos _) hb2 (by simp; omega)⟩, by simp [intOf]; omega⟩
      · have S' : Hid (polsErr ps = polErr p) := by unfold Hid; rw [H.out, S.out, if_neg he]
        have hq : (polErr p != 0) = true := by simpa using he
        clear he S
        generalize polErr p = pe at *
        go_wp2_with (first | (go_at_call 105; go_must (refine Calls.mono (HPA.out _ ((Below.refl _ _).alloc (Nat.le_refl _) _)) ?_; rintro e w2 ⟨rfl, hb2⟩)))
        go_ret
        exact ⟨by rw [S'.out]; rfl, Below.thenOf (hbr.alloc hos _) hb2 (by simp; omega)⟩
    · go_wp2
      go_ret
      exact ⟨by rw [H.out, List.drop_eq_nil_of_le (by rw [hlenH.out]; omega)]; rfl, hbr⟩

end Go.Proofs.YtbdlojnigflanacGreatDoor
end
