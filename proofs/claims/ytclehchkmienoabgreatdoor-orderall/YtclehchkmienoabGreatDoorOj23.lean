/- Joined: PtD0 Cpt0. -/
import Derived.Test.YtclehchkmienoabGreatDoorOj22
import Derived.Lib.SlicesCompact
section
/- What package point answers: plain data. -/
set_option linter.all false
namespace Go.Proofs.YtclehchkmienoabGreatDoor

def cutsE (ps : List PolT) (f : Int) : Int := if polsErr ps = 0 then (if 0 ≤ f ∧ f < 5 then 0 else 5) else polsErr ps
def cutsL (ps : List PolT) (f : Int) : List Int := if cutsE ps f = 0 then cutsP ps f else []
def homeE (ps : List PolT) (x : Nat → Int) : Int := if chkx x = 0 then polsErr ps else chkx x
def homeC (ps : List PolT) (x : Nat → Int) : Nat → Int := if homeE ps x = 0 then homeP ps x else fun _ => 0
theorem pointsL_five (ps : List PolT) : ∀ x ∈ pointsL ps, ∃ a b c d e, x = [a, b, c, d, e] := by
  intro x h
  unfold pointsL at h
  split at h
  · have h' := (mem_prodL _ _).1 h
    unfold cuts5 at h'
    match x, h' with
    | [a, b, c, d, e], _ => exact ⟨a, b, c, d, e, rfl⟩
  · cases h

end Go.Proofs.YtclehchkmienoabGreatDoor
end
section
/- Cuts as package point gathers them, points as it spreads them, homes as it searches them: plain facts. -/
set_option linter.all false
namespace Go.Proofs.YtclehchkmienoabGreatDoor

/-! What is left of a sorted list where neighbours that are the same are made one. -/
theorem compactUpTo_sorted (d : Array Int) (n : Nat) (hd : ∀ a b, a ≤ b → b < n → d[a]! ≤ d[b]!) : ∀ m, m ≤ n → Rising (Lib.compactUpTo d m) ∧ ∀ x, x ∈ Lib.compactUpTo d m ↔ ∃ j, j < m ∧ d[j]! = x
  | 0, _ => ⟨List.Pairwise.nil, fun x => ⟨fun h => by simp [Lib.compactUpTo] at h, fun ⟨j, hj, _⟩ => by omega⟩⟩
  | m + 1, hm => by
    obtain ⟨h1, h2⟩ := compactUpTo_sorted d n hd m (by omega)
    rw [Lib.compactUpTo_succ]
    by_cases hk : Lib.keeps d m = true
    · rw [if_pos hk]
      refine ⟨List.pairwise_append.2 ⟨h1, List.pairwise_singleton _ _, fun a ha b hb => ?_⟩, fun x => ?_⟩
      · obtain ⟨j, hj, rfl⟩ := (h2 a).1 ha
        rw [List.mem_singleton] at hb
        subst hb
        have hne : d[m]! ≠ d[m - 1]! := by
          simp [Lib.keeps] at hk
          rcases hk with h | h
          · omega
          · exact h
        have a1 := hd j (m - 1) (by omega) (by omega)
        have a2 := hd (m - 1) m (by omega) (by omega)
        omega
      · rw [List.mem_append, h2, List.mem_singleton]
        constructor
        · rintro (⟨j, hj, h⟩ | h)
          · exact ⟨j, by omega, h⟩
          · exact ⟨m, by omega, h.symm⟩
        · rintro ⟨j, hj, h⟩
          by_cases e : j = m
          · subst e; exact .inr h.symm
          · exact .inl ⟨j, by omega, h⟩
    · rw [if_neg hk, List.append_nil]
      refine ⟨h1, fun x => ?_⟩
      rw [h2]
      have h3 : m ≠ 0 ∧ d[m]! = d[m - 1]! := by
        simp [Lib.keeps] at hk
        exact hk
      constructor
      · rintro ⟨j, hj, h⟩
        exact ⟨j, by omega, h⟩
      · rintro ⟨j, hj, h⟩
        by_cases e : j = m
        · subst e
          exact ⟨j - 1, by omega, by rw [← h3.2]; exact h⟩
        · exact ⟨j, by omega, h⟩
theorem compact_sorted (zs : List Int) (h : zs.Pairwise (· ≤ ·)) : Rising (Lib.compact zs) ∧ ∀ x, x ∈ Lib.compact zs ↔ x ∈ zs := by
  have hd : ∀ a b, a ≤ b → b < zs.length → zs.toArray[a]! ≤ zs.toArray[b]! := by
    intro a b hab hb
    have e : ∀ i, (hi : i < zs.length) → zs.toArray[i]! = zs[i] := fun i hi => by simp [getElem!_pos, hi]
    rw [e a (by omega), e b hb]
    by_cases e' : a = b
    · subst e'; exact Int.le_refl _
    · exact List.pairwise_iff_getElem.1 h a b (by omega) hb (by omega)
  obtain ⟨h1, h2⟩ := compactUpTo_sorted zs.toArray zs.length hd zs.length (Nat.le_refl _)
  refine ⟨h1, fun x => (h2 x).trans ⟨?_, ?_⟩⟩
  · rintro ⟨j, hj, rfl⟩
    have e : zs.toArray[j]! = zs[j] := by simp [getElem!_pos, hj]
    rw [e]
    exact List.getElem_mem _
  · intro hx
    obtain ⟨j, hj, rfl⟩ := List.getElem_of_mem hx
    exact ⟨j, hj, by simp [getElem!_pos, hj]⟩
theorem merged_sorted (xs : List Int) : (xs.mergeSort fun x y => decide (x ≤ y)).Pairwise (· ≤ ·) :=
  (List.pairwise_mergeSort (le := fun x y : Int => decide (x ≤ y)) (fun a b c => by simp only [decide_eq_true_eq]; omega) (fun a b => by simp only [Bool.or_eq_true, decide_eq_true_eq]; omega) xs).imp fun h => by simpa using h

/-! What is gathered. -/
def condCutsD (f : Int) (c : CondT) : List Int := if c.1 = f then (if (c.2.1 = 1 ∨ c.2.1 = 2) ∧ c.2.2 < most f then [c.2.2, c.2.2 + 1] else [c.2.2]) else []
def gathD (f : Int) (cs : List CondT) : List Int := 0 :: cs.flatMap (condCutsD f)
theorem gathD_snoc (f : Int) (cs : List CondT) (c : CondT) : gathD f (cs ++ [c]) = gathD f cs ++ condCutsD f c := by simp [gathD]
theorem condCutsD_len (f : Int) (c : CondT) : (condCutsD f c).length ≤ 2 := by
  unfold condCutsD
  split
  · split <;> simp
  · simp
theorem gathD_len (f : Int) : ∀ cs : List CondT, (gathD f cs).length ≤ 2 * cs.length + 1
  | [] => by simp [gathD]
  | c :: cs => by
    have h1 := gathD_len f cs
    have h2 := condCutsD_len f c
    unfold gathD at h1 ⊢
    simp only [List.length_cons, List.flatMap_cons, List.length_append] at h1 ⊢
    omega
theorem mem_gathD {ps : List PolT} (h : AllOk ps) (f n : Int) : n ∈ gathD f (polsConds ps) ↔ n ∈ cutsP ps f := by
  rw [mem_cutsP]
  unfold gathD
  rw [List.mem_cons, List.mem_flatMap]
  constructor
  · rintro (rfl | ⟨c, hc, hn⟩)
    · exact ⟨.inl rfl, most_nn f⟩
    · have hv := (condErr_ok (conds_ok h c hc)).2.2
      unfold condCutsD at hn
      split at hn
      · rename_i hf
        rw [hf] at hv
        split at hn
        · rename_i ho
          simp at hn
          rcases hn with rfl | rfl
          · exact ⟨.inr ⟨c, hc, hf, .inl rfl⟩, hv.2⟩
          · exact ⟨.inr ⟨c, hc, hf, .inr ⟨rfl, ho.1⟩⟩, by omega⟩
        · simp at hn
          subst hn
          exact ⟨.inr ⟨c, hc, hf, .inl rfl⟩, hv.2⟩
      · simp at hn
  · rintro ⟨rfl | ⟨c, hc, hf, hn⟩, hm⟩
    · exact .inl rfl
    · refine .inr ⟨c, hc, ?_⟩
      unfold condCutsD
      rw [if_pos hf]
      rcases hn with rfl | ⟨rfl, ho⟩
      · split <;> simp
      · rw [if_pos ⟨ho, by omega⟩]
        simp
theorem gathered_cuts {ps : List PolT} (h : AllOk ps) (f : Int) : Lib.compact ((gathD f (polsConds ps)).mergeSort fun x y => decide (x ≤ y)) = cutsP ps f := by
  obtain ⟨h1, h2⟩ := compact_sorted _ (merged_sorted (gathD f (polsConds ps)))
  refine rising_ext _ _ h1 (cutsP_rising ps f) fun x => ?_
  rw [h2, List.mem_mergeSort, mem_gathD h]

/-! Points, field by field. -/
theorem prodL_snoc (L : List Int) : ∀ Ls : List (List Int), prodL (Ls ++ [L]) = (prodL Ls).flatMap fun x => L.map fun c => x ++ [c]
  | [] => by
    show L.flatMap (fun a => [[a]]) = [[]].flatMap fun x => L.map fun c => x ++ [c]
    simp
    induction L with
    | nil => rfl
    | cons a L ih => simp [ih]
  | M :: Ls => by
    rw [List.cons_append, prodL_cons, prodL_cons, prodL_snoc L Ls, List.flatMap_assoc]
    congr 1
    funext a
    rw [List.map_flatMap, List.flatMap_map]
    congr 1
    funext x
    simp
def padC (x : List Int) : List Int := x ++ List.replicate (5 - x.length) 0
/-- The points of the first k fields, all other fields 0. -/
def ptsK (ps : List PolT) (k : Nat) : List (List Int) := (prodL ((cuts5 ps).take k)).map padC
theorem prodL_five : ∀ (Ls : List (List Int)) (x : List Int), x ∈ prodL Ls → x.length = Ls.length
  | [], x, h => by
    have : x = [] := by simpa [prodL] using h
    subst this; rfl
  | L :: Ls, x, h => by
    rw [prodL_cons, List.mem_flatMap] at h
    obtain ⟨a, _, h⟩ := h
    obtain ⟨y, hy, rfl⟩ := List.mem_map.1 h
    simp [prodL_five Ls y hy]
theorem padC_len (x : List Int) (h : x.length ≤ 5) : (padC x).length = 5 := by unfold padC; simp; omega
theorem padC_set (x : List Int) (c : Int) (h : x.length < 5) : (padC x).set x.length c = padC (x ++ [c]) := by
  unfold padC
  obtain ⟨m, hm⟩ : ∃ m, 5 - x.length = m + 1 := ⟨5 - x.length - 1, by omega⟩
  rw [hm, List.set_append_right _ _ (Nat.le_refl _), Nat.sub_self, List.replicate_succ, List.set_cons_zero]
  rw [show 5 - (x ++ [c]).length = m by simp; omega]
  simp
theorem ptsK_zero (ps : List PolT) : ptsK ps 0 = [[0, 0, 0, 0, 0]] := rfl
theorem ptsK_len5 (ps : List PolT) (k : Nat) (hk : k ≤ 5) : ∀ x ∈ ptsK ps k, x.length = 5 := by
  intro x hx
  obtain ⟨y, hy, rfl⟩ := List.mem_map.1 hx
  have := prodL_five _ y hy
  exact padC_len y (by rw [this, List.length_take]; omega)
theorem ptsK_succ (ps : List PolT) (k : Nat) (hk : k < 5) : ptsK ps (k + 1) = (ptsK ps k).flatMap fun x => (cutsP ps k).map fun c => x.set k c := by
  unfold ptsK
  have h := cuts5_get ps k hk
  rw [List.take_succ, h]
  show (prodL ((cuts5 ps).take k ++ [cutsP ps k])).map padC = _
  rw [prodL_snoc, List.map_flatMap, List.flatMap_map]
  rw [List.flatMap_def, List.flatMap_def]
  congr 1
  refine List.map_congr_left fun x hx => ?_
  have hl : x.length = k := by
    rw [prodL_five _ x hx, List.length_take, show (cuts5 ps).length = 5 from rfl]
    omega
  rw [List.map_map]
  refine List.map_congr_left fun c _ => ?_
  show padC (x ++ [c]) = (padC x).set k c
  rw [← padC_set x c (by omega), hl]
theorem ptsK_length (ps : List PolT) : ∀ k, k ≤ 5 → (ptsK ps k).length = lenP ps k
  | 0, _ => rfl
  | k + 1, h => by
    rw [ptsK_succ ps k (by omega), length_flatMap_const _ (cutsP ps k).length _ (fun a _ => by simp), ptsK_length ps k (by omega)]
    rfl
theorem ptsK_five (ps : List PolT) : ptsK ps 5 = pointsP ps := by
  unfold ptsK pointsP
  rw [show (cuts5 ps).take 5 = cuts5 ps from rfl]
  refine (List.map_congr_left fun x hx => ?_).trans (List.map_id _)
  have := prodL_five _ x hx
  unfold padC
  rw [this]
  simp [cuts5]

/-! Homes, searched. -/
theorem lastLe_found (v : Int) (L : List Int) (k : Nat) (hk0 : 0 < k) (hk : k ≤ L.length) (h1 : ∀ (t : Nat) n, t < k → L[t]? = some n → n ≤ v) (h2 : ∀ (t : Nat) n, k ≤ t → L[t]? = some n → v < n) : L[k - 1]? = some (lastLe v 0 L) := by
  have low : ∀ i, i < k → L[i]? = some (lastLe v 0 (L.take (i + 1))) := by
    intro i hi
    obtain ⟨n, hn⟩ : ∃ n, L[i]? = some n := ⟨L[i]'(by omega), by simp⟩
    rw [lastLe_take v L i n hn, if_pos (h1 i n hi hn), hn]
  have high : ∀ m, k + m ≤ L.length → lastLe v 0 (L.take (k + m)) = lastLe v 0 (L.take k) := by
    intro m
    induction m with
    | zero => intro _; rfl
    | succ m ih =>
      intro hm
      obtain ⟨n, hn⟩ : ∃ n, L[k + m]? = some n := ⟨L[k + m]'(by omega), by simp⟩
      have := h2 (k + m) n (by omega) hn
      rw [← Nat.add_assoc, lastLe_take v L (k + m) n hn, if_neg (by omega), ih (by omega)]
  have e := high (L.length - k) (by omega)
  rw [show k + (L.length - k) = L.length by omega, List.take_length] at e
  rw [e, low (k - 1) (by omega), show k - 1 + 1 = k by omega]
theorem rising_le {L : List Int} (h : Rising L) {i j : Nat} {a b : Int} (hij : i ≤ j) (ha : L[i]? = some a) (hb : L[j]? = some b) : a ≤ b := by
  obtain ⟨hi, rfl⟩ := List.getElem?_eq_some_iff.1 ha
  obtain ⟨hj, rfl⟩ := List.getElem?_eq_some_iff.1 hb
  by_cases e : i = j
  · subst e; exact Int.le_refl _
  · exact Int.le_of_lt (List.pairwise_iff_getElem.1 h i j hi hj (by omega))
theorem cuts_first {ps : List PolT} (h : AllOk ps) (f : Int) : (cutsP ps f)[0]? = some 0 := by
  obtain ⟨j, hj, e⟩ := List.getElem_of_mem (zero_cut ps f)
  obtain ⟨a, ha⟩ : ∃ a, (cutsP ps f)[0]? = some a := ⟨(cutsP ps f)[0]'(by omega), by simp⟩
  have h1 := (cut_range h (List.mem_of_getElem? ha)).1
  have h2 := rising_le (cutsP_rising ps f) (Nat.zero_le j) ha (b := 0) (by simp [e, hj])
  rw [ha]
  congr 1
  omega

end Go.Proofs.YtclehchkmienoabGreatDoor
end
