/- Joined: Open First Pnt0. -/
import Derived.Test.YtbjpdmfedphacacGreatDoorRows
import Derived.Test.YtbjpdmfedphacacGreatDoorCj07
import Derived.ProofKit
import Derived.OpenShut
import Derived.ShutString
import Derived.ChangeOld
import Derived.Below
import Derived.Deep.SlicePairs
import Derived.Deep.Strs
import Derived.Test.YtbjpdmfedphacacGreatDoorCj06
section
/- Policies and calls that came in, as plain data; all arguments behind a call that turned nothing old. -/
set_option linter.all false
set_option maxRecDepth 100000
namespace Go.Proofs.YtbjpdmfedphacacGreatDoor
open Go.ChangeShapes Go.WideShapes Go.ChangeAt Go.RowKit Go.Deep

section
variable {H : Type} {enc : TypeId × Value → H} {W : World} {base : Nat} {sp : Nat → Bool} {held : Bool}

theorem open_conds {fuel : Nat} {cv : Value} {x : DataW H × List MemPlace} (h : DataW.trod enc Tryz.prog W base sp held fuel 49 [cv] = some x) : ∃ cs, CondsAt W.heap.size W cv cs := by
  rcases open_slice Tryz.underlying49 h with ⟨h0, _⟩ | ⟨a, len, cap, m, n, D, Pl, h0, _, hl, hm, hmm, _, hx⟩
  · simp at h0
    subst h0
    exact ⟨[], none, 0, rfl, Nat.le_refl _, Nat.zero_le _, fun i c hc => by simp at hc⟩
  · simp at h0
    subst h0
    have h3 : Tryz.prog.cellsOf 55 = 3 := by kernel_rfl
    have h1 : Tryz.prog.cellsOf 3 = 1 := by kernel_rfl
    rw [h3] at hx
    have hlm : len ≤ m := by rw [hmm]; split <;> omega
    have each : ∀ i, i < len → ∃ c : CondT, a = ⟨a.block, a.off, none⟩ ∧ a.block < W.heap.size ∧ CondAt W a.block (a.off + i * 3) c := by
      intro i hi
      have h00 : W.cell? (a.add 0) ≠ none := by
        obtain ⟨cs', g1, _⟩ := hx 0 (by omega)
        obtain ⟨_, hlen, hcell⟩ := World.cells?_some g1
        have := hcell 0 (by omega)
        rw [add_add] at this
        simp at this
        match cs', hlen with
        | [v0, v1, v2], _ => simp at this ⊢; rw [this]; simp
      obtain ⟨v, hv⟩ := Option.ne_none_iff_exists'.1 h00
      obtain ⟨ha, hb⟩ := addr_plain hv
      obtain ⟨cs', g1, g2⟩ := hx i (by omega)
      obtain ⟨_, hlen, hcell⟩ := World.cells?_some g1
      obtain ⟨y0, y1, y2, k, _, _, e0, e1, e2⟩ := trod_struct3 Tryz.underlying55 g2
      match cs', hlen with
      | [v0, v1, v2], _ =>
        simp [h1] at e0 e1 e2
        obtain ⟨f, q0, _, w0⟩ := DataW.trod_int Tryz.underlying3 e0
        obtain ⟨o, q1, _, w1⟩ := DataW.trod_int Tryz.underlying3 e1
        obtain ⟨u, q2, _, w2⟩ := DataW.trod_int Tryz.underlying3 e2
        simp at q0 q1 q2
        subst q0 q1 q2
        have c0 := hcell 0 (by omega)
        have c1 := hcell 1 (by omega)
        have c2 := hcell 2 (by omega)
        rw [add_add, ha, add_at] at c0 c1 c2
        exact ⟨(f, o, u), ha, hb, by simpa using c0, by simpa [Nat.add_assoc] using c1, by simpa [Nat.add_assoc] using c2, w0, w1, w2⟩
    obtain ⟨cs, hcl, hcp⟩ := list_of _ len each
    refine ⟨cs, some a, cap, by rw [hcl], by omega, hm, fun i c hc => ?_⟩
    obtain ⟨ha, hb, hat⟩ := hcp i c hc
    exact ⟨a.block, a.off, by rw [← ha], hb, hat⟩

theorem open_rules {fuel : Nat} {rv : Value} {x : DataW H × List MemPlace} (h : DataW.trod enc Tryz.prog W base sp held fuel 22 [rv] = some x) : ∃ rs, RulesAt W.heap.size W rv rs := by
  rcases open_slice_pairs Tryz.underlying22 Tryz.underlying51 (by kernel_rfl) rfl rfl (by kernel_rfl) (by kernel_rfl) h with ⟨h0, _⟩ | ⟨a, len, cap, m, n, V0, V1, _, _, _, _, h0, _, hl, hm, hmm, _, hx⟩
  · simp at h0
    subst h0
    exact ⟨[], none, 0, rfl, Nat.le_refl _, Nat.zero_le _, fun i c hc => by simp at hc⟩
  · simp at h0
    subst h0
    have hlm : len ≤ m := by rw [hmm]; split <;> omega
    have each : ∀ i, i < len → ∃ r : RuleT, a = ⟨a.block, a.off, none⟩ ∧ a.block < W.heap.size ∧ RuleAt W.heap.size W a.block (a.off + i * 2) r := by
      intro i hi
      obtain ⟨ha, hb⟩ := addr_plain (hx 0 (by omega)).1
      obtain ⟨c0, c1, t0, t1⟩ := hx i (by omega)
      obtain ⟨cs, hcs⟩ := open_conds t0
      obtain ⟨v, q1, _, w1⟩ := DataW.trod_int Tryz.underlying3 t1
      simp at q1
      rw [q1] at c1
      rw [ha, add_at] at c0 c1
      exact ⟨(cs, v), ha, hb, V0 i, c0, by simpa [Nat.add_assoc] using c1, w1, hcs⟩
    obtain ⟨rs, hrl, hrp⟩ := list_of _ len each
    refine ⟨rs, some a, cap, by rw [hrl], by omega, hm, fun i r hr => ?_⟩
    obtain ⟨ha, hb, hat⟩ := hrp i r hr
    exact ⟨a.block, a.off, by rw [← ha], hb, hat⟩
end

/-- A policy that came in. -/
theorem open_pol {H : Type} {enc : TypeId × Value → H} {W : World} {r : Reach} {b0 base : Nat} {sp : Nat → Bool} {held : Bool} {v : Value} {d : DataW H} {p : List MemPlace}
    (hv : Value.okWide Tryz.prog W r b0 24 v) (h : DataW.Trod enc Tryz.prog W base sp held 24 v d p) : ∃ pp, PolAt W.heap.size W v pp := by
  obtain ⟨cs, rfl, hsz⟩ := okWide_struct Tryz.underlying24 hv
  obtain ⟨fuel, hf⟩ := h
  obtain ⟨y0, y1, n, _, _, t0, t1⟩ := trod_struct2 Tryz.underlying24 hf
  have h2 : Tryz.prog.cellsOf 24 = 2 := by kernel_rfl
  have hr1 : Tryz.prog.cellsOf 22 = 1 := by kernel_rfl
  have hi1 : Tryz.prog.cellsOf 3 = 1 := by kernel_rfl
  rw [h2] at hsz
  obtain ⟨l⟩ := cs
  match l, hsz with
  | [c0, c1], _ =>
    simp [Value.cells, hr1, hi1] at t0 t1
    obtain ⟨rs, hrs⟩ := open_rules t0
    obtain ⟨dd, q1, _, w1⟩ := DataW.trod_int Tryz.underlying3 t1
    simp at q1
    subst q1
    exact ⟨(rs, dd), c0, rfl, w1, hrs⟩

/-- What every row's first world gives. -/
theorem env_of_shaped {W : World} (h : W.ShapedOpen Tryz.prog) : EnvAt W := Tryz.laysM145.s1_3 W h

end Go.Proofs.YtbjpdmfedphacacGreatDoor
end
section
/- What a judgement says of a policy whose end is another one, and of one with a rule left out. -/
set_option linter.all false
namespace Go.Proofs.YtbjpdmfedphacacGreatDoor

theorem firstAt_eq {α : Type} (f : α → Bool) : ∀ (l : List α) (k0 j : Nat) (c : α), l[j]? = some c → f c = true → (∀ i, i < j → ∀ c, l[i]? = some c → f c = false) → firstAt f k0 l = ((k0 + j : Nat) : Int)
  | [], _, _, _, h, _, _ => by simp at h
  | d :: r, k0, 0, c, h, hf, _ => by
    simp at h
    subst h
    simp [firstAt, hf]
  | d :: r, k0, j + 1, c, h, hf, hn => by
    have h0 := hn 0 (by omega) d rfl
    have ih := firstAt_eq f r (k0 + 1) j c (by simpa using h) hf (fun i hi c hc => hn (i + 1) (by omega) c (by simpa using hc))
    unfold firstAt
    rw [if_neg (by simp [h0]), ih]
    congr 1
    omega
theorem firstAt_no {α : Type} (f : α → Bool) : ∀ (l : List α) (k0 : Nat), (∀ c ∈ l, f c = false) → firstAt f k0 l = -1
  | [], _, _ => rfl
  | d :: r, k0, h => by
    unfold firstAt
    rw [if_neg (by simp [h d (by simp)])]
    exact firstAt_no f r (k0 + 1) fun c hc => h c (by simp [hc])
theorem firstAt_inv {α : Type} (f : α → Bool) : ∀ (l : List α) (k0 : Nat), (firstAt f k0 l = -1 ∧ ∀ c ∈ l, f c = false) ∨ ∃ j c, firstAt f k0 l = ((k0 + j : Nat) : Int) ∧ l[j]? = some c ∧ f c = true ∧ ∀ i, i < j → ∀ c, l[i]? = some c → f c = false
  | [], _ => .inl ⟨rfl, fun c hc => by cases hc⟩
  | d :: r, k0 => by
    by_cases hd : f d = true
    · exact .inr ⟨0, d, by simp [firstAt, hd], rfl, hd, fun i hi => by omega⟩
    · have hd' : f d = false := by simpa using hd
      have e : firstAt f k0 (d :: r) = firstAt f (k0 + 1) r := by
        show (if f d then (k0 : Int) else _) = _
        rw [if_neg hd]
      rcases firstAt_inv f r (k0 + 1) with ⟨h1, h2⟩ | ⟨j, c, h1, h2, h3, h4⟩
      · refine .inl ⟨e.trans h1, fun c hc => ?_⟩
        rcases List.mem_cons.1 hc with rfl | hc
        · exact hd'
        · exact h2 c hc
      · refine .inr ⟨j + 1, c, ?_, by simpa using h2, h3, fun i hi c hc => ?_⟩
        · rw [e, h1]; congr 1; omega
        · cases i with
          | zero => simp at hc; subst hc; exact hd'
          | succ i => exact h4 i (by omega) c (by simpa using hc)

theorem rulesErr_of {rs : List RuleT} (h : ∀ r ∈ rs, ruleErr r = 0) : rulesErr rs = 0 := by
  induction rs with
  | nil => rfl
  | cons r s ih =>
    unfold rulesErr
    rw [if_pos (h r (by simp))]
    exact ih fun r hr => h r (by simp [hr])
theorem polErr_of {p : PolT} (h1 : p.1.length ≤ 120) (h2 : verdictOk p.2 = true) (h3 : ∀ r ∈ p.1, ruleErr r = 0) : polErr p = 0 := by
  unfold polErr
  rw [if_neg (by omega), if_pos h2]
  exact rulesErr_of h3

theorem judgeP_ok {p : PolT} {x : Nat → Int} (hp : polErr p = 0) (hx : chkx x = 0) : judgeP p x = ((verdictAt p (firstAt (ruleOk x) 0 p.1)).1, (verdictAt p (firstAt (ruleOk x) 0 p.1)).2, 0) := by
  unfold judgeP
  rw [if_pos hp, if_pos hx]
theorem judgeP_bad {p : PolT} {x : Nat → Int} (hx : chkx x = 0) (hp : polErr p ≠ 0) : judgeP p x = (0, 0, polErr p) := by
  unfold judgeP
  rw [if_neg hp]

/-- All that the law wants of a judgement. -/
theorem judge_facts (p : PolT) (x : Nat → Int) (hp : polErr p = 0) (hx : chkx x = 0) : ∃ (v : Int) (k : Nat), judgeP p x = (v, (k : Int), 0) ∧ k ≤ p.1.length ∧
    (k < p.1.length → ∀ more, polErr (p.1.take (k + 1) ++ more, p.2) = 0 → judgeP (p.1.take (k + 1) ++ more, p.2) x = (v, (k : Int), 0)) ∧
    (∀ i, i < k → judgeP (p.1.eraseIdx i, p.2) x = (v, (k : Int) - 1, 0)) := by
  obtain ⟨hl, hv, hr⟩ := polErr_ok hp
  have hall := rulesErr_all hr
  have hout : ∀ i, polErr (p.1.eraseIdx i, p.2) = 0 := fun i => polErr_of (Nat.le_trans (List.length_eraseIdx_le _ _) hl) hv fun r h => hall r (List.mem_of_mem_eraseIdx h)
  rw [judgeP_ok hp hx]
  rcases firstAt_inv (ruleOk x) p.1 0 with ⟨h1, h2⟩ | ⟨j, c, h1, h2, h3, h4⟩
  · refine ⟨p.2, p.1.length, by rw [h1]; rfl, Nat.le_refl _, fun h => absurd h (Nat.lt_irrefl _), fun i hi => ?_⟩
    rw [judgeP_ok (hout i) hx]
    have e := firstAt_no (ruleOk x) (p.1.eraseIdx i) 0 fun c hc => h2 c (List.mem_of_mem_eraseIdx hc)
    simp only [e, verdictAt]
    have : ((p.1.eraseIdx i).length : Int) = (p.1.length : Int) - 1 := by rw [List.length_eraseIdx_of_lt hi]; omega
    simp [this]
  · rw [Nat.zero_add] at h1
    have hj : j < p.1.length := (List.getElem?_eq_some_iff.1 h2).1
    have hget : ∀ (l : List RuleT) (m : Nat), l[m]? = some c → verdictAt (l, p.2) (m : Int) = (c.2, (m : Int)) := fun l m h => by
      unfold verdictAt
      rw [if_neg (by omega)]
      simp [h]
    have hgp : verdictAt p (j : Int) = (c.2, (j : Int)) := hget p.1 j h2
    refine ⟨c.2, j, by rw [h1, hgp], by omega, fun _ more hq => ?_, fun i hi => ?_⟩
    · rw [judgeP_ok hq hx]
      have hin : ∀ m, m ≤ j → (p.1.take (j + 1) ++ more)[m]? = p.1[m]? := fun m hm => by
        rw [List.getElem?_append_left (by simp; omega), List.getElem?_take_of_lt (by omega)]
      have e := firstAt_eq (ruleOk x) (p.1.take (j + 1) ++ more) 0 j c ((hin j (Nat.le_refl _)).trans h2) h3 fun i hi c hc => h4 i hi c (by rw [← hin i (by omega)]; exact hc)
      rw [Nat.zero_add] at e
      simp only [e]
      rw [hget _ j ((hin j (Nat.le_refl _)).trans h2)]
    · rw [judgeP_ok (hout i) hx]
      have h2' : (p.1.eraseIdx i)[j - 1]? = some c := by
        rw [List.getElem?_eraseIdx_of_ge (by omega), show j - 1 + 1 = j by omega]; exact h2
      have e := firstAt_eq (ruleOk x) (p.1.eraseIdx i) 0 (j - 1) c h2' h3 fun m hm c hc => by
        by_cases hmi : m < i
        · rw [List.getElem?_eraseIdx_of_lt hmi] at hc; exact h4 m (by omega) c hc
        · rw [List.getElem?_eraseIdx_of_ge (by omega)] at hc; exact h4 (m + 1) (by omega) c hc
      rw [Nat.zero_add] at e
      simp only [e]
      rw [hget _ _ h2', show ((j - 1 : Nat) : Int) = (j : Int) - 1 by omega]
end Go.Proofs.YtbjpdmfedphacacGreatDoor
end
section
/- Cuts, homes and points as plain data: each policy says of a call what it says of its home. -/
set_option linter.all false
namespace Go.Proofs.YtbjpdmfedphacacGreatDoor

/-! Lists that rise, each number once. -/
def insS (n : Int) : List Int → List Int
  | [] => [n]
  | m :: r => if n < m then n :: m :: r else if n = m then m :: r else m :: insS n r
def sortS (l : List Int) : List Int := l.foldr insS []
def Rising (l : List Int) : Prop := l.Pairwise (· < ·)
theorem mem_insS (n x : Int) : ∀ l : List Int, x ∈ insS n l ↔ x = n ∨ x ∈ l
  | [] => by simp [insS]
  | m :: r => by
    unfold insS
    split
    · simp
    · split
      · rename_i h; subst h; simp
      · simp only [List.mem_cons, mem_insS n x r]
        constructor
        · rintro (h | h | h) <;> simp [h]
        · rintro (h | h | h) <;> simp [h]
theorem insS_rising (n : Int) : ∀ l : List Int, Rising l → Rising (insS n l)
  | [], _ => by simp [insS, Rising]
  | m :: r, h => by
    have h' := List.pairwise_cons.1 h
    unfold insS
    split
    · rename_i hn
      refine List.pairwise_cons.2 ⟨fun x hx => ?_, h⟩
      rcases List.mem_cons.1 hx with rfl | hx
      · exact hn
      · have := h'.1 x hx; omega
    · split
      · exact h
      · rename_i h1 h2
        refine List.pairwise_cons.2 ⟨fun x hx => ?_, insS_rising n r h'.2⟩
        rcases (mem_insS n x r).1 hx with rfl | hx
        · omega
        · exact h'.1 x hx
theorem mem_sortS (x : Int) : ∀ l : List Int, x ∈ sortS l ↔ x ∈ l
  | [] => by simp [sortS]
  | n :: l => by
    show x ∈ insS n (sortS l) ↔ _
    rw [mem_insS, mem_sortS x l, List.mem_cons]
theorem sortS_rising : ∀ l : List Int, Rising (sortS l)
  | [] => List.Pairwise.nil
  | n :: l => insS_rising n _ (sortS_rising l)
/-- Two that rise and have the same members are the same. -/
theorem rising_ext : ∀ (l m : List Int), Rising l → Rising m → (∀ x, x ∈ l ↔ x ∈ m) → l = m
  | [], [], _, _, _ => rfl
  | [], b :: m, _, _, h => by have := (h b).2 (by simp); simp at this
  | a :: l, [], _, _, h => by have := (h a).1 (by simp); simp at this
  | a :: l, b :: m, hl, hm, h => by
    have hl' := List.pairwise_cons.1 hl
    have hm' := List.pairwise_cons.1 hm
    have hab : a = b := by
      rcases List.mem_cons.1 ((h a).1 (by simp)) with e | e
      · exact e
      · rcases List.mem_cons.1 ((h b).2 (by simp)) with e' | e'
        · exact e'.symm
        · have := hl'.1 b e'; have := hm'.1 a e; omega
    subst hab
    congr 1
    refine rising_ext l m hl'.2 hm'.2 fun x => ?_
    constructor
    · intro hx
      rcases List.mem_cons.1 ((h x).1 (by simp [hx])) with e | e
      · have := hl'.1 x hx; omega
      · exact e
    · intro hx
      rcases List.mem_cons.1 ((h x).2 (by simp [hx])) with e | e
      · have := hm'.1 x hx; omega
      · exact e

/-! Cuts. -/
def condCuts (f : Int) (c : CondT) : List Int := if c.1 = f then (if c.2.1 = 1 ∨ c.2.1 = 2 then [c.2.2, c.2.2 + 1] else [c.2.2]) else []
def polConds (p : PolT) : List CondT := p.1.flatMap (·.1)
def polsConds (l : List PolT) : List CondT := l.flatMap polConds
def rawCuts (f : Int) (cs : List CondT) : List Int := 0 :: cs.flatMap (condCuts f)
def cutsP (l : List PolT) (f : Int) : List Int := sortS ((rawCuts f (polsConds l)).filter fun n => decide (n ≤ most f))
theorem mem_cutsP {l : List PolT} {f n : Int} : n ∈ cutsP l f ↔ (n = 0 ∨ ∃ c ∈ polsConds l, c.1 = f ∧ (c.2.2 = n ∨ c.2.2 + 1 = n ∧ (c.2.1 = 1 ∨ c.2.1 = 2))) ∧ n ≤ most f := by
  unfold cutsP rawCuts
  rw [mem_sortS, List.mem_filter, List.mem_cons, List.mem_flatMap, decide_eq_true_eq]
  constructor
  · rintro ⟨h, hm⟩
    refine ⟨?_, hm⟩
    rcases h with h | ⟨c, hc, h⟩
    · exact .inl h
    · refine .inr ⟨c, hc, ?_⟩
      unfold condCuts at h
      split at h
      · rename_i hf
        split at h
        · rename_i ho
          simp at h
          exact ⟨hf, by rcases h with h | h
                        · exact .inl h.symm
                        · exact .inr ⟨h.symm, ho⟩⟩
        · simp at h
          exact ⟨hf, .inl h.symm⟩
      · simp at h
  · rintro ⟨h, hm⟩
    refine ⟨?_, hm⟩
    rcases h with h | ⟨c, hc, hf, h⟩
    · exact .inl h
    · refine .inr ⟨c, hc, ?_⟩
      unfold condCuts
      rw [if_pos hf]
      rcases h with h | ⟨h, ho⟩
      · split <;> simp [h]
      · rw [if_pos ho]; simp [h]
theorem cutsP_rising (l : List PolT) (f : Int) : Rising (cutsP l f) := sortS_rising _
theorem most_nn (f : Int) : 0 ≤ most f := by
  unfold most
  split
  · omega
  · split <;> omega
theorem zero_cut (l : List PolT) (f : Int) : 0 ∈ cutsP l f := mem_cutsP.2 ⟨.inl rfl, most_nn f⟩
theorem cutsP_ne (l : List PolT) (f : Int) : cutsP l f ≠ [] := fun h => by have := zero_cut l f; rw [h] at this; simp at this

/-- Right policies. -/
def AllOk (l : List PolT) : Prop := ∀ p ∈ l, polErr p = 0
theorem conds_ok {l : List PolT} (h : AllOk l) : ∀ c ∈ polsConds l, condErr c = 0 := by
  intro c hc
  obtain ⟨p, hp, hc⟩ := List.mem_flatMap.1 hc
  obtain ⟨r, hr, hc⟩ := List.mem_flatMap.1 hc
  exact condsErr_all (ruleErr_ok (rulesErr_all (polErr_ok (h p hp)).2.2 r hr)).2.2 c hc
theorem cut_range {l : List PolT} (h : AllOk l) {f n : Int} (hn : n ∈ cutsP l f) : 0 ≤ n ∧ n ≤ most f := by
  obtain ⟨h1, h2⟩ := mem_cutsP.1 hn
  refine ⟨?_, h2⟩
  rcases h1 with h1 | ⟨c, hc, _, h1⟩
  · omega
  · have := (condErr_ok (conds_ok h c hc)).2.2.1
    rcases h1 with h1 | ⟨h1, _⟩ <;> omega

/-! Homes. -/
def lastLe (x : Int) : Int → List Int → Int
  | best, [] => best
  | best, n :: r => lastLe x (if n ≤ x then n else best) r
theorem lastLe_mem (x : Int) : ∀ (l : List Int) (best : Int), lastLe x best l = best ∨ lastLe x best l ∈ l
  | [], best => .inl rfl
  | n :: r, best => by
    unfold lastLe
    rcases lastLe_mem x r (if n ≤ x then n else best) with h | h
    · rw [h]
      split
      · right; simp
      · left; rfl
    · right; simp [h]
theorem lastLe_le (x : Int) : ∀ (l : List Int) (best : Int), best ≤ x → lastLe x best l ≤ x
  | [], best, h => h
  | n :: r, best, h => by
    unfold lastLe
    apply lastLe_le
    split <;> omega
theorem lastLe_ge (x : Int) : ∀ (l : List Int) (best : Int), Rising l → (∀ m ∈ l, best ≤ m) → best ≤ lastLe x best l ∧ ∀ n ∈ l, n ≤ x → n ≤ lastLe x best l
  | [], best, _, _ => ⟨Int.le_refl _, fun n h => by simp at h⟩
  | n :: r, best, hr, hb => by
    have hr' := List.pairwise_cons.1 hr
    have hn := hb n (by simp)
    unfold lastLe
    by_cases hx : n ≤ x
    · rw [if_pos hx]
      obtain ⟨h1, h2⟩ := lastLe_ge x r n hr'.2 fun m hm => by have := hr'.1 m hm; omega
      refine ⟨by omega, fun m hm hmx => ?_⟩
      rcases List.mem_cons.1 hm with rfl | hm
      · exact h1
      · exact h2 m hm hmx
    · rw [if_neg hx]
      obtain ⟨h1, h2⟩ := lastLe_ge x r best hr'.2 fun m hm => hb m (by simp [hm])
      refine ⟨h1, fun m hm hmx => ?_⟩
      rcases List.mem_cons.1 hm with rfl | hm
      · omega
      · exact h2 m hm hmx
def homeP (l : List PolT) (x : Nat → Int) (j : Nat) : Int := lastLe (x j) 0 (cutsP l j)
theorem home_spec {l : List PolT} (hl : AllOk l) {x : Nat → Int} {j : Nat} (hx : 0 ≤ x j) : homeP l x j ∈ cutsP l j ∧ homeP l x j ≤ x j ∧ ∀ n ∈ cutsP l j, n ≤ x j → n ≤ homeP l x j := by
  unfold homeP
  refine ⟨?_, lastLe_le _ _ _ hx, (lastLe_ge (x j) (cutsP l j) 0 (cutsP_rising l j) fun m hm => (cut_range hl hm).1).2⟩
  rcases lastLe_mem (x j) (cutsP l j) 0 with h | h
  · rw [h]; exact zero_cut l j
  · exact h

theorem inR_iff {k v : Int} : inR k v = true ↔ 0 ≤ v ∧ v ≤ most k := by unfold inR; simp
theorem chkx_zero {x : Nat → Int} : chkx x = 0 ↔ ∀ j, j < 5 → 0 ≤ x j ∧ x j ≤ most j := by
  unfold chkx chk
  constructor
  · intro h
    split at h
    · rename_i h'
      simp only [okFrom, Bool.and_eq_true, inR_iff] at h'
      intro j hj
      have : j = 0 ∨ j = 1 ∨ j = 2 ∨ j = 3 ∨ j = 4 := by omega
      obtain ⟨h0, h1, h2, h3, h4, _⟩ := h'
      rcases this with rfl | rfl | rfl | rfl | rfl
      · exact h0
      · exact h1
      · exact h2
      · exact h3
      · exact h4
    · cases h
  · intro h
    have h' : okFrom 0 [x 0, x 1, x 2, x 3, x 4] = true := by
      simp only [okFrom, Bool.and_eq_true, inR_iff]
      exact ⟨h 0 (by omega), h 1 (by omega), h 2 (by omega), h 3 (by omega), h 4 (by omega), trivial⟩
    rw [if_pos h']
theorem home_right {l : List PolT} (hl : AllOk l) {x : Nat → Int} (hx : chkx x = 0) : chkx (homeP l x) = 0 := by
  rw [chkx_zero] at hx ⊢
  intro j hj
  exact cut_range hl (home_spec hl (hx j hj).1).1
theorem home_home {l : List PolT} (hl : AllOk l) {x : Nat → Int} (hx : chkx x = 0) (j : Nat) (hj : j < 5) : homeP l (homeP l x) j = homeP l x j := by
  have h1 := home_spec hl ((chkx_zero.1 hx) j hj).1
  have h2 := home_spec hl (x := homeP l x) (j := j) ((chkx_zero.1 (home_right hl hx)) j hj).1
  have := h2.2.2 _ h1.1 (Int.le_refl _)
  have := h2.2.1
  omega

/-- A condition says of a number what it says of its home. -/
theorem cond_home {l : List PolT} (hl : AllOk l) {x : Nat → Int} (hx : chkx x = 0) {c : CondT} (hc : c ∈ polsConds l) : condOk (homeP l x) c = condOk x c := by
  obtain ⟨⟨f0, f5⟩, ⟨o1, o4⟩, ⟨v0, vm⟩⟩ := condErr_ok (conds_ok hl c hc)
  obtain ⟨j, hj⟩ : ∃ j : Nat, c.1 = j := ⟨c.1.toNat, by omega⟩
  have hx' := (chkx_zero.1 hx) j (by omega)
  obtain ⟨h1, h2, h3⟩ := home_spec hl hx'.1
  have hv : c.2.2 ∈ cutsP l j := mem_cutsP.2 ⟨.inr ⟨c, hc, hj, .inl rfl⟩, by rw [← hj]; exact vm⟩
  have hv1 : (c.2.1 = 1 ∨ c.2.1 = 2) → c.2.2 + 1 ≤ most j → c.2.2 + 1 ∈ cutsP l j := fun ho hm => mem_cutsP.2 ⟨.inr ⟨c, hc, hj, .inr ⟨rfl, ho⟩⟩, hm⟩
  have hge : c.2.2 ≤ x j → c.2.2 ≤ homeP l x j := h3 _ hv
  unfold condOk
  rw [hj, Int.toNat_natCast]
  unfold holdsB
  by_cases e1 : c.2.1 = 1
  · simp only [if_pos e1]
    rw [Bool.eq_iff_iff]
    simp only [beq_iff_eq]
    by_cases e : c.2.2 + 1 ≤ x j
    · have := h3 _ (hv1 (.inl e1) (by omega)) e
      omega
    · omega
  · simp only [if_neg e1]
    by_cases e2 : c.2.1 = 2
    · simp only [if_pos e2]
      rw [Bool.eq_iff_iff]
      simp only [bne_iff_ne, ne_eq]
      by_cases e : c.2.2 + 1 ≤ x j
      · have := h3 _ (hv1 (.inr e2) (by omega)) e
        omega
      · omega
    · simp only [if_neg e2]
      by_cases e3 : c.2.1 = 3
      · simp only [if_pos e3]
        rw [Bool.eq_iff_iff]
        simp only [decide_eq_true_eq]
        omega
      · simp only [if_neg e3]
        rw [Bool.eq_iff_iff]
        simp only [decide_eq_true_eq]
        omega
theorem rule_home {l : List PolT} (hl : AllOk l) {x : Nat → Int} (hx : chkx x = 0) {p : PolT} (hp : p ∈ l) {r : RuleT} (hr : r ∈ p.1) : ruleOk (homeP l x) r = ruleOk x r := by
  unfold ruleOk
  rw [Bool.eq_iff_iff, List.all_eq_true, List.all_eq_true]
  have h : ∀ c ∈ r.1, condOk (homeP l x) c = condOk x c := fun c hc => cond_home hl hx (List.mem_flatMap.2 ⟨p, hp, List.mem_flatMap.2 ⟨r, hr, hc⟩⟩)
  constructor
  · intro hh c hc; rw [← h c hc]; exact hh c hc
  · intro hh c hc; rw [h c hc]; exact hh c hc
theorem firstAt_congr {α : Type} (f g : α → Bool) : ∀ (l : List α) (k : Nat), (∀ c ∈ l, f c = g c) → firstAt f k l = firstAt g k l
  | [], _, _ => rfl
  | c :: r, k, h => by
    unfold firstAt
    rw [h c (by simp), firstAt_congr f g r (k + 1) fun d hd => h d (by simp [hd])]
/-- Each policy says of a call what it says of its home, by the same rule. -/
theorem judge_home {l : List PolT} (hl : AllOk l) {x : Nat → Int} (hx : chkx x = 0) {p : PolT} (hp : p ∈ l) : judgeP p (homeP l x) = judgeP p x := by
  rw [judgeP_ok (hl p hp) hx, judgeP_ok (hl p hp) (home_right hl hx), firstAt_congr (ruleOk (homeP l x)) (ruleOk x) p.1 0 fun r hr => rule_home hl hx hp hr]

/-! Points. -/
def prodL : List (List Int) → List (List Int)
  | [] => [[]]
  | L :: Ls => L.flatMap fun a => (prodL Ls).map (a :: ·)
def cuts5 (l : List PolT) : List (List Int) := [cutsP l 0, cutsP l 1, cutsP l 2, cutsP l 3, cutsP l 4]
def pointsP (l : List PolT) : List (List Int) := prodL (cuts5 l)
def inAll : List Int → List (List Int) → Prop
  | [], [] => True
  | a :: x, L :: Ls => a ∈ L ∧ inAll x Ls
  | _, _ => False
theorem prodL_cons (L : List Int) (Ls : List (List Int)) : prodL (L :: Ls) = L.flatMap fun a => (prodL Ls).map (a :: ·) := rfl
theorem mem_prodL : ∀ (Ls : List (List Int)) (x : List Int), x ∈ prodL Ls ↔ inAll x Ls
  | [], x => by
    show x ∈ [[]] ↔ _
    rw [List.mem_singleton]
    constructor
    · rintro rfl; trivial
    · intro h
      cases x with
      | nil => rfl
      | cons a y => exact h.elim
  | L :: Ls, x => by
    rw [prodL_cons, List.mem_flatMap]
    constructor
    · rintro ⟨a, ha, h⟩
      obtain ⟨y, hy, rfl⟩ := List.mem_map.1 h
      exact ⟨ha, (mem_prodL Ls y).1 hy⟩
    · intro h
      cases x with
      | nil => exact h.elim
      | cons a y => exact ⟨a, h.1, List.mem_map.2 ⟨y, (mem_prodL Ls y).2 h.2, rfl⟩⟩
theorem length_flatMap_const {α β : Type} (f : α → List β) (n : Nat) : ∀ (L : List α), (∀ a ∈ L, (f a).length = n) → (L.flatMap f).length = L.length * n
  | [], _ => by simp
  | a :: L, h => by
    rw [List.flatMap_cons, List.length_append, h a (by simp), length_flatMap_const f n L fun b hb => h b (by simp [hb]), List.length_cons, Nat.add_mul]
    omega
theorem prodL_length (L : List Int) (Ls : List (List Int)) : (prodL (L :: Ls)).length = L.length * (prodL Ls).length := by
  rw [prodL_cons]
  exact length_flatMap_const _ _ _ fun a _ => by simp
/-- The place of a point among all. -/
theorem flatMap_get {α β : Type} (f : α → List β) (n : Nat) (hn : 0 < n) : ∀ (L : List α), (∀ a ∈ L, (f a).length = n) → ∀ (i : Nat) (a : α), L[i / n]? = some a → (L.flatMap f)[i]? = (f a)[i % n]?
  | [], _, i, a, h => by simp at h
  | b :: L, hf, i, a, h => by
    rw [List.flatMap_cons]
    have hb := hf b (by simp)
    by_cases hi : i < n
    · rw [Nat.div_eq_of_lt hi] at h
      simp at h
      subst h
      rw [List.getElem?_append_left (by omega), Nat.mod_eq_of_lt hi]
    · obtain ⟨j, rfl⟩ : ∃ j, i = j + n := ⟨i - n, by omega⟩
      rw [Nat.add_div_right _ hn] at h
      rw [List.getElem?_append_right (by omega), Nat.add_mod_right, show j + n - (f b).length = j by omega]
      exact flatMap_get f n hn L (fun c hc => hf c (by simp [hc])) j a (by simpa using h)
theorem prodL_get (L : List Int) (Ls : List (List Int)) (i : Nat) (a : Int) (x : List Int) (ha : L[i / (prodL Ls).length]? = some a) (hx : (prodL Ls)[i % (prodL Ls).length]? = some x) : (prodL (L :: Ls))[i]? = some (a :: x) := by
  have hn : 0 < (prodL Ls).length := by
    have := (List.getElem?_eq_some_iff.1 hx).1
    omega
  rw [prodL_cons, flatMap_get _ _ hn L (fun a _ => by simp) i a ha]
  simp [hx]

/-! Calls in order. -/
def lexLt : List Int → List Int → Prop
  | a :: x, b :: y => a < b ∨ a = b ∧ lexLt x y
  | _, _ => False
theorem pairwise_flatMap_of {α β : Type} (R : β → β → Prop) (S : α → α → Prop) (f : α → List β) (h2 : ∀ a b, S a b → ∀ x ∈ f a, ∀ y ∈ f b, R x y) : ∀ (L : List α), (∀ a ∈ L, (f a).Pairwise R) → L.Pairwise S → (L.flatMap f).Pairwise R
  | [], _, _ => by simp
  | a :: L, h1, hL => by
    have hL' := List.pairwise_cons.1 hL
    rw [List.flatMap_cons, List.pairwise_append]
    refine ⟨h1 a (by simp), pairwise_flatMap_of R S f h2 L (fun b hb => h1 b (by simp [hb])) hL'.2, fun x hx y hy => ?_⟩
    obtain ⟨b, hb, hy⟩ := List.mem_flatMap.1 hy
    exact h2 a b (hL'.1 b hb) x hx y hy
/-- The points rise. -/
theorem prodL_rising : ∀ Ls : List (List Int), (∀ L ∈ Ls, Rising L) → (prodL Ls).Pairwise lexLt
  | [], _ => by show [[]].Pairwise lexLt; simp
  | L :: Ls, h => by
    rw [prodL_cons]
    refine pairwise_flatMap_of lexLt (· < ·) _ (fun a b hab x hx y hy => ?_) L (fun a _ => ?_) (h L (by simp))
    · obtain ⟨x', _, rfl⟩ := List.mem_map.1 hx
      obtain ⟨y', _, rfl⟩ := List.mem_map.1 hy
      exact .inl hab
    · refine List.pairwise_map.2 ((prodL_rising Ls fun M hM => h M (by simp [hM])).imp fun h => .inr ⟨rfl, h⟩)
theorem cuts5_rising (l : List PolT) : ∀ L ∈ cuts5 l, Rising L := by
  intro L hL
  unfold cuts5 at hL
  simp at hL
  rcases hL with rfl | rfl | rfl | rfl | rfl <;> exact cutsP_rising _ _
theorem pointsP_rising (l : List PolT) : (pointsP l).Pairwise lexLt := prodL_rising _ (cuts5_rising l)
def fieldsOf (x : Nat → Int) : List Int := [x 0, x 1, x 2, x 3, x 4]
/-- A home is a point. -/
theorem home_point {l : List PolT} (hl : AllOk l) {x : Nat → Int} (hx : chkx x = 0) : fieldsOf (homeP l x) ∈ pointsP l := by
  have h := chkx_zero.1 hx
  refine (mem_prodL _ _).2 ?_
  exact ⟨(home_spec hl (h 0 (by omega)).1).1, (home_spec hl (h 1 (by omega)).1).1, (home_spec hl (h 2 (by omega)).1).1, (home_spec hl (h 3 (by omega)).1).1, (home_spec hl (h 4 (by omega)).1).1, trivial⟩
/-- A point is a right call, and its own home. -/
theorem point_right {l : List PolT} (hl : AllOk l) {x : List Int} (hx : x ∈ pointsP l) : ∃ y : Nat → Int, x = fieldsOf y ∧ chkx y = 0 ∧ ∀ j : Nat, j < 5 → y j ∈ cutsP l j := by
  have h := (mem_prodL _ _).1 hx
  unfold cuts5 at h
  match x, h with
  | [a, b, c, d, e], h =>
    obtain ⟨h0, h1, h2, h3, h4, _⟩ := h
    refine ⟨at5 a b c d e, rfl, ?_, ?_⟩
    · rw [chkx_zero]
      intro j hj
      have : j = 0 ∨ j = 1 ∨ j = 2 ∨ j = 3 ∨ j = 4 := by omega
      rcases this with rfl | rfl | rfl | rfl | rfl
      · exact cut_range hl h0
      · exact cut_range hl h1
      · exact cut_range hl h2
      · exact cut_range hl h3
      · exact cut_range hl h4
    · intro j hj
      have : j = 0 ∨ j = 1 ∨ j = 2 ∨ j = 3 ∨ j = 4 := by omega
      rcases this with rfl | rfl | rfl | rfl | rfl
      · exact h0
      · exact h1
      · exact h2
      · exact h3
      · exact h4
/-- With more policies there are no fewer. -/
theorem cuts_more {l m : List PolT} (h : ∀ p ∈ l, p ∈ m) (f : Int) : ∀ n ∈ cutsP l f, n ∈ cutsP m f := by
  intro n hn
  obtain ⟨h1, h2⟩ := mem_cutsP.1 hn
  refine mem_cutsP.2 ⟨?_, h2⟩
  rcases h1 with h1 | ⟨c, hc, h1⟩
  · exact .inl h1
  · obtain ⟨p, hp, hc⟩ := List.mem_flatMap.1 hc
    exact .inr ⟨c, List.mem_flatMap.2 ⟨p, h p hp, hc⟩, h1⟩
theorem points_more {l m : List PolT} (h : ∀ p ∈ l, p ∈ m) : ∀ x ∈ pointsP l, x ∈ pointsP m := by
  intro x hx
  have hx' := (mem_prodL _ _).1 hx
  refine (mem_prodL _ _).2 ?_
  unfold cuts5 at hx' ⊢
  match x, hx' with
  | [a, b, c, d, e], hx' =>
    obtain ⟨h0, h1, h2, h3, h4, _⟩ := hx'
    exact ⟨cuts_more h _ _ h0, cuts_more h _ _ h1, cuts_more h _ _ h2, cuts_more h _ _ h3, cuts_more h _ _ h4, trivial⟩
theorem rising_sub : ∀ (l m : List Int), Rising l → Rising m → (∀ x ∈ l, x ∈ m) → l.length ≤ m.length
  | [], m, _, _, _ => by simp
  | a :: l, [], _, _, h => by have := h a (by simp); simp at this
  | a :: l, b :: m, hl, hm, h => by
    have hl' := List.pairwise_cons.1 hl
    have hm' := List.pairwise_cons.1 hm
    have : l.length ≤ m.length := by
      refine rising_sub l m hl'.2 hm'.2 fun x hx => ?_
      rcases List.mem_cons.1 (h x (by simp [hx])) with e | e
      · exfalso
        have h1 := hl'.1 x hx
        rcases List.mem_cons.1 (h a (by simp)) with e' | e'
        · omega
        · have := hm'.1 a e'; omega
      · exact e
    simp; omega
theorem points_count {l m : List PolT} (h : ∀ p ∈ l, p ∈ m) : (pointsP l).length ≤ (pointsP m).length := by
  have c := fun f => rising_sub _ _ (cutsP_rising l f) (cutsP_rising m f) (cuts_more h f)
  unfold pointsP cuts5
  simp only [prodL_length]
  exact Nat.mul_le_mul (c 0) (Nat.mul_le_mul (c 1) (Nat.mul_le_mul (c 2) (Nat.mul_le_mul (c 3) (Nat.mul_le_mul (c 4) (Nat.le_refl _)))))

end Go.Proofs.YtbjpdmfedphacacGreatDoor
end
