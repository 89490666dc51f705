/- Joined: Open First. -/
import Derived.Test.YtclehchkmienoabGreatDoorRows
import Derived.Test.YtclehchkmienoabGreatDoorOj11
import Derived.ProofKit
import Derived.OpenShut
import Derived.ShutString
import Derived.ChangeOld
import Derived.Below
import Derived.Deep.SlicePairs
import Derived.Deep.Strs
import Derived.Test.YtclehchkmienoabGreatDoorOj09
section
/- Policies and calls that came in, as plain data; all arguments behind a call that turned nothing old. -/
set_option linter.all false
set_option maxRecDepth 100000
namespace Go.Proofs.YtclehchkmienoabGreatDoor
open Go.ChangeShapes Go.WideShapes Go.ChangeAt Go.RowKit Go.Deep

section
variable {H : Type} {enc : TypeId × Value → H} {W : World} {base : Nat} {sp : Nat → Bool} {held : Bool}

theorem open_conds {fuel : Nat} {cv : Value} {x : DataW H × List MemPlace} (h : DataW.trod enc Tryz.prog W base sp held fuel 66 [cv] = some x) : ∃ cs, CondsAt W.heap.size W cv cs := by
  rcases open_slice Tryz.underlying66 h with ⟨h0, _⟩ | ⟨a, len, cap, m, n, D, Pl, h0, _, hl, hm, hmm, _, hx⟩
  · simp at h0
    subst h0
    exact ⟨[], none, 0, rfl, Nat.le_refl _, Nat.zero_le _, fun i c hc => by simp at hc⟩
  · simp at h0
    subst h0
    have h3 : Tryz.prog.cellsOf 71 = 3 := by kernel_rfl
    have h1 : Tryz.prog.cellsOf 3 = 1 := by kernel_rfl
    rw [h3] at hx
    have hlm : len ≤ m := by rw [hmm]; split <;> omega
    have each : ∀ i, i < len → ∃ c : CondT, a = ⟨a.block, a.off, none⟩ ∧ a.block < W.heap.size ∧ CondAt W a.block (a.off + i * 3) c := by
      intro i hi
      have h00 : W.cell? (a.add 0) ≠ none := by
        obtain ⟨cs', g1, _⟩ := hx 0 (by omega)
        obtain ⟨_, hlen, hcell⟩ := World.cells?_some g1
        have := hcell 0 (by omega)
        rw [add_add] at this
        simp at this
        match cs', hlen with
        | [v0, v1, v2], _ => simp at this ⊢; rw [this]; simp
      obtain ⟨v, hv⟩ := Option.ne_none_iff_exists'.1 h00
      obtain ⟨ha, hb⟩ := addr_plain hv
      obtain ⟨cs', g1, g2⟩ := hx i (by omega)
      obtain ⟨_, hlen, hcell⟩ := World.cells?_some g1
      obtain ⟨y0, y1, y2, k, _, _, e0, e1, e2⟩ := trod_struct3 Tryz.underlying71 g2
      match cs', hlen with
      | [v0, v1, v2], _ =>
        simp [h1] at e0 e1 e2
        obtain ⟨f, q0, _, w0⟩ := DataW.trod_int Tryz.underlying3 e0
        obtain ⟨o, q1, _, w1⟩ := DataW.trod_int Tryz.underlying3 e1
        obtain ⟨u, q2, _, w2⟩ := DataW.trod_int Tryz.underlying3 e2
        simp at q0 q1 q2
        subst q0 q1 q2
        have c0 := hcell 0 (by omega)
        have c1 := hcell 1 (by omega)
        have c2 := hcell 2 (by omega)
        rw [add_add, ha, add_at] at c0 c1 c2
        exact ⟨(f, o, u), ha, hb, by simpa using c0, by simpa [Nat.add_assoc] using c1, by simpa [Nat.add_assoc] using c2, w0, w1, w2⟩
    obtain ⟨cs, hcl, hcp⟩ := list_of _ len each
    refine ⟨cs, some a, cap, by rw [hcl], by omega, hm, fun i c hc => ?_⟩
    obtain ⟨ha, hb, hat⟩ := hcp i c hc
    exact ⟨a.block, a.off, by rw [← ha], hb, hat⟩

theorem open_rules {fuel : Nat} {rv : Value} {x : DataW H × List MemPlace} (h : DataW.trod enc Tryz.prog W base sp held fuel 36 [rv] = some x) : ∃ rs, RulesAt W.heap.size W rv rs := by
  rcases open_slice_pairs Tryz.underlying36 Tryz.underlying68 (by kernel_rfl) rfl rfl (by kernel_rfl) (by kernel_rfl) h with ⟨h0, _⟩ | ⟨a, len, cap, m, n, V0, V1, _, _, _, _, h0, _, hl, hm, hmm, _, hx⟩
  · simp at h0
    subst h0
    exact ⟨[], none, 0, rfl, Nat.le_refl _, Nat.zero_le _, fun i c hc => by simp at hc⟩
  · simp at h0
    subst h0
    have hlm : len ≤ m := by rw [hmm]; split <;> omega
    have each : ∀ i, i < len → ∃ r : RuleT, a = ⟨a.block, a.off, none⟩ ∧ a.block < W.heap.size ∧ RuleAt W.heap.size W a.block (a.off + i * 2) r := by
      intro i hi
      obtain ⟨ha, hb⟩ := addr_plain (hx 0 (by omega)).1
      obtain ⟨c0, c1, t0, t1⟩ := hx i (by omega)
      obtain ⟨cs, hcs⟩ := open_conds t0
      obtain ⟨v, q1, _, w1⟩ := DataW.trod_int Tryz.underlying3 t1
      simp at q1
      rw [q1] at c1
      rw [ha, add_at] at c0 c1
      exact ⟨(cs, v), ha, hb, V0 i, c0, by simpa [Nat.add_assoc] using c1, w1, hcs⟩
    obtain ⟨rs, hrl, hrp⟩ := list_of _ len each
    refine ⟨rs, some a, cap, by rw [hrl], by omega, hm, fun i r hr => ?_⟩
    obtain ⟨ha, hb, hat⟩ := hrp i r hr
    exact ⟨a.block, a.off, by rw [← ha], hb, hat⟩
end

/-- A policy that came in. -/
theorem open_pol {H : Type} {enc : TypeId × Value → H} {W : World} {r : Reach} {b0 base : Nat} {sp : Nat → Bool} {held : Bool} {v : Value} {d : DataW H} {p : List MemPlace}
    (hv : Value.okWide Tryz.prog W r b0 38 v) (h : DataW.Trod enc Tryz.prog W base sp held 38 v d p) : ∃ pp, PolAt W.heap.size W v pp := by
  obtain ⟨cs, rfl, hsz⟩ := okWide_struct Tryz.underlying38 hv
  obtain ⟨fuel, hf⟩ := h
  obtain ⟨y0, y1, n, _, _, t0, t1⟩ := trod_struct2 Tryz.underlying38 hf
  have h2 : Tryz.prog.cellsOf 38 = 2 := by kernel_rfl
  have hr1 : Tryz.prog.cellsOf 36 = 1 := by kernel_rfl
  have hi1 : Tryz.prog.cellsOf 3 = 1 := by kernel_rfl
  rw [h2] at hsz
  obtain ⟨l⟩ := cs
  match l, hsz with
  | [c0, c1], _ =>
    simp [Value.cells, hr1, hi1] at t0 t1
    obtain ⟨rs, hrs⟩ := open_rules t0
    obtain ⟨dd, q1, _, w1⟩ := DataW.trod_int Tryz.underlying3 t1
    simp at q1
    subst q1
    exact ⟨(rs, dd), c0, rfl, w1, hrs⟩

/-- What every row's first world gives. -/
theorem env_of_shaped {W : World} (h : W.ShapedOpen Tryz.prog) : EnvAt W := Tryz.laysM145.s1_3 W h

end Go.Proofs.YtclehchkmienoabGreatDoor
end
section
/- What a judgement says of a policy whose end is another one, and of one with a rule left out. -/
set_option linter.all false
namespace Go.Proofs.YtclehchkmienoabGreatDoor

theorem firstAt_eq {α : Type} (f : α → Bool) : ∀ (l : List α) (k0 j : Nat) (c : α), l[j]? = some c → f c = true → (∀ i, i < j → ∀ c, l[i]? = some c → f c = false) → firstAt f k0 l = ((k0 + j : Nat) : Int)
  | [], _, _, _, h, _, _ => by simp at h
  | d :: r, k0, 0, c, h, hf, _ => by
    simp at h
    subst h
    simp [firstAt, hf]
  | d :: r, k0, j + 1, c, h, hf, hn => by
    have h0 := hn 0 (by omega) d rfl
    have ih := firstAt_eq f r (k0 + 1) j c (by simpa using h) hf (fun i hi c hc => hn (i + 1) (by omega) c (by simpa using hc))
    unfold firstAt
    rw [if_neg (by simp [h0]), ih]
    congr 1
    omega
theorem firstAt_no {α : Type} (f : α → Bool) : ∀ (l : List α) (k0 : Nat), (∀ c ∈ l, f c = false) → firstAt f k0 l = -1
  | [], _, _ => rfl
  | d :: r, k0, h => by
    unfold firstAt
    rw [if_neg (by simp [h d (by simp)])]
    exact firstAt_no f r (k0 + 1) fun c hc => h c (by simp [hc])
theorem firstAt_inv {α : Type} (f : α → Bool) : ∀ (l : List α) (k0 : Nat), (firstAt f k0 l = -1 ∧ ∀ c ∈ l, f c = false) ∨ ∃ j c, firstAt f k0 l = ((k0 + j : Nat) : Int) ∧ l[j]? = some c ∧ f c = true ∧ ∀ i, i < j → ∀ c, l[i]? = some c → f c = false
  | [], _ => .inl ⟨rfl, fun c hc => by cases hc⟩
  | d :: r, k0 => by
    by_cases hd : f d = true
    · exact .inr ⟨0, d, by simp [firstAt, hd], rfl, hd, fun i hi => by omega⟩
    · have hd' : f d = false := by simpa using hd
      have e : firstAt f k0 (d :: r) = firstAt f (k0 + 1) r := by
        show (if f d then (k0 : Int) else _) = _
        rw [if_neg hd]
      rcases firstAt_inv f r (k0 + 1) with ⟨h1, h2⟩ | ⟨j, c, h1, h2, h3, h4⟩
      · refine .inl ⟨e.trans h1, fun c hc => ?_⟩
        rcases List.mem_cons.1 hc with rfl | hc
        · exact hd'
        · exact h2 c hc
      · refine .inr ⟨j + 1, c, ?_, by simpa using h2, h3, fun i hi c hc => ?_⟩
        · rw [e, h1]; congr 1; omega
        · cases i with
          | zero => simp at hc; subst hc; exact hd'
          | succ i => exact h4 i (by omega) c (by simpa using hc)

theorem rulesErr_of {rs : List RuleT} (h : ∀ r ∈ rs, ruleErr r = 0) : rulesErr rs = 0 := by
  induction rs with
  | nil => rfl
  | cons r s ih =>
    unfold rulesErr
    rw [if_pos (h r (by simp))]
    exact ih fun r hr => h r (by simp [hr])
theorem polErr_of {p : PolT} (h1 : p.1.length ≤ 120) (h2 : verdictOk p.2 = true) (h3 : ∀ r ∈ p.1, ruleErr r = 0) : polErr p = 0 := by
  unfold polErr
  rw [if_neg (by omega), if_pos h2]
  exact rulesErr_of h3

theorem judgeP_ok {p : PolT} {x : Nat → Int} (hp : polErr p = 0) (hx : chkx x = 0) : judgeP p x = ((verdictAt p (firstAt (ruleOk x) 0 p.1)).1, (verdictAt p (firstAt (ruleOk x) 0 p.1)).2, 0) := by
  unfold judgeP
  rw [if_pos hp, if_pos hx]
theorem judgeP_bad {p : PolT} {x : Nat → Int} (hx : chkx x = 0) (hp : polErr p ≠ 0) : judgeP p x = (0, 0, polErr p) := by
  unfold judgeP
  rw [if_neg hp]

/-- All that the law wants of a judgement. -/
theorem judge_facts (p : PolT) (x : Nat → Int) (hp : polErr p = 0) (hx : chkx x = 0) : ∃ (v : Int) (k : Nat), judgeP p x = (v, (k : Int), 0) ∧ k ≤ p.1.length ∧
    (k < p.1.length → ∀ more, polErr (p.1.take (k + 1) ++ more, p.2) = 0 → judgeP (p.1.take (k + 1) ++ more, p.2) x = (v, (k : Int), 0)) ∧
    (∀ i, i < k → judgeP (p.1.eraseIdx i, p.2) x = (v, (k : Int) - 1, 0)) := by
  obtain ⟨hl, hv, hr⟩ := polErr_ok hp
  have hall := rulesErr_all hr
  have hout : ∀ i, polErr (p.1.eraseIdx i, p.2) = 0 := fun i => polErr_of (Nat.le_trans (List.length_eraseIdx_le _ _) hl) hv fun r h => hall r (List.mem_of_mem_eraseIdx h)
  rw [judgeP_ok hp hx]
  rcases firstAt_inv (ruleOk x) p.1 0 with ⟨h1, h2⟩ | ⟨j, c, h1, h2, h3, h4⟩
  · refine ⟨p.2, p.1.length, by rw [h1]; rfl, Nat.le_refl _, fun h => absurd h (Nat.lt_irrefl _), fun i hi => ?_⟩
    rw [judgeP_ok (hout i) hx]
    have e := firstAt_no (ruleOk x) (p.1.eraseIdx i) 0 fun c hc => h2 c (List.mem_of_mem_eraseIdx hc)
    simp only [e, verdictAt]
    have : ((p.1.eraseIdx i).length : Int) = (p.1.length : Int) - 1 := by rw [List.length_eraseIdx_of_lt hi]; omega
    simp [this]
  · rw [Nat.zero_add] at h1
    have hj : j < p.1.length := (List.getElem?_eq_some_iff.1 h2).1
    have hget : ∀ (l : List RuleT) (m : Nat), l[m]? = some c → verdictAt (l, p.2) (m : Int) = (c.2, (m : Int)) := fun l m h => by
      unfold verdictAt
      rw [if_neg (by omega)]
      simp [h]
    have hgp : verdictAt p (j : Int) = (c.2, (j : Int)) := hget p.1 j h2
    refine ⟨c.2, j, by rw [h1, hgp], by omega, fun _ more hq => ?_, fun i hi => ?_⟩
    · rw [judgeP_ok hq hx]
      have hin : ∀ m, m ≤ j → (p.1.take (j + 1) ++ more)[m]? = p.1[m]? := fun m hm => by
        rw [List.getElem?_append_left (by simp; omega), List.getElem?_take_of_lt (by omega)]
      have e := firstAt_eq (ruleOk x) (p.1.take (j + 1) ++ more) 0 j c ((hin j (Nat.le_refl _)).trans h2) h3 fun i hi c hc => h4 i hi c (by rw [← hin i (by omega)]; exact hc)
      rw [Nat.zero_add] at e
      simp only [e]
      rw [hget _ j ((hin j (Nat.le_refl _)).trans h2)]
    · rw [judgeP_ok (hout i) hx]
      have h2' : (p.1.eraseIdx i)[j - 1]? = some c := by
        rw [List.getElem?_eraseIdx_of_ge (by omega), show j - 1 + 1 = j by omega]; exact h2
      have e := firstAt_eq (ruleOk x) (p.1.eraseIdx i) 0 (j - 1) c h2' h3 fun m hm c hc => by
        by_cases hmi : m < i
        · rw [List.getElem?_eraseIdx_of_lt hmi] at hc; exact h4 m (by omega) c hc
        · rw [List.getElem?_eraseIdx_of_ge (by omega)] at hc; exact h4 (m + 1) (by omega) c hc
      rw [Nat.zero_add] at e
      simp only [e]
      rw [hget _ _ h2', show ((j - 1 : Nat) : Int) = (j : Int) - 1 by omega]
end Go.Proofs.YtclehchkmienoabGreatDoor
end
