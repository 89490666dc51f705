/- Policies and calls that came in, as plain data; all arguments behind a call that turned nothing old. -/
import Derived.Test.YtpphcodiiolfbaaDoorRows
import Derived.Test.YtpphcodiiolfbaaDoorMade
import Derived.ProofKit
import Derived.OpenShut
import Derived.ShutString
import Derived.ChangeOld
import Derived.Below
import Derived.Deep.SlicePairs
import Derived.Deep.Strs
set_option linter.all false
set_option maxRecDepth 100000
namespace Go.Proofs.YtpphcodiiolfbaaDoor
open Go.ChangeShapes Go.WideShapes Go.ChangeAt Go.RowKit Go.Deep

theorem own : ownKnob Tryd.prog.godebug = none := by kernel_rfl
theorem laidOut : laidOutB Tryd.prog = true := by kernel_rfl

/-- All arguments, behind a call that turned nothing old, read as they did. -/
theorem trodAll_below {H : Type} {enc : TypeId × Value → H} {P : Program} (hl : laidOutB P = true) {W W' : World} (hb : Below W.heap.size W W') :
    ∀ (ts : List TypeId) (vs : List Value) (ds : List (DataW H)) (p : List MemPlace), (∀ t ∈ ts, P.readableRec t = true ∧ t < P.types.size) →
      DataW.TrodAll enc P W 0 (fun _ => true) true ts vs ds p → DataW.TrodAll enc P W' 0 (fun b => decide (b < W.heap.size)) true ts vs ds p
  | [], [], [], _, _, h => h
  | t :: ts, v :: vs, d :: ds, ps, ht, h => by
    obtain ⟨p, q, h1, h2, rfl⟩ := h
    have lt : ∀ x ∈ p, x.block < W.heap.size := by obtain ⟨m, hm⟩ := h1; exact DataW.trod_lt m _ _ _ hm
    exact ⟨p, q, Below.trod hl (ht t (by simp)).1 (ht t (by simp)).2 h1 hb lt, trodAll_below hl hb ts vs ds q (fun t' h' => ht t' (by simp [h'])) h2, rfl⟩
  | [], _ :: _, _, _, _, h => by simp [DataW.TrodAll] at h
  | [], [], _ :: _, _, _, h => by simp [DataW.TrodAll] at h
  | _ :: _, [], _, _, _, h => by simp [DataW.TrodAll] at h
  | _ :: _, _ :: _, [], _, _, h => by simp [DataW.TrodAll] at h

theorem okWide_array {P : Program} {w : World} {r : Reach} {base : Nat} {t : TypeId} {v : Value} {n : Nat} {e : TypeId} (ht : P.underlying t = some (.array n e)) (h : Value.okWide P w r base t v) : ∃ cs, v = .agg cs ∧ cs.size = P.cellsOf t := by
  unfold Value.okWide at h
  rw [ht] at h
  obtain ⟨cs, h1, h2, _⟩ := h
  exact ⟨cs, h1, h2⟩
theorem okWide_struct {P : Program} {w : World} {r : Reach} {base : Nat} {t : TypeId} {v : Value} {fs : Array Field} (ht : P.underlying t = some (.struct fs)) (h : Value.okWide P w r base t v) : ∃ cs, v = .agg cs ∧ cs.size = P.cellsOf t := by
  unfold Value.okWide at h
  rw [ht] at h
  obtain ⟨cs, h1, h2, _⟩ := h
  exact ⟨cs, h1, h2⟩

/-- An array of five ints that came in. -/
theorem open_call {H : Type} {enc : TypeId × Value → H} {W : World} {r : Reach} {b0 base : Nat} {sp : Nat → Bool} {held : Bool} {v : Value} {d : DataW H} {p : List MemPlace}
    (hv : Value.okWide Tryd.prog W r b0 26 v) (h : DataW.Trod enc Tryd.prog W base sp held 26 v d p) : ∃ x : Nat → Int, v = callV x := by
  obtain ⟨cs, rfl, hsz⟩ := okWide_array Tryd.underlying26 hv
  obtain ⟨fuel, hf⟩ := h
  obtain ⟨xs, m, _, _, _, hl, hx⟩ := DataW.trod_array Tryd.underlying26 hf
  have h28 : Tryd.prog.cellsOf 26 = 5 := by kernel_rfl
  have h3 : Tryd.prog.cellsOf 3 = 1 := by kernel_rfl
  rw [h28] at hsz
  rw [h3] at hx
  obtain ⟨l⟩ := cs
  match l, hsz with
  | [c0, c1, c2, c3, c4], _ =>
    match xs, hl with
    | [x0, x1, x2, x3, x4], _ =>
      have y0 := hx 0 (by omega)
      have y1 := hx 1 (by omega)
      have y2 := hx 2 (by omega)
      have y3 := hx 3 (by omega)
      have y4 := hx 4 (by omega)
      simp [Value.cells] at y0 y1 y2 y3 y4
      obtain ⟨a0, e0, _, _⟩ := DataW.trod_int Tryd.underlying3 y0
      obtain ⟨a1, e1, _, _⟩ := DataW.trod_int Tryd.underlying3 y1
      obtain ⟨a2, e2, _, _⟩ := DataW.trod_int Tryd.underlying3 y2
      obtain ⟨a3, e3, _, _⟩ := DataW.trod_int Tryd.underlying3 y3
      obtain ⟨a4, e4, _, _⟩ := DataW.trod_int Tryd.underlying3 y4
      simp at e0 e1 e2 e3 e4
      subst e0 e1 e2 e3 e4
      exact ⟨at5 a0 a1 a2 a3 a4, rfl⟩

theorem list_of {α : Type} (p : Nat → α → Prop) : ∀ n, (∀ i, i < n → ∃ x, p i x) → ∃ l : List α, l.length = n ∧ ∀ i x, l[i]? = some x → p i x
  | 0, _ => ⟨[], rfl, fun i x h => by simp at h⟩
  | n + 1, h => by
    obtain ⟨l, hl, hp⟩ := list_of p n fun i hi => h i (by omega)
    obtain ⟨x, hx⟩ := h n (by omega)
    refine ⟨l ++ [x], by simp [hl], fun i y hy => ?_⟩
    by_cases hi : i < n
    · rw [List.getElem?_append_left (by omega)] at hy
      exact hp i y hy
    · have hil : i < (l ++ [x]).length := (List.getElem?_eq_some_iff.1 hy).1
      simp [hl] at hil
      obtain rfl : i = n := by omega
      rw [List.getElem?_append_right (by omega)] at hy
      simp [hl] at hy
      subst hy
      exact hx
theorem addr_plain {w : World} {a : Addr} {v : Value} (h : w.cell? (a.add 0) = some v) : a = ⟨a.block, a.off, none⟩ ∧ a.block < w.heap.size := by
  have h0 : a.add 0 = a := by simp [Addr.add]
  rw [h0] at h
  refine ⟨?_, World.block_lt_of_cell? _ _ h⟩
  obtain ⟨b, o, sp⟩ := a
  cases sp with
  | none => rfl
  | some k =>
    exfalso
    unfold World.cell? at h
    split at h <;> simp at h
theorem add_at (b o i : Nat) : (⟨b, o, none⟩ : Addr).add i = ⟨b, o + i, none⟩ := by
  unfold Addr.add
  by_cases h : i = 0 <;> simp [h]

section
variable {H : Type} {enc : TypeId × Value → H} {W : World} {base : Nat} {sp : Nat → Bool} {held : Bool}

theorem open_conds {fuel : Nat} {cv : Value} {x : DataW H × List MemPlace} (h : DataW.trod enc Tryd.prog W base sp held fuel 39 [cv] = some x) : ∃ cs, CondsAt W.heap.size W cv cs := by
  rcases open_slice Tryd.underlying39 h with ⟨h0, _⟩ | ⟨a, len, cap, m, n, D, Pl, h0, _, hl, hm, hmm, _, hx⟩
  · simp at h0
    subst h0
    exact ⟨[], none, 0, rfl, Nat.le_refl _, Nat.zero_le _, fun i c hc => by simp at hc⟩
  · simp at h0
    subst h0
    have h3 : Tryd.prog.cellsOf 53 = 3 := by kernel_rfl
    have h1 : Tryd.prog.cellsOf 3 = 1 := by kernel_rfl
    rw [h3] at hx
    have hlm : len ≤ m := by rw [hmm]; split <;> omega
    have each : ∀ i, i < len → ∃ c : CondT, a = ⟨a.block, a.off, none⟩ ∧ a.block < W.heap.size ∧ CondAt W a.block (a.off + i * 3) c := by
      intro i hi
      have h00 : W.cell? (a.add 0) ≠ none := by
        obtain ⟨cs', g1, _⟩ := hx 0 (by omega)
        obtain ⟨_, hlen, hcell⟩ := World.cells?_some g1
        have := hcell 0 (by omega)
        rw [add_add] at this
        simp at this
        match cs', hlen with
        | [v0, v1, v2], _ => simp at this ⊢; rw [this]; simp
      obtain ⟨v, hv⟩ := Option.ne_none_iff_exists'.1 h00
      obtain ⟨ha, hb⟩ := addr_plain hv
      obtain ⟨cs', g1, g2⟩ := hx i (by omega)
      obtain ⟨_, hlen, hcell⟩ := World.cells?_some g1
      obtain ⟨y0, y1, y2, k, _, _, e0, e1, e2⟩ := trod_struct3 Tryd.underlying53 g2
      match cs', hlen with
      | [v0, v1, v2], _ =>
        simp [h1] at e0 e1 e2
        obtain ⟨f, q0, _, w0⟩ := DataW.trod_int Tryd.underlying3 e0
        obtain ⟨o, q1, _, w1⟩ := DataW.trod_int Tryd.underlying3 e1
        obtain ⟨u, q2, _, w2⟩ := DataW.trod_int Tryd.underlying3 e2
        simp at q0 q1 q2
        subst q0 q1 q2
        have c0 := hcell 0 (by omega)
        have c1 := hcell 1 (by omega)
        have c2 := hcell 2 (by omega)
        rw [add_add, ha, add_at] at c0 c1 c2
        exact ⟨(f, o, u), ha, hb, by simpa using c0, by simpa [Nat.add_assoc] using c1, by simpa [Nat.add_assoc] using c2, w0, w1, w2⟩
    obtain ⟨cs, hcl, hcp⟩ := list_of _ len each
    refine ⟨cs, some a, cap, by rw [hcl], by omega, hm, fun i c hc => ?_⟩
    obtain ⟨ha, hb, hat⟩ := hcp i c hc
    exact ⟨a.block, a.off, by rw [← ha], hb, hat⟩

theorem open_rules {fuel : Nat} {rv : Value} {x : DataW H × List MemPlace} (h : DataW.trod enc Tryd.prog W base sp held fuel 22 [rv] = some x) : ∃ rs, RulesAt W.heap.size W rv rs := by
  rcases open_slice_pairs Tryd.underlying22 Tryd.underlying41 (by kernel_rfl) rfl rfl (by kernel_rfl) (by kernel_rfl) h with ⟨h0, _⟩ | ⟨a, len, cap, m, n, V0, V1, _, _, _, _, h0, _, hl, hm, hmm, _, hx⟩
  · simp at h0
    subst h0
    exact ⟨[], none, 0, rfl, Nat.le_refl _, Nat.zero_le _, fun i c hc => by simp at hc⟩
  · simp at h0
    subst h0
    have hlm : len ≤ m := by rw [hmm]; split <;> omega
    have each : ∀ i, i < len → ∃ r : RuleT, a = ⟨a.block, a.off, none⟩ ∧ a.block < W.heap.size ∧ RuleAt W.heap.size W a.block (a.off + i * 2) r := by
      intro i hi
      obtain ⟨ha, hb⟩ := addr_plain (hx 0 (by omega)).1
      obtain ⟨c0, c1, t0, t1⟩ := hx i (by omega)
      obtain ⟨cs, hcs⟩ := open_conds t0
      obtain ⟨v, q1, _, w1⟩ := DataW.trod_int Tryd.underlying3 t1
      simp at q1
      rw [q1] at c1
      rw [ha, add_at] at c0 c1
      exact ⟨(cs, v), ha, hb, V0 i, c0, by simpa [Nat.add_assoc] using c1, w1, hcs⟩
    obtain ⟨rs, hrl, hrp⟩ := list_of _ len each
    refine ⟨rs, some a, cap, by rw [hrl], by omega, hm, fun i r hr => ?_⟩
    obtain ⟨ha, hb, hat⟩ := hrp i r hr
    exact ⟨a.block, a.off, by rw [← ha], hb, hat⟩
end

/-- A policy that came in. -/
theorem open_pol {H : Type} {enc : TypeId × Value → H} {W : World} {r : Reach} {b0 base : Nat} {sp : Nat → Bool} {held : Bool} {v : Value} {d : DataW H} {p : List MemPlace}
    (hv : Value.okWide Tryd.prog W r b0 24 v) (h : DataW.Trod enc Tryd.prog W base sp held 24 v d p) : ∃ pp, PolAt W.heap.size W v pp := by
  obtain ⟨cs, rfl, hsz⟩ := okWide_struct Tryd.underlying24 hv
  obtain ⟨fuel, hf⟩ := h
  obtain ⟨y0, y1, n, _, _, t0, t1⟩ := trod_struct2 Tryd.underlying24 hf
  have h2 : Tryd.prog.cellsOf 24 = 2 := by kernel_rfl
  have hr1 : Tryd.prog.cellsOf 22 = 1 := by kernel_rfl
  have hi1 : Tryd.prog.cellsOf 3 = 1 := by kernel_rfl
  rw [h2] at hsz
  obtain ⟨l⟩ := cs
  match l, hsz with
  | [c0, c1], _ =>
    simp [Value.cells, hr1, hi1] at t0 t1
    obtain ⟨rs, hrs⟩ := open_rules t0
    obtain ⟨dd, q1, _, w1⟩ := DataW.trod_int Tryd.underlying3 t1
    simp at q1
    subst q1
    exact ⟨(rs, dd), c0, rfl, w1, hrs⟩

/-- What every row's first world gives. -/
theorem env_of_shaped {W : World} (h : W.ShapedOpen Tryd.prog) : EnvAt W := Tryd.laysM145.s1_3 W h

end Go.Proofs.YtpphcodiiolfbaaDoor
