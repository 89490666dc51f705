/- Joined: Stage ReadC. -/
import Derived.Still
import Derived.Deep.Quiet
import Derived.WalkKit
import Derived.WalkSpells
import Derived.BigQuiet
import Derived.Test.YtbdlojnigflanacGreatDoorKb03
section
/- A region that draws its order and writes: where its writers wait for each other, and its last operation for all, one walk of the text's order serves every order. -/
set_option linter.all false
namespace Go.Proofs.YtbdlojnigflanacGreatDoor
open Go.RowKit

section
variable {P : Program} {ops : Array Oper} {md : Region.Mode} {D : World → Prop} {C : Nat → World → Prop} {ks : Nat → Bool}

/-- It yields v and leaves the world alone. -/
def stillV (P : Program) (o : Oper) (a : Act) (w : World) (v : Value) : Prop := (execOp a.eval o).run P w = .ok (.value v) w ∨ ((execOp a.eval o).run P w = .ok .skip w ∧ v = undef)
/-- It yields v and leaves a world of the class. -/
def writeV (P : Program) (o : Oper) (a : Act) (C' : World → Prop) (w : World) (v : Value) : Prop := ∃ w', C' w' ∧ ((execOp a.eval o).run P w = .ok (.value v) w' ∨ ((execOp a.eval o).run P w = .ok .skip w' ∧ v = undef))
def YR (P : Program) (ops : Array Oper) (D : World → Prop) (o : Oper) (v : Value) (a : Act) : Prop :=
  (Region.wanted o (yielded ops a.tmps) = true ∧ ∀ w, D w → stillV P o a w v) ∨ (Region.wanted o (yielded ops a.tmps) = false ∧ v = undef)
def YW (P : Program) (ops : Array Oper) (C : Nat → World → Prop) (s : Nat) (o : Oper) (v : Value) (a : Act) : Prop :=
  Region.wanted o (yielded ops a.tmps) = true ∧ ∀ w, C s w → writeV P o a (C (s + 1)) w v

theorem YR.of_same {o : Oper} {v : Value} {a a' : Act} (hy : YR P ops D o v a) (he : execOp a'.eval o = execOp a.eval o) (hw : Region.wanted o (yielded ops a'.tmps) = Region.wanted o (yielded ops a.tmps)) : YR P ops D o v a' := by
  unfold YR stillV at *
  rw [he, hw]
  exact hy
theorem YW.of_same {s : Nat} {o : Oper} {v : Value} {a a' : Act} (hy : YW P ops C s o v a) (he : execOp a'.eval o = execOp a.eval o) (hw : Region.wanted o (yielded ops a'.tmps) = Region.wanted o (yielded ops a.tmps)) : YW P ops C s o v a' := by
  unfold YW writeV at *
  rw [he, hw]
  exact hy

def sOp (P : Program) (ops : Array Oper) (D : World → Prop) (C : Nat → World → Prop) (ks : Nat → Bool) (i : Nat) (K : Nat → Act → Prop) (s : Nat) (a : Act) : Prop :=
  match ops[i]? with
  | none => K s a
  | some o => if ks i then ∃ v, YW P ops C s o v a ∧ K (s + 1) (a.put o.dst v) else ∃ v, YR P ops D o v a ∧ K s (a.put o.dst v)
/-- Whatever order is picked from here on, the last operation n left out. -/
def wpAnyT (P : Program) (md : Region.Mode) (ops : Array Oper) (D : World → Prop) (C : Nat → World → Prop) (ks : Nat → Bool) (n : Nat) (B : Nat → Act → Prop) : Nat → Array Bool → Nat → Act → Prop
  | 0, listed, s, a => Region.ready md ops listed = [n] ∧ Region.ready md ops (listed.setIfInBounds n true) = [] ∧ B s a
  | fuel + 1, listed, s, a => Region.ready md ops listed ≠ [] ∧ ∀ i ∈ Region.ready md ops listed, sOp P ops D C ks i (wpAnyT P md ops D C ks n B fuel (listed.setIfInBounds i true)) s a

theorem wp_of_stillV {o : Oper} {a : Act} {v : Value} {w : World} {K : Act → World → Prop} {Q : Exit → Act → World → Prop} (h : stillV P o a w v) (hk : K (a.put o.dst v) w) : o.wp P a w K Q := by
  unfold Oper.wp
  rcases h with h | ⟨h, rfl⟩
  · rw [h]; exact hk
  · rw [h]; exact hk
theorem wp_of_writeV {o : Oper} {a : Act} {v : Value} {C' : World → Prop} {w : World} {K : Act → World → Prop} {Q : Exit → Act → World → Prop} (h : writeV P o a C' w v) (hk : ∀ w', C' w' → K (a.put o.dst v) w') : o.wp P a w K Q := by
  unfold Oper.wp
  obtain ⟨w', hc, h | ⟨h, rfl⟩⟩ := h
  · rw [h]; exact hk _ hc
  · rw [h]; exact hk _ hc

theorem wpAny_of_T {n : Nat} {B : Nat → Act → Prop} {Q : Exit → Act → World → Prop} (hCD : ∀ s w, C s w → D w)
    (hB : ∀ s a w, C s w → B s a → wpOp P ops Q n (fun a' w' => Q .normal a' w') a w) :
    ∀ (fuel : Nat) (listed : Array Bool) (s : Nat) (a : Act) (w : World), C s w → wpAnyT P md ops D C ks n B fuel listed s a → wpAny P md ops Q (fuel + 1) listed a w
  | 0, listed, s, a, w, hw, h => by
    obtain ⟨h1, h2, h3⟩ := h
    refine ⟨fun h0 => (by rw [h1] at h0; cases h0), fun i hi => ?_⟩
    rw [h1, List.mem_singleton] at hi
    subst hi
    have := hB s a w hw h3
    unfold wpOp at this ⊢
    split at this
    · rename_i ho; simp only [ho]; exact ⟨h2, this⟩
    · rename_i o ho
      simp only [ho]
      split
      · rename_i hwa
        simp only [hwa, if_true] at this
        exact this.imp (Oper.wp_mono fun a' w' hq => ⟨h2, hq⟩) (fun h => h)
      · rename_i hwa
        simp only [hwa] at this
        exact ⟨h2, this⟩
  | fuel + 1, listed, s, a, w, hw, h => by
    obtain ⟨h1, h2⟩ := h
    refine ⟨fun h0 => absurd h0 h1, fun i hi => ?_⟩
    have h3 := h2 i hi
    unfold sOp at h3
    unfold wpOp
    split
    · rename_i ho; simp only [ho] at h3; exact wpAny_of_T hCD hB fuel _ _ _ _ hw h3
    · rename_i o ho
      simp only [ho] at h3
      split at h3
      · obtain ⟨v, ⟨y1, y2⟩, h4⟩ := h3
        simp only [y1, if_true]
        exact .inl (wp_of_writeV (y2 w hw) fun w' hc => wpAny_of_T hCD hB fuel _ _ _ _ hc h4)
      · obtain ⟨v, y, h4⟩ := h3
        rcases y with ⟨y1, y2⟩ | ⟨y1, rfl⟩
        · simp only [y1, if_true]
          exact .inl (wp_of_stillV (y2 w (hCD s w hw)) (wpAny_of_T hCD hB fuel _ _ _ _ hw h4))
        · simp only [y1, Bool.false_eq_true, if_false]
          exact wpAny_of_T hCD hB fuel _ _ _ _ hw h4

/-- Operation j waits for operation i. -/
def waitsFor (md : Region.Mode) (oj : Oper) (i : Nat) : Prop := ∃ e ∈ oj.after, Region.binds md e = true ∧ e.on = i
theorem not_ready_of_waits {listed : Array Bool} {i j : Nat} {oj : Oper} (hoj : ops[j]? = some oj) (hw : waitsFor md oj i) (hr : i ∈ Region.ready md ops listed) (hj : j ∈ Region.ready md ops listed) : False := by
  obtain ⟨e, he, hb, rfl⟩ := hw
  obtain ⟨_, oj', hoj', hall⟩ := mem_ready.1 hj
  rw [hoj] at hoj'
  cases hoj'
  have h1 := hall e he hb
  have h0 := (mem_ready.1 hr).1
  rcases Nat.lt_or_ge e.on listed.size with h' | h'
  · simp [h'] at h0 h1; rw [h0] at h1; cases h1
  · simp [Array.getElem?_eq_none h'] at h1

variable {n : Nat} {B : Nat → Act → Prop} {on : Oper}

/-- A reader that may come up now may be taken first. -/
theorem wpAnyT_read (hn : ops[n]? = some on) {i : Nat} {oi : Oper} {v : Value} (hi : ops[i]? = some oi) (hki : ks i = false) (hni : waitsFor md on i) (hsel : ∀ (j : Nat) (o : Oper) cs b, ops[j]? = some o → o.op ≠ .select cs b) :
    ∀ (fuel : Nat) (listed : Array Bool) (s : Nat) (a : Act),
      (∀ j oj, ops[j]? = some oj → j ≠ i → listed.getD j true = false → (∀ e ∈ oj.after, Region.binds md e = true → e.on ≠ i) → oi.apart ops oj = true) →
      i ∈ Region.ready md ops listed → YR P ops D oi v a →
      wpAnyT P md ops D C ks n B fuel (listed.setIfInBounds i true) s (a.put oi.dst v) → wpAnyT P md ops D C ks n B (fuel + 1) listed s a := by
  intro fuel
  induction fuel with
  | zero =>
    intro listed s a _ hr hy H
    refine ⟨fun h => (by rw [h] at hr; cases hr), fun j hj => ?_⟩
    by_cases hji : j = i
    · subst hji; unfold sOp; simp only [hi, hki]; exact ⟨v, hy, H⟩
    · have := ready_mono hj hji
      rw [H.1, List.mem_singleton] at this
      subst this
      exact (not_ready_of_waits hn hni hr hj).elim
  | succ fuel ih =>
    intro listed s a hfree hr hy H
    refine ⟨fun h => (by rw [h] at hr; cases hr), fun j hj => ?_⟩
    by_cases hji : j = i
    · subst hji; unfold sOp; simp only [hi, hki]; exact ⟨v, hy, H⟩
    · have h1 := H.2 j (ready_mono hj hji)
      obtain ⟨hjun, oj, hoj, hall⟩ := mem_ready.1 hj
      have hnot : ∀ e ∈ oj.after, Region.binds md e = true → e.on ≠ i := fun e he hb heq => not_ready_of_waits hoj ⟨e, he, hb, heq⟩ hr hj
      obtain ⟨a1, a2, a3⟩ := Oper.apart_spec (hfree j oj hoj hji hjun hnot)
      have hfree' : ∀ k ok, ops[k]? = some ok → k ≠ i → (listed.setIfInBounds j true).getD k true = false →
          (∀ e ∈ ok.after, Region.binds md e = true → e.on ≠ i) → oi.apart ops ok = true := fun k ok hk hki hun hno => by
        refine hfree k ok hk hki ?_ hno
        by_cases hjk : j = k
        · subst hjk; exact hjun
        · rw [getD_set_ne true hjk] at hun; exact hun
      have keep : ∀ u, YR P ops D oi v (a.put oj.dst u) := fun u => hy.of_same (execOp_put oi (fun cs b => hsel i oi cs b hi) a oj.dst u a3) (wanted_put oi a oj.dst u a3)
      have e1 := execOp_put oj (fun cs b => hsel j oj cs b hoj) a oi.dst v a1
      have e2 := wanted_put oj a oi.dst v a1
      unfold sOp at h1 ⊢
      simp only [hoj] at h1 ⊢
      split
      · rename_i hk
        simp only [hk, if_true] at h1
        obtain ⟨u, y, hK⟩ := h1
        refine ⟨u, y.of_same e1.symm e2.symm, ih (listed.setIfInBounds j true) (s + 1) _ hfree' (ready_mono hr (Ne.symm hji)) (keep u) ?_⟩
        rw [Array.setIfInBounds_comm _ _ hji, ← Act.put_comm a v u a2]
        exact hK
      · rename_i hk
        simp only [hk] at h1
        obtain ⟨u, y, hK⟩ := h1
        refine ⟨u, y.of_same e1.symm e2.symm, ih (listed.setIfInBounds j true) s _ hfree' (ready_mono hr (Ne.symm hji)) (keep u) ?_⟩
        rw [Array.setIfInBounds_comm _ _ hji, ← Act.put_comm a v u a2]
        exact hK

/-- A writer that may come up now may be taken first, if every other writer waits for it. -/
theorem wpAnyT_write (hn : ops[n]? = some on) {i : Nat} {oi : Oper} {v : Value} (hi : ops[i]? = some oi) (hki : ks i = true) (hni : waitsFor md on i) (hsel : ∀ (j : Nat) (o : Oper) cs b, ops[j]? = some o → o.op ≠ .select cs b) :
    ∀ (fuel : Nat) (listed : Array Bool) (s : Nat) (a : Act),
      (∀ j oj, ops[j]? = some oj → j ≠ i → listed.getD j true = false → (∀ e ∈ oj.after, Region.binds md e = true → e.on ≠ i) → oi.apart ops oj = true) →
      (∀ j oj, ops[j]? = some oj → j ≠ i → listed.getD j true = false → ks j = true → waitsFor md oj i) →
      i ∈ Region.ready md ops listed → YW P ops C s oi v a →
      wpAnyT P md ops D C ks n B fuel (listed.setIfInBounds i true) (s + 1) (a.put oi.dst v) → wpAnyT P md ops D C ks n B (fuel + 1) listed s a := by
  intro fuel
  induction fuel with
  | zero =>
    intro listed s a _ _ hr hy H
    refine ⟨fun h => (by rw [h] at hr; cases hr), fun j hj => ?_⟩
    by_cases hji : j = i
    · subst hji; unfold sOp; simp only [hi, hki, if_true]; exact ⟨v, hy, H⟩
    · have := ready_mono hj hji
      rw [H.1, List.mem_singleton] at this
      subst this
      exact (not_ready_of_waits hn hni hr hj).elim
  | succ fuel ih =>
    intro listed s a hfree hwr hr hy H
    refine ⟨fun h => (by rw [h] at hr; cases hr), fun j hj => ?_⟩
    by_cases hji : j = i
    · subst hji; unfold sOp; simp only [hi, hki, if_true]; exact ⟨v, hy, H⟩
    · have h1 := H.2 j (ready_mono hj hji)
      obtain ⟨hjun, oj, hoj, hall⟩ := mem_ready.1 hj
      have hnot : ∀ e ∈ oj.after, Region.binds md e = true → e.on ≠ i := fun e he hb heq => not_ready_of_waits hoj ⟨e, he, hb, heq⟩ hr hj
      obtain ⟨a1, a2, a3⟩ := Oper.apart_spec (hfree j oj hoj hji hjun hnot)
      have un : ∀ k, (listed.setIfInBounds j true).getD k true = false → listed.getD k true = false := fun k hun => by
        by_cases hjk : j = k
        · subst hjk; exact hjun
        · rw [getD_set_ne true hjk] at hun; exact hun
      have keep : ∀ u, YW P ops C s oi v (a.put oj.dst u) := fun u => hy.of_same (execOp_put oi (fun cs b => hsel i oi cs b hi) a oj.dst u a3) (wanted_put oi a oj.dst u a3)
      have e1 := execOp_put oj (fun cs b => hsel j oj cs b hoj) a oi.dst v a1
      have e2 := wanted_put oj a oi.dst v a1
      unfold sOp at h1 ⊢
      simp only [hoj] at h1 ⊢
      split
      · rename_i hk
        exact (not_ready_of_waits hoj (hwr j oj hoj hji hjun hk) hr hj).elim
      · rename_i hk
        simp only [hk] at h1
        obtain ⟨u, y, hK⟩ := h1
        refine ⟨u, y.of_same e1.symm e2.symm, ih (listed.setIfInBounds j true) s _ (fun k ok hk hki hun hno => hfree k ok hk hki (un k hun) hno) (fun k ok hk hki hun hkk => hwr k ok hk hki (un k hun) hkk) (ready_mono hr (Ne.symm hji)) (keep u) ?_⟩
        rw [Array.setIfInBounds_comm _ _ hji, ← Act.put_comm a v u a2]
        exact hK

/-! The walk of the text's order. -/
def wpT (P : Program) (ops : Array Oper) (D : World → Prop) (C : Nat → World → Prop) (ks : Nat → Bool) (B : Nat → Act → Prop) : List Oper → Nat → Nat → Act → Prop
  | [], _, s, a => B s a
  | o :: l, k, s, a => if ks k then ∃ v, YW P ops C s o v a ∧ wpT P ops D C ks B l (k + 1) (s + 1) (a.put o.dst v) else ∃ v, YR P ops D o v a ∧ wpT P ops D C ks B l (k + 1) s (a.put o.dst v)

def waitsB (md : Region.Mode) (oj : Oper) (i : Nat) : Bool := oj.after.any fun e => Region.binds md e && e.on == i
theorem waitsB_spec {oj : Oper} {i : Nat} (h : waitsB md oj i = true) : waitsFor md oj i := by
  unfold waitsB at h
  rw [Array.any_eq_true'] at h
  obtain ⟨e, he, h⟩ := h
  simp only [Bool.and_eq_true, beq_iff_eq] at h
  exact ⟨e, he, h.1, h.2⟩
/-- Every other writer that has not come up waits for k. -/
def writersB (md : Region.Mode) (ops : Array Oper) (ks : Nat → Bool) (listed : Array Bool) (k : Nat) : Bool :=
  (List.range ops.size).all fun j => j == k || listed.getD j true || !ks j || (match ops[j]? with | some oj => waitsB md oj k | none => true)
theorem writersB_spec {listed : Array Bool} {k : Nat} (h : writersB md ops ks listed k = true) : ∀ j oj, ops[j]? = some oj → j ≠ k → listed.getD j true = false → ks j = true → waitsFor md oj k := by
  intro j oj hoj hjk hl hk
  unfold writersB at h
  rw [List.all_eq_true] at h
  have hj : j < ops.size := (Array.getElem?_eq_some_iff.1 hoj).1
  have := h j (List.mem_range.2 hj)
  simp [hjk, hl, hk, hoj] at this
  exact waitsB_spec this

def lexT (md : Region.Mode) (ops : Array Oper) (ks : Nat → Bool) : Nat → Nat → Array Bool → Bool
  | 0, k, listed => Region.ready md ops listed == [k] && (Region.ready md ops (listed.setIfInBounds k true)).isEmpty
  | fuel + 1, k, listed => (Region.ready md ops listed).contains k && Region.free md ops listed k && (!ks k || writersB md ops ks listed k) && (match ops[ops.size - 1]? with | some on => waitsB md on k | none => false) && lexT md ops ks fuel (k + 1) (listed.setIfInBounds k true)

theorem wpAnyT_lex (hn : ops[n]? = some on) (hsz : n = ops.size - 1) (hs : Region.noSelect ops = true) : ∀ (l : List Oper) (k : Nat) (listed : Array Bool) (s : Nat) (a : Act), (∀ j, j < l.length → l[j]? = ops[k + j]?) → k + l.length = n →
    lexT md ops ks l.length k listed = true → wpT P ops D C ks B l k s a → wpAnyT P md ops D C ks n B l.length listed s a
  | [], k, listed, s, a, _, hk, hB, h => by
    simp only [List.length_nil, lexT, Bool.and_eq_true, beq_iff_eq, List.isEmpty_iff] at hB
    simp at hk
    subst hk
    exact ⟨hB.1, hB.2, h⟩
  | o :: l, k, listed, s, a, hl, hk, hB, h => by
    have h0 : ops[k]? = some o := by simpa using (hl 0 (by simp)).symm
    simp only [List.length_cons, lexT, Bool.and_eq_true] at hB
    obtain ⟨⟨⟨⟨hr, hf⟩, hwb⟩, hlast⟩, hB'⟩ := hB
    rw [← hsz, hn] at hlast
    have hni : waitsFor md on k := waitsB_spec hlast
    have hl' : ∀ j, j < l.length → l[j]? = ops[k + 1 + j]? := fun j hj => by have := hl (j + 1) (by simp; omega); simpa [Nat.add_assoc, Nat.add_comm 1 j] using this
    unfold wpT at h
    split at h
    · rename_i hkk
      obtain ⟨v, hy, hK⟩ := h
      simp only [hkk, Bool.not_true, Bool.false_or] at hwb
      exact wpAnyT_write hn h0 hkk hni (Region.noSelect_spec hs) l.length listed s a (Region.free_spec h0 hf) (writersB_spec hwb) (by simpa using hr) hy
        (wpAnyT_lex hn hsz hs l (k + 1) _ _ _ hl' (by simp at hk; omega) hB' hK)
    · rename_i hkk
      obtain ⟨v, hy, hK⟩ := h
      exact wpAnyT_read hn h0 (by simpa using hkk) hni (Region.noSelect_spec hs) l.length listed s a (Region.free_spec h0 hf) (by simpa using hr) hy
        (wpAnyT_lex hn hsz hs l (k + 1) _ _ _ hl' (by simp at hk; omega) hB' hK)

/-- What the kernel looks at. -/
def stagedB (ops : Array Oper) (ks : Nat → Bool) : Bool := Region.noSelect ops && lexT .any ops ks (ops.size - 1) 0 (Array.replicate ops.size false)

/-- ONE WALK OF THE TEXT'S ORDER SERVES EVERY ORDER, the last operation behind all. -/
theorem wp_region_staged {id : Nat} {Q : Exit → Act → World → Prop} {a : Act} {w : World} (l : List Oper) (last : Oper) (ks : Nat → Bool) (C : Nat → World → Prop) (D : World → Prop) (hm : P.follows .mixedOrders = true) (hB : stagedB (l ++ [last]).toArray ks = true)
    (hCD : ∀ s w, C s w → D w) (hC : C 0 w.drew)
    (h : wpT P (l ++ [last]).toArray D C ks (fun s a' => ∀ w', C s w' → wpList P (l ++ [last]).toArray Q [last] a' w') l 0 0 a) : (Code.region id (l ++ [last]).toArray true).wp P Q a w := by
  simp only [stagedB, Bool.and_eq_true] at hB
  have hsz : (l ++ [last]).toArray.size - 1 = l.length := by simp
  have hn : (l ++ [last]).toArray[l.length]? = some last := by simp
  rw [hsz] at hB
  have h1 := wpAnyT_lex (n := l.length) (md := .any) hn hsz.symm hB.1 l 0 (Array.replicate (l ++ [last]).toArray.size false) 0 a (fun j hj => by simp [List.getElem?_append_left hj]) (by simp) hB.2 h
  refine wp_region_any hm ?_
  have h2 := wpAny_of_T (Q := Q) hCD (fun s a w hw hb => ?_) l.length _ 0 a { w with drawn := w.drawn + 1 } hC h1
  · simpa using h2
  · have := hb w hw
    unfold wpList at this
    unfold wpOp
    rw [hn]
    simp only []
    split at this
    · rename_i hwa; simp only [hwa, if_true]; exact this.imp (Oper.wp_mono fun a' w' hq => by simpa [wpList] using hq) (fun h => h)
    · rename_i hwa; simp only [hwa]; simpa [wpList] using this

/-- The same, the region's list written out. -/
theorem wp_region_staged_lit {id : Nat} {Q : Exit → Act → World → Prop} {a : Act} {w : World} {full : List Oper} (l : List Oper) (last : Oper) (hf : full = l ++ [last]) (ks : Nat → Bool) (C : Nat → World → Prop) (D : World → Prop) (hm : P.follows .mixedOrders = true) (hB : stagedB full.toArray ks = true)
    (hCD : ∀ s w, C s w → D w) (hC : C 0 w.drew)
    (h : wpT P full.toArray D C ks (fun s a' => ∀ w', C s w' → wpList P full.toArray Q [last] a' w') l 0 0 a) : (Code.region id full.toArray true).wp P Q a w := by
  subst hf
  exact wp_region_staged l last ks C D hm hB hCD hC h

/-! Steps of the walk. -/
/-- An operation that enters no function. -/
def isPlain (o : Oper) : Bool := match o.op with
  | .move _ | .assign _ | .pick _ _ _ | .load _ _ | .fieldAddr _ _ _ | .field _ _ _ | .indexAddr _ _ _ | .index _ _ _ | .lookup _ _ _ _ | .binOp _ _ _ _ _ | .unOp _ _ _ | .build _ _ | .extract _ _ | .slice _ _ _ _ _ | .convert _ _ _ => true
  | _ => false
theorem stillV_of_quiet {o : Oper} {a : Act} {w : World} {v : Value} (hp : isPlain o = true) (h : o.quietAt P a D w v) : stillV P o a w v := by
  unfold Oper.quietAt at h
  unfold stillV
  generalize hr : (execOp a.eval o).run P w = r at h ⊢
  cases r with
  | halt x w' => simp only [Oper.quietUpon] at h
  | ok nx w' =>
    cases nx <;> simp only [Oper.quietUpon] at h
    case value u => obtain ⟨rfl, rfl⟩ := h; exact .inl rfl
    case skip => obtain ⟨rfl, rfl⟩ := h; exact .inr ⟨rfl, rfl⟩
    case enter f args =>
      exfalso
      have key : ∀ (s : Sem Value), ((do pure (Next.value (← s))) : Sem Next).run P w ≠ .ok (.enter f args) w' := by
        intro s hh
        rw [Sem.run_bind] at hh
        cases hs : s.run P w with
        | ok x y => rw [hs] at hh; simp [Result.andThen] at hh
        | halt x y => rw [hs] at hh; simp [Result.andThen] at hh
      unfold isPlain at hp
      unfold execOp at hr
      split at hp <;> rename_i ho <;> simp only [ho] at hr
      all_goals first
        | exact key _ hr
        | (simp at hr; done)
        | (rw [Sem.run_bind] at hr; cases hs : (asBool _).run P w with
            | ok x y => (rw [hs] at hr; simp [Result.andThen] at hr)
            | halt x y => (rw [hs] at hr; simp [Result.andThen] at hr))
        | cases hp

theorem wpT_read {l : List Oper} {o : Oper} {k s : Nat} {a : Act} (hk : ks k = false) (hp : isPlain o = true) (h : wpQuiet P ops D (fun a' => wpT P ops D C ks B l (k + 1) s a') [o] a) : wpT P ops D C ks B (o :: l) k s a := by
  unfold wpT
  rw [if_neg (by rw [hk]; exact Bool.false_ne_true)]
  unfold wpQuiet at h
  split at h
  · rename_i hw
    obtain ⟨v, h1, h2⟩ := h
    exact ⟨v, .inl ⟨hw, fun w hd => stillV_of_quiet hp (h1 w hd)⟩, h2⟩
  · rename_i hw
    exact ⟨undef, .inr ⟨by simpa using hw, rfl⟩, h⟩
theorem wpT_write {l : List Oper} {o : Oper} {k s : Nat} {a : Act} (hk : ks k = true) (hg : Region.wanted o (yielded ops a.tmps) = true) (v : Value) (hw : ∀ w, C s w → ∃ w', C (s + 1) w' ∧ (execOp a.eval o).run P w = .ok (.value v) w') (h : wpT P ops D C ks B l (k + 1) (s + 1) (a.put o.dst v)) : wpT P ops D C ks B (o :: l) k s a := by
  unfold wpT
  rw [if_pos hk]
  exact ⟨v, ⟨hg, fun w hc => let ⟨w', h1, h2⟩ := hw w hc; ⟨w', h1, .inl h2⟩⟩, h⟩
theorem wpT_nil {k s : Nat} {a : Act} (h : B s a) : wpT P ops D C ks B [] k s a := h

end

/-- Three worlds, one behind the other. -/
def Three (W0 W1 W2 : World) : Type := { x : World // x = W0 ∨ x = W1 ∨ x = W2 }
theorem Three.ne (W0 W1 W2 : World) : Nonempty (Three W0 W1 W2) := ⟨⟨W0, .inl rfl⟩⟩
theorem Three.all {W0 W1 W2 : World} {p : World → Prop} (h0 : p W0) (h1 : p W1) (h2 : p W2) : ∀ x : Three W0 W1 W2, p x.1 := by
  rintro ⟨x, rfl | rfl | rfl⟩
  · exact h0
  · exact h1
  · exact h2
def threeC (W0 W1 W2 : World) (s : Nat) (w : World) : Prop := (s = 0 ∧ w = W0) ∨ (s = 1 ∧ w = W1) ∨ (s = 2 ∧ w = W2)
theorem threeC_in {W0 W1 W2 : World} : ∀ s w, threeC W0 W1 W2 s w → ∃ x : Three W0 W1 W2, w = x.1 := by
  rintro s w (⟨_, h⟩ | ⟨_, h⟩ | ⟨_, h⟩)
  · exact ⟨⟨w, .inl h⟩, rfl⟩
  · exact ⟨⟨w, .inr (.inl h)⟩, rfl⟩
  · exact ⟨⟨w, .inr (.inr h)⟩, rfl⟩
theorem threeC_0 {W0 W1 W2 w : World} (h : threeC W0 W1 W2 0 w) : w = W0 := by
  rcases h with ⟨_, h⟩ | ⟨h, _⟩ | ⟨h, _⟩
  · exact h
  · cases h
  · cases h
theorem threeC_1 {W0 W1 W2 w : World} (h : threeC W0 W1 W2 1 w) : w = W1 := by
  rcases h with ⟨h, _⟩ | ⟨_, h⟩ | ⟨h, _⟩
  · cases h
  · exact h
  · cases h
theorem threeC_2 {W0 W1 W2 w : World} (h : threeC W0 W1 W2 2 w) : w = W2 := by
  rcases h with ⟨h, _⟩ | ⟨h, _⟩ | ⟨_, h⟩
  · cases h
  · cases h
  · exact h
end Go.Proofs.YtbdlojnigflanacGreatDoor
end
section
/- From rows that a call owns to a policy in memory. -/
set_option linter.all false
namespace Go.Proofs.YtbdlojnigflanacGreatDoor
open Go.RowKit Go.Maps

theorem condCells_get : ∀ (cs : List CondT) (i : Nat) (c : CondT), cs[i]? = some c → (condCells cs)[i * 3]? = some (.int .i64 c.1) ∧ (condCells cs)[i * 3 + 1]? = some (.int .i64 c.2.1) ∧ (condCells cs)[i * 3 + 2]? = some (.int .i64 c.2.2)
  | [], _, _, h => by simp at h
  | c' :: r, 0, c, h => by
    simp at h
    subst h
    simp [condCells]
  | c' :: r, i + 1, c, h => by
    have ih := condCells_get r i c (by simpa using h)
    have e : condCells (c' :: r) = .int .i64 c'.1 :: .int .i64 c'.2.1 :: .int .i64 c'.2.2 :: condCells r := rfl
    rw [e]
    refine ⟨?_, ?_, ?_⟩
    · rw [show (i + 1) * 3 = i * 3 + 1 + 1 + 1 by omega]; simpa using ih.1
    · rw [show (i + 1) * 3 + 1 = i * 3 + 1 + 1 + 1 + 1 by omega]; simpa using ih.2.1
    · rw [show (i + 1) * 3 + 2 = i * 3 + 2 + 1 + 1 + 1 by omega]; simpa using ih.2.2

theorem condWf {c : CondT} (h : condErr c = 0) : wf c.1 ∧ wf c.2.1 ∧ wf c.2.2 := by
  obtain ⟨h1, h2, h3⟩ := condErr_ok h
  have := most_le c.1
  exact ⟨WalkArith.wf_i64 (by omega), WalkArith.wf_i64 (by omega), WalkArith.wf_i64 (by omega)⟩
theorem verdictWf {v : Int} (h : verdictOk v = true) : wf v := by
  unfold verdictOk at h
  simp at h
  exact WalkArith.wf_i64 (by omega)

theorem condsAt_of {B base : Nat} {w : World} {cv : Value} {cs : List CondT} (h : w.ownsRow base 99 3 cv cs.length (condCells cs)) (hok : ∀ c ∈ cs, condErr c = 0) (hB : w.heap.size ≤ B) : CondsAt B w cv cs := by
  obtain ⟨a, cap, rfl, h1, h2, h3⟩ := ownsRow_caps h
  refine ⟨a, cap, rfl, h1, h2, fun i c hc => ?_⟩
  have hi : i < cs.length := (List.getElem?_eq_some_iff.1 hc).1
  obtain ⟨g, rfl, hg1, hg2⟩ := h3 (by omega)
  obtain ⟨e0, e1, e2⟩ := condCells_get cs i c hc
  obtain ⟨w0, w1, w2⟩ := condWf (hok c (List.mem_of_getElem? hc))
  refine ⟨g, 0, rfl, by omega, ?_, ?_, ?_, w0, w1, w2⟩
  · rw [Nat.zero_add]; exact ownsRow_cell h _ _ e0
  · rw [Nat.zero_add]; exact ownsRow_cell h _ _ e1
  · rw [Nat.zero_add]; exact ownsRow_cell h _ _ e2

theorem RulesCells.get {B : Nat} {w : World} : ∀ (rs : List RuleT) (xs : List Value) (i : Nat) (r : RuleT), RulesCells B w rs xs → rs[i]? = some r → ∃ cv, xs[i * 2]? = some cv ∧ xs[i * 2 + 1]? = some (.int .i64 r.2) ∧ w.ownsRow B 99 3 cv r.1.length (condCells r.1)
  | [], _, _, _, _, h => by simp at h
  | r' :: rs, xs, 0, r, h, hr => by
    obtain ⟨cv, ys, rfl, h1, h2⟩ := h
    simp at hr
    subst hr
    exact ⟨cv, rfl, rfl, h1⟩
  | r' :: rs, xs, i + 1, r, h, hr => by
    obtain ⟨cv, ys, rfl, h1, h2⟩ := h
    obtain ⟨cv', g1, g2, g3⟩ := RulesCells.get rs ys i r h2 (by simpa using hr)
    refine ⟨cv', ?_, ?_, g3⟩
    · rw [show (i + 1) * 2 = i * 2 + 1 + 1 by omega]; simpa using g1
    · rw [show (i + 1) * 2 + 1 = i * 2 + 1 + 1 + 1 by omega]; simpa using g2

theorem rulesAt_of {B base : Nat} {w : World} {rv : Value} {rs : List RuleT} {xs : List Value} (h : w.ownsRow base 95 2 rv rs.length xs) (hx : RulesCells base w rs xs) (hok : ∀ r ∈ rs, ruleErr r = 0) (hB : w.heap.size ≤ B) : RulesAt B w rv rs := by
  obtain ⟨a, cap, rfl, h1, h2, h3⟩ := ownsRow_caps h
  refine ⟨a, cap, rfl, h1, h2, fun i r hr => ?_⟩
  have hi : i < rs.length := (List.getElem?_eq_some_iff.1 hr).1
  obtain ⟨g, rfl, hg1, hg2⟩ := h3 (by omega)
  obtain ⟨cv, e0, e1, hc⟩ := RulesCells.get rs xs i r hx hr
  obtain ⟨_, k2, k3⟩ := ruleErr_ok (hok r (List.mem_of_getElem? hr))
  refine ⟨g, 0, rfl, by omega, cv, ?_, ?_, verdictWf k2, condsAt_of hc (condsErr_all k3) hB⟩
  · rw [Nat.zero_add]; exact ownsRow_cell h _ _ e0
  · rw [Nat.zero_add]; exact ownsRow_cell h _ _ e1
theorem polAt_of {B base : Nat} {w : World} {rv : Value} {rs : List RuleT} {d : Int} {xs : List Value} (h : w.ownsRow base 95 2 rv rs.length xs) (hx : RulesCells base w rs xs) (hok : polErr (rs, d) = 0) (hB : w.heap.size ≤ B) : PolAt B w (.agg #[rv, .int .i64 d]) (rs, d) := by
  obtain ⟨_, k2, k3⟩ := polErr_ok hok
  exact ⟨rv, rfl, verdictWf k2, rulesAt_of h hx (rulesErr_all k3) hB⟩

/-- A policy all of whose memory is new: from block L on. -/
def PolNew (L : Nat) (w : World) (pv : Value) (p : PolT) : Prop := ∀ wF : World, (∀ g, L ≤ g → g < w.heap.size → wF.heap[g]? = w.heap[g]?) → w.heap.size ≤ wF.heap.size → PolAt wF.heap.size wF pv p
theorem PolNew.at {L : Nat} {w : World} {pv : Value} {p : PolT} (h : PolNew L w pv p) : PolAt w.heap.size w pv p := h w (fun _ _ _ => rfl) (Nat.le_refl _)

theorem PolNew.keep {L L' : Nat} {w w' : World} {pv : Value} {p : PolT} (h : PolNew L w pv p) (hL : L' ≤ L) (hk : ∀ g, L ≤ g → g < w.heap.size → w'.heap[g]? = w.heap[g]?) (hs : w.heap.size ≤ w'.heap.size) : PolNew L' w' pv p :=
  fun wF h1 h2 => h wF (fun g hg hl => (h1 g (by omega) (by omega)).trans (hk g hg hl)) (by omega)
theorem PolNew.later {L L' : Nat} {w w' : World} {pv : Value} {p : PolT} (h : PolNew L w pv p) (hL : L' ≤ L) (hb : Below w.heap.size w w') : PolNew L' w' pv p := h.keep hL (fun g _ hl => hb.block g hl) hb.size
theorem PolNew.put {L : Nat} {w : World} {pv : Value} {p : PolT} {b o : Nat} {u : Value} (h : PolNew L w pv p) (hb : b < L ∨ w.heap.size ≤ b) : PolNew L (w.setCell ⟨b, o, none⟩ u) pv p := h.keep (Nat.le_refl _) (fun g hg hl => Below.heap_setCell _ _ _ _ (by show g ≠ b; omega)) (by simp)

end Go.Proofs.YtbdlojnigflanacGreatDoor
end
