/- A region that draws its order, whose writers come in whatever order: what stands behind some of them is said by one predicate of the values that they gave and of the world; the last operation waits for all. One walk of the text's order serves every order. -/
import Derived.Test.YtbdlojnigflanacGreatDoorKb08
set_option linter.all false
namespace Go.Proofs.YtbdlojnigflanacGreatDoor
open Go.RowKit

section
variable {P : Program} {ops : Array Oper} {md : Region.Mode} {J : (Nat → Value → Prop) → World → Prop} {S : Nat → Value → Prop} {ks : Nat → Bool}

/-- What an operation came to, by its value and its world. -/
def upV (P : Program) (K : Value → World → Prop) : Result Next → Prop
  | .ok (.value v) w' => K v w'
  | .ok .skip w' => K undef w'
  | .ok (.enter f args) w' => Calls P f args w' fun e w'' => ∃ v, e = .returned v ∧ K v w''
  | _ => False
theorem wp_of_upV {o : Oper} {a : Act} {w : World} {K : Value → World → Prop} {K' : Act → World → Prop} {Q : Exit → Act → World → Prop} (h : upV P K ((execOp a.eval o).run P w)) (hk : ∀ v w', K v w' → K' (a.put o.dst v) w') : o.wp P a w K' Q := by
  unfold Oper.wp
  generalize (execOp a.eval o).run P w = r at *
  cases r with
  | halt x w' => simp only [upV] at h
  | ok nx w' =>
    cases nx <;> simp only [upV] at h
    case value v => exact hk _ _ h
    case skip => exact hk _ _ h
    case enter f args => exact h.mono fun e w'' ⟨v, he, h'⟩ => by subst he; exact hk _ _ h'

def addF (fs : Nat → Value → Prop) (i : Nat) (v : Value) : Nat → Value → Prop := fun m u => fs m u ∨ (m = i ∧ u = v)
theorem addF_comm (fs : Nat → Value → Prop) (i j : Nat) (v u : Value) : addF (addF fs i v) j u = addF (addF fs j u) i v := by
  funext m x
  simp only [addF]
  exact propext ⟨by rintro ((h | h) | h) <;> simp [h], by rintro ((h | h) | h) <;> simp [h]⟩

def inJ (J : (Nat → Value → Prop) → World → Prop) (w : World) : Prop := ∃ fs, J fs w
/-- A writer's step: it is told the values of those that it waits for. -/
def YG (P : Program) (ops : Array Oper) (md : Region.Mode) (J : (Nat → Value → Prop) → World → Prop) (S : Nat → Value → Prop) (o : Oper) (k : Nat) (fs : Nat → Value → Prop) (a : Act) : Prop :=
  Region.wanted o (yielded ops a.tmps) = true ∧ ∀ fs' w, J fs' w → (∀ m v, fs m v → waitsFor md o m → fs' m v) → (∀ v, ¬ fs' k v) → upV P (fun v w' => S k v ∧ J (addF fs' k v) w') ((execOp a.eval o).run P w)
theorem YG.of_same {o : Oper} {k : Nat} {fs fs' : Nat → Value → Prop} {a a' : Act} (hy : YG P ops md J S o k fs a) (he : execOp a'.eval o = execOp a.eval o) (hw : Region.wanted o (yielded ops a'.tmps) = Region.wanted o (yielded ops a.tmps)) (hf : ∀ m v, fs m v → waitsFor md o m → fs' m v) : YG P ops md J S o k fs' a' := by
  unfold YG at *
  rw [he, hw]
  exact ⟨hy.1, fun gs w hd h hk => hy.2 gs w hd (fun m v hm hwt => h m v (hf m v hm hwt) hwt) hk⟩

def gOp (P : Program) (ops : Array Oper) (md : Region.Mode) (J : (Nat → Value → Prop) → World → Prop) (S : Nat → Value → Prop) (ks : Nat → Bool) (i : Nat) (K : (Nat → Value → Prop) → Act → Prop) (fs : Nat → Value → Prop) (a : Act) : Prop :=
  match ops[i]? with
  | none => K fs a
  | some o => if ks i then YG P ops md J S o i fs a ∧ ∀ v, S i v → K (addF fs i v) (a.put o.dst v) else ∃ v, YR P ops (inJ J) o v a ∧ K fs (a.put o.dst v)

def wpAnyG (P : Program) (md : Region.Mode) (ops : Array Oper) (J : (Nat → Value → Prop) → World → Prop) (S : Nat → Value → Prop) (ks : Nat → Bool) (n : Nat) (B : (Nat → Value → Prop) → Act → Prop) : Nat → Array Bool → (Nat → Value → Prop) → Act → Prop
  | 0, listed, fs, a => Region.ready md ops listed = [n] ∧ Region.ready md ops (listed.setIfInBounds n true) = [] ∧ B fs a
  | fuel + 1, listed, fs, a => Region.ready md ops listed ≠ [] ∧ ∀ i ∈ Region.ready md ops listed, gOp P ops md J S ks i (wpAnyG P md ops J S ks n B fuel (listed.setIfInBounds i true)) fs a

theorem wpAny_of_G {n : Nat} {B : (Nat → Value → Prop) → Act → Prop} {Q : Exit → Act → World → Prop}
    (hB : ∀ fs a w, J fs w → B fs a → wpOp P ops Q n (fun a' w' => Q .normal a' w') a w) :
    ∀ (fuel : Nat) (listed : Array Bool) (fs : Nat → Value → Prop) (a : Act) (w : World), J fs w → (∀ m v, fs m v → listed.getD m true = true) → wpAnyG P md ops J S ks n B fuel listed fs a → wpAny P md ops Q (fuel + 1) listed a w
  | 0, listed, fs, a, w, hd, hf, h => by
    obtain ⟨h1, h2, h3⟩ := h
    refine ⟨fun h0 => (by rw [h1] at h0; cases h0), fun i hi => ?_⟩
    rw [h1, List.mem_singleton] at hi
    subst hi
    have := hB fs a w hd h3
    unfold wpOp at this ⊢
    split at this
    · rename_i ho; simp only [ho]; exact ⟨h2, this⟩
    · rename_i o ho
      simp only [ho]
      split
      · rename_i hwa
        simp only [hwa, if_true] at this
        exact this.imp (Oper.wp_mono fun a' w' hq => ⟨h2, hq⟩) (fun h => h)
      · rename_i hwa
        simp only [hwa] at this
        exact ⟨h2, this⟩
  | fuel + 1, listed, fs, a, w, hd, hf, h => by
    obtain ⟨h1, h2⟩ := h
    refine ⟨fun h0 => absurd h0 h1, fun i hi => ?_⟩
    have h3 := h2 i hi
    obtain ⟨hiun, _, _, _⟩ := mem_ready.1 hi
    have hset : ∀ m, listed.getD m true = true → (listed.setIfInBounds i true).getD m true = true := fun m hm => by
      by_cases hmi : i = m
      · subst hmi
        rw [hiun] at hm
        cases hm
      · rw [getD_set_ne true hmi]; exact hm
    have hseti : (listed.setIfInBounds i true).getD i true = true := by
      rcases Nat.lt_or_ge i listed.size with h' | h'
      · simp [h']
      · simp [Array.getElem?_eq_none h']
    unfold gOp at h3
    unfold wpOp
    split
    · rename_i ho; simp only [ho] at h3; exact wpAny_of_G hB fuel _ _ _ _ hd (fun m v hm => hset m (hf m v hm)) h3
    · rename_i o ho
      simp only [ho] at h3
      split at h3
      · obtain ⟨⟨y1, y2⟩, h4⟩ := h3
        simp only [y1, if_true]
        refine .inl (wp_of_upV (y2 fs w hd (fun m v hm _ => hm) fun v hv => ?_) fun v w' ⟨k0, k1⟩ => ?_)
        · have := hf i v hv
          rw [hiun] at this
          cases this
        · refine wpAny_of_G hB fuel _ (addF fs i v) _ w' k1 (fun m u hm => ?_) (h4 v k0)
          rcases hm with hm | ⟨rfl, rfl⟩
          · exact hset m (hf m u hm)
          · exact hseti
      · obtain ⟨v, y, h4⟩ := h3
        rcases y with ⟨y1, y2⟩ | ⟨y1, rfl⟩
        · simp only [y1, if_true]
          exact .inl (wp_of_stillV (y2 w ⟨fs, hd⟩) (wpAny_of_G hB fuel _ _ _ _ hd (fun m v hm => hset m (hf m v hm)) h4))
        · simp only [y1, Bool.false_eq_true, if_false]
          exact wpAny_of_G hB fuel _ _ _ _ hd (fun m v hm => hset m (hf m v hm)) h4

theorem YR.one {D : World → Prop} {o : Oper} {v u : Value} {a : Act} (hne : ∃ w, D w) (h : YR P ops D o v a) (h' : YR P ops D o u a) : v = u := by
  obtain ⟨w, hd⟩ := hne
  rcases h with ⟨h1, h2⟩ | ⟨h1, rfl⟩
  · rcases h' with ⟨k1, k2⟩ | ⟨k1, _⟩
    · have e1 := h2 w hd
      have e2 := k2 w hd
      unfold stillV at e1 e2
      rcases e1 with e1 | ⟨e1, rfl⟩ <;> rcases e2 with e2 | ⟨e2, rfl⟩ <;> rw [e1] at e2 <;> first | (injection e2 with e3 _; injection e3) | rfl | (injection e2 with e3 _; cases e3)
    · rw [h1] at k1; cases k1
  · rcases h' with ⟨k1, _⟩ | ⟨_, rfl⟩
    · rw [h1] at k1; cases k1
    · rfl

variable {n : Nat} {B : (Nat → Value → Prop) → Act → Prop} {on : Oper}

theorem wpAnyG_read (hn : ops[n]? = some on) {i : Nat} {oi : Oper} {v : Value} (hi : ops[i]? = some oi) (hki : ks i = false) (hni : waitsFor md on i) (hsel : ∀ (j : Nat) (o : Oper) cs b, ops[j]? = some o → o.op ≠ .select cs b) :
    ∀ (fuel : Nat) (listed : Array Bool) (fs : Nat → Value → Prop) (a : Act),
      (∀ j oj, ops[j]? = some oj → j ≠ i → listed.getD j true = false → (∀ e ∈ oj.after, Region.binds md e = true → e.on ≠ i) → oi.apart ops oj = true) →
      i ∈ Region.ready md ops listed → YR P ops (inJ J) oi v a →
      wpAnyG P md ops J S ks n B fuel (listed.setIfInBounds i true) fs (a.put oi.dst v) → wpAnyG P md ops J S ks n B (fuel + 1) listed fs a := by
  intro fuel
  induction fuel with
  | zero =>
    intro listed fs a _ hr hy H
    refine ⟨fun h => (by rw [h] at hr; cases hr), fun j hj => ?_⟩
    by_cases hji : j = i
    · subst hji; unfold gOp; simp only [hi, hki]; exact ⟨v, hy, H⟩
    · have := ready_mono hj hji
      rw [H.1, List.mem_singleton] at this
      subst this
      exact (not_ready_of_waits hn hni hr hj).elim
  | succ fuel ih =>
    intro listed fs a hfree hr hy H
    refine ⟨fun h => (by rw [h] at hr; cases hr), fun j hj => ?_⟩
    by_cases hji : j = i
    · subst hji; unfold gOp; simp only [hi, hki]; exact ⟨v, hy, H⟩
    · have h1 := H.2 j (ready_mono hj hji)
      obtain ⟨hjun, oj, hoj, hall⟩ := mem_ready.1 hj
      have hnot : ∀ e ∈ oj.after, Region.binds md e = true → e.on ≠ i := fun e he hb heq => not_ready_of_waits hoj ⟨e, he, hb, heq⟩ hr hj
      obtain ⟨a1, a2, a3⟩ := Oper.apart_spec (hfree j oj hoj hji hjun hnot)
      have hfree' : ∀ k ok, ops[k]? = some ok → k ≠ i → (listed.setIfInBounds j true).getD k true = false →
          (∀ e ∈ ok.after, Region.binds md e = true → e.on ≠ i) → oi.apart ops ok = true := fun k ok hk hki hun hno => by
        refine hfree k ok hk hki ?_ hno
        by_cases hjk : j = k
        · subst hjk; exact hjun
        · rw [getD_set_ne true hjk] at hun; exact hun
      have keep : ∀ u, YR P ops (inJ J) oi v (a.put oj.dst u) := fun u => hy.of_same (execOp_put oi (fun cs b => hsel i oi cs b hi) a oj.dst u a3) (wanted_put oi a oj.dst u a3)
      have e1 := execOp_put oj (fun cs b => hsel j oj cs b hoj) a oi.dst v a1
      have e2 := wanted_put oj a oi.dst v a1
      unfold gOp at h1 ⊢
      simp only [hoj] at h1 ⊢
      split
      · rename_i hk
        simp only [hk, if_true] at h1
        obtain ⟨y, hK⟩ := h1
        refine ⟨y.of_same e1.symm e2.symm fun m u hm _ => hm, fun u hu => ih (listed.setIfInBounds j true) _ _ hfree' (ready_mono hr (Ne.symm hji)) (keep u) ?_⟩
        rw [Array.setIfInBounds_comm _ _ hji, ← Act.put_comm a v u a2]
        exact hK u hu
      · rename_i hk
        simp only [hk] at h1
        obtain ⟨u, y, hK⟩ := h1
        refine ⟨u, y.of_same e1.symm e2.symm, ih (listed.setIfInBounds j true) fs _ hfree' (ready_mono hr (Ne.symm hji)) (keep u) ?_⟩
        rw [Array.setIfInBounds_comm _ _ hji, ← Act.put_comm a v u a2]
        exact hK

theorem wpAnyG_write (hS : ∀ k, ∃ v, S k v) (hne : ∃ w, inJ J w) (hn : ops[n]? = some on) {i : Nat} {oi : Oper} (hi : ops[i]? = some oi) (hki : ks i = true) (hni : waitsFor md on i) (hsel : ∀ (j : Nat) (o : Oper) cs b, ops[j]? = some o → o.op ≠ .select cs b) :
    ∀ (fuel : Nat) (listed : Array Bool) (fs : Nat → Value → Prop) (a : Act),
      (∀ j oj, ops[j]? = some oj → j ≠ i → listed.getD j true = false → (∀ e ∈ oj.after, Region.binds md e = true → e.on ≠ i) → oi.apart ops oj = true) →
      i ∈ Region.ready md ops listed → YG P ops md J S oi i fs a →
      (∀ v, S i v → wpAnyG P md ops J S ks n B fuel (listed.setIfInBounds i true) (addF fs i v) (a.put oi.dst v)) → wpAnyG P md ops J S ks n B (fuel + 1) listed fs a := by
  intro fuel
  obtain ⟨vs, hvs⟩ := hS i
  induction fuel with
  | zero =>
    intro listed fs a _ hr hy H
    refine ⟨fun h => (by rw [h] at hr; cases hr), fun j hj => ?_⟩
    by_cases hji : j = i
    · subst hji; unfold gOp; simp only [hi, hki, if_true]; exact ⟨hy, H⟩
    · have := ready_mono hj hji
      rw [(H vs hvs).1, List.mem_singleton] at this
      subst this
      exact (not_ready_of_waits hn hni hr hj).elim
  | succ fuel ih =>
    intro listed fs a hfree hr hy H
    refine ⟨fun h => (by rw [h] at hr; cases hr), fun j hj => ?_⟩
    by_cases hji : j = i
    · subst hji; unfold gOp; simp only [hi, hki, if_true]; exact ⟨hy, H⟩
    · have h1 := fun v hv => (H v hv).2 j (ready_mono hj hji)
      obtain ⟨hjun, oj, hoj, hall⟩ := mem_ready.1 hj
      have hnot : ∀ e ∈ oj.after, Region.binds md e = true → e.on ≠ i := fun e he hb heq => not_ready_of_waits hoj ⟨e, he, hb, heq⟩ hr hj
      have hnw : ¬ waitsFor md oj i := fun ⟨e, he, hb, heq⟩ => hnot e he hb heq
      have hnw' : ¬ waitsFor md oi j := fun h => not_ready_of_waits hi h hj hr
      obtain ⟨a1, a2, a3⟩ := Oper.apart_spec (hfree j oj hoj hji hjun hnot)
      have hfree' : ∀ k ok, ops[k]? = some ok → k ≠ i → (listed.setIfInBounds j true).getD k true = false →
          (∀ e ∈ ok.after, Region.binds md e = true → e.on ≠ i) → oi.apart ops ok = true := fun k ok hk hki hun hno => by
        refine hfree k ok hk hki ?_ hno
        by_cases hjk : j = k
        · subst hjk; exact hjun
        · rw [getD_set_ne true hjk] at hun; exact hun
      have keep : ∀ u fs', (∀ m x, fs m x → waitsFor md oi m → fs' m x) → YG P ops md J S oi i fs' (a.put oj.dst u) := fun u fs' hfs => hy.of_same (execOp_put oi (fun cs b => hsel i oi cs b hi) a oj.dst u a3) (wanted_put oi a oj.dst u a3) hfs
      have e1 := fun v => execOp_put oj (fun cs b => hsel j oj cs b hoj) a oi.dst v a1
      have e2 := fun v => wanted_put oj a oi.dst v a1
      unfold gOp at h1 ⊢
      simp only [hoj] at h1 ⊢
      split
      · rename_i hk
        simp only [hk, if_true] at h1
        refine ⟨(h1 vs hvs).1.of_same (e1 vs).symm (e2 vs).symm fun m u hm hw => ?_, fun u hu => ih (listed.setIfInBounds j true) _ _ hfree' (ready_mono hr (Ne.symm hji)) (keep u _ fun m x hm _ => .inl hm) fun v hv => ?_⟩
        · rcases hm with hm | ⟨rfl, rfl⟩
          · exact hm
          · exact absurd hw hnw
        · rw [Array.setIfInBounds_comm _ _ hji, ← Act.put_comm a v u a2, addF_comm]
          exact (h1 v hv).2 u hu
      · rename_i hk
        simp only [hk] at h1
        obtain ⟨u, y, _⟩ := h1 vs hvs
        have y0 : YR P ops (inJ J) oj u a := y.of_same (e1 vs).symm (e2 vs).symm
        refine ⟨u, y0, ih (listed.setIfInBounds j true) fs _ hfree' (ready_mono hr (Ne.symm hji)) (keep u _ fun m x hm _ => hm) fun v hv => ?_⟩
        obtain ⟨u', y', hK⟩ := h1 v hv
        have := YR.one hne y0 (y'.of_same (e1 v).symm (e2 v).symm)
        subst this
        rw [Array.setIfInBounds_comm _ _ hji, ← Act.put_comm a v u a2]
        exact hK

/-! The walk of the text's order. -/
def wpG (P : Program) (ops : Array Oper) (md : Region.Mode) (J : (Nat → Value → Prop) → World → Prop) (S : Nat → Value → Prop) (ks : Nat → Bool) (B : (Nat → Value → Prop) → Act → Prop) : List Oper → Nat → (Nat → Value → Prop) → Act → Prop
  | [], _, fs, a => B fs a
  | o :: l, k, fs, a => if ks k then YG P ops md J S o k fs a ∧ ∀ v, S k v → wpG P ops md J S ks B l (k + 1) (addF fs k v) (a.put o.dst v) else ∃ v, YR P ops (inJ J) o v a ∧ wpG P ops md J S ks B l (k + 1) fs (a.put o.dst v)

theorem wpAnyG_lex (hS : ∀ k, ∃ v, S k v) (hne : ∃ w, inJ J w) (hn : ops[n]? = some on) (hsz : n = ops.size - 1) (hs : Region.noSelect ops = true) : ∀ (l : List Oper) (k : Nat) (listed : Array Bool) (fs : Nat → Value → Prop) (a : Act), (∀ j, j < l.length → l[j]? = ops[k + j]?) → k + l.length = n →
    lexT md ops (fun _ => false) l.length k listed = true → wpG P ops md J S ks B l k fs a → wpAnyG P md ops J S ks n B l.length listed fs a
  | [], k, listed, fs, a, _, hk, hB, h => by
    simp only [List.length_nil, lexT, Bool.and_eq_true, beq_iff_eq, List.isEmpty_iff] at hB
    simp at hk
    subst hk
    exact ⟨hB.1, hB.2, h⟩
  | o :: l, k, listed, fs, a, hl, hk, hB, h => by
    have h0 : ops[k]? = some o := by simpa using (hl 0 (by simp)).symm
    simp only [List.length_cons, lexT, Bool.and_eq_true] at hB
    obtain ⟨⟨⟨⟨hr, hf⟩, hwb⟩, hlast⟩, hB'⟩ := hB
    rw [← hsz, hn] at hlast
    have hni : waitsFor md on k := waitsB_spec hlast
    have hl' : ∀ j, j < l.length → l[j]? = ops[k + 1 + j]? := fun j hj => by have := hl (j + 1) (by simp; omega); simpa [Nat.add_assoc, Nat.add_comm 1 j] using this
    unfold wpG at h
    split at h
    · rename_i hkk
      obtain ⟨hy, hK⟩ := h
      exact wpAnyG_write hS hne hn h0 hkk hni (Region.noSelect_spec hs) l.length listed fs a (Region.free_spec h0 hf) (by simpa using hr) hy
        (fun v hv => wpAnyG_lex hS hne hn hsz hs l (k + 1) _ _ _ hl' (by simp at hk; omega) hB' (hK v hv))
    · rename_i hkk
      obtain ⟨v, hy, hK⟩ := h
      exact wpAnyG_read hn h0 (by simpa using hkk) hni (Region.noSelect_spec hs) l.length listed fs a (Region.free_spec h0 hf) (by simpa using hr) hy
        (wpAnyG_lex hS hne hn hsz hs l (k + 1) _ _ _ hl' (by simp at hk; omega) hB' hK)

theorem wp_region_free {id : Nat} {Q : Exit → Act → World → Prop} {a : Act} {w : World} {full : List Oper} (l : List Oper) (last : Oper) (hf : full = l ++ [last]) (ks : Nat → Bool) (J : (Nat → Value → Prop) → World → Prop) (S : Nat → Value → Prop) (hS : ∀ k, ∃ v, S k v) (hm : P.follows .mixedOrders = true) (hB : stagedB full.toArray (fun _ => false) = true) (hC : J (fun _ _ => False) w.drew)
    (h : wpG P full.toArray .any J S ks (fun fs a' => ∀ w', J fs w' → wpList P full.toArray Q [last] a' w') l 0 (fun _ _ => False) a) : (Code.region id full.toArray true).wp P Q a w := by
  subst hf
  simp only [stagedB, Bool.and_eq_true] at hB
  have hsz : (l ++ [last]).toArray.size - 1 = l.length := by simp
  have hn : (l ++ [last]).toArray[l.length]? = some last := by simp
  rw [hsz] at hB
  have h1 := wpAnyG_lex (n := l.length) (md := .any) hS ⟨_, _, hC⟩ hn hsz.symm hB.1 l 0 (Array.replicate (l ++ [last]).toArray.size false) (fun _ _ => False) a (fun j hj => by simp [List.getElem?_append_left hj]) (by simp) hB.2 h
  refine wp_region_any hm ?_
  have h2 := wpAny_of_G (Q := Q) (fun fs a w hd hb => ?_) l.length _ (fun _ _ => False) a { w with drawn := w.drawn + 1 } hC (fun m v hm => hm.elim) h1
  · simpa using h2
  · have := hb w hd
    unfold wpList at this
    unfold wpOp
    rw [hn]
    simp only []
    split at this
    · rename_i hwa; simp only [hwa, if_true]; exact this.imp (Oper.wp_mono fun a' w' hq => by simpa [wpList] using hq) (fun h => h)
    · rename_i hwa; simp only [hwa]; simpa [wpList] using this

/-! Steps of the walk. -/
theorem wpG_read {D : World → Prop} (hD : ∀ fs w, J fs w → D w) {l : List Oper} {o : Oper} {k : Nat} {fs : Nat → Value → Prop} {a : Act} (hk : ks k = false) (hp : isPlain o = true) (h : wpQuiet P ops D (fun a' => wpG P ops md J S ks B l (k + 1) fs a') [o] a) : wpG P ops md J S ks B (o :: l) k fs a := by
  unfold wpG
  rw [if_neg (by rw [hk]; exact Bool.false_ne_true)]
  unfold wpQuiet at h
  split at h
  · rename_i hw
    obtain ⟨v, h1, h2⟩ := h
    exact ⟨v, .inl ⟨hw, fun w ⟨gs, hd⟩ => stillV_of_quiet hp (h1 w (hD gs w hd))⟩, h2⟩
  · rename_i hw
    exact ⟨undef, .inr ⟨by simpa using hw, rfl⟩, h⟩
/-- A reader, its value told. -/
theorem wpG_readV {l : List Oper} {o : Oper} {k : Nat} {fs : Nat → Value → Prop} {a : Act} (v : Value) (hk : ks k = false) (hg : Region.wanted o (yielded ops a.tmps) = true) (hw : ∀ w, (execOp a.eval o).run P w = .ok (.value v) w) (h : wpG P ops md J S ks B l (k + 1) fs (a.put o.dst v)) : wpG P ops md J S ks B (o :: l) k fs a := by
  unfold wpG
  rw [if_neg (by rw [hk]; exact Bool.false_ne_true)]
  exact ⟨v, .inl ⟨hg, fun w _ => .inl (hw w)⟩, h⟩
/-- A writer that enters no function. -/
theorem wpG_write {l : List Oper} {o : Oper} {k : Nat} {fs : Nat → Value → Prop} {a : Act} (hk : ks k = true) (hg : Region.wanted o (yielded ops a.tmps) = true) (hw : ∀ gs w, J gs w → (∀ m v, fs m v → waitsFor md o m → gs m v) → (∀ v, ¬ gs k v) → ∃ v w', (execOp a.eval o).run P w = .ok (.value v) w' ∧ S k v ∧ J (addF gs k v) w') (h : ∀ v, S k v → wpG P ops md J S ks B l (k + 1) (addF fs k v) (a.put o.dst v)) : wpG P ops md J S ks B (o :: l) k fs a := by
  unfold wpG
  rw [if_pos hk]
  refine ⟨⟨hg, fun gs w hd hfs hnk => ?_⟩, h⟩
  obtain ⟨v, w', h1, h2⟩ := hw gs w hd hfs hnk
  rw [h1]
  exact h2
/-- A writer that enters a function. -/
theorem wpG_call {l : List Oper} {o : Oper} {k : Nat} {fs : Nat → Value → Prop} {a : Act} (f : FuncId) (args : Array Value) (hk : ks k = true) (hg : Region.wanted o (yielded ops a.tmps) = true) (he : ∀ w, (execOp a.eval o).run P w = .ok (.enter f args) w) (hw : ∀ gs w, J gs w → (∀ m v, fs m v → waitsFor md o m → gs m v) → (∀ v, ¬ gs k v) → Calls P f args w fun e w' => ∃ v, e = .returned v ∧ S k v ∧ J (addF gs k v) w') (h : ∀ v, S k v → wpG P ops md J S ks B l (k + 1) (addF fs k v) (a.put o.dst v)) : wpG P ops md J S ks B (o :: l) k fs a := by
  unfold wpG
  rw [if_pos hk]
  refine ⟨⟨hg, fun gs w hd hfs hnk => ?_⟩, h⟩
  rw [he w]
  exact hw gs w hd hfs hnk
/-- A writer that hands back nothing (a store). -/
theorem wpG_store {l : List Oper} {o : Oper} {k : Nat} {fs : Nat → Value → Prop} {a : Act} (hk : ks k = true) (hg : Region.wanted o (yielded ops a.tmps) = true) (hw : ∀ gs w, J gs w → (∀ m v, fs m v → waitsFor md o m → gs m v) → (∀ v, ¬ gs k v) → ∃ w', (execOp a.eval o).run P w = .ok .skip w' ∧ S k undef ∧ J (addF gs k undef) w') (h : ∀ v, S k v → wpG P ops md J S ks B l (k + 1) (addF fs k v) (a.put o.dst v)) : wpG P ops md J S ks B (o :: l) k fs a := by
  unfold wpG
  rw [if_pos hk]
  refine ⟨⟨hg, fun gs w hd hfs hnk => ?_⟩, h⟩
  obtain ⟨w', h1, h2⟩ := hw gs w hd hfs hnk
  rw [h1]
  exact h2
theorem wpG_nil {k : Nat} {fs : Nat → Value → Prop} {a : Act} (h : B fs a) : wpG P ops md J S ks B [] k fs a := h
end
end Go.Proofs.YtbdlojnigflanacGreatDoor
