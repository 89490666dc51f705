/- A region that draws its order, whose writers come in whatever order, and whose last operation may write too: what stands behind some of them is said by one predicate. -/
import Derived.Test.YthpllmhnpbigiaaDoorFree
set_option linter.all false
namespace Go.Proofs.YthpllmhnpbigiaaDoor
open Go.RowKit

section
variable {P : Program} {ops : Array Oper} {md : Region.Mode} {J : (Nat → Value → Prop) → World → Prop} {S : Nat → Value → Prop} {ks : Nat → Bool} {B : (Nat → Value → Prop) → Act → Prop}

def wpAnyH (P : Program) (md : Region.Mode) (ops : Array Oper) (J : (Nat → Value → Prop) → World → Prop) (S : Nat → Value → Prop) (ks : Nat → Bool) (B : (Nat → Value → Prop) → Act → Prop) : Nat → Array Bool → (Nat → Value → Prop) → Act → Prop
  | 0, listed, fs, a => Region.ready md ops listed = [] ∧ B fs a
  | fuel + 1, listed, fs, a => Region.ready md ops listed ≠ [] ∧ ∀ i ∈ Region.ready md ops listed, gOp P ops md J S ks i (wpAnyH P md ops J S ks B fuel (listed.setIfInBounds i true)) fs a

theorem wpAny_of_H {Q : Exit → Act → World → Prop}
    (hB : ∀ fs a w, J fs w → B fs a → Q .normal a w) :
    ∀ (fuel : Nat) (listed : Array Bool) (fs : Nat → Value → Prop) (a : Act) (w : World), J fs w → (∀ m v, fs m v → listed.getD m true = true) → wpAnyH P md ops J S ks B fuel listed fs a → wpAny P md ops Q fuel listed a w
  | 0, listed, fs, a, w, hd, hf, h => ⟨h.1, hB fs a w hd h.2⟩
  | fuel + 1, listed, fs, a, w, hd, hf, h => by
    obtain ⟨h1, h2⟩ := h
    refine ⟨fun h0 => absurd h0 h1, fun i hi => ?_⟩
    have h3 := h2 i hi
    obtain ⟨hiun, _, _, _⟩ := mem_ready.1 hi
    have hset : ∀ m, listed.getD m true = true → (listed.setIfInBounds i true).getD m true = true := fun m hm => by
      by_cases hmi : i = m
      · subst hmi
        rw [hiun] at hm
        cases hm
      · rw [getD_set_ne true hmi]; exact hm
    have hseti : (listed.setIfInBounds i true).getD i true = true := by
      rcases Nat.lt_or_ge i listed.size with h' | h'
      · simp [h']
      · simp [Array.getElem?_eq_none h']
    unfold gOp at h3
    unfold wpOp
    split
    · rename_i ho; simp only [ho] at h3; exact wpAny_of_H hB fuel _ _ _ _ hd (fun m v hm => hset m (hf m v hm)) h3
    · rename_i o ho
      simp only [ho] at h3
      split at h3
      · obtain ⟨⟨y1, y2⟩, h4⟩ := h3
        simp only [y1, if_true]
        refine .inl (wp_of_upV (y2 fs w hd (fun m v hm _ => hm) fun v hv => ?_) fun v w' ⟨k0, k1⟩ => ?_)
        · have := hf i v hv
          rw [hiun] at this
          cases this
        · refine wpAny_of_H hB fuel _ (addF fs i v) _ w' k1 (fun m u hm => ?_) (h4 v k0)
          rcases hm with hm | ⟨rfl, rfl⟩
          · exact hset m (hf m u hm)
          · exact hseti
      · obtain ⟨v, y, h4⟩ := h3
        rcases y with ⟨y1, y2⟩ | ⟨y1, rfl⟩
        · simp only [y1, if_true]
          exact .inl (wp_of_stillV (y2 w ⟨fs, hd⟩) (wpAny_of_H hB fuel _ _ _ _ hd (fun m v hm => hset m (hf m v hm)) h4))
        · simp only [y1, Bool.false_eq_true, if_false]
          exact wpAny_of_H hB fuel _ _ _ _ hd (fun m v hm => hset m (hf m v hm)) h4

theorem wpAnyH_read {i : Nat} {oi : Oper} {v : Value} (hi : ops[i]? = some oi) (hki : ks i = false) (hsel : ∀ (j : Nat) (o : Oper) cs b, ops[j]? = some o → o.op ≠ .select cs b) :
    ∀ (fuel : Nat) (listed : Array Bool) (fs : Nat → Value → Prop) (a : Act),
      (∀ j oj, ops[j]? = some oj → j ≠ i → listed.getD j true = false → (∀ e ∈ oj.after, Region.binds md e = true → e.on ≠ i) → oi.apart ops oj = true) →
      i ∈ Region.ready md ops listed → YR P ops (inJ J) oi v a →
      wpAnyH P md ops J S ks B fuel (listed.setIfInBounds i true) fs (a.put oi.dst v) → wpAnyH P md ops J S ks B (fuel + 1) listed fs a := by
  intro fuel
  induction fuel with
  | zero =>
    intro listed fs a _ hr hy H
    refine ⟨fun h => (by rw [h] at hr; cases hr), fun j hj => ?_⟩
    by_cases hji : j = i
    · subst hji; unfold gOp; simp only [hi, hki]; exact ⟨v, hy, H⟩
    · have := ready_mono hj hji
      rw [H.1] at this
      cases this
  | succ fuel ih =>
    intro listed fs a hfree hr hy H
    refine ⟨fun h => (by rw [h] at hr; cases hr), fun j hj => ?_⟩
    by_cases hji : j = i
    · subst hji; unfold gOp; simp only [hi, hki]; exact ⟨v, hy, H⟩
    · have h1 := H.2 j (ready_mono hj hji)
      obtain ⟨hjun, oj, hoj, hall⟩ := mem_ready.1 hj
      have hnot : ∀ e ∈ oj.after, Region.binds md e = true → e.on ≠ i := fun e he hb heq => not_ready_of_waits hoj ⟨e, he, hb, heq⟩ hr hj
      obtain ⟨a1, a2, a3⟩ := Oper.apart_spec (hfree j oj hoj hji hjun hnot)
      have hfree' : ∀ k ok, ops[k]? = some ok → k ≠ i → (listed.setIfInBounds j true).getD k true = false →
          (∀ e ∈ ok.after, Region.binds md e = true → e.on ≠ i) → oi.apart ops ok = true := fun k ok hk hki hun hno => by
        refine hfree k ok hk hki ?_ hno
        by_cases hjk : j = k
        · subst hjk; exact hjun
        · rw [getD_set_ne true hjk] at hun; exact hun
      have keep : ∀ u, YR P ops (inJ J) oi v (a.put oj.dst u) := fun u => hy.of_same (execOp_put oi (fun cs b => hsel i oi cs b hi) a oj.dst u a3) (wanted_put oi a oj.dst u a3)
      have e1 := execOp_put oj (fun cs b => hsel j oj cs b hoj) a oi.dst v a1
      have e2 := wanted_put oj a oi.dst v a1
      unfold gOp at h1 ⊢
      simp only [hoj] at h1 ⊢
      split
      · rename_i hk
        simp only [hk, if_true] at h1
        obtain ⟨y, hK⟩ := h1
        refine ⟨y.of_same e1.symm e2.symm fun m u hm _ => hm, fun u hu => ih (listed.setIfInBounds j true) _ _ hfree' (ready_mono hr (Ne.symm hji)) (keep u) ?_⟩
        rw [Array.setIfInBounds_comm _ _ hji, ← Act.put_comm a v u a2]
        exact hK u hu
      · rename_i hk
        simp only [hk] at h1
        obtain ⟨u, y, hK⟩ := h1
        refine ⟨u, y.of_same e1.symm e2.symm, ih (listed.setIfInBounds j true) fs _ hfree' (ready_mono hr (Ne.symm hji)) (keep u) ?_⟩
        rw [Array.setIfInBounds_comm _ _ hji, ← Act.put_comm a v u a2]
        exact hK

theorem wpAnyH_write (hS : ∀ k, ∃ v, S k v) (hne : ∃ w, inJ J w) {i : Nat} {oi : Oper} (hi : ops[i]? = some oi) (hki : ks i = true) (hsel : ∀ (j : Nat) (o : Oper) cs b, ops[j]? = some o → o.op ≠ .select cs b) :
    ∀ (fuel : Nat) (listed : Array Bool) (fs : Nat → Value → Prop) (a : Act),
      (∀ j oj, ops[j]? = some oj → j ≠ i → listed.getD j true = false → (∀ e ∈ oj.after, Region.binds md e = true → e.on ≠ i) → oi.apart ops oj = true) →
      i ∈ Region.ready md ops listed → YG P ops md J S oi i fs a →
      (∀ v, S i v → wpAnyH P md ops J S ks B fuel (listed.setIfInBounds i true) (addF fs i v) (a.put oi.dst v)) → wpAnyH P md ops J S ks B (fuel + 1) listed fs a := by
  intro fuel
  obtain ⟨vs, hvs⟩ := hS i
  induction fuel with
  | zero =>
    intro listed fs a _ hr hy H
    refine ⟨fun h => (by rw [h] at hr; cases hr), fun j hj => ?_⟩
    by_cases hji : j = i
    · subst hji; unfold gOp; simp only [hi, hki, if_true]; exact ⟨hy, H⟩
    · have := ready_mono hj hji
      rw [(H vs hvs).1] at this
      cases this
  | succ fuel ih =>
    intro listed fs a hfree hr hy H
    refine ⟨fun h => (by rw [h] at hr; cases hr), fun j hj => ?_⟩
    by_cases hji : j = i
    · subst hji; unfold gOp; simp only [hi, hki, if_true]; exact ⟨hy, H⟩
    · have h1 := fun v hv => (H v hv).2 j (ready_mono hj hji)
      obtain ⟨hjun, oj, hoj, hall⟩ := mem_ready.1 hj
      have hnot : ∀ e ∈ oj.after, Region.binds md e = true → e.on ≠ i := fun e he hb heq => not_ready_of_waits hoj ⟨e, he, hb, heq⟩ hr hj
      have hnw : ¬ waitsFor md oj i := fun ⟨e, he, hb, heq⟩ => hnot e he hb heq
      have hnw' : ¬ waitsFor md oi j := fun h => not_ready_of_waits hi h hj hr
      obtain ⟨a1, a2, a3⟩ := Oper.apart_spec (hfree j oj hoj hji hjun hnot)
      have hfree' : ∀ k ok, ops[k]? = some ok → k ≠ i → (listed.setIfInBounds j true).getD k true = false →
          (∀ e ∈ ok.after, Region.binds md e = true → e.on ≠ i) → oi.apart ops ok = true := fun k ok hk hki hun hno => by
        refine hfree k ok hk hki ?_ hno
        by_cases hjk : j = k
        · subst hjk; exact hjun
        · rw [getD_set_ne true hjk] at hun; exact hun
      have keep : ∀ u fs', (∀ m x, fs m x → waitsFor md oi m → fs' m x) → YG P ops md J S oi i fs' (a.put oj.dst u) := fun u fs' hfs => hy.of_same (execOp_put oi (fun cs b => hsel i oi cs b hi) a oj.dst u a3) (wanted_put oi a oj.dst u a3) hfs
      have e1 := fun v => execOp_put oj (fun cs b => hsel j oj cs b hoj) a oi.dst v a1
      have e2 := fun v => wanted_put oj a oi.dst v a1
      unfold gOp at h1 ⊢
      simp only [hoj] at h1 ⊢
      split
      · rename_i hk
        simp only [hk, if_true] at h1
        refine ⟨(h1 vs hvs).1.of_same (e1 vs).symm (e2 vs).symm fun m u hm hw => ?_, fun u hu => ih (listed.setIfInBounds j true) _ _ hfree' (ready_mono hr (Ne.symm hji)) (keep u _ fun m x hm _ => .inl hm) fun v hv => ?_⟩
        · rcases hm with hm | ⟨rfl, rfl⟩
          · exact hm
          · exact absurd hw hnw
        · rw [Array.setIfInBounds_comm _ _ hji, ← Act.put_comm a v u a2, addF_comm]
          exact (h1 v hv).2 u hu
      · rename_i hk
        simp only [hk] at h1
        obtain ⟨u, y, _⟩ := h1 vs hvs
        have y0 : YR P ops (inJ J) oj u a := y.of_same (e1 vs).symm (e2 vs).symm
        refine ⟨u, y0, ih (listed.setIfInBounds j true) fs _ hfree' (ready_mono hr (Ne.symm hji)) (keep u _ fun m x hm _ => hm) fun v hv => ?_⟩
        obtain ⟨u', y', hK⟩ := h1 v hv
        have := YR.one hne y0 (y'.of_same (e1 v).symm (e2 v).symm)
        subst this
        rw [Array.setIfInBounds_comm _ _ hji, ← Act.put_comm a v u a2]
        exact hK


theorem wpAnyH_lex (hS : ∀ k, ∃ v, S k v) (hne : ∃ w, inJ J w) (hs : Region.noSelect ops = true) : ∀ (l : List Oper) (k : Nat) (listed : Array Bool) (fs : Nat → Value → Prop) (a : Act), (∀ j, j < l.length → l[j]? = ops[k + j]?) →
    Region.lexFrom md ops l.length k listed = true → wpG P ops md J S ks B l k fs a → wpAnyH P md ops J S ks B l.length listed fs a
  | [], k, listed, fs, a, _, hB, h => ⟨by simpa [Region.lexFrom] using hB, h⟩
  | o :: l, k, listed, fs, a, hl, hB, h => by
    have h0 : ops[k]? = some o := by simpa using (hl 0 (by simp)).symm
    simp only [List.length_cons, Region.lexFrom, Bool.and_eq_true] at hB
    obtain ⟨⟨hr, hf⟩, hB'⟩ := hB
    have hl' : ∀ j, j < l.length → l[j]? = ops[k + 1 + j]? := fun j hj => by have := hl (j + 1) (by simp; omega); simpa [Nat.add_assoc, Nat.add_comm 1 j] using this
    unfold wpG at h
    split at h
    · rename_i hkk
      obtain ⟨hy, hK⟩ := h
      exact wpAnyH_write hS hne h0 hkk (Region.noSelect_spec hs) l.length listed fs a (Region.free_spec h0 hf) (by simpa using hr) hy
        (fun v hv => wpAnyH_lex hS hne hs l (k + 1) _ _ _ hl' hB' (hK v hv))
    · rename_i hkk
      obtain ⟨v, hy, hK⟩ := h
      exact wpAnyH_read h0 (by simpa using hkk) (Region.noSelect_spec hs) l.length listed fs a (Region.free_spec h0 hf) (by simpa using hr) hy
        (wpAnyH_lex hS hne hs l (k + 1) _ _ _ hl' hB' hK)

theorem wp_region_all {id : Nat} {Q : Exit → Act → World → Prop} {a : Act} {w : World} {l : List Oper} (ks : Nat → Bool) (J : (Nat → Value → Prop) → World → Prop) (S : Nat → Value → Prop) (hS : ∀ k, ∃ v, S k v) (hm : P.follows .mixedOrders = true) (hB : Region.lexB .any l.toArray = true) (hC : J (fun _ _ => False) w.drew)
    (h : wpG P l.toArray .any J S ks (fun fs a' => ∀ w', J fs w' → Q .normal a' w') l 0 (fun _ _ => False) a) : (Code.region id l.toArray true).wp P Q a w := by
  simp only [Region.lexB, Bool.and_eq_true] at hB
  have hsz : l.toArray.size = l.length := by simp
  rw [hsz] at hB
  have h1 := wpAnyH_lex (md := .any) hS ⟨_, _, hC⟩ hB.1 l 0 (Array.replicate l.length false) (fun _ _ => False) a (fun j hj => by simp) hB.2 h
  refine wp_region_any hm ?_
  rw [hsz]
  exact wpAny_of_H (fun fs a w hd hb => hb w hd) l.length _ (fun _ _ => False) a { w with drawn := w.drawn + 1 } hC (fun m v hm => hm.elim) h1
end
end Go.Proofs.YthpllmhnpbigiaaDoor
