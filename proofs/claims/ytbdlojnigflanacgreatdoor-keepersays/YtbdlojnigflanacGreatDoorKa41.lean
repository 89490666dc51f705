/- Joined: All KpE. -/
import Derived.Test.YtbdlojnigflanacGreatDoorKa08
import Derived.Test.YtbdlojnigflanacGreatDoorKa40
section
/- A region that draws its order, whose writers come in whatever order, and whose last operation may write too: what stands behind some of them is said by one predicate. -/
set_option linter.all false
namespace Go.Proofs.YtbdlojnigflanacGreatDoor
open Go.RowKit

section
variable {P : Program} {ops : Array Oper} {md : Region.Mode} {J : (Nat → Value → Prop) → World → Prop} {S : Nat → Value → Prop} {ks : Nat → Bool} {B : (Nat → Value → Prop) → Act → Prop}

def wpAnyH (P : Program) (md : Region.Mode) (ops : Array Oper) (J : (Nat → Value → Prop) → World → Prop) (S : Nat → Value → Prop) (ks : Nat → Bool) (B : (Nat → Value → Prop) → Act → Prop) : Nat → Array Bool → (Nat → Value → Prop) → Act → Prop
  | 0, listed, fs, a => Region.ready md ops listed = [] ∧ B fs a
  | fuel + 1, listed, fs, a => Region.ready md ops listed ≠ [] ∧ ∀ i ∈ Region.ready md ops listed, gOp P ops md J S ks i (wpAnyH P md ops J S ks B fuel (listed.setIfInBounds i true)) fs a

theorem wpAny_of_H {Q : Exit → Act → World → Prop}
    (hB : ∀ fs a w, J fs w → B fs a → Q .normal a w) :
    ∀ (fuel : Nat) (listed : Array Bool) (fs : Nat → Value → Prop) (a : Act) (w : World), J fs w → (∀ m v, fs m v → listed.getD m true = true) → wpAnyH P md ops J S ks B fuel listed fs a → wpAny P md ops Q fuel listed a w
  | 0, listed, fs, a, w, hd, hf, h => ⟨h.1, hB fs a w hd h.2⟩
  | fuel + 1, listed, fs, a, w, hd, hf, h => by
    obtain ⟨h1, h2⟩ := h
    refine ⟨fun h0 => absurd h0 h1, fun i hi => ?_⟩
    have h3 := h2 i hi
    obtain ⟨hiun, _, _, _⟩ := mem_ready.1 hi
    have hset : ∀ m, listed.getD m true = true → (listed.setIfInBounds i true).getD m true = true := fun m hm => by
      by_cases hmi : i = m
      · subst hmi
        rw [hiun] at hm
        cases hm
      · rw [getD_set_ne true hmi]; exact hm
    have hseti : (listed.setIfInBounds i true).getD i true = true := by
      rcases Nat.lt_or_ge i listed.size with h' | h'
      · simp [h']
      · simp [Array.getElem?_eq_none h']
    unfold gOp at h3
    unfold wpOp
    split
    · rename_i ho; simp only [ho] at h3; exact wpAny_of_H hB fuel _ _ _ _ hd (fun m v hm => hset m (hf m v hm)) h3
    · rename_i o ho
      simp only [ho] at h3
      split at h3
      · obtain ⟨⟨y1, y2⟩, h4⟩ := h3
        simp only [y1, if_true]
        refine .inl (wp_of_upV (y2 fs w hd (fun m v hm _ => hm) fun v hv => ?_) fun v w' ⟨k0, k1⟩ => ?_)
        · have := hf i v hv
          rw [hiun] at this
          cases this
        · refine wpAny_of_H hB fuel _ (addF fs i v) _ w' k1 (fun m u hm => ?_) (h4 v k0)
          rcases hm with hm | ⟨rfl, rfl⟩
          · exact hset m (hf m u hm)
          · exact hseti
      · obtain ⟨v, y, h4⟩ := h3
        rcases y with ⟨y1, y2⟩ | ⟨y1, rfl⟩
        · simp only [y1, if_true]
          exact .inl (wp_of_stillV (y2 w ⟨fs, hd⟩) (wpAny_of_H hB fuel _ _ _ _ hd (fun m v hm => hset m (hf m v hm)) h4))
        · simp only [y1, Bool.false_eq_true, if_false]
          exact wpAny_of_H hB fuel _ _ _ _ hd (fun m v hm => hset m (hf m v hm)) h4

theorem wpAnyH_read {i : Nat} {oi : Oper} {v : Value} (hi : ops[i]? = some oi) (hki : ks i = false) (hsel : ∀ (j : Nat) (o : Oper) cs b, ops[j]? = some o → o.op ≠ .select cs b) :
    ∀ (fuel : Nat) (listed : Array Bool) (fs : Nat → Value → Prop) (a : Act),
      (∀ j oj, ops[j]? = some oj → j ≠ i → listed.getD j true = false → (∀ e ∈ oj.after, Region.binds md e = true → e.on ≠ i) → oi.apart ops oj = true) →
      i ∈ Region.ready md ops listed → YR P ops (inJ J) oi v a →
      wpAnyH P md ops J S ks B fuel (listed.setIfInBounds i true) fs (a.put oi.dst v) → wpAnyH P md ops J S ks B (fuel + 1) listed fs a := by
  intro fuel
  induction fuel with
  | zero =>
    intro listed fs a _ hr hy H
    refine ⟨fun h => (by rw [h] at hr; cases hr), fun j hj => ?_⟩
    by_cases hji : j = i
    · subst hji; unfold gOp; simp only [hi, hki]; exact ⟨v, hy, H⟩
    · have := ready_mono hj hji
      rw [H.1] at this
      cases this
  | succ fuel ih =>
    intro listed fs a hfree hr hy H
    refine ⟨fun h => (by rw [h] at hr; cases hr), fun j hj => ?_⟩
    by_cases hji : j = i
    · subst hji; unfold gOp; simp only [hi, hki]; exact ⟨v, hy, H⟩
    · have h1 := H.2 j (ready_mono hj hji)
      obtain ⟨hjun, oj, hoj, hall⟩ := mem_ready.1 hj
      have hnot : ∀ e ∈ oj.after, Region.binds md e = true → e.on ≠ i := fun e he hb heq => not_ready_of_waits hoj ⟨e, he, hb, heq⟩ hr hj
      obtain ⟨a1, a2, a3⟩ := Oper.apart_spec (hfree j oj hoj hji hjun hnot)
      have hfree' : ∀ k ok, ops[k]? = some ok → k ≠ i → (listed.setIfInBounds j true).getD k true = false →
          (∀ e ∈ ok.after, Region.binds md e = true → e.on ≠ i) → oi.apart ops ok = true := fun k ok hk hki hun hno => by
        refine hfree k ok hk hki ?_ hno
        by_cases hjk : j = k
        · subst hjk; exact hjun
        · rw [getD_set_ne true hjk] at hun; exact hun
      have keep : ∀ u, YR P ops (inJ J) oi v (a.put oj.dst u) := fun u => hy.of_same (execOp_put oi (fun cs b => hsel i oi cs b hi) a oj.dst u a3) (wanted_put oi a oj.dst u a3)
      have e1 := execOp_put oj (fun cs b => hsel j oj cs b hoj) a oi.dst v a1
      have e2 := wanted_put oj a oi.dst v a1
      unfold gOp at h1 ⊢
      simp only [hoj] at h1 ⊢
      split
      · rename_i hk
        simp only [hk, if_true] at h1
        obtain ⟨y, hK⟩ := h1
        refine ⟨y.of_same e1.symm e2.symm fun m u hm _ => hm, fun u hu => ih (listed.setIfInBounds j true) _ _ hfree' (ready_mono hr (Ne.symm hji)) (keep u) ?_⟩
        rw [Array.setIfInBounds_comm _ _ hji, ← Act.put_comm a v u a2]
        exact hK u hu
      · rename_i hk
        simp only [hk] at h1
        obtain ⟨u, y, hK⟩ := h1
        refine ⟨u, y.of_same e1.symm e2.symm, ih (listed.setIfInBounds j true) fs _ hfree' (ready_mono hr (Ne.symm hji)) (keep u) ?_⟩
        rw [Array.setIfInBounds_comm _ _ hji, ← Act.put_comm a v u a2]
        exact hK

theorem wpAnyH_write (hS : ∀ k, ∃ v, S k v) (hne : ∃ w, inJ J w) {i : Nat} {oi : Oper} (hi : ops[i]? = some oi) (hki : ks i = true) (hsel : ∀ (j : Nat) (o : Oper) cs b, ops[j]? = some o → o.op ≠ .select cs b) :
    ∀ (fuel : Nat) (listed : Array Bool) (fs : Nat → Value → Prop) (a : Act),
      (∀ j oj, ops[j]? = some oj → j ≠ i → listed.getD j true = false → (∀ e ∈ oj.after, Region.binds md e = true → e.on ≠ i) → oi.apart ops oj = true) →
      i ∈ Region.ready md ops listed → YG P ops md J S oi i fs a →
      (∀ v, S i v → wpAnyH P md ops J S ks B fuel (listed.setIfInBounds i true) (addF fs i v) (a.put oi.dst v)) → wpAnyH P md ops J S ks B (fuel + 1) listed fs a := by
  intro fuel
  obtain ⟨vs, hvs⟩ := hS i
  induction fuel with
  | zero =>
    intro listed fs a _ hr hy H
    refine ⟨fun h => (by rw [h] at hr; cases hr), fun j hj => ?_⟩
    by_cases hji : j = i
    · subst hji; unfold gOp; simp only [hi, hki, if_true]; exact ⟨hy, H⟩
    · have := ready_mono hj hji
      rw [(H vs hvs).1] at this
      cases this
  | succ fuel ih =>
    intro listed fs a hfree hr hy H
    refine ⟨fun h => (by rw [h] at hr; cases hr), fun j hj => ?_⟩
    by_cases hji : j = i
    · subst hji; unfold gOp; simp only [hi, hki, if_true]; exact ⟨hy, H⟩
    · have h1 := fun v hv => (H v hv).2 j (ready_mono hj hji)
      obtain ⟨hjun, oj, hoj, hall⟩ := mem_ready.1 hj
      have hnot : ∀ e ∈ oj.after, Region.binds md e = true → e.on ≠ i := fun e he hb heq => not_ready_of_waits hoj ⟨e, he, hb, heq⟩ hr hj
      have hnw : ¬ waitsFor md oj i := fun ⟨e, he, hb, heq⟩ => hnot e he hb heq
      have hnw' : ¬ waitsFor md oi j := fun h => not_ready_of_waits hi h hj hr
      obtain ⟨a1, a2, a3⟩ := Oper.apart_spec (hfree j oj hoj hji hjun hnot)
      have hfree' : ∀ k ok, ops[k]? = some ok → k ≠ i → (listed.setIfInBounds j true).getD k true = false →
          (∀ e ∈ ok.after, Region.binds md e = true → e.on ≠ i) → oi.apart ops ok = true := fun k ok hk hki hun hno => by
        refine hfree k ok hk hki ?_ hno
        by_cases hjk : j = k
        · subst hjk; exact hjun
        · rw [getD_set_ne true hjk] at hun; exact hun
      have keep : ∀ u fs', (∀ m x, fs m x → waitsFor md oi m → fs' m x) → YG P ops md J S oi i fs' (a.put oj.dst u) := fun u fs' hfs => hy.of_same (execOp_put oi (fun cs b => hsel i oi cs b hi) a oj.dst u a3) (wanted_put oi a oj.dst u a3) hfs
      have e1 := fun v => execOp_put oj (fun cs b => hsel j oj cs b hoj) a oi.dst v a1
      have e2 := fun v => wanted_put oj a oi.dst v a1
      unfold gOp at h1 ⊢
      simp only [hoj] at h1 ⊢
      split
      · rename_i hk
        simp only [hk, if_true] at h1
        refine ⟨(h1 vs hvs).1.of_same (e1 vs).symm (e2 vs).symm fun m u hm hw => ?_, fun u hu => ih (listed.setIfInBounds j true) _ _ hfree' (ready_mono hr (Ne.symm hji)) (keep u _ fun m x hm _ => .inl hm) fun v hv => ?_⟩
        · rcases hm with hm | ⟨rfl, rfl⟩
          · exact hm
          · exact absurd hw hnw
        · rw [Array.setIfInBounds_comm _ _ hji, ← Act.put_comm a v u a2, addF_comm]
          exact (h1 v hv).2 u hu
      · rename_i hk
        simp only [hk] at h1
        obtain ⟨u, y, _⟩ := h1 vs hvs
        have y0 : YR P ops (inJ J) oj u a := y.of_same (e1 vs).symm (e2 vs).symm
        refine ⟨u, y0, ih (listed.setIfInBounds j true) fs _ hfree' (ready_mono hr (Ne.symm hji)) (keep u _ fun m x hm _ => hm) fun v hv => ?_⟩
        obtain ⟨u', y', hK⟩ := h1 v hv
        have := YR.one hne y0 (y'.of_same (e1 v).symm (e2 v).symm)
        subst this
        rw [Array.setIfInBounds_comm _ _ hji, ← Act.put_comm a v u a2]
        exact hK


theorem wpAnyH_lex (hS : ∀ k, ∃ v, S k v) (hne : ∃ w, inJ J w) (hs : Region.noSelect ops = true) : ∀ (l : List Oper) (k : Nat) (listed : Array Bool) (fs : Nat → Value → Prop) (a : Act), (∀ j, j < l.length → l[j]? = ops[k + j]?) →
    Region.lexFrom md ops l.length k listed = true → wpG P ops md J S ks B l k fs a → wpAnyH P md ops J S ks B l.length listed fs a
  | [], k, listed, fs, a, _, hB, h => ⟨by simpa [Region.lexFrom] using hB, h⟩
  | o :: l, k, listed, fs, a, hl, hB, h => by
    have h0 : ops[k]? = some o := by simpa using (hl 0 (by simp)).symm
    simp only [List.length_cons, Region.lexFrom, Bool.and_eq_true] at hB
    obtain ⟨⟨hr, hf⟩, hB'⟩ := hB
    have hl' : ∀ j, j < l.length → l[j]? = ops[k + 1 + j]? := fun j hj => by have := hl (j + 1) (by simp; omega); simpa [Nat.add_assoc, Nat.add_comm 1 j] using this
    unfold wpG at h
    split at h
    · rename_i hkk
      obtain ⟨hy, hK⟩ := h
      exact wpAnyH_write hS hne h0 hkk (Region.noSelect_spec hs) l.length listed fs a (Region.free_spec h0 hf) (by simpa using hr) hy
        (fun v hv => wpAnyH_lex hS hne hs l (k + 1) _ _ _ hl' hB' (hK v hv))
    · rename_i hkk
      obtain ⟨v, hy, hK⟩ := h
      exact wpAnyH_read h0 (by simpa using hkk) (Region.noSelect_spec hs) l.length listed fs a (Region.free_spec h0 hf) (by simpa using hr) hy
        (wpAnyH_lex hS hne hs l (k + 1) _ _ _ hl' hB' hK)

theorem wp_region_all {id : Nat} {Q : Exit → Act → World → Prop} {a : Act} {w : World} {l : List Oper} (ks : Nat → Bool) (J : (Nat → Value → Prop) → World → Prop) (S : Nat → Value → Prop) (hS : ∀ k, ∃ v, S k v) (hm : P.follows .mixedOrders = true) (hB : Region.lexB .any l.toArray = true) (hC : J (fun _ _ => False) w.drew)
    (h : wpG P l.toArray .any J S ks (fun fs a' => ∀ w', J fs w' → Q .normal a' w') l 0 (fun _ _ => False) a) : (Code.region id l.toArray true).wp P Q a w := by
  simp only [Region.lexB, Bool.and_eq_true] at hB
  have hsz : l.toArray.size = l.length := by simp
  rw [hsz] at hB
  have h1 := wpAnyH_lex (md := .any) hS ⟨_, _, hC⟩ hB.1 l 0 (Array.replicate l.length false) (fun _ _ => False) a (fun j hj => by simp) hB.2 h
  refine wp_region_any hm ?_
  rw [hsz]
  exact wpAny_of_H (fun fs a w hd hb => hb w hd) l.length _ (fun _ _ => False) a { w with drawn := w.drawn + 1 } hC (fun m v hm => hm.elim) h1
end
end Go.Proofs.YtbdlojnigflanacGreatDoor
end
section
/- Package keeper: Copy, the walk. -/
set_option linter.all false
set_option maxRecDepth 100000
namespace Go.Proofs.YtbdlojnigflanacGreatDoor
open Go.RowKit Go.Maps

/-- Sessions that are few and short enough to be copied. -/
def CellSm (c : CellT) : Prop := c.2.1.length ≤ 1000 ∧ (∀ f ∈ c.2.1, f.length ≤ 100000) ∧ c.2.2.1.length ≤ 1000 ∧ ∀ r ∈ c.2.2.1, r.1.length ≤ 1000
theorem cellSm_ok {c : CellT} (h : cellErr c = 0) : CellSm c := by
  obtain ⟨o, ls, rs, d⟩ := c
  cases o with
  | false =>
    rw [cellErr_shutD] at h
    by_cases hz : (false, ls, rs, d) = zeroCell
    · rw [hz]
      exact ⟨by simp [zeroCell], fun f hf => by simp [zeroCell] at hf, by simp [zeroCell], fun r hr => by simp [zeroCell] at hr⟩
    · rw [if_neg hz] at h
      cases h
  | true =>
    rw [cellErr_openD] at h
    by_cases hl : ls.length = 0
    · rw [if_pos hl] at h
      cases h
    · rw [if_neg hl] at h
      by_cases hc : chainErr ls = 0
      · rw [if_pos hc] at h
        exact ⟨by have := (chainErr_ok.1 hc).1; simp only; omega, fun f hf => Nat.le_trans (codeErr_ok ((chainErr_ok.1 hc).2 f hf)).2.1 (by decide), (comp_bounds h).1, (comp_bounds h).2⟩
      · rw [if_neg hc] at h
        exact absurd h hc
def RdC (b : Nat) (u1 u2 u3 : Value) : Type := { w' : World // w'.cell? ⟨b, 1, none⟩ = some u1 ∧ w'.cell? ⟨b, 2, none⟩ = some u2 ∧ w'.cell? ⟨b, 3, none⟩ = some u3 }
set_option maxHeartbeats 8000000 in
theorem copyKp_any (B : Nat) (lv : Value) (l : List CellT) (w : World) (hl : CellsAt B w lv l) (hB : B ≤ w.heap.size) (hn : l.length ≤ 1000) (hsm : ∀ c ∈ l, CellSm c) :
    Calls Tryz.prog 99 #[lv] w fun e w' => e = .returned (.slice (some ⟨w.heap.size, 0, none⟩) l.length l.length) ∧ CkAt B w.heap.size l.length l w' ∧ Below w.heap.size w w' := by
  have HSm : Hid (∀ c ∈ l, CellSm c) := hsm
  obtain ⟨a, cap, elv, -⟩ := id hl
  obtain ⟨n, hn0⟩ : ∃ n, n = l.length := ⟨_, rfl⟩
  have HN : Hid (l.length = n) := hn0.symm
  have hmk0 := fun w => make_cellsN n (by omega) w
  obtain ⟨mc, hmc⟩ : ∃ mc, mc = madeCells #[.bool false, .slice none 0 0, .slice none 0 0, .int .i64 0] (n * 4) := ⟨_, rfl⟩
  rw [← hmc] at hmk0
  have hmk : ∀ w, (Instr.makeSlice 66 (.int .i64 n) (.int .i64 n)).run Tryz.prog w = .ok (.slice (some ⟨w.heap.size, 0, none⟩) n n) (w.alloc (.cells mc 77)) := hmk0
  have hmcs : mc.size = n * 4 := by rw [hmc, size_madeCells]
  clear hmk0 hmc
  obtain ⟨W1, hW1⟩ : ∃ W1, W1 = w.alloc (.cells mc 77) := ⟨_, rfl⟩
  have hs1 : W1.heap.size = w.heap.size + 1 := by rw [hW1]; simp
  have hb1 : Below w.heap.size w W1 := by rw [hW1]; exact (Below.refl _ _).alloc (Nat.le_refl _) _
  have g1 : W1.heap[w.heap.size]? = some (.cells mc 77 (0, 0)) := by rw [hW1]; exact heap_at _ _ rfl
  obtain ⟨W3, xs0, hrun, g3, hx3, hb13, hs3, hk3⟩ := run_copy_cells B w.heap.size lv l mc W1 (hl.later hb1 hB) hB g1 (by rw [hmcs, hn0])
  have hb3 : Below w.heap.size w W3 := hb1.trans hb13
  have HC0 : Hid (CkAt B w.heap.size 0 l W3) := ⟨xs0, g3, hx3.1, hx3.2.1, fun i c hc => by
    obtain ⟨lv, rv, e0, e1, e2, e3, e4, e5⟩ := hx3.2.2 i c hc
    exact ⟨lv, rv, e0, e1, e2, e3, fun h => absurd h (by omega), fun _ => ⟨e4, e5⟩⟩⟩
  have HBs : Hid (B ≤ w.heap.size) := hB
  have HB3 : Hid (Below w.heap.size w W3 ∧ w.heap.size + 1 ≤ W3.heap.size) := ⟨hb3, by omega⟩
  subst elv
  rw [← hn0] at hrun hn ⊢
  have HRun : Hid _ := hrun
  have HW1 : Hid (W1 = _) := hW1
  clear hW1 g1 hx3 hb13 hs3 hk3 hb3 hb1 hs1 hmcs g3 hl hB hrun hsm
  clear hn0
  have hml := maxLen_eq
  go_enter Tryz.func99, Tryz.ntmps99
  go_wp2_with fail
  rw [← HW1.out, HRun.out]
  clear hmk
  go_wp2_with fail
  go_loopw [14] (fun iv wr => ∃ k : Nat, k ≤ n ∧ iv = .int .i64 k ∧ Hid (CkAt B w.heap.size k l wr) ∧ Hid (Below w.heap.size w wr ∧ w.heap.size + 1 ≤ wr.heap.size)) (fun iv _ => n - (intOf iv).toNat)
  case atStart => exact ⟨0, by omega, rfl, HC0, HB3⟩
  case round =>
    clear HC0 HB3 HRun HW1
    obtain ⟨k, hk, rfl, HC, HBl⟩ := hrel
    obtain ⟨wo, hwo⟩ : ∃ x, x = wr := ⟨_, rfl⟩
    subst hwo
    have k0 : (0 : Int) ≤ (k : Int) := by omega
    by_cases hlt : k < n
    · have k1 : (k : Int) < (n : Int) := by omega
      obtain ⟨c, hck⟩ : ∃ c, l[k]? = some c := ⟨l[k]'(by rw [HN.out]; omega), by simp⟩
      have HCk : Hid (l[k]? = some c) := hck
      obtain ⟨s1, s2, s3, s4⟩ := HSm.out c (List.mem_of_getElem? hck)
      obtain ⟨xs, hxs, hxl, hx1, hxc⟩ := HC.out
      obtain ⟨lv, rv, e0, e1, e2, e3, e4⟩ := hxc k c hck
      obtain ⟨hch, hpo⟩ := e4.2 (by omega)
      obtain ⟨la, lc, elv, -⟩ := hch.shape
      obtain ⟨rv', erv, hwd, ra, rc, erv2, -⟩ := id hpo
      simp at erv
      subst erv
      subst erv2
      subst elv
      have c0 : wo.cell? ⟨w.heap.size, k * 4, none⟩ = some (.bool c.1) := heap_cell hxs _ (by simpa using e0)
      have c1 : wo.cell? ⟨w.heap.size, k * 4 + 1, none⟩ = some (.slice la c.2.1.length lc) := heap_cell hxs _ (by simpa using e1)
      have c2 : wo.cell? ⟨w.heap.size, k * 4 + 2, none⟩ = some (.slice ra c.2.2.1.length rc) := heap_cell hxs _ (by simpa using e2)
      have c3 : wo.cell? ⟨w.heap.size, k * 4 + 3, none⟩ = some (.int .i64 c.2.2.2) := heap_cell hxs _ (by simpa using e3)
      obtain ⟨W5, hW5⟩ : ∃ W5, W5 = wo.alloc (.cells #[.bool c.1, .slice la c.2.1.length lc, .slice ra c.2.2.1.length rc, .int .i64 c.2.2.2] 77) := ⟨_, rfl⟩
      have hb5 : Below wo.heap.size wo W5 := by rw [hW5]; exact (Below.refl _ _).alloc (Nat.le_refl _) _
      have hs5 : W5.heap.size = wo.heap.size + 1 := by rw [hW5]; simp
      have g5 : W5.heap[wo.heap.size]? = some (.cells #[.bool c.1, .slice la c.2.1.length lc, .slice ra c.2.2.1.length rc, .int .i64 c.2.2.2] 77 (0, 0)) := by rw [hW5]; exact heap_made _ _
      have hx5 : W5.heap[w.heap.size]? = some (.cells xs.toArray 77 (0, 0)) := (hb5.block _ (lt_of_block hxs)).trans hxs
      have HC5 : Hid (CkAt B w.heap.size k l W5) := HC.out.later HBs.out hb5
      have hbw5 : Below w.heap.size w W5 := Below.thenOf HBl.out.1 hb5 HBl.out.1.size
      have HCC : Hid (∀ w', Below w.heap.size w w' → ChsAt B w' (.slice la c.2.1.length lc) c.2.1 → Calls Tryz.prog 121 #[.slice la c.2.1.length lc] w' fun e w'' => ∃ v, e = .returned v ∧ ChsNew w'.heap.size w'' v c.2.1 ∧ Below w'.heap.size w' w'') := fun w' h h1 => (copyCh_any B _ c.2.1 w' h1 (Nat.le_trans HBs.out h.size) s1 s2).mono fun e w'' ⟨v, h2, ys, h3, h4, h5⟩ => ⟨v, h2, chsNew_own h3 h4, h5⟩
      have HCP : Hid (∀ w', Below w.heap.size w w' → PolAt B w' (.agg #[.slice ra c.2.2.1.length rc, .int .i64 c.2.2.2]) c.2.2 → Calls Tryz.prog 119 #[.agg #[.slice ra c.2.2.1.length rc, .int .i64 c.2.2.2]] w' fun e w'' => ∃ v, e = .returned v ∧ PolNew w'.heap.size w'' v c.2.2 ∧ Below w'.heap.size w' w'') := fun w' h h1 => copyD_any B _ c.2.2 w' h1 (Nat.le_trans HBs.out h.size) s3 s4
      have HAt : Hid (∀ w', Below w.heap.size W5 w' → ChsAt B w' (.slice la c.2.1.length lc) c.2.1 ∧ PolAt B w' (.agg #[.slice ra c.2.2.1.length rc, .int .i64 c.2.2.2]) c.2.2 ∧ Below w.heap.size w w') := fun w' h => by
        have hb := (hb5.mono (by have := HBl.out.1.size; omega)).trans h
        exact ⟨hch.later hb HBs.out, hpo.later hb HBs.out, HBl.out.1.trans hb⟩
      have HG5 : Hid (W5.heap[wo.heap.size]? = some (.cells #[.bool c.1, .slice la c.2.1.length lc, .slice ra c.2.2.1.length rc, .int .i64 c.2.2.2] 77 (0, 0)) ∧ W5.heap[w.heap.size]? = some (.cells xs.toArray 77 (0, 0)) ∧ xs.length = n * 4 ∧ w.heap.size < wo.heap.size ∧ W5.heap.size = wo.heap.size + 1 ∧ Below w.heap.size w W5) := ⟨g5, hx5, by rw [hxl, HN.out], by have := HBl.out.2; omega, hs5, hbw5⟩
      have HW5 : Hid (W5 = _) := hW5
      have hwd' : Hid (wf c.2.2.2) := hwd
      have HX1 : Hid (∀ u ∈ xs, u.oneCell' = true) := hx1
      have HCO : Hid (c = c) := rfl
      clear hW5 hb5 hs5 g5 hx5 hbw5 hch hpo hwd e0 e1 e2 e3 e4 hxc hxs hxl hx1 hck HC s1 s2 s3 s4 HSm
      obtain ⟨n1, hn1⟩ : ∃ n1, n1 = c.2.1.length := ⟨_, rfl⟩
      obtain ⟨n2, hn2⟩ : ∃ n2, n2 = c.2.2.1.length := ⟨_, rfl⟩
      obtain ⟨cd, hcd⟩ : ∃ cd, cd = c.2.2.2 := ⟨_, rfl⟩
      obtain ⟨co, hco⟩ : ∃ co, co = c.1 := ⟨_, rfl⟩
      have HNs : Hid (c.2.1.length = n1 ∧ c.2.2.1.length = n2 ∧ c.2.2.2 = cd) := ⟨hn1.symm, hn2.symm, hcd.symm⟩
      rw [← hn1] at HCC HAt HG5 HW5 c1
      rw [← hn2] at HCP HAt HG5 HW5 c2
      rw [← hcd] at HCP HAt HG5 HW5 c3
      rw [← hco] at HG5 HW5 c0
      clear hn1 hn2 hcd hco
      have hne : Nonempty (RdC wo.heap.size (.slice la n1 lc) (.slice ra n2 rc) (.int .i64 cd)) := ⟨⟨W5, heap_cell HG5.out.1 1 rfl, heap_cell HG5.out.1 2 rfl, heap_cell HG5.out.1 3 rfl⟩⟩
      have hDJ : Hid (∀ fs w', JKc w.heap.size k xs W5 c fs w' → ∃ z : RdC wo.heap.size (.slice la n1 lc) (.slice ra n2 rc) (.int .i64 cd), w' = z.1) := fun fs w' h => by
        have g := (h.keep wo.heap.size HG5.out.2.2.2.1 (by rw [HG5.out.2.2.2.2.1]; omega)).trans HG5.out.1
        exact ⟨⟨w', heap_cell g 1 rfl, heap_cell g 2 rfl, heap_cell g 3 rfl⟩, rfl⟩
      have q1 : ∀ z : RdC wo.heap.size (.slice la n1 lc) (.slice ra n2 rc) (.int .i64 cd), z.1.cell? ⟨wo.heap.size, 1, none⟩ = some (.slice la n1 lc) := fun z => z.2.1
      have q2 : ∀ z : RdC wo.heap.size (.slice la n1 lc) (.slice ra n2 rc) (.int .i64 cd), z.1.cell? ⟨wo.heap.size, 2, none⟩ = some (.slice ra n2 rc) := fun z => z.2.2.1
      have q3 : ∀ z : RdC wo.heap.size (.slice la n1 lc) (.slice ra n2 rc) (.int .i64 cd), z.1.cell? ⟨wo.heap.size, 3, none⟩ = some (.int .i64 cd) := fun z => z.2.2.2
      obtain ⟨S, hS⟩ : ∃ S : Nat → Value → Prop, S = fun j v => (j = 6 → ∃ a c, v = .slice a n1 c) ∧ (j = 9 → ∃ a c, v = .agg #[.slice a n2 c, .int .i64 cd]) := ⟨_, rfl⟩
      have HS6 : Hid (∀ v, S 6 v ↔ ∃ a c, v = .slice a n1 c) := fun v => by rw [hS]; simp
      have HS9 : Hid (∀ v, S 9 v ↔ ∃ a c, v = .agg #[.slice a n2 c, .int .i64 cd]) := fun v => by rw [hS]; simp
      have HS15 : Hid (S 15 undef) := by unfold Hid; rw [hS]; exact ⟨fun e => absurd e (by decide), fun e => absurd e (by decide)⟩
      have HS12 : Hid (S 12 undef) := by unfold Hid; rw [hS]; exact ⟨fun e => absurd e (by decide), fun e => absurd e (by decide)⟩
      have HSs : Hid (∀ j, ∃ v, S j v) := fun j => by
        rw [hS]
        by_cases h9 : j = 9
        · exact ⟨.agg #[.slice none n2 0, .int .i64 cd], fun e => by omega, fun _ => ⟨_, _, rfl⟩⟩
        · exact ⟨.slice none n1 0, fun _ => ⟨_, _, rfl⟩, fun e => absurd e h9⟩
      clear hS
      go_wp2_with fail
      rw [← HW5.out]
      clear c0 c1 c2 c3 HW5
      refine wp_region_all (l := [_, _, _, _, _, _, _, _, _, _, _, _, _, _, _, _]) (fun k => k == 6 || k == 9 || k == 12 || k == 15) (JKc w.heap.size k xs W5 c) S HSs.out (by kernel_rfl) (by kernel_rfl) (JKc.start HG5.out.2.1) ?_
      iterate 6 (refine wpG_read hDJ.out rfl rfl ?_; go_big_quiet_step (fail); refine wpQuiet_nil ?_)
      refine wpG_call 121 #[.slice la n1 lc] rfl rfl (fun w' => by kernel_rfl) (fun gs w' hJ hdep hno => ?_) (fun v6 hv6 => ?_)
      · obtain ⟨t1, t2, t3⟩ := HAt.out w' hJ.below
        refine (HCC.out w' t3 t1).mono ?_
        rintro e w4 ⟨v, rfl, hnew, hb⟩
        obtain ⟨va, vc, ev⟩ := chsNew_shape hnew
        rw [HNs.out.1] at ev
        exact ⟨_, rfl, (HS6.out _).2 ⟨_, _, ev⟩, hJ.made (.inl rfl) hno (lt_of_block HG5.out.2.1) hb (fun _ => hnew) (fun e => by cases e)⟩
      simp only [Act.put, List.setIfInBounds_toArray, List.set_cons_succ, List.set_cons_zero]
      obtain ⟨a6, c6, rfl⟩ := (HS6.out _).1 hv6
      iterate 2 (refine wpG_read hDJ.out rfl rfl ?_; go_big_quiet_step (fail); refine wpQuiet_nil ?_)
      refine wpG_call 119 #[.agg #[.slice ra n2 rc, .int .i64 cd]] rfl rfl (fun w' => by kernel_rfl) (fun gs w' hJ hdep hno => ?_) (fun v9 hv9 => ?_)
      · obtain ⟨t1, t2, t3⟩ := HAt.out w' hJ.below
        refine (HCP.out w' t3 t2).mono ?_
        rintro e w4 ⟨v, rfl, hnew, hb⟩
        obtain ⟨va, vc, ev⟩ := polNew_shape hnew
        rw [HNs.out.2.1, HNs.out.2.2] at ev
        exact ⟨_, rfl, (HS9.out _).2 ⟨_, _, ev⟩, hJ.made (.inr rfl) hno (lt_of_block HG5.out.2.1) hb (fun e => by cases e) (fun _ => hnew)⟩
      simp only [Act.put, List.setIfInBounds_toArray, List.set_cons_succ, List.set_cons_zero]
      obtain ⟨a9, c9, rfl⟩ := (HS9.out _).1 hv9
      iterate 2 (refine wpG_read hDJ.out rfl rfl ?_; go_big_quiet_step (fail); refine wpQuiet_nil ?_)
      refine wpG_store rfl rfl (fun gs w' hJ hdep hno => ?_) (fun v12 hv12 => ?_)
      · have h6 := hdep 6 _ (.inl (.inr ⟨rfl, rfl⟩)) (waitsB_spec (by kernel_rfl))
        have h9 := hdep 9 _ (.inr ⟨rfl, rfl⟩) (waitsB_spec (by kernel_rfl))
        have hrow := hJ.row0 hno
        have hxl := HG5.out.2.2.1
        obtain ⟨u0, hu0⟩ : ∃ u, w'.cell? ⟨w.heap.size, k * 4 + 1, none⟩ = some u := ⟨xs[k * 4 + 1]'(by omega), heap_cell hrow _ (by simp)⟩
        have f0 : w'.frozen? ⟨w.heap.size, k * 4 + 1, none⟩ = false := by simp [World.frozen?, hrow]
        refine ⟨w'.setCell ⟨w.heap.size, k * 4 + 1, none⟩ (.slice a6 n1 c6), ?_, HS12.out, hJ.store hno h6 h9 (lt_of_block HG5.out.2.1)⟩
        clear hJ hdep hno q1 q2 q3 hDJ hne h6 h9 hrow hxl
        go_simp
      simp only [Act.put, List.setIfInBounds_toArray, List.set_cons_succ, List.set_cons_zero]
      iterate 2 (refine wpG_read hDJ.out rfl rfl ?_; go_big_quiet_step (fail); refine wpQuiet_nil ?_)
      refine wpG_store rfl rfl (fun gs w' hJ hdep hno => ?_) (fun v15 hv15 => ?_)
      · have h6 := hdep 6 _ (.inl (.inl (.inr ⟨rfl, rfl⟩))) (waitsB_spec (by kernel_rfl))
        have h9 := hdep 9 _ (.inl (.inr ⟨rfl, rfl⟩)) (waitsB_spec (by kernel_rfl))
        have h12 := hdep 12 _ (.inr ⟨rfl, rfl⟩) (waitsB_spec (by kernel_rfl))
        have hrow := hJ.row1 _ _ h12 h6 hno
        have hxl := HG5.out.2.2.1
        obtain ⟨u2, hu2⟩ : ∃ u, w'.cell? ⟨w.heap.size, k * 4 + 2, none⟩ = some u := ⟨(xs.set (k * 4 + 1) (.slice a6 n1 c6))[k * 4 + 2]'(by simp; omega), heap_cell hrow _ (by simp)⟩
        obtain ⟨u3, hu3⟩ : ∃ u, w'.cell? ⟨w.heap.size, k * 4 + 3, none⟩ = some u := ⟨(xs.set (k * 4 + 1) (.slice a6 n1 c6))[k * 4 + 3]'(by simp; omega), heap_cell hrow _ (by simp)⟩
        have f2 : w'.frozen? ⟨w.heap.size, k * 4 + 2, none⟩ = false := by simp [World.frozen?, hrow]
        have f3 : w'.frozen? ⟨w.heap.size, k * 4 + 3, none⟩ = false := by simp [World.frozen?, hrow]
        refine ⟨(w'.setCell ⟨w.heap.size, k * 4 + 2, none⟩ (.slice a9 n2 c9)).setCell ⟨w.heap.size, k * 4 + 3, none⟩ (.int .i64 cd), ?_, HS15.out, hJ.store2 hno h6 h9 h12 (lt_of_block HG5.out.2.1)⟩
        clear hJ hdep hno q1 q2 q3 hDJ hne h6 h9 h12 hrow hxl
        go_simp
      simp only [Act.put, List.setIfInBounds_toArray, List.set_cons_succ, List.set_cons_zero]
      refine wpG_nil ?_
      intro w8 hJ
      have hch := hJ.chs _ (.inl (.inl (.inl (.inr ⟨rfl, rfl⟩))))
      have hpn := hJ.pol _ (.inl (.inl (.inr ⟨rfl, rfl⟩)))
      have hrow := hJ.row2 _ _ _ _ (.inr ⟨rfl, rfl⟩) (.inl (.inl (.inl (.inr ⟨rfl, rfl⟩)))) (.inl (.inl (.inr ⟨rfl, rfl⟩)))
      have hG5 := lt_of_block HG5.out.2.1
      have hsz := hJ.below.size
      have HNx : Hid (CkAt B w.heap.size (k + 1) l w8 ∧ Below w.heap.size w w8 ∧ w.heap.size + 1 ≤ w8.heap.size) := by
        refine ⟨CkAt.put (lv := .slice a6 n1 c6) (rv := .slice a9 n2 c9) HC5.out HBs.out HCk.out hJ.below hJ.keep (fun ys hys => ?_) rfl rfl ?_ ?_, HG5.out.2.2.2.2.2.trans hJ.below, by omega⟩
        · rw [HG5.out.2.1] at hys
          have : xs = ys := by simpa using hys
          subst this
          rw [hrow, HNs.out.2.2]
        · exact hch.keep (by omega) (fun _ _ _ => rfl) (Nat.le_refl _)
        · rw [HNs.out.2.2]
          exact hpn.keep (by omega) (fun _ _ _ => rfl) (Nat.le_refl _)
      clear hJ hch hpn hrow hG5 hsz q1 q2 q3 hDJ hne HCC HCP HAt HG5 HC5
      go_wp2_with fail
      exact ⟨⟨k + 1, by omega, by go_num, HNx.out.1, HNx.out.2⟩, by simp [intOf]; omega⟩
    · have e : k = n := by omega
      subst e
      have k1 : ¬ ((k : Int) < (k : Int)) := by omega
      go_wp2_with fail
      go_ret
      exact ⟨rfl, HC.out, HBl.out.1⟩
end Go.Proofs.YtbdlojnigflanacGreatDoor
end
