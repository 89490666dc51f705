/- Joined: Mee8 PtD0 Cpt0. -/
import Derived.Test.YtbjpdmfedphacacGreatDoorCj36
import Derived.Test.YtbjpdmfedphacacGreatDoorCj11
import Derived.Test.YtbjpdmfedphacacGreatDoorCj26
import Derived.Lib.SlicesCompact
section
/- Package meet: of how many points each rule says the verdict. -/
set_option linter.all false
set_option maxRecDepth 100000
namespace Go.Proofs.YtbjpdmfedphacacGreatDoor
open Go.RowKit Go.Maps

/-- How many of some calls are judged by rule i. -/
def cntP (p : PolT) (l : List CallT) (i : Int) : Nat := (l.filter fun x => kP p (ofC x) == i).length
theorem cntP_snoc (p : PolT) (l : List CallT) (x : CallT) (i : Int) : cntP p (l ++ [x]) i = cntP p l i + if kP p (ofC x) = i then 1 else 0 := by
  unfold cntP
  rw [List.filter_append, List.length_append]
  by_cases h : kP p (ofC x) = i <;> simp [h]
theorem cntP_le (p : PolT) (l : List CallT) (i : Int) : cntP p l i ≤ l.length := List.length_filter_le _ _
theorem cntP_pos (p : PolT) (l : List CallT) (i : Int) : 0 < cntP p l i ↔ (l.any fun x => kP p (ofC x) == i) = true := by
  unfold cntP
  rw [List.length_pos_iff_exists_mem]
  simp

set_option maxHeartbeats 4000000 in
theorem countUses_any (B : Nat) (pv lv : Value) (p : PolT) (cs : List CallT) (w : World) (hp : PolAt B w pv p) (hl : CallsAt B w lv cs) (hB : B ≤ w.heap.size) (hn : cs.length ≤ 1000) (hk : ∀ x ∈ cs, wf (kP p (ofC x))) :
    Calls Tryz.prog 31 #[pv, lv] w fun e w' => ∃ b, e = .returned (.map (some b)) ∧ ∃ D, w'.ownsMap (H := Unit) Tryz.prog 3 (plainElem Tryz.prog 3) b 1000 D ∧ (∀ i, wf i → D.atKey (.int .i64 i) (.lit (.int .i64 0)) = .lit (.int .i64 (cntP p cs i))) ∧ Below w.heap.size w w' := by
  have HJ : Hid (∀ x w', Below w.heap.size w w' → Calls Tryz.prog 7 #[pv, callV x] w' fun e w'' => e = .returned (.tuple #[.int .i64 (judgeP p x).1, .int .i64 (judgeP p x).2.1, .int .i64 (judgeP p x).2.2]) ∧ Below w'.heap.size w' w'') := fun x w' h => judge_any B pv p x w' (hp.later h hB) (Nat.le_trans hB h.size)
  have HL : Hid (∀ w', Below w.heap.size w w' → CallsAt B w' lv cs) := fun w' h => hl.later h hB
  have HK : Hid _ := hk
  obtain ⟨rs, d⟩ := p
  obtain ⟨rv, e1, -, a, c, e2, -⟩ := hp
  obtain ⟨a1, c1, e3, hlc, hcm, -⟩ := hl
  simp only at e1 e2
  subst e2 e1 e3
  clear hk
  have hml := maxLen_eq
  rw [hml] at hcm
  obtain ⟨N, hN⟩ : ∃ N, N = cs.length := ⟨_, rfl⟩
  have HN : Hid (cs.length = N) := hN.symm
  rw [← hN] at hn hlc HL ⊢
  clear hN
  generalize rs.length = n0 at *
  have hmm := @run_makeMap Tryz.prog
  obtain ⟨W1, hW1⟩ : ∃ W1, W1 = w.alloc (.cells #[.slice a n0 c, .int .i64 d] 24) := ⟨_, rfl⟩
  have hs1 : W1.heap.size = w.heap.size + 1 := by rw [hW1]; simp
  have hb1 : Below w.heap.size w W1 := by rw [hW1]; exact (Below.refl _ _).alloc (Nat.le_refl _) _
  have g1 : W1.heap[w.heap.size]? = some (.cells #[.slice a n0 c, .int .i64 d] 24 (0, 0)) := by rw [hW1]; exact heap_made _ _
  have hm0 := World.ownsMap_made (H := Unit) W1 Tryz.prog 3 (plainElem Tryz.prog 3)
  rw [hs1] at hm0
  obtain ⟨W2, hW2⟩ : ∃ W2, W2 = W1.alloc (.map #[] 0) := ⟨_, rfl⟩
  rw [← hW2] at hm0
  have hb2 : Below (w.heap.size + 1) W1 W2 := by rw [hW2]; exact (Below.refl _ _).alloc (by omega) _
  have HM0 : Hid (W2.ownsMap (H := Unit) Tryz.prog 3 (plainElem Tryz.prog 3) (w.heap.size + 1) 0 (.map [])) := hm0
  have HBx : Hid (∀ v, Below (w.heap.size + 1) W1 v → v.heap[w.heap.size]? = some (.cells #[.slice a n0 c, .int .i64 d] 24 (0, 0)) ∧ Below w.heap.size w v) := fun v h => ⟨(h.block _ (by omega)).trans g1, hb1.trans (h.mono (by omega))⟩
  have HW1 : Hid (W1 = _) := hW1
  have HW2 : Hid (W2 = _) := hW2
  have HB2 : Hid (Below (w.heap.size + 1) W1 W2) := hb2
  clear hW1 hW2 g1 hm0 hb2
  go_enter Tryz.func31, Tryz.ntmps31
  go_wp2_with fail
  rw [← HW1.out]
  rw [← HW2.out]
  clear hmm
  go_loopw [14] (fun iv wr => ∃ (k : Nat) (D : DataW Unit), k ≤ N ∧ iv = .int .i64 k ∧ Hid (wr.ownsMap (H := Unit) Tryz.prog 3 (plainElem Tryz.prog 3) (w.heap.size + 1) k D) ∧ Hid (∀ i, wf i → D.atKey (.int .i64 i) (.lit (.int .i64 0)) = .lit (.int .i64 (cntP (rs, d) (cs.take k) i))) ∧ Hid (Below (w.heap.size + 1) W1 wr)) (fun iv _ => N - (intOf iv).toNat)
  case atStart => exact ⟨0, .map [], by omega, rfl, HM0, fun i _ => rfl, HB2⟩
  case round =>
    obtain ⟨k, D, hk, rfl, HO, HA, HBl⟩ := hrel
    obtain ⟨wo, hwo⟩ : ∃ x, x = wr := ⟨_, rfl⟩
    subst hwo
    have k0 : (0 : Int) ≤ (k : Int) := by omega
    obtain ⟨gp, hbw⟩ := HBx.out _ HBl.out
    have hmlt := HO.out.lt
    by_cases hlt : k < N
    · have k1 : (k : Int) < (N : Int) := by omega
      obtain ⟨x, hxk⟩ : ∃ x, cs[k]? = some x := ⟨cs[k]'(by rw [HN.out]; omega), by simp⟩
      have HTk : Hid (cs.take (k + 1) = cs.take k ++ [x]) := by unfold Hid; rw [List.take_succ, hxk]; rfl
      have hwk := HK.out x (List.mem_of_getElem? hxk)
      have HCk : Hid (∀ i, cntP (rs, d) (cs.take k) i ≤ k) := fun i => Nat.le_trans (cntP_le _ _ _) (by rw [List.length_take]; omega)
      obtain ⟨_, _, e1, -, -, hat⟩ := HL.out _ hbw
      obtain ⟨b3, o3, e, hbB3, q0, q1, q2, q3, q4⟩ := hat k x hxk
      simp at e1
      obtain ⟨rfl, -, -⟩ := e1
      subst e
      clear hat hxk
      obtain ⟨x0, x1, x2, x3, x4⟩ := x
      simp only [] at q0 q1 q2 q3 q4
      obtain ⟨kk, hkk⟩ : ∃ kk, kk = kP (rs, d) (ofC (x0, x1, x2, x3, x4)) := ⟨_, rfl⟩
      have HKK : Hid (kP (rs, d) (ofC (x0, x1, x2, x3, x4)) = kk) := hkk.symm
      have HJx : Hid (∀ w', Below w.heap.size w w' → Calls Tryz.prog 7 #[.agg #[.slice a n0 c, .int .i64 d], .agg #[.int .i64 x0, .int .i64 x1, .int .i64 x2, .int .i64 x3, .int .i64 x4]] w' fun e w'' => ∃ v1 v3, e = .returned (.tuple #[.int .i64 v1, .int .i64 kk, .int .i64 v3]) ∧ Below w'.heap.size w' w'') := fun w' h => by
        refine (HJ.out (at5 x0 x1 x2 x3 x4) w' h).mono ?_
        rintro e w'' ⟨rfl, hb⟩
        exact ⟨_, _, by rw [hkk]; rfl, hb⟩
      rw [← hkk] at hwk
      clear hkk
      obtain ⟨m, hm⟩ : ∃ m, m = cntP (rs, d) (cs.take k) kk := ⟨_, rfl⟩
      have HAk : Hid (D.atKey (.int .i64 kk) (.lit (.int .i64 0)) = .lit (.int .i64 (m : Int))) := by unfold Hid; rw [hm]; exact HA.out kk hwk
      have hmk : m ≤ 1000 := by have := HCk.out kk; omega
      have hwm : (Lit.int .i64 ((m : Int) + 1)).wf = true := WalkArith.wf_i64 (by omega)
      have hIM : IsMap D := World.ownsMap.isMap HO.out
      have HFin : Hid (∀ i, wf i → (D.put (.int .i64 kk) (.lit (.int .i64 ((m : Int) + 1)))).atKey (.int .i64 i) (.lit (.int .i64 0)) = .lit (.int .i64 (cntP (rs, d) (cs.take (k + 1)) i))) := by
        intro i hi
        rw [HTk.out, cntP_snoc, HKK.out]
        by_cases h : kk = i
        · subst h
          rw [Maps.atKey_put_same hIM (by simp [WideAt.IsKeyLit]), if_pos rfl, ← hm]
          rfl
        · rw [Maps.atKey_put_other (by simpa using fun e : i = kk => h e.symm), if_neg h, HA.out i hi]
          rfl
      have HMm : Hid _ := hm
      clear hm hIM HCk
      have y0 := heap_cell gp 0 rfl
      have y1 := heap_cell gp 1 rfl
      have hpl : w.heap.size < wo.heap.size := lt_of_block gp
      have hba : ∀ X, Below wo.heap.size wo (wo.alloc X) := fun X => (Below.refl _ _).alloc (Nat.le_refl _) _
      have hklt : k < maxLen := by omega
      clear gp
      go_wp2_with fail
      go_at_call 7
      refine Calls.mono (HJx.out _ (Below.thenOf hbw (hba _) hbw.size)) ?_
      rintro e w5 ⟨v1, v3, rfl, hb5⟩
      have hb5' : Below wo.heap.size wo w5 := Below.thenOf (hba _) hb5 (by simp)
      have HO5 : Hid (w5.ownsMap (H := Unit) Tryz.prog 3 (plainElem Tryz.prog 3) (w.heap.size + 1) k D) := HO.out.kept (grown_of_below hb5' none) (by simp)
      have HB5 : Hid (Below (w.heap.size + 1) W1 w5) := Below.thenOf HBl.out hb5' (by omega)
      clear q0 q1 q2 q3 q4 y0 y1 hb5 hb5' hba HO HBl
      go_wp2_with (first
        | (at_lookup; go_must (refine wpList_lookup_own_int _ rfl _ _ 69 rfl 3 3 .i64 key3 Tryz.underlying69 Tryz.underlying3 (zero3 _) (w.heap.size + 1) k D rfl HO5.out _ _ rfl (keyOf_int_mk Tryz.underlying3 hwk) ?_; intro cc hat hwc; have hcc := hat.symm.trans HAk.out; simp only [DataW.lit.injEq, Lit.int.injEq, true_and] at hcc; subst hcc; clear hat hwc))
        | (at_mapUpdate; go_must (refine wpList_mapUpdate_own _ rfl _ _ _ 69 rfl 3 3 key3 Tryz.underlying69 (plainElem Tryz.prog 3) (w.heap.size + 1) k D rfl HO5.out hklt _ _ _ rfl rfl (keyOf_int_mk Tryz.underlying3 hwk) _ [] (plainElem_int Tryz.underlying3 hwm) ?_; intro w7 ho7 hg7; have HO7 : Hid _ := ho7; have HG7 : Hid _ := hg7; clear ho7 hg7)))
      have hb7 : Below (w.heap.size + 1) w5 w7 := (Below.refl _ _).grown HG7.out (by have := HO5.out.lt; omega) (fun q hq => by cases hq; exact Nat.le_refl _)
      exact ⟨⟨k + 1, _, by omega, by go_num, HO7, HFin, HB5.out.trans hb7⟩, by simp [intOf]; omega⟩
    · have e : k = N := by omega
      subst e
      have HE : Hid (cs.take k = cs) := by unfold Hid; rw [← HN.out, List.take_length]
      rw [HE.out] at HA
      have k1 : ¬ ((k : Int) < (k : Int)) := by omega
      have HBw : Hid (Below w.heap.size w wo) := hbw
      have HO' : Hid (wo.ownsMap (H := Unit) Tryz.prog 3 (plainElem Tryz.prog 3) (w.heap.size + 1) 1000 D) := HO.out.mono hn
      clear gp hbw HBl HO
      go_wp2_with fail
      go_ret
      exact ⟨_, rfl, D, HO'.out, HA.out, HBw.out⟩
end Go.Proofs.YtbjpdmfedphacacGreatDoor
end
section
/- What package point answers: plain data. -/
set_option linter.all false
namespace Go.Proofs.YtbjpdmfedphacacGreatDoor

def cutsE (ps : List PolT) (f : Int) : Int := if polsErr ps = 0 then (if 0 ≤ f ∧ f < 5 then 0 else 5) else polsErr ps
def cutsL (ps : List PolT) (f : Int) : List Int := if cutsE ps f = 0 then cutsP ps f else []
def homeE (ps : List PolT) (x : Nat → Int) : Int := if chkx x = 0 then polsErr ps else chkx x
def homeC (ps : List PolT) (x : Nat → Int) : Nat → Int := if homeE ps x = 0 then homeP ps x else fun _ => 0
theorem pointsL_five (ps : List PolT) : ∀ x ∈ pointsL ps, ∃ a b c d e, x = [a, b, c, d, e] := by
  intro x h
  unfold pointsL at h
  split at h
  · have h' := (mem_prodL _ _).1 h
    unfold cuts5 at h'
    match x, h' with
    | [a, b, c, d, e], _ => exact ⟨a, b, c, d, e, rfl⟩
  · cases h

end Go.Proofs.YtbjpdmfedphacacGreatDoor
end
section
/- Cuts as package point gathers them, points as it spreads them, homes as it searches them: plain facts. -/
set_option linter.all false
namespace Go.Proofs.YtbjpdmfedphacacGreatDoor

/-! What is left of a sorted list where neighbours that are the same are made one. -/
theorem compactUpTo_sorted (d : Array Int) (n : Nat) (hd : ∀ a b, a ≤ b → b < n → d[a]! ≤ d[b]!) : ∀ m, m ≤ n → Rising (Lib.compactUpTo d m) ∧ ∀ x, x ∈ Lib.compactUpTo d m ↔ ∃ j, j < m ∧ d[j]! = x
  | 0, _ => ⟨List.Pairwise.nil, fun x => ⟨fun h => by simp [Lib.compactUpTo] at h, fun ⟨j, hj, _⟩ => by omega⟩⟩
  | m + 1, hm => by
    obtain ⟨h1, h2⟩ := compactUpTo_sorted d n hd m (by omega)
    rw [Lib.compactUpTo_succ]
    by_cases hk : Lib.keeps d m = true
    · rw [if_pos hk]
      refine ⟨List.pairwise_append.2 ⟨h1, List.pairwise_singleton _ _, fun a ha b hb => ?_⟩, fun x => ?_⟩
      · obtain ⟨j, hj, rfl⟩ := (h2 a).1 ha
        rw [List.mem_singleton] at hb
        subst hb
        have hne : d[m]! ≠ d[m - 1]! := by
          simp [Lib.keeps] at hk
          rcases hk with h | h
          · omega
          · exact h
        have a1 := hd j (m - 1) (by omega) (by omega)
        have a2 := hd (m - 1) m (by omega) (by omega)
        omega
      · rw [List.mem_append, h2, List.mem_singleton]
        constructor
        · rintro (⟨j, hj, h⟩ | h)
          · exact ⟨j, by omega, h⟩
          · exact ⟨m, by omega, h.symm⟩
        · rintro ⟨j, hj, h⟩
          by_cases e : j = m
          · subst e; exact .inr h.symm
          · exact .inl ⟨j, by omega, h⟩
    · rw [if_neg hk, List.append_nil]
      refine ⟨h1, fun x => ?_⟩
      rw [h2]
      have h3 : m ≠ 0 ∧ d[m]! = d[m - 1]! := by
        simp [Lib.keeps] at hk
        exact hk
      constructor
      · rintro ⟨j, hj, h⟩
        exact ⟨j, by omega, h⟩
      · rintro ⟨j, hj, h⟩
        by_cases e : j = m
        · subst e
          exact ⟨j - 1, by omega, by rw [← h3.2]; exact h⟩
        · exact ⟨j, by omega, h⟩
theorem compact_sorted (zs : List Int) (h : zs.Pairwise (· ≤ ·)) : Rising (Lib.compact zs) ∧ ∀ x, x ∈ Lib.compact zs ↔ x ∈ zs := by
  have hd : ∀ a b, a ≤ b → b < zs.length → zs.toArray[a]! ≤ zs.toArray[b]! := by
    intro a b hab hb
    have e : ∀ i, (hi : i < zs.length) → zs.toArray[i]! = zs[i] := fun i hi => by simp [getElem!_pos, hi]
    rw [e a (by omega), e b hb]
    by_cases e' : a = b
    · subst e'; exact Int.le_refl _
    · exact List.pairwise_iff_getElem.1 h a b (by omega) hb (by omega)
  obtain ⟨h1, h2⟩ := compactUpTo_sorted zs.toArray zs.length hd zs.length (Nat.le_refl _)
  refine ⟨h1, fun x => (h2 x).trans ⟨?_, ?_⟩⟩
  · rintro ⟨j, hj, rfl⟩
    have e : zs.toArray[j]! = zs[j] := by simp [getElem!_pos, hj]
    rw [e]
    exact List.getElem_mem _
  · intro hx
    obtain ⟨j, hj, rfl⟩ := List.getElem_of_mem hx
    exact ⟨j, hj, by simp [getElem!_pos, hj]⟩
theorem merged_sorted (xs : List Int) : (xs.mergeSort fun x y => decide (x ≤ y)).Pairwise (· ≤ ·) :=
  (List.pairwise_mergeSort (le := fun x y : Int => decide (x ≤ y)) (fun a b c => by simp only [decide_eq_true_eq]; omega) (fun a b => by simp only [Bool.or_eq_true, decide_eq_true_eq]; omega) xs).imp fun h => by simpa using h

/-! What is gathered. -/
def condCutsD (f : Int) (c : CondT) : List Int := if c.1 = f then (if (c.2.1 = 1 ∨ c.2.1 = 2) ∧ c.2.2 < most f then [c.2.2, c.2.2 + 1] else [c.2.2]) else []
def gathD (f : Int) (cs : List CondT) : List Int := 0 :: cs.flatMap (condCutsD f)
theorem gathD_snoc (f : Int) (cs : List CondT) (c : CondT) : gathD f (cs ++ [c]) = gathD f cs ++ condCutsD f c := by simp [gathD]
theorem condCutsD_len (f : Int) (c : CondT) : (condCutsD f c).length ≤ 2 := by
  unfold condCutsD
  split
  · split <;> simp
  · simp
theorem gathD_len (f : Int) : ∀ cs : List CondT, (gathD f cs).length ≤ 2 * cs.length + 1
  | [] => by simp [gathD]
  | c :: cs => by
    have h1 := gathD_len f cs
    have h2 := condCutsD_len f c
    unfold gathD at h1 ⊢
    simp only [List.length_cons, List.flatMap_cons, List.length_append] at h1 ⊢
    omega
theorem mem_gathD {ps : List PolT} (h : AllOk ps) (f n : Int) : n ∈ gathD f (polsConds ps) ↔ n ∈ cutsP ps f := by
  rw [mem_cutsP]
  unfold gathD
  rw [List.mem_cons, List.mem_flatMap]
  constructor
  · rintro (rfl | ⟨c, hc, hn⟩)
    · exact ⟨.inl rfl, most_nn f⟩
    · have hv := (condErr_ok (conds_ok h c hc)).2.2
      unfold condCutsD at hn
      split at hn
      · rename_i hf
        rw [hf] at hv
        split at hn
        · rename_i ho
          simp at hn
          rcases hn with rfl | rfl
          · exact ⟨.inr ⟨c, hc, hf, .inl rfl⟩, hv.2⟩
          · exact ⟨.inr ⟨c, hc, hf, .inr ⟨rfl, ho.1⟩⟩, by omega⟩
        · simp at hn
          subst hn
          exact ⟨.inr ⟨c, hc, hf, .inl rfl⟩, hv.2⟩
      · simp at hn
  · rintro ⟨rfl | ⟨c, hc, hf, hn⟩, hm⟩
    · exact .inl rfl
    · refine .inr ⟨c, hc, ?_⟩
      unfold condCutsD
      rw [if_pos hf]
      rcases hn with rfl | ⟨rfl, ho⟩
      · split <;> simp
      · rw [if_pos ⟨ho, by omega⟩]
        simp
theorem gathered_cuts {ps : List PolT} (h : AllOk ps) (f : Int) : Lib.compact ((gathD f (polsConds ps)).mergeSort fun x y => decide (x ≤ y)) = cutsP ps f := by
  obtain ⟨h1, h2⟩ := compact_sorted _ (merged_sorted (gathD f (polsConds ps)))
  refine rising_ext _ _ h1 (cutsP_rising ps f) fun x => ?_
  rw [h2, List.mem_mergeSort, mem_gathD h]

/-! Points, field by field. -/
theorem prodL_snoc (L : List Int) : ∀ Ls : List (List Int), prodL (Ls ++ [L]) = (prodL Ls).flatMap fun x => L.map fun c => x ++ [c]
  | [] => by
    show L.flatMap (fun a => [[a]]) = [[]].flatMap fun x => L.map fun c => x ++ [c]
    simp
    induction L with
    | nil => rfl
    | cons a L ih => simp [ih]
  | M :: Ls => by
    rw [List.cons_append, prodL_cons, prodL_cons, prodL_snoc L Ls, List.flatMap_assoc]
    congr 1
    funext a
    rw [List.map_flatMap, List.flatMap_map]
    congr 1
    funext x
    simp
def padC (x : List Int) : List Int := x ++ List.replicate (5 - x.length) 0
/-- The points of the first k fields, all other fields 0. -/
def ptsK (ps : List PolT) (k : Nat) : List (List Int) := (prodL ((cuts5 ps).take k)).map padC
theorem prodL_five : ∀ (Ls : List (List Int)) (x : List Int), x ∈ prodL Ls → x.length = Ls.length
  | [], x, h => by
    have : x = [] := by simpa [prodL] using h
    subst this; rfl
  | L :: Ls, x, h => by
    rw [prodL_cons, List.mem_flatMap] at h
    obtain ⟨a, _, h⟩ := h
    obtain ⟨y, hy, rfl⟩ := List.mem_map.1 h
    simp [prodL_five Ls y hy]
theorem padC_len (x : List Int) (h : x.length ≤ 5) : (padC x).length = 5 := by unfold padC; simp; omega
theorem padC_set (x : List Int) (c : Int) (h : x.length < 5) : (padC x).set x.length c = padC (x ++ [c]) := by
  unfold padC
  obtain ⟨m, hm⟩ : ∃ m, 5 - x.length = m + 1 := ⟨5 - x.length - 1, by omega⟩
  rw [hm, List.set_append_right _ _ (Nat.le_refl _), Nat.sub_self, List.replicate_succ, List.set_cons_zero]
  rw [show 5 - (x ++ [c]).length = m by simp; omega]
  simp
theorem ptsK_zero (ps : List PolT) : ptsK ps 0 = [[0, 0, 0, 0, 0]] := rfl
theorem ptsK_len5 (ps : List PolT) (k : Nat) (hk : k ≤ 5) : ∀ x ∈ ptsK ps k, x.length = 5 := by
  intro x hx
  obtain ⟨y, hy, rfl⟩ := List.mem_map.1 hx
  have := prodL_five _ y hy
  exact padC_len y (by rw [this, List.length_take]; omega)
theorem ptsK_succ (ps : List PolT) (k : Nat) (hk : k < 5) : ptsK ps (k + 1) = (ptsK ps k).flatMap fun x => (cutsP ps k).map fun c => x.set k c := by
  unfold ptsK
  have h := cuts5_get ps k hk
  rw [List.take_succ, h]
  show (prodL ((cuts5 ps).take k ++ [cutsP ps k])).map padC = _
  rw [prodL_snoc, List.map_flatMap, List.flatMap_map]
  rw [List.flatMap_def, List.flatMap_def]
  congr 1
  refine List.map_congr_left fun x hx => ?_
  have hl : x.length = k := by
    rw [prodL_five _ x hx, List.length_take, show (cuts5 ps).length = 5 from rfl]
    omega
  rw [List.map_map]
  refine List.map_congr_left fun c _ => ?_
  show padC (x ++ [c]) = (padC x).set k c
  rw [← padC_set x c (by omega), hl]
theorem ptsK_length (ps : List PolT) : ∀ k, k ≤ 5 → (ptsK ps k).length = lenP ps k
  | 0, _ => rfl
  | k + 1, h => by
    rw [ptsK_succ ps k (by omega), length_flatMap_const _ (cutsP ps k).length _ (fun a _ => by simp), ptsK_length ps k (by omega)]
    rfl
theorem ptsK_five (ps : List PolT) : ptsK ps 5 = pointsP ps := by
  unfold ptsK pointsP
  rw [show (cuts5 ps).take 5 = cuts5 ps from rfl]
  refine (List.map_congr_left fun x hx => ?_).trans (List.map_id _)
  have := prodL_five _ x hx
  unfold padC
  rw [this]
  simp [cuts5]

/-! Homes, searched. -/
theorem lastLe_found (v : Int) (L : List Int) (k : Nat) (hk0 : 0 < k) (hk : k ≤ L.length) (h1 : ∀ (t : Nat) n, t < k → L[t]? = some n → n ≤ v) (h2 : ∀ (t : Nat) n, k ≤ t → L[t]? = some n → v < n) : L[k - 1]? = some (lastLe v 0 L) := by
  have low : ∀ i, i < k → L[i]? = some (lastLe v 0 (L.take (i + 1))) := by
    intro i hi
    obtain ⟨n, hn⟩ : ∃ n, L[i]? = some n := ⟨L[i]'(by omega), by simp⟩
    rw [lastLe_take v L i n hn, if_pos (h1 i n hi hn), hn]
  have high : ∀ m, k + m ≤ L.length → lastLe v 0 (L.take (k + m)) = lastLe v 0 (L.take k) := by
    intro m
    induction m with
    | zero => intro _; rfl
    | succ m ih =>
      intro hm
      obtain ⟨n, hn⟩ : ∃ n, L[k + m]? = some n := ⟨L[k + m]'(by omega), by simp⟩
      have := h2 (k + m) n (by omega) hn
      rw [← Nat.add_assoc, lastLe_take v L (k + m) n hn, if_neg (by omega), ih (by omega)]
  have e := high (L.length - k) (by omega)
  rw [show k + (L.length - k) = L.length by omega, List.take_length] at e
  rw [e, low (k - 1) (by omega), show k - 1 + 1 = k by omega]
theorem rising_le {L : List Int} (h : Rising L) {i j : Nat} {a b : Int} (hij : i ≤ j) (ha : L[i]? = some a) (hb : L[j]? = some b) : a ≤ b := by
  obtain ⟨hi, rfl⟩ := List.getElem?_eq_some_iff.1 ha
  obtain ⟨hj, rfl⟩ := List.getElem?_eq_some_iff.1 hb
  by_cases e : i = j
  · subst e; exact Int.le_refl _
  · exact Int.le_of_lt (List.pairwise_iff_getElem.1 h i j hi hj (by omega))
theorem cuts_first {ps : List PolT} (h : AllOk ps) (f : Int) : (cutsP ps f)[0]? = some 0 := by
  obtain ⟨j, hj, e⟩ := List.getElem_of_mem (zero_cut ps f)
  obtain ⟨a, ha⟩ : ∃ a, (cutsP ps f)[0]? = some a := ⟨(cutsP ps f)[0]'(by omega), by simp⟩
  have h1 := (cut_range h (List.mem_of_getElem? ha)).1
  have h2 := rising_le (cutsP_rising ps f) (Nat.zero_le j) ha (b := 0) (by simp [e, hj])
  rw [ha]
  congr 1
  omega

end Go.Proofs.YtbjpdmfedphacacGreatDoor
end
