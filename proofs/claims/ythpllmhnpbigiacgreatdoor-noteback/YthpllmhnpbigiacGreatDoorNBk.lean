/- NoteBack, walked. -/
import Derived.Test.YthpllmhnpbigiacGreatDoorNk40
set_option linter.all false
set_option maxRecDepth 100000
namespace Go.Proofs.YthpllmhnpbigiacGreatDoor
open Go.RowKit Go.Maps

theorem bsB_inj {a b : Bs} (h : bsB a = bsB b) : a = b := by
  have := congrArg (fun x : ByteArray => x.data.toList) h
  simpa [bsB] using this
theorem bsB_list (b : ByteArray) : bsB b.data.toList = b := by
  cases b
  simp [bsB]

set_option maxHeartbeats 16000000 in
theorem noteBack_any (B : Nat) (rv qv : Value) (r q : RecT) (s : ByteArray) (w : World) (he : EnvT w) (hr : RecAt B w rv r) (hq : RecAt B w qv q) (hB : B ≤ w.heap.size) :
    Calls Tryz.prog 5 #[rv, qv, .string s] w fun e w' => e = .returned (.bool true) ∧ Below w.heap.size w w' := by
  have HPr : Hid (∀ w', Below w.heap.size w w' → Calls Tryz.prog 11 #[rv] w' fun e w'' => e = .returned (.tuple #[.string (bsB (printT r)), .int .i64 (recErr r)]) ∧ Below w'.heap.size w' w'') := fun w' h => printN_any B rv r w' (he.later h) (hr.later h hB) (Nat.le_trans hB h.size)
  have HPq : Hid (∀ w', Below w.heap.size w w' → Calls Tryz.prog 11 #[qv] w' fun e w'' => e = .returned (.tuple #[.string (bsB (printT q)), .int .i64 (recErr q)]) ∧ Below w'.heap.size w' w'') := fun w' h => printN_any B qv q w' (he.later h) (hq.later h hB) (Nat.le_trans hB h.size)
  have HSm : Hid (∀ w', Below w.heap.size w w' → Calls Tryz.prog 16 #[rv, qv] w' fun e w'' => e = .returned (.bool (decide (r = q))) ∧ Below w'.heap.size w' w'') := fun w' h => sameN_any B rv qv r q w' (hr.later h hB) (hq.later h hB) (Nat.le_trans hB h.size)
  have HNo : Hid (∀ w', Below w.heap.size w w' → Calls Tryz.prog 14 #[] w' fun e w'' => e = .returned (.bool true) ∧ Below w'.heap.size w' w'') := fun w' h => noted_true w' (he.later h)
  have HBk : Hid (recErr r = 0 → (bsB (printT r)).size ≤ 60000 → ∀ w', Below w.heap.size w w' → Calls Tryz.prog 12 #[.string (bsB (printT r))] w' fun e w'' => ∃ v, e = .returned (.tuple #[v, .int .i64 0]) ∧ RecAt w''.heap.size w'' v r ∧ Below w'.heap.size w' w'') := fun h0 hl w' h => by
    have hp : printT r = recText r := by unfold printT; rw [if_pos h0]
    have hd : (bsB (printT r)).data.toList = recText r := by rw [hp]; simp [bsB]
    have := parseN_any (bsB (printT r)) w' (he.later h)
    rw [hd, recParse_text h0 (by rw [← hd, ← Lib.size_eq]; exact hl)] at this
    exact this
  have HSx : Hid (∀ w' v, Below w.heap.size w w' → RecAt w'.heap.size w' v r → Calls Tryz.prog 16 #[v, rv] w' fun e w'' => e = .returned (.bool true) ∧ Below w'.heap.size w' w'') := fun w' v h hv => by
    have := sameN_any w'.heap.size v rv r r w' hv ((hr.later h hB).wide (Nat.le_trans hB h.size)) (Nat.le_refl _)
    rw [decide_eq_true rfl] at this
    exact this
  have HInj : Hid (recErr r = 0 → recErr q = 0 → ¬ r = q → ((bsB (printT r)).toList == (bsB (printT q)).toList) = false) := fun h1 h2 hn => by
    refine beq_eq_false_iff_ne.2 fun e => hn (rec_inj h1 h2 ?_)
    rw [Lib.toList_data, Lib.toList_data] at e
    have this : printT r = printT q := by simpa [bsB] using e
    unfold printT at this
    rw [if_pos h1, if_pos h2] at this
    exact this
  have HPa : Hid (∀ w', Below w.heap.size w w' → Calls Tryz.prog 12 #[.string s] w' fun e w'' => ∃ v, e = .returned (.tuple #[v, .int .i64 (recParse s.data.toList).2]) ∧ RecAt w''.heap.size w'' v (recParse s.data.toList).1 ∧ Below w'.heap.size w' w'') := fun w' h => parseN_any s w' (he.later h)
  have HPx : Hid (∀ w' v, (recParse s.data.toList).2 = 0 → Below w.heap.size w w' → RecAt w'.heap.size w' v (recParse s.data.toList).1 → Calls Tryz.prog 11 #[v] w' fun e w'' => e = .returned (.tuple #[.string s, .int .i64 0]) ∧ Below w'.heap.size w' w'') := fun w' v h0 h hv => by
    obtain ⟨h1, h2⟩ := recParse_back (s := s.data.toList) (r := (recParse s.data.toList).1) (Prod.ext rfl h0)
    have := printN_any w'.heap.size v _ w' (he.later h) hv (Nat.le_refl _)
    rw [h1] at this
    have hp : printT (recParse s.data.toList).1 = s.data.toList := by unfold printT; rw [if_pos h1, h2]
    rw [hp, bsB_list] at this
    exact this
  obtain ⟨a, c, e1, -⟩ := hr.shape
  obtain ⟨a2, c2, e2, -⟩ := hq.shape
  subst e1 e2
  clear he hr hq
  obtain ⟨XF, hXF⟩ : ∃ XF, XF = recParse s.data.toList := ⟨_, rfl⟩
  rw [← hXF] at HPa HPx
  clear hXF
  obtain ⟨⟨x1, x2, x3, xs, x4⟩, G⟩ := XF
  simp only [] at HPa HPx
  obtain ⟨E, hE⟩ : ∃ E, E = recErr r := ⟨_, rfl⟩
  obtain ⟨F, hF⟩ : ∃ F, F = recErr q := ⟨_, rfl⟩
  obtain ⟨TT, hTT⟩ : ∃ TT, TT = bsB (printT r) := ⟨_, rfl⟩
  obtain ⟨UU, hUU⟩ : ∃ UU, UU = bsB (printT q) := ⟨_, rfl⟩
  rw [← hE] at HPr HBk HInj
  rw [← hF] at HPq HInj
  rw [← hTT] at HPr HBk HInj
  rw [← hUU] at HPq HInj
  have HTU : Hid (r = q → TT = UU) := fun e => by rw [hTT, hUU, e]
  clear hE hF hTT hUU
  obtain ⟨k1, k2, k3, rs, k4⟩ := r
  obtain ⟨j1, j2, j3, ss, j4⟩ := q
  simp only [] at HPr HPq HSm HSx ⊢
  generalize rs.length = n1 at *
  generalize ss.length = n2 at *
  obtain ⟨W2, hW2⟩ : ∃ W2, W2 = (w.alloc (.cells #[.int .i64 k1, .int .i64 k2, .int .i64 k3, .slice a n1 c, .int .i64 k4] 38)).alloc (.cells #[.int .i64 j1, .int .i64 j2, .int .i64 j3, .slice a2 n2 c2, .int .i64 j4] 38) := ⟨_, rfl⟩
  have hb2 : Below w.heap.size w W2 := by rw [hW2]; exact ((Below.refl _ _).alloc (Nat.le_refl _) _).alloc (by simp) _
  have hs2 : W2.heap.size = w.heap.size + 1 + 1 := by rw [hW2]; simp
  have HG : Hid (∀ v, Below W2.heap.size W2 v → v.heap[w.heap.size]? = some (.cells #[.int .i64 k1, .int .i64 k2, .int .i64 k3, .slice a n1 c, .int .i64 k4] 38 (0, 0)) ∧ v.heap[w.heap.size + 1]? = some (.cells #[.int .i64 j1, .int .i64 j2, .int .i64 j3, .slice a2 n2 c2, .int .i64 j4] 38 (0, 0)) ∧ Below w.heap.size w v) := by
    intro v h
    have e0 : W2.heap[w.heap.size]? = some (.cells #[.int .i64 k1, .int .i64 k2, .int .i64 k3, .slice a n1 c, .int .i64 k4] 38 (0, 0)) := by rw [hW2]; exact (Below.heap_alloc _ _ _ (by simp)).trans (heap_made _ _)
    have e1 : W2.heap[w.heap.size + 1]? = some (.cells #[.int .i64 j1, .int .i64 j2, .int .i64 j3, .slice a2 n2 c2, .int .i64 j4] 38 (0, 0)) := by
      have := heap_made (w.alloc (.cells #[.int .i64 k1, .int .i64 k2, .int .i64 k3, .slice a n1 c, .int .i64 k4] 38)) (.cells #[.int .i64 j1, .int .i64 j2, .int .i64 j3, .slice a2 n2 c2, .int .i64 j4] 38)
      rw [World.size_alloc] at this
      rw [hW2]
      exact this
    exact ⟨(h.block _ (by omega)).trans e0, (h.block _ (by omega)).trans e1, Below.thenOf hb2 h hb2.size⟩
  have HW2 : Hid (W2 = _) := hW2
  clear hW2
  go_enter Tryz.func5, Tryz.ntmps5
  go_wp2_with fail
  rw [← HW2.out]
  go_at_call 11
  refine Calls.mono (HPr.out W2 hb2) ?_
  rintro e w3 ⟨rfl, hb3⟩
  obtain ⟨-, gq3, hbw3⟩ := HG.out w3 hb3
  obtain ⟨p0, p1, p2, p3, p4⟩ := rec_box gq3
  have lq := lt_of_block gq3
  clear gq3
  go_wp2_with fail
  go_at_call 11
  refine Calls.mono (HPq.out w3 hbw3) ?_
  rintro e w4 ⟨rfl, hb4⟩
  have hb24 : Below W2.heap.size W2 w4 := Below.thenOf hb3 hb4 hb3.size
  obtain ⟨-, -, hbw4⟩ := HG.out w4 hb24
  clear p0 p1 p2 p3 p4 lq hb3 hb4 hbw3
  go_wp2_with fail
  go_at_call 14
  refine Calls.mono (HNo.out w4 hbw4) ?_
  rintro e w5 ⟨rfl, hb5⟩
  have hb25 : Below W2.heap.size W2 w5 := Below.thenOf hb24 hb5 hb24.size
  obtain ⟨gr5, gq5, hbw5⟩ := HG.out w5 hb25
  have HB25 : Hid (Below W2.heap.size W2 w5) := hb25
  have HBw5 : Hid (Below w.heap.size w w5) := hbw5
  clear hb24 hb5 hb25 hbw4
  by_cases hE : E = 0
  · subst hE
    have HBk0 : Hid (TT.size ≤ 60000 → ∀ w', Below w.heap.size w w' → Calls Tryz.prog 12 #[.string TT] w' fun e w'' => ∃ v, e = .returned (.tuple #[v, .int .i64 0]) ∧ RecAt w''.heap.size w'' v (k1, k2, k3, rs, k4) ∧ Below w'.heap.size w' w'') := HBk.out rfl
    clear HBk
    by_cases hF : F = 0
    · subst hF
      have HInj0 : Hid (¬ ((k1, k2, k3, rs, k4) : RecT) = (j1, j2, j3, ss, j4) → (TT.toList == UU.toList) = false) := HInj.out rfl rfl
      clear HInj
      obtain ⟨r0, r1, r2, r3, r4⟩ := rec_box gr5
      obtain ⟨p0, p1, p2, p3, p4⟩ := rec_box gq5
      have lr := lt_of_block gr5
      have lq := lt_of_block gq5
      clear gr5 gq5
      by_cases hrq : ((k1, k2, k3, rs, k4) : RecT) = (j1, j2, j3, ss, j4)
      · have hTU := HTU.out hrq
        have HSm' : Hid (Calls Tryz.prog 16 #[.agg #[.int .i64 k1, .int .i64 k2, .int .i64 k3, .slice a n1 c, .int .i64 k4], .agg #[.int .i64 j1, .int .i64 j2, .int .i64 j3, .slice a2 n2 c2, .int .i64 j4]] w5 fun e w'' => e = .returned (.bool true) ∧ Below w5.heap.size w5 w'') := by
          have h := HSm.out w5 HBw5.out
          rw [decide_eq_true hrq] at h
          exact h
        clear hrq HInj0 HTU HPr HPq
        subst hTU
        go_wp2_with fail
        go_at_call 16
        refine Calls.mono HSm'.out ?_
        rintro e w6 ⟨rfl, hb6⟩
        have HB6 : Hid (Below W2.heap.size W2 w6) := Below.thenOf HB25.out hb6 HB25.out.size
        have HBw6 : Hid (Below w.heap.size w w6) := (HG.out w6 HB6.out).2.2
        clear hb6 r0 r1 r2 r3 r4 p0 p1 p2 p3 p4 lr lq
        by_cases hT : TT.size ≤ 60000
        · have hT' : (TT.size : Int) ≤ 60000 := by omega
          go_wp2_with fail
          go_at_call 12
          refine Calls.mono (HBk0.out hT w6 HBw6.out) ?_
          rintro e m1 ⟨v1, rfl, hv1, hm1⟩
          obtain ⟨va, vc, ev, -⟩ := hv1.shape
          subst ev
          simp only [] at hv1 ⊢
          obtain ⟨vn, hvn⟩ : ∃ vn, vn = rs.length := ⟨_, rfl⟩
          rw [← hvn] at hv1 ⊢
          have HB2m : Hid (Below W2.heap.size W2 m1) := Below.thenOf HB6.out hm1 (HB6.out).size
          obtain ⟨M2, hM2⟩ : ∃ M2, M2 = m1.alloc (.cells #[.int .i64 k1, .int .i64 k2, .int .i64 k3, .slice va vn vc, .int .i64 k4] 38) := ⟨_, rfl⟩
          have hbM : Below m1.heap.size m1 M2 := by rw [hM2]; exact (Below.refl _ _).alloc (Nat.le_refl _) _
          have HBwM : Hid (Below w.heap.size w M2) := Below.thenOf (HG.out m1 HB2m.out).2.2 hbM (HG.out m1 HB2m.out).2.2.size
          have HSx' : Hid (Calls Tryz.prog 16 #[.agg #[.int .i64 k1, .int .i64 k2, .int .i64 k3, .slice va vn vc, .int .i64 k4], .agg #[.int .i64 k1, .int .i64 k2, .int .i64 k3, .slice a n1 c, .int .i64 k4]] M2 fun e w'' => e = .returned (.bool true) ∧ Below M2.heap.size M2 w'') := HSx.out M2 _ HBwM.out ((hv1.later hbM (Nat.le_refl _)).wide hbM.size)
          have HM2 : Hid (M2 = _) := hM2
          obtain ⟨gm, -, -⟩ := HG.out m1 HB2m.out
          obtain ⟨o0, o1, o2, o3, o4⟩ := rec_box gm
          have lm := lt_of_block gm
          clear hM2 hbM hv1 hvn hm1 gm
          go_wp2_with fail
          rw [← HM2.out]
          go_at_call 16
          refine Calls.mono HSx'.out ?_
          rintro e m3 ⟨rfl, hm3⟩
          have HBw3 : Hid (Below w.heap.size w m3) := Below.thenOf HBwM.out hm3 HBwM.out.size
          clear hm3 o0 o1 o2 o3 o4 lm
          go_wp2_with fail
          go_at_call 12
          refine Calls.mono (HPa.out m3 HBw3.out) ?_
          rintro e t1 ⟨xv, rfl, hx1, hbt1⟩
          obtain ⟨xa, xc, ex, -⟩ := hx1.shape
          subst ex
          simp only [] at hx1 ⊢
          obtain ⟨xn, hxn⟩ : ∃ xn, xn = xs.length := ⟨_, rfl⟩
          rw [← hxn] at hx1 ⊢
          have HBt1 : Hid (Below w.heap.size w t1) := Below.thenOf HBw3.out hbt1 (HBw3.out).size
          have HXt : Hid (RecAt t1.heap.size t1 (.agg #[.int .i64 x1, .int .i64 x2, .int .i64 x3, .slice xa xn xc, .int .i64 x4]) (x1, x2, x3, xs, x4)) := hx1
          clear hx1 hxn hbt1
          by_cases hG : G = 0
          · subst hG
            obtain ⟨T2, hT2⟩ : ∃ T2, T2 = t1.alloc (.cells #[.int .i64 x1, .int .i64 x2, .int .i64 x3, .slice xa xn xc, .int .i64 x4] 38) := ⟨_, rfl⟩
            have hbt2 : Below t1.heap.size t1 T2 := by rw [hT2]; exact (Below.refl _ _).alloc (Nat.le_refl _) _
            have HPx' : Hid (Calls Tryz.prog 11 #[.agg #[.int .i64 x1, .int .i64 x2, .int .i64 x3, .slice xa xn xc, .int .i64 x4]] T2 fun e w'' => e = .returned (.tuple #[.string s, .int .i64 0]) ∧ Below T2.heap.size T2 w'') := HPx.out T2 _ rfl (Below.thenOf HBt1.out hbt2 HBt1.out.size) ((HXt.out.later hbt2 (Nat.le_refl _)).wide hbt2.size)
            have HT2 : Hid (T2 = _) := hT2
            have HBt2 : Hid (Below w.heap.size w T2) := Below.thenOf HBt1.out hbt2 HBt1.out.size
            clear hT2 hbt2
            go_wp2_with fail
            rw [← HT2.out]
            go_at_call 11
            refine Calls.mono HPx'.out ?_
            rintro e t3 ⟨rfl, hbt3⟩
            go_wp2_with fail
            go_ret
            exact ⟨rfl, Below.thenOf HBt2.out hbt3 HBt2.out.size⟩
          · have hqG : (G != 0) = true := by simpa using hG
            clear hG
            go_wp2_with fail
            go_ret
            exact ⟨rfl, HBt1.out.alloc HBt1.out.size _⟩
        · have hT' : ¬ ((TT.size : Int) ≤ 60000) := by omega
          go_wp2_with fail
          go_at_call 12
          refine Calls.mono (HPa.out w6 HBw6.out) ?_
          rintro e t1 ⟨xv, rfl, hx1, hbt1⟩
          obtain ⟨xa, xc, ex, -⟩ := hx1.shape
          subst ex
          simp only [] at hx1 ⊢
          obtain ⟨xn, hxn⟩ : ∃ xn, xn = xs.length := ⟨_, rfl⟩
          rw [← hxn] at hx1 ⊢
          have HBt1 : Hid (Below w.heap.size w t1) := Below.thenOf HBw6.out hbt1 (HBw6.out).size
          have HXt : Hid (RecAt t1.heap.size t1 (.agg #[.int .i64 x1, .int .i64 x2, .int .i64 x3, .slice xa xn xc, .int .i64 x4]) (x1, x2, x3, xs, x4)) := hx1
          clear hx1 hxn hbt1
          by_cases hG : G = 0
          · subst hG
            obtain ⟨T2, hT2⟩ : ∃ T2, T2 = t1.alloc (.cells #[.int .i64 x1, .int .i64 x2, .int .i64 x3, .slice xa xn xc, .int .i64 x4] 38) := ⟨_, rfl⟩
            have hbt2 : Below t1.heap.size t1 T2 := by rw [hT2]; exact (Below.refl _ _).alloc (Nat.le_refl _) _
            have HPx' : Hid (Calls Tryz.prog 11 #[.agg #[.int .i64 x1, .int .i64 x2, .int .i64 x3, .slice xa xn xc, .int .i64 x4]] T2 fun e w'' => e = .returned (.tuple #[.string s, .int .i64 0]) ∧ Below T2.heap.size T2 w'') := HPx.out T2 _ rfl (Below.thenOf HBt1.out hbt2 HBt1.out.size) ((HXt.out.later hbt2 (Nat.le_refl _)).wide hbt2.size)
            have HT2 : Hid (T2 = _) := hT2
            have HBt2 : Hid (Below w.heap.size w T2) := Below.thenOf HBt1.out hbt2 HBt1.out.size
            clear hT2 hbt2
            go_wp2_with fail
            rw [← HT2.out]
            go_at_call 11
            refine Calls.mono HPx'.out ?_
            rintro e t3 ⟨rfl, hbt3⟩
            go_wp2_with fail
            go_ret
            exact ⟨rfl, Below.thenOf HBt2.out hbt3 HBt2.out.size⟩
          · have hqG : (G != 0) = true := by simpa using hG
            clear hG
            go_wp2_with fail
            go_ret
            exact ⟨rfl, HBt1.out.alloc HBt1.out.size _⟩
      · have hTU : (TT.toList == UU.toList) = false := HInj0.out hrq
        have HSm' : Hid (Calls Tryz.prog 16 #[.agg #[.int .i64 k1, .int .i64 k2, .int .i64 k3, .slice a n1 c, .int .i64 k4], .agg #[.int .i64 j1, .int .i64 j2, .int .i64 j3, .slice a2 n2 c2, .int .i64 j4]] w5 fun e w'' => e = .returned (.bool false) ∧ Below w5.heap.size w5 w'') := by
          have h := HSm.out w5 HBw5.out
          rw [decide_eq_false hrq] at h
          exact h
        clear hrq HInj0 HTU HPr HPq
        go_wp2_with fail
        go_at_call 16
        refine Calls.mono HSm'.out ?_
        rintro e w6 ⟨rfl, hb6⟩
        have HB6 : Hid (Below W2.heap.size W2 w6) := Below.thenOf HB25.out hb6 HB25.out.size
        have HBw6 : Hid (Below w.heap.size w w6) := (HG.out w6 HB6.out).2.2
        clear hb6 r0 r1 r2 r3 r4 p0 p1 p2 p3 p4 lr lq hTU
        by_cases hT : TT.size ≤ 60000
        · have hT' : (TT.size : Int) ≤ 60000 := by omega
          go_wp2_with fail
          go_at_call 12
          refine Calls.mono (HBk0.out hT w6 HBw6.out) ?_
          rintro e m1 ⟨v1, rfl, hv1, hm1⟩
          obtain ⟨va, vc, ev, -⟩ := hv1.shape
          subst ev
          simp only [] at hv1 ⊢
          obtain ⟨vn, hvn⟩ : ∃ vn, vn = rs.length := ⟨_, rfl⟩
          rw [← hvn] at hv1 ⊢
          have HB2m : Hid (Below W2.heap.size W2 m1) := Below.thenOf HB6.out hm1 (HB6.out).size
          obtain ⟨M2, hM2⟩ : ∃ M2, M2 = m1.alloc (.cells #[.int .i64 k1, .int .i64 k2, .int .i64 k3, .slice va vn vc, .int .i64 k4] 38) := ⟨_, rfl⟩
          have hbM : Below m1.heap.size m1 M2 := by rw [hM2]; exact (Below.refl _ _).alloc (Nat.le_refl _) _
          have HBwM : Hid (Below w.heap.size w M2) := Below.thenOf (HG.out m1 HB2m.out).2.2 hbM (HG.out m1 HB2m.out).2.2.size
          have HSx' : Hid (Calls Tryz.prog 16 #[.agg #[.int .i64 k1, .int .i64 k2, .int .i64 k3, .slice va vn vc, .int .i64 k4], .agg #[.int .i64 k1, .int .i64 k2, .int .i64 k3, .slice a n1 c, .int .i64 k4]] M2 fun e w'' => e = .returned (.bool true) ∧ Below M2.heap.size M2 w'') := HSx.out M2 _ HBwM.out ((hv1.later hbM (Nat.le_refl _)).wide hbM.size)
          have HM2 : Hid (M2 = _) := hM2
          obtain ⟨gm, -, -⟩ := HG.out m1 HB2m.out
          obtain ⟨o0, o1, o2, o3, o4⟩ := rec_box gm
          have lm := lt_of_block gm
          clear hM2 hbM hv1 hvn hm1 gm
          go_wp2_with fail
          rw [← HM2.out]
          go_at_call 16
          refine Calls.mono HSx'.out ?_
          rintro e m3 ⟨rfl, hm3⟩
          have HBw3 : Hid (Below w.heap.size w m3) := Below.thenOf HBwM.out hm3 HBwM.out.size
          clear hm3 o0 o1 o2 o3 o4 lm
          go_wp2_with fail
          go_at_call 12
          refine Calls.mono (HPa.out m3 HBw3.out) ?_
          rintro e t1 ⟨xv, rfl, hx1, hbt1⟩
          obtain ⟨xa, xc, ex, -⟩ := hx1.shape
          subst ex
          simp only [] at hx1 ⊢
          obtain ⟨xn, hxn⟩ : ∃ xn, xn = xs.length := ⟨_, rfl⟩
          rw [← hxn] at hx1 ⊢
          have HBt1 : Hid (Below w.heap.size w t1) := Below.thenOf HBw3.out hbt1 (HBw3.out).size
          have HXt : Hid (RecAt t1.heap.size t1 (.agg #[.int .i64 x1, .int .i64 x2, .int .i64 x3, .slice xa xn xc, .int .i64 x4]) (x1, x2, x3, xs, x4)) := hx1
          clear hx1 hxn hbt1
          by_cases hG : G = 0
          · subst hG
            obtain ⟨T2, hT2⟩ : ∃ T2, T2 = t1.alloc (.cells #[.int .i64 x1, .int .i64 x2, .int .i64 x3, .slice xa xn xc, .int .i64 x4] 38) := ⟨_, rfl⟩
            have hbt2 : Below t1.heap.size t1 T2 := by rw [hT2]; exact (Below.refl _ _).alloc (Nat.le_refl _) _
            have HPx' : Hid (Calls Tryz.prog 11 #[.agg #[.int .i64 x1, .int .i64 x2, .int .i64 x3, .slice xa xn xc, .int .i64 x4]] T2 fun e w'' => e = .returned (.tuple #[.string s, .int .i64 0]) ∧ Below T2.heap.size T2 w'') := HPx.out T2 _ rfl (Below.thenOf HBt1.out hbt2 HBt1.out.size) ((HXt.out.later hbt2 (Nat.le_refl _)).wide hbt2.size)
            have HT2 : Hid (T2 = _) := hT2
            have HBt2 : Hid (Below w.heap.size w T2) := Below.thenOf HBt1.out hbt2 HBt1.out.size
            clear hT2 hbt2
            go_wp2_with fail
            rw [← HT2.out]
            go_at_call 11
            refine Calls.mono HPx'.out ?_
            rintro e t3 ⟨rfl, hbt3⟩
            go_wp2_with fail
            go_ret
            exact ⟨rfl, Below.thenOf HBt2.out hbt3 HBt2.out.size⟩
          · have hqG : (G != 0) = true := by simpa using hG
            clear hG
            go_wp2_with fail
            go_ret
            exact ⟨rfl, HBt1.out.alloc HBt1.out.size _⟩
        · have hT' : ¬ ((TT.size : Int) ≤ 60000) := by omega
          go_wp2_with fail
          go_at_call 12
          refine Calls.mono (HPa.out w6 HBw6.out) ?_
          rintro e t1 ⟨xv, rfl, hx1, hbt1⟩
          obtain ⟨xa, xc, ex, -⟩ := hx1.shape
          subst ex
          simp only [] at hx1 ⊢
          obtain ⟨xn, hxn⟩ : ∃ xn, xn = xs.length := ⟨_, rfl⟩
          rw [← hxn] at hx1 ⊢
          have HBt1 : Hid (Below w.heap.size w t1) := Below.thenOf HBw6.out hbt1 (HBw6.out).size
          have HXt : Hid (RecAt t1.heap.size t1 (.agg #[.int .i64 x1, .int .i64 x2, .int .i64 x3, .slice xa xn xc, .int .i64 x4]) (x1, x2, x3, xs, x4)) := hx1
          clear hx1 hxn hbt1
          by_cases hG : G = 0
          · subst hG
            obtain ⟨T2, hT2⟩ : ∃ T2, T2 = t1.alloc (.cells #[.int .i64 x1, .int .i64 x2, .int .i64 x3, .slice xa xn xc, .int .i64 x4] 38) := ⟨_, rfl⟩
            have hbt2 : Below t1.heap.size t1 T2 := by rw [hT2]; exact (Below.refl _ _).alloc (Nat.le_refl _) _
            have HPx' : Hid (Calls Tryz.prog 11 #[.agg #[.int .i64 x1, .int .i64 x2, .int .i64 x3, .slice xa xn xc, .int .i64 x4]] T2 fun e w'' => e = .returned (.tuple #[.string s, .int .i64 0]) ∧ Below T2.heap.size T2 w'') := HPx.out T2 _ rfl (Below.thenOf HBt1.out hbt2 HBt1.out.size) ((HXt.out.later hbt2 (Nat.le_refl _)).wide hbt2.size)
            have HT2 : Hid (T2 = _) := hT2
            have HBt2 : Hid (Below w.heap.size w T2) := Below.thenOf HBt1.out hbt2 HBt1.out.size
            clear hT2 hbt2
            go_wp2_with fail
            rw [← HT2.out]
            go_at_call 11
            refine Calls.mono HPx'.out ?_
            rintro e t3 ⟨rfl, hbt3⟩
            go_wp2_with fail
            go_ret
            exact ⟨rfl, Below.thenOf HBt2.out hbt3 HBt2.out.size⟩
          · have hqG : (G != 0) = true := by simpa using hG
            clear hG
            go_wp2_with fail
            go_ret
            exact ⟨rfl, HBt1.out.alloc HBt1.out.size _⟩
    · have hqF : (F == 0) = false := by simpa using hF
      clear hF HInj HTU HPr HPq gr5 gq5
      by_cases hT : TT.size ≤ 60000
      · have hT' : (TT.size : Int) ≤ 60000 := by omega
        go_wp2_with fail
        go_at_call 12
        refine Calls.mono (HBk0.out hT w5 HBw5.out) ?_
        rintro e m1 ⟨v1, rfl, hv1, hm1⟩
        obtain ⟨va, vc, ev, -⟩ := hv1.shape
        subst ev
        simp only [] at hv1 ⊢
        obtain ⟨vn, hvn⟩ : ∃ vn, vn = rs.length := ⟨_, rfl⟩
        rw [← hvn] at hv1 ⊢
        have HB2m : Hid (Below W2.heap.size W2 m1) := Below.thenOf HB25.out hm1 (HB25.out).size
        obtain ⟨M2, hM2⟩ : ∃ M2, M2 = m1.alloc (.cells #[.int .i64 k1, .int .i64 k2, .int .i64 k3, .slice va vn vc, .int .i64 k4] 38) := ⟨_, rfl⟩
        have hbM : Below m1.heap.size m1 M2 := by rw [hM2]; exact (Below.refl _ _).alloc (Nat.le_refl _) _
        have HBwM : Hid (Below w.heap.size w M2) := Below.thenOf (HG.out m1 HB2m.out).2.2 hbM (HG.out m1 HB2m.out).2.2.size
        have HSx' : Hid (Calls Tryz.prog 16 #[.agg #[.int .i64 k1, .int .i64 k2, .int .i64 k3, .slice va vn vc, .int .i64 k4], .agg #[.int .i64 k1, .int .i64 k2, .int .i64 k3, .slice a n1 c, .int .i64 k4]] M2 fun e w'' => e = .returned (.bool true) ∧ Below M2.heap.size M2 w'') := HSx.out M2 _ HBwM.out ((hv1.later hbM (Nat.le_refl _)).wide hbM.size)
        have HM2 : Hid (M2 = _) := hM2
        obtain ⟨gm, -, -⟩ := HG.out m1 HB2m.out
        obtain ⟨o0, o1, o2, o3, o4⟩ := rec_box gm
        have lm := lt_of_block gm
        clear hM2 hbM hv1 hvn hm1 gm
        go_wp2_with fail
        rw [← HM2.out]
        go_at_call 16
        refine Calls.mono HSx'.out ?_
        rintro e m3 ⟨rfl, hm3⟩
        have HBw3 : Hid (Below w.heap.size w m3) := Below.thenOf HBwM.out hm3 HBwM.out.size
        clear hm3 o0 o1 o2 o3 o4 lm
        go_wp2_with fail
        go_at_call 12
        refine Calls.mono (HPa.out m3 HBw3.out) ?_
        rintro e t1 ⟨xv, rfl, hx1, hbt1⟩
        obtain ⟨xa, xc, ex, -⟩ := hx1.shape
        subst ex
        simp only [] at hx1 ⊢
        obtain ⟨xn, hxn⟩ : ∃ xn, xn = xs.length := ⟨_, rfl⟩
        rw [← hxn] at hx1 ⊢
        have HBt1 : Hid (Below w.heap.size w t1) := Below.thenOf HBw3.out hbt1 (HBw3.out).size
        have HXt : Hid (RecAt t1.heap.size t1 (.agg #[.int .i64 x1, .int .i64 x2, .int .i64 x3, .slice xa xn xc, .int .i64 x4]) (x1, x2, x3, xs, x4)) := hx1
        clear hx1 hxn hbt1
        by_cases hG : G = 0
        · subst hG
          obtain ⟨T2, hT2⟩ : ∃ T2, T2 = t1.alloc (.cells #[.int .i64 x1, .int .i64 x2, .int .i64 x3, .slice xa xn xc, .int .i64 x4] 38) := ⟨_, rfl⟩
          have hbt2 : Below t1.heap.size t1 T2 := by rw [hT2]; exact (Below.refl _ _).alloc (Nat.le_refl _) _
          have HPx' : Hid (Calls Tryz.prog 11 #[.agg #[.int .i64 x1, .int .i64 x2, .int .i64 x3, .slice xa xn xc, .int .i64 x4]] T2 fun e w'' => e = .returned (.tuple #[.string s, .int .i64 0]) ∧ Below T2.heap.size T2 w'') := HPx.out T2 _ rfl (Below.thenOf HBt1.out hbt2 HBt1.out.size) ((HXt.out.later hbt2 (Nat.le_refl _)).wide hbt2.size)
          have HT2 : Hid (T2 = _) := hT2
          have HBt2 : Hid (Below w.heap.size w T2) := Below.thenOf HBt1.out hbt2 HBt1.out.size
          clear hT2 hbt2
          go_wp2_with fail
          rw [← HT2.out]
          go_at_call 11
          refine Calls.mono HPx'.out ?_
          rintro e t3 ⟨rfl, hbt3⟩
          go_wp2_with fail
          go_ret
          exact ⟨rfl, Below.thenOf HBt2.out hbt3 HBt2.out.size⟩
        · have hqG : (G != 0) = true := by simpa using hG
          clear hG
          go_wp2_with fail
          go_ret
          exact ⟨rfl, HBt1.out.alloc HBt1.out.size _⟩
      · have hT' : ¬ ((TT.size : Int) ≤ 60000) := by omega
        go_wp2_with fail
        go_at_call 12
        refine Calls.mono (HPa.out w5 HBw5.out) ?_
        rintro e t1 ⟨xv, rfl, hx1, hbt1⟩
        obtain ⟨xa, xc, ex, -⟩ := hx1.shape
        subst ex
        simp only [] at hx1 ⊢
        obtain ⟨xn, hxn⟩ : ∃ xn, xn = xs.length := ⟨_, rfl⟩
        rw [← hxn] at hx1 ⊢
        have HBt1 : Hid (Below w.heap.size w t1) := Below.thenOf HBw5.out hbt1 (HBw5.out).size
        have HXt : Hid (RecAt t1.heap.size t1 (.agg #[.int .i64 x1, .int .i64 x2, .int .i64 x3, .slice xa xn xc, .int .i64 x4]) (x1, x2, x3, xs, x4)) := hx1
        clear hx1 hxn hbt1
        by_cases hG : G = 0
        · subst hG
          obtain ⟨T2, hT2⟩ : ∃ T2, T2 = t1.alloc (.cells #[.int .i64 x1, .int .i64 x2, .int .i64 x3, .slice xa xn xc, .int .i64 x4] 38) := ⟨_, rfl⟩
          have hbt2 : Below t1.heap.size t1 T2 := by rw [hT2]; exact (Below.refl _ _).alloc (Nat.le_refl _) _
          have HPx' : Hid (Calls Tryz.prog 11 #[.agg #[.int .i64 x1, .int .i64 x2, .int .i64 x3, .slice xa xn xc, .int .i64 x4]] T2 fun e w'' => e = .returned (.tuple #[.string s, .int .i64 0]) ∧ Below T2.heap.size T2 w'') := HPx.out T2 _ rfl (Below.thenOf HBt1.out hbt2 HBt1.out.size) ((HXt.out.later hbt2 (Nat.le_refl _)).wide hbt2.size)
          have HT2 : Hid (T2 = _) := hT2
          have HBt2 : Hid (Below w.heap.size w T2) := Below.thenOf HBt1.out hbt2 HBt1.out.size
          clear hT2 hbt2
          go_wp2_with fail
          rw [← HT2.out]
          go_at_call 11
          refine Calls.mono HPx'.out ?_
          rintro e t3 ⟨rfl, hbt3⟩
          go_wp2_with fail
          go_ret
          exact ⟨rfl, Below.thenOf HBt2.out hbt3 HBt2.out.size⟩
        · have hqG : (G != 0) = true := by simpa using hG
          clear hG
          go_wp2_with fail
          go_ret
          exact ⟨rfl, HBt1.out.alloc HBt1.out.size _⟩
  · have hqE : (E == 0) = false := by simpa using hE
    clear hE HInj HBk HTU HPr HPq gr5 gq5
    go_wp2_with fail
    go_at_call 12
    refine Calls.mono (HPa.out w5 HBw5.out) ?_
    rintro e t1 ⟨xv, rfl, hx1, hbt1⟩
    obtain ⟨xa, xc, ex, -⟩ := hx1.shape
    subst ex
    simp only [] at hx1 ⊢
    obtain ⟨xn, hxn⟩ : ∃ xn, xn = xs.length := ⟨_, rfl⟩
    rw [← hxn] at hx1 ⊢
    have HBt1 : Hid (Below w.heap.size w t1) := Below.thenOf HBw5.out hbt1 (HBw5.out).size
    have HXt : Hid (RecAt t1.heap.size t1 (.agg #[.int .i64 x1, .int .i64 x2, .int .i64 x3, .slice xa xn xc, .int .i64 x4]) (x1, x2, x3, xs, x4)) := hx1
    clear hx1 hxn hbt1
    by_cases hG : G = 0
    · subst hG
      obtain ⟨T2, hT2⟩ : ∃ T2, T2 = t1.alloc (.cells #[.int .i64 x1, .int .i64 x2, .int .i64 x3, .slice xa xn xc, .int .i64 x4] 38) := ⟨_, rfl⟩
      have hbt2 : Below t1.heap.size t1 T2 := by rw [hT2]; exact (Below.refl _ _).alloc (Nat.le_refl _) _
      have HPx' : Hid (Calls Tryz.prog 11 #[.agg #[.int .i64 x1, .int .i64 x2, .int .i64 x3, .slice xa xn xc, .int .i64 x4]] T2 fun e w'' => e = .returned (.tuple #[.string s, .int .i64 0]) ∧ Below T2.heap.size T2 w'') := HPx.out T2 _ rfl (Below.thenOf HBt1.out hbt2 HBt1.out.size) ((HXt.out.later hbt2 (Nat.le_refl _)).wide hbt2.size)
      have HT2 : Hid (T2 = _) := hT2
      have HBt2 : Hid (Below w.heap.size w T2) := Below.thenOf HBt1.out hbt2 HBt1.out.size
      clear hT2 hbt2
      go_wp2_with fail
      rw [← HT2.out]
      go_at_call 11
      refine Calls.mono HPx'.out ?_
      rintro e t3 ⟨rfl, hbt3⟩
      go_wp2_with fail
      go_ret
      exact ⟨rfl, Below.thenOf HBt2.out hbt3 HBt2.out.size⟩
    · have hqG : (G != 0) = true := by simpa using hG
      clear hG
      go_wp2_with fail
      go_ret
      exact ⟨rfl, HBt1.out.alloc HBt1.out.size _⟩

end Go.Proofs.YthpllmhnpbigiacGreatDoor
