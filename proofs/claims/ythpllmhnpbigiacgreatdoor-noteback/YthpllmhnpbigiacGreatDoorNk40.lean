/- NoteSays, walked. -/
import Derived.Test.YthpllmhnpbigiacGreatDoorNk39
set_option linter.all false
set_option maxRecDepth 100000
namespace Go.Proofs.YthpllmhnpbigiacGreatDoor
open Go.RowKit Go.Maps

theorem RecAt.wide {B B' : Nat} {w : World} {v : Value} {r : RecT} (h : RecAt B w v r) (hB : B ≤ B') : RecAt B' w v r := by
  obtain ⟨rv, h1, h2, h3, h4, h5⟩ := h
  exact ⟨rv, h1, h2, h3, h4, polAt_wide h5 hB⟩

set_option maxHeartbeats 8000000 in
theorem noteSays_any (B : Nat) (rv qv : Value) (r q : RecT) (s : ByteArray) (w : World) (he : EnvT w) (hsp : Lib.TabIs Tryz.prog w "strings.asciiSpace" .u8 Lib.asciiSpaceTab) (hr : RecAt B w rv r) (hq : RecAt B w qv q) (hB : B ≤ w.heap.size) :
    Calls Tryz.prog 4 #[rv, qv, .string s] w fun e w' => e = .returned (.bool true) ∧ Below w.heap.size w w' := by
  have HE : Hid (∀ w', Below w.heap.size w w' → EnvT w' ∧ Lib.TabIs Tryz.prog w' "strings.asciiSpace" .u8 Lib.asciiSpaceTab) := fun w' h => ⟨he.later h, tab_later hsp h⟩
  have HPr : Hid (∀ w', Below w.heap.size w w' → Calls Tryz.prog 11 #[rv] w' fun e w'' => e = .returned (.tuple #[.string (bsB (printT r)), .int .i64 (recErr r)]) ∧ Below w'.heap.size w' w'') := fun w' h => printN_any B rv r w' (he.later h) (hr.later h hB) (Nat.le_trans hB h.size)
  have HTx : Hid (∀ w', Below w.heap.size w w' → Calls Tryz.prog 13 #[rv] w' fun e w'' => e = .returned (.tuple #[.string (bsB (printT r)), .int .i64 (recErr r)]) ∧ Below w'.heap.size w' w'') := fun w' h => recText_any B rv r w' (he.later h) (tab_later hsp h) (hr.later h hB) (Nat.le_trans hB h.size)
  have HCk : Hid (∀ w', Below w.heap.size w w' → Calls Tryz.prog 15 #[rv] w' fun e w'' => e = .returned (.int .i64 (recErr r)) ∧ Below w'.heap.size w' w'') := fun w' h => checkN_any B rv r w' (hr.later h hB) (Nat.le_trans hB h.size)
  have HSm : Hid (∀ w', Below w.heap.size w w' → Calls Tryz.prog 16 #[rv, qv] w' fun e w'' => e = .returned (.bool (decide (r = q))) ∧ Below w'.heap.size w' w'') := fun w' h => sameN_any B rv qv r q w' (hr.later h hB) (hq.later h hB) (Nat.le_trans hB h.size)
  have HSr : Hid (∀ w', Below w.heap.size w w' → Calls Tryz.prog 17 #[rv, qv] w' fun e w'' => e = .returned (.bool (decide (r = q))) ∧ Below w'.heap.size w' w'') := fun w' h => sameRec_any B rv qv r q w' (hr.later h hB) (hq.later h hB) (Nat.le_trans hB h.size)
  have HNo : Hid (∀ w', Below w.heap.size w w' → Calls Tryz.prog 14 #[] w' fun e w'' => e = .returned (.bool true) ∧ Below w'.heap.size w' w'') := fun w' h => noted_true w' (he.later h)
  have HPa : Hid (∀ w', Below w.heap.size w w' → Calls Tryz.prog 12 #[.string s] w' fun e w'' => ∃ v, e = .returned (.tuple #[v, .int .i64 (recParse s.data.toList).2]) ∧ RecAt w''.heap.size w'' v (recParse s.data.toList).1 ∧ Below w'.heap.size w' w'') := fun w' h => parseN_any s w' (he.later h)
  have HRd : Hid (s.size ≤ 60000 → ∀ w', Below w.heap.size w w' → Calls Tryz.prog 18 #[.string s] w' fun e w'' => ∃ v, e = .returned (.tuple #[v, .int .i64 (recOf s.data.toList).2]) ∧ RecAt w''.heap.size w'' v (recOf s.data.toList).1 ∧ Below w'.heap.size w' w'') := fun hl w' h => recRead_any s hl w' (he.later h)
  have HBig : Hid (60000 < s.size → recParse s.data.toList = (zeroRec, 2)) := fun h => by unfold recParse; rw [if_pos (by rw [← Lib.size_eq]; exact h)]
  have HSml : Hid (s.size ≤ 60000 → recParse s.data.toList = recOf s.data.toList) := fun h => by unfold recParse; rw [if_neg (by rw [← Lib.size_eq]; omega)]
  obtain ⟨XF, hXF⟩ : ∃ XF, XF = recParse s.data.toList := ⟨_, rfl⟩
  rw [← hXF] at HPa HBig HSml
  clear hXF
  obtain ⟨⟨x1, x2, x3, xs, x4⟩, F⟩ := XF
  simp only [] at HPa
  obtain ⟨a, c, e1, -⟩ := hr.shape
  obtain ⟨a2, c2, e2, -⟩ := hq.shape
  subst e1 e2
  clear he hsp hr hq
  obtain ⟨E, hE⟩ : ∃ E, E = recErr r := ⟨_, rfl⟩
  obtain ⟨TT, hTT⟩ : ∃ TT, TT = bsB (printT r) := ⟨_, rfl⟩
  obtain ⟨dq, hdq⟩ : ∃ dq, dq = decide (r = q) := ⟨_, rfl⟩
  rw [← hE] at HPr HTx HCk
  rw [← hTT] at HPr HTx
  rw [← hdq] at HSm HSr
  clear hE hTT hdq
  obtain ⟨k1, k2, k3, rs, k4⟩ := r
  obtain ⟨j1, j2, j3, ss, j4⟩ := q
  simp only [] at HPr HTx HCk HSm HSr ⊢
  generalize rs.length = n1 at *
  generalize ss.length = n2 at *
  obtain ⟨W2, hW2⟩ : ∃ W2, W2 = (w.alloc (.cells #[.int .i64 k1, .int .i64 k2, .int .i64 k3, .slice a n1 c, .int .i64 k4] 38)).alloc (.cells #[.int .i64 j1, .int .i64 j2, .int .i64 j3, .slice a2 n2 c2, .int .i64 j4] 38) := ⟨_, rfl⟩
  have hb2 : Below w.heap.size w W2 := by rw [hW2]; exact ((Below.refl _ _).alloc (Nat.le_refl _) _).alloc (by simp) _
  have hs2 : W2.heap.size = w.heap.size + 1 + 1 := by rw [hW2]; simp
  have HG : Hid (∀ v, Below W2.heap.size W2 v → v.heap[w.heap.size]? = some (.cells #[.int .i64 k1, .int .i64 k2, .int .i64 k3, .slice a n1 c, .int .i64 k4] 38 (0, 0)) ∧ v.heap[w.heap.size + 1]? = some (.cells #[.int .i64 j1, .int .i64 j2, .int .i64 j3, .slice a2 n2 c2, .int .i64 j4] 38 (0, 0)) ∧ Below w.heap.size w v) := by
    intro v h
    have e0 : W2.heap[w.heap.size]? = some (.cells #[.int .i64 k1, .int .i64 k2, .int .i64 k3, .slice a n1 c, .int .i64 k4] 38 (0, 0)) := by rw [hW2]; exact (Below.heap_alloc _ _ _ (by simp)).trans (heap_made _ _)
    have e1 : W2.heap[w.heap.size + 1]? = some (.cells #[.int .i64 j1, .int .i64 j2, .int .i64 j3, .slice a2 n2 c2, .int .i64 j4] 38 (0, 0)) := by
      have := heap_made (w.alloc (.cells #[.int .i64 k1, .int .i64 k2, .int .i64 k3, .slice a n1 c, .int .i64 k4] 38)) (.cells #[.int .i64 j1, .int .i64 j2, .int .i64 j3, .slice a2 n2 c2, .int .i64 j4] 38)
      rw [World.size_alloc] at this
      rw [hW2]
      exact this
    exact ⟨(h.block _ (by omega)).trans e0, (h.block _ (by omega)).trans e1, Below.thenOf hb2 h hb2.size⟩
  have HW2 : Hid (W2 = _) := hW2
  clear hW2
  go_enter Tryz.func4, Tryz.ntmps4
  go_wp2_with fail
  rw [← HW2.out]
  go_at_call 11
  refine Calls.mono (HPr.out W2 hb2) ?_
  rintro e w3 ⟨rfl, hb3⟩
  obtain ⟨-, -, hbw3⟩ := HG.out w3 hb3
  go_wp2_with fail
  go_at_call 12
  refine Calls.mono (HPa.out w3 hbw3) ?_
  rintro e w4 ⟨xv, rfl, hx4, hb4⟩
  have hb24 : Below W2.heap.size W2 w4 := Below.thenOf hb3 hb4 hb3.size
  obtain ⟨xa, xc, ex, -⟩ := hx4.shape
  subst ex
  simp only [] at hx4 ⊢
  obtain ⟨xn, hxn⟩ : ∃ xn, xn = xs.length := ⟨_, rfl⟩
  rw [← hxn] at hx4 ⊢
  have HX4 : Hid (RecAt w4.heap.size w4 (.agg #[.int .i64 x1, .int .i64 x2, .int .i64 x3, .slice xa xn xc, .int .i64 x4]) (x1, x2, x3, xs, x4)) := hx4
  clear hx4 hxn
  obtain ⟨gr4, -, -⟩ := HG.out w4 hb24
  obtain ⟨y0, y1, y2, y3, y4⟩ := rec_box gr4
  have l4 := lt_of_block gr4
  clear gr4
  obtain ⟨W5, hW5⟩ : ∃ W5, W5 = w4.alloc (.cells #[.int .i64 x1, .int .i64 x2, .int .i64 x3, .slice xa xn xc, .int .i64 x4] 38) := ⟨_, rfl⟩
  have hb5 : Below w4.heap.size w4 W5 := by rw [hW5]; exact (Below.refl _ _).alloc (Nat.le_refl _) _
  have g5 : W5.heap[w4.heap.size]? = some (.cells #[.int .i64 x1, .int .i64 x2, .int .i64 x3, .slice xa xn xc, .int .i64 x4] 38 (0, 0)) := by rw [hW5]; exact heap_made _ _
  have hb25 : Below W2.heap.size W2 W5 := Below.thenOf hb24 hb5 hb24.size
  have HX5 : Hid (∀ v, Below W5.heap.size W5 v → v.heap[w4.heap.size]? = some (.cells #[.int .i64 x1, .int .i64 x2, .int .i64 x3, .slice xa xn xc, .int .i64 x4] 38 (0, 0)) ∧ RecAt v.heap.size v (.agg #[.int .i64 x1, .int .i64 x2, .int .i64 x3, .slice xa xn xc, .int .i64 x4]) (x1, x2, x3, xs, x4) ∧ Below W2.heap.size W2 v) := fun v h => ⟨(h.block _ (lt_of_block g5)).trans g5, (HX4.out.later (Below.thenOf hb5 h hb5.size) (Nat.le_refl _)).wide (Nat.le_trans hb5.size h.size), Below.thenOf hb25 h hb25.size⟩
  have HW5 : Hid (W5 = _) := hW5
  obtain ⟨-, -, hbw5⟩ := HG.out W5 hb25
  clear hW5 g5 hb5 hb24 hb4 hb3 hbw3 hb25 HX4
  go_wp2_with fail
  rw [← HW5.out]
  go_at_call 13
  refine Calls.mono (HTx.out W5 hbw5) ?_
  rintro e w6 ⟨rfl, hb6⟩
  clear y0 y1 y2 y3 y4 l4
  obtain ⟨gx, -, hb26⟩ := HX5.out w6 hb6
  obtain ⟨gr, gq, hbw6⟩ := HG.out w6 hb26
  obtain ⟨r0, r1, r2, r3, r4⟩ := rec_box gr
  obtain ⟨p0, p1, p2, p3, p4⟩ := rec_box gq
  have lr := lt_of_block gr
  have lq := lt_of_block gq
  have hne := Later.ne w6
  have z0 : ∀ y : Later w6, y.1.cell? ⟨w.heap.size, 0, none⟩ = some (.int .i64 k1) := fun y => y.cell r0 lr
  have z1 : ∀ y : Later w6, y.1.cell? ⟨w.heap.size, 1, none⟩ = some (.int .i64 k2) := fun y => y.cell r1 lr
  have z2 : ∀ y : Later w6, y.1.cell? ⟨w.heap.size, 2, none⟩ = some (.int .i64 k3) := fun y => y.cell r2 lr
  have z3 : ∀ y : Later w6, y.1.cell? ⟨w.heap.size, 3, none⟩ = some (.slice a n1 c) := fun y => y.cell r3 lr
  have z4 : ∀ y : Later w6, y.1.cell? ⟨w.heap.size, 4, none⟩ = some (.int .i64 k4) := fun y => y.cell r4 lr
  have z5 : ∀ y : Later w6, y.1.cell? ⟨w.heap.size + 1, 0, none⟩ = some (.int .i64 j1) := fun y => y.cell p0 lq
  have z6 : ∀ y : Later w6, y.1.cell? ⟨w.heap.size + 1, 1, none⟩ = some (.int .i64 j2) := fun y => y.cell p1 lq
  have z7 : ∀ y : Later w6, y.1.cell? ⟨w.heap.size + 1, 2, none⟩ = some (.int .i64 j3) := fun y => y.cell p2 lq
  have z8 : ∀ y : Later w6, y.1.cell? ⟨w.heap.size + 1, 3, none⟩ = some (.slice a2 n2 c2) := fun y => y.cell p3 lq
  have z9 : ∀ y : Later w6, y.1.cell? ⟨w.heap.size + 1, 4, none⟩ = some (.int .i64 j4) := fun y => y.cell p4 lq
  have HLw : Hid (∀ y : Later w6, Below w.heap.size w y.1) := fun y => Below.thenOf hbw6 y.2 hbw6.size
  clear r0 r1 r2 r3 r4 p0 p1 p2 p3 p4 gr gq gx lr lq
  go_wp2_with fail
  refine wp_region_later (by kernel_rfl) (by kernel_rfl) ?_
  repeat (go_big_quiet_step (first
    | (go_at_call 14; exact Calls.later (HNo.out _ (HLw.out _)))
    | (go_at_call 15; exact Calls.later (HCk.out _ (HLw.out _)))
    | (go_at_call 16; exact Calls.later (HSm.out _ (HLw.out _)))
    | (go_at_call 17; exact Calls.later (HSr.out _ (HLw.out _)))))
  refine wpQuiet_nil ?_
  rintro w7 ⟨⟨_, hb7⟩, rfl⟩
  clear z0 z1 z2 z3 z4 z5 z6 z7 z8 z9 hne HLw
  obtain ⟨gx7, hX7, hb27⟩ := HX5.out w7 (Below.thenOf hb6 hb7 hb6.size)
  obtain ⟨-, -, hbw7⟩ := HG.out w7 hb27
  obtain ⟨t0, t1, t2, t3, t4⟩ := rec_box gx7
  have lx := lt_of_block gx7
  have HX7 : Hid (RecAt w7.heap.size w7 (.agg #[.int .i64 x1, .int .i64 x2, .int .i64 x3, .slice xa xn xc, .int .i64 x4]) (x1, x2, x3, xs, x4)) := hX7
  clear hX7 hb6 hb7 hb26 hbw6
  by_cases hbig : 60000 < s.size
  · have hbig' : (60000 : Int) < (s.size : Int) := by omega
    have hz := HBig.out hbig
    have HF2 : Hid (F = 2) := congrArg Prod.snd hz
    have HSa : Hid (Calls Tryz.prog 17 #[.agg #[.int .i64 x1, .int .i64 x2, .int .i64 x3, .slice xa xn xc, .int .i64 x4], .agg #[.int .i64 0, .int .i64 0, .int .i64 0, .slice none 0 0, .int .i64 0]] w7 fun e w'' => e = .returned (.bool true) ∧ Below w7.heap.size w7 w'') := by
      have h := sameRec_any _ _ _ _ zeroRec w7 HX7.out (recAt_zero _ _) (Nat.le_refl _)
      have e : ((x1, x2, x3, xs, x4) : RecT) = zeroRec := congrArg Prod.fst hz
      rw [decide_eq_true e] at h
      exact h
    obtain rfl : F = 2 := HF2.out
    clear hz HF2 HBig HSml HRd hbig
    go_wp2_with fail
    go_at_call 17
    refine Calls.mono HSa.out ?_
    rintro e w8 ⟨rfl, hb8⟩
    go_wp2_with fail
    go_ret
    exact ⟨rfl, Below.thenOf hbw7 hb8 hbw7.size⟩
  · have hbig' : ¬ ((60000 : Int) < (s.size : Int)) := by omega
    have HEq : Hid (recOf s.data.toList = ((x1, x2, x3, xs, x4), F)) := (HSml.out (by omega)).symm
    have HRd' : Hid (Calls Tryz.prog 18 #[.string s] w7 fun e w'' => ∃ v, e = .returned (.tuple #[v, .int .i64 F]) ∧ RecAt w''.heap.size w'' v (x1, x2, x3, xs, x4) ∧ Below w7.heap.size w7 w'') := by
      have h := HRd.out (by omega) w7 hbw7
      rw [HEq.out] at h
      exact h
    clear HRd HBig HSml hbig
    go_wp2_with fail
    go_at_call 18
    refine Calls.mono HRd'.out ?_
    rintro e w8 ⟨v8, rfl, hv8, hb8⟩
    obtain ⟨va, vc, ev, -⟩ := hv8.shape
    subst ev
    simp only [] at hv8 ⊢
    obtain ⟨vn, hvn⟩ : ∃ vn, vn = xs.length := ⟨_, rfl⟩
    rw [← hvn] at hv8 ⊢
    clear hvn
    obtain ⟨W9, hW9⟩ : ∃ W9, W9 = w8.alloc (.cells #[.int .i64 x1, .int .i64 x2, .int .i64 x3, .slice va vn vc, .int .i64 x4] 38) := ⟨_, rfl⟩
    have hb9 : Below w8.heap.size w8 W9 := by rw [hW9]; exact (Below.refl _ _).alloc (Nat.le_refl _) _
    have hb79 : Below w7.heap.size w7 W9 := Below.thenOf hb8 hb9 hb8.size
    have HSa : Hid (Calls Tryz.prog 17 #[.agg #[.int .i64 x1, .int .i64 x2, .int .i64 x3, .slice xa xn xc, .int .i64 x4], .agg #[.int .i64 x1, .int .i64 x2, .int .i64 x3, .slice va vn vc, .int .i64 x4]] W9 fun e w'' => e = .returned (.bool true) ∧ Below W9.heap.size W9 w'') := by
      have h := sameRec_any W9.heap.size _ _ (x1, x2, x3, xs, x4) (x1, x2, x3, xs, x4) W9 ((HX7.out.later hb79 (Nat.le_refl _)).wide hb79.size) ((hv8.later hb9 (Nat.le_refl _)).wide hb9.size) (Nat.le_refl _)
      rw [decide_eq_true rfl] at h
      exact h
    have gx8 := (hb8.block _ lx).trans gx7
    obtain ⟨m0, m1, m2, m3, m4⟩ := rec_box gx8
    have lx8 := lt_of_block gx8
    have HW9 : Hid (W9 = _) := hW9
    have HB9 : Hid (Below w.heap.size w W9) := Below.thenOf hbw7 hb79 hbw7.size
    clear hW9 hb9 hb79 hv8 gx8 gx7 t0 t1 t2 t3 t4 hb8
    go_wp2_with fail
    rw [← HW9.out]
    go_at_call 17
    refine Calls.mono HSa.out ?_
    rintro e w10 ⟨rfl, hb10⟩
    go_wp2_with fail
    go_ret
    exact ⟨rfl, Below.thenOf HB9.out hb10 HB9.out.size⟩
end Go.Proofs.YthpllmhnpbigiacGreatDoor
