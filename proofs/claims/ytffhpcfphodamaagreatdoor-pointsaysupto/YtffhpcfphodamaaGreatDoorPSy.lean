/- PointSays returns true, whatever the policies, the field and the call, in whatever memory. -/
import Derived.Test.YtffhpcfphodamaaGreatDoorCutt
set_option linter.all false
set_option maxRecDepth 100000
namespace Go.Proofs.YtffhpcfphodamaaGreatDoor
open Go.RowKit Go.Maps

set_option maxHeartbeats 16000000 in
theorem pointSays_any (B : Nat) (lv : Value) (ps : List PolT) (f : Int) (x : Nat → Int) (w : World) (he : EnvAt w) (hl : PolsAt B w lv ps) (hf : wf f) (hB : B ≤ w.heap.size) (hn : ps.length ≤ 5000000000) :
    Calls Tryz.prog 3 #[lv, .int .i64 f, callV x] w fun e w' => e = .returned (.bool true) ∧ Below w.heap.size w w' := by
  have HCu : Hid (∀ w', Below w.heap.size w w' → Calls Tryz.prog 5 #[lv, .int .i64 f] w' fun e w'' => ∃ v, e = .returned (.tuple #[v, .int .i64 (cutsE ps f)]) ∧ IntsAt w''.heap.size w'' v (cutsL ps f) ∧ Below w'.heap.size w' w'') := fun w' h => cutsD_any B lv ps f hf w' (hl.later h hB) (Nat.le_trans hB h.size) hn
  have HPt : Hid (∀ w', Below w.heap.size w w' → Calls Tryz.prog 6 #[lv] w' fun e w'' => ∃ v, e = .returned (.tuple #[v, .int .i64 (pointsE ps)]) ∧ CallsAt w''.heap.size w'' v ((pointsL ps).map asC) ∧ Below w'.heap.size w' w'') := fun w' h => pointsD_any B lv ps w' (hl.later h hB) (Nat.le_trans hB h.size) hn
  have HHo : Hid (∀ w', Below w.heap.size w w' → Calls Tryz.prog 7 #[lv, callV x] w' fun e w'' => e = .returned (.tuple #[callV (homeC ps x), .int .i64 (homeE ps x)]) ∧ Below w'.heap.size w' w'') := fun w' h => homeD_any B lv ps x w' (hl.later h hB) (Nat.le_trans hB h.size) hn
  have HPo : Hid (∀ w', Below w.heap.size w w' → Calls Tryz.prog 8 #[lv] w' fun e w'' => ∃ v, e = .returned (.tuple #[v, .int .i64 (pointsE ps)]) ∧ w''.ownsRow w'.heap.size 24 5 v (pointsL ps).length (callCells (pointsL ps)) ∧ Below w'.heap.size w' w'') := fun w' h => pointsOf_any B lv ps w' (hl.later h hB) (Nat.le_trans hB h.size) hn
  have HCA : Hid (∀ w', Below w.heap.size w w' → Calls Tryz.prog 9 #[lv] w' fun e w'' => e = .returned (.int .i64 (polsErr ps)) ∧ Below w'.heap.size w' w'') := fun w' h => checkAll_any B lv ps w' (hl.later h hB) (Nat.le_trans hB h.size)
  have HCO : Hid (AllOk ps → ∀ w', Below w.heap.size w w' → Calls Tryz.prog 14 #[lv, .int .i64 f] w' fun e w'' => ∃ v, e = .returned v ∧ w''.ownsRow w'.heap.size 3 1 v (cutsP ps f).length ((cutsP ps f).map (.int .i64)) ∧ Below w'.heap.size w' w'') := fun hok w' h => cutsOf_any B lv ps f hf w' (hl.later h hB) hok (Nat.le_trans hB h.size) hn
  have HHO : Hid (AllOk ps → ∀ w', Below w.heap.size w w' → Calls Tryz.prog 15 #[lv, callV x] w' fun e w'' => e = .returned (callV (homeP ps x)) ∧ Below w'.heap.size w' w'') := fun hok w' h => homeOf_any B lv ps x w' (hl.later h hB) hok (Nat.le_trans hB h.size) hn
  have HCt : Hid (∀ w', Below w.heap.size w w' → Calls Tryz.prog 10 #[] w' fun e w'' => e = .returned (.bool true) ∧ Below w'.heap.size w' w'') := fun w' h => cut_true w' (he.later h)
  have HCC : Hid (∀ w', Calls Tryz.prog 12 #[.agg #[.int .i64 (x 0), .int .i64 (x 1), .int .i64 (x 2), .int .i64 (x 3), .int .i64 (x 4)]] w' fun e w'' => e = .returned (.int .i64 (chkx x)) ∧ Below w'.heap.size w' w'') := fun w' => checkCall_any (x 0) (x 1) (x 2) (x 3) (x 4) w'
  obtain ⟨a, cap, rfl, -, -, -⟩ := hl
  generalize ps.length = len at *
  clear he hf hn
  have hA : Hid (∀ (W : World) X, Below W.heap.size W (W.alloc X)) := fun W X => (Below.refl _ _).alloc (Nat.le_refl _) _
  unfold callV at HHo HHO ⊢
  have HX0 : Hid (∀ w', Below (w.heap.size + 1) (w.alloc (.cells (cellsX x) 24)) w' → XAt w' w.heap.size x) := fun w' h => (cellsX_at ((h.block w.heap.size (by omega)).trans (heap_made w _))).1
  go_enter Tryz.func3, Tryz.ntmps3
  go_wp2_with fail
  go_at_call 5
  refine Calls.mono (HCu.out _ (hA.out _ _)) ?_
  rintro e w1 ⟨cv, rfl, hI1, hb1⟩
  have HI1 : Hid (IntsAt w1.heap.size w1 cv (cutsL ps f)) := hI1
  obtain ⟨ac, cc, rfl, -⟩ := hI1
  have hB1 : Below (w.heap.size + 1) (w.alloc (.cells (cellsX x) 24)) w1 := by rw [World.size_alloc] at hb1; exact hb1
  have bw1 : Below w.heap.size w w1 := Below.thenOf (hA.out _ _) hb1 (by simp)
  have s1 := hB1.size
  simp at s1
  clear hb1
  go_wp2_with fail
  go_at_call 6
  refine Calls.mono (HPt.out _ bw1) ?_
  rintro e w2 ⟨pv, rfl, hI2, hb2⟩
  have HI2 : Hid (CallsAt w2.heap.size w2 pv ((pointsL ps).map asC)) := hI2
  have bw2 : Below w.heap.size w w2 := Below.thenOf bw1 hb2 bw1.size
  have hB2 := Below.thenOf hB1 hb2 (by omega)
  have X2 := HX0.out _ hB2
  have x0 := X2 0 (by omega)
  have x1 := X2 1 (by omega)
  have x2 := X2 2 (by omega)
  have x3 := X2 3 (by omega)
  have x4 := X2 4 (by omega)
  have s2 := hb2.size
  clear hI2 X2
  have b12 := hb2
  clear hb2
  go_wp2_with fail
  go_at_call 7
  refine Calls.mono (HHo.out _ bw2) ?_
  rintro e w3 ⟨rfl, hb3⟩
  have bw3 : Below w.heap.size w w3 := Below.thenOf bw2 hb3 bw2.size
  have s3 := hb3.size
  clear x0 x1 x2 x3 x4
  obtain ⟨W4, hW4⟩ : ∃ W4, W4 = w3.alloc (.cells (cellsX (homeC ps x)) 24) := ⟨_, rfl⟩
  have b34 : Below w3.heap.size w3 W4 := by rw [hW4]; exact hA.out _ _
  have hH4 : Hid (W4.heap[w3.heap.size]? = some (.cells (cellsX (homeC ps x)) 24 (0, 0))) := by rw [hW4]; exact heap_made _ _
  have s34 : w3.heap.size < W4.heap.size := lt_of_block hH4.out
  have bw4 : Below w.heap.size w W4 := Below.thenOf bw3 b34 bw3.size
  unfold cellsX at hW4
  go_wp2_with fail
  rw [← hW4]
  clear hW4
  go_at_call 8
  refine Calls.mono (HPo.out _ bw4) ?_
  rintro e w5 ⟨Pv, rfl, ho5, hb5⟩
  have HI5 : Hid (CallsAt w5.heap.size w5 Pv ((pointsL ps).map asC)) := callsAt_own (pointsL_five ps) ho5
  have bw5 : Below w.heap.size w w5 := Below.thenOf bw4 hb5 bw4.size
  have b25 : Below w2.heap.size w2 w5 := Below.thenOf (Below.thenOf hb3 b34 hb3.size) hb5 (by have := hb3.size; omega)
  have hH5 : Hid (w5.heap[w3.heap.size]? = some (.cells (cellsX (homeC ps x)) 24 (0, 0))) := (hb5.block _ s34).trans hH4.out
  have s5 := hb5.size
  clear ho5 hH4
  have b45 := hb5
  clear hb5
  go_wp2_with fail
  go_at_call 9
  refine Calls.mono (HCA.out _ bw5) ?_
  rintro e w6 ⟨rfl, hb6⟩
  have bw6 : Below w.heap.size w w6 := Below.thenOf bw5 hb6 bw5.size
  have s6 := hb6.size
  go_wp2_with fail
  go_at_call 10
  refine Calls.mono (HCt.out _ bw6) ?_
  rintro e w7 ⟨rfl, hb7⟩
  have bw7 : Below w.heap.size w w7 := Below.thenOf bw6 hb7 bw6.size
  have b57 : Below w5.heap.size w5 w7 := Below.thenOf hb6 hb7 hb6.size
  have b27 : Below w2.heap.size w2 w7 := Below.thenOf b25 b57 b25.size
  have s7 := hb7.size
  have s27 := b27.size
  clear hb6 hb7
  have HEq : Hid _ := equalCalls_any w7.heap.size pv Pv _ _ w7 (by
    obtain ⟨a', c', h1, h2, h3, h4⟩ := HI2.out.later b27 (Nat.le_refl _)
    exact ⟨a', c', h1, h2, h3, fun i c hc => by obtain ⟨b', o', e1, e2, e3⟩ := h4 i c hc; exact ⟨b', o', e1, by omega, e3⟩⟩) (by
    obtain ⟨a', c', h1, h2, h3, h4⟩ := HI5.out.later b57 (Nat.le_refl _)
    exact ⟨a', c', h1, h2, h3, fun i c hc => by obtain ⟨b', o', e1, e2, e3⟩ := h4 i c hc; have := b57.size; exact ⟨b', o', e1, by omega, e3⟩⟩) (Nat.le_refl _)
  go_wp2_with fail
  go_at_call 11
  refine Calls.mono HEq.out ?_
  rintro e w8 ⟨rfl, hb8⟩
  have bw8 : Below w.heap.size w w8 := Below.thenOf bw7 hb8 bw7.size
  have b58 : Below w5.heap.size w5 w8 := Below.thenOf b57 hb8 b57.size
  have b18 : Below w1.heap.size w1 w8 := Below.thenOf b12 (Below.thenOf b27 hb8 b27.size) b12.size
  have hH8 : Hid (w8.heap[w3.heap.size]? = some (.cells (cellsX (homeC ps x)) 24 (0, 0))) := (b58.block _ (by omega)).trans hH5.out
  have hB8 : Below (w.heap.size + 1) (w.alloc (.cells (cellsX x) 24)) w8 := Below.thenOf hB1 b18 (by omega)
  have X8 := HX0.out _ hB8
  have x0 := X8 0 (by omega)
  have x1 := X8 1 (by omega)
  have x2 := X8 2 (by omega)
  have x3 := X8 3 (by omega)
  have x4 := X8 4 (by omega)
  have s8 := hb8.size
  clear HEq hb8 X8 HI2 HI5 hH5 b57 b27 b25 HPt HPo HCt HCA
  go_wp2_with fail
  go_at_call 12
  refine Calls.mono (HCC.out _) ?_
  rintro e w9 ⟨rfl, hb9⟩
  have bw9 : Below w.heap.size w w9 := Below.thenOf bw8 hb9 bw8.size
  have hH9 : Hid (w9.heap[w3.heap.size]? = some (.cells (cellsX (homeC ps x)) 24 (0, 0))) := (hb9.block _ (by omega)).trans hH8.out
  have b19 : Below w1.heap.size w1 w9 := Below.thenOf b18 hb9 b18.size
  have hB9 : Below (w.heap.size + 1) (w.alloc (.cells (cellsX x) 24)) w9 := Below.thenOf hB8 hb9 (by omega)
  have s9 := hb9.size
  clear x0 x1 x2 x3 x4 hb9 hH8 b18 b58
  have E0 : ∀ w, (Op.equalIn 10000 24 (.agg #[.int .i64 0, .int .i64 0, .int .i64 0, .int .i64 0, .int .i64 0]) (.agg #[.int .i64 0, .int .i64 0, .int .i64 0, .int .i64 0, .int .i64 0])).run Tryz.prog w = .ok true w := fun w => eqCall 9998 0 0 0 0 0 0 0 0 0 0 w
  have G := guardCall
  by_cases hpe : polsErr ps = 0
  case pos =>
    have hok := polsErr_ok.1 hpe
    have HCOk : Hid _ := HCO.out hok
    have HHOk : Hid _ := HHO.out hok
    have hHE : homeE ps x = chkx x := by
      unfold homeE
      by_cases h : chkx x = 0
      · rw [if_pos h, hpe, h]
      · rw [if_neg h]
    rw [hpe, hHE]
    by_cases hfr : 0 ≤ f ∧ f < 5
    case pos =>
      have e1 : cutsE ps f = 0 := by rw [cutsE, if_pos hpe, if_pos hfr]
      have e2 : cutsL ps f = cutsP ps f := by rw [cutsL, if_pos e1]
      rw [e1, e2]
      rw [e2] at HI1
      obtain ⟨fr0, fr1⟩ := hfr
      have fr2 : ¬ f < 0 := by omega
      have fr3 : ¬ 4 < f := by omega
      have HIc : Hid (IntsAt w1.heap.size w9 (.slice ac (cutsP ps f).length cc) (cutsP ps f)) := IntsAt.later HI1.out b19 (Nat.le_refl _)
      clear e1 e2 HCO HHO HI1
      have HL9 : Hid ((cutsP ps f).length = (cutsP ps f).length) := rfl
      generalize hcl : (cutsP ps f).length = cl at HIc ⊢
      clear hcl
      by_cases hx : chkx x = 0
      case pos =>
        have HCh : Hid (homeC ps x = homeP ps x) := by unfold Hid; rw [homeC, if_pos (by rw [hHE, hx])]
        rw [hx]
        clear hx hHE hpe hok
        go_wp2_with fail
        go_at_call 14
        refine Calls.mono (HCOk.out _ bw9) ?_
        rintro e w10 ⟨v10, rfl, ho10, hb10⟩
        have HIq : Hid _ := equalInts_any w10.heap.size (.slice ac cl cc) v10 _ _ w10 ((IntsAt.later HIc.out hb10 (by have := b19.size; omega)).mono (by have := hb10.size; have := b19.size; omega)) (intsAt_own ho10) (Nat.le_refl _)
        have s10 := hb10.size
        go_wp2_with fail
        go_at_call 13
        refine Calls.mono HIq.out ?_
        rintro e w11 ⟨rfl, hb11⟩
        have b911 := Below.thenOf hb10 hb11 hb10.size
        have bw11 : Below w.heap.size w w11 := Below.thenOf bw9 b911 bw9.size
        have hH11 : Hid (w11.heap[w3.heap.size]? = some (.cells (cellsX (homeC ps x)) 24 (0, 0))) := (b911.block _ (by omega)).trans hH9.out
        have hB11 : Below (w.heap.size + 1) (w.alloc (.cells (cellsX x) 24)) w11 := Below.thenOf hB9 b911 (by omega)
        have s11 := hb11.size
        clear HIq ho10 hb10 hb11 b911
        have hZ := (cellsX_at hH11.out).1
        have h0 := hZ 0 (by omega)
        have h1 := hZ 1 (by omega)
        have h2 := hZ 2 (by omega)
        have h3 := hZ 3 (by omega)
        have h4 := hZ 4 (by omega)
        rw [HCh.out] at h0 h1 h2 h3 h4
        clear hZ
        have X := HX0.out _ hB11
        have x0 := X 0 (by omega)
        have x1 := X 1 (by omega)
        have x2 := X 2 (by omega)
        have x3 := X 3 (by omega)
        have x4 := X 4 (by omega)
        clear X
        have l3 : w3.heap.size < w11.heap.size := by omega
        have l0 : w.heap.size < w11.heap.size := by omega
        go_wp2_with fail
        have hne := Later.ne w11
        have q0 : ∀ z : Later w11, z.1.cell? ⟨w3.heap.size, 0, none⟩ = some (.int .i64 (homeP ps x 0)) := fun z => z.cell h0 l3
        have q1 : ∀ z : Later w11, z.1.cell? ⟨w3.heap.size, 1, none⟩ = some (.int .i64 (homeP ps x 1)) := fun z => z.cell h1 l3
        have q2 : ∀ z : Later w11, z.1.cell? ⟨w3.heap.size, 2, none⟩ = some (.int .i64 (homeP ps x 2)) := fun z => z.cell h2 l3
        have q3 : ∀ z : Later w11, z.1.cell? ⟨w3.heap.size, 3, none⟩ = some (.int .i64 (homeP ps x 3)) := fun z => z.cell h3 l3
        have q4 : ∀ z : Later w11, z.1.cell? ⟨w3.heap.size, 4, none⟩ = some (.int .i64 (homeP ps x 4)) := fun z => z.cell h4 l3
        have p0 : ∀ z : Later w11, z.1.cell? ⟨w.heap.size, 0, none⟩ = some (.int .i64 (x 0)) := fun z => z.cell x0 l0
        have p1 : ∀ z : Later w11, z.1.cell? ⟨w.heap.size, 1, none⟩ = some (.int .i64 (x 1)) := fun z => z.cell x1 l0
        have p2 : ∀ z : Later w11, z.1.cell? ⟨w.heap.size, 2, none⟩ = some (.int .i64 (x 2)) := fun z => z.cell x2 l0
        have p3 : ∀ z : Later w11, z.1.cell? ⟨w.heap.size, 3, none⟩ = some (.int .i64 (x 3)) := fun z => z.cell x3 l0
        have p4 : ∀ z : Later w11, z.1.cell? ⟨w.heap.size, 4, none⟩ = some (.int .i64 (x 4)) := fun z => z.cell x4 l0
        have HL : Hid (∀ z : Later w11, Below w.heap.size w z.1) := fun z => Below.thenOf bw11 z.2 bw11.size
        clear h0 h1 h2 h3 h4 x0 x1 x2 x3 x4
        refine wp_region_later (by kernel_rfl) (by kernel_rfl) ?_
        repeat (first | go_big_quiet_step (first | (go_at_call 15; exact Calls.later (HHOk.out _ (HL.out _)))) | (refine wpQuiet_eqlCall _ _ _ rfl rfl _ _ _ _ _ _ _ _ _ _ rfl rfl true (decide_eq_true rfl) ?_; simp only [Act.put, List.setIfInBounds_toArray, List.set_cons_succ, List.set_cons_zero]))
        refine wpQuiet_nil ?_
        rintro wx ⟨⟨_, hx⟩, rfl⟩
        have bwx := Below.thenOf bw11 hx bw11.size
        clear q0 q1 q2 q3 q4 p0 p1 p2 p3 p4 hne HL
        go_wp2_with fail
        go_ret
        exact ⟨rfl, bwx⟩
      case neg =>
        have HC0 : Hid (homeC ps x = fun _ => 0) := by unfold Hid; rw [homeC, if_neg (by rw [hHE]; exact hx)]
        have hq : (chkx x == 0) = false := by simpa using hx
        have hq' : (chkx x != 0) = true := by simpa using hx
        clear hx hHE hpe hok
        generalize chkx x = cx at *
        go_wp2_with fail
        go_at_call 14
        refine Calls.mono (HCOk.out _ bw9) ?_
        rintro e w10 ⟨v10, rfl, ho10, hb10⟩
        have HIq : Hid _ := equalInts_any w10.heap.size (.slice ac cl cc) v10 _ _ w10 ((IntsAt.later HIc.out hb10 (by have := b19.size; omega)).mono (by have := hb10.size; have := b19.size; omega)) (intsAt_own ho10) (Nat.le_refl _)
        have s10 := hb10.size
        go_wp2_with fail
        go_at_call 13
        refine Calls.mono HIq.out ?_
        rintro e w11 ⟨rfl, hb11⟩
        have b911 := Below.thenOf hb10 hb11 hb10.size
        have bw11 : Below w.heap.size w w11 := Below.thenOf bw9 b911 bw9.size
        have hH11 : Hid (w11.heap[w3.heap.size]? = some (.cells (cellsX (homeC ps x)) 24 (0, 0))) := (b911.block _ (by omega)).trans hH9.out
        clear HIq ho10 hb10 hb11 b911
        have hZ := (cellsX_at hH11.out).1
        have h0 := hZ 0 (by omega)
        have h1 := hZ 1 (by omega)
        have h2 := hZ 2 (by omega)
        have h3 := hZ 3 (by omega)
        have h4 := hZ 4 (by omega)
        rw [HC0.out] at h0 h1 h2 h3 h4
        clear hZ
        go_wp2_with fail
        go_ret
        exact ⟨rfl, bw11⟩
    case neg =>
      have e1 : cutsE ps f = 5 := by rw [cutsE, if_pos hpe, if_neg hfr]
      have e2 : cutsL ps f = [] := by rw [cutsL, if_neg (by rw [e1]; decide)]
      rw [e1, e2]
      clear HI1 e1 e2 HCO HHO HCOk
      simp only [List.length_nil]
      by_cases hf0 : f < 0
      all_goals
        by_cases hx : chkx x = 0
        · have HCh : Hid (homeC ps x = homeP ps x) := by unfold Hid; rw [homeC, if_pos (by rw [hHE, hx])]
          rw [hx]
          clear hx hHE hpe hok
          have hZ := (cellsX_at hH9.out).1
          have h0 := hZ 0 (by omega)
          have h1 := hZ 1 (by omega)
          have h2 := hZ 2 (by omega)
          have h3 := hZ 3 (by omega)
          have h4 := hZ 4 (by omega)
          rw [HCh.out] at h0 h1 h2 h3 h4
          clear hZ
          have X := HX0.out _ hB9
          have x0 := X 0 (by omega)
          have x1 := X 1 (by omega)
          have x2 := X 2 (by omega)
          have x3 := X 3 (by omega)
          have x4 := X 4 (by omega)
          clear X
          have l3 : w3.heap.size < w9.heap.size := by omega
          have l0 : w.heap.size < w9.heap.size := by omega
          go_wp2_with fail
          have hne := Later.ne w9
          have q0 : ∀ z : Later w9, z.1.cell? ⟨w3.heap.size, 0, none⟩ = some (.int .i64 (homeP ps x 0)) := fun z => z.cell h0 l3
          have q1 : ∀ z : Later w9, z.1.cell? ⟨w3.heap.size, 1, none⟩ = some (.int .i64 (homeP ps x 1)) := fun z => z.cell h1 l3
          have q2 : ∀ z : Later w9, z.1.cell? ⟨w3.heap.size, 2, none⟩ = some (.int .i64 (homeP ps x 2)) := fun z => z.cell h2 l3
          have q3 : ∀ z : Later w9, z.1.cell? ⟨w3.heap.size, 3, none⟩ = some (.int .i64 (homeP ps x 3)) := fun z => z.cell h3 l3
          have q4 : ∀ z : Later w9, z.1.cell? ⟨w3.heap.size, 4, none⟩ = some (.int .i64 (homeP ps x 4)) := fun z => z.cell h4 l3
          have p0 : ∀ z : Later w9, z.1.cell? ⟨w.heap.size, 0, none⟩ = some (.int .i64 (x 0)) := fun z => z.cell x0 l0
          have p1 : ∀ z : Later w9, z.1.cell? ⟨w.heap.size, 1, none⟩ = some (.int .i64 (x 1)) := fun z => z.cell x1 l0
          have p2 : ∀ z : Later w9, z.1.cell? ⟨w.heap.size, 2, none⟩ = some (.int .i64 (x 2)) := fun z => z.cell x2 l0
          have p3 : ∀ z : Later w9, z.1.cell? ⟨w.heap.size, 3, none⟩ = some (.int .i64 (x 3)) := fun z => z.cell x3 l0
          have p4 : ∀ z : Later w9, z.1.cell? ⟨w.heap.size, 4, none⟩ = some (.int .i64 (x 4)) := fun z => z.cell x4 l0
          have HL : Hid (∀ z : Later w9, Below w.heap.size w z.1) := fun z => Below.thenOf bw9 z.2 bw9.size
          clear h0 h1 h2 h3 h4 x0 x1 x2 x3 x4
          refine wp_region_later (by kernel_rfl) (by kernel_rfl) ?_
          repeat (first | go_big_quiet_step (first | (go_at_call 15; exact Calls.later (HHOk.out _ (HL.out _)))) | (refine wpQuiet_eqlCall _ _ _ rfl rfl _ _ _ _ _ _ _ _ _ _ rfl rfl true (decide_eq_true rfl) ?_; simp only [Act.put, List.setIfInBounds_toArray, List.set_cons_succ, List.set_cons_zero]))
          refine wpQuiet_nil ?_
          rintro wx ⟨⟨_, hx⟩, rfl⟩
          have bwx := Below.thenOf bw9 hx bw9.size
          clear q0 q1 q2 q3 q4 p0 p1 p2 p3 p4 hne HL
          go_wp2_with fail
          go_ret
          exact ⟨rfl, bwx⟩
        · have HC0 : Hid (homeC ps x = fun _ => 0) := by unfold Hid; rw [homeC, if_neg (by rw [hHE]; exact hx)]
          have hq : (chkx x == 0) = false := by simpa using hx
          have hq' : (chkx x != 0) = true := by simpa using hx
          clear hx hHE hpe hok
          generalize chkx x = cx at *
          have hZ := (cellsX_at hH9.out).1
          have h0 := hZ 0 (by omega)
          have h1 := hZ 1 (by omega)
          have h2 := hZ 2 (by omega)
          have h3 := hZ 3 (by omega)
          have h4 := hZ 4 (by omega)
          rw [HC0.out] at h0 h1 h2 h3 h4
          clear hZ
          go_wp2_with fail
          go_ret
          exact ⟨rfl, bw9⟩
  case neg =>
    have e1 : cutsE ps f = polsErr ps := by rw [cutsE, if_neg hpe]
    have e2 : cutsL ps f = [] := by rw [cutsL, if_neg (by rw [e1]; exact hpe)]
    rw [e1, e2]
    simp only [List.length_nil]
    have hp1 : (polsErr ps == 0) = false := by simpa using hpe
    have hp2 : (polsErr ps != 0) = true := by simpa using hpe
    clear HI1 e1 e2 HCO HHO
    by_cases hx : chkx x = 0
    · have hHE : homeE ps x = polsErr ps := by rw [homeE, if_pos hx]
      have HC0 : Hid (homeC ps x = fun _ => 0) := by unfold Hid; rw [homeC, if_neg (by rw [hHE]; exact hpe)]
      rw [hHE, hx]
      clear hHE hx hpe
      generalize polsErr ps = pe at *
      have hZ := (cellsX_at hH9.out).1
      have h0 := hZ 0 (by omega)
      have h1 := hZ 1 (by omega)
      have h2 := hZ 2 (by omega)
      have h3 := hZ 3 (by omega)
      have h4 := hZ 4 (by omega)
      rw [HC0.out] at h0 h1 h2 h3 h4
      clear hZ
      go_wp2_with fail
      go_ret
      exact ⟨rfl, bw9⟩
    · have hHE : homeE ps x = chkx x := by rw [homeE, if_neg hx]
      have HC0 : Hid (homeC ps x = fun _ => 0) := by unfold Hid; rw [homeC, if_neg (by rw [hHE]; exact hx)]
      have hq : (chkx x == 0) = false := by simpa using hx
      have hq' : (chkx x != 0) = true := by simpa using hx
      rw [hHE]
      clear hHE hx hpe
      generalize polsErr ps = pe at *
      generalize chkx x = cx at *
      have hZ := (cellsX_at hH9.out).1
      have h0 := hZ 0 (by omega)
      have h1 := hZ 1 (by omega)
      have h2 := hZ 2 (by omega)
      have h3 := hZ 3 (by omega)
      have h4 := hZ 4 (by omega)
      rw [HC0.out] at h0 h1 h2 h3 h4
      clear hZ
      go_wp2_with fail
      go_ret
      exact ⟨rfl, bw9⟩
end Go.Proofs.YtffhpcfphodamaaGreatDoor
