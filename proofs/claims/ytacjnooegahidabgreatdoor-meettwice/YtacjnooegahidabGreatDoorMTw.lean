/- MeetTwice returns true, whatever the policies and the call, in whatever memory that lays the variables. -/
import Derived.Test.YtacjnooegahidabGreatDoorMj34
import Derived.Test.YtacjnooegahidabGreatDoorMet2
import Derived.Test.YtacjnooegahidabGreatDoorBox5
set_option linter.all false
set_option maxRecDepth 100000
namespace Go.Proofs.YtacjnooegahidabGreatDoor
open Go.RowKit Go.Maps

theorem pol_wide {B : Nat} {w : World} {v : Value} {p : PolT} (h : PolAt B w v p) : ∃ a c d, v = .agg #[.slice a p.1.length c, .int .i64 d] := by
  obtain ⟨rv, rfl, _, a, c, rfl, _⟩ := h
  exact ⟨a, c, _, rfl⟩

set_option maxHeartbeats 16000000 in
theorem meetTwice_any (B : Nat) (pv qv : Value) (p q : PolT) (x : Nat → Int) (w : World) (he : EnvT w) (hsp : Lib.TabIs Tryz.prog w "strings.asciiSpace" .u8 Lib.asciiSpaceTab) (hp : PolAt B w pv p) (hq : PolAt B w qv q) (hB : B ≤ w.heap.size) :
    Calls Tryz.prog 11 #[pv, qv, callV x] w fun e w' => e = .returned (.bool true) ∧ Below w.heap.size w w' := by
  have HM : Hid (∀ w', Below w.heap.size w w' → Calls Tryz.prog 29 #[] w' fun e w'' => e = .returned (.bool true) ∧ Below w'.heap.size w' w'') := fun w' h => met_true w' (he.later h) (tab_later hsp h)
  have HMa : Hid (∀ w', Below w.heap.size w w' → Calls Tryz.prog 24 #[pv, qv] w' fun e w'' => ∃ v, e = .returned (.tuple #[v, .int .i64 (meetE false p q)]) ∧ PolNew w'.heap.size w'' v (meetR false p q) ∧ Below w'.heap.size w' w'') := fun w' h => meetD_any B pv qv p q w' (hp.later h hB) (hq.later h hB) (Nat.le_trans hB h.size)
  have HMb : Hid (∀ w', Below w.heap.size w w' → Calls Tryz.prog 24 #[qv, pv] w' fun e w'' => ∃ v, e = .returned (.tuple #[v, .int .i64 (meetE false q p)]) ∧ PolNew w'.heap.size w'' v (meetR false q p) ∧ Below w'.heap.size w' w'') := fun w' h => meetD_any B qv pv q p w' (hq.later h hB) (hp.later h hB) (Nat.le_trans hB h.size)
  have HMc : Hid (∀ w', Below w.heap.size w w' → Calls Tryz.prog 24 #[pv, pv] w' fun e w'' => ∃ v, e = .returned (.tuple #[v, .int .i64 (meetE false p p)]) ∧ PolNew w'.heap.size w'' v (meetR false p p) ∧ Below w'.heap.size w' w'') := fun w' h => meetD_any B pv pv p p w' (hp.later h hB) (hp.later h hB) (Nat.le_trans hB h.size)
  have HR : Hid (∀ w', Calls Tryz.prog 22 #[callV x] w' fun e w'' => e = .returned (callV (rx x)) ∧ Below w'.heap.size w' w'') := fun w' => right_any x w'
  have HJ : Hid (∀ (sv : Value) (s : PolT) (y : Nat → Int) w', PolAt w'.heap.size w' sv s → Calls Tryz.prog 23 #[sv, .agg #[.int .i64 (y 0), .int .i64 (y 1), .int .i64 (y 2), .int .i64 (y 3), .int .i64 (y 4)]] w' fun e w'' => e = .returned (.tuple #[.int .i64 (judgeP s y).1, .int .i64 (judgeP s y).2.1, .int .i64 (judgeP s y).2.2]) ∧ Below w'.heap.size w' w'') := fun sv s y w' hs => judge_any _ sv s y w' hs (Nat.le_refl _)
  have HPp : Hid (∀ w', Below w.heap.size w w' → PolAt w'.heap.size w' pv p ∧ PolAt w'.heap.size w' qv q) := fun w' h => ⟨PolAt.wide (hp.later h hB) (Nat.le_trans hB h.size), PolAt.wide (hq.later h hB) (Nat.le_trans hB h.size)⟩
  have hA : Hid (∀ (W : World) X, Below W.heap.size W (W.alloc X)) := fun W X => (Below.refl _ _).alloc (Nat.le_refl _) _
  have HT : Hid (meetE false p q = 0 → meetE false q p = 0 ∧ (meetR false q p).1.length = (meetR false p q).1.length ∧ ∃ v k l, judgeP (meetR false p q) (rx x) = (v, k, 0) ∧ judgeP (meetR false q p) (rx x) = (v, l, 0)) := fun h => twice h (right_ok x)
  have HN : Hid (meetE false p q ≠ 0 → meetE false q p ≠ 0) := fun h h' => h (meet_swap h')
  have HI : Hid (meetE false p p = 0 → ∃ v k l, judgeP p (rx x) = (v, k, 0) ∧ judgeP (meetR false p p) (rx x) = (v, l, 0)) := fun h => itself h (right_ok x)
  obtain ⟨a1, n1, c1, d1, rfl⟩ : ∃ a n c d, pv = .agg #[.slice a n c, .int .i64 d] := by
    obtain ⟨rv, rfl, _, hr⟩ := hp
    obtain ⟨a, c, rfl, _⟩ := hr
    exact ⟨_, _, _, _, rfl⟩
  obtain ⟨a2, n2, c2, d2, rfl⟩ : ∃ a n c d, qv = .agg #[.slice a n c, .int .i64 d] := by
    obtain ⟨rv, rfl, _, hr⟩ := hq
    obtain ⟨a, c, rfl, _⟩ := hr
    exact ⟨_, _, _, _, rfl⟩
  clear hp hq he hsp
  unfold callV at HR ⊢
  generalize rx x = y at *
  generalize meetE false p q = e1 at *
  generalize meetE false q p = e2 at *
  generalize meetE false p p = e3 at *
  go_enter Tryz.func11, Tryz.ntmps11
  go_wp2_with fail
  obtain ⟨W0, hW0⟩ : ∃ W0, W0 = ((w.alloc (.cells #[.slice a1 n1 c1, .int .i64 d1] 38)).alloc (.cells #[.slice a2 n2 c2, .int .i64 d2] 38)).alloc (.cells #[.int .i64 (x 0), .int .i64 (x 1), .int .i64 (x 2), .int .i64 (x 3), .int .i64 (x 4)] 29) := ⟨_, rfl⟩
  have s0 : W0.heap.size = w.heap.size + 3 := by rw [hW0]; simp
  have bw0 : Below w.heap.size w W0 := by rw [hW0]; exact (((Below.refl _ _).alloc (Nat.le_refl _) _).alloc (by simp) _).alloc (by simp; omega) _
  have hp0 : W0.heap[w.heap.size]? = some (.cells #[.slice a1 n1 c1, .int .i64 d1] 38 (0, 0)) := by
    rw [hW0]
    exact ((hA.out _ _).block _ (by simp; omega)).trans (((hA.out _ _).block _ (by simp)).trans (heap_made w _))
  have hq0 : W0.heap[w.heap.size + 1]? = some (.cells #[.slice a2 n2 c2, .int .i64 d2] 38 (0, 0)) := by
    rw [hW0]
    refine ((hA.out _ _).block _ (by simp)).trans ?_
    have := heap_made (w.alloc (.cells #[.slice a1 n1 c1, .int .i64 d1] 38)) (.cells #[.slice a2 n2 c2, .int .i64 d2] 38)
    simpa using this
  have hx0 : W0.heap[w.heap.size + 1 + 1]? = some (.cells (cellsX x) 29 (0, 0)) := by
    rw [hW0]
    have := heap_made ((w.alloc (.cells #[.slice a1 n1 c1, .int .i64 d1] 38)).alloc (.cells #[.slice a2 n2 c2, .int .i64 d2] 38)) (.cells #[.int .i64 (x 0), .int .i64 (x 1), .int .i64 (x 2), .int .i64 (x 3), .int .i64 (x 4)] 29)
    simpa [cellsX] using this
  rw [← hW0]
  clear hW0
  go_at_call 22
  refine Calls.mono (HR.out _) ?_
  rintro e w1 ⟨rfl, b01⟩
  have X1 := (b01.block _ (by omega)).trans hx0
  have Y1 := (b01.block _ (by omega)).trans hp0
  have Y2 := (b01.block _ (by omega)).trans hq0
  have P0 := heap_cell Y1 0 rfl
  have P1 := heap_cell Y1 1 rfl
  have Q0 := heap_cell Y2 0 rfl
  have Q1 := heap_cell Y2 1 rfl
  have Z := (cellsX_at X1).1
  have Zf := (cellsX_at X1).2
  have z0 := Z 0 (by omega)
  have z1 := Z 1 (by omega)
  have z2 := Z 2 (by omega)
  have z3 := Z 3 (by omega)
  have z4 := Z 4 (by omega)
  have f0 := Zf 0
  have f1 := Zf 1
  have f2 := Zf 2
  have f3 := Zf 3
  have f4 := Zf 4
  have s1 := lt_of_block X1
  have HX1 : Hid _ := X1
  have HY1 : Hid _ := Y1
  have HY2 : Hid _ := Y2
  clear Z Zf X1 Y1 Y2 hx0 hp0 hq0
  go_wp2_with fail
  obtain ⟨W1, hW1⟩ : ∃ W1, W1 = ((((w1.setCell ⟨w.heap.size + 1 + 1, 0, none⟩ (.int .i64 (y 0))).setCell ⟨w.heap.size + 1 + 1, 1, none⟩ (.int .i64 (y 1))).setCell ⟨w.heap.size + 1 + 1, 2, none⟩ (.int .i64 (y 2))).setCell ⟨w.heap.size + 1 + 1, 3, none⟩ (.int .i64 (y 3))).setCell ⟨w.heap.size + 1 + 1, 4, none⟩ (.int .i64 (y 4)) := ⟨_, rfl⟩
  have hx1 : W1.heap[w.heap.size + 1 + 1]? = some (.cells (cellsX y) 29 (0, 0)) := by rw [hW1]; exact callBox HX1.out
  have b1 : Below (w.heap.size + 1 + 1) w1 W1 := by rw [hW1]; exact callBox_below (Below.refl _ _) (Nat.le_refl _)
  have hp1 := (b1.block w.heap.size (by omega)).trans HY1.out
  have hq1 := (b1.block (w.heap.size + 1) (by omega)).trans HY2.out
  have bw1 : Below w.heap.size w W1 := bw0.trans ((b01.mono (by omega)).trans (b1.mono (by omega)))
  have HK : Hid (∀ w', Below W1.heap.size W1 w' → w'.heap[w.heap.size]? = some (.cells #[.slice a1 n1 c1, .int .i64 d1] 38 (0, 0)) ∧ w'.heap[w.heap.size + 1]? = some (.cells #[.slice a2 n2 c2, .int .i64 d2] 38 (0, 0)) ∧ w'.heap[w.heap.size + 1 + 1]? = some (.cells (cellsX y) 29 (0, 0)) ∧ Below w.heap.size w w') := fun w' h =>
    ⟨(h.block _ (lt_of_block hp1)).trans hp1, (h.block _ (lt_of_block hq1)).trans hq1, (h.block _ (lt_of_block hx1)).trans hx1, Below.thenOf bw1 h bw1.size⟩
  have t1 := lt_of_block hx1
  rw [← hW1]
  clear hW1 z0 z1 z2 z3 z4 f0 f1 f2 f3 f4 P0 P1 Q0 Q1 HX1 HY1 HY2 b01 b1 bw0 s0 s1 hp1 hq1 hx1
  go_at_call 24
  refine Calls.mono (HMa.out _ bw1) ?_
  rintro e w2 ⟨vm1, rfl, hm, bA⟩
  obtain ⟨am1, cm1, dm1, rfl⟩ := pol_wide hm.at
  obtain ⟨na, hna⟩ : ∃ n, n = (meetR false p q).1.length := ⟨_, rfl⟩
  rw [← hna] at hm HT ⊢
  clear hna
  obtain ⟨W3, hWx⟩ : ∃ W3, W3 = w2.alloc (.cells #[.slice am1 na cm1, .int .i64 dm1] 38) := ⟨_, rfl⟩
  have bB : Below w2.heap.size w2 W3 := by rw [hWx]; exact hA.out _ _
  have bC : Below W1.heap.size W1 W3 := Below.thenOf bA bB bA.size
  have hmx : W3.heap[w2.heap.size]? = some (.cells #[.slice am1 na cm1, .int .i64 dm1] 38 (0, 0)) := by rw [hWx]; exact heap_made _ _
  have HM1 : Hid (∀ w', Below W3.heap.size W3 w' → PolAt w'.heap.size w' (.agg #[.slice am1 na cm1, .int .i64 dm1]) (meetR false p q) ∧ w'.heap[w2.heap.size]? = some (.cells #[.slice am1 na cm1, .int .i64 dm1] 38 (0, 0)) ∧ Below W1.heap.size W1 w') := fun w' h =>
    ⟨hm w' (fun g _ hg => (Below.thenOf bB h bB.size).block g hg) (Nat.le_trans bB.size h.size), (h.block _ (lt_of_block hmx)).trans hmx, Below.thenOf bC h bC.size⟩
  have bwW3 : Below w.heap.size w W3 := Below.thenOf bw1 bC (bw1).size
  have hW1' : Hid (W3 = _) := hWx
  obtain ⟨k1, k2, k3, -⟩ := HK.out W3 (Below.thenOf bA bB bA.size)
  have P0 := heap_cell k1 0 rfl
  have P1 := heap_cell k1 1 rfl
  have Q0 := heap_cell k2 0 rfl
  have Q1 := heap_cell k2 1 rfl
  have L1 := lt_of_block k1
  have L2 := lt_of_block k2
  rw [hWx] at P0 P1 Q0 Q1
  have M1 := lt_of_block hmx
  clear hWx hm hmx bA bB bC k1 k2 k3 M1
  go_wp2_with fail
  rw [← hW1'.out]
  clear P0 P1 Q0 Q1 L1 L2
  go_at_call 24
  refine Calls.mono (HMb.out _ bwW3) ?_
  rintro e w4 ⟨vm2, rfl, hm, bA⟩
  obtain ⟨am2, cm2, dm2, rfl⟩ := pol_wide hm.at
  obtain ⟨nb, hnb⟩ : ∃ n, n = (meetR false q p).1.length := ⟨_, rfl⟩
  rw [← hnb] at hm HT ⊢
  clear hnb
  obtain ⟨W5, hWx⟩ : ∃ W3, W3 = w4.alloc (.cells #[.slice am2 nb cm2, .int .i64 dm2] 38) := ⟨_, rfl⟩
  have bB : Below w4.heap.size w4 W5 := by rw [hWx]; exact hA.out _ _
  have bC : Below W3.heap.size W3 W5 := Below.thenOf bA bB bA.size
  have hmx : W5.heap[w4.heap.size]? = some (.cells #[.slice am2 nb cm2, .int .i64 dm2] 38 (0, 0)) := by rw [hWx]; exact heap_made _ _
  have HM2 : Hid (∀ w', Below W5.heap.size W5 w' → PolAt w'.heap.size w' (.agg #[.slice am2 nb cm2, .int .i64 dm2]) (meetR false q p) ∧ w'.heap[w4.heap.size]? = some (.cells #[.slice am2 nb cm2, .int .i64 dm2] 38 (0, 0)) ∧ Below W3.heap.size W3 w') := fun w' h =>
    ⟨hm w' (fun g _ hg => (Below.thenOf bB h bB.size).block g hg) (Nat.le_trans bB.size h.size), (h.block _ (lt_of_block hmx)).trans hmx, Below.thenOf bC h bC.size⟩
  have bwW5 : Below w.heap.size w W5 := Below.thenOf bwW3 bC (bwW3).size
  have hW2' : Hid (W5 = _) := hWx
  obtain ⟨-, -, t2⟩ := HM1.out W5 (Below.thenOf bA bB bA.size)
  obtain ⟨k1, k2, k3, -⟩ := HK.out W5 t2
  have P0 := heap_cell k1 0 rfl
  have P1 := heap_cell k1 1 rfl
  have Q0 := heap_cell k2 0 rfl
  have Q1 := heap_cell k2 1 rfl
  have L1 := lt_of_block k1
  have L2 := lt_of_block k2
  rw [hWx] at P0 P1 Q0 Q1
  clear hWx hm hmx bA bB bC k1 k2 k3 t2
  go_wp2_with fail
  rw [← hW2'.out]
  clear P0 P1 Q0 Q1 L1 L2
  go_at_call 24
  refine Calls.mono (HMc.out _ bwW5) ?_
  rintro e w6 ⟨vm3, rfl, hm, bA⟩
  obtain ⟨am3, cm3, dm3, rfl⟩ := pol_wide hm.at
  obtain ⟨nc, hnc⟩ : ∃ n, n = (meetR false p p).1.length := ⟨_, rfl⟩
  rw [← hnc] at hm ⊢
  clear hnc
  obtain ⟨W7, hWx⟩ : ∃ W3, W3 = w6.alloc (.cells #[.slice am3 nc cm3, .int .i64 dm3] 38) := ⟨_, rfl⟩
  have bB : Below w6.heap.size w6 W7 := by rw [hWx]; exact hA.out _ _
  have bC : Below W5.heap.size W5 W7 := Below.thenOf bA bB bA.size
  have hmx : W7.heap[w6.heap.size]? = some (.cells #[.slice am3 nc cm3, .int .i64 dm3] 38 (0, 0)) := by rw [hWx]; exact heap_made _ _
  have HM3 : Hid (∀ w', Below W7.heap.size W7 w' → PolAt w'.heap.size w' (.agg #[.slice am3 nc cm3, .int .i64 dm3]) (meetR false p p) ∧ w'.heap[w6.heap.size]? = some (.cells #[.slice am3 nc cm3, .int .i64 dm3] 38 (0, 0)) ∧ Below W5.heap.size W5 w') := fun w' h =>
    ⟨hm w' (fun g _ hg => (Below.thenOf bB h bB.size).block g hg) (Nat.le_trans bB.size h.size), (h.block _ (lt_of_block hmx)).trans hmx, Below.thenOf bC h bC.size⟩
  have bwW7 : Below w.heap.size w W7 := Below.thenOf bwW5 bC (bwW5).size
  have hW3' : Hid (W7 = _) := hWx
  clear hWx hm hmx bA bB bC
  go_wp2_with fail
  rw [← hW3'.out]
  go_at_call 29
  refine Calls.mono (HM.out _ bwW7) ?_
  rintro e w8 ⟨rfl, b78⟩
  have Tw8 : Hid (∀ w', Below w8.heap.size w8 w' → Below W7.heap.size W7 w') := fun w' h => Below.thenOf b78 h b78.size
  have bw8 : Below w.heap.size w w8 := Below.thenOf bwW7 b78 bwW7.size
  by_cases h0 : e1 = 0
  · subst h0
    obtain ⟨rfl, hlen, v, k, l, j1, j2⟩ := HT.out rfl
    subst hlen
    have J1 : Hid _ := j1
    have J2 : Hid _ := j2
    clear j1 j2
    obtain ⟨hPC, kc, t6⟩ := HM3.out w8 (Tw8.out w8 (Below.refl _ _))
    obtain ⟨hPB, kb, t4⟩ := HM2.out w8 t6
    obtain ⟨hPA, ka, t2⟩ := HM1.out w8 t4
    obtain ⟨k1, k2, k3, tw⟩ := HK.out w8 t2
    have P0 := heap_cell k1 0 rfl
    have P1 := heap_cell k1 1 rfl
    have Q0 := heap_cell k2 0 rfl
    have Q1 := heap_cell k2 1 rfl
    have L1 := lt_of_block k1
    have L2 := lt_of_block k2
    have Z := (cellsX_at k3).1
    have z0 := Z 0 (by omega)
    have z1 := Z 1 (by omega)
    have z2 := Z 2 (by omega)
    have z3 := Z 3 (by omega)
    have z4 := Z 4 (by omega)
    have A0 := heap_cell ka 0 rfl
    have A1 := heap_cell ka 1 rfl
    have B0 := heap_cell kb 0 rfl
    have B1 := heap_cell kb 1 rfl
    have C0 := heap_cell kc 0 rfl
    have C1 := heap_cell kc 1 rfl
    have hPp := (HPp.out _ tw).1
    clear Z k1 k2 k3 ka kb kc t2 t4 t6
    go_wp2_with fail
    go_at_call 23
    refine Calls.mono (HJ.out _ (meetR false p q) y w8 hPA) ?_
    rintro e w9 ⟨rfl, bb⟩
    have Tw9 : Hid (∀ w', Below w9.heap.size w9 w' → Below W7.heap.size W7 w') := fun w' h => Tw8.out w' (Below.thenOf bb h bb.size)
    rw [J1.out]
    clear P0 P1 Q0 Q1 z0 z1 z2 z3 z4 A0 A1 B0 B1 C0 C1 L1 L2 hPA hPB hPC hPp tw bb
    obtain ⟨hPC, kc, t6⟩ := HM3.out w9 (Tw9.out w9 (Below.refl _ _))
    obtain ⟨hPB, kb, t4⟩ := HM2.out w9 t6
    obtain ⟨hPA, ka, t2⟩ := HM1.out w9 t4
    obtain ⟨k1, k2, k3, tw⟩ := HK.out w9 t2
    have P0 := heap_cell k1 0 rfl
    have P1 := heap_cell k1 1 rfl
    have Q0 := heap_cell k2 0 rfl
    have Q1 := heap_cell k2 1 rfl
    have L1 := lt_of_block k1
    have L2 := lt_of_block k2
    have Z := (cellsX_at k3).1
    have z0 := Z 0 (by omega)
    have z1 := Z 1 (by omega)
    have z2 := Z 2 (by omega)
    have z3 := Z 3 (by omega)
    have z4 := Z 4 (by omega)
    have A0 := heap_cell ka 0 rfl
    have A1 := heap_cell ka 1 rfl
    have B0 := heap_cell kb 0 rfl
    have B1 := heap_cell kb 1 rfl
    have C0 := heap_cell kc 0 rfl
    have C1 := heap_cell kc 1 rfl
    have hPp := (HPp.out _ tw).1
    clear Z k1 k2 k3 ka kb kc t2 t4 t6
    go_wp2_with fail
    go_at_call 23
    refine Calls.mono (HJ.out _ (meetR false q p) y w9 hPB) ?_
    rintro e w10 ⟨rfl, bb⟩
    have Tw10 : Hid (∀ w', Below w10.heap.size w10 w' → Below W7.heap.size W7 w') := fun w' h => Tw9.out w' (Below.thenOf bb h bb.size)
    rw [J2.out]
    clear P0 P1 Q0 Q1 z0 z1 z2 z3 z4 A0 A1 B0 B1 C0 C1 L1 L2 hPA hPB hPC hPp tw bb
    obtain ⟨hPC, kc, t6⟩ := HM3.out w10 (Tw10.out w10 (Below.refl _ _))
    obtain ⟨hPB, kb, t4⟩ := HM2.out w10 t6
    obtain ⟨hPA, ka, t2⟩ := HM1.out w10 t4
    obtain ⟨k1, k2, k3, tw⟩ := HK.out w10 t2
    have P0 := heap_cell k1 0 rfl
    have P1 := heap_cell k1 1 rfl
    have Q0 := heap_cell k2 0 rfl
    have Q1 := heap_cell k2 1 rfl
    have L1 := lt_of_block k1
    have L2 := lt_of_block k2
    have Z := (cellsX_at k3).1
    have z0 := Z 0 (by omega)
    have z1 := Z 1 (by omega)
    have z2 := Z 2 (by omega)
    have z3 := Z 3 (by omega)
    have z4 := Z 4 (by omega)
    have A0 := heap_cell ka 0 rfl
    have A1 := heap_cell ka 1 rfl
    have B0 := heap_cell kb 0 rfl
    have B1 := heap_cell kb 1 rfl
    have C0 := heap_cell kc 0 rfl
    have C1 := heap_cell kc 1 rfl
    have hPp := (HPp.out _ tw).1
    clear Z k1 k2 k3 ka kb kc t2 t4 t6
    by_cases h3 : e3 = 0
    · subst h3
      obtain ⟨v', k', l', j3, j4⟩ := HI.out rfl
      have J3 : Hid _ := j3
      have J4 : Hid _ := j4
      clear j3 j4
      go_wp2_with fail
      go_at_call 23
      refine Calls.mono (HJ.out _ p y w10 hPp) ?_
      rintro e w11 ⟨rfl, bb⟩
      have Tw11 : Hid (∀ w', Below w11.heap.size w11 w' → Below W7.heap.size W7 w') := fun w' h => Tw10.out w' (Below.thenOf bb h bb.size)
      rw [J3.out]
      clear P0 P1 Q0 Q1 z0 z1 z2 z3 z4 A0 A1 B0 B1 C0 C1 L1 L2 hPA hPB hPC hPp tw bb
      obtain ⟨hPC, kc, t6⟩ := HM3.out w11 (Tw11.out w11 (Below.refl _ _))
      obtain ⟨hPB, kb, t4⟩ := HM2.out w11 t6
      obtain ⟨hPA, ka, t2⟩ := HM1.out w11 t4
      obtain ⟨k1, k2, k3, tw⟩ := HK.out w11 t2
      have P0 := heap_cell k1 0 rfl
      have P1 := heap_cell k1 1 rfl
      have Q0 := heap_cell k2 0 rfl
      have Q1 := heap_cell k2 1 rfl
      have L1 := lt_of_block k1
      have L2 := lt_of_block k2
      have Z := (cellsX_at k3).1
      have z0 := Z 0 (by omega)
      have z1 := Z 1 (by omega)
      have z2 := Z 2 (by omega)
      have z3 := Z 3 (by omega)
      have z4 := Z 4 (by omega)
      have A0 := heap_cell ka 0 rfl
      have A1 := heap_cell ka 1 rfl
      have B0 := heap_cell kb 0 rfl
      have B1 := heap_cell kb 1 rfl
      have C0 := heap_cell kc 0 rfl
      have C1 := heap_cell kc 1 rfl
      have hPp := (HPp.out _ tw).1
      clear Z k1 k2 k3 ka kb kc t2 t4 t6
      go_wp2_with fail
      go_at_call 23
      refine Calls.mono (HJ.out _ (meetR false p p) y w11 hPC) ?_
      rintro e w12 ⟨rfl, bb⟩
      have Tw12 : Hid (∀ w', Below w12.heap.size w12 w' → Below W7.heap.size W7 w') := fun w' h => Tw11.out w' (Below.thenOf bb h bb.size)
      rw [J4.out]
      clear P0 P1 Q0 Q1 z0 z1 z2 z3 z4 A0 A1 B0 B1 C0 C1 L1 L2 hPA hPB hPC hPp tw bb
      obtain ⟨hPC, kc, t6⟩ := HM3.out w12 (Tw12.out w12 (Below.refl _ _))
      obtain ⟨hPB, kb, t4⟩ := HM2.out w12 t6
      obtain ⟨hPA, ka, t2⟩ := HM1.out w12 t4
      obtain ⟨k1, k2, k3, tw⟩ := HK.out w12 t2
      have P0 := heap_cell k1 0 rfl
      have P1 := heap_cell k1 1 rfl
      have Q0 := heap_cell k2 0 rfl
      have Q1 := heap_cell k2 1 rfl
      have L1 := lt_of_block k1
      have L2 := lt_of_block k2
      have Z := (cellsX_at k3).1
      have z0 := Z 0 (by omega)
      have z1 := Z 1 (by omega)
      have z2 := Z 2 (by omega)
      have z3 := Z 3 (by omega)
      have z4 := Z 4 (by omega)
      have A0 := heap_cell ka 0 rfl
      have A1 := heap_cell ka 1 rfl
      have B0 := heap_cell kb 0 rfl
      have B1 := heap_cell kb 1 rfl
      have C0 := heap_cell kc 0 rfl
      have C1 := heap_cell kc 1 rfl
      have hPp := (HPp.out _ tw).1
      clear Z k1 k2 k3 ka kb kc t2 t4 t6
      have tF : Hid _ := tw
      clear P0 P1 Q0 Q1 z0 z1 z2 z3 z4 A0 A1 B0 B1 C0 C1 L1 L2 hPA hPB hPC hPp tw J1 J2 J3 J4
      go_wp2_with fail
      go_ret
      exact ⟨rfl, tF.out⟩
    · have hq3 : (e3 != 0) = true := by simpa using h3
      have tF : Hid _ := tw
      clear h3
      go_wp2_with fail
      go_ret
      exact ⟨rfl, tF.out⟩
  · have hq : (e1 != 0) = true := by simpa using h0
    have hq2 : (e2 != 0) = true := by have := HN.out h0; simpa using this
    clear h0
    go_wp2_with fail
    go_at_call 29
    refine Calls.mono (HM.out _ bw8) ?_
    rintro e w9 ⟨rfl, b89⟩
    have tF : Hid (Below w.heap.size w w9) := Below.thenOf bw8 b89 bw8.size
    go_wp2_with fail
    go_ret
    exact ⟨rfl, tF.out⟩

end Go.Proofs.YtacjnooegahidabGreatDoor
