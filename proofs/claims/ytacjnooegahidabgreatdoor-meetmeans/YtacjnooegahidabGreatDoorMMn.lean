/- MeetMeans returns true, whatever the policies and the call, in whatever memory that lays the variables. -/
import Derived.Test.YtacjnooegahidabGreatDoorMj34
import Derived.Test.YtacjnooegahidabGreatDoorMet1
import Derived.Test.YtacjnooegahidabGreatDoorBox5
set_option linter.all false
set_option maxRecDepth 100000
namespace Go.Proofs.YtacjnooegahidabGreatDoor
open Go.RowKit Go.Maps

set_option maxHeartbeats 16000000 in
theorem meetMeans_any (B : Nat) (pv qv : Value) (p q : PolT) (x : Nat → Int) (w : World) (he : EnvT w) (hsp : Lib.TabIs Tryz.prog w "strings.asciiSpace" .u8 Lib.asciiSpaceTab) (hp : PolAt B w pv p) (hq : PolAt B w qv q) (hB : B ≤ w.heap.size) :
    Calls Tryz.prog 8 #[pv, qv, callV x] w fun e w' => e = .returned (.bool true) ∧ Below w.heap.size w w' := by
  have HM : Hid (∀ w', Below w.heap.size w w' → Calls Tryz.prog 29 #[] w' fun e w'' => e = .returned (.bool true) ∧ Below w'.heap.size w' w'') := fun w' h => met_true w' (he.later h) (tab_later hsp h)
  have HMe : Hid (∀ w', Below w.heap.size w w' → Calls Tryz.prog 24 #[pv, qv] w' fun e w'' => ∃ v, e = .returned (.tuple #[v, .int .i64 (meetE false p q)]) ∧ PolNew w'.heap.size w'' v (meetR false p q) ∧ Below w'.heap.size w' w'') := fun w' h => meetD_any B pv qv p q w' (hp.later h hB) (hq.later h hB) (Nat.le_trans hB h.size)
  have HEx : Hid (∀ w', Below w.heap.size w w' → Calls Tryz.prog 25 #[pv, qv] w' fun e w'' => ∃ v, e = .returned (.tuple #[v, .int .i64 (meetE false p q)]) ∧ PolNew w'.heap.size w'' v (meetR true p q) ∧ Below w'.heap.size w' w'') := fun w' h => by
    have := exceptD_any B pv qv p q w' (hp.later h hB) (hq.later h hB) (Nat.le_trans hB h.size)
    rw [meetE_exc] at this
    exact this
  have HR : Hid (∀ w', Calls Tryz.prog 22 #[callV x] w' fun e w'' => e = .returned (callV (rx x)) ∧ Below w'.heap.size w' w'') := fun w' => right_any x w'
  have HJ : Hid (∀ (sv : Value) (s : PolT) (y : Nat → Int) w', PolAt w'.heap.size w' sv s → Calls Tryz.prog 23 #[sv, .agg #[.int .i64 (y 0), .int .i64 (y 1), .int .i64 (y 2), .int .i64 (y 3), .int .i64 (y 4)]] w' fun e w'' => e = .returned (.tuple #[.int .i64 (judgeP s y).1, .int .i64 (judgeP s y).2.1, .int .i64 (judgeP s y).2.2]) ∧ Below w'.heap.size w' w'') := fun sv s y w' hs => judge_any _ sv s y w' hs (Nat.le_refl _)
  have HPp : Hid (∀ w', Below w.heap.size w w' → PolAt w'.heap.size w' pv p ∧ PolAt w'.heap.size w' qv q) := fun w' h => ⟨PolAt.wide (hp.later h hB) (Nat.le_trans hB h.size), PolAt.wide (hq.later h hB) (Nat.le_trans hB h.size)⟩
  have hA : Hid (∀ (W : World) X, Below W.heap.size W (W.alloc X)) := fun W X => (Below.refl _ _).alloc (Nat.le_refl _) _
  have HT : Hid (meetE false p q = 0 → ∃ v k u l m n, judgeP p (rx x) = (v, k, 0) ∧ judgeP q (rx x) = (u, l, 0) ∧ judgeP (meetR false p q) (rx x) = (ofV false v u, m, 0) ∧ judgeP (meetR true p q) (rx x) = (ofV true v u, n, 0)) := fun h => means h (right_ok x)
  obtain ⟨a1, n1, c1, d1, rfl⟩ : ∃ a n c d, pv = .agg #[.slice a n c, .int .i64 d] := by
    obtain ⟨rv, rfl, _, hr⟩ := hp
    obtain ⟨a, c, rfl, _⟩ := hr
    exact ⟨_, _, _, _, rfl⟩
  obtain ⟨a2, n2, c2, d2, rfl⟩ : ∃ a n c d, qv = .agg #[.slice a n c, .int .i64 d] := by
    obtain ⟨rv, rfl, _, hr⟩ := hq
    obtain ⟨a, c, rfl, _⟩ := hr
    exact ⟨_, _, _, _, rfl⟩
  clear hp hq he hsp
  unfold callV at HR ⊢
  generalize rx x = y at *
  generalize meetE false p q = e1 at *
  go_enter Tryz.func8, Tryz.ntmps8
  go_wp2_with fail
  obtain ⟨W0, hW0⟩ : ∃ W0, W0 = ((w.alloc (.cells #[.slice a1 n1 c1, .int .i64 d1] 38)).alloc (.cells #[.slice a2 n2 c2, .int .i64 d2] 38)).alloc (.cells #[.int .i64 (x 0), .int .i64 (x 1), .int .i64 (x 2), .int .i64 (x 3), .int .i64 (x 4)] 29) := ⟨_, rfl⟩
  have s0 : W0.heap.size = w.heap.size + 3 := by rw [hW0]; simp
  have bw0 : Below w.heap.size w W0 := by rw [hW0]; exact (((Below.refl _ _).alloc (Nat.le_refl _) _).alloc (by simp) _).alloc (by simp; omega) _
  have hp0 : W0.heap[w.heap.size]? = some (.cells #[.slice a1 n1 c1, .int .i64 d1] 38 (0, 0)) := by
    rw [hW0]
    exact ((hA.out _ _).block _ (by simp; omega)).trans (((hA.out _ _).block _ (by simp)).trans (heap_made w _))
  have hq0 : W0.heap[w.heap.size + 1]? = some (.cells #[.slice a2 n2 c2, .int .i64 d2] 38 (0, 0)) := by
    rw [hW0]
    refine ((hA.out _ _).block _ (by simp)).trans ?_
    have := heap_made (w.alloc (.cells #[.slice a1 n1 c1, .int .i64 d1] 38)) (.cells #[.slice a2 n2 c2, .int .i64 d2] 38)
    simpa using this
  have hx0 : W0.heap[w.heap.size + 1 + 1]? = some (.cells (cellsX x) 29 (0, 0)) := by
    rw [hW0]
    have := heap_made ((w.alloc (.cells #[.slice a1 n1 c1, .int .i64 d1] 38)).alloc (.cells #[.slice a2 n2 c2, .int .i64 d2] 38)) (.cells #[.int .i64 (x 0), .int .i64 (x 1), .int .i64 (x 2), .int .i64 (x 3), .int .i64 (x 4)] 29)
    simpa [cellsX] using this
  rw [← hW0]
  clear hW0
  go_at_call 22
  refine Calls.mono (HR.out _) ?_
  rintro e w1 ⟨rfl, b01⟩
  have X1 := (b01.block _ (by omega)).trans hx0
  have Y1 := (b01.block _ (by omega)).trans hp0
  have Y2 := (b01.block _ (by omega)).trans hq0
  have P0 := heap_cell Y1 0 rfl
  have P1 := heap_cell Y1 1 rfl
  have Q0 := heap_cell Y2 0 rfl
  have Q1 := heap_cell Y2 1 rfl
  have Z := (cellsX_at X1).1
  have Zf := (cellsX_at X1).2
  have z0 := Z 0 (by omega)
  have z1 := Z 1 (by omega)
  have z2 := Z 2 (by omega)
  have z3 := Z 3 (by omega)
  have z4 := Z 4 (by omega)
  have f0 := Zf 0
  have f1 := Zf 1
  have f2 := Zf 2
  have f3 := Zf 3
  have f4 := Zf 4
  have s1 := lt_of_block X1
  have HX1 : Hid _ := X1
  have HY1 : Hid _ := Y1
  have HY2 : Hid _ := Y2
  clear Z Zf X1 Y1 Y2 hx0 hp0 hq0
  go_wp2_with fail
  obtain ⟨W1, hW1⟩ : ∃ W1, W1 = ((((w1.setCell ⟨w.heap.size + 1 + 1, 0, none⟩ (.int .i64 (y 0))).setCell ⟨w.heap.size + 1 + 1, 1, none⟩ (.int .i64 (y 1))).setCell ⟨w.heap.size + 1 + 1, 2, none⟩ (.int .i64 (y 2))).setCell ⟨w.heap.size + 1 + 1, 3, none⟩ (.int .i64 (y 3))).setCell ⟨w.heap.size + 1 + 1, 4, none⟩ (.int .i64 (y 4)) := ⟨_, rfl⟩
  have hx1 : W1.heap[w.heap.size + 1 + 1]? = some (.cells (cellsX y) 29 (0, 0)) := by rw [hW1]; exact callBox HX1.out
  have b1 : Below (w.heap.size + 1 + 1) w1 W1 := by rw [hW1]; exact callBox_below (Below.refl _ _) (Nat.le_refl _)
  have hp1 := (b1.block w.heap.size (by omega)).trans HY1.out
  have hq1 := (b1.block (w.heap.size + 1) (by omega)).trans HY2.out
  have bw1 : Below w.heap.size w W1 := bw0.trans ((b01.mono (by omega)).trans (b1.mono (by omega)))
  have HK : Hid (∀ w', Below W1.heap.size W1 w' → w'.heap[w.heap.size]? = some (.cells #[.slice a1 n1 c1, .int .i64 d1] 38 (0, 0)) ∧ w'.heap[w.heap.size + 1]? = some (.cells #[.slice a2 n2 c2, .int .i64 d2] 38 (0, 0)) ∧ w'.heap[w.heap.size + 1 + 1]? = some (.cells (cellsX y) 29 (0, 0)) ∧ Below w.heap.size w w') := fun w' h =>
    ⟨(h.block _ (lt_of_block hp1)).trans hp1, (h.block _ (lt_of_block hq1)).trans hq1, (h.block _ (lt_of_block hx1)).trans hx1, Below.thenOf bw1 h bw1.size⟩
  have t1 := lt_of_block hx1
  rw [← hW1]
  clear hW1 z0 z1 z2 z3 z4 f0 f1 f2 f3 f4 P0 P1 Q0 Q1 HX1 HY1 HY2 b01 b1 bw0 s0 s1 hp1 hq1 hx1
  go_at_call 24
  refine Calls.mono (HMe.out _ bw1) ?_
  rintro e w2 ⟨vm, rfl, hm2, b12⟩
  obtain ⟨am, nm, cm, dm, rfl⟩ : ∃ a n c d, vm = .agg #[.slice a n c, .int .i64 d] := by
    obtain ⟨rv, rfl, _, hr⟩ := hm2.at
    obtain ⟨a, c, rfl, _⟩ := hr
    exact ⟨_, _, _, _, rfl⟩
  obtain ⟨W3, hW3⟩ : ∃ W3, W3 = w2.alloc (.cells #[.slice am nm cm, .int .i64 dm] 38) := ⟨_, rfl⟩
  have b23 : Below w2.heap.size w2 W3 := by rw [hW3]; exact hA.out _ _
  have b13 : Below W1.heap.size W1 W3 := Below.thenOf b12 b23 b12.size
  have hm3 : W3.heap[w2.heap.size]? = some (.cells #[.slice am nm cm, .int .i64 dm] 38 (0, 0)) := by rw [hW3]; exact heap_made _ _
  have HMp : Hid (∀ w', Below W3.heap.size W3 w' → PolAt w'.heap.size w' (.agg #[.slice am nm cm, .int .i64 dm]) (meetR false p q) ∧ w'.heap[w2.heap.size]? = some (.cells #[.slice am nm cm, .int .i64 dm] 38 (0, 0)) ∧ Below W1.heap.size W1 w') := fun w' h =>
    ⟨hm2 w' (fun g _ hg => (Below.thenOf b23 h b23.size).block g hg) (Nat.le_trans b23.size h.size), (h.block _ (lt_of_block hm3)).trans hm3, Below.thenOf b13 h b13.size⟩
  obtain ⟨k1, k2, k3, bw3⟩ := HK.out W3 b13
  have hW3' : Hid (W3 = _) := hW3
  have P0 := heap_cell k1 0 rfl
  have P1 := heap_cell k1 1 rfl
  have Q0 := heap_cell k2 0 rfl
  have Q1 := heap_cell k2 1 rfl
  have L1 := lt_of_block k1
  have L2 := lt_of_block k2
  rw [hW3] at P0 P1 Q0 Q1
  clear hW3 hm2 hm3 b23 k1 k2 k3
  go_wp2_with fail
  rw [← hW3'.out]
  go_at_call 25
  refine Calls.mono (HEx.out _ bw3) ?_
  rintro e w4 ⟨vx, rfl, hx4, b34⟩
  obtain ⟨ax, nx, cx, dx, rfl⟩ : ∃ a n c d, vx = .agg #[.slice a n c, .int .i64 d] := by
    obtain ⟨rv, rfl, _, hr⟩ := hx4.at
    obtain ⟨a, c, rfl, _⟩ := hr
    exact ⟨_, _, _, _, rfl⟩
  obtain ⟨W5, hW5⟩ : ∃ W5, W5 = w4.alloc (.cells #[.slice ax nx cx, .int .i64 dx] 38) := ⟨_, rfl⟩
  have b45 : Below w4.heap.size w4 W5 := by rw [hW5]; exact hA.out _ _
  have b35 : Below W3.heap.size W3 W5 := Below.thenOf b34 b45 b34.size
  have hx5 : W5.heap[w4.heap.size]? = some (.cells #[.slice ax nx cx, .int .i64 dx] 38 (0, 0)) := by rw [hW5]; exact heap_made _ _
  have HXp : Hid (∀ w', Below W5.heap.size W5 w' → PolAt w'.heap.size w' (.agg #[.slice ax nx cx, .int .i64 dx]) (meetR true p q) ∧ w'.heap[w4.heap.size]? = some (.cells #[.slice ax nx cx, .int .i64 dx] 38 (0, 0)) ∧ Below W3.heap.size W3 w') := fun w' h =>
    ⟨hx4 w' (fun g _ hg => (Below.thenOf b45 h b45.size).block g hg) (Nat.le_trans b45.size h.size), (h.block _ (lt_of_block hx5)).trans hx5, Below.thenOf b35 h b35.size⟩
  have hW5' : Hid (W5 = _) := hW5
  have bw5 : Below w.heap.size w W5 := Below.thenOf bw3 b35 bw3.size
  clear hW5 hx4 hx5 b45 b35 P0 P1 Q0 Q1 L1 L2
  go_wp2_with fail
  rw [← hW5'.out]
  go_at_call 29
  refine Calls.mono (HM.out _ bw5) ?_
  rintro e w6 ⟨rfl, b56⟩
  have Tw6 : Hid (∀ w', Below w6.heap.size w6 w' → Below W5.heap.size W5 w') := fun w' h => Below.thenOf b56 h b56.size
  have bw6 : Below w.heap.size w w6 := Below.thenOf bw5 b56 bw5.size
  by_cases h0 : e1 = 0
  · subst h0
    obtain ⟨v, k, u, l, m, n, j1, j2, j3, j4⟩ := HT.out rfl
    obtain ⟨hPE, kx, tW⟩ := HXp.out w6 (Tw6.out w6 (Below.refl _ _))
    obtain ⟨hPM, km, tW1⟩ := HMp.out w6 tW
    obtain ⟨k1, k2, k3, tw⟩ := HK.out w6 tW1
    have P0 := heap_cell k1 0 rfl
    have P1 := heap_cell k1 1 rfl
    have Q0 := heap_cell k2 0 rfl
    have Q1 := heap_cell k2 1 rfl
    have Z := (cellsX_at k3).1
    have z0 := Z 0 (by omega)
    have z1 := Z 1 (by omega)
    have z2 := Z 2 (by omega)
    have z3 := Z 3 (by omega)
    have z4 := Z 4 (by omega)
    have M0 := heap_cell km 0 rfl
    have M1 := heap_cell km 1 rfl
    have E0 := heap_cell kx 0 rfl
    have E1 := heap_cell kx 1 rfl
    have hPq := HPp.out _ tw
    clear Z k1 k2 k3 kx km tW tW1
    have J1 : Hid _ := j1
    have J2 : Hid _ := j2
    have J3 : Hid _ := j3
    have J4 : Hid _ := j4
    clear j1 j2 j3 j4
    go_wp2_with fail
    go_at_call 23
    refine Calls.mono (HJ.out _ p y w6 hPq.1) ?_
    rintro e w7 ⟨rfl, bb⟩
    have Tw7 : Hid (∀ w', Below w7.heap.size w7 w' → Below W5.heap.size W5 w') := fun w' h => Tw6.out w' (Below.thenOf bb h bb.size)
    rw [J1.out]
    clear P0 P1 Q0 Q1 z0 z1 z2 z3 z4 M0 M1 E0 E1 bb
    obtain ⟨hPE, kx, tW⟩ := HXp.out w7 (Tw7.out w7 (Below.refl _ _))
    obtain ⟨hPM, km, tW1⟩ := HMp.out w7 tW
    obtain ⟨k1, k2, k3, tw⟩ := HK.out w7 tW1
    have P0 := heap_cell k1 0 rfl
    have P1 := heap_cell k1 1 rfl
    have Q0 := heap_cell k2 0 rfl
    have Q1 := heap_cell k2 1 rfl
    have Z := (cellsX_at k3).1
    have z0 := Z 0 (by omega)
    have z1 := Z 1 (by omega)
    have z2 := Z 2 (by omega)
    have z3 := Z 3 (by omega)
    have z4 := Z 4 (by omega)
    have M0 := heap_cell km 0 rfl
    have M1 := heap_cell km 1 rfl
    have E0 := heap_cell kx 0 rfl
    have E1 := heap_cell kx 1 rfl
    have hPq := HPp.out _ tw
    clear Z k1 k2 k3 kx km tW tW1
    go_wp2_with fail
    go_at_call 23
    refine Calls.mono (HJ.out _ q y w7 hPq.2) ?_
    rintro e w8 ⟨rfl, bb⟩
    have Tw8 : Hid (∀ w', Below w8.heap.size w8 w' → Below W5.heap.size W5 w') := fun w' h => Tw7.out w' (Below.thenOf bb h bb.size)
    rw [J2.out]
    clear P0 P1 Q0 Q1 z0 z1 z2 z3 z4 M0 M1 E0 E1 bb
    obtain ⟨hPE, kx, tW⟩ := HXp.out w8 (Tw8.out w8 (Below.refl _ _))
    obtain ⟨hPM, km, tW1⟩ := HMp.out w8 tW
    obtain ⟨k1, k2, k3, tw⟩ := HK.out w8 tW1
    have P0 := heap_cell k1 0 rfl
    have P1 := heap_cell k1 1 rfl
    have Q0 := heap_cell k2 0 rfl
    have Q1 := heap_cell k2 1 rfl
    have Z := (cellsX_at k3).1
    have z0 := Z 0 (by omega)
    have z1 := Z 1 (by omega)
    have z2 := Z 2 (by omega)
    have z3 := Z 3 (by omega)
    have z4 := Z 4 (by omega)
    have M0 := heap_cell km 0 rfl
    have M1 := heap_cell km 1 rfl
    have E0 := heap_cell kx 0 rfl
    have E1 := heap_cell kx 1 rfl
    have hPq := HPp.out _ tw
    clear Z k1 k2 k3 kx km tW tW1
    go_wp2_with fail
    go_at_call 23
    refine Calls.mono (HJ.out _ (meetR false p q) y w8 hPM) ?_
    rintro e w9 ⟨rfl, bb⟩
    have Tw9 : Hid (∀ w', Below w9.heap.size w9 w' → Below W5.heap.size W5 w') := fun w' h => Tw8.out w' (Below.thenOf bb h bb.size)
    rw [J3.out]
    clear P0 P1 Q0 Q1 z0 z1 z2 z3 z4 M0 M1 E0 E1 bb
    obtain ⟨hPE, kx, tW⟩ := HXp.out w9 (Tw9.out w9 (Below.refl _ _))
    obtain ⟨hPM, km, tW1⟩ := HMp.out w9 tW
    obtain ⟨k1, k2, k3, tw⟩ := HK.out w9 tW1
    have P0 := heap_cell k1 0 rfl
    have P1 := heap_cell k1 1 rfl
    have Q0 := heap_cell k2 0 rfl
    have Q1 := heap_cell k2 1 rfl
    have Z := (cellsX_at k3).1
    have z0 := Z 0 (by omega)
    have z1 := Z 1 (by omega)
    have z2 := Z 2 (by omega)
    have z3 := Z 3 (by omega)
    have z4 := Z 4 (by omega)
    have M0 := heap_cell km 0 rfl
    have M1 := heap_cell km 1 rfl
    have E0 := heap_cell kx 0 rfl
    have E1 := heap_cell kx 1 rfl
    have hPq := HPp.out _ tw
    clear Z k1 k2 k3 kx km tW tW1
    go_wp2_with fail
    go_at_call 23
    refine Calls.mono (HJ.out _ (meetR true p q) y w9 hPE) ?_
    rintro e w10 ⟨rfl, bb⟩
    have Tw10 : Hid (∀ w', Below w10.heap.size w10 w' → Below W5.heap.size W5 w') := fun w' h => Tw9.out w' (Below.thenOf bb h bb.size)
    rw [J4.out]
    clear P0 P1 Q0 Q1 z0 z1 z2 z3 z4 M0 M1 E0 E1 bb
    obtain ⟨hPE, kx, tW⟩ := HXp.out w10 (Tw10.out w10 (Below.refl _ _))
    obtain ⟨hPM, km, tW1⟩ := HMp.out w10 tW
    obtain ⟨k1, k2, k3, tw⟩ := HK.out w10 tW1
    have P0 := heap_cell k1 0 rfl
    have P1 := heap_cell k1 1 rfl
    have Q0 := heap_cell k2 0 rfl
    have Q1 := heap_cell k2 1 rfl
    have Z := (cellsX_at k3).1
    have z0 := Z 0 (by omega)
    have z1 := Z 1 (by omega)
    have z2 := Z 2 (by omega)
    have z3 := Z 3 (by omega)
    have z4 := Z 4 (by omega)
    have M0 := heap_cell km 0 rfl
    have M1 := heap_cell km 1 rfl
    have E0 := heap_cell kx 0 rfl
    have E1 := heap_cell kx 1 rfl
    have hPq := HPp.out _ tw
    clear Z k1 k2 k3 kx km tW tW1
    have tF : Hid _ := tw
    clear P0 P1 Q0 Q1 z0 z1 z2 z3 z4 M0 M1 E0 E1 hPE hPM hPq tw
    by_cases hvu : v < u
    · have o1 : ofV false v u = v := by unfold ofV; rw [if_pos hvu]
      have o2 : ofV true v u = v := by unfold ofV; rw [if_pos hvu]
      rw [o1, o2]
      clear o1 o2 J1 J2 J3 J4 HT
      have hle : v ≤ u := by omega
      go_wp2_with fail
      go_ret
      exact ⟨rfl, tF.out⟩
    · have o1 : ofV false v u = u := by unfold ofV; rw [if_neg hvu]; rfl
      have o2 : ofV true v u = 4 := by unfold ofV; rw [if_neg hvu]; rfl
      rw [o1, o2]
      clear o1 o2 J1 J2 J3 J4 HT
      have hge : u ≤ v := by omega
      go_wp2_with fail
      all_goals
        go_ret
        exact ⟨rfl, tF.out⟩
  · have hq : (e1 != 0) = true := by simpa using h0
    clear h0
    go_wp2_with fail
    go_at_call 29
    refine Calls.mono (HM.out _ bw6) ?_
    rintro e w7 ⟨rfl, b67⟩
    have tF : Hid (Below w.heap.size w w7) := Below.thenOf bw6 b67 bw6.size
    go_wp2_with fail
    go_ret
    exact ⟨by simp, tF.out⟩

end Go.Proofs.YtacjnooegahidabGreatDoor
