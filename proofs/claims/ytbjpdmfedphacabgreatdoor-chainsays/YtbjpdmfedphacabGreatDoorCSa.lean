/- ChainSays returns true, whatever the chains, the call and the policies, in whatever memory. -/
import Derived.Test.YtbjpdmfedphacabGreatDoorCj46
import Derived.Test.YtbjpdmfedphacabGreatDoorSame3
set_option linter.all false
set_option maxRecDepth 100000
namespace Go.Proofs.YtbjpdmfedphacabGreatDoor
open Go.RowKit Go.Maps

set_option maxHeartbeats 16000000 in
theorem chainSays_any (B : Nat) (lv pv qv mv : Value) (ls : ChT) (x : Nat → Int) (p q : PolT) (ms : ChT) (w : World) (he : EnvAt w) (hl : ChsAt B w lv ls) (hp : PolAt B w pv p) (hq : PolAt B w qv q) (hm : ChsAt B w mv ms) (hB : B ≤ w.heap.size) :
    Calls Tryz.prog 12 #[lv, callV x, pv, qv, mv] w fun e w' => e = .returned (.bool true) ∧ Below w.heap.size w w' := by
  have HT : Hid (∀ w', Below w.heap.size w w' → Calls Tryz.prog 41 #[] w' fun e w'' => e = .returned (.bool true) ∧ Below w'.heap.size w' w'') := fun w' h => tightened_true w' (he.later h)
  have HAs : Hid (∀ w', Below w.heap.size w w' → Calls Tryz.prog 35 #[lv, .agg #[.int .i64 (x 0), .int .i64 (x 1), .int .i64 (x 2), .int .i64 (x 3), .int .i64 (x 4)]] w' fun e w'' => e = .returned (.tuple #[.int .i64 (askV ls x), .int .i64 (askE ls x)]) ∧ Below w'.heap.size w' w'') := fun w' h => askD_any B lv ls x w' (hl.later h hB) (Nat.le_trans hB h.size)
  have HD : Hid (∀ w', Below w.heap.size w w' → Calls Tryz.prog 36 #[pv, qv] w' fun e w'' => ∃ v, e = .returned (.tuple #[v, .int .i64 (deltaE p q)]) ∧ PolAt w''.heap.size w'' v (deltaR p q) ∧ Below w'.heap.size w' w'') := fun w' h => deltaD_any B pv qv p q w' (hp.later h hB) (hq.later h hB) (Nat.le_trans hB h.size)
  have HDr : Hid (∀ w', Below w.heap.size w w' → Calls Tryz.prog 39 #[pv, qv] w' fun e w'' => ∃ v, e = .returned (.tuple #[v, .int .i64 (deltaE p q)]) ∧ PolAt w''.heap.size w'' v (deltaR p q) ∧ Below w'.heap.size w' w'') := fun w' h => deltaOf_any B pv qv p q w' (hp.later h hB) (hq.later h hB) (Nat.le_trans hB h.size)
  have HTi : Hid (∀ w', Below w.heap.size w w' → Calls Tryz.prog 37 #[lv, pv, qv] w' fun e w'' => ∃ v, e = .returned (.tuple #[v, .int .i64 (tightE ls p q)]) ∧ ChsAt w''.heap.size w'' v (tightR ls p q) ∧ Below w'.heap.size w' w'') := fun w' h => tightenD_any B lv pv qv ls p q w' (hl.later h hB) (hp.later h hB) (hq.later h hB) (Nat.le_trans hB h.size)
  have HTr : Hid (∀ w', Below w.heap.size w w' → Calls Tryz.prog 40 #[lv, pv, qv] w' fun e w'' => ∃ v, e = .returned (.tuple #[v, .int .i64 (tightE ls p q)]) ∧ ChsAt w''.heap.size w'' v (tightR ls p q) ∧ Below w'.heap.size w' w'') := fun w' h => tightened_any B lv pv qv ls p q w' (hl.later h hB) (hp.later h hB) (hq.later h hB) (Nat.le_trans hB h.size)
  have HC : Hid (∀ w', Below w.heap.size w w' → Calls Tryz.prog 42 #[lv] w' fun e w'' => e = .returned (.int .i64 (chainErr ls)) ∧ Below w'.heap.size w' w'') := fun w' h => checkD_any B lv ls w' (hl.later h hB) (Nat.le_trans hB h.size)
  have HCr : Hid (∀ w', Below w.heap.size w w' → Calls Tryz.prog 38 #[lv] w' fun e w'' => e = .returned (.int .i64 (chainErr ls)) ∧ Below w'.heap.size w' w'') := fun w' h => checkChain_any B lv ls w' (hl.later h hB) (Nat.le_trans hB h.size)
  have HS : Hid (∀ w', Below w.heap.size w w' → Calls Tryz.prog 43 #[lv, mv] w' fun e w'' => e = .returned (.bool (decide (ls = ms))) ∧ Below w'.heap.size w' w'') := fun w' h => sameD_any B lv mv ls ms w' (hl.later h hB) (hm.later h hB) (Nat.le_trans hB h.size)
  have HSr : Hid (∀ w', Below w.heap.size w w' → Calls Tryz.prog 44 #[lv, mv] w' fun e w'' => e = .returned (.bool (decide (ls = ms))) ∧ Below w'.heap.size w' w'') := fun w' h => sameChain_any B lv mv ls ms w' (hl.later h hB) (hm.later h hB) (Nat.le_trans hB h.size)
  have HAr : Hid (chainErr ls = 0 → ∀ w', Below w.heap.size w w' → Calls Tryz.prog 46 #[lv, .agg #[.int .i64 (x 0), .int .i64 (x 1), .int .i64 (x 2), .int .i64 (x 3), .int .i64 (x 4)]] w' fun e w'' => e = .returned (.int .i64 (askF x 4 ls)) ∧ Below w'.heap.size w' w'') := fun h0 w' h => asked_any B lv ls x w' (hl.later h hB) (Nat.le_trans hB h.size) (chainErr_ok.1 h0).2
  have hA : Hid (∀ (W : World) X, Below W.heap.size W (W.alloc X)) := fun W X => (Below.refl _ _).alloc (Nat.le_refl _) _
  have HV : Hid (askE ls x = (if chainErr ls = 0 then chkx x else chainErr ls) ∧ askV ls x = if askE ls x = 0 then askF x 4 ls else 0) := ⟨rfl, rfl⟩
  obtain ⟨a1, n1, c1, d1, rfl⟩ : ∃ a n c d, pv = .agg #[.slice a n c, .int .i64 d] := by
    obtain ⟨rv, rfl, _, hr⟩ := hp
    obtain ⟨a, c, rfl, _⟩ := hr
    exact ⟨_, _, _, _, rfl⟩
  obtain ⟨a2, n2, c2, d2, rfl⟩ : ∃ a n c d, qv = .agg #[.slice a n c, .int .i64 d] := by
    obtain ⟨rv, rfl, _, hr⟩ := hq
    obtain ⟨a, c, rfl, _⟩ := hr
    exact ⟨_, _, _, _, rfl⟩
  obtain ⟨la, lc, rfl, -, -⟩ := hl.shape
  obtain ⟨ma, mc, rfl, -, -⟩ := hm.shape
  clear hp hq he hl hm
  generalize ls.length = ln at *
  generalize ms.length = mn at *
  generalize decide (ls = ms) = same at *
  generalize deltaE p q = de at *
  generalize deltaR p q = dr at *
  generalize tightE ls p q = te at *
  generalize tightR ls p q = tr at *
  generalize chainErr ls = ce at *
  generalize askE ls x = ae at *
  generalize askV ls x = av at *
  generalize askF x 4 ls = af at *
  show Calls Tryz.prog 12 #[.slice la ln lc, .agg #[.int .i64 (x 0), .int .i64 (x 1), .int .i64 (x 2), .int .i64 (x 3), .int .i64 (x 4)], .agg #[.slice a1 n1 c1, .int .i64 d1], .agg #[.slice a2 n2 c2, .int .i64 d2], .slice ma mn mc] w _
  go_enter Tryz.func12, Tryz.ntmps12
  obtain ⟨W0, hW0⟩ : ∃ W0, W0 = ((w.alloc (.cells #[.int .i64 (x 0), .int .i64 (x 1), .int .i64 (x 2), .int .i64 (x 3), .int .i64 (x 4)] 29)).alloc (.cells #[.slice a1 n1 c1, .int .i64 d1] 38)).alloc (.cells #[.slice a2 n2 c2, .int .i64 d2] 38) := ⟨_, rfl⟩
  have s0 : W0.heap.size = w.heap.size + 3 := by rw [hW0]; simp
  have bw0 : Below w.heap.size w W0 := by rw [hW0]; exact (((Below.refl _ _).alloc (Nat.le_refl _) _).alloc (by simp) _).alloc (by simp; omega) _
  have hx0 : W0.heap[w.heap.size]? = some (.cells (cellsX x) 29 (0, 0)) := by rw [hW0]; exact heap_kept' _ (heap_kept' _ (heap_at _ _ rfl))
  have hp0 : W0.heap[w.heap.size + 1]? = some (.cells #[.slice a1 n1 c1, .int .i64 d1] 38 (0, 0)) := by rw [hW0]; exact heap_kept' _ (heap_at _ _ (by simp only [World.size_alloc]))
  have hq0 : W0.heap[w.heap.size + 1 + 1]? = some (.cells #[.slice a2 n2 c2, .int .i64 d2] 38 (0, 0)) := by rw [hW0]; exact heap_at _ _ (by simp only [World.size_alloc])
  have HK0 : Hid (∀ w', Below W0.heap.size W0 w' → w'.heap[w.heap.size]? = some (.cells (cellsX x) 29 (0, 0)) ∧ w'.heap[w.heap.size + 1]? = some (.cells #[.slice a1 n1 c1, .int .i64 d1] 38 (0, 0)) ∧ w'.heap[w.heap.size + 1 + 1]? = some (.cells #[.slice a2 n2 c2, .int .i64 d2] 38 (0, 0)) ∧ Below w.heap.size w w') := fun w' h =>
    ⟨(h.block _ (by omega)).trans hx0, (h.block _ (by omega)).trans hp0, (h.block _ (by omega)).trans hq0, Below.thenOf bw0 h bw0.size⟩
  have HW0 : Hid (W0 = _) := hW0
  clear hW0 hx0 hp0 hq0
  go_wp2_with fail
  rw [← HW0.out]
  go_at_call 35
  refine Calls.mono (HAs.out _ bw0) ?_
  rintro e w1 ⟨rfl, b01⟩
  obtain ⟨k1, k2, k3, bw1⟩ := HK0.out w1 b01
  have l1 := lt_of_block k1
  have l2 := lt_of_block k2
  have l3 := lt_of_block k3
  obtain ⟨P0, P1⟩ := two_at k2
  obtain ⟨Q0, Q1⟩ := two_at k3
  have B1 : Hid (Below W0.heap.size W0 w1 ∧ Below w.heap.size w w1) := ⟨b01, bw1⟩
  clear k1 k2 k3 bw1 b01 bw0 HAs HW0
  go_wp2_with fail
  go_at_call 36
  refine Calls.mono (HD.out _ B1.out.2) ?_
  rintro e w2 ⟨dv, rfl, hpd, b12⟩
  have b02 : Below W0.heap.size W0 w2 := Below.thenOf B1.out.1 b12 B1.out.1.size
  obtain ⟨ad, nd, cd, dd, rfl⟩ : ∃ a n c d, dv = .agg #[.slice a n c, .int .i64 d] := by
    obtain ⟨rv, rfl, _, hr⟩ := hpd
    obtain ⟨a, c, rfl, _⟩ := hr
    exact ⟨_, _, _, _, rfl⟩
  obtain ⟨W3, hW3⟩ : ∃ W3, W3 = w2.alloc (.cells #[.slice ad nd cd, .int .i64 dd] 38) := ⟨_, rfl⟩
  have b23 : Below w2.heap.size w2 W3 := by rw [hW3]; exact hA.out _ _
  have hd3 : W3.heap[w2.heap.size]? = some (.cells #[.slice ad nd cd, .int .i64 dd] 38 (0, 0)) := by rw [hW3]; exact heap_made _ _
  have t3 := lt_of_block hd3
  have b03 := Below.thenOf b02 b23 b02.size
  have HK3 : Hid (∀ w', Below W3.heap.size W3 w' → Below W0.heap.size W0 w' ∧ w'.heap[w2.heap.size]? = some (.cells #[.slice ad nd cd, .int .i64 dd] 38 (0, 0)) ∧ PolAt w2.heap.size w' (.agg #[.slice ad nd cd, .int .i64 dd]) dr) := fun w' h => ⟨Below.thenOf b03 h b03.size, (h.block _ t3).trans hd3, hpd.later (Below.thenOf b23 h b23.size) (Nat.le_refl _)⟩
  obtain ⟨k1, k2, k3, -⟩ := HK0.out w2 b02
  have l1 := lt_of_block k1
  have l2 := lt_of_block k2
  have l3 := lt_of_block k3
  obtain ⟨P0, P1⟩ := two_at k2
  obtain ⟨Q0, Q1⟩ := two_at k3
  have B3 : Hid (Below w.heap.size w W3) := (HK0.out W3 b03).2.2.2
  have HW3 : Hid (W3 = _) := hW3
  clear k1 k2 k3 hpd b12 b23 hd3 b02 b03 hW3 B1 HD
  go_wp2_with fail
  rw [← HW3.out]
  go_at_call 37
  refine Calls.mono (HTi.out _ B3.out) ?_
  rintro e w4 ⟨tv, rfl, ht4, b34⟩
  have HTv : Hid (∀ w', Below w4.heap.size w4 w' → ChsAt w4.heap.size w' tv tr) := fun w' h => ht4.later h (Nat.le_refl _)
  obtain ⟨ta, tc, rfl, -, -⟩ := ht4.shape
  have B4 : Hid (Below W3.heap.size W3 w4 ∧ Below w.heap.size w w4) := ⟨b34, Below.thenOf B3.out b34 B3.out.size⟩
  clear ht4 b34 HTi HW3 P0 P1 Q0 Q1
  generalize tr.length = tn at *
  go_wp2_with fail
  go_at_call 38
  refine Calls.mono (HCr.out _ B4.out.2) ?_
  rintro e w5 ⟨rfl, b45⟩
  have B5 : Hid (Below W3.heap.size W3 w5 ∧ Below w4.heap.size w4 w5 ∧ Below w.heap.size w w5) := ⟨Below.thenOf B4.out.1 b45 B4.out.1.size, b45, Below.thenOf B4.out.2 b45 B4.out.2.size⟩
  obtain ⟨k1, k2, k3, -⟩ := HK0.out w5 (HK3.out w5 B5.out.1).1
  have l1 := lt_of_block k1
  have l2 := lt_of_block k2
  have l3 := lt_of_block k3
  obtain ⟨P0, P1⟩ := two_at k2
  obtain ⟨Q0, Q1⟩ := two_at k3
  clear k1 k2 k3 b45 HCr B4
  go_wp2_with fail
  go_at_call 39
  refine Calls.mono (HDr.out _ B5.out.2.2) ?_
  rintro e w6 ⟨Dv, rfl, hpD, b56⟩
  have b36 : Below W3.heap.size W3 w6 := Below.thenOf B5.out.1 b56 B5.out.1.size
  have b46 : Below w4.heap.size w4 w6 := Below.thenOf B5.out.2.1 b56 B5.out.2.1.size
  obtain ⟨aD, nD, cD, dD, rfl⟩ : ∃ a n c d, Dv = .agg #[.slice a n c, .int .i64 d] := by
    obtain ⟨rv, rfl, _, hr⟩ := hpD
    obtain ⟨a, c, rfl, _⟩ := hr
    exact ⟨_, _, _, _, rfl⟩
  obtain ⟨W7, hW7⟩ : ∃ W7, W7 = w6.alloc (.cells #[.slice aD nD cD, .int .i64 dD] 38) := ⟨_, rfl⟩
  have b67 : Below w6.heap.size w6 W7 := by rw [hW7]; exact hA.out _ _
  have hD7 : W7.heap[w6.heap.size]? = some (.cells #[.slice aD nD cD, .int .i64 dD] 38 (0, 0)) := by rw [hW7]; exact heap_made _ _
  have t7 := lt_of_block hD7
  have b37 := Below.thenOf b36 b67 b36.size
  have b47 := Below.thenOf b46 b67 b46.size
  have HK7 : Hid (∀ w', Below W7.heap.size W7 w' → Below W3.heap.size W3 w' ∧ Below w4.heap.size w4 w' ∧ w'.heap[w6.heap.size]? = some (.cells #[.slice aD nD cD, .int .i64 dD] 38 (0, 0)) ∧ PolAt w6.heap.size w' (.agg #[.slice aD nD cD, .int .i64 dD]) dr) := fun w' h => ⟨Below.thenOf b37 h b37.size, Below.thenOf b47 h b47.size, (h.block _ t7).trans hD7, hpD.later (Below.thenOf b67 h b67.size) (Nat.le_refl _)⟩
  obtain ⟨k1, k2, k3, -⟩ := HK0.out w6 (HK3.out w6 b36).1
  have l1 := lt_of_block k1
  have l2 := lt_of_block k2
  have l3 := lt_of_block k3
  obtain ⟨P0, P1⟩ := two_at k2
  obtain ⟨Q0, Q1⟩ := two_at k3
  have B7 : Hid (Below w.heap.size w W7) := (HK0.out W7 (HK3.out W7 b37).1).2.2.2
  have HW7 : Hid (W7 = _) := hW7
  clear k1 k2 k3 hpD b56 b67 hD7 b36 b46 b37 b47 hW7 B5 HDr
  go_wp2_with fail
  rw [← HW7.out]
  go_at_call 40
  refine Calls.mono (HTr.out _ B7.out) ?_
  rintro e w8 ⟨Tv, rfl, hT8, b78⟩
  have HTv2 : Hid (∀ w', Below w8.heap.size w8 w' → ChsAt w8.heap.size w' Tv tr) := fun w' h => hT8.later h (Nat.le_refl _)
  obtain ⟨Ta, Tn, Tc, rfl⟩ : ∃ a n c, Tv = .slice a n c := by
    obtain ⟨a, c, e, -, -⟩ := hT8.shape
    exact ⟨_, _, _, e⟩
  have B8 : Hid (Below W7.heap.size W7 w8 ∧ Below w.heap.size w w8) := ⟨b78, Below.thenOf B7.out b78 B7.out.size⟩
  clear hT8 b78 HTr HW7 P0 P1 Q0 Q1 B7
  go_wp2_with fail
  go_at_call 41
  refine Calls.mono (HT.out _ B8.out.2) ?_
  rintro e w9 ⟨rfl, b89⟩
  have B9 : Hid (Below w8.heap.size w8 w9 ∧ Below w.heap.size w w9) := ⟨b89, Below.thenOf B8.out.2 b89 B8.out.2.size⟩
  clear b89 HT
  go_wp2_with fail
  go_at_call 42
  refine Calls.mono (HC.out _ B9.out.2) ?_
  rintro e w10 ⟨rfl, b910⟩
  have B10 : Hid (Below w8.heap.size w8 w10 ∧ Below w.heap.size w w10) := ⟨Below.thenOf B9.out.1 b910 B9.out.1.size, Below.thenOf B9.out.2 b910 B9.out.2.size⟩
  clear b910 HC B9
  go_wp2_with fail
  go_at_call 43
  refine Calls.mono (HS.out _ B10.out.2) ?_
  rintro e w11 ⟨rfl, b1011⟩
  have B11 : Hid (Below w8.heap.size w8 w11 ∧ Below w.heap.size w w11) := ⟨Below.thenOf B10.out.1 b1011 B10.out.1.size, Below.thenOf B10.out.2 b1011 B10.out.2.size⟩
  clear b1011 HS B10
  go_wp2_with fail
  go_at_call 44
  refine Calls.mono (HSr.out _ B11.out.2) ?_
  rintro e w12 ⟨rfl, b1112⟩
  have B12 : Hid (Below w8.heap.size w8 w12 ∧ Below w.heap.size w w12) := ⟨Below.thenOf B11.out.1 b1112 B11.out.1.size, Below.thenOf B11.out.2 b1112 B11.out.2.size⟩
  obtain ⟨b3, -, kD, hD⟩ := HK7.out w12 (Below.thenOf B8.out.1 B12.out.1 B8.out.1.size)
  obtain ⟨-, kd, hd⟩ := HK3.out w12 b3
  have ld := lt_of_block kd
  have lD := lt_of_block kD
  obtain ⟨U0, U1⟩ := two_at kd
  obtain ⟨V0, V1⟩ := two_at kD
  have HSP : Hid (Calls Tryz.prog 33 #[.agg #[.slice ad nd cd, .int .i64 dd], .agg #[.slice aD nD cD, .int .i64 dD]] w12 fun e w' => e = .returned (.bool true) ∧ Below w12.heap.size w12 w') := by
    unfold Hid
    have := samePolicy_any w12.heap.size _ _ dr dr w12 (hd.wideT (by omega)) (hD.wideT (by omega)) (Nat.le_refl _)
    simpa using this
  clear b1112 HSr B11 kd kD hd hD b3
  go_wp2_with fail
  go_at_call 33
  refine Calls.mono HSP.out ?_
  rintro e w13 ⟨rfl, b1213⟩
  have B13 : Hid (Below w8.heap.size w8 w13 ∧ Below w.heap.size w w13) := ⟨Below.thenOf B12.out.1 b1213 B12.out.1.size, Below.thenOf B12.out.2 b1213 B12.out.2.size⟩
  have HSC : Hid (Calls Tryz.prog 44 #[.slice ta tn tc, .slice Ta Tn Tc] w13 fun e w' => e = .returned (.bool true) ∧ Below w13.heap.size w13 w') := by
    unfold Hid
    have b4 := (HK7.out w13 (Below.thenOf B8.out.1 B13.out.1 B8.out.1.size)).2.1
    have := sameChain_any w13.heap.size _ _ tr tr w13 ((HTv.out w13 b4).mono b4.size) ((HTv2.out w13 B13.out.1).mono B13.out.1.size) (Nat.le_refl _)
    simpa using this
  clear b1213 HSP B12 U0 U1 V0 V1
  go_wp2_with fail
  go_at_call 44
  refine Calls.mono HSC.out ?_
  rintro e w14 ⟨rfl, b1314⟩
  have B14 : Hid (Below w8.heap.size w8 w14 ∧ Below w.heap.size w w14) := ⟨Below.thenOf B13.out.1 b1314 B13.out.1.size, Below.thenOf B13.out.2 b1314 B13.out.2.size⟩
  obtain ⟨k1, -, -, -⟩ := HK0.out w14 (HK3.out w14 (HK7.out w14 (Below.thenOf B8.out.1 B14.out.1 B8.out.1.size)).1).1
  have l1 := lt_of_block k1
  obtain ⟨z0, z1, z2, z3, z4⟩ := five_at k1
  clear b1314 HSC B13 k1
  have HCC : Hid (∀ w', Calls Tryz.prog 45 #[.agg #[.int .i64 (x 0), .int .i64 (x 1), .int .i64 (x 2), .int .i64 (x 3), .int .i64 (x 4)]] w' fun e w'' => e = .returned (.int .i64 (chkx x)) ∧ Below w'.heap.size w' w'') := fun w' => checkCall_any _ _ _ _ _ w'
  by_cases hce : ce = 0
  · subst hce
    obtain ⟨hv1, hv2⟩ := HV.out
    rw [if_pos rfl] at hv1
    have hae : Hid (ae = chkx x) := hv1
    have hav : Hid (av = if ae = 0 then af else 0) := hv2
    have HAr' : Hid _ := HAr.out rfl
    clear hv1 hv2 HV HAr
    generalize chkx x = cx at *
    go_wp2_with fail
    go_at_call 45
    refine Calls.mono (HCC.out _) ?_
    rintro e w15 ⟨rfl, b1415⟩
    have B15 : Hid (Below w8.heap.size w8 w15 ∧ Below w.heap.size w w15) := ⟨Below.thenOf B14.out.1 b1415 B14.out.1.size, Below.thenOf B14.out.2 b1415 B14.out.2.size⟩
    obtain ⟨k1, -, -, -⟩ := HK0.out w15 (HK3.out w15 (HK7.out w15 (Below.thenOf B8.out.1 B15.out.1 B8.out.1.size)).1).1
    have l1 := lt_of_block k1
    obtain ⟨z0, z1, z2, z3, z4⟩ := five_at k1
    clear b1415 k1
    obtain rfl : ae = cx := hae.out
    by_cases hcx : ae = 0
    · subst hcx
      obtain rfl : av = af := by rw [hav.out, if_pos rfl]
      clear hav hae
      go_wp2_with fail
      go_at_call 46
      refine Calls.mono (HAr'.out _ B15.out.2) ?_
      rintro e w16 ⟨rfl, b1516⟩
      have B16 : Hid (Below w.heap.size w w16) := Below.thenOf B15.out.2 b1516 B15.out.2.size
      clear b1516
      go_wp2_with fail
      go_ret
      exact ⟨by simp, B16.out⟩
    · obtain rfl : av = 0 := by rw [hav.out, if_neg hcx]
      have hq : (ae != 0) = true := by simpa using hcx
      clear hav hae HAr'
      go_wp2_with fail
      go_ret
      exact ⟨by simp, B15.out.2⟩
  · obtain ⟨hv1, hv2⟩ := HV.out
    rw [if_neg hce] at hv1
    obtain rfl : ae = ce := hv1
    obtain rfl : av = 0 := by rw [hv2, if_neg hce]
    have hq : (ae != 0) = true := by simpa using hce
    have hq2 : (ae == 0) = false := by simpa using hce
    clear hv2 HV HAr HCC
    go_wp2_with fail
    go_ret
    exact ⟨by simp, B14.out.2⟩
end Go.Proofs.YtbjpdmfedphacabGreatDoor
