/- MeetSays returns true, whatever the policies, in whatever memory that lays the variables. -/
import Derived.Test.YtacjnooegahidabGreatDoorMj34
import Derived.Test.YtacjnooegahidabGreatDoorMj15
import Derived.Test.YtacjnooegahidabGreatDoorMj27
import Derived.Test.YtacjnooegahidabGreatDoorSame3
set_option linter.all false
set_option maxRecDepth 100000
namespace Go.Proofs.YtacjnooegahidabGreatDoor
open Go.RowKit Go.Maps

theorem pol_four {B : Nat} {w : World} {v : Value} {p : PolT} (h : PolAt B w v p) : ∃ a n c d, v = .agg #[.slice a n c, .int .i64 d] := by
  obtain ⟨rv, rfl, _, a, c, rfl, _⟩ := h
  exact ⟨a, _, c, _, rfl⟩

set_option maxHeartbeats 16000000 in
theorem meetSays_any (B : Nat) (pv qv : Value) (p q : PolT) (w : World) (he : EnvT w) (hsp : Lib.TabIs Tryz.prog w "strings.asciiSpace" .u8 Lib.asciiSpaceTab) (hp : PolAt B w pv p) (hq : PolAt B w qv q) (hB : B ≤ w.heap.size) :
    Calls Tryz.prog 7 #[pv, qv] w fun e w' => e = .returned (.bool true) ∧ Below w.heap.size w w' := by
  have HM : Hid (∀ w', Below w.heap.size w w' → Calls Tryz.prog 29 #[] w' fun e w'' => e = .returned (.bool true) ∧ Below w'.heap.size w' w'') := fun w' h => met_true w' (he.later h) (tab_later hsp h)
  have HC1 : Hid (∀ w', Below w.heap.size w w' → Calls Tryz.prog 24 #[pv, qv] w' fun e w'' => ∃ v, e = .returned (.tuple #[v, .int .i64 (meetE false p q)]) ∧ PolAt w''.heap.size w'' v (meetR false p q) ∧ Below w'.heap.size w' w'') := fun w' h => (meetD_any B pv qv p q w' (hp.later h hB) (hq.later h hB) (Nat.le_trans hB h.size)).mono fun e w'' ⟨v, h1, h2, h3⟩ => ⟨v, h1, h2.at, h3⟩
  have HC2 : Hid (∀ w', Below w.heap.size w w' → Calls Tryz.prog 25 #[pv, qv] w' fun e w'' => ∃ v, e = .returned (.tuple #[v, .int .i64 (meetE true p q)]) ∧ PolAt w''.heap.size w'' v (meetR true p q) ∧ Below w'.heap.size w' w'') := fun w' h => (exceptD_any B pv qv p q w' (hp.later h hB) (hq.later h hB) (Nat.le_trans hB h.size)).mono fun e w'' ⟨v, h1, h2, h3⟩ => ⟨v, h1, h2.at, h3⟩
  have HC3 : Hid (∀ w', Below w.heap.size w w' → Calls Tryz.prog 26 #[pv] w' fun e w'' => ∃ v, e = .returned (.tuple #[v, .int .i64 (pointsE [p])]) ∧ PolAt w''.heap.size w'' v (shortR p) ∧ Below w'.heap.size w' w'') := fun w' h => shortD_any B pv p w' (hp.later h hB) (Nat.le_trans hB h.size)
  have HC4 : Hid (∀ w', Below w.heap.size w w' → Calls Tryz.prog 27 #[pv, qv, .bool false] w' fun e w'' => ∃ v, e = .returned (.tuple #[v, .int .i64 (meetE false p q)]) ∧ PolAt w''.heap.size w'' v (meetR false p q) ∧ Below w'.heap.size w' w'') := fun w' h => both_any B pv qv p q false w' (hp.later h hB) (hq.later h hB) (Nat.le_trans hB h.size)
  have HC5 : Hid (∀ w', Below w.heap.size w w' → Calls Tryz.prog 27 #[pv, qv, .bool true] w' fun e w'' => ∃ v, e = .returned (.tuple #[v, .int .i64 (meetE true p q)]) ∧ PolAt w''.heap.size w'' v (meetR true p q) ∧ Below w'.heap.size w' w'') := fun w' h => both_any B pv qv p q true w' (hp.later h hB) (hq.later h hB) (Nat.le_trans hB h.size)
  have HC6 : Hid (∀ w', Below w.heap.size w w' → Calls Tryz.prog 28 #[pv] w' fun e w'' => ∃ v, e = .returned (.tuple #[v, .int .i64 (pointsE [p])]) ∧ PolAt w''.heap.size w'' v (shortR p) ∧ Below w'.heap.size w' w'') := fun w' h => shorter_any B pv p w' (hp.later h hB) (Nat.le_trans hB h.size)
  have HSa : Hid (∀ (sv tv : Value) (s : PolT) w', PolAt w'.heap.size w' sv s → PolAt w'.heap.size w' tv s → Calls Tryz.prog 30 #[sv, tv] w' fun e w'' => e = .returned (.bool true) ∧ Below w'.heap.size w' w'') := fun sv tv s w' hs ht => by
    have := samePolicy_any _ sv tv s s w' hs ht (Nat.le_refl _)
    rw [decide_eq_true rfl] at this
    exact this
  have hA : Hid (∀ (W : World) X, Below W.heap.size W (W.alloc X)) := fun W X => (Below.refl _ _).alloc (Nat.le_refl _) _
  obtain ⟨a1, n1, c1, d1, rfl⟩ := pol_four hp
  obtain ⟨a2, n2, c2, d2, rfl⟩ := pol_four hq
  clear hp hq he hsp
  generalize meetE false p q = e1 at *
  generalize meetE true p q = e2 at *
  generalize pointsE [p] = e3 at *
  go_enter Tryz.func7, Tryz.ntmps7
  obtain ⟨W0, hW0⟩ : ∃ W0, W0 = (w.alloc (.cells #[.slice a1 n1 c1, .int .i64 d1] 38)).alloc (.cells #[.slice a2 n2 c2, .int .i64 d2] 38) := ⟨_, rfl⟩
  have bw0 : Below w.heap.size w W0 := by rw [hW0]; exact ((Below.refl _ _).alloc (Nat.le_refl _) _).alloc (by simp) _
  have hp0 : W0.heap[w.heap.size]? = some (.cells #[.slice a1 n1 c1, .int .i64 d1] 38 (0, 0)) := by
    rw [hW0]
    exact ((hA.out _ _).block _ (by simp)).trans (heap_made w _)
  have hq0 : W0.heap[w.heap.size + 1]? = some (.cells #[.slice a2 n2 c2, .int .i64 d2] 38 (0, 0)) := by
    rw [hW0]
    have := heap_made (w.alloc (.cells #[.slice a1 n1 c1, .int .i64 d1] 38)) (.cells #[.slice a2 n2 c2, .int .i64 d2] 38)
    simpa using this
  have HK : Hid (∀ w', Below W0.heap.size W0 w' → w'.heap[w.heap.size]? = some (.cells #[.slice a1 n1 c1, .int .i64 d1] 38 (0, 0)) ∧ w'.heap[w.heap.size + 1]? = some (.cells #[.slice a2 n2 c2, .int .i64 d2] 38 (0, 0)) ∧ Below w.heap.size w w') := fun w' h =>
    ⟨(h.block _ (lt_of_block hp0)).trans hp0, (h.block _ (lt_of_block hq0)).trans hq0, Below.thenOf bw0 h bw0.size⟩
  have HW0 : Hid (W0 = _) := hW0
  clear hW0 hp0 hq0
  go_wp2_with fail
  rw [← HW0.out]
  go_at_call 24
  refine Calls.mono (HC1.out _ bw0) ?_
  rintro e w1 ⟨vm, rfl, hm, bA⟩
  obtain ⟨am1, nm1, cm1, dm1, rfl⟩ := pol_four hm
  obtain ⟨W1, hWx⟩ : ∃ W3, W3 = w1.alloc (.cells #[.slice am1 nm1 cm1, .int .i64 dm1] 38) := ⟨_, rfl⟩
  have bB : Below w1.heap.size w1 W1 := by rw [hWx]; exact hA.out _ _
  have bC : Below W0.heap.size W0 W1 := Below.thenOf bA bB bA.size
  have hmx : W1.heap[w1.heap.size]? = some (.cells #[.slice am1 nm1 cm1, .int .i64 dm1] 38 (0, 0)) := by rw [hWx]; exact heap_made _ _
  have HM1 : Hid (∀ w', Below W1.heap.size W1 w' → PolAt w'.heap.size w' (.agg #[.slice am1 nm1 cm1, .int .i64 dm1]) (meetR false p q) ∧ w'.heap[w1.heap.size]? = some (.cells #[.slice am1 nm1 cm1, .int .i64 dm1] 38 (0, 0)) ∧ Below W0.heap.size W0 w') := fun w' h =>
    ⟨PolAt.wide (hm.later (Below.thenOf bB h bB.size) (Nat.le_refl _)) (Nat.le_trans bB.size h.size), (h.block _ (lt_of_block hmx)).trans hmx, Below.thenOf bC h bC.size⟩
  have bw1 : Below w.heap.size w W1 := Below.thenOf bw0 bC bw0.size
  have hV1 : Hid (W1 = _) := hWx
  obtain ⟨-, -, u1⟩ := HM1.out W1 (Below.refl _ _)
  obtain ⟨k1, k2, -⟩ := HK.out W1 u1
  have P0 := heap_cell k1 0 rfl
  have P1 := heap_cell k1 1 rfl
  have Q0 := heap_cell k2 0 rfl
  have Q1 := heap_cell k2 1 rfl
  have L1 := lt_of_block k1
  have L2 := lt_of_block k2
  rw [hWx] at P0 P1 Q0 Q1
  clear hWx hm hmx bA bB bC k1 k2 u1
  go_wp2_with fail
  rw [← hV1.out]
  clear P0 P1 Q0 Q1 L1 L2
  go_at_call 25
  refine Calls.mono (HC2.out _ bw1) ?_
  rintro e w2 ⟨vm, rfl, hm, bA⟩
  obtain ⟨am2, nm2, cm2, dm2, rfl⟩ := pol_four hm
  obtain ⟨W2, hWx⟩ : ∃ W3, W3 = w2.alloc (.cells #[.slice am2 nm2 cm2, .int .i64 dm2] 38) := ⟨_, rfl⟩
  have bB : Below w2.heap.size w2 W2 := by rw [hWx]; exact hA.out _ _
  have bC : Below W1.heap.size W1 W2 := Below.thenOf bA bB bA.size
  have hmx : W2.heap[w2.heap.size]? = some (.cells #[.slice am2 nm2 cm2, .int .i64 dm2] 38 (0, 0)) := by rw [hWx]; exact heap_made _ _
  have HM2 : Hid (∀ w', Below W2.heap.size W2 w' → PolAt w'.heap.size w' (.agg #[.slice am2 nm2 cm2, .int .i64 dm2]) (meetR true p q) ∧ w'.heap[w2.heap.size]? = some (.cells #[.slice am2 nm2 cm2, .int .i64 dm2] 38 (0, 0)) ∧ Below W1.heap.size W1 w') := fun w' h =>
    ⟨PolAt.wide (hm.later (Below.thenOf bB h bB.size) (Nat.le_refl _)) (Nat.le_trans bB.size h.size), (h.block _ (lt_of_block hmx)).trans hmx, Below.thenOf bC h bC.size⟩
  have bw2 : Below w.heap.size w W2 := Below.thenOf bw1 bC bw1.size
  have hV2 : Hid (W2 = _) := hWx
  obtain ⟨-, -, u2⟩ := HM2.out W2 (Below.refl _ _)
  obtain ⟨-, -, u1⟩ := HM1.out W2 u2
  obtain ⟨k1, k2, -⟩ := HK.out W2 u1
  have P0 := heap_cell k1 0 rfl
  have P1 := heap_cell k1 1 rfl
  have Q0 := heap_cell k2 0 rfl
  have Q1 := heap_cell k2 1 rfl
  have L1 := lt_of_block k1
  have L2 := lt_of_block k2
  rw [hWx] at P0 P1 Q0 Q1
  clear hWx hm hmx bA bB bC k1 k2 u1 u2
  go_wp2_with fail
  rw [← hV2.out]
  clear P0 P1 Q0 Q1 L1 L2
  go_at_call 26
  refine Calls.mono (HC3.out _ bw2) ?_
  rintro e w3 ⟨vm, rfl, hm, bA⟩
  obtain ⟨am3, nm3, cm3, dm3, rfl⟩ := pol_four hm
  obtain ⟨W3, hWx⟩ : ∃ W3, W3 = w3.alloc (.cells #[.slice am3 nm3 cm3, .int .i64 dm3] 38) := ⟨_, rfl⟩
  have bB : Below w3.heap.size w3 W3 := by rw [hWx]; exact hA.out _ _
  have bC : Below W2.heap.size W2 W3 := Below.thenOf bA bB bA.size
  have hmx : W3.heap[w3.heap.size]? = some (.cells #[.slice am3 nm3 cm3, .int .i64 dm3] 38 (0, 0)) := by rw [hWx]; exact heap_made _ _
  have HM3 : Hid (∀ w', Below W3.heap.size W3 w' → PolAt w'.heap.size w' (.agg #[.slice am3 nm3 cm3, .int .i64 dm3]) (shortR p) ∧ w'.heap[w3.heap.size]? = some (.cells #[.slice am3 nm3 cm3, .int .i64 dm3] 38 (0, 0)) ∧ Below W2.heap.size W2 w') := fun w' h =>
    ⟨PolAt.wide (hm.later (Below.thenOf bB h bB.size) (Nat.le_refl _)) (Nat.le_trans bB.size h.size), (h.block _ (lt_of_block hmx)).trans hmx, Below.thenOf bC h bC.size⟩
  have bw3 : Below w.heap.size w W3 := Below.thenOf bw2 bC bw2.size
  have hV3 : Hid (W3 = _) := hWx
  obtain ⟨-, -, u3⟩ := HM3.out W3 (Below.refl _ _)
  obtain ⟨-, -, u2⟩ := HM2.out W3 u3
  obtain ⟨-, -, u1⟩ := HM1.out W3 u2
  obtain ⟨k1, k2, -⟩ := HK.out W3 u1
  have P0 := heap_cell k1 0 rfl
  have P1 := heap_cell k1 1 rfl
  have Q0 := heap_cell k2 0 rfl
  have Q1 := heap_cell k2 1 rfl
  have L1 := lt_of_block k1
  have L2 := lt_of_block k2
  rw [hWx] at P0 P1 Q0 Q1
  clear hWx hm hmx bA bB bC k1 k2 u1 u2 u3
  go_wp2_with fail
  rw [← hV3.out]
  clear P0 P1 Q0 Q1 L1 L2
  go_at_call 27
  refine Calls.mono (HC4.out _ bw3) ?_
  rintro e w4 ⟨vm, rfl, hm, bA⟩
  obtain ⟨am4, nm4, cm4, dm4, rfl⟩ := pol_four hm
  obtain ⟨W4, hWx⟩ : ∃ W3, W3 = w4.alloc (.cells #[.slice am4 nm4 cm4, .int .i64 dm4] 38) := ⟨_, rfl⟩
  have bB : Below w4.heap.size w4 W4 := by rw [hWx]; exact hA.out _ _
  have bC : Below W3.heap.size W3 W4 := Below.thenOf bA bB bA.size
  have hmx : W4.heap[w4.heap.size]? = some (.cells #[.slice am4 nm4 cm4, .int .i64 dm4] 38 (0, 0)) := by rw [hWx]; exact heap_made _ _
  have HM4 : Hid (∀ w', Below W4.heap.size W4 w' → PolAt w'.heap.size w' (.agg #[.slice am4 nm4 cm4, .int .i64 dm4]) (meetR false p q) ∧ w'.heap[w4.heap.size]? = some (.cells #[.slice am4 nm4 cm4, .int .i64 dm4] 38 (0, 0)) ∧ Below W3.heap.size W3 w') := fun w' h =>
    ⟨PolAt.wide (hm.later (Below.thenOf bB h bB.size) (Nat.le_refl _)) (Nat.le_trans bB.size h.size), (h.block _ (lt_of_block hmx)).trans hmx, Below.thenOf bC h bC.size⟩
  have bw4 : Below w.heap.size w W4 := Below.thenOf bw3 bC bw3.size
  have hV4 : Hid (W4 = _) := hWx
  obtain ⟨-, -, u4⟩ := HM4.out W4 (Below.refl _ _)
  obtain ⟨-, -, u3⟩ := HM3.out W4 u4
  obtain ⟨-, -, u2⟩ := HM2.out W4 u3
  obtain ⟨-, -, u1⟩ := HM1.out W4 u2
  obtain ⟨k1, k2, -⟩ := HK.out W4 u1
  have P0 := heap_cell k1 0 rfl
  have P1 := heap_cell k1 1 rfl
  have Q0 := heap_cell k2 0 rfl
  have Q1 := heap_cell k2 1 rfl
  have L1 := lt_of_block k1
  have L2 := lt_of_block k2
  rw [hWx] at P0 P1 Q0 Q1
  clear hWx hm hmx bA bB bC k1 k2 u1 u2 u3 u4
  go_wp2_with fail
  rw [← hV4.out]
  clear P0 P1 Q0 Q1 L1 L2
  go_at_call 27
  refine Calls.mono (HC5.out _ bw4) ?_
  rintro e w5 ⟨vm, rfl, hm, bA⟩
  obtain ⟨am5, nm5, cm5, dm5, rfl⟩ := pol_four hm
  obtain ⟨W5, hWx⟩ : ∃ W3, W3 = w5.alloc (.cells #[.slice am5 nm5 cm5, .int .i64 dm5] 38) := ⟨_, rfl⟩
  have bB : Below w5.heap.size w5 W5 := by rw [hWx]; exact hA.out _ _
  have bC : Below W4.heap.size W4 W5 := Below.thenOf bA bB bA.size
  have hmx : W5.heap[w5.heap.size]? = some (.cells #[.slice am5 nm5 cm5, .int .i64 dm5] 38 (0, 0)) := by rw [hWx]; exact heap_made _ _
  have HM5 : Hid (∀ w', Below W5.heap.size W5 w' → PolAt w'.heap.size w' (.agg #[.slice am5 nm5 cm5, .int .i64 dm5]) (meetR true p q) ∧ w'.heap[w5.heap.size]? = some (.cells #[.slice am5 nm5 cm5, .int .i64 dm5] 38 (0, 0)) ∧ Below W4.heap.size W4 w') := fun w' h =>
    ⟨PolAt.wide (hm.later (Below.thenOf bB h bB.size) (Nat.le_refl _)) (Nat.le_trans bB.size h.size), (h.block _ (lt_of_block hmx)).trans hmx, Below.thenOf bC h bC.size⟩
  have bw5 : Below w.heap.size w W5 := Below.thenOf bw4 bC bw4.size
  have hV5 : Hid (W5 = _) := hWx
  obtain ⟨-, -, u5⟩ := HM5.out W5 (Below.refl _ _)
  obtain ⟨-, -, u4⟩ := HM4.out W5 u5
  obtain ⟨-, -, u3⟩ := HM3.out W5 u4
  obtain ⟨-, -, u2⟩ := HM2.out W5 u3
  obtain ⟨-, -, u1⟩ := HM1.out W5 u2
  obtain ⟨k1, k2, -⟩ := HK.out W5 u1
  have P0 := heap_cell k1 0 rfl
  have P1 := heap_cell k1 1 rfl
  have Q0 := heap_cell k2 0 rfl
  have Q1 := heap_cell k2 1 rfl
  have L1 := lt_of_block k1
  have L2 := lt_of_block k2
  rw [hWx] at P0 P1 Q0 Q1
  clear hWx hm hmx bA bB bC k1 k2 u1 u2 u3 u4 u5
  go_wp2_with fail
  rw [← hV5.out]
  clear P0 P1 Q0 Q1 L1 L2
  go_at_call 28
  refine Calls.mono (HC6.out _ bw5) ?_
  rintro e w6 ⟨vm, rfl, hm, bA⟩
  obtain ⟨am6, nm6, cm6, dm6, rfl⟩ := pol_four hm
  obtain ⟨W6, hWx⟩ : ∃ W3, W3 = w6.alloc (.cells #[.slice am6 nm6 cm6, .int .i64 dm6] 38) := ⟨_, rfl⟩
  have bB : Below w6.heap.size w6 W6 := by rw [hWx]; exact hA.out _ _
  have bC : Below W5.heap.size W5 W6 := Below.thenOf bA bB bA.size
  have hmx : W6.heap[w6.heap.size]? = some (.cells #[.slice am6 nm6 cm6, .int .i64 dm6] 38 (0, 0)) := by rw [hWx]; exact heap_made _ _
  have HM6 : Hid (∀ w', Below W6.heap.size W6 w' → PolAt w'.heap.size w' (.agg #[.slice am6 nm6 cm6, .int .i64 dm6]) (shortR p) ∧ w'.heap[w6.heap.size]? = some (.cells #[.slice am6 nm6 cm6, .int .i64 dm6] 38 (0, 0)) ∧ Below W5.heap.size W5 w') := fun w' h =>
    ⟨PolAt.wide (hm.later (Below.thenOf bB h bB.size) (Nat.le_refl _)) (Nat.le_trans bB.size h.size), (h.block _ (lt_of_block hmx)).trans hmx, Below.thenOf bC h bC.size⟩
  have bw6 : Below w.heap.size w W6 := Below.thenOf bw5 bC bw5.size
  have hV6 : Hid (W6 = _) := hWx
  clear hWx hm hmx bA bB bC
  go_wp2_with fail
  rw [← hV6.out]
  go_at_call 29
  refine Calls.mono (HM.out _ bw6) ?_
  rintro e w7 ⟨rfl, bb⟩
  have Tw7 : Hid (∀ w', Below w7.heap.size w7 w' → Below W6.heap.size W6 w') := fun w' h => Below.thenOf bb h bb.size
  clear bb
  obtain ⟨h6, g6, u6⟩ := HM6.out w7 (Tw7.out w7 (Below.refl _ _))
  obtain ⟨h5, g5, u5⟩ := HM5.out w7 u6
  obtain ⟨h4, g4, u4⟩ := HM4.out w7 u5
  obtain ⟨h3, g3, u3⟩ := HM3.out w7 u4
  obtain ⟨h2, g2, u2⟩ := HM2.out w7 u3
  obtain ⟨h1, g1, u1⟩ := HM1.out w7 u2
  obtain ⟨-, -, tw⟩ := HK.out w7 u1
  have x1 := heap_cell g1 0 rfl
  have y1 := heap_cell g1 1 rfl
  have x2 := heap_cell g2 0 rfl
  have y2 := heap_cell g2 1 rfl
  have x3 := heap_cell g3 0 rfl
  have y3 := heap_cell g3 1 rfl
  have x4 := heap_cell g4 0 rfl
  have y4 := heap_cell g4 1 rfl
  have x5 := heap_cell g5 0 rfl
  have y5 := heap_cell g5 1 rfl
  have x6 := heap_cell g6 0 rfl
  have y6 := heap_cell g6 1 rfl
  clear g1 u1 g2 u2 g3 u3 g4 u4 g5 u5 g6 u6
  have HS : Hid _ := HSa.out _ _ _ w7 h1 h4
  go_wp2_with fail
  go_at_call 30
  refine Calls.mono HS.out ?_
  rintro e w8 ⟨rfl, bb⟩
  have Tw8 : Hid (∀ w', Below w8.heap.size w8 w' → Below W6.heap.size W6 w') := fun w' h => Tw7.out w' (Below.thenOf bb h bb.size)
  clear h1 x1 y1 h2 x2 y2 h3 x3 y3 h4 x4 y4 h5 x5 y5 h6 x6 y6 tw bb HS
  obtain ⟨h6, g6, u6⟩ := HM6.out w8 (Tw8.out w8 (Below.refl _ _))
  obtain ⟨h5, g5, u5⟩ := HM5.out w8 u6
  obtain ⟨h4, g4, u4⟩ := HM4.out w8 u5
  obtain ⟨h3, g3, u3⟩ := HM3.out w8 u4
  obtain ⟨h2, g2, u2⟩ := HM2.out w8 u3
  obtain ⟨h1, g1, u1⟩ := HM1.out w8 u2
  obtain ⟨-, -, tw⟩ := HK.out w8 u1
  have x1 := heap_cell g1 0 rfl
  have y1 := heap_cell g1 1 rfl
  have x2 := heap_cell g2 0 rfl
  have y2 := heap_cell g2 1 rfl
  have x3 := heap_cell g3 0 rfl
  have y3 := heap_cell g3 1 rfl
  have x4 := heap_cell g4 0 rfl
  have y4 := heap_cell g4 1 rfl
  have x5 := heap_cell g5 0 rfl
  have y5 := heap_cell g5 1 rfl
  have x6 := heap_cell g6 0 rfl
  have y6 := heap_cell g6 1 rfl
  clear g1 u1 g2 u2 g3 u3 g4 u4 g5 u5 g6 u6
  have HS : Hid _ := HSa.out _ _ _ w8 h2 h5
  go_wp2_with fail
  go_at_call 30
  refine Calls.mono HS.out ?_
  rintro e w9 ⟨rfl, bb⟩
  have Tw9 : Hid (∀ w', Below w9.heap.size w9 w' → Below W6.heap.size W6 w') := fun w' h => Tw8.out w' (Below.thenOf bb h bb.size)
  clear h1 x1 y1 h2 x2 y2 h3 x3 y3 h4 x4 y4 h5 x5 y5 h6 x6 y6 tw bb HS
  obtain ⟨h6, g6, u6⟩ := HM6.out w9 (Tw9.out w9 (Below.refl _ _))
  obtain ⟨h5, g5, u5⟩ := HM5.out w9 u6
  obtain ⟨h4, g4, u4⟩ := HM4.out w9 u5
  obtain ⟨h3, g3, u3⟩ := HM3.out w9 u4
  obtain ⟨h2, g2, u2⟩ := HM2.out w9 u3
  obtain ⟨h1, g1, u1⟩ := HM1.out w9 u2
  obtain ⟨-, -, tw⟩ := HK.out w9 u1
  have x1 := heap_cell g1 0 rfl
  have y1 := heap_cell g1 1 rfl
  have x2 := heap_cell g2 0 rfl
  have y2 := heap_cell g2 1 rfl
  have x3 := heap_cell g3 0 rfl
  have y3 := heap_cell g3 1 rfl
  have x4 := heap_cell g4 0 rfl
  have y4 := heap_cell g4 1 rfl
  have x5 := heap_cell g5 0 rfl
  have y5 := heap_cell g5 1 rfl
  have x6 := heap_cell g6 0 rfl
  have y6 := heap_cell g6 1 rfl
  clear g1 u1 g2 u2 g3 u3 g4 u4 g5 u5 g6 u6
  have HS : Hid _ := HSa.out _ _ _ w9 h3 h6
  go_wp2_with fail
  go_at_call 30
  refine Calls.mono HS.out ?_
  rintro e w10 ⟨rfl, bb⟩
  have Tw10 : Hid (∀ w', Below w10.heap.size w10 w' → Below W6.heap.size W6 w') := fun w' h => Tw9.out w' (Below.thenOf bb h bb.size)
  clear h1 x1 y1 h2 x2 y2 h3 x3 y3 h4 x4 y4 h5 x5 y5 h6 x6 y6 tw bb HS
  obtain ⟨h6, g6, u6⟩ := HM6.out w10 (Tw10.out w10 (Below.refl _ _))
  obtain ⟨h5, g5, u5⟩ := HM5.out w10 u6
  obtain ⟨h4, g4, u4⟩ := HM4.out w10 u5
  obtain ⟨h3, g3, u3⟩ := HM3.out w10 u4
  obtain ⟨h2, g2, u2⟩ := HM2.out w10 u3
  obtain ⟨h1, g1, u1⟩ := HM1.out w10 u2
  obtain ⟨-, -, tw⟩ := HK.out w10 u1
  have x1 := heap_cell g1 0 rfl
  have y1 := heap_cell g1 1 rfl
  have x2 := heap_cell g2 0 rfl
  have y2 := heap_cell g2 1 rfl
  have x3 := heap_cell g3 0 rfl
  have y3 := heap_cell g3 1 rfl
  have x4 := heap_cell g4 0 rfl
  have y4 := heap_cell g4 1 rfl
  have x5 := heap_cell g5 0 rfl
  have y5 := heap_cell g5 1 rfl
  have x6 := heap_cell g6 0 rfl
  have y6 := heap_cell g6 1 rfl
  clear g1 u1 g2 u2 g3 u3 g4 u4 g5 u5 g6 u6
  have tF : Hid _ := tw
  clear h1 x1 y1 h2 x2 y2 h3 x3 y3 h4 x4 y4 h5 x5 y5 h6 x6 y6 tw
  go_wp2_with fail
  go_ret
  exact ⟨rfl, tF.out⟩

end Go.Proofs.YtacjnooegahidabGreatDoor
