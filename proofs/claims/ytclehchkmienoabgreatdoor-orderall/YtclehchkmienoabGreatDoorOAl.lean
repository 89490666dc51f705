/- OrderAll returns true, whatever the policies and the call, in whatever memory. -/
import Derived.Test.YtclehchkmienoabGreatDoorOj34
import Derived.Test.YtclehchkmienoabGreatDoorOAl0
set_option linter.all false
set_option maxRecDepth 100000
namespace Go.Proofs.YtclehchkmienoabGreatDoor
open Go.RowKit Go.Maps

set_option maxHeartbeats 16000000 in
theorem orderAll_any (B : Nat) (pv qv : Value) (p q : PolT) (x : Nat → Int) (w : World) (he : EnvAt w) (hp : PolAt B w pv p) (hq : PolAt B w qv q) (hB : B ≤ w.heap.size) :
    Calls Tryz.prog 5 #[pv, qv, callV x] w fun e w' => e = .returned (.bool true) ∧ Below w.heap.size w w' := by
  have HO : Hid (∀ w', Below w.heap.size w w' → Calls Tryz.prog 16 #[] w' fun e w'' => e = .returned (.bool true) ∧ Below w'.heap.size w' w'') := fun w' h => ordered_true w' (he.later h)
  have HLo : Hid (∀ w', Below w.heap.size w w' → Calls Tryz.prog 13 #[pv, qv] w' fun e w'' => e = .returned (.tuple #[.bool (looserP p q).isSome, .agg #[.int .i64 (looserC p q 0), .int .i64 (looserC p q 1), .int .i64 (looserC p q 2), .int .i64 (looserC p q 3), .int .i64 (looserC p q 4)], .int .i64 (pointsE [p, q])]) ∧ Below w'.heap.size w' w'') := fun w' h => looserD_any B pv qv p q w' (hp.later h hB) (hq.later h hB) (Nat.le_trans hB h.size)
  have HR : Hid (∀ w', Calls Tryz.prog 17 #[callV x] w' fun e w'' => e = .returned (callV (rx x)) ∧ Below w'.heap.size w' w'') := fun w' => right_any x w'
  have HJp : Hid (∀ (y : Nat → Int) w', Below w.heap.size w w' → Calls Tryz.prog 18 #[pv, .agg #[.int .i64 (y 0), .int .i64 (y 1), .int .i64 (y 2), .int .i64 (y 3), .int .i64 (y 4)]] w' fun e w'' => e = .returned (.tuple #[.int .i64 (judgeP p y).1, .int .i64 (judgeP p y).2.1, .int .i64 (judgeP p y).2.2]) ∧ Below w'.heap.size w' w'') := fun y w' h => judge_any B pv p y w' (hp.later h hB) (Nat.le_trans hB h.size)
  have HJq : Hid (∀ (y : Nat → Int) w', Below w.heap.size w w' → Calls Tryz.prog 18 #[qv, .agg #[.int .i64 (y 0), .int .i64 (y 1), .int .i64 (y 2), .int .i64 (y 3), .int .i64 (y 4)]] w' fun e w'' => e = .returned (.tuple #[.int .i64 (judgeP q y).1, .int .i64 (judgeP q y).2.1, .int .i64 (judgeP q y).2.2]) ∧ Below w'.heap.size w' w'') := fun y w' h => judge_any B qv q y w' (hq.later h hB) (Nat.le_trans hB h.size)
  have hA : Hid (∀ (W : World) X, Below W.heap.size W (W.alloc X)) := fun W X => (Below.refl _ _).alloc (Nat.le_refl _) _
  have HT : Hid (pointsE [p, q] = 0 → (looserP p q).isSome = false → ∃ a b k k', judgeP p (rx x) = (a, k, 0) ∧ judgeP q (rx x) = (b, k', 0) ∧ a ≤ b) := fun h1 h2 => tight_at h1 h2 (right_ok x)
  have HF : Hid (pointsE [p, q] = 0 → (looserP p q).isSome = true → ∃ a b k k', judgeP p (looserC p q) = (a, k, 0) ∧ judgeP q (looserC p q) = (b, k', 0) ∧ b < a) := fun h1 h2 => loose_at h1 h2
  obtain ⟨a1, n1, c1, d1, rfl⟩ : ∃ a n c d, pv = .agg #[.slice a n c, .int .i64 d] := by
    obtain ⟨rv, rfl, _, hr⟩ := hp
    obtain ⟨a, c, rfl, _⟩ := hr
    exact ⟨_, _, _, _, rfl⟩
  obtain ⟨a2, n2, c2, d2, rfl⟩ : ∃ a n c d, qv = .agg #[.slice a n c, .int .i64 d] := by
    obtain ⟨rv, rfl, _, hr⟩ := hq
    obtain ⟨a, c, rfl, _⟩ := hr
    exact ⟨_, _, _, _, rfl⟩
  clear hp hq he
  unfold callV at HR ⊢
  generalize rx x = y at *
  generalize (looserP p q).isSome = lo at *
  generalize pointsE [p, q] = e1 at *
  generalize looserC p q = z at *
  go_enter Tryz.func5, Tryz.ntmps5
  go_wp2_with fail
  obtain ⟨W0, hW0⟩ : ∃ W0, W0 = ((w.alloc (.cells #[.slice a1 n1 c1, .int .i64 d1] 38)).alloc (.cells #[.slice a2 n2 c2, .int .i64 d2] 38)).alloc (.cells #[.int .i64 (x 0), .int .i64 (x 1), .int .i64 (x 2), .int .i64 (x 3), .int .i64 (x 4)] 29) := ⟨_, rfl⟩
  have s0 : W0.heap.size = w.heap.size + 3 := by rw [hW0]; simp
  have bw0 : Below w.heap.size w W0 := by rw [hW0]; exact (((Below.refl _ _).alloc (Nat.le_refl _) _).alloc (by simp) _).alloc (by simp; omega) _
  have hp0 : W0.heap[w.heap.size]? = some (.cells #[.slice a1 n1 c1, .int .i64 d1] 38 (0, 0)) := by
    rw [hW0]
    exact ((hA.out _ _).block _ (by simp; omega)).trans (((hA.out _ _).block _ (by simp)).trans (heap_made w _))
  have hq0 : W0.heap[w.heap.size + 1]? = some (.cells #[.slice a2 n2 c2, .int .i64 d2] 38 (0, 0)) := by
    rw [hW0]
    refine ((hA.out _ _).block _ (by simp)).trans ?_
    have := heap_made (w.alloc (.cells #[.slice a1 n1 c1, .int .i64 d1] 38)) (.cells #[.slice a2 n2 c2, .int .i64 d2] 38)
    simpa using this
  have hx0 : W0.heap[w.heap.size + 1 + 1]? = some (.cells (cellsX x) 29 (0, 0)) := by
    rw [hW0]
    have := heap_made ((w.alloc (.cells #[.slice a1 n1 c1, .int .i64 d1] 38)).alloc (.cells #[.slice a2 n2 c2, .int .i64 d2] 38)) (.cells #[.int .i64 (x 0), .int .i64 (x 1), .int .i64 (x 2), .int .i64 (x 3), .int .i64 (x 4)] 29)
    simpa [cellsX] using this
  rw [← hW0]
  clear hW0
  go_at_call 17
  refine Calls.mono (HR.out _) ?_
  rintro e w1 ⟨rfl, b01⟩
  have X1 := (b01.block _ (by omega)).trans hx0
  have Y1 := (b01.block _ (by omega)).trans hp0
  have Y2 := (b01.block _ (by omega)).trans hq0
  have P0 := heap_cell Y1 0 rfl
  have P1 := heap_cell Y1 1 rfl
  have Q0 := heap_cell Y2 0 rfl
  have Q1 := heap_cell Y2 1 rfl
  have Z := (cellsX_at X1).1
  have Zf := (cellsX_at X1).2
  have z0 := Z 0 (by omega)
  have z1 := Z 1 (by omega)
  have z2 := Z 2 (by omega)
  have z3 := Z 3 (by omega)
  have z4 := Z 4 (by omega)
  have f0 := Zf 0
  have f1 := Zf 1
  have f2 := Zf 2
  have f3 := Zf 3
  have f4 := Zf 4
  have s1 := lt_of_block X1
  have HX1 : Hid _ := X1
  have HY1 : Hid _ := Y1
  have HY2 : Hid _ := Y2
  clear Z Zf X1 Y1 Y2 hx0 hp0 hq0
  go_wp2_with fail
  obtain ⟨W1, hW1⟩ : ∃ W1, W1 = ((((w1.setCell ⟨w.heap.size + 1 + 1, 0, none⟩ (.int .i64 (y 0))).setCell ⟨w.heap.size + 1 + 1, 1, none⟩ (.int .i64 (y 1))).setCell ⟨w.heap.size + 1 + 1, 2, none⟩ (.int .i64 (y 2))).setCell ⟨w.heap.size + 1 + 1, 3, none⟩ (.int .i64 (y 3))).setCell ⟨w.heap.size + 1 + 1, 4, none⟩ (.int .i64 (y 4)) := ⟨_, rfl⟩
  have hx1 : W1.heap[w.heap.size + 1 + 1]? = some (.cells (cellsX y) 29 (0, 0)) := by rw [hW1]; exact callBox HX1.out
  have b1 : Below (w.heap.size + 1 + 1) w1 W1 := by rw [hW1]; exact callBox_below (Below.refl _ _) (Nat.le_refl _)
  have hp1 := (b1.block w.heap.size (by omega)).trans HY1.out
  have hq1 := (b1.block (w.heap.size + 1) (by omega)).trans HY2.out
  have bw1 : Below w.heap.size w W1 := bw0.trans ((b01.mono (by omega)).trans (b1.mono (by omega)))
  have t1 := lt_of_block hx1
  rw [← hW1]
  clear hW1 z0 z1 z2 z3 z4 f0 f1 f2 f3 f4 P0 P1 Q0 Q1 HX1 HY1 HY2 b01 b1 bw0 s0 s1
  go_at_call 13
  refine Calls.mono (HLo.out _ bw1) ?_
  rintro e w2 ⟨rfl, b12⟩
  have bw2 : Below w.heap.size w w2 := Below.thenOf bw1 b12 bw1.size
  obtain ⟨W3, hW3⟩ : ∃ W3, W3 = w2.alloc (.cells (cellsX z) 29) := ⟨_, rfl⟩
  have b23 : Below w2.heap.size w2 W3 := by rw [hW3]; exact hA.out _ _
  have hz3 : W3.heap[w2.heap.size]? = some (.cells (cellsX z) 29 (0, 0)) := by rw [hW3]; exact heap_made _ _
  have bw3 : Below w.heap.size w W3 := Below.thenOf bw2 b23 bw2.size
  have t2 := b12.size
  have t3 := lt_of_block hz3
  have b13 := Below.thenOf b12 b23 t2
  have HK : Hid (∀ w', Below W3.heap.size W3 w' → w'.heap[w.heap.size]? = some (.cells #[.slice a1 n1 c1, .int .i64 d1] 38 (0, 0)) ∧ w'.heap[w.heap.size + 1]? = some (.cells #[.slice a2 n2 c2, .int .i64 d2] 38 (0, 0)) ∧ w'.heap[w.heap.size + 1 + 1]? = some (.cells (cellsX y) 29 (0, 0)) ∧ w'.heap[w2.heap.size]? = some (.cells (cellsX z) 29 (0, 0)) ∧ Below w.heap.size w w') := fun w' h =>
    ⟨(h.block _ (by omega)).trans ((b13.block _ (by omega)).trans hp1), (h.block _ (by omega)).trans ((b13.block _ (by omega)).trans hq1), (h.block _ (by omega)).trans ((b13.block _ (by omega)).trans hx1), (h.block _ t3).trans hz3, Below.thenOf bw3 h bw3.size⟩
  unfold cellsX at hW3
  clear hp1 hq1 hx1 hz3 b13
  go_wp2_with fail
  rw [← hW3]
  clear hW3
  go_at_call 16
  refine Calls.mono (HO.out _ bw3) ?_
  rintro e w4 ⟨rfl, b34⟩
  obtain ⟨k1, k2, k3, k4, bw4⟩ := HK.out w4 b34
  have l1 := lt_of_block k1
  have l2 := lt_of_block k2
  have l3 := lt_of_block k3
  have l4 := lt_of_block k4
  by_cases h0 : e1 = 0
  · subst h0
    have P0 := heap_cell k1 0 rfl
    have P1 := heap_cell k1 1 rfl
    have Q0 := heap_cell k2 0 rfl
    have Q1 := heap_cell k2 1 rfl
    have Z := (cellsX_at k3).1
    have Zf := (cellsX_at k3).2
    have z0 := Z 0 (by omega)
    have z1 := Z 1 (by omega)
    have z2 := Z 2 (by omega)
    have z3 := Z 3 (by omega)
    have z4 := Z 4 (by omega)
    have f0 := Zf 0
    have f1 := Zf 1
    have f2 := Zf 2
    have f3 := Zf 3
    have f4 := Zf 4
    have V := (cellsX_at k4).1
    have v0 := V 0 (by omega)
    have v1 := V 1 (by omega)
    have v2 := V 2 (by omega)
    have v3 := V 3 (by omega)
    have v4 := V 4 (by omega)
    have K1 : Hid _ := k1
    have K2 : Hid _ := k2
    have K3 : Hid _ := k3
    clear k1 k2 k3 k4 Z Zf V
    cases lo
    · obtain ⟨ja, jb, ka, kb, hja, hjb, hle⟩ := HT.out rfl rfl
      have Jp := HJp.out y
      have Jq := HJq.out y
      rw [hja] at Jp
      rw [hjb] at Jq
      have Jp' : Hid _ := Jp
      have Jq' : Hid _ := Jq
      clear hja hjb Jp Jq HT HF v0 v1 v2 v3 v4 f0 f1 f2 f3 f4
      go_wp2_with fail
      go_at_call 18
      refine Calls.mono (Jp'.out _ bw4) ?_
      rintro e w5 ⟨rfl, b45⟩
      have b35 := Below.thenOf b34 b45 b34.size
      obtain ⟨k1, k2, k3, k4, bw5⟩ := HK.out w5 b35
      have Q0 := heap_cell k2 0 rfl
      have Q1 := heap_cell k2 1 rfl
      have Z := (cellsX_at k3).1
      have z0 := Z 0 (by omega)
      have z1 := Z 1 (by omega)
      have z2 := Z 2 (by omega)
      have z3 := Z 3 (by omega)
      have z4 := Z 4 (by omega)
      clear k1 k2 k3 k4 Z
      go_wp2_with fail
      go_at_call 18
      refine Calls.mono (Jq'.out _ bw5) ?_
      rintro e w6 ⟨rfl, b56⟩
      have bw6 := Below.thenOf bw5 b56 bw5.size
      have g : ¬ (jb < ja) := by omega
      go_wp2_with fail
      go_ret
      exact ⟨rfl, bw6⟩
    · obtain ⟨ja, jb, ka, kb, hja, hjb, hle⟩ := HF.out rfl rfl
      have Jp := HJp.out z
      have Jq := HJq.out z
      rw [hja] at Jp
      rw [hjb] at Jq
      have Jp' : Hid _ := Jp
      have Jq' : Hid _ := Jq
      clear hja hjb Jp Jq HT HF
      obtain ⟨W5, hW5⟩ : ∃ W5, W5 = ((((w4.setCell ⟨w.heap.size + 1 + 1, 0, none⟩ (.int .i64 (z 0))).setCell ⟨w.heap.size + 1 + 1, 1, none⟩ (.int .i64 (z 1))).setCell ⟨w.heap.size + 1 + 1, 2, none⟩ (.int .i64 (z 2))).setCell ⟨w.heap.size + 1 + 1, 3, none⟩ (.int .i64 (z 3))).setCell ⟨w.heap.size + 1 + 1, 4, none⟩ (.int .i64 (z 4)) := ⟨_, rfl⟩
      have hx5 : W5.heap[w.heap.size + 1 + 1]? = some (.cells (cellsX z) 29 (0, 0)) := by rw [hW5]; exact callBox K3.out
      have b5 : Below (w.heap.size + 1 + 1) w4 W5 := by rw [hW5]; exact callBox_below (Below.refl _ _) (Nat.le_refl _)
      have hq5 := (b5.block (w.heap.size + 1) (by omega)).trans K2.out
      have bw5 : Below w.heap.size w W5 := bw4.trans (b5.mono (by omega))
      have t5 := lt_of_block hx5
      have HX5 : Hid (W5.heap[w.heap.size + 1 + 1]? = some (.cells (cellsX z) 29 (0, 0))) := hx5
      have HQ5 : Hid (W5.heap[w.heap.size + 1]? = some (.cells #[.slice a2 n2 c2, .int .i64 d2] 38 (0, 0))) := hq5
      have HW5 : Hid (W5 = ((((w4.setCell ⟨w.heap.size + 1 + 1, 0, none⟩ (.int .i64 (z 0))).setCell ⟨w.heap.size + 1 + 1, 1, none⟩ (.int .i64 (z 1))).setCell ⟨w.heap.size + 1 + 1, 2, none⟩ (.int .i64 (z 2))).setCell ⟨w.heap.size + 1 + 1, 3, none⟩ (.int .i64 (z 3))).setCell ⟨w.heap.size + 1 + 1, 4, none⟩ (.int .i64 (z 4))) := hW5
      clear hx5 hq5 hW5
      go_wp2_with fail
      rw [← HW5.out]
      clear HW5 z0 z1 z2 z3 z4 f0 f1 f2 f3 f4 v0 v1 v2 v3 v4 P0 P1 Q0 Q1
      go_at_call 18
      refine Calls.mono (Jp'.out _ bw5) ?_
      rintro e w6 ⟨rfl, b56⟩
      have bw6 := Below.thenOf bw5 b56 bw5.size
      have k2 := (b56.block _ (by omega)).trans HQ5.out
      have k3 := (b56.block _ t5).trans HX5.out
      have l5 := lt_of_block k2
      have l6 := lt_of_block k3
      have Q0 := heap_cell k2 0 rfl
      have Q1 := heap_cell k2 1 rfl
      have Z := (cellsX_at k3).1
      have z0 := Z 0 (by omega)
      have z1 := Z 1 (by omega)
      have z2 := Z 2 (by omega)
      have z3 := Z 3 (by omega)
      have z4 := Z 4 (by omega)
      clear k2 k3 Z
      go_wp2_with fail
      go_at_call 18
      refine Calls.mono (Jq'.out _ bw6) ?_
      rintro e w7 ⟨rfl, b67⟩
      have bw7 := Below.thenOf bw6 b67 bw6.size
      clear z0 z1 z2 z3 z4 Q0 Q1
      go_wp2_with fail
      go_ret
      exact ⟨rfl, bw7⟩
  · have hq : (e1 != 0) = true := by simpa using h0
    clear h0 k1 k2 k3 k4
    go_wp2_with fail
    go_at_call 16
    refine Calls.mono (HO.out _ bw4) ?_
    rintro e w5 ⟨rfl, b45⟩
    have bw5 := Below.thenOf bw4 b45 bw4.size
    go_wp2_with fail
    go_ret
    exact ⟨rfl, bw5⟩
end Go.Proofs.YtclehchkmienoabGreatDoor
