/- OrderSays returns true, whatever the policies, in whatever memory. -/
import Derived.Test.YtclehchkmienoabGreatDoorOj34
import Derived.Test.YtclehchkmienoabGreatDoorOj19
import Derived.Test.YtclehchkmienoabGreatDoorOj22
set_option linter.all false
set_option maxRecDepth 100000
namespace Go.Proofs.YtclehchkmienoabGreatDoor
open Go.RowKit Go.Maps

set_option maxHeartbeats 16000000 in
theorem orderSays_any (B : Nat) (pv qv : Value) (p q : PolT) (w : World) (he : EnvAt w) (hp : PolAt B w pv p) (hq : PolAt B w qv q) (hB : B ≤ w.heap.size) :
    Calls Tryz.prog 4 #[pv, qv] w fun e w' => e = .returned (.bool true) ∧ Below w.heap.size w w' := by
  have HP : Hid (∀ w', Below w.heap.size w w' → PolAt B w' pv p) := fun w' h => hp.later h hB
  have HQ : Hid (∀ w', Below w.heap.size w w' → PolAt B w' qv q) := fun w' h => hq.later h hB
  have HO : Hid (∀ w', Below w.heap.size w w' → Calls Tryz.prog 16 #[] w' fun e w'' => e = .returned (.bool true) ∧ Below w'.heap.size w' w'') := fun w' h => ordered_true w' (he.later h)
  have HLo : Hid (∀ w', Below w.heap.size w w' → Calls Tryz.prog 13 #[pv, qv] w' fun e w'' => e = .returned (.tuple #[.bool (looserP p q).isSome, .agg #[.int .i64 (looserC p q 0), .int .i64 (looserC p q 1), .int .i64 (looserC p q 2), .int .i64 (looserC p q 3), .int .i64 (looserC p q 4)], .int .i64 (pointsE [p, q])]) ∧ Below w'.heap.size w' w'') := fun w' h => looserD_any B pv qv p q w' (hp.later h hB) (hq.later h hB) (Nat.le_trans hB h.size)
  have HFo : Hid (∀ w', Below w.heap.size w w' → Calls Tryz.prog 14 #[pv, qv] w' fun e w'' => e = .returned (.tuple #[.bool (looserP p q).isSome, .agg #[.int .i64 (looserC p q 0), .int .i64 (looserC p q 1), .int .i64 (looserC p q 2), .int .i64 (looserC p q 3), .int .i64 (looserC p q 4)], .int .i64 (pointsE [p, q])]) ∧ Below w'.heap.size w' w'') := fun w' h => firstLooser_any B pv qv p q w' (hp.later h hB) (hq.later h hB) (Nat.le_trans hB h.size)
  have HFq : Hid (∀ w', Below w.heap.size w w' → Calls Tryz.prog 14 #[qv, pv] w' fun e w'' => e = .returned (.tuple #[.bool (looserP q p).isSome, .agg #[.int .i64 (looserC q p 0), .int .i64 (looserC q p 1), .int .i64 (looserC q p 2), .int .i64 (looserC q p 3), .int .i64 (looserC q p 4)], .int .i64 (pointsE [q, p])]) ∧ Below w'.heap.size w' w'') := fun w' h => firstLooser_any B qv pv q p w' (hq.later h hB) (hp.later h hB) (Nat.le_trans hB h.size)
  have HAl : Hid (∀ w', Below w.heap.size w w' → Calls Tryz.prog 15 #[pv, qv] w' fun e w'' => e = .returned (.tuple #[.bool (alikeB p q), .int .i64 (pointsE [p, q])]) ∧ Below w'.heap.size w' w'') := fun w' h => alikeD_any B pv qv p q w' (hp.later h hB) (hq.later h hB) (Nat.le_trans hB h.size)
  have hA : Hid (∀ (W : World) X, Below W.heap.size W (W.alloc X)) := fun W X => (Below.refl _ _).alloc (Nat.le_refl _) _
  have HS : Hid (pointsE [p, q] = 0 → pointsE [q, p] = 0) := pointsE_swap
  have HAb : Hid (alikeB p q = if pointsE [p, q] = 0 then !(looserP p q).isSome && !(looserP q p).isSome else false) := rfl
  generalize alikeB p q = al at *
  generalize (looserP p q).isSome = lo at *
  generalize (looserP q p).isSome = lq at *
  generalize pointsE [p, q] = e1 at *
  generalize pointsE [q, p] = e2 at *
  generalize looserC p q = x at *
  generalize looserC q p = y at *
  obtain ⟨a1, n1, c1, d1, rfl⟩ : ∃ a n c d, pv = .agg #[.slice a n c, .int .i64 d] := by
    obtain ⟨rv, rfl, _, hr⟩ := hp
    obtain ⟨a, c, rfl, _⟩ := hr
    exact ⟨_, _, _, _, rfl⟩
  obtain ⟨a2, n2, c2, d2, rfl⟩ : ∃ a n c d, qv = .agg #[.slice a n c, .int .i64 d] := by
    obtain ⟨rv, rfl, _, hr⟩ := hq
    obtain ⟨a, c, rfl, _⟩ := hr
    exact ⟨_, _, _, _, rfl⟩
  clear hp hq he HP HQ
  go_enter Tryz.func4, Tryz.ntmps4
  go_wp2_with fail
  obtain ⟨W0, hW0⟩ : ∃ W0, W0 = (w.alloc (.cells #[.slice a1 n1 c1, .int .i64 d1] 38)).alloc (.cells #[.slice a2 n2 c2, .int .i64 d2] 38) := ⟨_, rfl⟩
  have s0 : W0.heap.size = w.heap.size + 2 := by rw [hW0]; simp
  have bw0 : Below w.heap.size w W0 := by rw [hW0]; exact ((Below.refl _ _).alloc (Nat.le_refl _) _).alloc (by simp) _
  have hp0 : W0.heap[w.heap.size]? = some (.cells #[.slice a1 n1 c1, .int .i64 d1] 38 (0, 0)) := by
    rw [hW0]
    exact ((hA.out _ _).block _ (by simp)).trans (heap_made w _)
  have hq0 : W0.heap[w.heap.size + 1]? = some (.cells #[.slice a2 n2 c2, .int .i64 d2] 38 (0, 0)) := by
    rw [hW0]
    have := heap_made (w.alloc (.cells #[.slice a1 n1 c1, .int .i64 d1] 38)) (.cells #[.slice a2 n2 c2, .int .i64 d2] 38)
    simpa using this
  have HBx : Hid (∀ w', Below W0.heap.size W0 w' → (w'.cell? ⟨w.heap.size, 0, none⟩ = some (.slice a1 n1 c1) ∧ w'.cell? ⟨w.heap.size, 1, none⟩ = some (.int .i64 d1)) ∧ (w'.cell? ⟨w.heap.size + 1, 0, none⟩ = some (.slice a2 n2 c2) ∧ w'.cell? ⟨w.heap.size + 1, 1, none⟩ = some (.int .i64 d2)) ∧ w.heap.size < w'.heap.size ∧ w.heap.size + 1 < w'.heap.size ∧ Below w.heap.size w w') := fun w' hb => by
    have k1 := (hb.block w.heap.size (by omega)).trans hp0
    have k2 := (hb.block (w.heap.size + 1) (by omega)).trans hq0
    have := hb.size
    exact ⟨⟨heap_cell k1 0 rfl, heap_cell k1 1 rfl⟩, ⟨heap_cell k2 0 rfl, heap_cell k2 1 rfl⟩, by omega, by omega, Below.thenOf bw0 hb bw0.size⟩
  rw [← hW0]
  clear hW0 hp0 hq0 s0
  go_at_call 13
  refine Calls.mono (HLo.out _ bw0) ?_
  rintro e w1 ⟨rfl, b01⟩
  obtain ⟨⟨p0, p1⟩, ⟨q0, q1⟩, l0, l1, bw1⟩ := HBx.out w1 b01
  obtain ⟨W2, hW2⟩ : ∃ W2, W2 = w1.alloc (.cells #[.int .i64 (x 0), .int .i64 (x 1), .int .i64 (x 2), .int .i64 (x 3), .int .i64 (x 4)] 29) := ⟨_, rfl⟩
  have b12 : Below w1.heap.size w1 W2 := by rw [hW2]; exact hA.out _ _
  have h2 : W2.heap[w1.heap.size]? = some (.cells #[.int .i64 (x 0), .int .i64 (x 1), .int .i64 (x 2), .int .i64 (x 3), .int .i64 (x 4)] 29 (0, 0)) := by rw [hW2]; exact heap_made _ _
  have s2 : w1.heap.size < W2.heap.size := lt_of_block h2
  have b02 := Below.thenOf b01 b12 b01.size
  have bw2 := (HBx.out W2 b02).2.2.2.2
  have H2 : Hid (W2.heap[w1.heap.size]? = some (.cells #[.int .i64 (x 0), .int .i64 (x 1), .int .i64 (x 2), .int .i64 (x 3), .int .i64 (x 4)] 29 (0, 0))) := h2
  clear h2
  go_wp2_with fail
  rw [← hW2]
  clear hW2 p0 p1 q0 q1 l0 l1
  go_at_call 14
  refine Calls.mono (HFo.out _ bw2) ?_
  rintro e w3 ⟨rfl, b23⟩
  have b03 := Below.thenOf b02 b23 b02.size
  obtain ⟨⟨p0, p1⟩, ⟨q0, q1⟩, l0, l1, bw3⟩ := HBx.out w3 b03
  obtain ⟨W4, hW4⟩ : ∃ W4, W4 = w3.alloc (.cells #[.int .i64 (x 0), .int .i64 (x 1), .int .i64 (x 2), .int .i64 (x 3), .int .i64 (x 4)] 29) := ⟨_, rfl⟩
  have b34 : Below w3.heap.size w3 W4 := by rw [hW4]; exact hA.out _ _
  have h4 : W4.heap[w3.heap.size]? = some (.cells #[.int .i64 (x 0), .int .i64 (x 1), .int .i64 (x 2), .int .i64 (x 3), .int .i64 (x 4)] 29 (0, 0)) := by rw [hW4]; exact heap_made _ _
  have s4 : w3.heap.size < W4.heap.size := lt_of_block h4
  have b04 := Below.thenOf b03 b34 b03.size
  have bw4 := (HBx.out W4 b04).2.2.2.2
  have s23 := b23.size
  have H24 : Hid (∀ w', Below W4.heap.size W4 w' → XAt w' w1.heap.size x ∧ XAt w' w3.heap.size x ∧ w1.heap.size < w'.heap.size ∧ w3.heap.size < w'.heap.size ∧ Below W0.heap.size W0 w') := fun w' h => by
    have := h.size
    exact ⟨(cellsX_at ((h.block _ (by omega)).trans ((b34.block _ (by omega)).trans ((b23.block _ s2).trans H2.out)))).1, (cellsX_at ((h.block _ s4).trans h4)).1, by omega, by omega, Below.thenOf b04 h b04.size⟩
  clear h4
  go_wp2_with fail
  rw [← hW4]
  clear hW4 p0 p1 q0 q1 l0 l1
  go_at_call 15
  refine Calls.mono (HAl.out _ bw4) ?_
  rintro e w5 ⟨rfl, b45⟩
  have b05 := Below.thenOf b04 b45 b04.size
  obtain ⟨⟨p0, p1⟩, ⟨q0, q1⟩, l0, l1, bw5⟩ := HBx.out w5 b05
  go_wp2_with fail
  clear p0 p1 q0 q1 l0 l1
  go_at_call 14
  refine Calls.mono (HFq.out _ bw5) ?_
  rintro e w6 ⟨rfl, b56⟩
  have b46 := Below.thenOf b45 b56 b45.size
  obtain ⟨X1, X2, l0, l1, b06⟩ := H24.out w6 b46
  have bw6 := (HBx.out w6 b06).2.2.2.2
  clear X1 X2
  go_wp2_with fail
  have b67 := hA.out w6 (.cells #[.int .i64 (y 0), .int .i64 (y 1), .int .i64 (y 2), .int .i64 (y 3), .int .i64 (y 4)] 29)
  have b47 := Below.thenOf b46 b67 b46.size
  have bw7 := (HBx.out _ (H24.out _ b47).2.2.2.2).2.2.2.2
  go_at_call 16
  refine Calls.mono (HO.out _ bw7) ?_
  rintro e w8 ⟨rfl, b78⟩
  have b48 := Below.thenOf b47 b78 b47.size
  obtain ⟨X1, X2, l3, l4, b08⟩ := H24.out w8 b48
  have bw8 := (HBx.out w8 b08).2.2.2.2
  have x0 := X1 0 (by omega)
  have x1 := X1 1 (by omega)
  have x2 := X1 2 (by omega)
  have x3 := X1 3 (by omega)
  have x4 := X1 4 (by omega)
  have y0 := X2 0 (by omega)
  have y1 := X2 1 (by omega)
  have y2 := X2 2 (by omega)
  have y3 := X2 3 (by omega)
  have y4 := X2 4 (by omega)
  have G := guardCall
  have EN : ∀ w, (Op.equalIn 10000 29 (.agg #[.int .i64 (x 0), .int .i64 (x 1), .int .i64 (x 2), .int .i64 (x 3), .int .i64 (x 4)]) (.agg #[.int .i64 (x 0), .int .i64 (x 1), .int .i64 (x 2), .int .i64 (x 3), .int .i64 (x 4)])).run Tryz.prog w = .ok true w := fun w => by
    have := eqCall 9998 (x 0) (x 1) (x 2) (x 3) (x 4) (x 0) (x 1) (x 2) (x 3) (x 4) w
    rw [decide_eq_true rfl] at this
    exact this
  clear X1 X2 b48 b47 b78 b67 b46 b56 b45 b34 b23 b12 b01 b02 b03 b04 b05 b06 b08 bw0 bw1 bw2 bw3 bw4 bw5 bw6 bw7 H2 H24 HBx HLo HFo HFq HAl HO s2 s4 s23 l0 l1
  have HAb' := HAb.out
  by_cases he1 : e1 = 0
  · rw [if_pos he1] at HAb'
    have he2 := HS.out he1
    subst he1
    subst he2
    clear HS HAb
    cases lo <;> cases lq <;> (simp at HAb'; subst HAb'; go_wp2_with fail) <;> (first | (go_ret; exact ⟨rfl, bw8⟩) | trace_state)
  · rw [if_neg he1] at HAb'
    subst HAb'
    have hq : (e1 != 0) = true := by simpa using he1
    clear HS HAb he1
    go_wp2_with fail
    go_ret
    exact ⟨rfl, bw8⟩
end Go.Proofs.YtclehchkmienoabGreatDoor
