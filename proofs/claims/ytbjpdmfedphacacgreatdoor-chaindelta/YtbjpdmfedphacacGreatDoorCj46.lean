/- ChainDelta returns true, whatever the policies and the call, in whatever memory. -/
import Derived.Test.YtbjpdmfedphacacGreatDoorCj45
import Derived.Test.YtbjpdmfedphacacGreatDoorCj43
import Derived.Test.YtbjpdmfedphacacGreatDoorCj15
set_option linter.all false
set_option maxRecDepth 100000
namespace Go.Proofs.YtbjpdmfedphacacGreatDoor
open Go.RowKit Go.Maps

theorem five_at {w : World} {b : Nat} {y : Nat → Int} {T : TypeId} (h : w.heap[b]? = some (.cells (cellsX y) T (0, 0))) : w.cell? ⟨b, 0, none⟩ = some (.int .i64 (y 0)) ∧ w.cell? ⟨b, 1, none⟩ = some (.int .i64 (y 1)) ∧ w.cell? ⟨b, 2, none⟩ = some (.int .i64 (y 2)) ∧ w.cell? ⟨b, 3, none⟩ = some (.int .i64 (y 3)) ∧ w.cell? ⟨b, 4, none⟩ = some (.int .i64 (y 4)) :=
  ⟨(cellsX_at h).1 0 (by omega), (cellsX_at h).1 1 (by omega), (cellsX_at h).1 2 (by omega), (cellsX_at h).1 3 (by omega), (cellsX_at h).1 4 (by omega)⟩
theorem two_at {w : World} {b : Nat} {u v : Value} {T : TypeId} {fr : Nat × Nat} (h : w.heap[b]? = some (.cells #[u, v] T fr)) : w.cell? ⟨b, 0, none⟩ = some u ∧ w.cell? ⟨b, 1, none⟩ = some v := ⟨heap_cell h 0 rfl, heap_cell h 1 rfl⟩
theorem judge_none {x : Nat → Int} (hx : chkx x = 0) : judgeP ([], 4) x = (4, 0, 0) := by
  have : polErr ([], 4) = 0 := by decide
  rw [judgeP_ok this hx]
  rfl
/-- What is asked of a delta that is told. -/
theorem delta_all {p q : PolT} (h : deltaE p q = 0) {x : Nat → Int} (hx : chkx x = 0) : ∃ u v w k l m, judgeP (deltaR p q) x = (u, k, 0) ∧ judgeP p x = (v, l, 0) ∧ judgeP q x = (w, m, 0) ∧ (v = w ∧ u = 4 ∨ v ≠ w ∧ u = w) := by
  obtain ⟨h1, h2, h3, h4, h5, hp, hq, hm, hd⟩ := delta_ok h
  obtain ⟨hle, hs⟩ := delta_says h hx
  refine ⟨_, _, _, _, _, _, judge_right hd hx, judge_right hp hx, judge_right hq hx, ?_⟩
  rw [hs]
  by_cases hlt : vP q x < vP p x
  · rw [if_pos hlt]
    exact .inr ⟨by omega, rfl⟩
  · rw [if_neg hlt]
    exact .inl ⟨by omega, rfl⟩

set_option maxHeartbeats 16000000 in
theorem chainDelta_any (B : Nat) (pv qv : Value) (p q : PolT) (x : Nat → Int) (w : World) (he : EnvAt w) (hp : PolAt B w pv p) (hq : PolAt B w qv q) (hB : B ≤ w.heap.size) :
    Calls Tryz.prog 3 #[pv, qv, callV x] w fun e w' => e = .returned (.bool true) ∧ Below w.heap.size w w' := by
  have HT : Hid (∀ w', Below w.heap.size w w' → Calls Tryz.prog 6 #[] w' fun e w'' => e = .returned (.bool true) ∧ Below w'.heap.size w' w'') := fun w' h => tightened_true w' (he.later h)
  have HLo : Hid (∀ w', Below w.heap.size w w' → Calls Tryz.prog 8 #[qv, pv] w' fun e w'' => e = .returned (.tuple #[.bool (looserP q p).isSome, .agg #[.int .i64 (looserC q p 0), .int .i64 (looserC q p 1), .int .i64 (looserC q p 2), .int .i64 (looserC q p 3), .int .i64 (looserC q p 4)], .int .i64 (pointsE [q, p])]) ∧ Below w'.heap.size w' w'') := fun w' h => looserD_any B qv pv q p w' (hq.later h hB) (hp.later h hB) (Nat.le_trans hB h.size)
  have HR : Hid (∀ w', Calls Tryz.prog 4 #[callV x] w' fun e w'' => e = .returned (callV (rx x)) ∧ Below w'.heap.size w' w'') := fun w' => right_any x w'
  have HD1 : Hid (∀ w', Below w.heap.size w w' → Calls Tryz.prog 5 #[pv, pv] w' fun e w'' => ∃ v, e = .returned (.tuple #[v, .int .i64 (deltaE p p)]) ∧ PolAt w''.heap.size w'' v (deltaR p p) ∧ Below w'.heap.size w' w'') := fun w' h => deltaD_any B pv pv p p w' (hp.later h hB) (hp.later h hB) (Nat.le_trans hB h.size)
  have HD2 : Hid (∀ w', Below w.heap.size w w' → Calls Tryz.prog 5 #[pv, qv] w' fun e w'' => ∃ v, e = .returned (.tuple #[v, .int .i64 (deltaE p q)]) ∧ PolAt w''.heap.size w'' v (deltaR p q) ∧ Below w'.heap.size w' w'') := fun w' h => deltaD_any B pv qv p q w' (hp.later h hB) (hq.later h hB) (Nat.le_trans hB h.size)
  have HJp : Hid (∀ (y : Nat → Int) w', Below w.heap.size w w' → Calls Tryz.prog 7 #[pv, .agg #[.int .i64 (y 0), .int .i64 (y 1), .int .i64 (y 2), .int .i64 (y 3), .int .i64 (y 4)]] w' fun e w'' => e = .returned (.tuple #[.int .i64 (judgeP p y).1, .int .i64 (judgeP p y).2.1, .int .i64 (judgeP p y).2.2]) ∧ Below w'.heap.size w' w'') := fun y w' h => judge_any B pv p y w' (hp.later h hB) (Nat.le_trans hB h.size)
  have HJq : Hid (∀ (y : Nat → Int) w', Below w.heap.size w w' → Calls Tryz.prog 7 #[qv, .agg #[.int .i64 (y 0), .int .i64 (y 1), .int .i64 (y 2), .int .i64 (y 3), .int .i64 (y 4)]] w' fun e w'' => e = .returned (.tuple #[.int .i64 (judgeP q y).1, .int .i64 (judgeP q y).2.1, .int .i64 (judgeP q y).2.2]) ∧ Below w'.heap.size w' w'') := fun y w' h => judge_any B qv q y w' (hq.later h hB) (Nat.le_trans hB h.size)
  have hA : Hid (∀ (W : World) X, Below W.heap.size W (W.alloc X)) := fun W X => (Below.refl _ _).alloc (Nat.le_refl _) _
  have HS1 : Hid (deltaE p p ≠ 7) := delta_self p
  have HS2 : Hid (deltaE p p = 0 → deltaR p p = ([], 4)) := fun h => delta_none h
  have HS3 : Hid (judgeP ([], 4) (rx x) = (4, 0, 0)) := judge_none (right_ok x)
  have HL1 : Hid (pointsE [q, p] = 0 → (looserP q p).isSome = decide (deltaE p q = 7)) := fun h => delta_loose h
  have HL2 : Hid (pointsE [q, p] ≠ 0 → deltaE p q = pointsE [q, p]) := fun h => by rw [deltaE, if_neg h]
  have HL3 : Hid (deltaE p q = 0 → ∃ u v w k l m, judgeP (deltaR p q) (rx x) = (u, k, 0) ∧ judgeP p (rx x) = (v, l, 0) ∧ judgeP q (rx x) = (w, m, 0) ∧ (v = w ∧ u = 4 ∨ v ≠ w ∧ u = w)) := fun h => delta_all h (right_ok x)
  obtain ⟨a1, n1, c1, d1, rfl⟩ : ∃ a n c d, pv = .agg #[.slice a n c, .int .i64 d] := by
    obtain ⟨rv, rfl, _, hr⟩ := hp
    obtain ⟨a, c, rfl, _⟩ := hr
    exact ⟨_, _, _, _, rfl⟩
  obtain ⟨a2, n2, c2, d2, rfl⟩ : ∃ a n c d, qv = .agg #[.slice a n c, .int .i64 d] := by
    obtain ⟨rv, rfl, _, hr⟩ := hq
    obtain ⟨a, c, rfl, _⟩ := hr
    exact ⟨_, _, _, _, rfl⟩
  clear hp hq he
  unfold callV at HR ⊢
  generalize rx x = y at *
  generalize (looserP q p).isSome = lo at *
  generalize pointsE [q, p] = pe at *
  generalize looserC q p = z at *
  generalize deltaE p p = e1 at *
  generalize deltaE p q = e2 at *
  go_enter Tryz.func3, Tryz.ntmps3
  go_wp2_with fail
  obtain ⟨W0, hW0⟩ : ∃ W0, W0 = ((w.alloc (.cells #[.slice a1 n1 c1, .int .i64 d1] 24)).alloc (.cells #[.slice a2 n2 c2, .int .i64 d2] 24)).alloc (.cells #[.int .i64 (x 0), .int .i64 (x 1), .int .i64 (x 2), .int .i64 (x 3), .int .i64 (x 4)] 26) := ⟨_, rfl⟩
  have s0 : W0.heap.size = w.heap.size + 3 := by rw [hW0]; simp
  have bw0 : Below w.heap.size w W0 := by rw [hW0]; exact (((Below.refl _ _).alloc (Nat.le_refl _) _).alloc (by simp) _).alloc (by simp; omega) _
  have hp0 : W0.heap[w.heap.size]? = some (.cells #[.slice a1 n1 c1, .int .i64 d1] 24 (0, 0)) := by rw [hW0]; exact heap_kept' _ (heap_kept' _ (heap_at _ _ rfl))
  have hq0 : W0.heap[w.heap.size + 1]? = some (.cells #[.slice a2 n2 c2, .int .i64 d2] 24 (0, 0)) := by rw [hW0]; exact heap_kept' _ (heap_at _ _ (by simp only [World.size_alloc]))
  have hx0 : W0.heap[w.heap.size + 1 + 1]? = some (.cells (cellsX x) 26 (0, 0)) := by rw [hW0]; exact heap_at _ _ (by simp only [World.size_alloc])
  rw [← hW0]
  clear hW0
  go_at_call 4
  refine Calls.mono (HR.out _) ?_
  rintro e w1 ⟨rfl, b01⟩
  have X1 := (b01.block _ (by omega)).trans hx0
  have Y1 := (b01.block _ (by omega)).trans hp0
  have Y2 := (b01.block _ (by omega)).trans hq0
  obtain ⟨P0, P1⟩ := two_at Y1
  obtain ⟨z0, z1, z2, z3, z4⟩ := five_at X1
  have Zf := (cellsX_at X1).2
  have f0 := Zf 0
  have f1 := Zf 1
  have f2 := Zf 2
  have f3 := Zf 3
  have f4 := Zf 4
  have s1 := lt_of_block X1
  have HX1 : Hid _ := X1
  have HY1 : Hid _ := Y1
  have HY2 : Hid _ := Y2
  clear Zf X1 Y1 Y2 hx0 hp0 hq0
  go_wp2_with fail
  obtain ⟨W1, hW1⟩ : ∃ W1, W1 = ((((w1.setCell ⟨w.heap.size + 1 + 1, 0, none⟩ (.int .i64 (y 0))).setCell ⟨w.heap.size + 1 + 1, 1, none⟩ (.int .i64 (y 1))).setCell ⟨w.heap.size + 1 + 1, 2, none⟩ (.int .i64 (y 2))).setCell ⟨w.heap.size + 1 + 1, 3, none⟩ (.int .i64 (y 3))).setCell ⟨w.heap.size + 1 + 1, 4, none⟩ (.int .i64 (y 4)) := ⟨_, rfl⟩
  have hx1 : W1.heap[w.heap.size + 1 + 1]? = some (.cells (cellsX y) 26 (0, 0)) := by rw [hW1]; exact callBox HX1.out
  have b1 : Below (w.heap.size + 1 + 1) w1 W1 := by rw [hW1]; exact callBox_below (Below.refl _ _) (Nat.le_refl _)
  have hp1 := (b1.block w.heap.size (by omega)).trans HY1.out
  have hq1 := (b1.block (w.heap.size + 1) (by omega)).trans HY2.out
  have bw1 : Below w.heap.size w W1 := bw0.trans ((b01.mono (by omega)).trans (b1.mono (by omega)))
  have t1 := lt_of_block hx1
  have HK1 : Hid (∀ w', Below W1.heap.size W1 w' → w'.heap[w.heap.size]? = some (.cells #[.slice a1 n1 c1, .int .i64 d1] 24 (0, 0)) ∧ w'.heap[w.heap.size + 1]? = some (.cells #[.slice a2 n2 c2, .int .i64 d2] 24 (0, 0)) ∧ w'.heap[w.heap.size + 1 + 1]? = some (.cells (cellsX y) 26 (0, 0)) ∧ Below w.heap.size w w') := fun w' h =>
    ⟨(h.block _ (by omega)).trans hp1, (h.block _ (by omega)).trans hq1, (h.block _ (by omega)).trans hx1, Below.thenOf bw1 h bw1.size⟩
  rw [← hW1]
  clear hW1 z0 z1 z2 z3 z4 f0 f1 f2 f3 f4 P0 P1 HX1 HY1 HY2 b01 b1 bw0 s0 s1 hx1 hp1 hq1
  go_at_call 5
  refine Calls.mono (HD1.out _ bw1) ?_
  rintro e w2 ⟨nv, rfl, hpn, b12⟩
  have t2 := b12.size
  have HJn : Hid (∀ w', Below w2.heap.size w2 w' → Calls Tryz.prog 7 #[nv, .agg #[.int .i64 (y 0), .int .i64 (y 1), .int .i64 (y 2), .int .i64 (y 3), .int .i64 (y 4)]] w' fun e w'' => e = .returned (.tuple #[.int .i64 (judgeP (deltaR p p) y).1, .int .i64 (judgeP (deltaR p p) y).2.1, .int .i64 (judgeP (deltaR p p) y).2.2]) ∧ Below w'.heap.size w' w'') := fun w' h => judge_any w2.heap.size nv (deltaR p p) y w' (hpn.later h (Nat.le_refl _)) h.size
  obtain ⟨an, nn, cn, dn, rfl, hnl⟩ : ∃ a n c d, nv = .agg #[.slice a n c, .int .i64 d] ∧ n = (deltaR p p).1.length := by
    obtain ⟨rv, rfl, _, hr⟩ := hpn
    obtain ⟨a, c, rfl, _⟩ := hr
    exact ⟨_, _, _, _, rfl, rfl⟩
  have HNl : Hid (nn = (deltaR p p).1.length) := hnl
  clear hpn hnl bw1 HD1
  obtain ⟨W3, hW3⟩ : ∃ W3, W3 = w2.alloc (.cells #[.slice an nn cn, .int .i64 dn] 24) := ⟨_, rfl⟩
  have b23 : Below w2.heap.size w2 W3 := by rw [hW3]; exact hA.out _ _
  have b13 := Below.thenOf b12 b23 t2
  have hn3 : W3.heap[w2.heap.size]? = some (.cells #[.slice an nn cn, .int .i64 dn] 24 (0, 0)) := by rw [hW3]; exact heap_made _ _
  have t3 := lt_of_block hn3
  have HN3 : Hid (∀ w', Below W3.heap.size W3 w' → w'.heap[w2.heap.size]? = some (.cells #[.slice an nn cn, .int .i64 dn] 24 (0, 0)) ∧ Below w2.heap.size w2 w') := fun w' h => ⟨(h.block _ t3).trans hn3, Below.thenOf b23 h b23.size⟩
  have HK3 : Hid (∀ w', Below W3.heap.size W3 w' → Below W1.heap.size W1 w') := fun w' h => Below.thenOf b13 h b13.size
  have bw3 := (HK1.out _ b13).2.2.2
  have HW3 : Hid (W3 = _) := hW3
  clear hW3 hn3 b23 b13 b12
  go_wp2_with fail
  rw [← HW3.out]
  go_at_call 6
  refine Calls.mono (HT.out _ bw3) ?_
  rintro e w4 ⟨rfl, b34⟩
  obtain ⟨k1, k2, k3, bw4⟩ := HK1.out w4 (HK3.out w4 b34)
  obtain ⟨kn, b24⟩ := HN3.out w4 b34
  have h7 : ¬ e1 = 7 := HS1.out
  have h7' : (e1 == 7) = false := by simpa using h7
  have l1 := lt_of_block k1
  have l2 := lt_of_block k2
  have l3 := lt_of_block k3
  have l4 := lt_of_block kn
  by_cases h0 : e1 = 0
  case' pos =>
    subst h0
    have hdr := HS2.out rfl
    rw [hdr] at HNl
    rw [hdr, HS3.out] at HJn
    obtain rfl : nn = 0 := HNl.out
    obtain ⟨z0, z1, z2, z3, z4⟩ := five_at k3
    obtain ⟨N0, N1⟩ := two_at kn
    have HB4 : Hid (Below w2.heap.size w2 w4 ∧ Below W1.heap.size W1 w4 ∧ Below W3.heap.size W3 w4) := ⟨b24, HK3.out w4 b34, b34⟩
    clear hdr HNl HS2 HS3 k1 k2 k3 kn b34 b24 bw4 bw3 HW3 HK3
    go_wp2_with fail
    go_at_call 7
    refine Calls.mono (HJn.out _ HB4.out.1) ?_
    rintro e w5 ⟨rfl, b45⟩
    have bW5 : Below W1.heap.size W1 w5 := Below.thenOf HB4.out.2.1 b45 HB4.out.2.1.size
    obtain ⟨kn, -⟩ := HN3.out w5 (Below.thenOf HB4.out.2.2 b45 HB4.out.2.2.size)
    have ln := lt_of_block kn
    obtain ⟨M0, M1⟩ := two_at kn
    clear kn HN3
    clear z0 z1 z2 z3 z4 N0 N1 HB4 b45 HJn HS1 l1 l2 l3 l4
  case' neg =>
    obtain ⟨w5, hw5⟩ : ∃ w5, w5 = w4 := ⟨_, rfl⟩
    subst hw5
    have bW5 : Below W1.heap.size W1 w5 := HK3.out w5 b34
    have h0' : (e1 == 0) = false := by simpa using h0
    clear k1 k2 k3 kn b34 b24 bw4 bw3 HNl HS2 HS3 HJn HK3 HN3 HW3 HS1 l1 l2 l3 l4
  all_goals
    obtain ⟨k1, k2, k3, bw5⟩ := HK1.out w5 bW5
    have l1 := lt_of_block k1
    have l2 := lt_of_block k2
    have l3 := lt_of_block k3
    obtain ⟨P0, P1⟩ := two_at k1
    obtain ⟨Q0, Q1⟩ := two_at k2
    have Bw5 : Hid _ := bw5
    have BW5 : Hid (Below W1.heap.size W1 w5) := bW5
    clear k1 k2 k3 bw5 bW5
    go_wp2_with fail
    go_at_call 5
    refine Calls.mono (HD2.out _ Bw5.out) ?_
    rintro e w6 ⟨dv, rfl, hpd, b56⟩
    have HJd : Hid (∀ w', Below w6.heap.size w6 w' → Calls Tryz.prog 7 #[dv, .agg #[.int .i64 (y 0), .int .i64 (y 1), .int .i64 (y 2), .int .i64 (y 3), .int .i64 (y 4)]] w' fun e w'' => e = .returned (.tuple #[.int .i64 (judgeP (deltaR p q) y).1, .int .i64 (judgeP (deltaR p q) y).2.1, .int .i64 (judgeP (deltaR p q) y).2.2]) ∧ Below w'.heap.size w' w'') := fun w' h => judge_any w6.heap.size dv (deltaR p q) y w' (hpd.later h (Nat.le_refl _)) h.size
    obtain ⟨ad, nd, cd, dd, rfl⟩ : ∃ a n c d, dv = .agg #[.slice a n c, .int .i64 d] := by
      obtain ⟨rv, rfl, _, hr⟩ := hpd
      obtain ⟨a, c, rfl, _⟩ := hr
      exact ⟨_, _, _, _, rfl⟩
    have b16 : Below W1.heap.size W1 w6 := Below.thenOf BW5.out b56 BW5.out.size
    obtain ⟨W7, hW7⟩ : ∃ W7, W7 = w6.alloc (.cells #[.slice ad nd cd, .int .i64 dd] 24) := ⟨_, rfl⟩
    have b67 : Below w6.heap.size w6 W7 := by rw [hW7]; exact hA.out _ _
    have b17 := Below.thenOf b16 b67 b16.size
    have hd7 : W7.heap[w6.heap.size]? = some (.cells #[.slice ad nd cd, .int .i64 dd] 24 (0, 0)) := by rw [hW7]; exact heap_made _ _
    have t7 := lt_of_block hd7
    have HK7 : Hid (∀ w', Below W7.heap.size W7 w' → Below W1.heap.size W1 w' ∧ Below w6.heap.size w6 w' ∧ w'.heap[w6.heap.size]? = some (.cells #[.slice ad nd cd, .int .i64 dd] 24 (0, 0))) := fun w' h => ⟨Below.thenOf b17 h b17.size, Below.thenOf b67 h b67.size, (h.block _ t7).trans hd7⟩
    have bw7 := (HK1.out W7 b17).2.2.2
    obtain ⟨k1, k2, k3, -⟩ := HK1.out w6 b16
    have m1 := lt_of_block k1
    have m2 := lt_of_block k2
    have m3 := lt_of_block k3
    obtain ⟨P0, P1⟩ := two_at k1
    obtain ⟨Q0, Q1⟩ := two_at k2
    have Bw7 : Hid _ := bw7
    have HW7 : Hid (W7 = _) := hW7
    clear hW7 hd7 b67 b17 b16 b56 hpd k1 k2 k3 bw7 Bw5 BW5 HD2 l1 l2 l3
    go_wp2_with fail
    rw [← HW7.out]
    go_at_call 8
    refine Calls.mono (HLo.out _ Bw7.out) ?_
    rintro e w8 ⟨rfl, b78⟩
    obtain ⟨b18, b68, kd⟩ := HK7.out w8 b78
    obtain ⟨k1, k2, k3, bw8⟩ := HK1.out w8 b18
    have l1 := lt_of_block k1
    have l2 := lt_of_block k2
    have l3 := lt_of_block k3
    have ld := lt_of_block kd
    obtain ⟨P0, P1⟩ := two_at k1
    obtain ⟨Q0, Q1⟩ := two_at k2
    obtain ⟨D0, D1⟩ := two_at kd
    obtain ⟨z0, z1, z2, z3, z4⟩ := five_at k3
    have bW : ∀ X, Below w.heap.size w (w8.alloc X) := fun X => bw8.alloc bw8.size X
    have b6W : ∀ X, Below w6.heap.size w6 (w8.alloc X) := fun X => b68.alloc b68.size X
    have b8W : ∀ X, Below W7.heap.size W7 (w8.alloc X) := fun X => b78.alloc b78.size X
    have BB : Hid ((∀ X, Below w.heap.size w (w8.alloc X)) ∧ (∀ X, Below w6.heap.size w6 (w8.alloc X)) ∧ ∀ X, Below W7.heap.size W7 (w8.alloc X)) := ⟨bW, b6W, b8W⟩
    clear bW b6W b8W k1 k2 k3 kd bw8 b18 b68 b78 HW7 HLo m1 m2 m3
    by_cases hpe : pe = 0
    · subst hpe
      have hlo := HL1.out rfl
      by_cases h27 : e2 = 7
      · subst h27
        simp at hlo
        subst hlo
        clear HL1 HL2 HL3
        go_wp2_with fail
        go_ret
        exact ⟨rfl, BB.out.1 _⟩
      · rw [decide_eq_false h27] at hlo
        subst hlo
        have h27' : (e2 == 7) = false := by simpa using h27
        by_cases h20 : e2 = 0
        · subst h20
          obtain ⟨ju, jv, jw, ku, kv, kw, hju, hjv, hjw, hfin⟩ := HL3.out rfl
          have Jd := HJd.out
          have Jp := HJp.out y
          have Jq := HJq.out y
          rw [hju] at Jd
          rw [hjv] at Jp
          rw [hjw] at Jq
          have Jd' : Hid _ := Jd
          have Jp' : Hid _ := Jp
          have Jq' : Hid _ := Jq
          have HFin : Hid (jv = jw ∧ ju = 4 ∨ jv ≠ jw ∧ ju = jw) := hfin
          clear hju hjv hjw Jd Jp Jq hfin HL1 HL2 HL3 HJd HJp HJq h27 h27'
          go_wp2_with fail
          go_at_call 7
          refine Calls.mono (Jd'.out _ (BB.out.2.1 _)) ?_
          rintro e w9 ⟨rfl, b89⟩
          have b79 := Below.thenOf (BB.out.2.2 _) b89 (BB.out.2.2 _).size
          obtain ⟨b19, -, -⟩ := HK7.out w9 b79
          obtain ⟨k1, k2, k3, bw9⟩ := HK1.out w9 b19
          have l1 := lt_of_block k1
          have l2 := lt_of_block k2
          have l3 := lt_of_block k3
          obtain ⟨P0, P1⟩ := two_at k1
          obtain ⟨z0, z1, z2, z3, z4⟩ := five_at k3
          have B9 : Hid _ := bw9
          have B79 : Hid _ := b79
          clear k1 k2 k3 bw9 b79 b19 b89
          go_wp2_with fail
          go_at_call 7
          refine Calls.mono (Jp'.out _ B9.out) ?_
          rintro e w10 ⟨rfl, b910⟩
          have b710 := Below.thenOf B79.out b910 B79.out.size
          obtain ⟨b110, -, -⟩ := HK7.out w10 b710
          obtain ⟨k1, k2, k3, bw10⟩ := HK1.out w10 b110
          have l1 := lt_of_block k1
          have l2 := lt_of_block k2
          have l3 := lt_of_block k3
          obtain ⟨Q0, Q1⟩ := two_at k2
          obtain ⟨z0, z1, z2, z3, z4⟩ := five_at k3
          have B10 : Hid _ := bw10
          clear k1 k2 k3 bw10 b710 b110 b910
          go_wp2_with fail
          go_at_call 7
          refine Calls.mono (Jq'.out _ B10.out) ?_
          rintro e w11 ⟨rfl, b1011⟩
          have bw11 := Below.thenOf B10.out b1011 B10.out.size
          rcases HFin.out with ⟨rfl, rfl⟩ | ⟨hne, rfl⟩
          · go_wp2_with fail
            go_ret
            exact ⟨by simp, bw11⟩
          · have hne' : (jv == ju) = false := by simpa using hne
            have hne2 : (jv != ju) = true := by simpa using hne
            go_wp2_with fail
            go_ret
            exact ⟨by simp [hne], bw11⟩
        · have h20' : (e2 != 0) = true := by simpa using h20
          clear HL1 HL2 HL3
          go_wp2_with fail
          go_ret
          exact ⟨rfl, BB.out.1 _⟩
    · have hpe' : (pe == 0) = false := by simpa using hpe
      have hpe2 : (pe != 0) = true := by simpa using hpe
      obtain rfl : e2 = pe := HL2.out hpe
      clear HL1 HL2 HL3
      go_wp2_with fail
      go_ret
      exact ⟨rfl, BB.out.1 _⟩
end Go.Proofs.YtbjpdmfedphacacGreatDoor
