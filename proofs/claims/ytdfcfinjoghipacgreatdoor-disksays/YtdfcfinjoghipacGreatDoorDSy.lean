/- DiskSays, walked. -/
import Derived.Test.YtdfcfinjoghipacGreatDoorDj44
set_option linter.all false
set_option maxRecDepth 100000
namespace Go.Proofs.YtdfcfinjoghipacGreatDoor
open Go.RowKit Go.Maps

theorem DiskAt.shapeN {B : Nat} {w : World} {v : Value} {d : DiskT} (h : DiskAt B w v d) : ∃ a n c b m k, v = .agg #[.slice a n c, .slice b m k] := by
  obtain ⟨sv, tv, rfl, ⟨a, c, rfl, _⟩, ⟨b, k, rfl, _⟩⟩ := h
  exact ⟨a, _, c, b, _, k, rfl⟩
theorem DiskAt.wide {B B' : Nat} {w : World} {v : Value} {d : DiskT} (h : DiskAt B w v d) (hB : B ≤ B') : DiskAt B' w v d := by
  obtain ⟨sv, tv, e, h1, h2⟩ := h
  exact ⟨sv, tv, e, h1.wide hB, h2.wide hB⟩

theorem good_all {d : DiskT} {c : RecT} (h : diskErr d = 0) : dPutE d c = putE d c ∧ dPutR d c = putR d c ∧ dSyncE d = syncE d ∧ dSyncR d = syncR d ∧ dRecR d = (recovB d, []) ∧ dRecL d = recovL d := by
  have e1 : dPutE d c = putE d c := by unfold dPutE; rw [if_pos h]
  have e2 : dSyncE d = syncE d := by unfold dSyncE; rw [if_pos h]
  refine ⟨e1, ?_, e2, ?_, ?_, ?_⟩
  · unfold dPutR putR; rw [e1]
  · unfold dSyncR syncR; rw [e2]
  · unfold dRecR; rw [if_pos h]
  · unfold dRecL; rw [if_pos h]
theorem bad_all {d : DiskT} {c : RecT} {n : Int} (h : ¬ diskErr d = 0) : dPutE d c = diskErr d ∧ dPutR d c = ([], []) ∧ dSyncE d = diskErr d ∧ dSyncR d = ([], []) ∧ dCrashE d n = diskErr d ∧ dCrashR d n = ([], []) ∧ dRecR d = ([], []) ∧ dRecL d = [] := by
  have e1 : dPutE d c = diskErr d := by unfold dPutE; rw [if_neg h]
  have e2 : dSyncE d = diskErr d := by unfold dSyncE; rw [if_neg h]
  have e3 : dCrashE d n = diskErr d := by unfold dCrashE; rw [if_neg h]
  refine ⟨e1, ?_, e2, ?_, e3, ?_, ?_, ?_⟩
  · unfold dPutR; rw [e1, if_neg h]
  · unfold dSyncR; rw [e2, if_neg h]
  · unfold dCrashR; rw [e3, if_neg h]
  · unfold dRecR; rw [if_neg h]
  · unfold dRecL; rw [if_neg h]

set_option maxHeartbeats 16000000 in
theorem diskSays_any (B : Nat) (dv cv xv : Value) (d : DiskT) (c : RecT) (n : Int) (x : DiskT) (w : World) (he : EnvT w) (hsp : Lib.TabIs Tryz.prog w "strings.asciiSpace" .u8 Lib.asciiSpaceTab) (hd : DiskAt B w dv d) (hc : RecAt B w cv c) (hn : wf n) (hx : DiskAt B w xv x) (hB : B ≤ w.heap.size) (hsm : DSm d) (hsx : DSm x) :
    Calls Tryz.prog 6 #[dv, cv, .int .i64 n, xv] w fun e w' => e = .returned (.bool true) ∧ Below w.heap.size w w' := by
  have HPu : Hid (∀ w', Below w.heap.size w w' → Calls Tryz.prog 21 #[dv, cv] w' fun e w'' => ∃ a n1 c1 b n2 c2, e = .returned (.tuple #[.agg #[.slice a n1 c1, .slice b n2 c2], .int .i64 (dPutE d c)]) ∧ DiskAt w''.heap.size w'' (.agg #[.slice a n1 c1, .slice b n2 c2]) (dPutR d c) ∧ Below w'.heap.size w' w'') := fun w' h => (putK_any B dv cv d c w' (he.later h) (hd.later h hB) (hc.later h hB) (Nat.le_trans hB h.size) hsm).mono fun e w'' ⟨v, h1, h2, h3⟩ => by
    obtain ⟨a, n1, c1, b, n2, c2, ev⟩ := h2.shapeN
    subst ev
    exact ⟨a, n1, c1, b, n2, c2, h1, h2, h3⟩
  have HSy : Hid (∀ w', Below w.heap.size w w' → Calls Tryz.prog 22 #[dv] w' fun e w'' => ∃ a n1 c1 b n2 c2, e = .returned (.tuple #[.agg #[.slice a n1 c1, .slice b n2 c2], .int .i64 (dSyncE d)]) ∧ DiskAt w''.heap.size w'' (.agg #[.slice a n1 c1, .slice b n2 c2]) (dSyncR d) ∧ Below w'.heap.size w' w'') := fun w' h => (syncK_any B dv d w' (he.later h) (hd.later h hB) (Nat.le_trans hB h.size) hsm).mono fun e w'' ⟨v, h1, h2, h3⟩ => by
    obtain ⟨a, n1, c1, b, n2, c2, ev⟩ := h2.shapeN
    subst ev
    exact ⟨a, n1, c1, b, n2, c2, h1, h2, h3⟩
  have HCr : Hid (∀ w', Below w.heap.size w w' → Calls Tryz.prog 23 #[dv, .int .i64 n] w' fun e w'' => ∃ a n1 c1 b n2 c2, e = .returned (.tuple #[.agg #[.slice a n1 c1, .slice b n2 c2], .int .i64 (dCrashE d n)]) ∧ DiskAt w''.heap.size w'' (.agg #[.slice a n1 c1, .slice b n2 c2]) (dCrashR d n) ∧ Below w'.heap.size w' w'') := fun w' h => (crashK_any B dv d n w' (he.later h) hn (hd.later h hB) (Nat.le_trans hB h.size) hsm).mono fun e w'' ⟨v, h1, h2, h3⟩ => by
    obtain ⟨a, n1, c1, b, n2, c2, ev⟩ := h2.shapeN
    subst ev
    exact ⟨a, n1, c1, b, n2, c2, h1, h2, h3⟩
  have HRe : Hid (∀ w', Below w.heap.size w w' → Calls Tryz.prog 24 #[dv] w' fun e w'' => ∃ a n1 c1 b n2 c2 la ll lc, e = .returned (.tuple #[.agg #[.slice a n1 c1, .slice b n2 c2], .slice la ll lc, .int .i64 (diskErr d)]) ∧ DiskAt w''.heap.size w'' (.agg #[.slice a n1 c1, .slice b n2 c2]) (dRecR d) ∧ RecsAt w''.heap.size w'' (.slice la ll lc) (dRecL d) ∧ ll = (dRecL d).length ∧ Below w'.heap.size w' w'') := fun w' h => (recoverK_any B dv d w' (he.later h) (hd.later h hB) (Nat.le_trans hB h.size) hsm).mono fun e w'' ⟨v, lv, h1, h2, h4, h3⟩ => by
    obtain ⟨a, n1, c1, b, n2, c2, ev⟩ := h2.shapeN
    obtain ⟨la, lc, el, -⟩ := id h4
    subst ev el
    exact ⟨a, n1, c1, b, n2, c2, la, _, lc, h1, h2, h4, rfl, h3⟩
  have HCk : Hid (∀ w', Below w.heap.size w w' → Calls Tryz.prog 25 #[dv] w' fun e w'' => e = .returned (.int .i64 (diskErr d)) ∧ Below w'.heap.size w' w'') := fun w' h => checkDisk_any B dv d w' (he.later h) (hd.later h hB) (Nat.le_trans hB h.size)
  have HDk : Hid (∀ w', Below w.heap.size w w' → Calls Tryz.prog 27 #[dv] w' fun e w'' => e = .returned (.int .i64 (diskErr d)) ∧ Below w'.heap.size w' w'') := fun w' h => checkK_any B dv d w' (he.later h) (hd.later h hB) (Nat.le_trans hB h.size) hsm
  have HFi : Hid (∀ w', Below w.heap.size w w' → Calls Tryz.prog 26 #[] w' fun e w'' => e = .returned (.bool true) ∧ Below w'.heap.size w' w'') := fun w' h => filed_true w' (he.later h)
  have HSm : Hid (∀ w', Below w.heap.size w w' → Calls Tryz.prog 28 #[dv, xv] w' fun e w'' => e = .returned (.bool (decide (d = x))) ∧ Below w'.heap.size w' w'') := fun w' h => sameK_any B dv xv d x w' (hd.later h hB) (hx.later h hB) (Nat.le_trans hB h.size)
  have HSr : Hid (∀ w', Below w.heap.size w w' → Calls Tryz.prog 29 #[dv, xv] w' fun e w'' => e = .returned (.bool (decide (d = x))) ∧ Below w'.heap.size w' w'') := fun w' h => sameDisk_any B dv xv d x w' (hd.later h hB) (hx.later h hB) (Nat.le_trans hB h.size)
  have HS2 : Hid (∀ w' u v p q, DiskAt w'.heap.size w' u p → DiskAt w'.heap.size w' v q → Calls Tryz.prog 29 #[u, v] w' fun e w'' => e = .returned (.bool (decide (p = q))) ∧ Below w'.heap.size w' w'') := fun w' u v p q h1 h2 => sameDisk_any w'.heap.size u v p q w' h1 h2 (Nat.le_refl _)
  have HX : Hid (∀ w', Below w.heap.size w w' → DiskAt B w' dv d ∧ DiskAt B w' xv x ∧ RecAt B w' cv c ∧ EnvT w' ∧ Lib.TabIs Tryz.prog w' "strings.asciiSpace" .u8 Lib.asciiSpaceTab) := fun w' h => ⟨hd.later h hB, hx.later h hB, hc.later h hB, he.later h, tab_later hsp h⟩
  obtain ⟨pe, hpe⟩ : ∃ e, e = dPutE d c := ⟨_, rfl⟩
  obtain ⟨se, hse⟩ : ∃ e, e = dSyncE d := ⟨_, rfl⟩
  obtain ⟨ce, hce⟩ : ∃ e, e = dCrashE d n := ⟨_, rfl⟩
  obtain ⟨bad, hbad⟩ : ∃ e, e = diskErr d := ⟨_, rfl⟩
  obtain ⟨sm, hsm⟩ : ∃ e, e = decide (d = x) := ⟨_, rfl⟩
  rw [← hpe] at HPu
  rw [← hse] at HSy
  rw [← hce] at HCr
  rw [← hbad] at HRe HCk HDk
  rw [← hsm] at HSm HSr
  have HEr : Hid (pe = dPutE d c ∧ se = dSyncE d ∧ ce = dCrashE d n ∧ bad = diskErr d) := ⟨hpe, hse, hce, hbad⟩
  clear hpe hse hce hbad hsm
  obtain ⟨da, dc, db, dk, e1⟩ := hd.shape
  obtain ⟨xa, xc, xb, xk, e2⟩ := hx.shape
  obtain ⟨ca, cc, e3, -⟩ := hc.shape
  subst e1 e2 e3
  clear he hsp hd hc hx
  obtain ⟨ds, hds⟩ : ∃ n, n = d.1.length := ⟨_, rfl⟩
  obtain ⟨dt, hdt⟩ : ∃ n, n = d.2.length := ⟨_, rfl⟩
  obtain ⟨xs, hxs⟩ : ∃ n, n = x.1.length := ⟨_, rfl⟩
  obtain ⟨xt, hxt⟩ : ∃ n, n = x.2.length := ⟨_, rfl⟩
  obtain ⟨cl, hcl⟩ : ∃ n, n = c.2.2.2.1.length := ⟨_, rfl⟩
  obtain ⟨q1, hq1⟩ : ∃ n, n = c.1 := ⟨_, rfl⟩
  obtain ⟨q2, hq2⟩ : ∃ n, n = c.2.1 := ⟨_, rfl⟩
  obtain ⟨q3, hq3⟩ : ∃ n, n = c.2.2.1 := ⟨_, rfl⟩
  obtain ⟨q4, hq4⟩ : ∃ n, n = c.2.2.2.2 := ⟨_, rfl⟩
  have HDn : Hid (d.1.length = ds ∧ d.2.length = dt) := ⟨hds.symm, hdt.symm⟩
  rw [← hds, ← hdt] at HPu HSy HCr HRe HCk HDk HSm HSr HX ⊢
  rw [← hxs, ← hxt] at HSm HSr HX ⊢
  rw [← hcl, ← hq1, ← hq2, ← hq3, ← hq4] at HPu HX ⊢
  clear hds hdt hxs hxt hcl hq1 hq2 hq3 hq4
  obtain ⟨W0, hW0⟩ : ∃ W0, W0 = ((w.alloc (.cells #[.slice da ds dc, .slice db dt dk] 48)).alloc (.cells #[.int .i64 q1, .int .i64 q2, .int .i64 q3, .slice ca cl cc, .int .i64 q4] 38)).alloc (.cells #[.slice xa xs xc, .slice xb xt xk] 48) := ⟨_, rfl⟩
  have b0 : Below w.heap.size w W0 := by rw [hW0]; exact (((Below.refl _ _).alloc (Nat.le_refl _) _).alloc (by simp) _).alloc (by simp; omega) _
  have s0 : W0.heap.size = w.heap.size + 1 + 1 + 1 := by rw [hW0]; simp
  have g0 : W0.heap[w.heap.size]? = some (.cells #[.slice da ds dc, .slice db dt dk] 48 (0, 0)) := by rw [hW0, Below.heap_alloc _ _ _ (by simp; omega), Below.heap_alloc _ _ _ (by simp)]; exact heap_made _ _
  have g1 : W0.heap[w.heap.size + 1]? = some (.cells #[.int .i64 q1, .int .i64 q2, .int .i64 q3, .slice ca cl cc, .int .i64 q4] 38 (0, 0)) := by
    have := heap_made (w.alloc (.cells #[.slice da ds dc, .slice db dt dk] 48)) (.cells #[.int .i64 q1, .int .i64 q2, .int .i64 q3, .slice ca cl cc, .int .i64 q4] 38)
    rw [World.size_alloc] at this
    rw [hW0, Below.heap_alloc _ _ _ (by simp)]
    exact this
  have g2 : W0.heap[w.heap.size + 1 + 1]? = some (.cells #[.slice xa xs xc, .slice xb xt xk] 48 (0, 0)) := by
    have := heap_made ((w.alloc (.cells #[.slice da ds dc, .slice db dt dk] 48)).alloc (.cells #[.int .i64 q1, .int .i64 q2, .int .i64 q3, .slice ca cl cc, .int .i64 q4] 38)) (.cells #[.slice xa xs xc, .slice xb xt xk] 48)
    rw [World.size_alloc, World.size_alloc] at this
    rw [hW0]
    exact this
  have HG : Hid (∀ w', Below W0.heap.size W0 w' → Below w.heap.size w w' ∧ w.heap.size + 1 + 1 < w'.heap.size ∧ w'.heap[w.heap.size]? = some (.cells #[.slice da ds dc, .slice db dt dk] 48 (0, 0)) ∧ w'.heap[w.heap.size + 1]? = some (.cells #[.int .i64 q1, .int .i64 q2, .int .i64 q3, .slice ca cl cc, .int .i64 q4] 38 (0, 0)) ∧ w'.heap[w.heap.size + 1 + 1]? = some (.cells #[.slice xa xs xc, .slice xb xt xk] 48 (0, 0))) := fun w' h => ⟨Below.thenOf b0 h b0.size, by have := h.size; omega, (h.block _ (by omega)).trans g0, (h.block _ (by omega)).trans g1, (h.block _ (by omega)).trans g2⟩
  have HW0 : Hid (W0 = _) := hW0
  have H0 : Hid (Below w.heap.size w W0) := b0
  clear hW0 b0 s0 g0 g1 g2
  go_enter Tryz.func6, Tryz.ntmps6
  go_wp2_with fail
  rw [← HW0.out]
  go_at_call 21
  refine Calls.mono (HPu.out W0 H0.out) ?_
  rintro e w1 ⟨a1, m1, c1, b1, n1, k1, rfl, hd1, hb1⟩
  obtain ⟨W1, hW1⟩ : ∃ W1, W1 = w1.alloc (.cells #[.slice a1 m1 c1, .slice b1 n1 k1] 48) := ⟨_, rfl⟩
  have HW1 : Hid (W1 = _) := hW1
  have bb1 : Below w1.heap.size w1 W1 := by rw [hW1]; exact (Below.refl _ _).alloc (Nat.le_refl _) _
  have G1 : Hid (W1.heap[w1.heap.size]? = some (.cells #[.slice a1 m1 c1, .slice b1 n1 k1] 48 (0, 0))) := by unfold Hid; rw [hW1]; exact heap_made _ _
  have bw1 : Below W0.heap.size W0 w1 := hb1
  have B1 : Hid (Below W0.heap.size W0 W1) := Below.thenOf bw1 bb1 bw1.size
  have D1 : Hid (DiskAt W1.heap.size W1 (.agg #[.slice a1 m1 c1, .slice b1 n1 k1]) (dPutR d c)) := (hd1.later bb1 (Nat.le_refl _)).wide bb1.size
  obtain ⟨-, l1, gd, -, gx⟩ := HG.out w1 bw1
  obtain ⟨y0, y1, -, -⟩ := box_free gd
  have hl : w.heap.size < w1.heap.size := by omega
  clear hd1 hb1 gd gx hW1 bb1 bw1 l1
  go_wp2_with fail
  rw [← HW1.out]
  clear y0 y1 hl
  go_at_call 22
  refine Calls.mono (HSy.out W1 (HG.out W1 B1.out).1) ?_
  rintro e w2 ⟨a2, m2, c2, b2, n2, k2, rfl, hd2, hb2⟩
  obtain ⟨W2, hW2⟩ : ∃ W2, W2 = w2.alloc (.cells #[.slice a2 m2 c2, .slice b2 n2 k2] 48) := ⟨_, rfl⟩
  have HW2 : Hid (W2 = _) := hW2
  have bb2 : Below w2.heap.size w2 W2 := by rw [hW2]; exact (Below.refl _ _).alloc (Nat.le_refl _) _
  have G2 : Hid (W2.heap[w2.heap.size]? = some (.cells #[.slice a2 m2 c2, .slice b2 n2 k2] 48 (0, 0))) := by unfold Hid; rw [hW2]; exact heap_made _ _
  have bw2 : Below W0.heap.size W0 w2 := Below.thenOf B1.out hb2 B1.out.size
  have B2 : Hid (Below W0.heap.size W0 W2) := Below.thenOf bw2 bb2 bw2.size
  have D2 : Hid (DiskAt W2.heap.size W2 (.agg #[.slice a2 m2 c2, .slice b2 n2 k2]) (dSyncR d)) := (hd2.later bb2 (Nat.le_refl _)).wide bb2.size
  obtain ⟨-, l2, gd, -, gx⟩ := HG.out w2 bw2
  obtain ⟨y0, y1, -, -⟩ := box_free gd
  have hl : w.heap.size < w2.heap.size := by omega
  have C2 : Hid (Below W1.heap.size W1 W2) := Below.thenOf hb2 bb2 hb2.size
  clear hd2 hb2 gd gx hW2 bb2 bw2 l2
  go_wp2_with fail
  rw [← HW2.out]
  clear y0 y1 hl
  go_at_call 23
  refine Calls.mono (HCr.out W2 (HG.out W2 B2.out).1) ?_
  rintro e w3 ⟨a3, m3, c3, b3, n3, k3, rfl, hd3, hb3⟩
  obtain ⟨W3, hW3⟩ : ∃ W3, W3 = w3.alloc (.cells #[.slice a3 m3 c3, .slice b3 n3 k3] 48) := ⟨_, rfl⟩
  have HW3 : Hid (W3 = _) := hW3
  have bb3 : Below w3.heap.size w3 W3 := by rw [hW3]; exact (Below.refl _ _).alloc (Nat.le_refl _) _
  have G3 : Hid (W3.heap[w3.heap.size]? = some (.cells #[.slice a3 m3 c3, .slice b3 n3 k3] 48 (0, 0))) := by unfold Hid; rw [hW3]; exact heap_made _ _
  have bw3 : Below W0.heap.size W0 w3 := Below.thenOf B2.out hb3 B2.out.size
  have B3 : Hid (Below W0.heap.size W0 W3) := Below.thenOf bw3 bb3 bw3.size
  have D3 : Hid (DiskAt W3.heap.size W3 (.agg #[.slice a3 m3 c3, .slice b3 n3 k3]) (dCrashR d n)) := (hd3.later bb3 (Nat.le_refl _)).wide bb3.size
  obtain ⟨-, l3, gd, -, gx⟩ := HG.out w3 bw3
  obtain ⟨y0, y1, -, -⟩ := box_free gd
  have hl : w.heap.size < w3.heap.size := by omega
  have C3 : Hid (Below W2.heap.size W2 W3) := Below.thenOf hb3 bb3 hb3.size
  clear hd3 hb3 gd gx hW3 bb3 bw3 l3
  go_wp2_with fail
  rw [← HW3.out]
  clear y0 y1 hl
  go_at_call 24
  refine Calls.mono (HRe.out W3 (HG.out W3 B3.out).1) ?_
  rintro e w4 ⟨a4, m4, c4, b4, n4, k4, la, ll, lc, rfl, hd4, hl4, hll, hb4⟩
  have HLl : Hid (ll = (dRecL d).length) := hll
  clear hll
  obtain ⟨W4, hW4⟩ : ∃ W4, W4 = w4.alloc (.cells #[.slice a4 m4 c4, .slice b4 n4 k4] 48) := ⟨_, rfl⟩
  have HW4 : Hid (W4 = _) := hW4
  have bb4 : Below w4.heap.size w4 W4 := by rw [hW4]; exact (Below.refl _ _).alloc (Nat.le_refl _) _
  have G4 : Hid (W4.heap[w4.heap.size]? = some (.cells #[.slice a4 m4 c4, .slice b4 n4 k4] 48 (0, 0))) := by unfold Hid; rw [hW4]; exact heap_made _ _
  have bw4 : Below W0.heap.size W0 w4 := Below.thenOf B3.out hb4 B3.out.size
  have B4 : Hid (Below W0.heap.size W0 W4) := Below.thenOf bw4 bb4 bw4.size
  have D4 : Hid (DiskAt W4.heap.size W4 (.agg #[.slice a4 m4 c4, .slice b4 n4 k4]) (dRecR d)) := (hd4.later bb4 (Nat.le_refl _)).wide bb4.size
  obtain ⟨-, l4, gd, -, gx⟩ := HG.out w4 bw4
  obtain ⟨y0, y1, -, -⟩ := box_free gd
  have hl : w.heap.size < w4.heap.size := by omega
  have L4 : Hid (RecsAt W4.heap.size W4 (.slice la ll lc) (dRecL d)) := (hl4.later bb4 (Nat.le_refl _)).wide bb4.size
  have C4 : Hid (Below W3.heap.size W3 W4) := Below.thenOf hb4 bb4 hb4.size
  clear hd4 hb4 gd gx hW4 bb4 bw4 l4 hl4
  go_wp2_with fail
  rw [← HW4.out]
  clear y0 y1 hl
  go_at_call 25
  refine Calls.mono (HCk.out W4 (HG.out W4 B4.out).1) ?_
  rintro e w5 ⟨rfl, hb5⟩
  obtain ⟨W5, hW5⟩ : ∃ W5, W5 = w5.alloc (.cells #[.slice none 0 0, .slice none 0 0] 48) := ⟨_, rfl⟩
  have HW5 : Hid (W5 = _) := hW5
  have bb5 : Below w5.heap.size w5 W5 := by rw [hW5]; exact (Below.refl _ _).alloc (Nat.le_refl _) _
  have C5 : Hid (Below W4.heap.size W4 W5) := Below.thenOf hb5 bb5 hb5.size
  have G5 : Hid (W5.heap[w5.heap.size]? = some (.cells #[.slice none 0 0, .slice none 0 0] 48 (0, 0))) := by unfold Hid; rw [hW5]; exact heap_made _ _
  have B5 : Hid (Below W0.heap.size W0 W5) := Below.thenOf B4.out C5.out B4.out.size
  clear hb5 bb5 hW5
  have HA5 : Hid (∀ v, Below W5.heap.size W5 v → Below W0.heap.size W0 v ∧ (v.heap[w1.heap.size]? = some (.cells #[.slice a1 m1 c1, .slice b1 n1 k1] 48 (0, 0)) ∧ DiskAt v.heap.size v (.agg #[.slice a1 m1 c1, .slice b1 n1 k1]) (dPutR d c)) ∧ (v.heap[w2.heap.size]? = some (.cells #[.slice a2 m2 c2, .slice b2 n2 k2] 48 (0, 0)) ∧ DiskAt v.heap.size v (.agg #[.slice a2 m2 c2, .slice b2 n2 k2]) (dSyncR d)) ∧ (v.heap[w3.heap.size]? = some (.cells #[.slice a3 m3 c3, .slice b3 n3 k3] 48 (0, 0)) ∧ DiskAt v.heap.size v (.agg #[.slice a3 m3 c3, .slice b3 n3 k3]) (dCrashR d n)) ∧ (v.heap[w4.heap.size]? = some (.cells #[.slice a4 m4 c4, .slice b4 n4 k4] 48 (0, 0)) ∧ DiskAt v.heap.size v (.agg #[.slice a4 m4 c4, .slice b4 n4 k4]) (dRecR d)) ∧ v.heap[w5.heap.size]? = some (.cells #[.slice none 0 0, .slice none 0 0] 48 (0, 0)) ∧ RecsAt v.heap.size v (.slice la ll lc) (dRecL d)) := fun v h => by
    have h4 : Below W4.heap.size W4 v := Below.thenOf C5.out h C5.out.size
    have h3 : Below W3.heap.size W3 v := Below.thenOf C4.out h4 C4.out.size
    have h2 : Below W2.heap.size W2 v := Below.thenOf C3.out h3 C3.out.size
    have h1 : Below W1.heap.size W1 v := Below.thenOf C2.out h2 C2.out.size
    exact ⟨Below.thenOf B5.out h B5.out.size, ⟨(h1.block _ (lt_of_block G1.out)).trans G1.out, (D1.out.later h1 (Nat.le_refl _)).wide h1.size⟩, ⟨(h2.block _ (lt_of_block G2.out)).trans G2.out, (D2.out.later h2 (Nat.le_refl _)).wide h2.size⟩, ⟨(h3.block _ (lt_of_block G3.out)).trans G3.out, (D3.out.later h3 (Nat.le_refl _)).wide h3.size⟩, ⟨(h4.block _ (lt_of_block G4.out)).trans G4.out, (D4.out.later h4 (Nat.le_refl _)).wide h4.size⟩, (h.block _ (lt_of_block G5.out)).trans G5.out, (L4.out.later h4 (Nat.le_refl _)).wide h4.size⟩
  go_wp2_with fail
  rw [← HW5.out]
  clear HW0 HW1 HW2 HW3 HW4 HW5 C2 C3 C4 C5 G1 G2 G3 G4 G5 D1 D2 D3 D4 L4 B1 B2 B3 B4 HPu HSy HCr HRe HCk H0
  obtain ⟨bw5, lw5, gd5, -, gx5⟩ := HG.out W5 B5.out
  obtain ⟨r0, r1, -, -⟩ := box_free gd5
  obtain ⟨p0, p1, -, -⟩ := box_free gx5
  have hne := Later.ne W5
  have z0 : ∀ y : Later W5, y.1.cell? ⟨w.heap.size, 0, none⟩ = some (.slice da ds dc) := fun y => y.cell r0 (by omega)
  have z1 : ∀ y : Later W5, y.1.cell? ⟨w.heap.size, 1, none⟩ = some (.slice db dt dk) := fun y => y.cell r1 (by omega)
  have z2 : ∀ y : Later W5, y.1.cell? ⟨w.heap.size + 1 + 1, 0, none⟩ = some (.slice xa xs xc) := fun y => y.cell p0 (by omega)
  have z3 : ∀ y : Later W5, y.1.cell? ⟨w.heap.size + 1 + 1, 1, none⟩ = some (.slice xb xt xk) := fun y => y.cell p1 (by omega)
  have HLw : Hid (∀ y : Later W5, Below w.heap.size w y.1) := fun y => Below.thenOf bw5 y.2 bw5.size
  clear r0 r1 p0 p1 gd5 gx5 lw5
  refine wp_region_later (by kernel_rfl) (by kernel_rfl) ?_
  repeat (go_big_quiet_step (first
    | (go_at_call 26; exact Calls.later (HFi.out _ (HLw.out _)))
    | (go_at_call 27; exact Calls.later (HDk.out _ (HLw.out _)))
    | (go_at_call 28; exact Calls.later (HSm.out _ (HLw.out _)))
    | (go_at_call 29; exact Calls.later (HSr.out _ (HLw.out _)))))
  refine wpQuiet_nil ?_
  rintro w7 ⟨⟨_, hb7⟩, rfl⟩
  clear z0 z1 z2 z3 hne HLw HFi HDk HSm HSr
  have B7 : Hid (Below W5.heap.size W5 w7) := hb7
  clear hb7 bw5
  by_cases hbd : bad = 0
  · subst hbd
    have HGd : Hid _ := good_all (d := d) (c := c) HEr.out.2.2.2.symm
    have HLe : Hid (d.1.length ≤ 60000 ∧ d.2.length ≤ 60000) := ⟨(diskErr_ok HEr.out.2.2.2.symm).1, (diskErr_ok HEr.out.2.2.2.symm).2.1⟩
    have B07 : Hid (Below W0.heap.size W0 w7) := (HA5.out w7 B7.out).1
    obtain ⟨bw7, lw7, gd7, gc7, -⟩ := HG.out w7 B07.out
    obtain ⟨r0, r1, -, -⟩ := box_free gd7
    obtain ⟨p0, p1, p2, p3, p4⟩ := rec_box gc7
    obtain ⟨hX1, -, hX2, hX3, hX4⟩ := HX.out w7 bw7
    have HPo : Hid (Calls Tryz.prog 30 #[.agg #[.slice da ds dc, .slice db dt dk], .agg #[.int .i64 q1, .int .i64 q2, .int .i64 q3, .slice ca cl cc, .int .i64 q4]] w7 fun e w'' => ∃ a n1 c1 b n2 c2, e = .returned (.tuple #[.agg #[.slice a n1 c1, .slice b n2 c2], .int .i64 pe]) ∧ DiskAt w''.heap.size w'' (.agg #[.slice a n1 c1, .slice b n2 c2]) (dPutR d c) ∧ Below w7.heap.size w7 w'') := by
      have h := putOn_any B _ _ d c w7 hX3 hX4 hX1 hX2 (Nat.le_trans hB bw7.size) HLe.out.1 HLe.out.2
      unfold Hid
      rw [HEr.out.1, HGd.out.1, HGd.out.2.1]
      refine h.mono fun e w'' ⟨v, h1, h2, h3⟩ => ?_
      obtain ⟨a, n1, c1, b, n2, c2, ev⟩ := h2.shapeN
      subst ev
      exact ⟨a, n1, c1, b, n2, c2, h1, h2, h3⟩
    clear gd7 gc7 hX1 hX2 hX3 hX4
    have l7 : w.heap.size < w7.heap.size := by omega
    have l7' : w.heap.size + 1 < w7.heap.size := by omega
    go_wp2_with fail
    go_at_call 30
    refine Calls.mono HPo.out ?_
    rintro e w8 ⟨a8, m8, c8, b8, n8, k8, rfl, hd8, hb8⟩
    clear r0 r1 p0 p1 p2 p3 p4 bw7 lw7 l7 l7'
    obtain ⟨W8, hW8⟩ : ∃ W8, W8 = w8.alloc (.cells #[.slice a8 m8 c8, .slice b8 n8 k8] 48) := ⟨_, rfl⟩
    have HW8 : Hid (W8 = _) := hW8
    have bb8 : Below w8.heap.size w8 W8 := by rw [hW8]; exact (Below.refl _ _).alloc (Nat.le_refl _) _
    have G8 : Hid (W8.heap[w8.heap.size]? = some (.cells #[.slice a8 m8 c8, .slice b8 n8 k8] 48 (0, 0))) := by unfold Hid; rw [hW8]; exact heap_made _ _
    have C8 : Hid (Below w7.heap.size w7 W8) := Below.thenOf hb8 bb8 hb8.size
    have D8 : Hid (DiskAt W8.heap.size W8 (.agg #[.slice a8 m8 c8, .slice b8 n8 k8]) (dPutR d c)) := (hd8.later bb8 (Nat.le_refl _)).wide bb8.size
    have B08 : Hid (Below W0.heap.size W0 W8) := Below.thenOf B07.out C8.out B07.out.size
    obtain ⟨bw8, lw8, gd8, -, -⟩ := HG.out w8 (Below.thenOf B07.out hb8 B07.out.size)
    obtain ⟨r0, r1, -, -⟩ := box_free gd8
    have l8 : w.heap.size < w8.heap.size := by omega
    obtain ⟨hX1, -, -, hX3, -⟩ := HX.out W8 (HG.out W8 B08.out).1
    have HSn : Hid (Calls Tryz.prog 31 #[.agg #[.slice da ds dc, .slice db dt dk]] W8 fun e w'' => ∃ a n1 c1 b n2 c2, e = .returned (.tuple #[.agg #[.slice a n1 c1, .slice b n2 c2], .int .i64 se]) ∧ DiskAt w''.heap.size w'' (.agg #[.slice a n1 c1, .slice b n2 c2]) (dSyncR d) ∧ Below W8.heap.size W8 w'') := by
      have h := synced_any B _ d W8 hX3 hX1 (Nat.le_trans hB (HG.out W8 B08.out).1.size) HLe.out.1 HLe.out.2
      unfold Hid
      rw [HEr.out.2.1, HGd.out.2.2.1, HGd.out.2.2.2.1]
      refine h.mono fun e w'' ⟨v, h1, h2, h3⟩ => ?_
      obtain ⟨a, n1, c1, b, n2, c2, ev⟩ := h2.shapeN
      subst ev
      exact ⟨a, n1, c1, b, n2, c2, h1, h2, h3⟩
    clear gd8 hX1 hX3 hd8 hb8 hW8 bb8 bw8 lw8 HPo
    go_wp2_with fail
    rw [← HW8.out]
    go_at_call 31
    refine Calls.mono HSn.out ?_
    rintro e w9 ⟨a9, m9, c9, b9, n9, k9, rfl, hd9, hb9⟩
    clear r0 r1 l8
    obtain ⟨W9, hW9⟩ : ∃ W9, W9 = w9.alloc (.cells #[.slice a9 m9 c9, .slice b9 n9 k9] 48) := ⟨_, rfl⟩
    have HW9 : Hid (W9 = _) := hW9
    have bb9 : Below w9.heap.size w9 W9 := by rw [hW9]; exact (Below.refl _ _).alloc (Nat.le_refl _) _
    have G9 : Hid (W9.heap[w9.heap.size]? = some (.cells #[.slice a9 m9 c9, .slice b9 n9 k9] 48 (0, 0))) := by unfold Hid; rw [hW9]; exact heap_made _ _
    have C9 : Hid (Below W8.heap.size W8 W9) := Below.thenOf hb9 bb9 hb9.size
    have D9 : Hid (DiskAt W9.heap.size W9 (.agg #[.slice a9 m9 c9, .slice b9 n9 k9]) (dSyncR d)) := (hd9.later bb9 (Nat.le_refl _)).wide bb9.size
    have B09 : Hid (Below W0.heap.size W0 W9) := Below.thenOf B08.out C9.out B08.out.size
    obtain ⟨bw9, lw9, gd9, -, -⟩ := HG.out w9 (Below.thenOf B08.out hb9 B08.out.size)
    obtain ⟨r0, r1, -, -⟩ := box_free gd9
    have l9 : w.heap.size < w9.heap.size := by omega
    obtain ⟨hX1, -, -, hX3, -⟩ := HX.out W9 (HG.out W9 B09.out).1
    have HRc : Hid (Calls Tryz.prog 32 #[.agg #[.slice da ds dc, .slice db dt dk]] W9 fun e w'' => ∃ a n1 c1 b n2 c2 la ll lc, e = .returned (.tuple #[.agg #[.slice a n1 c1, .slice b n2 c2], .slice la ll lc]) ∧ DiskAt w''.heap.size w'' (.agg #[.slice a n1 c1, .slice b n2 c2]) (dRecR d) ∧ RecsAt w''.heap.size w'' (.slice la ll lc) (dRecL d) ∧ Below W9.heap.size W9 w'') := by
      have h := recovered_any B _ d W9 hX3 hX1 (Nat.le_trans hB (HG.out W9 B09.out).1.size) HLe.out.1 HLe.out.2
      unfold Hid
      rw [HGd.out.2.2.2.2.1, HGd.out.2.2.2.2.2]
      refine h.mono fun e w'' ⟨v, lv, h1, h2, h4, h3⟩ => ?_
      obtain ⟨a, n1, c1, b, n2, c2, ev⟩ := h2.shapeN
      obtain ⟨la, lc, el, -⟩ := id h4
      subst ev el
      exact ⟨a, n1, c1, b, n2, c2, la, _, lc, h1, h2, h4, h3⟩
    clear gd9 hX1 hX3 hd9 hb9 hW9 bb9 bw9 lw9 HSn
    go_wp2_with fail
    rw [← HW9.out]
    go_at_call 32
    refine Calls.mono HRc.out ?_
    rintro e w10 ⟨a10, m10, c10, b10, n10, k10, ja, jl, jc, rfl, hd10, hl10, hb10⟩
    clear r0 r1 l9
    obtain ⟨W10, hW10⟩ : ∃ W10, W10 = w10.alloc (.cells #[.slice a10 m10 c10, .slice b10 n10 k10] 48) := ⟨_, rfl⟩
    have HW10 : Hid (W10 = _) := hW10
    have bb10 : Below w10.heap.size w10 W10 := by rw [hW10]; exact (Below.refl _ _).alloc (Nat.le_refl _) _
    have G10 : Hid (W10.heap[w10.heap.size]? = some (.cells #[.slice a10 m10 c10, .slice b10 n10 k10] 48 (0, 0))) := by unfold Hid; rw [hW10]; exact heap_made _ _
    have C10 : Hid (Below W9.heap.size W9 W10) := Below.thenOf hb10 bb10 hb10.size
    have D10 : Hid (DiskAt W10.heap.size W10 (.agg #[.slice a10 m10 c10, .slice b10 n10 k10]) (dRecR d)) := (hd10.later bb10 (Nat.le_refl _)).wide bb10.size
    have L10 : Hid (RecsAt W10.heap.size W10 (.slice ja jl jc) (dRecL d)) := (hl10.later bb10 (Nat.le_refl _)).wide bb10.size
    have e8 : w10.heap[w8.heap.size]? = some (.cells #[.slice a8 m8 c8, .slice b8 n8 k8] 48 (0, 0)) := ((Below.thenOf C9.out hb10 C9.out.size).block _ (lt_of_block G8.out)).trans G8.out
    have t10 : Below W5.heap.size W5 w10 := Below.thenOf B7.out (Below.thenOf C8.out (Below.thenOf C9.out hb10 C9.out.size) C8.out.size) B7.out.size
    have e1 := (HA5.out w10 t10).2.1.1
    obtain ⟨x0, x1, -, -⟩ := box_free e1
    obtain ⟨o0, o1, -, -⟩ := box_free e8
    have xl := lt_of_block e1
    have ol := lt_of_block e8
    clear hd10 hl10 hb10 hW10 bb10 HRc e1 e8 t10
    have HB10 : Hid (∀ v, Below W10.heap.size W10 v → Below W5.heap.size W5 v ∧ (v.heap[w8.heap.size]? = some (.cells #[.slice a8 m8 c8, .slice b8 n8 k8] 48 (0, 0)) ∧ DiskAt v.heap.size v (.agg #[.slice a8 m8 c8, .slice b8 n8 k8]) (dPutR d c)) ∧ (v.heap[w9.heap.size]? = some (.cells #[.slice a9 m9 c9, .slice b9 n9 k9] 48 (0, 0)) ∧ DiskAt v.heap.size v (.agg #[.slice a9 m9 c9, .slice b9 n9 k9]) (dSyncR d)) ∧ (v.heap[w10.heap.size]? = some (.cells #[.slice a10 m10 c10, .slice b10 n10 k10] 48 (0, 0)) ∧ DiskAt v.heap.size v (.agg #[.slice a10 m10 c10, .slice b10 n10 k10]) (dRecR d)) ∧ RecsAt v.heap.size v (.slice ja jl jc) (dRecL d)) := fun v h => by
      have h9 : Below W9.heap.size W9 v := Below.thenOf C10.out h C10.out.size
      have h8 : Below W8.heap.size W8 v := Below.thenOf C9.out h9 C9.out.size
      have h7 : Below w7.heap.size w7 v := Below.thenOf C8.out h8 C8.out.size
      exact ⟨Below.thenOf B7.out h7 B7.out.size, ⟨(h8.block _ (lt_of_block G8.out)).trans G8.out, (D8.out.later h8 (Nat.le_refl _)).wide h8.size⟩, ⟨(h9.block _ (lt_of_block G9.out)).trans G9.out, (D9.out.later h9 (Nat.le_refl _)).wide h9.size⟩, ⟨(h.block _ (lt_of_block G10.out)).trans G10.out, (D10.out.later h (Nat.le_refl _)).wide h.size⟩, (L10.out.later h (Nat.le_refl _)).wide h.size⟩
    have HW : Hid (∀ v, Below W10.heap.size W10 v → Below w.heap.size w v) := fun v h => (HG.out v (HA5.out v (HB10.out v h).1).1).1
    have HSa : Hid (∀ v, Below W10.heap.size W10 v → Calls Tryz.prog 29 #[.agg #[.slice a1 m1 c1, .slice b1 n1 k1], .agg #[.slice a8 m8 c8, .slice b8 n8 k8]] v fun e w'' => e = .returned (.bool true) ∧ Below v.heap.size v w'') := fun v h => by
      have h := HS2.out v _ _ _ _ (HA5.out v (HB10.out v h).1).2.1.2 (HB10.out v h).2.1.2
      rw [decide_eq_true rfl] at h
      exact h
    have HSb : Hid (∀ v, Below W10.heap.size W10 v → Calls Tryz.prog 29 #[.agg #[.slice a2 m2 c2, .slice b2 n2 k2], .agg #[.slice a9 m9 c9, .slice b9 n9 k9]] v fun e w'' => e = .returned (.bool true) ∧ Below v.heap.size v w'') := fun v h => by
      have h := HS2.out v _ _ _ _ (HA5.out v (HB10.out v h).1).2.2.1.2 (HB10.out v h).2.2.1.2
      rw [decide_eq_true rfl] at h
      exact h
    have HSc : Hid (∀ v, Below W10.heap.size W10 v → Calls Tryz.prog 29 #[.agg #[.slice a4 m4 c4, .slice b4 n4 k4], .agg #[.slice a10 m10 c10, .slice b10 n10 k10]] v fun e w'' => e = .returned (.bool true) ∧ Below v.heap.size v w'') := fun v h => by
      have h := HS2.out v _ _ _ _ (HA5.out v (HB10.out v h).1).2.2.2.2.1.2 (HB10.out v h).2.2.2.1.2
      rw [decide_eq_true rfl] at h
      exact h
    have HEq : Hid (∀ v, Below W10.heap.size W10 v → Calls Tryz.prog 33 #[.slice la ll lc, .slice ja jl jc, .func (.func 19) #[] #[]] v fun e w'' => e = .returned (.bool true) ∧ Below v.heap.size v w'') := fun v h => by
      have h := equalRecs_any v.heap.size 19 (fun args w' => by kernel_rfl) (fun w' u u' r q h1 h2 => sameRec_any w'.heap.size u u' r q w' h1 h2 (Nat.le_refl _)) _ _ _ _ v (HA5.out v (HB10.out v h).1).2.2.2.2.2.2 (HB10.out v h).2.2.2.2 (Nat.le_refl _)
      rw [decide_eq_true rfl] at h
      exact h
    clear HW8 HW9 C8 C9 C10 G8 G9 G10 D8 D9 D10 L10 HS2 B08 B09
    go_wp2_with fail
    rw [← HW10.out]
    go_at_call 29
    refine Calls.mono (HSa.out W10 (Below.refl _ _)) ?_
    rintro e u1 ⟨rfl, hb⟩
    have T1 : Hid (Below W10.heap.size W10 u1) := hb
    clear hb x0 x1 o0 o1 xl ol
    obtain ⟨x0, x1, -, -⟩ := box_free (HA5.out u1 (HB10.out u1 T1.out).1).2.2.1.1
    obtain ⟨o0, o1, -, -⟩ := box_free (HB10.out u1 T1.out).2.2.1.1
    go_wp2_with fail
    go_at_call 29
    refine Calls.mono (HSb.out u1 T1.out) ?_
    rintro e u2 ⟨rfl, hb⟩
    have T2 : Hid (Below W10.heap.size W10 u2) := Below.thenOf T1.out hb T1.out.size
    clear hb x0 x1 o0 o1
    obtain ⟨x0, x1, -, -⟩ := box_free (HA5.out u2 (HB10.out u2 T2.out).1).2.2.2.2.1.1
    obtain ⟨o0, o1, -, -⟩ := box_free (HB10.out u2 T2.out).2.2.2.1.1
    go_wp2_with fail
    go_at_call 29
    refine Calls.mono (HSc.out u2 T2.out) ?_
    rintro e u3 ⟨rfl, hb⟩
    have T3 : Hid (Below W10.heap.size W10 u3) := Below.thenOf T2.out hb T2.out.size
    clear hb x0 x1 o0 o1
    go_wp2_with fail
    go_at_call 33
    refine Calls.mono (HEq.out u3 T3.out) ?_
    rintro e u4 ⟨rfl, hb⟩
    have T4 : Hid (Below W10.heap.size W10 u4) := Below.thenOf T3.out hb T3.out.size
    clear hb
    obtain ⟨bu4, lu4, gd4, -, -⟩ := HG.out u4 (HA5.out u4 (HB10.out u4 T4.out).1).1
    obtain ⟨r0, r1, -, -⟩ := box_free gd4
    obtain ⟨k0, k1', -, -⟩ := box_free (HA5.out u4 (HB10.out u4 T4.out).1).2.2.2.1.1
    obtain ⟨o0, o1, -, -⟩ := box_free (HA5.out u4 (HB10.out u4 T4.out).1).2.2.2.2.2.1
    have HDk : Hid (DiskAt u4.heap.size u4 (.agg #[.slice a3 m3 c3, .slice b3 n3 k3]) (dCrashR d n)) := (HA5.out u4 (HB10.out u4 T4.out).1).2.2.2.1.2
    have Hbu : Hid (Below w.heap.size w u4) := bu4
    have HD4 : Hid (DiskAt B u4 (.agg #[.slice da ds dc, .slice db dt dk]) d) := (HX.out u4 bu4).1
    have HCe : Hid (ce = if n < 0 ∨ (d.2.length : Int) < n then 3 else 0) := by
      unfold Hid
      rw [HEr.out.2.2.1]
      unfold dCrashE
      rw [if_pos HEr.out.2.2.2.symm]
    rw [HDn.out.2] at HCe
    have HSs : Hid (∀ u v p q w', DiskAt w'.heap.size w' u p → DiskAt w'.heap.size w' v q → Calls Tryz.prog 29 #[u, v] w' fun e w'' => e = .returned (.bool (decide (p = q))) ∧ Below w'.heap.size w' w'') := fun u v p q w' h1 h2 => sameDisk_any w'.heap.size u v p q w' h1 h2 (Nat.le_refl _)
    clear gd4 bu4 lu4 HSa HSb HSc HEq HB10 HW HA5 HX B7 B07 HGd HG
    by_cases hneg : n < 0
    · have hce : ce = 3 := by rw [HCe.out, if_pos (.inl hneg)]
      have HFs : Hid (dCrashR d n = ([], [])) := by unfold Hid dCrashR; rw [← HEr.out.2.2.1, hce]; rfl
      have HC : Hid _ := HSs.out _ _ _ _ u4 HDk.out (diskAt_zero _ _)
      rw [HFs.out, decide_eq_true rfl] at HC
      subst hce
      go_wp2_with fail
      go_at_call 29
      refine Calls.mono HC.out ?_
      rintro e u5 ⟨rfl, hb⟩
      have HF : Hid (Below w.heap.size w u5) := Below.thenOf Hbu.out hb Hbu.out.size
      clear hb
      go_wp2_with fail
      go_ret
      exact ⟨rfl, HF.out⟩
    · by_cases hbig : (dt : Int) < n
      · have hce : ce = 3 := by rw [HCe.out, if_pos (.inr hbig)]
        have HFs : Hid (dCrashR d n = ([], [])) := by unfold Hid dCrashR; rw [← HEr.out.2.2.1, hce]; rfl
        have HC : Hid _ := HSs.out _ _ _ _ u4 HDk.out (diskAt_zero _ _)
        rw [HFs.out, decide_eq_true rfl] at HC
        subst hce
        go_wp2_with fail
        go_at_call 29
        refine Calls.mono HC.out ?_
        rintro e u5 ⟨rfl, hb⟩
        have HF : Hid (Below w.heap.size w u5) := Below.thenOf Hbu.out hb Hbu.out.size
        clear hb
        go_wp2_with fail
        go_ret
        exact ⟨rfl, HF.out⟩
      · have hce : ce = 0 := by rw [HCe.out, if_neg (by omega)]
        have HFs : Hid (dCrashR d n = (d.1, d.2.take n.toNat)) := by unfold Hid dCrashR; rw [← HEr.out.2.2.1, hce, if_pos rfl]
        obtain ⟨j, hj⟩ : ∃ j : Nat, n = (j : Int) := ⟨n.toNat, by omega⟩
        subst hj
        have hjd : j ≤ dt := by omega
        have hdk : dt ≤ dk ∧ dk ≤ 9223372036854775807 := by
          obtain ⟨sv, tv, e, -, ⟨b', c', e', h1, h2, -⟩⟩ := HD4.out
          simp at e
          rw [e'] at e
          simp at e
          have := maxLen_eq
          omega
        obtain ⟨hdk1, hdk2⟩ := hdk
        have HC : Hid (∀ y : Later u4, Calls Tryz.prog 29 #[.agg #[.slice a3 m3 c3, .slice b3 n3 k3], .agg #[.slice da ds dc, .slice db j dk]] y.1 fun e w'' => e = .returned (.bool true) ∧ Below y.1.heap.size y.1 w'') := fun y => by
          have h := HSs.out _ (.agg #[.slice da ds dc, .slice db j dk]) _ (d.1, d.2.take j) y.1 ((HDk.out.later y.2 (Nat.le_refl _)).wide y.2.size) (by
            obtain ⟨sv, tv, e, h1, h2⟩ := ((HD4.out.wide (Nat.le_trans hB Hbu.out.size)).later y.2 (Nat.le_refl _)).wide y.2.size
            simp at e
            obtain ⟨rfl, rfl⟩ := e
            exact ⟨_, _, rfl, h1, h2.take j (by rw [HDn.out.2]; exact hjd)⟩)
          rw [HFs.out, decide_eq_true (by simp)] at h
          exact h
        subst hce
        have ld := World.block_lt_of_cell? _ _ r0
        have lk := World.block_lt_of_cell? _ _ k0
        have hne := Later.ne u4
        have z0 : ∀ y : Later u4, y.1.cell? ⟨w.heap.size, 0, none⟩ = some (.slice da ds dc) := fun y => y.cell r0 ld
        have z1 : ∀ y : Later u4, y.1.cell? ⟨w.heap.size, 1, none⟩ = some (.slice db dt dk) := fun y => y.cell r1 ld
        have z2 : ∀ y : Later u4, y.1.cell? ⟨w3.heap.size, 0, none⟩ = some (.slice a3 m3 c3) := fun y => y.cell k0 lk
        have z3 : ∀ y : Later u4, y.1.cell? ⟨w3.heap.size, 1, none⟩ = some (.slice b3 n3 k3) := fun y => y.cell k1' lk
        clear HDk HD4 HFs HCe HSs HEr o0 o1 ld lk
        go_wp2_with fail
        clear r0 r1 k0 k1'
        refine wp_region_later (by kernel_rfl) (by kernel_rfl) ?_
        repeat (go_big_quiet_step (first
          | (go_at_call 29; exact Calls.later (HC.out _))))
        refine wpQuiet_nil ?_
        rintro u5 ⟨⟨_, hb⟩, rfl⟩
        have HF : Hid (Below w.heap.size w u5) := Below.thenOf Hbu.out hb Hbu.out.size
        clear hb z0 z1 z2 z3 hne
        go_wp2_with fail
        go_ret
        exact ⟨rfl, HF.out⟩
  · have HBa := bad_all (c := c) (n := n) (by rw [← HEr.out.2.2.2]; exact hbd)
    have E1 : pe = bad := by rw [HEr.out.1, HBa.1, HEr.out.2.2.2]
    have E2 : se = bad := by rw [HEr.out.2.1, HBa.2.2.1, HEr.out.2.2.2]
    have E3 : ce = bad := by rw [HEr.out.2.2.1, HBa.2.2.2.2.1, HEr.out.2.2.2]
    have E4 : ll = 0 := by rw [HLl.out, HBa.2.2.2.2.2.2.2]; rfl
    have hq : (bad != 0) = true := by simpa using hbd
    have HQ : Hid (∀ y : Later w7, Below W5.heap.size W5 y.1) := fun y => Below.thenOf B7.out y.2 B7.out.size
    have HSa : Hid (∀ y : Later w7, Calls Tryz.prog 29 #[.agg #[.slice a1 m1 c1, .slice b1 n1 k1], .agg #[.slice none 0 0, .slice none 0 0]] y.1 fun e w'' => e = .returned (.bool true) ∧ Below y.1.heap.size y.1 w'') := fun y => by
      have h := HS2.out y.1 _ _ _ _ (HA5.out y.1 (HQ.out y)).2.1.2 (diskAt_zero _ _)
      rw [HBa.2.1, decide_eq_true rfl] at h
      exact h
    have HSb : Hid (∀ y : Later w7, Calls Tryz.prog 29 #[.agg #[.slice a2 m2 c2, .slice b2 n2 k2], .agg #[.slice none 0 0, .slice none 0 0]] y.1 fun e w'' => e = .returned (.bool true) ∧ Below y.1.heap.size y.1 w'') := fun y => by
      have h := HS2.out y.1 _ _ _ _ (HA5.out y.1 (HQ.out y)).2.2.1.2 (diskAt_zero _ _)
      rw [HBa.2.2.2.1, decide_eq_true rfl] at h
      exact h
    have HSc : Hid (∀ y : Later w7, Calls Tryz.prog 29 #[.agg #[.slice a3 m3 c3, .slice b3 n3 k3], .agg #[.slice none 0 0, .slice none 0 0]] y.1 fun e w'' => e = .returned (.bool true) ∧ Below y.1.heap.size y.1 w'') := fun y => by
      have h := HS2.out y.1 _ _ _ _ (HA5.out y.1 (HQ.out y)).2.2.2.1.2 (diskAt_zero _ _)
      rw [HBa.2.2.2.2.2.1, decide_eq_true rfl] at h
      exact h
    have HSd : Hid (∀ y : Later w7, Calls Tryz.prog 29 #[.agg #[.slice a4 m4 c4, .slice b4 n4 k4], .agg #[.slice none 0 0, .slice none 0 0]] y.1 fun e w'' => e = .returned (.bool true) ∧ Below y.1.heap.size y.1 w'') := fun y => by
      have h := HS2.out y.1 _ _ _ _ (HA5.out y.1 (HQ.out y)).2.2.2.2.1.2 (diskAt_zero _ _)
      rw [HBa.2.2.2.2.2.2.1, decide_eq_true rfl] at h
      exact h
    subst E1 E2 E3 E4
    have HBw : Hid (∀ y : Later w7, Below w.heap.size w y.1) := fun y => (HG.out y.1 (HA5.out y.1 (HQ.out y)).1).1
    clear HBa
    obtain ⟨x0, x1, -, -⟩ := box_free (HA5.out w7 (HQ.out ⟨w7, (Below.refl _ _)⟩)).2.1.1
    obtain ⟨o0, o1, -, -⟩ := box_free (HA5.out w7 (HQ.out ⟨w7, (Below.refl _ _)⟩)).2.2.2.2.2.1
    go_wp2_with fail
    go_at_call 29
    refine Calls.mono (HSa.out ⟨w7, (Below.refl _ _)⟩) ?_
    rintro e u1 ⟨rfl, hb⟩
    have T1 : Hid (Below w7.heap.size w7 u1) := hb
    clear hb x0 x1 o0 o1
    obtain ⟨x0, x1, -, -⟩ := box_free (HA5.out u1 (HQ.out ⟨u1, T1.out⟩)).2.2.1.1
    obtain ⟨o0, o1, -, -⟩ := box_free (HA5.out u1 (HQ.out ⟨u1, T1.out⟩)).2.2.2.2.2.1
    go_wp2_with fail
    go_at_call 29
    refine Calls.mono (HSb.out ⟨u1, T1.out⟩) ?_
    rintro e u2 ⟨rfl, hb⟩
    have T2 : Hid (Below w7.heap.size w7 u2) := Below.thenOf T1.out hb T1.out.size
    clear hb x0 x1 o0 o1
    obtain ⟨x0, x1, -, -⟩ := box_free (HA5.out u2 (HQ.out ⟨u2, T2.out⟩)).2.2.2.1.1
    obtain ⟨o0, o1, -, -⟩ := box_free (HA5.out u2 (HQ.out ⟨u2, T2.out⟩)).2.2.2.2.2.1
    go_wp2_with fail
    go_at_call 29
    refine Calls.mono (HSc.out ⟨u2, T2.out⟩) ?_
    rintro e u3 ⟨rfl, hb⟩
    have T3 : Hid (Below w7.heap.size w7 u3) := Below.thenOf T2.out hb T2.out.size
    clear hb x0 x1 o0 o1
    obtain ⟨x0, x1, -, -⟩ := box_free (HA5.out u3 (HQ.out ⟨u3, T3.out⟩)).2.2.2.2.1.1
    obtain ⟨o0, o1, -, -⟩ := box_free (HA5.out u3 (HQ.out ⟨u3, T3.out⟩)).2.2.2.2.2.1
    go_wp2_with fail
    go_at_call 29
    refine Calls.mono (HSd.out ⟨u3, T3.out⟩) ?_
    rintro e u4 ⟨rfl, hb⟩
    have T4 : Hid (Below w7.heap.size w7 u4) := Below.thenOf T3.out hb T3.out.size
    clear hb x0 x1 o0 o1
    go_wp2_with fail
    go_ret
    exact ⟨rfl, HBw.out ⟨u4, T4.out⟩⟩
end Go.Proofs.YtdfcfinjoghipacGreatDoor
