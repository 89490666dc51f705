/- cut: the closed fact that every statement on points asks first. -/
import Derived.Test.YtffhpcfphodamaaGreatDoorMade
import Derived.Test.YtffhpcfphodamaaGreatDoorPolsN
import Derived.Test.YtffhpcfphodamaaGreatDoorPtD
set_option linter.all false
set_option maxRecDepth 100000
namespace Go.Proofs.YtffhpcfphodamaaGreatDoor
open Go.RowKit Go.Maps

theorem made_cuts0 : cutsE [madeP] 0 = 0 ∧ cutsL [madeP] 0 = [0, 3, 4] := by decide
theorem made_cuts2 : cutsE [madeP] 2 = 0 ∧ cutsL [madeP] 2 = [0, 5] := by decide
theorem made_points : pointsE [madeP] = 0 ∧ (pointsL [madeP]).map asC = [(0, 0, 0, 0, 0), (0, 0, 5, 0, 0), (0, 1, 0, 0, 0), (0, 1, 5, 0, 0), (3, 0, 0, 0, 0), (3, 0, 5, 0, 0), (3, 1, 0, 0, 0), (3, 1, 5, 0, 0), (4, 0, 0, 0, 0), (4, 0, 5, 0, 0), (4, 1, 0, 0, 0), (4, 1, 5, 0, 0)] := by decide
theorem made_home : homeE [madeP] (at5 9 3 7 7 7) = 0 ∧ homeC [madeP] (at5 9 3 7 7 7) 0 = 4 ∧ homeC [madeP] (at5 9 3 7 7 7) 1 = 1 ∧ homeC [madeP] (at5 9 3 7 7 7) 2 = 5 ∧ homeC [madeP] (at5 9 3 7 7 7) 3 = 0 ∧ homeC [madeP] (at5 9 3 7 7 7) 4 = 0 := by decide
theorem made_shape {L : Nat} {w : World} {pv : Value} (h : PolNew L w pv madeP) : ∃ a n c, pv = .agg #[.slice a n c, .int .i64 4] ∧ RulesAt w.heap.size w (.slice a n c) madeP.1 := by
  obtain ⟨rv, rfl, _, hr⟩ := h.at
  have hr' := hr
  obtain ⟨a, c, rfl, _⟩ := hr
  exact ⟨a, _, c, rfl, hr'⟩
theorem pols_made {w : World} {a : Option Addr} {n c : Nat} (h : RulesAt w.heap.size w (.slice a n c) madeP.1) : PolsAt (w.heap.size + 1) (w.alloc (.cells #[.slice a n c, .int .i64 4] 45)) (.slice (some ⟨w.heap.size, 0, none⟩) 1 1) [madeP] :=
  pols_one (p := madeP) (Nat.le_refl _) h (by unfold wf; decide) _

/-- A list of numbers, just written. -/
theorem ints_lit (w : World) (l : List Int) (T : TypeId) (hl : l.length ≤ 1000) : IntsAt (w.heap.size + 1) (w.alloc (.cells (l.map (Value.int .i64)).toArray T)) (.slice (some ⟨w.heap.size, 0, none⟩) l.length l.length) l := by
  refine ⟨_, _, rfl, Nat.le_refl _, by rw [maxLen_eq]; omega, fun i c hc => ⟨_, 0, rfl, by omega, ?_⟩⟩
  rw [Nat.zero_add]
  exact heap_cell (heap_made w _) i (by simp [hc])
theorem IntsAt.mono {B B' : Nat} {w : World} {v : Value} {cs : List Int} (h : IntsAt B w v cs) (hB : B ≤ B') : IntsAt B' w v cs := by
  obtain ⟨a, cap, h1, h2, h3, h4⟩ := h
  refine ⟨a, cap, h1, h2, h3, fun i c hc => ?_⟩
  obtain ⟨b, o, e, hl, k⟩ := h4 i c hc
  exact ⟨b, o, e, by omega, k⟩

set_option maxHeartbeats 4000000 in
theorem cut_true (w : World) (he : EnvAt w) :
    Calls Tryz.prog 10 #[] w fun e w' => e = .returned (.bool true) ∧ Below w.heap.size w w' := by
  have he' : Hid (EnvAt w) := he
  clear he
  have G := guardCall
  have E1 : ∀ w, (Op.equalIn 10000 24 (.agg #[.int .i64 0, .int .i64 0, .int .i64 5, .int .i64 0, .int .i64 0]) (.agg #[.int .i64 0, .int .i64 0, .int .i64 5, .int .i64 0, .int .i64 0])).run Tryz.prog w = .ok true w := fun w => eqCall 9998 0 0 5 0 0 0 0 5 0 0 w
  have E2 : ∀ w, (Op.equalIn 10000 24 (.agg #[.int .i64 4, .int .i64 1, .int .i64 5, .int .i64 0, .int .i64 0]) (.agg #[.int .i64 4, .int .i64 1, .int .i64 5, .int .i64 0, .int .i64 0])).run Tryz.prog w = .ok true w := fun w => eqCall 9998 4 1 5 0 0 4 1 5 0 0 w
  have hA : ∀ (W : World) X, Below W.heap.size W (W.alloc X) := fun W X => (Below.refl _ _).alloc (Nat.le_refl _) _
  have HA : Hid _ := hA
  clear hA
  go_enter Tryz.func10, Tryz.ntmps10
  go_wp2_with fail
  go_at_call 25
  refine Calls.mono (made_any w he'.out) ?_
  rintro e w1 ⟨pv1, rfl, hp1, hb1⟩
  obtain ⟨a1, n1, c1, rfl, hr1⟩ := made_shape hp1
  have HC1 : Hid _ := cutsD_any _ _ _ 0 (by unfold wf; decide) _ (pols_made hr1) (by simp) (by simp)
  have hbb1 : Hid _ := hb1
  clear hp1 hr1 hb1
  go_wp2_with fail
  go_at_call 5
  refine Calls.mono HC1.out ?_
  rintro e w2 ⟨v2, rfl, hI2, hb2⟩
  rw [made_cuts0.1]
  rw [made_cuts0.2] at hI2
  have b2 : Below w.heap.size w w2 := Below.thenOf (Below.thenOf hbb1.out (HA.out _ _) hbb1.out.size) hb2 (by have := hbb1.out.size; simp; omega)
  have HI2 : Hid _ := hI2
  clear hI2 hb2 HC1 hbb1
  go_wp2_with fail
  go_at_call 25
  refine Calls.mono (made_any w2 (he'.out.later b2)) ?_
  rintro e w3 ⟨pv3, rfl, hp3, hb3⟩
  obtain ⟨a3, n3, c3, rfl, hr3⟩ := made_shape hp3
  have HC3 : Hid _ := cutsD_any _ _ _ 2 (by unfold wf; decide) _ (pols_made hr3) (by simp) (by simp)
  have hbb3 : Hid _ := hb3
  clear hp3 hr3 hb3
  go_wp2_with fail
  go_at_call 5
  refine Calls.mono HC3.out ?_
  rintro e w4 ⟨v4, rfl, hI4, hb4⟩
  rw [made_cuts2.1]
  rw [made_cuts2.2] at hI4
  have b24 : Below w2.heap.size w2 w4 := Below.thenOf (Below.thenOf hbb3.out (HA.out _ _) hbb3.out.size) hb4 (by have := hbb3.out.size; simp; omega)
  have b4 : Below w.heap.size w w4 := Below.thenOf b2 b24 b2.size
  have HI4 : Hid _ := hI4
  clear hI4 hb4 HC3 hbb3
  go_wp2_with fail
  go_at_call 25
  refine Calls.mono (made_any w4 (he'.out.later b4)) ?_
  rintro e w5 ⟨pv5, rfl, hp5, hb5⟩
  obtain ⟨a5, n5, c5, rfl, hr5⟩ := made_shape hp5
  have HC5 : Hid _ := pointsD_any _ _ _ _ (pols_made hr5) (by simp) (by simp)
  have hbb5 : Hid _ := hb5
  clear hp5 hr5 hb5
  go_wp2_with fail
  go_at_call 6
  refine Calls.mono HC5.out ?_
  rintro e w6 ⟨v6, rfl, hI6, hb6⟩
  rw [made_points.1]
  rw [made_points.2] at hI6
  have b46 : Below w4.heap.size w4 w6 := Below.thenOf (Below.thenOf hbb5.out (HA.out _ _) hbb5.out.size) hb6 (by have := hbb5.out.size; simp; omega)
  have b6 : Below w.heap.size w w6 := Below.thenOf b4 b46 b4.size
  have HI6 : Hid _ := hI6
  clear hI6 hb6 HC5 hbb5
  go_wp2_with fail
  go_at_call 25
  refine Calls.mono (made_any w6 (he'.out.later b6)) ?_
  rintro e w7 ⟨pv7, rfl, hp7, hb7⟩
  obtain ⟨a7, n7, c7, rfl, hr7⟩ := made_shape hp7
  have HC7 : Hid _ := homeD_any _ _ _ (at5 9 3 7 7 7) _ (pols_made hr7) (by simp) (by simp)
  have hbb7 : Hid _ := hb7
  clear hp7 hr7 hb7
  go_wp2_with fail
  go_at_call 7
  refine Calls.mono HC7.out ?_
  rintro e w8 ⟨rfl, hb8⟩
  rw [made_home.1]
  unfold callV
  rw [made_home.2.1, made_home.2.2.1, made_home.2.2.2.1, made_home.2.2.2.2.1, made_home.2.2.2.2.2]
  have b68 : Below w6.heap.size w6 w8 := Below.thenOf (Below.thenOf hbb7.out (HA.out _ _) hbb7.out.size) hb8 (by have := hbb7.out.size; simp; omega)
  have b8 : Below w.heap.size w w8 := Below.thenOf b6 b68 b6.size
  have b48 : Below w4.heap.size w4 w8 := Below.thenOf b46 b68 b46.size
  have b28 : Below w2.heap.size w2 w8 := Below.thenOf b24 b48 b24.size
  clear hb8 HC7 hbb7 b2 b4 b6 b46 b24
  obtain ⟨a6, c6, rfl, hl6, _, hc6⟩ := (CallsAt.later HI6.out b68 (Nat.le_refl _))
  obtain ⟨g6, o6, rfl, hg6, y0, y1, y2, y3, y4⟩ := hc6 1 _ rfl
  simp only [] at y0 y1 y2 y3 y4
  have HY : Hid (∀ w', Below w8.heap.size w8 w' → w'.cell? ⟨g6, o6 + 1 * 5, none⟩ = some (.int .i64 0) ∧ w'.cell? ⟨g6, o6 + 1 * 5 + 1, none⟩ = some (.int .i64 0) ∧ w'.cell? ⟨g6, o6 + 1 * 5 + 2, none⟩ = some (.int .i64 5) ∧ w'.cell? ⟨g6, o6 + 1 * 5 + 3, none⟩ = some (.int .i64 0) ∧ w'.cell? ⟨g6, o6 + 1 * 5 + 4, none⟩ = some (.int .i64 0)) := fun w' h => by
    have hl : g6 < w8.heap.size := by have := b68.size; omega
    exact ⟨(h.cell (p := ⟨g6, o6 + 1 * 5, none⟩) hl).trans y0, (h.cell (p := ⟨g6, o6 + 1 * 5 + 1, none⟩) hl).trans y1, (h.cell (p := ⟨g6, o6 + 1 * 5 + 2, none⟩) hl).trans y2, (h.cell (p := ⟨g6, o6 + 1 * 5 + 3, none⟩) hl).trans y3, (h.cell (p := ⟨g6, o6 + 1 * 5 + 4, none⟩) hl).trans y4⟩
  have HI28 : Hid (IntsAt w2.heap.size w8 v2 [0, 3, 4]) := IntsAt.later HI2.out b28 (Nat.le_refl _)
  have HI48 : Hid (IntsAt w4.heap.size w8 v4 [0, 5]) := IntsAt.later HI4.out b48 (Nat.le_refl _)
  have s28 := b28.size
  have s48 := b48.size
  obtain ⟨W9, hW9⟩ : ∃ W9, W9 = w8.alloc (.cells #[.int .i64 4, .int .i64 1, .int .i64 5, .int .i64 0, .int .i64 0] 24) := ⟨_, rfl⟩
  have b89 : Below w8.heap.size w8 W9 := by rw [hW9]; exact HA.out _ _
  have hX9 : W9.heap[w8.heap.size]? = some (.cells #[.int .i64 4, .int .i64 1, .int .i64 5, .int .i64 0, .int .i64 0] 24 (0, 0)) := by rw [hW9]; exact heap_made _ _
  have hs9 := lt_of_block hX9
  have hs9e : W9.heap.size = w8.heap.size + 1 := by rw [hW9]; simp
  have hX9H : Hid _ := hX9
  clear hc6 hX9 y0 y1 y2 y3 y4
  go_wp2_with fail
  rw [← hW9, ← hs9e]
  clear hW9
  have hs9H : Hid _ := hs9e
  clear hs9e
  go_at_call 13
  refine Calls.mono (equalInts_any _ _ _ [0, 3, 4] [0, 3, 4] _ ((IntsAt.later HI28.out (Below.thenOf b89 (HA.out _ _) b89.size) (by omega)).mono (by omega)) (ints_lit W9 [0, 3, 4] _ (by decide)) (by simp)) ?_
  rintro e w10 ⟨rfl, hb10⟩
  have b810 : Below w8.heap.size w8 w10 := Below.thenOf (Below.thenOf b89 (HA.out _ _) b89.size) hb10 (by have := b89.size; simp; omega)
  have hX10 : Hid (w10.heap[w8.heap.size]? = _) := (hb10.block w8.heap.size (by simp; omega)).trans ((HA.out W9 _).block w8.heap.size hs9 |>.trans hX9H.out)
  have s810 := b810.size
  clear hb10
  go_wp2_with fail
  go_at_call 13
  refine Calls.mono (equalInts_any _ _ _ [0, 5] [0, 5] _ ((IntsAt.later HI48.out (Below.thenOf b810 (HA.out _ _) b810.size) (by omega)).mono (by omega)) (ints_lit w10 [0, 5] _ (by decide)) (by simp)) ?_
  rintro e w11 ⟨rfl, hb11⟩
  have b811 : Below w8.heap.size w8 w11 := Below.thenOf (Below.thenOf b810 (HA.out _ _) b810.size) hb11 (by simp; omega)
  have hX11 := (hb11.block w8.heap.size (by simp; have := lt_of_block hX10.out; omega)).trans ((HA.out w10 _).block w8.heap.size (lt_of_block hX10.out) |>.trans hX10.out)
  obtain ⟨y0, y1, y2, y3, y4⟩ := HY.out _ b811
  have q0 := heap_cell hX11 0 rfl
  have q1 := heap_cell hX11 1 rfl
  have q2 := heap_cell hX11 2 rfl
  have q3 := heap_cell hX11 3 rfl
  have q4 := heap_cell hX11 4 rfl
  clear hX11 hb11 hX10
  go_wp2_with fail
  go_ret
  exact ⟨rfl, Below.thenOf b8 b811 b8.size⟩
end Go.Proofs.YtffhpcfphodamaaGreatDoor
