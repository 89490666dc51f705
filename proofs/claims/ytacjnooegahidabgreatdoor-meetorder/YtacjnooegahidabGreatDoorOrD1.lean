/- Package order: what a policy says of a call, and the first of some points at which one says more. -/
import Derived.Test.YtacjnooegahidabGreatDoorMj06
import Derived.Test.YtacjnooegahidabGreatDoorMj08
import Derived.Test.YtacjnooegahidabGreatDoorMj18
set_option linter.all false
set_option maxRecDepth 100000
namespace Go.Proofs.YtacjnooegahidabGreatDoor
open Go.RowKit Go.Maps

set_option maxHeartbeats 2000000 in
theorem saysD_any (B : Nat) (pv : Value) (p : PolT) (x : Nat → Int) (w : World) (hp : PolAt B w pv p) (hB : B ≤ w.heap.size) :
    Calls Tryz.prog 44 #[pv, callV x] w fun e w' => e = .returned (.int .i64 (vP p x)) ∧ Below w.heap.size w w' := by
  have HJ : Hid (∀ w', Below w.heap.size w w' → Calls Tryz.prog 23 #[pv, callV x] w' fun e w'' => e = .returned (.tuple #[.int .i64 (vP p x), .int .i64 (judgeP p x).2.1, .int .i64 (judgeP p x).2.2]) ∧ Below w'.heap.size w' w'') := fun w' h => judge_any B pv p x w' (hp.later h hB) (Nat.le_trans hB h.size)
  generalize vP p x = v1 at *
  generalize (judgeP p x).2.1 = v2 at *
  generalize (judgeP p x).2.2 = v3 at *
  obtain ⟨rs, d⟩ := p
  obtain ⟨rv, rfl, -, a, cap, rfl, -, -, -⟩ := hp
  simp only at HJ
  show Calls Tryz.prog 44 #[.agg #[.slice a rs.length cap, .int .i64 d], .agg #[.int .i64 (x 0), .int .i64 (x 1), .int .i64 (x 2), .int .i64 (x 3), .int .i64 (x 4)]] w _
  have HJ' : Hid (∀ w', Below w.heap.size w w' → Calls Tryz.prog 23 #[.agg #[.slice a rs.length cap, .int .i64 d], .agg #[.int .i64 (x 0), .int .i64 (x 1), .int .i64 (x 2), .int .i64 (x 3), .int .i64 (x 4)]] w' fun e w'' => e = .returned (.tuple #[.int .i64 v1, .int .i64 v2, .int .i64 v3]) ∧ Below w'.heap.size w' w'') := HJ
  clear HJ
  generalize rs.length = n at *
  have hb : ∀ X Y, Below w.heap.size w ((w.alloc X).alloc Y) := fun X Y => ((Below.refl _ _).alloc (Nat.le_refl _) _).alloc (by simp) _
  go_enter Tryz.func44, Tryz.ntmps44
  go_wp2_with (first | (go_at_call 23; go_must (refine Calls.mono (HJ'.out _ (hb _ _)) ?_; rintro e w2 ⟨rfl, hb2⟩)))
  go_ret
  exact ⟨rfl, Below.thenOf (hb _ _) hb2 (by simp; omega)⟩

set_option maxHeartbeats 400000 in
/-- Whether one policy says more than another one, at a call. -/
theorem looserFn_any (B bp bq : Nat) (a b : Option Addr) (n cap n2 cap2 : Nat) (d f : Int) (p q : PolT) (x0 x1 x2 x3 x4 : Int) (w : World) (hp : PolAt B w (.agg #[.slice a n cap, .int .i64 d]) p) (hq : PolAt B w (.agg #[.slice b n2 cap2, .int .i64 f]) q) (hB : B ≤ w.heap.size)
    (h0 : w.cell? ⟨bp, 0, none⟩ = some (.slice a n cap)) (h1 : w.cell? ⟨bp, 1, none⟩ = some (.int .i64 d)) (h2 : w.cell? ⟨bq, 0, none⟩ = some (.slice b n2 cap2)) (h3 : w.cell? ⟨bq, 1, none⟩ = some (.int .i64 f)) (hbp : bp < w.heap.size) (hbq : bq < w.heap.size) :
    Calls Tryz.prog 43 #[.agg #[.int .i64 x0, .int .i64 x1, .int .i64 x2, .int .i64 x3, .int .i64 x4], .pointer (some ⟨bp, 0, none⟩), .pointer (some ⟨bq, 0, none⟩)] w fun e w' => e = .returned (.bool (loosePt p q [x0, x1, x2, x3, x4])) ∧ Below w.heap.size w w' := by
  obtain ⟨va, hva⟩ : ∃ va, va = vP p (at5 x0 x1 x2 x3 x4) := ⟨_, rfl⟩
  obtain ⟨vb, hvb⟩ : ∃ vb, vb = vP q (at5 x0 x1 x2 x3 x4) := ⟨_, rfl⟩
  have HLo : Hid (loosePt p q [x0, x1, x2, x3, x4] = decide (vb < va)) := by unfold Hid; rw [hva, hvb]; rfl
  have HA : Hid (∀ w', Below w.heap.size w w' → Calls Tryz.prog 44 #[.agg #[.slice a n cap, .int .i64 d], .agg #[.int .i64 x0, .int .i64 x1, .int .i64 x2, .int .i64 x3, .int .i64 x4]] w' fun e w'' => e = .returned (.int .i64 va) ∧ Below w'.heap.size w' w'') := fun w' h => by
    rw [hva]
    exact saysD_any B _ p (at5 x0 x1 x2 x3 x4) w' (hp.later h hB) (Nat.le_trans hB h.size)
  have HB : Hid (∀ w', Below w.heap.size w w' → Calls Tryz.prog 44 #[.agg #[.slice b n2 cap2, .int .i64 f], .agg #[.int .i64 x0, .int .i64 x1, .int .i64 x2, .int .i64 x3, .int .i64 x4]] w' fun e w'' => e = .returned (.int .i64 vb) ∧ Below w'.heap.size w' w'') := fun w' h => by
    rw [hvb]
    exact saysD_any B _ q (at5 x0 x1 x2 x3 x4) w' (hq.later h hB) (Nat.le_trans hB h.size)
  clear hva hvb hp hq
  obtain ⟨W0, hW0⟩ : ∃ W0, W0 = w.alloc (.cells #[.int .i64 x0, .int .i64 x1, .int .i64 x2, .int .i64 x3, .int .i64 x4] 29) := ⟨_, rfl⟩
  have hb0 : Below w.heap.size w W0 := by rw [hW0]; exact (Below.refl _ _).alloc (Nat.le_refl _) _
  have hs0 : W0.heap.size = w.heap.size + 1 := by rw [hW0]; simp
  have hm : W0.heap[w.heap.size]? = some (.cells #[.int .i64 x0, .int .i64 x1, .int .i64 x2, .int .i64 x3, .int .i64 x4] 29 (0, 0)) := by rw [hW0]; exact (MapKept.heap_alloc w _).1
  have HW : Hid _ := hW0
  clear hW0
  have hne := Later.ne W0
  have y0 : ∀ y : Later W0, y.1.cell? ⟨w.heap.size, 0, none⟩ = some (.int .i64 x0) := fun y => y.cell (heap_cell hm 0 rfl) (by omega)
  have y1 : ∀ y : Later W0, y.1.cell? ⟨w.heap.size, 1, none⟩ = some (.int .i64 x1) := fun y => y.cell (heap_cell hm 1 rfl) (by omega)
  have y2 : ∀ y : Later W0, y.1.cell? ⟨w.heap.size, 2, none⟩ = some (.int .i64 x2) := fun y => y.cell (heap_cell hm 2 rfl) (by omega)
  have y3 : ∀ y : Later W0, y.1.cell? ⟨w.heap.size, 3, none⟩ = some (.int .i64 x3) := fun y => y.cell (heap_cell hm 3 rfl) (by omega)
  have y4 : ∀ y : Later W0, y.1.cell? ⟨w.heap.size, 4, none⟩ = some (.int .i64 x4) := fun y => y.cell (heap_cell hm 4 rfl) (by omega)
  have z0 : ∀ y : Later W0, y.1.cell? ⟨bp, 0, none⟩ = some (.slice a n cap) := fun y => y.cell ((hb0.cell (p := ⟨bp, 0, none⟩) hbp).trans h0) (by omega)
  have z1 : ∀ y : Later W0, y.1.cell? ⟨bp, 1, none⟩ = some (.int .i64 d) := fun y => y.cell ((hb0.cell (p := ⟨bp, 1, none⟩) hbp).trans h1) (by omega)
  have z2 : ∀ y : Later W0, y.1.cell? ⟨bq, 0, none⟩ = some (.slice b n2 cap2) := fun y => y.cell ((hb0.cell (p := ⟨bq, 0, none⟩) hbq).trans h2) (by omega)
  have z3 : ∀ y : Later W0, y.1.cell? ⟨bq, 1, none⟩ = some (.int .i64 f) := fun y => y.cell ((hb0.cell (p := ⟨bq, 1, none⟩) hbq).trans h3) (by omega)
  have HA' : Hid (∀ y : Later W0, Calls Tryz.prog 44 #[.agg #[.slice a n cap, .int .i64 d], .agg #[.int .i64 x0, .int .i64 x1, .int .i64 x2, .int .i64 x3, .int .i64 x4]] y.1 fun e w'' => e = .returned (.int .i64 va) ∧ Below y.1.heap.size y.1 w'') := fun y => HA.out _ (Below.thenOf hb0 y.2 hb0.size)
  have HB' : Hid (∀ y : Later W0, Calls Tryz.prog 44 #[.agg #[.slice b n2 cap2, .int .i64 f], .agg #[.int .i64 x0, .int .i64 x1, .int .i64 x2, .int .i64 x3, .int .i64 x4]] y.1 fun e w'' => e = .returned (.int .i64 vb) ∧ Below y.1.heap.size y.1 w'') := fun y => HB.out _ (Below.thenOf hb0 y.2 hb0.size)
  clear h0 h1 h2 h3 hm HA HB hB hbp hbq hs0
  go_enter Tryz.func43, Tryz.ntmps43
  go_wp2_with fail
  rw [← HW.out]
  refine wp_region_later (by kernel_rfl) (by kernel_rfl) ?_
  go_big_quiet_step (fail)
  go_big_quiet_step (fail)
  go_big_quiet_step (first | (go_at_call 44; exact Calls.later (HA'.out _)))
  go_big_quiet_step (fail)
  go_big_quiet_step (fail)
  go_big_quiet_step (first | (go_at_call 44; exact Calls.later (HB'.out _)))
  go_big_quiet_step (fail)
  go_big_quiet_step (fail)
  refine wpQuiet_nil ?_
  rintro wx ⟨⟨_, hx⟩, rfl⟩
  go_wp2
  go_ret
  exact ⟨by rw [HLo.out]; simp, Below.thenOf hb0 hx hb0.size⟩

end Go.Proofs.YtacjnooegahidabGreatDoor
