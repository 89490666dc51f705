/- KeeperReplays returns true, whatever the records, in whatever memory. -/
import Derived.Test.YtbdlojnigflanacGreatDoorKa44
set_option linter.all false
set_option maxRecDepth 100000
namespace Go.Proofs.YtbdlojnigflanacGreatDoor
open Go.RowKit Go.Maps

set_option maxHeartbeats 8000000 in
theorem keeperReplays_any (B : Nat) (lv : Value) (rs : List RecT) (w : World) (he : EnvAt w) (hl : RecsAt B w lv rs) (hB : B ≤ w.heap.size) :
    Calls Tryz.prog 9 #[lv] w fun e w' => e = .returned (.bool true) ∧ Below w.heap.size w w' := by
  have HO : Hid (∀ w', Below w.heap.size w w' → Calls Tryz.prog 44 #[] w' fun e w'' => e = .returned (.bool true) ∧ Below w'.heap.size w' w'') := fun w' h => opened_true w' (he.later h)
  have HR : Hid (∀ w', Below w.heap.size w w' → Calls Tryz.prog 50 #[lv] w' fun e w'' => ∃ a n c, e = .returned (.tuple #[.slice a n c, .int .i64 (replayP rs).2]) ∧ CellsAt w''.heap.size w'' (.slice a n c) (replayP rs).1 ∧ Below w'.heap.size w' w'') := fun w' h => by
    refine (replayKp_any B lv rs w' (hl.later h hB) (Nat.le_trans hB h.size)).mono fun e w'' ⟨v, h1, h2, h3⟩ => ?_
    obtain ⟨a, c, ev, -, -⟩ := h2.shape
    subst ev
    exact ⟨a, _, c, h1, h2, h3⟩
  have HR2 : Hid (∀ w', Below w.heap.size w w' → Calls Tryz.prog 51 #[lv] w' fun e w'' => ∃ a n c, e = .returned (.tuple #[.slice a n c, .int .i64 (replayP rs).2]) ∧ CellsAt w''.heap.size w'' (.slice a n c) (replayP rs).1 ∧ Below w'.heap.size w' w'') := fun w' h => by
    refine (replayed_any B lv rs w' (hl.later h hB) (Nat.le_trans hB h.size)).mono fun e w'' ⟨v, h1, h2, h3⟩ => ?_
    obtain ⟨a, c, ev, -, -⟩ := h2.shape
    subst ev
    exact ⟨a, _, c, h1, h2, h3⟩
  obtain ⟨a, cap, elv, -, -, -⟩ := id hl
  subst elv
  generalize rs.length = n at *
  clear hl he
  generalize (replayP rs).2 = re at *
  generalize (replayP rs).1 = rc at *
  go_enter Tryz.func9, Tryz.ntmps9
  go_wp2_with fail
  go_at_call 50
  refine Calls.mono (HR.out _ (Below.refl _ _)) ?_
  rintro e w1 ⟨a1, n1, c1, rfl, hc1, hb1⟩
  go_wp2_with fail
  go_at_call 51
  refine Calls.mono (HR2.out _ hb1) ?_
  rintro e w2 ⟨a2, n2, c2, rfl, hc2, hb2⟩
  have hb2w : Below w.heap.size w w2 := Below.thenOf hb1 hb2 hb1.size
  have HS : Hid (∀ w', Below w2.heap.size w2 w' → Calls Tryz.prog 48 #[.slice a1 n1 c1, .slice a2 n2 c2] w' fun e w'' => e = .returned (.bool true) ∧ Below w'.heap.size w' w'') := fun w' h => by
    have hbb : Below w1.heap.size w1 w' := Below.thenOf hb2 h hb2.size
    have := sameCells_any w'.heap.size _ _ rc rc w' ((hc1.later hbb (Nat.le_refl _)).wide hbb.size) ((hc2.later h (Nat.le_refl _)).wide h.size) (Nat.le_refl _)
    simpa using this
  clear hc1 hc2 hb1 hb2
  go_wp2_with fail
  go_at_call 44
  refine Calls.mono (HO.out _ hb2w) ?_
  rintro e w3 ⟨rfl, hb3⟩
  go_wp2_with fail
  go_at_call 48
  refine Calls.mono (HS.out _ hb3) ?_
  rintro e w4 ⟨rfl, hb4⟩
  have HZ : Hid (Below w.heap.size w w4) := Below.thenOf hb2w (Below.thenOf hb3 hb4 hb3.size) hb2w.size
  clear hb3 hb4
  go_wp2_with fail
  go_ret
  exact ⟨rfl, HZ.out⟩
end Go.Proofs.YtbdlojnigflanacGreatDoor
