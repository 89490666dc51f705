/- The closed fact: ran() is true. -/
import Derived.Test.YtkgecncalndigaaRef2
set_option linter.all false
set_option maxRecDepth 100000
namespace Go.Proofs.Ytkgecncalndigaa
open Go.RowKit Go.Maps

def ranL : List InsT := [(1, 2, 0, 0), (3, 5, 1, 0), (4, 1, 0, 0), (4, 4, 0, 0)]
def ranC : Array Value := #[.int .i64 1, .int .i64 2, .int .i64 0, .int .i64 0, .int .i64 3, .int .i64 5, .int .i64 1, .int .i64 0, .int .i64 4, .int .i64 1, .int .i64 0, .int .i64 0, .int .i64 4, .int .i64 4, .int .i64 0, .int .i64 0]
theorem ranL_wf : ∀ c ∈ ranL, insWf c := by
  intro c hc
  simp [ranL] at hc
  rcases hc with rfl | rfl | rfl | rfl <;> exact ⟨by unfold wf; decide, by unfold wf; decide, by unfold wf; decide, by unfold wf; decide⟩
theorem ranL_at (w : World) (T : TypeId) (j : Nat) (hj : j < 4) : ∀ c, ranL[j]? = some c → InsAt (w.alloc (.cells ranC T)) w.heap.size (j * 4) c := by
  intro c hc
  have hw := ranL_wf c (List.mem_of_getElem? hc)
  have : j = 0 ∨ j = 1 ∨ j = 2 ∨ j = 3 := by omega
  rcases this with rfl | rfl | rfl | rfl
  all_goals
    simp [ranL] at hc
    subst hc
    exact ⟨by simp [go_sem, ranC], by simp [go_sem, ranC], by simp [go_sem, ranC], by simp [go_sem, ranC], hw⟩
theorem ranL_inss (w w' : World) (T : TypeId) (n : Nat) (hn : n ≤ 4) (hb : Below (w.heap.size + 1) (w.alloc (.cells ranC T)) w') : InssAt (w.heap.size + 1) w' (.slice (some ⟨w.heap.size, 0, none⟩) n 4) (ranL.take n) := by
  have hl : (ranL.take n).length = n := by rw [List.length_take]; exact Nat.min_eq_left hn
  refine ⟨some ⟨w.heap.size, 0, none⟩, 4, by rw [hl], by omega, by rw [maxLen_eq]; omega, fun i c hc => ⟨w.heap.size, 0, rfl, by omega, ?_⟩⟩
  have hi : i < n := by have := (List.getElem?_eq_some_iff.1 hc).1; omega
  rw [List.getElem?_take_of_lt hi] at hc
  rw [Nat.zero_add]
  exact (ranL_at w T i (by omega) c hc).later hb (by omega)

set_option maxHeartbeats 2000000 in
theorem ran_true (w : World) : Calls Try.prog 14 #[] w fun e w' => e = .returned (.bool true) ∧ Below w.heap.size w w' := by
  have HL : Hid (∀ (w' : World) (T : TypeId) (n : Nat), n ≤ 4 → Below (w.heap.size + 1) (w.alloc (.cells ranC T)) w' → InssAt (w.heap.size + 1) w' (.slice (some ⟨w.heap.size, 0, none⟩) n 4) (ranL.take n)) := fun w' T n hn hb => ranL_inss w w' T n hn hb
  have HW : Hid (∀ w' T, Below (w.heap.size + 1) (w.alloc (.cells ranC T)) w' → Below w.heap.size w w') := fun w' T h => ((Below.refl _ _).alloc (Nat.le_refl _) _).trans (h.mono (by omega))
  have R1 : Hid (∀ w' T, Below (w.heap.size + 1) (w.alloc (.cells ranC T)) w' → Calls Try.prog 12 #[.slice (some ⟨w.heap.size, 0, none⟩) 4 4, .agg #[.int .i64 0, .int .i64 0, .int .i64 4, .int .i64 0, .int .i64 0]] w' fun e w'' => e = .returned (.tuple #[.int .i64 4, .int .i64 3, .int .i64 0]) ∧ Below w'.heap.size w' w'') := fun w' T h => by
    have h1 := run_any _ _ _ (at5 0 0 4 0 0) w' (HL.out w' T 4 (by omega) h) (by have := h.size; simpa using this)
    rw [show ranV (ranL.take 4) (at5 0 0 4 0 0) = (4, 3) by decide, show ranE (ranL.take 4) (at5 0 0 4 0 0) = 0 by decide] at h1
    exact h1
  have R2 : Hid (∀ w' T, Below (w.heap.size + 1) (w.alloc (.cells ranC T)) w' → Calls Try.prog 12 #[.slice (some ⟨w.heap.size, 0, none⟩) 4 4, .agg #[.int .i64 0, .int .i64 0, .int .i64 5, .int .i64 0, .int .i64 0]] w' fun e w'' => e = .returned (.tuple #[.int .i64 1, .int .i64 3, .int .i64 0]) ∧ Below w'.heap.size w' w'') := fun w' T h => by
    have h1 := run_any _ _ _ (at5 0 0 5 0 0) w' (HL.out w' T 4 (by omega) h) (by have := h.size; simpa using this)
    rw [show ranV (ranL.take 4) (at5 0 0 5 0 0) = (1, 3) by decide, show ranE (ranL.take 4) (at5 0 0 5 0 0) = 0 by decide] at h1
    exact h1
  have C2 : Hid (∀ w' T, Below (w.heap.size + 1) (w.alloc (.cells ranC T)) w' → Calls Try.prog 15 #[.slice (some ⟨w.heap.size, 0, none⟩) 2 4] w' fun e w'' => e = .returned (.int .i64 5) ∧ Below w'.heap.size w' w'') := fun w' T h => by
    have h1 := check_code _ _ _ w' (HL.out w' T 2 (by omega) h) (by have := h.size; simpa using this)
    rw [show codeErr (ranL.take 2) = 5 by decide] at h1
    exact h1
  have C1 : Hid (∀ w' T, Below (w.heap.size + 1) (w.alloc (.cells ranC T)) w' → Calls Try.prog 15 #[.slice (some ⟨w.heap.size, 0, none⟩) 1 4] w' fun e w'' => e = .returned (.int .i64 4) ∧ Below w'.heap.size w' w'') := fun w' T h => by
    have h1 := check_code _ _ _ w' (HL.out w' T 1 (by omega) h) (by have := h.size; simpa using this)
    rw [show codeErr (ranL.take 1) = 4 by decide] at h1
    exact h1
  clear HL
  go_enter Try.func14, Try.ntmps14
  go_wp2_with fail
  go_at_call 12
  refine Calls.mono (R1.out _ _ (Below.refl _ _)) ?_
  rintro e w1 ⟨rfl, hb1⟩
  simp only [World.size_alloc] at hb1
  go_wp2_with fail
  go_at_call 12
  refine Calls.mono (R2.out _ _ hb1) ?_
  rintro e w2 ⟨rfl, hb2⟩
  have hb2' := Below.thenOf hb1 hb2 (by have := hb1.size; simpa using this)
  go_wp2_with fail
  go_at_call 15
  refine Calls.mono (C2.out _ _ hb2') ?_
  rintro e w3 ⟨rfl, hb3⟩
  have hb3' := Below.thenOf hb2' hb3 (by have := hb2'.size; simpa using this)
  go_wp2_with fail
  go_at_call 15
  refine Calls.mono (C1.out _ _ hb3') ?_
  rintro e w4 ⟨rfl, hb4⟩
  have hb4' := Below.thenOf hb3' hb4 (by have := hb3'.size; simpa using this)
  go_wp2_with fail
  go_ret
  exact ⟨rfl, HW.out _ _ hb4'⟩

end Go.Proofs.Ytkgecncalndigaa
