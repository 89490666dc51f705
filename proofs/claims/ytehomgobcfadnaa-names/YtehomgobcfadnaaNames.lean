/- slices.Equal at ints, of two slices that hold the same numbers; then Names: it returns true. -/
import Derived.Test.YtehomgobcfadnaaRows
import Derived.Test.YtehomgobcfadnaaLater
namespace Go.Proofs.Ytehomgobcfadnaa
open Go.RowKit

set_option maxHeartbeats 400000 in
theorem equal_same (f : Nat → Int) (n b1 o1 c1 b2 o2 c2 : Nat) (hn : n ≤ 1000) (w : World)
    (h1 : Hid (∀ j, j < n → w.cell? ⟨b1, o1 + j, none⟩ = some (.int .i64 (f j)))) (h2 : Hid (∀ j, j < n → w.cell? ⟨b2, o2 + j, none⟩ = some (.int .i64 (f j)))) :
    Calls Try.prog 5 #[.slice (some ⟨b1, o1, none⟩) n c1, .slice (some ⟨b2, o2, none⟩) n c2] w fun e w' => e = .returned (.bool true) ∧ ∃ m, w' = w.drewN m := by
  go_enter Try.func5, Try.ntmps5
  go_wp2
  go_loopw [13] (fun i wr => ∃ k : Nat, k ≤ n ∧ i = .int .i64 k ∧ ∃ m, wr = w.drewN m) (fun i _ => n - (intOf i).toNat)
  case atStart => exact ⟨0, by omega, rfl, 0, rfl⟩
  case round =>
    obtain ⟨k, hk, rfl, m, rfl⟩ := hrel
    by_cases hlt : k < n
    · have g1 := h1.out k hlt
      have g2 := h2.out k hlt
      have i0 : (0 : Int) ≤ (k : Int) := by omega
      have i1 : (k : Int) < n := by omega
      go_wp2
      go_quiet (fail)
      go_wp2
      exact ⟨⟨k + 1, by omega, by go_num, _, rfl⟩, by simp [intOf]; omega⟩
    · go_wp2
      go_ret
      exact ⟨rfl, _, rfl⟩

theorem block_ints (w : World) (arr : Array Value) (T : TypeId) (L : List Int) (h : arr = (L.map (Value.int .i64)).toArray) (j : Nat) (hj : j < L.length) : (w.alloc (.cells arr T)).cell? ⟨w.heap.size, j, none⟩ = some (.int .i64 (L.getD j 0)) := by
  subst h
  simp [go_sem, hj]

def lims : List Int := [5, 63, 3, 65535, 10, 120, 1500, 1000, 6, 4, 40, 60000, 60]
def kinds : List Int := [0, 1, 2, 3, 4, 1, 2, 3, 4, 1, 2, 3, 4, 1, 2, 3, 4, 1, 2, 3, 4, 5, 6, 7]
def errs : List Int := [0, 1, 2, 3, 4, 5, 6, 7, 8]

/-- A row of ints in a new block, seen from a later world. -/
theorem block_later {w wx : World} {arr : Array Value} {T : TypeId} {n : Nat} (L : List Int) (h : arr = (L.map (Value.int .i64)).toArray) (hb : Below (w.heap.size + 1) (w.alloc (.cells arr T)) wx) (hn : n = w.heap.size) : Hid (∀ j, j < L.length → wx.cell? ⟨n, 0 + j, none⟩ = some (.int .i64 (L.getD j 0))) := by
  subst hn
  intro j hj
  rw [Nat.zero_add]
  exact (hb.cell (p := ⟨w.heap.size, j, none⟩) (Nat.lt_succ_self _)).trans (block_ints w arr T L h j hj)

set_option maxHeartbeats 1000000 in
theorem names_any (w : World) : Calls Try.prog 3 #[] w fun e w' => e = .returned (.bool true) ∧ Below w.heap.size w w' := by
  go_enter Try.func3, Try.ntmps3
  go_wp2
  have hc : Hid (∀ j, j < 9 → (w.alloc (.cells #[.int .i64 0, .int .i64 1, .int .i64 2, .int .i64 3, .int .i64 4, .int .i64 5, .int .i64 6, .int .i64 7, .int .i64 8] 22)).cell? ⟨w.heap.size, j, none⟩ = some (.int .i64 (errs.getD j 0))) := fun j hj => block_ints w _ 22 errs rfl j hj
  have hb : Below w.heap.size w (w.alloc (.cells #[.int .i64 0, .int .i64 1, .int .i64 2, .int .i64 3, .int .i64 4, .int .i64 5, .int .i64 6, .int .i64 7, .int .i64 8] 22)) := (Below.refl _ _).alloc (Nat.le_refl _) _
  generalize w.alloc (.cells #[.int .i64 0, .int .i64 1, .int .i64 2, .int .i64 3, .int .i64 4, .int .i64 5, .int .i64 6, .int .i64 7, .int .i64 8] 22) = W at *
  go_loop [9] (fun i => ∃ k : Nat, k ≤ 9 ∧ i = .int .i64 k) (fun i => 9 - (intOf i).toNat)
  case atStart => exact ⟨0, by omega, rfl⟩
  case round =>
    obtain ⟨k, hk, rfl⟩ := hrel
    by_cases hlt : k < 9
    · have g1 := hc.out k hlt
      have i0 : (0 : Int) ≤ (k : Int) := by omega
      have i1 : (k : Int) < 9 := by omega
      have hv : errs.getD k 0 = (k : Int) := by
        have : k = 0 ∨ k = 1 ∨ k = 2 ∨ k = 3 ∨ k = 4 ∨ k = 5 ∨ k = 6 ∨ k = 7 ∨ k = 8 := by omega
        rcases this with rfl | rfl | rfl | rfl | rfl | rfl | rfl | rfl | rfl <;> rfl
      rw [hv] at g1
      clear hv
      go_wp2
      exact ⟨⟨k + 1, by omega, by go_num⟩, by simp [intOf]; omega⟩
    · clear hc
      go_wp2_with fail
      refine (equal_same (fun j => lims.getD j 0) 13 W.heap.size 0 13 (W.heap.size + 1 + 1) 0 13 (by omega) _ (by exact block_later lims rfl (((Below.refl _ _).alloc (by simp) _).alloc (by simp) _) rfl) (by exact block_later (w := (W.alloc _).alloc _) lims rfl (Below.refl _ _) (by simp))).mono ?_
      rintro e w1 ⟨rfl, m, rfl⟩
      go_wp2_with fail
      refine (equal_same (fun j => kinds.getD j 0) 24 (W.heap.size + 1) 0 24 (W.heap.size + 1 + 1 + 1) 0 24 (by omega) _ (by exact block_later (w := W.alloc _) kinds rfl ((below_drewN ((Below.refl _ _).alloc (by simp) _) m).alloc (by simp) _) (by simp)) (by exact block_later (w := (((W.alloc _).alloc _).alloc _).drewN m) kinds rfl (Below.refl _ _) (by simp))).mono ?_
      rintro e w1 ⟨rfl, m', rfl⟩
      have hb' : ∀ o1 o2 o3 o4, Below w.heap.size w (((((((W.alloc o1).alloc o2).alloc o3).drewN m).alloc o4)).drewN m') := fun o1 o2 o3 o4 => below_drewN ((below_drewN (((hb.alloc hb.size _).alloc (by simp; have := hb.size; omega) _).alloc (by simp; have := hb.size; omega) _) m).alloc (by simp; have := hb.size; omega) _) m'
      go_wp2
      go_ret
      exact ⟨rfl, hb' _ _ _ _⟩

end Go.Proofs.Ytehomgobcfadnaa
