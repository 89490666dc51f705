/- right: a right call of any numbers. -/
import Derived.Test.YtffhpcfphodamabGreatDoorBase
import Derived.Test.YtffhpcfphodamabGreatDoorLast
set_option linter.all false
namespace Go.Proofs.YtffhpcfphodamabGreatDoor
open Go.RowKit Go.Maps

theorem tmod_neg {k n : Int} (hn : 0 < n) (h : k.tmod n < 0) : k.tmod n + n = k % n := by
  have h1 := Int.emod_nonneg k (by omega : n ≠ 0)
  have h2 := Int.emod_lt_of_pos k hn
  rw [Int.tmod_eq_emod] at h ⊢
  split at h
  · omega
  · rename_i hh; rw [if_neg hh]; omega
theorem tmod_pos {k n : Int} (hn : 0 < n) (h : 0 ≤ k.tmod n) : k.tmod n = k % n := by
  have h1 := Int.emod_nonneg k (by omega : n ≠ 0)
  have h2 := Int.emod_lt_of_pos k hn
  rw [Int.tmod_eq_emod] at h ⊢
  split at h
  · rename_i hh; rw [if_pos hh]; omega
  · omega

set_option maxHeartbeats 1000000 in
theorem at_any (k n : Int) (hn : 0 < n ∧ n ≤ 65536) (w : World) :
    Calls Tryz.prog 8 #[.int .i64 k, .int .i64 n] w fun e w' => e = .returned (.int .i64 (k % n)) ∧ w' = w := by
  have hn0 : (n == 0) = false := by simp; omega
  have hn1 : n ≠ -1 := by omega
  have h1 := Int.emod_nonneg k (by omega : n ≠ 0)
  have h2 := Int.emod_lt_of_pos k hn.1
  have H1 : Hid (0 ≤ k % n) := h1
  have H2 : Hid (k % n < n) := h2
  clear h1 h2
  go_enter Tryz.func8, Tryz.ntmps8
  go_wp2
  · have h : k.tmod n < 0 := by assumption
    go_ret
    refine ⟨?_, rfl⟩
    have e := tmod_neg hn.1 h
    have a1 := H1.out
    have a2 := H2.out
    rw [e]
    rw [IntWalk.wrap64_in _ (by omega)]
    rfl
  · have h : 0 ≤ k.tmod n := by assumption
    go_ret
    refine ⟨?_, rfl⟩
    rw [tmod_pos hn.1 h]
    rfl

theorem most_ge (n : Int) : 0 ≤ most n := by
  unfold most
  split
  · omega
  · split <;> omega
def rx (x : Nat → Int) (j : Nat) : Int := x j % (most j + 1)
def mixX (x : Nat → Int) (k j : Nat) : Int := if j < k then rx x j else x j
def cellsX (y : Nat → Int) : Array Value := #[.int .i64 (y 0), .int .i64 (y 1), .int .i64 (y 2), .int .i64 (y 3), .int .i64 (y 4)]
theorem cellsX_at {w : World} {b : Nat} {y : Nat → Int} {t : TypeId} (h : w.heap[b]? = some (.cells (cellsX y) t (0, 0))) : XAt w b y ∧ ∀ j, w.frozen? ⟨b, j, none⟩ = false := by
  refine ⟨fun j hj => ?_, fun j => by simp [World.frozen?, h]⟩
  have : j = 0 ∨ j = 1 ∨ j = 2 ∨ j = 3 ∨ j = 4 := by omega
  rcases this with rfl | rfl | rfl | rfl | rfl <;> simp [World.cell?, h, cellsX]
theorem row_setCell {w : World} {b o : Nat} {cs : Array Value} {u : Value} {t : TypeId} (h : w.heap[b]? = some (.cells cs t (0, 0))) : (w.setCell ⟨b, o, none⟩ u).heap[b]? = some (.cells (cs.setIfInBounds o u) t (0, 0)) := by
  have hlt := lt_of_block h
  have h' : w.heap[b] = .cells cs t (0, 0) := by simpa [Array.getElem?_eq_getElem hlt] using h
  show (w.heap.modify b _)[b]? = _
  rw [Array.getElem?_eq_getElem (by simpa using hlt), Array.getElem_modify_self, h']
  rfl
theorem mix_set (x : Nat → Int) (k : Nat) (hk : k < 5) : (cellsX (mixX x k)).setIfInBounds k (.int .i64 (rx x k)) = cellsX (mixX x (k + 1)) := by
  have : k = 0 ∨ k = 1 ∨ k = 2 ∨ k = 3 ∨ k = 4 := by omega
  rcases this with rfl | rfl | rfl | rfl | rfl <;> simp [cellsX, mixX]

/-- It is a right call. -/
theorem right_ok (x : Nat → Int) : chkx (rx x) = 0 := by
  have h : ∀ j : Nat, inR j (rx x j) = true := by
    intro j
    have h1 := Int.emod_nonneg (x j) (by have := most_ge j; omega : most j + 1 ≠ 0)
    have h2 := Int.emod_lt_of_pos (x j) (by have := most_ge j; omega : 0 < most j + 1)
    unfold inR rx
    simp
    omega
  unfold chkx chk
  rw [if_pos]
  simp only [okFrom, Bool.and_eq_true]
  exact ⟨h 0, h 1, h 2, h 3, h 4, trivial⟩

end Go.Proofs.YtffhpcfphodamabGreatDoor
