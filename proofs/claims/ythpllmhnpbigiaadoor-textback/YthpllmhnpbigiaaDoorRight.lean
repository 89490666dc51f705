/- right: a right call of any numbers. -/
import Derived.Test.YthpllmhnpbigiaaDoorBase
import Derived.Test.YthpllmhnpbigiaaDoorLast
set_option linter.all false
namespace Go.Proofs.YthpllmhnpbigiaaDoor
open Go.RowKit Go.Maps

theorem tmod_neg {k n : Int} (hn : 0 < n) (h : k.tmod n < 0) : k.tmod n + n = k % n := by
  have h1 := Int.emod_nonneg k (by omega : n ≠ 0)
  have h2 := Int.emod_lt_of_pos k hn
  rw [Int.tmod_eq_emod] at h ⊢
  split at h
  · omega
  · rename_i hh; rw [if_neg hh]; omega
theorem tmod_pos {k n : Int} (hn : 0 < n) (h : 0 ≤ k.tmod n) : k.tmod n = k % n := by
  have h1 := Int.emod_nonneg k (by omega : n ≠ 0)
  have h2 := Int.emod_lt_of_pos k hn
  rw [Int.tmod_eq_emod] at h ⊢
  split at h
  · rename_i hh; rw [if_pos hh]; omega
  · omega

set_option maxHeartbeats 1000000 in
theorem at_any (k n : Int) (hn : 0 < n ∧ n ≤ 65536) (w : World) :
    Calls Tryd.prog 47 #[.int .i64 k, .int .i64 n] w fun e w' => e = .returned (.int .i64 (k % n)) ∧ w' = w := by
  have hn0 : (n == 0) = false := by simp; omega
  have hn1 : n ≠ -1 := by omega
  have h1 := Int.emod_nonneg k (by omega : n ≠ 0)
  have h2 := Int.emod_lt_of_pos k hn.1
  have H1 : Hid (0 ≤ k % n) := h1
  have H2 : Hid (k % n < n) := h2
  clear h1 h2
  go_enter Tryd.func47, Tryd.ntmps47
  go_wp2
  · have h : k.tmod n < 0 := by assumption
    go_ret
    refine ⟨?_, rfl⟩
    have e := tmod_neg hn.1 h
    have a1 := H1.out
    have a2 := H2.out
    rw [e]
    rw [IntWalk.wrap64_in _ (by omega)]
    rfl
  · have h : 0 ≤ k.tmod n := by assumption
    go_ret
    refine ⟨?_, rfl⟩
    rw [tmod_pos hn.1 h]
    rfl

theorem most_ge (n : Int) : 0 ≤ most n := by
  unfold most
  split
  · omega
  · split <;> omega
def rx (x : Nat → Int) (j : Nat) : Int := x j % (most j + 1)
def mixX (x : Nat → Int) (k j : Nat) : Int := if j < k then rx x j else x j
def cellsX (y : Nat → Int) : Array Value := #[.int .i64 (y 0), .int .i64 (y 1), .int .i64 (y 2), .int .i64 (y 3), .int .i64 (y 4)]
theorem cellsX_at {w : World} {b : Nat} {y : Nat → Int} {t : TypeId} (h : w.heap[b]? = some (.cells (cellsX y) t (0, 0))) : XAt w b y ∧ ∀ j, w.frozen? ⟨b, j, none⟩ = false := by
  refine ⟨fun j hj => ?_, fun j => by simp [World.frozen?, h]⟩
  have : j = 0 ∨ j = 1 ∨ j = 2 ∨ j = 3 ∨ j = 4 := by omega
  rcases this with rfl | rfl | rfl | rfl | rfl <;> simp [World.cell?, h, cellsX]
theorem row_setCell {w : World} {b o : Nat} {cs : Array Value} {u : Value} {t : TypeId} (h : w.heap[b]? = some (.cells cs t (0, 0))) : (w.setCell ⟨b, o, none⟩ u).heap[b]? = some (.cells (cs.setIfInBounds o u) t (0, 0)) := by
  have hlt := lt_of_block h
  have h' : w.heap[b] = .cells cs t (0, 0) := by simpa [Array.getElem?_eq_getElem hlt] using h
  show (w.heap.modify b _)[b]? = _
  rw [Array.getElem?_eq_getElem (by simpa using hlt), Array.getElem_modify_self, h']
  rfl
theorem mix_set (x : Nat → Int) (k : Nat) (hk : k < 5) : (cellsX (mixX x k)).setIfInBounds k (.int .i64 (rx x k)) = cellsX (mixX x (k + 1)) := by
  have : k = 0 ∨ k = 1 ∨ k = 2 ∨ k = 3 ∨ k = 4 := by omega
  rcases this with rfl | rfl | rfl | rfl | rfl <;> simp [cellsX, mixX]

set_option maxRecDepth 20000 in
set_option maxHeartbeats 2000000 in
theorem right_any (x : Nat → Int) (w : World) :
    Calls Tryd.prog 17 #[callV x] w fun e w' => e = .returned (callV (rx x)) ∧ Below w.heap.size w w' := by
  show Calls Tryd.prog 17 #[.agg #[.int .i64 (x 0), .int .i64 (x 1), .int .i64 (x 2), .int .i64 (x 3), .int .i64 (x 4)]] w _
  have hb2 : ∀ X Y, Below w.heap.size w ((w.alloc X).alloc Y) := fun X Y => ((Below.refl _ _).alloc (Nat.le_refl _) _).alloc (by simp) _
  go_enter Tryd.func17, Tryd.ntmps17
  go_wp2
  have hc0 : ((w.alloc (.cells #[.int .i64 (x 0), .int .i64 (x 1), .int .i64 (x 2), .int .i64 (x 3), .int .i64 (x 4)] 26)).alloc (.cells #[.int .i64 0, .int .i64 0, .int .i64 0, .int .i64 0, .int .i64 0] 26)).heap[w.heap.size]? = some (.cells (cellsX (mixX x 0)) 26 (0, 0)) := by
    rw [Below.heap_alloc _ _ _ (by simp)]
    exact (MapKept.heap_alloc w _).1
  have hc1 : ((w.alloc (.cells #[.int .i64 (x 0), .int .i64 (x 1), .int .i64 (x 2), .int .i64 (x 3), .int .i64 (x 4)] 26)).alloc (.cells #[.int .i64 0, .int .i64 0, .int .i64 0, .int .i64 0, .int .i64 0] 26)).heap[w.heap.size + 1]? = some (.cells (cellsX fun _ => 0) 26 (0, 0)) := by
    have := (MapKept.heap_alloc (w.alloc (.cells #[.int .i64 (x 0), .int .i64 (x 1), .int .i64 (x 2), .int .i64 (x 3), .int .i64 (x 4)] 26)) (.cells #[.int .i64 0, .int .i64 0, .int .i64 0, .int .i64 0, .int .i64 0] 26)).1
    rw [World.size_alloc] at this
    exact this
  have hbW := hb2 (.cells #[.int .i64 (x 0), .int .i64 (x 1), .int .i64 (x 2), .int .i64 (x 3), .int .i64 (x 4)] 26) (.cells #[.int .i64 0, .int .i64 0, .int .i64 0, .int .i64 0, .int .i64 0] 26)
  go_loopw [4] (fun i wr => ∃ k : Nat, k ≤ 5 ∧ i = .int .i64 k ∧ Below w.heap.size w wr ∧ Hid (wr.heap[w.heap.size]? = some (.cells (cellsX (mixX x k)) 26 (0, 0))) ∧ Hid (wr.heap[w.heap.size + 1]? = some (.cells (cellsX fun _ => 0) 26 (0, 0)))) (fun i _ => 5 - (intOf i).toNat)
  case atStart => exact ⟨0, by omega, rfl, hbW, hc0, hc1⟩
  case round =>
    obtain ⟨k, hk, rfl, hbr, H0, H1⟩ := hrel
    have i0 : (0 : Int) ≤ (k : Int) := by omega
    have hz := lt_of_block H1.out
    by_cases hlt : k < 5
    · have i1 : (k : Int) < 5 := by omega
      have hwf : (Lit.int .i64 (k : Int)).wf = true := WalkArith.wf_i64 (by omega)
      have hm1 : 0 ≤ most k := most_ge k
      have hm2 := most_le (k : Int)
      have hxk : mixX x k k = x k := by simp [mixX]
      go_wp2
      have hne := Later.ne wr
      have q0 : ∀ y : Later wr, y.1.cell? ⟨w.heap.size, k, none⟩ = some (.int .i64 (x k)) := fun y => y.cell (by rw [(cellsX_at H0.out).1 k hlt, hxk]) (by omega)
      have hrx : Hid (x k % (most k + 1) = rx x k) := rfl
      refine wp_region_later_last [_, _, _, _, _, _, _, _, _] _ rfl (by kernel_rfl) (by kernel_rfl) ?_
      repeat (go_big_quiet_step (first | (go_at_call 39; exact Calls.later (mostOf_any _ hwf _)) | (go_at_call 47; exact Calls.later_same (at_any _ _ (by omega) _))))
      refine wpQuiet_nil ?_
      rintro wx ⟨⟨_, hx⟩, rfl⟩
      have hbx := Below.thenOf hbr hx hbr.size
      have G0 := (hx.block w.heap.size (by omega)).trans H0.out
      have G1 := (hx.block (w.heap.size + 1) (by omega)).trans H1.out
      have t0 := (cellsX_at G0).1 k hlt
      have t1 := (cellsX_at G0).2 k
      have F0 := row_setCell (o := k) (u := .int .i64 (rx x k)) G0
      rw [mix_set x k hlt] at F0
      have F1 : (wx.setCell ⟨w.heap.size, k, none⟩ (.int .i64 (rx x k))).heap[w.heap.size + 1]? = some (.cells (cellsX fun _ => 0) 26 (0, 0)) := by rw [Below.heap_setCell _ _ _ _ (by show w.heap.size + 1 ≠ w.heap.size; omega)]; exact G1
      have F0' : Hid _ := F0
      have F1' : Hid _ := F1
      clear q0 hne G0 G1 F0 F1 hx
      unfold rx at F0' F1'
      go_wp2
      exact ⟨⟨k + 1, by omega, by go_num, hbx.setCell (p := ⟨w.heap.size, k, none⟩) (Nat.le_refl _) _, F0'.out, F1'.out⟩, by simp [intOf]; omega⟩
    · obtain rfl : k = 5 := by omega
      have e5 : ∀ j, j < 5 → mixX x 5 j = rx x j := fun j hj => by simp [mixX, hj]
      have X0 := (cellsX_at H0.out).1
      have y0 := X0 0 (by omega)
      have y1 := X0 1 (by omega)
      have y2 := X0 2 (by omega)
      have y3 := X0 3 (by omega)
      have y4 := X0 4 (by omega)
      rw [e5 _ (by omega)] at y0 y1 y2 y3 y4
      have Z0 := (cellsX_at H1.out).1
      have Z1 := (cellsX_at H1.out).2
      have z0 := Z0 0 (by omega)
      have z1 := Z0 1 (by omega)
      have z2 := Z0 2 (by omega)
      have z3 := Z0 3 (by omega)
      have z4 := Z0 4 (by omega)
      have f0 := Z1 0
      have f1 := Z1 1
      have f2 := Z1 2
      have f3 := Z1 3
      have f4 := Z1 4
      clear X0 Z0 Z1 e5
      have hbF : Below w.heap.size w (((((wr.setCell ⟨w.heap.size + 1, 0, none⟩ (.int .i64 (rx x 0))).setCell ⟨w.heap.size + 1, 1, none⟩ (.int .i64 (rx x 1))).setCell ⟨w.heap.size + 1, 2, none⟩ (.int .i64 (rx x 2))).setCell ⟨w.heap.size + 1, 3, none⟩ (.int .i64 (rx x 3))).setCell ⟨w.heap.size + 1, 4, none⟩ (.int .i64 (rx x 4))) := ((((hbr.setCell (p := ⟨w.heap.size + 1, 0, none⟩) (Nat.le_succ _) _).setCell (p := ⟨w.heap.size + 1, 1, none⟩) (Nat.le_succ _) _).setCell (p := ⟨w.heap.size + 1, 2, none⟩) (Nat.le_succ _) _).setCell (p := ⟨w.heap.size + 1, 3, none⟩) (Nat.le_succ _) _).setCell (p := ⟨w.heap.size + 1, 4, none⟩) (Nat.le_succ _) _
      have HF := row_setCell (o := 4) (u := .int .i64 (rx x 4)) (row_setCell (o := 3) (u := .int .i64 (rx x 3)) (row_setCell (o := 2) (u := .int .i64 (rx x 2)) (row_setCell (o := 1) (u := .int .i64 (rx x 1)) (row_setCell (o := 0) (u := .int .i64 (rx x 0)) H1.out))))
      have HF' : Hid ((((((wr.setCell ⟨w.heap.size + 1, 0, none⟩ (.int .i64 (rx x 0))).setCell ⟨w.heap.size + 1, 1, none⟩ (.int .i64 (rx x 1))).setCell ⟨w.heap.size + 1, 2, none⟩ (.int .i64 (rx x 2))).setCell ⟨w.heap.size + 1, 3, none⟩ (.int .i64 (rx x 3))).setCell ⟨w.heap.size + 1, 4, none⟩ (.int .i64 (rx x 4))).heap[w.heap.size + 1]? = some (.cells (cellsX (rx x)) 26 (0, 0))) := HF
      have hbF' : Hid _ := hbF
      clear HF hbF
      have hRx : Hid (rx x = rx x) := rfl
      generalize hr : rx x = r at *
      go_wp2
      have Y := (cellsX_at HF'.out).1
      have v0 := Y 0 (by omega)
      have v1 := Y 1 (by omega)
      have v2 := Y 2 (by omega)
      have v3 := Y 3 (by omega)
      have v4 := Y 4 (by omega)
      refine bodyPost_ret (v := callV r) ?_ rfl ⟨rfl, hbF'.out⟩
      rw [results_cell1 rfl]
      unfold callV
      go_simp

/-- It is a right call. -/
theorem right_ok (x : Nat → Int) : chkx (rx x) = 0 := by
  have h : ∀ j : Nat, inR j (rx x j) = true := by
    intro j
    have h1 := Int.emod_nonneg (x j) (by have := most_ge j; omega : most j + 1 ≠ 0)
    have h2 := Int.emod_lt_of_pos (x j) (by have := most_ge j; omega : 0 < most j + 1)
    unfold inR rx
    simp
    omega
  unfold chkx chk
  rw [if_pos]
  simp only [okFrom, Bool.and_eq_true]
  exact ⟨h 0, h 1, h 2, h 3, h 4, trivial⟩

end Go.Proofs.YthpllmhnpbigiaaDoor
