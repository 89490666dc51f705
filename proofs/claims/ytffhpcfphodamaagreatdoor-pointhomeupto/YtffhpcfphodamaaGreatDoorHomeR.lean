/- What the counterpart's HomeOf says: the home. -/
import Derived.Test.YtffhpcfphodamaaGreatDoorCut2
import Derived.Test.YtffhpcfphodamaaGreatDoorRight
set_option linter.all false
set_option maxRecDepth 100000
namespace Go.Proofs.YtffhpcfphodamaaGreatDoor
open Go.RowKit Go.Maps

theorem lastLe_snoc (x : Int) : ∀ (l : List Int) (best n : Int), lastLe x best (l ++ [n]) = if n ≤ x then n else lastLe x best l
  | [], best, n => rfl
  | m :: r, best, n => by
    show lastLe x (if m ≤ x then m else best) (r ++ [n]) = _
    rw [lastLe_snoc x r _ n]
    rfl
theorem lastLe_take (x : Int) (l : List Int) (i : Nat) (n : Int) (h : l[i]? = some n) : lastLe x 0 (l.take (i + 1)) = if n ≤ x then n else lastLe x 0 (l.take i) := by
  rw [List.take_succ, h]
  exact lastLe_snoc x _ 0 n
def mixH (y x : Nat → Int) (k j : Nat) : Int := if j < k then y j else x j
theorem mixH_set (y x : Nat → Int) (k : Nat) (hk : k < 5) : (cellsX (mixH y x k)).setIfInBounds k (.int .i64 (y k)) = cellsX (mixH y x (k + 1)) := by
  have : k = 0 ∨ k = 1 ∨ k = 2 ∨ k = 3 ∨ k = 4 := by omega
  rcases this with rfl | rfl | rfl | rfl | rfl <;> simp [cellsX, mixH]

set_option maxHeartbeats 4000000 in
theorem homeOf_any (B : Nat) (lv : Value) (ps : List PolT) (x : Nat → Int) (w : World) (hl : PolsAt B w lv ps) (hok : AllOk ps) (hB : B ≤ w.heap.size) (hn : ps.length ≤ 5000000000) :
    Calls Tryz.prog 15 #[lv, callV x] w fun e w' => e = .returned (callV (homeP ps x)) ∧ Below w.heap.size w w' := by
  have HC : Hid (∀ (k : Nat) w', k < 5 → Below w.heap.size w w' → Calls Tryz.prog 14 #[lv, .int .i64 k] w' fun e w'' => ∃ v, e = .returned v ∧ w''.ownsRow w'.heap.size 3 1 v (cutsP ps k).length ((cutsP ps k).map (.int .i64)) ∧ Below w'.heap.size w' w'') := fun k w' hk h => cutsOf_any B lv ps k (WalkArith.wf_i64 (by omega)) w' (hl.later h hB) hok (Nat.le_trans hB h.size) hn
  have HF : Hid (∀ k : Nat, (cutsP ps k).length ≤ 65536) := fun k => cuts_few hok k
  have hb2 : ∀ X Y, Below w.heap.size w ((w.alloc X).alloc Y) := fun X Y => ((Below.refl _ _).alloc (Nat.le_refl _) _).alloc (by simp) _
  obtain ⟨a, cap, rfl, hlc, hcm, -⟩ := hl
  generalize ps.length = len at *
  show Calls Tryz.prog 15 #[.slice a len cap, .agg #[.int .i64 (x 0), .int .i64 (x 1), .int .i64 (x 2), .int .i64 (x 3), .int .i64 (x 4)]] w _
  obtain ⟨W0, hW0⟩ : ∃ W0, W0 = (w.alloc (.cells #[.int .i64 (x 0), .int .i64 (x 1), .int .i64 (x 2), .int .i64 (x 3), .int .i64 (x 4)] 24)).alloc (.cells #[.int .i64 0, .int .i64 0, .int .i64 0, .int .i64 0, .int .i64 0] 24) := ⟨_, rfl⟩
  have hbW : Below w.heap.size w W0 := by rw [hW0]; exact hb2 _ _
  have hc0 : W0.heap[w.heap.size]? = some (.cells (cellsX (mixH (homeP ps x) x 0)) 24 (0, 0)) := by
    rw [hW0, Below.heap_alloc _ _ _ (by simp)]
    exact (MapKept.heap_alloc w _).1
  have hc1 : W0.heap[w.heap.size + 1]? = some (.cells (cellsX fun _ => 0) 24 (0, 0)) := by
    have := (MapKept.heap_alloc (w.alloc (.cells #[.int .i64 (x 0), .int .i64 (x 1), .int .i64 (x 2), .int .i64 (x 3), .int .i64 (x 4)] 24)) (.cells #[.int .i64 0, .int .i64 0, .int .i64 0, .int .i64 0, .int .i64 0] 24)).1
    rw [World.size_alloc] at this
    rw [hW0]
    exact this
  clear hb2
  go_enter Tryz.func15, Tryz.ntmps15
  go_wp2
  rw [← hW0]
  clear hW0
  go_loopw [9] (fun i wr => ∃ k : Nat, k ≤ 5 ∧ i = .int .i64 k ∧ Below w.heap.size w wr ∧ Hid (wr.heap[w.heap.size]? = some (.cells (cellsX (mixH (homeP ps x) x k)) 24 (0, 0))) ∧ Hid (wr.heap[w.heap.size + 1]? = some (.cells (cellsX fun _ => 0) 24 (0, 0)))) (fun i _ => 5 - (intOf i).toNat)
  case atStart => exact ⟨0, by omega, rfl, hbW, hc0, hc1⟩
  case round =>
    obtain ⟨k, hk, rfl, hbr, H0, H1⟩ := hrel
    obtain ⟨wo, hwo⟩ : ∃ x, x = wr := ⟨_, rfl⟩
    subst hwo
    have i0 : (0 : Int) ≤ (k : Int) := by omega
    have hz := lt_of_block H1.out
    by_cases hlt : k < 5
    · have i1 : (k : Int) < 5 := by omega
      have HFk := HF.out k
      obtain ⟨L, hL⟩ : ∃ L, L = cutsP ps k := ⟨_, rfl⟩
      have HCk := HC.out k wo hlt hbr
      rw [← hL] at HCk HFk
      have HCk' : Hid _ := HCk
      have HH : Hid (homeP ps x k = lastLe (x k) 0 L) := by unfold Hid; rw [hL]; rfl
      have hxk : mixH (homeP ps x) x k k = x k := by simp [mixH]
      clear hL HCk
      obtain ⟨n, hn'⟩ : ∃ n, n = L.length := ⟨_, rfl⟩
      have hnH : Hid (L.length = n) := hn'.symm
      rw [← hn'] at HFk
      clear hn'
      go_wp2_with fail
      go_at_call 14
      refine Calls.mono HCk'.out ?_
      rintro e w2 ⟨v, rfl, ho2, hb2⟩
      obtain ⟨a2, cap2, rfl, hc2, hc2m, hsh⟩ := ownsRow_caps ho2
      have HO2 : Hid _ := ho2
      rw [hnH.out] at hc2 hsh
      have hbw2 : Below w.heap.size w w2 := Below.thenOf hbr hb2 hbr.size
      have G0 : Hid (w2.heap[w.heap.size]? = _) := (hb2.block w.heap.size (by omega)).trans H0.out
      have G1 : Hid (w2.heap[w.heap.size + 1]? = _) := (hb2.block (w.heap.size + 1) (by omega)).trans H1.out
      have hxc : w2.cell? ⟨w.heap.size, k, none⟩ = some (.int .i64 (x k)) := by rw [(cellsX_at G0.out).1 k hlt, hxk]
      have hHL : Hid (∀ (i : Nat) (q : Int), L[i]? = some q → ∃ g, a2 = some ⟨g, 0, none⟩ ∧ w2.cell? ⟨g, i, none⟩ = some (.int .i64 q)) := by
        intro i q hq
        have hi := (List.getElem?_eq_some_iff.1 hq).1
        obtain ⟨g, rfl, _, _⟩ := hsh (by rw [← hnH.out]; omega)
        exact ⟨g, rfl, ownsRow_cell HO2.out i _ (by simp [hq])⟩
      rw [hnH.out] at HO2
      simp only [hnH.out]
      generalize x k = xk at *
      go_wp2_with fail
      go_loopw [6, 16] (fun bv iv wr => ∃ i : Nat, i ≤ n ∧ iv = .int .i64 i ∧ bv = .int .i64 (lastLe xk 0 (L.take i)) ∧ wr = w2) (fun _ iv _ => n - (intOf iv).toNat)
      case atStart => exact ⟨0, by omega, rfl, rfl, rfl⟩
      case round =>
        obtain ⟨i, hi, rfl, rfl, rfl⟩ := hrel
        have q0 : (0 : Int) ≤ (i : Int) := by omega
        by_cases hli : i < n
        · have q1 : (i : Int) < (n : Int) := by omega
          obtain ⟨q, hq⟩ : ∃ q, L[i]? = some q := ⟨L[i]'(by rw [hnH.out]; omega), by simp⟩
          obtain ⟨g, rfl, hcq⟩ := hHL.out i q hq
          have HS : Hid (lastLe xk 0 (L.take (i + 1)) = if q ≤ xk then q else lastLe xk 0 (L.take i)) := lastLe_take xk L i q hq
          clear hq
          by_cases hqx : q ≤ xk
          · have HS' : Hid (lastLe xk 0 (L.take (i + 1)) = q) := by unfold Hid; rw [HS.out, if_pos hqx]
            go_wp2
            exact ⟨⟨i + 1, by omega, by go_num, by rw [HS'.out], by trivial⟩, by simp [intOf]; omega⟩
          · have HS' : Hid (lastLe xk 0 (L.take (i + 1)) = lastLe xk 0 (L.take i)) := by unfold Hid; rw [HS.out, if_neg hqx]
            go_wp2
            exact ⟨⟨i + 1, by omega, by go_num, by rw [HS'.out], by trivial⟩, by simp [intOf]; omega⟩
        · obtain rfl : i = n := by omega
          have HE : Hid (homeP ps x k = lastLe xk 0 (L.take i)) := by
            unfold Hid
            rw [List.take_of_length_le (by rw [hnH.out]; omega)]
            exact HH.out
          have hfr := (cellsX_at G0.out).2 k
          generalize lastLe xk 0 (L.take i) = bst at *
          go_wp2
          refine ⟨⟨k + 1, by omega, by go_num, hbw2.setCell (p := ⟨w.heap.size, k, none⟩) (Nat.le_refl _) _, ?_, ?_⟩, by simp [intOf]; omega⟩
          · unfold Hid
            rw [row_setCell G0.out, ← HE.out, mixH_set _ _ _ hlt]
          · unfold Hid
            rw [Below.heap_setCell _ _ _ _ (by show w.heap.size + 1 ≠ w.heap.size; omega)]
            exact G1.out
    · obtain rfl : k = 5 := by omega
      have e5 : ∀ j, j < 5 → mixH (homeP ps x) x 5 j = homeP ps x j := fun j hj => by simp [mixH, hj]
      have X0 := (cellsX_at H0.out).1
      have y0 := X0 0 (by omega)
      have y1 := X0 1 (by omega)
      have y2 := X0 2 (by omega)
      have y3 := X0 3 (by omega)
      have y4 := X0 4 (by omega)
      rw [e5 _ (by omega)] at y0 y1 y2 y3 y4
      have Z0 := (cellsX_at H1.out).1
      have Z1 := (cellsX_at H1.out).2
      have z0 := Z0 0 (by omega)
      have z1 := Z0 1 (by omega)
      have z2 := Z0 2 (by omega)
      have z3 := Z0 3 (by omega)
      have z4 := Z0 4 (by omega)
      have f0 := Z1 0
      have f1 := Z1 1
      have f2 := Z1 2
      have f3 := Z1 3
      have f4 := Z1 4
      clear X0 Z0 Z1 e5
      generalize hy : homeP ps x = y at *
      have HY : Hid (homeP ps x = y) := hy
      clear hy
      go_wp2
      refine bodyPost_ret (v := .agg #[.int .i64 (y 0), .int .i64 (y 1), .int .i64 (y 2), .int .i64 (y 3), .int .i64 (y 4)]) ?_ rfl ⟨by rw [HY.out]; rfl, ?_⟩
      · rw [results_cell1 rfl]
        go_simp
      · exact ((((hbr.setCell (p := ⟨w.heap.size + 1, 0, none⟩) (Nat.le_succ _) _).setCell (p := ⟨w.heap.size + 1, 1, none⟩) (Nat.le_succ _) _).setCell (p := ⟨w.heap.size + 1, 2, none⟩) (Nat.le_succ _) _).setCell (p := ⟨w.heap.size + 1, 3, none⟩) (Nat.le_succ _) _).setCell (p := ⟨w.heap.size + 1, 4, none⟩) (Nat.le_succ _) _
end Go.Proofs.YtffhpcfphodamaaGreatDoor
