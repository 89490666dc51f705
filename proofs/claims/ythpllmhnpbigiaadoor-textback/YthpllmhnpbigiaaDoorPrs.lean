/- What the program's own Parse says of any text. -/
import Derived.Test.YthpllmhnpbigiaaDoorRdrP2
import Derived.Test.YthpllmhnpbigiaaDoorPol2
set_option linter.all false
set_option maxRecDepth 100000
namespace Go.Proofs.YthpllmhnpbigiaaDoor
open Go.RowKit Go.Maps

set_option maxHeartbeats 4000000 in
theorem parse_any (s : ByteArray) (w : World) (he : EnvT w) :
    Calls Tryd.prog 22 #[.string s] w fun e w' => ∃ pv, e = .returned (.tuple #[pv, .int .i64 (parseR s.data.toList).2]) ∧ PolN w.heap.size w' pv (parseR s.data.toList).1 ∧ Below w.heap.size w w' := by
  have hb1 : ∀ X, Below w.heap.size w (w.alloc X) := fun X => (Below.refl _ _).alloc (Nat.le_refl _) _
  have HB : Hid (∀ w' T, Below (w.heap.size + 1) (w.alloc (.cells #[.slice none 0 0, .int .i64 0] T)) w' → w'.heap[w.heap.size]? = some (.cells #[.slice none 0 0, .int .i64 0] T (0, 0)) ∧ Below w.heap.size w w') := fun w' T h => ⟨(h.block w.heap.size (by omega)).trans (MapKept.heap_alloc w _).1, (hb1 _).trans (h.mono (by omega))⟩
  have hsz := Lib.size_eq s
  by_cases hlong : 60000 < s.size
  · have hR : Hid (parseR s.data.toList = (([], 0), 2)) := by unfold Hid parseR; rw [if_pos (by omega)]
    have hl : (60000 : Int) < (s.size : Int) := by omega
    have hRb := (MapKept.heap_alloc w (.cells #[.slice none 0 0, .int .i64 0] 24)).1
    have hbW := hb1 (.cells #[.slice none 0 0, .int .i64 0] 24)
    clear hsz
    go_enter Tryd.func22, Tryd.ntmps22
    go_wp2
    refine bodyPost_ret (v := .tuple #[.agg #[.slice none 0 0, .int .i64 0], .int .i64 2]) ?_ rfl ⟨_, by rw [hR.out], by rw [hR.out]; exact PolN.zero _ _, ?_⟩
    · rw [results_cell_tmp rfl]
      go_simp
    · first | exact hbW | exact (hbW.setCell (p := ⟨w.heap.size, 0, none⟩) (Nat.le_refl _) _).setCell (p := ⟨w.heap.size, 1, none⟩) (Nat.le_refl _) _
  · have hl : ¬ ((60000 : Int) < (s.size : Int)) := by omega
    have hRP := readPolicy_any s (by omega) (w.alloc (.cells #[.slice none 0 0, .int .i64 0] 24)) (he.later (hb1 _))
    have HRP : Hid _ := hRP
    have hR : Hid (parseR s.data.toList = match polOf s.data.toList with
      | none => (([], 0), 1)
      | some p => if polErr p = 0 then (p, 0) else (([], 0), polErr p)) := by unfold Hid parseR; rw [if_neg (by omega)]; rfl
    clear hRP hsz hlong
    generalize polOf s.data.toList = po at *
    cases po with
    | none =>
      have hR' : Hid (parseR s.data.toList = (([], 0), 1)) := hR.out
      clear hR
      go_enter Tryd.func22, Tryd.ntmps22
      go_wp2_with fail
      go_at_call 53
      refine Calls.mono HRP.out ?_
      rintro e w1 ⟨pv, rfl, hpn, hb⟩
      simp only [World.size_alloc] at hb hpn
      obtain ⟨hRb, hbw⟩ := HB.out _ _ hb
      obtain ⟨a, n, cap, rfl⟩ := hpn.shape
      have hs1 : w.heap.size + 1 ≤ w1.heap.size := by have := hb.size; simpa using this
      have hRb2 : ∀ X, (w1.alloc X).heap[w.heap.size]? = some (.cells #[.slice none 0 0, .int .i64 0] 24 (0, 0)) := fun X => (Below.heap_alloc _ _ _ (by omega)).trans hRb
      have t0 : ∀ X, (w1.alloc X).cell? ⟨w.heap.size, 0, none⟩ = some (.slice none 0 0) := fun X => (cell_of_two (hRb2 X)).1
      have t1 : ∀ X, (w1.alloc X).cell? ⟨w.heap.size, 1, none⟩ = some (.int .i64 0) := fun X => (cell_of_two (hRb2 X)).2.1
      have t2 : ∀ X, (w1.alloc X).frozen? ⟨w.heap.size, 0, none⟩ = false := fun X => (cell_of_two (hRb2 X)).2.2.1
      have t3 : ∀ X, (w1.alloc X).frozen? ⟨w.heap.size, 1, none⟩ = false := fun X => (cell_of_two (hRb2 X)).2.2.2
      have hRH : Hid _ := hRb2
      clear hRb hRb2 hpn
      go_wp2_with fail
      have HRF := two_setCell1 (u := .int .i64 0) (two_setCell (u := .slice none 0 0) (hRH.out (.cells #[.slice a n cap, .int .i64 0] 24)))
      obtain ⟨z0, z1, _, _⟩ := cell_of_two HRF
      refine bodyPost_ret (v := .tuple #[.agg #[.slice none 0 0, .int .i64 0], .int .i64 1]) ?_ rfl ⟨_, by rw [hR'.out], by rw [hR'.out]; exact PolN.zero _ _, ((hbw.alloc (by omega) _).setCell (p := ⟨w.heap.size, 0, none⟩) (Nat.le_refl _) _).setCell (p := ⟨w.heap.size, 1, none⟩) (Nat.le_refl _) _⟩
      rw [results_cell_tmp rfl]
      go_simp
    | some p =>
      obtain ⟨rs, d⟩ := p
      have hR' : Hid (parseR s.data.toList = if polErr (rs, d) = 0 then ((rs, d), 0) else (([], 0), polErr (rs, d))) := hR.out
      clear hR
      go_enter Tryd.func22, Tryd.ntmps22
      go_wp2_with fail
      go_at_call 53
      refine Calls.mono HRP.out ?_
      rintro e w1 ⟨pv, rfl, hpn, hb⟩
      simp only [World.size_alloc] at hb hpn
      obtain ⟨hRb, hbw⟩ := HB.out _ _ hb
      obtain ⟨a, n, cap, rfl⟩ := hpn.shape
      have hs1 : w.heap.size + 1 ≤ w1.heap.size := by have := hb.size; simpa using this
      have hpnH : Hid (PolN (w.heap.size + 1) w1 (.agg #[.slice a n cap, .int .i64 d]) (rs, d)) := hpn
      have hCk : Hid (∀ w', Below w1.heap.size w1 w' → Calls Tryd.prog 12 #[.agg #[.slice a n cap, .int .i64 d]] w' fun e w'' => e = .returned (.int .i64 (polErr (rs, d))) ∧ Below w'.heap.size w' w'') := fun w' h => check_pol w'.heap.size _ (rs, d) w' (hpnH.out.keep (fun g h1 h2 => h.block g h2) h.size).at (Nat.le_refl _)
      have hRH : Hid _ := hRb
      clear hRb hpn
      generalize hpe : polErr (rs, d) = pe at *
      have hb2A : Below w1.heap.size w1 (w1.alloc (.cells #[.slice a n cap, .int .i64 d] 24)) := (Below.refl _ _).alloc (Nat.le_refl _) _
      go_wp2_with fail
      go_at_call 12
      refine Calls.mono (hCk.out _ hb2A) ?_
      rintro e w2 ⟨rfl, hb2⟩
      have hb12 := Below.thenOf hb2A hb2 (by simp)
      have hRb2 : w2.heap[w.heap.size]? = some (.cells #[.slice none 0 0, .int .i64 0] 24 (0, 0)) := (hb12.block _ (by omega)).trans hRH.out
      obtain ⟨t0, t1, t2, t3⟩ := cell_of_two hRb2
      have hbx : w2.heap[w1.heap.size]? = some (.cells #[.slice a n cap, .int .i64 d] 24 (0, 0)) := (hb2.block _ (by simp)).trans (MapKept.heap_alloc w1 _).1
      obtain ⟨b0, b1, _, _⟩ := cell_of_two hbx
      have hbw2 : Below w.heap.size w w2 := Below.thenOf hbw hb12 hbw.size
      have hRH2 : Hid _ := hRb2
      have hne1 : ¬ (w1.heap.size = w.heap.size) := by omega
      have hne2 : ¬ (w.heap.size = w1.heap.size) := by omega
      have hs12 := hb12.size
      clear hRb2 hbx hb2 hb2A
      by_cases h0 : pe = 0
      · subst h0
        have hR2 : Hid (parseR s.data.toList = ((rs, d), 0)) := by unfold Hid; rw [hR'.out, if_pos rfl]
        clear hR'
        go_wp2_with fail
        have HRF := two_setCell1 (u := .int .i64 d) (two_setCell (u := .slice a n cap) hRH2.out)
        obtain ⟨z0, z1, _, _⟩ := cell_of_two HRF
        refine bodyPost_ret (v := .tuple #[.agg #[.slice a n cap, .int .i64 d], .int .i64 0]) ?_ rfl ⟨_, by rw [hR2.out], ?_, (hbw2.setCell (p := ⟨w.heap.size, 0, none⟩) (Nat.le_refl _) _).setCell (p := ⟨w.heap.size, 1, none⟩) (Nat.le_refl _) _⟩
        · rw [results_cell_tmp rfl]
          go_simp
        · rw [hR2.out]
          have h3 := hpnH.out.keep (w' := (w2.setCell ⟨w.heap.size, 0, none⟩ (.slice a n cap)).setCell ⟨w.heap.size, 1, none⟩ (.int .i64 d)) (fun g h1 h2 => (heap_set2 0 _ _ (by omega)).trans (hb12.block g h2)) (by simp; exact hs12)
          obtain ⟨rv, e1, e2, a', cap', e3, e4, e5, e6⟩ := h3
          refine ⟨rv, e1, e2, a', cap', e3, e4, e5, fun i r hr => ?_⟩
          obtain ⟨b, o, k1, k2, k3, cv, k4, k5, k6, k7⟩ := e6 i r hr
          exact ⟨b, o, k1, by omega, k3, cv, k4, k5, k6, k7.mono (by omega)⟩
      · have hq : (pe != 0) = true := by simpa using h0
        have hR2 : Hid (parseR s.data.toList = (([], 0), pe)) := by unfold Hid; rw [hR'.out, if_neg h0]
        clear hR' h0
        go_wp2_with fail
        have HRF := two_setCell1 (u := .int .i64 0) (two_setCell (u := .slice none 0 0) hRH2.out)
        obtain ⟨z0, z1, _, _⟩ := cell_of_two HRF
        refine bodyPost_ret (v := .tuple #[.agg #[.slice none 0 0, .int .i64 0], .int .i64 pe]) ?_ rfl ⟨_, by rw [hR2.out], by rw [hR2.out]; exact PolN.zero _ _, (hbw2.setCell (p := ⟨w.heap.size, 0, none⟩) (Nat.le_refl _) _).setCell (p := ⟨w.heap.size, 1, none⟩) (Nat.le_refl _) _⟩
        rw [results_cell_tmp rfl]
        go_simp

end Go.Proofs.YthpllmhnpbigiaaDoor
