/- CodeSays: true, whatever the filter and the call. -/
import Derived.Test.YtkgecncalndigaaCran
set_option linter.all false
set_option maxRecDepth 100000
namespace Go.Proofs.Ytkgecncalndigaa
open Go.RowKit Go.Maps

theorem ranE_ok {l : List InsT} {x : Nat → Int} (h0 : codeErr l = 0) (h1 : chkx x = 0) : ranE l x = 0 ∧ ranV l x = runs x 0 0 l := by
  have h : ranE l x = 0 := by rw [ranE, if_pos h0, h1]
  exact ⟨h, by rw [ranV, if_pos h]⟩
theorem ranE_call {l : List InsT} {x : Nat → Int} (h0 : codeErr l = 0) (h1 : chkx x ≠ 0) : ranE l x = chkx x ∧ ranV l x = (0, 0) := by
  have h : ranE l x = chkx x := by rw [ranE, if_pos h0]
  exact ⟨h, by rw [ranV, if_neg (by rw [h]; exact h1)]⟩
theorem ranE_code {l : List InsT} {x : Nat → Int} (h0 : codeErr l ≠ 0) : ranE l x = codeErr l ∧ ranV l x = (0, 0) := by
  have h : ranE l x = codeErr l := by rw [ranE, if_neg h0]
  exact ⟨h, by rw [ranV, if_neg (by rw [h]; exact h0)]⟩

set_option maxHeartbeats 4000000 in
theorem codeSays_any (B : Nat) (cv : Value) (l : List InsT) (x : Nat → Int) (w : World) (hc : InssAt B w cv l) (hB : B ≤ w.heap.size) :
    Calls Try.prog 5 #[cv, callV x] w fun e w' => e = .returned (.bool true) ∧ Below w.heap.size w w' := by
  have HR : Hid (∀ w', Below w.heap.size w w' → Calls Try.prog 12 #[cv, .agg #[.int .i64 (x 0), .int .i64 (x 1), .int .i64 (x 2), .int .i64 (x 3), .int .i64 (x 4)]] w' fun e w'' => e = .returned (.tuple #[.int .i64 (ranV l x).1, .int .i64 (ranV l x).2, .int .i64 (ranE l x)]) ∧ Below w'.heap.size w' w'') := fun w' h => run_any B cv l x w' (hc.later h hB) (Nat.le_trans hB h.size)
  have HC : Hid (∀ w', Below w.heap.size w w' → Calls Try.prog 15 #[cv] w' fun e w'' => e = .returned (.int .i64 (codeErr l)) ∧ Below w'.heap.size w' w'') := fun w' h => check_code B cv l w' (hc.later h hB) (Nat.le_trans hB h.size)
  have HD : Hid (∀ w', Below w.heap.size w w' → Calls Try.prog 13 #[cv] w' fun e w'' => e = .returned (.int .i64 (codeErr l)) ∧ Below w'.heap.size w' w'') := fun w' h => checkCode_any B cv l w' (hc.later h hB) (Nat.le_trans hB h.size)
  have HF : Hid (codeErr l = 0 → ∀ w', Below w.heap.size w w' → Calls Try.prog 16 #[cv, .agg #[.int .i64 (x 0), .int .i64 (x 1), .int .i64 (x 2), .int .i64 (x 3), .int .i64 (x 4)]] w' fun e w'' => e = .returned (.tuple #[.int .i64 (runs x 0 0 l).1, .int .i64 (runs x 0 0 l).2]) ∧ Below w'.heap.size w' w'') := fun h0 w' h => ranRef_any B cv l x w' (hc.later h hB) (Nat.le_trans hB h.size) h0
  have HX : Hid (∀ T w', Below (w.heap.size + 1) (w.alloc (.cells #[.int .i64 (x 0), .int .i64 (x 1), .int .i64 (x 2), .int .i64 (x 3), .int .i64 (x 4)] T)) w' → XAt w' w.heap.size x ∧ Below w.heap.size w w') := fun T w' h => ⟨(XAt.made x w T).later h (by omega), ((Below.refl _ _).alloc (Nat.le_refl _) _).trans (h.mono (by omega))⟩
  have HK : Hid (∀ w', Calls Try.prog 9 #[.agg #[.int .i64 (x 0), .int .i64 (x 1), .int .i64 (x 2), .int .i64 (x 3), .int .i64 (x 4)]] w' fun e w'' => e = .returned (.int .i64 (chkx x)) ∧ Below w'.heap.size w' w'') := fun w' => checkCall_any (x 0) (x 1) (x 2) (x 3) (x 4) w'
  have E0 : Hid (codeErr l = 0 → chkx x = 0 → ranE l x = 0 ∧ ranV l x = runs x 0 0 l) := fun h0 h1 => ranE_ok h0 h1
  have E1 : Hid (codeErr l = 0 → chkx x ≠ 0 → ranE l x = chkx x ∧ ranV l x = (0, 0)) := fun h0 h1 => ranE_call h0 h1
  have E2 : Hid (codeErr l ≠ 0 → ranE l x = codeErr l ∧ ranV l x = (0, 0)) := fun h0 => ranE_code h0
  obtain ⟨a, cap, rfl, _, _⟩ := hc.shape
  clear hc
  generalize l.length = len at *
  obtain ⟨T, hT⟩ : ∃ T, T = 28 := ⟨_, rfl⟩
  show Calls Try.prog 5 #[.slice a len cap, .agg #[.int .i64 (x 0), .int .i64 (x 1), .int .i64 (x 2), .int .i64 (x 3), .int .i64 (x 4)]] w _
  generalize hce : codeErr l = ce at *
  generalize hcx : chkx x = cx at *
  generalize hre : ranE l x = re at *
  generalize hrv : ranV l x = rv at *
  generalize hrr : runs x 0 0 l = rr at *
  go_enter Try.func5, Try.ntmps5
  go_wp2_with fail
  go_at_call 12
  refine Calls.mono (HR.out _ (HX.out _ _ (Below.refl _ _)).2) ?_
  rintro e w1 ⟨rfl, hb1⟩
  simp only [World.size_alloc] at hb1
  go_wp2_with fail
  go_at_call 13
  refine Calls.mono (HD.out _ (HX.out _ _ hb1).2) ?_
  rintro e w2 ⟨rfl, hb2⟩
  have hb2' := Below.thenOf hb1 hb2 (by have := hb1.size; simpa using this)
  clear hb2
  go_wp2_with fail
  go_at_call 14
  refine Calls.mono (ran_true _) ?_
  rintro e w3 ⟨rfl, hb3⟩
  have hb3' := Below.thenOf hb2' hb3 (by have := hb2'.size; simpa using this)
  clear hb3
  go_wp2_with fail
  go_at_call 15
  refine Calls.mono (HC.out _ (HX.out _ _ hb3').2) ?_
  rintro e w4 ⟨rfl, hb4⟩
  have hb4' := Below.thenOf hb3' hb4 (by have := hb3'.size; simpa using this)
  clear hb4
  obtain ⟨X4, B4⟩ := HX.out _ _ hb4'
  have x0 := X4 0 (by omega)
  have x1 := X4 1 (by omega)
  have x2 := X4 2 (by omega)
  have x3 := X4 3 (by omega)
  have x4 := X4 4 (by omega)
  clear X4
  by_cases h0 : ce = 0
  · subst h0
    by_cases h1 : cx = 0
    · obtain ⟨g1, g2⟩ := E0.out rfl h1
      subst h1 g1 g2
      have HF' := HF.out rfl
      have HF2 : Hid _ := HF'
      clear E0 E1 E2 HF HF' hce hcx hre hrv hrr
      go_wp2_with fail
      go_at_call 9
      refine Calls.mono (HK.out _) ?_
      rintro e w5 ⟨rfl, hb5⟩
      have hb5' := Below.thenOf hb4' hb5 (by have := hb4'.size; simpa using this)
      clear hb5
      obtain ⟨X5, B5⟩ := HX.out _ _ hb5'
      have y0 := X5 0 (by omega)
      have y1 := X5 1 (by omega)
      have y2 := X5 2 (by omega)
      have y3 := X5 3 (by omega)
      have y4 := X5 4 (by omega)
      clear X5
      go_wp2_with fail
      go_at_call 16
      refine Calls.mono (HF2.out _ B5) ?_
      rintro e w6 ⟨rfl, hb6⟩
      have hb6' := Below.thenOf hb5' hb6 (by have := hb5'.size; simpa using this)
      clear hb6
      go_wp2_with fail
      go_ret
      exact ⟨rfl, (HX.out _ _ hb6').2⟩
    · obtain ⟨g1, g2⟩ := E1.out rfl h1
      subst g1 g2
      have h1' : (re != 0) = true := by simpa using h1
      clear E0 E1 E2 HF hce hcx hre hrv hrr h1
      go_wp2_with fail
      go_at_call 9
      refine Calls.mono (HK.out _) ?_
      rintro e w5 ⟨rfl, hb5⟩
      have hb5' := Below.thenOf hb4' hb5 (by have := hb4'.size; simpa using this)
      clear hb5
      go_wp2_with fail
      go_ret
      exact ⟨rfl, (HX.out _ _ hb5').2⟩
  · obtain ⟨g1, g2⟩ := E2.out h0
    subst g1 g2
    have h1' : (re != 0) = true := by simpa using h0
    have h2' : (re == 0) = false := by simpa using h0
    clear E0 E1 E2 HF hce hcx hre hrv hrr h0
    go_wp2_with fail
    go_ret
    exact ⟨rfl, B4⟩

end Go.Proofs.Ytkgecncalndigaa
