/- CodeEnds: true, whatever the filter and the call. -/
import Derived.Test.YtkgecncalndigaaCran
import Derived.Test.YtkgecncalndigaaRight
import Derived.Test.YtkgecncalndigaaCatI
import Derived.Test.YtkgecncalndigaaFree
set_option linter.all false
set_option maxRecDepth 100000
namespace Go.Proofs.Ytkgecncalndigaa
open Go.RowKit Go.Maps

def pastH : List InsT := [(2, 0, 1, 1), (4, 0, 0, 0)]
def pastC : Array Value := #[.int .i64 2, .int .i64 0, .int .i64 1, .int .i64 1, .int .i64 4, .int .i64 0, .int .i64 0, .int .i64 0]
/-- What stands ahead and is gone past says nothing. -/
theorem past_ok {l : List InsT} (h : codeErr l = 0) (hn : l.length + 2 ≤ 1500) (x : Nat → Int) : codeErr (pastH ++ l) = 0 ∧ runs x 0 0 (pastH ++ l) = inc (runs x 0 0 l) := by
  obtain ⟨h1, h2, h3, h4⟩ := codeErr_ok h
  have hne : l ≠ [] := by intro e; subst e; simp at h1
  refine ⟨?_, ?_⟩
  · have e1 : insErr (4, 0, 0, 0) l.length = 0 := rfl
    have e0 : insErr (2, 0, 1, 1) (((4, 0, 0, 0) :: l : List InsT).length : Int) = 0 := by
      unfold insErr
      rw [if_neg (by simp), if_pos (by simp), if_neg (by simp), if_neg (by simp; omega)]
    have e2 : inssErr (pastH ++ l) = 0 := by
      show inssErr ((2, 0, 1, 1) :: (4, 0, 0, 0) :: l) = 0
      rw [inssErr, if_pos e0, inssErr, if_pos e1]
      exact h3
    have e3 : lastKind (pastH ++ l) = 4 := by
      cases l with
      | nil => exact absurd rfl hne
      | cons c r => exact h4
    have e4 : (pastH ++ l).length = l.length + 2 := by simp [pastH]
    unfold codeErr
    rw [if_neg (by omega), if_pos e2, if_pos e3]
  · show runs x 0 0 ((2, 0, 1, 1) :: (4, 0, 0, 0) :: l) = _
    rw [runs, if_neg (by simp), if_pos (by simp)]
    rfl
theorem pastC_at (w w' : World) (T : TypeId) (hb : Below (w.heap.size + 1) (w.alloc (.cells pastC T)) w') : InssAt (w.heap.size + 1) w' (.slice (some ⟨w.heap.size, 0, none⟩) 2 2) pastH := by
  have hw : ∀ c ∈ pastH, insWf c := by
    intro c hc
    simp [pastH] at hc
    rcases hc with rfl | rfl <;> exact ⟨by unfold wf; decide, by unfold wf; decide, by unfold wf; decide, by unfold wf; decide⟩
  refine ⟨some ⟨w.heap.size, 0, none⟩, 2, rfl, Nat.le_refl _, by rw [maxLen_eq]; omega, fun i c hc => ⟨w.heap.size, 0, rfl, by omega, ?_⟩⟩
  have hw' := hw c (List.mem_of_getElem? hc)
  have hi : i < 2 := (List.getElem?_eq_some_iff.1 hc).1
  have : i = 0 ∨ i = 1 := by omega
  refine InsAt.later ?_ hb (by omega)
  rcases this with rfl | rfl
  all_goals
    simp [pastH] at hc
    subst hc
    exact ⟨by simp [go_sem, pastC], by simp [go_sem, pastC], by simp [go_sem, pastC], by simp [go_sem, pastC], hw'⟩

set_option maxHeartbeats 4000000 in
theorem codeEnds_any (B : Nat) (cv : Value) (l : List InsT) (x : Nat → Int) (w : World) (hc : InssAt B w cv l) (hB : B ≤ w.heap.size) :
    Calls Try.prog 6 #[cv, callV x] w fun e w' => e = .returned (.bool true) ∧ Below w.heap.size w w' := by
  have HR : Hid (∀ w', Calls Try.prog 17 #[callV x] w' fun e w'' => e = .returned (callV (rx x)) ∧ Below w'.heap.size w' w'') := fun w' => right_any x w'
  have HU : Hid (∀ B' v l' w', InssAt B' w' v l' → B' ≤ w'.heap.size → Calls Try.prog 12 #[v, callV (rx x)] w' fun e w'' => e = .returned (.tuple #[.int .i64 (ranV l' (rx x)).1, .int .i64 (ranV l' (rx x)).2, .int .i64 (ranE l' (rx x))]) ∧ Below w'.heap.size w' w'') := fun B' v l' w' h hB' => run_any B' v l' (rx x) w' h hB'
  have HL : Hid (∀ w', Below w.heap.size w w' → InssAt B w' cv l) := fun w' h => hc.later h hB
  have hx : Hid (chkx (rx x) = 0) := right_ok x
  obtain ⟨a, cap, rfl, hlc, hcm⟩ := hc.shape
  clear hc
  unfold callV at HR HU ⊢
  generalize rx x = y at *
  generalize hn : l.length = n at *
  have hnH : Hid (l.length = n) := hn
  clear hn
  have hml := maxLen_eq
  have hb1A : ∀ X, Below w.heap.size w (w.alloc X) := fun X => (Below.refl _ _).alloc (Nat.le_refl _) _
  go_enter Try.func6, Try.ntmps6
  go_wp2_with fail
  go_at_call 17
  refine Calls.mono (HR.out _) ?_
  rintro e w1 ⟨rfl, hb1⟩
  have hs1 : w.heap.size + 1 ≤ w1.heap.size := by have := hb1.size; simp at this; omega
  have hw1 : Below w.heap.size w w1 := Below.thenOf (hb1A _) hb1 (by simp)
  have X1 : w1.heap[w.heap.size]? = some (.cells (cellsX x) 28 (0, 0)) := by
    rw [hb1.block w.heap.size (by simp)]
    exact (MapKept.heap_alloc w (.cells (cellsX x) 28)).1
  clear hb1 hb1A
  have Z := (cellsX_at X1).1
  have Zf := (cellsX_at X1).2
  have z0 := Z 0 (by omega)
  have z1 := Z 1 (by omega)
  have z2 := Z 2 (by omega)
  have z3 := Z 3 (by omega)
  have z4 := Z 4 (by omega)
  have f0 := Zf 0
  have f1 := Zf 1
  have f2 := Zf 2
  have f3 := Zf 3
  have f4 := Zf 4
  have X1' : Hid _ := X1
  clear Z Zf X1
  go_wp2_with fail
  obtain ⟨W, hW⟩ : ∃ W, W = ((((w1.setCell ⟨w.heap.size, 0, none⟩ (.int .i64 (y 0))).setCell ⟨w.heap.size, 1, none⟩ (.int .i64 (y 1))).setCell ⟨w.heap.size, 2, none⟩ (.int .i64 (y 2))).setCell ⟨w.heap.size, 3, none⟩ (.int .i64 (y 3))).setCell ⟨w.heap.size, 4, none⟩ (.int .i64 (y 4)) := ⟨_, rfl⟩
  have HXr : W.heap[w.heap.size]? = some (.cells (cellsX y) 28 (0, 0)) := by
    rw [hW]
    exact row_setCell (o := 4) (u := .int .i64 (y 4)) (row_setCell (o := 3) (u := .int .i64 (y 3)) (row_setCell (o := 2) (u := .int .i64 (y 2)) (row_setCell (o := 1) (u := .int .i64 (y 1)) (row_setCell (o := 0) (u := .int .i64 (y 0)) X1'.out))))
  have hwW : Below w.heap.size w W := by
    rw [hW]
    exact ((((hw1.setCell (p := ⟨w.heap.size, 0, none⟩) (Nat.le_refl _) _).setCell (p := ⟨w.heap.size, 1, none⟩) (Nat.le_refl _) _).setCell (p := ⟨w.heap.size, 2, none⟩) (Nat.le_refl _) _).setCell (p := ⟨w.heap.size, 3, none⟩) (Nat.le_refl _) _).setCell (p := ⟨w.heap.size, 4, none⟩) (Nat.le_refl _) _
  have hsW : w.heap.size + 1 ≤ W.heap.size := by rw [hW]; simpa using hs1
  have C0 : Hid (∀ w', Below (w.heap.size + 1) W w' → XAt w' w.heap.size y ∧ Below w.heap.size w w') := fun w' h =>
    ⟨(cellsX_at ((h.block w.heap.size (by omega)).trans HXr)).1, hwW.trans (h.mono (by omega))⟩
  clear z0 z1 z2 z3 z4 f0 f1 f2 f3 f4 X1' hs1 hw1 HXr
  rw [← hW]
  clear hW w1
  go_at_call 12
  refine Calls.mono (HU.out B _ l W (HL.out _ hwW) (Nat.le_trans hB hwW.size)) ?_
  rintro e w2 ⟨rfl, hb2⟩
  have hW2 := hb2.mono hsW
  have hs2 := Nat.le_trans hsW hb2.size
  clear hb2
  by_cases h0 : codeErr l = 0
  · have hE : ranE l y = 0 := by rw [ranE, if_pos h0, hx.out]
    have hV : ranV l y = runs y 0 0 l := by rw [ranV, if_pos hE]
    obtain ⟨l1, l2, l3, l4⟩ := codeErr_ok h0
    obtain ⟨⟨d1, d2⟩, d3, d4⟩ := runs_ends y l 0 0 l3 l4 (by omega)
    rw [hnH.out] at l1 l2 d2
    rw [hE, hV]
    have HP : Hid (n + 2 ≤ 1500 → codeErr (pastH ++ l) = 0 ∧ runs y 0 0 (pastH ++ l) = inc (runs y 0 0 l)) := fun h => past_ok h0 (by rw [hnH.out]; exact h) y
    clear hE hV h0 l3 l4
    have HRu : Hid (∃ r, r = runs y 0 0 l) := ⟨_, rfl⟩
    generalize runs y 0 0 l = r at *
    obtain ⟨rv, rn⟩ := r
    simp only [] at d1 d2 d3 d4
    go_wp2_with fail
    go_at_call 14
    refine Calls.mono (ran_true _) ?_
    rintro e w3 ⟨rfl, hb3⟩
    have hW3 := Below.thenOf hW2 hb3 hs2
    have hs3 := Nat.le_trans hs2 hb3.size
    clear hb3
    have q1 : ¬ (rn < 1) := by omega
    have q2 : ¬ ((n : Int) < rn) := by omega
    have q3 : ¬ (rv < 0) := by omega
    have q4 : ¬ (4 < rv) := by omega
    have q5 : IntKind.i64.wrap ((n : Int) + 2) = (n : Int) + 2 := IntWalk.i64_in _ (by omega)
    by_cases h1500 : n + 2 ≤ 1500
    · have q6 : ¬ ((1500 : Int) < (n : Int) + 2) := by omega
      obtain ⟨P1, P2⟩ := HP.out h1500
      have hwr : IntKind.i64.wrap (rn + 1) = rn + 1 := IntWalk.i64_in _ (by omega)
      have P1' : Hid _ := P1
      have P2' : Hid _ := P2
      clear P1 P2 HP
      go_wp2_with fail
      go_at_call 18
      have hw3 := (C0.out _ hW3).2
      have hbA : Below (w3.heap.size + 1) (w3.alloc (.cells pastC 42)) ((w3.alloc (.cells pastC 42)).alloc (.cells #[.slice (some ⟨w3.heap.size, 0, none⟩) 2 2, .slice a n cap] 32)) := (Below.refl _ _).alloc (by simp) _
      have hbB : Below w3.heap.size w3 ((w3.alloc (.cells pastC 42)).alloc (.cells #[.slice (some ⟨w3.heap.size, 0, none⟩) 2 2, .slice a n cap] 32)) := ((Below.refl _ _).alloc (Nat.le_refl _) _).alloc (by simp) _
      have hI0 := pastC_at w3 _ 42 hbA
      have hI1 : InssAt (w3.heap.size + 1) ((w3.alloc (.cells pastC 42)).alloc (.cells #[.slice (some ⟨w3.heap.size, 0, none⟩) 2 2, .slice a n cap] 32)) (.slice a n cap) l := (HL.out _ (Below.thenOf hw3 hbB hw3.size)).mono (by have := hw3.size; omega)
      have hwfL : Hid (∀ c ∈ pastH ++ l, insWf c) := by
        intro c hc
        rcases List.mem_append.1 hc with h | h
        · exact hI0.wf c h
        · exact hI1.wf c h
      refine Calls.mono (concatI_any (w3.heap.size + 1) _ _ pastH l (w3.heap.size + 1) _ hI0 hI1 (by simp) (by simp) (by simp [go_sem]) (by simp [go_sem]) (by rw [hnH.out]; show (2 + n) * 32 ≤ _; omega)) ?_
      rintro e w5 ⟨v, rfl, hown, hb5⟩
      have hI5 := inssAt_own hown hwfL.out
      obtain ⟨a5, cap5, e5, _, _⟩ := ownsRow_caps hown
      have hU5 := HU.out _ v (pastH ++ l) w5 hI5 (Nat.le_refl _)
      have hE5 : ranE (pastH ++ l) y = 0 := by rw [ranE, if_pos P1'.out, hx.out]
      have hV5 : ranV (pastH ++ l) y = (rv, rn + 1) := by rw [ranV, if_pos hE5, P2'.out]; rfl
      rw [hE5, hV5] at hU5
      have hU : Hid _ := hU5
      subst e5
      have hW5 : Below (w.heap.size + 1) W w5 := Below.thenOf (Below.thenOf hW3 hbB hs3) hb5 (by simp; omega)
      obtain ⟨X5, B5⟩ := C0.out _ hW5
      have x0 := X5 0 (by omega)
      have x1 := X5 1 (by omega)
      have x2 := X5 2 (by omega)
      have x3 := X5 3 (by omega)
      have x4 := X5 4 (by omega)
      have hs5 : w.heap.size + 1 ≤ w5.heap.size := by have := hb5.size; simp at this; omega
      clear X5 hE5 hV5 hU5 hI5 hown hI0 hI1 hbA hbB hb5
      generalize (pastH ++ l).length = m5 at *
      go_wp2_with fail
      go_at_call 12
      refine Calls.mono hU.out ?_
      rintro e w6 ⟨rfl, hb6⟩
      have hW6 := Below.thenOf hW5 hb6 hs5
      go_wp2_with fail
      go_ret
      exact ⟨rfl, (C0.out _ hW6).2⟩
    · have q6 : ((1500 : Int) < (n : Int) + 2) := by omega
      go_wp2_with fail
      go_ret
      exact ⟨rfl, (C0.out _ hW3).2⟩
  · have hE : ranE l y = codeErr l := by rw [ranE, if_neg h0]
    have hq : (codeErr l != 0) = true := by simpa using h0
    rw [hE]
    clear hE h0
    generalize codeErr l = r at *
    go_wp2_with fail
    go_at_call 14
    refine Calls.mono (ran_true _) ?_
    rintro e w3 ⟨rfl, hb3⟩
    have hW3 := Below.thenOf hW2 hb3 hs2
    have hs3 := Nat.le_trans hs2 hb3.size
    clear hb3
    go_wp2_with fail
    go_at_call 14
    refine Calls.mono (ran_true _) ?_
    rintro e w4 ⟨rfl, hb4⟩
    have hW4 := Below.thenOf hW3 hb4 hs3
    go_wp2_with fail
    go_ret
    exact ⟨rfl, (C0.out _ hW4).2⟩

end Go.Proofs.Ytkgecncalndigaa
