/- CompileMeans returns true, whatever the policy and the call, in whatever memory. -/
import Derived.Test.YtaggjjfandaknaaDoorCmp5
import Derived.Test.YtaggjjfandaknaaDoorCod2
import Derived.Test.YtaggjjfandaknaaDoorRight
set_option linter.all false
set_option maxRecDepth 100000
namespace Go.Proofs.YtaggjjfandaknaaDoor
open Go.RowKit Go.Maps

/-- What a filter that was made says. -/
theorem comp_facts {p : PolT} {x : Nat → Int} (hc : compE p = 0) (hx : chkx x = 0) : ∃ v k n, judgeP p x = (v, k, 0) ∧ ranE (compL p) x = 0 ∧ ranV (compL p) x = (v, n) ∧ codeErr (compL p) = 0 := by
  have hp : polErr p = 0 := by
    unfold compE at hc
    by_cases h : polErr p = 0
    · exact h
    · rw [if_neg h] at hc; exact absurd hc h
  have hl : compL p = polI p := by rw [compL, if_pos hc]
  have hk : codeErr (polI p) = 0 := by
    rw [codeErr_pol hp]
    rw [compE, if_pos hp] at hc
    exact hc
  have hE : ranE (polI p) x = 0 := by rw [ranE, if_pos hk, hx]
  refine ⟨(judgeP p x).1, (judgeP p x).2.1, (runs x 0 0 (polI p)).2, ?_, by rw [hl, hE], ?_, by rw [hl, hk]⟩
  · rw [judgeP_ok hp hx]
  · rw [hl, ranV, if_pos hE, ← runs_pol hp hx]

set_option maxHeartbeats 4000000 in
theorem compileMeans_any (B : Nat) (pv : Value) (p : PolT) (x : Nat → Int) (w : World) (he : EnvAt w) (hp : PolAt B w pv p) (hB : B ≤ w.heap.size) :
    Calls Tryd.prog 8 #[pv, callV x] w fun e w' => e = .returned (.bool true) ∧ Below w.heap.size w w' := by
  have HE : Hid (∀ w', Below w.heap.size w w' → Calls Tryd.prog 28 #[] w' fun e w'' => e = .returned (.bool true) ∧ Below w'.heap.size w' w'') := fun w' h => compiled_true w' (he.later h)
  have HR : Hid (∀ w', Calls Tryd.prog 17 #[callV x] w' fun e w'' => e = .returned (callV (rx x)) ∧ Below w'.heap.size w' w'') := fun w' => right_any x w'
  have HJ : Hid (∀ w', Below w.heap.size w w' → Calls Tryd.prog 9 #[pv, callV (rx x)] w' fun e w'' => e = .returned (.tuple #[.int .i64 (judgeP p (rx x)).1, .int .i64 (judgeP p (rx x)).2.1, .int .i64 (judgeP p (rx x)).2.2]) ∧ Below w'.heap.size w' w'') := fun w' h => judge_any B pv p (rx x) w' (hp.later h hB) (Nat.le_trans hB h.size)
  have HCo : Hid (∀ w', Below w.heap.size w w' → Calls Tryd.prog 26 #[pv] w' fun e w'' => ∃ lv, e = .returned (.tuple #[lv, .int .i64 (compE p)]) ∧ w''.ownsRow w'.heap.size 57 4 lv (compL p).length (insCells (compL p)) ∧ (∀ i ∈ compL p, insWf i) ∧ Below w'.heap.size w' w'') := fun w' h => compile_any B pv p w' (hp.later h hB) (Nat.le_trans hB h.size)
  have HRu : Hid (∀ lv w', InssAt w'.heap.size w' lv (compL p) → Calls Tryd.prog 30 #[lv, callV (rx x)] w' fun e w'' => e = .returned (.tuple #[.int .i64 (ranV (compL p) (rx x)).1, .int .i64 (ranV (compL p) (rx x)).2, .int .i64 (ranE (compL p) (rx x))]) ∧ Below w'.heap.size w' w'') := fun lv w' h => run_any w'.heap.size lv _ _ w' h (Nat.le_refl _)
  have HCC : Hid (∀ lv w', InssAt w'.heap.size w' lv (compL p) → Calls Tryd.prog 31 #[lv] w' fun e w'' => e = .returned (.int .i64 (codeErr (compL p))) ∧ Below w'.heap.size w' w'') := fun lv w' h => check_code w'.heap.size lv _ w' h (Nat.le_refl _)
  obtain ⟨rs, d⟩ := p
  obtain ⟨rv, epv, hd, a, cap, erv, hlc, hcm, hrest⟩ := hp
  clear hrest
  simp only at epv erv hlc hd
  subst erv
  subst epv
  have hx0 := right_ok x
  have hx : Hid (chkx (rx x) = 0) := hx0
  clear hx0 hd he
  unfold callV at HR HJ HRu ⊢
  generalize rx x = y at *
  generalize hn : rs.length = n at *
  clear hn
  have hb2 : ∀ X Y, Below w.heap.size w ((w.alloc X).alloc Y) := fun X Y => ((Below.refl _ _).alloc (Nat.le_refl _) _).alloc (by simp) _
  go_enter Tryd.func8, Tryd.ntmps8
  go_wp2_with fail
  go_at_call 17
  refine Calls.mono (HR.out _) ?_
  rintro e w1 ⟨rfl, hb1⟩
  have hs1 : w.heap.size + 2 ≤ w1.heap.size := by have := hb1.size; simp at this; omega
  have hw1 : Below w.heap.size w w1 := Below.thenOf (hb2 _ _) hb1 (by simp; omega)
  have X1 : w1.heap[w.heap.size + 1]? = some (.cells (cellsX x) 26 (0, 0)) := by
    rw [hb1.block (w.heap.size + 1) (by simp)]
    have := (MapKept.heap_alloc (w.alloc (.cells #[.slice a n cap, .int .i64 d] 24)) (.cells (cellsX x) 26)).1
    rw [World.size_alloc] at this
    exact this
  have P0 : w1.cell? ⟨w.heap.size, 0, none⟩ = some (.slice a n cap) := (hb1.cell (p := ⟨w.heap.size, 0, none⟩) (by simp; omega)).trans (by simp [go_sem])
  have P1 : w1.cell? ⟨w.heap.size, 1, none⟩ = some (.int .i64 d) := (hb1.cell (p := ⟨w.heap.size, 1, none⟩) (by simp; omega)).trans (by simp [go_sem])
  clear hb1 hb2
  have Z := (cellsX_at X1).1
  have Zf := (cellsX_at X1).2
  have z0 := Z 0 (by omega)
  have z1 := Z 1 (by omega)
  have z2 := Z 2 (by omega)
  have z3 := Z 3 (by omega)
  have z4 := Z 4 (by omega)
  have f0 := Zf 0
  have f1 := Zf 1
  have f2 := Zf 2
  have f3 := Zf 3
  have f4 := Zf 4
  have X1' : Hid _ := X1
  clear Z Zf X1
  go_wp2_with fail
  obtain ⟨W, hW⟩ : ∃ W, W = ((((w1.setCell ⟨w.heap.size + 1, 0, none⟩ (.int .i64 (y 0))).setCell ⟨w.heap.size + 1, 1, none⟩ (.int .i64 (y 1))).setCell ⟨w.heap.size + 1, 2, none⟩ (.int .i64 (y 2))).setCell ⟨w.heap.size + 1, 3, none⟩ (.int .i64 (y 3))).setCell ⟨w.heap.size + 1, 4, none⟩ (.int .i64 (y 4)) := ⟨_, rfl⟩
  have HXr : W.heap[w.heap.size + 1]? = some (.cells (cellsX y) 26 (0, 0)) := by
    rw [hW]
    exact row_setCell (o := 4) (u := .int .i64 (y 4)) (row_setCell (o := 3) (u := .int .i64 (y 3)) (row_setCell (o := 2) (u := .int .i64 (y 2)) (row_setCell (o := 1) (u := .int .i64 (y 1)) (row_setCell (o := 0) (u := .int .i64 (y 0)) X1'.out))))
  have hwW : Below w.heap.size w W := by
    rw [hW]
    exact ((((hw1.setCell (p := ⟨w.heap.size + 1, 0, none⟩) (Nat.le_succ _) _).setCell (p := ⟨w.heap.size + 1, 1, none⟩) (Nat.le_succ _) _).setCell (p := ⟨w.heap.size + 1, 2, none⟩) (Nat.le_succ _) _).setCell (p := ⟨w.heap.size + 1, 3, none⟩) (Nat.le_succ _) _).setCell (p := ⟨w.heap.size + 1, 4, none⟩) (Nat.le_succ _) _
  have hsW : w.heap.size + 2 ≤ W.heap.size := by rw [hW]; simpa using hs1
  have Q0 : W.cell? ⟨w.heap.size, 0, none⟩ = some (.slice a n cap) := by rw [hW]; simp [go_sem, P0]
  have Q1 : W.cell? ⟨w.heap.size, 1, none⟩ = some (.int .i64 d) := by rw [hW]; simp [go_sem, P1]
  have C0 : Hid (∀ w', Below (w.heap.size + 2) W w' → (w'.cell? ⟨w.heap.size, 0, none⟩ = some (.slice a n cap) ∧ w'.cell? ⟨w.heap.size, 1, none⟩ = some (.int .i64 d)) ∧ XAt w' (w.heap.size + 1) y ∧ Below w.heap.size w w') := fun w' h =>
    ⟨⟨(h.cell (p := ⟨w.heap.size, 0, none⟩) (by show w.heap.size < w.heap.size + 2; omega)).trans Q0, (h.cell (p := ⟨w.heap.size, 1, none⟩) (by show w.heap.size < w.heap.size + 2; omega)).trans Q1⟩, (cellsX_at ((h.block (w.heap.size + 1) (by omega)).trans HXr)).1, hwW.trans (h.mono (by omega))⟩
  clear P0 P1 z0 z1 z2 z3 z4 f0 f1 f2 f3 f4 X1' hs1 hw1 HXr Q0 Q1
  rw [← hW]
  clear hW w1
  go_at_call 26
  refine Calls.mono (HCo.out W hwW) ?_
  rintro e w2 ⟨lv, rfl, ho2, hwf, hb2⟩
  have HO2 : Hid (w2.ownsRow W.heap.size 57 4 lv (compL (rs, d)).length (insCells (compL (rs, d)))) := ho2
  have HWf : Hid (∀ i ∈ compL (rs, d), insWf i) := hwf
  have hW2 := hb2.mono hsW
  have hs2 := Nat.le_trans hsW hb2.size
  obtain ⟨_, _, hw2⟩ := C0.out _ hW2
  clear ho2 hwf hb2
  have HI : Hid (∀ w', Below w2.heap.size w2 w' → InssAt w'.heap.size w' lv (compL (rs, d))) := fun w' h => inssAt_own (ownsRow_below HO2.out h) HWf.out
  go_wp2_with fail
  go_at_call 28
  refine Calls.mono (HE.out w2 hw2) ?_
  rintro e w3 ⟨rfl, hb3⟩
  have hW3 := Below.thenOf hW2 hb3 hs2
  have hs3 := Nat.le_trans hs2 hb3.size
  obtain ⟨⟨c0, c1⟩, hX3, hw3⟩ := C0.out _ hW3
  by_cases hc : compE (rs, d) = 0
  · obtain ⟨v, kk, m, hj, hrE, hrV, hcE⟩ := comp_facts hc hx.out
    rw [hj] at HJ
    rw [hrE, hrV] at HRu
    rw [hcE] at HCC
    rw [hc]
    clear hj hrE hrV hcE hc
    have x0 := hX3 0 (by omega)
    have x1 := hX3 1 (by omega)
    have x2 := hX3 2 (by omega)
    have x3 := hX3 3 (by omega)
    have x4 := hX3 4 (by omega)
    clear hX3
    go_wp2_with fail
    go_at_call 9
    refine Calls.mono (HJ.out w3 hw3) ?_
    rintro e w4 ⟨rfl, hb4⟩
    have hW4 := Below.thenOf hW3 hb4 hs3
    have hs4 := Nat.le_trans hs3 hb4.size
    have hb24 := Below.thenOf hb3 hb4 hb3.size
    clear c0 c1 x0 x1 x2 x3 x4
    obtain ⟨⟨c0, c1⟩, hX4, hw4⟩ := C0.out _ hW4
    have x0 := hX4 0 (by omega)
    have x1 := hX4 1 (by omega)
    have x2 := hX4 2 (by omega)
    have x3 := hX4 3 (by omega)
    have x4 := hX4 4 (by omega)
    clear hX4 hb4
    go_wp2_with fail
    go_at_call 30
    refine Calls.mono (HRu.out lv w4 (HI.out w4 hb24)) ?_
    rintro e w5 ⟨rfl, hb5⟩
    have hw5 := Below.thenOf hw4 hb5 hw4.size
    have hb25 := Below.thenOf hb24 hb5 hb24.size
    clear c0 c1 x0 x1 x2 x3 x4 hb5
    go_wp2_with fail
    go_at_call 31
    refine Calls.mono (HCC.out lv w5 (HI.out w5 hb25)) ?_
    rintro e w6 ⟨rfl, hb6⟩
    have hw6 := Below.thenOf hw5 hb6 hw5.size
    go_wp2_with fail
    go_ret
    exact ⟨rfl, hw6⟩
  · have hq : (compE (rs, d) != 0) = true := by simpa using hc
    clear hc hX3 c0 c1
    generalize compE (rs, d) = ce at *
    go_wp2_with fail
    go_at_call 28
    refine Calls.mono (HE.out w3 hw3) ?_
    rintro e w4 ⟨rfl, hb4⟩
    have hw4 := Below.thenOf hw3 hb4 hw3.size
    go_wp2_with fail
    go_ret
    exact ⟨rfl, hw4⟩
end Go.Proofs.YtaggjjfandaknaaDoor
