/- PolicySays returns true for every policy, every call and every other policy, in whatever memory. -/
import Derived.Test.YtjahndngkohbbaaDoorJudd
import Derived.Test.YtjahndngkohbbaaDoorSame3
set_option linter.all false
namespace Go.Proofs.YtjahndngkohbbaaDoor
open Go.RowKit Go.Maps

theorem PolAt.shape {B : Nat} {w : World} {v : Value} {p : PolT} (h : PolAt B w v p) : ∃ a n cap, v = .agg #[.slice a n cap, .int .i64 p.2] := by
  obtain ⟨rv, rfl, _, a, cap, rfl, _⟩ := h
  exact ⟨a, _, cap, rfl⟩

set_option maxRecDepth 20000 in
set_option maxHeartbeats 4000000 in
theorem policySays_any (B : Nat) (pv qv : Value) (p q : PolT) (x : Nat → Int) (w : World) (he : EnvAt w) (hp : PolAt B w pv p) (hq : PolAt B w qv q) (hB : B ≤ w.heap.size) :
    Calls Tryd.prog 3 #[pv, callV x, qv] w fun e w' => e = .returned (.bool true) ∧ Below w.heap.size w w' := by
  have hb3 : ∀ X Y Z, Below w.heap.size w (((w.alloc X).alloc Y).alloc Z) := fun X Y Z => (((Below.refl _ _).alloc (Nat.le_refl _) _).alloc (by simp) _).alloc (by simp; omega) _
  have HJ : Hid (∀ w', Below w.heap.size w w' → Calls Tryd.prog 5 #[pv, callV x] w' fun e w'' => e = .returned (.tuple #[.int .i64 (judgeP p x).1, .int .i64 (judgeP p x).2.1, .int .i64 (judgeP p x).2.2]) ∧ Below w'.heap.size w' w'') := fun w' h => judge_any B pv p x w' (hp.later h hB) (Nat.le_trans hB h.size)
  have HC : Hid (∀ w', Below w.heap.size w w' → Calls Tryd.prog 6 #[pv] w' fun e w'' => e = .returned (.int .i64 (polErr p)) ∧ Below w'.heap.size w' w'') := fun w' h => checkPolicy_any B pv p w' (hp.later h hB) (Nat.le_trans hB h.size)
  have HK : Hid (∀ w', Below w.heap.size w w' → Calls Tryd.prog 8 #[pv] w' fun e w'' => e = .returned (.int .i64 (polErr p)) ∧ Below w'.heap.size w' w'') := fun w' h => check_pol B pv p w' (hp.later h hB) (Nat.le_trans hB h.size)
  have HS : Hid (∀ w', Below w.heap.size w w' → Calls Tryd.prog 9 #[pv, qv] w' fun e w'' => e = .returned (.bool (decide (p = q))) ∧ Below w'.heap.size w' w'') := fun w' h => same_any B pv qv p q w' (hp.later h hB) (hq.later h hB) (Nat.le_trans hB h.size)
  have HT : Hid (∀ w', Below w.heap.size w w' → Calls Tryd.prog 10 #[pv, qv] w' fun e w'' => e = .returned (.bool (decide (p = q))) ∧ Below w'.heap.size w' w'') := fun w' h => samePolicy_any B pv qv p q w' (hp.later h hB) (hq.later h hB) (Nat.le_trans hB h.size)
  have HX : Hid (∀ w', Calls Tryd.prog 11 #[callV x] w' fun e w'' => e = .returned (.int .i64 (chkx x)) ∧ Below w'.heap.size w' w'') := fun w' => checkCall_any (x 0) (x 1) (x 2) (x 3) (x 4) w'
  have HE : Hid (∀ w', Below w.heap.size w w' → Calls Tryd.prog 7 #[] w' fun e w'' => e = .returned (.bool true) ∧ Below w'.heap.size w' w'') := fun w' h => judged_true w' (he.later h)
  have HD : Hid (polErr p = 0 → ∀ w', Below w.heap.size w w' → Calls Tryd.prog 12 #[pv, callV x] w' fun e w'' => e = .returned (.tuple #[.int .i64 (verdictAt p (firstAt (ruleOk x) 0 p.1)).1, .int .i64 (verdictAt p (firstAt (ruleOk x) 0 p.1)).2]) ∧ Below w'.heap.size w' w'') := fun ho w' h => judged_any B pv p x w' (hp.later h hB) (Nat.le_trans hB h.size) ho
  have J0 : Hid (polErr p ≠ 0 → judgeP p x = (0, 0, polErr p)) := fun h => by rw [judgeP, if_neg h]
  have J1 : Hid (polErr p = 0 → chkx x ≠ 0 → judgeP p x = (0, 0, chkx x)) := fun h h' => by rw [judgeP, if_pos h, if_neg h']
  have J2 : Hid (polErr p = 0 → chkx x = 0 → judgeP p x = ((verdictAt p (firstAt (ruleOk x) 0 p.1)).1, (verdictAt p (firstAt (ruleOk x) 0 p.1)).2, 0)) := fun h h' => by rw [judgeP, if_pos h, if_pos h']
  obtain ⟨a, n, cap, rfl⟩ := hp.shape
  obtain ⟨a2, n2, cap2, rfl⟩ := hq.shape
  clear hp hq he
  unfold callV at HJ HX HD ⊢
  generalize p.2 = d at *
  generalize q.2 = d2 at *
  generalize hpq : decide (p = q) = eqq at *
  clear hpq
  generalize hJ : judgeP p x = jd at *
  generalize verdictAt p (firstAt (ruleOk x) 0 p.1) = vk at *
  generalize hP : polErr p = pe at *
  generalize hX : chkx x = xe at *
  clear hJ hP hX
  obtain ⟨jv, jk, je⟩ := jd
  obtain ⟨vv, vk⟩ := vk
  -- the three boxes in whatever later world
  have C0 : Hid (∀ w', Below (w.heap.size + 3) (((w.alloc (.cells #[.slice a n cap, .int .i64 d] 24)).alloc (.cells #[.int .i64 (x 0), .int .i64 (x 1), .int .i64 (x 2), .int .i64 (x 3), .int .i64 (x 4)] 26)).alloc (.cells #[.slice a2 n2 cap2, .int .i64 d2] 24)) w' → (w'.cell? ⟨w.heap.size, 0, none⟩ = some (.slice a n cap) ∧ w'.cell? ⟨w.heap.size, 1, none⟩ = some (.int .i64 d)) ∧ XAt w' (w.heap.size + 1) x ∧ (w'.cell? ⟨w.heap.size + 1 + 1, 0, none⟩ = some (.slice a2 n2 cap2) ∧ w'.cell? ⟨w.heap.size + 1 + 1, 1, none⟩ = some (.int .i64 d2)) ∧ Below w.heap.size w w') := by
    intro w' h
    refine ⟨⟨(h.cell (p := ⟨w.heap.size, 0, none⟩) (by simp)).trans (by simp [go_sem]), (h.cell (p := ⟨w.heap.size, 1, none⟩) (by simp)).trans (by simp [go_sem])⟩, ?_, ⟨(h.cell (p := ⟨w.heap.size + 1 + 1, 0, none⟩) (by simp)).trans (by simp [go_sem]), (h.cell (p := ⟨w.heap.size + 1 + 1, 1, none⟩) (by simp)).trans (by simp [go_sem])⟩, (hb3 _ _ _).trans (h.mono (by omega))⟩
    have h0 := XAt.made x (w.alloc (.cells #[.slice a n cap, .int .i64 d] 24)) 26
    have h1 := h0.later ((Below.refl (w.heap.size + 2) _).alloc (by simp) (.cells #[.slice a2 n2 cap2, .int .i64 d2] 24)) (by simp)
    rw [World.size_alloc] at h1
    exact h1.later h (by omega)
  go_enter Tryd.func3, Tryd.ntmps3
  go_wp2_with fail
  have hW0 := Below.refl (w.heap.size + 3) (((w.alloc (.cells #[.slice a n cap, .int .i64 d] 24)).alloc (.cells #[.int .i64 (x 0), .int .i64 (x 1), .int .i64 (x 2), .int .i64 (x 3), .int .i64 (x 4)] 26)).alloc (.cells #[.slice a2 n2 cap2, .int .i64 d2] 24))
  have hWs : w.heap.size + 3 ≤ (((w.alloc (.cells #[.slice a n cap, .int .i64 d] 24)).alloc (.cells #[.int .i64 (x 0), .int .i64 (x 1), .int .i64 (x 2), .int .i64 (x 3), .int .i64 (x 4)] 26)).alloc (.cells #[.slice a2 n2 cap2, .int .i64 d2] 24)).heap.size := by simp
  generalize ((w.alloc (.cells #[.slice a n cap, .int .i64 d] 24)).alloc (.cells #[.int .i64 (x 0), .int .i64 (x 1), .int .i64 (x 2), .int .i64 (x 3), .int .i64 (x 4)] 26)).alloc (.cells #[.slice a2 n2 cap2, .int .i64 d2] 24) = W at *
  go_at_call 5
  refine Calls.mono (HJ.out _ (C0.out _ hW0).2.2.2) ?_
  rintro e w1 ⟨rfl, hb1⟩
  have hW1 := Below.thenOf hW0 hb1 hWs
  have hs1 := Nat.le_trans hWs hb1.size
  obtain ⟨⟨c0, c1⟩, _, _, hw1⟩ := C0.out _ hW1
  go_wp2_with fail
  go_at_call 6
  refine Calls.mono (HC.out _ hw1) ?_
  rintro e w2 ⟨rfl, hb2⟩
  have hW2 := Below.thenOf hW1 hb2 hs1
  have hs2 := Nat.le_trans hs1 hb2.size
  clear c0 c1 hw1 hb1 hb2 hW1 hs1
  go_wp2_with fail
  have hne := Later.ne w2
  have HL : Hid (∀ y : Later w2, Below (w.heap.size + 3) W y.1) := fun y => Below.thenOf hW2 y.2 hs2
  have q0 : ∀ y : Later w2, y.1.cell? ⟨w.heap.size, 0, none⟩ = some (.slice a n cap) := fun y => (C0.out _ (HL.out y)).1.1
  have q1 : ∀ y : Later w2, y.1.cell? ⟨w.heap.size, 1, none⟩ = some (.int .i64 d) := fun y => (C0.out _ (HL.out y)).1.2
  have q2 : ∀ y : Later w2, y.1.cell? ⟨w.heap.size + 1 + 1, 0, none⟩ = some (.slice a2 n2 cap2) := fun y => (C0.out _ (HL.out y)).2.2.1.1
  have q3 : ∀ y : Later w2, y.1.cell? ⟨w.heap.size + 1 + 1, 1, none⟩ = some (.int .i64 d2) := fun y => (C0.out _ (HL.out y)).2.2.1.2
  refine wp_region_later (by kernel_rfl) (by kernel_rfl) ?_
  repeat (go_big_quiet_step (first
    | (go_at_call 7; exact Calls.later (HE.out _ (C0.out _ (HL.out _)).2.2.2))
    | (go_at_call 8; exact Calls.later (HK.out _ (C0.out _ (HL.out _)).2.2.2))
    | (go_at_call 9; exact Calls.later (HS.out _ (C0.out _ (HL.out _)).2.2.2))
    | (go_at_call 10; exact Calls.later (HT.out _ (C0.out _ (HL.out _)).2.2.2))))
  refine wpQuiet_nil ?_
  rintro w3 ⟨⟨_, hx⟩, rfl⟩
  have hW3 := Below.thenOf hW2 hx hs2
  have hs3 := Nat.le_trans hs2 hx.size
  clear q0 q1 q2 q3 hne HL hx hW2 hs2
  obtain ⟨⟨c0, c1⟩, hX3, _, hw3⟩ := C0.out _ hW3
  have x0 := hX3 0 (by omega)
  have x1 := hX3 1 (by omega)
  have x2 := hX3 2 (by omega)
  have x3 := hX3 3 (by omega)
  have x4 := hX3 4 (by omega)
  clear hX3
  by_cases hpe : pe = 0
  · subst hpe
    by_cases hxe : xe = 0
    · subst hxe
      obtain ⟨rfl, rfl, rfl⟩ : jv = vv ∧ jk = vk ∧ je = 0 := by have := J2.out rfl rfl; simpa using this
      have HD' := HD.out rfl
      have HD2 : Hid _ := HD'
      clear HD HD' J0 J1 J2
      go_wp2_with fail
      go_at_call 11
      refine Calls.mono (HX.out _) ?_
      rintro e w4 ⟨rfl, hb4⟩
      have hW4 := Below.thenOf hW3 hb4 hs3
      have hs4 := Nat.le_trans hs3 hb4.size
      obtain ⟨⟨d0, d1⟩, hX4, _, hw4⟩ := C0.out _ hW4
      have y0 := hX4 0 (by omega)
      have y1 := hX4 1 (by omega)
      have y2 := hX4 2 (by omega)
      have y3 := hX4 3 (by omega)
      have y4 := hX4 4 (by omega)
      clear hX4
      go_wp2_with fail
      go_at_call 12
      refine Calls.mono (HD2.out _ hw4) ?_
      rintro e w5 ⟨rfl, hb5⟩
      have hw5 := Below.thenOf hw4 hb5 hw4.size
      go_wp2
      go_ret
      exact ⟨rfl, hw5⟩
    · have hxe' : (xe != 0) = true := by simpa using hxe
      obtain ⟨rfl, rfl, rfl⟩ : jv = 0 ∧ jk = 0 ∧ je = xe := by have := J1.out rfl hxe; simpa using this
      clear HD J0 J1 J2
      go_wp2_with fail
      go_at_call 11
      refine Calls.mono (HX.out _) ?_
      rintro e w4 ⟨rfl, hb4⟩
      have hw4 := Below.thenOf hw3 hb4 hw3.size
      go_wp2
      go_ret
      exact ⟨rfl, hw4⟩
  · have hpe' : (pe != 0) = true := by simpa using hpe
    have hpe2 : (pe == 0) = false := by simpa using hpe
    obtain ⟨rfl, rfl, rfl⟩ : jv = 0 ∧ jk = 0 ∧ je = pe := by have := J0.out hpe; simpa using this
    clear HD J0 J1 J2
    go_wp2
    go_ret
    exact ⟨rfl, hw3⟩

end Go.Proofs.YtjahndngkohbbaaDoor
