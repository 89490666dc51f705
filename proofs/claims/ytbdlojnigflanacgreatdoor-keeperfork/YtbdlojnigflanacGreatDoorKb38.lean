/- Package keeper: Next. -/
import Derived.Test.YtbdlojnigflanacGreatDoorKb37
set_option linter.all false
set_option maxRecDepth 100000
namespace Go.Proofs.YtbdlojnigflanacGreatDoor
open Go.RowKit Go.Maps

theorem begins_any {k : Int} (hk : k = 1 ∨ k = 2 ∨ k = 3 ∨ k = 4) (w : World) : Calls Tryz.prog 97 #[.int .i64 k] w fun e w' => e = .returned (.bool (decide (k = 1 ∨ k = 3))) ∧ w' = w := by
  rcases hk with rfl | rfl | rfl | rfl
  all_goals
    go_enter Tryz.func97, Tryz.ntmps97
    go_wp2
    go_ret
    exact ⟨by simp, rfl⟩
set_option maxHeartbeats 1000000 in
theorem isOpenK_any (B bx : Nat) (a : Option Addr) (cap : Nat) (l : List CellT) (ci : Nat) (c : CellT) (w : World) (hl : CellsAt B w (.slice a 4 cap) l) (hlen : l.length = 4) (hc : l[ci]? = some c) (hx : w.cell? ⟨bx, 0, none⟩ = some (.slice a 4 cap)) :
    Calls Tryz.prog 96 #[.int .i64 ci, .pointer (some ⟨bx, 0, none⟩)] w fun e w' => e = .returned (.bool c.1) ∧ w' = w := by
  have hci : ci < 4 := by
    have := (List.getElem?_eq_some_iff.1 hc).1
    omega
  have hci' : (ci : Int) < 4 := by omega
  have hci0 : (0 : Int) ≤ (ci : Int) := by omega
  obtain ⟨_, _, e1, h4c, -, hat⟩ := hl
  obtain ⟨b, o, e, hbB, hin⟩ := hat ci _ hc
  simp at e1
  obtain ⟨rfl, -, rfl⟩ := e1
  subst e
  obtain ⟨la, lc, pa, pc, c0, -⟩ := hin.vals
  rw [hlen] at h4c
  clear hat hin hc hlen
  generalize c.1 = cb at *
  go_enter Tryz.func96, Tryz.ntmps96
  go_wp2_with fail
  go_ret
  exact ⟨rfl, rfl⟩

set_option maxHeartbeats 4000000 in
theorem nextK_bad (B : Nat) (lv rv : Value) (l : List CellT) (r : RecT) (w : World) (hl : CellsAt B w lv l) (hr : RecAt B w rv r) (hB : B ≤ w.heap.size) (hbad : cellsErr l ≠ 0 ∨ recErr r ≠ 0) :
    Calls Tryz.prog 42 #[lv, rv] w fun e w' => ∃ v, e = .returned (.tuple #[v, .int .i64 (if cellsErr l = 0 then recErr r else cellsErr l)]) ∧ CellsAt w'.heap.size w' v [] ∧ Below w.heap.size w w' := by
  have HC : Hid (∀ w', Below w.heap.size w w' → Calls Tryz.prog 45 #[lv] w' fun e w'' => e = .returned (.int .i64 (cellsErr l)) ∧ Below w'.heap.size w' w'') := fun w' h => checkKp_any B _ l w' (hl.later h hB) (Nat.le_trans hB h.size)
  have HR : Hid (∀ w', Below w.heap.size w w' → Calls Tryz.prog 22 #[rv] w' fun e w'' => e = .returned (.int .i64 (recErr r)) ∧ Below w'.heap.size w' w'') := fun w' h => checkN_any B _ r w' (hr.later h hB) (Nat.le_trans hB h.size)
  obtain ⟨a, cap, rfl, -, -⟩ := hl.shape
  obtain ⟨ra, rc, rfl, -⟩ := hr.shape
  clear hl hr
  generalize cellsErr l = ce at *
  generalize recErr r = re at *
  generalize l.length = ln at *
  generalize r.2.2.2.1.length = rl at *
  generalize r.2.2.2.2 = d at *
  generalize r.2.2.1 = fi at *
  generalize r.2.1 = ci at *
  generalize r.1 = k at *
  obtain ⟨W2, hW2⟩ : ∃ W2, W2 = (w.alloc (.cells #[.slice a ln cap] 66)).alloc (.cells #[.int .i64 k, .int .i64 ci, .int .i64 fi, .slice ra rl rc, .int .i64 d] 38) := ⟨_, rfl⟩
  have hb2 : Below w.heap.size w W2 := by rw [hW2]; exact ((Below.refl _ _).alloc (Nat.le_refl _) _).alloc (by simp) _
  have g1 : W2.heap[w.heap.size + 1]? = some (.cells #[.int .i64 k, .int .i64 ci, .int .i64 fi, .slice ra rl rc, .int .i64 d] 38 (0, 0)) := by rw [hW2]; exact heap_at _ _ (by simp only [World.size_alloc])
  have HW2 : Hid (W2 = _) := hW2
  have HB2 : Hid (Below w.heap.size w W2) := hb2
  have HG1 : Hid (W2.heap[w.heap.size + 1]? = some (.cells #[.int .i64 k, .int .i64 ci, .int .i64 fi, .slice ra rl rc, .int .i64 d] 38 (0, 0))) := g1
  clear hW2 hb2 g1 hB
  go_enter Tryz.func42, Tryz.ntmps42
  go_wp2_with fail
  rw [← HW2.out]
  go_at_call 45
  refine Calls.mono (HC.out _ HB2.out) ?_
  rintro e w3 ⟨rfl, hb3⟩
  have HB3 : Hid (Below w.heap.size w w3) := Below.thenOf HB2.out hb3 HB2.out.size
  by_cases h : ce = 0
  · subst h
    have hre : re ≠ 0 := by simpa using hbad
    have hq : (re != 0) = true := by simpa using hre
    obtain ⟨y0, y1, y2, y3, y4⟩ := rec_box ((hb3.block _ (lt_of_block HG1.out)).trans HG1.out)
    clear hb3 HC hbad hre
    go_wp2_with fail
    go_at_call 22
    refine Calls.mono (HR.out _ HB3.out) ?_
    rintro e w4 ⟨rfl, hb4⟩
    have HB4 : Hid (Below w.heap.size w w4) := Below.thenOf HB3.out hb4 HB3.out.size
    clear hb4 y0 y1 y2 y3 y4
    go_wp2_with fail
    go_ret2
    exact ⟨_, rfl, cellsAt_nil _ _, HB4.out⟩
  · have hq : (ce != 0) = true := by simpa using h
    have Hne : Hid (¬ ce = 0) := h
    clear hbad h hb3 HR HC
    go_wp2_with fail
    go_ret2
    exact ⟨_, by simp [Hne.out], cellsAt_nil _ _, HB3.out⟩

set_option maxHeartbeats 4000000 in
theorem nextK_late (B : Nat) (a : Option Addr) (cap : Nat) (ra : Option Addr) (rl rc : Nat) (l : List CellT) (k : Int) (ci fi : Nat) (rs : List RuleT) (d : Int) (w : World) (hl : CellsAt B w (.slice a 4 cap) l) (hr : RecAt B w (.agg #[.int .i64 k, .int .i64 ci, .int .i64 fi, .slice ra rl rc, .int .i64 d]) (k, (ci : Int), (fi : Int), rs, d)) (hB : B ≤ w.heap.size) (hce : cellsErr l = 0) (hre : recErr (k, (ci : Int), (fi : Int), rs, d) = 0) (hkk : k = 1 ∨ k = 2 ∨ k = 3 ∨ k = 4) (c : CellT) (hck : l[ci]? = some c) (cf : CellT) (hfk : l[fi]? = some cf) (hlate : decide (k = 1 ∨ k = 3) = c.1) :
    Calls Tryz.prog 42 #[.slice a 4 cap, .agg #[.int .i64 k, .int .i64 ci, .int .i64 fi, .slice ra rl rc, .int .i64 d]] w fun e w' => ∃ v, e = .returned (.tuple #[v, .int .i64 6]) ∧ CellsAt w'.heap.size w' v [] ∧ Below w.heap.size w w' := by
  have HLen : Hid (l.length = 4) := (cellsErr_ok.1 hce).1
  have HC : Hid (∀ w', Below w.heap.size w w' → Calls Tryz.prog 45 #[.slice a 4 cap] w' fun e w'' => e = .returned (.int .i64 0) ∧ Below w'.heap.size w' w'') := fun w' h => by
    have := checkKp_any B _ l w' (hl.later h hB) (Nat.le_trans hB h.size)
    rw [hce] at this
    exact this
  have HR : Hid (∀ w', Below w.heap.size w w' → Calls Tryz.prog 22 #[.agg #[.int .i64 k, .int .i64 ci, .int .i64 fi, .slice ra rl rc, .int .i64 d]] w' fun e w'' => e = .returned (.int .i64 0) ∧ Below w'.heap.size w' w'') := fun w' h => by
    have := checkN_any B _ _ w' (hr.later h hB) (Nat.le_trans hB h.size)
    rw [hre] at this
    exact this
  have HOp : Hid (∀ w' bx, Below w.heap.size w w' → w'.cell? ⟨bx, 0, none⟩ = some (.slice a 4 cap) → Calls Tryz.prog 96 #[.int .i64 ci, .pointer (some ⟨bx, 0, none⟩)] w' fun e w'' => e = .returned (.bool c.1) ∧ w'' = w') := fun w' bx h hx => isOpenK_any B bx a cap l ci c w' (hl.later h hB) HLen.out hck hx
  have HOf : Hid (∀ w' bx, Below w.heap.size w w' → w'.cell? ⟨bx, 0, none⟩ = some (.slice a 4 cap) → Calls Tryz.prog 96 #[.int .i64 fi, .pointer (some ⟨bx, 0, none⟩)] w' fun e w'' => e = .returned (.bool cf.1) ∧ w'' = w') := fun w' bx h hx => isOpenK_any B bx a cap l fi cf w' (hl.later h hB) HLen.out hfk hx
  have HBg : Hid (∀ w', Calls Tryz.prog 97 #[.int .i64 k] w' fun e w'' => e = .returned (.bool (decide (k = 1 ∨ k = 3))) ∧ w'' = w') := fun w' => begins_any hkk w'
  obtain ⟨W2, hW2⟩ : ∃ W2, W2 = (w.alloc (.cells #[.slice a 4 cap] 66)).alloc (.cells #[.int .i64 k, .int .i64 ci, .int .i64 fi, .slice ra rl rc, .int .i64 d] 38) := ⟨_, rfl⟩
  have hb2 : Below w.heap.size w W2 := by rw [hW2]; exact ((Below.refl _ _).alloc (Nat.le_refl _) _).alloc (by simp) _
  have hs2 : W2.heap.size = w.heap.size + 1 + 1 := by rw [hW2]; simp
  have g0 : W2.heap[w.heap.size]? = some (.cells #[.slice a 4 cap] 66 (0, 0)) := by rw [hW2]; exact heap_kept' _ (heap_at _ _ rfl)
  have g1 : W2.heap[w.heap.size + 1]? = some (.cells #[.int .i64 k, .int .i64 ci, .int .i64 fi, .slice ra rl rc, .int .i64 d] 38 (0, 0)) := by rw [hW2]; exact heap_at _ _ (by simp only [World.size_alloc])
  have HG : Hid (∀ w', Below W2.heap.size W2 w' → w'.cell? ⟨w.heap.size, 0, none⟩ = some (.slice a 4 cap) ∧ w'.heap[w.heap.size + 1]? = some (.cells #[.int .i64 k, .int .i64 ci, .int .i64 fi, .slice ra rl rc, .int .i64 d] 38 (0, 0)) ∧ Below w.heap.size w w') := fun w' h => ⟨heap_cell ((h.block _ (by omega)).trans g0) 0 rfl, (h.block _ (by omega)).trans g1, Below.thenOf hb2 h hb2.size⟩
  have HW2 : Hid (W2 = _) := hW2
  have HS2 : Hid (W2.heap.size = w.heap.size + 1 + 1) := hs2
  have HB2 : Hid (Below w.heap.size w W2) := hb2
  have HBs : Hid (B ≤ w.heap.size) := hB
  have HCk : Hid (l[ci]? = some c) := hck
  rw [hlate] at HBg
  clear hl hr hce hre hck hfk hW2 hb2 hs2 g0 g1 hB
  clear hlate hkk HOf HCk
  generalize c.1 = cb at *
  go_enter Tryz.func42, Tryz.ntmps42
  go_wp2_with fail
  rw [← HW2.out]
  go_at_call 45
  refine Calls.mono (HC.out _ HB2.out) ?_
  rintro e w3 ⟨rfl, hb3⟩
  obtain ⟨-, g13, hb3w⟩ := HG.out w3 hb3
  obtain ⟨y0, y1, y2, y3, y4⟩ := rec_box g13
  have HB3 : Hid (Below W2.heap.size W2 w3 ∧ Below w.heap.size w w3) := ⟨hb3, hb3w⟩
  clear HC hb3 hb3w g13
  go_wp2_with fail
  go_at_call 22
  refine Calls.mono (HR.out _ HB3.out.2) ?_
  rintro e w4 ⟨rfl, hb4⟩
  have HB4 : Hid (∀ q : Later w4, Below W2.heap.size W2 q.1) := fun q => Below.thenOf HB3.out.1 (Below.thenOf hb4 q.2 hb4.size) HB3.out.1.size
  clear y0 y1 y2 y3 y4 HR HB3 hb4
  have hne := Later.ne w4
  have q1 : ∀ q : Later w4, q.1.cell? ⟨w.heap.size + 1, 1, none⟩ = some (.int .i64 ci) := fun q => heap_cell (HG.out q.1 (HB4.out q)).2.1 1 rfl
  have q0 : ∀ q : Later w4, q.1.cell? ⟨w.heap.size + 1, 0, none⟩ = some (.int .i64 k) := fun q => heap_cell (HG.out q.1 (HB4.out q)).2.1 0 rfl
  have HOp' : Hid (∀ q : Later w4, Calls Tryz.prog 96 #[.int .i64 ci, .pointer (some ⟨w.heap.size, 0, none⟩)] q.1 fun e w'' => e = .returned (.bool cb) ∧ w'' = q.1) := fun q => HOp.out q.1 _ (HG.out q.1 (HB4.out q)).2.2 (HG.out q.1 (HB4.out q)).1
  go_wp2_with fail
  refine wp_region_later (by kernel_rfl) (by kernel_rfl) ?_
  repeat (go_big_quiet_step (first
    | (go_at_call 96; exact Calls.later_same (HOp'.out _))
    | (go_at_call 97; exact Calls.later_same (HBg.out _))))
  refine wpQuiet_nil ?_
  rintro w5 ⟨⟨_, hb5⟩, rfl⟩
  have hb25 : Below W2.heap.size W2 w5 := HB4.out ⟨w5, hb5⟩
  obtain ⟨x0, g15, hb5w⟩ := HG.out w5 hb25
  obtain ⟨y0, y1, y2, y3, y4⟩ := rec_box g15
  have HB5 : Hid (Below W2.heap.size W2 w5 ∧ Below w.heap.size w w5) := ⟨hb25, hb5w⟩
  clear q0 q1 hne HOp' HOp HBg HB4 hb5 hb25 hb5w g15
  go_wp2_with fail
  go_ret2
  exact ⟨_, rfl, cellsAt_nil _ _, HB5.out.2⟩

set_option maxHeartbeats 4000000 in
theorem nextK_who (B : Nat) (a : Option Addr) (cap : Nat) (ra : Option Addr) (rl rc : Nat) (l : List CellT) (ci fi : Nat) (rs : List RuleT) (d : Int) (w : World) (hl : CellsAt B w (.slice a 4 cap) l) (hr : RecAt B w (.agg #[.int .i64 3, .int .i64 ci, .int .i64 fi, .slice ra rl rc, .int .i64 d]) (3, (ci : Int), (fi : Int), rs, d)) (hB : B ≤ w.heap.size) (hce : cellsErr l = 0) (hre : recErr (3, (ci : Int), (fi : Int), rs, d) = 0) (c : CellT) (hck : l[ci]? = some c) (cf : CellT) (hfk : l[fi]? = some cf) (hco : c.1 = false) (hfo : cf.1 = false) :
    Calls Tryz.prog 42 #[.slice a 4 cap, .agg #[.int .i64 3, .int .i64 ci, .int .i64 fi, .slice ra rl rc, .int .i64 d]] w fun e w' => ∃ v, e = .returned (.tuple #[v, .int .i64 5]) ∧ CellsAt w'.heap.size w' v [] ∧ Below w.heap.size w w' := by
  have HLen : Hid (l.length = 4) := (cellsErr_ok.1 hce).1
  have HC : Hid (∀ w', Below w.heap.size w w' → Calls Tryz.prog 45 #[.slice a 4 cap] w' fun e w'' => e = .returned (.int .i64 0) ∧ Below w'.heap.size w' w'') := fun w' h => by
    have := checkKp_any B _ l w' (hl.later h hB) (Nat.le_trans hB h.size)
    rw [hce] at this
    exact this
  have HR : Hid (∀ w', Below w.heap.size w w' → Calls Tryz.prog 22 #[.agg #[.int .i64 3, .int .i64 ci, .int .i64 fi, .slice ra rl rc, .int .i64 d]] w' fun e w'' => e = .returned (.int .i64 0) ∧ Below w'.heap.size w' w'') := fun w' h => by
    have := checkN_any B _ _ w' (hr.later h hB) (Nat.le_trans hB h.size)
    rw [hre] at this
    exact this
  have HOp : Hid (∀ w' bx, Below w.heap.size w w' → w'.cell? ⟨bx, 0, none⟩ = some (.slice a 4 cap) → Calls Tryz.prog 96 #[.int .i64 ci, .pointer (some ⟨bx, 0, none⟩)] w' fun e w'' => e = .returned (.bool c.1) ∧ w'' = w') := fun w' bx h hx => isOpenK_any B bx a cap l ci c w' (hl.later h hB) HLen.out hck hx
  have HOf : Hid (∀ w' bx, Below w.heap.size w w' → w'.cell? ⟨bx, 0, none⟩ = some (.slice a 4 cap) → Calls Tryz.prog 96 #[.int .i64 fi, .pointer (some ⟨bx, 0, none⟩)] w' fun e w'' => e = .returned (.bool cf.1) ∧ w'' = w') := fun w' bx h hx => isOpenK_any B bx a cap l fi cf w' (hl.later h hB) HLen.out hfk hx
  have HBg : Hid (∀ w', Calls Tryz.prog 97 #[.int .i64 3] w' fun e w'' => e = .returned (.bool (true)) ∧ w'' = w') := fun w' => begins_any (k := 3) (by simp) w'
  obtain ⟨W2, hW2⟩ : ∃ W2, W2 = (w.alloc (.cells #[.slice a 4 cap] 66)).alloc (.cells #[.int .i64 3, .int .i64 ci, .int .i64 fi, .slice ra rl rc, .int .i64 d] 38) := ⟨_, rfl⟩
  have hb2 : Below w.heap.size w W2 := by rw [hW2]; exact ((Below.refl _ _).alloc (Nat.le_refl _) _).alloc (by simp) _
  have hs2 : W2.heap.size = w.heap.size + 1 + 1 := by rw [hW2]; simp
  have g0 : W2.heap[w.heap.size]? = some (.cells #[.slice a 4 cap] 66 (0, 0)) := by rw [hW2]; exact heap_kept' _ (heap_at _ _ rfl)
  have g1 : W2.heap[w.heap.size + 1]? = some (.cells #[.int .i64 3, .int .i64 ci, .int .i64 fi, .slice ra rl rc, .int .i64 d] 38 (0, 0)) := by rw [hW2]; exact heap_at _ _ (by simp only [World.size_alloc])
  have HG : Hid (∀ w', Below W2.heap.size W2 w' → w'.cell? ⟨w.heap.size, 0, none⟩ = some (.slice a 4 cap) ∧ w'.heap[w.heap.size + 1]? = some (.cells #[.int .i64 3, .int .i64 ci, .int .i64 fi, .slice ra rl rc, .int .i64 d] 38 (0, 0)) ∧ Below w.heap.size w w') := fun w' h => ⟨heap_cell ((h.block _ (by omega)).trans g0) 0 rfl, (h.block _ (by omega)).trans g1, Below.thenOf hb2 h hb2.size⟩
  have HW2 : Hid (W2 = _) := hW2
  have HS2 : Hid (W2.heap.size = w.heap.size + 1 + 1) := hs2
  have HB2 : Hid (Below w.heap.size w W2) := hb2
  have HBs : Hid (B ≤ w.heap.size) := hB
  have HCk : Hid (l[ci]? = some c) := hck
  rw [hco] at HOp
  rw [hfo] at HOf
  clear hl hr hce hre hck hfk hW2 hb2 hs2 g0 g1 hB
  clear HCk
  go_enter Tryz.func42, Tryz.ntmps42
  go_wp2_with fail
  rw [← HW2.out]
  go_at_call 45
  refine Calls.mono (HC.out _ HB2.out) ?_
  rintro e w3 ⟨rfl, hb3⟩
  obtain ⟨-, g13, hb3w⟩ := HG.out w3 hb3
  obtain ⟨y0, y1, y2, y3, y4⟩ := rec_box g13
  have HB3 : Hid (Below W2.heap.size W2 w3 ∧ Below w.heap.size w w3) := ⟨hb3, hb3w⟩
  clear HC hb3 hb3w g13
  go_wp2_with fail
  go_at_call 22
  refine Calls.mono (HR.out _ HB3.out.2) ?_
  rintro e w4 ⟨rfl, hb4⟩
  have HB4 : Hid (∀ q : Later w4, Below W2.heap.size W2 q.1) := fun q => Below.thenOf HB3.out.1 (Below.thenOf hb4 q.2 hb4.size) HB3.out.1.size
  clear y0 y1 y2 y3 y4 HR HB3 hb4
  have hne := Later.ne w4
  have q1 : ∀ q : Later w4, q.1.cell? ⟨w.heap.size + 1, 1, none⟩ = some (.int .i64 ci) := fun q => heap_cell (HG.out q.1 (HB4.out q)).2.1 1 rfl
  have q0 : ∀ q : Later w4, q.1.cell? ⟨w.heap.size + 1, 0, none⟩ = some (.int .i64 3) := fun q => heap_cell (HG.out q.1 (HB4.out q)).2.1 0 rfl
  have HOp' : Hid (∀ q : Later w4, Calls Tryz.prog 96 #[.int .i64 ci, .pointer (some ⟨w.heap.size, 0, none⟩)] q.1 fun e w'' => e = .returned (.bool false) ∧ w'' = q.1) := fun q => HOp.out q.1 _ (HG.out q.1 (HB4.out q)).2.2 (HG.out q.1 (HB4.out q)).1
  go_wp2_with fail
  refine wp_region_later (by kernel_rfl) (by kernel_rfl) ?_
  repeat (go_big_quiet_step (first
    | (go_at_call 96; exact Calls.later_same (HOp'.out _))
    | (go_at_call 97; exact Calls.later_same (HBg.out _))))
  refine wpQuiet_nil ?_
  rintro w5 ⟨⟨_, hb5⟩, rfl⟩
  have hb25 : Below W2.heap.size W2 w5 := HB4.out ⟨w5, hb5⟩
  obtain ⟨x0, g15, hb5w⟩ := HG.out w5 hb25
  obtain ⟨y0, y1, y2, y3, y4⟩ := rec_box g15
  have HB5 : Hid (Below W2.heap.size W2 w5 ∧ Below w.heap.size w w5) := ⟨hb25, hb5w⟩
  clear q0 q1 hne HOp' HOp HBg HB4 hb5 hb25 hb5w g15
  have HOf' : Hid (Calls Tryz.prog 96 #[.int .i64 fi, .pointer (some ⟨w.heap.size, 0, none⟩)] w5 fun e w'' => e = .returned (.bool false) ∧ w'' = w5) := HOf.out w5 _ HB5.out.2 x0
  clear HOf
  go_wp2_with fail
  go_at_call 96
  refine Calls.mono HOf'.out ?_
  rintro e w5' ⟨rfl, e5⟩; obtain rfl := e5.symm
  clear HOf'
  go_wp2_with fail
  go_ret2
  exact ⟨_, rfl, cellsAt_nil _ _, HB5.out.2⟩

set_option maxHeartbeats 8000000 in
theorem nextK_core (B : Nat) (a : Option Addr) (cap : Nat) (ra : Option Addr) (rl rc : Nat) (l : List CellT) (k : Int) (ci fi : Nat) (rs : List RuleT) (d : Int) (w : World) (hl : CellsAt B w (.slice a 4 cap) l) (hr : RecAt B w (.agg #[.int .i64 k, .int .i64 ci, .int .i64 fi, .slice ra rl rc, .int .i64 d]) (k, (ci : Int), (fi : Int), rs, d)) (hB : B ≤ w.heap.size) (hce : cellsErr l = 0) (hre : recErr (k, (ci : Int), (fi : Int), rs, d) = 0) (hkk : k = 1 ∨ k = 2 ∨ k = 3 ∨ k = 4) (c : CellT) (hck : l[ci]? = some c) (cf : CellT) (hfk : l[fi]? = some cf) (hin : decide (k = 1 ∨ k = 3) ≠ c.1) (E : Int) (C : CellT) (HBe : Hid (∀ w', Below w.heap.size w w' → Calls Tryz.prog 98 #[.slice a 4 cap, .agg #[.int .i64 k, .int .i64 ci, .int .i64 fi, .slice ra rl rc, .int .i64 d]] w' fun e w'' => ∃ v, e = .returned (.tuple #[v, .int .i64 E]) ∧ CellNew w'.heap.size w'' v C ∧ Below w'.heap.size w' w'')) (hfo : k = 3 → cf.1 = true) :
    Calls Tryz.prog 42 #[.slice a 4 cap, .agg #[.int .i64 k, .int .i64 ci, .int .i64 fi, .slice ra rl rc, .int .i64 d]] w fun e w' => ∃ v, e = .returned (.tuple #[v, .int .i64 E]) ∧ CellsAt w'.heap.size w' v (if E = 0 then l.set ci C else []) ∧ Below w.heap.size w w' := by
  have HLen : Hid (l.length = 4) := (cellsErr_ok.1 hce).1
  have HC : Hid (∀ w', Below w.heap.size w w' → Calls Tryz.prog 45 #[.slice a 4 cap] w' fun e w'' => e = .returned (.int .i64 0) ∧ Below w'.heap.size w' w'') := fun w' h => by
    have := checkKp_any B _ l w' (hl.later h hB) (Nat.le_trans hB h.size)
    rw [hce] at this
    exact this
  have HR : Hid (∀ w', Below w.heap.size w w' → Calls Tryz.prog 22 #[.agg #[.int .i64 k, .int .i64 ci, .int .i64 fi, .slice ra rl rc, .int .i64 d]] w' fun e w'' => e = .returned (.int .i64 0) ∧ Below w'.heap.size w' w'') := fun w' h => by
    have := checkN_any B _ _ w' (hr.later h hB) (Nat.le_trans hB h.size)
    rw [hre] at this
    exact this
  have HOp : Hid (∀ w' bx, Below w.heap.size w w' → w'.cell? ⟨bx, 0, none⟩ = some (.slice a 4 cap) → Calls Tryz.prog 96 #[.int .i64 ci, .pointer (some ⟨bx, 0, none⟩)] w' fun e w'' => e = .returned (.bool c.1) ∧ w'' = w') := fun w' bx h hx => isOpenK_any B bx a cap l ci c w' (hl.later h hB) HLen.out hck hx
  have HOf : Hid (∀ w' bx, Below w.heap.size w w' → w'.cell? ⟨bx, 0, none⟩ = some (.slice a 4 cap) → Calls Tryz.prog 96 #[.int .i64 fi, .pointer (some ⟨bx, 0, none⟩)] w' fun e w'' => e = .returned (.bool cf.1) ∧ w'' = w') := fun w' bx h hx => isOpenK_any B bx a cap l fi cf w' (hl.later h hB) HLen.out hfk hx
  have HBg : Hid (∀ w', Calls Tryz.prog 97 #[.int .i64 k] w' fun e w'' => e = .returned (.bool (decide (k = 1 ∨ k = 3))) ∧ w'' = w') := fun w' => begins_any hkk w'
  obtain ⟨W2, hW2⟩ : ∃ W2, W2 = (w.alloc (.cells #[.slice a 4 cap] 66)).alloc (.cells #[.int .i64 k, .int .i64 ci, .int .i64 fi, .slice ra rl rc, .int .i64 d] 38) := ⟨_, rfl⟩
  have hb2 : Below w.heap.size w W2 := by rw [hW2]; exact ((Below.refl _ _).alloc (Nat.le_refl _) _).alloc (by simp) _
  have hs2 : W2.heap.size = w.heap.size + 1 + 1 := by rw [hW2]; simp
  have g0 : W2.heap[w.heap.size]? = some (.cells #[.slice a 4 cap] 66 (0, 0)) := by rw [hW2]; exact heap_kept' _ (heap_at _ _ rfl)
  have g1 : W2.heap[w.heap.size + 1]? = some (.cells #[.int .i64 k, .int .i64 ci, .int .i64 fi, .slice ra rl rc, .int .i64 d] 38 (0, 0)) := by rw [hW2]; exact heap_at _ _ (by simp only [World.size_alloc])
  have HG : Hid (∀ w', Below W2.heap.size W2 w' → w'.cell? ⟨w.heap.size, 0, none⟩ = some (.slice a 4 cap) ∧ w'.heap[w.heap.size + 1]? = some (.cells #[.int .i64 k, .int .i64 ci, .int .i64 fi, .slice ra rl rc, .int .i64 d] 38 (0, 0)) ∧ Below w.heap.size w w') := fun w' h => ⟨heap_cell ((h.block _ (by omega)).trans g0) 0 rfl, (h.block _ (by omega)).trans g1, Below.thenOf hb2 h hb2.size⟩
  have HW2 : Hid (W2 = _) := hW2
  have HS2 : Hid (W2.heap.size = w.heap.size + 1 + 1) := hs2
  have HB2 : Hid (Below w.heap.size w W2) := hb2
  have HBs : Hid (B ≤ w.heap.size) := hB
  have HCk : Hid (l[ci]? = some c) := hck
  have HCp : Hid (∀ w', Below w.heap.size w w' → Calls Tryz.prog 99 #[.slice a 4 cap] w' fun e w'' => e = .returned (.slice (some ⟨w'.heap.size, 0, none⟩) 4 4) ∧ CkAt B w'.heap.size 4 l w'' ∧ Below w'.heap.size w' w'') := fun w' h => by
    have := copyKp_any B _ l w' (hl.later h hB) (Nat.le_trans hB h.size) (by rw [HLen.out]; decide) (fun c hc => cellSm_ok ((cellsErr_ok.1 hce).2 c hc))
    rw [HLen.out] at this
    exact this
  have hci : ci < 4 := by
    have := (List.getElem?_eq_some_iff.1 hck).1
    rw [HLen.out] at this
    exact this
  have hci' : (ci : Int) < 4 := by omega
  have hci0 : (0 : Int) ≤ (ci : Int) := by omega
  have hbq : (c.1 == decide (k = 1 ∨ k = 3)) = false := by
    simp
    exact fun e => hin (by rw [e]; simp)
  have HF3 : Hid (k = 3 → cf.1 = true) := hfo
  clear hl hr hce hre hck hfk hW2 hb2 hs2 g0 g1 hB
  clear hin hkk HCk hfo
  obtain ⟨bg, hbg⟩ : ∃ bg, bg = decide (k = 1 ∨ k = 3) := ⟨_, rfl⟩
  rw [← hbg] at HBg hbq
  clear hbg
  generalize c.1 = cb at *
  go_enter Tryz.func42, Tryz.ntmps42
  go_wp2_with fail
  rw [← HW2.out]
  go_at_call 45
  refine Calls.mono (HC.out _ HB2.out) ?_
  rintro e w3 ⟨rfl, hb3⟩
  obtain ⟨-, g13, hb3w⟩ := HG.out w3 hb3
  obtain ⟨y0, y1, y2, y3, y4⟩ := rec_box g13
  have HB3 : Hid (Below W2.heap.size W2 w3 ∧ Below w.heap.size w w3) := ⟨hb3, hb3w⟩
  clear HC hb3 hb3w g13
  go_wp2_with fail
  go_at_call 22
  refine Calls.mono (HR.out _ HB3.out.2) ?_
  rintro e w4 ⟨rfl, hb4⟩
  have HB4 : Hid (∀ q : Later w4, Below W2.heap.size W2 q.1) := fun q => Below.thenOf HB3.out.1 (Below.thenOf hb4 q.2 hb4.size) HB3.out.1.size
  clear y0 y1 y2 y3 y4 HR HB3 hb4
  have hne := Later.ne w4
  have q1 : ∀ q : Later w4, q.1.cell? ⟨w.heap.size + 1, 1, none⟩ = some (.int .i64 ci) := fun q => heap_cell (HG.out q.1 (HB4.out q)).2.1 1 rfl
  have q0 : ∀ q : Later w4, q.1.cell? ⟨w.heap.size + 1, 0, none⟩ = some (.int .i64 k) := fun q => heap_cell (HG.out q.1 (HB4.out q)).2.1 0 rfl
  have HOp' : Hid (∀ q : Later w4, Calls Tryz.prog 96 #[.int .i64 ci, .pointer (some ⟨w.heap.size, 0, none⟩)] q.1 fun e w'' => e = .returned (.bool cb) ∧ w'' = q.1) := fun q => HOp.out q.1 _ (HG.out q.1 (HB4.out q)).2.2 (HG.out q.1 (HB4.out q)).1
  go_wp2_with fail
  refine wp_region_later (by kernel_rfl) (by kernel_rfl) ?_
  repeat (go_big_quiet_step (first
    | (go_at_call 96; exact Calls.later_same (HOp'.out _))
    | (go_at_call 97; exact Calls.later_same (HBg.out _))))
  refine wpQuiet_nil ?_
  rintro w5 ⟨⟨_, hb5⟩, rfl⟩
  have hb25 : Below W2.heap.size W2 w5 := HB4.out ⟨w5, hb5⟩
  obtain ⟨x0, g15, hb5w⟩ := HG.out w5 hb25
  obtain ⟨y0, y1, y2, y3, y4⟩ := rec_box g15
  have HB5 : Hid (Below W2.heap.size W2 w5 ∧ Below w.heap.size w w5) := ⟨hb25, hb5w⟩
  clear q0 q1 hne HOp' HOp HBg HB4 hb5 hb25 hb5w g15
  by_cases hk3 : k = 3
  · have hcf := HF3.out hk3
    rw [hcf] at HOf
    have HOf' : Hid (Calls Tryz.prog 96 #[.int .i64 fi, .pointer (some ⟨w.heap.size, 0, none⟩)] w5 fun e w'' => e = .returned (.bool true) ∧ w'' = w5) := HOf.out w5 _ HB5.out.2 x0
    clear HOf HF3 hcf
    subst hk3
    go_wp2_with fail
    go_at_call 96
    refine Calls.mono HOf'.out ?_
    rintro e w5' ⟨rfl, e5⟩; obtain rfl := e5.symm
    clear HOf'
    go_wp2_with fail
    go_at_call 98
    refine Calls.mono (HBe.out _ HB5.out.2) ?_
    rintro e w6 ⟨v, rfl, hcn, hb6⟩
    obtain ⟨la, lc, pa, pc, ev, -, -⟩ := id hcn
    have HCN : Hid (CellNew w5.heap.size w6 v C) := hcn
    rw [ev] at HCN ⊢
    have hb26 : Below W2.heap.size W2 w6 := Below.thenOf HB5.out.1 hb6 HB5.out.1.size
    obtain ⟨x6, g16, hb6w⟩ := HG.out w6 hb26
    have HB6 : Hid (Below W2.heap.size W2 w6 ∧ Below w.heap.size w w6) := ⟨hb26, hb6w⟩
    have hlt6 : w.heap.size + 1 < w6.heap.size := lt_of_block g16
    have HS56 : Hid (W2.heap.size ≤ w5.heap.size) := HB5.out.1.size
    clear ev hcn hb6 hb26 hb6w x0 y0 y1 y2 y3 y4 HBe HB5
    obtain ⟨n1, hn1⟩ : ∃ n1, n1 = C.2.1.length := ⟨_, rfl⟩
    obtain ⟨n2, hn2⟩ : ∃ n2, n2 = C.2.2.1.length := ⟨_, rfl⟩
    obtain ⟨dd, hdd⟩ : ∃ dd, dd = C.2.2.2 := ⟨_, rfl⟩
    obtain ⟨ob, hob⟩ : ∃ ob, ob = C.1 := ⟨_, rfl⟩
    have HNs : Hid (C.1 = ob ∧ C.2.2.2 = dd) := ⟨hob.symm, hdd.symm⟩
    rw [← hn1, ← hn2, ← hdd, ← hob] at HCN ⊢
    clear hn1 hn2 hdd hob
    by_cases hE : E = 0
    · subst hE
      obtain ⟨W7, hW7⟩ : ∃ W7, W7 = w6.alloc (.cells #[.bool ob, .slice la n1 lc, .slice pa n2 pc, .int .i64 dd] 77) := ⟨_, rfl⟩
      have hb67 : Below w6.heap.size w6 W7 := by rw [hW7]; exact (Below.refl _ _).alloc (Nat.le_refl _) _
      have g7 : W7.heap[w6.heap.size]? = some (.cells #[.bool ob, .slice la n1 lc, .slice pa n2 pc, .int .i64 dd] 77 (0, 0)) := by rw [hW7]; exact heap_made _ _
      have hb27 : Below W2.heap.size W2 W7 := Below.thenOf HB6.out.1 hb67 HB6.out.1.size
      have HB7 : Hid (Below W2.heap.size W2 W7 ∧ Below w.heap.size w W7) := ⟨hb27, (HG.out W7 hb27).2.2⟩
      have HCN7 : Hid (CellNew w5.heap.size W7 (.agg #[.bool ob, .slice la n1 lc, .slice pa n2 pc, .int .i64 dd]) C) := HCN.out.later (Nat.le_refl _) hb67
      have HW7 : Hid (W7 = _) := hW7
      have HG7 : Hid (W7.heap[w6.heap.size]? = some (.cells #[.bool ob, .slice la n1 lc, .slice pa n2 pc, .int .i64 dd] 77 (0, 0))) := g7
      have hl6 : w.heap.size < w6.heap.size := by omega
      clear hW7 hb67 g7 hb27 HCN g16 HB6
      go_wp2_with fail
      rw [← HW7.out]
      go_at_call 99
      refine Calls.mono (HCp.out _ HB7.out.2) ?_
      rintro e w8 ⟨rfl, hck, hb8⟩
      have hb28 : Below W2.heap.size W2 w8 := Below.thenOf HB7.out.1 hb8 HB7.out.1.size
      obtain ⟨-, g18, hb8w⟩ := HG.out w8 hb28
      obtain ⟨y0, y1, y2, y3, y4⟩ := rec_box g18
      obtain ⟨z0, z1, z2, z3, -⟩ := box4_free ((hb8.block _ (lt_of_block HG7.out)).trans HG7.out)
      have hcn8 := HCN7.out.later (Nat.le_refl _) hb8
      have hrow : ∀ j, j < 16 → ∃ u, w8.cell? ⟨W7.heap.size, j, none⟩ = some u ∧ w8.frozen? ⟨W7.heap.size, j, none⟩ = false := fun j hj => by
        obtain ⟨xs, r1, r2, -⟩ := hck
        exact ⟨xs[j]'(by rw [r2, HLen.out]; omega), heap_cell r1 j (by simp), by simp [World.frozen?, r1]⟩
      obtain ⟨u0, p0, f0⟩ := hrow (ci * 4) (by omega)
      obtain ⟨u1, p1, f1⟩ := hrow (ci * 4 + 1) (by omega)
      obtain ⟨u2, p2, f2⟩ := hrow (ci * 4 + 2) (by omega)
      obtain ⟨u3, p3, f3⟩ := hrow (ci * 4 + 3) (by omega)
      have HFin : Hid (CellsAt ((((w8.setCell ⟨W7.heap.size, ci * 4, none⟩ (.bool ob)).setCell ⟨W7.heap.size, ci * 4 + 1, none⟩ (.slice la n1 lc)).setCell ⟨W7.heap.size, ci * 4 + 2, none⟩ (.slice pa n2 pc)).setCell ⟨W7.heap.size, ci * 4 + 3, none⟩ (.int .i64 dd)).heap.size ((((w8.setCell ⟨W7.heap.size, ci * 4, none⟩ (.bool ob)).setCell ⟨W7.heap.size, ci * 4 + 1, none⟩ (.slice la n1 lc)).setCell ⟨W7.heap.size, ci * 4 + 2, none⟩ (.slice pa n2 pc)).setCell ⟨W7.heap.size, ci * 4 + 3, none⟩ (.int .i64 dd)) (.slice (some ⟨W7.heap.size, 0, none⟩) 4 4) (l.set ci C) ∧ Below w.heap.size w ((((w8.setCell ⟨W7.heap.size, ci * 4, none⟩ (.bool ob)).setCell ⟨W7.heap.size, ci * 4 + 1, none⟩ (.slice la n1 lc)).setCell ⟨W7.heap.size, ci * 4 + 2, none⟩ (.slice pa n2 pc)).setCell ⟨W7.heap.size, ci * 4 + 3, none⟩ (.int .i64 dd))) := by
        have hs7 : w.heap.size ≤ W7.heap.size := HB7.out.2.size
        refine ⟨CkAt.set (c := C) hck HLen.out (by decide) hci (by rw [HNs.out.1, HNs.out.2]) (fun wX h1 h2 => ?_), (((hb8w.setCell (p := ⟨W7.heap.size, ci * 4, none⟩) hs7 _).setCell (p := ⟨W7.heap.size, ci * 4 + 1, none⟩) hs7 _).setCell (p := ⟨W7.heap.size, ci * 4 + 2, none⟩) hs7 _).setCell (p := ⟨W7.heap.size, ci * 4 + 3, none⟩) hs7 _⟩
        obtain ⟨la', lc', pa', pc', ev', k1, k2⟩ := HCN7.out
        simp at ev'
        obtain ⟨e0, ⟨rfl, e1, rfl⟩, ⟨rfl, e2, rfl⟩, e3⟩ := ev'
        have hX : ∀ g, w5.heap.size ≤ g → g < W7.heap.size → wX.heap[g]? = W7.heap[g]? := fun g _ hl => (h1 g (by omega) (by have := hb8.size; omega)).trans (hb8.block g hl)
        have hXs : W7.heap.size ≤ wX.heap.size := Nat.le_trans hb8.size h2
        exact ⟨by rw [e1]; exact k1 wX hX hXs, by rw [e2]; exact k2 wX hX hXs⟩
      have hn7 : ¬ w.heap.size + 1 = W7.heap.size := by have := HB7.out.1.size; have := HS2.out; omega
      have hn8 : ¬ w6.heap.size = W7.heap.size := by have := lt_of_block HG7.out; omega
      clear hck hb8 hb28 g18 hb8w hcn8 hrow HCp HB7 HCN7 HG7 hl6 hlt6 x6
      go_wp2_with fail
      go_ret2
      exact ⟨_, rfl, HFin.out.1, HFin.out.2⟩
    · have hq : (E != 0) = true := by simpa using hE
      have HE : Hid (¬ E = 0) := hE
      clear hE HCN HCp
      go_wp2_with fail
      go_ret2
      exact ⟨_, rfl, cellsAt_nil _ _, HB6.out.2.alloc HB6.out.2.size _⟩
  · have hq3 : (k == 3) = false := by simpa using hk3
    clear HOf HF3 hk3
    go_wp2_with fail
    go_at_call 98
    refine Calls.mono (HBe.out _ HB5.out.2) ?_
    rintro e w6 ⟨v, rfl, hcn, hb6⟩
    obtain ⟨la, lc, pa, pc, ev, -, -⟩ := id hcn
    have HCN : Hid (CellNew w5.heap.size w6 v C) := hcn
    rw [ev] at HCN ⊢
    have hb26 : Below W2.heap.size W2 w6 := Below.thenOf HB5.out.1 hb6 HB5.out.1.size
    obtain ⟨x6, g16, hb6w⟩ := HG.out w6 hb26
    have HB6 : Hid (Below W2.heap.size W2 w6 ∧ Below w.heap.size w w6) := ⟨hb26, hb6w⟩
    have hlt6 : w.heap.size + 1 < w6.heap.size := lt_of_block g16
    have HS56 : Hid (W2.heap.size ≤ w5.heap.size) := HB5.out.1.size
    clear ev hcn hb6 hb26 hb6w x0 y0 y1 y2 y3 y4 HBe HB5
    obtain ⟨n1, hn1⟩ : ∃ n1, n1 = C.2.1.length := ⟨_, rfl⟩
    obtain ⟨n2, hn2⟩ : ∃ n2, n2 = C.2.2.1.length := ⟨_, rfl⟩
    obtain ⟨dd, hdd⟩ : ∃ dd, dd = C.2.2.2 := ⟨_, rfl⟩
    obtain ⟨ob, hob⟩ : ∃ ob, ob = C.1 := ⟨_, rfl⟩
    have HNs : Hid (C.1 = ob ∧ C.2.2.2 = dd) := ⟨hob.symm, hdd.symm⟩
    rw [← hn1, ← hn2, ← hdd, ← hob] at HCN ⊢
    clear hn1 hn2 hdd hob
    by_cases hE : E = 0
    · subst hE
      obtain ⟨W7, hW7⟩ : ∃ W7, W7 = w6.alloc (.cells #[.bool ob, .slice la n1 lc, .slice pa n2 pc, .int .i64 dd] 77) := ⟨_, rfl⟩
      have hb67 : Below w6.heap.size w6 W7 := by rw [hW7]; exact (Below.refl _ _).alloc (Nat.le_refl _) _
      have g7 : W7.heap[w6.heap.size]? = some (.cells #[.bool ob, .slice la n1 lc, .slice pa n2 pc, .int .i64 dd] 77 (0, 0)) := by rw [hW7]; exact heap_made _ _
      have hb27 : Below W2.heap.size W2 W7 := Below.thenOf HB6.out.1 hb67 HB6.out.1.size
      have HB7 : Hid (Below W2.heap.size W2 W7 ∧ Below w.heap.size w W7) := ⟨hb27, (HG.out W7 hb27).2.2⟩
      have HCN7 : Hid (CellNew w5.heap.size W7 (.agg #[.bool ob, .slice la n1 lc, .slice pa n2 pc, .int .i64 dd]) C) := HCN.out.later (Nat.le_refl _) hb67
      have HW7 : Hid (W7 = _) := hW7
      have HG7 : Hid (W7.heap[w6.heap.size]? = some (.cells #[.bool ob, .slice la n1 lc, .slice pa n2 pc, .int .i64 dd] 77 (0, 0))) := g7
      have hl6 : w.heap.size < w6.heap.size := by omega
      clear hW7 hb67 g7 hb27 HCN g16 HB6
      go_wp2_with fail
      rw [← HW7.out]
      go_at_call 99
      refine Calls.mono (HCp.out _ HB7.out.2) ?_
      rintro e w8 ⟨rfl, hck, hb8⟩
      have hb28 : Below W2.heap.size W2 w8 := Below.thenOf HB7.out.1 hb8 HB7.out.1.size
      obtain ⟨-, g18, hb8w⟩ := HG.out w8 hb28
      obtain ⟨y0, y1, y2, y3, y4⟩ := rec_box g18
      obtain ⟨z0, z1, z2, z3, -⟩ := box4_free ((hb8.block _ (lt_of_block HG7.out)).trans HG7.out)
      have hcn8 := HCN7.out.later (Nat.le_refl _) hb8
      have hrow : ∀ j, j < 16 → ∃ u, w8.cell? ⟨W7.heap.size, j, none⟩ = some u ∧ w8.frozen? ⟨W7.heap.size, j, none⟩ = false := fun j hj => by
        obtain ⟨xs, r1, r2, -⟩ := hck
        exact ⟨xs[j]'(by rw [r2, HLen.out]; omega), heap_cell r1 j (by simp), by simp [World.frozen?, r1]⟩
      obtain ⟨u0, p0, f0⟩ := hrow (ci * 4) (by omega)
      obtain ⟨u1, p1, f1⟩ := hrow (ci * 4 + 1) (by omega)
      obtain ⟨u2, p2, f2⟩ := hrow (ci * 4 + 2) (by omega)
      obtain ⟨u3, p3, f3⟩ := hrow (ci * 4 + 3) (by omega)
      have HFin : Hid (CellsAt ((((w8.setCell ⟨W7.heap.size, ci * 4, none⟩ (.bool ob)).setCell ⟨W7.heap.size, ci * 4 + 1, none⟩ (.slice la n1 lc)).setCell ⟨W7.heap.size, ci * 4 + 2, none⟩ (.slice pa n2 pc)).setCell ⟨W7.heap.size, ci * 4 + 3, none⟩ (.int .i64 dd)).heap.size ((((w8.setCell ⟨W7.heap.size, ci * 4, none⟩ (.bool ob)).setCell ⟨W7.heap.size, ci * 4 + 1, none⟩ (.slice la n1 lc)).setCell ⟨W7.heap.size, ci * 4 + 2, none⟩ (.slice pa n2 pc)).setCell ⟨W7.heap.size, ci * 4 + 3, none⟩ (.int .i64 dd)) (.slice (some ⟨W7.heap.size, 0, none⟩) 4 4) (l.set ci C) ∧ Below w.heap.size w ((((w8.setCell ⟨W7.heap.size, ci * 4, none⟩ (.bool ob)).setCell ⟨W7.heap.size, ci * 4 + 1, none⟩ (.slice la n1 lc)).setCell ⟨W7.heap.size, ci * 4 + 2, none⟩ (.slice pa n2 pc)).setCell ⟨W7.heap.size, ci * 4 + 3, none⟩ (.int .i64 dd))) := by
        have hs7 : w.heap.size ≤ W7.heap.size := HB7.out.2.size
        refine ⟨CkAt.set (c := C) hck HLen.out (by decide) hci (by rw [HNs.out.1, HNs.out.2]) (fun wX h1 h2 => ?_), (((hb8w.setCell (p := ⟨W7.heap.size, ci * 4, none⟩) hs7 _).setCell (p := ⟨W7.heap.size, ci * 4 + 1, none⟩) hs7 _).setCell (p := ⟨W7.heap.size, ci * 4 + 2, none⟩) hs7 _).setCell (p := ⟨W7.heap.size, ci * 4 + 3, none⟩) hs7 _⟩
        obtain ⟨la', lc', pa', pc', ev', k1, k2⟩ := HCN7.out
        simp at ev'
        obtain ⟨e0, ⟨rfl, e1, rfl⟩, ⟨rfl, e2, rfl⟩, e3⟩ := ev'
        have hX : ∀ g, w5.heap.size ≤ g → g < W7.heap.size → wX.heap[g]? = W7.heap[g]? := fun g _ hl => (h1 g (by omega) (by have := hb8.size; omega)).trans (hb8.block g hl)
        have hXs : W7.heap.size ≤ wX.heap.size := Nat.le_trans hb8.size h2
        exact ⟨by rw [e1]; exact k1 wX hX hXs, by rw [e2]; exact k2 wX hX hXs⟩
      have hn7 : ¬ w.heap.size + 1 = W7.heap.size := by have := HB7.out.1.size; have := HS2.out; omega
      have hn8 : ¬ w6.heap.size = W7.heap.size := by have := lt_of_block HG7.out; omega
      clear hck hb8 hb28 g18 hb8w hcn8 hrow HCp HB7 HCN7 HG7 hl6 hlt6 x6
      go_wp2_with fail
      go_ret2
      exact ⟨_, rfl, HFin.out.1, HFin.out.2⟩
    · have hq : (E != 0) = true := by simpa using hE
      have HE : Hid (¬ E = 0) := hE
      clear hE HCN HCp
      go_wp2_with fail
      go_ret2
      exact ⟨_, rfl, cellsAt_nil _ _, HB6.out.2.alloc HB6.out.2.size _⟩

set_option maxHeartbeats 1000000 in
theorem nextKp_any (B : Nat) (lv rv : Value) (l : List CellT) (r : RecT) (w : World) (hl : CellsAt B w lv l) (hr : RecAt B w rv r) (hB : B ≤ w.heap.size) :
    Calls Tryz.prog 42 #[lv, rv] w fun e w' => ∃ v, e = .returned (.tuple #[v, .int .i64 (nextE l r)]) ∧ CellsAt w'.heap.size w' v (nextR l r) ∧ Below w.heap.size w w' := by
  by_cases hbad : cellsErr l ≠ 0 ∨ recErr r ≠ 0
  · have h1 : nextE l r = if cellsErr l = 0 then recErr r else cellsErr l := by
      unfold nextE
      by_cases hc : cellsErr l = 0
      · have hre : recErr r ≠ 0 := by simpa [hc] using hbad
        rw [if_pos hc, if_neg hre, if_pos hc]
      · rw [if_neg hc, if_neg hc]
    have h2 : nextR l r = [] := by
      unfold nextR
      rw [h1, if_neg]
      by_cases hc : cellsErr l = 0
      · rw [if_pos hc]
        simpa [hc] using hbad
      · rw [if_neg hc]
        exact hc
    rw [h1, h2]
    exact nextK_bad B lv rv l r w hl hr hB hbad
  · have hce : cellsErr l = 0 := Classical.byContradiction fun h => hbad (.inl h)
    have hre : recErr r = 0 := Classical.byContradiction fun h => hbad (.inr h)
    have hne : nextE l r = if decide (r.1 = 1 ∨ r.1 = 3) = (cellAt l r.2.1).1 then 6 else (nextC l r).2 := by unfold nextE; rw [if_pos hce, if_pos hre]
    have hnr : nextR l r = if nextE l r = 0 then l.set r.2.1.toNat (nextC l r).1 else [] := rfl
    have hlen := (cellsErr_ok.1 hce).1
    obtain ⟨hk, hc1, hf1, -, hpp⟩ := recErr_ok hre
    obtain ⟨a, cap, rfl, -, -⟩ := hl.shape
    rw [hlen] at hl ⊢
    obtain ⟨ra, rc, rfl, hpo⟩ := hr.shape
    obtain ⟨k, ce, fe, rs, d⟩ := r
    simp only at hk hc1 hf1 hpp hpo hne hnr hr hre ⊢
    obtain ⟨ci, rfl⟩ : ∃ ci : Nat, ce = (ci : Int) := ⟨ce.toNat, by omega⟩
    obtain ⟨fi, rfl⟩ : ∃ fi : Nat, fe = (fi : Int) := ⟨fe.toNat, by omega⟩
    obtain ⟨c, hck⟩ : ∃ c, l[ci]? = some c := ⟨l[ci]'(by omega), by simp⟩
    obtain ⟨cf, hfk⟩ : ∃ c, l[fi]? = some c := ⟨l[fi]'(by omega), by simp⟩
    have hcA : cellAt l (ci : Int) = c := by unfold cellAt; rw [Int.toNat_natCast, List.getD_eq_getElem?_getD, hck]; rfl
    have hfA : cellAt l (fi : Int) = cf := by unfold cellAt; rw [Int.toNat_natCast, List.getD_eq_getElem?_getD, hfk]; rfl
    have hkk : k = 1 ∨ k = 2 ∨ k = 3 ∨ k = 4 := by omega
    rw [hcA] at hne
    rw [Int.toNat_natCast] at hnr
    by_cases hlate : decide (k = 1 ∨ k = 3) = c.1
    · rw [if_pos hlate] at hne
      have h2 : nextR l (k, (ci : Int), (fi : Int), rs, d) = [] := by rw [hnr, hne]; rfl
      rw [hne, h2]
      exact nextK_late B a cap ra _ rc l k ci fi rs d w hl hr hB hce hre hkk c hck cf hfk hlate
    · rw [if_neg hlate] at hne
      rcases hkk with rfl | rfl | rfl | rfl
      · have e : nextC l (1, (ci : Int), (fi : Int), rs, d) = openC (rs, d) := rfl
        rw [hnr, hne, e]
        exact nextK_core B a cap ra _ rc l 1 ci fi rs d w hl hr hB hce hre (by simp) c hck cf hfk hlate _ _ (fun w' h => becomeK_open B a cap ra _ rc l ci fi rs d w' (hl.later h hB) (hpo.later h hB) (Nat.le_trans hB h.size)) (fun e => by cases e)
      · have e : nextC l (2, (ci : Int), (fi : Int), rs, d) = (if tightE c.2.1 c.2.2 (rs, d) = 0 then (((true, tightR c.2.1 c.2.2 (rs, d), rs, d) : CellT), (0 : Int)) else (zeroCell, tightE c.2.1 c.2.2 (rs, d))) := by
          show (if tightE (cellAt l (ci : Int)).2.1 (cellAt l (ci : Int)).2.2 (rs, d) = 0 then (((true, tightR (cellAt l (ci : Int)).2.1 (cellAt l (ci : Int)).2.2 (rs, d), rs, d) : CellT), (0 : Int)) else (zeroCell, tightE (cellAt l (ci : Int)).2.1 (cellAt l (ci : Int)).2.2 (rs, d))) = _
          rw [hcA]
        have e2 : (nextC l (2, (ci : Int), (fi : Int), rs, d)).2 = tightE c.2.1 c.2.2 (rs, d) := by
          rw [e]
          split
          · rename_i h; exact h.symm
          · rfl
        have e1 : (nextC l (2, (ci : Int), (fi : Int), rs, d)).1 = if tightE c.2.1 c.2.2 (rs, d) = 0 then (true, tightR c.2.1 c.2.2 (rs, d), rs, d) else zeroCell := by
          rw [e]
          split <;> rfl
        rw [hnr, hne, e1, e2]
        have hpe : polErr (rs, d) = 0 := by
          rcases hpp with h | h
          · exact h.2
          · omega
        exact nextK_core B a cap ra _ rc l 2 ci fi rs d w hl hr hB hce hre (by simp) c hck cf hfk hlate _ _ (fun w' h => becomeK_tight B a cap ra _ rc l ci fi rs d w' (hl.later h hB) (hpo.later h hB) hlen (Nat.le_trans hB h.size) hpe c hck) (fun e => by cases e)
      · obtain ⟨fo, fls, fr, fd⟩ := cf
        cases fo with
        | true =>
          have e : nextC l (3, (ci : Int), (fi : Int), rs, d) = openC (fr, fd) := by
            show (if (cellAt l (fi : Int)).1 = true then openC (cellAt l (fi : Int)).2.2 else (zeroCell, 5)) = _
            rw [hfA]
            rfl
          rw [hnr, hne, e]
          exact nextK_core B a cap ra _ rc l 3 ci fi rs d w hl hr hB hce hre (by simp) c hck _ hfk hlate _ _ (fun w' h => becomeK_fork B a cap ra _ rc l ci fi rs d w' (hl.later h hB) hlen (Nat.le_trans hB h.size) true fls fr fd hfk) (fun _ => rfl)
        | false =>
          have e : nextC l (3, (ci : Int), (fi : Int), rs, d) = (zeroCell, 5) := by
            show (if (cellAt l (fi : Int)).1 = true then openC (cellAt l (fi : Int)).2.2 else (zeroCell, 5)) = _
            rw [hfA]
            rfl
          have hco : c.1 = false := by simpa using hlate
          rw [e] at hne
          have h2 : nextR l (3, (ci : Int), (fi : Int), rs, d) = [] := by rw [hnr, hne]; rfl
          rw [hne, h2]
          exact nextK_who B a cap ra _ rc l ci fi rs d w hl hr hB hce hre c hck _ hfk hco rfl
      · have e : nextC l (4, (ci : Int), (fi : Int), rs, d) = (zeroCell, 0) := rfl
        rw [hnr, hne, e]
        exact nextK_core B a cap ra _ rc l 4 ci fi rs d w hl hr hB hce hre (by simp) c hck cf hfk hlate _ _ (fun w' h => becomeK_shut B a cap ra _ rc l ci fi rs d w' (hl.later h hB)) (fun e => by cases e)
end Go.Proofs.YtbdlojnigflanacGreatDoor
