/- Joined: Opn KMn. -/
import Derived.Test.YtbdlojnigflanacGreatDoorKb39
import Derived.Test.YtbdlojnigflanacGreatDoorKb36
import Derived.Test.YtbdlojnigflanacGreatDoorKb08
import Derived.Test.YtbdlojnigflanacGreatDoorKb21
import Derived.Test.YtbdlojnigflanacGreatDoorKb12
section
/- opened: the closed fact that every statement on sessions asks first. -/
set_option linter.all false
set_option maxRecDepth 100000
namespace Go.Proofs.YtbdlojnigflanacGreatDoor
open Go.RowKit Go.Maps

def opnD : PolT := ([([(0, 1, 3), (2, 3, 5), (0, 1, 3), (2, 3, 5)], 4), ([(1, 2, 0), (1, 2, 0)], 4), ([(3, 4, 7)], 2)], 4)
def opnRs : List RecT := [(1, 1, 0, madeP), (2, 1, 0, strictP), (3, 2, 1, [], 0)]
def opnL : List CellT := [zeroCell, (true, [polI madeP, polI opnD], strictP), (true, [polI strictP], strictP), zeroCell]
theorem opn_replay : replayP opnRs = (opnL, 0) := by decide +kernel
theorem opn_loose : nextE opnL (2, 1, 0, madeP) = 7 := by decide +kernel
theorem opn_shut : nextE opnL (4, 1, 0, [], 0) = 0 ∧ nextR opnL (4, 1, 0, [], 0) = [zeroCell, zeroCell, (true, [polI strictP], strictP), zeroCell] := by decide +kernel
theorem opn_check : cellsErr opnL = 0 := by decide +kernel

/-- What stands in the fact's last region: 36 (a policy made). -/
def JOp (W : World) (fs : Nat → Value → Prop) (w : World) : Prop := Below W.heap.size W w ∧ ∀ v, fs 36 v → PolAt w.heap.size w v strictP
theorem JOp.call {W w w' : World} {fs : Nat → Value → Prop} (h : JOp W fs w) (hb : Below w.heap.size w w') (k : Nat) (hk : 36 ≠ k) (v : Value) : JOp W (addF fs k v) w' := by
  refine ⟨Below.thenOf h.1 hb h.1.size, fun u hu => ?_⟩
  rcases hu with hu | ⟨e, _⟩
  · exact polAt_wideK ((h.2 u hu).later hb (Nat.le_refl _)) hb.size
  · exact absurd e hk
def SOp (k : Nat) (v : Value) : Prop := if k = 36 then ∃ a c, v = .agg #[.slice a 3 c, .int .i64 4] else if k = 55 then v = .int .i64 0 else v = .bool true
theorem sOp_some (k : Nat) : ∃ v, SOp k v := by
  unfold SOp
  split
  · exact ⟨_, none, 0, rfl⟩
  · split
    · exact ⟨_, rfl⟩
    · exact ⟨_, rfl⟩

set_option maxHeartbeats 8000000 in
theorem opened_true (w : World) (he : EnvAt w) :
    Calls Tryz.prog 44 #[] w fun e w' => e = .returned (.bool true) ∧ Below w.heap.size w w' := by
  have HE : Hid (∀ w', Below w.heap.size w w' → EnvAt w') := fun w' h => he.later h
  clear he
  have hml := maxLen_eq
  go_enter Tryz.func44, Tryz.ntmps44
  go_wp2_with fail
  go_at_call 58
  refine Calls.mono (made_any _ (HE.out _ (Below.refl _ _))) ?_
  rintro e w1 ⟨p1, rfl, hp1, hb1⟩
  have hq1 := hp1.at
  obtain ⟨a1, c1, rfl⟩ : ∃ a c, p1 = .agg #[.slice a 2 c, .int .i64 4] := by
    obtain ⟨rv, e1, -, da, dc, e2, -⟩ := hq1
    exact ⟨da, dc, by rw [e1, e2]; rfl⟩
  clear hp1
  go_wp2_with fail
  go_at_call 59
  refine Calls.mono (strict_any _ (HE.out _ hb1)) ?_
  rintro e w2 ⟨p2, rfl, hp2, hb2⟩
  have hq2 := hp2.at
  have hb2w : Below w.heap.size w w2 := Below.thenOf hb1 hb2 hb1.size
  obtain ⟨a2, c2, rfl⟩ : ∃ a c, p2 = .agg #[.slice a 3 c, .int .i64 4] := by
    obtain ⟨rv, e1, -, da, dc, e2, -⟩ := hq2
    exact ⟨da, dc, by rw [e1, e2]; rfl⟩
  clear hp2
  obtain ⟨W3, hW3⟩ : ∃ W3, W3 = w2.alloc (.cells #[.int .i64 1, .int .i64 1, .int .i64 0, .slice a1 2 c1, .int .i64 4, .int .i64 2, .int .i64 1, .int .i64 0, .slice a2 3 c2, .int .i64 4, .int .i64 3, .int .i64 2, .int .i64 1, .slice none 0 0, .int .i64 0] 38) := ⟨_, rfl⟩
  have hb3 : Below w2.heap.size w2 W3 := by rw [hW3]; exact (Below.refl _ _).alloc (Nat.le_refl _) _
  have hs3 : W3.heap.size = w2.heap.size + 1 := by rw [hW3]; simp
  have g3 : W3.heap[w2.heap.size]? = some (.cells #[.int .i64 1, .int .i64 1, .int .i64 0, .slice a1 2 c1, .int .i64 4, .int .i64 2, .int .i64 1, .int .i64 0, .slice a2 3 c2, .int .i64 4, .int .i64 3, .int .i64 2, .int .i64 1, .slice none 0 0, .int .i64 0] 38 (0, 0)) := by rw [hW3]; exact heap_made _ _
  have hb3w : Below w.heap.size w W3 := Below.thenOf hb2w hb3 hb2w.size
  have hR3 : RecsAt W3.heap.size W3 (.slice (some ⟨w2.heap.size, 0, none⟩) 3 3) opnRs := by
    have w0 : ∀ n : Int, 0 ≤ n ∧ n ≤ 4 → wf n := fun n h => WalkArith.wf_i64 (by omega)
    refine ⟨_, 3, rfl, Nat.le_refl _, by rw [maxLen_eq]; omega, fun i r hr => ⟨w2.heap.size, 0, rfl, by omega, ?_⟩⟩
    match i, hr with
    | 0, hr =>
      simp [opnRs] at hr
      subst hr
      exact ⟨_, heap_cell g3 0 rfl, heap_cell g3 1 rfl, heap_cell g3 2 rfl, heap_cell g3 3 rfl, heap_cell g3 4 rfl, _, rfl, w0 _ (by decide), w0 _ (by decide), w0 _ (by decide), polAt_wideK (hq1.later (Below.thenOf hb2 hb3 hb2.size) (Nat.le_refl _)) (by have := hb2.size; omega)⟩
    | 1, hr =>
      simp [opnRs] at hr
      subst hr
      exact ⟨_, heap_cell g3 5 rfl, heap_cell g3 6 rfl, heap_cell g3 7 rfl, heap_cell g3 8 rfl, heap_cell g3 9 rfl, _, rfl, w0 _ (by decide), w0 _ (by decide), w0 _ (by decide), polAt_wideK (hq2.later hb3 (Nat.le_refl _)) (by omega)⟩
    | 2, hr =>
      simp [opnRs] at hr
      subst hr
      exact ⟨_, heap_cell g3 10 rfl, heap_cell g3 11 rfl, heap_cell g3 12 rfl, heap_cell g3 13 rfl, heap_cell g3 14 rfl, _, rfl, w0 _ (by decide), w0 _ (by decide), w0 _ (by decide), polAt_zero _ _⟩
    | i + 3, hr => simp [opnRs] at hr
  have HRp : Hid (Calls Tryz.prog 50 #[.slice (some ⟨w2.heap.size, 0, none⟩) 3 3] W3 fun e w' => ∃ la lc, e = .returned (.tuple #[.slice la 4 lc, .int .i64 0]) ∧ CellsAt w'.heap.size w' (.slice la 4 lc) opnL ∧ Below W3.heap.size W3 w') := by
    have := replayKp_any W3.heap.size _ opnRs W3 hR3 (Nat.le_refl _)
    rw [opn_replay] at this
    refine this.mono fun e w' ⟨v, h1, h2, h3⟩ => ?_
    obtain ⟨la, lc, ev, -, -⟩ := h2.shape
    subst ev
    exact ⟨la, lc, h1, h2, h3⟩
  have HW3 : Hid (W3 = _) := hW3
  clear hW3 hb3 hs3 g3 hR3 hq1 hq2 hb1 hb2 hb2w
  go_wp2_with fail
  rw [← HW3.out]
  go_at_call 50
  refine Calls.mono HRp.out ?_
  rintro e w4 ⟨la, lc, rfl, hl4, hb4⟩
  have hb4w : Below w.heap.size w w4 := Below.thenOf hb3w hb4 hb3w.size
  have HL4 : Hid (∀ w', Below w4.heap.size w4 w' → CellsAt w4.heap.size w' (.slice la 4 lc) opnL) := fun w' h => hl4.later h (Nat.le_refl _)
  clear hl4 hb4 HRp hb3w
  go_wp2_with fail
  go_at_call 58
  refine Calls.mono (made_any _ (HE.out _ hb4w)) ?_
  rintro e w5 ⟨p5, rfl, hp5, hb5⟩
  have hq5 := hp5.at
  have hb5w : Below w.heap.size w w5 := Below.thenOf hb4w hb5 hb4w.size
  obtain ⟨a5, c5, rfl⟩ : ∃ a c, p5 = .agg #[.slice a 2 c, .int .i64 4] := by
    obtain ⟨rv, e1, -, da, dc, e2, -⟩ := hq5
    exact ⟨da, dc, by rw [e1, e2]; rfl⟩
  have HN5 : Hid (Calls Tryz.prog 42 #[.slice la 4 lc, .agg #[.int .i64 2, .int .i64 1, .int .i64 0, .slice a5 2 c5, .int .i64 4]] w5 fun e w' => ∃ na nn nc, e = .returned (.tuple #[.slice na nn nc, .int .i64 7]) ∧ Below w5.heap.size w5 w') := by
    have w0 : ∀ n : Int, 0 ≤ n ∧ n ≤ 4 → wf n := fun n h => WalkArith.wf_i64 (by omega)
    have := nextKp_any w5.heap.size _ (.agg #[.int .i64 2, .int .i64 1, .int .i64 0, .slice a5 2 c5, .int .i64 4]) opnL (2, 1, 0, madeP) w5 ((HL4.out _ hb5).wide hb5.size) ⟨_, rfl, w0 _ (by decide), w0 _ (by decide), w0 _ (by decide), hq5⟩ (Nat.le_refl _)
    rw [opn_loose] at this
    refine this.mono fun e w' ⟨v, h1, h2, h3⟩ => ?_
    obtain ⟨na, nc, ev, -, -⟩ := h2.shape
    subst ev
    exact ⟨na, _, nc, h1, h3⟩
  clear hp5 hq5
  go_wp2_with fail
  go_at_call 42
  refine Calls.mono HN5.out ?_
  rintro e w6 ⟨na, nn, nc, rfl, hb6⟩
  have hb46 : Below w4.heap.size w4 w6 := Below.thenOf hb5 hb6 hb5.size
  have hb6w : Below w.heap.size w w6 := Below.thenOf hb5w hb6 hb5w.size
  have HN6 : Hid (Calls Tryz.prog 42 #[.slice la 4 lc, .agg #[.int .i64 4, .int .i64 1, .int .i64 0, .slice none 0 0, .int .i64 0]] w6 fun e w' => ∃ ma mc, e = .returned (.tuple #[.slice ma 4 mc, .int .i64 0]) ∧ CellsAt w'.heap.size w' (.slice ma 4 mc) [zeroCell, zeroCell, (true, [polI strictP], strictP), zeroCell] ∧ Below w6.heap.size w6 w') := by
    have w0 : ∀ n : Int, 0 ≤ n ∧ n ≤ 4 → wf n := fun n h => WalkArith.wf_i64 (by omega)
    have := nextKp_any w6.heap.size _ (.agg #[.int .i64 4, .int .i64 1, .int .i64 0, .slice none 0 0, .int .i64 0]) opnL (4, 1, 0, [], 0) w6 ((HL4.out _ hb46).wide hb46.size) ⟨_, rfl, w0 _ (by decide), w0 _ (by decide), w0 _ (by decide), polAt_zero _ _⟩ (Nat.le_refl _)
    rw [opn_shut.1, opn_shut.2] at this
    refine this.mono fun e w' ⟨v, h1, h2, h3⟩ => ?_
    obtain ⟨na, nc, ev, -, -⟩ := h2.shape
    subst ev
    exact ⟨na, nc, h1, h2, h3⟩
  clear HN5 hb5 hb6 hb5w
  go_wp2_with fail
  go_at_call 42
  refine Calls.mono HN6.out ?_
  rintro e w7 ⟨ma, mc, rfl, hm7, hb7⟩
  have hb47 : Below w4.heap.size w4 w7 := Below.thenOf hb46 hb7 hb46.size
  have hb7w : Below w.heap.size w w7 := Below.thenOf hb6w hb7 hb6w.size
  obtain ⟨_, _, el, -, -, hat⟩ := HL4.out _ hb47
  simp at el
  obtain ⟨rfl, -, -⟩ := el
  obtain ⟨b, o, e0, hb0, hin0⟩ := hat 0 _ rfl
  subst e0
  obtain ⟨_, _, e1, -, hin1⟩ := hat 1 _ rfl
  simp at e1
  obtain ⟨rfl, rfl⟩ := e1
  obtain ⟨_, _, e2, -, hin2⟩ := hat 2 _ rfl
  simp at e2
  obtain ⟨rfl, rfl⟩ := e2
  obtain ⟨_, _, em, -, -, hatm⟩ := id hm7
  simp at em
  obtain ⟨rfl, -⟩ := em
  obtain ⟨mb, mo, e3, hmb, hinm⟩ := hatm 1 _ rfl
  subst e3
  obtain ⟨-, -, -, -, x0, -⟩ := hin0.vals
  obtain ⟨l1, lc1, r1, rc1, -, x1, -, -, -, -⟩ := hin1.vals
  obtain ⟨l2, lc2, r2, rc2, -, x2, x3, x4, -, hp2⟩ := hin2.vals
  obtain ⟨-, -, -, -, x5, -⟩ := hinm.vals
  have hb7m : mb < w7.heap.size := hmb
  have hb7l : b < w7.heap.size := Nat.lt_of_lt_of_le hb0 hb47.size
  have HX : Hid (∀ w', Below w7.heap.size w7 w' → w'.cell? ⟨b, o, none⟩ = some (.bool false) ∧ w'.cell? ⟨b, o + 5, none⟩ = some (.slice l1 2 lc1) ∧ w'.cell? ⟨b, o + 9, none⟩ = some (.slice l2 1 lc2) ∧ w'.cell? ⟨b, o + 10, none⟩ = some (.slice r2 3 rc2) ∧ w'.cell? ⟨b, o + 11, none⟩ = some (.int .i64 4) ∧ w'.cell? ⟨mb, mo + 4, none⟩ = some (.bool false) ∧ Below w.heap.size w w' ∧ Below w4.heap.size w4 w') := fun w' h =>
    ⟨(h.cell (p := ⟨b, o, none⟩) hb7l).trans x0, (h.cell (p := ⟨b, o + 5, none⟩) hb7l).trans x1, (h.cell (p := ⟨b, o + 9, none⟩) hb7l).trans x2, (h.cell (p := ⟨b, o + 10, none⟩) hb7l).trans x3, (h.cell (p := ⟨b, o + 11, none⟩) hb7l).trans x4, (h.cell (p := ⟨mb, mo + 4, none⟩) hb7m).trans x5, Below.thenOf hb7w h hb7w.size, Below.thenOf hb47 h hb47.size⟩
  have HP2 : Hid (∀ w', Below w7.heap.size w7 w' → PolAt w4.heap.size w' (.agg #[.slice r2 3 rc2, .int .i64 4]) strictP) := fun w' h => hp2.later h hb47.size
  clear hp2 x0 x1 x2 x3 x4 x5 hin0 hin1 hin2 hinm hat hatm hm7 hb7 HN6 hb46 hb6w hb0 hmb
  have HSt : Hid (∀ w', Below w7.heap.size w7 w' → Calls Tryz.prog 59 #[] w' fun e w'' => ∃ a c, e = .returned (.agg #[.slice a 3 c, .int .i64 4]) ∧ PolAt w''.heap.size w'' (.agg #[.slice a 3 c, .int .i64 4]) strictP ∧ Below w'.heap.size w' w'') := fun w' h => by
    refine (strict_any w' (HE.out _ (HX.out w' h).2.2.2.2.2.2.1)).mono fun e w'' ⟨v, h1, h2, h3⟩ => ?_
    obtain ⟨a, c, rfl⟩ : ∃ a c, v = .agg #[.slice a 3 c, .int .i64 4] := by
      obtain ⟨rv, e1, -, da, dc, e2, -⟩ := h2.at
      exact ⟨da, dc, by rw [e1, e2]; rfl⟩
    exact ⟨a, c, h1, h2.at, h3⟩
  have HSa : Hid (∀ w' v, Below w7.heap.size w7 w' → PolAt w'.heap.size w' v strictP → Calls Tryz.prog 80 #[.agg #[.slice r2 3 rc2, .int .i64 4], v] w' fun e w'' => e = .returned (.bool true) ∧ Below w'.heap.size w' w'') := fun w' v h h1 => by
    have := same_any w'.heap.size _ v strictP strictP w' (polAt_wideK (HP2.out w' h) (HX.out w' h).2.2.2.2.2.2.2.size) h1 (Nat.le_refl _)
    simpa using this
  have HCk : Hid (∀ w', Below w7.heap.size w7 w' → Calls Tryz.prog 45 #[.slice (some ⟨b, o, none⟩) 4 lc] w' fun e w'' => e = .returned (.int .i64 0) ∧ Below w'.heap.size w' w'') := fun w' h => by
    have := checkKp_any w4.heap.size _ opnL w' (HL4.out _ (HX.out w' h).2.2.2.2.2.2.2) (HX.out w' h).2.2.2.2.2.2.2.size
    rw [opn_check] at this
    exact this
  have HSm : Hid (∀ w', Below w7.heap.size w7 w' → Calls Tryz.prog 47 #[.slice (some ⟨b, o, none⟩) 4 lc, .slice (some ⟨b, o, none⟩) 4 lc] w' fun e w'' => e = .returned (.bool true) ∧ Below w'.heap.size w' w'') := fun w' h => by
    have := sameKp_any w4.heap.size _ _ opnL opnL w' (HL4.out _ (HX.out w' h).2.2.2.2.2.2.2) (HL4.out _ (HX.out w' h).2.2.2.2.2.2.2) (HX.out w' h).2.2.2.2.2.2.2.size
    simpa using this
  have hne := Later.ne w7
  have hDJ : Hid (∀ fs w', JOp w7 fs w' → ∃ z : Later w7, w' = z.1) := fun fs w' h => ⟨⟨w', h.1⟩, rfl⟩
  have s0 : ∀ z : Later w7, z.1.cell? ⟨b, o, none⟩ = some (.bool false) := fun z => (HX.out z.1 z.2).1
  have s1 : ∀ z : Later w7, z.1.cell? ⟨b, o + 5, none⟩ = some (.slice l1 2 lc1) := fun z => (HX.out z.1 z.2).2.1
  have s2 : ∀ z : Later w7, z.1.cell? ⟨b, o + 9, none⟩ = some (.slice l2 1 lc2) := fun z => (HX.out z.1 z.2).2.2.1
  have s3 : ∀ z : Later w7, z.1.cell? ⟨b, o + 10, none⟩ = some (.slice r2 3 rc2) := fun z => (HX.out z.1 z.2).2.2.2.1
  have s4 : ∀ z : Later w7, z.1.cell? ⟨b, o + 11, none⟩ = some (.int .i64 4) := fun z => (HX.out z.1 z.2).2.2.2.2.1
  have s5 : ∀ z : Later w7, z.1.cell? ⟨mb, mo + 4, none⟩ = some (.bool false) := fun z => (HX.out z.1 z.2).2.2.2.2.2.1
  clear HL4 HP2
  go_wp2_with fail
  refine wp_region_all (fun k => k == 36 || k == 37 || k == 55 || k == 61) (JOp w7) SOp sOp_some (by kernel_rfl) (by kernel_rfl) ⟨(Below.refl _ _).drew, fun _ h => h.elim⟩ ?_
  iterate 12 (refine wpG_read hDJ.out rfl rfl ?_; go_big_quiet_step (fail); refine wpQuiet_nil ?_)
  refine wpG_readV (.int .i64 4) rfl rfl (fun w' => ?_) ?_
  · clear hDJ hne s0 s1 s2 s3 s4 s5
    go_simp
  simp only [Act.put, List.setIfInBounds_toArray, List.set_cons_succ, List.set_cons_zero]
  iterate 7 (refine wpG_read hDJ.out rfl rfl ?_; go_big_quiet_step (fail); refine wpQuiet_nil ?_)
  refine wpG_readV (.int .i64 2) rfl rfl (fun w' => ?_) ?_
  · clear hDJ hne s0 s1 s2 s3 s4 s5
    go_simp
  simp only [Act.put, List.setIfInBounds_toArray, List.set_cons_succ, List.set_cons_zero]
  iterate 7 (refine wpG_read hDJ.out rfl rfl ?_; go_big_quiet_step (fail); refine wpQuiet_nil ?_)
  refine wpG_readV (.int .i64 1) rfl rfl (fun w' => ?_) ?_
  · clear hDJ hne s0 s1 s2 s3 s4 s5
    go_simp
  simp only [Act.put, List.setIfInBounds_toArray, List.set_cons_succ, List.set_cons_zero]
  iterate 7 (refine wpG_read hDJ.out rfl rfl ?_; go_big_quiet_step (fail); refine wpQuiet_nil ?_)
  refine wpG_call 59 #[] rfl rfl (fun w' => by kernel_rfl) (fun gs w' hJ hdep hno => ?_) (fun v1 hv1 => ?_)
  · refine (HSt.out w' hJ.1).mono ?_
    rintro e w8 ⟨a8, c8, rfl, hq8, hb8⟩
    refine ⟨_, rfl, ⟨a8, c8, rfl⟩, Below.thenOf hJ.1 hb8 hJ.1.size, fun v hv => ?_⟩
    rcases hv with hv | ⟨_, rfl⟩
    · exact absurd hv (hno v)
    · exact hq8
  simp only [Act.put, List.setIfInBounds_toArray, List.set_cons_succ, List.set_cons_zero]
  obtain ⟨a8, c8, rfl⟩ : ∃ a c, v1 = .agg #[.slice a 3 c, .int .i64 4] := hv1
  refine wpG_call 80 #[.agg #[.slice r2 3 rc2, .int .i64 4], .agg #[.slice a8 3 c8, .int .i64 4]] rfl rfl (fun w' => by kernel_rfl) (fun gs w' hJ hdep hno => ?_) (fun v2 hv2 => ?_)
  · refine (HSa.out w' _ hJ.1 (hJ.2 _ (hdep 36 _ (.inr ⟨rfl, rfl⟩) (waitsB_spec (by kernel_rfl))))).mono ?_
    rintro e w8 ⟨rfl, hb8⟩
    exact ⟨_, rfl, rfl, hJ.call hb8 37 (by decide) _⟩
  simp only [Act.put, List.setIfInBounds_toArray, List.set_cons_succ, List.set_cons_zero]
  obtain rfl : v2 = .bool true := hv2
  iterate 17 (refine wpG_read hDJ.out rfl rfl ?_; go_big_quiet_step (fail); refine wpQuiet_nil ?_)
  refine wpG_call 45 #[.slice (some ⟨b, o, none⟩) 4 lc] rfl rfl (fun w' => by kernel_rfl) (fun gs w' hJ hdep hno => ?_) (fun v3 hv3 => ?_)
  · refine (HCk.out w' hJ.1).mono ?_
    rintro e w8 ⟨rfl, hb8⟩
    exact ⟨_, rfl, rfl, hJ.call hb8 55 (by decide) _⟩
  simp only [Act.put, List.setIfInBounds_toArray, List.set_cons_succ, List.set_cons_zero]
  obtain rfl : v3 = .int .i64 0 := hv3
  iterate 5 (refine wpG_read hDJ.out rfl rfl ?_; go_big_quiet_step (fail); refine wpQuiet_nil ?_)
  refine wpG_call 47 #[.slice (some ⟨b, o, none⟩) 4 lc, .slice (some ⟨b, o, none⟩) 4 lc] rfl rfl (fun w' => by kernel_rfl) (fun gs w' hJ hdep hno => ?_) (fun v4 hv4 => ?_)
  · refine (HSm.out w' hJ.1).mono ?_
    rintro e w8 ⟨rfl, hb8⟩
    exact ⟨_, rfl, rfl, hJ.call hb8 61 (by decide) _⟩
  simp only [Act.put, List.setIfInBounds_toArray, List.set_cons_succ, List.set_cons_zero]
  obtain rfl : v4 = .bool true := hv4
  iterate 2 (refine wpG_read hDJ.out rfl rfl ?_; go_big_quiet_step (fail); refine wpQuiet_nil ?_)
  refine wpG_nil ?_
  intro w9 hJ9
  have hbw9 : Hid (Below w.heap.size w w9) := (HX.out w9 hJ9.1).2.2.2.2.2.2.1
  clear hJ9 s0 s1 s2 s3 s4 s5 hDJ hne HX
  go_wp2_with fail
  go_ret
  exact ⟨rfl, hbw9.out⟩
end Go.Proofs.YtbdlojnigflanacGreatDoor
end
section
/- KeeperMeans returns true, whatever the records and the call, in whatever memory. -/
set_option linter.all false
set_option maxRecDepth 100000
namespace Go.Proofs.YtbdlojnigflanacGreatDoor
open Go.RowKit Go.Maps

theorem five_atK {w : World} {b : Nat} {y : Nat → Int} {T : TypeId} (h : w.heap[b]? = some (.cells (cellsX y) T (0, 0))) : w.cell? ⟨b, 0, none⟩ = some (.int .i64 (y 0)) ∧ w.cell? ⟨b, 1, none⟩ = some (.int .i64 (y 1)) ∧ w.cell? ⟨b, 2, none⟩ = some (.int .i64 (y 2)) ∧ w.cell? ⟨b, 3, none⟩ = some (.int .i64 (y 3)) ∧ w.cell? ⟨b, 4, none⟩ = some (.int .i64 (y 4)) :=
  ⟨(cellsX_at h).1 0 (by omega), (cellsX_at h).1 1 (by omega), (cellsX_at h).1 2 (by omega), (cellsX_at h).1 3 (by omega), (cellsX_at h).1 4 (by omega)⟩

set_option maxHeartbeats 16000000 in
theorem keeperMeans_any (B : Nat) (lv : Value) (rs : List RecT) (x : Nat → Int) (w : World) (he : EnvAt w) (hl : RecsAt B w lv rs) (hB : B ≤ w.heap.size) :
    Calls Tryz.prog 10 #[lv, callV x] w fun e w' => e = .returned (.bool true) ∧ Below w.heap.size w w' := by
  have HO : Hid (∀ w', Below w.heap.size w w' → Calls Tryz.prog 44 #[] w' fun e w'' => e = .returned (.bool true) ∧ Below w'.heap.size w' w'') := fun w' h => opened_true w' (he.later h)
  have HR : Hid (∀ w', Calls Tryz.prog 13 #[callV x] w' fun e w'' => e = .returned (callV (rx x)) ∧ Below w'.heap.size w' w'') := fun w' => right_any x w'
  have HRp : Hid (∀ w', Below w.heap.size w w' → Calls Tryz.prog 50 #[lv] w' fun e w'' => ∃ a n c, e = .returned (.tuple #[.slice a n c, .int .i64 (replayP rs).2]) ∧ CellsAt w''.heap.size w'' (.slice a n c) (replayP rs).1 ∧ Below w'.heap.size w' w'') := fun w' h => by
    refine (replayKp_any B lv rs w' (hl.later h hB) (Nat.le_trans hB h.size)).mono fun e w'' ⟨v, h1, h2, h3⟩ => ?_
    obtain ⟨a, c, ev, -, -⟩ := h2.shape
    subst ev
    exact ⟨a, _, c, h1, h2, h3⟩
  have HAs : Hid (∀ (C : Nat) (cv : Value) (cs : ChT) (y : Nat → Int) w', ChsAt C w' cv cs → C ≤ w'.heap.size → Calls Tryz.prog 52 #[cv, .agg #[.int .i64 (y 0), .int .i64 (y 1), .int .i64 (y 2), .int .i64 (y 3), .int .i64 (y 4)]] w' fun e w'' => e = .returned (.tuple #[.int .i64 (askV cs y), .int .i64 (askE cs y)]) ∧ Below w'.heap.size w' w'') := fun C cv cs y w' h1 h2 => askD_any C cv cs y w' h1 h2
  have HJu : Hid (∀ (C : Nat) (pv : Value) (p : PolT) (y : Nat → Int) w', PolAt C w' pv p → C ≤ w'.heap.size → Calls Tryz.prog 16 #[pv, .agg #[.int .i64 (y 0), .int .i64 (y 1), .int .i64 (y 2), .int .i64 (y 3), .int .i64 (y 4)]] w' fun e w'' => e = .returned (.tuple #[.int .i64 (judgeP p y).1, .int .i64 (judgeP p y).2.1, .int .i64 (judgeP p y).2.2]) ∧ Below w'.heap.size w' w'') := fun C pv p y w' h1 h2 => judge_any C pv p y w' h1 h2
  have HGd : Hid ((replayP rs).2 = 0 → Good (replayP rs).1) := fun h => replayP_good h
  have HOk : Hid (chkx (rx x) = 0) := right_ok x
  obtain ⟨a, cap, elv, -, -, -⟩ := id hl
  subst elv
  generalize rs.length = n at *
  clear hl he
  generalize (replayP rs).2 = re at *
  generalize (replayP rs).1 = cs at *
  unfold callV at HR ⊢
  generalize rx x = y at *
  obtain ⟨W0, hW0⟩ : ∃ W0, W0 = w.alloc (.cells #[.int .i64 (x 0), .int .i64 (x 1), .int .i64 (x 2), .int .i64 (x 3), .int .i64 (x 4)] 26) := ⟨_, rfl⟩
  have bw0 : Below w.heap.size w W0 := by rw [hW0]; exact (Below.refl _ _).alloc (Nat.le_refl _) _
  have hx0 : W0.heap[w.heap.size]? = some (.cells (cellsX x) 26 (0, 0)) := by rw [hW0]; exact heap_made _ _
  have HW0 : Hid (W0 = _) := hW0
  clear hW0
  go_enter Tryz.func10, Tryz.ntmps10
  go_wp2_with fail
  rw [← HW0.out]
  go_at_call 13
  refine Calls.mono (HR.out _) ?_
  rintro e w1 ⟨rfl, b01⟩
  have X1 := (b01.block _ (lt_of_block hx0)).trans hx0
  obtain ⟨z0, z1, z2, z3, z4⟩ := five_atK X1
  have Zf := (cellsX_at X1).2
  have f0 := Zf 0
  have f1 := Zf 1
  have f2 := Zf 2
  have f3 := Zf 3
  have f4 := Zf 4
  have HX1 : Hid (w1.heap[w.heap.size]? = some (.cells (cellsX x) 26 (0, 0))) := X1
  obtain ⟨W1, hW1⟩ : ∃ W1, W1 = ((((w1.setCell ⟨w.heap.size, 0, none⟩ (.int .i64 (y 0))).setCell ⟨w.heap.size, 1, none⟩ (.int .i64 (y 1))).setCell ⟨w.heap.size, 2, none⟩ (.int .i64 (y 2))).setCell ⟨w.heap.size, 3, none⟩ (.int .i64 (y 3))).setCell ⟨w.heap.size, 4, none⟩ (.int .i64 (y 4)) := ⟨_, rfl⟩
  have hx1 : W1.heap[w.heap.size]? = some (.cells (cellsX y) 26 (0, 0)) := by rw [hW1]; exact callBox HX1.out
  have b1 : Below w.heap.size w1 W1 := by rw [hW1]; exact callBox_below (Below.refl _ _) (Nat.le_refl _)
  have bw1 : Below w.heap.size w W1 := (Below.thenOf bw0 b01 bw0.size).trans b1
  have HK : Hid (∀ w', Below W1.heap.size W1 w' → w'.heap[w.heap.size]? = some (.cells (cellsX y) 26 (0, 0)) ∧ Below w.heap.size w w') := fun w' h => ⟨(h.block _ (lt_of_block hx1)).trans hx1, Below.thenOf bw1 h bw1.size⟩
  have HW1 : Hid (W1 = _) := hW1
  have HBw1 : Hid (Below w.heap.size w W1) := bw1
  clear Zf X1 hx0 hW1 hx1 b1 bw1 b01 bw0 HX1
  go_wp2_with fail
  rw [← HW1.out]
  go_at_call 50
  refine Calls.mono (HRp.out _ HBw1.out) ?_
  rintro e w2 ⟨ca, cn, cc, rfl, hc2, hb2⟩
  have hb2w := (HK.out w2 hb2).2
  have HC2 : Hid (∀ w', Below w2.heap.size w2 w' → CellsAt w2.heap.size w' (.slice ca cn cc) cs) := fun w' h => hc2.later h (Nat.le_refl _)
  have hcn : Hid (cn = cs.length) := by
    obtain ⟨_, _, e, -⟩ := hc2
    simp at e
    exact e.2.1
  have HB2 : Hid (Below W1.heap.size W1 w2) := hb2
  clear hc2 z0 z1 z2 z3 z4 f0 f1 f2 f3 f4 HR HRp
  go_wp2_with fail
  go_at_call 44
  refine Calls.mono (HO.out _ hb2w) ?_
  rintro e w3 ⟨rfl, hb3⟩
  have hb3w : Below w.heap.size w w3 := Below.thenOf hb2w hb3 hb2w.size
  by_cases hre : re = 0
  case neg =>
    have hq : (re != 0) = true := by simpa using hre
    clear hcn HC2 HGd hb2 hb2w HB2
    go_wp2_with fail
    go_at_call 44
    refine Calls.mono (HO.out _ hb3w) ?_
    rintro e w4 ⟨rfl, hb4⟩
    have HZ : Hid (Below w.heap.size w w4) := Below.thenOf hb3w hb4 hb3w.size
    clear hb4
    go_wp2_with fail
    go_ret
    exact ⟨rfl, HZ.out⟩
  case pos =>
    subst hre
    have HG : Hid (Good cs) := HGd.out rfl
    obtain rfl : cn = 4 := by rw [hcn.out]; exact HG.out.1
    have HB3 : Hid (Below w2.heap.size w2 w3 ∧ Below W1.heap.size W1 w3) := ⟨hb3, Below.thenOf hb2 hb3 hb2.size⟩
    clear hcn HGd hb2 hb2w HB2 hb3 hb3w HO
    go_wp2_with fail
    go_loopw [30] (fun iv wr => ∃ k : Nat, k ≤ 4 ∧ iv = .int .i64 k ∧ Hid (Below w2.heap.size w2 wr ∧ Below W1.heap.size W1 wr)) (fun iv _ => 4 - (intOf iv).toNat)
    case atStart => exact ⟨0, by omega, rfl, HB3⟩
    case round =>
      obtain ⟨k, hk, rfl, HBr⟩ := hrel
      obtain ⟨wo, hwo⟩ : ∃ x, x = wr := ⟨_, rfl⟩
      subst hwo
      have i0 : (0 : Int) ≤ (k : Int) := by omega
      by_cases hlt : k < 4
      · have i1 : (k : Int) < 4 := by omega
        obtain ⟨c, hck⟩ : ∃ c, cs[k]? = some c := ⟨cs[k]'(by rw [HG.out.1]; omega), by simp⟩
        have hok := HG.out.2 c (List.mem_of_getElem? hck)
        obtain ⟨_, _, e1, -, -, hat⟩ := HC2.out _ HBr.out.1
        obtain ⟨b, o, e, hbB, hin⟩ := hat k c hck
        simp at e1
        obtain ⟨rfl, -, -⟩ := e1
        subst e
        obtain ⟨la, lc, pa, pc, c0, c1, c2, c3, hch, hpo⟩ := hin.vals
        have hbl : b < wo.heap.size := Nat.lt_of_lt_of_le hbB HBr.out.1.size
        have hs2 := HBr.out.1.size
        obtain ⟨W5, hW5⟩ : ∃ W5, W5 = wo.alloc (.cells #[.bool c.1, .slice la c.2.1.length lc, .slice pa c.2.2.1.length pc, .int .i64 c.2.2.2] 77) := ⟨_, rfl⟩
        have hb5 : Below wo.heap.size wo W5 := by rw [hW5]; exact (Below.refl _ _).alloc (Nat.le_refl _) _
        have g5 : W5.heap[wo.heap.size]? = some (.cells #[.bool c.1, .slice la c.2.1.length lc, .slice pa c.2.2.1.length pc, .int .i64 c.2.2.2] 77 (0, 0)) := by rw [hW5]; exact heap_made _ _
        have HA : Hid (Calls Tryz.prog 52 #[.slice la c.2.1.length lc, .agg #[.int .i64 (y 0), .int .i64 (y 1), .int .i64 (y 2), .int .i64 (y 3), .int .i64 (y 4)]] W5 fun e w'' => e = .returned (.tuple #[.int .i64 (askV c.2.1 y), .int .i64 (askE c.2.1 y)]) ∧ Below W5.heap.size W5 w'') := HAs.out w2.heap.size _ c.2.1 y W5 (hch.later hb5 hs2) (Nat.le_trans hs2 hb5.size)
        have HJ : Hid (∀ w', Below W5.heap.size W5 w' → Calls Tryz.prog 16 #[.agg #[.slice pa c.2.2.1.length pc, .int .i64 c.2.2.2], .agg #[.int .i64 (y 0), .int .i64 (y 1), .int .i64 (y 2), .int .i64 (y 3), .int .i64 (y 4)]] w' fun e w'' => e = .returned (.tuple #[.int .i64 (judgeP c.2.2 y).1, .int .i64 (judgeP c.2.2 y).2.1, .int .i64 (judgeP c.2.2 y).2.2]) ∧ Below w'.heap.size w' w'') := fun w' h => HJu.out w2.heap.size _ c.2.2 y w' (hpo.later (Below.thenOf hb5 h hb5.size) hs2) (Nat.le_trans hs2 (Nat.le_trans hb5.size h.size))
        have HBo : Hid (∀ w', Below W5.heap.size W5 w' → Below w2.heap.size w2 w' ∧ Below W1.heap.size W1 w' ∧ w'.cell? ⟨wo.heap.size, 2, none⟩ = some (.slice pa c.2.2.1.length pc) ∧ w'.cell? ⟨wo.heap.size, 3, none⟩ = some (.int .i64 c.2.2.2) ∧ wo.heap.size < w'.heap.size ∧ w.heap.size < w'.heap.size) := fun w' h => by
          have g := (h.block _ (lt_of_block g5)).trans g5
          have hb := Below.thenOf hb5 h hb5.size
          have hW := Below.thenOf HBr.out.2 hb HBr.out.2.size
          exact ⟨Below.thenOf HBr.out.1 hb HBr.out.1.size, hW, heap_cell g 2 rfl, heap_cell g 3 rfl, lt_of_block g, lt_of_block (HK.out w' hW).1⟩
        have HOk2 : Hid (c.1 = true → askE c.2.1 y = 0 ∧ askV c.2.1 y = vP c.2.2 y ∧ judgeP c.2.2 y = (vP c.2.2 y, (judgeP c.2.2 y).2.1, 0)) := fun h => ok_asks hok h HOk.out
        obtain ⟨x0, x1, x2, x3, x4⟩ := five_atK (HK.out wo HBr.out.2).1
        have hwl : w.heap.size < wo.heap.size := lt_of_block (HK.out wo HBr.out.2).1
        have HW5 : Hid (W5 = _) := hW5
        have HB5 : Hid (Below W5.heap.size W5 W5) := Below.refl _ _
        clear hat hin hch hpo hok hck hW5 hb5 g5
        generalize c.2.1.length = n1 at *
        generalize c.2.2.1.length = n2 at *
        obtain ⟨co, hco⟩ : ∃ co, co = c.1 := ⟨_, rfl⟩
        rw [← hco] at c0 HOk2 HW5
        clear hco
        cases co with
        | false =>
          have HB7 : Hid (Below w2.heap.size w2 W5 ∧ Below W1.heap.size W1 W5) := by
            have h := HBo.out W5 HB5.out
            exact ⟨h.1, h.2.1⟩
          rw [HW5.out] at HB7
          clear HA HJ HOk2 HBo HB5 HW5
          go_wp2_with fail
          exact ⟨⟨k + 1, by omega, by go_num, HB7⟩, by simp [intOf]; omega⟩
        | true =>
          obtain ⟨k1, k2, k3⟩ := HOk2.out rfl
          rw [k1, k2] at HA
          rw [k3] at HJ
          clear HOk2 k1 k2 k3
          generalize vP c.2.2 y = vv at *
          generalize (judgeP c.2.2 y).2.1 = vj at *
          go_wp2_with fail
          rw [← HW5.out]
          go_at_call 52
          refine Calls.mono HA.out ?_
          rintro e w6 ⟨rfl, hb6⟩
          obtain ⟨-, hB6, q2, q3, l6, l6'⟩ := HBo.out w6 hb6
          obtain ⟨u0, u1, u2, u3, u4⟩ := five_atK (HK.out w6 hB6).1
          clear x0 x1 x2 x3 x4
          go_wp2_with fail
          go_at_call 16
          refine Calls.mono (HJ.out _ hb6) ?_
          rintro e w7 ⟨rfl, hb7⟩
          have HB7 : Hid (Below w2.heap.size w2 w7 ∧ Below W1.heap.size W1 w7) := by
            have h := HBo.out w7 (Below.thenOf hb6 hb7 hb6.size)
            exact ⟨h.1, h.2.1⟩
          clear hb6 hb7 u0 u1 u2 u3 u4 q2 q3
          go_wp2_with fail
          exact ⟨⟨k + 1, by omega, by go_num, HB7⟩, by simp [intOf]; omega⟩
      · have HZ : Hid (Below w.heap.size w wo) := (HK.out wo HBr.out.2).2
        go_wp2_with fail
        go_ret
        exact ⟨rfl, HZ.out⟩
end Go.Proofs.YtbdlojnigflanacGreatDoor
end
