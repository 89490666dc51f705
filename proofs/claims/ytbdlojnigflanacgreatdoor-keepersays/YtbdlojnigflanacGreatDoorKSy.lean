/- KeeperSays returns true, whatever the sessions and the record, in whatever memory. -/
import Derived.Test.YtbdlojnigflanacGreatDoorKa44
set_option linter.all false
set_option maxRecDepth 100000
namespace Go.Proofs.YtbdlojnigflanacGreatDoor
open Go.RowKit Go.Maps

/-- What stands in KeeperSays' last region: 18 (new sessions), 19 (others, made). -/
def JKs (W : World) (fs : Nat → Value → Prop) (w : World) : Prop := Below W.heap.size W w ∧ (∀ v, fs 18 v → CellsAt w.heap.size w v newCells) ∧ ∀ v, fs 19 v → CellsAt w.heap.size w v newCells
theorem JKs.later {W w w' : World} {fs : Nat → Value → Prop} (h : JKs W fs w) (hb : Below w.heap.size w w') : JKs W fs w' := ⟨Below.thenOf h.1 hb h.1.size, fun v hv => ((h.2.1 v hv).later hb (Nat.le_refl _)).wide hb.size, fun v hv => ((h.2.2 v hv).later hb (Nat.le_refl _)).wide hb.size⟩
theorem JKs.call {W w w' : World} {fs : Nat → Value → Prop} (h : JKs W fs w) (hb : Below w.heap.size w w') (k : Nat) (h18 : 18 ≠ k) (h19 : 19 ≠ k) (v : Value) : JKs W (addF fs k v) w' := by
  have h := h.later hb
  refine ⟨h.1, fun u hu => ?_, fun u hu => ?_⟩
  · rcases hu with hu | ⟨e, _⟩
    · exact h.2.1 u hu
    · exact absurd e h18
  · rcases hu with hu | ⟨e, _⟩
    · exact h.2.2 u hu
    · exact absurd e h19
theorem JKs.made {W w w' : World} {fs : Nat → Value → Prop} (h : JKs W fs w) (hb : Below w.heap.size w w') (k : Nat) (v : Value) (hv : CellsAt w'.heap.size w' v newCells) : JKs W (addF fs k v) w' := by
  have h := h.later hb
  refine ⟨h.1, fun u hu => ?_, fun u hu => ?_⟩
  · rcases hu with hu | ⟨_, rfl⟩
    · exact h.2.1 u hu
    · exact hv
  · rcases hu with hu | ⟨_, rfl⟩
    · exact h.2.2 u hu
    · exact hv
def SKs (ce : Int) (eq : Bool) (k : Nat) (v : Value) : Prop := if k = 3 ∨ k = 5 then v = .int .i64 ce else if k = 11 ∨ k = 14 then v = .bool eq else if k = 18 then ∃ a n c, v = .slice a n c else if k = 19 then ∃ g : Nat, v = .slice (some ⟨g, 0, none⟩) 4 4 else v = .bool true
theorem sKs_some (ce : Int) (eq : Bool) (k : Nat) : ∃ v, SKs ce eq k v := by
  unfold SKs
  split
  · exact ⟨_, rfl⟩
  · split
    · exact ⟨_, rfl⟩
    · split
      · exact ⟨_, none, 0, 0, rfl⟩
      · split
        · exact ⟨_, 0, rfl⟩
        · exact ⟨_, rfl⟩

set_option maxHeartbeats 8000000 in
theorem keeperSays_any (B : Nat) (lv rv mv : Value) (l : List CellT) (r : RecT) (m : List CellT) (w : World) (he : EnvAt w) (hl : CellsAt B w lv l) (hr : RecAt B w rv r) (hm : CellsAt B w mv m) (hB : B ≤ w.heap.size) :
    Calls Tryz.prog 8 #[lv, rv, mv] w fun e w' => e = .returned (.bool true) ∧ Below w.heap.size w w' := by
  have HO : Hid (∀ w', Below w.heap.size w w' → Calls Tryz.prog 44 #[] w' fun e w'' => e = .returned (.bool true) ∧ Below w'.heap.size w' w'') := fun w' h => opened_true w' (he.later h)
  have HN : Hid (∀ w', Below w.heap.size w w' → Calls Tryz.prog 42 #[lv, rv] w' fun e w'' => ∃ a n c, e = .returned (.tuple #[.slice a n c, .int .i64 (nextE l r)]) ∧ CellsAt w''.heap.size w'' (.slice a n c) (nextR l r) ∧ Below w'.heap.size w' w'') := fun w' h => by
    refine (nextKp_any B lv rv l r w' (hl.later h hB) (hr.later h hB) (Nat.le_trans hB h.size)).mono fun e w'' ⟨v, h1, h2, h3⟩ => ?_
    obtain ⟨a, c, ev, -, -⟩ := h2.shape
    subst ev
    exact ⟨a, _, c, h1, h2, h3⟩
  have HN2 : Hid (∀ w', Below w.heap.size w w' → Calls Tryz.prog 43 #[lv, rv] w' fun e w'' => ∃ a n c, e = .returned (.tuple #[.slice a n c, .int .i64 (nextE l r)]) ∧ CellsAt w''.heap.size w'' (.slice a n c) (nextR l r) ∧ Below w'.heap.size w' w'') := fun w' h => by
    refine (nexted_any B lv rv l r w' (hl.later h hB) (hr.later h hB) (Nat.le_trans hB h.size)).mono fun e w'' ⟨v, h1, h2, h3⟩ => ?_
    obtain ⟨a, c, ev, -, -⟩ := h2.shape
    subst ev
    exact ⟨a, _, c, h1, h2, h3⟩
  have HC : Hid (∀ w', Below w.heap.size w w' → Calls Tryz.prog 45 #[lv] w' fun e w'' => e = .returned (.int .i64 (cellsErr l)) ∧ Below w'.heap.size w' w'') := fun w' h => checkKp_any B lv l w' (hl.later h hB) (Nat.le_trans hB h.size)
  have HC2 : Hid (∀ w', Below w.heap.size w w' → Calls Tryz.prog 46 #[lv] w' fun e w'' => e = .returned (.int .i64 (cellsErr l)) ∧ Below w'.heap.size w' w'') := fun w' h => checkCells_any B lv l w' (hl.later h hB) (Nat.le_trans hB h.size)
  have HS : Hid (∀ w', Below w.heap.size w w' → Calls Tryz.prog 47 #[lv, mv] w' fun e w'' => e = .returned (.bool (decide (l = m))) ∧ Below w'.heap.size w' w'') := fun w' h => sameKp_any B lv mv l m w' (hl.later h hB) (hm.later h hB) (Nat.le_trans hB h.size)
  have HS2 : Hid (∀ w', Below w.heap.size w w' → Calls Tryz.prog 48 #[lv, mv] w' fun e w'' => e = .returned (.bool (decide (l = m))) ∧ Below w'.heap.size w' w'') := fun w' h => sameCells_any B lv mv l m w' (hl.later h hB) (hm.later h hB) (Nat.le_trans hB h.size)
  obtain ⟨a, cap, elv, -, -⟩ := hl.shape
  subst elv
  obtain ⟨ma, mcap, emv, -, -⟩ := hm.shape
  subst emv
  obtain ⟨ra, rc, erv, -⟩ := hr.shape
  subst erv
  generalize r.2.2.2.1.length = rl at *
  generalize l.length = n at *
  generalize m.length = mn at *
  clear hl hm hr he
  generalize nextE l r = ne at *
  generalize nextR l r = nr at *
  generalize cellsErr l = ce at *
  generalize decide (l = m) = eq at *
  go_enter Tryz.func8, Tryz.ntmps8
  obtain ⟨W1, hW1⟩ : ∃ W1, W1 = w.alloc (.cells #[.int .i64 r.1, .int .i64 r.2.1, .int .i64 r.2.2.1, .slice ra rl rc, .int .i64 r.2.2.2.2] 38) := ⟨_, rfl⟩
  have hb1 : Below w.heap.size w W1 := by rw [hW1]; exact (Below.refl _ _).alloc (Nat.le_refl _) _
  have g1 : W1.heap[w.heap.size]? = some (.cells #[.int .i64 r.1, .int .i64 r.2.1, .int .i64 r.2.2.1, .slice ra rl rc, .int .i64 r.2.2.2.2] 38 (0, 0)) := by rw [hW1]; exact heap_made _ _
  have HW1 : Hid (W1 = _) := hW1
  clear hW1
  go_wp2_with fail
  rw [← HW1.out]
  go_at_call 42
  refine Calls.mono (HN.out _ hb1) ?_
  rintro e w2 ⟨a2, n2, c2, rfl, hc2, hb2⟩
  have hb2w : Below w.heap.size w w2 := Below.thenOf hb1 hb2 hb1.size
  have g2 := (hb2.block _ (lt_of_block g1)).trans g1
  obtain ⟨y0, y1, y2, y3, y4⟩ := rec_box g2
  go_wp2_with fail
  go_at_call 43
  refine Calls.mono (HN2.out _ hb2w) ?_
  rintro e w3 ⟨a3, n3, c3, rfl, hc3, hb3⟩
  have hb3w : Below w.heap.size w w3 := Below.thenOf hb2w hb3 hb2w.size
  have HSx : Hid (∀ w', Below w3.heap.size w3 w' → Calls Tryz.prog 48 #[.slice a2 n2 c2, .slice a3 n3 c3] w' fun e w'' => e = .returned (.bool true) ∧ Below w'.heap.size w' w'') := fun w' h => by
    have hbb : Below w2.heap.size w2 w' := Below.thenOf hb3 h hb3.size
    have := sameCells_any w'.heap.size _ _ nr nr w' ((hc2.later hbb (Nat.le_refl _)).wide hbb.size) ((hc3.later h (Nat.le_refl _)).wide h.size) (Nat.le_refl _)
    simpa using this
  have HBw3 : Hid (Below w.heap.size w w3) := hb3w
  clear hc2 hc3 hb1 hb2 hb2w hb3 hb3w g1 g2 y0 y1 y2 y3 y4 HN HN2
  have HNw : Hid (∀ w', Calls Tryz.prog 49 #[] w' fun e w'' => ∃ a n c, e = .returned (.slice a n c) ∧ CellsAt w''.heap.size w'' (.slice a n c) newCells ∧ Below w'.heap.size w' w'') := fun w' => by
    refine (newKp_any w').mono fun e w'' ⟨v, h1, h2, h3⟩ => ?_
    obtain ⟨a, c, ev, -, -⟩ := h2.shape
    subst ev
    exact ⟨a, _, c, h1, h2, h3⟩
  have HSn : Hid (∀ w' u v, CellsAt w'.heap.size w' u newCells → CellsAt w'.heap.size w' v newCells → Calls Tryz.prog 48 #[u, v] w' fun e w'' => e = .returned (.bool true) ∧ Below w'.heap.size w' w'') := fun w' u v h1 h2 => by
    have := sameCells_any w'.heap.size u v newCells newCells w' h1 h2 (Nat.le_refl _)
    simpa using this
  have HBo : Hid (∀ w', Below w3.heap.size w3 w' → Below w.heap.size w w') := fun w' h => Below.thenOf HBw3.out h HBw3.out.size
  have hne := Later.ne w3
  have hDJ : Hid (∀ fs w', JKs w3 fs w' → ∃ z : Later w3, w' = z.1) := fun fs w' h => ⟨⟨w', h.1⟩, rfl⟩
  go_wp2_with fail
  refine wp_region_all (fun k => k == 0 || k == 3 || k == 5 || k == 11 || k == 14 || k == 18 || k == 19 || k == 20 || k == 30) (JKs w3) (SKs ce eq) (sKs_some _ _) (by kernel_rfl) (by kernel_rfl) ⟨(Below.refl _ _).drew, fun _ h => h.elim, fun _ h => h.elim⟩ ?_
  refine wpG_call 44 #[] rfl rfl (fun w' => by kernel_rfl) (fun gs w' hJ hdep hno => ?_) (fun v0 hv0 => ?_)
  · refine (HO.out w' (HBo.out _ hJ.1)).mono ?_
    rintro e w8 ⟨rfl, hb8⟩
    exact ⟨_, rfl, rfl, hJ.call hb8 0 (by decide) (by decide) _⟩
  simp only [Act.put, List.setIfInBounds_toArray, List.set_cons_succ, List.set_cons_zero]
  obtain rfl : v0 = .bool true := hv0
  iterate 2 (refine wpG_read hDJ.out rfl rfl ?_; go_big_quiet_step (fail); refine wpQuiet_nil ?_)
  refine wpG_call 45 #[.slice a n cap] rfl rfl (fun w' => by kernel_rfl) (fun gs w' hJ hdep hno => ?_) (fun v3 hv3 => ?_)
  · refine (HC.out w' (HBo.out _ hJ.1)).mono ?_
    rintro e w8 ⟨rfl, hb8⟩
    exact ⟨_, rfl, rfl, hJ.call hb8 3 (by decide) (by decide) _⟩
  simp only [Act.put, List.setIfInBounds_toArray, List.set_cons_succ, List.set_cons_zero]
  obtain rfl : v3 = .int .i64 ce := hv3
  iterate 1 (refine wpG_read hDJ.out rfl rfl ?_; go_big_quiet_step (fail); refine wpQuiet_nil ?_)
  refine wpG_call 46 #[.slice a n cap] rfl rfl (fun w' => by kernel_rfl) (fun gs w' hJ hdep hno => ?_) (fun v5 hv5 => ?_)
  · refine (HC2.out w' (HBo.out _ hJ.1)).mono ?_
    rintro e w8 ⟨rfl, hb8⟩
    exact ⟨_, rfl, rfl, hJ.call hb8 5 (by decide) (by decide) _⟩
  simp only [Act.put, List.setIfInBounds_toArray, List.set_cons_succ, List.set_cons_zero]
  obtain rfl : v5 = .int .i64 ce := hv5
  iterate 5 (refine wpG_read hDJ.out rfl rfl ?_; go_big_quiet_step (fail); refine wpQuiet_nil ?_)
  refine wpG_call 47 #[.slice a n cap, .slice ma mn mcap] rfl rfl (fun w' => by kernel_rfl) (fun gs w' hJ hdep hno => ?_) (fun v11 hv11 => ?_)
  · refine (HS.out w' (HBo.out _ hJ.1)).mono ?_
    rintro e w8 ⟨rfl, hb8⟩
    exact ⟨_, rfl, rfl, hJ.call hb8 11 (by decide) (by decide) _⟩
  simp only [Act.put, List.setIfInBounds_toArray, List.set_cons_succ, List.set_cons_zero]
  obtain rfl : v11 = .bool eq := hv11
  iterate 2 (refine wpG_read hDJ.out rfl rfl ?_; go_big_quiet_step (fail); refine wpQuiet_nil ?_)
  refine wpG_call 48 #[.slice a n cap, .slice ma mn mcap] rfl rfl (fun w' => by kernel_rfl) (fun gs w' hJ hdep hno => ?_) (fun v14 hv14 => ?_)
  · refine (HS2.out w' (HBo.out _ hJ.1)).mono ?_
    rintro e w8 ⟨rfl, hb8⟩
    exact ⟨_, rfl, rfl, hJ.call hb8 14 (by decide) (by decide) _⟩
  simp only [Act.put, List.setIfInBounds_toArray, List.set_cons_succ, List.set_cons_zero]
  obtain rfl : v14 = .bool eq := hv14
  iterate 3 (refine wpG_read hDJ.out rfl rfl ?_; go_big_quiet_step (fail); refine wpQuiet_nil ?_)
  refine wpG_call 49 #[] rfl rfl (fun w' => by kernel_rfl) (fun gs w' hJ hdep hno => ?_) (fun v18 hv18 => ?_)
  · refine (HNw.out w').mono ?_
    rintro e w8 ⟨a8, n8, c8, rfl, hq8, hb8⟩
    exact ⟨_, rfl, ⟨a8, n8, c8, rfl⟩, hJ.made hb8 18 _ hq8⟩
  simp only [Act.put, List.setIfInBounds_toArray, List.set_cons_succ, List.set_cons_zero]
  obtain ⟨a8, n8, c8, rfl⟩ : ∃ a n c, v18 = .slice a n c := hv18
  refine wpG_write rfl rfl (fun gs w' hJ hdep hno => ⟨.slice (some ⟨w'.heap.size, 0, none⟩) 4 4, w'.alloc (.cells (madeCells #[.bool false, .slice none 0 0, .slice none 0 0, .int .i64 0] 16) 77), ?_, ⟨_, rfl⟩, hJ.made ((Below.refl _ _).alloc (Nat.le_refl _) _) 19 _ (by have := cellsAt_new w'; simpa using this)⟩) (fun v19 hv19 => ?_)
  · have hmk := make_cells w'
    clear hJ hdep hno hDJ hne
    generalize madeCells #[Value.bool false, .slice none 0 0, .slice none 0 0, .int .i64 0] 16 = mc at *
    go_simp
  simp only [Act.put, List.setIfInBounds_toArray, List.set_cons_succ, List.set_cons_zero]
  obtain ⟨g9, rfl⟩ : ∃ g : Nat, v19 = .slice (some ⟨g, 0, none⟩) 4 4 := hv19
  refine wpG_call 48 #[.slice a8 n8 c8, .slice (some ⟨g9, 0, none⟩) 4 4] rfl rfl (fun w' => by kernel_rfl) (fun gs w' hJ hdep hno => ?_) (fun v20 hv20 => ?_)
  · refine (HSn.out w' _ _ (hJ.2.1 _ (hdep 18 _ (.inl (.inr ⟨rfl, rfl⟩)) (waitsB_spec (by kernel_rfl)))) (hJ.2.2 _ (hdep 19 _ (.inr ⟨rfl, rfl⟩) (waitsB_spec (by kernel_rfl))))).mono ?_
    rintro e w8 ⟨rfl, hb8⟩
    exact ⟨_, rfl, rfl, hJ.call hb8 20 (by decide) (by decide) _⟩
  simp only [Act.put, List.setIfInBounds_toArray, List.set_cons_succ, List.set_cons_zero]
  obtain rfl : v20 = .bool true := hv20
  iterate 9 (refine wpG_read hDJ.out rfl rfl ?_; go_big_quiet_step (fail); refine wpQuiet_nil ?_)
  refine wpG_call 48 #[.slice a2 n2 c2, .slice a3 n3 c3] rfl rfl (fun w' => by kernel_rfl) (fun gs w' hJ hdep hno => ?_) (fun v30 hv30 => ?_)
  · refine (HSx.out w' hJ.1).mono ?_
    rintro e w8 ⟨rfl, hb8⟩
    exact ⟨_, rfl, rfl, hJ.call hb8 30 (by decide) (by decide) _⟩
  simp only [Act.put, List.setIfInBounds_toArray, List.set_cons_succ, List.set_cons_zero]
  obtain rfl : v30 = .bool true := hv30
  iterate 2 (refine wpG_read hDJ.out rfl rfl ?_; go_big_quiet_step (fail); refine wpQuiet_nil ?_)
  refine wpG_nil ?_
  intro w9 hJ9
  have hbw9 : Hid (Below w.heap.size w w9) := HBo.out w9 hJ9.1
  clear hJ9 hDJ hne
  go_wp2_with fail
  go_ret
  exact ⟨rfl, hbw9.out⟩
end Go.Proofs.YtbdlojnigflanacGreatDoor
