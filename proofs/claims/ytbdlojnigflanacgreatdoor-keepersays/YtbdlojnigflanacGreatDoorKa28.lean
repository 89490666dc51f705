/- Joined: Kep8 Kep9 ChD1. -/
import Derived.Test.YtbdlojnigflanacGreatDoorKa27
import Derived.Test.YtbdlojnigflanacGreatDoorKa09
import Derived.Laws.MakeOwn
import Derived.Test.YtbdlojnigflanacGreatDoorKa19
import Derived.Test.YtbdlojnigflanacGreatDoorKa17
import Derived.Test.YtbdlojnigflanacGreatDoorKa08
section
/- The counterpart's Nexted, whole. -/
set_option linter.all false
set_option maxRecDepth 100000
namespace Go.Proofs.YtbdlojnigflanacGreatDoor
open Go.RowKit Go.Maps

set_option maxHeartbeats 16000000 in
theorem nexted_bad (B : Nat) (lv rv : Value) (l : List CellT) (r : RecT) (w : World) (hl : CellsAt B w lv l) (hr : RecAt B w rv r) (hB : B ≤ w.heap.size) (hbad : cellsErr l ≠ 0 ∨ recErr r ≠ 0) :
    Calls Tryz.prog 43 #[lv, rv] w fun e w' => ∃ v, e = .returned (.tuple #[v, .int .i64 (if cellsErr l = 0 then recErr r else cellsErr l)]) ∧ CellsAt w'.heap.size w' v [] ∧ Below w.heap.size w w' := by
  have HC : Hid (∀ w', Below w.heap.size w w' → Calls Tryz.prog 46 #[lv] w' fun e w'' => e = .returned (.int .i64 (cellsErr l)) ∧ Below w'.heap.size w' w'') := fun w' h => checkCells_any B lv l w' (hl.later h hB) (Nat.le_trans hB h.size)
  have HR : Hid (∀ w', Below w.heap.size w w' → Calls Tryz.prog 78 #[rv] w' fun e w'' => e = .returned (.int .i64 (recErr r)) ∧ Below w'.heap.size w' w'') := fun w' h => checkRec_any B rv r w' (hr.later h hB) (Nat.le_trans hB h.size)
  obtain ⟨ra, rc, erv, -⟩ := hr.shape
  subst erv
  obtain ⟨a, cap, elv, -, -⟩ := hl.shape
  subst elv
  clear hl hr
  generalize l.length = len at *
  generalize r.2.2.2.1.length = rl at *
  obtain ⟨E, hE⟩ : ∃ E, E = if cellsErr l = 0 then recErr r else cellsErr l := ⟨_, rfl⟩
  rw [← hE]
  have HE : Hid (E = if cellsErr l = 0 then recErr r else cellsErr l) := hE
  clear hE
  obtain ⟨W1, hW1⟩ : ∃ W1, W1 = w.alloc (.cells #[.int .i64 r.1, .int .i64 r.2.1, .int .i64 r.2.2.1, .slice ra rl rc, .int .i64 r.2.2.2.2] 38) := ⟨_, rfl⟩
  have hb1 : Below w.heap.size w W1 := by rw [hW1]; exact (Below.refl _ _).alloc (Nat.le_refl _) _
  have hs1 : W1.heap.size = w.heap.size + 1 := by rw [hW1]; simp
  have g1 : W1.heap[w.heap.size]? = some (.cells #[.int .i64 r.1, .int .i64 r.2.1, .int .i64 r.2.2.1, .slice ra rl rc, .int .i64 r.2.2.2.2] 38 (0, 0)) := by rw [hW1]; exact heap_made _ _
  have HG : Hid (∀ w', Below W1.heap.size W1 w' → w'.heap[w.heap.size]? = some (.cells #[.int .i64 r.1, .int .i64 r.2.1, .int .i64 r.2.2.1, .slice ra rl rc, .int .i64 r.2.2.2.2] 38 (0, 0)) ∧ Below w.heap.size w w') := fun w' h => ⟨(h.block _ (by omega)).trans g1, Below.thenOf hb1 h hb1.size⟩
  have HW1 : Hid (W1 = _) := hW1
  clear hW1 g1 hs1 hB
  go_enter Tryz.func43, Tryz.ntmps43
  go_wp2_with fail
  rw [← HW1.out]
  go_at_call 46
  refine Calls.mono (HC.out _ hb1) ?_
  rintro e w2 ⟨rfl, hb2⟩
  obtain ⟨g2, hb2w⟩ := HG.out w2 hb2
  obtain ⟨y0, y1, y2, y3, y4⟩ := rec_box g2
  have HBw2 : Hid (Below w.heap.size w w2) := hb2w
  clear g2 hb2 hb2w HC
  by_cases hce : cellsErr l = 0
  · have hre : recErr r ≠ 0 := hbad.resolve_left (fun h => h hce)
    have HZ : Hid (E = recErr r) := by unfold Hid; rw [HE.out, if_pos hce]
    rw [hce]
    clear HE hbad hce
    go_wp2_with fail
    go_at_call 78
    refine Calls.mono (HR.out _ HBw2.out) ?_
    rintro e w3 ⟨rfl, hb3⟩
    have HBw3 : Hid (Below w.heap.size w w3) := Below.thenOf HBw2.out hb3 HBw2.out.size
    have hq : (recErr r != 0) = true := by simpa using hre
    generalize recErr r = ce at *
    clear hre hb3 HR y0 y1 y2 y3 y4
    go_wp2_with fail
    go_ret2
    exact ⟨_, by rw [HZ.out]; rfl, cellsAt_nil _ _, HBw3.out⟩
  · have HZ : Hid (E = cellsErr l) := by unfold Hid; rw [HE.out, if_neg hce]
    have hq : (cellsErr l != 0) = true := by simpa using hce
    generalize cellsErr l = ce at *
    clear HE hbad hce HR y0 y1 y2 y3 y4
    go_wp2_with fail
    go_ret2
    exact ⟨_, by rw [HZ.out]; rfl, cellsAt_nil _ _, HBw2.out⟩

set_option maxHeartbeats 16000000 in
theorem nexted_late (B : Nat) (a : Option Addr) (cap : Nat) (ra : Option Addr) (rl rc : Nat) (l : List CellT) (k : Int) (ci fi : Nat) (rs : List RuleT) (d : Int) (w : World) (hl : CellsAt B w (.slice a 4 cap) l) (hr : RecAt B w (.agg #[.int .i64 k, .int .i64 ci, .int .i64 fi, .slice ra rl rc, .int .i64 d]) (k, (ci : Int), (fi : Int), rs, d)) (hB : B ≤ w.heap.size) (hce : cellsErr l = 0) (hre : recErr (k, (ci : Int), (fi : Int), rs, d) = 0) (c : CellT) (hck : l[ci]? = some c) (hkk : k = 1 ∨ k = 2 ∨ k = 3 ∨ k = 4) (hlate : decide (k = 1 ∨ k = 3) = c.1) :
    Calls Tryz.prog 43 #[.slice a 4 cap, .agg #[.int .i64 k, .int .i64 ci, .int .i64 fi, .slice ra rl rc, .int .i64 d]] w fun e w' => ∃ v, e = .returned (.tuple #[v, .int .i64 6]) ∧ CellsAt w'.heap.size w' v [] ∧ Below w.heap.size w w' := by
  have HL : Hid (∀ w', Below w.heap.size w w' → CellsAt B w' (.slice a 4 cap) l) := fun w' h => hl.later h hB
  have HC : Hid (∀ w', Below w.heap.size w w' → Calls Tryz.prog 46 #[.slice a 4 cap] w' fun e w'' => e = .returned (.int .i64 0) ∧ Below w'.heap.size w' w'') := fun w' h => by
    have := checkCells_any B _ l w' (hl.later h hB) (Nat.le_trans hB h.size)
    rw [hce] at this
    exact this
  have HR : Hid (∀ w', Below w.heap.size w w' → Calls Tryz.prog 78 #[.agg #[.int .i64 k, .int .i64 ci, .int .i64 fi, .slice ra rl rc, .int .i64 d]] w' fun e w'' => e = .returned (.int .i64 0) ∧ Below w'.heap.size w' w'') := fun w' h => by
    have := checkRec_any B _ _ w' (hr.later h hB) (Nat.le_trans hB h.size)
    rw [hre] at this
    exact this
  have HLen : Hid (l.length = 4) := (cellsErr_ok.1 hce).1
  have hci : ci < 4 := by
    have := (List.getElem?_eq_some_iff.1 hck).1
    rw [HLen.out] at this
    exact this
  have hci' : (ci : Int) < 4 := by omega
  have hci0 : (0 : Int) ≤ (ci : Int) := by omega
  have hc4 : 4 ≤ cap := by
    obtain ⟨_, _, e, h1, -⟩ := hl
    simp at e
    rw [HLen.out] at h1
    omega
  have HCk : Hid (l[ci]? = some c) := hck
  clear hl hr hce hre hck
  obtain ⟨W1, hW1⟩ : ∃ W1, W1 = w.alloc (.cells #[.int .i64 k, .int .i64 ci, .int .i64 fi, .slice ra rl rc, .int .i64 d] 38) := ⟨_, rfl⟩
  have hb1 : Below w.heap.size w W1 := by rw [hW1]; exact (Below.refl _ _).alloc (Nat.le_refl _) _
  have hs1 : W1.heap.size = w.heap.size + 1 := by rw [hW1]; simp
  have g1 : W1.heap[w.heap.size]? = some (.cells #[.int .i64 k, .int .i64 ci, .int .i64 fi, .slice ra rl rc, .int .i64 d] 38 (0, 0)) := by rw [hW1]; exact heap_made _ _
  have HG : Hid (∀ w', Below W1.heap.size W1 w' → w'.heap[w.heap.size]? = some (.cells #[.int .i64 k, .int .i64 ci, .int .i64 fi, .slice ra rl rc, .int .i64 d] 38 (0, 0)) ∧ Below w.heap.size w w') := fun w' h => ⟨(h.block _ (by omega)).trans g1, Below.thenOf hb1 h hb1.size⟩
  have HW1 : Hid (W1 = _) := hW1
  have HB1 : Hid (Below w.heap.size w W1) := hb1
  have HBs : Hid (B ≤ w.heap.size) := hB
  clear hW1 g1 hb1 hs1 hB
  go_enter Tryz.func43, Tryz.ntmps43
  go_wp2_with fail
  rw [← HW1.out]
  go_at_call 46
  refine Calls.mono (HC.out _ HB1.out) ?_
  rintro e w2 ⟨rfl, hb2⟩
  obtain ⟨g2, hb2w⟩ := HG.out w2 hb2
  obtain ⟨y0, y1, y2, y3, y4⟩ := rec_box g2
  have HB2 : Hid (Below W1.heap.size W1 w2 ∧ Below w.heap.size w w2) := ⟨hb2, hb2w⟩
  clear g2 hb2 hb2w HC
  go_wp2_with fail
  go_at_call 78
  refine Calls.mono (HR.out _ HB2.out.2) ?_
  rintro e w3 ⟨rfl, hb3⟩
  obtain ⟨g3, hb3w⟩ := HG.out w3 (Below.thenOf HB2.out.1 hb3 HB2.out.1.size)
  clear y0 y1 y2 y3 y4 HR hb3 HB2
  obtain ⟨y0, y1, y2, y3, y4⟩ := rec_box g3
  obtain ⟨_, _, e1, -, -, hat⟩ := HL.out _ hb3w
  obtain ⟨b, o, e, hbB, hin⟩ := hat ci c HCk.out
  simp at e1
  obtain ⟨rfl, -⟩ := e1
  subst e
  obtain ⟨la, lc, pa, pc, c0, c1, c2, c3, -, -⟩ := hin.vals
  obtain ⟨co, hco⟩ : ∃ co, co = c.1 := ⟨_, rfl⟩
  rw [← hco] at c0 hlate
  have hbl : b < w3.heap.size := Nat.lt_of_lt_of_le hbB (Nat.le_trans HBs.out hb3w.size)
  generalize c.2.1.length = cln at *
  generalize c.2.2.1.length = crn at *
  generalize c.2.2.2 = cd at *
  clear hat hin hco HCk hc4
  have hwl : w.heap.size < w3.heap.size := lt_of_block g3
  have Hg3 : Hid (w3.heap[w.heap.size]? = some (.cells #[.int .i64 k, .int .i64 ci, .int .i64 fi, .slice ra rl rc, .int .i64 d] 38 (0, 0))) := g3
  have HBw3 : Hid (Below w.heap.size w w3) := hb3w
  clear g3 hb3w
  rcases hkk with rfl | rfl | rfl | rfl
  all_goals
    simp at hlate
    subst hlate
    go_wp2_with fail
    go_ret2
    exact ⟨_, rfl, cellsAt_nil _ _, HBw3.out.alloc HBw3.out.size _⟩

set_option maxHeartbeats 16000000 in
theorem nexted_who (B : Nat) (a : Option Addr) (cap : Nat) (ra : Option Addr) (rl rc : Nat) (l : List CellT) (ci fi : Nat) (rs : List RuleT) (d : Int) (w : World) (hl : CellsAt B w (.slice a 4 cap) l) (hr : RecAt B w (.agg #[.int .i64 3, .int .i64 ci, .int .i64 fi, .slice ra rl rc, .int .i64 d]) (3, (ci : Int), (fi : Int), rs, d)) (hB : B ≤ w.heap.size) (hce : cellsErr l = 0) (hre : recErr (3, (ci : Int), (fi : Int), rs, d) = 0) (c : CellT) (hck : l[ci]? = some c) (hco : c.1 = false) (fls : ChT) (fr : List RuleT) (fd : Int) (hfk : l[fi]? = some (false, fls, fr, fd)) :
    Calls Tryz.prog 43 #[.slice a 4 cap, .agg #[.int .i64 3, .int .i64 ci, .int .i64 fi, .slice ra rl rc, .int .i64 d]] w fun e w' => ∃ v, e = .returned (.tuple #[v, .int .i64 5]) ∧ CellsAt w'.heap.size w' v [] ∧ Below w.heap.size w w' := by
  have HL : Hid (∀ w', Below w.heap.size w w' → CellsAt B w' (.slice a 4 cap) l) := fun w' h => hl.later h hB
  have HC : Hid (∀ w', Below w.heap.size w w' → Calls Tryz.prog 46 #[.slice a 4 cap] w' fun e w'' => e = .returned (.int .i64 0) ∧ Below w'.heap.size w' w'') := fun w' h => by
    have := checkCells_any B _ l w' (hl.later h hB) (Nat.le_trans hB h.size)
    rw [hce] at this
    exact this
  have HR : Hid (∀ w', Below w.heap.size w w' → Calls Tryz.prog 78 #[.agg #[.int .i64 3, .int .i64 ci, .int .i64 fi, .slice ra rl rc, .int .i64 d]] w' fun e w'' => e = .returned (.int .i64 0) ∧ Below w'.heap.size w' w'') := fun w' h => by
    have := checkRec_any B _ _ w' (hr.later h hB) (Nat.le_trans hB h.size)
    rw [hre] at this
    exact this
  have HLen : Hid (l.length = 4) := (cellsErr_ok.1 hce).1
  have hci : ci < 4 := by
    have := (List.getElem?_eq_some_iff.1 hck).1
    rw [HLen.out] at this
    exact this
  have hci' : (ci : Int) < 4 := by omega
  have hci0 : (0 : Int) ≤ (ci : Int) := by omega
  have hc4 : 4 ≤ cap := by
    obtain ⟨_, _, e, h1, -⟩ := hl
    simp at e
    rw [HLen.out] at h1
    omega
  have HCk : Hid (l[ci]? = some c) := hck
  have HFk : Hid (l[fi]? = some (false, fls, fr, fd)) := hfk
  have hfi : fi < 4 := by
    have := (List.getElem?_eq_some_iff.1 hfk).1
    rw [HLen.out] at this
    exact this
  have hfi' : (fi : Int) < 4 := by omega
  have hfi0 : (0 : Int) ≤ (fi : Int) := by omega
  clear hl hr hce hre hck hfk
  obtain ⟨W1, hW1⟩ : ∃ W1, W1 = w.alloc (.cells #[.int .i64 3, .int .i64 ci, .int .i64 fi, .slice ra rl rc, .int .i64 d] 38) := ⟨_, rfl⟩
  have hb1 : Below w.heap.size w W1 := by rw [hW1]; exact (Below.refl _ _).alloc (Nat.le_refl _) _
  have hs1 : W1.heap.size = w.heap.size + 1 := by rw [hW1]; simp
  have g1 : W1.heap[w.heap.size]? = some (.cells #[.int .i64 3, .int .i64 ci, .int .i64 fi, .slice ra rl rc, .int .i64 d] 38 (0, 0)) := by rw [hW1]; exact heap_made _ _
  have HG : Hid (∀ w', Below W1.heap.size W1 w' → w'.heap[w.heap.size]? = some (.cells #[.int .i64 3, .int .i64 ci, .int .i64 fi, .slice ra rl rc, .int .i64 d] 38 (0, 0)) ∧ Below w.heap.size w w') := fun w' h => ⟨(h.block _ (by omega)).trans g1, Below.thenOf hb1 h hb1.size⟩
  have HW1 : Hid (W1 = _) := hW1
  have HB1 : Hid (Below w.heap.size w W1) := hb1
  have HBs : Hid (B ≤ w.heap.size) := hB
  clear hW1 g1 hb1 hs1 hB
  go_enter Tryz.func43, Tryz.ntmps43
  go_wp2_with fail
  rw [← HW1.out]
  go_at_call 46
  refine Calls.mono (HC.out _ HB1.out) ?_
  rintro e w2 ⟨rfl, hb2⟩
  obtain ⟨g2, hb2w⟩ := HG.out w2 hb2
  obtain ⟨y0, y1, y2, y3, y4⟩ := rec_box g2
  have HB2 : Hid (Below W1.heap.size W1 w2 ∧ Below w.heap.size w w2) := ⟨hb2, hb2w⟩
  clear g2 hb2 hb2w HC
  go_wp2_with fail
  go_at_call 78
  refine Calls.mono (HR.out _ HB2.out.2) ?_
  rintro e w3 ⟨rfl, hb3⟩
  obtain ⟨g3, hb3w⟩ := HG.out w3 (Below.thenOf HB2.out.1 hb3 HB2.out.1.size)
  clear y0 y1 y2 y3 y4 HR hb3 HB2
  obtain ⟨y0, y1, y2, y3, y4⟩ := rec_box g3
  obtain ⟨_, _, e1, -, -, hat⟩ := HL.out _ hb3w
  obtain ⟨b, o, e, hbB, hin⟩ := hat ci c HCk.out
  obtain ⟨b2, o2, e2, -, hif⟩ := hat fi _ HFk.out
  simp at e1
  obtain ⟨rfl, -⟩ := e1
  rw [e] at e2
  simp at e2
  obtain ⟨rfl, rfl⟩ := e2
  subst e
  obtain ⟨la, lc, pa, pc, c0, c1, c2, c3, -, -⟩ := hin.vals
  obtain ⟨la2, lc2, pa2, pc2, d0, d1, d2, d3, -, hpf⟩ := hif.vals
  simp only at d0 d1 d2 d3 hpf
  obtain ⟨frn, hfrn⟩ : ∃ n, n = fr.length := ⟨_, rfl⟩
  rw [← hfrn] at d2 hpf
  clear hfrn
  generalize fls.length = fln at *
  have HFP3 : Hid (∀ w', Below w3.heap.size w3 w' → PolAt B w' (.agg #[.slice pa2 frn pc2, .int .i64 fd]) (fr, fd)) := fun w' h => hpf.later h (Nat.le_trans HBs.out hb3w.size)
  clear hpf hif
  rw [hco] at c0
  have hbl : b < w3.heap.size := Nat.lt_of_lt_of_le hbB (Nat.le_trans HBs.out hb3w.size)
  generalize c.2.1.length = cln at *
  generalize c.2.2.1.length = crn at *
  generalize c.2.2.2 = cd at *
  clear hat hin hco HCk
  have hwl : w.heap.size < w3.heap.size := lt_of_block g3
  have Hg3 : Hid (w3.heap[w.heap.size]? = some (.cells #[.int .i64 3, .int .i64 ci, .int .i64 fi, .slice ra rl rc, .int .i64 d] 38 (0, 0))) := g3
  have HBw3 : Hid (Below w.heap.size w w3) := hb3w
  clear g3 hb3w
  clear hc4 HFP3
  go_wp2_with fail
  go_ret2
  exact ⟨_, rfl, cellsAt_nil _ _, (HBw3.out.alloc HBw3.out.size _).alloc (by simp; have := HBw3.out.size; omega) _⟩

/-- What a record makes of sessions. -/
theorem nexted_any (B : Nat) (lv rv : Value) (l : List CellT) (r : RecT) (w : World) (hl : CellsAt B w lv l) (hr : RecAt B w rv r) (hB : B ≤ w.heap.size) :
    Calls Tryz.prog 43 #[lv, rv] w fun e w' => ∃ v, e = .returned (.tuple #[v, .int .i64 (nextE l r)]) ∧ CellsAt w'.heap.size w' v (nextR l r) ∧ Below w.heap.size w w' := by
  by_cases hce : cellsErr l = 0
  case neg =>
    have h1 : nextE l r = cellsErr l := by unfold nextE; rw [if_neg hce]
    have h2 : nextR l r = [] := by unfold nextR; rw [h1, if_neg hce]
    have := nexted_bad B lv rv l r w hl hr hB (.inl hce)
    rw [if_neg hce] at this
    rw [h1, h2]
    exact this
  case pos =>
    by_cases hre : recErr r = 0
    case neg =>
      have h1 : nextE l r = recErr r := by unfold nextE; rw [if_pos hce, if_neg hre]
      have h2 : nextR l r = [] := by unfold nextR; rw [h1, if_neg hre]
      have := nexted_bad B lv rv l r w hl hr hB (.inr hre)
      rw [if_pos hce] at this
      rw [h1, h2]
      exact this
    case pos =>
      have hlen := (cellsErr_ok.1 hce).1
      have hk14 := (recErr_ok hre).1
      obtain ⟨hc03, hf03⟩ := rec_cells hre
      obtain ⟨ra, rc, erv, -⟩ := hr.shape
      subst erv
      obtain ⟨a, cap, elv, -, -⟩ := hl.shape
      subst elv
      rw [hlen] at hl ⊢
      have hne : nextE l r = if decide (r.1 = 1 ∨ r.1 = 3) = (cellAt l r.2.1).1 then 6 else (nextC l r).2 := by unfold nextE; rw [if_pos hce, if_pos hre]
      have hnr : nextR l r = if nextE l r = 0 then l.set r.2.1.toNat (nextC l r).1 else [] := rfl
      obtain ⟨k, ce, fr, rs, d⟩ := r
      simp only at *
      obtain ⟨ci, rfl⟩ : ∃ ci : Nat, ce = (ci : Int) := ⟨ce.toNat, by omega⟩
      obtain ⟨fi, rfl⟩ : ∃ fi : Nat, fr = (fi : Int) := ⟨fr.toNat, by omega⟩
      obtain ⟨c, hck⟩ : ∃ c, l[ci]? = some c := ⟨l[ci]'(by omega), by simp⟩
      obtain ⟨cf, hfk⟩ : ∃ c, l[fi]? = some c := ⟨l[fi]'(by omega), by simp⟩
      have hcA : cellAt l (ci : Int) = c := by unfold cellAt; rw [Int.toNat_natCast, List.getD_eq_getElem?_getD, hck]; rfl
      have hfA : cellAt l (fi : Int) = cf := by unfold cellAt; rw [Int.toNat_natCast, List.getD_eq_getElem?_getD, hfk]; rfl
      have hnc : nextC l (k, (ci : Int), (fi : Int), rs, d) = if k = 3 then (if cf.1 = true then openC cf.2.2 else (zeroCell, 5)) else if k = 1 then openC (rs, d) else if k = 2 then (if tightE c.2.1 c.2.2 (rs, d) = 0 then ((true, tightR c.2.1 c.2.2 (rs, d), (rs, d)), 0) else (zeroCell, tightE c.2.1 c.2.2 (rs, d))) else (zeroCell, 0) := by
        unfold nextC
        simp only [hcA, hfA]
      have hkk : k = 1 ∨ k = 2 ∨ k = 3 ∨ k = 4 := by omega
      rw [hcA] at hne
      rw [Int.toNat_natCast] at hnr
      by_cases hlate : decide (k = 1 ∨ k = 3) = c.1
      · have h1 : nextE l (k, (ci : Int), (fi : Int), rs, d) = 6 := by rw [hne, if_pos hlate]
        have h2 : nextR l (k, (ci : Int), (fi : Int), rs, d) = [] := by rw [hnr, h1]; rfl
        rw [h1, h2]
        exact nexted_late B a cap ra _ rc l k ci fi rs d w hl hr hB hce hre c hck hkk hlate
      · rw [if_neg hlate] at hne
        rw [hnc] at hne hnr
        rcases hkk with rfl | rfl | rfl | rfl
        · have hco : c.1 = false := by simpa using hlate
          have := nexted_open B a cap ra _ rc l ci fi rs d w hl hr hB hce hre c hck hco
          have h1 : nextE l (1, (ci : Int), (fi : Int), rs, d) = compE (rs, d) := by
            rw [hne]
            show (openC (rs, d)).2 = _
            unfold openC
            split
            · rename_i h; exact h.symm
            · rfl
          rw [hnr, h1]
          refine this.mono fun e w' ⟨v, g1, g2, g3⟩ => ⟨v, g1, ?_, g3⟩
          by_cases hc : compE (rs, d) = 0
          · rw [if_pos hc] at g2 ⊢
            have : (openC (rs, d)).1 = (true, [polI (rs, d)], (rs, d)) := by unfold openC; rw [if_pos hc]
            show CellsAt _ _ _ (l.set ci (openC (rs, d)).1)
            rw [this]
            exact g2
          · rw [if_neg hc] at g2 ⊢
            exact g2
        · obtain ⟨co, cls, crs, cd⟩ := c
          have hco : co = true := by simpa using hlate
          subst hco
          have := nexted_tight B a cap ra _ rc l ci fi rs d w hl hr hB hce hre cls crs cd hck
          simp only at hne hnr
          have h1 : nextE l (2, (ci : Int), (fi : Int), rs, d) = tightE cls (crs, cd) (rs, d) := by
            rw [hne]
            show (if tightE cls (crs, cd) (rs, d) = 0 then (((true, tightR cls (crs, cd) (rs, d), (rs, d)) : CellT), (0 : Int)) else (zeroCell, tightE cls (crs, cd) (rs, d))).2 = _
            split
            · rename_i h; exact h.symm
            · rfl
          rw [hnr, h1]
          refine this.mono fun e w' ⟨v, g1, g2, g3⟩ => ⟨v, g1, ?_, g3⟩
          by_cases hc : tightE cls (crs, cd) (rs, d) = 0
          · rw [if_pos hc] at g2 ⊢
            show CellsAt _ _ _ (l.set ci (if tightE cls (crs, cd) (rs, d) = 0 then (((true, tightR cls (crs, cd) (rs, d), (rs, d)) : CellT), (0 : Int)) else (zeroCell, tightE cls (crs, cd) (rs, d))).1)
            rw [if_pos hc]
            exact g2
          · rw [if_neg hc] at g2 ⊢
            exact g2
        · have hco : c.1 = false := by simpa using hlate
          obtain ⟨fo, fls, fr, fd⟩ := cf
          simp only at hne hnr
          cases fo with
          | true =>
            have := nexted_fork B a cap ra _ rc l ci fi rs d w hl hr hB hce hre c hck hco fls fr fd hfk
            have h1 : nextE l (3, (ci : Int), (fi : Int), rs, d) = compE (fr, fd) := by
              rw [hne]
              show (openC (fr, fd)).2 = _
              unfold openC
              split
              · rename_i h; exact h.symm
              · rfl
            rw [hnr, h1]
            refine this.mono fun e w' ⟨v, g1, g2, g3⟩ => ⟨v, g1, ?_, g3⟩
            by_cases hc : compE (fr, fd) = 0
            · rw [if_pos hc] at g2 ⊢
              have : (openC (fr, fd)).1 = (true, [polI (fr, fd)], (fr, fd)) := by unfold openC; rw [if_pos hc]
              show CellsAt _ _ _ (l.set ci (openC (fr, fd)).1)
              rw [this]
              exact g2
            · rw [if_neg hc] at g2 ⊢
              exact g2
          | false =>
            have h1 : nextE l (3, (ci : Int), (fi : Int), rs, d) = 5 := by rw [hne]; rfl
            have h2 : nextR l (3, (ci : Int), (fi : Int), rs, d) = [] := by rw [hnr, h1]; rfl
            rw [h1, h2]
            exact nexted_who B a cap ra _ rc l ci fi rs d w hl hr hB hce hre c hck hco fls fr fd hfk
        · have hco : c.1 = true := by simpa using hlate
          have h1 : nextE l (4, (ci : Int), (fi : Int), rs, d) = 0 := by rw [hne]; rfl
          have h2 : nextR l (4, (ci : Int), (fi : Int), rs, d) = l.set ci zeroCell := by rw [hnr, h1]; rfl
          rw [h1, h2]
          exact nexted_shut B a cap ra _ rc l ci fi rs d w hl hr hB hce hre c hck hco
end Go.Proofs.YtbdlojnigflanacGreatDoor
end
section
/- The counterpart's Replayed: records, one after the other, on new sessions. -/
set_option linter.all false
set_option maxRecDepth 100000
namespace Go.Proofs.YtbdlojnigflanacGreatDoor
open Go.RowKit Go.Maps

theorem make_cells (w : World) : (Instr.makeSlice 66 (.int .i64 4) (.int .i64 4)).run Tryz.prog w = .ok (.slice (some ⟨w.heap.size, 0, none⟩) 4 4) (w.alloc (.cells (madeCells #[.bool false, .slice none 0 0, .slice none 0 0, .int .i64 0] 16) 77)) := by
  obtain ⟨inf, hi1, hi2, hi3, hi4⟩ := infoCell
  have := run_make (P := Tryz.prog) w 66 77 inf _ Tryz.underlying66 hi1 hi2 .i64 .i64 4 4 (by omega) (Int.le_refl _) (by rw [hi4]; omega) (by omega)
  rw [hi3] at this
  simpa [Value.cells] using this
/-- New sessions: a block of zeros. -/
theorem cellsAt_zero {w : World} {g : Nat} (hm : w.heap[g]? = some (.cells (madeCells #[.bool false, .slice none 0 0, .slice none 0 0, .int .i64 0] 16) 77 (0, 0))) : CellsAt (g + 1) w (.slice (some ⟨g, 0, none⟩) 4 4) newCells := by
  have e : madeCells #[.bool false, .slice none 0 0, .slice none 0 0, .int .i64 0] 16 = #[.bool false, .slice none 0 0, .slice none 0 0, .int .i64 0, .bool false, .slice none 0 0, .slice none 0 0, .int .i64 0, .bool false, .slice none 0 0, .slice none 0 0, .int .i64 0, .bool false, .slice none 0 0, .slice none 0 0, .int .i64 0] := by kernel_rfl
  rw [e] at hm
  refine ⟨_, 4, rfl, by decide, by rw [maxLen_eq]; omega, fun i c hc => ⟨g, 0, rfl, by omega, ?_⟩⟩
  have hz : c = zeroCell ∧ (i = 0 ∨ i = 1 ∨ i = 2 ∨ i = 3) := by
    match i, hc with
    | 0, hc => simp [newCells] at hc; exact ⟨hc.symm, .inl rfl⟩
    | 1, hc => simp [newCells] at hc; exact ⟨hc.symm, .inr (.inl rfl)⟩
    | 2, hc => simp [newCells] at hc; exact ⟨hc.symm, .inr (.inr (.inl rfl))⟩
    | 3, hc => simp [newCells] at hc; exact ⟨hc.symm, .inr (.inr (.inr rfl))⟩
    | i + 4, hc => simp [newCells] at hc
  obtain ⟨rfl, hi⟩ := hz
  rcases hi with rfl | rfl | rfl | rfl
  all_goals exact ⟨_, _, heap_cell hm _ rfl, heap_cell hm _ rfl, heap_cell hm _ rfl, heap_cell hm _ rfl, chsAt_nil _ _, polAt_zero _ _⟩
theorem cellsAt_new (w : World) : CellsAt (w.heap.size + 1) (w.alloc (.cells (madeCells #[.bool false, .slice none 0 0, .slice none 0 0, .int .i64 0] 16) 77)) (.slice (some ⟨w.heap.size, 0, none⟩) 4 4) newCells := cellsAt_zero (heap_made w _)
theorem replay_step (rs : List RecT) (k : Nat) (r : RecT) (h : rs[k]? = some r) (s : List CellT × Int) : (rs.take (k + 1)).foldl replayS s = replayS ((rs.take k).foldl replayS s) r := by
  rw [List.take_succ, h]
  simp [List.foldl_append]
theorem replay_stop (rs : List RecT) (k : Nat) (e : Int) (he : e ≠ 0) (s : List CellT × Int) (h : (rs.take k).foldl replayS s = ([], e)) : rs.foldl replayS s = ([], e) := by
  conv => lhs; rw [← List.take_append_drop k rs]
  rw [List.foldl_append, h]
  exact replayS_bad _ e he

set_option maxHeartbeats 8000000 in
theorem replayed_any (B : Nat) (lv : Value) (rs : List RecT) (w : World) (hl : RecsAt B w lv rs) (hB : B ≤ w.heap.size) :
    Calls Tryz.prog 51 #[lv] w fun e w' => ∃ v, e = .returned (.tuple #[v, .int .i64 (replayP rs).2]) ∧ CellsAt w'.heap.size w' v (replayP rs).1 ∧ Below w.heap.size w w' := by
  have HL : Hid (∀ w', Below w.heap.size w w' → RecsAt B w' lv rs) := fun w' h => hl.later h hB
  have HNx : Hid (∀ w' cv rv cs r, CellsAt w'.heap.size w' cv cs → RecAt w'.heap.size w' rv r → Calls Tryz.prog 43 #[cv, rv] w' fun e w'' => ∃ v, e = .returned (.tuple #[v, .int .i64 (nextE cs r)]) ∧ CellsAt w''.heap.size w'' v (nextR cs r) ∧ Below w'.heap.size w' w'') := fun w' cv rv cs r h1 h2 => nexted_any w'.heap.size cv rv cs r w' h1 h2 (Nat.le_refl _)
  have HP : Hid (replayP rs = if 40 < rs.length then ([], 2) else rs.foldl replayS (newCells, 0)) := rfl
  obtain ⟨a, cap, rfl, hlc, hcm, -⟩ := hl
  have hml := maxLen_eq
  obtain ⟨n, hn⟩ : ∃ n, n = rs.length := ⟨_, rfl⟩
  have HN : Hid (rs.length = n) := hn.symm
  rw [← hn] at HP HL hlc ⊢
  clear hn
  obtain ⟨RV, hRV⟩ : ∃ x, x = (replayP rs).1 := ⟨_, rfl⟩
  obtain ⟨RE, hRE⟩ : ∃ x, x = (replayP rs).2 := ⟨_, rfl⟩
  have HRes : Hid ((RV, RE) = replayP rs) := by rw [hRV, hRE]; rfl
  rw [← hRV, ← hRE]
  clear hRV hRE
  by_cases h40 : 40 < n
  · have h40' : (40 : Int) < (n : Int) := by omega
    have HZ : Hid (RV = [] ∧ RE = 2) := by
      have := HRes.out
      rw [HP.out, if_pos h40] at this
      unfold Hid
      simpa using this
    go_enter Tryz.func51, Tryz.ntmps51
    go_wp2_with fail
    go_ret2
    exact ⟨_, by rw [HZ.out.2]; rfl, by rw [HZ.out.1]; exact cellsAt_nil _ _, Below.refl _ _⟩
  · have h40' : ¬ (40 : Int) < (n : Int) := by omega
    have HP' : Hid ((RV, RE) = rs.foldl replayS (newCells, 0)) := by unfold Hid; rw [HRes.out, HP.out, if_neg h40]
    clear HP HRes
    have hmk := make_cells
    obtain ⟨mc, hmc⟩ : ∃ mc, mc = madeCells #[.bool false, .slice none 0 0, .slice none 0 0, .int .i64 0] 16 := ⟨_, rfl⟩
    rw [← hmc] at hmk
    have hnew := cellsAt_new w
    rw [← hmc] at hnew
    obtain ⟨W1, hW1⟩ : ∃ W1, W1 = w.alloc (.cells mc 77) := ⟨_, rfl⟩
    have hb1 : Below w.heap.size w W1 := by rw [hW1]; exact (Below.refl _ _).alloc (Nat.le_refl _) _
    have hs1 : W1.heap.size = w.heap.size + 1 := by rw [hW1]; simp
    have HNew : Hid (CellsAt W1.heap.size W1 (.slice (some ⟨w.heap.size, 0, none⟩) 4 4) newCells) := by rw [hs1, hW1]; exact hnew
    have HW1 : Hid (W1 = _) := hW1
    clear hW1 hnew hmc hs1
    go_enter Tryz.func51, Tryz.ntmps51
    go_wp2_with fail
    rw [← HW1.out]
    clear hmk
    go_loopw [4, 15] (fun cv iv wr => ∃ k : Nat, k ≤ n ∧ iv = .int .i64 k ∧ (∃ ca cc, cv = .slice ca 4 cc) ∧ Hid (∃ cs, (rs.take k).foldl replayS (newCells, 0) = (cs, 0) ∧ CellsAt wr.heap.size wr cv cs ∧ cs.length = 4) ∧ Hid (Below w.heap.size w wr)) (fun _ iv _ => n - (intOf iv).toNat)
    case atStart => exact ⟨0, by omega, rfl, ⟨_, _, rfl⟩, ⟨newCells, rfl, HNew.out, rfl⟩, hb1⟩
    case round =>
      obtain ⟨k, hk, rfl, ⟨ca, cc, rfl⟩, HS, HBr⟩ := hrel
      obtain ⟨wo, hwo⟩ : ∃ x, x = wr := ⟨_, rfl⟩
      subst hwo
      have i0 : (0 : Int) ≤ (k : Int) := by omega
      have hos := HBr.out.size
      by_cases hlt : k < n
      · have i1 : (k : Int) < (n : Int) := by omega
        obtain ⟨r, hrk⟩ : ∃ r, rs[k]? = some r := ⟨rs[k]'(by rw [HN.out]; omega), by simp⟩
        obtain ⟨cs, hcs, hcat, hcl⟩ := HS.out
        have hst := replay_step rs k r hrk (newCells, 0)
        rw [hcs] at hst
        obtain ⟨_, _, e1, -, -, hat⟩ := HL.out _ HBr.out
        obtain ⟨b3, o3, e, hbB3, hrc⟩ := hat k r hrk
        simp at e1
        obtain ⟨rfl, -, -⟩ := e1
        subst e
        obtain ⟨rv, q0, q1, q2, q3, q4, hra⟩ := hrc
        obtain ⟨ra, rcp, er, -⟩ := hra.shape
        simp at er
        subst er
        generalize hrl : r.2.2.2.1.length = rl at *
        clear hat hrk hrl
        obtain ⟨W5, hW5⟩ : ∃ W5, W5 = wo.alloc (.cells #[.int .i64 r.1, .int .i64 r.2.1, .int .i64 r.2.2.1, .slice ra rl rcp, .int .i64 r.2.2.2.2] 38) := ⟨_, rfl⟩
        have hb5 : Below wo.heap.size wo W5 := by rw [hW5]; exact (Below.refl _ _).alloc (Nat.le_refl _) _
        have HCall : Hid (Calls Tryz.prog 43 #[.slice ca 4 cc, .agg #[.int .i64 r.1, .int .i64 r.2.1, .int .i64 r.2.2.1, .slice ra rl rcp, .int .i64 r.2.2.2.2]] W5 fun e w'' => ∃ v, e = .returned (.tuple #[v, .int .i64 (nextE cs r)]) ∧ CellsAt w''.heap.size w'' v (nextR cs r) ∧ Below W5.heap.size W5 w'') := HNx.out W5 _ _ cs r ((hcat.later hb5 (Nat.le_refl _)).wide hb5.size) (recAt_more (hra.later hb5 (by omega)) (by have := hb5.size; omega))
        have HBw5 : Hid (Below w.heap.size w W5) := Below.thenOf HBr.out hb5 HBr.out.size
        have HW5 : Hid (W5 = _) := hW5
        have HSt : Hid ((rs.take (k + 1)).foldl replayS (newCells, 0) = replayS (cs, 0) r) := hst
        have HCl : Hid (cs.length = 4) := hcl
        clear hW5 hb5 hra hcat hcs hst hcl HS
        go_wp2_with fail
        rw [← HW5.out]
        go_at_call 43
        refine Calls.mono HCall.out ?_
        rintro e w6 ⟨v6, rfl, hc6, hb6⟩
        have hb6w : Below w.heap.size w w6 := Below.thenOf HBw5.out hb6 HBw5.out.size
        obtain ⟨na, nc, ev, -, -⟩ := hc6.shape
        subst ev
        by_cases hne : nextE cs r = 0
        · have e1 : (rs.take (k + 1)).foldl replayS (newCells, 0) = (nextR cs r, 0) := by
            rw [HSt.out]
            unfold replayS
            rw [if_pos rfl]
            simp only
            rw [if_pos hne]
          have e2 : (nextR cs r).length = 4 := by
            rw [next_set hne, List.length_set]
            exact HCl.out
          rw [e2] at hc6 ⊢
          rw [hne]
          have HFin : Hid (∃ cs', (rs.take (k + 1)).foldl replayS (newCells, 0) = (cs', 0) ∧ CellsAt w6.heap.size w6 (.slice na 4 nc) cs' ∧ cs'.length = 4) := ⟨_, e1, hc6, e2⟩
          have HB6 : Hid (Below w.heap.size w w6) := hb6w
          clear e1 e2 hc6 hb6 hb6w hne HCall
          go_wp2_with fail
          exact ⟨⟨k + 1, by omega, by go_num, ⟨na, nc, rfl⟩, HFin, HB6⟩, by simp [intOf]; omega⟩
        · have e1 : (rs.take (k + 1)).foldl replayS (newCells, 0) = ([], nextE cs r) := by
            rw [HSt.out]
            unfold replayS
            rw [if_pos rfl]
            simp only
            rw [if_neg hne]
          have HZ : Hid (RV = [] ∧ RE = nextE cs r) := by
            have := HP'.out
            rw [replay_stop rs (k + 1) _ hne _ e1] at this
            unfold Hid
            simpa using this
          have HB6 : Hid (Below w.heap.size w w6) := hb6w
          have hq : (nextE cs r != 0) = true := by simpa using hne
          generalize (nextR cs r).length = nl at *
          generalize nextE cs r = ne at *
          clear e1 hc6 hb6 hb6w hne HCall
          go_wp2_with fail
          go_ret2
          exact ⟨_, by rw [HZ.out.2]; rfl, by rw [HZ.out.1]; exact cellsAt_nil _ _, HB6.out⟩
      · obtain ⟨cs, hcs, hcat, hcl⟩ := HS.out
        have HZ : Hid (RV = cs ∧ RE = 0) := by
          have := HP'.out
          rw [List.take_of_length_le (by rw [HN.out]; omega)] at hcs
          rw [hcs] at this
          unfold Hid
          simpa using this
        have HCt : Hid (CellsAt wo.heap.size wo (.slice ca 4 cc) cs) := hcat
        clear hcs hcat hcl HS
        go_wp2_with fail
        go_ret2
        exact ⟨_, by rw [HZ.out.2]; rfl, by rw [HZ.out.1]; exact HCt.out, HBr.out⟩
end Go.Proofs.YtbdlojnigflanacGreatDoor
end
section
/- Package chain: Check, Same, Ask. -/
set_option linter.all false
set_option maxRecDepth 100000
namespace Go.Proofs.YtbdlojnigflanacGreatDoor
open Go.RowKit Go.Maps

set_option maxHeartbeats 2000000 in
theorem checkD_any (B : Nat) (lv : Value) (ls : ChT) (w : World) (hl : ChsAt B w lv ls) (hB : B ≤ w.heap.size) :
    Calls Tryz.prog 110 #[lv] w fun e w' => e = .returned (.int .i64 (chainErr ls)) ∧ Below w.heap.size w w' := by
  have HL : Hid (∀ w', Below w.heap.size w w' → ChsAt B w' lv ls) := fun w' h => hl.later h hB
  obtain ⟨a, cap, rfl, hlc, hcm, -⟩ := hl
  have hml := maxLen_eq
  have HE : Hid (chainErr ls = if 6 < ls.length then 2 else filtsErr ls) := rfl
  generalize hlen : ls.length = len at *
  have hlenH : Hid (ls.length = len) := hlen
  clear hlen
  by_cases h6 : 6 < len
  · have h6' : (6 : Int) < (len : Int) := by omega
    have HE' : Hid (chainErr ls = 2) := by unfold Hid; rw [HE.out, if_pos h6]
    go_enter Tryz.func110, Tryz.ntmps110
    go_wp2
    go_ret
    exact ⟨by rw [HE'.out]; rfl, Below.refl _ _⟩
  · have h6' : ¬ (6 : Int) < (len : Int) := by omega
    have HE' : Hid (chainErr ls = filtsErr ls) := by unfold Hid; rw [HE.out, if_neg h6]
    clear HE
    go_enter Tryz.func110, Tryz.ntmps110
    go_wp2
    go_loopw [11] (fun iv wr => ∃ k : Nat, k ≤ len ∧ iv = .int .i64 k ∧ Hid (filtsErr ls = filtsErr (ls.drop k)) ∧ Below w.heap.size w wr) (fun iv _ => len - (intOf iv).toNat)
    case atStart => exact ⟨0, by omega, rfl, rfl, Below.refl _ _⟩
    case round =>
      obtain ⟨k, hk, rfl, H, hbr⟩ := hrel
      obtain ⟨wo, hwo⟩ : ∃ x, x = wr := ⟨_, rfl⟩
      subst hwo
      have i0 : (0 : Int) ≤ (k : Int) := by omega
      have hos := hbr.size
      by_cases hlt : k < len
      · have i1 : (k : Int) < (len : Int) := by omega
        obtain ⟨f, hf⟩ : ∃ f, ls[k]? = some f := ⟨ls[k]'(by rw [hlenH.out]; omega), by simp⟩
        have S : Hid (filtsErr (ls.drop k) = if codeErr f = 0 then filtsErr (ls.drop (k + 1)) else codeErr f) := filtsErr_drop ls k f hf
        obtain ⟨_, _, e1, -, -, hat⟩ := HL.out _ hbr
        obtain ⟨b, o, fv, e, hbB, hc, hi⟩ := hat k f hf
        simp at e1
        obtain ⟨rfl, -, -⟩ := e1
        subst e
        clear hat
        have HPA : Hid (∀ w', Below wo.heap.size wo w' → Calls Tryz.prog 115 #[fv] w' fun e w'' => e = .returned (.int .i64 (codeErr f)) ∧ Below w'.heap.size w' w'') := fun w' h => check_code B fv f w' (hi.later h (Nat.le_trans hB hos)) (Nat.le_trans hB (Nat.le_trans hos h.size))
        obtain ⟨a2, c2, rfl, -, -⟩ := hi.shape
        clear hi hf
        generalize f.length = n2 at *
        by_cases he : codeErr f = 0
        · rw [he] at HPA
          have S' : Hid (filtsErr ls = filtsErr (ls.drop (k + 1))) := by unfold Hid; rw [H.out, S.out, if_pos he]
          clear he S
          go_wp2_with (first | (go_at_call 115; go_must (refine Calls.mono (HPA.out _ (Below.refl _ _)) ?_; rintro e w2 ⟨rfl, hb2⟩)))
          exact ⟨⟨k + 1, by omega, by go_num, S', Below.thenOf hbr hb2 hos⟩, by simp [intOf]; omega⟩
        · have S' : Hid (filtsErr ls = codeErr f) := by unfold Hid; rw [H.out, S.out, if_neg he]
          have hq : (codeErr f != 0) = true := by simpa using he
          clear he S
          generalize codeErr f = pe at *
          go_wp2_with (first | (go_at_call 115; go_must (refine Calls.mono (HPA.out _ (Below.refl _ _)) ?_; rintro e w2 ⟨rfl, hb2⟩)))
          go_ret
          exact ⟨by rw [HE'.out, S'.out]; rfl, Below.thenOf hbr hb2 hos⟩
      · go_wp2
        go_ret
        exact ⟨by rw [HE'.out, H.out, List.drop_eq_nil_of_le (by rw [hlenH.out]; omega)]; rfl, hbr⟩

set_option maxHeartbeats 2000000 in
theorem sameFilterD_any (B : Nat) (cv dv : Value) (cs ds : List InsT) (w : World) (hc : InssAt B w cv cs) (hd : InssAt B w dv ds) (hB : B ≤ w.heap.size) :
    Calls Tryz.prog 192 #[cv, dv] w fun e w' => e = .returned (.bool (decide (cs = ds))) ∧ Below w.heap.size w w' := by
  have HC : Hid (Calls Tryz.prog 54 #[cv, dv] w fun e w' => e = .returned (.bool (decide (cs = ds))) ∧ Below w.heap.size w w') := equalInss_any B cv dv cs ds w hc hd hB
  obtain ⟨a, c, rfl, -, -⟩ := hc.shape
  obtain ⟨a2, c2, rfl, -, -⟩ := hd.shape
  clear hc hd
  generalize decide (cs = ds) = eq at *
  generalize cs.length = n at *
  generalize ds.length = n2 at *
  go_enter Tryz.func192, Tryz.ntmps192
  go_wp2_with (first | (go_at_call 54; go_must (refine Calls.mono HC.out ?_; rintro e w2 ⟨rfl, hb2⟩)))
  go_ret
  exact ⟨rfl, hb2⟩

set_option maxHeartbeats 4000000 in
theorem equalFuncD_any (B : Nat) (lv mv : Value) (ls ms : ChT) (w : World) (hl : ChsAt B w lv ls) (hm : ChsAt B w mv ms) (hB : B ≤ w.heap.size) :
    Calls Tryz.prog 159 #[lv, mv, .func (.func 192) #[] #[]] w fun e w' => e = .returned (.bool (decide (ls = ms))) ∧ Below w.heap.size w w' := by
  have HL : Hid (∀ w', Below w.heap.size w w' → ChsAt B w' lv ls) := fun w' h => hl.later h hB
  have HM : Hid (∀ w', Below w.heap.size w w' → ChsAt B w' mv ms) := fun w' h => hm.later h hB
  obtain ⟨a, cap, rfl, hlc, hcm, -⟩ := hl
  obtain ⟨a', cap', rfl, hlc', hcm', -⟩ := hm
  have hml := maxLen_eq
  have HD : Hid (ls.length ≠ ms.length → decide (ls = ms) = false) := fun h => decide_eq_false fun e => h (by rw [e])
  generalize hlen : ls.length = n at *
  generalize hlen' : ms.length = m at *
  have hlenH : Hid (ls.length = n) := hlen
  have hlenH' : Hid (ms.length = m) := hlen'
  clear hlen hlen'
  by_cases hnm : n = m
  · subst hnm
    clear HD
    go_enter Tryz.func159, Tryz.ntmps159
    go_wp2
    go_loopw [17] (fun iv wr => ∃ k : Nat, k ≤ n ∧ iv = .int .i64 k ∧ Hid (ls.take k = ms.take k) ∧ Below w.heap.size w wr) (fun iv _ => n - (intOf iv).toNat)
    case atStart => exact ⟨0, by omega, rfl, by unfold Hid; simp, Below.refl _ _⟩
    case round =>
      obtain ⟨k, hk, rfl, H, hbr⟩ := hrel
      obtain ⟨wo, hwo⟩ : ∃ x, x = wr := ⟨_, rfl⟩
      subst hwo
      have i0 : (0 : Int) ≤ (k : Int) := by omega
      have hos := hbr.size
      by_cases hlt : k < n
      · have i1 : (k : Int) < (n : Int) := by omega
        obtain ⟨f, hf⟩ : ∃ f, ls[k]? = some f := ⟨ls[k]'(by rw [hlenH.out]; omega), by simp⟩
        obtain ⟨g, hg⟩ : ∃ g, ms[k]? = some g := ⟨ms[k]'(by rw [hlenH'.out]; omega), by simp⟩
        have S : Hid (ls.take (k + 1) = ms.take (k + 1) ↔ f = g) := take_eq_step ls ms k f g hf hg H.out
        have S2 : Hid (f ≠ g → decide (ls = ms) = false) := fun h => decide_eq_false fun e => h (by rw [e, hg] at hf; simpa using hf.symm)
        obtain ⟨_, _, e1, -, -, hat⟩ := HL.out _ hbr
        obtain ⟨b, o, fv, e, hbB, hc, hi⟩ := hat k f hf
        simp at e1
        obtain ⟨rfl, -, -⟩ := e1
        subst e
        obtain ⟨_, _, e1, -, -, hat'⟩ := HM.out _ hbr
        obtain ⟨b', o', gv, e, hbB', hc', hi'⟩ := hat' k g hg
        simp at e1
        obtain ⟨rfl, -, -⟩ := e1
        subst e
        clear hat hat'
        have HPA : Hid (Calls Tryz.prog 192 #[fv, gv] wo fun e w'' => e = .returned (.bool (decide (f = g))) ∧ Below wo.heap.size wo w'') := sameFilterD_any B fv gv f g wo hi hi' (Nat.le_trans hB hos)
        obtain ⟨a2, c2, rfl, -, -⟩ := hi.shape
        obtain ⟨a3, c3, rfl, -, -⟩ := hi'.shape
        clear hi hi' hf hg
        generalize f.length = n2 at *
        generalize g.length = n3 at *
        by_cases he : f = g
        · have S' : Hid (ls.take (k + 1) = ms.take (k + 1)) := S.out.2 he
          rw [decide_eq_true he] at HPA
          clear he S S2
          go_wp2_with (first | (go_at_call 192; go_must (refine Calls.mono HPA.out ?_; rintro e w2 ⟨rfl, hb2⟩)))
          exact ⟨⟨k + 1, by omega, by go_num, S', Below.thenOf hbr hb2 hos⟩, by simp [intOf]; omega⟩
        · have S' : Hid (decide (ls = ms) = false) := S2.out he
          rw [decide_eq_false he] at HPA
          clear he S S2
          go_wp2_with (first | (go_at_call 192; go_must (refine Calls.mono HPA.out ?_; rintro e w2 ⟨rfl, hb2⟩)))
          go_ret
          exact ⟨by rw [S'.out]; rfl, Below.thenOf hbr hb2 hos⟩
      · have S' : Hid (decide (ls = ms) = true) := by
          apply decide_eq_true
          have := H.out
          rw [List.take_of_length_le (by rw [hlenH.out]; omega), List.take_of_length_le (by rw [hlenH'.out]; omega)] at this
          exact this
        go_wp2
        go_ret
        exact ⟨by rw [S'.out]; rfl, hbr⟩
  · have hnm' : ¬ (n : Int) = (m : Int) := by omega
    have S' : Hid (decide (ls = ms) = false) := HD.out hnm
    have hq : ((n : Int) != (m : Int)) = true := by simpa using hnm'
    go_enter Tryz.func159, Tryz.ntmps159
    go_wp2
    go_ret
    exact ⟨by rw [S'.out]; rfl, Below.refl _ _⟩

set_option maxHeartbeats 2000000 in
theorem sameD_any (B : Nat) (lv mv : Value) (ls ms : ChT) (w : World) (hl : ChsAt B w lv ls) (hm : ChsAt B w mv ms) (hB : B ≤ w.heap.size) :
    Calls Tryz.prog 158 #[lv, mv] w fun e w' => e = .returned (.bool (decide (ls = ms))) ∧ Below w.heap.size w w' := by
  have HC : Hid (Calls Tryz.prog 159 #[lv, mv, .func (.func 192) #[] #[]] w fun e w' => e = .returned (.bool (decide (ls = ms))) ∧ Below w.heap.size w w') := equalFuncD_any B lv mv ls ms w hl hm hB
  obtain ⟨a, c, rfl, -, -⟩ := hl.shape
  obtain ⟨a2, c2, rfl, -, -⟩ := hm.shape
  clear hl hm
  generalize decide (ls = ms) = eq at *
  generalize ls.length = n at *
  generalize ms.length = n2 at *
  go_enter Tryz.func158, Tryz.ntmps158
  go_wp2_with (first | (go_at_call 159; go_must (refine Calls.mono HC.out ?_; rintro e w2 ⟨rfl, hb2⟩)))
  go_ret
  exact ⟨rfl, hb2⟩

end Go.Proofs.YtbdlojnigflanacGreatDoor
end
