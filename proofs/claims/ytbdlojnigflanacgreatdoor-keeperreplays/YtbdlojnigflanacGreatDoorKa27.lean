/- Joined: Kep6 Kep7. -/
import Derived.Test.YtbdlojnigflanacGreatDoorKa26
section
/- The counterpart's Nexted: sessions that begin as another one is. -/
set_option linter.all false
set_option maxRecDepth 100000
namespace Go.Proofs.YtbdlojnigflanacGreatDoor
open Go.RowKit Go.Maps

set_option maxHeartbeats 16000000 in
theorem nexted_fork (B : Nat) (a : Option Addr) (cap : Nat) (ra : Option Addr) (rl rc : Nat) (l : List CellT) (ci fi : Nat) (rs : List RuleT) (d : Int) (w : World) (hl : CellsAt B w (.slice a 4 cap) l) (hr : RecAt B w (.agg #[.int .i64 3, .int .i64 ci, .int .i64 fi, .slice ra rl rc, .int .i64 d]) (3, (ci : Int), (fi : Int), rs, d)) (hB : B ≤ w.heap.size) (hce : cellsErr l = 0) (hre : recErr (3, (ci : Int), (fi : Int), rs, d) = 0) (c : CellT) (hck : l[ci]? = some c) (hco : c.1 = false) (fls : ChT) (fr : List RuleT) (fd : Int) (hfk : l[fi]? = some (true, fls, fr, fd)) :
    Calls Tryz.prog 43 #[.slice a 4 cap, .agg #[.int .i64 3, .int .i64 ci, .int .i64 fi, .slice ra rl rc, .int .i64 d]] w fun e w' => ∃ v, e = .returned (.tuple #[v, .int .i64 (compE (fr, fd))]) ∧ CellsAt w'.heap.size w' v (if compE (fr, fd) = 0 then l.set ci (true, [polI (fr, fd)], (fr, fd)) else []) ∧ Below w.heap.size w w' := by
  have HL : Hid (∀ w', Below w.heap.size w w' → CellsAt B w' (.slice a 4 cap) l) := fun w' h => hl.later h hB
  have HC : Hid (∀ w', Below w.heap.size w w' → Calls Tryz.prog 46 #[.slice a 4 cap] w' fun e w'' => e = .returned (.int .i64 0) ∧ Below w'.heap.size w' w'') := fun w' h => by
    have := checkCells_any B _ l w' (hl.later h hB) (Nat.le_trans hB h.size)
    rw [hce] at this
    exact this
  have HR : Hid (∀ w', Below w.heap.size w w' → Calls Tryz.prog 78 #[.agg #[.int .i64 3, .int .i64 ci, .int .i64 fi, .slice ra rl rc, .int .i64 d]] w' fun e w'' => e = .returned (.int .i64 0) ∧ Below w'.heap.size w' w'') := fun w' h => by
    have := checkRec_any B _ _ w' (hr.later h hB) (Nat.le_trans hB h.size)
    rw [hre] at this
    exact this
  obtain ⟨cp, hcp0⟩ : ∃ cp, cp = compE (fr, fd) := ⟨_, rfl⟩
  rw [← hcp0]
  obtain ⟨R, hR0⟩ : ∃ R, R = (if cp = 0 then l.set ci (true, [polI (fr, fd)], (fr, fd)) else []) := ⟨_, rfl⟩
  rw [← hR0]
  have HRes : Hid (R = (if cp = 0 then l.set ci (true, [polI (fr, fd)], (fr, fd)) else [])) := hR0
  have HCp : Hid (cp = compE (fr, fd)) := hcp0
  clear hR0 hcp0
  have HLen : Hid (l.length = 4) := (cellsErr_ok.1 hce).1
  have hci : ci < 4 := by
    have := (List.getElem?_eq_some_iff.1 hck).1
    rw [HLen.out] at this
    exact this
  have hci' : (ci : Int) < 4 := by omega
  have hci0 : (0 : Int) ≤ (ci : Int) := by omega
  have hc4 : 4 ≤ cap := by
    obtain ⟨_, _, e, h1, -⟩ := hl
    simp at e
    rw [HLen.out] at h1
    omega
  have HCk : Hid (l[ci]? = some c) := hck
  have HFk : Hid (l[fi]? = some (true, fls, fr, fd)) := hfk
  have hfi : fi < 4 := by
    have := (List.getElem?_eq_some_iff.1 hfk).1
    rw [HLen.out] at this
    exact this
  have hfi' : (fi : Int) < 4 := by omega
  have hfi0 : (0 : Int) ≤ (fi : Int) := by omega
  clear hl hr hce hre hck hfk
  obtain ⟨W1, hW1⟩ : ∃ W1, W1 = w.alloc (.cells #[.int .i64 3, .int .i64 ci, .int .i64 fi, .slice ra rl rc, .int .i64 d] 38) := ⟨_, rfl⟩
  have hb1 : Below w.heap.size w W1 := by rw [hW1]; exact (Below.refl _ _).alloc (Nat.le_refl _) _
  have hs1 : W1.heap.size = w.heap.size + 1 := by rw [hW1]; simp
  have g1 : W1.heap[w.heap.size]? = some (.cells #[.int .i64 3, .int .i64 ci, .int .i64 fi, .slice ra rl rc, .int .i64 d] 38 (0, 0)) := by rw [hW1]; exact heap_made _ _
  have HG : Hid (∀ w', Below W1.heap.size W1 w' → w'.heap[w.heap.size]? = some (.cells #[.int .i64 3, .int .i64 ci, .int .i64 fi, .slice ra rl rc, .int .i64 d] 38 (0, 0)) ∧ Below w.heap.size w w') := fun w' h => ⟨(h.block _ (by omega)).trans g1, Below.thenOf hb1 h hb1.size⟩
  have HW1 : Hid (W1 = _) := hW1
  have HB1 : Hid (Below w.heap.size w W1) := hb1
  have HBs : Hid (B ≤ w.heap.size) := hB
  clear hW1 g1 hb1 hs1 hB
  go_enter Tryz.func43, Tryz.ntmps43
  go_wp2_with fail
  rw [← HW1.out]
  go_at_call 46
  refine Calls.mono (HC.out _ HB1.out) ?_
  rintro e w2 ⟨rfl, hb2⟩
  obtain ⟨g2, hb2w⟩ := HG.out w2 hb2
  obtain ⟨y0, y1, y2, y3, y4⟩ := rec_box g2
  have HB2 : Hid (Below W1.heap.size W1 w2 ∧ Below w.heap.size w w2) := ⟨hb2, hb2w⟩
  clear g2 hb2 hb2w HC
  go_wp2_with fail
  go_at_call 78
  refine Calls.mono (HR.out _ HB2.out.2) ?_
  rintro e w3 ⟨rfl, hb3⟩
  obtain ⟨g3, hb3w⟩ := HG.out w3 (Below.thenOf HB2.out.1 hb3 HB2.out.1.size)
  clear y0 y1 y2 y3 y4 HR hb3 HB2
  obtain ⟨y0, y1, y2, y3, y4⟩ := rec_box g3
  obtain ⟨_, _, e1, -, -, hat⟩ := HL.out _ hb3w
  obtain ⟨b, o, e, hbB, hin⟩ := hat ci c HCk.out
  obtain ⟨b2, o2, e2, -, hif⟩ := hat fi _ HFk.out
  simp at e1
  obtain ⟨rfl, -⟩ := e1
  rw [e] at e2
  simp at e2
  obtain ⟨rfl, rfl⟩ := e2
  subst e
  obtain ⟨la, lc, pa, pc, c0, c1, c2, c3, -, -⟩ := hin.vals
  obtain ⟨la2, lc2, pa2, pc2, d0, d1, d2, d3, -, hpf⟩ := hif.vals
  simp only at d0 d1 d2 d3 hpf
  obtain ⟨frn, hfrn⟩ : ∃ n, n = fr.length := ⟨_, rfl⟩
  rw [← hfrn] at d2 hpf
  clear hfrn
  generalize fls.length = fln at *
  have HFP3 : Hid (∀ w', Below w3.heap.size w3 w' → PolAt B w' (.agg #[.slice pa2 frn pc2, .int .i64 fd]) (fr, fd)) := fun w' h => hpf.later h (Nat.le_trans HBs.out hb3w.size)
  clear hpf hif
  rw [hco] at c0
  have hbl : b < w3.heap.size := Nat.lt_of_lt_of_le hbB (Nat.le_trans HBs.out hb3w.size)
  generalize c.2.1.length = cln at *
  generalize c.2.2.1.length = crn at *
  generalize c.2.2.2 = cd at *
  clear hat hin hco HCk
  have hwl : w.heap.size < w3.heap.size := lt_of_block g3
  have Hg3 : Hid (w3.heap[w.heap.size]? = some (.cells #[.int .i64 3, .int .i64 ci, .int .i64 fi, .slice ra rl rc, .int .i64 d] 38 (0, 0))) := g3
  have HBw3 : Hid (Below w.heap.size w w3) := hb3w
  clear g3 hb3w
  obtain ⟨W4, hW4⟩ : ∃ W4, W4 = (w3.alloc (.cells #[.bool false, .slice la cln lc, .slice pa crn pc, .int .i64 cd] 77)).alloc (.cells #[.slice pa2 frn pc2, .int .i64 fd] 24) := ⟨_, rfl⟩
  have hb4 : Below w3.heap.size w3 W4 := by rw [hW4]; exact ((Below.refl _ _).alloc (Nat.le_refl _) _).alloc (by simp) _
  have hs4 : W4.heap.size = w3.heap.size + 1 + 1 := by rw [hW4]; simp
  have g4 : W4.heap[w3.heap.size]? = some (.cells #[.bool false, .slice la cln lc, .slice pa crn pc, .int .i64 cd] 77 (0, 0)) := by rw [hW4]; exact heap_kept' _ (heap_at _ _ rfl)
  have g4p : W4.heap[w3.heap.size + 1]? = some (.cells #[.slice pa2 frn pc2, .int .i64 fd] 24 (0, 0)) := by rw [hW4]; exact heap_at _ _ (by simp only [World.size_alloc])
  have hb4w : Below w.heap.size w W4 := Below.thenOf HBw3.out hb4 HBw3.out.size
  have HFi : Hid (Calls Tryz.prog 100 #[.agg #[.slice pa2 frn pc2, .int .i64 fd]] W4 fun e w' => ∃ fv, e = .returned (.tuple #[fv, .int .i64 cp]) ∧ w'.ownsRow W4.heap.size 86 4 fv (compL (fr, fd)).length (insCells (compL (fr, fd))) ∧ (∀ i ∈ compL (fr, fd), insWf i) ∧ Below W4.heap.size W4 w') := by
    rw [HCp.out]
    exact filter_any B _ (fr, fd) W4 (HFP3.out _ hb4) (Nat.le_trans HBs.out hb4w.size)
  have HB4 : Hid (Below w3.heap.size w3 W4 ∧ Below w.heap.size w W4) := ⟨hb4, hb4w⟩
  have HG4 : Hid (W4.heap[w3.heap.size]? = some (.cells #[.bool false, .slice la cln lc, .slice pa crn pc, .int .i64 cd] 77 (0, 0)) ∧ W4.heap[w3.heap.size + 1]? = some (.cells #[.slice pa2 frn pc2, .int .i64 fd] 24 (0, 0))) := ⟨g4, g4p⟩
  have HW4 : Hid (W4 = _) := hW4
  have HS4 : Hid (W4.heap.size = w3.heap.size + 1 + 1) := hs4
  clear hW4 hb4 g4 g4p hb4w hs4 hc4
  go_wp2_with fail
  rw [← HW4.out]
  go_at_call 100
  refine Calls.mono HFi.out ?_
  rintro e w5 ⟨fv, rfl, hof, hwf, hb5⟩
  have hb5w : Below w.heap.size w w5 := Below.thenOf HB4.out.2 hb5 HB4.out.2.size
  obtain ⟨fa, fc, efv, -⟩ := ownsRow_caps hof
  subst efv
  by_cases hcp : cp = 0
  case neg =>
    have hq : (cp != 0) = true := by simpa using hcp
    have HZ : Hid (R = []) := by unfold Hid; rw [HRes.out, if_neg hcp]
    have HB5 : Hid (Below w.heap.size w w5) := hb5w
    clear hof hwf hb5 hb5w HFi hcp HCp HRes
    generalize (compL (fr, fd)).length = fl at *
    go_wp2_with fail
    go_ret2
    exact ⟨_, rfl, by rw [HZ.out]; exact cellsAt_nil _ _, HB5.out⟩
  case pos =>
    have HZ : Hid (R = l.set ci (true, [polI (fr, fd)], (fr, fd))) := by unfold Hid; rw [HRes.out, if_pos hcp]
    have hcl : compL (fr, fd) = polI (fr, fd) := by rw [compL, if_pos (by rw [← HCp.out]; exact hcp)]
    subst hcp
    rw [hcl] at hof hwf ⊢
    have HOf : Hid (w5.ownsRow W4.heap.size 86 4 (.slice fa (polI (fr, fd)).length fc) (polI (fr, fd)).length (insCells (polI (fr, fd))) ∧ ∀ i ∈ polI (fr, fd), insWf i) := ⟨hof, hwf⟩
    clear hcl HRes HCp HFi
    have s5 := hb5.size
    rw [HS4.out] at s5
    have g5 := (hb5.block _ (by rw [HS4.out]; omega)).trans HG4.out.1
    have g5p := (hb5.block _ (by rw [HS4.out]; omega)).trans HG4.out.2
    obtain ⟨z0, z1, zf0, zf1⟩ : w5.cell? ⟨w3.heap.size + 1, 0, none⟩ = some (.slice pa2 frn pc2) ∧ w5.cell? ⟨w3.heap.size + 1, 1, none⟩ = some (.int .i64 fd) ∧ True ∧ True := ⟨heap_cell g5p 0 rfl, heap_cell g5p 1 rfl, trivial, trivial⟩
    have x0 := heap_cell g5 0 rfl
    have x1 := heap_cell g5 1 rfl
    have x2 := heap_cell g5 2 rfl
    have x3 := heap_cell g5 3 rfl
    have xf0 : w5.frozen? ⟨w3.heap.size, 0, none⟩ = false := by simp [World.frozen?, g5]
    have xf1 : w5.frozen? ⟨w3.heap.size, 1, none⟩ = false := by simp [World.frozen?, g5]
    have xf2 : w5.frozen? ⟨w3.heap.size, 2, none⟩ = false := by simp [World.frozen?, g5]
    have xf3 : w5.frozen? ⟨w3.heap.size, 3, none⟩ = false := by simp [World.frozen?, g5]
    have l5 : w3.heap.size < w5.heap.size := lt_of_block g5
    have l5p : w3.heap.size + 1 < w5.heap.size := lt_of_block g5p
    have hb35 : Below w3.heap.size w3 w5 := Below.thenOf HB4.out.1 hb5 HB4.out.1.size
    obtain ⟨WT, hWT⟩ : ∃ WT, WT = ((((w5.setCell ⟨w3.heap.size, 0, none⟩ (.bool true)).setCell ⟨w3.heap.size, 1, none⟩ (.slice (some ⟨w5.heap.size, 0, none⟩) 1 1)).setCell ⟨w3.heap.size, 2, none⟩ (.slice pa2 frn pc2)).setCell ⟨w3.heap.size, 3, none⟩ (.int .i64 fd)).alloc (.cells #[.slice fa (polI (fr, fd)).length fc] 81) := ⟨_, rfl⟩
    obtain ⟨gT, hkT, hsT, hbT3, hcT, hpT⟩ := open_tail (w := w3) (B := B) (p := (fr, fd)) (f := polI (fr, fd)) (Nat.le_trans HBs.out HBw3.out.size) hb35 (Nat.le_refl _) (by rw [HS4.out]; omega) g5 HOf.out.1 HOf.out.2 HFP3.out hWT
    have hbT : Below w.heap.size w WT := Below.thenOf HBw3.out hbT3 HBw3.out.size
    have HNew : Hid (ChsAt WT.heap.size WT (.slice (some ⟨w5.heap.size, 0, none⟩) 1 1) [polI (fr, fd)] ∧ PolAt WT.heap.size WT (.agg #[.slice pa2 frn pc2, .int .i64 fd]) (fr, fd)) := ⟨hcT, hpT⟩
    have HApp : Hid (∃ G gc w7, (Builtin.append_ #[66, 66] 66 #[.slice (some ⟨w5.heap.size + 1, 0, none⟩) 0 0, .slice (some ⟨b, o, none⟩) 4 cap]).run Tryz.prog (WT.alloc (.cells #[] 77)) = .ok (.slice (some ⟨G, 0, none⟩) 4 gc) w7 ∧ TailAt w.heap.size w3.heap.size WT w w7 G gc ci l ∧ w7.cell? ⟨w.heap.size, 1, none⟩ = some (.int .i64 ci) ∧ w7.cell? ⟨w3.heap.size, 0, none⟩ = some (.bool true) ∧ w7.cell? ⟨w3.heap.size, 1, none⟩ = some (.slice (some ⟨w5.heap.size, 0, none⟩) 1 1) ∧ w7.cell? ⟨w3.heap.size, 2, none⟩ = some (.slice pa2 frn pc2) ∧ w7.cell? ⟨w3.heap.size, 3, none⟩ = some (.int .i64 fd)) := by
      have hsT' : w3.heap.size < WT.heap.size := lt_of_block gT
      obtain ⟨G, gc, w7, h1, h2, h3⟩ := tail_any B b o cap l ci WT w w3.heap.size HBs.out HLen.out (HL.out _ hbT) hbT hwl hsT' hci
      have gT7 := (h3.block _ hsT').trans gT
      have gR5 := (hb5.block _ (by rw [HS4.out]; omega)).trans ((HB4.out.1.block _ hwl).trans Hg3.out)
      have gR7 := (h3.block _ (Nat.lt_trans hwl hsT')).trans ((hkT _ (by omega) (lt_of_block gR5)).trans gR5)
      rw [hsT] at h1
      exact ⟨G, gc, w7, h1, h2, (rec_box gR7).2.1, heap_cell gT7 0 rfl, heap_cell gT7 1 rfl, heap_cell gT7 2 rfl, heap_cell gT7 3 rfl⟩
    have HWT : Hid (WT = _) := hWT
    have hr5 := (hb5.block _ (by rw [HS4.out]; omega)).trans ((HB4.out.1.block _ hwl).trans Hg3.out)
    obtain ⟨rr0, rr1, -, -, -⟩ := rec_box hr5
    have lw5 : w.heap.size < w5.heap.size := lt_of_block hr5
    clear hWT gT hkT hsT hbT hcT hpT g5 g5p hof hwf HOf hb5 hb5w HL HG HBs s5 hr5 HFP3 hbT3 hb35
    generalize (polI (fr, fd)).length = fl at *
    go_wp2_with (first | (at_builtin; go_must (rw [← HWT.out]; obtain ⟨G, gc, w7, hr7, ht7, r1, t0, t1, t2, t3⟩ := HApp.out; refine Lib.wpList_append_run _ rfl _ _ _ _ rfl _ _ rfl rfl _ _ hr7 ?_; obtain ⟨u0, p0, f0⟩ := ht7.cells (ci * 4) (by omega); obtain ⟨u1, p1, f1⟩ := ht7.cells (ci * 4 + 1) (by omega); obtain ⟨u2, p2, f2⟩ := ht7.cells (ci * 4 + 2) (by omega); obtain ⟨u3, p3, f3⟩ := ht7.cells (ci * 4 + 3) (by omega); have HT7 : Hid (TailAt w.heap.size w3.heap.size WT w w7 G gc ci l) := ht7; have hG4 := ht7.cap; clear hr7 ht7 HApp)))
    go_ret2
    obtain ⟨h1, h2⟩ := HT7.out.done (true, [polI (fr, fd)], (fr, fd)) _ _ _ rfl HNew.out.1 HNew.out.2
    exact ⟨_, rfl, by rw [HZ.out]; exact h1, h2⟩
end Go.Proofs.YtbdlojnigflanacGreatDoor
end
section
/- The counterpart's Nexted: sessions that are tightened. -/
set_option linter.all false
set_option maxRecDepth 100000
namespace Go.Proofs.YtbdlojnigflanacGreatDoor
open Go.RowKit Go.Maps

/-- What stands behind a session that is tightened: its box, its chain, its policy. -/
theorem tight_tail {B L k : Nat} {w w5 WT : World} {fa pa : Option Addr} {fn fc pl pc : Nat} {d : Int} {x0 x1 x2 x3 : Value} {p : PolT} {ls : ChT} (hB : B ≤ w.heap.size) (hb : Below w.heap.size w w5) (hk : w.heap.size ≤ k) (hL : k < L) (g5 : w5.heap[k]? = some (.cells #[x0, x1, x2, x3] 77 (0, 0))) (ho : ChsOf B L w5 (.slice fa fn fc) ls) (hp : ∀ w', Below w.heap.size w w' → PolAt B w' (.agg #[.slice pa pl pc, .int .i64 d]) p)
    (e : WT = (((w5.setCell ⟨k, 1, none⟩ (.slice fa fn fc)).setCell ⟨k, 2, none⟩ (.slice pa pl pc)).setCell ⟨k, 3, none⟩ (.int .i64 d)).drew) :
    WT.heap[k]? = some (.cells #[x0, .slice fa fn fc, .slice pa pl pc, .int .i64 d] 77 (0, 0)) ∧ (∀ g, g ≠ k → WT.heap[g]? = w5.heap[g]?) ∧ WT.heap.size = w5.heap.size ∧ Below w.heap.size w WT ∧ ChsAt WT.heap.size WT (.slice fa fn fc) ls ∧ PolAt WT.heap.size WT (.agg #[.slice pa pl pc, .int .i64 d]) p := by
  have q2 := row_setCell (o := 1) (u := .slice fa fn fc) g5
  have q3 := row_setCell (o := 2) (u := .slice pa pl pc) q2
  have q4 := row_setCell (o := 3) (u := .int .i64 d) q3
  have hkp : ∀ g, g ≠ k → WT.heap[g]? = w5.heap[g]? := fun g hg => by
    rw [e]
    show (((w5.setCell ⟨k, 1, none⟩ (.slice fa fn fc)).setCell ⟨k, 2, none⟩ (.slice pa pl pc)).setCell ⟨k, 3, none⟩ (.int .i64 d)).heap[g]? = _
    rw [Below.heap_setCell _ _ _ _ hg, Below.heap_setCell _ _ _ _ hg, Below.heap_setCell _ _ _ _ hg]
  have hbL : ∀ L', L' ≤ k → Below L' w5 WT := fun L' hL' => by
    rw [e]
    exact ((((Below.refl L' w5).setCell (p := ⟨k, 1, none⟩) hL' _).setCell (p := ⟨k, 2, none⟩) hL' _).setCell (p := ⟨k, 3, none⟩) hL' _).drew
  have hbT : Below w.heap.size w WT := hb.trans (hbL _ hk)
  refine ⟨by rw [e]; exact q4, hkp, ?_, hbT, ho WT (hbL _ (Nat.le_trans hB hk)) (fun g hg _ => hkp g (by omega)), polAt_wideK (hp _ hbT) (Nat.le_trans hB hbT.size)⟩
  rw [e]
  show (((w5.setCell ⟨k, 1, none⟩ (.slice fa fn fc)).setCell ⟨k, 2, none⟩ (.slice pa pl pc)).setCell ⟨k, 3, none⟩ (.int .i64 d)).heap.size = _
  simp

set_option maxHeartbeats 16000000 in
theorem nexted_tight (B : Nat) (a : Option Addr) (cap : Nat) (ra : Option Addr) (rl rc : Nat) (l : List CellT) (ci fi : Nat) (rs : List RuleT) (d : Int) (w : World) (hl : CellsAt B w (.slice a 4 cap) l) (hr : RecAt B w (.agg #[.int .i64 2, .int .i64 ci, .int .i64 fi, .slice ra rl rc, .int .i64 d]) (2, (ci : Int), (fi : Int), rs, d)) (hB : B ≤ w.heap.size) (hce : cellsErr l = 0) (hre : recErr (2, (ci : Int), (fi : Int), rs, d) = 0) (cls : ChT) (crs : List RuleT) (cd : Int) (hck : l[ci]? = some (true, cls, crs, cd)) :
    Calls Tryz.prog 43 #[.slice a 4 cap, .agg #[.int .i64 2, .int .i64 ci, .int .i64 fi, .slice ra rl rc, .int .i64 d]] w fun e w' => ∃ v, e = .returned (.tuple #[v, .int .i64 (tightE cls (crs, cd) (rs, d))]) ∧ CellsAt w'.heap.size w' v (if tightE cls (crs, cd) (rs, d) = 0 then l.set ci (true, tightR cls (crs, cd) (rs, d), (rs, d)) else []) ∧ Below w.heap.size w w' := by
  have HL : Hid (∀ w', Below w.heap.size w w' → CellsAt B w' (.slice a 4 cap) l) := fun w' h => hl.later h hB
  have HC : Hid (∀ w', Below w.heap.size w w' → Calls Tryz.prog 46 #[.slice a 4 cap] w' fun e w'' => e = .returned (.int .i64 0) ∧ Below w'.heap.size w' w'') := fun w' h => by
    have := checkCells_any B _ l w' (hl.later h hB) (Nat.le_trans hB h.size)
    rw [hce] at this
    exact this
  have HR : Hid (∀ w', Below w.heap.size w w' → Calls Tryz.prog 78 #[.agg #[.int .i64 2, .int .i64 ci, .int .i64 fi, .slice ra rl rc, .int .i64 d]] w' fun e w'' => e = .returned (.int .i64 0) ∧ Below w'.heap.size w' w'') := fun w' h => by
    have := checkRec_any B _ _ w' (hr.later h hB) (Nat.le_trans hB h.size)
    rw [hre] at this
    exact this
  have HRP : Hid (∀ w', Below w.heap.size w w' → PolAt B w' (.agg #[.slice ra rl rc, .int .i64 d]) (rs, d)) := fun w' h => by
    obtain ⟨rv, e, -, -, -, hp⟩ := hr.later h hB
    simp at e
    rw [← e] at hp
    exact hp
  obtain ⟨cp, hcp0⟩ : ∃ cp, cp = tightE cls (crs, cd) (rs, d) := ⟨_, rfl⟩
  rw [← hcp0]
  obtain ⟨R, hR0⟩ : ∃ R, R = (if cp = 0 then l.set ci (true, tightR cls (crs, cd) (rs, d), (rs, d)) else []) := ⟨_, rfl⟩
  rw [← hR0]
  have HRes : Hid (R = (if cp = 0 then l.set ci (true, tightR cls (crs, cd) (rs, d), (rs, d)) else [])) := hR0
  have HCp : Hid (cp = tightE cls (crs, cd) (rs, d)) := hcp0
  clear hR0 hcp0
  have HLen : Hid (l.length = 4) := (cellsErr_ok.1 hce).1
  have hci : ci < 4 := by
    have := (List.getElem?_eq_some_iff.1 hck).1
    rw [HLen.out] at this
    exact this
  have hci' : (ci : Int) < 4 := by omega
  have hci0 : (0 : Int) ≤ (ci : Int) := by omega
  have hc4 : 4 ≤ cap := by
    obtain ⟨_, _, e, h1, -⟩ := hl
    simp at e
    rw [HLen.out] at h1
    omega
  have HCk : Hid (l[ci]? = some (true, cls, crs, cd)) := hck
  clear hl hr hce hre hck
  obtain ⟨W1, hW1⟩ : ∃ W1, W1 = w.alloc (.cells #[.int .i64 2, .int .i64 ci, .int .i64 fi, .slice ra rl rc, .int .i64 d] 38) := ⟨_, rfl⟩
  have hb1 : Below w.heap.size w W1 := by rw [hW1]; exact (Below.refl _ _).alloc (Nat.le_refl _) _
  have hs1 : W1.heap.size = w.heap.size + 1 := by rw [hW1]; simp
  have g1 : W1.heap[w.heap.size]? = some (.cells #[.int .i64 2, .int .i64 ci, .int .i64 fi, .slice ra rl rc, .int .i64 d] 38 (0, 0)) := by rw [hW1]; exact heap_made _ _
  have HG : Hid (∀ w', Below W1.heap.size W1 w' → w'.heap[w.heap.size]? = some (.cells #[.int .i64 2, .int .i64 ci, .int .i64 fi, .slice ra rl rc, .int .i64 d] 38 (0, 0)) ∧ Below w.heap.size w w') := fun w' h => ⟨(h.block _ (by omega)).trans g1, Below.thenOf hb1 h hb1.size⟩
  have HW1 : Hid (W1 = _) := hW1
  have HB1 : Hid (Below w.heap.size w W1) := hb1
  have HBs : Hid (B ≤ w.heap.size) := hB
  clear hW1 g1 hb1 hs1 hB
  go_enter Tryz.func43, Tryz.ntmps43
  go_wp2_with fail
  rw [← HW1.out]
  go_at_call 46
  refine Calls.mono (HC.out _ HB1.out) ?_
  rintro e w2 ⟨rfl, hb2⟩
  obtain ⟨g2, hb2w⟩ := HG.out w2 hb2
  obtain ⟨y0, y1, y2, y3, y4⟩ := rec_box g2
  have HB2 : Hid (Below W1.heap.size W1 w2 ∧ Below w.heap.size w w2) := ⟨hb2, hb2w⟩
  clear g2 hb2 hb2w HC
  go_wp2_with fail
  go_at_call 78
  refine Calls.mono (HR.out _ HB2.out.2) ?_
  rintro e w3 ⟨rfl, hb3⟩
  obtain ⟨g3, hb3w⟩ := HG.out w3 (Below.thenOf HB2.out.1 hb3 HB2.out.1.size)
  clear y0 y1 y2 y3 y4 HR hb3 HB2
  obtain ⟨y0, y1, y2, y3, y4⟩ := rec_box g3
  obtain ⟨_, _, e1, -, -, hat⟩ := HL.out _ hb3w
  obtain ⟨b, o, e, hbB, hin⟩ := hat ci _ HCk.out
  simp at e1
  obtain ⟨rfl, -⟩ := e1
  subst e
  obtain ⟨la, lc, pa, pc, c0, c1, c2, c3, hch, hpc⟩ := hin.vals
  simp only at c0 c1 c2 c3 hch hpc
  obtain ⟨cln, hcln⟩ : ∃ n, n = cls.length := ⟨_, rfl⟩
  obtain ⟨crn, hcrn⟩ : ∃ n, n = crs.length := ⟨_, rfl⟩
  rw [← hcln] at c1 hch
  rw [← hcrn] at c2 hpc
  clear hcln hcrn
  have HCH : Hid (∀ w', Below w3.heap.size w3 w' → ChsAt B w' (.slice la cln lc) cls ∧ PolAt B w' (.agg #[.slice pa crn pc, .int .i64 cd]) (crs, cd)) := fun w' h => ⟨hch.later h (Nat.le_trans HBs.out hb3w.size), hpc.later h (Nat.le_trans HBs.out hb3w.size)⟩
  clear hch hpc
  have hbl : b < w3.heap.size := Nat.lt_of_lt_of_le hbB (Nat.le_trans HBs.out hb3w.size)
  clear hat hin HCk
  have hwl : w.heap.size < w3.heap.size := lt_of_block g3
  have Hg3 : Hid (w3.heap[w.heap.size]? = some (.cells #[.int .i64 2, .int .i64 ci, .int .i64 fi, .slice ra rl rc, .int .i64 d] 38 (0, 0))) := g3
  have HBw3 : Hid (Below w.heap.size w w3) := hb3w
  clear g3 hb3w
  obtain ⟨W4, hW4⟩ : ∃ W4, W4 = (w3.alloc (.cells #[.bool true, .slice la cln lc, .slice pa crn pc, .int .i64 cd] 77)).alloc (.cells #[.slice ra rl rc, .int .i64 d] 24) := ⟨_, rfl⟩
  have hb4 : Below w3.heap.size w3 W4 := by rw [hW4]; exact ((Below.refl _ _).alloc (Nat.le_refl _) _).alloc (by simp) _
  have hs4 : W4.heap.size = w3.heap.size + 1 + 1 := by rw [hW4]; simp
  have g4 : W4.heap[w3.heap.size]? = some (.cells #[.bool true, .slice la cln lc, .slice pa crn pc, .int .i64 cd] 77 (0, 0)) := by rw [hW4]; exact heap_kept' _ (heap_at _ _ rfl)
  have g4p : W4.heap[w3.heap.size + 1]? = some (.cells #[.slice ra rl rc, .int .i64 d] 24 (0, 0)) := by rw [hW4]; exact heap_at _ _ (by simp only [World.size_alloc])
  have hb4w : Below w.heap.size w W4 := Below.thenOf HBw3.out hb4 HBw3.out.size
  have HTi : Hid (Calls Tryz.prog 101 #[.slice la cln lc, .agg #[.slice pa crn pc, .int .i64 cd], .agg #[.slice ra rl rc, .int .i64 d]] W4 fun e w' => ∃ v, e = .returned (.tuple #[v, .int .i64 cp]) ∧ ChsOf B W4.heap.size w' v (tightR cls (crs, cd) (rs, d)) ∧ Below W4.heap.size W4 w') := by
    rw [HCp.out]
    exact tightened_of B _ _ _ cls (crs, cd) (rs, d) W4 (HCH.out _ hb4).1 (HCH.out _ hb4).2 (HRP.out _ hb4w) (Nat.le_trans HBs.out hb4w.size)
  have HB4 : Hid (Below w3.heap.size w3 W4 ∧ Below w.heap.size w W4) := ⟨hb4, hb4w⟩
  have HG4 : Hid (W4.heap[w3.heap.size]? = some (.cells #[.bool true, .slice la cln lc, .slice pa crn pc, .int .i64 cd] 77 (0, 0)) ∧ W4.heap[w3.heap.size + 1]? = some (.cells #[.slice ra rl rc, .int .i64 d] 24 (0, 0))) := ⟨g4, g4p⟩
  have HW4 : Hid (W4 = _) := hW4
  have HS4 : Hid (W4.heap.size = w3.heap.size + 1 + 1) := hs4
  clear hW4 hb4 g4 g4p hb4w hs4 hc4 HCH
  go_wp2_with fail
  rw [← HW4.out]
  go_at_call 101
  refine Calls.mono HTi.out ?_
  rintro e w5 ⟨fv, rfl, hof, hb5⟩
  have hb5w : Below w.heap.size w w5 := Below.thenOf HB4.out.2 hb5 HB4.out.2.size
  obtain ⟨fa, fc, efv, -⟩ := hof.at.shape
  subst efv
  have HOf : Hid (ChsOf B W4.heap.size w5 (.slice fa (tightR cls (crs, cd) (rs, d)).length fc) (tightR cls (crs, cd) (rs, d))) := hof
  clear hof
  by_cases hcp : cp = 0
  case neg =>
    have hq : (cp != 0) = true := by simpa using hcp
    have HZ : Hid (R = []) := by unfold Hid; rw [HRes.out, if_neg hcp]
    have HB5 : Hid (Below w.heap.size w w5) := hb5w
    clear HOf hb5 hb5w HTi hcp HCp HRes
    generalize (tightR cls (crs, cd) (rs, d)).length = fl at *
    go_wp2_with fail
    go_ret2
    exact ⟨_, rfl, by rw [HZ.out]; exact cellsAt_nil _ _, HB5.out⟩
  case pos =>
    have HZ : Hid (R = l.set ci (true, tightR cls (crs, cd) (rs, d), (rs, d))) := by unfold Hid; rw [HRes.out, if_pos hcp]
    subst hcp
    clear HRes HCp HTi
    have s5 := hb5.size
    rw [HS4.out] at s5
    have g5 := (hb5.block _ (by rw [HS4.out]; omega)).trans HG4.out.1
    have g5p := (hb5.block _ (by rw [HS4.out]; omega)).trans HG4.out.2
    obtain ⟨z0, z1⟩ : w5.cell? ⟨w3.heap.size + 1, 0, none⟩ = some (.slice ra rl rc) ∧ w5.cell? ⟨w3.heap.size + 1, 1, none⟩ = some (.int .i64 d) := ⟨heap_cell g5p 0 rfl, heap_cell g5p 1 rfl⟩
    have x0 := heap_cell g5 0 rfl
    have x1 := heap_cell g5 1 rfl
    have x2 := heap_cell g5 2 rfl
    have x3 := heap_cell g5 3 rfl
    have xf0 : w5.frozen? ⟨w3.heap.size, 0, none⟩ = false := by simp [World.frozen?, g5]
    have xf1 : w5.frozen? ⟨w3.heap.size, 1, none⟩ = false := by simp [World.frozen?, g5]
    have xf2 : w5.frozen? ⟨w3.heap.size, 2, none⟩ = false := by simp [World.frozen?, g5]
    have xf3 : w5.frozen? ⟨w3.heap.size, 3, none⟩ = false := by simp [World.frozen?, g5]
    have l5 : w3.heap.size < w5.heap.size := lt_of_block g5
    have l5p : w3.heap.size + 1 < w5.heap.size := lt_of_block g5p
    obtain ⟨fl, hfl⟩ : ∃ fl, fl = (tightR cls (crs, cd) (rs, d)).length := ⟨_, rfl⟩
    rw [← hfl] at HOf ⊢
    clear hfl
    obtain ⟨WT, hWT⟩ : ∃ WT, WT = (((w5.setCell ⟨w3.heap.size, 1, none⟩ (.slice fa fl fc)).setCell ⟨w3.heap.size, 2, none⟩ (.slice ra rl rc)).setCell ⟨w3.heap.size, 3, none⟩ (.int .i64 d)).drew := ⟨_, rfl⟩
    obtain ⟨gT, hkT, hsT, hbT, hcT, hpT⟩ := tight_tail (p := (rs, d)) HBs.out hb5w (Nat.le_of_lt hwl) (by rw [HS4.out]; omega) g5 HOf.out HRP.out hWT
    have HNew : Hid (ChsAt WT.heap.size WT (.slice fa fl fc) (tightR cls (crs, cd) (rs, d)) ∧ PolAt WT.heap.size WT (.agg #[.slice ra rl rc, .int .i64 d]) (rs, d)) := ⟨hcT, hpT⟩
    have HApp : Hid (∃ G gc w7, (Builtin.append_ #[66, 66] 66 #[.slice (some ⟨w5.heap.size, 0, none⟩) 0 0, .slice (some ⟨b, o, none⟩) 4 cap]).run Tryz.prog (WT.alloc (.cells #[] 77)) = .ok (.slice (some ⟨G, 0, none⟩) 4 gc) w7 ∧ TailAt w.heap.size w3.heap.size WT w w7 G gc ci l ∧ w7.cell? ⟨w.heap.size, 1, none⟩ = some (.int .i64 ci) ∧ w7.cell? ⟨w3.heap.size, 0, none⟩ = some (.bool true) ∧ w7.cell? ⟨w3.heap.size, 1, none⟩ = some (.slice fa fl fc) ∧ w7.cell? ⟨w3.heap.size, 2, none⟩ = some (.slice ra rl rc) ∧ w7.cell? ⟨w3.heap.size, 3, none⟩ = some (.int .i64 d)) := by
      have hsT' : w3.heap.size < WT.heap.size := lt_of_block gT
      obtain ⟨G, gc, w7, h1, h2, h3⟩ := tail_any B b o cap l ci WT w w3.heap.size HBs.out HLen.out (HL.out _ hbT) hbT hwl hsT' hci
      have gT7 := (h3.block _ hsT').trans gT
      have gR5 := (hb5.block _ (by rw [HS4.out]; omega)).trans ((HB4.out.1.block _ hwl).trans Hg3.out)
      have gR7 := (h3.block _ (Nat.lt_trans hwl hsT')).trans ((hkT _ (by omega)).trans gR5)
      rw [hsT] at h1
      exact ⟨G, gc, w7, h1, h2, (rec_box gR7).2.1, heap_cell gT7 0 rfl, heap_cell gT7 1 rfl, heap_cell gT7 2 rfl, heap_cell gT7 3 rfl⟩
    have HWT : Hid (((((w5.setCell ⟨w3.heap.size, 1, none⟩ (.slice fa fl fc)).setCell ⟨w3.heap.size, 2, none⟩ (.slice ra rl rc)).setCell ⟨w3.heap.size, 3, none⟩ (.int .i64 d)).alloc (.cells #[] 77)).drew = WT.alloc (.cells #[] 77)) := by rw [hWT]; rfl
    have hr5 := (hb5.block _ (by rw [HS4.out]; omega)).trans ((HB4.out.1.block _ hwl).trans Hg3.out)
    obtain ⟨rr0, rr1, -, -, -⟩ := rec_box hr5
    have lw5 : w.heap.size < w5.heap.size := lt_of_block hr5
    clear hWT gT hkT hsT hbT hcT hpT g5 g5p HOf hb5 hb5w HL HG HBs s5 hr5 HRP
    go_wp2_with fail
    go_region
    go_wp2_with (first | (at_builtin; go_must (rw [HWT.out]; obtain ⟨G, gc, w7, hr7, ht7, r1, t0, t1, t2, t3⟩ := HApp.out; refine Lib.wpList_append_run _ rfl _ _ _ _ rfl _ _ rfl rfl _ _ hr7 ?_; obtain ⟨u0, p0, f0⟩ := ht7.cells (ci * 4) (by omega); obtain ⟨u1, p1, f1⟩ := ht7.cells (ci * 4 + 1) (by omega); obtain ⟨u2, p2, f2⟩ := ht7.cells (ci * 4 + 2) (by omega); obtain ⟨u3, p3, f3⟩ := ht7.cells (ci * 4 + 3) (by omega); have HT7 : Hid (TailAt w.heap.size w3.heap.size WT w w7 G gc ci l) := ht7; have hG4 := ht7.cap; clear hr7 ht7 HApp)))
    go_ret2
    obtain ⟨h1, h2⟩ := HT7.out.done (true, tightR cls (crs, cd) (rs, d), (rs, d)) _ _ _ rfl HNew.out.1 HNew.out.2
    exact ⟨_, rfl, by rw [HZ.out]; exact h1, h2⟩
end Go.Proofs.YtbdlojnigflanacGreatDoor
end
