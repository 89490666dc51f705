/- Joined: Kep3 Kep4 Kep5. -/
import Derived.Test.YtbdlojnigflanacGreatDoorKa25
section
/- Sessions in a row of one's own: copied, and one of them written. -/
set_option linter.all false
set_option maxRecDepth 100000
namespace Go.Proofs.YtbdlojnigflanacGreatDoor
open Go.RowKit Go.Maps

theorem infoCell : ∃ i, Tryz.prog.info? 77 = some i ∧ i.zero = some (.agg #[.bool false, .slice none 0 0, .slice none 0 0, .int .i64 0]) ∧ i.size = 4 ∧ i.bytes = 64 := infoOf (by kernel_rfl)

/-- The cells of sessions, one row. -/
def XsC (B : Nat) (w : World) (xs : List Value) (l : List CellT) : Prop :=
  xs.length = l.length * 4 ∧ (∀ u ∈ xs, u.oneCell' = true) ∧ ∀ i c, l[i]? = some c → ∃ lv rv, xs[i * 4]? = some (.bool c.1) ∧ xs[i * 4 + 1]? = some lv ∧ xs[i * 4 + 2]? = some rv ∧ xs[i * 4 + 3]? = some (.int .i64 c.2.2.2) ∧ ChsAt B w lv c.2.1 ∧ PolAt B w (.agg #[rv, .int .i64 c.2.2.2]) c.2.2
theorem XsC.later {B B' : Nat} {w w' : World} {xs : List Value} {l : List CellT} (h : XsC B w xs l) (hb : Below B' w w') (hB : B ≤ B') : XsC B w' xs l := by
  obtain ⟨h1, h2, h3⟩ := h
  refine ⟨h1, h2, fun i c hc => ?_⟩
  obtain ⟨lv, rv, e0, e1, e2, e3, e4, e5⟩ := h3 i c hc
  exact ⟨lv, rv, e0, e1, e2, e3, e4.later hb hB, e5.later hb hB⟩
theorem xsC_of {B : Nat} {w : World} {l : List CellT} {b o : Nat} (h : ∀ i c, l[i]? = some c → CellIn B w b (o + i * 4) c) : ∃ xs, XsC B w xs l ∧ ∀ j u, xs[j]? = some u → w.cell? ⟨b, o + j, none⟩ = some u := by
  have each : ∀ j, j < l.length * 4 → ∃ v, w.cell? ⟨b, o + j, none⟩ = some v ∧ v.oneCell' = true := by
    intro j hj
    obtain ⟨c, hc⟩ : ∃ c, l[j / 4]? = some c := ⟨l[j / 4]'(by omega), by simp⟩
    obtain ⟨la, lc, ra, rc, c0, c1, c2, c3, -, -⟩ := (h _ c hc).vals
    have hm : j % 4 = 0 ∨ j % 4 = 1 ∨ j % 4 = 2 ∨ j % 4 = 3 := by omega
    rcases hm with hm | hm | hm | hm
    · exact ⟨_, by rw [show o + j = o + j / 4 * 4 by omega]; exact c0, rfl⟩
    · exact ⟨_, by rw [show o + j = o + j / 4 * 4 + 1 by omega]; exact c1, rfl⟩
    · exact ⟨_, by rw [show o + j = o + j / 4 * 4 + 2 by omega]; exact c2, rfl⟩
    · exact ⟨_, by rw [show o + j = o + j / 4 * 4 + 3 by omega]; exact c3, rfl⟩
  obtain ⟨xs, hl, hx⟩ := list_of _ _ each
  refine ⟨xs, ⟨hl, fun u hu => ?_, fun i c hc => ?_⟩, fun j u hj => (hx j u hj).1⟩
  · obtain ⟨j, hj⟩ := List.mem_iff_getElem?.1 hu
    exact (hx j u hj).2
  · have hi : i < l.length := (List.getElem?_eq_some_iff.1 hc).1
    obtain ⟨lv, rv, c0, c1, c2, c3, h4, h5⟩ := h i c hc
    have get : ∀ (j : Nat) (u : Value), j < l.length * 4 → w.cell? ⟨b, o + j, none⟩ = some u → xs[j]? = some u := fun j u hj hu => by
      obtain ⟨v, hv⟩ : ∃ v, xs[j]? = some v := ⟨xs[j]'(by omega), by simp⟩
      have := (hx j v hv).1
      rw [hu] at this
      cases this
      exact hv
    exact ⟨lv, rv, get _ _ (by omega) c0, get _ _ (by omega) (by rw [← Nat.add_assoc]; exact c1), get _ _ (by omega) (by rw [← Nat.add_assoc]; exact c2), get _ _ (by omega) (by rw [← Nat.add_assoc]; exact c3), h4, h5⟩
/-- Sessions behind nothing, in a row of one's own. -/
theorem run_append_cells (B : Nat) (ty : TypeId) (b o cap : Nat) (l : List CellT) (W : World) (hs : CellsAt B W (.slice (some ⟨b, o, none⟩) l.length cap) l) (hn : l.length ≤ 1000) (hB : B ≤ W.heap.size) :
    ∃ v' W' ys, (Builtin.append_ #[66, 66] ty #[.slice (some ⟨W.heap.size, 0, none⟩) 0 0, .slice (some ⟨b, o, none⟩) l.length cap]).run Tryz.prog (W.alloc (.cells #[] 77)) = .ok v' W' ∧ W'.ownsRow W.heap.size 77 4 v' l.length ys ∧ XsC B W' ys l ∧ Below W.heap.size W W' := by
  obtain ⟨inf, hi1, hi2, hi3, hi4⟩ := infoCell
  have hml := maxLen_eq
  have hb6 : Below W.heap.size W (W.alloc (.cells #[] 77)) := (Below.refl _ _).alloc (Nat.le_refl _) _
  have ho6 : (W.alloc (.cells #[] 77)).ownsRow W.heap.size 77 4 (.slice (some ⟨W.heap.size, 0, none⟩) 0 0) 0 [] := ⟨rfl, .inr ⟨W.heap.size, 0, #[], rfl, Nat.le_refl _, heap_made W _, Nat.le_refl _, Nat.zero_le _, rfl, rfl⟩⟩
  obtain ⟨a', cap', e, h1, h2, h3⟩ := hs
  simp at e
  obtain ⟨rfl, rfl⟩ := e
  obtain ⟨ys, hys, hcell⟩ := xsC_of (b := b) (o := o) fun i c hc => by
    obtain ⟨b', o', e, -, k⟩ := h3 i c hc
    simp at e
    obtain ⟨rfl, rfl⟩ := e
    exact k
  have hlb : ∀ j u, ys[j]? = some u → b < W.heap.size := fun j u hj => World.block_lt_of_cell? _ _ (hcell j u hj)
  obtain ⟨v', W', g1, g2, g3, g4⟩ := run_append_own (P := Tryz.prog) (W.alloc (.cells #[] 77)) W.heap.size 66 ty 77 inf _ 4 64 Tryz.underlying66 hi1 hi2 hi3 hi4 rfl (by decide) _ 0 [] ho6 ⟨b, o, none⟩ l.length cap ys hys.1 (fun j u hj => by rw [add_at]; exact (hb6.cell (p := ⟨b, o + j, none⟩) (hlb j u hj)).trans (hcell j u hj)) hys.2.1 (by omega) (by omega) hb6.size
  have hbl : Below W.heap.size W W' := hb6.grown g3 (by simp) fun k hk => ownsRow_ge ho6 k hk
  refine ⟨v', W', ys, g1, by simpa using g2, hys.later hbl hB, hbl⟩
/-- One session of a row of one's own is written. -/
theorem cells_put {B base ci : Nat} {w : World} {v : Value} {xs : List Value} {l : List CellT} (ho : w.ownsRow base 77 4 v l.length xs) (hx : XsC B w xs l) (hci : ci < l.length) (hB : B ≤ base) :
    ∃ G cap, v = .slice (some ⟨G, 0, none⟩) l.length cap ∧ base ≤ G ∧ G < w.heap.size ∧ l.length ≤ cap ∧ (∀ j, j < l.length * 4 → ∃ u, w.cell? ⟨G, j, none⟩ = some u ∧ w.frozen? ⟨G, j, none⟩ = false) ∧
      ∀ (c : CellT) (lv rv : Value) (wF : World), wF = (((w.setCell ⟨G, ci * 4, none⟩ (.bool c.1)).setCell ⟨G, ci * 4 + 1, none⟩ lv).setCell ⟨G, ci * 4 + 2, none⟩ rv).setCell ⟨G, ci * 4 + 3, none⟩ (.int .i64 c.2.2.2) → (∀ wF', wF' = wF → ChsAt wF'.heap.size wF' lv c.2.1 ∧ PolAt wF'.heap.size wF' (.agg #[rv, .int .i64 c.2.2.2]) c.2.2) → CellsAt wF.heap.size wF v (l.set ci c) := by
  obtain ⟨hlen, h⟩ := ho
  rcases h with ⟨_, hx0⟩ | ⟨G, cap, cur, e, hge, hg, hle, hcm, hsz, htk⟩
  · exfalso
    have := hx.1
    omega
  · have hG := lt_of_block hg
    have hxl := hx.1
    have hcur : ∀ j, j < l.length * 4 → cur[j]? = xs[j]? := fun j hj => by
      rw [← htk, List.getElem?_take, if_pos (by omega)]
      simp
    refine ⟨G, cap, e, hge, hG, hle, fun j hj => ?_, fun c lv rv wF eF hnew => ?_⟩
    · exact ⟨cur[j]'(by rw [hsz]; omega), heap_cell hg j (by simp), by simp [World.frozen?, hg]⟩
    · have q1 := row_setCell (o := ci * 4) (u := .bool c.1) hg
      have q2 := row_setCell (o := ci * 4 + 1) (u := lv) q1
      have q3 := row_setCell (o := ci * 4 + 2) (u := rv) q2
      have q4 := row_setCell (o := ci * 4 + 3) (u := .int .i64 c.2.2.2) q3
      rw [← eF] at q4
      have hbF : Below base w wF := by
        rw [eF]
        exact ((((Below.refl base w).setCell (p := ⟨G, ci * 4, none⟩) hge _).setCell (p := ⟨G, ci * 4 + 1, none⟩) hge _).setCell (p := ⟨G, ci * 4 + 2, none⟩) hge _).setCell (p := ⟨G, ci * 4 + 3, none⟩) hge _
      have hGF := lt_of_block q4
      have hcs : l.length * 4 ≤ cur.size := by omega
      refine ⟨some ⟨G, 0, none⟩, cap, by rw [e]; simp, by simpa using hle, hcm, fun i d hd => ⟨G, 0, rfl, hGF, ?_⟩⟩
      rw [Nat.zero_add]
      have hil : i < l.length := by
        have := (List.getElem?_eq_some_iff.1 hd).1
        simpa using this
      by_cases hi : i = ci
      · subst hi
        rw [List.getElem?_set_self hil] at hd
        cases hd
        obtain ⟨n1, n2⟩ := hnew wF rfl
        refine ⟨lv, rv, heap_cell q4 _ ?_, heap_cell q4 _ ?_, heap_cell q4 _ ?_, heap_cell q4 _ ?_, n1, n2⟩
        all_goals
          simp only [Array.getElem?_setIfInBounds, Array.size_setIfInBounds]
          repeat (first | rw [if_pos trivial] | rw [if_pos (by omega)] | rw [if_neg (by omega)])
      · rw [List.getElem?_set_ne (Ne.symm hi)] at hd
        obtain ⟨lv', rv', e0, e1, e2, e3, e4, e5⟩ := hx.2.2 i d hd
        refine ⟨lv', rv', heap_cell q4 _ ?_, heap_cell q4 _ ?_, heap_cell q4 _ ?_, heap_cell q4 _ ?_, (e4.later hbF hB).mono (by have := hbF.size; omega), polAt_wideK (e5.later hbF hB) (by have := hbF.size; omega)⟩
        all_goals
          simp only [Array.getElem?_setIfInBounds, Array.size_setIfInBounds]
          repeat (rw [if_neg (by omega)])
          rw [hcur _ (by omega)]
          assumption
end Go.Proofs.YtbdlojnigflanacGreatDoor
end
section
/- The counterpart's Nexted: sessions or a record that are wrong. -/
set_option linter.all false
set_option maxRecDepth 100000
namespace Go.Proofs.YtbdlojnigflanacGreatDoor
open Go.RowKit Go.Maps

/-- What stands when a copy of the sessions has been made, ahead of the one that is written. -/
structure TailAt (k1 k2 : Nat) (WT w w7 : World) (G gc ci : Nat) (l : List CellT) : Prop where
  cells : ∀ j, j < 16 → ∃ u, w7.cell? ⟨G, j, none⟩ = some u ∧ w7.frozen? ⟨G, j, none⟩ = false
  ge : WT.heap.size ≤ G
  lt : G < w7.heap.size
  cap : 4 ≤ gc
  below : Below WT.heap.size WT w7
  ahead : Below w.heap.size w WT
  done : ∀ (c : CellT) (lv rv : Value) (wF : World), wF = (((w7.setCell ⟨G, ci * 4, none⟩ (.bool c.1)).setCell ⟨G, ci * 4 + 1, none⟩ lv).setCell ⟨G, ci * 4 + 2, none⟩ rv).setCell ⟨G, ci * 4 + 3, none⟩ (.int .i64 c.2.2.2) → ChsAt WT.heap.size WT lv c.2.1 → PolAt WT.heap.size WT (.agg #[rv, .int .i64 c.2.2.2]) c.2.2 → CellsAt wF.heap.size wF (.slice (some ⟨G, 0, none⟩) 4 gc) (l.set ci c) ∧ Below w.heap.size w wF
theorem tail_any (B b o cap : Nat) (l : List CellT) (ci : Nat) (WT w : World) (k2 : Nat) (hBs : B ≤ w.heap.size) (hlen : l.length = 4) (hl : CellsAt B WT (.slice (some ⟨b, o, none⟩) 4 cap) l) (hb : Below w.heap.size w WT) (hwl : w.heap.size < k2) (hsT : k2 < WT.heap.size) (hci : ci < 4) :
    ∃ G gc w7, (Builtin.append_ #[66, 66] 66 #[.slice (some ⟨WT.heap.size, 0, none⟩) 0 0, .slice (some ⟨b, o, none⟩) 4 cap]).run Tryz.prog (WT.alloc (.cells #[] 77)) = .ok (.slice (some ⟨G, 0, none⟩) 4 gc) w7 ∧ TailAt w.heap.size k2 WT w w7 G gc ci l ∧ Below WT.heap.size WT w7 := by
  have hBT := Nat.le_trans hBs hb.size
  obtain ⟨v7, w7, ys, hr7, ho7, hx7, hb7⟩ := run_append_cells B 66 b o cap l WT (by rw [hlen]; exact hl) (by rw [hlen]; decide) hBT
  rw [hlen] at hr7
  obtain ⟨G, gc, ev, hG1, hG2, hG3, hG4, hG5⟩ := cells_put (ci := ci) ho7 hx7 (by rw [hlen]; exact hci) hBT
  rw [hlen] at ev hG3 hG4
  subst ev
  refine ⟨G, gc, w7, hr7, ⟨fun j hj => hG4 j (by omega), hG1, hG2, hG3, hb7, hb, fun c lv rv wF eF h1 h2 => ?_⟩, hb7⟩
  have hbF : Below WT.heap.size WT wF := by
    rw [eF]
    exact (((hb7.setCell (p := ⟨G, ci * 4, none⟩) hG1 _).setCell (p := ⟨G, ci * 4 + 1, none⟩) hG1 _).setCell (p := ⟨G, ci * 4 + 2, none⟩) hG1 _).setCell (p := ⟨G, ci * 4 + 3, none⟩) hG1 _
  exact ⟨hG5 c lv rv wF eF fun wF' e => by subst e; exact ⟨(h1.later hbF (Nat.le_refl _)).mono hbF.size, polAt_wideK (h2.later hbF (Nat.le_refl _)) hbF.size⟩, Below.thenOf hb hbF hb.size⟩

set_option maxHeartbeats 16000000 in
theorem nexted_shut (B : Nat) (a : Option Addr) (cap : Nat) (ra : Option Addr) (rl rc : Nat) (l : List CellT) (ci fi : Nat) (rs : List RuleT) (d : Int) (w : World) (hl : CellsAt B w (.slice a 4 cap) l) (hr : RecAt B w (.agg #[.int .i64 4, .int .i64 ci, .int .i64 fi, .slice ra rl rc, .int .i64 d]) (4, (ci : Int), (fi : Int), rs, d)) (hB : B ≤ w.heap.size) (hce : cellsErr l = 0) (hre : recErr (4, (ci : Int), (fi : Int), rs, d) = 0) (c : CellT) (hck : l[ci]? = some c) (hco : c.1 = true) :
    Calls Tryz.prog 43 #[.slice a 4 cap, .agg #[.int .i64 4, .int .i64 ci, .int .i64 fi, .slice ra rl rc, .int .i64 d]] w fun e w' => ∃ v, e = .returned (.tuple #[v, .int .i64 0]) ∧ CellsAt w'.heap.size w' v (l.set ci zeroCell) ∧ Below w.heap.size w w' := by
  have HL : Hid (∀ w', Below w.heap.size w w' → CellsAt B w' (.slice a 4 cap) l) := fun w' h => hl.later h hB
  have HC : Hid (∀ w', Below w.heap.size w w' → Calls Tryz.prog 46 #[.slice a 4 cap] w' fun e w'' => e = .returned (.int .i64 0) ∧ Below w'.heap.size w' w'') := fun w' h => by
    have := checkCells_any B _ l w' (hl.later h hB) (Nat.le_trans hB h.size)
    rw [hce] at this
    exact this
  have HR : Hid (∀ w', Below w.heap.size w w' → Calls Tryz.prog 78 #[.agg #[.int .i64 4, .int .i64 ci, .int .i64 fi, .slice ra rl rc, .int .i64 d]] w' fun e w'' => e = .returned (.int .i64 0) ∧ Below w'.heap.size w' w'') := fun w' h => by
    have := checkRec_any B _ _ w' (hr.later h hB) (Nat.le_trans hB h.size)
    rw [hre] at this
    exact this
  have HLen : Hid (l.length = 4) := (cellsErr_ok.1 hce).1
  have hci : ci < 4 := by
    have := (List.getElem?_eq_some_iff.1 hck).1
    rw [HLen.out] at this
    exact this
  have hci' : (ci : Int) < 4 := by omega
  have hci0 : (0 : Int) ≤ (ci : Int) := by omega
  have hc4 : 4 ≤ cap := by
    obtain ⟨_, _, e, h1, -⟩ := hl
    simp at e
    rw [HLen.out] at h1
    omega
  have HCk : Hid (l[ci]? = some c) := hck
  clear hl hr hce hre hck
  obtain ⟨W1, hW1⟩ : ∃ W1, W1 = w.alloc (.cells #[.int .i64 4, .int .i64 ci, .int .i64 fi, .slice ra rl rc, .int .i64 d] 38) := ⟨_, rfl⟩
  have hb1 : Below w.heap.size w W1 := by rw [hW1]; exact (Below.refl _ _).alloc (Nat.le_refl _) _
  have hs1 : W1.heap.size = w.heap.size + 1 := by rw [hW1]; simp
  have g1 : W1.heap[w.heap.size]? = some (.cells #[.int .i64 4, .int .i64 ci, .int .i64 fi, .slice ra rl rc, .int .i64 d] 38 (0, 0)) := by rw [hW1]; exact heap_made _ _
  have HG : Hid (∀ w', Below W1.heap.size W1 w' → w'.heap[w.heap.size]? = some (.cells #[.int .i64 4, .int .i64 ci, .int .i64 fi, .slice ra rl rc, .int .i64 d] 38 (0, 0)) ∧ Below w.heap.size w w') := fun w' h => ⟨(h.block _ (by omega)).trans g1, Below.thenOf hb1 h hb1.size⟩
  have HW1 : Hid (W1 = _) := hW1
  have HB1 : Hid (Below w.heap.size w W1) := hb1
  have HBs : Hid (B ≤ w.heap.size) := hB
  clear hW1 g1 hb1 hs1 hB
  go_enter Tryz.func43, Tryz.ntmps43
  go_wp2_with fail
  rw [← HW1.out]
  go_at_call 46
  refine Calls.mono (HC.out _ HB1.out) ?_
  rintro e w2 ⟨rfl, hb2⟩
  obtain ⟨g2, hb2w⟩ := HG.out w2 hb2
  obtain ⟨y0, y1, y2, y3, y4⟩ := rec_box g2
  have HB2 : Hid (Below W1.heap.size W1 w2 ∧ Below w.heap.size w w2) := ⟨hb2, hb2w⟩
  clear g2 hb2 hb2w HC
  go_wp2_with fail
  go_at_call 78
  refine Calls.mono (HR.out _ HB2.out.2) ?_
  rintro e w3 ⟨rfl, hb3⟩
  obtain ⟨g3, hb3w⟩ := HG.out w3 (Below.thenOf HB2.out.1 hb3 HB2.out.1.size)
  clear y0 y1 y2 y3 y4 HR hb3 HB2
  obtain ⟨y0, y1, y2, y3, y4⟩ := rec_box g3
  obtain ⟨_, _, e1, -, -, hat⟩ := HL.out _ hb3w
  obtain ⟨b, o, e, hbB, hin⟩ := hat ci c HCk.out
  simp at e1
  obtain ⟨rfl, -⟩ := e1
  subst e
  obtain ⟨la, lc, pa, pc, c0, c1, c2, c3, -, -⟩ := hin.vals
  rw [hco] at c0
  have hbl : b < w3.heap.size := Nat.lt_of_lt_of_le hbB (Nat.le_trans HBs.out hb3w.size)
  generalize c.2.1.length = cln at *
  generalize c.2.2.1.length = crn at *
  generalize c.2.2.2 = cd at *
  clear hat hin hco HCk
  have hwl : w.heap.size < w3.heap.size := lt_of_block g3
  have Hg3 : Hid (w3.heap[w.heap.size]? = some (.cells #[.int .i64 4, .int .i64 ci, .int .i64 fi, .slice ra rl rc, .int .i64 d] 38 (0, 0))) := g3
  have HBw3 : Hid (Below w.heap.size w w3) := hb3w
  clear g3 hb3w
  obtain ⟨WT, hWT⟩ : ∃ WT, WT = (w3.alloc (.cells #[.bool false, .slice none 0 0, .slice none 0 0, .int .i64 0] 77)).alloc (.cells #[.slice ra rl rc, .int .i64 d] 24) := ⟨_, rfl⟩
  have hb3T : Below w3.heap.size w3 WT := by rw [hWT]; exact ((Below.refl _ _).alloc (Nat.le_refl _) _).alloc (by simp) _
  have gT : WT.heap[w3.heap.size]? = some (.cells #[.bool false, .slice none 0 0, .slice none 0 0, .int .i64 0] 77 (0, 0)) := by rw [hWT]; exact heap_kept' _ (heap_at _ _ rfl)
  have HNew : Hid (ChsAt WT.heap.size WT (.slice none 0 0) [] ∧ PolAt WT.heap.size WT (.agg #[.slice none 0 0, .int .i64 0]) ([], 0)) := ⟨chsAt_nil _ _, polAt_zero _ _⟩
  have hsz : WT.heap.size = w3.heap.size + 1 + 1 := by rw [hWT]; simp
  have HWT : Hid (WT = _) := hWT
  clear hWT
  have HApp : Hid (∃ G gc w7, (Builtin.append_ #[66, 66] 66 #[.slice (some ⟨w3.heap.size + 1 + 1, 0, none⟩) 0 0, .slice (some ⟨b, o, none⟩) 4 cap]).run Tryz.prog (WT.alloc (.cells #[] 77)) = .ok (.slice (some ⟨G, 0, none⟩) 4 gc) w7 ∧ TailAt w.heap.size w3.heap.size WT w w7 G gc ci l ∧ w7.cell? ⟨w.heap.size, 1, none⟩ = some (.int .i64 ci) ∧ w7.cell? ⟨w3.heap.size, 0, none⟩ = some (.bool false) ∧ w7.cell? ⟨w3.heap.size, 1, none⟩ = some (.slice none 0 0) ∧ w7.cell? ⟨w3.heap.size, 2, none⟩ = some (.slice none 0 0) ∧ w7.cell? ⟨w3.heap.size, 3, none⟩ = some (.int .i64 0)) := by
    have hsT : w3.heap.size < WT.heap.size := lt_of_block gT
    have hbwT : Below w.heap.size w WT := Below.thenOf HBw3.out hb3T HBw3.out.size
    obtain ⟨G, gc, w7, h1, h2, h3⟩ := tail_any B b o cap l ci WT w w3.heap.size HBs.out HLen.out (HL.out _ hbwT) hbwT hwl hsT hci
    have gT7 := (h3.block _ hsT).trans gT
    have gR7 := (h3.block _ (Nat.lt_trans hwl hsT)).trans ((hb3T.block _ hwl).trans Hg3.out)
    rw [hsz] at h1
    exact ⟨G, gc, w7, h1, h2, (rec_box gR7).2.1, heap_cell gT7 0 rfl, heap_cell gT7 1 rfl, heap_cell gT7 2 rfl, heap_cell gT7 3 rfl⟩
  clear hb3T gT HL HG HBs hc4 hsz
  go_wp2_with (first | (at_builtin; go_must (rw [← HWT.out]; obtain ⟨G, gc, w7, hr7, ht7, r1, t0, t1, t2, t3⟩ := HApp.out; refine Lib.wpList_append_run _ rfl _ _ _ _ rfl _ _ rfl rfl _ _ hr7 ?_; obtain ⟨u0, p0, f0⟩ := ht7.cells (ci * 4) (by omega); obtain ⟨u1, p1, f1⟩ := ht7.cells (ci * 4 + 1) (by omega); obtain ⟨u2, p2, f2⟩ := ht7.cells (ci * 4 + 2) (by omega); obtain ⟨u3, p3, f3⟩ := ht7.cells (ci * 4 + 3) (by omega); have HT7 : Hid (TailAt w.heap.size w3.heap.size WT w w7 G gc ci l) := ht7; have hG4 := ht7.cap; clear hr7 ht7 HApp)))
  go_ret2
  obtain ⟨h1, h2⟩ := HT7.out.done zeroCell _ _ _ rfl HNew.out.1 HNew.out.2
  exact ⟨_, rfl, h1, h2⟩
end Go.Proofs.YtbdlojnigflanacGreatDoor
end
section
/- The counterpart's Nexted: sessions that open. -/
set_option linter.all false
set_option maxRecDepth 100000
namespace Go.Proofs.YtbdlojnigflanacGreatDoor
open Go.RowKit Go.Maps

/-- A session's box is written anew. -/
theorem box4_put {w : World} {k : Nat} {x0 x1 x2 x3 u0 u1 u2 u3 : Value} {T : TypeId} (h : w.heap[k]? = some (.cells #[x0, x1, x2, x3] T (0, 0))) : ((((w.setCell ⟨k, 0, none⟩ u0).setCell ⟨k, 1, none⟩ u1).setCell ⟨k, 2, none⟩ u2).setCell ⟨k, 3, none⟩ u3).heap[k]? = some (.cells #[u0, u1, u2, u3] T (0, 0)) ∧ (∀ g, g ≠ k → ((((w.setCell ⟨k, 0, none⟩ u0).setCell ⟨k, 1, none⟩ u1).setCell ⟨k, 2, none⟩ u2).setCell ⟨k, 3, none⟩ u3).heap[g]? = w.heap[g]?) ∧ ((((w.setCell ⟨k, 0, none⟩ u0).setCell ⟨k, 1, none⟩ u1).setCell ⟨k, 2, none⟩ u2).setCell ⟨k, 3, none⟩ u3).heap.size = w.heap.size ∧ ∀ L, L ≤ k → Below L w ((((w.setCell ⟨k, 0, none⟩ u0).setCell ⟨k, 1, none⟩ u1).setCell ⟨k, 2, none⟩ u2).setCell ⟨k, 3, none⟩ u3) := by
  have q1 := row_setCell (o := 0) (u := u0) h
  have q2 := row_setCell (o := 1) (u := u1) q1
  have q3 := row_setCell (o := 2) (u := u2) q2
  have q4 := row_setCell (o := 3) (u := u3) q3
  refine ⟨by rw [q4]; rfl, fun g hg => ?_, by simp, fun L hL => ((((Below.refl L w).setCell (p := ⟨k, 0, none⟩) hL _).setCell (p := ⟨k, 1, none⟩) hL _).setCell (p := ⟨k, 2, none⟩) hL _).setCell (p := ⟨k, 3, none⟩) hL _⟩
  rw [Below.heap_setCell _ _ _ _ hg, Below.heap_setCell _ _ _ _ hg, Below.heap_setCell _ _ _ _ hg, Below.heap_setCell _ _ _ _ hg]
/-- What stands behind a session that opens: its box, its chain of one filter, its policy. -/
theorem open_tail {B L k : Nat} {w w5 WT : World} {fa pa : Option Addr} {fn fc pl pc : Nat} {d : Int} {x0 x1 x2 x3 : Value} {p : PolT} {f : List InsT} (hB : B ≤ w.heap.size) (hb : Below w.heap.size w w5) (hk : w.heap.size ≤ k) (hL : k < L) (g5 : w5.heap[k]? = some (.cells #[x0, x1, x2, x3] 77 (0, 0))) (ho : w5.ownsRow L 86 4 (.slice fa fn fc) f.length (insCells f)) (hwf : ∀ i ∈ f, insWf i) (hp : ∀ w', Below w.heap.size w w' → PolAt B w' (.agg #[.slice pa pl pc, .int .i64 d]) p)
    (e : WT = ((((w5.setCell ⟨k, 0, none⟩ (.bool true)).setCell ⟨k, 1, none⟩ (.slice (some ⟨w5.heap.size, 0, none⟩) 1 1)).setCell ⟨k, 2, none⟩ (.slice pa pl pc)).setCell ⟨k, 3, none⟩ (.int .i64 d)).alloc (.cells #[.slice fa fn fc] 81)) :
    WT.heap[k]? = some (.cells #[.bool true, .slice (some ⟨w5.heap.size, 0, none⟩) 1 1, .slice pa pl pc, .int .i64 d] 77 (0, 0)) ∧ (∀ g, g ≠ k → g < w5.heap.size → WT.heap[g]? = w5.heap[g]?) ∧ WT.heap.size = w5.heap.size + 1 ∧ Below w.heap.size w WT ∧ ChsAt WT.heap.size WT (.slice (some ⟨w5.heap.size, 0, none⟩) 1 1) [f] ∧ PolAt WT.heap.size WT (.agg #[.slice pa pl pc, .int .i64 d]) p := by
  obtain ⟨b1, b2, b3, b4⟩ := box4_put (u0 := .bool true) (u1 := .slice (some ⟨w5.heap.size, 0, none⟩) 1 1) (u2 := .slice pa pl pc) (u3 := .int .i64 d) g5
  obtain ⟨W5, hW5⟩ : ∃ W5, W5 = (((w5.setCell ⟨k, 0, none⟩ (.bool true)).setCell ⟨k, 1, none⟩ (.slice (some ⟨w5.heap.size, 0, none⟩) 1 1)).setCell ⟨k, 2, none⟩ (.slice pa pl pc)).setCell ⟨k, 3, none⟩ (.int .i64 d) := ⟨_, rfl⟩
  rw [← hW5] at b1 b2 b3 b4 e
  have hk5 := lt_of_block g5
  have hm := heap_made W5 (.cells #[.slice fa fn fc] 81)
  rw [← e] at hm
  have hkeep : ∀ g, g < W5.heap.size → WT.heap[g]? = W5.heap[g]? := fun g hg => by rw [e]; exact Below.heap_alloc _ _ _ hg
  have hs : WT.heap.size = w5.heap.size + 1 := by rw [e]; simp [b3]
  have hbT : Below w.heap.size w WT := by
    have h1 : Below w.heap.size w W5 := hb.trans (b4 _ hk)
    rw [e]
    exact h1.alloc h1.size _
  rw [b3] at hm hkeep
  refine ⟨(hkeep k hk5).trans b1, fun g hne hg => (hkeep g hg).trans (b2 g hne), hs, hbT, ?_, polAt_wideK (hp _ hbT) (Nat.le_trans hB hbT.size)⟩
  refine ⟨_, 1, rfl, Nat.le_refl _, by rw [maxLen_eq]; omega, fun i g hg => ?_⟩
  match i, hg with
  | 0, hg =>
    simp at hg
    subst hg
    refine ⟨w5.heap.size, 0, _, rfl, by omega, heap_cell hm 0 rfl, ?_⟩
    exact inssAt_own (ownsRow_block ho fun g cur hge hc => (hkeep g (lt_of_block hc)).trans (b2 g (by omega))) hwf
  | i + 1, hg => simp at hg

set_option maxHeartbeats 16000000 in
theorem nexted_open (B : Nat) (a : Option Addr) (cap : Nat) (ra : Option Addr) (rl rc : Nat) (l : List CellT) (ci fi : Nat) (rs : List RuleT) (d : Int) (w : World) (hl : CellsAt B w (.slice a 4 cap) l) (hr : RecAt B w (.agg #[.int .i64 1, .int .i64 ci, .int .i64 fi, .slice ra rl rc, .int .i64 d]) (1, (ci : Int), (fi : Int), rs, d)) (hB : B ≤ w.heap.size) (hce : cellsErr l = 0) (hre : recErr (1, (ci : Int), (fi : Int), rs, d) = 0) (c : CellT) (hck : l[ci]? = some c) (hco : c.1 = false) :
    Calls Tryz.prog 43 #[.slice a 4 cap, .agg #[.int .i64 1, .int .i64 ci, .int .i64 fi, .slice ra rl rc, .int .i64 d]] w fun e w' => ∃ v, e = .returned (.tuple #[v, .int .i64 (compE (rs, d))]) ∧ CellsAt w'.heap.size w' v (if compE (rs, d) = 0 then l.set ci (true, [polI (rs, d)], (rs, d)) else []) ∧ Below w.heap.size w w' := by
  have HL : Hid (∀ w', Below w.heap.size w w' → CellsAt B w' (.slice a 4 cap) l) := fun w' h => hl.later h hB
  have HC : Hid (∀ w', Below w.heap.size w w' → Calls Tryz.prog 46 #[.slice a 4 cap] w' fun e w'' => e = .returned (.int .i64 0) ∧ Below w'.heap.size w' w'') := fun w' h => by
    have := checkCells_any B _ l w' (hl.later h hB) (Nat.le_trans hB h.size)
    rw [hce] at this
    exact this
  have HR : Hid (∀ w', Below w.heap.size w w' → Calls Tryz.prog 78 #[.agg #[.int .i64 1, .int .i64 ci, .int .i64 fi, .slice ra rl rc, .int .i64 d]] w' fun e w'' => e = .returned (.int .i64 0) ∧ Below w'.heap.size w' w'') := fun w' h => by
    have := checkRec_any B _ _ w' (hr.later h hB) (Nat.le_trans hB h.size)
    rw [hre] at this
    exact this
  have HRP : Hid (∀ w', Below w.heap.size w w' → PolAt B w' (.agg #[.slice ra rl rc, .int .i64 d]) (rs, d)) := fun w' h => by
    obtain ⟨rv, e, -, -, -, hp⟩ := hr.later h hB
    simp at e
    rw [← e] at hp
    exact hp
  obtain ⟨cp, hcp0⟩ : ∃ cp, cp = compE (rs, d) := ⟨_, rfl⟩
  rw [← hcp0]
  obtain ⟨R, hR0⟩ : ∃ R, R = (if cp = 0 then l.set ci (true, [polI (rs, d)], (rs, d)) else []) := ⟨_, rfl⟩
  rw [← hR0]
  have HRes : Hid (R = (if cp = 0 then l.set ci (true, [polI (rs, d)], (rs, d)) else [])) := hR0
  have HCp : Hid (cp = compE (rs, d)) := hcp0
  clear hR0 hcp0
  have HLen : Hid (l.length = 4) := (cellsErr_ok.1 hce).1
  have hci : ci < 4 := by
    have := (List.getElem?_eq_some_iff.1 hck).1
    rw [HLen.out] at this
    exact this
  have hci' : (ci : Int) < 4 := by omega
  have hci0 : (0 : Int) ≤ (ci : Int) := by omega
  have hc4 : 4 ≤ cap := by
    obtain ⟨_, _, e, h1, -⟩ := hl
    simp at e
    rw [HLen.out] at h1
    omega
  have HCk : Hid (l[ci]? = some c) := hck
  clear hl hr hce hre hck
  obtain ⟨W1, hW1⟩ : ∃ W1, W1 = w.alloc (.cells #[.int .i64 1, .int .i64 ci, .int .i64 fi, .slice ra rl rc, .int .i64 d] 38) := ⟨_, rfl⟩
  have hb1 : Below w.heap.size w W1 := by rw [hW1]; exact (Below.refl _ _).alloc (Nat.le_refl _) _
  have hs1 : W1.heap.size = w.heap.size + 1 := by rw [hW1]; simp
  have g1 : W1.heap[w.heap.size]? = some (.cells #[.int .i64 1, .int .i64 ci, .int .i64 fi, .slice ra rl rc, .int .i64 d] 38 (0, 0)) := by rw [hW1]; exact heap_made _ _
  have HG : Hid (∀ w', Below W1.heap.size W1 w' → w'.heap[w.heap.size]? = some (.cells #[.int .i64 1, .int .i64 ci, .int .i64 fi, .slice ra rl rc, .int .i64 d] 38 (0, 0)) ∧ Below w.heap.size w w') := fun w' h => ⟨(h.block _ (by omega)).trans g1, Below.thenOf hb1 h hb1.size⟩
  have HW1 : Hid (W1 = _) := hW1
  have HB1 : Hid (Below w.heap.size w W1) := hb1
  have HBs : Hid (B ≤ w.heap.size) := hB
  clear hW1 g1 hb1 hs1 hB
  go_enter Tryz.func43, Tryz.ntmps43
  go_wp2_with fail
  rw [← HW1.out]
  go_at_call 46
  refine Calls.mono (HC.out _ HB1.out) ?_
  rintro e w2 ⟨rfl, hb2⟩
  obtain ⟨g2, hb2w⟩ := HG.out w2 hb2
  obtain ⟨y0, y1, y2, y3, y4⟩ := rec_box g2
  have HB2 : Hid (Below W1.heap.size W1 w2 ∧ Below w.heap.size w w2) := ⟨hb2, hb2w⟩
  clear g2 hb2 hb2w HC
  go_wp2_with fail
  go_at_call 78
  refine Calls.mono (HR.out _ HB2.out.2) ?_
  rintro e w3 ⟨rfl, hb3⟩
  obtain ⟨g3, hb3w⟩ := HG.out w3 (Below.thenOf HB2.out.1 hb3 HB2.out.1.size)
  clear y0 y1 y2 y3 y4 HR hb3 HB2
  obtain ⟨y0, y1, y2, y3, y4⟩ := rec_box g3
  obtain ⟨_, _, e1, -, -, hat⟩ := HL.out _ hb3w
  obtain ⟨b, o, e, hbB, hin⟩ := hat ci c HCk.out
  simp at e1
  obtain ⟨rfl, -⟩ := e1
  subst e
  obtain ⟨la, lc, pa, pc, c0, c1, c2, c3, -, -⟩ := hin.vals
  rw [hco] at c0
  have hbl : b < w3.heap.size := Nat.lt_of_lt_of_le hbB (Nat.le_trans HBs.out hb3w.size)
  generalize c.2.1.length = cln at *
  generalize c.2.2.1.length = crn at *
  generalize c.2.2.2 = cd at *
  clear hat hin hco HCk
  have hwl : w.heap.size < w3.heap.size := lt_of_block g3
  have Hg3 : Hid (w3.heap[w.heap.size]? = some (.cells #[.int .i64 1, .int .i64 ci, .int .i64 fi, .slice ra rl rc, .int .i64 d] 38 (0, 0))) := g3
  have HBw3 : Hid (Below w.heap.size w w3) := hb3w
  clear g3 hb3w
  obtain ⟨W4, hW4⟩ : ∃ W4, W4 = (w3.alloc (.cells #[.bool false, .slice la cln lc, .slice pa crn pc, .int .i64 cd] 77)).alloc (.cells #[.slice ra rl rc, .int .i64 d] 24) := ⟨_, rfl⟩
  have hb4 : Below w3.heap.size w3 W4 := by rw [hW4]; exact ((Below.refl _ _).alloc (Nat.le_refl _) _).alloc (by simp) _
  have hs4 : W4.heap.size = w3.heap.size + 1 + 1 := by rw [hW4]; simp
  have g4 : W4.heap[w3.heap.size]? = some (.cells #[.bool false, .slice la cln lc, .slice pa crn pc, .int .i64 cd] 77 (0, 0)) := by rw [hW4]; exact heap_kept' _ (heap_at _ _ rfl)
  have g4p : W4.heap[w3.heap.size + 1]? = some (.cells #[.slice ra rl rc, .int .i64 d] 24 (0, 0)) := by rw [hW4]; exact heap_at _ _ (by simp only [World.size_alloc])
  have hb4w : Below w.heap.size w W4 := Below.thenOf HBw3.out hb4 HBw3.out.size
  have HFi : Hid (Calls Tryz.prog 100 #[.agg #[.slice ra rl rc, .int .i64 d]] W4 fun e w' => ∃ fv, e = .returned (.tuple #[fv, .int .i64 cp]) ∧ w'.ownsRow W4.heap.size 86 4 fv (compL (rs, d)).length (insCells (compL (rs, d))) ∧ (∀ i ∈ compL (rs, d), insWf i) ∧ Below W4.heap.size W4 w') := by
    rw [HCp.out]
    exact filter_any B _ (rs, d) W4 (HRP.out _ hb4w) (Nat.le_trans HBs.out hb4w.size)
  have HB4 : Hid (Below w3.heap.size w3 W4 ∧ Below w.heap.size w W4) := ⟨hb4, hb4w⟩
  have HG4 : Hid (W4.heap[w3.heap.size]? = some (.cells #[.bool false, .slice la cln lc, .slice pa crn pc, .int .i64 cd] 77 (0, 0)) ∧ W4.heap[w3.heap.size + 1]? = some (.cells #[.slice ra rl rc, .int .i64 d] 24 (0, 0))) := ⟨g4, g4p⟩
  have HW4 : Hid (W4 = _) := hW4
  have HS4 : Hid (W4.heap.size = w3.heap.size + 1 + 1) := hs4
  clear hW4 hb4 g4 g4p hb4w hs4 hc4
  go_wp2_with fail
  rw [← HW4.out]
  go_at_call 100
  refine Calls.mono HFi.out ?_
  rintro e w5 ⟨fv, rfl, hof, hwf, hb5⟩
  have hb5w : Below w.heap.size w w5 := Below.thenOf HB4.out.2 hb5 HB4.out.2.size
  obtain ⟨fa, fc, efv, -⟩ := ownsRow_caps hof
  subst efv
  by_cases hcp : cp = 0
  case neg =>
    have hq : (cp != 0) = true := by simpa using hcp
    have HZ : Hid (R = []) := by unfold Hid; rw [HRes.out, if_neg hcp]
    have HB5 : Hid (Below w.heap.size w w5) := hb5w
    clear hof hwf hb5 hb5w HFi hcp HCp HRes
    generalize (compL (rs, d)).length = fl at *
    go_wp2_with fail
    go_ret2
    exact ⟨_, rfl, by rw [HZ.out]; exact cellsAt_nil _ _, HB5.out⟩
  case pos =>
    have HZ : Hid (R = l.set ci (true, [polI (rs, d)], (rs, d))) := by unfold Hid; rw [HRes.out, if_pos hcp]
    have hcl : compL (rs, d) = polI (rs, d) := by rw [compL, if_pos (by rw [← HCp.out]; exact hcp)]
    subst hcp
    rw [hcl] at hof hwf ⊢
    have HOf : Hid (w5.ownsRow W4.heap.size 86 4 (.slice fa (polI (rs, d)).length fc) (polI (rs, d)).length (insCells (polI (rs, d))) ∧ ∀ i ∈ polI (rs, d), insWf i) := ⟨hof, hwf⟩
    clear hcl HRes HCp HFi
    have s5 := hb5.size
    rw [HS4.out] at s5
    have g5 := (hb5.block _ (by rw [HS4.out]; omega)).trans HG4.out.1
    have g5p := (hb5.block _ (by rw [HS4.out]; omega)).trans HG4.out.2
    obtain ⟨z0, z1, zf0, zf1⟩ : w5.cell? ⟨w3.heap.size + 1, 0, none⟩ = some (.slice ra rl rc) ∧ w5.cell? ⟨w3.heap.size + 1, 1, none⟩ = some (.int .i64 d) ∧ True ∧ True := ⟨heap_cell g5p 0 rfl, heap_cell g5p 1 rfl, trivial, trivial⟩
    have x0 := heap_cell g5 0 rfl
    have x1 := heap_cell g5 1 rfl
    have x2 := heap_cell g5 2 rfl
    have x3 := heap_cell g5 3 rfl
    have xf0 : w5.frozen? ⟨w3.heap.size, 0, none⟩ = false := by simp [World.frozen?, g5]
    have xf1 : w5.frozen? ⟨w3.heap.size, 1, none⟩ = false := by simp [World.frozen?, g5]
    have xf2 : w5.frozen? ⟨w3.heap.size, 2, none⟩ = false := by simp [World.frozen?, g5]
    have xf3 : w5.frozen? ⟨w3.heap.size, 3, none⟩ = false := by simp [World.frozen?, g5]
    have l5 : w3.heap.size < w5.heap.size := lt_of_block g5
    have l5p : w3.heap.size + 1 < w5.heap.size := lt_of_block g5p
    obtain ⟨WT, hWT⟩ : ∃ WT, WT = ((((w5.setCell ⟨w3.heap.size, 0, none⟩ (.bool true)).setCell ⟨w3.heap.size, 1, none⟩ (.slice (some ⟨w5.heap.size, 0, none⟩) 1 1)).setCell ⟨w3.heap.size, 2, none⟩ (.slice ra rl rc)).setCell ⟨w3.heap.size, 3, none⟩ (.int .i64 d)).alloc (.cells #[.slice fa (polI (rs, d)).length fc] 81) := ⟨_, rfl⟩
    obtain ⟨gT, hkT, hsT, hbT, hcT, hpT⟩ := open_tail (p := (rs, d)) (f := polI (rs, d)) HBs.out hb5w (Nat.le_of_lt hwl) (by rw [HS4.out]; omega) g5 HOf.out.1 HOf.out.2 HRP.out hWT
    have HNew : Hid (ChsAt WT.heap.size WT (.slice (some ⟨w5.heap.size, 0, none⟩) 1 1) [polI (rs, d)] ∧ PolAt WT.heap.size WT (.agg #[.slice ra rl rc, .int .i64 d]) (rs, d)) := ⟨hcT, hpT⟩
    have HApp : Hid (∃ G gc w7, (Builtin.append_ #[66, 66] 66 #[.slice (some ⟨w5.heap.size + 1, 0, none⟩) 0 0, .slice (some ⟨b, o, none⟩) 4 cap]).run Tryz.prog (WT.alloc (.cells #[] 77)) = .ok (.slice (some ⟨G, 0, none⟩) 4 gc) w7 ∧ TailAt w.heap.size w3.heap.size WT w w7 G gc ci l ∧ w7.cell? ⟨w.heap.size, 1, none⟩ = some (.int .i64 ci) ∧ w7.cell? ⟨w3.heap.size, 0, none⟩ = some (.bool true) ∧ w7.cell? ⟨w3.heap.size, 1, none⟩ = some (.slice (some ⟨w5.heap.size, 0, none⟩) 1 1) ∧ w7.cell? ⟨w3.heap.size, 2, none⟩ = some (.slice ra rl rc) ∧ w7.cell? ⟨w3.heap.size, 3, none⟩ = some (.int .i64 d)) := by
      have hsT' : w3.heap.size < WT.heap.size := lt_of_block gT
      obtain ⟨G, gc, w7, h1, h2, h3⟩ := tail_any B b o cap l ci WT w w3.heap.size HBs.out HLen.out (HL.out _ hbT) hbT hwl hsT' hci
      have gT7 := (h3.block _ hsT').trans gT
      have gR5 := (hb5.block _ (by rw [HS4.out]; omega)).trans ((HB4.out.1.block _ hwl).trans Hg3.out)
      have gR7 := (h3.block _ (Nat.lt_trans hwl hsT')).trans ((hkT _ (by omega) (lt_of_block gR5)).trans gR5)
      rw [hsT] at h1
      exact ⟨G, gc, w7, h1, h2, (rec_box gR7).2.1, heap_cell gT7 0 rfl, heap_cell gT7 1 rfl, heap_cell gT7 2 rfl, heap_cell gT7 3 rfl⟩
    have HWT : Hid (WT = _) := hWT
    have hr5 := (hb5.block _ (by rw [HS4.out]; omega)).trans ((HB4.out.1.block _ hwl).trans Hg3.out)
    obtain ⟨rr0, rr1, -, -, -⟩ := rec_box hr5
    have lw5 : w.heap.size < w5.heap.size := lt_of_block hr5
    clear hWT gT hkT hsT hbT hcT hpT g5 g5p hof hwf HOf hb5 hb5w HL HG HBs s5 hr5 HRP
    generalize (polI (rs, d)).length = fl at *
    go_wp2_with (first | (at_builtin; go_must (rw [← HWT.out]; obtain ⟨G, gc, w7, hr7, ht7, r1, t0, t1, t2, t3⟩ := HApp.out; refine Lib.wpList_append_run _ rfl _ _ _ _ rfl _ _ rfl rfl _ _ hr7 ?_; obtain ⟨u0, p0, f0⟩ := ht7.cells (ci * 4) (by omega); obtain ⟨u1, p1, f1⟩ := ht7.cells (ci * 4 + 1) (by omega); obtain ⟨u2, p2, f2⟩ := ht7.cells (ci * 4 + 2) (by omega); obtain ⟨u3, p3, f3⟩ := ht7.cells (ci * 4 + 3) (by omega); have HT7 : Hid (TailAt w.heap.size w3.heap.size WT w w7 G gc ci l) := ht7; have hG4 := ht7.cap; clear hr7 ht7 HApp)))
    go_ret2
    obtain ⟨h1, h2⟩ := HT7.out.done (true, [polI (rs, d)], (rs, d)) _ _ _ rfl HNew.out.1 HNew.out.2
    exact ⟨_, rfl, by rw [HZ.out]; exact h1, h2⟩
end Go.Proofs.YtbdlojnigflanacGreatDoor
end
