/- Joined: Kep2 Kep3 Kep4 Kep5 Kep6 Kep7 Kep8 Kep9. -/
import Derived.Test.YtbdlojnigflanacGreatDoorKb19
import Derived.Test.YtbdlojnigflanacGreatDoorKb08
import Derived.Test.YtbdlojnigflanacGreatDoorKb10
import Derived.Laws.MakeOwn
section
/- The counterpart's SameCells. -/
set_option linter.all false
set_option maxRecDepth 100000
namespace Go.Proofs.YtbdlojnigflanacGreatDoor
open Go.RowKit Go.Maps

/-- A session as a value. -/
def CellV (B : Nat) (w : World) (v : Value) (c : CellT) : Prop := ∃ la lc ra rc, v = .agg #[.bool c.1, .slice la c.2.1.length lc, .slice ra c.2.2.1.length rc, .int .i64 c.2.2.2] ∧ ChsAt B w (.slice la c.2.1.length lc) c.2.1 ∧ PolAt B w (.agg #[.slice ra c.2.2.1.length rc, .int .i64 c.2.2.2]) c.2.2

theorem CellV.later {B B' : Nat} {w w' : World} {v : Value} {c : CellT} (h : CellV B w v c) (hb : Below B' w w') (hB : B ≤ B') : CellV B w' v c := by
  obtain ⟨la, lc, ra, rc, e, h1, h2⟩ := h
  exact ⟨la, lc, ra, rc, e, h1.later hb hB, h2.later hb hB⟩
/-- slices.EqualFunc of sessions, by any function that holds two against each other. -/
theorem CellIn.val {B : Nat} {w : World} {b o : Nat} {c : CellT} (h : CellIn B w b o c) : ∃ la lc ra rc, w.cell? ⟨b, o, none⟩ = some (.bool c.1) ∧ w.cell? ⟨b, o + 1, none⟩ = some (.slice la c.2.1.length lc) ∧ w.cell? ⟨b, o + 2, none⟩ = some (.slice ra c.2.2.1.length rc) ∧ w.cell? ⟨b, o + 3, none⟩ = some (.int .i64 c.2.2.2) ∧ CellV B w (.agg #[.bool c.1, .slice la c.2.1.length lc, .slice ra c.2.2.1.length rc, .int .i64 c.2.2.2]) c := by
  obtain ⟨la, lc, ra, rc, h0, h1, h2, h3, h4, h5⟩ := h.vals
  exact ⟨la, lc, ra, rc, h0, h1, h2, h3, la, lc, ra, rc, rfl, h4, h5⟩
set_option maxHeartbeats 4000000 in
theorem equalCells_any (B : Nat) (F : FuncId) (hC : ∀ args w', (callFunc F args).run Tryz.prog w' = .ok (.enter F args) w') (HF : Hid (∀ (w' : World) (u v : Value) (c d : CellT), B ≤ w'.heap.size → CellV B w' u c → CellV B w' v d → Calls Tryz.prog F #[u, v] w' fun e w'' => e = .returned (.bool (decide (c = d))) ∧ Below w'.heap.size w' w'')) (lv mv : Value) (ls ms : List CellT) (w : World) (hl : CellsAt B w lv ls) (hm : CellsAt B w mv ms) (hB : B ≤ w.heap.size) :
    Calls Tryz.prog 106 #[lv, mv, .func (.func F) #[] #[]] w fun e w' => e = .returned (.bool (decide (ls = ms))) ∧ Below w.heap.size w w' := by
  have HK : Hid (∀ args w', (callFunc F args).run Tryz.prog w' = .ok (.enter F args) w') := hC
  clear hC
  have HL : Hid (∀ w', Below w.heap.size w w' → CellsAt B w' lv ls ∧ CellsAt B w' mv ms) := fun w' h => ⟨hl.later h hB, hm.later h hB⟩
  obtain ⟨a, cap, rfl, hlc, hcm, -⟩ := id hl
  obtain ⟨a2, cap2, rfl, hlc2, hcm2, -⟩ := id hm
  clear hl hm
  by_cases hne : ls.length = ms.length
  · obtain ⟨n, hn⟩ : ∃ n, n = ls.length := ⟨_, rfl⟩
    have hmn : ms.length = n := by omega
    rw [← hn] at hlc HL ⊢
    rw [hmn] at hlc2 HL ⊢
    have hml : n ≤ 9223372036854775807 := by have := maxLen_eq; omega
    have HN : Hid (ls.length = n ∧ ms.length = n) := ⟨hn.symm, hmn⟩
    clear hn hmn hne
    go_enter Tryz.func106, Tryz.ntmps106
    go_wp2_with fail
    go_loopw [17] (fun i wr => ∃ k : Nat, k ≤ n ∧ i = .int .i64 k ∧ Hid (∀ i, i < k → ls[i]? = ms[i]?) ∧ Hid (Below w.heap.size w wr)) (fun i _ => n - (intOf i).toNat)
    case atStart => exact ⟨0, by omega, rfl, fun i h => absurd h (by omega), Below.refl _ _⟩
    case round =>
      obtain ⟨k, hk, rfl, H, Hbr⟩ := hrel
      obtain ⟨wo, hwo⟩ : ∃ x, x = wr := ⟨_, rfl⟩
      subst hwo
      have i0 : (0 : Int) ≤ (k : Int) := by omega
      by_cases hlt : k < n
      · have i1 : (k : Int) < (n : Int) := by omega
        obtain ⟨c, hck⟩ : ∃ c, ls[k]? = some c := ⟨ls[k]'(by have := HN.out.1; omega), by simp⟩
        obtain ⟨d, hdk⟩ : ∃ d, ms[k]? = some d := ⟨ms[k]'(by have := HN.out.2; omega), by simp⟩
        obtain ⟨hc1, hd1⟩ := HL.out wo Hbr.out
        obtain ⟨_, _, e', -, -, hc2⟩ := hc1
        obtain ⟨b, o, eb, hbB, hcin⟩ := hc2 k c hck
        obtain ⟨_, _, e'', -, -, hd2⟩ := hd1
        obtain ⟨b2, o2, eb2, hbB2, hdin⟩ := hd2 k d hdk
        simp at e' e''
        obtain ⟨rfl, -, -⟩ := e'
        obtain ⟨rfl, -, -⟩ := e''
        subst eb eb2
        clear hc2 hd2
        obtain ⟨la, lc, ra, rc, c0, c1, c2, c3, hcv⟩ := hcin.val
        obtain ⟨la2, lc2, ra2, rc2, d0, d1, d2, d3, hdv⟩ := hdin.val
        have hsz := Hbr.out.size
        have hbl : b < wo.heap.size := by omega
        have hbl2 : b2 < wo.heap.size := by omega
        have HPA : Hid (∀ w', Below wo.heap.size wo w' → Calls Tryz.prog F #[.agg #[.bool c.1, .slice la c.2.1.length lc, .slice ra c.2.2.1.length rc, .int .i64 c.2.2.2], .agg #[.bool d.1, .slice la2 d.2.1.length lc2, .slice ra2 d.2.2.1.length rc2, .int .i64 d.2.2.2]] w' fun e w'' => e = .returned (.bool (decide (c = d))) ∧ Below w'.heap.size w' w'') := fun w' h => HF.out w' _ _ c d (Nat.le_trans hB (Nat.le_trans hsz h.size)) (hcv.later h (Nat.le_trans hB hsz)) (hdv.later h (Nat.le_trans hB hsz))
        have HIn : Hid (ls[k]? = some c ∧ ms[k]? = some d) := ⟨hck, hdk⟩
        clear hcin hdin hcv hdv hck hdk
        generalize c.2.1.length = n1 at *
        generalize d.2.1.length = n2 at *
        generalize c.2.2.1.length = n3 at *
        generalize d.2.2.1.length = n4 at *
        obtain ⟨dq, hdq⟩ : ∃ dq, dq = decide (c = d) := ⟨_, rfl⟩
        have HDq : Hid (dq = decide (c = d)) := hdq
        rw [← hdq] at HPA
        clear hdq
        go_wp2_with fail
        obtain ⟨W1, hW1⟩ : ∃ W1, W1 = (wo.alloc (.cells #[.bool c.1, .slice la n1 lc, .slice ra n3 rc, .int .i64 c.2.2.2] 77)).alloc (.cells #[.bool d.1, .slice la2 n2 lc2, .slice ra2 n4 rc2, .int .i64 d.2.2.2] 77) := ⟨_, rfl⟩
        have hbW : Below wo.heap.size wo W1 := by rw [hW1]; exact ((Below.refl _ _).alloc (Nat.le_refl _) _).alloc (by simp) _
        rw [← hW1, HK.out]
        have HCall : Hid (Calls Tryz.prog F #[.agg #[.bool c.1, .slice la n1 lc, .slice ra n3 rc, .int .i64 c.2.2.2], .agg #[.bool d.1, .slice la2 n2 lc2, .slice ra2 n4 rc2, .int .i64 d.2.2.2]] W1 fun e w'' => e = .returned (.bool dq) ∧ Below W1.heap.size W1 w'') := HPA.out W1 hbW
        have HbW : Hid (Below w.heap.size w W1) := Below.thenOf Hbr.out hbW Hbr.out.size
        clear hW1 hbW
        go_wp2_with fail
        refine Calls.mono HCall.out ?_
        rintro e w2 ⟨rfl, hb2⟩
        have Hb2 : Hid (Below w.heap.size w w2) := Below.thenOf HbW.out hb2 HbW.out.size
        clear hb2 HCall
        cases dq with
        | true =>
          have heq := of_decide_eq_true HDq.out.symm
          have Heq : Hid (c = d) := heq
          clear heq
          go_wp2_with fail
          refine ⟨⟨k + 1, by omega, by go_num, fun i hi => ?_, Hb2.out⟩, by simp [intOf]; omega⟩
          by_cases hik : i = k
          · subst hik; rw [HIn.out.1, HIn.out.2, Heq.out]
          · exact H.out i (by omega)
        | false =>
          have heq := of_decide_eq_false HDq.out.symm
          have Heq : Hid (¬ c = d) := heq
          clear heq
          go_wp2_with fail
          go_ret
          refine ⟨?_, Hb2.out⟩
          have : ls ≠ ms := by
            intro h
            have h1 := HIn.out.1
            rw [h, HIn.out.2] at h1
            exact Heq.out (Option.some.inj h1).symm
          simp [this]
      · go_wp2_with fail
        go_ret
        refine ⟨?_, Hbr.out⟩
        have : ls = ms := by
          refine List.ext_getElem? fun i => ?_
          by_cases hi : i < k
          · exact H.out i hi
          · rw [List.getElem?_eq_none (by have := HN.out.1; omega), List.getElem?_eq_none (by have := HN.out.2; omega)]
        simp [this]
  · have hni : ((ls.length : Int) != (ms.length : Int)) = true := by simp; omega
    have hf : Hid (decide (ls = ms) = false) := decide_eq_false fun h => hne (by rw [h])
    clear HL HF
    generalize ls.length = n at *
    generalize ms.length = m at *
    go_enter Tryz.func106, Tryz.ntmps106
    go_wp2_with fail
    go_ret
    exact ⟨by rw [hf.out]; rfl, Below.refl _ _⟩
end Go.Proofs.YtbdlojnigflanacGreatDoor
end
section
/- Sessions in a row of one's own: copied, and one of them written. -/
set_option linter.all false
set_option maxRecDepth 100000
namespace Go.Proofs.YtbdlojnigflanacGreatDoor
open Go.RowKit Go.Maps

theorem infoCell : ∃ i, Tryz.prog.info? 77 = some i ∧ i.zero = some (.agg #[.bool false, .slice none 0 0, .slice none 0 0, .int .i64 0]) ∧ i.size = 4 ∧ i.bytes = 64 := infoOf (by kernel_rfl)

/-- The cells of sessions, one row. -/
def XsC (B : Nat) (w : World) (xs : List Value) (l : List CellT) : Prop :=
  xs.length = l.length * 4 ∧ (∀ u ∈ xs, u.oneCell' = true) ∧ ∀ i c, l[i]? = some c → ∃ lv rv, xs[i * 4]? = some (.bool c.1) ∧ xs[i * 4 + 1]? = some lv ∧ xs[i * 4 + 2]? = some rv ∧ xs[i * 4 + 3]? = some (.int .i64 c.2.2.2) ∧ ChsAt B w lv c.2.1 ∧ PolAt B w (.agg #[rv, .int .i64 c.2.2.2]) c.2.2
theorem XsC.later {B B' : Nat} {w w' : World} {xs : List Value} {l : List CellT} (h : XsC B w xs l) (hb : Below B' w w') (hB : B ≤ B') : XsC B w' xs l := by
  obtain ⟨h1, h2, h3⟩ := h
  refine ⟨h1, h2, fun i c hc => ?_⟩
  obtain ⟨lv, rv, e0, e1, e2, e3, e4, e5⟩ := h3 i c hc
  exact ⟨lv, rv, e0, e1, e2, e3, e4.later hb hB, e5.later hb hB⟩
theorem xsC_of {B : Nat} {w : World} {l : List CellT} {b o : Nat} (h : ∀ i c, l[i]? = some c → CellIn B w b (o + i * 4) c) : ∃ xs, XsC B w xs l ∧ ∀ j u, xs[j]? = some u → w.cell? ⟨b, o + j, none⟩ = some u := by
  have each : ∀ j, j < l.length * 4 → ∃ v, w.cell? ⟨b, o + j, none⟩ = some v ∧ v.oneCell' = true := by
    intro j hj
    obtain ⟨c, hc⟩ : ∃ c, l[j / 4]? = some c := ⟨l[j / 4]'(by omega), by simp⟩
    obtain ⟨la, lc, ra, rc, c0, c1, c2, c3, -, -⟩ := (h _ c hc).vals
    have hm : j % 4 = 0 ∨ j % 4 = 1 ∨ j % 4 = 2 ∨ j % 4 = 3 := by omega
    rcases hm with hm | hm | hm | hm
    · exact ⟨_, by rw [show o + j = o + j / 4 * 4 by omega]; exact c0, rfl⟩
    · exact ⟨_, by rw [show o + j = o + j / 4 * 4 + 1 by omega]; exact c1, rfl⟩
    · exact ⟨_, by rw [show o + j = o + j / 4 * 4 + 2 by omega]; exact c2, rfl⟩
    · exact ⟨_, by rw [show o + j = o + j / 4 * 4 + 3 by omega]; exact c3, rfl⟩
  obtain ⟨xs, hl, hx⟩ := list_of _ _ each
  refine ⟨xs, ⟨hl, fun u hu => ?_, fun i c hc => ?_⟩, fun j u hj => (hx j u hj).1⟩
  · obtain ⟨j, hj⟩ := List.mem_iff_getElem?.1 hu
    exact (hx j u hj).2
  · have hi : i < l.length := (List.getElem?_eq_some_iff.1 hc).1
    obtain ⟨lv, rv, c0, c1, c2, c3, h4, h5⟩ := h i c hc
    have get : ∀ (j : Nat) (u : Value), j < l.length * 4 → w.cell? ⟨b, o + j, none⟩ = some u → xs[j]? = some u := fun j u hj hu => by
      obtain ⟨v, hv⟩ : ∃ v, xs[j]? = some v := ⟨xs[j]'(by omega), by simp⟩
      have := (hx j v hv).1
      rw [hu] at this
      cases this
      exact hv
    exact ⟨lv, rv, get _ _ (by omega) c0, get _ _ (by omega) (by rw [← Nat.add_assoc]; exact c1), get _ _ (by omega) (by rw [← Nat.add_assoc]; exact c2), get _ _ (by omega) (by rw [← Nat.add_assoc]; exact c3), h4, h5⟩
end Go.Proofs.YtbdlojnigflanacGreatDoor
end
section
/- The counterpart's Nexted: sessions or a record that are wrong. -/
set_option linter.all false
set_option maxRecDepth 100000
namespace Go.Proofs.YtbdlojnigflanacGreatDoor
open Go.RowKit Go.Maps

end Go.Proofs.YtbdlojnigflanacGreatDoor
end
section
/- The counterpart's Nexted: sessions that open. -/
set_option linter.all false
set_option maxRecDepth 100000
namespace Go.Proofs.YtbdlojnigflanacGreatDoor
open Go.RowKit Go.Maps

/-- A session's box is written anew. -/
theorem box4_put {w : World} {k : Nat} {x0 x1 x2 x3 u0 u1 u2 u3 : Value} {T : TypeId} (h : w.heap[k]? = some (.cells #[x0, x1, x2, x3] T (0, 0))) : ((((w.setCell ⟨k, 0, none⟩ u0).setCell ⟨k, 1, none⟩ u1).setCell ⟨k, 2, none⟩ u2).setCell ⟨k, 3, none⟩ u3).heap[k]? = some (.cells #[u0, u1, u2, u3] T (0, 0)) ∧ (∀ g, g ≠ k → ((((w.setCell ⟨k, 0, none⟩ u0).setCell ⟨k, 1, none⟩ u1).setCell ⟨k, 2, none⟩ u2).setCell ⟨k, 3, none⟩ u3).heap[g]? = w.heap[g]?) ∧ ((((w.setCell ⟨k, 0, none⟩ u0).setCell ⟨k, 1, none⟩ u1).setCell ⟨k, 2, none⟩ u2).setCell ⟨k, 3, none⟩ u3).heap.size = w.heap.size ∧ ∀ L, L ≤ k → Below L w ((((w.setCell ⟨k, 0, none⟩ u0).setCell ⟨k, 1, none⟩ u1).setCell ⟨k, 2, none⟩ u2).setCell ⟨k, 3, none⟩ u3) := by
  have q1 := row_setCell (o := 0) (u := u0) h
  have q2 := row_setCell (o := 1) (u := u1) q1
  have q3 := row_setCell (o := 2) (u := u2) q2
  have q4 := row_setCell (o := 3) (u := u3) q3
  refine ⟨by rw [q4]; rfl, fun g hg => ?_, by simp, fun L hL => ((((Below.refl L w).setCell (p := ⟨k, 0, none⟩) hL _).setCell (p := ⟨k, 1, none⟩) hL _).setCell (p := ⟨k, 2, none⟩) hL _).setCell (p := ⟨k, 3, none⟩) hL _⟩
  rw [Below.heap_setCell _ _ _ _ hg, Below.heap_setCell _ _ _ _ hg, Below.heap_setCell _ _ _ _ hg, Below.heap_setCell _ _ _ _ hg]
end Go.Proofs.YtbdlojnigflanacGreatDoor
end
section
/- The counterpart's Nexted: sessions that begin as another one is. -/
set_option linter.all false
set_option maxRecDepth 100000
namespace Go.Proofs.YtbdlojnigflanacGreatDoor
open Go.RowKit Go.Maps

end Go.Proofs.YtbdlojnigflanacGreatDoor
end
section
/- The counterpart's Nexted: sessions that are tightened. -/
set_option linter.all false
set_option maxRecDepth 100000
namespace Go.Proofs.YtbdlojnigflanacGreatDoor
open Go.RowKit Go.Maps

end Go.Proofs.YtbdlojnigflanacGreatDoor
end
section
/- The counterpart's Nexted, whole. -/
set_option linter.all false
set_option maxRecDepth 100000
namespace Go.Proofs.YtbdlojnigflanacGreatDoor
open Go.RowKit Go.Maps

end Go.Proofs.YtbdlojnigflanacGreatDoor
end
section
/- The counterpart's Replayed: records, one after the other, on new sessions. -/
set_option linter.all false
set_option maxRecDepth 100000
namespace Go.Proofs.YtbdlojnigflanacGreatDoor
open Go.RowKit Go.Maps

theorem make_cells (w : World) : (Instr.makeSlice 66 (.int .i64 4) (.int .i64 4)).run Tryz.prog w = .ok (.slice (some ⟨w.heap.size, 0, none⟩) 4 4) (w.alloc (.cells (madeCells #[.bool false, .slice none 0 0, .slice none 0 0, .int .i64 0] 16) 77)) := by
  obtain ⟨inf, hi1, hi2, hi3, hi4⟩ := infoCell
  have := run_make (P := Tryz.prog) w 66 77 inf _ Tryz.underlying66 hi1 hi2 .i64 .i64 4 4 (by omega) (Int.le_refl _) (by rw [hi4]; omega) (by omega)
  rw [hi3] at this
  simpa [Value.cells] using this
/-- New sessions: a block of zeros. -/
theorem cellsAt_zero {w : World} {g : Nat} (hm : w.heap[g]? = some (.cells (madeCells #[.bool false, .slice none 0 0, .slice none 0 0, .int .i64 0] 16) 77 (0, 0))) : CellsAt (g + 1) w (.slice (some ⟨g, 0, none⟩) 4 4) newCells := by
  have e : madeCells #[.bool false, .slice none 0 0, .slice none 0 0, .int .i64 0] 16 = #[.bool false, .slice none 0 0, .slice none 0 0, .int .i64 0, .bool false, .slice none 0 0, .slice none 0 0, .int .i64 0, .bool false, .slice none 0 0, .slice none 0 0, .int .i64 0, .bool false, .slice none 0 0, .slice none 0 0, .int .i64 0] := by kernel_rfl
  rw [e] at hm
  refine ⟨_, 4, rfl, by decide, by rw [maxLen_eq]; omega, fun i c hc => ⟨g, 0, rfl, by omega, ?_⟩⟩
  have hz : c = zeroCell ∧ (i = 0 ∨ i = 1 ∨ i = 2 ∨ i = 3) := by
    match i, hc with
    | 0, hc => simp [newCells] at hc; exact ⟨hc.symm, .inl rfl⟩
    | 1, hc => simp [newCells] at hc; exact ⟨hc.symm, .inr (.inl rfl)⟩
    | 2, hc => simp [newCells] at hc; exact ⟨hc.symm, .inr (.inr (.inl rfl))⟩
    | 3, hc => simp [newCells] at hc; exact ⟨hc.symm, .inr (.inr (.inr rfl))⟩
    | i + 4, hc => simp [newCells] at hc
  obtain ⟨rfl, hi⟩ := hz
  rcases hi with rfl | rfl | rfl | rfl
  all_goals exact ⟨_, _, heap_cell hm _ rfl, heap_cell hm _ rfl, heap_cell hm _ rfl, heap_cell hm _ rfl, chsAt_nil _ _, polAt_zero _ _⟩
theorem cellsAt_new (w : World) : CellsAt (w.heap.size + 1) (w.alloc (.cells (madeCells #[.bool false, .slice none 0 0, .slice none 0 0, .int .i64 0] 16) 77)) (.slice (some ⟨w.heap.size, 0, none⟩) 4 4) newCells := cellsAt_zero (heap_made w _)
theorem replay_step (rs : List RecT) (k : Nat) (r : RecT) (h : rs[k]? = some r) (s : List CellT × Int) : (rs.take (k + 1)).foldl replayS s = replayS ((rs.take k).foldl replayS s) r := by
  rw [List.take_succ, h]
  simp [List.foldl_append]
theorem replay_stop (rs : List RecT) (k : Nat) (e : Int) (he : e ≠ 0) (s : List CellT × Int) (h : (rs.take k).foldl replayS s = ([], e)) : rs.foldl replayS s = ([], e) := by
  conv => lhs; rw [← List.take_append_drop k rs]
  rw [List.foldl_append, h]
  exact replayS_bad _ e he

end Go.Proofs.YtbdlojnigflanacGreatDoor
end
