/- Joined: Kep1 Kep2. -/
import Derived.Test.YtbdlojnigflanacGreatDoorKa17
import Derived.Test.YtbdlojnigflanacGreatDoorKa09
import Derived.Test.YtbdlojnigflanacGreatDoorKa24
import Derived.Test.YtbdlojnigflanacGreatDoorKa08
section
/- Sessions in memory; the counterpart's CheckCells. -/
set_option linter.all false
set_option maxRecDepth 100000
namespace Go.Proofs.YtbdlojnigflanacGreatDoor
open Go.RowKit Go.Maps

theorem polAt_wideK {B B' : Nat} {w : World} {v : Value} {p : PolT} (h : PolAt B w v p) (hB : B ≤ B') : PolAt B' w v p := by
  obtain ⟨rv, h1, h2, a, cap, h3, h4, h5, h6⟩ := h
  refine ⟨rv, h1, h2, a, cap, h3, h4, h5, fun i r hr => ?_⟩
  obtain ⟨b, o, e, hl, cv, k1, k2, k3, a', cap', m1, m2, m3, m4⟩ := h6 i r hr
  refine ⟨b, o, e, by omega, cv, k1, k2, k3, a', cap', m1, m2, m3, fun j c hc => ?_⟩
  obtain ⟨b', o', e', hl', k⟩ := m4 j c hc
  exact ⟨b', o', e', by omega, k⟩
/-- A session in four cells. -/
def CellIn (B : Nat) (w : World) (b o : Nat) (c : CellT) : Prop :=
  ∃ lv rv, w.cell? ⟨b, o, none⟩ = some (.bool c.1) ∧ w.cell? ⟨b, o + 1, none⟩ = some lv ∧ w.cell? ⟨b, o + 2, none⟩ = some rv ∧ w.cell? ⟨b, o + 3, none⟩ = some (.int .i64 c.2.2.2) ∧ ChsAt B w lv c.2.1 ∧ PolAt B w (.agg #[rv, .int .i64 c.2.2.2]) c.2.2
def CellsAt (B : Nat) (w : World) (v : Value) (l : List CellT) : Prop :=
  ∃ a cap, v = .slice a l.length cap ∧ l.length ≤ cap ∧ cap ≤ maxLen ∧ ∀ i c, l[i]? = some c → ∃ b o, a = some ⟨b, o, none⟩ ∧ b < B ∧ CellIn B w b (o + i * 4) c
theorem CellIn.later {B B' : Nat} {w w' : World} {b o : Nat} {c : CellT} (h : CellIn B w b o c) (hb : Below B' w w') (hB : B ≤ B') (hl : b < B) : CellIn B w' b o c := by
  obtain ⟨lv, rv, h0, h1, h2, h3, h4, h5⟩ := h
  have hl' : b < B' := by omega
  exact ⟨lv, rv, (hb.cell (p := ⟨b, o, none⟩) hl').trans h0, (hb.cell (p := ⟨b, o + 1, none⟩) hl').trans h1, (hb.cell (p := ⟨b, o + 2, none⟩) hl').trans h2, (hb.cell (p := ⟨b, o + 3, none⟩) hl').trans h3, h4.later hb hB, h5.later hb hB⟩
theorem CellsAt.later {B B' : Nat} {w w' : World} {v : Value} {l : List CellT} (h : CellsAt B w v l) (hb : Below B' w w') (hB : B ≤ B') : CellsAt B w' v l := by
  obtain ⟨a, cap, h1, h2, h3, h4⟩ := h
  refine ⟨a, cap, h1, h2, h3, fun i c hc => ?_⟩
  obtain ⟨b, o, e, hl, k⟩ := h4 i c hc
  exact ⟨b, o, e, hl, k.later hb hB hl⟩
theorem CellIn.wide {B B' : Nat} {w : World} {b o : Nat} {c : CellT} (h : CellIn B w b o c) (hB : B ≤ B') : CellIn B' w b o c := by
  obtain ⟨lv, rv, h0, h1, h2, h3, h4, h5⟩ := h
  exact ⟨lv, rv, h0, h1, h2, h3, h4.mono hB, polAt_wideK h5 hB⟩
theorem CellsAt.wide {B B' : Nat} {w : World} {v : Value} {l : List CellT} (h : CellsAt B w v l) (hB : B ≤ B') : CellsAt B' w v l := by
  obtain ⟨a, cap, h1, h2, h3, h4⟩ := h
  refine ⟨a, cap, h1, h2, h3, fun i c hc => ?_⟩
  obtain ⟨b, o, e, hl, k⟩ := h4 i c hc
  exact ⟨b, o, e, by omega, k.wide hB⟩
theorem CellsAt.shape {B : Nat} {w : World} {v : Value} {l : List CellT} (h : CellsAt B w v l) : ∃ a cap, v = .slice a l.length cap ∧ l.length ≤ cap ∧ cap ≤ maxLen := by
  obtain ⟨a, cap, h1, h2, h3, -⟩ := h
  exact ⟨a, cap, h1, h2, h3⟩
theorem cellsAt_nil (B : Nat) (w : World) : CellsAt B w (.slice none 0 0) [] := ⟨none, 0, rfl, Nat.le_refl _, by rw [maxLen_eq]; omega, fun i c h => by simp at h⟩
/-- The values in a session's four cells. -/
theorem CellIn.vals {B : Nat} {w : World} {b o : Nat} {c : CellT} (h : CellIn B w b o c) : ∃ la lc ra rc, w.cell? ⟨b, o, none⟩ = some (.bool c.1) ∧ w.cell? ⟨b, o + 1, none⟩ = some (.slice la c.2.1.length lc) ∧ w.cell? ⟨b, o + 2, none⟩ = some (.slice ra c.2.2.1.length rc) ∧ w.cell? ⟨b, o + 3, none⟩ = some (.int .i64 c.2.2.2) ∧ ChsAt B w (.slice la c.2.1.length lc) c.2.1 ∧ PolAt B w (.agg #[.slice ra c.2.2.1.length rc, .int .i64 c.2.2.2]) c.2.2 := by
  obtain ⟨lv, rv, h0, h1, h2, h3, h4, h5⟩ := h
  obtain ⟨la, lc, rfl, -, -⟩ := h4.shape
  obtain ⟨rv', e, hd, ra, rc, e2, h6⟩ := id h5
  simp at e
  subst e e2
  exact ⟨la, lc, ra, rc, h0, h1, h2, h3, h4, h5⟩

set_option maxHeartbeats 8000000 in
theorem checkCells_any (B : Nat) (v : Value) (l : List CellT) (w : World) (hl : CellsAt B w v l) (hB : B ≤ w.heap.size) :
    Calls Tryz.prog 46 #[v] w fun e w' => e = .returned (.int .i64 (cellsErr l)) ∧ Below w.heap.size w w' := by
  have HL : Hid (∀ w', Below w.heap.size w w' → CellsAt B w' v l) := fun w' h => hl.later h hB
  obtain ⟨a, cap, rfl, hlc, hcm, -⟩ := hl
  have hml := maxLen_eq
  have HE : Hid (cellsErr l = if l.length = 4 then cellsErr1 l else 4) := rfl
  generalize hlen : l.length = len at *
  have hlenH : Hid (l.length = len) := hlen
  clear hlen
  by_cases h4 : len = 4
  · subst h4
    have HE' : Hid (cellsErr l = cellsErr1 l) := by unfold Hid; rw [HE.out]; rfl
    clear HE
    go_enter Tryz.func46, Tryz.ntmps46
    go_wp2_with fail
    go_loopw [12] (fun iv wr => ∃ k : Nat, k ≤ 4 ∧ iv = .int .i64 k ∧ Hid (cellsErr1 l = cellsErr1 (l.drop k)) ∧ Below w.heap.size w wr) (fun iv _ => 4 - (intOf iv).toNat)
    case atStart => exact ⟨0, by omega, rfl, rfl, Below.refl _ _⟩
    case round =>
      obtain ⟨k, hk, rfl, H, hbr⟩ := hrel
      obtain ⟨wo, hwo⟩ : ∃ x, x = wr := ⟨_, rfl⟩
      subst hwo
      have i0 : (0 : Int) ≤ (k : Int) := by omega
      have hos := hbr.size
      by_cases hlt : k < 4
      · have i1 : (k : Int) < 4 := by omega
        obtain ⟨c, hc⟩ : ∃ c, l[k]? = some c := ⟨l[k]'(by rw [hlenH.out]; omega), by simp⟩
        have S : Hid (cellsErr1 (l.drop k) = if cellErr c = 0 then cellsErr1 (l.drop (k + 1)) else cellErr c) := cellsErr1_drop l k c hc
        obtain ⟨_, _, e1, -, -, hat⟩ := HL.out _ hbr
        obtain ⟨b, o, e, hbB, hin⟩ := hat k c hc
        simp at e1
        obtain ⟨rfl, -, -⟩ := e1
        subst e
        clear hat hc
        obtain ⟨la, lc, ra, rc, c0, c1, c2, c3, hch, hpo⟩ := hin.vals
        have HCh : Hid (∀ w', Below wo.heap.size wo w' → Calls Tryz.prog 104 #[.slice la c.2.1.length lc] w' fun e w'' => e = .returned (.int .i64 (chainErr c.2.1)) ∧ Below w'.heap.size w' w'') := fun w' h => checkChain_any B _ c.2.1 w' (hch.later h (Nat.le_trans hB hos)) (Nat.le_trans hB (Nat.le_trans hos h.size))
        have HPo : Hid (∀ w', Below wo.heap.size wo w' → Calls Tryz.prog 105 #[.agg #[.slice ra c.2.2.1.length rc, .int .i64 c.2.2.2]] w' fun e w'' => e = .returned (.int .i64 (polErr c.2.2)) ∧ Below w'.heap.size w' w'') := fun w' h => checkPolicy_any B _ c.2.2 w' (hpo.later h (Nat.le_trans hB hos)) (Nat.le_trans hB (Nat.le_trans hos h.size))
        have HNo : Hid (∀ w', Calls Tryz.prog 103 #[.agg #[.slice ra c.2.2.1.length rc, .int .i64 c.2.2.2]] w' fun e w'' => e = .returned (.bool (decide (c.2.2.2 = 0 ∧ c.2.2.1.length = 0))) ∧ Below w'.heap.size w' w'') := fun w' => none_any ra _ rc _ w'
        have HCE : Hid (cellErr c = if c.1 ≠ decide (0 < c.2.1.length) ∨ (c.1 = false ∧ ¬ (c.2.2.2 = 0 ∧ c.2.2.1.length = 0)) then 4 else if c.1 = false then 0 else if chainErr c.2.1 = 0 then polErr c.2.2 else chainErr c.2.1) := by
          unfold Hid cellErr
          simp only [List.length_eq_zero_iff]
        clear hin hch hpo
        obtain ⟨op, ls, rs, d⟩ := c
        simp only at c0 c1 c2 c3 HCh HPo HNo HCE
        generalize cellErr (op, ls, rs, d) = ce at *
        generalize chainErr ls = he at *
        generalize polErr (rs, d) = pe at *
        generalize ls.length = n1 at *
        generalize rs.length = n2 at *
        obtain ⟨W5, hW5⟩ : ∃ W5, W5 = wo.alloc (.cells #[.bool op, .slice la n1 lc, .slice ra n2 rc, .int .i64 d] 77) := ⟨_, rfl⟩
        have hb5 : Below wo.heap.size wo W5 := by rw [hW5]; exact (Below.refl _ _).alloc (Nat.le_refl _) _
        have hs5 : W5.heap.size = wo.heap.size + 1 := by rw [hW5]; simp
        have g5 : W5.heap[wo.heap.size]? = some (.cells #[.bool op, .slice la n1 lc, .slice ra n2 rc, .int .i64 d] 77 (0, 0)) := by rw [hW5]; exact heap_made _ _
        have HBx : Hid (∀ w', Below W5.heap.size W5 w' → w'.cell? ⟨wo.heap.size, 0, none⟩ = some (.bool op) ∧ w'.cell? ⟨wo.heap.size, 1, none⟩ = some (.slice la n1 lc) ∧ w'.cell? ⟨wo.heap.size, 2, none⟩ = some (.slice ra n2 rc) ∧ w'.cell? ⟨wo.heap.size, 3, none⟩ = some (.int .i64 d) ∧ Below w.heap.size w w' ∧ Below wo.heap.size wo w' ∧ wo.heap.size < w'.heap.size) := fun w' h => by
          have g := (h.block _ (by omega)).trans g5
          have hb := Below.thenOf hb5 h hb5.size
          exact ⟨heap_cell g 0 rfl, heap_cell g 1 rfl, heap_cell g 2 rfl, heap_cell g 3 rfl, Below.thenOf hbr hb hos, hb, lt_of_block g⟩
        have HW5 : Hid (W5 = _) := hW5
        have HBr : Hid (Below w.heap.size w wo) := hbr
        clear hW5 g5 hb5 hs5 hbr
        have z := HBx.out W5 (Below.refl _ _)
        obtain ⟨z0, z1, z2, z3, zw, zo, zl⟩ := z
        have Zw : Hid (Below w.heap.size w W5) := zw
        have Zo : Hid (Below wo.heap.size wo W5) := zo
        clear zw zo
        cases op with
        | true =>
          by_cases hn : 0 < n1
          · have hn' : (0 : Int) < (n1 : Int) := by omega
            have HCE' : Hid (ce = if he = 0 then pe else he) := by unfold Hid; rw [HCE.out, if_neg (by simp [hn]), if_neg (by simp)]
            clear HCE HNo
            by_cases hh : he = 0
            · subst hh
              by_cases hp : pe = 0
              · subst hp
                have e0 : Hid (cellsErr1 l = cellsErr1 (l.drop (k + 1))) := by
                  have : ce = 0 := by rw [HCE'.out]; rfl
                  unfold Hid
                  rw [H.out, S.out, if_pos this]
                clear HCE' S H
                go_wp2_with fail
                rw [← HW5.out]
                go_at_call 104
                refine Calls.mono (HCh.out _ Zo.out) ?_
                rintro e w6 ⟨rfl, hb6⟩
                obtain ⟨y0, y1, y2, y3, yw, yo, yl⟩ := HBx.out w6 hb6
                clear z0 z1 z2 z3
                go_wp2_with fail
                go_at_call 105
                refine Calls.mono (HPo.out _ yo) ?_
                rintro e w7 ⟨rfl, hb7⟩
                have hb7w : Below w.heap.size w w7 := Below.thenOf yw hb7 yw.size
                clear y0 y1 y2 y3 yw yo
                go_wp2_with fail
                exact ⟨⟨k + 1, by omega, by go_num, e0, hb7w⟩, by simp [intOf]; omega⟩
              · have e0 : Hid (cellsErr1 l = pe) := by
                  have : ce = pe := by rw [HCE'.out]; rfl
                  unfold Hid
                  rw [H.out, S.out, this, if_neg hp]
                have hq : (pe != 0) = true := by simpa using hp
                clear HCE' S H hp
                go_wp2_with fail
                rw [← HW5.out]
                go_at_call 104
                refine Calls.mono (HCh.out _ Zo.out) ?_
                rintro e w6 ⟨rfl, hb6⟩
                obtain ⟨y0, y1, y2, y3, yw, yo, yl⟩ := HBx.out w6 hb6
                clear z0 z1 z2 z3
                go_wp2_with fail
                go_at_call 105
                refine Calls.mono (HPo.out _ yo) ?_
                rintro e w7 ⟨rfl, hb7⟩
                have hb7w : Below w.heap.size w w7 := Below.thenOf yw hb7 yw.size
                clear y0 y1 y2 y3 yw yo
                go_wp2_with fail
                go_ret
                exact ⟨by rw [HE'.out, e0.out]; rfl, hb7w⟩
            · have e0 : Hid (cellsErr1 l = he) := by
                have : ce = he := by rw [HCE'.out, if_neg hh]
                unfold Hid
                rw [H.out, S.out, this, if_neg hh]
              have hq : (he != 0) = true := by simpa using hh
              clear HCE' S H hh
              go_wp2_with fail
              rw [← HW5.out]
              go_at_call 104
              refine Calls.mono (HCh.out _ Zo.out) ?_
              rintro e w6 ⟨rfl, hb6⟩
              obtain ⟨y0, y1, y2, y3, yw, yo, yl⟩ := HBx.out w6 hb6
              clear z0 z1 z2 z3 y0 y1 y2 y3
              go_wp2_with fail
              go_ret
              exact ⟨by rw [HE'.out, e0.out]; rfl, yw⟩
          · obtain rfl : n1 = 0 := by omega
            have e4 : Hid (cellsErr1 l = 4) := by
              have : ce = 4 := by rw [HCE.out, if_pos (.inl (by simp))]
              unfold Hid
              rw [H.out, S.out, this]
              rfl
            clear HCE HCh HPo HNo S H
            go_wp2_with fail
            go_ret
            rw [HW5.out] at Zw
            exact ⟨by rw [HE'.out, e4.out]; rfl, Zw.out⟩
        | false =>
          by_cases hn : 0 < n1
          · have hn' : (0 : Int) < (n1 : Int) := by omega
            have e4 : Hid (cellsErr1 l = 4) := by
              have : ce = 4 := by rw [HCE.out, if_pos (.inl (by simp; omega))]
              unfold Hid
              rw [H.out, S.out, this]
              rfl
            clear HCE HCh HPo HNo S H
            go_wp2_with fail
            go_ret
            rw [HW5.out] at Zw
            exact ⟨by rw [HE'.out, e4.out]; rfl, Zw.out⟩
          · obtain rfl : n1 = 0 := by omega
            by_cases hz : d = 0 ∧ n2 = 0
            · have e0 : Hid (cellsErr1 l = cellsErr1 (l.drop (k + 1))) := by
                have : ce = 0 := by rw [HCE.out, if_neg (by simp [hz]), if_pos rfl]
                unfold Hid
                rw [H.out, S.out, if_pos this]
              obtain ⟨rfl, rfl⟩ := hz
              have HNo' : Hid (∀ w', Calls Tryz.prog 103 #[.agg #[.slice ra 0 rc, .int .i64 0]] w' fun e w'' => e = .returned (.bool true) ∧ Below w'.heap.size w' w'') := HNo.out
              clear HCE HCh HPo HNo S H
              go_wp2_with fail
              rw [← HW5.out]
              go_at_call 103
              refine Calls.mono (HNo'.out _) ?_
              rintro e w6 ⟨rfl, hb6⟩
              obtain ⟨y0, y1, y2, y3, yw, yo, yl⟩ := HBx.out w6 hb6
              have Yw : Hid (Below w.heap.size w w6) := yw
              clear z0 z1 z2 z3 yo yw
              go_wp2_with fail
              exact ⟨⟨k + 1, by omega, by go_num, e0, Yw.out⟩, by simp [intOf]; omega⟩
            · have e4 : Hid (cellsErr1 l = 4) := by
                have : ce = 4 := by rw [HCE.out, if_pos (.inr ⟨rfl, hz⟩)]
                unfold Hid
                rw [H.out, S.out, this]
                rfl
              have HNo' : Hid (∀ w', Calls Tryz.prog 103 #[.agg #[.slice ra n2 rc, .int .i64 d]] w' fun e w'' => e = .returned (.bool false) ∧ Below w'.heap.size w' w'') := by
                have := HNo.out
                rw [decide_eq_false hz] at this
                exact this
              clear HCE HCh HPo HNo S H hz
              go_wp2_with fail
              rw [← HW5.out]
              go_at_call 103
              refine Calls.mono (HNo'.out _) ?_
              rintro e w6 ⟨rfl, hb6⟩
              obtain ⟨y0, y1, y2, y3, yw, yo, yl⟩ := HBx.out w6 hb6
              have Yw : Hid (Below w.heap.size w w6) := yw
              clear z0 z1 z2 z3 yo yw
              go_wp2_with fail
              go_ret
              exact ⟨by rw [HE'.out, e4.out]; rfl, Yw.out⟩
      · go_wp2_with fail
        go_ret
        exact ⟨by rw [HE'.out, H.out, List.drop_eq_nil_of_le (by rw [hlenH.out]; omega)]; rfl, hbr⟩
  · have HE' : Hid (cellsErr l = 4) := by unfold Hid; rw [HE.out, if_neg h4]
    have h4' : ¬ (len : Int) = 4 := by omega
    have hq : ((len : Int) != 4) = true := by simpa using h4'
    clear HE h4
    go_enter Tryz.func46, Tryz.ntmps46
    go_wp2_with fail
    go_ret
    exact ⟨by rw [HE'.out]; rfl, Below.refl _ _⟩
end Go.Proofs.YtbdlojnigflanacGreatDoor
end
section
/- The counterpart's SameCells. -/
set_option linter.all false
set_option maxRecDepth 100000
namespace Go.Proofs.YtbdlojnigflanacGreatDoor
open Go.RowKit Go.Maps

/-- A session as a value. -/
def CellV (B : Nat) (w : World) (v : Value) (c : CellT) : Prop := ∃ la lc ra rc, v = .agg #[.bool c.1, .slice la c.2.1.length lc, .slice ra c.2.2.1.length rc, .int .i64 c.2.2.2] ∧ ChsAt B w (.slice la c.2.1.length lc) c.2.1 ∧ PolAt B w (.agg #[.slice ra c.2.2.1.length rc, .int .i64 c.2.2.2]) c.2.2

theorem CellV.later {B B' : Nat} {w w' : World} {v : Value} {c : CellT} (h : CellV B w v c) (hb : Below B' w w') (hB : B ≤ B') : CellV B w' v c := by
  obtain ⟨la, lc, ra, rc, e, h1, h2⟩ := h
  exact ⟨la, lc, ra, rc, e, h1.later hb hB, h2.later hb hB⟩
set_option maxHeartbeats 4000000 in
theorem sameCell_any (B : Nat) (u v : Value) (c d : CellT) (w : World) (hc : CellV B w u c) (hd : CellV B w v d) (hB : B ≤ w.heap.size) :
    Calls Tryz.prog 108 #[u, v] w fun e w' => e = .returned (.bool (decide (c = d))) ∧ Below w.heap.size w w' := by
  obtain ⟨la, lc, ra, rc, rfl, h1, h2⟩ := hc
  obtain ⟨la2, lc2, ra2, rc2, rfl, k1, k2⟩ := hd
  have HC : Hid (∀ w', Below w.heap.size w w' → Calls Tryz.prog 109 #[.slice la c.2.1.length lc, .slice la2 d.2.1.length lc2] w' fun e w'' => e = .returned (.bool (decide (c.2.1 = d.2.1))) ∧ Below w'.heap.size w' w'') := fun w' h => sameChain_any B _ _ c.2.1 d.2.1 w' (h1.later h hB) (k1.later h hB) (Nat.le_trans hB h.size)
  have HP : Hid (∀ w', Below w.heap.size w w' → Calls Tryz.prog 82 #[.agg #[.slice ra c.2.2.1.length rc, .int .i64 c.2.2.2], .agg #[.slice ra2 d.2.2.1.length rc2, .int .i64 d.2.2.2]] w' fun e w'' => e = .returned (.bool (decide (c.2.2 = d.2.2))) ∧ Below w'.heap.size w' w'') := fun w' h => samePolicy_any B _ _ c.2.2 d.2.2 w' (h2.later h hB) (k2.later h hB) (Nat.le_trans hB h.size)
  have HE : Hid (decide (c = d) = (decide (c.1 = d.1) && (decide (c.2.1 = d.2.1) && decide (c.2.2 = d.2.2)))) := by
    unfold Hid
    rw [← Bool.decide_and, ← Bool.decide_and]
    refine decide_eq_decide.2 ⟨fun h => by rw [h]; exact ⟨rfl, rfl, rfl⟩, fun ⟨h1, h2, h3⟩ => ?_⟩
    exact Prod.ext h1 (Prod.ext h2 h3)
  clear h1 h2 k1 k2
  obtain ⟨o, ls, rs, f⟩ := c
  obtain ⟨o', ls', rs', f'⟩ := d
  simp only at HC HP HE
  generalize decide ((o, ls, rs, f) = (o', ls', rs', f')) = eq at *
  generalize decide (ls = ls') = e1 at *
  generalize decide ((rs, f) = (rs', f')) = e2 at *
  generalize ls.length = n1 at *
  generalize ls'.length = n2 at *
  generalize rs.length = n3 at *
  generalize rs'.length = n4 at *
  obtain ⟨W2, hW2⟩ : ∃ W2, W2 = (w.alloc (.cells #[.bool o, .slice la n1 lc, .slice ra n3 rc, .int .i64 f] 77)).alloc (.cells #[.bool o', .slice la2 n2 lc2, .slice ra2 n4 rc2, .int .i64 f'] 77) := ⟨_, rfl⟩
  have hb2 : Below w.heap.size w W2 := by rw [hW2]; exact ((Below.refl _ _).alloc (Nat.le_refl _) _).alloc (by simp) _
  have hs2 : W2.heap.size = w.heap.size + 1 + 1 := by rw [hW2]; simp
  have g0 : W2.heap[w.heap.size]? = some (.cells #[.bool o, .slice la n1 lc, .slice ra n3 rc, .int .i64 f] 77 (0, 0)) := by rw [hW2]; exact heap_kept' _ (heap_at _ _ rfl)
  have g1 : W2.heap[w.heap.size + 1]? = some (.cells #[.bool o', .slice la2 n2 lc2, .slice ra2 n4 rc2, .int .i64 f'] 77 (0, 0)) := by rw [hW2]; exact heap_at _ _ (by simp only [World.size_alloc])
  have HG : Hid (∀ w', Below W2.heap.size W2 w' → w'.cell? ⟨w.heap.size, 2, none⟩ = some (.slice ra n3 rc) ∧ w'.cell? ⟨w.heap.size, 3, none⟩ = some (.int .i64 f) ∧ w'.cell? ⟨w.heap.size + 1, 2, none⟩ = some (.slice ra2 n4 rc2) ∧ w'.cell? ⟨w.heap.size + 1, 3, none⟩ = some (.int .i64 f') ∧ Below w.heap.size w w') := fun w' h => by
    have q0 := (h.block _ (by omega)).trans g0
    have q1 := (h.block _ (by omega)).trans g1
    exact ⟨heap_cell q0 2 rfl, heap_cell q0 3 rfl, heap_cell q1 2 rfl, heap_cell q1 3 rfl, Below.thenOf hb2 h hb2.size⟩
  have HW2 : Hid (W2 = _) := hW2
  have HB2 : Hid (Below w.heap.size w W2) := hb2
  clear hW2 g0 g1 hb2
  by_cases ho : o = o'
  · subst ho
    cases e1 with
    | true =>
      have HE' : Hid (eq = e2) := by unfold Hid; rw [HE.out]; simp
      clear HE
      go_enter Tryz.func108, Tryz.ntmps108
      go_wp2_with fail
      rw [← HW2.out]
      go_at_call 109
      refine Calls.mono (HC.out _ HB2.out) ?_
      rintro e w3 ⟨rfl, hb3⟩
      obtain ⟨y0, y1, y2, y3, yw⟩ := HG.out _ hb3
      have Yw : Hid (Below w.heap.size w w3) := yw
      clear hb3 yw
      go_wp2_with fail
      go_at_call 82
      refine Calls.mono (HP.out _ Yw.out) ?_
      rintro e w4 ⟨rfl, hb4⟩
      have HZ : Hid (Below w.heap.size w w4) := Below.thenOf Yw.out hb4 Yw.out.size
      clear hb4
      go_wp2_with fail
      all_goals
        go_ret
        exact ⟨by rw [HE'.out]; rfl, HZ.out⟩
    | false =>
      have HE' : Hid (eq = false) := by unfold Hid; rw [HE.out]; simp
      clear HE
      go_enter Tryz.func108, Tryz.ntmps108
      go_wp2_with fail
      rw [← HW2.out]
      go_at_call 109
      refine Calls.mono (HC.out _ HB2.out) ?_
      rintro e w3 ⟨rfl, hb3⟩
      obtain ⟨y0, y1, y2, y3, yw⟩ := HG.out _ hb3
      have Yw : Hid (Below w.heap.size w w3) := yw
      clear hb3 yw
      go_wp2_with fail
      go_ret
      exact ⟨by rw [HE'.out]; rfl, Yw.out⟩
  · have HE' : Hid (eq = false) := by unfold Hid; rw [HE.out, decide_eq_false ho]; rfl
    have hq : (o == o') = false := by cases o <;> cases o' <;> simp at ho ⊢
    rw [HW2.out] at HB2
    clear HE HC HP HG HW2 ho
    go_enter Tryz.func108, Tryz.ntmps108
    go_wp2_with fail
    all_goals
      go_ret
      exact ⟨by rw [HE'.out]; rfl, HB2.out⟩

/-- slices.EqualFunc of sessions, by any function that holds two against each other. -/
theorem CellIn.val {B : Nat} {w : World} {b o : Nat} {c : CellT} (h : CellIn B w b o c) : ∃ la lc ra rc, w.cell? ⟨b, o, none⟩ = some (.bool c.1) ∧ w.cell? ⟨b, o + 1, none⟩ = some (.slice la c.2.1.length lc) ∧ w.cell? ⟨b, o + 2, none⟩ = some (.slice ra c.2.2.1.length rc) ∧ w.cell? ⟨b, o + 3, none⟩ = some (.int .i64 c.2.2.2) ∧ CellV B w (.agg #[.bool c.1, .slice la c.2.1.length lc, .slice ra c.2.2.1.length rc, .int .i64 c.2.2.2]) c := by
  obtain ⟨la, lc, ra, rc, h0, h1, h2, h3, h4, h5⟩ := h.vals
  exact ⟨la, lc, ra, rc, h0, h1, h2, h3, la, lc, ra, rc, rfl, h4, h5⟩
set_option maxHeartbeats 4000000 in
theorem equalCells_any (B : Nat) (F : FuncId) (hC : ∀ args w', (callFunc F args).run Tryz.prog w' = .ok (.enter F args) w') (HF : Hid (∀ (w' : World) (u v : Value) (c d : CellT), B ≤ w'.heap.size → CellV B w' u c → CellV B w' v d → Calls Tryz.prog F #[u, v] w' fun e w'' => e = .returned (.bool (decide (c = d))) ∧ Below w'.heap.size w' w'')) (lv mv : Value) (ls ms : List CellT) (w : World) (hl : CellsAt B w lv ls) (hm : CellsAt B w mv ms) (hB : B ≤ w.heap.size) :
    Calls Tryz.prog 106 #[lv, mv, .func (.func F) #[] #[]] w fun e w' => e = .returned (.bool (decide (ls = ms))) ∧ Below w.heap.size w w' := by
  have HK : Hid (∀ args w', (callFunc F args).run Tryz.prog w' = .ok (.enter F args) w') := hC
  clear hC
  have HL : Hid (∀ w', Below w.heap.size w w' → CellsAt B w' lv ls ∧ CellsAt B w' mv ms) := fun w' h => ⟨hl.later h hB, hm.later h hB⟩
  obtain ⟨a, cap, rfl, hlc, hcm, -⟩ := id hl
  obtain ⟨a2, cap2, rfl, hlc2, hcm2, -⟩ := id hm
  clear hl hm
  by_cases hne : ls.length = ms.length
  · obtain ⟨n, hn⟩ : ∃ n, n = ls.length := ⟨_, rfl⟩
    have hmn : ms.length = n := by omega
    rw [← hn] at hlc HL ⊢
    rw [hmn] at hlc2 HL ⊢
    have hml : n ≤ 9223372036854775807 := by have := maxLen_eq; omega
    have HN : Hid (ls.length = n ∧ ms.length = n) := ⟨hn.symm, hmn⟩
    clear hn hmn hne
    go_enter Tryz.func106, Tryz.ntmps106
    go_wp2_with fail
    go_loopw [17] (fun i wr => ∃ k : Nat, k ≤ n ∧ i = .int .i64 k ∧ Hid (∀ i, i < k → ls[i]? = ms[i]?) ∧ Hid (Below w.heap.size w wr)) (fun i _ => n - (intOf i).toNat)
    case atStart => exact ⟨0, by omega, rfl, fun i h => absurd h (by omega), Below.refl _ _⟩
    case round =>
      obtain ⟨k, hk, rfl, H, Hbr⟩ := hrel
      obtain ⟨wo, hwo⟩ : ∃ x, x = wr := ⟨_, rfl⟩
      subst hwo
      have i0 : (0 : Int) ≤ (k : Int) := by omega
      by_cases hlt : k < n
      · have i1 : (k : Int) < (n : Int) := by omega
        obtain ⟨c, hck⟩ : ∃ c, ls[k]? = some c := ⟨ls[k]'(by have := HN.out.1; omega), by simp⟩
        obtain ⟨d, hdk⟩ : ∃ d, ms[k]? = some d := ⟨ms[k]'(by have := HN.out.2; omega), by simp⟩
        obtain ⟨hc1, hd1⟩ := HL.out wo Hbr.out
        obtain ⟨_, _, e', -, -, hc2⟩ := hc1
        obtain ⟨b, o, eb, hbB, hcin⟩ := hc2 k c hck
        obtain ⟨_, _, e'', -, -, hd2⟩ := hd1
        obtain ⟨b2, o2, eb2, hbB2, hdin⟩ := hd2 k d hdk
        simp at e' e''
        obtain ⟨rfl, -, -⟩ := e'
        obtain ⟨rfl, -, -⟩ := e''
        subst eb eb2
        clear hc2 hd2
        obtain ⟨la, lc, ra, rc, c0, c1, c2, c3, hcv⟩ := hcin.val
        obtain ⟨la2, lc2, ra2, rc2, d0, d1, d2, d3, hdv⟩ := hdin.val
        have hsz := Hbr.out.size
        have hbl : b < wo.heap.size := by omega
        have hbl2 : b2 < wo.heap.size := by omega
        have HPA : Hid (∀ w', Below wo.heap.size wo w' → Calls Tryz.prog F #[.agg #[.bool c.1, .slice la c.2.1.length lc, .slice ra c.2.2.1.length rc, .int .i64 c.2.2.2], .agg #[.bool d.1, .slice la2 d.2.1.length lc2, .slice ra2 d.2.2.1.length rc2, .int .i64 d.2.2.2]] w' fun e w'' => e = .returned (.bool (decide (c = d))) ∧ Below w'.heap.size w' w'') := fun w' h => HF.out w' _ _ c d (Nat.le_trans hB (Nat.le_trans hsz h.size)) (hcv.later h (Nat.le_trans hB hsz)) (hdv.later h (Nat.le_trans hB hsz))
        have HIn : Hid (ls[k]? = some c ∧ ms[k]? = some d) := ⟨hck, hdk⟩
        clear hcin hdin hcv hdv hck hdk
        generalize c.2.1.length = n1 at *
        generalize d.2.1.length = n2 at *
        generalize c.2.2.1.length = n3 at *
        generalize d.2.2.1.length = n4 at *
        obtain ⟨dq, hdq⟩ : ∃ dq, dq = decide (c = d) := ⟨_, rfl⟩
        have HDq : Hid (dq = decide (c = d)) := hdq
        rw [← hdq] at HPA
        clear hdq
        go_wp2_with fail
        obtain ⟨W1, hW1⟩ : ∃ W1, W1 = (wo.alloc (.cells #[.bool c.1, .slice la n1 lc, .slice ra n3 rc, .int .i64 c.2.2.2] 77)).alloc (.cells #[.bool d.1, .slice la2 n2 lc2, .slice ra2 n4 rc2, .int .i64 d.2.2.2] 77) := ⟨_, rfl⟩
        have hbW : Below wo.heap.size wo W1 := by rw [hW1]; exact ((Below.refl _ _).alloc (Nat.le_refl _) _).alloc (by simp) _
        rw [← hW1, HK.out]
        have HCall : Hid (Calls Tryz.prog F #[.agg #[.bool c.1, .slice la n1 lc, .slice ra n3 rc, .int .i64 c.2.2.2], .agg #[.bool d.1, .slice la2 n2 lc2, .slice ra2 n4 rc2, .int .i64 d.2.2.2]] W1 fun e w'' => e = .returned (.bool dq) ∧ Below W1.heap.size W1 w'') := HPA.out W1 hbW
        have HbW : Hid (Below w.heap.size w W1) := Below.thenOf Hbr.out hbW Hbr.out.size
        clear hW1 hbW
        go_wp2_with fail
        refine Calls.mono HCall.out ?_
        rintro e w2 ⟨rfl, hb2⟩
        have Hb2 : Hid (Below w.heap.size w w2) := Below.thenOf HbW.out hb2 HbW.out.size
        clear hb2 HCall
        cases dq with
        | true =>
          have heq := of_decide_eq_true HDq.out.symm
          have Heq : Hid (c = d) := heq
          clear heq
          go_wp2_with fail
          refine ⟨⟨k + 1, by omega, by go_num, fun i hi => ?_, Hb2.out⟩, by simp [intOf]; omega⟩
          by_cases hik : i = k
          · subst hik; rw [HIn.out.1, HIn.out.2, Heq.out]
          · exact H.out i (by omega)
        | false =>
          have heq := of_decide_eq_false HDq.out.symm
          have Heq : Hid (¬ c = d) := heq
          clear heq
          go_wp2_with fail
          go_ret
          refine ⟨?_, Hb2.out⟩
          have : ls ≠ ms := by
            intro h
            have h1 := HIn.out.1
            rw [h, HIn.out.2] at h1
            exact Heq.out (Option.some.inj h1).symm
          simp [this]
      · go_wp2_with fail
        go_ret
        refine ⟨?_, Hbr.out⟩
        have : ls = ms := by
          refine List.ext_getElem? fun i => ?_
          by_cases hi : i < k
          · exact H.out i hi
          · rw [List.getElem?_eq_none (by have := HN.out.1; omega), List.getElem?_eq_none (by have := HN.out.2; omega)]
        simp [this]
  · have hni : ((ls.length : Int) != (ms.length : Int)) = true := by simp; omega
    have hf : Hid (decide (ls = ms) = false) := decide_eq_false fun h => hne (by rw [h])
    clear HL HF
    generalize ls.length = n at *
    generalize ms.length = m at *
    go_enter Tryz.func106, Tryz.ntmps106
    go_wp2_with fail
    go_ret
    exact ⟨by rw [hf.out]; rfl, Below.refl _ _⟩
set_option maxHeartbeats 2000000 in
theorem sameCells_any (B : Nat) (lv mv : Value) (ls ms : List CellT) (w : World) (hl : CellsAt B w lv ls) (hm : CellsAt B w mv ms) (hB : B ≤ w.heap.size) :
    Calls Tryz.prog 48 #[lv, mv] w fun e w' => e = .returned (.bool (decide (ls = ms))) ∧ Below w.heap.size w w' := by
  have HC : Hid (Calls Tryz.prog 106 #[lv, mv, .func (.func 108) #[] #[]] w fun e w' => e = .returned (.bool (decide (ls = ms))) ∧ Below w.heap.size w w') := equalCells_any B 108 (fun args w' => by kernel_rfl) (fun w' u v c d hBw h1 h2 => sameCell_any B u v c d w' h1 h2 hBw) lv mv ls ms w hl hm hB
  obtain ⟨a, c, rfl, -, -⟩ := hl.shape
  obtain ⟨a2, c2, rfl, -, -⟩ := hm.shape
  clear hl hm
  generalize decide (ls = ms) = eq at *
  generalize ls.length = n at *
  generalize ms.length = n2 at *
  go_enter Tryz.func48, Tryz.ntmps48
  go_wp2_with (first | (go_at_call 106; go_must (refine Calls.mono HC.out ?_; rintro e w2 ⟨rfl, hb2⟩)))
  go_ret
  exact ⟨rfl, hb2⟩
end Go.Proofs.YtbdlojnigflanacGreatDoor
end
