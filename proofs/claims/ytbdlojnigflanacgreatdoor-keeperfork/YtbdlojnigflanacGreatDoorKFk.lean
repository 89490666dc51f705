/- KeeperFork returns true, whatever the records, the sessions and the call, in whatever memory. -/
import Derived.Test.YtbdlojnigflanacGreatDoorKFk0
import Derived.Test.YtbdlojnigflanacGreatDoorKb40
import Derived.Test.YtbdlojnigflanacGreatDoorKb17
set_option linter.all false
set_option maxRecDepth 100000
namespace Go.Proofs.YtbdlojnigflanacGreatDoor
open Go.RowKit Go.Maps

/-- One session out of a row. -/
theorem CellsAt.one {B b o cap : Nat} {w : World} {l : List CellT} {c : CellT} {i : Nat} (h : CellsAt B w (.slice (some ⟨b, o, none⟩) 4 cap) l) (hc : l[i]? = some c) : CellsAt B w (.slice (some ⟨b, o + i * 4, none⟩) 1 (cap - i)) [c] := by
  obtain ⟨a', cap', e, h1, h2, h3⟩ := h
  simp at e
  obtain ⟨rfl, e2, rfl⟩ := e
  have hi := (List.getElem?_eq_some_iff.1 hc).1
  refine ⟨_, cap - i, rfl, by simp; omega, by omega, fun j d hd => ?_⟩
  match j, hd with
  | 0, hd =>
    simp at hd
    subst hd
    obtain ⟨b', o', e, hl, k⟩ := h3 i c hc
    simp at e
    obtain ⟨rfl, rfl⟩ := e
    exact ⟨b, o + i * 4, rfl, hl, by simpa using k⟩
  | j + 1, hd => simp at hd

set_option maxHeartbeats 16000000 in
theorem keeperFork_any (B : Nat) (lv : Value) (rs : List RecT) (fr tt : Int) (x : Nat → Int) (w : World) (he : EnvAt w) (hl : RecsAt B w lv rs) (_ : wf fr) (_ : wf tt) (hB : B ≤ w.heap.size) :
    Calls Tryz.prog 12 #[lv, .int .i64 fr, .int .i64 tt, callV x] w fun e w' => e = .returned (.bool true) ∧ Below w.heap.size w w' := by
  have HO : Hid (∀ w', Below w.heap.size w w' → Calls Tryz.prog 44 #[] w' fun e w'' => e = .returned (.bool true) ∧ Below w'.heap.size w' w'') := fun w' h => opened_true w' (he.later h)
  have HR : Hid (∀ w', Calls Tryz.prog 13 #[callV x] w' fun e w'' => e = .returned (callV (rx x)) ∧ Below w'.heap.size w' w'') := fun w' => right_any x w'
  have HRp : Hid (∀ w', Below w.heap.size w w' → Calls Tryz.prog 50 #[lv] w' fun e w'' => ∃ a n c, e = .returned (.tuple #[.slice a n c, .int .i64 (replayP rs).2]) ∧ CellsAt w''.heap.size w'' (.slice a n c) (replayP rs).1 ∧ Below w'.heap.size w' w'') := fun w' h => by
    refine (replayKp_any B lv rs w' (hl.later h hB) (Nat.le_trans hB h.size)).mono fun e w'' ⟨v, h1, h2, h3⟩ => ?_
    obtain ⟨a, c, ev, -, -⟩ := h2.shape
    subst ev
    exact ⟨a, _, c, h1, h2, h3⟩
  have HGd : Hid ((replayP rs).2 = 0 → Good (replayP rs).1) := fun h => replayP_good h
  have HOk : Hid (chkx (rx x) = 0) := right_ok x
  obtain ⟨fi, hfi⟩ : ∃ fi : Nat, (fi : Int) = fr % 4 := ⟨(fr % 4).toNat, by omega⟩
  obtain ⟨ti, hti⟩ : ∃ ti : Nat, (ti : Int) = tt % 4 := ⟨(tt % 4).toNat, by omega⟩
  have hf4 : fi < 4 := by omega
  have ht4 : ti < 4 := by omega
  have HAf : Hid (∀ w', Calls Tryz.prog 40 #[.int .i64 fr, .int .i64 4] w' fun e w'' => e = .returned (.int .i64 fi) ∧ w'' = w') := fun w' => by
    have := at_any fr 4 (by omega) w'
    rw [← hfi] at this
    exact this
  have HAt : Hid (∀ w', Calls Tryz.prog 40 #[.int .i64 tt, .int .i64 4] w' fun e w'' => e = .returned (.int .i64 ti) ∧ w'' = w') := fun w' => by
    have := at_any tt 4 (by omega) w'
    rw [← hti] at this
    exact this
  obtain ⟨a, cap, elv, -, -, -⟩ := id hl
  subst elv
  generalize rs.length = n at *
  clear hl he hfi hti
  generalize (replayP rs).2 = re at *
  generalize (replayP rs).1 = cs at *
  unfold callV at HR ⊢
  generalize rx x = y at *
  obtain ⟨W0, hW0⟩ : ∃ W0, W0 = w.alloc (.cells #[.int .i64 (x 0), .int .i64 (x 1), .int .i64 (x 2), .int .i64 (x 3), .int .i64 (x 4)] 26) := ⟨_, rfl⟩
  have bw0 : Below w.heap.size w W0 := by rw [hW0]; exact (Below.refl _ _).alloc (Nat.le_refl _) _
  have hx0 : W0.heap[w.heap.size]? = some (.cells (cellsX x) 26 (0, 0)) := by rw [hW0]; exact heap_made _ _
  have HW0 : Hid (W0 = _) := hW0
  clear hW0
  go_enter Tryz.func12, Tryz.ntmps12
  go_wp2_with fail
  rw [← HW0.out]
  go_at_call 13
  refine Calls.mono (HR.out _) ?_
  rintro e w1 ⟨rfl, b01⟩
  have X1 := (b01.block _ (lt_of_block hx0)).trans hx0
  obtain ⟨z0, z1, z2, z3, z4⟩ := five_atK X1
  have Zf := (cellsX_at X1).2
  have f0 := Zf 0
  have f1 := Zf 1
  have f2 := Zf 2
  have f3 := Zf 3
  have f4 := Zf 4
  have HX1 : Hid (w1.heap[w.heap.size]? = some (.cells (cellsX x) 26 (0, 0))) := X1
  obtain ⟨W1, hW1⟩ : ∃ W1, W1 = ((((w1.setCell ⟨w.heap.size, 0, none⟩ (.int .i64 (y 0))).setCell ⟨w.heap.size, 1, none⟩ (.int .i64 (y 1))).setCell ⟨w.heap.size, 2, none⟩ (.int .i64 (y 2))).setCell ⟨w.heap.size, 3, none⟩ (.int .i64 (y 3))).setCell ⟨w.heap.size, 4, none⟩ (.int .i64 (y 4)) := ⟨_, rfl⟩
  have hx1 : W1.heap[w.heap.size]? = some (.cells (cellsX y) 26 (0, 0)) := by rw [hW1]; exact callBox HX1.out
  have b1 : Below w.heap.size w1 W1 := by rw [hW1]; exact callBox_below (Below.refl _ _) (Nat.le_refl _)
  have bw1 : Below w.heap.size w W1 := (Below.thenOf bw0 b01 bw0.size).trans b1
  have HK : Hid (∀ w', Below W1.heap.size W1 w' → w'.heap[w.heap.size]? = some (.cells (cellsX y) 26 (0, 0)) ∧ Below w.heap.size w w') := fun w' h => ⟨(h.block _ (lt_of_block hx1)).trans hx1, Below.thenOf bw1 h bw1.size⟩
  have HW1 : Hid (W1 = _) := hW1
  have HBw1 : Hid (Below w.heap.size w W1) := bw1
  clear Zf X1 hx0 hW1 hx1 b1 bw1 b01 bw0 HX1
  go_wp2_with fail
  rw [← HW1.out]
  go_at_call 40
  refine Calls.mono (HAf.out _) ?_
  rintro e w' ⟨rfl, hw⟩
  have hw := hw.symm
  subst hw
  go_wp2_with fail
  go_at_call 40
  refine Calls.mono (HAt.out _) ?_
  rintro e w' ⟨rfl, hw⟩
  have hw := hw.symm
  subst hw
  clear HAf HAt
  go_wp2_with fail
  go_at_call 50
  refine Calls.mono (HRp.out _ HBw1.out) ?_
  rintro e w2 ⟨ca, cn, cc, rfl, hc2, hb2⟩
  have hb2w := (HK.out w2 hb2).2
  have HC2 : Hid (∀ w', Below w2.heap.size w2 w' → CellsAt w2.heap.size w' (.slice ca cn cc) cs) := fun w' h => hc2.later h (Nat.le_refl _)
  have hcn : Hid (cn = cs.length) := by
    obtain ⟨_, _, e, -⟩ := hc2
    simp at e
    exact e.2.1
  clear hc2 z0 z1 z2 z3 z4 f0 f1 f2 f3 f4 HR HRp HW1 HW0
  go_wp2_with fail
  go_at_call 44
  refine Calls.mono (HO.out _ hb2w) ?_
  rintro e w3 ⟨rfl, hb3⟩
  have hb3w : Below w.heap.size w w3 := Below.thenOf hb2w hb3 hb2w.size
  by_cases hre : re = 0
  case neg =>
    have hq : (re != 0) = true := by simpa using hre
    clear hcn HC2 HGd hb2 hb2w
    go_wp2_with fail
    go_at_call 44
    refine Calls.mono (HO.out _ hb3w) ?_
    rintro e w4 ⟨rfl, hb4⟩
    have HZ : Hid (Below w.heap.size w w4) := Below.thenOf hb3w hb4 hb3w.size
    clear hb4
    go_wp2_with fail
    go_ret
    exact ⟨rfl, HZ.out⟩
  case pos =>
    subst hre
    have HG : Hid (Good cs) := HGd.out rfl
    obtain rfl : cn = 4 := by rw [hcn.out]; exact HG.out.1
    have HB3 : Hid (Below w2.heap.size w2 w3 ∧ Below W1.heap.size W1 w3) := ⟨hb3, Below.thenOf hb2 hb3 hb2.size⟩
    obtain ⟨cT, hcT⟩ : ∃ c, cs[ti]? = some c := ⟨cs[ti]'(by rw [HG.out.1]; omega), by simp⟩
    obtain ⟨cF, hcF⟩ : ∃ c, cs[fi]? = some c := ⟨cs[fi]'(by rw [HG.out.1]; omega), by simp⟩
    have HN3 : Hid (Calls Tryz.prog 42 #[.slice ca 4 cc, .agg #[.int .i64 3, .int .i64 ti, .int .i64 fi, .slice none 0 0, .int .i64 0]] w3 fun e w' => ∃ na nn nc, e = .returned (.tuple #[.slice na nn nc, .int .i64 (nextE cs (3, (ti : Int), (fi : Int), [], 0))]) ∧ CellsAt w'.heap.size w' (.slice na nn nc) (nextR cs (3, (ti : Int), (fi : Int), [], 0)) ∧ Below w3.heap.size w3 w') := by
      have w0 : ∀ n : Int, 0 ≤ n ∧ n ≤ 4 → wf n := fun n h => WalkArith.wf_i64 (by omega)
      refine (nextKp_any w3.heap.size _ (.agg #[.int .i64 3, .int .i64 ti, .int .i64 fi, .slice none 0 0, .int .i64 0]) cs (3, (ti : Int), (fi : Int), [], 0) w3 ((HC2.out _ hb3).wide hb3.size) ⟨_, rfl, w0 3 (by omega), w0 (ti : Int) (by omega), w0 (fi : Int) (by omega), polAt_zero _ _⟩ (Nat.le_refl _)).mono fun e w' ⟨v, h1, h2, h3⟩ => ?_
      obtain ⟨na, nc, ev, -, -⟩ := h2.shape
      subst ev
      exact ⟨na, _, nc, h1, h2, h3⟩
    have HFe := fork_err HG.out hcT hcF
    have HFo : Hid (nextE cs (3, (ti : Int), (fi : Int), [], 0) = 0 → _) := fork_ok HG.out hcT hcF
    have HCT : Hid (cs[ti]? = some cT ∧ cs[fi]? = some cF) := ⟨hcT, hcF⟩
    have HFe' : Hid (nextE cs (3, (ti : Int), (fi : Int), [], 0) = if cT.1 = true then 6 else if cF.1 = true then compE cF.2.2 else 5) := HFe
    clear hcn HGd hb2 hb2w hb3 HO HFe hcT hcF
    go_wp2_with fail
    go_at_call 42
    refine Calls.mono HN3.out ?_
    rintro e w4 ⟨da, dn, dc, rfl, hd4, hb4⟩
    obtain ⟨_, _, e1, -, -, hat⟩ := HC2.out w4 (Below.thenOf HB3.out.1 hb4 HB3.out.1.size)
    obtain ⟨b, o, e, hbB, hinT⟩ := hat ti cT HCT.out.1
    simp at e1
    obtain ⟨rfl, -, -⟩ := e1
    subst e
    obtain ⟨_, _, e2, -, hinF⟩ := hat fi cF HCT.out.2
    simp at e2
    obtain ⟨rfl, rfl⟩ := e2
    obtain ⟨-, -, -, -, c0, -⟩ := hinT.vals
    obtain ⟨-, -, -, -, d0, -⟩ := hinF.vals
    have hbl : b < w4.heap.size := Nat.lt_of_lt_of_le hbB (Nat.le_trans HB3.out.1.size hb4.size)
    have HD4 : Hid (CellsAt w4.heap.size w4 (.slice da dn dc) (nextR cs (3, (ti : Int), (fi : Int), [], 0))) := hd4
    have HB4 : Hid (Below w3.heap.size w3 w4) := hb4
    have i0 : (0 : Int) ≤ (ti : Int) := by omega
    have i1 : (ti : Int) < 4 := by omega
    have j0 : (0 : Int) ≤ (fi : Int) := by omega
    have j1 : (fi : Int) < 4 := by omega
    clear hat hinT hinF hd4 hb4 HN3
    obtain ⟨oT, hoT⟩ : ∃ o, o = cT.1 := ⟨_, rfl⟩
    obtain ⟨oF, hoF⟩ : ∃ o, o = cF.1 := ⟨_, rfl⟩
    rw [← hoT] at c0 HFe'
    rw [← hoF] at d0 HFe'
    have hinFo : Hid (cF.1 = oF) := hoF.symm
    clear hoT hoF
    generalize nextE cs (3, (ti : Int), (fi : Int), [], 0) = ne at *
    cases oT with
    | true =>
      obtain rfl : ne = 6 := HFe'.out
      have HZ : Hid (Below w.heap.size w w4) := Below.thenOf hb3w HB4.out hb3w.size
      clear HFe' HFo HD4
      go_wp2_with fail
      go_ret
      exact ⟨rfl, HZ.out⟩
    | false =>
      cases oF with
      | false =>
        obtain rfl : ne = 5 := HFe'.out
        have HZ : Hid (Below w.heap.size w w4) := Below.thenOf hb3w HB4.out hb3w.size
        clear HFe' HFo HD4
        go_wp2_with fail
        go_ret
        exact ⟨rfl, HZ.out⟩
      | true =>
        have hokF := HG.out.2 cF (List.mem_of_getElem? HCT.out.2)
        have hoF : cF.1 = true := by
          have h1 := hinFo.out
          exact h1
        have hpF := (cellErr_open hokF.1 hoF).2.1
        have hne : ne = compE cF.2.2 := HFe'.out
        rcases compE_few hpF with h0 | h2
        case inr =>
          rw [h2] at hne
          subst hne
          have HZ : Hid (Below w.heap.size w w4) := Below.thenOf hb3w HB4.out hb3w.size
          clear HFe' HFo HD4 hokF hpF hoF
          go_wp2_with fail
          go_ret
          exact ⟨rfl, HZ.out⟩
        case inl =>
          rw [h0] at hne
          subst hne
          obtain ⟨-, -, -, hnef, q1, q2, q3, q4, q5, q6, q7⟩ := HFo.out rfl
          rw [q1] at HD4
          obtain ⟨LD, hLD⟩ : ∃ L, L = cs.set ti (true, [polI cF.2.2], cF.2.2) := ⟨_, rfl⟩
          rw [← hLD] at HD4 q2 q3 q4 q5 q6 q7
          have hok1 := ok_asks hokF hoF HOk.out
          have hokT := q2.2 _ (List.mem_of_getElem? q4)
          have hok2 := ok_asks hokT rfl HOk.out
          simp only at hok2
          have hdn : dn = 4 := by
            obtain ⟨_, _, e, -⟩ := HD4.out
            simp at e
            rw [e.2.1]
            exact q2.1
          subst hdn
          obtain ⟨_, _, e1, -, -, hat⟩ := HD4.out
          obtain ⟨g, go, e, hgB, hinT⟩ := hat ti _ q4
          simp at e1
          obtain ⟨rfl, -, -⟩ := e1
          subst e
          obtain ⟨_, _, e2, -, hinF⟩ := hat fi _ q3
          simp at e2
          obtain ⟨rfl, rfl⟩ := e2
          obtain ⟨lT, lcT, pT, pcT, -, t1, t2, t3, hchT, hpoT⟩ := hinT.vals
          obtain ⟨lF, lcF, pF, pcF, -, s1, -, -, hchF, -⟩ := hinF.vals
          simp only [List.length_cons, List.length_nil] at t1 t2 t3 hchT hpoT
          have HAf : Hid (∀ w', Below w4.heap.size w4 w' → Calls Tryz.prog 52 #[.slice lF cF.2.1.length lcF, .agg #[.int .i64 (y 0), .int .i64 (y 1), .int .i64 (y 2), .int .i64 (y 3), .int .i64 (y 4)]] w' fun e w'' => e = .returned (.tuple #[.int .i64 (vP cF.2.2 y), .int .i64 0]) ∧ Below w'.heap.size w' w'') := fun w' h => by
            have := askD_any w4.heap.size _ cF.2.1 y w' (hchF.later h (Nat.le_refl _)) h.size
            rw [hok1.1, hok1.2.1] at this
            exact this
          have HAt : Hid (∀ w', Below w4.heap.size w4 w' → Calls Tryz.prog 52 #[.slice lT 1 lcT, .agg #[.int .i64 (y 0), .int .i64 (y 1), .int .i64 (y 2), .int .i64 (y 3), .int .i64 (y 4)]] w' fun e w'' => e = .returned (.tuple #[.int .i64 (vP cF.2.2 y), .int .i64 0]) ∧ Below w'.heap.size w' w'') := fun w' h => by
            have := askD_any w4.heap.size _ [polI cF.2.2] y w' (hchT.later h (Nat.le_refl _)) h.size
            rw [hok2.1, hok2.2.1] at this
            exact this
          have HCo : Hid (∀ w', Below w4.heap.size w4 w' → Calls Tryz.prog 53 #[.agg #[.slice pT cF.2.2.1.length pcT, .int .i64 cF.2.2.2]] w' fun e w'' => ∃ ga gc, e = .returned (.tuple #[.slice ga (polI cF.2.2).length gc, .int .i64 0]) ∧ InssAt w''.heap.size w'' (.slice ga (polI cF.2.2).length gc) (polI cF.2.2) ∧ Below w'.heap.size w' w'') := fun w' h => by
            have := compile_any w4.heap.size _ cF.2.2 w' (hpoT.later h (Nat.le_refl _)) h.size
            rw [h0, show compL cF.2.2 = polI cF.2.2 by rw [compL, if_pos h0]] at this
            refine this.mono fun e w'' ⟨gv, h1, h2, h3, h4⟩ => ?_
            have hg := inssAt_own h2 h3
            obtain ⟨ga, gc, ev, -, -⟩ := ownsRow_caps h2
            subst ev
            exact ⟨ga, gc, h1, hg, h4⟩
          obtain ⟨lTa, _, elT, -, -, hfT⟩ := id hchT
          simp at elT
          obtain ⟨rfl, -⟩ := elT
          obtain ⟨fb, fo, fv, efb, hfb, hfc, hfi⟩ := hfT 0 _ rfl
          subst efb
          obtain ⟨fa, fc, efv, -, -⟩ := hfi.shape
          subst efv
          rw [Nat.add_zero] at hfc
          have HFv : Hid (∀ w', Below w4.heap.size w4 w' → InssAt w4.heap.size w' (.slice fa (polI cF.2.2).length fc) (polI cF.2.2)) := fun w' h => hfi.later h (Nat.le_refl _)
          have HSh : Hid (∀ w', Below w4.heap.size w4 w' → Calls Tryz.prog 42 #[.slice (some ⟨g, go, none⟩) 4 dc, .agg #[.int .i64 4, .int .i64 fi, .int .i64 0, .slice none 0 0, .int .i64 0]] w' fun e w'' => ∃ sb so sc, e = .returned (.tuple #[.slice (some ⟨sb, so, none⟩) 4 sc, .int .i64 0]) ∧ 4 ≤ sc ∧ CellsAt w''.heap.size w'' (.slice (some ⟨sb, so + ti * 4, none⟩) 1 (sc - ti)) [(true, [polI cF.2.2], cF.2.2)] ∧ Below w'.heap.size w' w'') := fun w' h => by
            have w0 : ∀ n : Int, 0 ≤ n ∧ n ≤ 4 → wf n := fun n h => WalkArith.wf_i64 (by omega)
            refine (nextKp_any w4.heap.size _ (.agg #[.int .i64 4, .int .i64 fi, .int .i64 0, .slice none 0 0, .int .i64 0]) LD (4, (fi : Int), 0, [], 0) w' (HD4.out.later h (Nat.le_refl _)) ⟨_, rfl, w0 4 (by omega), w0 (fi : Int) (by omega), w0 0 (by omega), polAt_zero _ _⟩ h.size).mono fun e w'' ⟨v, h1, h2, h3⟩ => ?_
            rw [q5] at h1
            obtain ⟨sa, sc, ev, hsc, -⟩ := h2.shape
            rw [q7] at ev hsc
            subst ev
            obtain ⟨_, _, e3, -, -, hs⟩ := id h2
            obtain ⟨sb, so, e4, -, -⟩ := hs ti _ q6
            simp at e3
            obtain ⟨rfl, -, -⟩ := e3
            subst e4
            exact ⟨sb, so, sc, h1, hsc, h2.one q6, h3⟩
          have HDo : Hid (∀ w', Below w4.heap.size w4 w' → CellsAt w4.heap.size w' (.slice (some ⟨g, go + ti * 4, none⟩) 1 (dc - ti)) [(true, [polI cF.2.2], cF.2.2)]) := fun w' h => (HD4.out.later h (Nat.le_refl _)).one q4
          have hdc : 4 ≤ dc := by
            obtain ⟨_, _, e, h, -⟩ := HD4.out
            simp at e
            rw [q2.1] at h
            omega
          have HBw4 : Hid (Below w.heap.size w w4 ∧ Below W1.heap.size W1 w4) := ⟨Below.thenOf hb3w HB4.out hb3w.size, Below.thenOf HB3.out.2 HB4.out HB3.out.2.size⟩
          have HRow : Hid (∀ w', Below w4.heap.size w4 w' → w'.cell? ⟨g, go + fi * 4 + 1, none⟩ = some (.slice lF cF.2.1.length lcF) ∧ w'.cell? ⟨g, go + ti * 4 + 1, none⟩ = some (.slice (some ⟨fb, fo, none⟩) 1 lcT) ∧ w'.cell? ⟨g, go + ti * 4 + 2, none⟩ = some (.slice pT cF.2.2.1.length pcT) ∧ w'.cell? ⟨g, go + ti * 4 + 3, none⟩ = some (.int .i64 cF.2.2.2) ∧ w'.cell? ⟨fb, fo, none⟩ = some (.slice fa (polI cF.2.2).length fc) ∧ w'.heap[w.heap.size]? = some (.cells (cellsX y) 26 (0, 0)) ∧ Below w.heap.size w w') := fun w' h =>
            ⟨(h.cell (p := ⟨g, go + fi * 4 + 1, none⟩) hgB).trans s1, (h.cell (p := ⟨g, go + ti * 4 + 1, none⟩) hgB).trans t1, (h.cell (p := ⟨g, go + ti * 4 + 2, none⟩) hgB).trans t2, (h.cell (p := ⟨g, go + ti * 4 + 3, none⟩) hgB).trans t3, (h.cell (p := ⟨fb, fo, none⟩) hfb).trans hfc, (HK.out w' (Below.thenOf HBw4.out.2 h HBw4.out.2.size)).1, Below.thenOf HBw4.out.1 h HBw4.out.1.size⟩
          clear hat hinT hinF hchT hpoT hchF hfT hfi hok1 hok2 hokT hokF hpF hoF q1 q2 q3 q4 q5 q6 q7 hLD HD4 HFo HFe' hinFo s1 t1 t2 t3 hfc h0 HCT HC2 HG HB3 HB4 hb3w
          generalize cF.2.1.length = n1 at *
          generalize cF.2.2.1.length = n2 at *
          have HRg : Hid (∀ W, Below w4.heap.size w4 W → ∀ q : Later W, Below w4.heap.size w4 q.1) := fun W h q => Below.thenOf h q.2 h.size
          have HFive : Hid (∀ w', Below w4.heap.size w4 w' → w'.cell? ⟨w.heap.size, 0, none⟩ = some (.int .i64 (y 0)) ∧ w'.cell? ⟨w.heap.size, 1, none⟩ = some (.int .i64 (y 1)) ∧ w'.cell? ⟨w.heap.size, 2, none⟩ = some (.int .i64 (y 2)) ∧ w'.cell? ⟨w.heap.size, 3, none⟩ = some (.int .i64 (y 3)) ∧ w'.cell? ⟨w.heap.size, 4, none⟩ = some (.int .i64 (y 4))) := fun w' h => five_atK (HRow.out w' h).2.2.2.2.2.1
          go_wp2_with fail
          have hne := Later.ne w4
          have z1 : ∀ q : Later w4, q.1.cell? ⟨g, go + fi * 4 + 1, none⟩ = some (.slice lF n1 lcF) := fun q => (HRow.out q.1 q.2).1
          have x0 : ∀ q : Later w4, q.1.cell? ⟨w.heap.size, 0, none⟩ = some (.int .i64 (y 0)) := fun q => (HFive.out q.1 q.2).1
          have x1 : ∀ q : Later w4, q.1.cell? ⟨w.heap.size, 1, none⟩ = some (.int .i64 (y 1)) := fun q => (HFive.out q.1 q.2).2.1
          have x2 : ∀ q : Later w4, q.1.cell? ⟨w.heap.size, 2, none⟩ = some (.int .i64 (y 2)) := fun q => (HFive.out q.1 q.2).2.2.1
          have x3 : ∀ q : Later w4, q.1.cell? ⟨w.heap.size, 3, none⟩ = some (.int .i64 (y 3)) := fun q => (HFive.out q.1 q.2).2.2.2.1
          have x4 : ∀ q : Later w4, q.1.cell? ⟨w.heap.size, 4, none⟩ = some (.int .i64 (y 4)) := fun q => (HFive.out q.1 q.2).2.2.2.2
          have HL4 : Hid (∀ q : Later w4, Below w4.heap.size w4 q.1) := fun q => q.2
          clear c0 d0
          refine wp_region_later (by kernel_rfl) (by kernel_rfl) ?_
          repeat (go_big_quiet_step (first
            | (go_at_call 52; exact Calls.later (HAf.out _ (HL4.out _)))))
          refine wpQuiet_nil ?_
          rintro w5 ⟨⟨_, hb5⟩, rfl⟩
          clear z1 x0 x1 x2 x3 x4 hne HL4 HAf
          go_wp2_with fail
          have hne := Later.ne w5
          have HL5 : Hid (∀ q : Later w5, Below w4.heap.size w4 q.1) := HRg.out w5 hb5
          have z1 : ∀ q : Later w5, q.1.cell? ⟨g, go + ti * 4 + 1, none⟩ = some (.slice (some ⟨fb, fo, none⟩) 1 lcT) := fun q => (HRow.out q.1 (HL5.out q)).2.1
          have x0 : ∀ q : Later w5, q.1.cell? ⟨w.heap.size, 0, none⟩ = some (.int .i64 (y 0)) := fun q => (HFive.out q.1 (HL5.out q)).1
          have x1 : ∀ q : Later w5, q.1.cell? ⟨w.heap.size, 1, none⟩ = some (.int .i64 (y 1)) := fun q => (HFive.out q.1 (HL5.out q)).2.1
          have x2 : ∀ q : Later w5, q.1.cell? ⟨w.heap.size, 2, none⟩ = some (.int .i64 (y 2)) := fun q => (HFive.out q.1 (HL5.out q)).2.2.1
          have x3 : ∀ q : Later w5, q.1.cell? ⟨w.heap.size, 3, none⟩ = some (.int .i64 (y 3)) := fun q => (HFive.out q.1 (HL5.out q)).2.2.2.1
          have x4 : ∀ q : Later w5, q.1.cell? ⟨w.heap.size, 4, none⟩ = some (.int .i64 (y 4)) := fun q => (HFive.out q.1 (HL5.out q)).2.2.2.2
          refine wp_region_later (by kernel_rfl) (by kernel_rfl) ?_
          repeat (go_big_quiet_step (first
            | (go_at_call 52; exact Calls.later (HAt.out _ (HL5.out _)))))
          refine wpQuiet_nil ?_
          rintro w6 ⟨⟨_, hb6⟩, rfl⟩
          have hb46 : Below w4.heap.size w4 w6 := Below.thenOf hb5 hb6 hb5.size
          clear z1 x0 x1 x2 x3 x4 hne HL5 HAt hb6 hb5
          obtain ⟨-, -, p3, p4, -, -, -⟩ := HRow.out w6 hb46
          have p4' : w6.cell? ⟨g, go + ti * 4 + 2 + 1, none⟩ = some (.int .i64 cF.2.2.2) := p4
          go_wp2_with fail
          go_at_call 53
          refine Calls.mono (HCo.out _ hb46) ?_
          rintro e w7 ⟨ga, gc, rfl, hg7, hb7⟩
          have hb47 : Below w4.heap.size w4 w7 := Below.thenOf hb46 hb7 hb46.size
          have HEq : Hid (Calls Tryz.prog 54 #[.slice fa (polI cF.2.2).length fc, .slice ga (polI cF.2.2).length gc] w7 fun e w'' => e = .returned (.bool true) ∧ Below w7.heap.size w7 w'') := by
            have := equalInss_any w7.heap.size _ _ _ _ w7 ((HFv.out w7 hb47).mono hb47.size) hg7 (Nat.le_refl _)
            rw [decide_eq_true rfl] at this
            exact this
          clear p3 p4 p4' hg7 hb7 hb46 HCo
          obtain ⟨-, p2, -, -, p5, -, -⟩ := HRow.out w7 hb47
          generalize (polI cF.2.2).length = pl at *
          go_wp2_with fail
          go_at_call 54
          refine Calls.mono HEq.out ?_
          rintro e w8 ⟨rfl, hb8⟩
          have hb48 : Below w4.heap.size w4 w8 := Below.thenOf hb47 hb8 hb47.size
          clear p2 p5 hb8 hb47 HEq
          go_wp2_with fail
          go_at_call 42
          refine Calls.mono (HSh.out _ hb48) ?_
          rintro e w9 ⟨sb, so, sc, rfl, hsc, hs9, hb9⟩
          have hb49 : Below w4.heap.size w4 w9 := Below.thenOf hb48 hb9 hb48.size
          have HSm : Hid (∀ q : Later w9, Calls Tryz.prog 47 #[.slice (some ⟨sb, so + ti * 4, none⟩) 1 (sc - ti), .slice (some ⟨g, go + ti * 4, none⟩) 1 (dc - ti)] q.1 fun e w'' => e = .returned (.bool true) ∧ Below q.1.heap.size q.1 w'') := fun q => by
            have hb := Below.thenOf hb49 q.2 hb49.size
            have := sameKp_any q.1.heap.size _ _ _ _ q.1 ((hs9.later q.2 (Nat.le_refl _)).wide q.2.size) ((HDo.out q.1 hb).wide hb.size) (Nat.le_refl _)
            rw [decide_eq_true rfl] at this
            exact this
          have HZ9 : Hid (∀ w', Below w9.heap.size w9 w' → Below w.heap.size w w') := fun w' h => (HRow.out w' (Below.thenOf hb49 h hb49.size)).2.2.2.2.2.2
          clear hs9 hb9 hb49 hb48 HSh HDo
          have i4 : IntKind.i64.wrap ((ti : Int) + 1) = ((ti + 1 : Nat) : Int) := IntWalk.i64_in _ (by omega)
          have k4 : ti + 1 ≤ 4 := by omega
          have k5 : ti + 1 ≤ sc := by omega
          have k6 : ti + 1 ≤ dc := by omega
          have hne := Later.ne w9
          go_wp2_with fail
          refine wp_region_later (by kernel_rfl) (by kernel_rfl) ?_
          repeat (go_big_quiet_step (first
            | (go_at_call 47; exact Calls.later (HSm.out _))))
          refine wpQuiet_nil ?_
          rintro w10 ⟨⟨_, hb10⟩, rfl⟩
          have HZ : Hid (Below w.heap.size w w10) := HZ9.out _ hb10
          clear hb10 hne HSm HZ9
          go_wp2_with fail
          go_ret
          exact ⟨rfl, HZ.out⟩
end Go.Proofs.YtbdlojnigflanacGreatDoor
