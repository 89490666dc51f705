/- PointHome returns true, whatever the policies and the call, in whatever memory. -/
import Derived.Test.YtffhpcfphodamaaGreatDoorCutt
import Derived.Test.YtffhpcfphodamaaGreatDoorIdx
import Derived.Test.YtffhpcfphodamaaGreatDoorJud3
import Derived.Test.YtffhpcfphodamaaGreatDoorBox5
set_option linter.all false
set_option maxRecDepth 100000
namespace Go.Proofs.YtffhpcfphodamaaGreatDoor
open Go.RowKit Go.Maps

theorem asC_fields (y : Nat → Int) : asC (fieldsOf y) = (y 0, y 1, y 2, y 3, y 4) := rfl

set_option maxHeartbeats 16000000 in
theorem pointHome_any (B : Nat) (lv : Value) (ps : List PolT) (x : Nat → Int) (w : World) (he : EnvAt w) (hl : PolsAt B w lv ps) (hB : B ≤ w.heap.size) (hn : ps.length ≤ 5000000000) :
    Calls Tryz.prog 4 #[lv, callV x] w fun e w' => e = .returned (.bool true) ∧ Below w.heap.size w w' := by
  have HL : Hid (∀ w', Below w.heap.size w w' → PolsAt B w' lv ps) := fun w' h => hl.later h hB
  have HPt : Hid (∀ w', Below w.heap.size w w' → Calls Tryz.prog 6 #[lv] w' fun e w'' => ∃ v, e = .returned (.tuple #[v, .int .i64 (pointsE ps)]) ∧ CallsAt w''.heap.size w'' v ((pointsL ps).map asC) ∧ Below w'.heap.size w' w'') := fun w' h => pointsD_any B lv ps w' (hl.later h hB) (Nat.le_trans hB h.size) hn
  have HHo : Hid (∀ (y : Nat → Int) w', Below w.heap.size w w' → Calls Tryz.prog 7 #[lv, .agg #[.int .i64 (y 0), .int .i64 (y 1), .int .i64 (y 2), .int .i64 (y 3), .int .i64 (y 4)]] w' fun e w'' => e = .returned (.tuple #[.agg #[.int .i64 (homeC ps y 0), .int .i64 (homeC ps y 1), .int .i64 (homeC ps y 2), .int .i64 (homeC ps y 3), .int .i64 (homeC ps y 4)], .int .i64 (homeE ps y)]) ∧ Below w'.heap.size w' w'') := fun y w' h => homeD_any B lv ps y w' (hl.later h hB) (Nat.le_trans hB h.size) hn
  have HCt : Hid (∀ w', Below w.heap.size w w' → Calls Tryz.prog 10 #[] w' fun e w'' => e = .returned (.bool true) ∧ Below w'.heap.size w' w'') := fun w' h => cut_true w' (he.later h)
  have HR : Hid (∀ w', Calls Tryz.prog 16 #[callV x] w' fun e w'' => e = .returned (callV (rx x)) ∧ Below w'.heap.size w' w'') := fun w' => right_any x w'
  have HJ : Hid (∀ (y : Nat → Int) pv (p : PolT) w', PolAt B w' pv p → B ≤ w'.heap.size → Calls Tryz.prog 17 #[pv, .agg #[.int .i64 (y 0), .int .i64 (y 1), .int .i64 (y 2), .int .i64 (y 3), .int .i64 (y 4)]] w' fun e w'' => e = .returned (.tuple #[.int .i64 (judgeP p y).1, .int .i64 (judgeP p y).2.1, .int .i64 (judgeP p y).2.2]) ∧ Below w'.heap.size w' w'') := fun y pv p w' h hB' => judge_any B pv p y w' h hB'
  obtain ⟨a, cap, rfl, hlc, hcm, -⟩ := hl
  have hml := maxLen_eq
  generalize hlen : ps.length = len at *
  have hlenH : Hid (ps.length = len) := hlen
  clear he hlen
  have hx : Hid (chkx (rx x) = 0) := right_ok x
  have hA : Hid (∀ (W : World) X, Below W.heap.size W (W.alloc X)) := fun W X => (Below.refl _ _).alloc (Nat.le_refl _) _
  unfold callV at HR ⊢
  generalize rx x = y at *
  go_enter Tryz.func4, Tryz.ntmps4
  go_wp2_with fail
  go_at_call 16
  refine Calls.mono (HR.out _) ?_
  rintro e w1 ⟨rfl, hb1⟩
  have X1 : w1.heap[w.heap.size]? = some (.cells (cellsX x) 24 (0, 0)) := (hb1.block w.heap.size (by simp)).trans (heap_made w _)
  have bw1 : Below w.heap.size w w1 := Below.thenOf (hA.out _ _) hb1 (by simp)
  have Z := (cellsX_at X1).1
  have Zf := (cellsX_at X1).2
  have z0 := Z 0 (by omega)
  have z1 := Z 1 (by omega)
  have z2 := Z 2 (by omega)
  have z3 := Z 3 (by omega)
  have z4 := Z 4 (by omega)
  have f0 := Zf 0
  have f1 := Zf 1
  have f2 := Zf 2
  have f3 := Zf 3
  have f4 := Zf 4
  have X1' : Hid _ := X1
  have s1 := lt_of_block X1
  clear Z Zf X1 hb1
  go_wp2_with fail
  obtain ⟨W, hW⟩ : ∃ W, W = ((((w1.setCell ⟨w.heap.size, 0, none⟩ (.int .i64 (y 0))).setCell ⟨w.heap.size, 1, none⟩ (.int .i64 (y 1))).setCell ⟨w.heap.size, 2, none⟩ (.int .i64 (y 2))).setCell ⟨w.heap.size, 3, none⟩ (.int .i64 (y 3))).setCell ⟨w.heap.size, 4, none⟩ (.int .i64 (y 4)) := ⟨_, rfl⟩
  have HXW : Hid (W.heap[w.heap.size]? = some (.cells (cellsX y) 24 (0, 0))) := by rw [hW]; exact callBox X1'.out
  have bwW : Below w.heap.size w W := by rw [hW]; exact callBox_below bw1 (Nat.le_refl _)
  have sW := lt_of_block HXW.out
  clear z0 z1 z2 z3 z4 f0 f1 f2 f3 f4 X1' bw1 s1
  rw [← hW]
  clear hW w1
  go_at_call 7
  refine Calls.mono (HHo.out y _ bwW) ?_
  rintro e w3 ⟨rfl, hb3⟩
  have hHE : homeE ps y = polsErr ps := by rw [homeE, if_pos hx.out]
  rw [hHE]
  have bw3 : Below w.heap.size w w3 := Below.thenOf bwW hb3 bwW.size
  have s3 := hb3.size
  obtain ⟨h, hh⟩ : ∃ h, h = homeC ps y := ⟨_, rfl⟩
  rw [← hh]
  have hhH : Hid (h = homeC ps y) := hh
  clear hh
  obtain ⟨W4, hW4⟩ : ∃ W4, W4 = w3.alloc (.cells (cellsX h) 24) := ⟨_, rfl⟩
  have b34 : Below w3.heap.size w3 W4 := by rw [hW4]; exact hA.out _ _
  have hH4 : Hid (W4.heap[w3.heap.size]? = some (.cells (cellsX h) 24 (0, 0))) := by rw [hW4]; exact heap_made _ _
  have s34 : w3.heap.size < W4.heap.size := lt_of_block hH4.out
  have bw4 : Below w.heap.size w W4 := Below.thenOf bw3 b34 bw3.size
  have HX4 : Hid (W4.heap[w.heap.size]? = some (.cells (cellsX y) 24 (0, 0))) := (b34.block _ (by omega)).trans ((hb3.block _ sW).trans HXW.out)
  -- the two boxes, in whatever later world
  have HBx : Hid (∀ w', Below W4.heap.size W4 w' → XAt w' w.heap.size y ∧ XAt w' w3.heap.size h ∧ Below w.heap.size w w') := fun w' hb => ⟨(cellsX_at ((hb.block _ (by omega)).trans HX4.out)).1, (cellsX_at ((hb.block _ s34).trans hH4.out)).1, Below.thenOf bw4 hb bw4.size⟩
  unfold cellsX at hW4
  clear hb3 HXW
  go_wp2_with fail
  rw [← hW4]
  clear hW4
  go_at_call 10
  refine Calls.mono (HCt.out _ bw4) ?_
  rintro e w5 ⟨rfl, hb5⟩
  have bw5 : Below w.heap.size w w5 := Below.thenOf bw4 hb5 bw4.size
  by_cases hpe : polsErr ps = 0
  case neg =>
    have hq : (polsErr ps != 0) = true := by simpa using hpe
    clear hpe hHE
    generalize polsErr ps = pe at *
    go_wp2_with fail
    go_at_call 10
    refine Calls.mono (HCt.out _ bw5) ?_
    rintro e w6 ⟨rfl, hb6⟩
    have bw6 : Below w.heap.size w w6 := Below.thenOf bw5 hb6 bw5.size
    go_wp2_with fail
    go_ret
    exact ⟨rfl, bw6⟩
  case pos =>
    have hok : AllOk ps := polsErr_ok.1 hpe
    have hhP : h = homeP ps y := by rw [hhH.out, homeC, if_pos (by rw [hHE, hpe])]
    have HJe : Hid (∀ p ∈ ps, judgeP p h = judgeP p y ∧ (judgeP p y).2.2 = 0) := fun p hp => by
      refine ⟨by rw [hhP]; exact judge_home hok hx.out hp, ?_⟩
      rw [judgeP_ok (hok p hp) hx.out]
    have hch : chkx h = 0 := by rw [hhP]; exact home_right hok hx.out
    have HE2 : Hid (homeE ps h = 0) := by unfold Hid; rw [homeE, if_pos hch, hpe]
    have HC2 : Hid (∀ j, j < 5 → homeC ps h j = h j) := by
      intro j hj
      rw [homeC, if_pos HE2.out, hhP]
      exact home_home hok hx.out j hj
    have HPn : Hid (pointsE ps = 0 → ((h 0, h 1, h 2, h 3, h 4) : CallT) ∈ (pointsL ps).map asC) := fun h0 => by
      refine List.mem_map.2 ⟨fieldsOf h, ?_, asC_fields h⟩
      rw [pointsL, if_pos h0, hhP]
      exact home_point hok hx.out
    rw [hpe]
    clear hhP hch hpe hHE hhH
    go_wp2_with fail
    go_loopw [34] (fun iv wr => ∃ i : Nat, i ≤ len ∧ iv = .int .i64 i ∧ Below W4.heap.size W4 wr) (fun iv _ => len - (intOf iv).toNat)
    case atStart => exact ⟨0, by omega, rfl, hb5⟩
    case round =>
      obtain ⟨i, hi, rfl, hbr⟩ := hrel
      obtain ⟨wo, hwo⟩ : ∃ x, x = wr := ⟨_, rfl⟩
      subst hwo
      have i0 : (0 : Int) ≤ (i : Int) := by omega
      have hos := hbr.size
      obtain ⟨hXo, hHo, bwo⟩ := HBx.out _ hbr
      by_cases hlt : i < len
      · have i1 : (i : Int) < (len : Int) := by omega
        obtain ⟨p, hpk⟩ : ∃ p, ps[i]? = some p := ⟨ps[i]'(by rw [hlenH.out]; omega), by simp⟩
        obtain ⟨hj1, hj2⟩ := HJe.out p (List.mem_of_getElem? hpk)
        obtain ⟨_, _, e1, -, -, hat⟩ := HL.out _ bwo
        obtain ⟨b, o, e, hbB, hpc⟩ := hat i p hpk
        simp at e1
        obtain ⟨rfl, -, -⟩ := e1
        subst e
        clear hat hpk
        obtain ⟨a2, n2, c2, k0, k1, hpa⟩ := hpc.pol
        have HPA : Hid (∀ w', Below wo.heap.size wo w' → PolAt B w' (.agg #[.slice a2 n2 c2, .int .i64 p.2]) p) := fun w' h => hpa.later h (Nat.le_trans hB bwo.size)
        obtain ⟨jv, jk, je⟩ : ∃ jv jk, judgeP p y = (jv, jk, 0) := ⟨(judgeP p y).1, (judgeP p y).2.1, by rw [← hj2]⟩
        have HJy : Hid (∀ w', Below wo.heap.size wo w' → Calls Tryz.prog 17 #[.agg #[.slice a2 n2 c2, .int .i64 p.2], .agg #[.int .i64 (y 0), .int .i64 (y 1), .int .i64 (y 2), .int .i64 (y 3), .int .i64 (y 4)]] w' fun e w'' => e = .returned (.tuple #[.int .i64 jv, .int .i64 jk, .int .i64 0]) ∧ Below w'.heap.size w' w'') := fun w' hb => by
          have := HJ.out y _ p w' (HPA.out w' hb) (Nat.le_trans hB (Nat.le_trans bwo.size hb.size))
          rw [je] at this
          exact this
        have HJh : Hid (∀ w', Below wo.heap.size wo w' → Calls Tryz.prog 17 #[.agg #[.slice a2 n2 c2, .int .i64 p.2], .agg #[.int .i64 (h 0), .int .i64 (h 1), .int .i64 (h 2), .int .i64 (h 3), .int .i64 (h 4)]] w' fun e w'' => e = .returned (.tuple #[.int .i64 jv, .int .i64 jk, .int .i64 0]) ∧ Below w'.heap.size w' w'') := fun w' hb => by
          have := HJ.out h _ p w' (HPA.out w' hb) (Nat.le_trans hB (Nat.le_trans bwo.size hb.size))
          rw [hj1, je] at this
          exact this
        have x0 := hXo 0 (by omega)
        have x1 := hXo 1 (by omega)
        have x2 := hXo 2 (by omega)
        have x3 := hXo 3 (by omega)
        have x4 := hXo 4 (by omega)
        have l0 : w.heap.size < wo.heap.size := by omega
        clear hXo hHo hpc hpa hj1 hj2 je
        go_wp2_with fail
        go_at_call 17
        refine Calls.mono (HJy.out _ (hA.out _ _)) ?_
        rintro e w6 ⟨rfl, hb6⟩
        have hP6 := (hb6.block wo.heap.size (by simp)).trans (heap_made wo _)
        have b6 : Below wo.heap.size wo w6 := Below.thenOf (hA.out _ _) hb6 (by simp)
        have c0 := heap_cell hP6 0 rfl
        have c1 := heap_cell hP6 1 rfl
        obtain ⟨_, hH6, _⟩ := HBx.out _ (Below.thenOf hbr b6 hos)
        have g0 := hH6 0 (by omega)
        have g1 := hH6 1 (by omega)
        have g2 := hH6 2 (by omega)
        have g3 := hH6 3 (by omega)
        have g4 := hH6 4 (by omega)
        clear x0 x1 x2 x3 x4 hH6 hP6 hb6
        go_wp2_with fail
        go_at_call 17
        refine Calls.mono (HJh.out _ b6) ?_
        rintro e w7 ⟨rfl, hb7⟩
        have b7 : Below wo.heap.size wo w7 := Below.thenOf b6 hb7 b6.size
        clear c0 c1 g0 g1 g2 g3 g4 hb7 b6
        go_wp2_with fail
        exact ⟨⟨i + 1, by omega, by go_num, Below.thenOf hbr b7 hos⟩, by simp [intOf]; omega⟩
      · obtain rfl : i = len := by omega
        have g0 := hHo 0 (by omega)
        have g1 := hHo 1 (by omega)
        have g2 := hHo 2 (by omega)
        have g3 := hHo 3 (by omega)
        have g4 := hHo 4 (by omega)
        clear hXo hHo
        go_wp2_with fail
        go_at_call 7
        have HHh := HHo.out h wo bwo
        rw [HE2.out, HC2.out 0 (by omega), HC2.out 1 (by omega), HC2.out 2 (by omega), HC2.out 3 (by omega), HC2.out 4 (by omega)] at HHh
        refine Calls.mono HHh ?_
        rintro e w6 ⟨rfl, hb6⟩
        have b46 : Below W4.heap.size W4 w6 := Below.thenOf hbr hb6 hos
        obtain ⟨_, hH6, bw6⟩ := HBx.out _ b46
        have s6 := b46.size
        obtain ⟨W7, hW7⟩ : ∃ W7, W7 = w6.alloc (.cells (cellsX h) 24) := ⟨_, rfl⟩
        have b67 : Below w6.heap.size w6 W7 := by rw [hW7]; exact hA.out _ _
        have b47 : Below W4.heap.size W4 W7 := Below.thenOf b46 b67 s6
        obtain ⟨_, hH7, bw7⟩ := HBx.out _ b47
        have G := guardCall
        have EN : ∀ w, (Op.equalIn 10000 24 (.agg #[.int .i64 (h 0), .int .i64 (h 1), .int .i64 (h 2), .int .i64 (h 3), .int .i64 (h 4)]) (.agg #[.int .i64 (h 0), .int .i64 (h 1), .int .i64 (h 2), .int .i64 (h 3), .int .i64 (h 4)])).run Tryz.prog w = .ok true w := fun w => by
          have := eqCall 9998 (h 0) (h 1) (h 2) (h 3) (h 4) (h 0) (h 1) (h 2) (h 3) (h 4) w
          rw [decide_eq_true rfl] at this
          exact this
        have k0 := hH6 0 (by omega)
        have k1 := hH6 1 (by omega)
        have k2 := hH6 2 (by omega)
        have k3 := hH6 3 (by omega)
        have k4 := hH6 4 (by omega)
        have l3 : w3.heap.size < w6.heap.size := by omega
        have hH7H : Hid (XAt W7 w3.heap.size h) := hH7
        unfold cellsX at hW7
        clear g0 g1 g2 g3 g4 HHh hb6 hH6 hH7
        go_wp2_with fail
        rw [← hW7]
        clear hW7 k0 k1 k2 k3 k4
        go_at_call 6
        refine Calls.mono (HPt.out _ bw7) ?_
        rintro e w8 ⟨pv, rfl, hI8, hb8⟩
        have b48 : Below W4.heap.size W4 w8 := Below.thenOf b47 hb8 b47.size
        obtain ⟨_, hH8, bw8⟩ := HBx.out _ b48
        by_cases hpe : pointsE ps = 0
        · have HCn := containsCalls_any w8.heap.size pv _ (h 0, h 1, h 2, h 3, h 4) w8 hI8 (Nat.le_refl _)
          rw [decide_eq_true (HPn.out hpe)] at HCn
          have HCn' : Hid _ := HCn
          rw [hpe]
          have k0 := hH8 0 (by omega)
          have k1 := hH8 1 (by omega)
          have k2 := hH8 2 (by omega)
          have k3 := hH8 3 (by omega)
          have k4 := hH8 4 (by omega)
          clear HCn hH8 hI8 hpe
          go_wp2_with fail
          go_at_call 18
          refine Calls.mono HCn'.out ?_
          rintro e w9 ⟨rfl, hb9⟩
          have bw9 := Below.thenOf bw8 hb9 bw8.size
          go_wp2_with fail
          go_ret
          exact ⟨rfl, bw9⟩
        · have hq : (pointsE ps != 0) = true := by simpa using hpe
          clear hpe hH8 hI8
          generalize pointsE ps = pe at *
          go_wp2_with fail
          go_ret
          exact ⟨rfl, bw8⟩
end Go.Proofs.YtffhpcfphodamaaGreatDoor
