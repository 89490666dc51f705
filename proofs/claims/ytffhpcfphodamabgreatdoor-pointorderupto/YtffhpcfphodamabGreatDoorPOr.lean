/- PointOrder returns true, whatever the policies and the number, in whatever memory. -/
import Derived.Test.YtffhpcfphodamabGreatDoorCutt
import Derived.Test.YtffhpcfphodamabGreatDoorIdx
import Derived.Test.YtffhpcfphodamabGreatDoorRight
import Derived.Test.YtffhpcfphodamabGreatDoorLexi
set_option linter.all false
set_option maxRecDepth 100000
namespace Go.Proofs.YtffhpcfphodamabGreatDoor
open Go.RowKit Go.Maps

set_option maxHeartbeats 1000000 in
theorem at_big (k n : Int) (hn : 0 < n ∧ n ≤ 5000000000001) (w : World) :
    Calls Tryz.prog 8 #[.int .i64 k, .int .i64 n] w fun e w' => e = .returned (.int .i64 (k % n)) ∧ w' = w := by
  have hn0 : (n == 0) = false := by simp; omega
  have hn1 : n ≠ -1 := by omega
  have h1 := Int.emod_nonneg k (by omega : n ≠ 0)
  have h2 := Int.emod_lt_of_pos k hn.1
  have H1 : Hid (0 ≤ k % n) := h1
  have H2 : Hid (k % n < n) := h2
  clear h1 h2
  go_enter Tryz.func8, Tryz.ntmps8
  go_wp2
  · have h : k.tmod n < 0 := by assumption
    go_ret
    refine ⟨?_, rfl⟩
    have e := tmod_neg hn.1 h
    have a1 := H1.out
    have a2 := H2.out
    rw [e]
    rw [IntWalk.wrap64_in _ (by omega)]
    rfl
  · have h : 0 ≤ k.tmod n := by assumption
    go_ret
    refine ⟨?_, rfl⟩
    rw [tmod_pos hn.1 h]
    rfl

def lC (c : CallT) : List Int := [c.1, c.2.1, c.2.2.1, c.2.2.2.1, c.2.2.2.2]
theorem lC_asC {x : List Int} (h : ∃ a b c d e, x = [a, b, c, d, e]) : lC (asC x) = x := by
  obtain ⟨a, b, c, d, e, rfl⟩ := h
  rfl
theorem callC_right {ps : List PolT} {i : Nat} {c : CallT} (h : ((pointsL ps).map asC)[i]? = some c) : chk c.1 c.2.1 c.2.2.1 c.2.2.2.1 c.2.2.2.2 = 0 := by
  rw [List.getElem?_map] at h
  obtain ⟨x, hx, rfl⟩ := Option.map_eq_some_iff.1 h
  have hm := List.mem_of_getElem? hx
  unfold pointsL at hm
  split at hm
  · rename_i h0
    obtain ⟨y, rfl, hy, _⟩ := point_right (pointsE_ok.1 h0).1 hm
    exact hy
  · cases hm
theorem callC_less {ps : List PolT} {i : Nat} {c d : CallT} (h : ((pointsL ps).map asC)[i]? = some c) (h' : ((pointsL ps).map asC)[i + 1]? = some d) : lexLt (lC c) (lC d) := by
  rw [List.getElem?_map] at h h'
  obtain ⟨x, hx, rfl⟩ := Option.map_eq_some_iff.1 h
  obtain ⟨y, hy, rfl⟩ := Option.map_eq_some_iff.1 h'
  rw [lC_asC (pointsL_five ps x (List.mem_of_getElem? hx)), lC_asC (pointsL_five ps y (List.mem_of_getElem? hy))]
  have hr : (pointsL ps).Pairwise lexLt := by
    unfold pointsL
    split
    · exact pointsP_rising ps
    · exact List.Pairwise.nil
  obtain ⟨h1, e1⟩ := List.getElem?_eq_some_iff.1 hx
  obtain ⟨h2, e2⟩ := List.getElem?_eq_some_iff.1 hy
  rw [← e1, ← e2]
  exact List.pairwise_iff_getElem.1 hr i (i + 1) h1 h2 (by omega)
theorem take_sub {ps : List PolT} {m : Nat} : ∀ p ∈ ps.take m, p ∈ ps := fun p hp => List.mem_of_mem_take hp
theorem take_points {ps : List PolT} {m : Nat} (h : pointsE ps = 0) : pointsE (ps.take m) = 0 ∧ ((pointsL (ps.take m)).map asC).length ≤ ((pointsL ps).map asC).length ∧ ∀ c ∈ (pointsL (ps.take m)).map asC, c ∈ (pointsL ps).map asC := by
  obtain ⟨h1, h2⟩ := pointsE_ok.1 h
  have hc := points_count (l := ps.take m) (m := ps) take_sub
  have h0 : pointsE (ps.take m) = 0 := pointsE_ok.2 ⟨fun p hp => h1 p (take_sub p hp), by omega⟩
  refine ⟨h0, ?_, ?_⟩
  · simp only [List.length_map]
    unfold pointsL
    rw [if_pos h0, if_pos h]
    exact hc
  · intro c hc
    obtain ⟨x, hx, rfl⟩ := List.mem_map.1 hc
    refine List.mem_map.2 ⟨x, ?_, rfl⟩
    unfold pointsL at hx ⊢
    rw [if_pos h0] at hx
    rw [if_pos h]
    exact points_more take_sub x hx
theorem PolsAt.take {B : Nat} {w : World} {a : Option Addr} {n cap : Nat} {ps : List PolT} (h : PolsAt B w (.slice a n cap) ps) (m : Nat) (hm : m ≤ n) : PolsAt B w (.slice a m cap) (ps.take m) := by
  obtain ⟨a', cap', e, h1, h2, h3⟩ := h
  simp at e
  obtain ⟨rfl, rfl, rfl⟩ := e
  have hl : (ps.take m).length = m := by simp; omega
  refine ⟨a, cap, by rw [hl], by rw [hl]; omega, h2, fun i p hp => ?_⟩
  rw [List.getElem?_take] at hp
  split at hp
  · exact h3 i p hp
  · cases hp
/-- A call's five cells, as a row of numbers. -/
theorem ints_call {B : Nat} {w : World} {b o : Nat} {c : CallT} (h : CallAt w b o c) (hb : b < B) : IntsAt B w (.slice (some ⟨b, o, none⟩) 5 5) (lC c) := by
  obtain ⟨h0, h1, h2, h3, h4⟩ := h
  refine ⟨some ⟨b, o, none⟩, 5, rfl, by simp [lC], by rw [maxLen_eq]; omega, fun i n hn => ?_⟩
  refine ⟨b, o, rfl, hb, ?_⟩
  match i, hn with
  | 0, hn => simp [lC] at hn; subst hn; exact h0
  | 1, hn => simp [lC] at hn; subst hn; exact h1
  | 2, hn => simp [lC] at hn; subst hn; exact h2
  | 3, hn => simp [lC] at hn; subst hn; exact h3
  | 4, hn => simp [lC] at hn; subst hn; exact h4
  | i + 5, hn => simp [lC] at hn

set_option maxHeartbeats 16000000 in
theorem pointOrder_any (B : Nat) (lv : Value) (ps : List PolT) (k : Int) (w : World) (he : EnvAt w) (hl : PolsAt B w lv ps) (hk : wf k) (hB : B ≤ w.heap.size) (hn : ps.length ≤ 5000000000) :
    Calls Tryz.prog 3 #[lv, .int .i64 k] w fun e w' => e = .returned (.bool true) ∧ Below w.heap.size w w' := by
  have HPt : Hid (∀ w', Below w.heap.size w w' → Calls Tryz.prog 4 #[lv] w' fun e w'' => ∃ v, e = .returned (.tuple #[v, .int .i64 (pointsE ps)]) ∧ CallsAt w''.heap.size w'' v ((pointsL ps).map asC) ∧ Below w'.heap.size w' w'') := fun w' h => pointsD_any B lv ps w' (hl.later h hB) (Nat.le_trans hB h.size) hn
  have HL : Hid (∀ w', Below w.heap.size w w' → PolsAt B w' lv ps) := fun w' h => hl.later h hB
  have HCt : Hid (∀ w', Below w.heap.size w w' → Calls Tryz.prog 5 #[] w' fun e w'' => e = .returned (.bool true) ∧ Below w'.heap.size w' w'') := fun w' h => cut_true w' (he.later h)
  obtain ⟨a, cap, rfl, hlc, hcm, -⟩ := hl
  have hml := maxLen_eq
  have HT : Hid (∀ (m : Nat) w', m ≤ ps.length → Below w.heap.size w w' → Calls Tryz.prog 4 #[.slice a m cap] w' fun e w'' => ∃ v, e = .returned (.tuple #[v, .int .i64 (pointsE (ps.take m))]) ∧ CallsAt w''.heap.size w'' v ((pointsL (ps.take m)).map asC) ∧ Below w'.heap.size w' w'') := fun m w' hm h => pointsD_any B _ (ps.take m) w' ((HL.out w' h).take m hm) (Nat.le_trans hB h.size) (by simp; omega)
  generalize hlen : ps.length = len at *
  clear he hlen HL
  have hA : Hid (∀ (W : World) X, Below W.heap.size W (W.alloc X)) := fun W X => (Below.refl _ _).alloc (Nat.le_refl _) _
  go_enter Tryz.func3, Tryz.ntmps3
  go_wp2_with fail
  go_at_call 4
  refine Calls.mono (HPt.out _ (Below.refl _ _)) ?_
  rintro e w1 ⟨pv, rfl, hI1, hb1⟩
  go_wp2_with fail
  go_at_call 5
  refine Calls.mono (HCt.out _ hb1) ?_
  rintro e w2 ⟨rfl, hb2⟩
  have bw2 : Below w.heap.size w w2 := Below.thenOf hb1 hb2 hb1.size
  by_cases hpe : pointsE ps = 0
  case neg =>
    have hq : (pointsE ps != 0) = true := by simpa using hpe
    clear hpe hI1
    generalize pointsE ps = pe at *
    go_wp2_with fail
    go_at_call 5
    refine Calls.mono (HCt.out _ bw2) ?_
    rintro e w6 ⟨rfl, hb6⟩
    have bw6 : Below w.heap.size w w6 := Below.thenOf bw2 hb6 bw2.size
    go_wp2_with fail
    go_ret
    exact ⟨rfl, bw6⟩
  case pos =>
    have HTk : Hid (∀ m, pointsE (ps.take m) = 0 ∧ ((pointsL (ps.take m)).map asC).length ≤ ((pointsL ps).map asC).length ∧ ∀ c ∈ (pointsL (ps.take m)).map asC, c ∈ (pointsL ps).map asC) := fun m => take_points hpe
    rw [hpe]
    clear hpe
    have HR : Hid (∀ (i : Nat) (c : CallT), ((pointsL ps).map asC)[i]? = some c → chk c.1 c.2.1 c.2.2.1 c.2.2.2.1 c.2.2.2.2 = 0) := fun i c h => callC_right h
    have HX : Hid (∀ (i : Nat) (c d : CallT), ((pointsL ps).map asC)[i]? = some c → ((pointsL ps).map asC)[i + 1]? = some d → lexLt (lC c) (lC d)) := fun i c d h h' => callC_less h h'
    have HI2 : Hid (∀ w', Below w1.heap.size w1 w' → CallsAt w1.heap.size w' pv ((pointsL ps).map asC)) := fun w' h => hI1.later h (Nat.le_refl _)
    generalize hC : (pointsL ps).map asC = C at *
    clear hC
    obtain ⟨pa, pcap, rfl, hplc, hpcm, -⟩ := hI1
    generalize hpn : C.length = pn at *
    have hpnH : Hid (C.length = pn) := hpn
    clear hpn
    go_wp2_with fail
    go_loopw [26] (fun iv wr => ∃ i : Nat, i ≤ pn ∧ iv = .int .i64 i ∧ Below w1.heap.size w1 wr) (fun iv _ => pn - (intOf iv).toNat)
    case atStart => exact ⟨0, by omega, rfl, hb2⟩
    case round =>
      obtain ⟨i, hi, rfl, hbr⟩ := hrel
      obtain ⟨wo, hwo⟩ : ∃ x, x = wr := ⟨_, rfl⟩
      subst hwo
      have i0 : (0 : Int) ≤ (i : Int) := by omega
      have hos := hbr.size
      by_cases hlt : i < pn
      · have i1 : (i : Int) < (pn : Int) := by omega
        obtain ⟨c, hc⟩ : ∃ c, C[i]? = some c := ⟨C[i]'(by rw [hpnH.out]; omega), by simp⟩
        have HC0 : Hid (∀ w', Calls Tryz.prog 6 #[.agg #[.int .i64 c.1, .int .i64 c.2.1, .int .i64 c.2.2.1, .int .i64 c.2.2.2.1, .int .i64 c.2.2.2.2]] w' fun e w'' => e = .returned (.int .i64 0) ∧ Below w'.heap.size w' w'') := fun w' => by
          have := check_any c.1 c.2.1 c.2.2.1 c.2.2.2.1 c.2.2.2.2 w'
          rw [HR.out i c hc] at this
          exact this
        obtain ⟨_, _, e1, -, -, hat⟩ := HI2.out _ hbr
        obtain ⟨b, o, e, hbB, hpc⟩ := hat i c hc
        have hatH : Hid (∀ j d, C[j]? = some d → CallAt wo b (o + j * 5) d) := fun j d hd => by
          obtain ⟨b', o', e', _, h⟩ := hat j d hd
          rw [e] at e'
          simp at e'
          obtain ⟨rfl, rfl⟩ := e'
          exact h
        simp at e1
        obtain ⟨rfl, -, -⟩ := e1
        subst e
        clear hat
        obtain ⟨c0, c1, c2, c3, c4⟩ := hpc
        have hcH : Hid (C[i]? = some c) := hc
        clear hc
        go_wp2_with fail
        obtain ⟨W6, hW6⟩ : ∃ W6, W6 = wo.alloc (.cells #[.int .i64 c.1, .int .i64 c.2.1, .int .i64 c.2.2.1, .int .i64 c.2.2.2.1, .int .i64 c.2.2.2.2] 29) := ⟨_, rfl⟩
        have b6 : Below wo.heap.size wo W6 := by rw [hW6]; exact hA.out _ _
        have h6 : W6.heap[wo.heap.size]? = some (.cells #[.int .i64 c.1, .int .i64 c.2.1, .int .i64 c.2.2.1, .int .i64 c.2.2.2.1, .int .i64 c.2.2.2.2] 29 (0, 0)) := by rw [hW6]; exact heap_made _ _
        rw [← hW6]
        clear hW6 c0 c1 c2 c3 c4
        have s6 : wo.heap.size < W6.heap.size := lt_of_block h6
        have z0 := heap_cell h6 0 rfl
        have z1 := heap_cell h6 1 rfl
        have z2 := heap_cell h6 2 rfl
        have z3 := heap_cell h6 3 rfl
        have z4 := heap_cell h6 4 rfl
        have HCA : Hid (CallAt W6 wo.heap.size 0 c) := ⟨z0, z1, z2, z3, z4⟩
        have y0 : ∀ x : Later W6, x.1.cell? ⟨wo.heap.size, 0, none⟩ = some (.int .i64 c.1) := fun x => x.cell z0 s6
        have y1 : ∀ x : Later W6, x.1.cell? ⟨wo.heap.size, 1, none⟩ = some (.int .i64 c.2.1) := fun x => x.cell z1 s6
        have y2 : ∀ x : Later W6, x.1.cell? ⟨wo.heap.size, 2, none⟩ = some (.int .i64 c.2.2.1) := fun x => x.cell z2 s6
        have y3 : ∀ x : Later W6, x.1.cell? ⟨wo.heap.size, 3, none⟩ = some (.int .i64 c.2.2.2.1) := fun x => x.cell z3 s6
        have y4 : ∀ x : Later W6, x.1.cell? ⟨wo.heap.size, 4, none⟩ = some (.int .i64 c.2.2.2.2) := fun x => x.cell z4 s6
        have hne := Later.ne W6
        clear z0 z1 z2 z3 z4 h6
        by_cases hz : i = 0
        · subst hz
          refine wp_region_later (by kernel_rfl) (by kernel_rfl) ?_
          repeat (go_big_quiet_step (first | (go_at_call 6; exact Calls.later (HC0.out _))))
          refine wpQuiet_nil ?_
          rintro wx ⟨⟨_, hx⟩, rfl⟩
          have hb7 := Below.thenOf (Below.thenOf hbr b6 hos) hx (Below.thenOf hbr b6 hos).size
          clear y0 y1 y2 y3 y4
          go_wp2_with fail
          exact ⟨⟨1, by omega, by go_num, hb7⟩, by simp [intOf]; omega⟩
        · obtain ⟨j, rfl⟩ : ∃ j, i = j + 1 := ⟨i - 1, by omega⟩
          obtain ⟨d, hd⟩ : ∃ d, C[j]? = some d := ⟨C[j]'(by rw [hpnH.out]; omega), by simp⟩
          have hlex := HX.out j d c hd hcH.out
          have HCd := hatH.out j d hd
          have HCm : Hid (∀ x : Later W6, Calls Tryz.prog 7 #[.slice (some ⟨b, o + j * 5, none⟩) 5 5, .slice (some ⟨wo.heap.size, 0, none⟩) 5 5] x.1 fun e w'' => e = .returned (.int .i64 (-1)) ∧ Below x.1.heap.size x.1 w'') := fun x =>
            compareInts_less W6.heap.size _ _ (lC d) (lC c) x.1 (ints_call ((HCd.later b6 (by omega)).later x.2 (by omega)) (by omega)) (ints_call (HCA.out.later x.2 s6) s6) x.2.size hlex
          clear hd hlex HCd
          have g0 : (0 : Int) < ((j + 1 : Nat) : Int) := by omega
          have g1 : IntKind.i64.wrap (((j + 1 : Nat) : Int) - 1) = (j : Int) := (IntWalk.i64_in _ (by omega)).trans (by omega)
          have g2 : (j : Int) < (pn : Int) := by omega
          have g3 : (0 : Int) ≤ (j : Int) := by omega
          refine wp_region_later (by kernel_rfl) (by kernel_rfl) ?_
          repeat (go_big_quiet_step (first | (go_at_call 6; exact Calls.later (HC0.out _)) | (go_at_call 7; exact Calls.later (HCm.out _))))
          refine wpQuiet_nil ?_
          rintro wx ⟨⟨_, hx⟩, rfl⟩
          have hb7 := Below.thenOf (Below.thenOf hbr b6 hos) hx (Below.thenOf hbr b6 hos).size
          clear y0 y1 y2 y3 y4 g1
          go_wp2_with fail
          exact ⟨⟨j + 2, by omega, by go_num, hb7⟩, by simp [intOf]; omega⟩
      · obtain rfl : i = pn := by omega
        have g4 : (0 : Int) < (len : Int) + 1 ∧ (len : Int) + 1 ≤ 5000000000001 := ⟨by omega, by omega⟩
        have HAt : Hid (∀ w', Calls Tryz.prog 8 #[.int .i64 k, .int .i64 ((len : Int) + 1)] w' fun e w'' => e = .returned (.int .i64 (k % ((len : Int) + 1))) ∧ w'' = w') := fun w' => at_big k _ g4 w'
        have e1 := Int.emod_nonneg k (by omega : (len : Int) + 1 ≠ 0)
        have e2 := Int.emod_lt_of_pos k g4.1
        obtain ⟨m, hm⟩ : ∃ m : Nat, k % ((len : Int) + 1) = m := ⟨(k % ((len : Int) + 1)).toNat, by omega⟩
        rw [hm] at HAt e1 e2
        have hmn : m ≤ len := by omega
        clear hm e1 e2
        obtain ⟨hE, hLe, hSub⟩ := HTk.out m
        have hSubH : Hid (∀ c ∈ (pointsL (ps.take m)).map asC, c ∈ C) := hSub
        have bwo : Below w.heap.size w wo := Below.thenOf hb1 hbr hb1.size
        have HTm := HT.out m wo hmn bwo
        rw [hE] at HTm
        have HTm' : Hid _ := HTm
        clear hE hSub HTm
        have g5 : IntKind.i64.wrap ((len : Int) + 1) = (len : Int) + 1 := IntWalk.i64_in _ (by omega)
        go_wp2_with fail
        go_at_call 8
        refine Calls.mono (HAt.out _) ?_
        rintro e w3 ⟨rfl, hw3⟩
        rw [hw3]
        clear hw3
        have m0 : (0 : Int) ≤ (m : Int) := by omega
        have m1 : (m : Int) ≤ (len : Int) := by omega
        have m2 : (m : Int) ≤ (cap : Int) := by omega
        go_wp2_with fail
        go_at_call 4
        refine Calls.mono HTm'.out ?_
        rintro e w4 ⟨qv, rfl, hI4, hb4⟩
        have bw4 : Below w.heap.size w w4 := Below.thenOf bwo hb4 bwo.size
        have b14 : Below w1.heap.size w1 w4 := Below.thenOf hbr hb4 hos
        generalize (pointsL (ps.take m)).map asC = D at *
        have HI5 : Hid (∀ w', Below w4.heap.size w4 w' → CallsAt w4.heap.size w' qv D) := fun w' h => hI4.later h (Nat.le_refl _)
        obtain ⟨qa, qcap, rfl, hqlc, hqcm, -⟩ := hI4
        generalize hqn : D.length = qn at *
        have hqnH : Hid (D.length = qn) := hqn
        clear hqn HTm' HAt g5 g4 HTk
        have q0 : decide (i < qn) = false := decide_eq_false (by omega)
        go_wp2_with fail
        clear q0
        go_loopw [11, 71] (fun _ iv wr => ∃ j : Nat, j ≤ qn ∧ iv = .int .i64 j ∧ Below w4.heap.size w4 wr) (fun _ iv _ => qn - (intOf iv).toNat)
        case atStart => exact ⟨0, by omega, rfl, Below.refl _ _⟩
        case round =>
          obtain ⟨j, hj, rfl, hbr2⟩ := hrel
          obtain ⟨w5, hw5⟩ : ∃ x, x = wr := ⟨_, rfl⟩
          subst hw5
          have j0 : (0 : Int) ≤ (j : Int) := by omega
          have hos2 := hbr2.size
          by_cases hlt2 : j < qn
          · have j1 : (j : Int) < (qn : Int) := by omega
            obtain ⟨c, hc⟩ : ∃ c, D[j]? = some c := ⟨D[j]'(by rw [hqnH.out]; omega), by simp⟩
            have hcC : c ∈ C := hSubH.out c (List.mem_of_getElem? hc)
            obtain ⟨_, _, e1, -, -, hat⟩ := HI5.out _ hbr2
            obtain ⟨b, o, e, hbB, hpc⟩ := hat j c hc
            simp at e1
            obtain ⟨rfl, -, -⟩ := e1
            subst e
            clear hat hc
            obtain ⟨c0, c1, c2, c3, c4⟩ := hpc
            have HCn : Hid (∀ w', Below w4.heap.size w4 w' → Calls Tryz.prog 9 #[.slice pa i pcap, .agg #[.int .i64 c.1, .int .i64 c.2.1, .int .i64 c.2.2.1, .int .i64 c.2.2.2.1, .int .i64 c.2.2.2.2]] w' fun e w'' => e = .returned (.bool true) ∧ Below w'.heap.size w' w'') := fun w' h => by
              have h14 : Below w1.heap.size w1 w' := Below.thenOf b14 h b14.size
              have := containsCalls_any w1.heap.size _ C c w' (HI2.out w' h14) h14.size
              rw [decide_eq_true hcC] at this
              exact this
            clear hcC
            go_wp2_with fail
            go_at_call 9
            have b45 := Below.thenOf hbr2 (hA.out w5 (.cells #[.int .i64 c.1, .int .i64 c.2.1, .int .i64 c.2.2.1, .int .i64 c.2.2.2.1, .int .i64 c.2.2.2.2] 29)) hos2
            refine Calls.mono (HCn.out _ b45) ?_
            rintro e w6 ⟨rfl, hb6⟩
            have b46 := Below.thenOf b45 hb6 b45.size
            clear c0 c1 c2 c3 c4
            go_wp2_with fail
            exact ⟨⟨j + 1, by omega, by go_num, b46⟩, by simp [intOf]; omega⟩
          · obtain rfl : j = qn := by omega
            go_wp2_with fail
            go_ret
            exact ⟨rfl, Below.thenOf bw4 hbr2 bw4.size⟩
end Go.Proofs.YtffhpcfphodamabGreatDoor
