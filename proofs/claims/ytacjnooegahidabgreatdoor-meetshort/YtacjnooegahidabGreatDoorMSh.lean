/- MeetShort returns true, whatever the policy and the call, in whatever memory that lays the variables. -/
import Derived.Test.YtacjnooegahidabGreatDoorMj34
import Derived.Test.YtacjnooegahidabGreatDoorMet1
import Derived.Test.YtacjnooegahidabGreatDoorBox5
import Derived.Test.YtacjnooegahidabGreatDoorSame2
set_option linter.all false
set_option maxRecDepth 100000
namespace Go.Proofs.YtacjnooegahidabGreatDoor
open Go.RowKit Go.Maps

theorem pol_len {B : Nat} {w : World} {v : Value} {p : PolT} (h : PolAt B w v p) : ∃ a c d, v = .agg #[.slice a p.1.length c, .int .i64 d] := by
  obtain ⟨rv, rfl, _, a, c, rfl, _⟩ := h
  exact ⟨a, c, _, rfl⟩

set_option maxHeartbeats 16000000 in
theorem meetShort_any (B : Nat) (pv : Value) (p : PolT) (x : Nat → Int) (w : World) (he : EnvT w) (hsp : Lib.TabIs Tryz.prog w "strings.asciiSpace" .u8 Lib.asciiSpaceTab) (hp : PolAt B w pv p) (hB : B ≤ w.heap.size) :
    Calls Tryz.prog 9 #[pv, callV x] w fun e w' => e = .returned (.bool true) ∧ Below w.heap.size w w' := by
  have HM : Hid (∀ w', Below w.heap.size w w' → Calls Tryz.prog 29 #[] w' fun e w'' => e = .returned (.bool true) ∧ Below w'.heap.size w' w'') := fun w' h => met_true w' (he.later h) (tab_later hsp h)
  have HSo : Hid (∀ (sv : Value) (s : PolT) w', PolAt w'.heap.size w' sv s → Calls Tryz.prog 26 #[sv] w' fun e w'' => ∃ v, e = .returned (.tuple #[v, .int .i64 (pointsE [s])]) ∧ PolAt w''.heap.size w'' v (shortR s) ∧ Below w'.heap.size w' w'') := fun sv s w' hs => shortD_any _ sv s w' hs (Nat.le_refl _)
  have HR : Hid (∀ w', Calls Tryz.prog 22 #[callV x] w' fun e w'' => e = .returned (callV (rx x)) ∧ Below w'.heap.size w' w'') := fun w' => right_any x w'
  have HJ : Hid (∀ (sv : Value) (s : PolT) (y : Nat → Int) w', PolAt w'.heap.size w' sv s → Calls Tryz.prog 23 #[sv, .agg #[.int .i64 (y 0), .int .i64 (y 1), .int .i64 (y 2), .int .i64 (y 3), .int .i64 (y 4)]] w' fun e w'' => e = .returned (.tuple #[.int .i64 (judgeP s y).1, .int .i64 (judgeP s y).2.1, .int .i64 (judgeP s y).2.2]) ∧ Below w'.heap.size w' w'') := fun sv s y w' hs => judge_any _ sv s y w' hs (Nat.le_refl _)
  have HSa : Hid (∀ (sv tv : Value) (s t : PolT) w', PolAt w'.heap.size w' sv s → PolAt w'.heap.size w' tv t → s = t → Calls Tryz.prog 31 #[sv, tv] w' fun e w'' => e = .returned (.bool true) ∧ Below w'.heap.size w' w'') := fun sv tv s t w' hs ht h => by
    have := same_any _ sv tv s t w' hs ht (Nat.le_refl _)
    rw [decide_eq_true h] at this
    exact this
  have HPp : Hid (∀ w', Below w.heap.size w w' → PolAt w'.heap.size w' pv p) := fun w' h => PolAt.wide (hp.later h hB) (Nat.le_trans hB h.size)
  have HS1 : Hid (∀ w', Below w.heap.size w w' → Calls Tryz.prog 26 #[pv] w' fun e w'' => ∃ v, e = .returned (.tuple #[v, .int .i64 (pointsE [p])]) ∧ PolAt w''.heap.size w'' v (shortR p) ∧ Below w'.heap.size w' w'') := fun w' h => HSo.out pv p w' (HPp.out w' h)
  have hA : Hid (∀ (W : World) X, Below W.heap.size W (W.alloc X)) := fun W X => (Below.refl _ _).alloc (Nat.le_refl _) _
  have HT : Hid (pointsE [p] = 0 → ∃ v k l, judgeP p (rx x) = (v, k, 0) ∧ judgeP (shortR p) (rx x) = (v, l, 0) ∧ pointsE [shortR p] = 0 ∧ shortR (shortR p) = shortR p ∧ (shortR p).1.length ≤ p.1.length) := fun h => shorts h (right_ok x)
  obtain ⟨a1, c1, d1, rfl⟩ := pol_len hp
  clear hp he hsp
  unfold callV at HR ⊢
  generalize rx x = y at *
  generalize pointsE [p] = e1 at *
  obtain ⟨np, hnp⟩ : ∃ n, n = p.1.length := ⟨_, rfl⟩
  rw [← hnp] at HPp HT HS1 ⊢
  clear hnp
  go_enter Tryz.func9, Tryz.ntmps9
  go_wp2_with fail
  obtain ⟨W0, hW0⟩ : ∃ W0, W0 = (w.alloc (.cells #[.slice a1 np c1, .int .i64 d1] 38)).alloc (.cells #[.int .i64 (x 0), .int .i64 (x 1), .int .i64 (x 2), .int .i64 (x 3), .int .i64 (x 4)] 29) := ⟨_, rfl⟩
  have s0 : W0.heap.size = w.heap.size + 2 := by rw [hW0]; simp
  have bw0 : Below w.heap.size w W0 := by rw [hW0]; exact ((Below.refl _ _).alloc (Nat.le_refl _) _).alloc (by simp) _
  have hp0 : W0.heap[w.heap.size]? = some (.cells #[.slice a1 np c1, .int .i64 d1] 38 (0, 0)) := by
    rw [hW0]
    exact ((hA.out _ _).block _ (by simp)).trans (heap_made w _)
  have hx0 : W0.heap[w.heap.size + 1]? = some (.cells (cellsX x) 29 (0, 0)) := by
    rw [hW0]
    have := heap_made (w.alloc (.cells #[.slice a1 np c1, .int .i64 d1] 38)) (.cells #[.int .i64 (x 0), .int .i64 (x 1), .int .i64 (x 2), .int .i64 (x 3), .int .i64 (x 4)] 29)
    simpa [cellsX] using this
  rw [← hW0]
  clear hW0
  go_at_call 22
  refine Calls.mono (HR.out _) ?_
  rintro e w1 ⟨rfl, b01⟩
  have X1 := (b01.block _ (by omega)).trans hx0
  have Y1 := (b01.block _ (by omega)).trans hp0
  have P0 := heap_cell Y1 0 rfl
  have P1 := heap_cell Y1 1 rfl
  have Z := (cellsX_at X1).1
  have Zf := (cellsX_at X1).2
  have z0 := Z 0 (by omega)
  have z1 := Z 1 (by omega)
  have z2 := Z 2 (by omega)
  have z3 := Z 3 (by omega)
  have z4 := Z 4 (by omega)
  have f0 := Zf 0
  have f1 := Zf 1
  have f2 := Zf 2
  have f3 := Zf 3
  have f4 := Zf 4
  have s1 := lt_of_block X1
  have HX1 : Hid _ := X1
  have HY1 : Hid _ := Y1
  clear Z Zf X1 Y1 hx0 hp0
  go_wp2_with fail
  obtain ⟨W1, hW1⟩ : ∃ W1, W1 = ((((w1.setCell ⟨w.heap.size + 1, 0, none⟩ (.int .i64 (y 0))).setCell ⟨w.heap.size + 1, 1, none⟩ (.int .i64 (y 1))).setCell ⟨w.heap.size + 1, 2, none⟩ (.int .i64 (y 2))).setCell ⟨w.heap.size + 1, 3, none⟩ (.int .i64 (y 3))).setCell ⟨w.heap.size + 1, 4, none⟩ (.int .i64 (y 4)) := ⟨_, rfl⟩
  have hx1 : W1.heap[w.heap.size + 1]? = some (.cells (cellsX y) 29 (0, 0)) := by rw [hW1]; exact callBox HX1.out
  have b1 : Below (w.heap.size + 1) w1 W1 := by rw [hW1]; exact callBox_below (Below.refl _ _) (Nat.le_refl _)
  have hp1 := (b1.block w.heap.size (by omega)).trans HY1.out
  have bw1 : Below w.heap.size w W1 := bw0.trans ((b01.mono (by omega)).trans (b1.mono (by omega)))
  have HK : Hid (∀ w', Below W1.heap.size W1 w' → w'.heap[w.heap.size]? = some (.cells #[.slice a1 np c1, .int .i64 d1] 38 (0, 0)) ∧ w'.heap[w.heap.size + 1]? = some (.cells (cellsX y) 29 (0, 0)) ∧ Below w.heap.size w w') := fun w' h =>
    ⟨(h.block _ (lt_of_block hp1)).trans hp1, (h.block _ (lt_of_block hx1)).trans hx1, Below.thenOf bw1 h bw1.size⟩
  rw [← hW1]
  clear hW1 z0 z1 z2 z3 z4 f0 f1 f2 f3 f4 P0 P1 HX1 HY1 b01 b1 bw0 s0 s1 hp1 hx1
  go_at_call 26
  refine Calls.mono (HS1.out W1 bw1) ?_
  rintro e w2 ⟨vm, rfl, hm2, b12⟩
  obtain ⟨am, cm, dm, rfl⟩ := pol_len hm2
  obtain ⟨ns, hns⟩ : ∃ n, n = (shortR p).1.length := ⟨_, rfl⟩
  rw [← hns] at hm2 HT ⊢
  clear hns
  obtain ⟨W3, hW3⟩ : ∃ W3, W3 = w2.alloc (.cells #[.slice am ns cm, .int .i64 dm] 38) := ⟨_, rfl⟩
  have b23 : Below w2.heap.size w2 W3 := by rw [hW3]; exact hA.out _ _
  have b13 : Below W1.heap.size W1 W3 := Below.thenOf b12 b23 b12.size
  have hm3 : W3.heap[w2.heap.size]? = some (.cells #[.slice am ns cm, .int .i64 dm] 38 (0, 0)) := by rw [hW3]; exact heap_made _ _
  have HSp : Hid (∀ w', Below W3.heap.size W3 w' → PolAt w'.heap.size w' (.agg #[.slice am ns cm, .int .i64 dm]) (shortR p) ∧ w'.heap[w2.heap.size]? = some (.cells #[.slice am ns cm, .int .i64 dm] 38 (0, 0)) ∧ Below W1.heap.size W1 w') := fun w' h =>
    ⟨PolAt.wide (hm2.later (Below.thenOf b23 h b23.size) (Nat.le_refl _)) (Nat.le_trans b23.size h.size), (h.block _ (lt_of_block hm3)).trans hm3, Below.thenOf b13 h b13.size⟩
  have bw3 : Below w.heap.size w W3 := Below.thenOf bw1 b13 bw1.size
  have hW3' : Hid (W3 = _) := hW3
  clear hW3 hm2 hm3 b23 b13
  go_wp2_with fail
  rw [← hW3'.out]
  go_at_call 29
  refine Calls.mono (HM.out _ bw3) ?_
  rintro e w6 ⟨rfl, b56⟩
  have Tw6 : Hid (∀ w', Below w6.heap.size w6 w' → Below W3.heap.size W3 w') := fun w' h => Below.thenOf b56 h b56.size
  have bw6 : Below w.heap.size w w6 := Below.thenOf bw3 b56 bw3.size
  by_cases h0 : e1 = 0
  · subst h0
    obtain ⟨v, k, l, j1, j2, j3, j4, j5⟩ := HT.out rfl
    obtain ⟨hPS, ks, tW1⟩ := HSp.out w6 (Tw6.out w6 (Below.refl _ _))
    obtain ⟨k1, k3, tw⟩ := HK.out w6 tW1
    have P0 := heap_cell k1 0 rfl
    have P1 := heap_cell k1 1 rfl
    have Z := (cellsX_at k3).1
    have z0 := Z 0 (by omega)
    have z1 := Z 1 (by omega)
    have z2 := Z 2 (by omega)
    have z3 := Z 3 (by omega)
    have z4 := Z 4 (by omega)
    have S0 := heap_cell ks 0 rfl
    have S1 := heap_cell ks 1 rfl
    have hPp := HPp.out _ tw
    clear Z k1 k3 ks tW1
    have J1 : Hid _ := j1
    have J2 : Hid _ := j2
    have J3 : Hid _ := j3
    have J4 : Hid _ := j4
    clear j1 j2 j3 j4
    go_wp2_with fail
    go_at_call 23
    refine Calls.mono (HJ.out _ p y w6 hPp) ?_
    rintro e w7 ⟨rfl, bb⟩
    have Tw7 : Hid (∀ w', Below w7.heap.size w7 w' → Below W3.heap.size W3 w') := fun w' h => Tw6.out w' (Below.thenOf bb h bb.size)
    rw [J1.out]
    clear P0 P1 z0 z1 z2 z3 z4 S0 S1 bb hPp hPS tw
    obtain ⟨hPS, ks, tW1⟩ := HSp.out w7 (Tw7.out w7 (Below.refl _ _))
    obtain ⟨k1, k3, tw⟩ := HK.out w7 tW1
    have P0 := heap_cell k1 0 rfl
    have P1 := heap_cell k1 1 rfl
    have Z := (cellsX_at k3).1
    have z0 := Z 0 (by omega)
    have z1 := Z 1 (by omega)
    have z2 := Z 2 (by omega)
    have z3 := Z 3 (by omega)
    have z4 := Z 4 (by omega)
    have S0 := heap_cell ks 0 rfl
    have S1 := heap_cell ks 1 rfl
    have hPp := HPp.out _ tw
    clear Z k1 k3 ks tW1
    go_wp2_with fail
    go_at_call 23
    refine Calls.mono (HJ.out _ (shortR p) y w7 hPS) ?_
    rintro e w8 ⟨rfl, bb⟩
    have Tw8 : Hid (∀ w', Below w8.heap.size w8 w' → Below W3.heap.size W3 w') := fun w' h => Tw7.out w' (Below.thenOf bb h bb.size)
    rw [J2.out]
    clear P0 P1 z0 z1 z2 z3 z4 S0 S1 bb hPp hPS tw
    obtain ⟨hPS, ks, tW1⟩ := HSp.out w8 (Tw8.out w8 (Below.refl _ _))
    obtain ⟨k1, k3, tw⟩ := HK.out w8 tW1
    have P0 := heap_cell k1 0 rfl
    have P1 := heap_cell k1 1 rfl
    have Z := (cellsX_at k3).1
    have z0 := Z 0 (by omega)
    have z1 := Z 1 (by omega)
    have z2 := Z 2 (by omega)
    have z3 := Z 3 (by omega)
    have z4 := Z 4 (by omega)
    have S0 := heap_cell ks 0 rfl
    have S1 := heap_cell ks 1 rfl
    have hPp := HPp.out _ tw
    clear Z k1 k3 ks tW1
    go_wp2_with fail
    go_at_call 26
    refine Calls.mono (HSo.out _ (shortR p) w8 hPS) ?_
    rintro e w9 ⟨vt, rfl, ht9, bb⟩
    rw [J3.out]
    rw [J4.out] at ht9
    obtain ⟨at', ct, dt, rfl⟩ := pol_len ht9
    obtain ⟨nt, hnt⟩ : ∃ n, n = (shortR p).1.length := ⟨_, rfl⟩
    rw [← hnt] at ht9 ⊢
    clear hnt
    have Tw9 : Hid (∀ w', Below w9.heap.size w9 w' → Below W3.heap.size W3 w') := fun w' h => Tw8.out w' (Below.thenOf bb h bb.size)
    obtain ⟨W10, hW10⟩ : ∃ W10, W10 = w9.alloc (.cells #[.slice at' nt ct, .int .i64 dt] 38) := ⟨_, rfl⟩
    have bX : Below w9.heap.size w9 W10 := by rw [hW10]; exact hA.out _ _
    have TW10 : Hid (∀ w', Below W10.heap.size W10 w' → Below W3.heap.size W3 w') := fun w' h => Tw9.out w' (Below.thenOf bX h bX.size)
    have hPT : PolAt W10.heap.size W10 (.agg #[.slice at' nt ct, .int .i64 dt]) (shortR p) := PolAt.wide (ht9.later bX (Nat.le_refl _)) bX.size
    have ht10 : W10.heap[w9.heap.size]? = some (.cells #[.slice at' nt ct, .int .i64 dt] 38 (0, 0)) := by rw [hW10]; exact heap_made _ _
    have U0 := heap_cell ht10 0 rfl
    have U1 := heap_cell ht10 1 rfl
    clear P0 P1 z0 z1 z2 z3 z4 S0 S1 bb hPp hPS tw ht9 ht10 bX
    obtain ⟨hPS, ks, tW1⟩ := HSp.out W10 (TW10.out W10 (Below.refl _ _))
    obtain ⟨k1, k3, tw⟩ := HK.out W10 tW1
    have P0 := heap_cell k1 0 rfl
    have P1 := heap_cell k1 1 rfl
    have Z := (cellsX_at k3).1
    have z0 := Z 0 (by omega)
    have z1 := Z 1 (by omega)
    have z2 := Z 2 (by omega)
    have z3 := Z 3 (by omega)
    have z4 := Z 4 (by omega)
    have S0 := heap_cell ks 0 rfl
    have S1 := heap_cell ks 1 rfl
    have hPp := HPp.out _ tw
    clear Z k1 k3 ks tW1
    have HSm : Hid _ := HSa.out _ _ _ _ W10 hPS hPT rfl
    have q5 : (ns : Int) ≤ (np : Int) := by omega
    have HW10 : Hid (W10 = _) := hW10
    have tF : Hid _ := tw
    rw [hW10] at P0 P1 S0 S1 U0 U1
    clear hW10 hPT hPS hPp tw J1 J2 J3 J4 HT
    go_wp2_with fail
    rw [← HW10.out]
    go_at_call 31
    refine Calls.mono HSm.out ?_
    rintro e w11 ⟨rfl, bb⟩
    have tF' : Hid _ := Below.thenOf tF.out bb tF.out.size
    go_wp2_with fail
    go_ret
    exact ⟨rfl, tF'.out⟩
  · have hq : (e1 != 0) = true := by simpa using h0
    clear h0
    go_wp2_with fail
    go_at_call 29
    refine Calls.mono (HM.out _ bw6) ?_
    rintro e w7 ⟨rfl, b67⟩
    have tF : Hid (Below w.heap.size w w7) := Below.thenOf bw6 b67 bw6.size
    go_wp2_with fail
    go_ret
    exact ⟨rfl, tF.out⟩

end Go.Proofs.YtacjnooegahidabGreatDoor
