/- ChainTight returns true, whatever the policies, the call and the chain, in whatever memory. -/
import Derived.Test.YtbjpdmfedphacabGreatDoorCj46
set_option linter.all false
set_option maxRecDepth 100000
namespace Go.Proofs.YtbjpdmfedphacabGreatDoor
open Go.RowKit Go.Maps

/-- One filter, laid in a row of its own. -/
theorem chs_lit {w : World} {fv : Value} {f : List InsT} (hf : InssAt w.heap.size w fv f) : ChsAt (w.heap.size + 1) (w.alloc (.cells #[fv] 63)) (.slice (some ⟨w.heap.size, 0, none⟩) 1 1) [f] := by
  refine ⟨_, 1, rfl, Nat.le_refl _, by rw [maxLen_eq]; omega, fun i g hg => ?_⟩
  match i, hg with
  | 0, hg =>
    simp at hg
    subst hg
    exact ⟨_, 0, _, rfl, by omega, heap_cell (heap_made w _) 0 rfl, (hf.later ((Below.refl _ _).alloc (Nat.le_refl _) _) (Nat.le_refl _)).mono (by omega)⟩
  | i + 1, hg => simp at hg

set_option maxHeartbeats 16000000 in
theorem chainTight_any (B : Nat) (pv qv lv : Value) (p q : PolT) (x : Nat → Int) (ls : ChT) (w : World) (he : EnvAt w) (hp : PolAt B w pv p) (hq : PolAt B w qv q) (hl : ChsAt B w lv ls) (hB : B ≤ w.heap.size) :
    Calls Tryz.prog 13 #[pv, qv, callV x, lv] w fun e w' => e = .returned (.bool true) ∧ Below w.heap.size w w' := by
  have HT : Hid (∀ w', Below w.heap.size w w' → Calls Tryz.prog 41 #[] w' fun e w'' => e = .returned (.bool true) ∧ Below w'.heap.size w' w'') := fun w' h => tightened_true w' (he.later h)
  have HR : Hid (∀ w', Calls Tryz.prog 25 #[callV x] w' fun e w'' => e = .returned (callV (rx x)) ∧ Below w'.heap.size w' w'') := fun w' => right_any x w'
  have HC : Hid (∀ w', Below w.heap.size w w' → Calls Tryz.prog 47 #[pv] w' fun e w'' => ∃ lv, e = .returned (.tuple #[lv, .int .i64 (compE p)]) ∧ w''.ownsRow w'.heap.size 120 4 lv (compL p).length (insCells (compL p)) ∧ (∀ i ∈ compL p, insWf i) ∧ Below w'.heap.size w' w'') := fun w' h => compile_any B pv p w' (hp.later h hB) (Nat.le_trans hB h.size)
  have HT1 : Hid (∀ (C : Nat) (cv : Value) (cs : ChT) w', Below w.heap.size w w' → ChsAt C w' cv cs → C ≤ w'.heap.size → Calls Tryz.prog 37 #[cv, pv, qv] w' fun e w'' => ∃ v, e = .returned (.tuple #[v, .int .i64 (tightE cs p q)]) ∧ ChsAt w''.heap.size w'' v (tightR cs p q) ∧ Below w'.heap.size w' w'') := fun C cv cs w' h hc hC =>
    tightenD_any w'.heap.size cv pv qv cs p q w' (hc.mono hC) ((hp.later h hB).wideT (Nat.le_trans hB h.size)) ((hq.later h hB).wideT (Nat.le_trans hB h.size)) (Nat.le_refl _)
  have HL : Hid (∀ w', Below w.heap.size w w' → ChsAt B w' lv ls ∧ B ≤ w'.heap.size) := fun w' h => ⟨hl.later h hB, Nat.le_trans hB h.size⟩
  have HJq : Hid (∀ (y : Nat → Int) w', Below w.heap.size w w' → Calls Tryz.prog 26 #[qv, .agg #[.int .i64 (y 0), .int .i64 (y 1), .int .i64 (y 2), .int .i64 (y 3), .int .i64 (y 4)]] w' fun e w'' => e = .returned (.tuple #[.int .i64 (judgeP q y).1, .int .i64 (judgeP q y).2.1, .int .i64 (judgeP q y).2.2]) ∧ Below w'.heap.size w' w'') := fun y w' h => judge_any B qv q y w' (hq.later h hB) (Nat.le_trans hB h.size)
  have hA : Hid (∀ (W : World) X, Below W.heap.size W (W.alloc X)) := fun W X => (Below.refl _ _).alloc (Nat.le_refl _) _
  have HCL : Hid (compE p = 0 → compL p = polI p) := fun h => by rw [compL, if_pos h]
  have HO1 : Hid (compE p = 0 → tightE [polI p] p q = 0 → tightR [polI p] p q = [polI p, polI (deltaR p q)] ∧ askE (tightR [polI p] p q) (rx x) = 0 ∧ askV (tightR [polI p] p q) (rx x) = vP q (rx x) ∧ judgeP q (rx x) = (vP q (rx x), (judgeP q (rx x)).2.1, 0)) := fun h1 h2 => tight_one h1 h2 (right_ok x)
  have HO2 : Hid (tightE ls p q = 0 → tightR ls p q = ls ++ [polI (deltaR p q)] ∧ askE ls (rx x) = 0 ∧ askE (tightR ls p q) (rx x) = 0 ∧ askV (tightR ls p q) (rx x) ≤ askV ls (rx x)) := fun h => tight_any h (right_ok x)
  obtain ⟨a1, n1, c1, d1, rfl⟩ : ∃ a n c d, pv = .agg #[.slice a n c, .int .i64 d] := by
    obtain ⟨rv, rfl, _, hr⟩ := hp
    obtain ⟨a, c, rfl, _⟩ := hr
    exact ⟨_, _, _, _, rfl⟩
  obtain ⟨a2, n2, c2, d2, rfl⟩ : ∃ a n c d, qv = .agg #[.slice a n c, .int .i64 d] := by
    obtain ⟨rv, rfl, _, hr⟩ := hq
    obtain ⟨a, c, rfl, _⟩ := hr
    exact ⟨_, _, _, _, rfl⟩
  obtain ⟨la, lc, rfl, hlc, hlm⟩ := hl.shape
  have hml := maxLen_eq
  obtain ⟨ln, hln⟩ : ∃ n, n = ls.length := ⟨_, rfl⟩
  have HLN : Hid (ls.length = ln) := hln.symm
  rw [← hln] at HL hlc ⊢
  clear hp hq he hl hln
  unfold callV at HR ⊢
  generalize rx x = y at *
  go_enter Tryz.func13, Tryz.ntmps13
  go_wp2_with fail
  obtain ⟨W0, hW0⟩ : ∃ W0, W0 = ((w.alloc (.cells #[.slice a1 n1 c1, .int .i64 d1] 38)).alloc (.cells #[.slice a2 n2 c2, .int .i64 d2] 38)).alloc (.cells #[.int .i64 (x 0), .int .i64 (x 1), .int .i64 (x 2), .int .i64 (x 3), .int .i64 (x 4)] 29) := ⟨_, rfl⟩
  have s0 : W0.heap.size = w.heap.size + 3 := by rw [hW0]; simp
  have bw0 : Below w.heap.size w W0 := by rw [hW0]; exact (((Below.refl _ _).alloc (Nat.le_refl _) _).alloc (by simp) _).alloc (by simp; omega) _
  have hp0 : W0.heap[w.heap.size]? = some (.cells #[.slice a1 n1 c1, .int .i64 d1] 38 (0, 0)) := by rw [hW0]; exact heap_kept' _ (heap_kept' _ (heap_at _ _ rfl))
  have hq0 : W0.heap[w.heap.size + 1]? = some (.cells #[.slice a2 n2 c2, .int .i64 d2] 38 (0, 0)) := by rw [hW0]; exact heap_kept' _ (heap_at _ _ (by simp only [World.size_alloc]))
  have hx0 : W0.heap[w.heap.size + 1 + 1]? = some (.cells (cellsX x) 29 (0, 0)) := by rw [hW0]; exact heap_at _ _ (by simp only [World.size_alloc])
  rw [← hW0]
  clear hW0
  go_at_call 25
  refine Calls.mono (HR.out _) ?_
  rintro e w1 ⟨rfl, b01⟩
  have X1 := (b01.block _ (by omega)).trans hx0
  have Y1 := (b01.block _ (by omega)).trans hp0
  have Y2 := (b01.block _ (by omega)).trans hq0
  obtain ⟨P0, P1⟩ := two_at Y1
  obtain ⟨z0, z1, z2, z3, z4⟩ := five_at X1
  have Zf := (cellsX_at X1).2
  have f0 := Zf 0
  have f1 := Zf 1
  have f2 := Zf 2
  have f3 := Zf 3
  have f4 := Zf 4
  have s1 := lt_of_block X1
  have HX1 : Hid _ := X1
  have HY1 : Hid _ := Y1
  have HY2 : Hid _ := Y2
  clear Zf X1 Y1 Y2 hx0 hp0 hq0
  go_wp2_with fail
  obtain ⟨W1, hW1⟩ : ∃ W1, W1 = ((((w1.setCell ⟨w.heap.size + 1 + 1, 0, none⟩ (.int .i64 (y 0))).setCell ⟨w.heap.size + 1 + 1, 1, none⟩ (.int .i64 (y 1))).setCell ⟨w.heap.size + 1 + 1, 2, none⟩ (.int .i64 (y 2))).setCell ⟨w.heap.size + 1 + 1, 3, none⟩ (.int .i64 (y 3))).setCell ⟨w.heap.size + 1 + 1, 4, none⟩ (.int .i64 (y 4)) := ⟨_, rfl⟩
  have hx1 : W1.heap[w.heap.size + 1 + 1]? = some (.cells (cellsX y) 29 (0, 0)) := by rw [hW1]; exact callBox HX1.out
  have b1 : Below (w.heap.size + 1 + 1) w1 W1 := by rw [hW1]; exact callBox_below (Below.refl _ _) (Nat.le_refl _)
  have hp1 := (b1.block w.heap.size (by omega)).trans HY1.out
  have hq1 := (b1.block (w.heap.size + 1) (by omega)).trans HY2.out
  have bw1 : Below w.heap.size w W1 := bw0.trans ((b01.mono (by omega)).trans (b1.mono (by omega)))
  have t1 := lt_of_block hx1
  have HK1 : Hid (∀ w', Below W1.heap.size W1 w' → w'.heap[w.heap.size]? = some (.cells #[.slice a1 n1 c1, .int .i64 d1] 38 (0, 0)) ∧ w'.heap[w.heap.size + 1]? = some (.cells #[.slice a2 n2 c2, .int .i64 d2] 38 (0, 0)) ∧ w'.heap[w.heap.size + 1 + 1]? = some (.cells (cellsX y) 29 (0, 0)) ∧ Below w.heap.size w w') := fun w' h =>
    ⟨(h.block _ (by omega)).trans hp1, (h.block _ (by omega)).trans hq1, (h.block _ (by omega)).trans hx1, Below.thenOf bw1 h bw1.size⟩
  rw [← hW1]
  clear hW1 z0 z1 z2 z3 z4 f0 f1 f2 f3 f4 P0 P1 HX1 HY1 HY2 b01 b1 bw0 s0 s1 hx1 hp1 hq1
  go_at_call 47
  refine Calls.mono (HC.out _ bw1) ?_
  rintro e w2 ⟨fv, rfl, hof, hwf, b12⟩
  have b12' := b12
  have bw2 := (HK1.out w2 b12).2.2.2
  obtain ⟨fa, fc, rfl, -, -⟩ := ownsRow_caps hof
  generalize hce : compE p = ce at *
  by_cases h0 : ce = 0
  · subst h0
    have hcl := HCL.out rfl
    rw [hcl] at hof hwf
    have hfv : InssAt w2.heap.size w2 (.slice fa (compL p).length fc) (polI p) := by rw [hcl]; exact inssAt_own hof hwf
    generalize (compL p).length = fl at *
    have HFv : Hid (∀ w', Below w2.heap.size w2 w' → ChsAt (w'.heap.size + 1) (w'.alloc (.cells #[.slice fa fl fc] 63)) (.slice (some ⟨w'.heap.size, 0, none⟩) 1 1) [polI p]) := fun w' h => chs_lit ((hfv.later h (Nat.le_refl _)).mono h.size)
    have HO1' : Hid _ := HO1.out rfl
    clear hof hwf hfv hcl HCL HO1 HC bw1
    go_wp2_with fail
    go_at_call 41
    refine Calls.mono (HT.out _ bw2) ?_
    rintro e w3 ⟨rfl, b23⟩
    have b13 := Below.thenOf b12 b23 b12.size
    obtain ⟨k1, k2, k3, bw3⟩ := HK1.out w3 b13
    have l1 := lt_of_block k1
    have l2 := lt_of_block k2
    have l3 := lt_of_block k3
    obtain ⟨P0, P1⟩ := two_at k1
    obtain ⟨Q0, Q1⟩ := two_at k2
    have bw3a : ∀ X, Below w.heap.size w (w3.alloc X) := fun X => bw3.alloc bw3.size X
    have HTi : Hid _ := HT1.out (w3.heap.size + 1) _ [polI p] _ (bw3a _) (HFv.out w3 b23) (by simp)
    have B13 : Hid (∀ X, Below W1.heap.size W1 (w3.alloc X)) := fun X => b13.alloc b13.size X
    clear k1 k2 k3 bw3 b13 b23 b12 b12' bw2 bw3a HFv
    generalize tightE [polI p] p q = t1e at *
    go_wp2_with fail
    go_at_call 37
    refine Calls.mono HTi.out ?_
    rintro e w4 ⟨tv, rfl, ht4, b34⟩
    have b14 := Below.thenOf (B13.out _) b34 (B13.out _).size
    obtain ⟨ta, tc, rfl, -, -⟩ := ht4.shape
    obtain ⟨tn, htn⟩ : ∃ n, n = (tightR [polI p] p q).length := ⟨_, rfl⟩
    have HAs : Hid (Calls Tryz.prog 35 #[.slice ta (tightR [polI p] p q).length tc, .agg #[.int .i64 (y 0), .int .i64 (y 1), .int .i64 (y 2), .int .i64 (y 3), .int .i64 (y 4)]] w4 fun e w' => e = .returned (.tuple #[.int .i64 (askV (tightR [polI p] p q) y), .int .i64 (askE (tightR [polI p] p q) y)]) ∧ Below w4.heap.size w4 w') := askD_any w4.heap.size _ _ y w4 ht4 (Nat.le_refl _)
    rw [← htn] at HAs ⊢
    have HTN : Hid (tn = (tightR [polI p] p q).length) := htn
    have B14 : Hid (Below W1.heap.size W1 w4) := b14
    clear ht4 htn b34 b14 B13 HTi P0 P1 Q0 Q1 l1 l2 l3
    by_cases ht : t1e = 0
    case' pos =>
      subst ht
      obtain ⟨htr, hae, hav, hjq⟩ := HO1'.out rfl
      obtain rfl : tn = 2 := by rw [HTN.out, htr]; rfl
      rw [hae, hav] at HAs
      have Jq := HJq.out y
      rw [hjq] at Jq
      have Jq' : Hid _ := Jq
      obtain ⟨k1, k2, k3, -⟩ := HK1.out w4 B14.out
      have l1 := lt_of_block k1
      have l2 := lt_of_block k2
      have l3 := lt_of_block k3
      obtain ⟨z0, z1, z2, z3, z4⟩ := five_at k3
      clear htr hae hav hjq Jq HTN HO1' HJq k1 k2 k3
      generalize vP q y = vq at *
      generalize (judgeP q y).2.1 = kq at *
      go_wp2_with fail
      go_at_call 35
      refine Calls.mono HAs.out ?_
      rintro e w5 ⟨rfl, b45⟩
      have B15 : Hid (Below W1.heap.size W1 w5) := Below.thenOf B14.out b45 B14.out.size
      obtain ⟨k1, k2, k3, bw5⟩ := HK1.out w5 B15.out
      have l1 := lt_of_block k1
      have l2 := lt_of_block k2
      have l3 := lt_of_block k3
      obtain ⟨Q0, Q1⟩ := two_at k2
      obtain ⟨z0, z1, z2, z3, z4⟩ := five_at k3
      have Bw5 : Hid _ := bw5
      clear k1 k2 k3 bw5 b45
      go_wp2_with fail
      go_at_call 26
      refine Calls.mono (Jq'.out _ Bw5.out) ?_
      rintro e w6 ⟨rfl, b56⟩
      have B16 : Hid (Below W1.heap.size W1 w6) := Below.thenOf B15.out b56 B15.out.size
      clear b56 Q0 Q1 z0 z1 z2 z3 z4 l1 l2 l3 Bw5 B15 B14 Jq' HAs
    case' neg =>
      obtain ⟨w6, hw6⟩ : ∃ w6, w6 = w4 := ⟨_, rfl⟩
      subst hw6
      have B16 : Hid (Below W1.heap.size W1 w6) := B14.out
      have ht' : (t1e == 0) = false := by simpa using ht
      clear HO1' HJq HAs HTN B14
    all_goals
      obtain ⟨k1, k2, k3, bw6⟩ := HK1.out w6 B16.out
      have l1 := lt_of_block k1
      have l2 := lt_of_block k2
      have l3 := lt_of_block k3
      obtain ⟨P0, P1⟩ := two_at k1
      obtain ⟨Q0, Q1⟩ := two_at k2
      have HTi : Hid _ := HT1.out B _ ls w6 bw6 (HL.out w6 bw6).1 (HL.out w6 bw6).2
      have Bw6 : Hid _ := bw6
      clear k1 k2 k3 bw6
      generalize tightE ls p q = t2e at *
      go_wp2_with fail
      go_at_call 37
      refine Calls.mono HTi.out ?_
      rintro e w7 ⟨uv, rfl, hu7, b67⟩
      have B17 : Hid (Below W1.heap.size W1 w7) := Below.thenOf B16.out b67 B16.out.size
      by_cases h2 : t2e = 0
      · subst h2
        obtain ⟨htr, ha1, ha2, hle⟩ := HO2.out rfl
        obtain ⟨k1, k2, k3, bw7⟩ := HK1.out w7 B17.out
        have l1 := lt_of_block k1
        have l2 := lt_of_block k2
        have l3 := lt_of_block k3
        obtain ⟨z0, z1, z2, z3, z4⟩ := five_at k3
        have HA1 : Hid (Calls Tryz.prog 35 #[.slice la ln lc, .agg #[.int .i64 (y 0), .int .i64 (y 1), .int .i64 (y 2), .int .i64 (y 3), .int .i64 (y 4)]] w7 fun e w' => e = .returned (.tuple #[.int .i64 (askV ls y), .int .i64 (askE ls y)]) ∧ Below w7.heap.size w7 w') := askD_any B _ ls y w7 (HL.out w7 bw7).1 (HL.out w7 bw7).2
        have HA2 : Hid (∀ w', Below w7.heap.size w7 w' → Calls Tryz.prog 35 #[uv, .agg #[.int .i64 (y 0), .int .i64 (y 1), .int .i64 (y 2), .int .i64 (y 3), .int .i64 (y 4)]] w' fun e w'' => e = .returned (.tuple #[.int .i64 (askV (tightR ls p q) y), .int .i64 (askE (tightR ls p q) y)]) ∧ Below w'.heap.size w' w'') := fun w' h => askD_any w7.heap.size uv _ y w' (hu7.later h (Nat.le_refl _)) h.size
        rw [ha1] at HA1
        rw [ha2] at HA2
        have hul : (tightR ls p q).length = ln + 1 := by rw [htr]; simp [HLN.out]
        have htk : (tightR ls p q).take ln = ls := by rw [htr, ← HLN.out]; simp
        obtain ⟨ua, uc, rfl, huc, -⟩ := hu7.shape
        rw [hul] at HA2 huc
        have HSa : Hid (∀ w', Below w7.heap.size w7 w' → Calls Tryz.prog 43 #[.slice ua ln uc, .slice la ln lc] w' fun e w'' => e = .returned (.bool true) ∧ Below w'.heap.size w' w'') := fun w' h => by
          have h1 := ((hu7.take ln (by omega)).later h (Nat.le_refl _)).mono h.size
          rw [htk] at h1
          have bw' := (HK1.out w' (Below.thenOf B17.out h B17.out.size)).2.2.2
          have h2 := (HL.out w' bw').1.mono (HL.out w' bw').2
          have := sameD_any w'.heap.size _ _ ls ls w' h1 h2 (Nat.le_refl _)
          simpa using this
        rw [hul]
        clear htr ha1 ha2 hu7 k1 k2 k3 bw7 b67 hul htk HTi P0 P1 Q0 Q1 HO2
        generalize askV ls y = va at *
        generalize askV (tightR ls p q) y = vb at *
        have hle' : ¬ va < vb := by omega
        go_wp2_with fail
        go_at_call 35
        refine Calls.mono HA1.out ?_
        rintro e w8 ⟨rfl, b78⟩
        obtain ⟨k1, k2, k3, bw8⟩ := HK1.out w8 (Below.thenOf B17.out b78 B17.out.size)
        have l1 := lt_of_block k1
        have l2 := lt_of_block k2
        have l3 := lt_of_block k3
        obtain ⟨z0, z1, z2, z3, z4⟩ := five_at k3
        have B78 : Hid (Below w7.heap.size w7 w8 ∧ Below w.heap.size w w8) := ⟨b78, bw8⟩
        clear k1 k2 k3 bw8 b78
        go_wp2_with fail
        go_at_call 35
        refine Calls.mono (HA2.out _ B78.out.1) ?_
        rintro e w9 ⟨rfl, b89⟩
        have b79 : Below w7.heap.size w7 w9 := Below.thenOf B78.out.1 b89 B78.out.1.size
        have bw9 : Below w.heap.size w w9 := Below.thenOf B78.out.2 b89 B78.out.2.size
        have i0 : (0 : Int) ≤ (ln : Int) := by omega
        have i1 : (ln : Int) ≤ (uc : Int) := by omega
        have B79 : Hid (Below w7.heap.size w7 w9 ∧ Below w.heap.size w w9) := ⟨b79, bw9⟩
        clear b79 bw9 b89 z0 z1 z2 z3 z4
        go_wp2_with fail
        go_at_call 43
        refine Calls.mono (HSa.out _ B79.out.1) ?_
        rintro e w10 ⟨rfl, b910⟩
        have Bw10 : Hid (Below w.heap.size w w10) := Below.thenOf B79.out.2 b910 B79.out.2.size
        clear b910
        go_wp2_with fail
        go_ret
        exact ⟨by simp, Bw10.out⟩
      · have h2' : (t2e != 0) = true := by simpa using h2
        have bw7 := (HK1.out w7 B17.out).2.2.2
        obtain ⟨ua, uc, rfl, -, -⟩ := hu7.shape
        have Bw7 : Hid _ := bw7
        clear bw7 hu7 b67 HTi HO2 P0 P1 Q0 Q1
        generalize (tightR ls p q).length = un at *
        go_wp2_with fail
        go_ret
        exact ⟨rfl, Bw7.out⟩
  · have h0' : (ce != 0) = true := by simpa using h0
    have Bw2 : Hid _ := bw2
    clear hof hwf HCL HO1 HO2 HC bw1 b12 b12' bw2 HT1 HJq
    generalize (compL p).length = fl at *
    go_wp2_with fail
    go_at_call 41
    refine Calls.mono (HT.out _ Bw2.out) ?_
    rintro e w3 ⟨rfl, b23⟩
    have Bw3 : Hid (Below w.heap.size w w3) := Below.thenOf Bw2.out b23 Bw2.out.size
    clear b23
    go_wp2_with fail
    go_at_call 41
    refine Calls.mono (HT.out _ Bw3.out) ?_
    rintro e w4 ⟨rfl, b34⟩
    have Bw4 : Hid (Below w.heap.size w w4) := Below.thenOf Bw3.out b34 Bw3.out.size
    clear b34
    go_wp2_with fail
    go_ret
    exact ⟨rfl, Bw4.out⟩
end Go.Proofs.YtbjpdmfedphacabGreatDoor
