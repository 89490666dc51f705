/- What package point answers, walked. -/
import Derived.Test.YtbjpdmfedphacabGreatDoorCj40
import Derived.Laws.ResultCell
set_option linter.all false
set_option maxRecDepth 100000
namespace Go.Proofs.YtbjpdmfedphacabGreatDoor
open Go.RowKit Go.Maps

/-- What stands in the region that finds one field of the home: what cutsOf handed back. -/
def JHo (W : World) (n : Nat) (L : List Int) (fs : Nat → Value → Prop) (w : World) : Prop :=
  Below W.heap.size W w ∧ ∀ u, fs 3 u → ∃ (g cap : Nat), u = .slice (some ⟨g, 0, none⟩) n cap ∧ g < w.heap.size ∧ n ≤ cap ∧ ∀ (i : Nat) q, L[i]? = some q → w.cell? ⟨g, i, none⟩ = some (.int .i64 q)
def SHo (n : Nat) (r : Int) (k : Nat) (v : Value) : Prop := if k = 3 then ∃ (g cap : Nat), v = .slice (some ⟨g, 0, none⟩) n cap else if k = 7 then v = .int .i64 r else True
theorem sHo_some (n : Nat) (r : Int) (k : Nat) : ∃ v, SHo n r k v := by
  unfold SHo
  split
  · exact ⟨_, 0, 0, rfl⟩
  · split
    · exact ⟨_, rfl⟩
    · exact ⟨undef, trivial⟩

theorem intsAt_none (B : Nat) (w : World) : IntsAt B w (.slice none 0 0) [] := ⟨none, 0, rfl, Nat.le_refl _, by rw [maxLen_eq]; omega, fun i c h => by simp at h⟩
theorem callsAt_none (B : Nat) (w : World) : CallsAt B w (.slice none 0 0) [] := ⟨none, 0, rfl, Nat.le_refl _, by rw [maxLen_eq]; omega, fun i c h => by simp at h⟩

set_option maxHeartbeats 4000000 in
theorem cutsD_any (B : Nat) (lv : Value) (ps : List PolT) (f : Int) (hf : wf f) (w : World) (hl : PolsAt B w lv ps) (hB : B ≤ w.heap.size) (hn : ps.length ≤ 5000000000) :
    Calls Tryz.prog 54 #[lv, .int .i64 f] w fun e w' => ∃ v, e = .returned (.tuple #[v, .int .i64 (cutsE ps f)]) ∧ IntsAt w'.heap.size w' v (cutsL ps f) ∧ Below w.heap.size w w' := by
  have HK : Hid (Calls Tryz.prog 51 #[lv] w fun e w' => e = .returned (.int .i64 (polsErr ps)) ∧ Below w.heap.size w w') := checkAllD_any B lv ps w hl hB
  have HC : Hid (polsErr ps = 0 → ∀ w', Below w.heap.size w w' → Calls Tryz.prog 52 #[lv, .int .i64 f] w' fun e w'' => ∃ v, e = .returned v ∧ w''.ownsRow w'.heap.size 3 1 v (cutsP ps f).length ((cutsP ps f).map (.int .i64)) ∧ Below w'.heap.size w' w'') := fun h0 w' h => cutsOfD_any B lv ps f w' (hl.later h hB) (polsErr_ok.1 h0) (Nat.le_trans hB h.size) hn
  obtain ⟨a, cap, rfl, -⟩ := hl
  generalize ps.length = len at *
  by_cases h0 : polsErr ps = 0
  · rw [h0] at HK
    by_cases hr : 0 ≤ f ∧ f < 5
    · have HE : Hid (cutsE ps f = 0 ∧ cutsL ps f = cutsP ps f) := by
        have e : cutsE ps f = 0 := by rw [cutsE, if_pos h0, if_pos hr]
        exact ⟨e, by rw [cutsL, if_pos e]⟩
      have HC' : Hid _ := HC.out h0
      obtain ⟨hr0, hr5⟩ := hr
      have q0 : ¬ f < 0 := by omega
      have q5 : ¬ (5 : Int) ≤ f := by omega
      clear HC h0
      go_enter Tryz.func54, Tryz.ntmps54
      go_wp2_with (first
        | (go_at_call 51; go_must (refine Calls.mono HK.out ?_; rintro e w1 ⟨rfl, hb1⟩))
        | (go_at_call 52; go_must (refine Calls.mono (HC'.out _ hb1) ?_; rintro e w2 ⟨v, rfl, ho2, hb2⟩; obtain ⟨a2, cap2, rfl, -, -, -⟩ := ownsRow_caps ho2; have HO2 : Hid _ := ho2; clear ho2)))
      go_ret2
      rw [HE.out.1, HE.out.2]
      exact ⟨_, rfl, intsAt_own HO2.out, Below.thenOf hb1 hb2 hb1.size⟩
    · have HE : Hid (cutsE ps f = 5 ∧ cutsL ps f = []) := by
        have e : cutsE ps f = 5 := by rw [cutsE, if_pos h0, if_neg hr]
        exact ⟨e, by rw [cutsL, if_neg (by rw [e]; decide)]⟩
      clear HC h0
      by_cases q0 : f < 0
      · clear hr
        go_enter Tryz.func54, Tryz.ntmps54
        go_wp2_with (first
          | (go_at_call 51; go_must (refine Calls.mono HK.out ?_; rintro e w1 ⟨rfl, hb1⟩)))
        go_ret2
        rw [HE.out.1, HE.out.2]
        exact ⟨_, rfl, intsAt_none _ _, hb1⟩
      · have q5 : (5 : Int) ≤ f := by omega
        clear hr
        go_enter Tryz.func54, Tryz.ntmps54
        go_wp2_with (first
          | (go_at_call 51; go_must (refine Calls.mono HK.out ?_; rintro e w1 ⟨rfl, hb1⟩)))
        go_ret2
        rw [HE.out.1, HE.out.2]
        exact ⟨_, rfl, intsAt_none _ _, hb1⟩
  · have HE : Hid (cutsE ps f = polsErr ps ∧ cutsL ps f = []) := by
      have e : cutsE ps f = polsErr ps := by rw [cutsE, if_neg h0]
      exact ⟨e, by rw [cutsL, if_neg (by rw [e]; exact h0)]⟩
    have hq : (polsErr ps != 0) = true := by simpa using h0
    clear HC h0
    generalize polsErr ps = pe at *
    go_enter Tryz.func54, Tryz.ntmps54
    go_wp2_with (first
      | (go_at_call 51; go_must (refine Calls.mono HK.out ?_; rintro e w1 ⟨rfl, hb1⟩)))
    go_ret2
    rw [HE.out.1, HE.out.2]
    exact ⟨_, rfl, intsAt_none _ _, hb1⟩

set_option maxHeartbeats 8000000 in
theorem pointsD_any (B : Nat) (lv : Value) (ps : List PolT) (w : World) (hl : PolsAt B w lv ps) (hB : B ≤ w.heap.size) (hn : ps.length ≤ 5000000000) :
    Calls Tryz.prog 15 #[lv] w fun e w' => ∃ v, e = .returned (.tuple #[v, .int .i64 (pointsE ps)]) ∧ CallsAt w'.heap.size w' v ((pointsL ps).map asC) ∧ Below w.heap.size w w' := by
  have HK : Hid (Calls Tryz.prog 51 #[lv] w fun e w' => e = .returned (.int .i64 (polsErr ps)) ∧ Below w.heap.size w w') := checkAllD_any B lv ps w hl hB
  by_cases h0 : polsErr ps = 0
  case neg =>
    have HE : Hid (pointsE ps = polsErr ps ∧ pointsL ps = []) := by
      have e : pointsE ps = polsErr ps := by rw [pointsE, if_neg h0]
      exact ⟨e, by rw [pointsL, if_neg (by rw [e]; exact h0)]⟩
    have hq : (polsErr ps != 0) = true := by simpa using h0
    obtain ⟨a, cap, rfl, -⟩ := hl
    clear h0
    generalize polsErr ps = pe at *
    generalize ps.length = len at *
    go_enter Tryz.func15, Tryz.ntmps15
    go_wp2_with (first | (go_at_call 51; go_must (refine Calls.mono HK.out ?_; rintro e w1 ⟨rfl, hb1⟩)))
    go_ret2
    rw [HE.out.1, HE.out.2]
    exact ⟨_, rfl, callsAt_none _ _, hb1⟩
  case pos =>
    have hok : AllOk ps := polsErr_ok.1 h0
    have HC : Hid (∀ (k : Nat) w', Below w.heap.size w w' → Calls Tryz.prog 52 #[lv, .int .i64 k] w' fun e w'' => ∃ v, e = .returned v ∧ w''.ownsRow w'.heap.size 3 1 v (cutsP ps k).length ((cutsP ps k).map (.int .i64)) ∧ Below w'.heap.size w' w'') := fun k w' h => cutsOfD_any B lv ps k w' (hl.later h hB) hok (Nat.le_trans hB h.size) hn
    have HF : Hid (∀ k : Nat, 0 < (cutsP ps k).length ∧ (cutsP ps k).length ≤ 65536) := fun k => ⟨cut_pos ps k, cuts_few hok k⟩
    have HE : Hid (pointsE ps = if 1000 < (pointsP ps).length then 2 else 0) := by unfold Hid; rw [pointsE, if_pos h0]
    rw [h0] at HK
    obtain ⟨a, cap, rfl, hlc, hcm, -⟩ := hl
    generalize ps.length = len at *
    clear h0 hok
    go_enter Tryz.func15, Tryz.ntmps15
    go_wp2_with (first | (go_at_call 51; go_must (refine Calls.mono HK.out ?_; rintro e w1 ⟨rfl, hb1⟩)))
    have hs1 := hb1.size
    have HS0 : Hid (∀ X, X = Obj.cells #[.int .i64 0, .int .i64 0, .int .i64 0, .int .i64 0, .int .i64 0] 29 (0, 0) → (w1.alloc X).ownsRow w.heap.size 29 5 (.slice (some ⟨w1.heap.size, 0, none⟩) 1 1) (ptsK ps 0).length (callCells (ptsK ps 0))) := by
      intro X hX
      subst hX
      rw [ptsK_zero]
      exact ⟨rfl, .inr ⟨w1.heap.size, 1, _, rfl, hs1, heap_made _ _, Nat.le_refl _, by rw [maxLen_eq]; omega, rfl, rfl⟩⟩
    have HB0 : Hid (∀ X, Below w.heap.size w (w1.alloc X)) := fun X => hb1.alloc hs1 _
    go_loopw [5, 15] (fun pv kv wr => ∃ k : Nat, k ≤ 5 ∧ kv = .int .i64 k ∧ lenP ps k ≤ 1000 ∧ Hid (wr.ownsRow w.heap.size 29 5 pv (ptsK ps k).length (callCells (ptsK ps k))) ∧ Below w.heap.size w wr) (fun _ kv _ => 5 - (intOf kv).toNat)
    case atStart => exact ⟨0, by omega, rfl, by simp [lenP], HS0.out _ rfl, HB0.out _⟩
    case round =>
      obtain ⟨k, hk, rfl, hle, HO, hbr⟩ := hrel
      obtain ⟨wo, hwo⟩ : ∃ x, x = wr := ⟨_, rfl⟩
      subst hwo
      have k0 : (0 : Int) ≤ (k : Int) := by omega
      have hos := hbr.size
      obtain ⟨pa, pcap, rfl, -, -, -⟩ := ownsRow_caps HO.out
      by_cases hlt : k < 5
      · have k1 : (k : Int) < 5 := by omega
        obtain ⟨hF0, hF1⟩ := HF.out k
        have HCk : Hid _ := HC.out k wo hbr
        have HLn : Hid (lenP ps (k + 1) = lenP ps k * (cutsP ps k).length) := rfl
        have HLe : Hid (lenP ps (k + 1) ≤ (pointsP ps).length) := lenP_le ps (k + 1) (by omega)
        have HPl : Hid ((ptsK ps k).length = lenP ps k) := ptsK_length ps k (by omega)
        have HPl' : Hid ((ptsK ps (k + 1)).length = lenP ps (k + 1)) := ptsK_length ps (k + 1) (by omega)
        have HPs : Hid (ptsK ps (k + 1) = (ptsK ps k).flatMap fun x => (cutsP ps k).map fun c => x.set k c) := ptsK_succ ps k hlt
        have H5 : Hid (∀ x ∈ ptsK ps k, x.length = 5) := ptsK_len5 ps k hk
        have hkk : (k = 0 ∧ (k : Int) = 0) ∨ (k = 1 ∧ (k : Int) = 1) ∨ (k = 2 ∧ (k : Int) = 2) ∨ (k = 3 ∧ (k : Int) = 3) ∨ (k = 4 ∧ (k : Int) = 4) := by omega
        have HKK : Hid _ := hkk
        clear hkk
        rw [HPl.out] at HO ⊢
        obtain ⟨q, hq⟩ : ∃ q, q = lenP ps k := ⟨_, rfl⟩
        rw [← hq] at hle HLn HPl HO ⊢
        obtain ⟨m, hm⟩ : ∃ m, m = (cutsP ps k).length := ⟨_, rfl⟩
        rw [← hm] at hF0 hF1 HLn
        simp only [← hm] at HCk
        have HM : Hid ((cutsP ps k).length = m) := hm.symm
        clear hq hm
        obtain ⟨qm, hqm⟩ : ∃ qm, qm = q * m := ⟨_, rfl⟩
        have hqmi : (qm : Int) = (q : Int) * (m : Int) := by rw [hqm]; simp
        have hqml : qm ≤ 65536000 := by rw [hqm]; exact Nat.mul_le_mul hle hF1
        have hmul : IntKind.i64.wrap ((q : Int) * (m : Int)) = (qm : Int) := by rw [← hqmi]; exact IntWalk.i64_in _ (by omega)
        rw [← hqm] at HLn
        have HQM : Hid (qm = q * m) := hqm
        clear hqm hqmi
        go_wp2_with fail
        go_at_call 52
        refine Calls.mono HCk.out ?_
        rintro e w3 ⟨v3, rfl, ho3, hb3⟩
        obtain ⟨a3, cap3, rfl, -, -, -⟩ := ownsRow_caps ho3
        have hbw3 : Below w.heap.size w w3 := Below.thenOf hbr hb3 hos
        have hs3 := hbw3.size
        have HSp : Hid (qm ≤ 1000 → Calls Tryz.prog 53 #[.slice pa q pcap, .int .i64 k, .slice a3 m cap3] w3 fun e w' => ∃ v, e = .returned v ∧ w'.ownsRow w3.heap.size 29 5 v qm (callCells (ptsK ps (k + 1))) ∧ Below w3.heap.size w3 w') := by
          intro hsm
          have h1 : CallsAt w3.heap.size w3 (.slice pa q pcap) ((ptsK ps k).map asC) := callsAt_own (fun x hx => five_of (H5.out x hx)) (by rw [HPl.out]; exact ownsRow_below HO.out hb3)
          have h2 : IntsAt w3.heap.size w3 (.slice a3 m cap3) (cutsP ps k) := intsAt_own (by rw [HM.out]; exact ho3)
          have h3 := spread_at w3.heap.size k k HKK.out _ _ (ptsK ps k) (cutsP ps k) w3 h1 h2 (Nat.le_refl _) H5.out (by rw [HPl.out, HM.out, ← HQM.out]; exact hsm) (by rw [HPl.out]; exact hle) (by rw [HM.out]; exact hF1)
          rw [HPl.out, HM.out, ← HQM.out, ← HPs.out] at h3
          exact h3
        clear ho3
        by_cases hbig : 1000 < qm
        · have hbig' : (1000 : Int) < (qm : Int) := by omega
          have HEE : Hid (pointsE ps = 2 ∧ pointsL ps = []) := by
            have hL := HLe.out
            rw [HLn.out] at hL
            have e : pointsE ps = 2 := by rw [HE.out, if_pos (by omega)]
            exact ⟨e, by rw [pointsL, if_neg (by rw [e]; decide)]⟩
          go_wp2_with fail
          go_ret2
          rw [HEE.out.1, HEE.out.2]
          exact ⟨_, rfl, callsAt_none _ _, hbw3⟩
        · have hbig' : ¬ (1000 : Int) < (qm : Int) := by omega
          have HSp' : Hid _ := HSp.out (by omega)
          go_wp2_with fail
          go_at_call 53
          refine Calls.mono HSp'.out ?_
          rintro e w4 ⟨v4, rfl, ho4, hb4⟩
          have HO4 : Hid (w4.ownsRow w.heap.size 29 5 v4 (ptsK ps (k + 1)).length (callCells (ptsK ps (k + 1)))) := by
            unfold Hid
            rw [HPl'.out, HLn.out]
            exact ownsRow_base ho4 hs3
          have hbw4 := Below.thenOf hbw3 hb4 hs3
          have HLq : Hid (lenP ps (k + 1) ≤ 1000) := by unfold Hid; rw [HLn.out]; omega
          clear ho4
          go_wp2_with fail
          exact ⟨⟨k + 1, by omega, by go_num, HLq.out, HO4, hbw4⟩, by simp [intOf]; omega⟩
      · obtain rfl : k = 5 := by omega
        have HEE : Hid (pointsE ps = 0 ∧ pointsL ps = pointsP ps) := by
          rw [lenP_five] at hle
          have e : pointsE ps = 0 := by rw [HE.out, if_neg (by omega)]
          exact ⟨e, by rw [pointsL, if_pos e]⟩
        have HCa : Hid (CallsAt wo.heap.size wo (.slice pa (ptsK ps 5).length pcap) ((pointsL ps).map asC)) := by
          unfold Hid
          rw [HEE.out.2, ← ptsK_five]
          exact callsAt_own (fun x hx => five_of (ptsK_len5 ps 5 (Nat.le_refl _) x hx)) HO.out
        generalize (ptsK ps 5).length = L5 at *
        go_wp2_with fail
        go_ret2
        rw [HEE.out.1]
        exact ⟨_, rfl, HCa.out, hbr⟩

set_option maxHeartbeats 16000000 in
theorem homeD_any (B : Nat) (lv : Value) (ps : List PolT) (x : Nat → Int) (w : World) (hl : PolsAt B w lv ps) (hB : B ≤ w.heap.size) (hn : ps.length ≤ 5000000000) :
    Calls Tryz.prog 56 #[lv, callV x] w fun e w' => e = .returned (.tuple #[callV (homeC ps x), .int .i64 (homeE ps x)]) ∧ Below w.heap.size w w' := by
  have HK : Hid (∀ w', Below w.heap.size w w' → Calls Tryz.prog 51 #[lv] w' fun e w'' => e = .returned (.int .i64 (polsErr ps)) ∧ Below w'.heap.size w' w'') := fun w' h => checkAllD_any B lv ps w' (hl.later h hB) (Nat.le_trans hB h.size)
  have HCh : Hid (∀ w', Calls Tryz.prog 17 #[.agg #[.int .i64 (x 0), .int .i64 (x 1), .int .i64 (x 2), .int .i64 (x 3), .int .i64 (x 4)]] w' fun e w'' => e = .returned (.int .i64 (chkx x)) ∧ Below w'.heap.size w' w'') := fun w' => check_any _ _ _ _ _ w'
  have HC : Hid (polsErr ps = 0 → ∀ (k : Nat) w', Below w.heap.size w w' → Calls Tryz.prog 52 #[lv, .int .i64 k] w' fun e w'' => ∃ v, e = .returned v ∧ w''.ownsRow w'.heap.size 3 1 v (cutsP ps k).length ((cutsP ps k).map (.int .i64)) ∧ Below w'.heap.size w' w'') := fun h0 k w' h => cutsOfD_any B lv ps k w' (hl.later h hB) (polsErr_ok.1 h0) (Nat.le_trans hB h.size) hn
  obtain ⟨a, cap, rfl, -⟩ := hl
  generalize ps.length = len at *
  obtain ⟨W0, hW0⟩ : ∃ W0, W0 = (w.alloc (.cells #[.int .i64 (x 0), .int .i64 (x 1), .int .i64 (x 2), .int .i64 (x 3), .int .i64 (x 4)] 29)).alloc (.cells #[.int .i64 0, .int .i64 0, .int .i64 0, .int .i64 0, .int .i64 0] 29) := ⟨_, rfl⟩
  have hbW : Below w.heap.size w W0 := by rw [hW0]; exact ((Below.refl _ _).alloc (Nat.le_refl _) _).alloc (by simp) _
  have hs0 : W0.heap.size = w.heap.size + 1 + 1 := by rw [hW0]; simp
  have hc0 : W0.heap[w.heap.size]? = some (.cells (cellsX x) 29 (0, 0)) := by rw [hW0]; exact heap_kept _ (heap_made_at _ _ rfl)
  have hc1 : W0.heap[w.heap.size + 1]? = some (.cells (cellsX fun _ => 0) 29 (0, 0)) := by rw [hW0]; exact heap_made_at _ _ (by simp only [World.size_alloc])
  have HW : Hid (W0 = (w.alloc (.cells #[.int .i64 (x 0), .int .i64 (x 1), .int .i64 (x 2), .int .i64 (x 3), .int .i64 (x 4)] 29)).alloc (.cells #[.int .i64 0, .int .i64 0, .int .i64 0, .int .i64 0, .int .i64 0] 29)) := hW0
  clear hW0
  show Calls Tryz.prog 56 #[.slice a len cap, .agg #[.int .i64 (x 0), .int .i64 (x 1), .int .i64 (x 2), .int .i64 (x 3), .int .i64 (x 4)]] w _
  have H0 : Hid (∀ w', Below W0.heap.size W0 w' → w'.heap[w.heap.size]? = some (.cells (cellsX x) 29 (0, 0))) := fun w' h => (h.block w.heap.size (by omega)).trans hc0
  have H1 : Hid (∀ w', Below W0.heap.size W0 w' → w'.heap[w.heap.size + 1]? = some (.cells (cellsX fun _ => 0) 29 (0, 0))) := fun w' h => (h.block (w.heap.size + 1) (by omega)).trans hc1
  clear hc0 hc1
  by_cases hx : chkx x = 0
  · by_cases h0 : polsErr ps = 0
    · have HE : Hid (homeE ps x = 0 ∧ homeC ps x = homeP ps x) := by
        have e : homeE ps x = 0 := by rw [homeE, if_pos hx, h0]
        exact ⟨e, by rw [homeC, if_pos e]⟩
      have hok : AllOk ps := polsErr_ok.1 h0
      have HXr : Hid (∀ j, j < 5 → 0 ≤ x j ∧ x j ≤ most j) := chkx_zero.1 hx
      have HCo : Hid _ := HC.out h0
      have HF : Hid (∀ k : Nat, 0 < (cutsP ps k).length ∧ (cutsP ps k).length ≤ 65536 ∧ Rising (cutsP ps k) ∧ (cutsP ps k)[0]? = some 0) := fun k => ⟨cut_pos ps k, cuts_few hok k, cutsP_rising ps k, cuts_first hok k⟩
      rw [h0] at HK
      rw [hx] at HCh
      clear HC hx h0 hok
      go_enter Tryz.func56, Tryz.ntmps56
      go_wp2_with fail
      go_at_call 17
      rw [← HW.out]
      refine Calls.mono (HCh.out _) ?_
      rintro e w1 ⟨rfl, hb1⟩
      have hb1w : Below w.heap.size w w1 := Below.thenOf hbW hb1 (by omega)
      have hs1 := hb1.size
      go_wp2_with fail
      go_at_call 51
      refine Calls.mono (HK.out _ hb1w) ?_
      rintro e w2 ⟨rfl, hb2⟩
      have hb2w : Below w.heap.size w w2 := Below.thenOf hb1w hb2 hb1w.size
      have hb02 : Below W0.heap.size W0 w2 := Below.thenOf hb1 hb2 hs1
      have hs2 := hb02.size
      have HI0 : Hid (∀ X, X = Obj.cells #[.int .i64 0, .int .i64 0, .int .i64 0, .int .i64 0, .int .i64 0] 29 (0, 0) → (w2.alloc X).heap[w2.heap.size]? = some (.cells (cellsX (mixH (homeP ps x) (fun _ => 0) 0)) 29 (0, 0))) := by
        intro X hX
        subst hX
        exact heap_made _ _
      have HB0 : Hid (∀ X, Below W0.heap.size W0 (w2.alloc X)) := fun X => hb02.alloc hs2 _
      clear HCh HK
      go_wp2_with fail
      go_loopw [22] (fun kv wr => ∃ k : Nat, k ≤ 5 ∧ kv = .int .i64 k ∧ Hid (wr.heap[w2.heap.size]? = some (.cells (cellsX (mixH (homeP ps x) (fun _ => 0) k)) 29 (0, 0))) ∧ Below W0.heap.size W0 wr) (fun kv _ => 5 - (intOf kv).toNat)
      case atStart => exact ⟨0, by omega, rfl, HI0.out _ rfl, HB0.out _⟩
      case round =>
        obtain ⟨k, hk, rfl, HX, hbr⟩ := hrel
        obtain ⟨wo, hwo⟩ : ∃ x, x = wr := ⟨_, rfl⟩
        subst hwo
        have k0 : (0 : Int) ≤ (k : Int) := by omega
        have hos := hbr.size
        have hbow : Below w.heap.size w wo := Below.thenOf hbW hbr (by omega)
        by_cases hlt : k < 5
        · have k1 : (k : Int) < 5 := by omega
          obtain ⟨hF0, hF1, hF2, hF3⟩ := HF.out k
          obtain ⟨hx0, -⟩ := HXr.out k hlt
          have HH : Hid (homeP ps x k = lastLe (x k) 0 (cutsP ps k)) := rfl
          have HCk : Hid (∀ w', Below wo.heap.size wo w' → Calls Tryz.prog 52 #[.slice a len cap, .int .i64 k] w' fun e w'' => ∃ v, e = .returned v ∧ w''.ownsRow w'.heap.size 3 1 v (cutsP ps k).length ((cutsP ps k).map (.int .i64)) ∧ Below w'.heap.size w' w'') := fun w' h => HCo.out k w' (Below.thenOf hbow h hbow.size)
          obtain ⟨L, hL⟩ : ∃ L, L = cutsP ps k := ⟨_, rfl⟩
          rw [← hL] at hF0 hF1 hF2 hF3 HH
          simp only [← hL] at HCk
          clear hL
          obtain ⟨r, hr⟩ : ∃ r, r = lastLe (x k) 0 L := ⟨_, rfl⟩
          rw [← hr] at HH
          have HR : Hid (lastLe (x k) 0 L = r) := hr.symm
          clear hr
          have HFs : Hid (0 < L.length ∧ L.length ≤ 65536 ∧ Rising L ∧ L[0]? = some 0) := ⟨hF0, hF1, hF2, hF3⟩
          obtain ⟨n, hn'⟩ : ∃ n, n = L.length := ⟨_, rfl⟩
          have hnH : Hid (L.length = n) := hn'.symm
          simp only [← hn'] at HCk
          clear hn' hF0 hF1 hF2 hF3
          have hbx := H0.out wo hbr
          have hblt := lt_of_block hbx
          have hXlt := lt_of_block HX.out
          have c0 : wo.cell? ⟨w.heap.size, k, none⟩ = some (.int .i64 (x k)) := (cellsX_at hbx).1 k hlt
          have HC0 : Hid (∀ z : Later wo, z.1.cell? ⟨w.heap.size, k, none⟩ = some (.int .i64 (x k))) := fun z => z.cell c0 hblt
          have Hx0 : Hid (0 ≤ x k) := hx0
          clear hbx c0 hx0
          generalize x k = xk at *
          go_wp2_with fail
          have hne := Later.ne wo
          have c0 := HC0.out
          have hDJ : Hid (∀ fs w', JHo wo n L fs w' → ∃ z : Later wo, w' = z.1) := fun fs w' h => ⟨⟨w', h.1⟩, rfl⟩
          refine wp_region_free [_, _, _, _, _, _, _, _, _] _ rfl (fun k => k == 3 || k == 7) (JHo wo n L) (SHo n r) (sHo_some n r) (by kernel_rfl) (by kernel_rfl) ⟨(Below.refl _ _).drew, fun _ h => h.elim⟩ ?_
          iterate 3 (refine wpG_read hDJ.out rfl rfl ?_; go_big_quiet_step (fail); refine wpQuiet_nil ?_)
          refine wpG_call 52 #[.slice a len cap, .int .i64 k] rfl rfl (fun w' => by kernel_rfl) (fun gs w' hJ hdep hno => ?_) (fun v3 hv3 => ?_)
          · refine (HCk.out w' hJ.1).mono ?_
            rintro e w3 ⟨v, rfl, ho, hb⟩
            have hsh := ownsRow_shape ho (by rw [← hnH.out]; exact HFs.out.1)
            obtain ⟨g, cap3, rfl, hge⟩ := hsh
            obtain ⟨_, _, e3, hnc, -, hgg⟩ := ownsRow_caps ho
            simp at e3
            obtain ⟨rfl, rfl⟩ := e3
            obtain ⟨g', eg, -, hgl⟩ := hgg (by rw [← hnH.out]; exact HFs.out.1)
            simp at eg
            subst eg
            refine ⟨_, rfl, ?_, Below.thenOf hJ.1 hb hJ.1.size, fun u hu => ?_⟩
            · exact ⟨g, cap3, rfl⟩
            · rcases hu with hu | ⟨_, rfl⟩
              · exact absurd hu (hno u)
              · exact ⟨g, cap3, rfl, hgl, hnc, fun i q hq => ownsRow_cell ho i _ (by simp [hq])⟩
          simp only [Act.put, List.setIfInBounds_toArray, List.set_cons_succ, List.set_cons_zero]
          obtain ⟨g, cap3, rfl⟩ : ∃ (g cap : Nat), v3 = .slice (some ⟨g, 0, none⟩) n cap := hv3
          iterate 3 (refine wpG_read hDJ.out rfl rfl ?_; go_big_quiet_step (fail); refine wpQuiet_nil ?_)
          refine wpG_call 110 #[.slice (some ⟨g, 0, none⟩) n cap3, .int .i64 xk] rfl rfl (fun w' => by kernel_rfl) (fun gs w' hJ hdep hno => ?_) (fun v7 hv7 => ?_)
          · obtain ⟨g', cap', e', hlt', hnc', hcl'⟩ := hJ.2 _ (hdep 3 _ (.inr ⟨rfl, rfl⟩) (waitsB_spec (by kernel_rfl)))
            simp at e'
            obtain ⟨rfl, rfl⟩ := e'
            have := cutBelow_any g cap3 L xk w' HFs.out.2.2.1 HFs.out.2.2.2 Hx0.out HFs.out.2.1 (by rw [hnH.out]; exact hnc') hcl' hlt'
            rw [hnH.out, HR.out] at this
            refine this.mono ?_
            rintro e w3 ⟨rfl, hb⟩
            refine ⟨_, rfl, rfl, Below.thenOf hJ.1 hb hJ.1.size, fun u hu => ?_⟩
            rcases hu with hu | ⟨h, _⟩
            · obtain ⟨g4, c4, e4, h1, h2, h3⟩ := hJ.2 u hu
              exact ⟨g4, c4, e4, Nat.lt_of_lt_of_le h1 hb.size, h2, fun i q hq => (hb.cell (p := ⟨g4, i, none⟩) h1).trans (h3 i q hq)⟩
            · cases h
          simp only [Act.put, List.setIfInBounds_toArray, List.set_cons_succ, List.set_cons_zero]
          obtain rfl : v7 = .int .i64 r := hv7
          refine wpG_read hDJ.out rfl rfl ?_; go_big_quiet_step (fail); refine wpQuiet_nil ?_
          refine wpG_nil ?_
          intro w3 hJ3
          have hb3 := hJ3.1
          have G3 : Hid (w3.heap[w2.heap.size]? = _) := (hb3.block w2.heap.size hXlt).trans HX.out
          have t0 := (cellsX_at G3.out).1 k hlt
          have t1 := (cellsX_at G3.out).2 k
          have hbw3 : Below W0.heap.size W0 w3 := Below.thenOf hbr hb3 hos
          have HB3 : Hid _ := hbw3
          clear hJ3 hne hDJ c0 HC0 hb3 hbw3
          go_wp2_with fail
          refine ⟨⟨k + 1, by omega, by go_num, ?_, HB3.out.setCell (p := ⟨w2.heap.size, k, none⟩) hs2 _⟩, by simp [intOf]; omega⟩
          unfold Hid
          rw [row_setCell G3.out, ← HH.out, mixH_set _ _ _ hlt]
        · obtain rfl : k = 5 := by omega
          have e5 : ∀ j, j < 5 → mixH (homeP ps x) (fun _ => 0) 5 j = homeP ps x j := fun j hj => by simp [mixH, hj]
          have X0 := (cellsX_at HX.out).1
          have y0 := X0 0 (by omega)
          have y1 := X0 1 (by omega)
          have y2 := X0 2 (by omega)
          have y3 := X0 3 (by omega)
          have y4 := X0 4 (by omega)
          rw [e5 _ (by omega)] at y0 y1 y2 y3 y4
          have g1 := H1.out wo hbr
          have Z0 := (cellsX_at g1).1
          have Z1 := (cellsX_at g1).2
          have z0 := Z0 0 (by omega)
          have z1 := Z0 1 (by omega)
          have z2 := Z0 2 (by omega)
          have z3 := Z0 3 (by omega)
          have z4 := Z0 4 (by omega)
          have f0 := Z1 0
          have f1 := Z1 1
          have f2 := Z1 2
          have f3 := Z1 3
          have f4 := Z1 4
          clear X0 Z0 Z1 e5 g1
          generalize hy : homeP ps x = y at *
          have HY : Hid (homeP ps x = y) := hy
          have HBw : Hid _ := hbow
          clear hy hbow
          go_wp2_with fail
          refine bodyPost_ret (v := .tuple #[.agg #[.int .i64 (y 0), .int .i64 (y 1), .int .i64 (y 2), .int .i64 (y 3), .int .i64 (y 4)], .int .i64 0]) ?_ rfl ⟨by rw [HE.out.1, HE.out.2]; rfl, ?_⟩
          · rw [results_cell_tmp rfl]
            go_simp
          · exact ((((HBw.out.setCell (p := ⟨w.heap.size + 1, 0, none⟩) (Nat.le_succ _) _).setCell (p := ⟨w.heap.size + 1, 1, none⟩) (Nat.le_succ _) _).setCell (p := ⟨w.heap.size + 1, 2, none⟩) (Nat.le_succ _) _).setCell (p := ⟨w.heap.size + 1, 3, none⟩) (Nat.le_succ _) _).setCell (p := ⟨w.heap.size + 1, 4, none⟩) (Nat.le_succ _) _
    · have HE : Hid (homeE ps x = polsErr ps ∧ homeC ps x = fun _ => 0) := by
        have e : homeE ps x = polsErr ps := by rw [homeE, if_pos hx]
        exact ⟨e, by rw [homeC, if_neg (by rw [e]; exact h0)]⟩
      have hq : (polsErr ps != 0) = true := by simpa using h0
      rw [hx] at HCh
      clear HC hx h0
      generalize polsErr ps = ce at *
      go_enter Tryz.func56, Tryz.ntmps56
      go_wp2_with fail
      go_at_call 17
      rw [← HW.out]
      refine Calls.mono (HCh.out _) ?_
      rintro e w1 ⟨rfl, hb1⟩
      have hb1w : Below w.heap.size w w1 := Below.thenOf hbW hb1 (by omega)
      have hs1 := hb1.size
      go_wp2_with fail
      go_at_call 51
      refine Calls.mono (HK.out _ hb1w) ?_
      rintro e w2 ⟨rfl, hb2⟩
      have hb2w : Below w.heap.size w w2 := Below.thenOf hb1w hb2 hb1w.size
      have g1 := H1.out w2 (Below.thenOf hb1 hb2 hs1)
      have Z0 := (cellsX_at g1).1
      have Z1 := (cellsX_at g1).2
      have z0 := Z0 0 (by omega)
      have z1 := Z0 1 (by omega)
      have z2 := Z0 2 (by omega)
      have z3 := Z0 3 (by omega)
      have z4 := Z0 4 (by omega)
      have f0 := Z1 0
      have f1 := Z1 1
      have f2 := Z1 2
      have f3 := Z1 3
      have f4 := Z1 4
      have HB1 : Hid _ := hb2w
      clear Z0 Z1 g1 H0 H1 HCh HK
      go_wp2_with fail
      refine bodyPost_ret (v := .tuple #[.agg #[.int .i64 0, .int .i64 0, .int .i64 0, .int .i64 0, .int .i64 0], .int .i64 ce]) ?_ rfl ⟨by rw [HE.out.1, HE.out.2]; rfl, ?_⟩
      · rw [results_cell_tmp rfl]
        go_simp
      · exact ((((HB1.out.setCell (p := ⟨w.heap.size + 1, 0, none⟩) (Nat.le_succ _) _).setCell (p := ⟨w.heap.size + 1, 1, none⟩) (Nat.le_succ _) _).setCell (p := ⟨w.heap.size + 1, 2, none⟩) (Nat.le_succ _) _).setCell (p := ⟨w.heap.size + 1, 3, none⟩) (Nat.le_succ _) _).setCell (p := ⟨w.heap.size + 1, 4, none⟩) (Nat.le_succ _) _
  · have HE : Hid (homeE ps x = chkx x ∧ homeC ps x = fun _ => 0) := by
      have e : homeE ps x = chkx x := by rw [homeE, if_neg hx]
      exact ⟨e, by rw [homeC, if_neg (by rw [e]; exact hx)]⟩
    have hq : (chkx x != 0) = true := by simpa using hx
    clear HC hx HK
    generalize chkx x = ce at *
    go_enter Tryz.func56, Tryz.ntmps56
    go_wp2_with fail
    go_at_call 17
    rw [← HW.out]
    refine Calls.mono (HCh.out _) ?_
    rintro e w1 ⟨rfl, hb1⟩
    have hb1w : Below w.heap.size w w1 := Below.thenOf hbW hb1 (by omega)
    have g1 := H1.out w1 hb1
    have Z0 := (cellsX_at g1).1
    have Z1 := (cellsX_at g1).2
    have z0 := Z0 0 (by omega)
    have z1 := Z0 1 (by omega)
    have z2 := Z0 2 (by omega)
    have z3 := Z0 3 (by omega)
    have z4 := Z0 4 (by omega)
    have f0 := Z1 0
    have f1 := Z1 1
    have f2 := Z1 2
    have f3 := Z1 3
    have f4 := Z1 4
    have HB1 : Hid _ := hb1w
    clear Z0 Z1 g1 H0 H1 HCh
    go_wp2_with fail
    refine bodyPost_ret (v := .tuple #[.agg #[.int .i64 0, .int .i64 0, .int .i64 0, .int .i64 0, .int .i64 0], .int .i64 ce]) ?_ rfl ⟨by rw [HE.out.1, HE.out.2]; rfl, ?_⟩
    · rw [results_cell_tmp rfl]
      go_simp
    · exact ((((HB1.out.setCell (p := ⟨w.heap.size + 1, 0, none⟩) (Nat.le_succ _) _).setCell (p := ⟨w.heap.size + 1, 1, none⟩) (Nat.le_succ _) _).setCell (p := ⟨w.heap.size + 1, 2, none⟩) (Nat.le_succ _) _).setCell (p := ⟨w.heap.size + 1, 3, none⟩) (Nat.le_succ _) _).setCell (p := ⟨w.heap.size + 1, 4, none⟩) (Nat.le_succ _) _

end Go.Proofs.YtbjpdmfedphacabGreatDoor
