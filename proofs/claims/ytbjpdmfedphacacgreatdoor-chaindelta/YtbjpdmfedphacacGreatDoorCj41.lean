/- What package point answers, walked. -/
import Derived.Test.YtbjpdmfedphacacGreatDoorCj40
import Derived.Laws.ResultCell
set_option linter.all false
set_option maxRecDepth 100000
namespace Go.Proofs.YtbjpdmfedphacacGreatDoor
open Go.RowKit Go.Maps

/-- What stands in the region that finds one field of the home: what cutsOf handed back. -/
def JHo (W : World) (n : Nat) (L : List Int) (fs : Nat → Value → Prop) (w : World) : Prop :=
  Below W.heap.size W w ∧ ∀ u, fs 3 u → ∃ (g cap : Nat), u = .slice (some ⟨g, 0, none⟩) n cap ∧ g < w.heap.size ∧ n ≤ cap ∧ ∀ (i : Nat) q, L[i]? = some q → w.cell? ⟨g, i, none⟩ = some (.int .i64 q)
def SHo (n : Nat) (r : Int) (k : Nat) (v : Value) : Prop := if k = 3 then ∃ (g cap : Nat), v = .slice (some ⟨g, 0, none⟩) n cap else if k = 7 then v = .int .i64 r else True
theorem sHo_some (n : Nat) (r : Int) (k : Nat) : ∃ v, SHo n r k v := by
  unfold SHo
  split
  · exact ⟨_, 0, 0, rfl⟩
  · split
    · exact ⟨_, rfl⟩
    · exact ⟨undef, trivial⟩

theorem intsAt_none (B : Nat) (w : World) : IntsAt B w (.slice none 0 0) [] := ⟨none, 0, rfl, Nat.le_refl _, by rw [maxLen_eq]; omega, fun i c h => by simp at h⟩
theorem callsAt_none (B : Nat) (w : World) : CallsAt B w (.slice none 0 0) [] := ⟨none, 0, rfl, Nat.le_refl _, by rw [maxLen_eq]; omega, fun i c h => by simp at h⟩

set_option maxHeartbeats 8000000 in
theorem pointsD_any (B : Nat) (lv : Value) (ps : List PolT) (w : World) (hl : PolsAt B w lv ps) (hB : B ≤ w.heap.size) (hn : ps.length ≤ 5000000000) :
    Calls Tryz.prog 25 #[lv] w fun e w' => ∃ v, e = .returned (.tuple #[v, .int .i64 (pointsE ps)]) ∧ CallsAt w'.heap.size w' v ((pointsL ps).map asC) ∧ Below w.heap.size w w' := by
  have HK : Hid (Calls Tryz.prog 46 #[lv] w fun e w' => e = .returned (.int .i64 (polsErr ps)) ∧ Below w.heap.size w w') := checkAllD_any B lv ps w hl hB
  by_cases h0 : polsErr ps = 0
  case neg =>
    have HE : Hid (pointsE ps = polsErr ps ∧ pointsL ps = []) := by
      have e : pointsE ps = polsErr ps := by rw [pointsE, if_neg h0]
      exact ⟨e, by rw [pointsL, if_neg (by rw [e]; exact h0)]⟩
    have hq : (polsErr ps != 0) = true := by simpa using h0
    obtain ⟨a, cap, rfl, -⟩ := hl
    clear h0
    generalize polsErr ps = pe at *
    generalize ps.length = len at *
    go_enter Tryz.func25, Tryz.ntmps25
    go_wp2_with (first | (go_at_call 46; go_must (refine Calls.mono HK.out ?_; rintro e w1 ⟨rfl, hb1⟩)))
    go_ret2
    rw [HE.out.1, HE.out.2]
    exact ⟨_, rfl, callsAt_none _ _, hb1⟩
  case pos =>
    have hok : AllOk ps := polsErr_ok.1 h0
    have HC : Hid (∀ (k : Nat) w', Below w.heap.size w w' → Calls Tryz.prog 47 #[lv, .int .i64 k] w' fun e w'' => ∃ v, e = .returned v ∧ w''.ownsRow w'.heap.size 3 1 v (cutsP ps k).length ((cutsP ps k).map (.int .i64)) ∧ Below w'.heap.size w' w'') := fun k w' h => cutsOfD_any B lv ps k w' (hl.later h hB) hok (Nat.le_trans hB h.size) hn
    have HF : Hid (∀ k : Nat, 0 < (cutsP ps k).length ∧ (cutsP ps k).length ≤ 65536) := fun k => ⟨cut_pos ps k, cuts_few hok k⟩
    have HE : Hid (pointsE ps = if 1000 < (pointsP ps).length then 2 else 0) := by unfold Hid; rw [pointsE, if_pos h0]
    rw [h0] at HK
    obtain ⟨a, cap, rfl, hlc, hcm, -⟩ := hl
    generalize ps.length = len at *
    clear h0 hok
    go_enter Tryz.func25, Tryz.ntmps25
    go_wp2_with (first | (go_at_call 46; go_must (refine Calls.mono HK.out ?_; rintro e w1 ⟨rfl, hb1⟩)))
    have hs1 := hb1.size
    have HS0 : Hid (∀ X, X = Obj.cells #[.int .i64 0, .int .i64 0, .int .i64 0, .int .i64 0, .int .i64 0] 26 (0, 0) → (w1.alloc X).ownsRow w.heap.size 26 5 (.slice (some ⟨w1.heap.size, 0, none⟩) 1 1) (ptsK ps 0).length (callCells (ptsK ps 0))) := by
      intro X hX
      subst hX
      rw [ptsK_zero]
      exact ⟨rfl, .inr ⟨w1.heap.size, 1, _, rfl, hs1, heap_made _ _, Nat.le_refl _, by rw [maxLen_eq]; omega, rfl, rfl⟩⟩
    have HB0 : Hid (∀ X, Below w.heap.size w (w1.alloc X)) := fun X => hb1.alloc hs1 _
    go_loopw [5, 15] (fun pv kv wr => ∃ k : Nat, k ≤ 5 ∧ kv = .int .i64 k ∧ lenP ps k ≤ 1000 ∧ Hid (wr.ownsRow w.heap.size 26 5 pv (ptsK ps k).length (callCells (ptsK ps k))) ∧ Below w.heap.size w wr) (fun _ kv _ => 5 - (intOf kv).toNat)
    case atStart => exact ⟨0, by omega, rfl, by simp [lenP], HS0.out _ rfl, HB0.out _⟩
    case round =>
      obtain ⟨k, hk, rfl, hle, HO, hbr⟩ := hrel
      obtain ⟨wo, hwo⟩ : ∃ x, x = wr := ⟨_, rfl⟩
      subst hwo
      have k0 : (0 : Int) ≤ (k : Int) := by omega
      have hos := hbr.size
      obtain ⟨pa, pcap, rfl, -, -, -⟩ := ownsRow_caps HO.out
      by_cases hlt : k < 5
      · have k1 : (k : Int) < 5 := by omega
        obtain ⟨hF0, hF1⟩ := HF.out k
        have HCk : Hid _ := HC.out k wo hbr
        have HLn : Hid (lenP ps (k + 1) = lenP ps k * (cutsP ps k).length) := rfl
        have HLe : Hid (lenP ps (k + 1) ≤ (pointsP ps).length) := lenP_le ps (k + 1) (by omega)
        have HPl : Hid ((ptsK ps k).length = lenP ps k) := ptsK_length ps k (by omega)
        have HPl' : Hid ((ptsK ps (k + 1)).length = lenP ps (k + 1)) := ptsK_length ps (k + 1) (by omega)
        have HPs : Hid (ptsK ps (k + 1) = (ptsK ps k).flatMap fun x => (cutsP ps k).map fun c => x.set k c) := ptsK_succ ps k hlt
        have H5 : Hid (∀ x ∈ ptsK ps k, x.length = 5) := ptsK_len5 ps k hk
        have hkk : (k = 0 ∧ (k : Int) = 0) ∨ (k = 1 ∧ (k : Int) = 1) ∨ (k = 2 ∧ (k : Int) = 2) ∨ (k = 3 ∧ (k : Int) = 3) ∨ (k = 4 ∧ (k : Int) = 4) := by omega
        have HKK : Hid _ := hkk
        clear hkk
        rw [HPl.out] at HO ⊢
        obtain ⟨q, hq⟩ : ∃ q, q = lenP ps k := ⟨_, rfl⟩
        rw [← hq] at hle HLn HPl HO ⊢
        obtain ⟨m, hm⟩ : ∃ m, m = (cutsP ps k).length := ⟨_, rfl⟩
        rw [← hm] at hF0 hF1 HLn
        simp only [← hm] at HCk
        have HM : Hid ((cutsP ps k).length = m) := hm.symm
        clear hq hm
        obtain ⟨qm, hqm⟩ : ∃ qm, qm = q * m := ⟨_, rfl⟩
        have hqmi : (qm : Int) = (q : Int) * (m : Int) := by rw [hqm]; simp
        have hqml : qm ≤ 65536000 := by rw [hqm]; exact Nat.mul_le_mul hle hF1
        have hmul : IntKind.i64.wrap ((q : Int) * (m : Int)) = (qm : Int) := by rw [← hqmi]; exact IntWalk.i64_in _ (by omega)
        rw [← hqm] at HLn
        have HQM : Hid (qm = q * m) := hqm
        clear hqm hqmi
        go_wp2_with fail
        go_at_call 47
        refine Calls.mono HCk.out ?_
        rintro e w3 ⟨v3, rfl, ho3, hb3⟩
        obtain ⟨a3, cap3, rfl, -, -, -⟩ := ownsRow_caps ho3
        have hbw3 : Below w.heap.size w w3 := Below.thenOf hbr hb3 hos
        have hs3 := hbw3.size
        have HSp : Hid (qm ≤ 1000 → Calls Tryz.prog 48 #[.slice pa q pcap, .int .i64 k, .slice a3 m cap3] w3 fun e w' => ∃ v, e = .returned v ∧ w'.ownsRow w3.heap.size 26 5 v qm (callCells (ptsK ps (k + 1))) ∧ Below w3.heap.size w3 w') := by
          intro hsm
          have h1 : CallsAt w3.heap.size w3 (.slice pa q pcap) ((ptsK ps k).map asC) := callsAt_own (fun x hx => five_of (H5.out x hx)) (by rw [HPl.out]; exact ownsRow_below HO.out hb3)
          have h2 : IntsAt w3.heap.size w3 (.slice a3 m cap3) (cutsP ps k) := intsAt_own (by rw [HM.out]; exact ho3)
          have h3 := spread_at w3.heap.size k k HKK.out _ _ (ptsK ps k) (cutsP ps k) w3 h1 h2 (Nat.le_refl _) H5.out (by rw [HPl.out, HM.out, ← HQM.out]; exact hsm) (by rw [HPl.out]; exact hle) (by rw [HM.out]; exact hF1)
          rw [HPl.out, HM.out, ← HQM.out, ← HPs.out] at h3
          exact h3
        clear ho3
        by_cases hbig : 1000 < qm
        · have hbig' : (1000 : Int) < (qm : Int) := by omega
          have HEE : Hid (pointsE ps = 2 ∧ pointsL ps = []) := by
            have hL := HLe.out
            rw [HLn.out] at hL
            have e : pointsE ps = 2 := by rw [HE.out, if_pos (by omega)]
            exact ⟨e, by rw [pointsL, if_neg (by rw [e]; decide)]⟩
          go_wp2_with fail
          go_ret2
          rw [HEE.out.1, HEE.out.2]
          exact ⟨_, rfl, callsAt_none _ _, hbw3⟩
        · have hbig' : ¬ (1000 : Int) < (qm : Int) := by omega
          have HSp' : Hid _ := HSp.out (by omega)
          go_wp2_with fail
          go_at_call 48
          refine Calls.mono HSp'.out ?_
          rintro e w4 ⟨v4, rfl, ho4, hb4⟩
          have HO4 : Hid (w4.ownsRow w.heap.size 26 5 v4 (ptsK ps (k + 1)).length (callCells (ptsK ps (k + 1)))) := by
            unfold Hid
            rw [HPl'.out, HLn.out]
            exact ownsRow_base ho4 hs3
          have hbw4 := Below.thenOf hbw3 hb4 hs3
          have HLq : Hid (lenP ps (k + 1) ≤ 1000) := by unfold Hid; rw [HLn.out]; omega
          clear ho4
          go_wp2_with fail
          exact ⟨⟨k + 1, by omega, by go_num, HLq.out, HO4, hbw4⟩, by simp [intOf]; omega⟩
      · obtain rfl : k = 5 := by omega
        have HEE : Hid (pointsE ps = 0 ∧ pointsL ps = pointsP ps) := by
          rw [lenP_five] at hle
          have e : pointsE ps = 0 := by rw [HE.out, if_neg (by omega)]
          exact ⟨e, by rw [pointsL, if_pos e]⟩
        have HCa : Hid (CallsAt wo.heap.size wo (.slice pa (ptsK ps 5).length pcap) ((pointsL ps).map asC)) := by
          unfold Hid
          rw [HEE.out.2, ← ptsK_five]
          exact callsAt_own (fun x hx => five_of (ptsK_len5 ps 5 (Nat.le_refl _) x hx)) HO.out
        generalize (ptsK ps 5).length = L5 at *
        go_wp2_with fail
        go_ret2
        rw [HEE.out.1]
        exact ⟨_, rfl, HCa.out, hbr⟩

end Go.Proofs.YtbjpdmfedphacacGreatDoor
