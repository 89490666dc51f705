/- Joined: KpD Tig0. -/
import Derived.Test.YtbdlojnigflanacGreatDoorKb38
import Derived.Test.YtbdlojnigflanacGreatDoorKb07
section
/- Package keeper: Replay. -/
set_option linter.all false
set_option maxRecDepth 100000
namespace Go.Proofs.YtbdlojnigflanacGreatDoor
open Go.RowKit Go.Maps

set_option maxHeartbeats 8000000 in
theorem replayKp_any (B : Nat) (lv : Value) (rs : List RecT) (w : World) (hl : RecsAt B w lv rs) (hB : B ≤ w.heap.size) :
    Calls Tryz.prog 50 #[lv] w fun e w' => ∃ v, e = .returned (.tuple #[v, .int .i64 (replayP rs).2]) ∧ CellsAt w'.heap.size w' v (replayP rs).1 ∧ Below w.heap.size w w' := by
  have HL : Hid (∀ w', Below w.heap.size w w' → RecsAt B w' lv rs) := fun w' h => hl.later h hB
  have HNx : Hid (∀ w' cv rv cs r, CellsAt w'.heap.size w' cv cs → RecAt w'.heap.size w' rv r → Calls Tryz.prog 42 #[cv, rv] w' fun e w'' => ∃ v, e = .returned (.tuple #[v, .int .i64 (nextE cs r)]) ∧ CellsAt w''.heap.size w'' v (nextR cs r) ∧ Below w'.heap.size w' w'') := fun w' cv rv cs r h1 h2 => nextKp_any w'.heap.size cv rv cs r w' h1 h2 (Nat.le_refl _)
  have HP : Hid (replayP rs = if 40 < rs.length then ([], 2) else rs.foldl replayS (newCells, 0)) := rfl
  obtain ⟨a, cap, rfl, hlc, hcm, -⟩ := hl
  have hml := maxLen_eq
  obtain ⟨n, hn⟩ : ∃ n, n = rs.length := ⟨_, rfl⟩
  have HN : Hid (rs.length = n) := hn.symm
  rw [← hn] at HP HL hlc ⊢
  clear hn
  obtain ⟨RV, hRV⟩ : ∃ x, x = (replayP rs).1 := ⟨_, rfl⟩
  obtain ⟨RE, hRE⟩ : ∃ x, x = (replayP rs).2 := ⟨_, rfl⟩
  have HRes : Hid ((RV, RE) = replayP rs) := by rw [hRV, hRE]; rfl
  rw [← hRV, ← hRE]
  clear hRV hRE
  by_cases h40 : 40 < n
  · have h40' : (40 : Int) < (n : Int) := by omega
    have HZ : Hid (RV = [] ∧ RE = 2) := by
      have := HRes.out
      rw [HP.out, if_pos h40] at this
      unfold Hid
      simpa using this
    go_enter Tryz.func50, Tryz.ntmps50
    go_wp2_with fail
    go_ret2
    exact ⟨_, by rw [HZ.out.2]; rfl, by rw [HZ.out.1]; exact cellsAt_nil _ _, Below.refl _ _⟩
  · have h40' : ¬ (40 : Int) < (n : Int) := by omega
    have HP' : Hid ((RV, RE) = rs.foldl replayS (newCells, 0)) := by unfold Hid; rw [HRes.out, HP.out, if_neg h40]
    clear HP HRes
    go_enter Tryz.func50, Tryz.ntmps50
    go_wp2_with fail
    go_at_call 49
    refine Calls.mono (newKp_any w) ?_
    rintro e W1 ⟨v1, rfl, hnew, hb1⟩
    obtain ⟨ca1, cc1, ev1, -, -⟩ := hnew.shape
    have HNew : Hid (CellsAt W1.heap.size W1 v1 newCells) := hnew
    have e4 : newCells.length = 4 := rfl
    rw [e4] at ev1
    subst ev1
    clear hnew e4
    go_wp2_with fail
    go_loopw [4, 15] (fun cv iv wr => ∃ k : Nat, k ≤ n ∧ iv = .int .i64 k ∧ (∃ ca cc, cv = .slice ca 4 cc) ∧ Hid (∃ cs, (rs.take k).foldl replayS (newCells, 0) = (cs, 0) ∧ CellsAt wr.heap.size wr cv cs ∧ cs.length = 4) ∧ Hid (Below w.heap.size w wr)) (fun _ iv _ => n - (intOf iv).toNat)
    case atStart => exact ⟨0, by omega, rfl, ⟨_, _, rfl⟩, ⟨newCells, rfl, HNew.out, rfl⟩, hb1⟩
    case round =>
      obtain ⟨k, hk, rfl, ⟨ca, cc, rfl⟩, HS, HBr⟩ := hrel
      obtain ⟨wo, hwo⟩ : ∃ x, x = wr := ⟨_, rfl⟩
      subst hwo
      have i0 : (0 : Int) ≤ (k : Int) := by omega
      have hos := HBr.out.size
      by_cases hlt : k < n
      · have i1 : (k : Int) < (n : Int) := by omega
        obtain ⟨r, hrk⟩ : ∃ r, rs[k]? = some r := ⟨rs[k]'(by rw [HN.out]; omega), by simp⟩
        obtain ⟨cs, hcs, hcat, hcl⟩ := HS.out
        have hst := replay_step rs k r hrk (newCells, 0)
        rw [hcs] at hst
        obtain ⟨_, _, e1, -, -, hat⟩ := HL.out _ HBr.out
        obtain ⟨b3, o3, e, hbB3, hrc⟩ := hat k r hrk
        simp at e1
        obtain ⟨rfl, -, -⟩ := e1
        subst e
        obtain ⟨rv, q0, q1, q2, q3, q4, hra⟩ := hrc
        obtain ⟨ra, rcp, er, -⟩ := hra.shape
        simp at er
        subst er
        generalize hrl : r.2.2.2.1.length = rl at *
        clear hat hrk hrl
        obtain ⟨W5, hW5⟩ : ∃ W5, W5 = wo.alloc (.cells #[.int .i64 r.1, .int .i64 r.2.1, .int .i64 r.2.2.1, .slice ra rl rcp, .int .i64 r.2.2.2.2] 38) := ⟨_, rfl⟩
        have hb5 : Below wo.heap.size wo W5 := by rw [hW5]; exact (Below.refl _ _).alloc (Nat.le_refl _) _
        have HCall : Hid (Calls Tryz.prog 42 #[.slice ca 4 cc, .agg #[.int .i64 r.1, .int .i64 r.2.1, .int .i64 r.2.2.1, .slice ra rl rcp, .int .i64 r.2.2.2.2]] W5 fun e w'' => ∃ v, e = .returned (.tuple #[v, .int .i64 (nextE cs r)]) ∧ CellsAt w''.heap.size w'' v (nextR cs r) ∧ Below W5.heap.size W5 w'') := HNx.out W5 _ _ cs r ((hcat.later hb5 (Nat.le_refl _)).wide hb5.size) (recAt_more (hra.later hb5 (by omega)) (by have := hb5.size; omega))
        have HBw5 : Hid (Below w.heap.size w W5) := Below.thenOf HBr.out hb5 HBr.out.size
        have HW5 : Hid (W5 = _) := hW5
        have HSt : Hid ((rs.take (k + 1)).foldl replayS (newCells, 0) = replayS (cs, 0) r) := hst
        have HCl : Hid (cs.length = 4) := hcl
        clear hW5 hb5 hra hcat hcs hst hcl HS
        go_wp2_with fail
        rw [← HW5.out]
        go_at_call 42
        refine Calls.mono HCall.out ?_
        rintro e w6 ⟨v6, rfl, hc6, hb6⟩
        have hb6w : Below w.heap.size w w6 := Below.thenOf HBw5.out hb6 HBw5.out.size
        obtain ⟨na, nc, ev, -, -⟩ := hc6.shape
        subst ev
        by_cases hne : nextE cs r = 0
        · have e1 : (rs.take (k + 1)).foldl replayS (newCells, 0) = (nextR cs r, 0) := by
            rw [HSt.out]
            unfold replayS
            rw [if_pos rfl]
            simp only
            rw [if_pos hne]
          have e2 : (nextR cs r).length = 4 := by
            rw [next_set hne, List.length_set]
            exact HCl.out
          rw [e2] at hc6 ⊢
          rw [hne]
          have HFin : Hid (∃ cs', (rs.take (k + 1)).foldl replayS (newCells, 0) = (cs', 0) ∧ CellsAt w6.heap.size w6 (.slice na 4 nc) cs' ∧ cs'.length = 4) := ⟨_, e1, hc6, e2⟩
          have HB6 : Hid (Below w.heap.size w w6) := hb6w
          clear e1 e2 hc6 hb6 hb6w hne HCall
          go_wp2_with fail
          exact ⟨⟨k + 1, by omega, by go_num, ⟨na, nc, rfl⟩, HFin, HB6⟩, by simp [intOf]; omega⟩
        · have e1 : (rs.take (k + 1)).foldl replayS (newCells, 0) = ([], nextE cs r) := by
            rw [HSt.out]
            unfold replayS
            rw [if_pos rfl]
            simp only
            rw [if_neg hne]
          have HZ : Hid (RV = [] ∧ RE = nextE cs r) := by
            have := HP'.out
            rw [replay_stop rs (k + 1) _ hne _ e1] at this
            unfold Hid
            simpa using this
          have HB6 : Hid (Below w.heap.size w w6) := hb6w
          have hq : (nextE cs r != 0) = true := by simpa using hne
          generalize (nextR cs r).length = nl at *
          generalize nextE cs r = ne at *
          clear e1 hc6 hb6 hb6w hne HCall
          go_wp2_with fail
          go_ret2
          exact ⟨_, by rw [HZ.out.2]; rfl, by rw [HZ.out.1]; exact cellsAt_nil _ _, HB6.out⟩
      · obtain ⟨cs, hcs, hcat, hcl⟩ := HS.out
        have HZ : Hid (RV = cs ∧ RE = 0) := by
          have := HP'.out
          rw [List.take_of_length_le (by rw [HN.out]; omega)] at hcs
          rw [hcs] at this
          unfold Hid
          simpa using this
        have HCt : Hid (CellsAt wo.heap.size wo (.slice ca 4 cc) cs) := hcat
        clear hcs hcat hcl HS
        go_wp2_with fail
        go_ret2
        exact ⟨_, by rw [HZ.out.2]; rfl, by rw [HZ.out.1]; exact HCt.out, HBr.out⟩
end Go.Proofs.YtbdlojnigflanacGreatDoor
end
section
/- The stricter policy, for the closed fact on chains. -/
set_option linter.all false
namespace Go.Proofs.YtbdlojnigflanacGreatDoor
open Go.RowKit Go.Maps

def strictS : ByteArray := ⟨#[107, 105, 108, 108, 32, 110, 114, 61, 51, 32, 97, 60, 53, 59, 108, 111, 103, 32, 107, 105, 110, 100, 33, 48, 59, 102, 97, 105, 108, 32, 98, 62, 55, 59, 97, 108, 108, 111, 119]⟩
def strictRs : List RuleT := [([(0, 1, 3), (2, 3, 5)], 0), ([(1, 2, 0)], 3), ([(3, 4, 7)], 2)]
def strictP : PolT := (strictRs, 4)
theorem d1_fail : Maps.has D1 (.string [102, 97, 105, 108]) = true ∧ D1.atKey (.string [102, 97, 105, 108]) zed = .lit (.int .i64 2) := by
  unfold D1 zed
  rw [Maps.has_put_other (strNe (by decide)), Maps.has_put_other (strNe (by decide)), Maps.atKey_put_other (strNe (by decide)), Maps.atKey_put_other (strNe (by decide))]
  exact ⟨Maps.has_put_same ((Maps.isMap_empty.put _ _).put _ _) (isKeyS _) _, Maps.atKey_put_same ((Maps.isMap_empty.put _ _).put _ _) (isKeyS _) _ _⟩
theorem d2_b : Maps.has D2 (.string [98]) = true ∧ D2.atKey (.string [98]) zed = .lit (.int .i64 3) := by
  unfold D2 zed
  rw [Maps.has_put_other (strNe (by decide)), Maps.atKey_put_other (strNe (by decide))]
  exact ⟨Maps.has_put_same (((Maps.isMap_empty.put _ _).put _ _).put _ _) (isKeyS _) _, Maps.atKey_put_same (((Maps.isMap_empty.put _ _).put _ _).put _ _) (isKeyS _) _ _⟩
theorem d3_from : D3.atKey (.int .u8 62) zed = .lit (.int .i64 4) := by
  unfold D3 zed
  exact Maps.atKey_put_same (((Maps.isMap_empty.put _ _).put _ _).put _ _) (isKeyB _) _ _
theorem goodB : GoodWord ⟨#[98, 62, 55]⟩ (3, 4, 7) := by
  refine ⟨1, 7, by decide, by decide, fun i hi => ?_, d3_from, by decide, d2_b.1, d2_b.2, rfl, by decide, by decide, by decide +kernel⟩
  obtain rfl : i = 0 := by omega
  exact d3_other _ (by decide)
theorem goodFailR : GoodRule ⟨#[102, 97, 105, 108, 32, 98, 62, 55]⟩ ([(3, 4, 7)], 2) := by
  refine ⟨⟨#[102, 97, 105, 108]⟩, [⟨#[98, 62, 55]⟩], by decide +kernel, by decide +kernel, by decide, d1_fail.1, d1_fail.2, by decide, rfl, by decide, fun j u c hu hc => ?_⟩
  match j, hu, hc with
  | 0, hu, hc => simp at hu hc; subst hu hc; exact goodB
  | j + 1, hu, hc => simp at hu
theorem goodStrict : GoodText 4 strictRs strictS := by
  refine ⟨⟨#[107, 105, 108, 108, 32, 110, 114, 61, 51, 32, 97, 60, 53]⟩, ⟨#[108, 111, 103, 32, 107, 105, 110, 100, 33, 48, 59, 102, 97, 105, 108, 32, 98, 62, 55, 59, 97, 108, 108, 111, 119]⟩, by decide, by decide +kernel, by decide, goodKill, ?_⟩
  refine ⟨⟨#[108, 111, 103, 32, 107, 105, 110, 100, 33, 48]⟩, ⟨#[102, 97, 105, 108, 32, 98, 62, 55, 59, 97, 108, 108, 111, 119]⟩, by decide, by decide +kernel, by decide, goodLog, ?_⟩
  refine ⟨⟨#[102, 97, 105, 108, 32, 98, 62, 55]⟩, ⟨#[97, 108, 108, 111, 119]⟩, by decide, by decide +kernel, by decide, goodFailR, ?_⟩
  exact ⟨by decide, by decide +kernel, by decide +kernel, by decide +kernel, d1_allow.1, d1_allow.2⟩
theorem strictOk : polErr strictP = 0 := by decide

set_option maxHeartbeats 1000000 in
theorem strict_any (w : World) (he : EnvAt w) :
    Calls Tryz.prog 59 #[] w fun e w' => ∃ pv, e = .returned pv ∧ PolNew w.heap.size w' pv strictP ∧ Below w.heap.size w w' := by
  have hrd : Hid (∀ X, Calls Tryz.prog 86 #[.string strictS] (w.alloc X) fun e w' => ∃ pv, e = .returned (.tuple #[pv, .int .i64 0]) ∧ PolNew (w.heap.size + 1) w' pv strictP ∧ Below (w.alloc X).heap.size (w.alloc X) w') := by
    intro X
    obtain ⟨mm, hm⟩ := he.later ((Below.refl _ _).alloc (Nat.le_refl _) X)
    have := policyRead_good strictS strictRs 4 goodStrict (verdictWf (by decide)) strictOk mm _ hm
    refine this.mono fun e w' ⟨pv, h1, h2, h3⟩ => ⟨pv, h1, ?_, h3⟩
    rw [World.size_alloc] at h2
    exact h2
  have hb : ∀ X, Below w.heap.size w (w.alloc X) := fun X => (Below.refl _ _).alloc (Nat.le_refl _) _
  go_enter Tryz.func59, Tryz.ntmps59
  go_wp2_with (first | (go_at_call 86; go_must (refine Calls.mono (hrd.out _) ?_; rintro e w1 ⟨pv, rfl, hp, hb1⟩; have hp' : Hid (PolNew (w.heap.size + 1) w1 pv strictP) := hp; obtain ⟨rv, rfl, hwf, hr⟩ := hp.at; obtain ⟨ra, rcap, rfl, _, _, _⟩ := hr; have hs1 := hb1.size; have HR1 := (hb1.block w.heap.size (by simp)).trans (MapKept.heap_alloc w _).1; have HR2 : ∀ X, (w1.alloc X).heap[w.heap.size]? = some (.cells #[.slice none 0 0, .int .i64 0] 24 (0, 0)) := fun X => (Below.heap_alloc _ _ _ (by simp at hs1; omega)).trans HR1; have t0 : ∀ X, (w1.alloc X).cell? ⟨w.heap.size, 0, none⟩ = some (.slice none 0 0) := fun X => (cell_of_two (HR2 X)).1; have t1 : ∀ X, (w1.alloc X).cell? ⟨w.heap.size, 1, none⟩ = some (.int .i64 0) := fun X => (cell_of_two (HR2 X)).2.1; have t2 : ∀ X, (w1.alloc X).frozen? ⟨w.heap.size, 0, none⟩ = false := fun X => (cell_of_two (HR2 X)).2.2.1; have t3 : ∀ X, (w1.alloc X).frozen? ⟨w.heap.size, 1, none⟩ = false := fun X => (cell_of_two (HR2 X)).2.2.2)))
  have hbF : Below w.heap.size w (((w1.alloc (.cells #[.slice ra strictP.1.length rcap, .int .i64 strictP.2] 24)).setCell ⟨w.heap.size, 0, none⟩ (.slice ra strictP.1.length rcap)).setCell ⟨w.heap.size, 1, none⟩ (.int .i64 strictP.2)) := (((((hb _).trans (hb1.mono (by simp))).alloc (by simp at hs1; omega) _).setCell (p := ⟨w.heap.size, 0, none⟩) (Nat.le_refl _) _).setCell (p := ⟨w.heap.size, 1, none⟩) (Nat.le_refl _) _)
  have HRF := two_setCell1 (u := .int .i64 strictP.2) (two_setCell (u := .slice ra strictP.1.length rcap) (HR2 (.cells #[.slice ra strictP.1.length rcap, .int .i64 strictP.2] 24)))
  obtain ⟨z0, z1, _, _⟩ := cell_of_two HRF
  refine bodyPost_ret (v := .agg #[.slice ra strictP.1.length rcap, .int .i64 strictP.2]) ?_ rfl ⟨_, rfl, fun wF l1 l2 => hp'.out wF (fun g h1 h2 => (l1 g (by omega) (by simp; omega)).trans ?_) (Nat.le_trans (by simp) l2), hbF⟩
  · rw [results_cell1 rfl]
    go_simp
  · rw [Below.heap_setCell _ _ _ _ (by show g ≠ w.heap.size; omega), Below.heap_setCell _ _ _ _ (by show g ≠ w.heap.size; omega), Below.heap_alloc _ _ _ h2]


end Go.Proofs.YtbdlojnigflanacGreatDoor
end
