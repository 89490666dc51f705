/- Joined: KpD Tig0 Opn. -/
import Derived.Test.YtbdlojnigflanacGreatDoorKa43
import Derived.Test.YtbdlojnigflanacGreatDoorKa06
import Derived.Test.YtbdlojnigflanacGreatDoorKa41
import Derived.Test.YtbdlojnigflanacGreatDoorKa08
section
/- Package keeper: Replay. -/
set_option linter.all false
set_option maxRecDepth 100000
namespace Go.Proofs.YtbdlojnigflanacGreatDoor
open Go.RowKit Go.Maps

set_option maxHeartbeats 8000000 in
theorem replayKp_any (B : Nat) (lv : Value) (rs : List RecT) (w : World) (hl : RecsAt B w lv rs) (hB : B ≤ w.heap.size) :
    Calls Tryz.prog 50 #[lv] w fun e w' => ∃ v, e = .returned (.tuple #[v, .int .i64 (replayP rs).2]) ∧ CellsAt w'.heap.size w' v (replayP rs).1 ∧ Below w.heap.size w w' := by
  have HL : Hid (∀ w', Below w.heap.size w w' → RecsAt B w' lv rs) := fun w' h => hl.later h hB
  have HNx : Hid (∀ w' cv rv cs r, CellsAt w'.heap.size w' cv cs → RecAt w'.heap.size w' rv r → Calls Tryz.prog 42 #[cv, rv] w' fun e w'' => ∃ v, e = .returned (.tuple #[v, .int .i64 (nextE cs r)]) ∧ CellsAt w''.heap.size w'' v (nextR cs r) ∧ Below w'.heap.size w' w'') := fun w' cv rv cs r h1 h2 => nextKp_any w'.heap.size cv rv cs r w' h1 h2 (Nat.le_refl _)
  have HP : Hid (replayP rs = if 40 < rs.length then ([], 2) else rs.foldl replayS (newCells, 0)) := rfl
  obtain ⟨a, cap, rfl, hlc, hcm, -⟩ := hl
  have hml := maxLen_eq
  obtain ⟨n, hn⟩ : ∃ n, n = rs.length := ⟨_, rfl⟩
  have HN : Hid (rs.length = n) := hn.symm
  rw [← hn] at HP HL hlc ⊢
  clear hn
  obtain ⟨RV, hRV⟩ : ∃ x, x = (replayP rs).1 := ⟨_, rfl⟩
  obtain ⟨RE, hRE⟩ : ∃ x, x = (replayP rs).2 := ⟨_, rfl⟩
  have HRes : Hid ((RV, RE) = replayP rs) := by rw [hRV, hRE]; rfl
  rw [← hRV, ← hRE]
  clear hRV hRE
  by_cases h40 : 40 < n
  · have h40' : (40 : Int) < (n : Int) := by omega
    have HZ : Hid (RV = [] ∧ RE = 2) := by
      have := HRes.out
      rw [HP.out, if_pos h40] at this
      unfold Hid
      simpa using this
    go_enter Tryz.func50, Tryz.ntmps50
    go_wp2_with fail
    go_ret2
    exact ⟨_, by rw [HZ.out.2]; rfl, by rw [HZ.out.1]; exact cellsAt_nil _ _, Below.refl _ _⟩
  · have h40' : ¬ (40 : Int) < (n : Int) := by omega
    have HP' : Hid ((RV, RE) = rs.foldl replayS (newCells, 0)) := by unfold Hid; rw [HRes.out, HP.out, if_neg h40]
    clear HP HRes
    go_enter Tryz.func50, Tryz.ntmps50
    go_wp2_with fail
    go_at_call 49
    refine Calls.mono (newKp_any w) ?_
    rintro e W1 ⟨v1, rfl, hnew, hb1⟩
    obtain ⟨ca1, cc1, ev1, -, -⟩ := hnew.shape
    have HNew : Hid (CellsAt W1.heap.size W1 v1 newCells) := hnew
    have e4 : newCells.length = 4 := rfl
    rw [e4] at ev1
    subst ev1
    clear hnew e4
    go_wp2_with fail
    go_loopw [4, 15] (fun cv iv wr => ∃ k : Nat, k ≤ n ∧ iv = .int .i64 k ∧ (∃ ca cc, cv = .slice ca 4 cc) ∧ Hid (∃ cs, (rs.take k).foldl replayS (newCells, 0) = (cs, 0) ∧ CellsAt wr.heap.size wr cv cs ∧ cs.length = 4) ∧ Hid (Below w.heap.size w wr)) (fun _ iv _ => n - (intOf iv).toNat)
    case atStart => exact ⟨0, by omega, rfl, ⟨_, _, rfl⟩, ⟨newCells, rfl, HNew.out, rfl⟩, hb1⟩
    case round =>
      obtain ⟨k, hk, rfl, ⟨ca, cc, rfl⟩, HS, HBr⟩ := hrel
      obtain ⟨wo, hwo⟩ : ∃ x, x = wr := ⟨_, rfl⟩
      subst hwo
      have i0 : (0 : Int) ≤ (k : Int) := by omega
      have hos := HBr.out.size
      by_cases hlt : k < n
      · have i1 : (k : Int) < (n : Int) := by omega
        obtain ⟨r, hrk⟩ : ∃ r, rs[k]? = some r := ⟨rs[k]'(by rw [HN.out]; omega), by simp⟩
        obtain ⟨cs, hcs, hcat, hcl⟩ := HS.out
        have hst := replay_step rs k r hrk (newCells, 0)
        rw [hcs] at hst
        obtain ⟨_, _, e1, -, -, hat⟩ := HL.out _ HBr.out
        obtain ⟨b3, o3, e, hbB3, hrc⟩ := hat k r hrk
        simp at e1
        obtain ⟨rfl, -, -⟩ := e1
        subst e
        obtain ⟨rv, q0, q1, q2, q3, q4, hra⟩ := hrc
        obtain ⟨ra, rcp, er, -⟩ := hra.shape
        simp at er
        subst er
        generalize hrl : r.2.2.2.1.length = rl at *
        clear hat hrk hrl
        obtain ⟨W5, hW5⟩ : ∃ W5, W5 = wo.alloc (.cells #[.int .i64 r.1, .int .i64 r.2.1, .int .i64 r.2.2.1, .slice ra rl rcp, .int .i64 r.2.2.2.2] 38) := ⟨_, rfl⟩
        have hb5 : Below wo.heap.size wo W5 := by rw [hW5]; exact (Below.refl _ _).alloc (Nat.le_refl _) _
        have HCall : Hid (Calls Tryz.prog 42 #[.slice ca 4 cc, .agg #[.int .i64 r.1, .int .i64 r.2.1, .int .i64 r.2.2.1, .slice ra rl rcp, .int .i64 r.2.2.2.2]] W5 fun e w'' => ∃ v, e = .returned (.tuple #[v, .int .i64 (nextE cs r)]) ∧ CellsAt w''.heap.size w'' v (nextR cs r) ∧ Below W5.heap.size W5 w'') := HNx.out W5 _ _ cs r ((hcat.later hb5 (Nat.le_refl _)).wide hb5.size) (recAt_more (hra.later hb5 (by omega)) (by have := hb5.size; omega))
        have HBw5 : Hid (Below w.heap.size w W5) := Below.thenOf HBr.out hb5 HBr.out.size
        have HW5 : Hid (W5 = _) := hW5
        have HSt : Hid ((rs.take (k + 1)).foldl replayS (newCells, 0) = replayS (cs, 0) r) := hst
        have HCl : Hid (cs.length = 4) := hcl
        clear hW5 hb5 hra hcat hcs hst hcl HS
        go_wp2_with fail
        rw [← HW5.out]
        go_at_call 42
        refine Calls.mono HCall.out ?_
        rintro e w6 ⟨v6, rfl, hc6, hb6⟩
        have hb6w : Below w.heap.size w w6 := Below.thenOf HBw5.out hb6 HBw5.out.size
        obtain ⟨na, nc, ev, -, -⟩ := hc6.shape
        subst ev
        by_cases hne : nextE cs r = 0
        · have e1 : (rs.take (k + 1)).foldl replayS (newCells, 0) = (nextR cs r, 0) := by
            rw [HSt.out]
            unfold replayS
            rw [if_pos rfl]
            simp only
            rw [if_pos hne]
          have e2 : (nextR cs r).length = 4 := by
            rw [next_set hne, List.length_set]
            exact HCl.out
          rw [e2] at hc6 ⊢
          rw [hne]
          have HFin : Hid (∃ cs', (rs.take (k + 1)).foldl replayS (newCells, 0) = (cs', 0) ∧ CellsAt w6.heap.size w6 (.slice na 4 nc) cs' ∧ cs'.length = 4) := ⟨_, e1, hc6, e2⟩
          have HB6 : Hid (Below w.heap.size w w6) := hb6w
          clear e1 e2 hc6 hb6 hb6w hne HCall
          go_wp2_with fail
          exact ⟨⟨k + 1, by omega, by go_num, ⟨na, nc, rfl⟩, HFin, HB6⟩, by simp [intOf]; omega⟩
        · have e1 : (rs.take (k + 1)).foldl replayS (newCells, 0) = ([], nextE cs r) := by
            rw [HSt.out]
            unfold replayS
            rw [if_pos rfl]
            simp only
            rw [if_neg hne]
          have HZ : Hid (RV = [] ∧ RE = nextE cs r) := by
            have := HP'.out
            rw [replay_stop rs (k + 1) _ hne _ e1] at this
            unfold Hid
            simpa using this
          have HB6 : Hid (Below w.heap.size w w6) := hb6w
          have hq : (nextE cs r != 0) = true := by simpa using hne
          generalize (nextR cs r).length = nl at *
          generalize nextE cs r = ne at *
          clear e1 hc6 hb6 hb6w hne HCall
          go_wp2_with fail
          go_ret2
          exact ⟨_, by rw [HZ.out.2]; rfl, by rw [HZ.out.1]; exact cellsAt_nil _ _, HB6.out⟩
      · obtain ⟨cs, hcs, hcat, hcl⟩ := HS.out
        have HZ : Hid (RV = cs ∧ RE = 0) := by
          have := HP'.out
          rw [List.take_of_length_le (by rw [HN.out]; omega)] at hcs
          rw [hcs] at this
          unfold Hid
          simpa using this
        have HCt : Hid (CellsAt wo.heap.size wo (.slice ca 4 cc) cs) := hcat
        clear hcs hcat hcl HS
        go_wp2_with fail
        go_ret2
        exact ⟨_, by rw [HZ.out.2]; rfl, by rw [HZ.out.1]; exact HCt.out, HBr.out⟩
end Go.Proofs.YtbdlojnigflanacGreatDoor
end
section
/- The stricter policy, for the closed fact on chains. -/
set_option linter.all false
namespace Go.Proofs.YtbdlojnigflanacGreatDoor
open Go.RowKit Go.Maps

def strictS : ByteArray := ⟨#[107, 105, 108, 108, 32, 110, 114, 61, 51, 32, 97, 60, 53, 59, 108, 111, 103, 32, 107, 105, 110, 100, 33, 48, 59, 102, 97, 105, 108, 32, 98, 62, 55, 59, 97, 108, 108, 111, 119]⟩
def strictRs : List RuleT := [([(0, 1, 3), (2, 3, 5)], 0), ([(1, 2, 0)], 3), ([(3, 4, 7)], 2)]
def strictP : PolT := (strictRs, 4)
theorem d1_fail : Maps.has D1 (.string [102, 97, 105, 108]) = true ∧ D1.atKey (.string [102, 97, 105, 108]) zed = .lit (.int .i64 2) := by
  unfold D1 zed
  rw [Maps.has_put_other (strNe (by decide)), Maps.has_put_other (strNe (by decide)), Maps.atKey_put_other (strNe (by decide)), Maps.atKey_put_other (strNe (by decide))]
  exact ⟨Maps.has_put_same ((Maps.isMap_empty.put _ _).put _ _) (isKeyS _) _, Maps.atKey_put_same ((Maps.isMap_empty.put _ _).put _ _) (isKeyS _) _ _⟩
theorem d2_b : Maps.has D2 (.string [98]) = true ∧ D2.atKey (.string [98]) zed = .lit (.int .i64 3) := by
  unfold D2 zed
  rw [Maps.has_put_other (strNe (by decide)), Maps.atKey_put_other (strNe (by decide))]
  exact ⟨Maps.has_put_same (((Maps.isMap_empty.put _ _).put _ _).put _ _) (isKeyS _) _, Maps.atKey_put_same (((Maps.isMap_empty.put _ _).put _ _).put _ _) (isKeyS _) _ _⟩
theorem d3_from : D3.atKey (.int .u8 62) zed = .lit (.int .i64 4) := by
  unfold D3 zed
  exact Maps.atKey_put_same (((Maps.isMap_empty.put _ _).put _ _).put _ _) (isKeyB _) _ _
theorem goodB : GoodWord ⟨#[98, 62, 55]⟩ (3, 4, 7) := by
  refine ⟨1, 7, by decide, by decide, fun i hi => ?_, d3_from, by decide, d2_b.1, d2_b.2, rfl, by decide, by decide, by decide +kernel⟩
  obtain rfl : i = 0 := by omega
  exact d3_other _ (by decide)
theorem goodFailR : GoodRule ⟨#[102, 97, 105, 108, 32, 98, 62, 55]⟩ ([(3, 4, 7)], 2) := by
  refine ⟨⟨#[102, 97, 105, 108]⟩, [⟨#[98, 62, 55]⟩], by decide +kernel, by decide +kernel, by decide, d1_fail.1, d1_fail.2, by decide, rfl, by decide, fun j u c hu hc => ?_⟩
  match j, hu, hc with
  | 0, hu, hc => simp at hu hc; subst hu hc; exact goodB
  | j + 1, hu, hc => simp at hu
theorem goodStrict : GoodText 4 strictRs strictS := by
  refine ⟨⟨#[107, 105, 108, 108, 32, 110, 114, 61, 51, 32, 97, 60, 53]⟩, ⟨#[108, 111, 103, 32, 107, 105, 110, 100, 33, 48, 59, 102, 97, 105, 108, 32, 98, 62, 55, 59, 97, 108, 108, 111, 119]⟩, by decide, by decide +kernel, by decide, goodKill, ?_⟩
  refine ⟨⟨#[108, 111, 103, 32, 107, 105, 110, 100, 33, 48]⟩, ⟨#[102, 97, 105, 108, 32, 98, 62, 55, 59, 97, 108, 108, 111, 119]⟩, by decide, by decide +kernel, by decide, goodLog, ?_⟩
  refine ⟨⟨#[102, 97, 105, 108, 32, 98, 62, 55]⟩, ⟨#[97, 108, 108, 111, 119]⟩, by decide, by decide +kernel, by decide, goodFailR, ?_⟩
  exact ⟨by decide, by decide +kernel, by decide +kernel, by decide +kernel, d1_allow.1, d1_allow.2⟩
theorem strictOk : polErr strictP = 0 := by decide

set_option maxHeartbeats 1000000 in
theorem strict_any (w : World) (he : EnvAt w) :
    Calls Tryz.prog 59 #[] w fun e w' => ∃ pv, e = .returned pv ∧ PolNew w.heap.size w' pv strictP ∧ Below w.heap.size w w' := by
  have hrd : Hid (∀ X, Calls Tryz.prog 86 #[.string strictS] (w.alloc X) fun e w' => ∃ pv, e = .returned (.tuple #[pv, .int .i64 0]) ∧ PolNew (w.heap.size + 1) w' pv strictP ∧ Below (w.alloc X).heap.size (w.alloc X) w') := by
    intro X
    obtain ⟨mm, hm⟩ := he.later ((Below.refl _ _).alloc (Nat.le_refl _) X)
    have := policyRead_good strictS strictRs 4 goodStrict (verdictWf (by decide)) strictOk mm _ hm
    refine this.mono fun e w' ⟨pv, h1, h2, h3⟩ => ⟨pv, h1, ?_, h3⟩
    rw [World.size_alloc] at h2
    exact h2
  have hb : ∀ X, Below w.heap.size w (w.alloc X) := fun X => (Below.refl _ _).alloc (Nat.le_refl _) _
  go_enter Tryz.func59, Tryz.ntmps59
  go_wp2_with (first | (go_at_call 86; go_must (refine Calls.mono (hrd.out _) ?_; rintro e w1 ⟨pv, rfl, hp, hb1⟩; have hp' : Hid (PolNew (w.heap.size + 1) w1 pv strictP) := hp; obtain ⟨rv, rfl, hwf, hr⟩ := hp.at; obtain ⟨ra, rcap, rfl, _, _, _⟩ := hr; have hs1 := hb1.size; have HR1 := (hb1.block w.heap.size (by simp)).trans (MapKept.heap_alloc w _).1; have HR2 : ∀ X, (w1.alloc X).heap[w.heap.size]? = some (.cells #[.slice none 0 0, .int .i64 0] 24 (0, 0)) := fun X => (Below.heap_alloc _ _ _ (by simp at hs1; omega)).trans HR1; have t0 : ∀ X, (w1.alloc X).cell? ⟨w.heap.size, 0, none⟩ = some (.slice none 0 0) := fun X => (cell_of_two (HR2 X)).1; have t1 : ∀ X, (w1.alloc X).cell? ⟨w.heap.size, 1, none⟩ = some (.int .i64 0) := fun X => (cell_of_two (HR2 X)).2.1; have t2 : ∀ X, (w1.alloc X).frozen? ⟨w.heap.size, 0, none⟩ = false := fun X => (cell_of_two (HR2 X)).2.2.1; have t3 : ∀ X, (w1.alloc X).frozen? ⟨w.heap.size, 1, none⟩ = false := fun X => (cell_of_two (HR2 X)).2.2.2)))
  have hbF : Below w.heap.size w (((w1.alloc (.cells #[.slice ra strictP.1.length rcap, .int .i64 strictP.2] 24)).setCell ⟨w.heap.size, 0, none⟩ (.slice ra strictP.1.length rcap)).setCell ⟨w.heap.size, 1, none⟩ (.int .i64 strictP.2)) := (((((hb _).trans (hb1.mono (by simp))).alloc (by simp at hs1; omega) _).setCell (p := ⟨w.heap.size, 0, none⟩) (Nat.le_refl _) _).setCell (p := ⟨w.heap.size, 1, none⟩) (Nat.le_refl _) _)
  have HRF := two_setCell1 (u := .int .i64 strictP.2) (two_setCell (u := .slice ra strictP.1.length rcap) (HR2 (.cells #[.slice ra strictP.1.length rcap, .int .i64 strictP.2] 24)))
  obtain ⟨z0, z1, _, _⟩ := cell_of_two HRF
  refine bodyPost_ret (v := .agg #[.slice ra strictP.1.length rcap, .int .i64 strictP.2]) ?_ rfl ⟨_, rfl, fun wF l1 l2 => hp'.out wF (fun g h1 h2 => (l1 g (by omega) (by simp; omega)).trans ?_) (Nat.le_trans (by simp) l2), hbF⟩
  · rw [results_cell1 rfl]
    go_simp
  · rw [Below.heap_setCell _ _ _ _ (by show g ≠ w.heap.size; omega), Below.heap_setCell _ _ _ _ (by show g ≠ w.heap.size; omega), Below.heap_alloc _ _ _ h2]


end Go.Proofs.YtbdlojnigflanacGreatDoor
end
section
/- opened: the closed fact that every statement on sessions asks first. -/
set_option linter.all false
set_option maxRecDepth 100000
namespace Go.Proofs.YtbdlojnigflanacGreatDoor
open Go.RowKit Go.Maps

def opnD : PolT := ([([(0, 1, 3), (2, 3, 5), (0, 1, 3), (2, 3, 5)], 4), ([(1, 2, 0), (1, 2, 0)], 4), ([(3, 4, 7)], 2)], 4)
def opnRs : List RecT := [(1, 1, 0, madeP), (2, 1, 0, strictP), (3, 2, 1, [], 0)]
def opnL : List CellT := [zeroCell, (true, [polI madeP, polI opnD], strictP), (true, [polI strictP], strictP), zeroCell]
theorem opn_replay : replayP opnRs = (opnL, 0) := by decide +kernel
theorem opn_loose : nextE opnL (2, 1, 0, madeP) = 7 := by decide +kernel
theorem opn_shut : nextE opnL (4, 1, 0, [], 0) = 0 ∧ nextR opnL (4, 1, 0, [], 0) = [zeroCell, zeroCell, (true, [polI strictP], strictP), zeroCell] := by decide +kernel
theorem opn_check : cellsErr opnL = 0 := by decide +kernel

/-- What stands in the fact's last region: 36 (a policy made). -/
def JOp (W : World) (fs : Nat → Value → Prop) (w : World) : Prop := Below W.heap.size W w ∧ ∀ v, fs 36 v → PolAt w.heap.size w v strictP
theorem JOp.call {W w w' : World} {fs : Nat → Value → Prop} (h : JOp W fs w) (hb : Below w.heap.size w w') (k : Nat) (hk : 36 ≠ k) (v : Value) : JOp W (addF fs k v) w' := by
  refine ⟨Below.thenOf h.1 hb h.1.size, fun u hu => ?_⟩
  rcases hu with hu | ⟨e, _⟩
  · exact polAt_wideK ((h.2 u hu).later hb (Nat.le_refl _)) hb.size
  · exact absurd e hk
def SOp (k : Nat) (v : Value) : Prop := if k = 36 then ∃ a c, v = .agg #[.slice a 3 c, .int .i64 4] else if k = 55 then v = .int .i64 0 else v = .bool true
theorem sOp_some (k : Nat) : ∃ v, SOp k v := by
  unfold SOp
  split
  · exact ⟨_, none, 0, rfl⟩
  · split
    · exact ⟨_, rfl⟩
    · exact ⟨_, rfl⟩

set_option maxHeartbeats 8000000 in
theorem opened_true (w : World) (he : EnvAt w) :
    Calls Tryz.prog 44 #[] w fun e w' => e = .returned (.bool true) ∧ Below w.heap.size w w' := by
  have HE : Hid (∀ w', Below w.heap.size w w' → EnvAt w') := fun w' h => he.later h
  clear he
  have hml := maxLen_eq
  go_enter Tryz.func44, Tryz.ntmps44
  go_wp2_with fail
  go_at_call 58
  refine Calls.mono (made_any _ (HE.out _ (Below.refl _ _))) ?_
  rintro e w1 ⟨p1, rfl, hp1, hb1⟩
  have hq1 := hp1.at
  obtain ⟨a1, c1, rfl⟩ : ∃ a c, p1 = .agg #[.slice a 2 c, .int .i64 4] := by
    obtain ⟨rv, e1, -, da, dc, e2, -⟩ := hq1
    exact ⟨da, dc, by rw [e1, e2]; rfl⟩
  clear hp1
  go_wp2_with fail
  go_at_call 59
  refine Calls.mono (strict_any _ (HE.out _ hb1)) ?_
  rintro e w2 ⟨p2, rfl, hp2, hb2⟩
  have hq2 := hp2.at
  have hb2w : Below w.heap.size w w2 := Below.thenOf hb1 hb2 hb1.size
  obtain ⟨a2, c2, rfl⟩ : ∃ a c, p2 = .agg #[.slice a 3 c, .int .i64 4] := by
    obtain ⟨rv, e1, -, da, dc, e2, -⟩ := hq2
    exact ⟨da, dc, by rw [e1, e2]; rfl⟩
  clear hp2
  obtain ⟨W3, hW3⟩ : ∃ W3, W3 = w2.alloc (.cells #[.int .i64 1, .int .i64 1, .int .i64 0, .slice a1 2 c1, .int .i64 4, .int .i64 2, .int .i64 1, .int .i64 0, .slice a2 3 c2, .int .i64 4, .int .i64 3, .int .i64 2, .int .i64 1, .slice none 0 0, .int .i64 0] 38) := ⟨_, rfl⟩
  have hb3 : Below w2.heap.size w2 W3 := by rw [hW3]; exact (Below.refl _ _).alloc (Nat.le_refl _) _
  have hs3 : W3.heap.size = w2.heap.size + 1 := by rw [hW3]; simp
  have g3 : W3.heap[w2.heap.size]? = some (.cells #[.int .i64 1, .int .i64 1, .int .i64 0, .slice a1 2 c1, .int .i64 4, .int .i64 2, .int .i64 1, .int .i64 0, .slice a2 3 c2, .int .i64 4, .int .i64 3, .int .i64 2, .int .i64 1, .slice none 0 0, .int .i64 0] 38 (0, 0)) := by rw [hW3]; exact heap_made _ _
  have hb3w : Below w.heap.size w W3 := Below.thenOf hb2w hb3 hb2w.size
  have hR3 : RecsAt W3.heap.size W3 (.slice (some ⟨w2.heap.size, 0, none⟩) 3 3) opnRs := by
    have w0 : ∀ n : Int, 0 ≤ n ∧ n ≤ 4 → wf n := fun n h => WalkArith.wf_i64 (by omega)
    refine ⟨_, 3, rfl, Nat.le_refl _, by rw [maxLen_eq]; omega, fun i r hr => ⟨w2.heap.size, 0, rfl, by omega, ?_⟩⟩
    match i, hr with
    | 0, hr =>
      simp [opnRs] at hr
      subst hr
      exact ⟨_, heap_cell g3 0 rfl, heap_cell g3 1 rfl, heap_cell g3 2 rfl, heap_cell g3 3 rfl, heap_cell g3 4 rfl, _, rfl, w0 _ (by decide), w0 _ (by decide), w0 _ (by decide), polAt_wideK (hq1.later (Below.thenOf hb2 hb3 hb2.size) (Nat.le_refl _)) (by have := hb2.size; omega)⟩
    | 1, hr =>
      simp [opnRs] at hr
      subst hr
      exact ⟨_, heap_cell g3 5 rfl, heap_cell g3 6 rfl, heap_cell g3 7 rfl, heap_cell g3 8 rfl, heap_cell g3 9 rfl, _, rfl, w0 _ (by decide), w0 _ (by decide), w0 _ (by decide), polAt_wideK (hq2.later hb3 (Nat.le_refl _)) (by omega)⟩
    | 2, hr =>
      simp [opnRs] at hr
      subst hr
      exact ⟨_, heap_cell g3 10 rfl, heap_cell g3 11 rfl, heap_cell g3 12 rfl, heap_cell g3 13 rfl, heap_cell g3 14 rfl, _, rfl, w0 _ (by decide), w0 _ (by decide), w0 _ (by decide), polAt_zero _ _⟩
    | i + 3, hr => simp [opnRs] at hr
  have HRp : Hid (Calls Tryz.prog 50 #[.slice (some ⟨w2.heap.size, 0, none⟩) 3 3] W3 fun e w' => ∃ la lc, e = .returned (.tuple #[.slice la 4 lc, .int .i64 0]) ∧ CellsAt w'.heap.size w' (.slice la 4 lc) opnL ∧ Below W3.heap.size W3 w') := by
    have := replayKp_any W3.heap.size _ opnRs W3 hR3 (Nat.le_refl _)
    rw [opn_replay] at this
    refine this.mono fun e w' ⟨v, h1, h2, h3⟩ => ?_
    obtain ⟨la, lc, ev, -, -⟩ := h2.shape
    subst ev
    exact ⟨la, lc, h1, h2, h3⟩
  have HW3 : Hid (W3 = _) := hW3
  clear hW3 hb3 hs3 g3 hR3 hq1 hq2 hb1 hb2 hb2w
  go_wp2_with fail
  rw [← HW3.out]
  go_at_call 50
  refine Calls.mono HRp.out ?_
  rintro e w4 ⟨la, lc, rfl, hl4, hb4⟩
  have hb4w : Below w.heap.size w w4 := Below.thenOf hb3w hb4 hb3w.size
  have HL4 : Hid (∀ w', Below w4.heap.size w4 w' → CellsAt w4.heap.size w' (.slice la 4 lc) opnL) := fun w' h => hl4.later h (Nat.le_refl _)
  clear hl4 hb4 HRp hb3w
  go_wp2_with fail
  go_at_call 58
  refine Calls.mono (made_any _ (HE.out _ hb4w)) ?_
  rintro e w5 ⟨p5, rfl, hp5, hb5⟩
  have hq5 := hp5.at
  have hb5w : Below w.heap.size w w5 := Below.thenOf hb4w hb5 hb4w.size
  obtain ⟨a5, c5, rfl⟩ : ∃ a c, p5 = .agg #[.slice a 2 c, .int .i64 4] := by
    obtain ⟨rv, e1, -, da, dc, e2, -⟩ := hq5
    exact ⟨da, dc, by rw [e1, e2]; rfl⟩
  have HN5 : Hid (Calls Tryz.prog 42 #[.slice la 4 lc, .agg #[.int .i64 2, .int .i64 1, .int .i64 0, .slice a5 2 c5, .int .i64 4]] w5 fun e w' => ∃ na nn nc, e = .returned (.tuple #[.slice na nn nc, .int .i64 7]) ∧ Below w5.heap.size w5 w') := by
    have w0 : ∀ n : Int, 0 ≤ n ∧ n ≤ 4 → wf n := fun n h => WalkArith.wf_i64 (by omega)
    have := nextKp_any w5.heap.size _ (.agg #[.int .i64 2, .int .i64 1, .int .i64 0, .slice a5 2 c5, .int .i64 4]) opnL (2, 1, 0, madeP) w5 ((HL4.out _ hb5).wide hb5.size) ⟨_, rfl, w0 _ (by decide), w0 _ (by decide), w0 _ (by decide), hq5⟩ (Nat.le_refl _)
    rw [opn_loose] at this
    refine this.mono fun e w' ⟨v, h1, h2, h3⟩ => ?_
    obtain ⟨na, nc, ev, -, -⟩ := h2.shape
    subst ev
    exact ⟨na, _, nc, h1, h3⟩
  clear hp5 hq5
  go_wp2_with fail
  go_at_call 42
  refine Calls.mono HN5.out ?_
  rintro e w6 ⟨na, nn, nc, rfl, hb6⟩
  have hb46 : Below w4.heap.size w4 w6 := Below.thenOf hb5 hb6 hb5.size
  have hb6w : Below w.heap.size w w6 := Below.thenOf hb5w hb6 hb5w.size
  have HN6 : Hid (Calls Tryz.prog 42 #[.slice la 4 lc, .agg #[.int .i64 4, .int .i64 1, .int .i64 0, .slice none 0 0, .int .i64 0]] w6 fun e w' => ∃ ma mc, e = .returned (.tuple #[.slice ma 4 mc, .int .i64 0]) ∧ CellsAt w'.heap.size w' (.slice ma 4 mc) [zeroCell, zeroCell, (true, [polI strictP], strictP), zeroCell] ∧ Below w6.heap.size w6 w') := by
    have w0 : ∀ n : Int, 0 ≤ n ∧ n ≤ 4 → wf n := fun n h => WalkArith.wf_i64 (by omega)
    have := nextKp_any w6.heap.size _ (.agg #[.int .i64 4, .int .i64 1, .int .i64 0, .slice none 0 0, .int .i64 0]) opnL (4, 1, 0, [], 0) w6 ((HL4.out _ hb46).wide hb46.size) ⟨_, rfl, w0 _ (by decide), w0 _ (by decide), w0 _ (by decide), polAt_zero _ _⟩ (Nat.le_refl _)
    rw [opn_shut.1, opn_shut.2] at this
    refine this.mono fun e w' ⟨v, h1, h2, h3⟩ => ?_
    obtain ⟨na, nc, ev, -, -⟩ := h2.shape
    subst ev
    exact ⟨na, nc, h1, h2, h3⟩
  clear HN5 hb5 hb6 hb5w
  go_wp2_with fail
  go_at_call 42
  refine Calls.mono HN6.out ?_
  rintro e w7 ⟨ma, mc, rfl, hm7, hb7⟩
  have hb47 : Below w4.heap.size w4 w7 := Below.thenOf hb46 hb7 hb46.size
  have hb7w : Below w.heap.size w w7 := Below.thenOf hb6w hb7 hb6w.size
  obtain ⟨_, _, el, -, -, hat⟩ := HL4.out _ hb47
  simp at el
  obtain ⟨rfl, -, -⟩ := el
  obtain ⟨b, o, e0, hb0, hin0⟩ := hat 0 _ rfl
  subst e0
  obtain ⟨_, _, e1, -, hin1⟩ := hat 1 _ rfl
  simp at e1
  obtain ⟨rfl, rfl⟩ := e1
  obtain ⟨_, _, e2, -, hin2⟩ := hat 2 _ rfl
  simp at e2
  obtain ⟨rfl, rfl⟩ := e2
  obtain ⟨_, _, em, -, -, hatm⟩ := id hm7
  simp at em
  obtain ⟨rfl, -⟩ := em
  obtain ⟨mb, mo, e3, hmb, hinm⟩ := hatm 1 _ rfl
  subst e3
  obtain ⟨-, -, -, -, x0, -⟩ := hin0.vals
  obtain ⟨l1, lc1, r1, rc1, -, x1, -, -, -, -⟩ := hin1.vals
  obtain ⟨l2, lc2, r2, rc2, -, x2, x3, x4, -, hp2⟩ := hin2.vals
  obtain ⟨-, -, -, -, x5, -⟩ := hinm.vals
  have hb7m : mb < w7.heap.size := hmb
  have hb7l : b < w7.heap.size := Nat.lt_of_lt_of_le hb0 hb47.size
  have HX : Hid (∀ w', Below w7.heap.size w7 w' → w'.cell? ⟨b, o, none⟩ = some (.bool false) ∧ w'.cell? ⟨b, o + 5, none⟩ = some (.slice l1 2 lc1) ∧ w'.cell? ⟨b, o + 9, none⟩ = some (.slice l2 1 lc2) ∧ w'.cell? ⟨b, o + 10, none⟩ = some (.slice r2 3 rc2) ∧ w'.cell? ⟨b, o + 11, none⟩ = some (.int .i64 4) ∧ w'.cell? ⟨mb, mo + 4, none⟩ = some (.bool false) ∧ Below w.heap.size w w' ∧ Below w4.heap.size w4 w') := fun w' h =>
    ⟨(h.cell (p := ⟨b, o, none⟩) hb7l).trans x0, (h.cell (p := ⟨b, o + 5, none⟩) hb7l).trans x1, (h.cell (p := ⟨b, o + 9, none⟩) hb7l).trans x2, (h.cell (p := ⟨b, o + 10, none⟩) hb7l).trans x3, (h.cell (p := ⟨b, o + 11, none⟩) hb7l).trans x4, (h.cell (p := ⟨mb, mo + 4, none⟩) hb7m).trans x5, Below.thenOf hb7w h hb7w.size, Below.thenOf hb47 h hb47.size⟩
  have HP2 : Hid (∀ w', Below w7.heap.size w7 w' → PolAt w4.heap.size w' (.agg #[.slice r2 3 rc2, .int .i64 4]) strictP) := fun w' h => hp2.later h hb47.size
  clear hp2 x0 x1 x2 x3 x4 x5 hin0 hin1 hin2 hinm hat hatm hm7 hb7 HN6 hb46 hb6w hb0 hmb
  have HSt : Hid (∀ w', Below w7.heap.size w7 w' → Calls Tryz.prog 59 #[] w' fun e w'' => ∃ a c, e = .returned (.agg #[.slice a 3 c, .int .i64 4]) ∧ PolAt w''.heap.size w'' (.agg #[.slice a 3 c, .int .i64 4]) strictP ∧ Below w'.heap.size w' w'') := fun w' h => by
    refine (strict_any w' (HE.out _ (HX.out w' h).2.2.2.2.2.2.1)).mono fun e w'' ⟨v, h1, h2, h3⟩ => ?_
    obtain ⟨a, c, rfl⟩ : ∃ a c, v = .agg #[.slice a 3 c, .int .i64 4] := by
      obtain ⟨rv, e1, -, da, dc, e2, -⟩ := h2.at
      exact ⟨da, dc, by rw [e1, e2]; rfl⟩
    exact ⟨a, c, h1, h2.at, h3⟩
  have HSa : Hid (∀ w' v, Below w7.heap.size w7 w' → PolAt w'.heap.size w' v strictP → Calls Tryz.prog 80 #[.agg #[.slice r2 3 rc2, .int .i64 4], v] w' fun e w'' => e = .returned (.bool true) ∧ Below w'.heap.size w' w'') := fun w' v h h1 => by
    have := same_any w'.heap.size _ v strictP strictP w' (polAt_wideK (HP2.out w' h) (HX.out w' h).2.2.2.2.2.2.2.size) h1 (Nat.le_refl _)
    simpa using this
  have HCk : Hid (∀ w', Below w7.heap.size w7 w' → Calls Tryz.prog 45 #[.slice (some ⟨b, o, none⟩) 4 lc] w' fun e w'' => e = .returned (.int .i64 0) ∧ Below w'.heap.size w' w'') := fun w' h => by
    have := checkKp_any w4.heap.size _ opnL w' (HL4.out _ (HX.out w' h).2.2.2.2.2.2.2) (HX.out w' h).2.2.2.2.2.2.2.size
    rw [opn_check] at this
    exact this
  have HSm : Hid (∀ w', Below w7.heap.size w7 w' → Calls Tryz.prog 47 #[.slice (some ⟨b, o, none⟩) 4 lc, .slice (some ⟨b, o, none⟩) 4 lc] w' fun e w'' => e = .returned (.bool true) ∧ Below w'.heap.size w' w'') := fun w' h => by
    have := sameKp_any w4.heap.size _ _ opnL opnL w' (HL4.out _ (HX.out w' h).2.2.2.2.2.2.2) (HL4.out _ (HX.out w' h).2.2.2.2.2.2.2) (HX.out w' h).2.2.2.2.2.2.2.size
    simpa using this
  have hne := Later.ne w7
  have hDJ : Hid (∀ fs w', JOp w7 fs w' → ∃ z : Later w7, w' = z.1) := fun fs w' h => ⟨⟨w', h.1⟩, rfl⟩
  have s0 : ∀ z : Later w7, z.1.cell? ⟨b, o, none⟩ = some (.bool false) := fun z => (HX.out z.1 z.2).1
  have s1 : ∀ z : Later w7, z.1.cell? ⟨b, o + 5, none⟩ = some (.slice l1 2 lc1) := fun z => (HX.out z.1 z.2).2.1
  have s2 : ∀ z : Later w7, z.1.cell? ⟨b, o + 9, none⟩ = some (.slice l2 1 lc2) := fun z => (HX.out z.1 z.2).2.2.1
  have s3 : ∀ z : Later w7, z.1.cell? ⟨b, o + 10, none⟩ = some (.slice r2 3 rc2) := fun z => (HX.out z.1 z.2).2.2.2.1
  have s4 : ∀ z : Later w7, z.1.cell? ⟨b, o + 11, none⟩ = some (.int .i64 4) := fun z => (HX.out z.1 z.2).2.2.2.2.1
  have s5 : ∀ z : Later w7, z.1.cell? ⟨mb, mo + 4, none⟩ = some (.bool false) := fun z => (HX.out z.1 z.2).2.2.2.2.2.1
  clear HL4 HP2
  go_wp2_with fail
  refine wp_region_all (fun k => k == 36 || k == 37 || k == 55 || k == 61) (JOp w7) SOp sOp_some (by kernel_rfl) (by kernel_rfl) ⟨(Below.refl _ _).drew, fun _ h => h.elim⟩ ?_
  iterate 12 (refine wpG_read hDJ.out rfl rfl ?_; go_big_quiet_step (fail); refine wpQuiet_nil ?_)
  refine wpG_readV (.int .i64 4) rfl rfl (fun w' => ?_) ?_
  · clear hDJ hne s0 s1 s2 s3 s4 s5
    go_simp
  simp only [Act.put, List.setIfInBounds_toArray, List.set_cons_succ, List.set_cons_zero]
  iterate 7 (refine wpG_read hDJ.out rfl rfl ?_; go_big_quiet_step (fail); refine wpQuiet_nil ?_)
  refine wpG_readV (.int .i64 2) rfl rfl (fun w' => ?_) ?_
  · clear hDJ hne s0 s1 s2 s3 s4 s5
    go_simp
  simp only [Act.put, List.setIfInBounds_toArray, List.set_cons_succ, List.set_cons_zero]
  iterate 7 (refine wpG_read hDJ.out rfl rfl ?_; go_big_quiet_step (fail); refine wpQuiet_nil ?_)
  refine wpG_readV (.int .i64 1) rfl rfl (fun w' => ?_) ?_
  · clear hDJ hne s0 s1 s2 s3 s4 s5
    go_simp
  simp only [Act.put, List.setIfInBounds_toArray, List.set_cons_succ, List.set_cons_zero]
  iterate 7 (refine wpG_read hDJ.out rfl rfl ?_; go_big_quiet_step (fail); refine wpQuiet_nil ?_)
  refine wpG_call 59 #[] rfl rfl (fun w' => by kernel_rfl) (fun gs w' hJ hdep hno => ?_) (fun v1 hv1 => ?_)
  · refine (HSt.out w' hJ.1).mono ?_
    rintro e w8 ⟨a8, c8, rfl, hq8, hb8⟩
    refine ⟨_, rfl, ⟨a8, c8, rfl⟩, Below.thenOf hJ.1 hb8 hJ.1.size, fun v hv => ?_⟩
    rcases hv with hv | ⟨_, rfl⟩
    · exact absurd hv (hno v)
    · exact hq8
  simp only [Act.put, List.setIfInBounds_toArray, List.set_cons_succ, List.set_cons_zero]
  obtain ⟨a8, c8, rfl⟩ : ∃ a c, v1 = .agg #[.slice a 3 c, .int .i64 4] := hv1
  refine wpG_call 80 #[.agg #[.slice r2 3 rc2, .int .i64 4], .agg #[.slice a8 3 c8, .int .i64 4]] rfl rfl (fun w' => by kernel_rfl) (fun gs w' hJ hdep hno => ?_) (fun v2 hv2 => ?_)
  · refine (HSa.out w' _ hJ.1 (hJ.2 _ (hdep 36 _ (.inr ⟨rfl, rfl⟩) (waitsB_spec (by kernel_rfl))))).mono ?_
    rintro e w8 ⟨rfl, hb8⟩
    exact ⟨_, rfl, rfl, hJ.call hb8 37 (by decide) _⟩
  simp only [Act.put, List.setIfInBounds_toArray, List.set_cons_succ, List.set_cons_zero]
  obtain rfl : v2 = .bool true := hv2
  iterate 17 (refine wpG_read hDJ.out rfl rfl ?_; go_big_quiet_step (fail); refine wpQuiet_nil ?_)
  refine wpG_call 45 #[.slice (some ⟨b, o, none⟩) 4 lc] rfl rfl (fun w' => by kernel_rfl) (fun gs w' hJ hdep hno => ?_) (fun v3 hv3 => ?_)
  · refine (HCk.out w' hJ.1).mono ?_
    rintro e w8 ⟨rfl, hb8⟩
    exact ⟨_, rfl, rfl, hJ.call hb8 55 (by decide) _⟩
  simp only [Act.put, List.setIfInBounds_toArray, List.set_cons_succ, List.set_cons_zero]
  obtain rfl : v3 = .int .i64 0 := hv3
  iterate 5 (refine wpG_read hDJ.out rfl rfl ?_; go_big_quiet_step (fail); refine wpQuiet_nil ?_)
  refine wpG_call 47 #[.slice (some ⟨b, o, none⟩) 4 lc, .slice (some ⟨b, o, none⟩) 4 lc] rfl rfl (fun w' => by kernel_rfl) (fun gs w' hJ hdep hno => ?_) (fun v4 hv4 => ?_)
  · refine (HSm.out w' hJ.1).mono ?_
    rintro e w8 ⟨rfl, hb8⟩
    exact ⟨_, rfl, rfl, hJ.call hb8 61 (by decide) _⟩
  simp only [Act.put, List.setIfInBounds_toArray, List.set_cons_succ, List.set_cons_zero]
  obtain rfl : v4 = .bool true := hv4
  iterate 2 (refine wpG_read hDJ.out rfl rfl ?_; go_big_quiet_step (fail); refine wpQuiet_nil ?_)
  refine wpG_nil ?_
  intro w9 hJ9
  have hbw9 : Hid (Below w.heap.size w w9) := (HX.out w9 hJ9.1).2.2.2.2.2.2.1
  clear hJ9 s0 s1 s2 s3 s4 s5 hDJ hne HX
  go_wp2_with fail
  go_ret
  exact ⟨rfl, hbw9.out⟩
end Go.Proofs.YtbdlojnigflanacGreatDoor
end
