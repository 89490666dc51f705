/- Joined: Tig0 Tig. -/
import Derived.Test.YtbjpdmfedphacacGreatDoorCj07
import Derived.Test.YtbjpdmfedphacacGreatDoorCj44
import Derived.Test.YtbjpdmfedphacacGreatDoorCj22
section
/- The stricter policy, for the closed fact on chains. -/
set_option linter.all false
namespace Go.Proofs.YtbjpdmfedphacacGreatDoor
open Go.RowKit Go.Maps

def strictS : ByteArray := ⟨#[107, 105, 108, 108, 32, 110, 114, 61, 51, 32, 97, 60, 53, 59, 108, 111, 103, 32, 107, 105, 110, 100, 33, 48, 59, 102, 97, 105, 108, 32, 98, 62, 55, 59, 97, 108, 108, 111, 119]⟩
def strictRs : List RuleT := [([(0, 1, 3), (2, 3, 5)], 0), ([(1, 2, 0)], 3), ([(3, 4, 7)], 2)]
def strictP : PolT := (strictRs, 4)
theorem d1_fail : Maps.has D1 (.string [102, 97, 105, 108]) = true ∧ D1.atKey (.string [102, 97, 105, 108]) zed = .lit (.int .i64 2) := by
  unfold D1 zed
  rw [Maps.has_put_other (strNe (by decide)), Maps.has_put_other (strNe (by decide)), Maps.atKey_put_other (strNe (by decide)), Maps.atKey_put_other (strNe (by decide))]
  exact ⟨Maps.has_put_same ((Maps.isMap_empty.put _ _).put _ _) (isKeyS _) _, Maps.atKey_put_same ((Maps.isMap_empty.put _ _).put _ _) (isKeyS _) _ _⟩
theorem d2_b : Maps.has D2 (.string [98]) = true ∧ D2.atKey (.string [98]) zed = .lit (.int .i64 3) := by
  unfold D2 zed
  rw [Maps.has_put_other (strNe (by decide)), Maps.atKey_put_other (strNe (by decide))]
  exact ⟨Maps.has_put_same (((Maps.isMap_empty.put _ _).put _ _).put _ _) (isKeyS _) _, Maps.atKey_put_same (((Maps.isMap_empty.put _ _).put _ _).put _ _) (isKeyS _) _ _⟩
theorem d3_from : D3.atKey (.int .u8 62) zed = .lit (.int .i64 4) := by
  unfold D3 zed
  exact Maps.atKey_put_same (((Maps.isMap_empty.put _ _).put _ _).put _ _) (isKeyB _) _ _
theorem goodB : GoodWord ⟨#[98, 62, 55]⟩ (3, 4, 7) := by
  refine ⟨1, 7, by decide, by decide, fun i hi => ?_, d3_from, by decide, d2_b.1, d2_b.2, rfl, by decide, by decide, by decide +kernel⟩
  obtain rfl : i = 0 := by omega
  exact d3_other _ (by decide)
theorem goodFailR : GoodRule ⟨#[102, 97, 105, 108, 32, 98, 62, 55]⟩ ([(3, 4, 7)], 2) := by
  refine ⟨⟨#[102, 97, 105, 108]⟩, [⟨#[98, 62, 55]⟩], by decide +kernel, by decide +kernel, by decide, d1_fail.1, d1_fail.2, by decide, rfl, by decide, fun j u c hu hc => ?_⟩
  match j, hu, hc with
  | 0, hu, hc => simp at hu hc; subst hu hc; exact goodB
  | j + 1, hu, hc => simp at hu
theorem goodStrict : GoodText 4 strictRs strictS := by
  refine ⟨⟨#[107, 105, 108, 108, 32, 110, 114, 61, 51, 32, 97, 60, 53]⟩, ⟨#[108, 111, 103, 32, 107, 105, 110, 100, 33, 48, 59, 102, 97, 105, 108, 32, 98, 62, 55, 59, 97, 108, 108, 111, 119]⟩, by decide, by decide +kernel, by decide, goodKill, ?_⟩
  refine ⟨⟨#[108, 111, 103, 32, 107, 105, 110, 100, 33, 48]⟩, ⟨#[102, 97, 105, 108, 32, 98, 62, 55, 59, 97, 108, 108, 111, 119]⟩, by decide, by decide +kernel, by decide, goodLog, ?_⟩
  refine ⟨⟨#[102, 97, 105, 108, 32, 98, 62, 55]⟩, ⟨#[97, 108, 108, 111, 119]⟩, by decide, by decide +kernel, by decide, goodFailR, ?_⟩
  exact ⟨by decide, by decide +kernel, by decide +kernel, by decide +kernel, d1_allow.1, d1_allow.2⟩
theorem strictOk : polErr strictP = 0 := by decide

set_option maxHeartbeats 1000000 in
theorem strict_any (w : World) (he : EnvAt w) :
    Calls Tryz.prog 15 #[] w fun e w' => ∃ pv, e = .returned pv ∧ PolNew w.heap.size w' pv strictP ∧ Below w.heap.size w w' := by
  have hrd : Hid (∀ X, Calls Tryz.prog 37 #[.string strictS] (w.alloc X) fun e w' => ∃ pv, e = .returned (.tuple #[pv, .int .i64 0]) ∧ PolNew (w.heap.size + 1) w' pv strictP ∧ Below (w.alloc X).heap.size (w.alloc X) w') := by
    intro X
    obtain ⟨mm, hm⟩ := he.later ((Below.refl _ _).alloc (Nat.le_refl _) X)
    have := policyRead_good strictS strictRs 4 goodStrict (verdictWf (by decide)) strictOk mm _ hm
    refine this.mono fun e w' ⟨pv, h1, h2, h3⟩ => ⟨pv, h1, ?_, h3⟩
    rw [World.size_alloc] at h2
    exact h2
  have hb : ∀ X, Below w.heap.size w (w.alloc X) := fun X => (Below.refl _ _).alloc (Nat.le_refl _) _
  go_enter Tryz.func15, Tryz.ntmps15
  go_wp2_with (first | (go_at_call 37; go_must (refine Calls.mono (hrd.out _) ?_; rintro e w1 ⟨pv, rfl, hp, hb1⟩; have hp' : Hid (PolNew (w.heap.size + 1) w1 pv strictP) := hp; obtain ⟨rv, rfl, hwf, hr⟩ := hp.at; obtain ⟨ra, rcap, rfl, _, _, _⟩ := hr; have hs1 := hb1.size; have HR1 := (hb1.block w.heap.size (by simp)).trans (MapKept.heap_alloc w _).1; have HR2 : ∀ X, (w1.alloc X).heap[w.heap.size]? = some (.cells #[.slice none 0 0, .int .i64 0] 24 (0, 0)) := fun X => (Below.heap_alloc _ _ _ (by simp at hs1; omega)).trans HR1; have t0 : ∀ X, (w1.alloc X).cell? ⟨w.heap.size, 0, none⟩ = some (.slice none 0 0) := fun X => (cell_of_two (HR2 X)).1; have t1 : ∀ X, (w1.alloc X).cell? ⟨w.heap.size, 1, none⟩ = some (.int .i64 0) := fun X => (cell_of_two (HR2 X)).2.1; have t2 : ∀ X, (w1.alloc X).frozen? ⟨w.heap.size, 0, none⟩ = false := fun X => (cell_of_two (HR2 X)).2.2.1; have t3 : ∀ X, (w1.alloc X).frozen? ⟨w.heap.size, 1, none⟩ = false := fun X => (cell_of_two (HR2 X)).2.2.2)))
  have hbF : Below w.heap.size w (((w1.alloc (.cells #[.slice ra strictP.1.length rcap, .int .i64 strictP.2] 24)).setCell ⟨w.heap.size, 0, none⟩ (.slice ra strictP.1.length rcap)).setCell ⟨w.heap.size, 1, none⟩ (.int .i64 strictP.2)) := (((((hb _).trans (hb1.mono (by simp))).alloc (by simp at hs1; omega) _).setCell (p := ⟨w.heap.size, 0, none⟩) (Nat.le_refl _) _).setCell (p := ⟨w.heap.size, 1, none⟩) (Nat.le_refl _) _)
  have HRF := two_setCell1 (u := .int .i64 strictP.2) (two_setCell (u := .slice ra strictP.1.length rcap) (HR2 (.cells #[.slice ra strictP.1.length rcap, .int .i64 strictP.2] 24)))
  obtain ⟨z0, z1, _, _⟩ := cell_of_two HRF
  refine bodyPost_ret (v := .agg #[.slice ra strictP.1.length rcap, .int .i64 strictP.2]) ?_ rfl ⟨_, rfl, fun wF l1 l2 => hp'.out wF (fun g h1 h2 => (l1 g (by omega) (by simp; omega)).trans ?_) (Nat.le_trans (by simp) l2), hbF⟩
  · rw [results_cell1 rfl]
    go_simp
  · rw [Below.heap_setCell _ _ _ _ (by show g ≠ w.heap.size; omega), Below.heap_setCell _ _ _ _ (by show g ≠ w.heap.size; omega), Below.heap_alloc _ _ _ h2]


end Go.Proofs.YtbjpdmfedphacacGreatDoor
end
section
/- tightened: the closed fact that every statement on chains asks first. -/
set_option linter.all false
set_option maxRecDepth 100000
namespace Go.Proofs.YtbjpdmfedphacacGreatDoor
open Go.RowKit Go.Maps

theorem PolAt.wideT {B B' : Nat} {w : World} {v : Value} {p : PolT} (h : PolAt B w v p) (hB : B ≤ B') : PolAt B' w v p := by
  obtain ⟨rv, h1, h2, a, cap, h3, h4, h5, h6⟩ := h
  refine ⟨rv, h1, h2, a, cap, h3, h4, h5, fun i r hr => ?_⟩
  obtain ⟨b, o, e, hl, cv, k1, k2, k3, a', cap', m1, m2, m3, m4⟩ := h6 i r hr
  refine ⟨b, o, e, by omega, cv, k1, k2, k3, a', cap', m1, m2, m3, fun j c hc => ?_⟩
  obtain ⟨b', o', e', hl', k⟩ := m4 j c hc
  exact ⟨b', o', e', by omega, k⟩
theorem tig_comp : compE madeP = 0 ∧ compL madeP = polI madeP := by decide +kernel
def tigD : PolT := ([([(0, 1, 3), (2, 3, 5), (0, 1, 3), (2, 3, 5)], 4), ([(1, 2, 0), (1, 2, 0)], 4), ([(3, 4, 7)], 2)], 4)
theorem tig_delta : deltaE madeP strictP = 0 ∧ deltaR madeP strictP = tigD := by decide +kernel
theorem tig_loose : deltaE strictP madeP = 7 ∧ deltaR strictP madeP = ([], 0) := by decide +kernel
theorem tig_tight : tightE [polI madeP] madeP strictP = 0 ∧ tightR [polI madeP] madeP strictP = [polI madeP, polI tigD] := by decide +kernel
theorem tig_ask : askE [polI madeP, polI tigD] (at5 0 0 0 8 0) = 0 ∧ askV [polI madeP, polI tigD] (at5 0 0 0 8 0) = 2 := by decide +kernel
theorem tig_none : askE [] (at5 0 0 0 0 0) = 0 ∧ askV [] (at5 0 0 0 0 0) = 4 := by decide +kernel

set_option maxHeartbeats 8000000 in
theorem tightened_true (w : World) (he : EnvAt w) :
    Calls Tryz.prog 6 #[] w fun e w' => e = .returned (.bool true) ∧ Below w.heap.size w w' := by
  have HE : Hid (∀ w', Below w.heap.size w w' → EnvAt w') := fun w' h => he.later h
  clear he
  have hml := maxLen_eq
  go_enter Tryz.func6, Tryz.ntmps6
  go_wp2_with fail
  go_at_call 14
  refine Calls.mono (made_any _ (HE.out _ (Below.refl _ _))) ?_
  rintro e w1 ⟨p1, rfl, hp1, hb1⟩
  have hq1 := hp1.at
  have HC : Hid _ := compile_any w1.heap.size p1 madeP w1 hq1 (Nat.le_refl _)
  rw [tig_comp.1, tig_comp.2] at HC
  obtain ⟨rv, rfl, -, a1, c1, rfl, -⟩ := hq1
  clear hp1
  go_wp2_with fail
  go_at_call 13
  refine Calls.mono HC.out ?_
  rintro e w2 ⟨fv, rfl, hof, hwf, hb2⟩
  have hfv : InssAt w2.heap.size w2 fv (polI madeP) := inssAt_own hof hwf
  obtain ⟨fa, fc, rfl, -, -⟩ := ownsRow_caps hof
  have hb2w : Below w.heap.size w w2 := Below.thenOf hb1 hb2 hb1.size
  have HF : Hid (∀ w', Below w2.heap.size w2 w' → InssAt w2.heap.size w' (.slice fa (polI madeP).length fc) (polI madeP)) := fun w' h => hfv.later h (Nat.le_refl _)
  clear hof hwf hfv HC hb1 hb2
  generalize (polI madeP).length = fl at *
  -- line 27
  go_wp2_with fail
  go_at_call 14
  refine Calls.mono (made_any _ (HE.out _ hb2w)) ?_
  rintro e w3 ⟨p3, rfl, hp3, hb3⟩
  have hq3 := hp3.at
  have hb3w : Below w.heap.size w w3 := Below.thenOf hb2w hb3 hb2w.size
  have hb23 : Below w2.heap.size w2 w3 := hb3
  obtain ⟨rv, rfl, hd3, a3, c3, rfl, hr3⟩ := hq3
  have hq3 : PolAt w3.heap.size w3 (.agg #[.slice a3 madeP.1.length c3, .int .i64 madeP.2]) madeP := hp3.at
  clear hp3 hd3 hr3 hb3
  go_wp2_with fail
  go_at_call 15
  refine Calls.mono (strict_any _ (HE.out _ hb3w)) ?_
  rintro e w4 ⟨p4, rfl, hp4, hb4⟩
  have hq4 := hp4.at
  have hb4w : Below w.heap.size w w4 := Below.thenOf hb3w hb4 hb3w.size
  have hb24 : Below w2.heap.size w2 w4 := Below.thenOf hb23 hb4 hb23.size
  have HD : Hid _ := deltaD_any w4.heap.size _ p4 madeP strictP w4 ((hq3.later hb4 (Nat.le_refl _)).wideT hb4.size) hq4 (Nat.le_refl _)
  rw [tig_delta.1, tig_delta.2] at HD
  obtain ⟨rv, rfl, -, a4, c4, rfl, -⟩ := hq4
  clear hp4 hb4 hb3w hb23
  go_wp2_with fail
  go_at_call 5
  refine Calls.mono HD.out ?_
  rintro e w5 ⟨dv, rfl, hpd, hb5⟩
  have hb5w : Below w.heap.size w w5 := Below.thenOf hb4w hb5 hb4w.size
  have hb25 : Below w2.heap.size w2 w5 := Below.thenOf hb24 hb5 hb24.size
  have HPd : Hid (∀ w', Below w5.heap.size w5 w' → PolAt w5.heap.size w' dv tigD) := fun w' h => hpd.later h (Nat.le_refl _)
  obtain ⟨da, dc, rfl⟩ : ∃ da dc, dv = .agg #[.slice da 3 dc, .int .i64 4] := by
    obtain ⟨rv, e1, -, da, dc, e2, -⟩ := hpd
    exact ⟨da, dc, by rw [e1, e2]; rfl⟩
  clear hq3 HD hb4w hb24 hb5 hpd
  -- line 28
  obtain ⟨W6, hW6⟩ : ∃ W6, W6 = (w5.alloc (.cells #[.slice da 3 dc, .int .i64 4] 24)).alloc (.cells #[.slice fa fl fc] 40) := ⟨_, rfl⟩
  have hb6 : Below w5.heap.size w5 W6 := by rw [hW6]; exact ((Below.refl _ _).alloc (Nat.le_refl _) _).alloc (by simp) _
  have hs6 : W6.heap.size = w5.heap.size + 1 + 1 := by rw [hW6]; simp
  have hs2 : w2.heap.size ≤ w5.heap.size := hb25.size
  have g6 : W6.heap[w5.heap.size]? = some (.cells #[.slice da 3 dc, .int .i64 4] 24 (0, 0)) := by
    rw [hW6]
    exact heap_kept' _ (heap_at _ _ rfl)
  have h6 : W6.heap[w5.heap.size + 1]? = some (.cells #[.slice fa fl fc] 40 (0, 0)) := by
    rw [hW6]
    exact heap_at _ _ (by simp only [World.size_alloc])
  have hL6 : ChsAt W6.heap.size W6 (.slice (some ⟨w5.heap.size + 1, 0, none⟩) 1 1) [polI madeP] := by
    refine ⟨_, 1, rfl, Nat.le_refl _, by omega, fun i f hf => ?_⟩
    match i, hf with
    | 0, hf =>
      simp at hf
      subst hf
      exact ⟨_, 0, _, rfl, by omega, heap_cell h6 0 rfl, (HF.out _ (Below.thenOf hb25 hb6 hs2)).mono (by omega)⟩
    | i + 1, hf => simp at hf
  have HL6 : Hid (∀ w', Below W6.heap.size W6 w' → ChsAt W6.heap.size w' (.slice (some ⟨w5.heap.size + 1, 0, none⟩) 1 1) [polI madeP]) := fun w' h => hL6.later h (Nat.le_refl _)
  have HG6 : Hid (∀ w', Below W6.heap.size W6 w' → w'.heap[w5.heap.size]? = some (.cells #[.slice da 3 dc, .int .i64 4] 24 (0, 0))) := fun w' h => (h.block _ (by omega)).trans g6
  have HPd6 : Hid (∀ w', Below W6.heap.size W6 w' → PolAt w5.heap.size w' (.agg #[.slice da 3 dc, .int .i64 4]) tigD) := fun w' h => HPd.out w' (Below.thenOf hb6 h hb6.size)
  have hb6w : Below w.heap.size w W6 := Below.thenOf hb5w hb6 hb5w.size
  have HW6 : Hid (W6 = _) := hW6
  clear hW6 g6 h6 hL6 HPd HF hb2w hb25 hb5w hb6
  go_wp2_with fail
  rw [← HW6.out]
  go_at_call 14
  refine Calls.mono (made_any _ (HE.out _ hb6w)) ?_
  rintro e w7 ⟨p7, rfl, hp7, hb7⟩
  have hq7 := hp7.at
  have hb7w : Below w.heap.size w w7 := Below.thenOf hb6w hb7 hb6w.size
  obtain ⟨a7, c7, rfl⟩ : ∃ a c, p7 = .agg #[.slice a 2 c, .int .i64 4] := by
    obtain ⟨rv, e1, -, da, dc, e2, -⟩ := hq7
    exact ⟨da, dc, by rw [e1, e2]; rfl⟩
  clear hp7
  go_wp2_with fail
  go_at_call 15
  refine Calls.mono (strict_any _ (HE.out _ hb7w)) ?_
  rintro e w8 ⟨p8, rfl, hp8, hb8⟩
  have hq8 := hp8.at
  have hb8w : Below w.heap.size w w8 := Below.thenOf hb7w hb8 hb7w.size
  have hb68 : Below W6.heap.size W6 w8 := Below.thenOf hb7 hb8 hb7.size
  have HT : Hid _ := tightenD_any w8.heap.size _ _ p8 [polI madeP] madeP strictP w8 (ChsAt.mono (HL6.out _ hb68) hb68.size) ((hq7.later hb8 (Nat.le_refl _)).wideT hb8.size) hq8 (Nat.le_refl _)
  rw [tig_tight.1, tig_tight.2] at HT
  obtain ⟨a8, c8, rfl⟩ : ∃ a c, p8 = .agg #[.slice a 3 c, .int .i64 4] := by
    obtain ⟨rv, e1, -, da, dc, e2, -⟩ := hq8
    exact ⟨da, dc, by rw [e1, e2]; rfl⟩
  clear hp8 hq7 hq8 HL6 hb7 hb8 hb6w hb7w
  go_wp2_with fail
  go_at_call 16
  refine Calls.mono HT.out ?_
  rintro e w9 ⟨lv, rfl, hl9, hb9⟩
  have hb9w : Below w.heap.size w w9 := Below.thenOf hb8w hb9 hb8w.size
  have hb69 : Below W6.heap.size W6 w9 := Below.thenOf hb68 hb9 hb68.size
  have HA : Hid _ := askD_any w9.heap.size lv _ (at5 0 0 0 8 0) w9 hl9 (Nat.le_refl _)
  rw [tig_ask.1, tig_ask.2] at HA
  obtain ⟨a9, c9, rfl⟩ : ∃ a c, lv = .slice a 2 c := by
    obtain ⟨a, c, e, -⟩ := hl9
    exact ⟨a, c, by rw [e]; rfl⟩
  clear hl9 HT hb68 hb8w hb9
  go_wp2_with fail
  go_at_call 17
  refine Calls.mono HA.out ?_
  rintro e w10 ⟨rfl, hb10⟩
  have hb10w : Below w.heap.size w w10 := Below.thenOf hb9w hb10 hb9w.size
  have hb610 : Below W6.heap.size W6 w10 := Below.thenOf hb69 hb10 hb69.size
  have HA0 : Hid _ := askD_any w10.heap.size _ [] (at5 0 0 0 0 0) w10 (chsAt_nil _ _) (Nat.le_refl _)
  rw [tig_none.1, tig_none.2] at HA0
  clear hb10 hb9w hb69 HA
  go_wp2_with fail
  go_at_call 17
  refine Calls.mono HA0.out ?_
  rintro e w11 ⟨rfl, hb11⟩
  have hb11w : Below w.heap.size w w11 := Below.thenOf hb10w hb11 hb10w.size
  have hb611 : Below W6.heap.size W6 w11 := Below.thenOf hb610 hb11 hb610.size
  clear hb11 hb10w hb610 HA0
  go_wp2_with fail
  go_at_call 15
  refine Calls.mono (strict_any _ (HE.out _ hb11w)) ?_
  rintro e w12 ⟨p12, rfl, hp12, hb12⟩
  have hq12 := hp12.at
  have hb12w : Below w.heap.size w w12 := Below.thenOf hb11w hb12 hb11w.size
  have hb612 : Below W6.heap.size W6 w12 := Below.thenOf hb611 hb12 hb611.size
  obtain ⟨a12, c12, rfl⟩ : ∃ a c, p12 = .agg #[.slice a 3 c, .int .i64 4] := by
    obtain ⟨rv, e1, -, da, dc, e2, -⟩ := hq12
    exact ⟨da, dc, by rw [e1, e2]; rfl⟩
  clear hp12 hb12 hb11w hb611
  go_wp2_with fail
  go_at_call 14
  refine Calls.mono (made_any _ (HE.out _ hb12w)) ?_
  rintro e w13 ⟨p13, rfl, hp13, hb13⟩
  have hq13 := hp13.at
  have hb13w : Below w.heap.size w w13 := Below.thenOf hb12w hb13 hb12w.size
  have hb613 : Below W6.heap.size W6 w13 := Below.thenOf hb612 hb13 hb612.size
  have HD2 : Hid _ := deltaD_any w13.heap.size _ p13 strictP madeP w13 ((hq12.later hb13 (Nat.le_refl _)).wideT hb13.size) hq13 (Nat.le_refl _)
  rw [tig_loose.1, tig_loose.2] at HD2
  obtain ⟨a13, c13, rfl⟩ : ∃ a c, p13 = .agg #[.slice a 2 c, .int .i64 4] := by
    obtain ⟨rv, e1, -, da, dc, e2, -⟩ := hq13
    exact ⟨da, dc, by rw [e1, e2]; rfl⟩
  clear hp13 hb13 hq12 hq13 hb12w hb612
  go_wp2_with fail
  go_at_call 5
  refine Calls.mono HD2.out ?_
  rintro e w14 ⟨v14, rfl, hp14, hb14⟩
  have hb14w : Below w.heap.size w w14 := Below.thenOf hb13w hb14 hb13w.size
  have hb614 : Below W6.heap.size W6 w14 := Below.thenOf hb613 hb14 hb613.size
  obtain ⟨a14, c14, rfl⟩ : ∃ a c, v14 = .agg #[.slice a 0 c, .int .i64 0] := by
    obtain ⟨rv, e1, -, da, dc, e2, -⟩ := hp14
    exact ⟨da, dc, by rw [e1, e2]; rfl⟩
  have hX : ∀ X, Below W6.heap.size W6 (w14.alloc X) := fun X => hb614.alloc hb614.size X
  have t0 : ∀ X, (w14.alloc X).cell? ⟨w5.heap.size, 0, none⟩ = some (.slice da 3 dc) := fun X => heap_cell (HG6.out _ (hX X)) 0 rfl
  have t1 : ∀ X, (w14.alloc X).cell? ⟨w5.heap.size, 1, none⟩ = some (.int .i64 4) := fun X => heap_cell (HG6.out _ (hX X)) 1 rfl
  obtain ⟨g, o, rfl, hgo⟩ : ∃ g o, da = some ⟨g, o, none⟩ ∧ ∀ X, (w14.alloc X).cell? ⟨g, o + 4 + 1, none⟩ = some (.int .i64 2) := by
    obtain ⟨rv, e1, -, da', dc', e2, -, -, hr⟩ := HPd6.out _ (hX (.cells #[] 0))
    obtain ⟨g, o, e3, -⟩ := hr 2 ([(3, 4, 7)], 2) rfl
    rw [e2] at e1
    simp at e1
    refine ⟨g, o, by rw [e1.1.1, e3], fun X => ?_⟩
    obtain ⟨rv, e1', -, da', dc', e2', -, -, hr⟩ := HPd6.out _ (hX X)
    obtain ⟨g', o', e3', -, cv, -, k1, -⟩ := hr 2 ([(3, 4, 7)], 2) rfl
    rw [e2'] at e1'
    simp at e1'
    have : some (⟨g, o, none⟩ : Addr) = some ⟨g', o', none⟩ := by rw [← e3, ← e3', ← e1.1.1, e1'.1.1]
    simp at this
    obtain ⟨rfl, rfl⟩ := this
    exact k1
  clear hp14 hb14 HD2 HG6 HPd6
  go_wp2_with fail
  go_ret
  exact ⟨rfl, hb14w.alloc hb14w.size _⟩

end Go.Proofs.YtbjpdmfedphacacGreatDoor
end
