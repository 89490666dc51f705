/- Joined: Judged Made. -/
import Derived.Test.YtdfcfinjoghipacGreatDoorDj06
import Derived.Test.YtdfcfinjoghipacGreatDoorDj03
import Derived.Test.YtdfcfinjoghipacGreatDoorDj05
section
/- What the counterpart's Judged says of a right policy: as the program's own Judge. -/
set_option linter.all false
namespace Go.Proofs.YtdfcfinjoghipacGreatDoor
open Go.RowKit Go.Maps

def backAt (p : PolT) (x : Nat → Int) (m : Nat) : Int × Int := verdictAt p (firstAt (ruleOk x) m (p.1.drop m))
theorem backAt_end (p : PolT) (x : Nat → Int) : backAt p x p.1.length = (p.2, (p.1.length : Int)) := by
  unfold backAt
  rw [List.drop_eq_nil_of_le (Nat.le_refl _)]
  rfl
theorem backAt_step (p : PolT) (x : Nat → Int) (m : Nat) (r : RuleT) (h : p.1[m]? = some r) : backAt p x m = if ruleOk x r = true then (r.2, (m : Int)) else backAt p x (m + 1) := by
  unfold backAt
  rw [firstAt_step _ _ _ _ h]
  split
  · rw [verdictAt, if_neg (by omega)]
    simp [List.getD, h]
  · rfl
theorem all_take (f : CondT → Bool) (cs : List CondT) (j : Nat) (c : CondT) (h : cs[j]? = some c) : (cs.take (j + 1)).all f = ((cs.take j).all f && f c) := by
  rw [List.take_add_one, h, List.all_append]
  simp

end Go.Proofs.YtdfcfinjoghipacGreatDoor
end
section
/- The closed facts: the written policy, and what is judged by it. -/
set_option linter.all false
namespace Go.Proofs.YtdfcfinjoghipacGreatDoor
open Go.RowKit Go.Maps

def writtenS : ByteArray := ⟨#[107, 105, 108, 108, 32, 110, 114, 61, 51, 32, 97, 60, 53, 59, 108, 111, 103, 32, 107, 105, 110, 100, 33, 48, 59, 97, 108, 108, 111, 119]⟩
def madeRs : List RuleT := [([(0, 1, 3), (2, 3, 5)], 0), ([(1, 2, 0)], 3)]
def madeP : PolT := (madeRs, 4)

theorem isKeyS (l : List UInt8) : WideAt.IsKeyLit (.string l) := by simp [WideAt.IsKeyLit]
theorem isKeyB (z : Int) : WideAt.IsKeyLit (.int .u8 z) := by simp [WideAt.IsKeyLit]
theorem strNe {a b : List UInt8} (h : a ≠ b) : Lit.string a ≠ Lit.string b := by simpa using h
theorem intNe {a b : Int} (h : a ≠ b) : Lit.int .u8 a ≠ Lit.int .u8 b := by simpa using h

theorem d1_kill : Maps.has D1 (.string [107, 105, 108, 108]) = true ∧ D1.atKey (.string [107, 105, 108, 108]) zed = .lit (.int .i64 0) := by
  unfold D1 zed
  rw [Maps.has_put_other (strNe (by decide)), Maps.has_put_other (strNe (by decide)), Maps.has_put_other (strNe (by decide)), Maps.has_put_other (strNe (by decide)), Maps.atKey_put_other (strNe (by decide)), Maps.atKey_put_other (strNe (by decide)), Maps.atKey_put_other (strNe (by decide)), Maps.atKey_put_other (strNe (by decide))]
  exact ⟨Maps.has_put_same Maps.isMap_empty (isKeyS _) _, Maps.atKey_put_same Maps.isMap_empty (isKeyS _) _ _⟩
theorem d1_log : Maps.has D1 (.string [108, 111, 103]) = true ∧ D1.atKey (.string [108, 111, 103]) zed = .lit (.int .i64 3) := by
  unfold D1 zed
  rw [Maps.has_put_other (strNe (by decide)), Maps.atKey_put_other (strNe (by decide))]
  exact ⟨Maps.has_put_same (((Maps.isMap_empty.put _ _).put _ _).put _ _) (isKeyS _) _, Maps.atKey_put_same (((Maps.isMap_empty.put _ _).put _ _).put _ _) (isKeyS _) _ _⟩
theorem d1_allow : Maps.has D1 (.string [97, 108, 108, 111, 119]) = true ∧ D1.atKey (.string [97, 108, 108, 111, 119]) zed = .lit (.int .i64 4) := by
  unfold D1 zed
  exact ⟨Maps.has_put_same ((((Maps.isMap_empty.put _ _).put _ _).put _ _).put _ _) (isKeyS _) _, Maps.atKey_put_same ((((Maps.isMap_empty.put _ _).put _ _).put _ _).put _ _) (isKeyS _) _ _⟩
theorem d2_nr : Maps.has D2 (.string [110, 114]) = true ∧ D2.atKey (.string [110, 114]) zed = .lit (.int .i64 0) := by
  unfold D2 zed
  rw [Maps.has_put_other (strNe (by decide)), Maps.has_put_other (strNe (by decide)), Maps.has_put_other (strNe (by decide)), Maps.has_put_other (strNe (by decide)), Maps.atKey_put_other (strNe (by decide)), Maps.atKey_put_other (strNe (by decide)), Maps.atKey_put_other (strNe (by decide)), Maps.atKey_put_other (strNe (by decide))]
  exact ⟨Maps.has_put_same Maps.isMap_empty (isKeyS _) _, Maps.atKey_put_same Maps.isMap_empty (isKeyS _) _ _⟩
theorem d2_kind : Maps.has D2 (.string [107, 105, 110, 100]) = true ∧ D2.atKey (.string [107, 105, 110, 100]) zed = .lit (.int .i64 1) := by
  unfold D2 zed
  rw [Maps.has_put_other (strNe (by decide)), Maps.has_put_other (strNe (by decide)), Maps.has_put_other (strNe (by decide)), Maps.atKey_put_other (strNe (by decide)), Maps.atKey_put_other (strNe (by decide)), Maps.atKey_put_other (strNe (by decide))]
  exact ⟨Maps.has_put_same (Maps.isMap_empty.put _ _) (isKeyS _) _, Maps.atKey_put_same (Maps.isMap_empty.put _ _) (isKeyS _) _ _⟩
theorem d2_a : Maps.has D2 (.string [97]) = true ∧ D2.atKey (.string [97]) zed = .lit (.int .i64 2) := by
  unfold D2 zed
  rw [Maps.has_put_other (strNe (by decide)), Maps.has_put_other (strNe (by decide)), Maps.atKey_put_other (strNe (by decide)), Maps.atKey_put_other (strNe (by decide))]
  exact ⟨Maps.has_put_same ((Maps.isMap_empty.put _ _).put _ _) (isKeyS _) _, Maps.atKey_put_same ((Maps.isMap_empty.put _ _).put _ _) (isKeyS _) _ _⟩
theorem d3_other (z : Int) (h : z ≠ 61 ∧ z ≠ 33 ∧ z ≠ 60 ∧ z ≠ 62) : D3.atKey (.int .u8 z) zed = zed := by
  unfold D3
  rw [Maps.atKey_put_other (intNe h.2.2.2), Maps.atKey_put_other (intNe h.2.2.1), Maps.atKey_put_other (intNe h.2.1), Maps.atKey_put_other (intNe h.1)]
  rfl
theorem d3_is : D3.atKey (.int .u8 61) zed = .lit (.int .i64 1) := by
  unfold D3 zed
  rw [Maps.atKey_put_other (intNe (by decide)), Maps.atKey_put_other (intNe (by decide)), Maps.atKey_put_other (intNe (by decide))]
  exact Maps.atKey_put_same Maps.isMap_empty (isKeyB _) _ _
theorem d3_isnt : D3.atKey (.int .u8 33) zed = .lit (.int .i64 2) := by
  unfold D3 zed
  rw [Maps.atKey_put_other (intNe (by decide)), Maps.atKey_put_other (intNe (by decide))]
  exact Maps.atKey_put_same (Maps.isMap_empty.put _ _) (isKeyB _) _ _
theorem d3_below : D3.atKey (.int .u8 60) zed = .lit (.int .i64 3) := by
  unfold D3 zed
  rw [Maps.atKey_put_other (intNe (by decide))]
  exact Maps.atKey_put_same ((Maps.isMap_empty.put _ _).put _ _) (isKeyB _) _ _

theorem goodNr : GoodWord ⟨#[110, 114, 61, 51]⟩ (0, 1, 3) := by
  refine ⟨2, 3, by decide, by decide, fun i hi => ?_, d3_is, by decide, d2_nr.1, d2_nr.2, rfl, by decide, by decide, by decide +kernel⟩
  have : i = 0 ∨ i = 1 := by omega
  rcases this with rfl | rfl <;> exact d3_other _ (by decide)
theorem goodA : GoodWord ⟨#[97, 60, 53]⟩ (2, 3, 5) := by
  refine ⟨1, 5, by decide, by decide, fun i hi => ?_, d3_below, by decide, d2_a.1, d2_a.2, rfl, by decide, by decide, by decide +kernel⟩
  obtain rfl : i = 0 := by omega
  exact d3_other _ (by decide)
theorem goodKind : GoodWord ⟨#[107, 105, 110, 100, 33, 48]⟩ (1, 2, 0) := by
  refine ⟨4, 0, by decide, by decide, fun i hi => ?_, d3_isnt, by decide, d2_kind.1, d2_kind.2, rfl, by decide, by decide, by decide +kernel⟩
  have : i = 0 ∨ i = 1 ∨ i = 2 ∨ i = 3 := by omega
  rcases this with rfl | rfl | rfl | rfl <;> exact d3_other _ (by decide)

theorem goodKill : GoodRule ⟨#[107, 105, 108, 108, 32, 110, 114, 61, 51, 32, 97, 60, 53]⟩ ([(0, 1, 3), (2, 3, 5)], 0) := by
  refine ⟨⟨#[107, 105, 108, 108]⟩, [⟨#[110, 114, 61, 51]⟩, ⟨#[97, 60, 53]⟩], by decide +kernel, by decide +kernel, by decide, d1_kill.1, d1_kill.2, by decide, rfl, by decide, fun j u c hu hc => ?_⟩
  match j, hu, hc with
  | 0, hu, hc => simp at hu hc; subst hu hc; exact goodNr
  | 1, hu, hc => simp at hu hc; subst hu hc; exact goodA
  | j + 2, hu, hc => simp at hu
theorem goodLog : GoodRule ⟨#[108, 111, 103, 32, 107, 105, 110, 100, 33, 48]⟩ ([(1, 2, 0)], 3) := by
  refine ⟨⟨#[108, 111, 103]⟩, [⟨#[107, 105, 110, 100, 33, 48]⟩], by decide +kernel, by decide +kernel, by decide, d1_log.1, d1_log.2, by decide, rfl, by decide, fun j u c hu hc => ?_⟩
  match j, hu, hc with
  | 0, hu, hc => simp at hu hc; subst hu hc; exact goodKind
  | j + 1, hu, hc => simp at hu
theorem goodWritten : GoodText 4 madeRs writtenS := by
  refine ⟨⟨#[107, 105, 108, 108, 32, 110, 114, 61, 51, 32, 97, 60, 53]⟩, ⟨#[108, 111, 103, 32, 107, 105, 110, 100, 33, 48, 59, 97, 108, 108, 111, 119]⟩, by decide, by decide +kernel, by decide, goodKill, ?_⟩
  refine ⟨⟨#[108, 111, 103, 32, 107, 105, 110, 100, 33, 48]⟩, ⟨#[97, 108, 108, 111, 119]⟩, by decide, by decide +kernel, by decide, goodLog, ?_⟩
  exact ⟨by decide, by decide +kernel, by decide +kernel, by decide +kernel, d1_allow.1, d1_allow.2⟩
theorem madeOk : polErr madeP = 0 := by decide

set_option maxHeartbeats 1000000 in
theorem made_any (w : World) (he : EnvAt w) :
    Calls Tryz.prog 41 #[] w fun e w' => ∃ pv, e = .returned pv ∧ PolNew w.heap.size w' pv madeP ∧ Below w.heap.size w w' := by
  have hrd : Hid (∀ X, Calls Tryz.prog 70 #[.string writtenS] (w.alloc X) fun e w' => ∃ pv, e = .returned (.tuple #[pv, .int .i64 0]) ∧ PolNew (w.heap.size + 1) w' pv madeP ∧ Below (w.alloc X).heap.size (w.alloc X) w') := by
    intro X
    obtain ⟨mm, hm⟩ := he.later ((Below.refl _ _).alloc (Nat.le_refl _) X)
    have := policyRead_good writtenS madeRs 4 goodWritten (verdictWf (by decide)) madeOk mm _ hm
    refine this.mono fun e w' ⟨pv, h1, h2, h3⟩ => ⟨pv, h1, ?_, h3⟩
    rw [World.size_alloc] at h2
    exact h2
  have hb : ∀ X, Below w.heap.size w (w.alloc X) := fun X => (Below.refl _ _).alloc (Nat.le_refl _) _
  go_enter Tryz.func41, Tryz.ntmps41
  go_wp2_with (first | (go_at_call 70; go_must (refine Calls.mono (hrd.out _) ?_; rintro e w1 ⟨pv, rfl, hp, hb1⟩; have hp' : Hid (PolNew (w.heap.size + 1) w1 pv madeP) := hp; obtain ⟨rv, rfl, hwf, hr⟩ := hp.at; obtain ⟨ra, rcap, rfl, _, _, _⟩ := hr; have hs1 := hb1.size; have HR1 := (hb1.block w.heap.size (by simp)).trans (MapKept.heap_alloc w _).1; have HR2 : ∀ X, (w1.alloc X).heap[w.heap.size]? = some (.cells #[.slice none 0 0, .int .i64 0] 24 (0, 0)) := fun X => (Below.heap_alloc _ _ _ (by simp at hs1; omega)).trans HR1; have t0 : ∀ X, (w1.alloc X).cell? ⟨w.heap.size, 0, none⟩ = some (.slice none 0 0) := fun X => (cell_of_two (HR2 X)).1; have t1 : ∀ X, (w1.alloc X).cell? ⟨w.heap.size, 1, none⟩ = some (.int .i64 0) := fun X => (cell_of_two (HR2 X)).2.1; have t2 : ∀ X, (w1.alloc X).frozen? ⟨w.heap.size, 0, none⟩ = false := fun X => (cell_of_two (HR2 X)).2.2.1; have t3 : ∀ X, (w1.alloc X).frozen? ⟨w.heap.size, 1, none⟩ = false := fun X => (cell_of_two (HR2 X)).2.2.2)))
  have hbF : Below w.heap.size w (((w1.alloc (.cells #[.slice ra madeP.1.length rcap, .int .i64 madeP.2] 24)).setCell ⟨w.heap.size, 0, none⟩ (.slice ra madeP.1.length rcap)).setCell ⟨w.heap.size, 1, none⟩ (.int .i64 madeP.2)) := (((((hb _).trans (hb1.mono (by simp))).alloc (by simp at hs1; omega) _).setCell (p := ⟨w.heap.size, 0, none⟩) (Nat.le_refl _) _).setCell (p := ⟨w.heap.size, 1, none⟩) (Nat.le_refl _) _)
  have HRF := two_setCell1 (u := .int .i64 madeP.2) (two_setCell (u := .slice ra madeP.1.length rcap) (HR2 (.cells #[.slice ra madeP.1.length rcap, .int .i64 madeP.2] 24)))
  obtain ⟨z0, z1, _, _⟩ := cell_of_two HRF
  refine bodyPost_ret (v := .agg #[.slice ra madeP.1.length rcap, .int .i64 madeP.2]) ?_ rfl ⟨_, rfl, fun wF l1 l2 => hp'.out wF (fun g h1 h2 => (l1 g (by omega) (by simp; omega)).trans ?_) (Nat.le_trans (by simp) l2), hbF⟩
  · rw [results_cell1 rfl]
    go_simp
  · rw [Below.heap_setCell _ _ _ _ (by show g ≠ w.heap.size; omega), Below.heap_setCell _ _ _ _ (by show g ≠ w.heap.size; omega), Below.heap_alloc _ _ _ h2]

end Go.Proofs.YtdfcfinjoghipacGreatDoor
end
