/- Joined: Judged Made Open Rec0 Same. -/
import Derived.Test.YtbdlojnigflanacGreatDoorKb06
import Derived.Test.YtbdlojnigflanacGreatDoorKb03
import Derived.Test.YtbdlojnigflanacGreatDoorKb05
import Derived.Test.YtbdlojnigflanacGreatDoorRows
import Derived.ProofKit
import Derived.OpenShut
import Derived.ShutString
import Derived.ChangeOld
import Derived.Below
import Derived.Deep.SlicePairs
import Derived.Deep.Strs
import Derived.Test.YtbdlojnigflanacGreatDoorKb02
import Derived.Laws.StructEq
section
/- What the counterpart's Judged says of a right policy: as the program's own Judge. -/
set_option linter.all false
namespace Go.Proofs.YtbdlojnigflanacGreatDoor
open Go.RowKit Go.Maps

end Go.Proofs.YtbdlojnigflanacGreatDoor
end
section
/- The closed facts: the written policy, and what is judged by it. -/
set_option linter.all false
namespace Go.Proofs.YtbdlojnigflanacGreatDoor
open Go.RowKit Go.Maps

def writtenS : ByteArray := ⟨#[107, 105, 108, 108, 32, 110, 114, 61, 51, 32, 97, 60, 53, 59, 108, 111, 103, 32, 107, 105, 110, 100, 33, 48, 59, 97, 108, 108, 111, 119]⟩
def madeRs : List RuleT := [([(0, 1, 3), (2, 3, 5)], 0), ([(1, 2, 0)], 3)]
def madeP : PolT := (madeRs, 4)

theorem isKeyS (l : List UInt8) : WideAt.IsKeyLit (.string l) := by simp [WideAt.IsKeyLit]
theorem isKeyB (z : Int) : WideAt.IsKeyLit (.int .u8 z) := by simp [WideAt.IsKeyLit]
theorem strNe {a b : List UInt8} (h : a ≠ b) : Lit.string a ≠ Lit.string b := by simpa using h
theorem intNe {a b : Int} (h : a ≠ b) : Lit.int .u8 a ≠ Lit.int .u8 b := by simpa using h

theorem d1_kill : Maps.has D1 (.string [107, 105, 108, 108]) = true ∧ D1.atKey (.string [107, 105, 108, 108]) zed = .lit (.int .i64 0) := by
  unfold D1 zed
  rw [Maps.has_put_other (strNe (by decide)), Maps.has_put_other (strNe (by decide)), Maps.has_put_other (strNe (by decide)), Maps.has_put_other (strNe (by decide)), Maps.atKey_put_other (strNe (by decide)), Maps.atKey_put_other (strNe (by decide)), Maps.atKey_put_other (strNe (by decide)), Maps.atKey_put_other (strNe (by decide))]
  exact ⟨Maps.has_put_same Maps.isMap_empty (isKeyS _) _, Maps.atKey_put_same Maps.isMap_empty (isKeyS _) _ _⟩
theorem d1_log : Maps.has D1 (.string [108, 111, 103]) = true ∧ D1.atKey (.string [108, 111, 103]) zed = .lit (.int .i64 3) := by
  unfold D1 zed
  rw [Maps.has_put_other (strNe (by decide)), Maps.atKey_put_other (strNe (by decide))]
  exact ⟨Maps.has_put_same (((Maps.isMap_empty.put _ _).put _ _).put _ _) (isKeyS _) _, Maps.atKey_put_same (((Maps.isMap_empty.put _ _).put _ _).put _ _) (isKeyS _) _ _⟩
theorem d1_allow : Maps.has D1 (.string [97, 108, 108, 111, 119]) = true ∧ D1.atKey (.string [97, 108, 108, 111, 119]) zed = .lit (.int .i64 4) := by
  unfold D1 zed
  exact ⟨Maps.has_put_same ((((Maps.isMap_empty.put _ _).put _ _).put _ _).put _ _) (isKeyS _) _, Maps.atKey_put_same ((((Maps.isMap_empty.put _ _).put _ _).put _ _).put _ _) (isKeyS _) _ _⟩
theorem d2_nr : Maps.has D2 (.string [110, 114]) = true ∧ D2.atKey (.string [110, 114]) zed = .lit (.int .i64 0) := by
  unfold D2 zed
  rw [Maps.has_put_other (strNe (by decide)), Maps.has_put_other (strNe (by decide)), Maps.has_put_other (strNe (by decide)), Maps.has_put_other (strNe (by decide)), Maps.atKey_put_other (strNe (by decide)), Maps.atKey_put_other (strNe (by decide)), Maps.atKey_put_other (strNe (by decide)), Maps.atKey_put_other (strNe (by decide))]
  exact ⟨Maps.has_put_same Maps.isMap_empty (isKeyS _) _, Maps.atKey_put_same Maps.isMap_empty (isKeyS _) _ _⟩
theorem d2_kind : Maps.has D2 (.string [107, 105, 110, 100]) = true ∧ D2.atKey (.string [107, 105, 110, 100]) zed = .lit (.int .i64 1) := by
  unfold D2 zed
  rw [Maps.has_put_other (strNe (by decide)), Maps.has_put_other (strNe (by decide)), Maps.has_put_other (strNe (by decide)), Maps.atKey_put_other (strNe (by decide)), Maps.atKey_put_other (strNe (by decide)), Maps.atKey_put_other (strNe (by decide))]
  exact ⟨Maps.has_put_same (Maps.isMap_empty.put _ _) (isKeyS _) _, Maps.atKey_put_same (Maps.isMap_empty.put _ _) (isKeyS _) _ _⟩
theorem d2_a : Maps.has D2 (.string [97]) = true ∧ D2.atKey (.string [97]) zed = .lit (.int .i64 2) := by
  unfold D2 zed
  rw [Maps.has_put_other (strNe (by decide)), Maps.has_put_other (strNe (by decide)), Maps.atKey_put_other (strNe (by decide)), Maps.atKey_put_other (strNe (by decide))]
  exact ⟨Maps.has_put_same ((Maps.isMap_empty.put _ _).put _ _) (isKeyS _) _, Maps.atKey_put_same ((Maps.isMap_empty.put _ _).put _ _) (isKeyS _) _ _⟩
theorem d3_other (z : Int) (h : z ≠ 61 ∧ z ≠ 33 ∧ z ≠ 60 ∧ z ≠ 62) : D3.atKey (.int .u8 z) zed = zed := by
  unfold D3
  rw [Maps.atKey_put_other (intNe h.2.2.2), Maps.atKey_put_other (intNe h.2.2.1), Maps.atKey_put_other (intNe h.2.1), Maps.atKey_put_other (intNe h.1)]
  rfl
theorem d3_is : D3.atKey (.int .u8 61) zed = .lit (.int .i64 1) := by
  unfold D3 zed
  rw [Maps.atKey_put_other (intNe (by decide)), Maps.atKey_put_other (intNe (by decide)), Maps.atKey_put_other (intNe (by decide))]
  exact Maps.atKey_put_same Maps.isMap_empty (isKeyB _) _ _
theorem d3_isnt : D3.atKey (.int .u8 33) zed = .lit (.int .i64 2) := by
  unfold D3 zed
  rw [Maps.atKey_put_other (intNe (by decide)), Maps.atKey_put_other (intNe (by decide))]
  exact Maps.atKey_put_same (Maps.isMap_empty.put _ _) (isKeyB _) _ _
theorem d3_below : D3.atKey (.int .u8 60) zed = .lit (.int .i64 3) := by
  unfold D3 zed
  rw [Maps.atKey_put_other (intNe (by decide))]
  exact Maps.atKey_put_same ((Maps.isMap_empty.put _ _).put _ _) (isKeyB _) _ _

theorem goodNr : GoodWord ⟨#[110, 114, 61, 51]⟩ (0, 1, 3) := by
  refine ⟨2, 3, by decide, by decide, fun i hi => ?_, d3_is, by decide, d2_nr.1, d2_nr.2, rfl, by decide, by decide, by decide +kernel⟩
  have : i = 0 ∨ i = 1 := by omega
  rcases this with rfl | rfl <;> exact d3_other _ (by decide)
theorem goodA : GoodWord ⟨#[97, 60, 53]⟩ (2, 3, 5) := by
  refine ⟨1, 5, by decide, by decide, fun i hi => ?_, d3_below, by decide, d2_a.1, d2_a.2, rfl, by decide, by decide, by decide +kernel⟩
  obtain rfl : i = 0 := by omega
  exact d3_other _ (by decide)
theorem goodKind : GoodWord ⟨#[107, 105, 110, 100, 33, 48]⟩ (1, 2, 0) := by
  refine ⟨4, 0, by decide, by decide, fun i hi => ?_, d3_isnt, by decide, d2_kind.1, d2_kind.2, rfl, by decide, by decide, by decide +kernel⟩
  have : i = 0 ∨ i = 1 ∨ i = 2 ∨ i = 3 := by omega
  rcases this with rfl | rfl | rfl | rfl <;> exact d3_other _ (by decide)

theorem goodKill : GoodRule ⟨#[107, 105, 108, 108, 32, 110, 114, 61, 51, 32, 97, 60, 53]⟩ ([(0, 1, 3), (2, 3, 5)], 0) := by
  refine ⟨⟨#[107, 105, 108, 108]⟩, [⟨#[110, 114, 61, 51]⟩, ⟨#[97, 60, 53]⟩], by decide +kernel, by decide +kernel, by decide, d1_kill.1, d1_kill.2, by decide, rfl, by decide, fun j u c hu hc => ?_⟩
  match j, hu, hc with
  | 0, hu, hc => simp at hu hc; subst hu hc; exact goodNr
  | 1, hu, hc => simp at hu hc; subst hu hc; exact goodA
  | j + 2, hu, hc => simp at hu
theorem goodLog : GoodRule ⟨#[108, 111, 103, 32, 107, 105, 110, 100, 33, 48]⟩ ([(1, 2, 0)], 3) := by
  refine ⟨⟨#[108, 111, 103]⟩, [⟨#[107, 105, 110, 100, 33, 48]⟩], by decide +kernel, by decide +kernel, by decide, d1_log.1, d1_log.2, by decide, rfl, by decide, fun j u c hu hc => ?_⟩
  match j, hu, hc with
  | 0, hu, hc => simp at hu hc; subst hu hc; exact goodKind
  | j + 1, hu, hc => simp at hu
theorem goodWritten : GoodText 4 madeRs writtenS := by
  refine ⟨⟨#[107, 105, 108, 108, 32, 110, 114, 61, 51, 32, 97, 60, 53]⟩, ⟨#[108, 111, 103, 32, 107, 105, 110, 100, 33, 48, 59, 97, 108, 108, 111, 119]⟩, by decide, by decide +kernel, by decide, goodKill, ?_⟩
  refine ⟨⟨#[108, 111, 103, 32, 107, 105, 110, 100, 33, 48]⟩, ⟨#[97, 108, 108, 111, 119]⟩, by decide, by decide +kernel, by decide, goodLog, ?_⟩
  exact ⟨by decide, by decide +kernel, by decide +kernel, by decide +kernel, d1_allow.1, d1_allow.2⟩
theorem madeOk : polErr madeP = 0 := by decide

set_option maxHeartbeats 1000000 in
theorem made_any (w : World) (he : EnvAt w) :
    Calls Tryz.prog 58 #[] w fun e w' => ∃ pv, e = .returned pv ∧ PolNew w.heap.size w' pv madeP ∧ Below w.heap.size w w' := by
  have hrd : Hid (∀ X, Calls Tryz.prog 86 #[.string writtenS] (w.alloc X) fun e w' => ∃ pv, e = .returned (.tuple #[pv, .int .i64 0]) ∧ PolNew (w.heap.size + 1) w' pv madeP ∧ Below (w.alloc X).heap.size (w.alloc X) w') := by
    intro X
    obtain ⟨mm, hm⟩ := he.later ((Below.refl _ _).alloc (Nat.le_refl _) X)
    have := policyRead_good writtenS madeRs 4 goodWritten (verdictWf (by decide)) madeOk mm _ hm
    refine this.mono fun e w' ⟨pv, h1, h2, h3⟩ => ⟨pv, h1, ?_, h3⟩
    rw [World.size_alloc] at h2
    exact h2
  have hb : ∀ X, Below w.heap.size w (w.alloc X) := fun X => (Below.refl _ _).alloc (Nat.le_refl _) _
  go_enter Tryz.func58, Tryz.ntmps58
  go_wp2_with (first | (go_at_call 86; go_must (refine Calls.mono (hrd.out _) ?_; rintro e w1 ⟨pv, rfl, hp, hb1⟩; have hp' : Hid (PolNew (w.heap.size + 1) w1 pv madeP) := hp; obtain ⟨rv, rfl, hwf, hr⟩ := hp.at; obtain ⟨ra, rcap, rfl, _, _, _⟩ := hr; have hs1 := hb1.size; have HR1 := (hb1.block w.heap.size (by simp)).trans (MapKept.heap_alloc w _).1; have HR2 : ∀ X, (w1.alloc X).heap[w.heap.size]? = some (.cells #[.slice none 0 0, .int .i64 0] 24 (0, 0)) := fun X => (Below.heap_alloc _ _ _ (by simp at hs1; omega)).trans HR1; have t0 : ∀ X, (w1.alloc X).cell? ⟨w.heap.size, 0, none⟩ = some (.slice none 0 0) := fun X => (cell_of_two (HR2 X)).1; have t1 : ∀ X, (w1.alloc X).cell? ⟨w.heap.size, 1, none⟩ = some (.int .i64 0) := fun X => (cell_of_two (HR2 X)).2.1; have t2 : ∀ X, (w1.alloc X).frozen? ⟨w.heap.size, 0, none⟩ = false := fun X => (cell_of_two (HR2 X)).2.2.1; have t3 : ∀ X, (w1.alloc X).frozen? ⟨w.heap.size, 1, none⟩ = false := fun X => (cell_of_two (HR2 X)).2.2.2)))
  have hbF : Below w.heap.size w (((w1.alloc (.cells #[.slice ra madeP.1.length rcap, .int .i64 madeP.2] 24)).setCell ⟨w.heap.size, 0, none⟩ (.slice ra madeP.1.length rcap)).setCell ⟨w.heap.size, 1, none⟩ (.int .i64 madeP.2)) := (((((hb _).trans (hb1.mono (by simp))).alloc (by simp at hs1; omega) _).setCell (p := ⟨w.heap.size, 0, none⟩) (Nat.le_refl _) _).setCell (p := ⟨w.heap.size, 1, none⟩) (Nat.le_refl _) _)
  have HRF := two_setCell1 (u := .int .i64 madeP.2) (two_setCell (u := .slice ra madeP.1.length rcap) (HR2 (.cells #[.slice ra madeP.1.length rcap, .int .i64 madeP.2] 24)))
  obtain ⟨z0, z1, _, _⟩ := cell_of_two HRF
  refine bodyPost_ret (v := .agg #[.slice ra madeP.1.length rcap, .int .i64 madeP.2]) ?_ rfl ⟨_, rfl, fun wF l1 l2 => hp'.out wF (fun g h1 h2 => (l1 g (by omega) (by simp; omega)).trans ?_) (Nat.le_trans (by simp) l2), hbF⟩
  · rw [results_cell1 rfl]
    go_simp
  · rw [Below.heap_setCell _ _ _ _ (by show g ≠ w.heap.size; omega), Below.heap_setCell _ _ _ _ (by show g ≠ w.heap.size; omega), Below.heap_alloc _ _ _ h2]

end Go.Proofs.YtbdlojnigflanacGreatDoor
end
section
/- Policies and calls that came in, as plain data; all arguments behind a call that turned nothing old. -/
set_option linter.all false
set_option maxRecDepth 100000
namespace Go.Proofs.YtbdlojnigflanacGreatDoor
open Go.ChangeShapes Go.WideShapes Go.ChangeAt Go.RowKit Go.Deep

section
variable {H : Type} {enc : TypeId × Value → H} {W : World} {base : Nat} {sp : Nat → Bool} {held : Bool}

theorem open_conds {fuel : Nat} {cv : Value} {x : DataW H × List MemPlace} (h : DataW.trod enc Tryz.prog W base sp held fuel 93 [cv] = some x) : ∃ cs, CondsAt W.heap.size W cv cs := by
  rcases open_slice Tryz.underlying93 h with ⟨h0, _⟩ | ⟨a, len, cap, m, n, D, Pl, h0, _, hl, hm, hmm, _, hx⟩
  · simp at h0
    subst h0
    exact ⟨[], none, 0, rfl, Nat.le_refl _, Nat.zero_le _, fun i c hc => by simp at hc⟩
  · simp at h0
    subst h0
    have h3 : Tryz.prog.cellsOf 99 = 3 := by kernel_rfl
    have h1 : Tryz.prog.cellsOf 3 = 1 := by kernel_rfl
    rw [h3] at hx
    have hlm : len ≤ m := by rw [hmm]; split <;> omega
    have each : ∀ i, i < len → ∃ c : CondT, a = ⟨a.block, a.off, none⟩ ∧ a.block < W.heap.size ∧ CondAt W a.block (a.off + i * 3) c := by
      intro i hi
      have h00 : W.cell? (a.add 0) ≠ none := by
        obtain ⟨cs', g1, _⟩ := hx 0 (by omega)
        obtain ⟨_, hlen, hcell⟩ := World.cells?_some g1
        have := hcell 0 (by omega)
        rw [add_add] at this
        simp at this
        match cs', hlen with
        | [v0, v1, v2], _ => simp at this ⊢; rw [this]; simp
      obtain ⟨v, hv⟩ := Option.ne_none_iff_exists'.1 h00
      obtain ⟨ha, hb⟩ := addr_plain hv
      obtain ⟨cs', g1, g2⟩ := hx i (by omega)
      obtain ⟨_, hlen, hcell⟩ := World.cells?_some g1
      obtain ⟨y0, y1, y2, k, _, _, e0, e1, e2⟩ := trod_struct3 Tryz.underlying99 g2
      match cs', hlen with
      | [v0, v1, v2], _ =>
        simp [h1] at e0 e1 e2
        obtain ⟨f, q0, _, w0⟩ := DataW.trod_int Tryz.underlying3 e0
        obtain ⟨o, q1, _, w1⟩ := DataW.trod_int Tryz.underlying3 e1
        obtain ⟨u, q2, _, w2⟩ := DataW.trod_int Tryz.underlying3 e2
        simp at q0 q1 q2
        subst q0 q1 q2
        have c0 := hcell 0 (by omega)
        have c1 := hcell 1 (by omega)
        have c2 := hcell 2 (by omega)
        rw [add_add, ha, add_at] at c0 c1 c2
        exact ⟨(f, o, u), ha, hb, by simpa using c0, by simpa [Nat.add_assoc] using c1, by simpa [Nat.add_assoc] using c2, w0, w1, w2⟩
    obtain ⟨cs, hcl, hcp⟩ := list_of _ len each
    refine ⟨cs, some a, cap, by rw [hcl], by omega, hm, fun i c hc => ?_⟩
    obtain ⟨ha, hb, hat⟩ := hcp i c hc
    exact ⟨a.block, a.off, by rw [← ha], hb, hat⟩

theorem open_rules {fuel : Nat} {rv : Value} {x : DataW H × List MemPlace} (h : DataW.trod enc Tryz.prog W base sp held fuel 22 [rv] = some x) : ∃ rs, RulesAt W.heap.size W rv rs := by
  rcases open_slice_pairs Tryz.underlying22 Tryz.underlying95 (by kernel_rfl) rfl rfl (by kernel_rfl) (by kernel_rfl) h with ⟨h0, _⟩ | ⟨a, len, cap, m, n, V0, V1, _, _, _, _, h0, _, hl, hm, hmm, _, hx⟩
  · simp at h0
    subst h0
    exact ⟨[], none, 0, rfl, Nat.le_refl _, Nat.zero_le _, fun i c hc => by simp at hc⟩
  · simp at h0
    subst h0
    have hlm : len ≤ m := by rw [hmm]; split <;> omega
    have each : ∀ i, i < len → ∃ r : RuleT, a = ⟨a.block, a.off, none⟩ ∧ a.block < W.heap.size ∧ RuleAt W.heap.size W a.block (a.off + i * 2) r := by
      intro i hi
      obtain ⟨ha, hb⟩ := addr_plain (hx 0 (by omega)).1
      obtain ⟨c0, c1, t0, t1⟩ := hx i (by omega)
      obtain ⟨cs, hcs⟩ := open_conds t0
      obtain ⟨v, q1, _, w1⟩ := DataW.trod_int Tryz.underlying3 t1
      simp at q1
      rw [q1] at c1
      rw [ha, add_at] at c0 c1
      exact ⟨(cs, v), ha, hb, V0 i, c0, by simpa [Nat.add_assoc] using c1, w1, hcs⟩
    obtain ⟨rs, hrl, hrp⟩ := list_of _ len each
    refine ⟨rs, some a, cap, by rw [hrl], by omega, hm, fun i r hr => ?_⟩
    obtain ⟨ha, hb, hat⟩ := hrp i r hr
    exact ⟨a.block, a.off, by rw [← ha], hb, hat⟩
end

/-- What every row's first world gives. -/
theorem env_of_shaped {W : World} (h : W.ShapedOpen Tryz.prog) : EnvAt W := Tryz.laysM145.s1_3 W h

end Go.Proofs.YtbdlojnigflanacGreatDoor
end
section
/- Records: plain data, and when one is right. -/
set_option linter.all false
namespace Go.Proofs.YtbdlojnigflanacGreatDoor

abbrev RecT := Int × Int × Int × PolT
def decPol : DecidableEq PolT := fun p q => inferInstance
instance decRec : DecidableEq RecT := @instDecidableEqProd _ _ inferInstance (@instDecidableEqProd _ _ inferInstance (@instDecidableEqProd _ _ inferInstance decPol))
def recErr (r : RecT) : Int :=
  if r.1 < 1 ∨ 4 < r.1 then 4
  else if (r.2.1 < 0 ∨ 3 < r.2.1) ∨ (r.2.2.1 < 0 ∨ 3 < r.2.2.1) then 3
  else if (0 < r.2.2.1 ∧ r.1 ≠ 3) ∨ (¬ (r.1 = 1 ∨ r.1 = 2) ∧ ¬ (r.2.2.2.2 = 0 ∧ r.2.2.2.1 = [])) then 4
  else if r.1 = 1 ∨ r.1 = 2 then polErr r.2.2.2 else 0
theorem recErr_ok {r : RecT} (h : recErr r = 0) : (1 ≤ r.1 ∧ r.1 ≤ 4) ∧ (0 ≤ r.2.1 ∧ r.2.1 ≤ 3) ∧ (0 ≤ r.2.2.1 ∧ r.2.2.1 ≤ 3) ∧ (r.1 = 3 ∨ r.2.2.1 = 0) ∧ ((r.1 = 1 ∨ r.1 = 2) ∧ polErr r.2.2.2 = 0 ∨ (r.1 = 3 ∨ r.1 = 4) ∧ r.2.2.2 = ([], 0)) := by
  unfold recErr at h
  split at h
  · cases h
  · rename_i h1
    split at h
    · cases h
    · rename_i h2
      split at h
      · cases h
      · rename_i h3
        have hk : r.1 = 1 ∨ r.1 = 2 ∨ r.1 = 3 ∨ r.1 = 4 := by omega
        have h3' : ¬ (0 < r.2.2.1 ∧ r.1 ≠ 3) := fun e => h3 (.inl e)
        refine ⟨by omega, by omega, by omega, by omega, ?_⟩
        by_cases hp : r.1 = 1 ∨ r.1 = 2
        · rw [if_pos hp] at h
          exact .inl ⟨hp, h⟩
        · refine .inr ⟨by omega, ?_⟩
          have hz : r.2.2.2.2 = 0 ∧ r.2.2.2.1 = [] := by
            apply Classical.byContradiction
            intro e
            exact h3 (.inr ⟨hp, e⟩)
          obtain ⟨k, c, f, rs, d⟩ := r
          simp only at hz
          rw [hz.1, hz.2]
theorem polAt_zero (B : Nat) (w : World) : PolAt B w (.agg #[.slice none 0 0, .int .i64 0]) ([], 0) :=
  ⟨_, rfl, by unfold wf; decide, none, 0, rfl, Nat.le_refl _, Nat.zero_le _, fun i r h => by simp at h⟩
end Go.Proofs.YtbdlojnigflanacGreatDoor
end
section
/- What Same and its counterpart say of two policies: whether they are alike. -/
set_option linter.all false
namespace Go.Proofs.YtbdlojnigflanacGreatDoor
open Go.RowKit Go.Maps

theorem eqCond (d : Nat) (f op v f2 op2 v2 : Int) (w : World) : (Op.equalIn (d + 3) 99 (.agg #[.int .i64 f, .int .i64 op, .int .i64 v]) (.agg #[.int .i64 f2, .int .i64 op2, .int .i64 v2])).run Tryz.prog w = .ok (decide (((f, op, v) : CondT) = (f2, op2, v2))) w := by
  have u3 := Tryz.underlying3
  have a3 := Tryz.isAgg3
  have z3 := Tryz.sizeOf3
  have hS : Tryz.prog.underlying 99 = some (.struct (Tryz.prog.fieldsOf 99)) := by kernel_rfl
  have hp : Tryz.prog.stoodInHeld 99 = false := by kernel_rfl
  rw [run_equalIn_agg w (d + 2) 99 _ _ hS hp]
  simp only [Program.fieldsOf, Tryz.underlying99]
  go_simp
  by_cases h1 : f = f2 <;> by_cases h2 : op = op2 <;> by_cases h3 : v = v2 <;> simp [h1, h2, h3]
theorem neqCond (f op v f2 op2 v2 : Int) (w : World) : (binOp .neq 99 (.agg #[.int .i64 f, .int .i64 op, .int .i64 v]) (.agg #[.int .i64 f2, .int .i64 op2, .int .i64 v2])).run Tryz.prog w = .ok (.bool (!decide (((f, op, v) : CondT) = (f2, op2, v2)))) w := by
  rw [run_neq_struct, show (10000 : Nat) = 9997 + 3 from rfl, eqCond]
  rfl
theorem guardCond (op : BinOp) (x y : Operand) (xs ys : Array Value) (w : World) : (eqGuard op 99 x y (.agg xs) (.agg ys)).run Tryz.prog w = .ok () w := run_eqGuard_agg _ _ _ _ _ _ _ (by kernel_rfl)
/-- Two conditions compared, in a region that draws its order. -/
theorem wpQuiet_neqCond {ops : Array Oper} {C : World → Prop} {Q : Act → Prop} {a : Act} {o : Oper} {rest : List Oper} (x y : Operand) (t : TypeId) (hop : o.op = .binOp .neq 99 x y t) (hw : Region.wanted o (yielded ops a.tmps) = true)
    (f op v f2 op2 v2 : Int) (hx : a.eval x = .agg #[.int .i64 f, .int .i64 op, .int .i64 v]) (hy : a.eval y = .agg #[.int .i64 f2, .int .i64 op2, .int .i64 v2])
    (q : Bool) (hq : (!decide (((f, op, v) : CondT) = (f2, op2, v2))) = q) (h : wpQuiet Tryz.prog ops C Q rest (a.put o.dst (.bool q))) : wpQuiet Tryz.prog ops C Q (o :: rest) a := by
  subst hq
  refine BigFrame.wpQuiet_want hw fun K hK => ⟨_, fun w _ => ?_, hK _ h⟩
  unfold Oper.quietAt execOp
  rw [hop]
  simp only [hx, hy]
  have e : ((do eqGuard .neq 99 x y (.agg #[.int .i64 f, .int .i64 op, .int .i64 v]) (.agg #[.int .i64 f2, .int .i64 op2, .int .i64 v2]); binOp .neq 99 (.agg #[.int .i64 f, .int .i64 op, .int .i64 v]) (.agg #[.int .i64 f2, .int .i64 op2, .int .i64 v2])) : Sem Value).run Tryz.prog w = .ok (.bool (!decide (((f, op, v) : CondT) = (f2, op2, v2)))) w := by
    simp only [Sem.run_bind, guardCond, neqCond, Result.andThen]
  simp only [Sem.run_bind, e, Result.andThen]
  exact ⟨rfl, rfl⟩

set_option maxHeartbeats 1000000 in
theorem equalConds_any (B : Nat) (cv dv : Value) (cs ds : List CondT) (w : World) (hc : CondsAt B w cv cs) (hd : CondsAt B w dv ds) (hB : B ≤ w.heap.size) :
    Calls Tryz.prog 143 #[cv, dv] w fun e w' => e = .returned (.bool (decide (cs = ds))) ∧ Below w.heap.size w w' := by
  obtain ⟨a, cap, rfl, hlc, hcm, hcs⟩ := hc
  obtain ⟨a2, cap2, rfl, hlc2, hcm2, hds⟩ := hd
  have hcs' : Hid (∀ (i : Nat) (c : CondT), cs[i]? = some c → ∃ b o, a = some ⟨b, o, none⟩ ∧ b < B ∧ CondAt w b (o + i * 3) c) := hcs
  have hds' : Hid (∀ (i : Nat) (c : CondT), ds[i]? = some c → ∃ b o, a2 = some ⟨b, o, none⟩ ∧ b < B ∧ CondAt w b (o + i * 3) c) := hds
  clear hcs hds
  by_cases hne : cs.length = ds.length
  · generalize hn : cs.length = n at *
    have hm : ds.length = n := hne.symm
    clear hne
    rw [hm] at hlc2
    simp only [hm]
    have hml : n ≤ 9223372036854775807 := by have := maxLen_eq; omega
    go_enter Tryz.func143, Tryz.ntmps143
    go_wp2
    go_loopw [13] (fun i wr => ∃ k : Nat, k ≤ n ∧ i = .int .i64 k ∧ Hid (∀ i, i < k → cs[i]? = ds[i]?) ∧ Below w.heap.size w wr) (fun i _ => n - (intOf i).toNat)
    case atStart => exact ⟨0, by omega, rfl, fun i h => absurd h (by omega), Below.refl _ _⟩
    case round =>
      obtain ⟨k, hk, rfl, H, hbr⟩ := hrel
      have i0 : (0 : Int) ≤ (k : Int) := by omega
      by_cases hlt : k < n
      · have i1 : (k : Int) < (n : Int) := by omega
        obtain ⟨c, hck⟩ : ∃ c, cs[k]? = some c := ⟨cs[k]'(by omega), by simp⟩
        obtain ⟨d, hdk⟩ : ∃ d, ds[k]? = some d := ⟨ds[k]'(by omega), by simp⟩
        obtain ⟨b, o, rfl, hbB, hat⟩ := hcs'.out k c hck
        obtain ⟨b2, o2, rfl, hbB2, hat2⟩ := hds'.out k d hdk
        have hck' : Hid (cs[k]? = some c) := hck
        have hdk' : Hid (ds[k]? = some d) := hdk
        clear hck hdk
        obtain ⟨c0, c1, c2, w0, w1, w2⟩ := hat.later hbr (by omega)
        obtain ⟨d0, d1, d2, _, _, _⟩ := hat2.later hbr (by omega)
        obtain ⟨f, op, v⟩ := c
        obtain ⟨f2, op2, v2⟩ := d
        simp only [] at c0 c1 c2 d0 d1 d2
        clear hat hat2
        go_wp2
        have hsz := hbr.size
        have hne := Later.ne wr
        have c0' : ∀ x : Later wr, x.1.cell? ⟨b, o + k * 3, none⟩ = some (.int .i64 f) := fun x => x.cell c0 (by omega)
        have c1' : ∀ x : Later wr, x.1.cell? ⟨b, o + k * 3 + 1, none⟩ = some (.int .i64 op) := fun x => x.cell c1 (by omega)
        have c2' : ∀ x : Later wr, x.1.cell? ⟨b, o + k * 3 + 2, none⟩ = some (.int .i64 v) := fun x => x.cell c2 (by omega)
        have d0' : ∀ x : Later wr, x.1.cell? ⟨b2, o2 + k * 3, none⟩ = some (.int .i64 f2) := fun x => x.cell d0 (by omega)
        have d1' : ∀ x : Later wr, x.1.cell? ⟨b2, o2 + k * 3 + 1, none⟩ = some (.int .i64 op2) := fun x => x.cell d1 (by omega)
        have d2' : ∀ x : Later wr, x.1.cell? ⟨b2, o2 + k * 3 + 2, none⟩ = some (.int .i64 v2) := fun x => x.cell d2 (by omega)
        by_cases heq : ((f, op, v) : CondT) = (f2, op2, v2)
        · have Heq : Hid (((f, op, v) : CondT) = (f2, op2, v2)) := heq
          have hd : Hid ((!decide (((f, op, v) : CondT) = (f2, op2, v2))) = false) := by unfold Hid; simp [heq]
          clear heq
          refine wp_region_later (by kernel_rfl) (by kernel_rfl) ?_
          repeat (go_big_quiet_step (fail))
          refine wpQuiet_neqCond _ _ _ rfl rfl f op v f2 op2 v2 rfl rfl _ hd.out ?_
          refine wpQuiet_nil ?_
          rintro wx ⟨⟨_, hx⟩, rfl⟩
          have hbx := Below.thenOf hbr hx hbr.size
          go_wp2
          refine ⟨⟨k + 1, by omega, by go_num, fun i hi => ?_, hbx⟩, by simp [intOf]; omega⟩
          by_cases hik : i = k
          · subst hik; rw [hck'.out, hdk'.out, Heq.out]
          · exact H.out i (by omega)
        · have Heq : Hid (¬ ((f, op, v) : CondT) = (f2, op2, v2)) := heq
          have hd : Hid ((!decide (((f, op, v) : CondT) = (f2, op2, v2))) = true) := by unfold Hid; rw [decide_eq_false heq]; rfl
          clear heq
          refine wp_region_later (by kernel_rfl) (by kernel_rfl) ?_
          repeat (go_big_quiet_step (fail))
          refine wpQuiet_neqCond _ _ _ rfl rfl f op v f2 op2 v2 rfl rfl _ hd.out ?_
          refine wpQuiet_nil ?_
          rintro wx ⟨⟨_, hx⟩, rfl⟩
          have hbx := Below.thenOf hbr hx hbr.size
          go_wp2
          go_ret
          refine ⟨?_, hbx⟩
          have : cs ≠ ds := by
            intro h
            have h1 := hck'.out
            rw [h, hdk'.out] at h1
            exact Heq.out (Option.some.inj h1).symm
          simp [this]
      · go_wp2
        go_ret
        refine ⟨?_, hbr⟩
        have : cs = ds := by
          refine List.ext_getElem? fun i => ?_
          by_cases hi : i < k
          · exact H.out i hi
          · rw [List.getElem?_eq_none (by omega), List.getElem?_eq_none (by omega)]
        simp [this]
  · have hni : ((cs.length : Int) != (ds.length : Int)) = true := by simp; omega
    have hf : Hid (decide (cs = ds) = false) := by unfold Hid; simp; intro h; rw [h] at hne; exact hne rfl
    generalize cs.length = n at *
    generalize ds.length = m at *
    go_enter Tryz.func143, Tryz.ntmps143
    go_wp2
    go_ret
    exact ⟨by rw [hf.out]; rfl, Below.refl _ _⟩

end Go.Proofs.YtbdlojnigflanacGreatDoor
end
