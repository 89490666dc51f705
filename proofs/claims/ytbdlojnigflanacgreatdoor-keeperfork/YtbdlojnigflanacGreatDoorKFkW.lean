/- KeeperFork: its contract at the seat, and that a memory as the row asks for is there. -/
import Derived.Test.YtbdlojnigflanacGreatDoorCards
import Derived.Test.YtbdlojnigflanacGreatDoorTie
import Derived.Test.YtbdlojnigflanacGreatDoorKb07
import Derived.Test.YtbdlojnigflanacGreatDoorKb10
import Derived.Test.YtbdlojnigflanacGreatDoorOpenI
import Derived.Test.YtbdlojnigflanacGreatDoorKFk
import Derived.SizedLaws
import Derived.Deep.DeepHandedRow
import Derived.LaidMore
import Derived.Deep.DeepWitnessRowRef
import Derived.Deep.DeepLaidRun
import Derived.LaidSub
import Derived.LaidLaws
set_option linter.all false
set_option maxRecDepth 100000
namespace Go.Proofs.YtbdlojnigflanacGreatDoor
open Go.ChangeShapes Go.WideShapes Go.ChangeAt Go.RowKit Go.Deep

theorem kfk_contract (H : Type) (enc : TypeId × Value → H) (W : World) (base : Nat) (args : Array Value) (ds gs : List (DataW H)) (before : List MemPlace)
    (hval : ∀ (j : Nat) t v, Tryz.f12.params[j]? = some t → args[j]? = some v → Value.okWide Tryz.prog W .any base t v)
    (hW : DataW.Whole enc Tryz.prog Tryz.f12.params.toList Rows.keeperForkSpec.vars false W args.toList ds gs before) (hsh : W.ShapedOpen Tryz.prog) :
    Calls Tryz.prog 12 args W fun e W' => ∃ v, e = .returned v ∧ Rows.keeperForkSpec.post enc Tryz.prog Tryz.f12 false true false false W args v W' := by
  have hW' := hW
  obtain ⟨p, q, hA0, hV, rfl, hfz, hnd⟩ := hW
  have hA : DataW.TrodAll enc Tryz.prog W 0 (fun _ => true) true Tryz.f12.params.toList args.toList ds p := hA0
  rw [Tryz.params12] at hA hval
  have hAk := hA
  obtain ⟨v0, vs0, d0, ds0, p0, q0, hargs, rfl, rfl, h0, r0⟩ := trodAll_cons hA
  obtain ⟨v1, vs1, d1, ds1, p1, q1, rfl, rfl, rfl, h1, r1⟩ := trodAll_cons r0
  obtain ⟨v2, vs2, d2, ds2, p2, q2, rfl, rfl, rfl, h2, r2⟩ := trodAll_cons r1
  obtain ⟨v3, vs3, d3, ds3, p3, q3, rfl, rfl, rfl, h3, r3⟩ := trodAll_cons r2
  obtain ⟨rfl, rfl, rfl⟩ := trodAll_nil r3
  obtain rfl : args = #[v0, v1, v2, v3] := by cases args; simp_all
  obtain ⟨rfl, rfl⟩ := trodVars_none hV
  obtain ⟨a0, ha0⟩ := open_recs (hval 0 53 v0 rfl rfl) h0
  obtain ⟨a1, rfl, ha1⟩ := open_int (hval 1 3 v1 rfl rfl) h1
  obtain ⟨a2, rfl, ha2⟩ := open_int (hval 2 3 v2 rfl rfl) h2
  obtain ⟨a3, rfl⟩ := open_call (hval 3 26 v3 rfl rfl) h3
  clear hA0
  refine (keeperFork_any W.heap.size v0 a0 a1 a2 a3 W (env_of_shaped hsh) ha0 ha1 ha2 (Nat.le_refl _)).mono fun e W' ⟨he, bel⟩ => ?_
  subst he
  exact ⟨_, rfl, _, _, _, [], _, [], hW', trodAll_mk1 (shut_bool Tryz.underlying4 _), trodAll_below laidOut bel _ _ _ _ (by intro t ht; simp at ht; rcases ht with rfl | rfl | rfl | rfl <;> exact ⟨by kernel_rfl, of_decide_eq_true (by kernel_rfl)⟩) hAk, rfl, bel.frame _, fun h => by cases h⟩

def layFirst (h : Array Obj) : Array Obj := h.modify 6 fun o => match o with
  | .cells _ t frozen => .cells (Go.Pinned.utf8FirstZ.map fun n => Value.int .u8 (Int.ofNat n)).toArray t frozen
  | o => o

set_option maxHeartbeats 8000000 in
theorem kfk_lifted (os : Os) (started : os.Started) (H : Type) (enc : TypeId × Value → H) (F : Stop.Interp) :
    ReturnsInHanded {} Tryz.checked os 12 .any ((OpenSpec.ofChange Rows.keeperForkSpec).preRow enc Tryz.prog Tryz.f12 Rows.keeperForkRow.domain false Rows.keeperForkRow.laid) (((OpenSpec.ofChange Rows.keeperForkSpec).at F).post enc Tryz.prog Tryz.f12 false true false false) := by
  obtain ⟨w0, hw0⟩ : ∃ w0 : World, w0 = { World.doorLaid Tryz.prog 3000 os with heap := layFirst (World.doorLaid Tryz.prog 3000 os).heap } := ⟨_, rfl⟩
  have hx : ∃ places, DataW.whole enc Tryz.prog (w0.forCall (fun _ _ => 0) ⟨#[], #[.slice none 0 0, .int .i64 0, .int .i64 0, .agg #[.int .i64 0, .int .i64 0, .int .i64 0, .int .i64 0, .int .i64 0]], []⟩).memory Tryz.f12.params.toList Rows.keeperForkSpec.vars false [Value.slice none 0 0, .int .i64 0, .int .i64 0, .agg #[.int .i64 0, .int .i64 0, .int .i64 0, .int .i64 0, .int .i64 0]] 8 = some ([.nil, .lit (.int .i64 0), .lit (.int .i64 0), .agg [.lit (.int .i64 0), .lit (.int .i64 0), .lit (.int .i64 0), .lit (.int .i64 0), .lit (.int .i64 0)]], [], places) := ⟨[], by rw [hw0]; as_aux_lemma => kernel_rfl⟩
  have hl : laidMetH Tryz.prog Rows.keeperForkRow.laid (w0.forCall (fun _ _ => 0) ⟨#[], #[.slice none 0 0, .int .i64 0, .int .i64 0, .agg #[.int .i64 0, .int .i64 0, .int .i64 0, .int .i64 0, .int .i64 0]], []⟩).memory := by
    rw [hw0]
    exact laidMetH_of_parts3 (fuel := 8) (laidMet_of_run3 8 (by as_aux_lemma => kernel_rfl) (by as_aux_lemma => kernel_rfl) (by as_aux_lemma => kernel_rfl)) (by as_aux_lemma => kernel_rfl) (by as_aux_lemma => kernel_rfl)
  obtain ⟨places, hx⟩ := hx
  refine returnsInHanded_of_row (C := Tryz.checked) (s := OpenSpec.ofChange Rows.keeperForkSpec) own started (by as_aux_lemma => kernel_rfl) Tryz.func12
    (witness_row_atRef (enc := enc) (C := Tryz.checked) false w0 #[.slice none 0 0, .int .i64 0, .int .i64 0, .agg #[.int .i64 0, .int .i64 0, .int .i64 0, .int .i64 0, .int .i64 0]] (by rw [hw0]; rfl) (by rw [hw0]; as_aux_lemma => kernel_rfl) (by rw [hw0]; as_aux_lemma => kernel_rfl) (by rw [hw0]; as_aux_lemma => kernel_rfl)
      (OpenSpec.preRow_of_cond 8 hx (by as_aux_lemma => kernel_rfl) (fun k hk => by cases hk) (by as_aux_lemma => kernel_rfl) hl)) ?_
  intro W base args ds gs before hval hW _ hcond hsz _ hsh _
  exact kfk_contract H enc W base args ds gs before hval hW hsh
end Go.Proofs.YtbdlojnigflanacGreatDoor
