/- KeeperReplays: its contract at the seat, and that a memory as the row asks for is there. -/
import Derived.Test.YtbdlojnigflanacGreatDoorCards
import Derived.Test.YtbdlojnigflanacGreatDoorTie
import Derived.Test.YtbdlojnigflanacGreatDoorKa07
import Derived.Test.YtbdlojnigflanacGreatDoorOpenQ
import Derived.Test.YtbdlojnigflanacGreatDoorKRp
import Derived.SizedLaws
import Derived.Deep.DeepHandedRow
import Derived.LaidMore
import Derived.Deep.DeepWitnessRowRef
import Derived.Deep.DeepLaidRun
import Derived.LaidSub
import Derived.LaidLaws
set_option linter.all false
set_option maxRecDepth 100000
namespace Go.Proofs.YtbdlojnigflanacGreatDoor
open Go.ChangeShapes Go.WideShapes Go.ChangeAt Go.RowKit Go.Deep

theorem krp_contract (H : Type) (enc : TypeId × Value → H) (W : World) (base : Nat) (args : Array Value) (ds gs : List (DataW H)) (before : List MemPlace)
    (hval : ∀ (j : Nat) t v, Tryz.f9.params[j]? = some t → args[j]? = some v → Value.okWide Tryz.prog W .any base t v)
    (hW : DataW.Whole enc Tryz.prog Tryz.f9.params.toList Rows.keeperReplaysSpec.vars false W args.toList ds gs before) (hsh : W.ShapedOpen Tryz.prog) :
    Calls Tryz.prog 9 args W fun e W' => ∃ v, e = .returned v ∧ Rows.keeperReplaysSpec.post enc Tryz.prog Tryz.f9 false true false false W args v W' := by
  have hW' := hW
  obtain ⟨p, q, hA0, hV, rfl, hfz, hnd⟩ := hW
  have hA : DataW.TrodAll enc Tryz.prog W 0 (fun _ => true) true Tryz.f9.params.toList args.toList ds p := hA0
  rw [Tryz.params9] at hA hval
  have hAk := hA
  obtain ⟨v0, vs0, d0, ds0, p0, q0, hargs, rfl, rfl, h0, r0⟩ := trodAll_cons hA
  obtain ⟨rfl, rfl, rfl⟩ := trodAll_nil r0
  obtain rfl : args = #[v0] := by cases args; simp_all
  obtain ⟨rfl, rfl⟩ := trodVars_none hV
  obtain ⟨a0, ha0⟩ := open_recs (hval 0 53 v0 rfl rfl) h0
  clear hA0
  refine (keeperReplays_any W.heap.size v0 a0 W (env_of_shaped hsh) ha0 (Nat.le_refl _)).mono fun e W' ⟨he, bel⟩ => ?_
  subst he
  exact ⟨_, rfl, _, _, _, [], _, [], hW', trodAll_mk1 (shut_bool Tryz.underlying4 _), trodAll_below laidOut bel _ _ _ _ (by intro t ht; simp at ht; subst ht; exact ⟨by kernel_rfl, of_decide_eq_true (by kernel_rfl)⟩) hAk, rfl, bel.frame _, fun h => by cases h⟩

def layFirst (h : Array Obj) : Array Obj := h.modify 6 fun o => match o with
  | .cells _ t frozen => .cells (Go.Pinned.utf8FirstZ.map fun n => Value.int .u8 (Int.ofNat n)).toArray t frozen
  | o => o

set_option maxHeartbeats 8000000 in
theorem krp_lifted (os : Os) (started : os.Started) (H : Type) (enc : TypeId × Value → H) (F : Stop.Interp) :
    ReturnsInHanded {} Tryz.checked os 9 .any ((OpenSpec.ofChange Rows.keeperReplaysSpec).preRow enc Tryz.prog Tryz.f9 Rows.keeperReplaysRow.domain false Rows.keeperReplaysRow.laid) (((OpenSpec.ofChange Rows.keeperReplaysSpec).at F).post enc Tryz.prog Tryz.f9 false true false false) := by
  obtain ⟨w0, hw0⟩ : ∃ w0 : World, w0 = { World.doorLaid Tryz.prog 3000 os with heap := layFirst (World.doorLaid Tryz.prog 3000 os).heap } := ⟨_, rfl⟩
  have hx : ∃ places, DataW.whole enc Tryz.prog (w0.forCall (fun _ _ => 0) ⟨#[], #[.slice none 0 0], []⟩).memory Tryz.f9.params.toList Rows.keeperReplaysSpec.vars false [Value.slice none 0 0] 8 = some ([.nil], [], places) := ⟨[], by rw [hw0]; as_aux_lemma => kernel_rfl⟩
  have hl : laidMetH Tryz.prog Rows.keeperReplaysRow.laid (w0.forCall (fun _ _ => 0) ⟨#[], #[.slice none 0 0], []⟩).memory := by
    rw [hw0]
    exact laidMetH_of_parts3 (fuel := 8) (laidMet_of_run3 8 (by as_aux_lemma => kernel_rfl) (by as_aux_lemma => kernel_rfl) (by as_aux_lemma => kernel_rfl)) (by as_aux_lemma => kernel_rfl) (by as_aux_lemma => kernel_rfl)
  obtain ⟨places, hx⟩ := hx
  refine returnsInHanded_of_row (C := Tryz.checked) (s := OpenSpec.ofChange Rows.keeperReplaysSpec) own started (by as_aux_lemma => kernel_rfl) Tryz.func9
    (witness_row_atRef (enc := enc) (C := Tryz.checked) false w0 #[.slice none 0 0] (by rw [hw0]; rfl) (by rw [hw0]; as_aux_lemma => kernel_rfl) (by rw [hw0]; as_aux_lemma => kernel_rfl) (by rw [hw0]; as_aux_lemma => kernel_rfl)
      (OpenSpec.preRow_of_cond 8 hx (by as_aux_lemma => kernel_rfl) (fun k hk => by cases hk) (by as_aux_lemma => kernel_rfl) hl)) ?_
  intro W base args ds gs before hval hW _ hcond hsz _ hsh _
  exact krp_contract H enc W base args ds gs before hval hW hsh
end Go.Proofs.YtbdlojnigflanacGreatDoor
