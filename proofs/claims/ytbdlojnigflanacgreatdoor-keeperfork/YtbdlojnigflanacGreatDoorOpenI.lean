/- An int that came in. -/
import Derived.Test.YtbdlojnigflanacGreatDoorKb07
set_option linter.all false
set_option maxRecDepth 100000
namespace Go.Proofs.YtbdlojnigflanacGreatDoor
open Go.ChangeShapes Go.WideShapes Go.ChangeAt Go.RowKit Go.Deep

theorem open_int {H : Type} {enc : TypeId × Value → H} {W : World} {r : Reach} {b0 base : Nat} {sp : Nat → Bool} {held : Bool} {v : Value} {d : DataW H} {p : List MemPlace}
    (hv : Value.okWide Tryz.prog W r b0 3 v) (h : DataW.Trod enc Tryz.prog W base sp held 3 v d p) : ∃ n, v = .int .i64 n ∧ wf n := by
  obtain ⟨n, rfl⟩ := okWide_int Tryz.underlying3 hv
  obtain ⟨fuel, hf⟩ := h
  have hf' : DataW.trod enc Tryz.prog W base sp held fuel 3 [.int .i64 n] = some (d, p) := hf
  obtain ⟨m, q, _, hw⟩ := DataW.trod_int Tryz.underlying3 hf'
  simp at q
  subst q
  exact ⟨n, rfl, hw⟩

end Go.Proofs.YtbdlojnigflanacGreatDoor
