/- What the counterpart's Both says. -/
import Derived.Test.YtbjpdmfedphacacGreatDoorCj27
import Derived.Test.YtbjpdmfedphacacGreatDoorCj09
import Derived.Test.YtbjpdmfedphacacGreatDoorCj15
import Derived.Laws.ResultCell
set_option linter.all false
set_option maxRecDepth 100000
namespace Go.Proofs.YtbjpdmfedphacacGreatDoor
open Go.RowKit Go.Maps

theorem XsN.rules {L : Nat} {w : World} {v : Value} {xs : List Value} {rs : List RuleT} (ho : w.ownsRow L 51 2 v rs.length xs) (hx : XsN L w xs rs) : RulesAt w.heap.size w v rs := by
  obtain ⟨a, cap, rfl, h1, h2, h3⟩ := ownsRow_caps ho
  refine ⟨a, cap, rfl, h1, h2, fun i r hr => ?_⟩
  have hi : i < rs.length := (List.getElem?_eq_some_iff.1 hr).1
  obtain ⟨g, rfl, hg1, hg2⟩ := h3 (by omega)
  obtain ⟨cv, e0, e1, e2, e3, e4⟩ := hx.2.2 i r hr
  exact ⟨g, 0, rfl, hg2, cv, by rw [Nat.zero_add]; exact ownsRow_cell ho _ _ e0, by rw [Nat.zero_add]; exact ownsRow_cell ho _ _ e1, e2, condsAt_own e4 e3⟩
theorem KeepT.setOther {T T' : TypeId} {w : World} {b o : Nat} {cur : Array Value} {fr : Nat × Nat} {u : Value} (h : w.heap[b]? = some (.cells cur T' fr)) (hT : T' ≠ T) : KeepT T w (w.setCell ⟨b, o, none⟩ u) := fun k cur' fr' hk => (Below.heap_setCell _ _ _ _ (by
  show k ≠ b
  intro e
  subst e
  rw [h] at hk
  cases hk
  exact hT rfl)).trans hk
theorem zeroPol (B : Nat) (w : World) : PolAt B w (.agg #[.slice none 0 0, .int .i64 0]) ([], 0) := ⟨_, rfl, by unfold wf; decide, none, 0, rfl, Nat.le_refl _, by rw [maxLen_eq]; omega, fun i r h => by simp at h⟩

end Go.Proofs.YtbjpdmfedphacacGreatDoor
