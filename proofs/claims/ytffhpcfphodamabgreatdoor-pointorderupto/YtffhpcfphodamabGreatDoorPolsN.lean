/- Lists of one and of two policies, just written. -/
import Derived.Test.YtffhpcfphodamabGreatDoorPols
set_option linter.all false
namespace Go.Proofs.YtffhpcfphodamabGreatDoor
open Go.RowKit Go.Maps

theorem CondsAt.mono {B B' : Nat} {w : World} {v : Value} {cs : List CondT} (h : CondsAt B w v cs) (hB : B ≤ B') : CondsAt B' w v cs := by
  obtain ⟨a, cap, h1, h2, h3, h4⟩ := h
  refine ⟨a, cap, h1, h2, h3, fun i c hc => ?_⟩
  obtain ⟨b, o, e, hl, k⟩ := h4 i c hc
  exact ⟨b, o, e, by omega, k⟩
theorem RulesAt.mono {B B' : Nat} {w : World} {v : Value} {rs : List RuleT} (h : RulesAt B w v rs) (hB : B ≤ B') : RulesAt B' w v rs := by
  obtain ⟨a, cap, h1, h2, h3, h4⟩ := h
  refine ⟨a, cap, h1, h2, h3, fun i c hc => ?_⟩
  obtain ⟨b, o, e, hl, cv, k1, k2, k3, k4⟩ := h4 i c hc
  exact ⟨b, o, e, by omega, cv, k1, k2, k3, k4.mono hB⟩
/-- A list of two policies, just written. -/
theorem pols_two {B : Nat} {w : World} {rv sv : Value} {p q : PolT} (hB : B ≤ w.heap.size) (hp : RulesAt B w rv p.1) (hpd : wf p.2) (hq : RulesAt B w sv q.1) (hqd : wf q.2) (T : TypeId) :
    PolsAt (w.heap.size + 1) (w.alloc (.cells #[rv, .int .i64 p.2, sv, .int .i64 q.2] T)) (.slice (some ⟨w.heap.size, 0, none⟩) 2 2) [p, q] := by
  have hb : Below w.heap.size w (w.alloc (.cells #[rv, .int .i64 p.2, sv, .int .i64 q.2] T)) := (Below.refl _ _).alloc (Nat.le_refl _) _
  have hm := heap_made w (.cells #[rv, .int .i64 p.2, sv, .int .i64 q.2] T)
  refine ⟨some ⟨w.heap.size, 0, none⟩, 2, rfl, Nat.le_refl _, by rw [maxLen_eq]; omega, fun i r hr => ⟨w.heap.size, 0, rfl, by omega, ?_⟩⟩
  match i, hr with
  | 0, hr =>
    simp at hr
    subst hr
    exact ⟨rv, heap_cell hm 0 rfl, heap_cell hm 1 rfl, hpd, (hp.later hb hB).mono (by omega)⟩
  | 1, hr =>
    simp at hr
    subst hr
    exact ⟨sv, heap_cell hm 2 rfl, heap_cell hm 3 rfl, hqd, (hq.later hb hB).mono (by omega)⟩
  | i + 2, hr => simp at hr
theorem pols_one {B : Nat} {w : World} {rv : Value} {p : PolT} (hB : B ≤ w.heap.size) (hp : RulesAt B w rv p.1) (hpd : wf p.2) (T : TypeId) :
    PolsAt (w.heap.size + 1) (w.alloc (.cells #[rv, .int .i64 p.2] T)) (.slice (some ⟨w.heap.size, 0, none⟩) 1 1) [p] := by
  have hb : Below w.heap.size w (w.alloc (.cells #[rv, .int .i64 p.2] T)) := (Below.refl _ _).alloc (Nat.le_refl _) _
  have hm := heap_made w (.cells #[rv, .int .i64 p.2] T)
  refine ⟨some ⟨w.heap.size, 0, none⟩, 1, rfl, Nat.le_refl _, by rw [maxLen_eq]; omega, fun i r hr => ⟨w.heap.size, 0, rfl, by omega, ?_⟩⟩
  match i, hr with
  | 0, hr =>
    simp at hr
    subst hr
    exact ⟨rv, heap_cell hm 0 rfl, heap_cell hm 1 rfl, hpd, (hp.later hb hB).mono (by omega)⟩
  | i + 1, hr => simp at hr

end Go.Proofs.YtffhpcfphodamabGreatDoor
