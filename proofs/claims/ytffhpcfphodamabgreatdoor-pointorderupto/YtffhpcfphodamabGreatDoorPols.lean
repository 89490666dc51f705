/- Several policies in memory; what the counterpart's CheckAll says of them. -/
import Derived.Test.YtffhpcfphodamabGreatDoorOrd0
import Derived.Test.YtffhpcfphodamabGreatDoorGrow
set_option linter.all false
set_option maxRecDepth 100000
namespace Go.Proofs.YtffhpcfphodamabGreatDoor
open Go.RowKit Go.Maps

/-- A policy in two cells. -/
def PolC (B : Nat) (w : World) (b o : Nat) (p : PolT) : Prop := ∃ rv, w.cell? ⟨b, o, none⟩ = some rv ∧ w.cell? ⟨b, o + 1, none⟩ = some (.int .i64 p.2) ∧ wf p.2 ∧ RulesAt B w rv p.1
def PolsAt (B : Nat) (w : World) (v : Value) (ps : List PolT) : Prop :=
  ∃ a cap, v = .slice a ps.length cap ∧ ps.length ≤ cap ∧ cap ≤ maxLen ∧ ∀ (i : Nat) p, ps[i]? = some p → ∃ b o, a = some ⟨b, o, none⟩ ∧ b < B ∧ PolC B w b (o + i * 2) p
theorem PolC.later {B B' : Nat} {w w' : World} {b o : Nat} {p : PolT} (h : PolC B w b o p) (hb : Below B' w w') (hB : B ≤ B') (hl : b < B) : PolC B w' b o p := by
  obtain ⟨rv, h1, h2, h3, h4⟩ := h
  exact ⟨rv, (hb.cell (p := ⟨b, o, none⟩) (by show b < B'; omega)).trans h1, (hb.cell (p := ⟨b, o + 1, none⟩) (by show b < B'; omega)).trans h2, h3, h4.later hb hB⟩
theorem PolsAt.later {B B' : Nat} {w w' : World} {v : Value} {ps : List PolT} (h : PolsAt B w v ps) (hb : Below B' w w') (hB : B ≤ B') : PolsAt B w' v ps := by
  obtain ⟨a, cap, h1, h2, h3, h4⟩ := h
  refine ⟨a, cap, h1, h2, h3, fun i c hc => ?_⟩
  obtain ⟨b, o, e, hl, k⟩ := h4 i c hc
  exact ⟨b, o, e, hl, k.later hb hB hl⟩
theorem PolC.pol {B : Nat} {w : World} {b o : Nat} {p : PolT} (h : PolC B w b o p) : ∃ a n cap, w.cell? ⟨b, o, none⟩ = some (.slice a n cap) ∧ w.cell? ⟨b, o + 1, none⟩ = some (.int .i64 p.2) ∧ PolAt B w (.agg #[.slice a n cap, .int .i64 p.2]) p := by
  obtain ⟨rv, h1, h2, h3, h4⟩ := h
  obtain ⟨a, cap, rfl, h5⟩ := h4
  exact ⟨a, _, cap, h1, h2, _, rfl, h3, a, cap, rfl, h5⟩

theorem polsErr_drop (ps : List PolT) (k : Nat) (p : PolT) (h : ps[k]? = some p) : polsErr (ps.drop k) = if polErr p = 0 then polsErr (ps.drop (k + 1)) else polErr p := by
  obtain ⟨hk, rfl⟩ := List.getElem?_eq_some_iff.1 h
  rw [List.drop_eq_getElem_cons hk]
  rfl

end Go.Proofs.YtffhpcfphodamabGreatDoor
