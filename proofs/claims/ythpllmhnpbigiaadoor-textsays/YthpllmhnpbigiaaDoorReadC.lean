/- From rows that a call owns to a policy in memory. -/
import Derived.Test.YthpllmhnpbigiaaDoorReadA
set_option linter.all false
namespace Go.Proofs.YthpllmhnpbigiaaDoor
open Go.RowKit Go.Maps

theorem condCells_get : ∀ (cs : List CondT) (i : Nat) (c : CondT), cs[i]? = some c → (condCells cs)[i * 3]? = some (.int .i64 c.1) ∧ (condCells cs)[i * 3 + 1]? = some (.int .i64 c.2.1) ∧ (condCells cs)[i * 3 + 2]? = some (.int .i64 c.2.2)
  | [], _, _, h => by simp at h
  | c' :: r, 0, c, h => by
    simp at h
    subst h
    simp [condCells]
  | c' :: r, i + 1, c, h => by
    have ih := condCells_get r i c (by simpa using h)
    have e : condCells (c' :: r) = .int .i64 c'.1 :: .int .i64 c'.2.1 :: .int .i64 c'.2.2 :: condCells r := rfl
    rw [e]
    refine ⟨?_, ?_, ?_⟩
    · rw [show (i + 1) * 3 = i * 3 + 1 + 1 + 1 by omega]; simpa using ih.1
    · rw [show (i + 1) * 3 + 1 = i * 3 + 1 + 1 + 1 + 1 by omega]; simpa using ih.2.1
    · rw [show (i + 1) * 3 + 2 = i * 3 + 2 + 1 + 1 + 1 by omega]; simpa using ih.2.2

theorem condWf {c : CondT} (h : condErr c = 0) : wf c.1 ∧ wf c.2.1 ∧ wf c.2.2 := by
  obtain ⟨h1, h2, h3⟩ := condErr_ok h
  have := most_le c.1
  exact ⟨WalkArith.wf_i64 (by omega), WalkArith.wf_i64 (by omega), WalkArith.wf_i64 (by omega)⟩
theorem verdictWf {v : Int} (h : verdictOk v = true) : wf v := by
  unfold verdictOk at h
  simp at h
  exact WalkArith.wf_i64 (by omega)

theorem condsAt_of {B base : Nat} {w : World} {cv : Value} {cs : List CondT} (h : w.ownsRow base 63 3 cv cs.length (condCells cs)) (hok : ∀ c ∈ cs, condErr c = 0) (hB : w.heap.size ≤ B) : CondsAt B w cv cs := by
  obtain ⟨a, cap, rfl, h1, h2, h3⟩ := ownsRow_caps h
  refine ⟨a, cap, rfl, h1, h2, fun i c hc => ?_⟩
  have hi : i < cs.length := (List.getElem?_eq_some_iff.1 hc).1
  obtain ⟨g, rfl, hg1, hg2⟩ := h3 (by omega)
  obtain ⟨e0, e1, e2⟩ := condCells_get cs i c hc
  obtain ⟨w0, w1, w2⟩ := condWf (hok c (List.mem_of_getElem? hc))
  refine ⟨g, 0, rfl, by omega, ?_, ?_, ?_, w0, w1, w2⟩
  · rw [Nat.zero_add]; exact ownsRow_cell h _ _ e0
  · rw [Nat.zero_add]; exact ownsRow_cell h _ _ e1
  · rw [Nat.zero_add]; exact ownsRow_cell h _ _ e2

theorem RulesCells.get {B : Nat} {w : World} : ∀ (rs : List RuleT) (xs : List Value) (i : Nat) (r : RuleT), RulesCells B w rs xs → rs[i]? = some r → ∃ cv, xs[i * 2]? = some cv ∧ xs[i * 2 + 1]? = some (.int .i64 r.2) ∧ w.ownsRow B 63 3 cv r.1.length (condCells r.1)
  | [], _, _, _, _, h => by simp at h
  | r' :: rs, xs, 0, r, h, hr => by
    obtain ⟨cv, ys, rfl, h1, h2⟩ := h
    simp at hr
    subst hr
    exact ⟨cv, rfl, rfl, h1⟩
  | r' :: rs, xs, i + 1, r, h, hr => by
    obtain ⟨cv, ys, rfl, h1, h2⟩ := h
    obtain ⟨cv', g1, g2, g3⟩ := RulesCells.get rs ys i r h2 (by simpa using hr)
    refine ⟨cv', ?_, ?_, g3⟩
    · rw [show (i + 1) * 2 = i * 2 + 1 + 1 by omega]; simpa using g1
    · rw [show (i + 1) * 2 + 1 = i * 2 + 1 + 1 + 1 by omega]; simpa using g2

theorem rulesAt_of {B base : Nat} {w : World} {rv : Value} {rs : List RuleT} {xs : List Value} (h : w.ownsRow base 41 2 rv rs.length xs) (hx : RulesCells base w rs xs) (hok : ∀ r ∈ rs, ruleErr r = 0) (hB : w.heap.size ≤ B) : RulesAt B w rv rs := by
  obtain ⟨a, cap, rfl, h1, h2, h3⟩ := ownsRow_caps h
  refine ⟨a, cap, rfl, h1, h2, fun i r hr => ?_⟩
  have hi : i < rs.length := (List.getElem?_eq_some_iff.1 hr).1
  obtain ⟨g, rfl, hg1, hg2⟩ := h3 (by omega)
  obtain ⟨cv, e0, e1, hc⟩ := RulesCells.get rs xs i r hx hr
  obtain ⟨_, k2, k3⟩ := ruleErr_ok (hok r (List.mem_of_getElem? hr))
  refine ⟨g, 0, rfl, by omega, cv, ?_, ?_, verdictWf k2, condsAt_of hc (condsErr_all k3) hB⟩
  · rw [Nat.zero_add]; exact ownsRow_cell h _ _ e0
  · rw [Nat.zero_add]; exact ownsRow_cell h _ _ e1
theorem polAt_of {B base : Nat} {w : World} {rv : Value} {rs : List RuleT} {d : Int} {xs : List Value} (h : w.ownsRow base 41 2 rv rs.length xs) (hx : RulesCells base w rs xs) (hok : polErr (rs, d) = 0) (hB : w.heap.size ≤ B) : PolAt B w (.agg #[rv, .int .i64 d]) (rs, d) := by
  obtain ⟨_, k2, k3⟩ := polErr_ok hok
  exact ⟨rv, rfl, verdictWf k2, rulesAt_of h hx (rulesErr_all k3) hB⟩

/-- A policy all of whose memory is new: from block L on. -/
def PolNew (L : Nat) (w : World) (pv : Value) (p : PolT) : Prop := ∀ wF : World, (∀ g, L ≤ g → g < w.heap.size → wF.heap[g]? = w.heap[g]?) → w.heap.size ≤ wF.heap.size → PolAt wF.heap.size wF pv p
theorem PolNew.at {L : Nat} {w : World} {pv : Value} {p : PolT} (h : PolNew L w pv p) : PolAt w.heap.size w pv p := h w (fun _ _ _ => rfl) (Nat.le_refl _)

theorem PolNew.keep {L L' : Nat} {w w' : World} {pv : Value} {p : PolT} (h : PolNew L w pv p) (hL : L' ≤ L) (hk : ∀ g, L ≤ g → g < w.heap.size → w'.heap[g]? = w.heap[g]?) (hs : w.heap.size ≤ w'.heap.size) : PolNew L' w' pv p :=
  fun wF h1 h2 => h wF (fun g hg hl => (h1 g (by omega) (by omega)).trans (hk g hg hl)) (by omega)
theorem PolNew.later {L L' : Nat} {w w' : World} {pv : Value} {p : PolT} (h : PolNew L w pv p) (hL : L' ≤ L) (hb : Below w.heap.size w w') : PolNew L' w' pv p := h.keep hL (fun g _ hl => hb.block g hl) hb.size
theorem PolNew.put {L : Nat} {w : World} {pv : Value} {p : PolT} {b o : Nat} {u : Value} (h : PolNew L w pv p) (hb : b < L ∨ w.heap.size ≤ b) : PolNew L (w.setCell ⟨b, o, none⟩ u) pv p := h.keep (Nat.le_refl _) (fun g hg hl => Below.heap_setCell _ _ _ _ (by show g ≠ b; omega)) (by simp)

end Go.Proofs.YthpllmhnpbigiaaDoor
