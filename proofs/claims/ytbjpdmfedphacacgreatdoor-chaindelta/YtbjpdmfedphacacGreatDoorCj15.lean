/- Joined: PolsN LooR Ord1 Box5 OAl0 RulC. -/
import Derived.Test.YtbjpdmfedphacacGreatDoorCj11
import Derived.Test.YtbjpdmfedphacacGreatDoorCj14
import Derived.Test.YtbjpdmfedphacacGreatDoorCj07
import Derived.Test.YtbjpdmfedphacacGreatDoorCj13
import Derived.Test.YtbjpdmfedphacacGreatDoorCj01
import Derived.Test.YtbjpdmfedphacacGreatDoorCj03
section
/- Lists of one and of two policies, just written. -/
set_option linter.all false
namespace Go.Proofs.YtbjpdmfedphacacGreatDoor
open Go.RowKit Go.Maps

theorem CondsAt.mono {B B' : Nat} {w : World} {v : Value} {cs : List CondT} (h : CondsAt B w v cs) (hB : B ≤ B') : CondsAt B' w v cs := by
  obtain ⟨a, cap, h1, h2, h3, h4⟩ := h
  refine ⟨a, cap, h1, h2, h3, fun i c hc => ?_⟩
  obtain ⟨b, o, e, hl, k⟩ := h4 i c hc
  exact ⟨b, o, e, by omega, k⟩
theorem RulesAt.mono {B B' : Nat} {w : World} {v : Value} {rs : List RuleT} (h : RulesAt B w v rs) (hB : B ≤ B') : RulesAt B' w v rs := by
  obtain ⟨a, cap, h1, h2, h3, h4⟩ := h
  refine ⟨a, cap, h1, h2, h3, fun i c hc => ?_⟩
  obtain ⟨b, o, e, hl, cv, k1, k2, k3, k4⟩ := h4 i c hc
  exact ⟨b, o, e, by omega, cv, k1, k2, k3, k4.mono hB⟩
/-- A list of two policies, just written. -/
theorem pols_two {B : Nat} {w : World} {rv sv : Value} {p q : PolT} (hB : B ≤ w.heap.size) (hp : RulesAt B w rv p.1) (hpd : wf p.2) (hq : RulesAt B w sv q.1) (hqd : wf q.2) (T : TypeId) :
    PolsAt (w.heap.size + 1) (w.alloc (.cells #[rv, .int .i64 p.2, sv, .int .i64 q.2] T)) (.slice (some ⟨w.heap.size, 0, none⟩) 2 2) [p, q] := by
  have hb : Below w.heap.size w (w.alloc (.cells #[rv, .int .i64 p.2, sv, .int .i64 q.2] T)) := (Below.refl _ _).alloc (Nat.le_refl _) _
  have hm := heap_made w (.cells #[rv, .int .i64 p.2, sv, .int .i64 q.2] T)
  refine ⟨some ⟨w.heap.size, 0, none⟩, 2, rfl, Nat.le_refl _, by rw [maxLen_eq]; omega, fun i r hr => ⟨w.heap.size, 0, rfl, by omega, ?_⟩⟩
  match i, hr with
  | 0, hr =>
    simp at hr
    subst hr
    exact ⟨rv, heap_cell hm 0 rfl, heap_cell hm 1 rfl, hpd, (hp.later hb hB).mono (by omega)⟩
  | 1, hr =>
    simp at hr
    subst hr
    exact ⟨sv, heap_cell hm 2 rfl, heap_cell hm 3 rfl, hqd, (hq.later hb hB).mono (by omega)⟩
  | i + 2, hr => simp at hr
theorem pols_one {B : Nat} {w : World} {rv : Value} {p : PolT} (hB : B ≤ w.heap.size) (hp : RulesAt B w rv p.1) (hpd : wf p.2) (T : TypeId) :
    PolsAt (w.heap.size + 1) (w.alloc (.cells #[rv, .int .i64 p.2] T)) (.slice (some ⟨w.heap.size, 0, none⟩) 1 1) [p] := by
  have hb : Below w.heap.size w (w.alloc (.cells #[rv, .int .i64 p.2] T)) := (Below.refl _ _).alloc (Nat.le_refl _) _
  have hm := heap_made w (.cells #[rv, .int .i64 p.2] T)
  refine ⟨some ⟨w.heap.size, 0, none⟩, 1, rfl, Nat.le_refl _, by rw [maxLen_eq]; omega, fun i r hr => ⟨w.heap.size, 0, rfl, by omega, ?_⟩⟩
  match i, hr with
  | 0, hr =>
    simp at hr
    subst hr
    exact ⟨rv, heap_cell hm 0 rfl, heap_cell hm 1 rfl, hpd, (hp.later hb hB).mono (by omega)⟩
  | i + 1, hr => simp at hr

end Go.Proofs.YtbjpdmfedphacacGreatDoor
end
section
/- What the counterpart's FirstLooser says: the first point at which the first policy says more. -/
set_option linter.all false
set_option maxRecDepth 100000
namespace Go.Proofs.YtbjpdmfedphacacGreatDoor
open Go.RowKit Go.Maps

theorem point_five {l : List PolT} {x : List Int} (h : x ∈ pointsL l) : ∃ a b c d e, x = [a, b, c, d, e] := by
  unfold pointsL at h
  split at h
  · have h' := (mem_prodL _ _).1 h
    unfold cuts5 at h'
    match x, h' with
    | [a, b, c, d, e], _ => exact ⟨a, b, c, d, e, rfl⟩
  · cases h
theorem callCells_get : ∀ (l : List (List Int)), (∀ x ∈ l, ∃ a b c d e, x = [a, b, c, d, e]) → ∀ (i : Nat) (a b c d e : Int), l[i]? = some [a, b, c, d, e] →
    (callCells l)[i * 5]? = some (.int .i64 a) ∧ (callCells l)[i * 5 + 1]? = some (.int .i64 b) ∧ (callCells l)[i * 5 + 2]? = some (.int .i64 c) ∧ (callCells l)[i * 5 + 3]? = some (.int .i64 d) ∧ (callCells l)[i * 5 + 4]? = some (.int .i64 e)
  | [], _, _, _, _, _, _, _, h => by simp at h
  | x :: l, hx, 0, a, b, c, d, e, h => by
    simp at h
    subst h
    simp [callCells]
  | x :: l, hx, i + 1, a, b, c, d, e, h => by
    obtain ⟨a', b', c', d', e', rfl⟩ := hx x (by simp)
    have ih := callCells_get l (fun y hy => hx y (by simp [hy])) i a b c d e (by simpa using h)
    have e1 : callCells ([a', b', c', d', e'] :: l) = .int .i64 a' :: .int .i64 b' :: .int .i64 c' :: .int .i64 d' :: .int .i64 e' :: callCells l := rfl
    rw [e1, show (i + 1) * 5 = i * 5 + 5 by omega]
    exact ih
def looserC (p q : PolT) : Nat → Int := match looserP p q with
  | some x => ofL x
  | none => fun _ => 0
theorem find_take {α : Type} (f : α → Bool) (l : List α) (i : Nat) (h : ∀ x ∈ l.take i, f x = false) (x : α) (hx : l[i]? = some x) (hf : f x = true) : l.find? f = some x := by
  have e : l = l.take i ++ x :: l.drop (i + 1) := by
    obtain ⟨hi, rfl⟩ := List.getElem?_eq_some_iff.1 hx
    rw [← List.drop_eq_getElem_cons hi, List.take_append_drop]
  rw [e, List.find?_append, List.find?_eq_none.2 (fun y hy => by simp [h y hy])]
  simp [hf]

end Go.Proofs.YtbjpdmfedphacacGreatDoor
end
section
/- What package order answers: plain facts. -/
set_option linter.all false
namespace Go.Proofs.YtbjpdmfedphacacGreatDoor

def alikeB (p q : PolT) : Bool := if pointsE [p, q] = 0 then !(looserP p q).isSome && !(looserP q p).isSome else false
theorem pointsE_swap {p q : PolT} (h : pointsE [p, q] = 0) : pointsE [q, p] = 0 := by
  obtain ⟨h1, h2⟩ := pointsE_ok.1 h
  have hs : ∀ r ∈ [q, p], r ∈ [p, q] := fun r hr => by simp at hr ⊢; exact hr.symm
  have hc := points_count hs
  exact pointsE_ok.2 ⟨fun r hr => h1 r (hs r hr), by omega⟩
theorem looser_err {p q : PolT} (h : pointsE [p, q] ≠ 0) : looserP p q = none := by
  unfold looserP pointsL
  rw [if_neg h]
  rfl
theorem looser_self {p : PolT} (h : pointsE [p, p] = 0) : looserP p p = none := by
  cases hl : looserP p p with
  | none => rfl
  | some y =>
    obtain ⟨x, _, _, hv⟩ := looser_some h hl
    omega
theorem looser_chain {p q r : PolT} (h1 : pointsE [p, q] = 0) (h2 : pointsE [q, r] = 0) (h3 : pointsE [p, r] = 0) (a : looserP p q = none) (b : looserP q r = none) : looserP p r = none := by
  cases hl : looserP p r with
  | none => rfl
  | some y =>
    obtain ⟨x, _, hx, hv⟩ := looser_some h3 hl
    have k1 := looser_none h1 a hx
    have k2 := looser_none h2 b hx
    omega
theorem chain_true {p q r : PolT} : (decide (pointsE [p, q] ≠ 0) || decide (pointsE [q, r] ≠ 0) || decide (pointsE [p, r] ≠ 0) || (looserP p q).isSome || (looserP q r).isSome || !(looserP p r).isSome) = true := by
  by_cases h1 : pointsE [p, q] = 0
  · by_cases h2 : pointsE [q, r] = 0
    · by_cases h3 : pointsE [p, r] = 0
      · cases ha : looserP p q with
        | some _ => simp
        | none =>
          cases hb : looserP q r with
          | some _ => simp
          | none => simp [looser_chain h1 h2 h3 ha hb]
      · simp [h3]
    · simp [h2]
  · simp [h1]
end Go.Proofs.YtbjpdmfedphacacGreatDoor
end
section
/- A call in five cells, stored anew. -/
set_option linter.all false
namespace Go.Proofs.YtbjpdmfedphacacGreatDoor
open Go.RowKit Go.Maps

theorem callBox {w : World} {b : Nat} {x y : Nat → Int} {T : TypeId} (h : w.heap[b]? = some (.cells (cellsX x) T (0, 0))) :
    (((((w.setCell ⟨b, 0, none⟩ (.int .i64 (y 0))).setCell ⟨b, 1, none⟩ (.int .i64 (y 1))).setCell ⟨b, 2, none⟩ (.int .i64 (y 2))).setCell ⟨b, 3, none⟩ (.int .i64 (y 3))).setCell ⟨b, 4, none⟩ (.int .i64 (y 4))).heap[b]? = some (.cells (cellsX y) T (0, 0)) :=
  row_setCell (o := 4) (u := .int .i64 (y 4)) (row_setCell (o := 3) (u := .int .i64 (y 3)) (row_setCell (o := 2) (u := .int .i64 (y 2)) (row_setCell (o := 1) (u := .int .i64 (y 1)) (row_setCell (o := 0) (u := .int .i64 (y 0)) h))))
theorem callBox_below {B : Nat} {w0 w : World} {b : Nat} {y : Nat → Int} (h : Below B w0 w) (hb : B ≤ b) : Below B w0 (((((w.setCell ⟨b, 0, none⟩ (.int .i64 (y 0))).setCell ⟨b, 1, none⟩ (.int .i64 (y 1))).setCell ⟨b, 2, none⟩ (.int .i64 (y 2))).setCell ⟨b, 3, none⟩ (.int .i64 (y 3))).setCell ⟨b, 4, none⟩ (.int .i64 (y 4))) :=
  ((((h.setCell (p := ⟨b, 0, none⟩) hb _).setCell (p := ⟨b, 1, none⟩) hb _).setCell (p := ⟨b, 2, none⟩) hb _).setCell (p := ⟨b, 3, none⟩) hb _).setCell (p := ⟨b, 4, none⟩) hb _
end Go.Proofs.YtbjpdmfedphacacGreatDoor
end
section
/- What OrderAll asks of two policies at a call: plain facts. -/
set_option linter.all false
set_option maxRecDepth 100000
namespace Go.Proofs.YtbjpdmfedphacacGreatDoor
open Go.RowKit Go.Maps

theorem judge_zero {ps : List PolT} (hok : AllOk ps) {p : PolT} (hp : p ∈ ps) {x : Nat → Int} (hx : chkx x = 0) : judgeP p x = (vP p x, (judgeP p x).2.1, 0) := by
  have : (judgeP p x).2.2 = 0 := by rw [judgeP_ok (hok p hp) hx]
  rw [← this]
  rfl
theorem tight_at {p q : PolT} (he : pointsE [p, q] = 0) (hl : (looserP p q).isSome = false) {x : Nat → Int} (hx : chkx x = 0) : ∃ a b k k', judgeP p x = (a, k, 0) ∧ judgeP q x = (b, k', 0) ∧ a ≤ b := by
  obtain ⟨hok, _⟩ := pointsE_ok.1 he
  have hn : looserP p q = none := by simpa using hl
  exact ⟨_, _, _, _, judge_zero hok (by simp) hx, judge_zero hok (by simp) hx, looser_none he hn hx⟩
theorem loose_at {p q : PolT} (he : pointsE [p, q] = 0) (hl : (looserP p q).isSome = true) : ∃ a b k k', judgeP p (looserC p q) = (a, k, 0) ∧ judgeP q (looserC p q) = (b, k', 0) ∧ b < a := by
  obtain ⟨hok, _⟩ := pointsE_ok.1 he
  obtain ⟨y, hy⟩ := Option.isSome_iff_exists.1 hl
  obtain ⟨x, rfl, hx, hv⟩ := looser_some he hy
  have hc : looserC p q = ofL (fieldsOf x) := by unfold looserC; rw [hy]
  have e1 : judgeP p (looserC p q) = judgeP p x := by rw [hc, judge_fields (ofL_fields x)]
  have e2 : judgeP q (looserC p q) = judgeP q x := by rw [hc, judge_fields (ofL_fields x)]
  exact ⟨_, _, _, _, e1.trans (judge_zero hok (by simp) hx), e2.trans (judge_zero hok (by simp) hx), hv⟩
end Go.Proofs.YtbjpdmfedphacacGreatDoor
end
section
/- Rules as rows of cells. -/
set_option linter.all false
namespace Go.Proofs.YtbjpdmfedphacacGreatDoor
open Go.RowKit Go.Maps

/-- The cells of rules, one row: each a slice of conditions and a verdict. -/
def XsAt (B : Nat) (w : World) (xs : List Value) (rs : List RuleT) : Prop :=
  xs.length = rs.length * 2 ∧ (∀ u ∈ xs, u.oneCell' = true) ∧ ∀ i r, rs[i]? = some r → ∃ cv, xs[i * 2]? = some cv ∧ xs[i * 2 + 1]? = some (.int .i64 r.2) ∧ wf r.2 ∧ CondsAt B w cv r.1
theorem XsAt.later {B B' : Nat} {w w' : World} {xs : List Value} {rs : List RuleT} (h : XsAt B w xs rs) (hb : Below B' w w') (hB : B ≤ B') : XsAt B w' xs rs := by
  obtain ⟨h1, h2, h3⟩ := h
  refine ⟨h1, h2, fun i r hr => ?_⟩
  obtain ⟨cv, a, b, c, d⟩ := h3 i r hr
  exact ⟨cv, a, b, c, d.later hb hB⟩

/-- Rules in block g alone, their conditions below B. -/
def OwnRules (B g : Nat) (w : World) (v : Value) (rs : List RuleT) : Prop :=
  ∃ a cap, v = .slice a rs.length cap ∧ rs.length ≤ cap ∧ cap ≤ maxLen ∧ ∀ i r, rs[i]? = some r → a = some ⟨g, 0, none⟩ ∧ ∃ cv, w.cell? ⟨g, i * 2, none⟩ = some cv ∧ w.cell? ⟨g, i * 2 + 1, none⟩ = some (.int .i64 r.2) ∧ wf r.2 ∧ CondsAt B w cv r.1
theorem OwnRules.keep {B g : Nat} {w w' : World} {v : Value} {rs : List RuleT} (h : OwnRules B g w v rs) (hb : Below B w w') (hc : ∀ j u, w.cell? ⟨g, j, none⟩ = some u → w'.cell? ⟨g, j, none⟩ = some u) : OwnRules B g w' v rs := by
  obtain ⟨a, cap, h1, h2, h3, h4⟩ := h
  refine ⟨a, cap, h1, h2, h3, fun i r hr => ?_⟩
  obtain ⟨e, cv, k0, k1, k2, k3⟩ := h4 i r hr
  exact ⟨e, cv, hc _ _ k0, hc _ _ k1, k2, k3.later hb (Nat.le_refl _)⟩
theorem OwnRules.later {B g : Nat} {w w' : World} {v : Value} {rs : List RuleT} (h : OwnRules B g w v rs) (hb : Below w.heap.size w w') (hB : B ≤ w.heap.size) : OwnRules B g w' v rs :=
  h.keep (hb.mono hB) fun j u hu => (hb.cell (p := ⟨g, j, none⟩) (World.block_lt_of_cell? _ _ hu)).trans hu
theorem OwnRules.lt {B g : Nat} {w : World} {v : Value} {rs : List RuleT} (h : OwnRules B g w v rs) (hne : rs ≠ []) : g < w.heap.size := by
  obtain ⟨a, cap, h1, h2, h3, h4⟩ := h
  cases rs with
  | nil => exact absurd rfl hne
  | cons r l =>
    obtain ⟨_, cv, k0, _⟩ := h4 0 r rfl
    exact World.block_lt_of_cell? _ _ k0
theorem OwnRules.rulesAt {B g : Nat} {w : World} {v : Value} {rs : List RuleT} (h : OwnRules B g w v rs) (hB : B ≤ w.heap.size) : RulesAt w.heap.size w v rs := by
  have hh := h
  obtain ⟨a, cap, h1, h2, h3, h4⟩ := h
  refine ⟨a, cap, h1, h2, h3, fun i r hr => ?_⟩
  obtain ⟨e, cv, k0, k1, k2, k3⟩ := h4 i r hr
  refine ⟨g, 0, e, hh.lt (by intro h0; rw [h0] at hr; simp at hr), cv, by rw [Nat.zero_add]; exact k0, by rw [Nat.zero_add]; exact k1, k2, ?_⟩
  obtain ⟨a', cap', q1, q2, q3, q4⟩ := k3
  refine ⟨a', cap', q1, q2, q3, fun i c hc => ?_⟩
  obtain ⟨b, o, e, hl, k⟩ := q4 i c hc
  exact ⟨b, o, e, by omega, k⟩
theorem ownRules_of {B L : Nat} {w : World} {v : Value} {xs : List Value} {rs : List RuleT} (h : w.ownsRow L 51 2 v rs.length xs) (hx : XsAt B w xs rs) : ∃ g, L ≤ g ∧ OwnRules B g w v rs := by
  have hh := h
  rcases h.2 with ⟨h0, hn⟩ | ⟨g, cap, cur, h0, hL, hg, hle, hm, hcs, htk⟩
  · refine ⟨L, Nat.le_refl _, none, 0, by rw [h0, hn], by omega, Nat.zero_le _, fun i r hr => ?_⟩
    have := (List.getElem?_eq_some_iff.1 hr).1
    omega
  · refine ⟨g, hL, some ⟨g, 0, none⟩, cap, h0, hle, hm, fun i r hr => ⟨rfl, ?_⟩⟩
    have hi : i < rs.length := (List.getElem?_eq_some_iff.1 hr).1
    obtain ⟨cv, e0, e1, e2, e3⟩ := hx.2.2 i r hr
    subst h0
    have c := ownsRow_cell hh
    exact ⟨cv, c _ _ e0, c _ _ e1, e2, e3⟩

theorem XsAt.append {B : Nat} {w : World} {xs ys : List Value} {rs ss : List RuleT} (h : XsAt B w xs rs) (k : XsAt B w ys ss) : XsAt B w (xs ++ ys) (rs ++ ss) := by
  obtain ⟨h1, h2, h3⟩ := h
  obtain ⟨k1, k2, k3⟩ := k
  refine ⟨by simp [h1, k1]; omega, fun u hu => ?_, fun i r hr => ?_⟩
  · rcases List.mem_append.1 hu with h | h
    · exact h2 u h
    · exact k2 u h
  · by_cases hi : i < rs.length
    · rw [List.getElem?_append_left hi] at hr
      obtain ⟨cv, e0, e1, e2⟩ := h3 i r hr
      exact ⟨cv, by rw [List.getElem?_append_left (by omega)]; exact e0, by rw [List.getElem?_append_left (by omega)]; exact e1, e2⟩
    · rw [List.getElem?_append_right (by omega)] at hr
      obtain ⟨cv, e0, e1, e2⟩ := k3 _ r hr
      refine ⟨cv, ?_, ?_, e2⟩
      · rw [List.getElem?_append_right (by omega), show i * 2 - xs.length = (i - rs.length) * 2 by omega]; exact e0
      · rw [List.getElem?_append_right (by omega), show i * 2 + 1 - xs.length = (i - rs.length) * 2 + 1 by omega]; exact e1


end Go.Proofs.YtbjpdmfedphacacGreatDoor
end
