/- Joined: RulC Clone Box5. -/
import Derived.Test.YtclehchkmienoabGreatDoorOj02
import Derived.Test.YtclehchkmienoabGreatDoorOj04
import Derived.Test.YtclehchkmienoabGreatDoorOj12
import Derived.Test.YtclehchkmienoabGreatDoorOj19
section
/- Rules as rows of cells. -/
set_option linter.all false
namespace Go.Proofs.YtclehchkmienoabGreatDoor
open Go.RowKit Go.Maps

/-- The cells of rules, one row: each a slice of conditions and a verdict. -/
def XsAt (B : Nat) (w : World) (xs : List Value) (rs : List RuleT) : Prop :=
  xs.length = rs.length * 2 ∧ (∀ u ∈ xs, u.oneCell' = true) ∧ ∀ i r, rs[i]? = some r → ∃ cv, xs[i * 2]? = some cv ∧ xs[i * 2 + 1]? = some (.int .i64 r.2) ∧ wf r.2 ∧ CondsAt B w cv r.1
theorem XsAt.later {B B' : Nat} {w w' : World} {xs : List Value} {rs : List RuleT} (h : XsAt B w xs rs) (hb : Below B' w w') (hB : B ≤ B') : XsAt B w' xs rs := by
  obtain ⟨h1, h2, h3⟩ := h
  refine ⟨h1, h2, fun i r hr => ?_⟩
  obtain ⟨cv, a, b, c, d⟩ := h3 i r hr
  exact ⟨cv, a, b, c, d.later hb hB⟩

/-- Rules in block g alone, their conditions below B. -/
def OwnRules (B g : Nat) (w : World) (v : Value) (rs : List RuleT) : Prop :=
  ∃ a cap, v = .slice a rs.length cap ∧ rs.length ≤ cap ∧ cap ≤ maxLen ∧ ∀ i r, rs[i]? = some r → a = some ⟨g, 0, none⟩ ∧ ∃ cv, w.cell? ⟨g, i * 2, none⟩ = some cv ∧ w.cell? ⟨g, i * 2 + 1, none⟩ = some (.int .i64 r.2) ∧ wf r.2 ∧ CondsAt B w cv r.1
theorem OwnRules.keep {B g : Nat} {w w' : World} {v : Value} {rs : List RuleT} (h : OwnRules B g w v rs) (hb : Below B w w') (hc : ∀ j u, w.cell? ⟨g, j, none⟩ = some u → w'.cell? ⟨g, j, none⟩ = some u) : OwnRules B g w' v rs := by
  obtain ⟨a, cap, h1, h2, h3, h4⟩ := h
  refine ⟨a, cap, h1, h2, h3, fun i r hr => ?_⟩
  obtain ⟨e, cv, k0, k1, k2, k3⟩ := h4 i r hr
  exact ⟨e, cv, hc _ _ k0, hc _ _ k1, k2, k3.later hb (Nat.le_refl _)⟩
theorem OwnRules.later {B g : Nat} {w w' : World} {v : Value} {rs : List RuleT} (h : OwnRules B g w v rs) (hb : Below w.heap.size w w') (hB : B ≤ w.heap.size) : OwnRules B g w' v rs :=
  h.keep (hb.mono hB) fun j u hu => (hb.cell (p := ⟨g, j, none⟩) (World.block_lt_of_cell? _ _ hu)).trans hu
theorem OwnRules.lt {B g : Nat} {w : World} {v : Value} {rs : List RuleT} (h : OwnRules B g w v rs) (hne : rs ≠ []) : g < w.heap.size := by
  obtain ⟨a, cap, h1, h2, h3, h4⟩ := h
  cases rs with
  | nil => exact absurd rfl hne
  | cons r l =>
    obtain ⟨_, cv, k0, _⟩ := h4 0 r rfl
    exact World.block_lt_of_cell? _ _ k0
theorem OwnRules.rulesAt {B g : Nat} {w : World} {v : Value} {rs : List RuleT} (h : OwnRules B g w v rs) (hB : B ≤ w.heap.size) : RulesAt w.heap.size w v rs := by
  have hh := h
  obtain ⟨a, cap, h1, h2, h3, h4⟩ := h
  refine ⟨a, cap, h1, h2, h3, fun i r hr => ?_⟩
  obtain ⟨e, cv, k0, k1, k2, k3⟩ := h4 i r hr
  refine ⟨g, 0, e, hh.lt (by intro h0; rw [h0] at hr; simp at hr), cv, by rw [Nat.zero_add]; exact k0, by rw [Nat.zero_add]; exact k1, k2, ?_⟩
  obtain ⟨a', cap', q1, q2, q3, q4⟩ := k3
  refine ⟨a', cap', q1, q2, q3, fun i c hc => ?_⟩
  obtain ⟨b, o, e, hl, k⟩ := q4 i c hc
  exact ⟨b, o, e, by omega, k⟩
theorem ownRules_of {B L : Nat} {w : World} {v : Value} {xs : List Value} {rs : List RuleT} (h : w.ownsRow L 68 2 v rs.length xs) (hx : XsAt B w xs rs) : ∃ g, L ≤ g ∧ OwnRules B g w v rs := by
  have hh := h
  rcases h.2 with ⟨h0, hn⟩ | ⟨g, cap, cur, h0, hL, hg, hle, hm, hcs, htk⟩
  · refine ⟨L, Nat.le_refl _, none, 0, by rw [h0, hn], by omega, Nat.zero_le _, fun i r hr => ?_⟩
    have := (List.getElem?_eq_some_iff.1 hr).1
    omega
  · refine ⟨g, hL, some ⟨g, 0, none⟩, cap, h0, hle, hm, fun i r hr => ⟨rfl, ?_⟩⟩
    have hi : i < rs.length := (List.getElem?_eq_some_iff.1 hr).1
    obtain ⟨cv, e0, e1, e2, e3⟩ := hx.2.2 i r hr
    subst h0
    have c := ownsRow_cell hh
    exact ⟨cv, c _ _ e0, c _ _ e1, e2, e3⟩

theorem XsAt.append {B : Nat} {w : World} {xs ys : List Value} {rs ss : List RuleT} (h : XsAt B w xs rs) (k : XsAt B w ys ss) : XsAt B w (xs ++ ys) (rs ++ ss) := by
  obtain ⟨h1, h2, h3⟩ := h
  obtain ⟨k1, k2, k3⟩ := k
  refine ⟨by simp [h1, k1]; omega, fun u hu => ?_, fun i r hr => ?_⟩
  · rcases List.mem_append.1 hu with h | h
    · exact h2 u h
    · exact k2 u h
  · by_cases hi : i < rs.length
    · rw [List.getElem?_append_left hi] at hr
      obtain ⟨cv, e0, e1, e2⟩ := h3 i r hr
      exact ⟨cv, by rw [List.getElem?_append_left (by omega)]; exact e0, by rw [List.getElem?_append_left (by omega)]; exact e1, e2⟩
    · rw [List.getElem?_append_right (by omega)] at hr
      obtain ⟨cv, e0, e1, e2⟩ := k3 _ r hr
      refine ⟨cv, ?_, ?_, e2⟩
      · rw [List.getElem?_append_right (by omega), show i * 2 - xs.length = (i - rs.length) * 2 by omega]; exact e0
      · rw [List.getElem?_append_right (by omega), show i * 2 + 1 - xs.length = (i - rs.length) * 2 + 1 by omega]; exact e1


end Go.Proofs.YtclehchkmienoabGreatDoor
end
section
/- slices.Clone of rules: a row of the call's own, the rules' conditions where they were. -/
set_option linter.all false
set_option maxRecDepth 100000
namespace Go.Proofs.YtclehchkmienoabGreatDoor
open Go.RowKit Go.Maps

/-- Rules in memory, as a row of cells. -/
theorem xs_of {B : Nat} {w : World} {rs : List RuleT} {b o : Nat} (h : ∀ i r, rs[i]? = some r → RuleAt B w b (o + i * 2) r) : ∃ xs, XsAt B w xs rs ∧ ∀ j u, xs[j]? = some u → w.cell? ⟨b, o + j, none⟩ = some u := by
  have each : ∀ j, j < rs.length * 2 → ∃ v, w.cell? ⟨b, o + j, none⟩ = some v ∧ v.oneCell' = true := by
    intro j hj
    obtain ⟨r, hr⟩ : ∃ r, rs[j / 2]? = some r := ⟨rs[j / 2]'(by omega), by simp⟩
    obtain ⟨cv, c0, c1, _, hc⟩ := h _ r hr
    by_cases hm : j % 2 = 0
    · refine ⟨cv, ?_, ?_⟩
      · rw [show o + j = o + j / 2 * 2 by omega]; exact c0
      · obtain ⟨a, cap, rfl, _⟩ := hc; rfl
    · exact ⟨_, by rw [show o + j = o + j / 2 * 2 + 1 by omega]; exact c1, rfl⟩
  obtain ⟨xs, hl, hx⟩ := list_of _ _ each
  refine ⟨xs, ⟨hl, fun u hu => ?_, fun i r hr => ?_⟩, fun j u hj => (hx j u hj).1⟩
  · obtain ⟨j, hj⟩ := List.mem_iff_getElem?.1 hu
    exact (hx j u hj).2
  · have hi : i < rs.length := (List.getElem?_eq_some_iff.1 hr).1
    obtain ⟨cv, c0, c1, hw, hc⟩ := h i r hr
    obtain ⟨v0, h0⟩ : ∃ v, xs[i * 2]? = some v := ⟨xs[i * 2]'(by omega), by simp⟩
    obtain ⟨v1, h1⟩ : ∃ v, xs[i * 2 + 1]? = some v := ⟨xs[i * 2 + 1]'(by omega), by simp⟩
    have e0 := (hx _ _ h0).1
    have e1 := (hx _ _ h1).1
    rw [c0] at e0
    rw [show o + (i * 2 + 1) = o + i * 2 + 1 by omega, c1] at e1
    cases e0
    cases e1
    exact ⟨cv, h0, h1, hw, hc⟩
/-- And back: a row of the call's own that holds them. -/
theorem rulesAt_own {B L : Nat} {w : World} {v : Value} {xs : List Value} {rs : List RuleT} (h : w.ownsRow L 68 2 v rs.length xs) (hx : XsAt B w xs rs) (hB : B ≤ w.heap.size) : RulesAt w.heap.size w v rs := by
  obtain ⟨a, cap, rfl, h1, h2, h3⟩ := ownsRow_caps h
  refine ⟨a, cap, rfl, h1, h2, fun i r hr => ?_⟩
  have hi : i < rs.length := (List.getElem?_eq_some_iff.1 hr).1
  obtain ⟨g, rfl, hg1, hg2⟩ := h3 (by omega)
  obtain ⟨cv, e0, e1, hw, hc⟩ := hx.2.2 i r hr
  refine ⟨g, 0, rfl, hg2, cv, ?_, ?_, hw, ?_⟩
  · rw [Nat.zero_add]; exact ownsRow_cell h _ _ e0
  · rw [Nat.zero_add]; exact ownsRow_cell h _ _ e1
  · obtain ⟨a', cap', k1, k2, k3, k4⟩ := hc
    refine ⟨a', cap', k1, k2, k3, fun i c hc => ?_⟩
    obtain ⟨b, o, e, hl, k⟩ := k4 i c hc
    exact ⟨b, o, e, by omega, k⟩

set_option maxHeartbeats 1000000 in
theorem clone_any (B : Nat) (sv : Value) (rs : List RuleT) (w : World) (h : RulesAt B w sv rs) (hB : B ≤ w.heap.size) (hn : rs.length * 32 ≤ 140737488355328) :
    Calls Tryz.prog 34 #[sv] w fun e w' => ∃ v xs, e = .returned v ∧ w'.ownsRow w.heap.size 68 2 v rs.length xs ∧ XsAt B w' xs rs ∧ Below w.heap.size w w' := by
  obtain ⟨a, cap, rfl, hlc, hcm, hrs⟩ := h
  cases a with
  | none =>
    have h0 : rs = [] := by
      cases rs with
      | nil => rfl
      | cons r l => obtain ⟨b, o, e, _⟩ := hrs 0 r rfl; cases e
    subst h0
    have hq : ∀ w, (binOp .eql 36 (.slice none 0 cap) (.slice none 0 0)).run Tryz.prog w = .ok (.bool true) w := fun w => by kernel_rfl
    go_enter Tryz.func34, Tryz.ntmps34
    go_wp2
    go_ret
    exact ⟨_, [], rfl, ⟨rfl, .inl ⟨rfl, rfl⟩⟩, ⟨rfl, fun u hu => (by cases hu), fun i r hr => (by simp at hr)⟩, Below.refl _ _⟩
  | some ad =>
    obtain ⟨xs, hxs, hcell⟩ : ∃ xs, XsAt B w xs rs ∧ ∀ j u, xs[j]? = some u → w.cell? (ad.add j) = some u := by
      by_cases hr0 : rs = []
      · subst hr0
        exact ⟨[], ⟨rfl, fun u hu => (by cases hu), fun i r hr => (by simp at hr)⟩, fun j u hj => (by simp at hj)⟩
      · obtain ⟨r, hr⟩ : ∃ r, rs[0]? = some r := by
          cases rs with
          | nil => exact absurd rfl hr0
          | cons r l => exact ⟨r, rfl⟩
        obtain ⟨b, o, e, _, _⟩ := hrs 0 r hr
        cases e
        obtain ⟨xs, h1, h2⟩ := xs_of (b := b) (o := o) fun i r hr => by
          obtain ⟨b', o', e, _, k⟩ := hrs i r hr
          cases e
          exact k
        exact ⟨xs, h1, fun j u hj => by rw [add_at]; exact h2 j u hj⟩
    have HX : Hid (XsAt B w xs rs) := hxs
    have HC : Hid (∀ X j u, xs[j]? = some u → (w.alloc X).cell? (ad.add j) = some u) := fun X j u hj => by
      have h1 := hcell j u hj
      rw [((Below.refl w.heap.size w).alloc (Nat.le_refl _) X).cell (p := ad.add j) (World.block_lt_of_cell? _ _ h1)]
      exact h1
    have H1 : Hid (∀ u ∈ xs, u.oneCell' = true) := hxs.2.1
    have hxl : xs.length = rs.length * 2 := hxs.1
    have HX1 : Hid (xs.length = rs.length * 2) := hxl
    clear hrs hcell hxs hxl
    obtain ⟨inf, hi1, hi2, hi3, hi4⟩ := infoRule
    generalize rs.length = n at *
    have hml := maxLen_eq
    have hq : ∀ w, (binOp .eql 36 (.slice (some ad) n cap) (.slice none 0 0)).run Tryz.prog w = .ok (.bool false) w := fun w => by kernel_rfl
    go_enter Tryz.func34, Tryz.ntmps34
    go_wp2_with (first
      | (at_builtin; refine wpList_append_own _ rfl _ _ 36 rfl w.heap.size 68 inf _ 2 32 Tryz.underlying36 hi1 hi2 hi3 hi4 rfl (by decide) (.slice (some ⟨w.heap.size, 0, none⟩) 0 0) 0 [] rfl ⟨rfl, .inr ⟨w.heap.size, 0, #[], rfl, Nat.le_refl _, (MapKept.heap_alloc w _).1, Nat.le_refl _, Nat.zero_le _, rfl, rfl⟩⟩ ad n cap xs rfl HX1.out (HC.out _) H1.out (by omega) (by omega) (by simp) ?_; go_must (intro v' wk hownk hgrk hnilk)))
    have hbk : Below w.heap.size w wk := ((Below.refl _ _).alloc (Nat.le_refl _) _).grown hgrk (by simp) (fun k hk => by simp [Value.ownBlock] at hk; omega)
    go_ret
    refine ⟨v', xs, rfl, ?_, HX.out.later hbk hB, hbk⟩
    have := hownk
    rw [Nat.zero_add, List.nil_append] at this
    exact this

end Go.Proofs.YtclehchkmienoabGreatDoor
end
section
/- A call in five cells, stored anew. -/
set_option linter.all false
namespace Go.Proofs.YtclehchkmienoabGreatDoor
open Go.RowKit Go.Maps

theorem callBox {w : World} {b : Nat} {x y : Nat → Int} {T : TypeId} (h : w.heap[b]? = some (.cells (cellsX x) T (0, 0))) :
    (((((w.setCell ⟨b, 0, none⟩ (.int .i64 (y 0))).setCell ⟨b, 1, none⟩ (.int .i64 (y 1))).setCell ⟨b, 2, none⟩ (.int .i64 (y 2))).setCell ⟨b, 3, none⟩ (.int .i64 (y 3))).setCell ⟨b, 4, none⟩ (.int .i64 (y 4))).heap[b]? = some (.cells (cellsX y) T (0, 0)) :=
  row_setCell (o := 4) (u := .int .i64 (y 4)) (row_setCell (o := 3) (u := .int .i64 (y 3)) (row_setCell (o := 2) (u := .int .i64 (y 2)) (row_setCell (o := 1) (u := .int .i64 (y 1)) (row_setCell (o := 0) (u := .int .i64 (y 0)) h))))
theorem callBox_below {B : Nat} {w0 w : World} {b : Nat} {y : Nat → Int} (h : Below B w0 w) (hb : B ≤ b) : Below B w0 (((((w.setCell ⟨b, 0, none⟩ (.int .i64 (y 0))).setCell ⟨b, 1, none⟩ (.int .i64 (y 1))).setCell ⟨b, 2, none⟩ (.int .i64 (y 2))).setCell ⟨b, 3, none⟩ (.int .i64 (y 3))).setCell ⟨b, 4, none⟩ (.int .i64 (y 4))) :=
  ((((h.setCell (p := ⟨b, 0, none⟩) hb _).setCell (p := ⟨b, 1, none⟩) hb _).setCell (p := ⟨b, 2, none⟩) hb _).setCell (p := ⟨b, 3, none⟩) hb _).setCell (p := ⟨b, 4, none⟩) hb _
end Go.Proofs.YtclehchkmienoabGreatDoor
end
