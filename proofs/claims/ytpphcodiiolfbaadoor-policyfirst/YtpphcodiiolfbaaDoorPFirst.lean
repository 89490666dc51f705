/- PolicyFirst returns true, whatever the policy, the call and the other rules, in whatever memory. -/
import Derived.Test.YtpphcodiiolfbaaDoorCat
import Derived.Test.YtpphcodiiolfbaaDoorFree
import Derived.Test.YtpphcodiiolfbaaDoorFirst
import Derived.Test.YtpphcodiiolfbaaDoorRight
set_option linter.all false
set_option maxRecDepth 100000
namespace Go.Proofs.YtpphcodiiolfbaaDoor
open Go.RowKit Go.Maps

/-- A box of a policy at block b, new since W. -/
def BoxAt (W w : World) (u : Value) : Prop := ∃ b, u = .pointer (some ⟨b, 0, none⟩) ∧ W.heap.size ≤ b ∧ w.heap[b]? = some (.cells #[.slice none 0 0, .int .i64 0] 24 (0, 0))
theorem BoxAt.later {W w w' : World} {u : Value} (h : BoxAt W w u) (hb : Below w.heap.size w w') : BoxAt W w' u := by
  obtain ⟨b, h1, h2, h3⟩ := h
  exact ⟨b, h1, h2, (hb.block b (lt_of_block h3)).trans h3⟩

def JCat (B : Nat) (W : World) (v0 v1 : Value) (rs : List RuleT) (fs : Nat → Value → Prop) (w : World) : Prop :=
  Below W.heap.size W w ∧
  (∀ v, fs 6 v → ∃ b, v = .slice (some ⟨b, 0, none⟩) 2 2 ∧ b < w.heap.size ∧ w.cell? ⟨b, 0, none⟩ = some v0 ∧ w.cell? ⟨b, 1, none⟩ = some v1) ∧
  (∀ v, fs 7 v → ∃ g, OwnRules B g w v rs ∧ (rs ≠ [] → ∀ u, fs 11 u → u ≠ .pointer (some ⟨g, 0, none⟩))) ∧
  (∀ u, fs 11 u → BoxAt W w u)
theorem JCat.later {B : Nat} {W w w' : World} {v0 v1 : Value} {rs : List RuleT} {fs : Nat → Value → Prop} (h : JCat B W v0 v1 rs fs w) (hb : Below w.heap.size w w') (hB : B ≤ W.heap.size) : JCat B W v0 v1 rs fs w' := by
  obtain ⟨h1, h2, h3, h4⟩ := h
  refine ⟨Below.thenOf h1 hb h1.size, fun v hv => ?_, fun v hv => ?_, fun u hu => (h4 u hu).later hb⟩
  · obtain ⟨b, k1, k2, k3, k4⟩ := h2 v hv
    exact ⟨b, k1, Nat.lt_of_lt_of_le k2 hb.size, (hb.cell (p := ⟨b, 0, none⟩) k2).trans k3, (hb.cell (p := ⟨b, 1, none⟩) k2).trans k4⟩
  · obtain ⟨g, k1, k2⟩ := h3 v hv
    exact ⟨g, k1.later hb (Nat.le_trans hB h1.size), k2⟩
/-- The literal of two rows. -/
theorem JCat.lit {B : Nat} {W w : World} {v0 v1 : Value} {rs : List RuleT} {fs : Nat → Value → Prop} (h : JCat B W v0 v1 rs fs w) (hB : B ≤ W.heap.size) (T : TypeId) : JCat B W v0 v1 rs (addF fs 6 (.slice (some ⟨w.heap.size, 0, none⟩) 2 2)) (w.alloc (.cells #[v0, v1] T)) := by
  obtain ⟨h1, h2, h3, h4⟩ := h.later ((Below.refl w.heap.size w).alloc (Nat.le_refl _) (.cells #[v0, v1] T)) hB
  refine ⟨h1, fun v hv => ?_, fun v hv => ?_, fun u hu => ?_⟩
  · rcases hv with hv | ⟨_, rfl⟩
    · exact h2 v hv
    · refine ⟨w.heap.size, rfl, by simp, by simp [go_sem], by simp [go_sem]⟩
  · rcases hv with hv | ⟨hv, _⟩
    · obtain ⟨g, k1, k2⟩ := h3 v hv
      refine ⟨g, k1, fun hne u hu => ?_⟩
      rcases hu with hu | ⟨hu, _⟩
      · exact k2 hne u hu
      · cases hu
    · cases hv
  · rcases hu with hu | ⟨hu, _⟩
    · exact h4 u hu
    · cases hu
/-- The two rows in one. -/
theorem JCat.cat {B : Nat} {W w w' : World} {v0 v1 v : Value} {xs : List Value} {rs : List RuleT} {fs : Nat → Value → Prop} (h : JCat B W v0 v1 rs fs w) (hB : B ≤ W.heap.size) (ho : w'.ownsRow w.heap.size 41 2 v rs.length xs) (hx : XsAt B w' xs rs) (hb : Below w.heap.size w w') (hn : ∀ v, ¬ fs 7 v) : JCat B W v0 v1 rs (addF fs 7 v) w' := by
  have hbox : ∀ u, fs 11 u → BoxAt W w u := h.2.2.2
  obtain ⟨h1, h2, h3, h4⟩ := h.later hb hB
  refine ⟨h1, fun v hv => ?_, fun v' hv => ?_, fun u hu => ?_⟩
  · rcases hv with hv | ⟨hv, _⟩
    · exact h2 v hv
    · cases hv
  · rcases hv with hv | ⟨_, rfl⟩
    · exact absurd hv (hn _)
    · obtain ⟨g, hg, ho⟩ := ownRules_of ho hx
      refine ⟨g, ho, fun hne u hu => ?_⟩
      rcases hu with hu | ⟨hu, _⟩
      · obtain ⟨b, rfl, _, hb⟩ := hbox u hu
        have := lt_of_block hb
        intro e
        simp at e <;> omega
      · cases hu
  · rcases hu with hu | ⟨hu, _⟩
    · exact h4 u hu
    · cases hu
theorem JCat.box {B : Nat} {W w : World} {v0 v1 : Value} {rs : List RuleT} {fs : Nat → Value → Prop} (h : JCat B W v0 v1 rs fs w) (hB : B ≤ W.heap.size) : JCat B W v0 v1 rs (addF fs 11 (.pointer (some ⟨w.heap.size, 0, none⟩))) (w.alloc (.cells #[.slice none 0 0, .int .i64 0] 24)) := by
  have hlt : ∀ v, fs 7 v → ∃ g, OwnRules B g w v rs ∧ (rs ≠ [] → ∀ u, fs 11 u → u ≠ .pointer (some ⟨g, 0, none⟩)) := h.2.2.1
  have hW := h.1.size
  have hb := (Below.refl w.heap.size w).alloc (Nat.le_refl _) (.cells #[.slice none 0 0, .int .i64 0] 24)
  obtain ⟨h1, h2, h3, h4⟩ := h.later hb hB
  refine ⟨h1, fun v hv => ?_, fun v hv => ?_, fun u hu => ?_⟩
  · rcases hv with hv | ⟨hv, _⟩
    · exact h2 v hv
    · cases hv
  · rcases hv with hv | ⟨hv, _⟩
    · obtain ⟨g, k1, k2⟩ := hlt v hv
      refine ⟨g, k1.later hb (Nat.le_trans hB hW), fun hne u hu => ?_⟩
      rcases hu with hu | ⟨_, rfl⟩
      · exact k2 hne u hu
      · have := k1.lt hne
        intro e
        simp at e <;> omega
    · cases hv
  · rcases hu with hu | ⟨_, rfl⟩
    · exact h4 u hu
    · exact ⟨w.heap.size, rfl, hW, (MapKept.heap_alloc w _).1⟩

def JDel (B : Nat) (W : World) (i : Nat) (rs : List RuleT) (fs : Nat → Value → Prop) (w : World) : Prop :=
  Below W.heap.size W w ∧
  (∀ v, fs 2 v → (∀ u, ¬ fs 6 u) → ∃ g cap cur, v = .slice (some ⟨g, 0, none⟩) rs.length cap ∧ W.heap.size ≤ g ∧ w.heap[g]? = some (.cells cur 41 (0, 0)) ∧ rs.length ≤ cap ∧ cap ≤ maxLen ∧ cur.size = cap * 2 ∧ XsAt B w (cur.toList.take (rs.length * 2)) rs ∧ ∀ u, fs 10 u → u ≠ .pointer (some ⟨g, 0, none⟩)) ∧
  (∀ v, fs 6 v → ∃ g, OwnRules B g w v (rs.eraseIdx i) ∧ g < w.heap.size ∧ ∀ u, fs 10 u → u ≠ .pointer (some ⟨g, 0, none⟩)) ∧
  (∀ u, fs 10 u → BoxAt W w u)
theorem JDel.later {B i : Nat} {W w w' : World} {rs : List RuleT} {fs : Nat → Value → Prop} (h : JDel B W i rs fs w) (hb : Below w.heap.size w w') (hB : B ≤ W.heap.size) : JDel B W i rs fs w' := by
  obtain ⟨h1, h2, h3, h4⟩ := h
  refine ⟨Below.thenOf h1 hb h1.size, fun v hv hn => ?_, fun v hv => ?_, fun u hu => (h4 u hu).later hb⟩
  · obtain ⟨g, cap, cur, k1, k2, k3, k4, k5, k6, k7, k8⟩ := h2 v hv hn
    exact ⟨g, cap, cur, k1, k2, (hb.block g (lt_of_block k3)).trans k3, k4, k5, k6, k7.later hb (Nat.le_trans hB h1.size), k8⟩
  · obtain ⟨g, k1, k2, k3⟩ := h3 v hv
    exact ⟨g, k1.later hb (Nat.le_trans hB h1.size), Nat.lt_of_lt_of_le k2 hb.size, k3⟩
theorem JDel.clone {B i : Nat} {W w w' : World} {v : Value} {xs : List Value} {rs : List RuleT} {fs : Nat → Value → Prop} (h : JDel B W i rs fs w) (hB : B ≤ W.heap.size) (hne : rs ≠ []) (ho : w'.ownsRow w.heap.size 41 2 v rs.length xs) (hx : XsAt B w' xs rs) (hb : Below w.heap.size w w') (hn : ∀ v, ¬ fs 2 v) : JDel B W i rs (addF fs 2 v) w' := by
  have hbox : ∀ u, fs 10 u → BoxAt W w u := h.2.2.2
  have hW := h.1.size
  obtain ⟨h1, h2, h3, h4⟩ := h.later hb hB
  refine ⟨h1, fun v' hv _ => ?_, fun v' hv => ?_, fun u hu => ?_⟩
  · rcases hv with hv | ⟨_, rfl⟩
    · exact absurd hv (hn _)
    · rcases ho.2 with ⟨_, h0⟩ | ⟨g, cap, cur, k1, k2, k3, k4, k5, k6, k7⟩
      · exact absurd (List.length_eq_zero_iff.1 h0) hne
      · refine ⟨g, cap, cur, k1, Nat.le_trans hW k2, k3, k4, k5, k6, by rw [k7]; exact hx, fun u hu => ?_⟩
        rcases hu with hu | ⟨hu, _⟩
        · obtain ⟨b, rfl, _, hb⟩ := hbox u hu
          have := lt_of_block hb
          intro e
          simp at e <;> omega
        · cases hu
  · rcases hv with hv | ⟨hv, _⟩
    · obtain ⟨g, k1, k2, k3⟩ := h3 v' hv
      refine ⟨g, k1, k2, fun u hu => ?_⟩
      rcases hu with hu | ⟨hu, _⟩
      · exact k3 u hu
      · cases hu
    · cases hv
  · rcases hu with hu | ⟨hu, _⟩
    · exact h4 u hu
    · cases hu
theorem JDel.del {B i g cap : Nat} {W w w' : World} {rs : List RuleT} {fs : Nat → Value → Prop} {n : Nat} (h : JDel B W i rs fs w) (hB : B ≤ W.heap.size) (hg : W.heap.size ≤ g) (hgl : g < w.heap.size) (hu : ∀ u, fs 10 u → u ≠ .pointer (some ⟨g, 0, none⟩)) (ho : OwnRules B g w' (.slice (some ⟨g, 0, none⟩) n cap) (rs.eraseIdx i)) (hb : ButOne g w w') (hn : ∀ v, ¬ fs 6 v) : JDel B W i rs (addF fs 6 (.slice (some ⟨g, 0, none⟩) n cap)) w' := by
  obtain ⟨h1, h2, h3, h4⟩ := h
  refine ⟨h1.trans (hb.1.mono hg), fun v hv hno => ?_, fun v hv => ?_, fun u hu' => ?_⟩
  · exact absurd (.inr ⟨rfl, rfl⟩) (hno (.slice (some ⟨g, 0, none⟩) n cap))
  · rcases hv with hv | ⟨_, rfl⟩
    · exact absurd hv (hn _)
    · refine ⟨g, ho, by rw [hb.2.1]; exact hgl, fun u hu' => ?_⟩
      rcases hu' with hu' | ⟨hu', _⟩
      · exact hu u hu'
      · cases hu'
  · rcases hu' with hu' | ⟨hu', _⟩
    · obtain ⟨b, k1, k2, k3⟩ := h4 u hu'
      refine ⟨b, k1, k2, (hb.2.2 b (lt_of_block k3) fun e => ?_).trans k3⟩
      subst e
      exact hu u hu' k1
    · cases hu'
theorem JDel.box {B i : Nat} {W w : World} {rs : List RuleT} {fs : Nat → Value → Prop} (h : JDel B W i rs fs w) (hB : B ≤ W.heap.size) : JDel B W i rs (addF fs 10 (.pointer (some ⟨w.heap.size, 0, none⟩))) (w.alloc (.cells #[.slice none 0 0, .int .i64 0] 24)) := by
  have hold := h
  have hW := h.1.size
  have hb := (Below.refl w.heap.size w).alloc (Nat.le_refl _) (.cells #[.slice none 0 0, .int .i64 0] 24)
  obtain ⟨h1, h2, h3, h4⟩ := h.later hb hB
  refine ⟨h1, fun v hv hno => ?_, fun v hv => ?_, fun u hu => ?_⟩
  · rcases hv with hv | ⟨hv, _⟩
    · obtain ⟨g, cap, cur, k1, k2, k3, k4, k5, k6, k7, k8⟩ := hold.2.1 v hv (fun u hu => hno u (.inl hu))
      refine ⟨g, cap, cur, k1, k2, (hb.block g (lt_of_block k3)).trans k3, k4, k5, k6, k7.later hb (Nat.le_trans hB hW), fun u hu => ?_⟩
      rcases hu with hu | ⟨_, rfl⟩
      · exact k8 u hu
      · have := lt_of_block k3
        intro e
        simp at e <;> omega
    · cases hv
  · rcases hv with hv | ⟨hv, _⟩
    · obtain ⟨g, k1, k2, k3⟩ := hold.2.2.1 v hv
      refine ⟨g, k1.later hb (Nat.le_trans hB hW), Nat.lt_of_lt_of_le k2 hb.size, fun u hu => ?_⟩
      rcases hu with hu | ⟨_, rfl⟩
      · exact k3 u hu
      · intro e
        simp at e <;> omega
    · cases hv
  · rcases hu with hu | ⟨_, rfl⟩
    · exact h4 u hu
    · exact ⟨w.heap.size, rfl, hW, (MapKept.heap_alloc w _).1⟩

/-- The box, filled. -/
theorem box_fill {B b g : Nat} {W w : World} {a : Option Addr} {n cap : Nat} {rs : List RuleT} {d : Int} (hW : Below W.heap.size W w) (hB : B ≤ W.heap.size) (hb : W.heap.size ≤ b) (hx : w.heap[b]? = some (.cells #[.slice none 0 0, .int .i64 0] 24 (0, 0))) (ho : OwnRules B g w (.slice a n cap) rs) (hne : rs ≠ [] → b ≠ g) (hd : wf d) :
    w.cell? ⟨b, 0, none⟩ = some (.slice none 0 0) ∧ w.cell? ⟨b, 1, none⟩ = some (.int .i64 0) ∧ w.frozen? ⟨b, 0, none⟩ = false ∧ w.frozen? ⟨b, 1, none⟩ = false ∧
    Below W.heap.size W ((w.setCell ⟨b, 0, none⟩ (.slice a n cap)).setCell ⟨b, 1, none⟩ (.int .i64 d)) ∧
    ((w.setCell ⟨b, 0, none⟩ (.slice a n cap)).setCell ⟨b, 1, none⟩ (.int .i64 d)).cell? ⟨b, 0, none⟩ = some (.slice a n cap) ∧ ((w.setCell ⟨b, 0, none⟩ (.slice a n cap)).setCell ⟨b, 1, none⟩ (.int .i64 d)).cell? ⟨b, 1, none⟩ = some (.int .i64 d) ∧
    ((w.setCell ⟨b, 0, none⟩ (.slice a n cap)).setCell ⟨b, 1, none⟩ (.int .i64 d)).heap.size = w.heap.size ∧
    PolAt w.heap.size ((w.setCell ⟨b, 0, none⟩ (.slice a n cap)).setCell ⟨b, 1, none⟩ (.int .i64 d)) (.agg #[.slice a n cap, .int .i64 d]) (rs, d) := by
  have c0 : w.cell? ⟨b, 0, none⟩ = some (.slice none 0 0) := by simp [World.cell?, hx]
  have c1 : w.cell? ⟨b, 1, none⟩ = some (.int .i64 0) := by simp [World.cell?, hx]
  have h1 : Below W.heap.size W ((w.setCell ⟨b, 0, none⟩ (.slice a n cap)).setCell ⟨b, 1, none⟩ (.int .i64 d)) := (hW.setCell (p := ⟨b, 0, none⟩) hb _).setCell (p := ⟨b, 1, none⟩) hb _
  have hs : ((w.setCell ⟨b, 0, none⟩ (.slice a n cap)).setCell ⟨b, 1, none⟩ (.int .i64 d)).heap.size = w.heap.size := by simp
  have e0 : ((w.setCell ⟨b, 0, none⟩ (.slice a n cap)).setCell ⟨b, 1, none⟩ (.int .i64 d)).cell? ⟨b, 0, none⟩ = some (.slice a n cap) := by
    rw [World.cell?_setCell_other _ _ _ _ (by simp)]
    exact World.cell?_setCell_same _ _ _ c0
  have e1 : ((w.setCell ⟨b, 0, none⟩ (.slice a n cap)).setCell ⟨b, 1, none⟩ (.int .i64 d)).cell? ⟨b, 1, none⟩ = some (.int .i64 d) := by
    have c1' : (w.setCell ⟨b, 0, none⟩ (.slice a n cap)).cell? ⟨b, 1, none⟩ = some (.int .i64 0) := by
      rw [World.cell?_setCell_other _ _ _ _ (by simp)]
      exact c1
    exact World.cell?_setCell_same _ _ _ c1'
  refine ⟨c0, c1, by simp [World.frozen?, hx], by simp [World.frozen?, hx], h1, e0, e1, hs, .slice a n cap, rfl, hd, ?_⟩
  have hbB : Below B w ((w.setCell ⟨b, 0, none⟩ (.slice a n cap)).setCell ⟨b, 1, none⟩ (.int .i64 d)) := ((Below.refl B w).setCell (p := ⟨b, 0, none⟩) (Nat.le_trans hB hb) _).setCell (p := ⟨b, 1, none⟩) (Nat.le_trans hB hb) _
  have h2 : OwnRules B g ((w.setCell ⟨b, 0, none⟩ (.slice a n cap)).setCell ⟨b, 1, none⟩ (.int .i64 d)) (.slice a n cap) rs := by
    by_cases hr : rs = []
    · subst hr
      obtain ⟨a', cap', k1, k2, k3, k4⟩ := ho
      exact ⟨a', cap', k1, k2, k3, fun i r hr => by simp at hr⟩
    · refine ho.keep hbB fun j u hu => ?_
      rw [World.cell?_setCell_other _ _ _ _ (by simp; intro e; exact absurd e (hne hr)), World.cell?_setCell_other _ _ _ _ (by simp; intro e; exact absurd e (hne hr))]
      exact hu
  have h3 := h2.rulesAt (by rw [hs]; exact Nat.le_trans hB hW.size)
  rw [hs] at h3
  exact h3
end Go.Proofs.YtpphcodiiolfbaaDoor
