/- The counterpart's Both: its two closures. -/
import Derived.Test.YtbjpdmfedphacacGreatDoorCj25
import Derived.Test.YtbjpdmfedphacacGreatDoorCj09
import Derived.Test.YtbjpdmfedphacacGreatDoorCj11
import Derived.Test.YtbjpdmfedphacacGreatDoorCj10
import Derived.Test.YtbjpdmfedphacacGreatDoorCj13
import Derived.Maps.AppendAt
set_option linter.all false
set_option maxRecDepth 100000
namespace Go.Proofs.YtbjpdmfedphacacGreatDoor
open Go.RowKit Go.Maps

theorem grown_later {w w' : World} (hb : Below w.heap.size w w') (row : Option Nat) : w.grownBy w' row := ⟨hb.os, hb.tape, hb.output, hb.size, fun k hk _ => hb.block k hk⟩
theorem heap_at (w : World) (o : Obj) {n : Nat} (h : n = w.heap.size) : (w.alloc o).heap[n]? = some o := by subst h; exact heap_made _ _
theorem heap_kept' {w : World} (o : Obj) {n : Nat} {x : Obj} (h : w.heap[n]? = some x) : (w.alloc o).heap[n]? = some x := (Below.block ((Below.refl w.heap.size w).alloc (Nat.le_refl _) o) n (Array.getElem?_eq_some_iff.1 h).1).trans h
/-- All blocks of a type stand. -/
def KeepT (T : TypeId) (w w' : World) : Prop := ∀ (k : Nat) (cur : Array Value) (fr : Nat × Nat), w.heap[k]? = some (.cells cur T fr) → w'.heap[k]? = some (.cells cur T fr)
theorem KeepT.of_below {T : TypeId} {w w' : World} (h : Below w.heap.size w w') : KeepT T w w' := fun k cur fr hk => (h.block k (lt_of_block hk)).trans hk
theorem KeepT.trans {T : TypeId} {a b c : World} (h : KeepT T a b) (h' : KeepT T b c) : KeepT T a c := fun k cur fr hk => h' k cur fr (h k cur fr hk)
theorem ownsRow_keepT {w w' : World} {base size n : Nat} {e : TypeId} {v : Value} {xs : List Value} (h : w.ownsRow base e size v n xs) (hk : KeepT e w w') : w'.ownsRow base e size v n xs := ownsRow_block h fun g cur _ hg => (hk g cur _ hg).trans hg.symm
/-- The cells of rules whose conditions lie in rows of the call's own. -/
def XsN (L : Nat) (w : World) (xs : List Value) (rs : List RuleT) : Prop :=
  xs.length = rs.length * 2 ∧ (∀ u ∈ xs, u.oneCell' = true) ∧ ∀ i r, rs[i]? = some r → ∃ cv, xs[i * 2]? = some cv ∧ xs[i * 2 + 1]? = some (.int .i64 r.2) ∧ wf r.2 ∧ (∀ c ∈ r.1, wf c.1 ∧ wf c.2.1 ∧ wf c.2.2) ∧ w.ownsRow L 55 3 cv r.1.length (cndCells r.1)
theorem XsN.keep {L : Nat} {w w' : World} {xs : List Value} {rs : List RuleT} (h : XsN L w xs rs) (hk : KeepT 55 w w') : XsN L w' xs rs := by
  obtain ⟨h1, h2, h3⟩ := h
  refine ⟨h1, h2, fun i r hr => ?_⟩
  obtain ⟨cv, a, b, c, d, e⟩ := h3 i r hr
  exact ⟨cv, a, b, c, d, ownsRow_keepT e hk⟩
theorem XsN.snoc {L : Nat} {w : World} {xs : List Value} {rs : List RuleT} {cv : Value} {r : RuleT} (h : XsN L w xs rs) (hr : wf r.2) (hw : ∀ c ∈ r.1, wf c.1 ∧ wf c.2.1 ∧ wf c.2.2) (ho : w.ownsRow L 55 3 cv r.1.length (cndCells r.1)) : XsN L w (xs ++ [cv, .int .i64 r.2]) (rs ++ [r]) := by
  obtain ⟨h1, h2, h3⟩ := h
  refine ⟨by simp [h1]; omega, fun u hu => ?_, fun i r' hr' => ?_⟩
  · rcases List.mem_append.1 hu with hu | hu
    · exact h2 u hu
    · obtain ⟨a, cap, rfl, _⟩ := ownsRow_caps ho
      simp at hu
      rcases hu with rfl | rfl <;> rfl
  · by_cases hi : i < rs.length
    · rw [List.getElem?_append_left hi] at hr'
      obtain ⟨cv', a, b, c, d, e⟩ := h3 i r' hr'
      exact ⟨cv', by rw [List.getElem?_append_left (by omega)]; exact a, by rw [List.getElem?_append_left (by omega)]; exact b, c, d, e⟩
    · have hi' : i = rs.length := by
        have := (List.getElem?_eq_some_iff.1 hr').1
        simp at this
        omega
      subst hi'
      simp at hr'
      subst hr'
      exact ⟨cv, by rw [List.getElem?_append_right (by omega)]; simp [h1], by rw [List.getElem?_append_right (by omega)]; simp [h1], hr, hw, ho⟩

/-- What stands in the region that makes a rule: operations 6 (the two lists), 7 (both, joined), 13 (the verdict), 14 (the rule), 15 (a list of it), 16 (appended). -/
structure JBo (L : Nat) (W : World) (v : Value) (n : Nat) (xs : List Value) (rc sc : Value) (N : Nat) (cc : List Value) (vd : Int) (fs : Nat → Value → Prop) (w : World) : Prop where
  grown : W.grownBy w v.ownBlock
  lits : ∀ u, fs 6 u → ∃ g T0 fr, u = .slice (some ⟨g, 0, none⟩) 2 2 ∧ W.heap.size ≤ g ∧ w.heap[g]? = some (.cells #[rc, sc] T0 fr)
  one : ∀ u u', fs 7 u → fs 7 u' → u = u'
  join : ∀ u, fs 7 u → w.ownsRow W.heap.size 55 3 u N cc
  build : ∀ u, fs 14 u → ∃ u7, fs 7 u7 ∧ u = .agg #[u7, .int .i64 vd]
  made : ∀ u, fs 15 u → ∃ g T0 fr u7, u = .slice (some ⟨g, 0, none⟩) 1 1 ∧ W.heap.size ≤ g ∧ fs 7 u7 ∧ w.heap[g]? = some (.cells #[u7, .int .i64 vd] T0 fr)
  row : (∀ u, ¬ fs 16 u) → w.ownsRow L 51 2 v n xs
  app : ∀ u, fs 16 u → ∃ u7, fs 7 u7 ∧ w.ownsRow L 51 2 u (n + 1) (xs ++ [u7, .int .i64 vd]) ∧ (u.ownBlock = v.ownBlock ∨ ∃ k, u.ownBlock = some k ∧ W.heap.size ≤ k)
section
variable {L : Nat} {W w w' : World} {v : Value} {n : Nat} {xs : List Value} {rc sc : Value} {N : Nat} {cc : List Value} {vd : Int} {fs : Nat → Value → Prop}
theorem addF_old {fs : Nat → Value → Prop} {i k : Nat} {v u : Value} (hk : k ≠ i) (hu : addF fs i v k u) : fs k u := by
  rcases hu with hu | ⟨e, _⟩
  · exact hu
  · exact absurd e hk
theorem JBo.start (h : W.ownsRow L 51 2 v n xs) : JBo L W v n xs rc sc N cc vd (fun _ _ => False) W.drew :=
  ⟨⟨rfl, rfl, rfl, Nat.le_refl _, fun _ _ _ => rfl⟩, fun _ h => h.elim, fun _ _ h => h.elim, fun _ h => h.elim, fun _ h => h.elim, fun _ h => h.elim, fun _ => h, fun _ h => h.elim⟩
theorem JBo.later (h : JBo L W v n xs rc sc N cc vd fs w) (hb : Below w.heap.size w w') : JBo L W v n xs rc sc N cc vd fs w' := by
  refine ⟨World.grownBy.andThen h.grown (grown_later hb v.ownBlock) fun j hj => .inr hj, fun u hu => ?_, h.one, fun u hu => ownsRow_below (h.join u hu) hb, h.build, fun u hu => ?_, fun hn => ownsRow_below (h.row hn) hb, fun u hu => ?_⟩
  · obtain ⟨g, T0, fr, e1, e2, e3⟩ := h.lits u hu
    exact ⟨g, T0, fr, e1, e2, (hb.block g (lt_of_block e3)).trans e3⟩
  · obtain ⟨g, T0, fr, u7, e1, e2, e3, e4⟩ := h.made u hu
    exact ⟨g, T0, fr, u7, e1, e2, e3, (hb.block g (lt_of_block e4)).trans e4⟩
  · obtain ⟨u7, e1, e2, e3⟩ := h.app u hu
    exact ⟨u7, e1, ownsRow_below e2 hb, e3⟩
/-- One more is done that is none of 6, 7, 14, 15, 16. -/
theorem JBo.other (h : JBo L W v n xs rc sc N cc vd fs w) (k : Nat) (u : Value) (h6 : 6 ≠ k) (h7 : 7 ≠ k) (h14 : 14 ≠ k) (h15 : 15 ≠ k) (h16 : 16 ≠ k) : JBo L W v n xs rc sc N cc vd (addF fs k u) w := by
  refine ⟨h.grown, fun u hu => h.lits u (addF_old h6 hu), fun u u' hu hu' => h.one u u' (addF_old h7 hu) (addF_old h7 hu'), fun u hu => h.join u (addF_old h7 hu), fun u hu => ?_, fun u hu => ?_, fun hn => h.row fun u hu => hn u (.inl hu), fun u hu => ?_⟩
  · obtain ⟨u7, e1, e2⟩ := h.build u (addF_old h14 hu)
    exact ⟨u7, .inl e1, e2⟩
  · obtain ⟨g, T0, fr, u7, e1, e2, e3, e4⟩ := h.made u (addF_old h15 hu)
    exact ⟨g, T0, fr, u7, e1, e2, .inl e3, e4⟩
  · obtain ⟨u7, e1, e2⟩ := h.app u (addF_old h16 hu)
    exact ⟨u7, .inl e1, e2⟩
theorem JBo.lists (h : JBo L W v n xs rc sc N cc vd fs w) (T0 : TypeId) : JBo L W v n xs rc sc N cc vd (addF fs 6 (.slice (some ⟨w.heap.size, 0, none⟩) 2 2)) (w.alloc (.cells #[rc, sc] T0)) := by
  have hsz := h.grown.size
  have h := h.later ((Below.refl w.heap.size w).alloc (Nat.le_refl _) (.cells #[rc, sc] T0))
  refine ⟨h.grown, fun u hu => ?_, fun u u' hu hu' => h.one u u' (addF_old (by decide) hu) (addF_old (by decide) hu'), fun u hu => h.join u (addF_old (by decide) hu), fun u hu => ?_, fun u hu => ?_, fun hn => h.row fun u hu => hn u (.inl hu), fun u hu => ?_⟩
  · rcases hu with hu | ⟨_, rfl⟩
    · exact h.lits u hu
    · exact ⟨w.heap.size, T0, (0, 0), rfl, hsz, heap_made _ _⟩
  · obtain ⟨u7, e1, e2⟩ := h.build u (addF_old (by decide) hu)
    exact ⟨u7, .inl e1, e2⟩
  · obtain ⟨g, T0, fr, u7, e1, e2, e3, e4⟩ := h.made u (addF_old (by decide) hu)
    exact ⟨g, T0, fr, u7, e1, e2, .inl e3, e4⟩
  · obtain ⟨u7, e1, e2⟩ := h.app u (addF_old (by decide) hu)
    exact ⟨u7, .inl e1, e2⟩
theorem JBo.joined (h : JBo L W v n xs rc sc N cc vd fs w) (hno : ∀ u, ¬ fs 7 u) (hb : Below w.heap.size w w') (u : Value) (ho : w'.ownsRow w.heap.size 55 3 u N cc) : JBo L W v n xs rc sc N cc vd (addF fs 7 u) w' := by
  have hsz := h.grown.size
  have h := h.later hb
  refine ⟨h.grown, fun u hu => h.lits u (addF_old (by decide) hu), fun u1 u2 hu hu' => ?_, fun u1 hu => ?_, fun u hu => ?_, fun u hu => ?_, fun hn => h.row fun u hu => hn u (.inl hu), fun u hu => ?_⟩
  · rcases hu with hu | ⟨_, rfl⟩
    · exact absurd hu (hno u1)
    · rcases hu' with hu' | ⟨_, rfl⟩
      · exact absurd hu' (hno u2)
      · rfl
  · rcases hu with hu | ⟨_, rfl⟩
    · exact absurd hu (hno u1)
    · exact ownsRow_base ho hsz
  · obtain ⟨u7, e1, _⟩ := h.build u (addF_old (by decide) hu)
    exact absurd e1 (hno u7)
  · obtain ⟨g, T0, fr, u7, e1, e2, e3, e4⟩ := h.made u (addF_old (by decide) hu)
    exact absurd e3 (hno u7)
  · obtain ⟨u7, e1, e2⟩ := h.app u (addF_old (by decide) hu)
    exact absurd e1 (hno u7)
theorem JBo.built (h : JBo L W v n xs rc sc N cc vd fs w) (u7 : Value) (hu7 : fs 7 u7) : JBo L W v n xs rc sc N cc vd (addF fs 14 (.agg #[u7, .int .i64 vd])) w := by
  refine ⟨h.grown, fun u hu => h.lits u (addF_old (by decide) hu), fun u u' hu hu' => h.one u u' (addF_old (by decide) hu) (addF_old (by decide) hu'), fun u hu => h.join u (addF_old (by decide) hu), fun u hu => ?_, fun u hu => ?_, fun hn => h.row fun u hu => hn u (.inl hu), fun u hu => ?_⟩
  · rcases hu with hu | ⟨_, rfl⟩
    · obtain ⟨y, e1, e2⟩ := h.build u hu
      exact ⟨y, .inl e1, e2⟩
    · exact ⟨u7, .inl hu7, rfl⟩
  · obtain ⟨g, T0, fr, y, e1, e2, e3, e4⟩ := h.made u (addF_old (by decide) hu)
    exact ⟨g, T0, fr, y, e1, e2, .inl e3, e4⟩
  · obtain ⟨y, e1, e2⟩ := h.app u (addF_old (by decide) hu)
    exact ⟨y, .inl e1, e2⟩
theorem JBo.rule (h : JBo L W v n xs rc sc N cc vd fs w) (hno : ∀ u, ¬ fs 15 u) (u7 : Value) (hu : fs 14 (.agg #[u7, .int .i64 vd])) (T0 : TypeId) : JBo L W v n xs rc sc N cc vd (addF fs 15 (.slice (some ⟨w.heap.size, 0, none⟩) 1 1)) (w.alloc (.cells #[u7, .int .i64 vd] T0)) := by
  have hsz := h.grown.size
  have hu7 : fs 7 u7 := by
    obtain ⟨y, e1, e2⟩ := h.build _ hu
    have : u7 = y := by simpa using e2
    rw [this]
    exact e1
  have h := h.later ((Below.refl w.heap.size w).alloc (Nat.le_refl _) (.cells #[u7, .int .i64 vd] T0))
  refine ⟨h.grown, fun u hu => h.lits u (addF_old (by decide) hu), fun u u' hu hu' => h.one u u' (addF_old (by decide) hu) (addF_old (by decide) hu'), fun u hu => h.join u (addF_old (by decide) hu), fun u hu => ?_, fun u hu => ?_, fun hn => h.row fun u hu => hn u (.inl hu), fun u hu => ?_⟩
  · obtain ⟨y, e1, e2⟩ := h.build u (addF_old (by decide) hu)
    exact ⟨y, .inl e1, e2⟩
  · rcases hu with hu | ⟨_, rfl⟩
    · exact absurd hu (hno u)
    · exact ⟨w.heap.size, T0, (0, 0), u7, rfl, hsz, .inl hu7, heap_made _ _⟩
  · obtain ⟨y, e1, e2⟩ := h.app u (addF_old (by decide) hu)
    exact ⟨y, .inl e1, e2⟩
theorem JBo.append (h : JBo L W v n xs rc sc N cc vd fs w) (hno : ∀ u, ¬ fs 16 u) (hob : ∀ k, v.ownBlock = some k → k < W.heap.size) (hL : L ≤ W.heap.size) (lit : Value) (hlit : fs 15 lit) (hn : n ≤ 100000) (ty : TypeId) :
    ∃ v' w', (Builtin.append_ #[22, 22] ty #[v, lit]).run Tryz.prog w = .ok v' w' ∧ (∃ a cap, v' = .slice a (n + 1) cap) ∧ JBo L W v n xs rc sc N cc vd (addF fs 16 v') w' := by
  have hml := maxLen_eq
  obtain ⟨g, T0, fr, u7, rfl, hg, hu7, hbl⟩ := h.made lit hlit
  have hrow := h.row hno
  have h1c : u7.oneCell' = true := by
    obtain ⟨a, cap, rfl, _⟩ := ownsRow_caps (h.join u7 hu7)
    rfl
  obtain ⟨inf, hi1, hi2, hi3, hi4⟩ : ∃ i, Tryz.prog.info? 51 = some i ∧ i.zero = some (.agg #[.slice none 0 0, .int .i64 0]) ∧ i.size = 2 ∧ i.bytes = 32 := infoOf (by kernel_rfl)
  obtain ⟨v', w', r1, r2, r3, _, r5⟩ := run_append_own_at (P := Tryz.prog) w L 22 ty 51 inf _ 2 32 Tryz.underlying22 hi1 hi2 hi3 hi4 rfl (by decide) v n xs hrow ⟨g, 0, none⟩ 1 1 [u7, .int .i64 vd] rfl (fun j u hj => by rw [add_at, Nat.zero_add]; exact heap_cell hbl j (by simpa using hj)) (by intro u hu; simp at hu; rcases hu with rfl | rfl; exact h1c; rfl) (by omega) (by omega) (Nat.le_trans hL h.grown.size)
  have hst : ∀ g', W.heap.size ≤ g' → ∀ {x}, w.heap[g']? = some x → w'.heap[g']? = some x := fun g' hg' x hx => by
    refine (r3.block g' (Array.getElem?_eq_some_iff.1 hx).1 fun e => ?_).trans hx
    have := hob g' e.symm
    omega
  obtain ⟨a', cap', e', _⟩ := ownsRow_caps r2
  refine ⟨v', w', r1, ⟨a', cap', e'⟩, World.grownBy.andThen h.grown r3 fun j hj => .inr hj, fun u hu => ?_, fun u u' hu hu' => h.one u u' (addF_old (by decide) hu) (addF_old (by decide) hu'), fun u hu => ?_, fun u hu => ?_, fun u hu => ?_, fun hn => absurd (.inr ⟨rfl, rfl⟩) (hn v'), fun u hu => ?_⟩
  · obtain ⟨g2, T2, fr2, e1, e2, e3⟩ := h.lits u (addF_old (by decide) hu)
    exact ⟨g2, T2, fr2, e1, e2, hst g2 e2 e3⟩
  · exact ownsRow_block (h.join u (addF_old (by decide) hu)) fun g2 cur hg2 hc => (hst g2 hg2 hc).trans hc.symm
  · obtain ⟨y, e1, e2⟩ := h.build u (addF_old (by decide) hu)
    exact ⟨y, .inl e1, e2⟩
  · obtain ⟨g2, T2, fr2, y7, e1, e2, e3, e4⟩ := h.made u (addF_old (by decide) hu)
    exact ⟨g2, T2, fr2, y7, e1, e2, .inl e3, hst g2 e2 e4⟩
  · rcases hu with hu | ⟨_, rfl⟩
    · exact absurd hu (hno u)
    · refine ⟨u7, .inl hu7, r2, ?_⟩
      rcases r5 with e | e
      · exact .inl e
      · exact .inr ⟨_, e, h.grown.size⟩
end

end Go.Proofs.YtbjpdmfedphacacGreatDoor
