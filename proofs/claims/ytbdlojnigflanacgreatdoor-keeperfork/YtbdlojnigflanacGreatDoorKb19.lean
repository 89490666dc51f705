/- Joined: Bth1 Bth2 Bth3 Chn4 Filt ChnR Chn5 Kep1. -/
import Derived.Test.YtbdlojnigflanacGreatDoorKb18
import Derived.Test.YtbdlojnigflanacGreatDoorKb11
import Derived.Test.YtbdlojnigflanacGreatDoorKb10
import Derived.Test.YtbdlojnigflanacGreatDoorKb09
import Derived.Test.YtbdlojnigflanacGreatDoorKb08
import Derived.Maps.AppendAt
import Derived.Test.YtbdlojnigflanacGreatDoorKb12
import Derived.Laws.ResultCell
import Derived.Test.YtbdlojnigflanacGreatDoorKb17
import Derived.Test.YtbdlojnigflanacGreatDoorKb02
import Derived.Test.YtbdlojnigflanacGreatDoorKb14
import Derived.Test.YtbdlojnigflanacGreatDoorKb16
section
/- The counterpart's Both: its two closures. -/
set_option linter.all false
set_option maxRecDepth 100000
namespace Go.Proofs.YtbdlojnigflanacGreatDoor
open Go.RowKit Go.Maps

theorem grown_later {w w' : World} (hb : Below w.heap.size w w') (row : Option Nat) : w.grownBy w' row := ⟨hb.os, hb.tape, hb.output, hb.size, fun k hk _ => hb.block k hk⟩
theorem heap_at (w : World) (o : Obj) {n : Nat} (h : n = w.heap.size) : (w.alloc o).heap[n]? = some o := by subst h; exact heap_made _ _
theorem heap_kept' {w : World} (o : Obj) {n : Nat} {x : Obj} (h : w.heap[n]? = some x) : (w.alloc o).heap[n]? = some x := (Below.block ((Below.refl w.heap.size w).alloc (Nat.le_refl _) o) n (Array.getElem?_eq_some_iff.1 h).1).trans h
/-- All blocks of a type stand. -/
def KeepT (T : TypeId) (w w' : World) : Prop := ∀ (k : Nat) (cur : Array Value) (fr : Nat × Nat), w.heap[k]? = some (.cells cur T fr) → w'.heap[k]? = some (.cells cur T fr)
theorem KeepT.of_below {T : TypeId} {w w' : World} (h : Below w.heap.size w w') : KeepT T w w' := fun k cur fr hk => (h.block k (lt_of_block hk)).trans hk
theorem KeepT.trans {T : TypeId} {a b c : World} (h : KeepT T a b) (h' : KeepT T b c) : KeepT T a c := fun k cur fr hk => h' k cur fr (h k cur fr hk)
theorem ownsRow_keepT {w w' : World} {base size n : Nat} {e : TypeId} {v : Value} {xs : List Value} (h : w.ownsRow base e size v n xs) (hk : KeepT e w w') : w'.ownsRow base e size v n xs := ownsRow_block h fun g cur _ hg => (hk g cur _ hg).trans hg.symm
/-- The cells of rules whose conditions lie in rows of the call's own. -/
def XsN (L : Nat) (w : World) (xs : List Value) (rs : List RuleT) : Prop :=
  xs.length = rs.length * 2 ∧ (∀ u ∈ xs, u.oneCell' = true) ∧ ∀ i r, rs[i]? = some r → ∃ cv, xs[i * 2]? = some cv ∧ xs[i * 2 + 1]? = some (.int .i64 r.2) ∧ wf r.2 ∧ (∀ c ∈ r.1, wf c.1 ∧ wf c.2.1 ∧ wf c.2.2) ∧ w.ownsRow L 99 3 cv r.1.length (cndCells r.1)
theorem XsN.keep {L : Nat} {w w' : World} {xs : List Value} {rs : List RuleT} (h : XsN L w xs rs) (hk : KeepT 99 w w') : XsN L w' xs rs := by
  obtain ⟨h1, h2, h3⟩ := h
  refine ⟨h1, h2, fun i r hr => ?_⟩
  obtain ⟨cv, a, b, c, d, e⟩ := h3 i r hr
  exact ⟨cv, a, b, c, d, ownsRow_keepT e hk⟩
theorem XsN.snoc {L : Nat} {w : World} {xs : List Value} {rs : List RuleT} {cv : Value} {r : RuleT} (h : XsN L w xs rs) (hr : wf r.2) (hw : ∀ c ∈ r.1, wf c.1 ∧ wf c.2.1 ∧ wf c.2.2) (ho : w.ownsRow L 99 3 cv r.1.length (cndCells r.1)) : XsN L w (xs ++ [cv, .int .i64 r.2]) (rs ++ [r]) := by
  obtain ⟨h1, h2, h3⟩ := h
  refine ⟨by simp [h1]; omega, fun u hu => ?_, fun i r' hr' => ?_⟩
  · rcases List.mem_append.1 hu with hu | hu
    · exact h2 u hu
    · obtain ⟨a, cap, rfl, _⟩ := ownsRow_caps ho
      simp at hu
      rcases hu with rfl | rfl <;> rfl
  · by_cases hi : i < rs.length
    · rw [List.getElem?_append_left hi] at hr'
      obtain ⟨cv', a, b, c, d, e⟩ := h3 i r' hr'
      exact ⟨cv', by rw [List.getElem?_append_left (by omega)]; exact a, by rw [List.getElem?_append_left (by omega)]; exact b, c, d, e⟩
    · have hi' : i = rs.length := by
        have := (List.getElem?_eq_some_iff.1 hr').1
        simp at this
        omega
      subst hi'
      simp at hr'
      subst hr'
      exact ⟨cv, by rw [List.getElem?_append_right (by omega)]; simp [h1], by rw [List.getElem?_append_right (by omega)]; simp [h1], hr, hw, ho⟩

/-- What stands while Both goes on: the boxes of except, of the closure, of what is made; the rules made so far. -/
def BoV (L bo bf bx : Nat) (exc : Bool) (rs : List RuleT) (v : Value) (xs : List Value) (w : World) : Prop :=
  w.heap[bx]? = some (.cells #[.bool exc] 4 (0, 0)) ∧ w.heap[bf]? = some (.cells #[.func (.func 223) #[] #[.pointer (some ⟨bx, 0, none⟩)]] 63 (0, 0)) ∧
  w.heap[bo]? = some (.cells #[v, .int .i64 0] 24 (0, 0)) ∧ w.ownsRow L 95 2 v rs.length xs ∧ XsN L w xs rs
def BoS (L bo bf bx : Nat) (exc : Bool) (rs : List RuleT) (w : World) : Prop := ∃ v xs, BoV L bo bf bx exc rs v xs w
theorem BoS.later {L bo bf bx : Nat} {exc : Bool} {rs : List RuleT} {w w' : World} (h : BoS L bo bf bx exc rs w) (hb : Below w.heap.size w w') : BoS L bo bf bx exc rs w' := by
  obtain ⟨v, xs, h1, h2, h3, h4, h5⟩ := h
  exact ⟨v, xs, (hb.block bx (lt_of_block h1)).trans h1, (hb.block bf (lt_of_block h2)).trans h2, (hb.block bo (lt_of_block h3)).trans h3, ownsRow_below h4 hb, h5.keep (KeepT.of_below hb)⟩

/-- What stands in the region that makes a rule: operations 6 (the two lists), 7 (both, joined), 13 (the verdict), 14 (the rule), 15 (a list of it), 16 (appended). -/
structure JBo (L : Nat) (W : World) (v : Value) (n : Nat) (xs : List Value) (rc sc : Value) (N : Nat) (cc : List Value) (vd : Int) (fs : Nat → Value → Prop) (w : World) : Prop where
  grown : W.grownBy w v.ownBlock
  lits : ∀ u, fs 6 u → ∃ g T0 fr, u = .slice (some ⟨g, 0, none⟩) 2 2 ∧ W.heap.size ≤ g ∧ w.heap[g]? = some (.cells #[rc, sc] T0 fr)
  one : ∀ u u', fs 7 u → fs 7 u' → u = u'
  join : ∀ u, fs 7 u → w.ownsRow W.heap.size 99 3 u N cc
  build : ∀ u, fs 14 u → ∃ u7, fs 7 u7 ∧ u = .agg #[u7, .int .i64 vd]
  made : ∀ u, fs 15 u → ∃ g T0 fr u7, u = .slice (some ⟨g, 0, none⟩) 1 1 ∧ W.heap.size ≤ g ∧ fs 7 u7 ∧ w.heap[g]? = some (.cells #[u7, .int .i64 vd] T0 fr)
  row : (∀ u, ¬ fs 16 u) → w.ownsRow L 95 2 v n xs
  app : ∀ u, fs 16 u → ∃ u7, fs 7 u7 ∧ w.ownsRow L 95 2 u (n + 1) (xs ++ [u7, .int .i64 vd]) ∧ (u.ownBlock = v.ownBlock ∨ ∃ k, u.ownBlock = some k ∧ W.heap.size ≤ k)
section
variable {L : Nat} {W w w' : World} {v : Value} {n : Nat} {xs : List Value} {rc sc : Value} {N : Nat} {cc : List Value} {vd : Int} {fs : Nat → Value → Prop}
theorem addF_old {fs : Nat → Value → Prop} {i k : Nat} {v u : Value} (hk : k ≠ i) (hu : addF fs i v k u) : fs k u := by
  rcases hu with hu | ⟨e, _⟩
  · exact hu
  · exact absurd e hk
theorem JBo.start (h : W.ownsRow L 95 2 v n xs) : JBo L W v n xs rc sc N cc vd (fun _ _ => False) W.drew :=
  ⟨⟨rfl, rfl, rfl, Nat.le_refl _, fun _ _ _ => rfl⟩, fun _ h => h.elim, fun _ _ h => h.elim, fun _ h => h.elim, fun _ h => h.elim, fun _ h => h.elim, fun _ => h, fun _ h => h.elim⟩
theorem JBo.later (h : JBo L W v n xs rc sc N cc vd fs w) (hb : Below w.heap.size w w') : JBo L W v n xs rc sc N cc vd fs w' := by
  refine ⟨World.grownBy.andThen h.grown (grown_later hb v.ownBlock) fun j hj => .inr hj, fun u hu => ?_, h.one, fun u hu => ownsRow_below (h.join u hu) hb, h.build, fun u hu => ?_, fun hn => ownsRow_below (h.row hn) hb, fun u hu => ?_⟩
  · obtain ⟨g, T0, fr, e1, e2, e3⟩ := h.lits u hu
    exact ⟨g, T0, fr, e1, e2, (hb.block g (lt_of_block e3)).trans e3⟩
  · obtain ⟨g, T0, fr, u7, e1, e2, e3, e4⟩ := h.made u hu
    exact ⟨g, T0, fr, u7, e1, e2, e3, (hb.block g (lt_of_block e4)).trans e4⟩
  · obtain ⟨u7, e1, e2, e3⟩ := h.app u hu
    exact ⟨u7, e1, ownsRow_below e2 hb, e3⟩
/-- One more is done that is none of 6, 7, 14, 15, 16. -/
theorem JBo.other (h : JBo L W v n xs rc sc N cc vd fs w) (k : Nat) (u : Value) (h6 : 6 ≠ k) (h7 : 7 ≠ k) (h14 : 14 ≠ k) (h15 : 15 ≠ k) (h16 : 16 ≠ k) : JBo L W v n xs rc sc N cc vd (addF fs k u) w := by
  refine ⟨h.grown, fun u hu => h.lits u (addF_old h6 hu), fun u u' hu hu' => h.one u u' (addF_old h7 hu) (addF_old h7 hu'), fun u hu => h.join u (addF_old h7 hu), fun u hu => ?_, fun u hu => ?_, fun hn => h.row fun u hu => hn u (.inl hu), fun u hu => ?_⟩
  · obtain ⟨u7, e1, e2⟩ := h.build u (addF_old h14 hu)
    exact ⟨u7, .inl e1, e2⟩
  · obtain ⟨g, T0, fr, u7, e1, e2, e3, e4⟩ := h.made u (addF_old h15 hu)
    exact ⟨g, T0, fr, u7, e1, e2, .inl e3, e4⟩
  · obtain ⟨u7, e1, e2⟩ := h.app u (addF_old h16 hu)
    exact ⟨u7, .inl e1, e2⟩
theorem JBo.lists (h : JBo L W v n xs rc sc N cc vd fs w) (T0 : TypeId) : JBo L W v n xs rc sc N cc vd (addF fs 6 (.slice (some ⟨w.heap.size, 0, none⟩) 2 2)) (w.alloc (.cells #[rc, sc] T0)) := by
  have hsz := h.grown.size
  have h := h.later ((Below.refl w.heap.size w).alloc (Nat.le_refl _) (.cells #[rc, sc] T0))
  refine ⟨h.grown, fun u hu => ?_, fun u u' hu hu' => h.one u u' (addF_old (by decide) hu) (addF_old (by decide) hu'), fun u hu => h.join u (addF_old (by decide) hu), fun u hu => ?_, fun u hu => ?_, fun hn => h.row fun u hu => hn u (.inl hu), fun u hu => ?_⟩
  · rcases hu with hu | ⟨_, rfl⟩
    · exact h.lits u hu
    · exact ⟨w.heap.size, T0, (0, 0), rfl, hsz, heap_made _ _⟩
  · obtain ⟨u7, e1, e2⟩ := h.build u (addF_old (by decide) hu)
    exact ⟨u7, .inl e1, e2⟩
  · obtain ⟨g, T0, fr, u7, e1, e2, e3, e4⟩ := h.made u (addF_old (by decide) hu)
    exact ⟨g, T0, fr, u7, e1, e2, .inl e3, e4⟩
  · obtain ⟨u7, e1, e2⟩ := h.app u (addF_old (by decide) hu)
    exact ⟨u7, .inl e1, e2⟩
theorem JBo.joined (h : JBo L W v n xs rc sc N cc vd fs w) (hno : ∀ u, ¬ fs 7 u) (hb : Below w.heap.size w w') (u : Value) (ho : w'.ownsRow w.heap.size 99 3 u N cc) : JBo L W v n xs rc sc N cc vd (addF fs 7 u) w' := by
  have hsz := h.grown.size
  have h := h.later hb
  refine ⟨h.grown, fun u hu => h.lits u (addF_old (by decide) hu), fun u1 u2 hu hu' => ?_, fun u1 hu => ?_, fun u hu => ?_, fun u hu => ?_, fun hn => h.row fun u hu => hn u (.inl hu), fun u hu => ?_⟩
  · rcases hu with hu | ⟨_, rfl⟩
    · exact absurd hu (hno u1)
    · rcases hu' with hu' | ⟨_, rfl⟩
      · exact absurd hu' (hno u2)
      · rfl
  · rcases hu with hu | ⟨_, rfl⟩
    · exact absurd hu (hno u1)
    · exact ownsRow_base ho hsz
  · obtain ⟨u7, e1, _⟩ := h.build u (addF_old (by decide) hu)
    exact absurd e1 (hno u7)
  · obtain ⟨g, T0, fr, u7, e1, e2, e3, e4⟩ := h.made u (addF_old (by decide) hu)
    exact absurd e3 (hno u7)
  · obtain ⟨u7, e1, e2⟩ := h.app u (addF_old (by decide) hu)
    exact absurd e1 (hno u7)
theorem JBo.built (h : JBo L W v n xs rc sc N cc vd fs w) (u7 : Value) (hu7 : fs 7 u7) : JBo L W v n xs rc sc N cc vd (addF fs 14 (.agg #[u7, .int .i64 vd])) w := by
  refine ⟨h.grown, fun u hu => h.lits u (addF_old (by decide) hu), fun u u' hu hu' => h.one u u' (addF_old (by decide) hu) (addF_old (by decide) hu'), fun u hu => h.join u (addF_old (by decide) hu), fun u hu => ?_, fun u hu => ?_, fun hn => h.row fun u hu => hn u (.inl hu), fun u hu => ?_⟩
  · rcases hu with hu | ⟨_, rfl⟩
    · obtain ⟨y, e1, e2⟩ := h.build u hu
      exact ⟨y, .inl e1, e2⟩
    · exact ⟨u7, .inl hu7, rfl⟩
  · obtain ⟨g, T0, fr, y, e1, e2, e3, e4⟩ := h.made u (addF_old (by decide) hu)
    exact ⟨g, T0, fr, y, e1, e2, .inl e3, e4⟩
  · obtain ⟨y, e1, e2⟩ := h.app u (addF_old (by decide) hu)
    exact ⟨y, .inl e1, e2⟩
theorem JBo.rule (h : JBo L W v n xs rc sc N cc vd fs w) (hno : ∀ u, ¬ fs 15 u) (u7 : Value) (hu : fs 14 (.agg #[u7, .int .i64 vd])) (T0 : TypeId) : JBo L W v n xs rc sc N cc vd (addF fs 15 (.slice (some ⟨w.heap.size, 0, none⟩) 1 1)) (w.alloc (.cells #[u7, .int .i64 vd] T0)) := by
  have hsz := h.grown.size
  have hu7 : fs 7 u7 := by
    obtain ⟨y, e1, e2⟩ := h.build _ hu
    have : u7 = y := by simpa using e2
    rw [this]
    exact e1
  have h := h.later ((Below.refl w.heap.size w).alloc (Nat.le_refl _) (.cells #[u7, .int .i64 vd] T0))
  refine ⟨h.grown, fun u hu => h.lits u (addF_old (by decide) hu), fun u u' hu hu' => h.one u u' (addF_old (by decide) hu) (addF_old (by decide) hu'), fun u hu => h.join u (addF_old (by decide) hu), fun u hu => ?_, fun u hu => ?_, fun hn => h.row fun u hu => hn u (.inl hu), fun u hu => ?_⟩
  · obtain ⟨y, e1, e2⟩ := h.build u (addF_old (by decide) hu)
    exact ⟨y, .inl e1, e2⟩
  · rcases hu with hu | ⟨_, rfl⟩
    · exact absurd hu (hno u)
    · exact ⟨w.heap.size, T0, (0, 0), u7, rfl, hsz, .inl hu7, heap_made _ _⟩
  · obtain ⟨y, e1, e2⟩ := h.app u (addF_old (by decide) hu)
    exact ⟨y, .inl e1, e2⟩
theorem JBo.append (h : JBo L W v n xs rc sc N cc vd fs w) (hno : ∀ u, ¬ fs 16 u) (hob : ∀ k, v.ownBlock = some k → k < W.heap.size) (hL : L ≤ W.heap.size) (lit : Value) (hlit : fs 15 lit) (hn : n ≤ 100000) (ty : TypeId) :
    ∃ v' w', (Builtin.append_ #[22, 22] ty #[v, lit]).run Tryz.prog w = .ok v' w' ∧ (∃ a cap, v' = .slice a (n + 1) cap) ∧ JBo L W v n xs rc sc N cc vd (addF fs 16 v') w' := by
  have hml := maxLen_eq
  obtain ⟨g, T0, fr, u7, rfl, hg, hu7, hbl⟩ := h.made lit hlit
  have hrow := h.row hno
  have h1c : u7.oneCell' = true := by
    obtain ⟨a, cap, rfl, _⟩ := ownsRow_caps (h.join u7 hu7)
    rfl
  obtain ⟨inf, hi1, hi2, hi3, hi4⟩ : ∃ i, Tryz.prog.info? 95 = some i ∧ i.zero = some (.agg #[.slice none 0 0, .int .i64 0]) ∧ i.size = 2 ∧ i.bytes = 32 := infoOf (by kernel_rfl)
  obtain ⟨v', w', r1, r2, r3, _, r5⟩ := run_append_own_at (P := Tryz.prog) w L 22 ty 95 inf _ 2 32 Tryz.underlying22 hi1 hi2 hi3 hi4 rfl (by decide) v n xs hrow ⟨g, 0, none⟩ 1 1 [u7, .int .i64 vd] rfl (fun j u hj => by rw [add_at, Nat.zero_add]; exact heap_cell hbl j (by simpa using hj)) (by intro u hu; simp at hu; rcases hu with rfl | rfl; exact h1c; rfl) (by omega) (by omega) (Nat.le_trans hL h.grown.size)
  have hst : ∀ g', W.heap.size ≤ g' → ∀ {x}, w.heap[g']? = some x → w'.heap[g']? = some x := fun g' hg' x hx => by
    refine (r3.block g' (Array.getElem?_eq_some_iff.1 hx).1 fun e => ?_).trans hx
    have := hob g' e.symm
    omega
  obtain ⟨a', cap', e', _⟩ := ownsRow_caps r2
  refine ⟨v', w', r1, ⟨a', cap', e'⟩, World.grownBy.andThen h.grown r3 fun j hj => .inr hj, fun u hu => ?_, fun u u' hu hu' => h.one u u' (addF_old (by decide) hu) (addF_old (by decide) hu'), fun u hu => ?_, fun u hu => ?_, fun u hu => ?_, fun hn => absurd (.inr ⟨rfl, rfl⟩) (hn v'), fun u hu => ?_⟩
  · obtain ⟨g2, T2, fr2, e1, e2, e3⟩ := h.lits u (addF_old (by decide) hu)
    exact ⟨g2, T2, fr2, e1, e2, hst g2 e2 e3⟩
  · exact ownsRow_block (h.join u (addF_old (by decide) hu)) fun g2 cur hg2 hc => (hst g2 hg2 hc).trans hc.symm
  · obtain ⟨y, e1, e2⟩ := h.build u (addF_old (by decide) hu)
    exact ⟨y, .inl e1, e2⟩
  · obtain ⟨g2, T2, fr2, y7, e1, e2, e3, e4⟩ := h.made u (addF_old (by decide) hu)
    exact ⟨g2, T2, fr2, y7, e1, e2, .inl e3, hst g2 e2 e4⟩
  · rcases hu with hu | ⟨_, rfl⟩
    · exact absurd hu (hno u)
    · refine ⟨u7, .inl hu7, r2, ?_⟩
      rcases r5 with e | e
      · exact .inl e
      · exact .inr ⟨_, e, h.grown.size⟩
end

end Go.Proofs.YtbdlojnigflanacGreatDoor
end
section
/- The counterpart's Both: what its second closure does with two rules. -/
set_option linter.all false
set_option maxRecDepth 100000
namespace Go.Proofs.YtbdlojnigflanacGreatDoor
open Go.RowKit Go.Maps

/-- What readers see in a region that grows one row. -/
def GrW (W : World) (row : Option Nat) : Type := { w' : World // W.grownBy w' row }
theorem GrW.ne (W : World) (row : Option Nat) : Nonempty (GrW W row) := ⟨⟨W, rfl, rfl, rfl, Nat.le_refl _, fun _ _ _ => rfl⟩⟩
theorem GrW.cell {W : World} {row : Option Nat} (x : GrW W row) {b o : Nat} {cur : Array Value} {T : TypeId} {fr : Nat × Nat} {u : Value} (h : W.heap[b]? = some (.cells cur T fr)) (hne : some b ≠ row) (hu : cur[o]? = some u) : x.1.cell? ⟨b, o, none⟩ = some u := heap_cell ((x.2.block b (lt_of_block h) hne).trans h) o hu
theorem ofV_wf {exc : Bool} {a b : Int} (ha : wf a) (hb : wf b) : wf (ofV exc a b) := by
  unfold ofV
  split
  · exact ha
  · split
    · unfold wf; decide
    · exact hb

/-- The rules made so far don't lie in block b. -/
def RowNot (w : World) (bo b : Nat) : Prop := ∀ v d, w.heap[bo]? = some (.cells #[v, d] 24 (0, 0)) → v.ownBlock ≠ some b
theorem RowNot.later {w w' : World} {bo b : Nat} (h : RowNot w bo b) (hb : Below w.heap.size w w') (hbo : bo < w.heap.size) : RowNot w' bo b := fun v d hv => h v d ((hb.block bo hbo).symm.trans hv)
end Go.Proofs.YtbdlojnigflanacGreatDoor
end
section
/- What the counterpart's Both says. -/
set_option linter.all false
set_option maxRecDepth 100000
namespace Go.Proofs.YtbdlojnigflanacGreatDoor
open Go.RowKit Go.Maps

theorem XsN.rules {L : Nat} {w : World} {v : Value} {xs : List Value} {rs : List RuleT} (ho : w.ownsRow L 95 2 v rs.length xs) (hx : XsN L w xs rs) : RulesAt w.heap.size w v rs := by
  obtain ⟨a, cap, rfl, h1, h2, h3⟩ := ownsRow_caps ho
  refine ⟨a, cap, rfl, h1, h2, fun i r hr => ?_⟩
  have hi : i < rs.length := (List.getElem?_eq_some_iff.1 hr).1
  obtain ⟨g, rfl, hg1, hg2⟩ := h3 (by omega)
  obtain ⟨cv, e0, e1, e2, e3, e4⟩ := hx.2.2 i r hr
  exact ⟨g, 0, rfl, hg2, cv, by rw [Nat.zero_add]; exact ownsRow_cell ho _ _ e0, by rw [Nat.zero_add]; exact ownsRow_cell ho _ _ e1, e2, condsAt_own e4 e3⟩
theorem KeepT.setOther {T T' : TypeId} {w : World} {b o : Nat} {cur : Array Value} {fr : Nat × Nat} {u : Value} (h : w.heap[b]? = some (.cells cur T' fr)) (hT : T' ≠ T) : KeepT T w (w.setCell ⟨b, o, none⟩ u) := fun k cur' fr' hk => (Below.heap_setCell _ _ _ _ (by
  show k ≠ b
  intro e
  subst e
  rw [h] at hk
  cases hk
  exact hT rfl)).trans hk
theorem zeroPol (B : Nat) (w : World) : PolAt B w (.agg #[.slice none 0 0, .int .i64 0]) ([], 0) := ⟨_, rfl, by unfold wf; decide, none, 0, rfl, Nat.le_refl _, by rw [maxLen_eq]; omega, fun i r h => by simp at h⟩

end Go.Proofs.YtbdlojnigflanacGreatDoor
end
section
/- The counterpart's DeltaOf: the policy of what changes. -/
set_option linter.all false
set_option maxRecDepth 100000
namespace Go.Proofs.YtbdlojnigflanacGreatDoor
open Go.RowKit Go.Maps

end Go.Proofs.YtbdlojnigflanacGreatDoor
end
section
/- What the counterpart's Filter says of a policy: the same. -/
set_option linter.all false
set_option maxRecDepth 100000
namespace Go.Proofs.YtbdlojnigflanacGreatDoor
open Go.RowKit Go.Maps

end Go.Proofs.YtbdlojnigflanacGreatDoor
end
section
/- Rows of filters that are one's own. -/
set_option linter.all false
set_option maxRecDepth 100000
namespace Go.Proofs.YtbdlojnigflanacGreatDoor
open Go.RowKit Go.Maps

theorem infoFil : ∃ i, Tryz.prog.info? 81 = some i ∧ i.zero = some (.slice none 0 0) ∧ i.size = 1 ∧ i.bytes = 24 := infoOf (by kernel_rfl)

/-- Values, each a filter in memory. -/
def FvsAt (B : Nat) (w : World) (xs : List Value) (ls : ChT) : Prop := xs.length = ls.length ∧ ∀ (i : Nat) x f, xs[i]? = some x → ls[i]? = some f → InssAt B w x f
theorem FvsAt.later {B B' : Nat} {w w' : World} {xs : List Value} {ls : ChT} (h : FvsAt B w xs ls) (hb : Below B' w w') (hB : B ≤ B') : FvsAt B w' xs ls := ⟨h.1, fun i x f hx hf => (h.2 i x f hx hf).later hb hB⟩
theorem FvsAt.mono {B B' : Nat} {w : World} {xs : List Value} {ls : ChT} (h : FvsAt B w xs ls) (hB : B ≤ B') : FvsAt B' w xs ls := ⟨h.1, fun i x f hx hf => (h.2 i x f hx hf).mono hB⟩
theorem FvsAt.nil (B : Nat) (w : World) : FvsAt B w [] [] := ⟨rfl, fun i x f hx => by simp at hx⟩
theorem FvsAt.append {B : Nat} {w : World} {xs ys : List Value} {ls ms : ChT} (h : FvsAt B w xs ls) (h' : FvsAt B w ys ms) : FvsAt B w (xs ++ ys) (ls ++ ms) := by
  refine ⟨by simp [h.1, h'.1], fun i x f hx hf => ?_⟩
  by_cases hi : i < xs.length
  · rw [List.getElem?_append_left hi] at hx
    rw [List.getElem?_append_left (by rw [← h.1]; exact hi)] at hf
    exact h.2 i x f hx hf
  · rw [List.getElem?_append_right (by omega)] at hx
    rw [List.getElem?_append_right (by rw [← h.1]; omega), ← h.1] at hf
    exact h'.2 _ x f hx hf
theorem FvsAt.one {B : Nat} {w : World} {x : Value} {f : List InsT} (h : InssAt B w x f) : FvsAt B w [x] [f] := by
  refine ⟨rfl, fun i y g hy hg => ?_⟩
  match i, hy, hg with
  | 0, hy, hg =>
    simp at hy hg
    subst hy hg
    exact h
  | i + 1, hy, _ => simp at hy
theorem FvsAt.slices {B : Nat} {w : World} {xs : List Value} {ls : ChT} (h : FvsAt B w xs ls) : ∀ u ∈ xs, u.oneCell' = true := by
  intro u hu
  obtain ⟨i, hi⟩ := List.getElem?_of_mem hu
  have hil : i < ls.length := by rw [← h.1]; exact (List.getElem?_eq_some_iff.1 hi).1
  obtain ⟨a, c, rfl, -⟩ := (h.2 i u ls[i] hi (by simp)).shape
  rfl
theorem chsAt_own {L : Nat} {w : World} {v : Value} {xs : List Value} {ls : ChT} (h : w.ownsRow L 81 1 v ls.length xs) (hx : FvsAt w.heap.size w xs ls) : ChsAt w.heap.size w v ls := by
  obtain ⟨a, cap, rfl, h1, h2, h3⟩ := ownsRow_caps h
  refine ⟨a, cap, rfl, h1, h2, fun i f hf => ?_⟩
  have hi : i < ls.length := (List.getElem?_eq_some_iff.1 hf).1
  obtain ⟨g, rfl, hg1, hg2⟩ := h3 (by omega)
  have hxi : xs[i]? = some (xs[i]'(by rw [hx.1]; exact hi)) := by simp
  exact ⟨g, 0, _, rfl, hg2, by rw [Nat.zero_add]; exact ownsRow_cell h i _ hxi, hx.2 i _ f hxi hf⟩

/-- A chain that stands whatever becomes of the blocks from B on to below L. -/
def ChsOf (B L : Nat) (w : World) (v : Value) (ls : ChT) : Prop := ∀ wF : World, Below B w wF → (∀ g, L ≤ g → g < w.heap.size → wF.heap[g]? = w.heap[g]?) → ChsAt wF.heap.size wF v ls
theorem ChsOf.at {B L : Nat} {w : World} {v : Value} {ls : ChT} (h : ChsOf B L w v ls) : ChsAt w.heap.size w v ls := h w (Below.refl _ _) (fun _ _ _ => rfl)
end Go.Proofs.YtbdlojnigflanacGreatDoor
end
section
/- The counterpart's Tightened: one filter more, behind all. -/
set_option linter.all false
set_option maxRecDepth 100000
namespace Go.Proofs.YtbdlojnigflanacGreatDoor
open Go.RowKit Go.Maps

end Go.Proofs.YtbdlojnigflanacGreatDoor
end
section
/- Sessions in memory; the counterpart's CheckCells. -/
set_option linter.all false
set_option maxRecDepth 100000
namespace Go.Proofs.YtbdlojnigflanacGreatDoor
open Go.RowKit Go.Maps

theorem polAt_wideK {B B' : Nat} {w : World} {v : Value} {p : PolT} (h : PolAt B w v p) (hB : B ≤ B') : PolAt B' w v p := by
  obtain ⟨rv, h1, h2, a, cap, h3, h4, h5, h6⟩ := h
  refine ⟨rv, h1, h2, a, cap, h3, h4, h5, fun i r hr => ?_⟩
  obtain ⟨b, o, e, hl, cv, k1, k2, k3, a', cap', m1, m2, m3, m4⟩ := h6 i r hr
  refine ⟨b, o, e, by omega, cv, k1, k2, k3, a', cap', m1, m2, m3, fun j c hc => ?_⟩
  obtain ⟨b', o', e', hl', k⟩ := m4 j c hc
  exact ⟨b', o', e', by omega, k⟩
/-- A session in four cells. -/
def CellIn (B : Nat) (w : World) (b o : Nat) (c : CellT) : Prop :=
  ∃ lv rv, w.cell? ⟨b, o, none⟩ = some (.bool c.1) ∧ w.cell? ⟨b, o + 1, none⟩ = some lv ∧ w.cell? ⟨b, o + 2, none⟩ = some rv ∧ w.cell? ⟨b, o + 3, none⟩ = some (.int .i64 c.2.2.2) ∧ ChsAt B w lv c.2.1 ∧ PolAt B w (.agg #[rv, .int .i64 c.2.2.2]) c.2.2
def CellsAt (B : Nat) (w : World) (v : Value) (l : List CellT) : Prop :=
  ∃ a cap, v = .slice a l.length cap ∧ l.length ≤ cap ∧ cap ≤ maxLen ∧ ∀ i c, l[i]? = some c → ∃ b o, a = some ⟨b, o, none⟩ ∧ b < B ∧ CellIn B w b (o + i * 4) c
theorem CellIn.later {B B' : Nat} {w w' : World} {b o : Nat} {c : CellT} (h : CellIn B w b o c) (hb : Below B' w w') (hB : B ≤ B') (hl : b < B) : CellIn B w' b o c := by
  obtain ⟨lv, rv, h0, h1, h2, h3, h4, h5⟩ := h
  have hl' : b < B' := by omega
  exact ⟨lv, rv, (hb.cell (p := ⟨b, o, none⟩) hl').trans h0, (hb.cell (p := ⟨b, o + 1, none⟩) hl').trans h1, (hb.cell (p := ⟨b, o + 2, none⟩) hl').trans h2, (hb.cell (p := ⟨b, o + 3, none⟩) hl').trans h3, h4.later hb hB, h5.later hb hB⟩
theorem CellsAt.later {B B' : Nat} {w w' : World} {v : Value} {l : List CellT} (h : CellsAt B w v l) (hb : Below B' w w') (hB : B ≤ B') : CellsAt B w' v l := by
  obtain ⟨a, cap, h1, h2, h3, h4⟩ := h
  refine ⟨a, cap, h1, h2, h3, fun i c hc => ?_⟩
  obtain ⟨b, o, e, hl, k⟩ := h4 i c hc
  exact ⟨b, o, e, hl, k.later hb hB hl⟩
theorem CellIn.wide {B B' : Nat} {w : World} {b o : Nat} {c : CellT} (h : CellIn B w b o c) (hB : B ≤ B') : CellIn B' w b o c := by
  obtain ⟨lv, rv, h0, h1, h2, h3, h4, h5⟩ := h
  exact ⟨lv, rv, h0, h1, h2, h3, h4.mono hB, polAt_wideK h5 hB⟩
theorem CellsAt.wide {B B' : Nat} {w : World} {v : Value} {l : List CellT} (h : CellsAt B w v l) (hB : B ≤ B') : CellsAt B' w v l := by
  obtain ⟨a, cap, h1, h2, h3, h4⟩ := h
  refine ⟨a, cap, h1, h2, h3, fun i c hc => ?_⟩
  obtain ⟨b, o, e, hl, k⟩ := h4 i c hc
  exact ⟨b, o, e, by omega, k.wide hB⟩
theorem CellsAt.shape {B : Nat} {w : World} {v : Value} {l : List CellT} (h : CellsAt B w v l) : ∃ a cap, v = .slice a l.length cap ∧ l.length ≤ cap ∧ cap ≤ maxLen := by
  obtain ⟨a, cap, h1, h2, h3, -⟩ := h
  exact ⟨a, cap, h1, h2, h3⟩
theorem cellsAt_nil (B : Nat) (w : World) : CellsAt B w (.slice none 0 0) [] := ⟨none, 0, rfl, Nat.le_refl _, by rw [maxLen_eq]; omega, fun i c h => by simp at h⟩
/-- The values in a session's four cells. -/
theorem CellIn.vals {B : Nat} {w : World} {b o : Nat} {c : CellT} (h : CellIn B w b o c) : ∃ la lc ra rc, w.cell? ⟨b, o, none⟩ = some (.bool c.1) ∧ w.cell? ⟨b, o + 1, none⟩ = some (.slice la c.2.1.length lc) ∧ w.cell? ⟨b, o + 2, none⟩ = some (.slice ra c.2.2.1.length rc) ∧ w.cell? ⟨b, o + 3, none⟩ = some (.int .i64 c.2.2.2) ∧ ChsAt B w (.slice la c.2.1.length lc) c.2.1 ∧ PolAt B w (.agg #[.slice ra c.2.2.1.length rc, .int .i64 c.2.2.2]) c.2.2 := by
  obtain ⟨lv, rv, h0, h1, h2, h3, h4, h5⟩ := h
  obtain ⟨la, lc, rfl, -, -⟩ := h4.shape
  obtain ⟨rv', e, hd, ra, rc, e2, h6⟩ := id h5
  simp at e
  subst e e2
  exact ⟨la, lc, ra, rc, h0, h1, h2, h3, h4, h5⟩

end Go.Proofs.YtbdlojnigflanacGreatDoor
end
