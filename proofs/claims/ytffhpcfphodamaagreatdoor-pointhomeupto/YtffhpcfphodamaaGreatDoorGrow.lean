/- Rows of one's own that grow by append, also in regions that draw their order. -/
import Derived.Test.YtffhpcfphodamaaGreatDoorRow
import Derived.Test.YtffhpcfphodamaaGreatDoorFree
set_option linter.all false
set_option maxRecDepth 100000
namespace Go.Proofs.YtffhpcfphodamaaGreatDoor
open Go.RowKit Go.Maps

theorem heap_cell {w : World} {b : Nat} {cur : Array Value} {T : TypeId} {fr : Nat × Nat} (h : w.heap[b]? = some (.cells cur T fr)) (o : Nat) {u : Value} (hu : cur[o]? = some u) : w.cell? ⟨b, o, none⟩ = some u := by simp [World.cell?, h, hu]
theorem heap_made (w : World) (o : Obj) : (w.alloc o).heap[w.heap.size]? = some o := (MapKept.heap_alloc w o).1
/-- All blocks but those of one type stand as they did. -/
def ButT (T : TypeId) (W W' : World) : Prop := ∀ (k : Nat) (cur : Array Value) (T' : TypeId) (fr : Nat × Nat), W.heap[k]? = some (.cells cur T' fr) → T' ≠ T → W'.heap[k]? = some (.cells cur T' fr)
theorem ButT.refl (T : TypeId) (W : World) : ButT T W W := fun _ _ _ _ h _ => h
theorem ButT.trans {T : TypeId} {A B C : World} (h : ButT T A B) (h' : ButT T B C) : ButT T A C := fun k cur T' fr hk hT => h' k cur T' fr (h k cur T' fr hk hT) hT
theorem ButT.of_below {T : TypeId} {W W' : World} (h : Below W.heap.size W W') : ButT T W W' := fun k cur T' fr hk _ => (h.block k (lt_of_block hk)).trans hk
theorem ButT.drew {T : TypeId} {W W' : World} (h : ButT T W W') : ButT T W W'.drew := h
theorem ButT.alloc {T : TypeId} {W W' : World} (h : ButT T W W') (o : Obj) : ButT T W (W'.alloc o) := h.trans (ButT.of_below ((Below.refl _ _).alloc (Nat.le_refl _) _))
theorem ButT.grown {T : TypeId} {W W' : World} {base size n : Nat} {v : Value} {xs : List Value} (ho : W.ownsRow base T size v n xs) (hg : W.grownBy W' v.ownBlock) : ButT T W W' := by
  intro k cur T' fr hk hT
  refine (hg.block k (lt_of_block hk) fun h => ?_).trans hk
  obtain ⟨cur', h'⟩ := ownsRow_tag ho k h.symm
  rw [hk] at h'
  cases h'
  exact hT rfl
theorem ButT.setOld {T : TypeId} {W W' : World} {N : Nat} (h : ButT T W W') (hN : W.heap.size ≤ N) (a : Addr) (ha : N ≤ a.block) (u : Value) : ButT T W (W'.setCell a u) := fun k cur T' fr hk hT => (Below.heap_setCell _ _ _ _ (by have := lt_of_block hk; omega)).trans (h k cur T' fr hk hT)

section
variable {P : Program} {t e : TypeId} {inf : TypeInfo} {z : Value} {size bytes : Nat}

theorem app_own (ht : P.underlying t = some (.slice e)) (hi : P.info? e = some inf) (hz : inf.zero = some z) (hsize : inf.size = size) (hby : inf.bytes = bytes) (hzs : z.cells.size = size) (hsz : 0 < size)
    (base : Nat) (ty : TypeId) (v : Value) (n m g : Nat) (xs news : List Value) (W : World) {T0 : TypeId} {fr : Nat × Nat} (hown : W.ownsRow base e size v n xs) (hg : W.heap[g]? = some (.cells news.toArray T0 fr)) (hl : news.length = m * size) (h1 : ∀ u ∈ news, u.oneCell' = true)
    (hm : n + m ≤ maxLen) (hn : (n + m) * bytes ≤ 140737488355328) (hbase : base ≤ W.heap.size) (c : Nat) :
    ∃ v' W', (Builtin.append_ #[t, t] ty #[v, .slice (some ⟨g, 0, none⟩) m c]).run P W = .ok v' W' ∧ W'.ownsRow base e size v' (n + m) (xs ++ news) ∧ Below base W W' ∧ ButT e W W' := by
  obtain ⟨v', W', r1, r2, r3, _⟩ := run_append_own (P := P) W base t ty e inf z size bytes ht hi hz hsize hby hzs hsz v n xs hown ⟨g, 0, none⟩ m c news hl (fun j u hj => by rw [add_at]; simpa [World.cell?, hg] using hj) h1 hm hn hbase
  exact ⟨v', W', r1, r2, (Below.refl _ _).grown r3 hbase fun k hk => ownsRow_ge hown k hk, ButT.grown hown r3⟩

/-- What stands in a region that makes a literal (operation k1) and appends it (operation k2), calls besides. -/
def JApp (e : TypeId) (size base : Nat) (W : World) (v : Value) (n m : Nat) (xs news : List Value) (k1 k2 : Nat) (fs : Nat → Value → Prop) (w : World) : Prop :=
  Below base W w ∧ ButT e W w ∧
  ((∀ u, ¬ fs k2 u) → w.ownsRow base e size v n xs ∧ Below W.heap.size W w ∧ ∀ u, fs k1 u → ∃ g T0 fr, u = .slice (some ⟨g, 0, none⟩) m m ∧ w.heap[g]? = some (.cells news.toArray T0 fr)) ∧
  (∀ u, fs k2 u → w.ownsRow base e size u (n + m) (xs ++ news))
theorem JApp.start {base : Nat} {W : World} {v : Value} {n m : Nat} {xs news : List Value} {k1 k2 : Nat} (h : W.ownsRow base e size v n xs) : JApp e size base W v n m xs news k1 k2 (fun _ _ => False) W.drew :=
  ⟨(Below.refl _ _).drew, ButT.refl _ _, fun _ => ⟨h, (Below.refl _ _).drew, fun _ h => h.elim⟩, fun _ h => h.elim⟩
theorem JApp.later {base : Nat} {W w w' : World} {v : Value} {n m : Nat} {xs news : List Value} {k1 k2 : Nat} {fs : Nat → Value → Prop} (h : JApp e size base W v n m xs news k1 k2 fs w) (hbase : base ≤ W.heap.size) (hb : Below w.heap.size w w') : JApp e size base W v n m xs news k1 k2 fs w' := by
  obtain ⟨h1, h2, h3, h4⟩ := h
  refine ⟨Below.thenOf h1 hb (Nat.le_trans hbase h1.size), h2.trans (ButT.of_below hb), fun hn => ?_, fun u hu => ownsRow_below (h4 u hu) hb⟩
  obtain ⟨a, b, c⟩ := h3 hn
  refine ⟨ownsRow_below a hb, Below.thenOf b hb b.size, fun u hu => ?_⟩
  obtain ⟨g, T0, fr, e1, e2⟩ := c u hu
  exact ⟨g, T0, fr, e1, (hb.block g (lt_of_block e2)).trans e2⟩
theorem JApp.other {base : Nat} {W w : World} {v : Value} {n m : Nat} {xs news : List Value} {k1 k2 : Nat} {fs : Nat → Value → Prop} (h : JApp e size base W v n m xs news k1 k2 fs w) (k : Nat) (u : Value) (hk1 : k1 ≠ k) (hk2 : k2 ≠ k) : JApp e size base W v n m xs news k1 k2 (addF fs k u) w := by
  obtain ⟨h1, h2, h3, h4⟩ := h
  refine ⟨h1, h2, fun hn => ?_, fun y hy => ?_⟩
  · obtain ⟨a, b, c⟩ := h3 fun y hy => hn y (.inl hy)
    refine ⟨a, b, fun y hy => ?_⟩
    rcases hy with hy | ⟨h, _⟩
    · exact c y hy
    · exact absurd h hk1
  · rcases hy with hy | ⟨h, _⟩
    · exact h4 y hy
    · exact absurd h hk2
theorem JApp.call {base : Nat} {W w w' : World} {v : Value} {n m : Nat} {xs news : List Value} {k1 k2 : Nat} {fs : Nat → Value → Prop} (h : JApp e size base W v n m xs news k1 k2 fs w) (hbase : base ≤ W.heap.size) (hb : Below w.heap.size w w') (k : Nat) (u : Value) (hk1 : k1 ≠ k) (hk2 : k2 ≠ k) : JApp e size base W v n m xs news k1 k2 (addF fs k u) w' := (h.later hbase hb).other k u hk1 hk2
theorem JApp.lit {base : Nat} {W w : World} {v : Value} {n m : Nat} {xs news : List Value} {k1 k2 : Nat} {fs : Nat → Value → Prop} (h : JApp e size base W v n m xs news k1 k2 fs w) (hbase : base ≤ W.heap.size) (hk : k2 ≠ k1) (T0 : TypeId) : JApp e size base W v n m xs news k1 k2 (addF fs k1 (.slice (some ⟨w.heap.size, 0, none⟩) m m)) (w.alloc (.cells news.toArray T0)) := by
  obtain ⟨h1, h2, h3, h4⟩ := h.later hbase ((Below.refl w.heap.size w).alloc (Nat.le_refl _) (.cells news.toArray T0))
  refine ⟨h1, h2, fun hn => ?_, fun y hy => ?_⟩
  · obtain ⟨a, b, c⟩ := h3 fun y hy => hn y (.inl hy)
    refine ⟨a, b, fun y hy => ?_⟩
    rcases hy with hy | ⟨_, rfl⟩
    · exact c y hy
    · exact ⟨w.heap.size, T0, (0, 0), rfl, (MapKept.heap_alloc w _).1⟩
  · rcases hy with hy | ⟨h, _⟩
    · exact h4 y hy
    · exact absurd h hk
theorem JApp.app (ht : P.underlying t = some (.slice e)) (hi : P.info? e = some inf) (hz : inf.zero = some z) (hsize : inf.size = size) (hby : inf.bytes = bytes) (hzs : z.cells.size = size) (hsz : 0 < size)
    {base : Nat} {W w : World} {v : Value} {n m : Nat} {xs news : List Value} {k1 k2 : Nat} {fs : Nat → Value → Prop} (h : JApp e size base W v n m xs news k1 k2 fs w) (hbase : base ≤ W.heap.size) (hl : news.length = m * size) (h1 : ∀ u ∈ news, u.oneCell' = true)
    (hm : n + m ≤ maxLen) (hn : (n + m) * bytes ≤ 140737488355328) (ty : TypeId) (lit : Value) (hlit : fs k1 lit) (hno : ∀ u, ¬ fs k2 u) :
    ∃ v' w', (Builtin.append_ #[t, t] ty #[v, lit]).run P w = .ok v' w' ∧ (∃ a cap, v' = .slice a (n + m) cap) ∧ JApp e size base W v n m xs news k1 k2 (addF fs k2 v') w' := by
  obtain ⟨j1, j2, j3, j4⟩ := h
  obtain ⟨a, b, c⟩ := j3 hno
  obtain ⟨g, T0, fr, rfl, e2⟩ := c lit hlit
  obtain ⟨v', w', r1, r2, r3, r4⟩ := app_own ht hi hz hsize hby hzs hsz base ty v n m g xs news w a e2 hl h1 hm hn (Nat.le_trans hbase j1.size) m
  refine ⟨v', w', r1, ?_, j1.trans r3, j2.trans r4, fun hn => absurd (.inr ⟨rfl, rfl⟩) (hn v'), fun y hy => ?_⟩
  · obtain ⟨a, cap, h, _⟩ := ownsRow_caps r2
    exact ⟨a, cap, h⟩
  · rcases hy with hy | ⟨_, rfl⟩
    · exact absurd hy (hno y)
    · exact r2
/-- What readers see in such a region: all blocks but those of the row's type. -/
def ButW (T : TypeId) (W : World) : Type := { w' : World // ButT T W w' }
theorem ButW.ne (T : TypeId) (W : World) : Nonempty (ButW T W) := ⟨⟨W, ButT.refl _ _⟩⟩
theorem ButW.cell {T : TypeId} {W : World} (x : ButW T W) {b o : Nat} {cur : Array Value} {T' : TypeId} {fr : Nat × Nat} {v : Value} (h : W.heap[b]? = some (.cells cur T' fr)) (hT : T' ≠ T) (hc : W.cell? ⟨b, o, none⟩ = some v) : x.1.cell? ⟨b, o, none⟩ = some v := by
  have h' := x.2 b cur T' fr h hT
  simp only [World.cell?, h] at hc
  simp only [World.cell?, h']
  exact hc
theorem JApp.seen {base : Nat} {W : World} {v : Value} {n m : Nat} {xs news : List Value} {k1 k2 : Nat} : ∀ fs w, JApp e size base W v n m xs news k1 k2 fs w → ∃ x : ButW e W, w = x.1 := fun _ w h => ⟨⟨w, h.2.1⟩, rfl⟩
end

end Go.Proofs.YtffhpcfphodamaaGreatDoor
