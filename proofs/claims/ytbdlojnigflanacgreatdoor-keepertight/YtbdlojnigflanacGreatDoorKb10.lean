/- Joined: Grow Nte2 OpenR Rec1 OpenQ First. -/
import Derived.Test.YtbdlojnigflanacGreatDoorKb03
import Derived.Test.YtbdlojnigflanacGreatDoorKb09
import Derived.Test.YtbdlojnigflanacGreatDoorKb07
import Derived.Test.YtbdlojnigflanacGreatDoorKb08
import Derived.Lib.SmallJoins
import Derived.Test.YtbdlojnigflanacGreatDoorKb06
section
/- Rows of one's own that grow by append, also in regions that draw their order. -/
set_option linter.all false
set_option maxRecDepth 100000
namespace Go.Proofs.YtbdlojnigflanacGreatDoor
open Go.RowKit Go.Maps

theorem heap_cell {w : World} {b : Nat} {cur : Array Value} {T : TypeId} {fr : Nat × Nat} (h : w.heap[b]? = some (.cells cur T fr)) (o : Nat) {u : Value} (hu : cur[o]? = some u) : w.cell? ⟨b, o, none⟩ = some u := by simp [World.cell?, h, hu]
theorem heap_made (w : World) (o : Obj) : (w.alloc o).heap[w.heap.size]? = some o := (MapKept.heap_alloc w o).1
/-- All blocks but those of one type stand as they did. -/
def ButT (T : TypeId) (W W' : World) : Prop := ∀ (k : Nat) (cur : Array Value) (T' : TypeId) (fr : Nat × Nat), W.heap[k]? = some (.cells cur T' fr) → T' ≠ T → W'.heap[k]? = some (.cells cur T' fr)
theorem ButT.refl (T : TypeId) (W : World) : ButT T W W := fun _ _ _ _ h _ => h
theorem ButT.trans {T : TypeId} {A B C : World} (h : ButT T A B) (h' : ButT T B C) : ButT T A C := fun k cur T' fr hk hT => h' k cur T' fr (h k cur T' fr hk hT) hT
theorem ButT.of_below {T : TypeId} {W W' : World} (h : Below W.heap.size W W') : ButT T W W' := fun k cur T' fr hk _ => (h.block k (lt_of_block hk)).trans hk
theorem ButT.drew {T : TypeId} {W W' : World} (h : ButT T W W') : ButT T W W'.drew := h
theorem ButT.alloc {T : TypeId} {W W' : World} (h : ButT T W W') (o : Obj) : ButT T W (W'.alloc o) := h.trans (ButT.of_below ((Below.refl _ _).alloc (Nat.le_refl _) _))
theorem ButT.grown {T : TypeId} {W W' : World} {base size n : Nat} {v : Value} {xs : List Value} (ho : W.ownsRow base T size v n xs) (hg : W.grownBy W' v.ownBlock) : ButT T W W' := by
  intro k cur T' fr hk hT
  refine (hg.block k (lt_of_block hk) fun h => ?_).trans hk
  obtain ⟨cur', h'⟩ := ownsRow_tag ho k h.symm
  rw [hk] at h'
  cases h'
  exact hT rfl
section
variable {P : Program} {t e : TypeId} {inf : TypeInfo} {z : Value} {size bytes : Nat}

theorem app_own (ht : P.underlying t = some (.slice e)) (hi : P.info? e = some inf) (hz : inf.zero = some z) (hsize : inf.size = size) (hby : inf.bytes = bytes) (hzs : z.cells.size = size) (hsz : 0 < size)
    (base : Nat) (ty : TypeId) (v : Value) (n m g : Nat) (xs news : List Value) (W : World) {T0 : TypeId} {fr : Nat × Nat} (hown : W.ownsRow base e size v n xs) (hg : W.heap[g]? = some (.cells news.toArray T0 fr)) (hl : news.length = m * size) (h1 : ∀ u ∈ news, u.oneCell' = true)
    (hm : n + m ≤ maxLen) (hn : (n + m) * bytes ≤ 140737488355328) (hbase : base ≤ W.heap.size) (c : Nat) :
    ∃ v' W', (Builtin.append_ #[t, t] ty #[v, .slice (some ⟨g, 0, none⟩) m c]).run P W = .ok v' W' ∧ W'.ownsRow base e size v' (n + m) (xs ++ news) ∧ Below base W W' ∧ ButT e W W' := by
  obtain ⟨v', W', r1, r2, r3, _⟩ := run_append_own (P := P) W base t ty e inf z size bytes ht hi hz hsize hby hzs hsz v n xs hown ⟨g, 0, none⟩ m c news hl (fun j u hj => by rw [add_at]; simpa [World.cell?, hg] using hj) h1 hm hn hbase
  exact ⟨v', W', r1, r2, (Below.refl _ _).grown r3 hbase fun k hk => ownsRow_ge hown k hk, ButT.grown hown r3⟩

/-- What stands in a region that makes a literal (operation k1) and appends it (operation k2), calls besides. -/
def JApp (e : TypeId) (size base : Nat) (W : World) (v : Value) (n m : Nat) (xs news : List Value) (k1 k2 : Nat) (fs : Nat → Value → Prop) (w : World) : Prop :=
  Below base W w ∧ ButT e W w ∧
  ((∀ u, ¬ fs k2 u) → w.ownsRow base e size v n xs ∧ Below W.heap.size W w ∧ ∀ u, fs k1 u → ∃ g T0 fr, u = .slice (some ⟨g, 0, none⟩) m m ∧ w.heap[g]? = some (.cells news.toArray T0 fr)) ∧
  (∀ u, fs k2 u → w.ownsRow base e size u (n + m) (xs ++ news))
theorem JApp.start {base : Nat} {W : World} {v : Value} {n m : Nat} {xs news : List Value} {k1 k2 : Nat} (h : W.ownsRow base e size v n xs) : JApp e size base W v n m xs news k1 k2 (fun _ _ => False) W.drew :=
  ⟨(Below.refl _ _).drew, ButT.refl _ _, fun _ => ⟨h, (Below.refl _ _).drew, fun _ h => h.elim⟩, fun _ h => h.elim⟩
theorem JApp.later {base : Nat} {W w w' : World} {v : Value} {n m : Nat} {xs news : List Value} {k1 k2 : Nat} {fs : Nat → Value → Prop} (h : JApp e size base W v n m xs news k1 k2 fs w) (hbase : base ≤ W.heap.size) (hb : Below w.heap.size w w') : JApp e size base W v n m xs news k1 k2 fs w' := by
  obtain ⟨h1, h2, h3, h4⟩ := h
  refine ⟨Below.thenOf h1 hb (Nat.le_trans hbase h1.size), h2.trans (ButT.of_below hb), fun hn => ?_, fun u hu => ownsRow_below (h4 u hu) hb⟩
  obtain ⟨a, b, c⟩ := h3 hn
  refine ⟨ownsRow_below a hb, Below.thenOf b hb b.size, fun u hu => ?_⟩
  obtain ⟨g, T0, fr, e1, e2⟩ := c u hu
  exact ⟨g, T0, fr, e1, (hb.block g (lt_of_block e2)).trans e2⟩
theorem JApp.other {base : Nat} {W w : World} {v : Value} {n m : Nat} {xs news : List Value} {k1 k2 : Nat} {fs : Nat → Value → Prop} (h : JApp e size base W v n m xs news k1 k2 fs w) (k : Nat) (u : Value) (hk1 : k1 ≠ k) (hk2 : k2 ≠ k) : JApp e size base W v n m xs news k1 k2 (addF fs k u) w := by
  obtain ⟨h1, h2, h3, h4⟩ := h
  refine ⟨h1, h2, fun hn => ?_, fun y hy => ?_⟩
  · obtain ⟨a, b, c⟩ := h3 fun y hy => hn y (.inl hy)
    refine ⟨a, b, fun y hy => ?_⟩
    rcases hy with hy | ⟨h, _⟩
    · exact c y hy
    · exact absurd h hk1
  · rcases hy with hy | ⟨h, _⟩
    · exact h4 y hy
    · exact absurd h hk2
theorem JApp.call {base : Nat} {W w w' : World} {v : Value} {n m : Nat} {xs news : List Value} {k1 k2 : Nat} {fs : Nat → Value → Prop} (h : JApp e size base W v n m xs news k1 k2 fs w) (hbase : base ≤ W.heap.size) (hb : Below w.heap.size w w') (k : Nat) (u : Value) (hk1 : k1 ≠ k) (hk2 : k2 ≠ k) : JApp e size base W v n m xs news k1 k2 (addF fs k u) w' := (h.later hbase hb).other k u hk1 hk2
theorem JApp.lit {base : Nat} {W w : World} {v : Value} {n m : Nat} {xs news : List Value} {k1 k2 : Nat} {fs : Nat → Value → Prop} (h : JApp e size base W v n m xs news k1 k2 fs w) (hbase : base ≤ W.heap.size) (hk : k2 ≠ k1) (T0 : TypeId) : JApp e size base W v n m xs news k1 k2 (addF fs k1 (.slice (some ⟨w.heap.size, 0, none⟩) m m)) (w.alloc (.cells news.toArray T0)) := by
  obtain ⟨h1, h2, h3, h4⟩ := h.later hbase ((Below.refl w.heap.size w).alloc (Nat.le_refl _) (.cells news.toArray T0))
  refine ⟨h1, h2, fun hn => ?_, fun y hy => ?_⟩
  · obtain ⟨a, b, c⟩ := h3 fun y hy => hn y (.inl hy)
    refine ⟨a, b, fun y hy => ?_⟩
    rcases hy with hy | ⟨_, rfl⟩
    · exact c y hy
    · exact ⟨w.heap.size, T0, (0, 0), rfl, (MapKept.heap_alloc w _).1⟩
  · rcases hy with hy | ⟨h, _⟩
    · exact h4 y hy
    · exact absurd h hk
theorem JApp.app (ht : P.underlying t = some (.slice e)) (hi : P.info? e = some inf) (hz : inf.zero = some z) (hsize : inf.size = size) (hby : inf.bytes = bytes) (hzs : z.cells.size = size) (hsz : 0 < size)
    {base : Nat} {W w : World} {v : Value} {n m : Nat} {xs news : List Value} {k1 k2 : Nat} {fs : Nat → Value → Prop} (h : JApp e size base W v n m xs news k1 k2 fs w) (hbase : base ≤ W.heap.size) (hl : news.length = m * size) (h1 : ∀ u ∈ news, u.oneCell' = true)
    (hm : n + m ≤ maxLen) (hn : (n + m) * bytes ≤ 140737488355328) (ty : TypeId) (lit : Value) (hlit : fs k1 lit) (hno : ∀ u, ¬ fs k2 u) :
    ∃ v' w', (Builtin.append_ #[t, t] ty #[v, lit]).run P w = .ok v' w' ∧ (∃ a cap, v' = .slice a (n + m) cap) ∧ JApp e size base W v n m xs news k1 k2 (addF fs k2 v') w' := by
  obtain ⟨j1, j2, j3, j4⟩ := h
  obtain ⟨a, b, c⟩ := j3 hno
  obtain ⟨g, T0, fr, rfl, e2⟩ := c lit hlit
  obtain ⟨v', w', r1, r2, r3, r4⟩ := app_own ht hi hz hsize hby hzs hsz base ty v n m g xs news w a e2 hl h1 hm hn (Nat.le_trans hbase j1.size) m
  refine ⟨v', w', r1, ?_, j1.trans r3, j2.trans r4, fun hn => absurd (.inr ⟨rfl, rfl⟩) (hn v'), fun y hy => ?_⟩
  · obtain ⟨a, cap, h, _⟩ := ownsRow_caps r2
    exact ⟨a, cap, h⟩
  · rcases hy with hy | ⟨_, rfl⟩
    · exact absurd hy (hno y)
    · exact r2
/-- What readers see in such a region: all blocks but those of the row's type. -/
def ButW (T : TypeId) (W : World) : Type := { w' : World // ButT T W w' }
theorem ButW.ne (T : TypeId) (W : World) : Nonempty (ButW T W) := ⟨⟨W, ButT.refl _ _⟩⟩
theorem ButW.cell {T : TypeId} {W : World} (x : ButW T W) {b o : Nat} {cur : Array Value} {T' : TypeId} {fr : Nat × Nat} {v : Value} (h : W.heap[b]? = some (.cells cur T' fr)) (hT : T' ≠ T) (hc : W.cell? ⟨b, o, none⟩ = some v) : x.1.cell? ⟨b, o, none⟩ = some v := by
  have h' := x.2 b cur T' fr h hT
  simp only [World.cell?, h] at hc
  simp only [World.cell?, h']
  exact hc
theorem JApp.seen {base : Nat} {W : World} {v : Value} {n m : Nat} {xs news : List Value} {k1 k2 : Nat} : ∀ fs w, JApp e size base W v n m xs news k1 k2 fs w → ∃ x : ButW e W, w = x.1 := fun _ w h => ⟨⟨w, h.2.1⟩, rfl⟩
end

end Go.Proofs.YtbdlojnigflanacGreatDoor
end
section
/- Records in memory; the counterpart's none, CheckRec, SameRec. -/
set_option linter.all false
set_option maxRecDepth 100000
namespace Go.Proofs.YtbdlojnigflanacGreatDoor
open Go.RowKit Go.Maps

def RecAt (B : Nat) (w : World) (v : Value) (r : RecT) : Prop :=
  ∃ rv, v = .agg #[.int .i64 r.1, .int .i64 r.2.1, .int .i64 r.2.2.1, rv, .int .i64 r.2.2.2.2] ∧ wf r.1 ∧ wf r.2.1 ∧ wf r.2.2.1 ∧ PolAt B w (.agg #[rv, .int .i64 r.2.2.2.2]) r.2.2.2
theorem RecAt.later {B B' : Nat} {w w' : World} {v : Value} {r : RecT} (h : RecAt B w v r) (hb : Below B' w w') (hB : B ≤ B') : RecAt B w' v r := by
  obtain ⟨rv, h1, h2, h3, h4, h5⟩ := h
  refine ⟨rv, h1, h2, h3, h4, ?_⟩
  obtain ⟨rv', e, hd, hr⟩ := h5
  exact ⟨rv', e, hd, hr.later hb hB⟩
theorem RecAt.shape {B : Nat} {w : World} {v : Value} {r : RecT} (h : RecAt B w v r) : ∃ a c, v = .agg #[.int .i64 r.1, .int .i64 r.2.1, .int .i64 r.2.2.1, .slice a r.2.2.2.1.length c, .int .i64 r.2.2.2.2] ∧ PolAt B w (.agg #[.slice a r.2.2.2.1.length c, .int .i64 r.2.2.2.2]) r.2.2.2 := by
  obtain ⟨rv, h1, h2, h3, h4, rv', e, hd, a, c, e2, h5⟩ := h
  simp at e
  subst e e2
  exact ⟨a, c, h1, _, rfl, hd, a, c, rfl, h5⟩
/-- A record all of whose memory is new: from block L on. -/
def RecNew (L : Nat) (w : World) (v : Value) (r : RecT) : Prop := ∀ wF : World, (∀ g, L ≤ g → g < w.heap.size → wF.heap[g]? = w.heap[g]?) → w.heap.size ≤ wF.heap.size → RecAt wF.heap.size wF v r
theorem RecNew.at {L : Nat} {w : World} {v : Value} {r : RecT} (h : RecNew L w v r) : RecAt w.heap.size w v r := h w (fun _ _ _ => rfl) (Nat.le_refl _)
/-- A record's five cells. -/
theorem rec_box {w : World} {b : Nat} {k c f d : Int} {sv : Value} {T : TypeId} {fr : Nat × Nat} (h : w.heap[b]? = some (.cells #[.int .i64 k, .int .i64 c, .int .i64 f, sv, .int .i64 d] T fr)) : w.cell? ⟨b, 0, none⟩ = some (.int .i64 k) ∧ w.cell? ⟨b, 1, none⟩ = some (.int .i64 c) ∧ w.cell? ⟨b, 2, none⟩ = some (.int .i64 f) ∧ w.cell? ⟨b, 3, none⟩ = some sv ∧ w.cell? ⟨b, 4, none⟩ = some (.int .i64 d) :=
  ⟨heap_cell h 0 rfl, heap_cell h 1 rfl, heap_cell h 2 rfl, heap_cell h 3 rfl, heap_cell h 4 rfl⟩

end Go.Proofs.YtbdlojnigflanacGreatDoor
end
section
/- A record that came in. -/
set_option linter.all false
set_option maxRecDepth 100000
namespace Go.Proofs.YtbdlojnigflanacGreatDoor
open Go.ChangeShapes Go.WideShapes Go.ChangeAt Go.RowKit Go.Deep Go.Maps

theorem polOf_cells {H : Type} {enc : TypeId × Value → H} {W : World} {base fuel : Nat} {sp : Nat → Bool} {held : Bool} {c0 c1 : Value} {x : DataW H × List MemPlace}
    (hf : DataW.trod enc Tryz.prog W base sp held fuel 24 [c0, c1] = some x) : ∃ pp, PolAt W.heap.size W (.agg #[c0, c1]) pp := by
  obtain ⟨y0, y1, n, _, _, t0, t1⟩ := trod_struct2 Tryz.underlying24 hf
  have hr1 : Tryz.prog.cellsOf 22 = 1 := by kernel_rfl
  have hi1 : Tryz.prog.cellsOf 3 = 1 := by kernel_rfl
  simp [hr1, hi1] at t0 t1
  obtain ⟨rs, hrs⟩ := open_rules t0
  obtain ⟨dd, q1, _, w1⟩ := DataW.trod_int Tryz.underlying3 t1
  simp at q1
  subst q1
  exact ⟨(rs, dd), c0, rfl, w1, hrs⟩
end Go.Proofs.YtbdlojnigflanacGreatDoor
end
section
/- Records in memory, in a row. -/
set_option linter.all false
set_option maxRecDepth 100000
namespace Go.Proofs.YtbdlojnigflanacGreatDoor
open Go.RowKit Go.Maps

/-- Records in memory: five cells each. -/
def RecIn (B : Nat) (w : World) (b o : Nat) (r : RecT) : Prop :=
  ∃ rv, w.cell? ⟨b, o, none⟩ = some (.int .i64 r.1) ∧ w.cell? ⟨b, o + 1, none⟩ = some (.int .i64 r.2.1) ∧ w.cell? ⟨b, o + 2, none⟩ = some (.int .i64 r.2.2.1) ∧ w.cell? ⟨b, o + 3, none⟩ = some rv ∧ w.cell? ⟨b, o + 4, none⟩ = some (.int .i64 r.2.2.2.2) ∧
    RecAt B w (.agg #[.int .i64 r.1, .int .i64 r.2.1, .int .i64 r.2.2.1, rv, .int .i64 r.2.2.2.2]) r
def RecsAt (B : Nat) (w : World) (v : Value) (rs : List RecT) : Prop :=
  ∃ a cap, v = .slice a rs.length cap ∧ rs.length ≤ cap ∧ cap ≤ maxLen ∧ ∀ i r, rs[i]? = some r → ∃ b o, a = some ⟨b, o, none⟩ ∧ b < B ∧ RecIn B w b (o + i * 5) r
theorem RecIn.later {B B' : Nat} {w w' : World} {b o : Nat} {r : RecT} (h : RecIn B w b o r) (hb : Below B' w w') (hB : B ≤ B') (hl : b < B) : RecIn B w' b o r := by
  obtain ⟨rv, h0, h1, h2, h3, h4, h5⟩ := h
  have hl' : b < B' := by omega
  exact ⟨rv, (hb.cell (p := ⟨b, o, none⟩) hl').trans h0, (hb.cell (p := ⟨b, o + 1, none⟩) hl').trans h1, (hb.cell (p := ⟨b, o + 2, none⟩) hl').trans h2, (hb.cell (p := ⟨b, o + 3, none⟩) hl').trans h3, (hb.cell (p := ⟨b, o + 4, none⟩) hl').trans h4, h5.later hb hB⟩
theorem RecsAt.later {B B' : Nat} {w w' : World} {v : Value} {rs : List RecT} (h : RecsAt B w v rs) (hb : Below B' w w') (hB : B ≤ B') : RecsAt B w' v rs := by
  obtain ⟨a, cap, h1, h2, h3, h4⟩ := h
  refine ⟨a, cap, h1, h2, h3, fun i c hc => ?_⟩
  obtain ⟨b, o, e, hl, k⟩ := h4 i c hc
  exact ⟨b, o, e, hl, k.later hb hB hl⟩
theorem recAt_more {B B' : Nat} {w : World} {v : Value} {r : RecT} (h : RecAt B w v r) (hB : B ≤ B') : RecAt B' w v r := by
  obtain ⟨rv, h1, h2, h3, h4, rv', e, hd, a, cap, k3, k4, k5, k6⟩ := h
  refine ⟨rv, h1, h2, h3, h4, rv', e, hd, a, cap, k3, k4, k5, fun i r hr => ?_⟩
  obtain ⟨b, o, m1, m2, cv, m3, m4, m5, a', cap', m6, m7, m8, m9⟩ := k6 i r hr
  refine ⟨b, o, m1, by omega, cv, m3, m4, m5, a', cap', m6, m7, m8, fun j c hc => ?_⟩
  obtain ⟨b', o', q1, q2, q3⟩ := m9 j c hc
  exact ⟨b', o', q1, by omega, q3⟩
theorem RecsAt.wide {B B' : Nat} {w : World} {v : Value} {rs : List RecT} (h : RecsAt B w v rs) (hB : B ≤ B') : RecsAt B' w v rs := by
  obtain ⟨a, cap, h1, h2, h3, h4⟩ := h
  refine ⟨a, cap, h1, h2, h3, fun i r hr => ?_⟩
  obtain ⟨b, o, e, hl, rv, k0, k1, k2, k3, k4, k5⟩ := h4 i r hr
  exact ⟨b, o, e, Nat.lt_of_lt_of_le hl hB, rv, k0, k1, k2, k3, k4, recAt_more k5 hB⟩

end Go.Proofs.YtbdlojnigflanacGreatDoor
end
section
/- Records that came in, in a row. -/
set_option linter.all false
set_option maxRecDepth 100000
namespace Go.Proofs.YtbdlojnigflanacGreatDoor
open Go.ChangeShapes Go.WideShapes Go.ChangeAt Go.RowKit Go.Deep Go.Maps

theorem open_recs0 {H : Type} {enc : TypeId × Value → H} {W : World} {base : Nat} {sp : Nat → Bool} {held : Bool} {fuel : Nat} {cv : Value} {x : DataW H × List MemPlace} (h : DataW.trod enc Tryz.prog W base sp held fuel 53 [cv] = some x) : ∃ rs, RecsAt W.heap.size W cv rs := by
  rcases open_slice Tryz.underlying53 h with ⟨h0, _⟩ | ⟨a, len, cap, m, n, D, Pl, h0, _, hl, hm, hmm, _, hx⟩
  · simp at h0
    subst h0
    exact ⟨[], none, 0, rfl, Nat.le_refl _, Nat.zero_le _, fun i c hc => by simp at hc⟩
  · simp at h0
    subst h0
    have h5 : Tryz.prog.cellsOf 38 = 5 := by kernel_rfl
    have hp2 : Tryz.prog.cellsOf 24 = 2 := by kernel_rfl
    have hi1 : Tryz.prog.cellsOf 3 = 1 := by kernel_rfl
    rw [h5] at hx
    have hlm : len ≤ m := by rw [hmm]; split <;> omega
    have each : ∀ i, i < len → ∃ r : RecT, a = ⟨a.block, a.off, none⟩ ∧ a.block < W.heap.size ∧ RecIn W.heap.size W a.block (a.off + i * 5) r := by
      intro i hi
      have h00 : W.cell? (a.add 0) ≠ none := by
        obtain ⟨cs', g1, _⟩ := hx 0 (by omega)
        obtain ⟨_, hlen, hcell⟩ := World.cells?_some g1
        have := hcell 0 (by omega)
        rw [add_add] at this
        simp at this
        match cs', hlen with
        | [v0, v1, v2, v3, v4], _ => simp at this ⊢; rw [this]; simp
      obtain ⟨v, hv⟩ := Option.ne_none_iff_exists'.1 h00
      obtain ⟨ha, hb⟩ := addr_plain hv
      obtain ⟨cs', g1, g2⟩ := hx i (by omega)
      obtain ⟨_, hlen, hcell⟩ := World.cells?_some g1
      obtain ⟨y0, y1, y2, y3, k, _, _, e0, e1, e2, e3⟩ := Go.Joins.trod_struct4 Tryz.underlying38 g2
      match cs', hlen with
      | [v0, v1, v2, v3, v4], _ =>
        simp [hp2, hi1] at e0 e1 e2 e3
        obtain ⟨k0, q0, _, w0⟩ := DataW.trod_int Tryz.underlying3 e0
        obtain ⟨k1, q1, _, w1⟩ := DataW.trod_int Tryz.underlying3 e1
        obtain ⟨k2, q2, _, w2⟩ := DataW.trod_int Tryz.underlying3 e2
        simp at q0 q1 q2
        subst q0 q1 q2
        obtain ⟨pp, hpp⟩ := polOf_cells e3
        obtain ⟨rv, e, hd, hrs⟩ := id hpp
        simp at e
        obtain ⟨rfl, rfl⟩ := e
        have c0 := hcell 0 (by omega)
        have c1 := hcell 1 (by omega)
        have c2 := hcell 2 (by omega)
        have c3 := hcell 3 (by omega)
        have c4 := hcell 4 (by omega)
        rw [add_add, ha, add_at] at c0 c1 c2 c3 c4
        exact ⟨(k0, k1, k2, pp), ha, hb, v3, by simpa using c0, by simpa [Nat.add_assoc] using c1, by simpa [Nat.add_assoc] using c2, by simpa [Nat.add_assoc] using c3, by simpa [Nat.add_assoc] using c4, v3, rfl, w0, w1, w2, hpp⟩
    obtain ⟨rs, hcl, hcp⟩ := list_of _ len each
    refine ⟨rs, some a, cap, by rw [hcl], by omega, hm, fun i c hc => ?_⟩
    obtain ⟨ha, hb, hat⟩ := hcp i c hc
    exact ⟨a.block, a.off, by rw [← ha], hb, hat⟩
theorem open_recs {H : Type} {enc : TypeId × Value → H} {W : World} {r : Reach} {b0 base : Nat} {sp : Nat → Bool} {held : Bool} {v : Value} {d : DataW H} {p : List MemPlace}
    (hv : Value.okWide Tryz.prog W r b0 53 v) (h : DataW.Trod enc Tryz.prog W base sp held 53 v d p) : ∃ rs, RecsAt W.heap.size W v rs := by
  obtain ⟨a, len, cap, rfl⟩ := okWide_slice Tryz.underlying53 hv
  obtain ⟨fuel, hf⟩ := h
  have hf' : DataW.trod enc Tryz.prog W base sp held fuel 53 [.slice a len cap] = some (d, p) := hf
  exact open_recs0 hf'
end Go.Proofs.YtbdlojnigflanacGreatDoor
end
section
/- What a judgement says of a policy whose end is another one, and of one with a rule left out. -/
set_option linter.all false
namespace Go.Proofs.YtbdlojnigflanacGreatDoor

theorem firstAt_inv {α : Type} (f : α → Bool) : ∀ (l : List α) (k0 : Nat), (firstAt f k0 l = -1 ∧ ∀ c ∈ l, f c = false) ∨ ∃ j c, firstAt f k0 l = ((k0 + j : Nat) : Int) ∧ l[j]? = some c ∧ f c = true ∧ ∀ i, i < j → ∀ c, l[i]? = some c → f c = false
  | [], _ => .inl ⟨rfl, fun c hc => by cases hc⟩
  | d :: r, k0 => by
    by_cases hd : f d = true
    · exact .inr ⟨0, d, by simp [firstAt, hd], rfl, hd, fun i hi => by omega⟩
    · have hd' : f d = false := by simpa using hd
      have e : firstAt f k0 (d :: r) = firstAt f (k0 + 1) r := by
        show (if f d then (k0 : Int) else _) = _
        rw [if_neg hd]
      rcases firstAt_inv f r (k0 + 1) with ⟨h1, h2⟩ | ⟨j, c, h1, h2, h3, h4⟩
      · refine .inl ⟨e.trans h1, fun c hc => ?_⟩
        rcases List.mem_cons.1 hc with rfl | hc
        · exact hd'
        · exact h2 c hc
      · refine .inr ⟨j + 1, c, ?_, by simpa using h2, h3, fun i hi c hc => ?_⟩
        · rw [e, h1]; congr 1; omega
        · cases i with
          | zero => simp at hc; subst hc; exact hd'
          | succ i => exact h4 i (by omega) c (by simpa using hc)

theorem rulesErr_of {rs : List RuleT} (h : ∀ r ∈ rs, ruleErr r = 0) : rulesErr rs = 0 := by
  induction rs with
  | nil => rfl
  | cons r s ih =>
    unfold rulesErr
    rw [if_pos (h r (by simp))]
    exact ih fun r hr => h r (by simp [hr])
theorem polErr_of {p : PolT} (h1 : p.1.length ≤ 120) (h2 : verdictOk p.2 = true) (h3 : ∀ r ∈ p.1, ruleErr r = 0) : polErr p = 0 := by
  unfold polErr
  rw [if_neg (by omega), if_pos h2]
  exact rulesErr_of h3

theorem judgeP_ok {p : PolT} {x : Nat → Int} (hp : polErr p = 0) (hx : chkx x = 0) : judgeP p x = ((verdictAt p (firstAt (ruleOk x) 0 p.1)).1, (verdictAt p (firstAt (ruleOk x) 0 p.1)).2, 0) := by
  unfold judgeP
  rw [if_pos hp, if_pos hx]
end Go.Proofs.YtbdlojnigflanacGreatDoor
end
