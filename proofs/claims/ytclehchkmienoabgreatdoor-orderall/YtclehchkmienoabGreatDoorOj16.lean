/- Joined: Grow Pols. -/
import Derived.Test.YtclehchkmienoabGreatDoorOj04
import Derived.Test.YtclehchkmienoabGreatDoorOj15
import Derived.Test.YtclehchkmienoabGreatDoorOj14
section
/- Rows of one's own that grow by append, also in regions that draw their order. -/
set_option linter.all false
set_option maxRecDepth 100000
namespace Go.Proofs.YtclehchkmienoabGreatDoor
open Go.RowKit Go.Maps

theorem heap_cell {w : World} {b : Nat} {cur : Array Value} {T : TypeId} {fr : Nat × Nat} (h : w.heap[b]? = some (.cells cur T fr)) (o : Nat) {u : Value} (hu : cur[o]? = some u) : w.cell? ⟨b, o, none⟩ = some u := by simp [World.cell?, h, hu]
theorem heap_made (w : World) (o : Obj) : (w.alloc o).heap[w.heap.size]? = some o := (MapKept.heap_alloc w o).1
/-- All blocks but those of one type stand as they did. -/
def ButT (T : TypeId) (W W' : World) : Prop := ∀ (k : Nat) (cur : Array Value) (T' : TypeId) (fr : Nat × Nat), W.heap[k]? = some (.cells cur T' fr) → T' ≠ T → W'.heap[k]? = some (.cells cur T' fr)
theorem ButT.refl (T : TypeId) (W : World) : ButT T W W := fun _ _ _ _ h _ => h
theorem ButT.trans {T : TypeId} {A B C : World} (h : ButT T A B) (h' : ButT T B C) : ButT T A C := fun k cur T' fr hk hT => h' k cur T' fr (h k cur T' fr hk hT) hT
theorem ButT.of_below {T : TypeId} {W W' : World} (h : Below W.heap.size W W') : ButT T W W' := fun k cur T' fr hk _ => (h.block k (lt_of_block hk)).trans hk
theorem ButT.drew {T : TypeId} {W W' : World} (h : ButT T W W') : ButT T W W'.drew := h
theorem ButT.alloc {T : TypeId} {W W' : World} (h : ButT T W W') (o : Obj) : ButT T W (W'.alloc o) := h.trans (ButT.of_below ((Below.refl _ _).alloc (Nat.le_refl _) _))
theorem ButT.grown {T : TypeId} {W W' : World} {base size n : Nat} {v : Value} {xs : List Value} (ho : W.ownsRow base T size v n xs) (hg : W.grownBy W' v.ownBlock) : ButT T W W' := by
  intro k cur T' fr hk hT
  refine (hg.block k (lt_of_block hk) fun h => ?_).trans hk
  obtain ⟨cur', h'⟩ := ownsRow_tag ho k h.symm
  rw [hk] at h'
  cases h'
  exact hT rfl
theorem ButT.setOld {T : TypeId} {W W' : World} {N : Nat} (h : ButT T W W') (hN : W.heap.size ≤ N) (a : Addr) (ha : N ≤ a.block) (u : Value) : ButT T W (W'.setCell a u) := fun k cur T' fr hk hT => (Below.heap_setCell _ _ _ _ (by have := lt_of_block hk; omega)).trans (h k cur T' fr hk hT)

section
variable {P : Program} {t e : TypeId} {inf : TypeInfo} {z : Value} {size bytes : Nat}

theorem app_own (ht : P.underlying t = some (.slice e)) (hi : P.info? e = some inf) (hz : inf.zero = some z) (hsize : inf.size = size) (hby : inf.bytes = bytes) (hzs : z.cells.size = size) (hsz : 0 < size)
    (base : Nat) (ty : TypeId) (v : Value) (n m g : Nat) (xs news : List Value) (W : World) {T0 : TypeId} {fr : Nat × Nat} (hown : W.ownsRow base e size v n xs) (hg : W.heap[g]? = some (.cells news.toArray T0 fr)) (hl : news.length = m * size) (h1 : ∀ u ∈ news, u.oneCell' = true)
    (hm : n + m ≤ maxLen) (hn : (n + m) * bytes ≤ 140737488355328) (hbase : base ≤ W.heap.size) (c : Nat) :
    ∃ v' W', (Builtin.append_ #[t, t] ty #[v, .slice (some ⟨g, 0, none⟩) m c]).run P W = .ok v' W' ∧ W'.ownsRow base e size v' (n + m) (xs ++ news) ∧ Below base W W' ∧ ButT e W W' := by
  obtain ⟨v', W', r1, r2, r3, _⟩ := run_append_own (P := P) W base t ty e inf z size bytes ht hi hz hsize hby hzs hsz v n xs hown ⟨g, 0, none⟩ m c news hl (fun j u hj => by rw [add_at]; simpa [World.cell?, hg] using hj) h1 hm hn hbase
  exact ⟨v', W', r1, r2, (Below.refl _ _).grown r3 hbase fun k hk => ownsRow_ge hown k hk, ButT.grown hown r3⟩

/-- What stands in a region that makes a literal (operation k1) and appends it (operation k2), calls besides. -/
def JApp (e : TypeId) (size base : Nat) (W : World) (v : Value) (n m : Nat) (xs news : List Value) (k1 k2 : Nat) (fs : Nat → Value → Prop) (w : World) : Prop :=
  Below base W w ∧ ButT e W w ∧
  ((∀ u, ¬ fs k2 u) → w.ownsRow base e size v n xs ∧ Below W.heap.size W w ∧ ∀ u, fs k1 u → ∃ g T0 fr, u = .slice (some ⟨g, 0, none⟩) m m ∧ w.heap[g]? = some (.cells news.toArray T0 fr)) ∧
  (∀ u, fs k2 u → w.ownsRow base e size u (n + m) (xs ++ news))
theorem JApp.start {base : Nat} {W : World} {v : Value} {n m : Nat} {xs news : List Value} {k1 k2 : Nat} (h : W.ownsRow base e size v n xs) : JApp e size base W v n m xs news k1 k2 (fun _ _ => False) W.drew :=
  ⟨(Below.refl _ _).drew, ButT.refl _ _, fun _ => ⟨h, (Below.refl _ _).drew, fun _ h => h.elim⟩, fun _ h => h.elim⟩
theorem JApp.later {base : Nat} {W w w' : World} {v : Value} {n m : Nat} {xs news : List Value} {k1 k2 : Nat} {fs : Nat → Value → Prop} (h : JApp e size base W v n m xs news k1 k2 fs w) (hbase : base ≤ W.heap.size) (hb : Below w.heap.size w w') : JApp e size base W v n m xs news k1 k2 fs w' := by
  obtain ⟨h1, h2, h3, h4⟩ := h
  refine ⟨Below.thenOf h1 hb (Nat.le_trans hbase h1.size), h2.trans (ButT.of_below hb), fun hn => ?_, fun u hu => ownsRow_below (h4 u hu) hb⟩
  obtain ⟨a, b, c⟩ := h3 hn
  refine ⟨ownsRow_below a hb, Below.thenOf b hb b.size, fun u hu => ?_⟩
  obtain ⟨g, T0, fr, e1, e2⟩ := c u hu
  exact ⟨g, T0, fr, e1, (hb.block g (lt_of_block e2)).trans e2⟩
theorem JApp.other {base : Nat} {W w : World} {v : Value} {n m : Nat} {xs news : List Value} {k1 k2 : Nat} {fs : Nat → Value → Prop} (h : JApp e size base W v n m xs news k1 k2 fs w) (k : Nat) (u : Value) (hk1 : k1 ≠ k) (hk2 : k2 ≠ k) : JApp e size base W v n m xs news k1 k2 (addF fs k u) w := by
  obtain ⟨h1, h2, h3, h4⟩ := h
  refine ⟨h1, h2, fun hn => ?_, fun y hy => ?_⟩
  · obtain ⟨a, b, c⟩ := h3 fun y hy => hn y (.inl hy)
    refine ⟨a, b, fun y hy => ?_⟩
    rcases hy with hy | ⟨h, _⟩
    · exact c y hy
    · exact absurd h hk1
  · rcases hy with hy | ⟨h, _⟩
    · exact h4 y hy
    · exact absurd h hk2
theorem JApp.call {base : Nat} {W w w' : World} {v : Value} {n m : Nat} {xs news : List Value} {k1 k2 : Nat} {fs : Nat → Value → Prop} (h : JApp e size base W v n m xs news k1 k2 fs w) (hbase : base ≤ W.heap.size) (hb : Below w.heap.size w w') (k : Nat) (u : Value) (hk1 : k1 ≠ k) (hk2 : k2 ≠ k) : JApp e size base W v n m xs news k1 k2 (addF fs k u) w' := (h.later hbase hb).other k u hk1 hk2
theorem JApp.lit {base : Nat} {W w : World} {v : Value} {n m : Nat} {xs news : List Value} {k1 k2 : Nat} {fs : Nat → Value → Prop} (h : JApp e size base W v n m xs news k1 k2 fs w) (hbase : base ≤ W.heap.size) (hk : k2 ≠ k1) (T0 : TypeId) : JApp e size base W v n m xs news k1 k2 (addF fs k1 (.slice (some ⟨w.heap.size, 0, none⟩) m m)) (w.alloc (.cells news.toArray T0)) := by
  obtain ⟨h1, h2, h3, h4⟩ := h.later hbase ((Below.refl w.heap.size w).alloc (Nat.le_refl _) (.cells news.toArray T0))
  refine ⟨h1, h2, fun hn => ?_, fun y hy => ?_⟩
  · obtain ⟨a, b, c⟩ := h3 fun y hy => hn y (.inl hy)
    refine ⟨a, b, fun y hy => ?_⟩
    rcases hy with hy | ⟨_, rfl⟩
    · exact c y hy
    · exact ⟨w.heap.size, T0, (0, 0), rfl, (MapKept.heap_alloc w _).1⟩
  · rcases hy with hy | ⟨h, _⟩
    · exact h4 y hy
    · exact absurd h hk
theorem JApp.app (ht : P.underlying t = some (.slice e)) (hi : P.info? e = some inf) (hz : inf.zero = some z) (hsize : inf.size = size) (hby : inf.bytes = bytes) (hzs : z.cells.size = size) (hsz : 0 < size)
    {base : Nat} {W w : World} {v : Value} {n m : Nat} {xs news : List Value} {k1 k2 : Nat} {fs : Nat → Value → Prop} (h : JApp e size base W v n m xs news k1 k2 fs w) (hbase : base ≤ W.heap.size) (hl : news.length = m * size) (h1 : ∀ u ∈ news, u.oneCell' = true)
    (hm : n + m ≤ maxLen) (hn : (n + m) * bytes ≤ 140737488355328) (ty : TypeId) (lit : Value) (hlit : fs k1 lit) (hno : ∀ u, ¬ fs k2 u) :
    ∃ v' w', (Builtin.append_ #[t, t] ty #[v, lit]).run P w = .ok v' w' ∧ (∃ a cap, v' = .slice a (n + m) cap) ∧ JApp e size base W v n m xs news k1 k2 (addF fs k2 v') w' := by
  obtain ⟨j1, j2, j3, j4⟩ := h
  obtain ⟨a, b, c⟩ := j3 hno
  obtain ⟨g, T0, fr, rfl, e2⟩ := c lit hlit
  obtain ⟨v', w', r1, r2, r3, r4⟩ := app_own ht hi hz hsize hby hzs hsz base ty v n m g xs news w a e2 hl h1 hm hn (Nat.le_trans hbase j1.size) m
  refine ⟨v', w', r1, ?_, j1.trans r3, j2.trans r4, fun hn => absurd (.inr ⟨rfl, rfl⟩) (hn v'), fun y hy => ?_⟩
  · obtain ⟨a, cap, h, _⟩ := ownsRow_caps r2
    exact ⟨a, cap, h⟩
  · rcases hy with hy | ⟨_, rfl⟩
    · exact absurd hy (hno y)
    · exact r2
/-- What readers see in such a region: all blocks but those of the row's type. -/
def ButW (T : TypeId) (W : World) : Type := { w' : World // ButT T W w' }
theorem ButW.ne (T : TypeId) (W : World) : Nonempty (ButW T W) := ⟨⟨W, ButT.refl _ _⟩⟩
theorem ButW.cell {T : TypeId} {W : World} (x : ButW T W) {b o : Nat} {cur : Array Value} {T' : TypeId} {fr : Nat × Nat} {v : Value} (h : W.heap[b]? = some (.cells cur T' fr)) (hT : T' ≠ T) (hc : W.cell? ⟨b, o, none⟩ = some v) : x.1.cell? ⟨b, o, none⟩ = some v := by
  have h' := x.2 b cur T' fr h hT
  simp only [World.cell?, h] at hc
  simp only [World.cell?, h']
  exact hc
theorem JApp.seen {base : Nat} {W : World} {v : Value} {n m : Nat} {xs news : List Value} {k1 k2 : Nat} : ∀ fs w, JApp e size base W v n m xs news k1 k2 fs w → ∃ x : ButW e W, w = x.1 := fun _ w h => ⟨⟨w, h.2.1⟩, rfl⟩
end

end Go.Proofs.YtclehchkmienoabGreatDoor
end
section
/- Several policies in memory; what the counterpart's CheckAll says of them. -/
set_option linter.all false
set_option maxRecDepth 100000
namespace Go.Proofs.YtclehchkmienoabGreatDoor
open Go.RowKit Go.Maps

/-- A policy in two cells. -/
def PolC (B : Nat) (w : World) (b o : Nat) (p : PolT) : Prop := ∃ rv, w.cell? ⟨b, o, none⟩ = some rv ∧ w.cell? ⟨b, o + 1, none⟩ = some (.int .i64 p.2) ∧ wf p.2 ∧ RulesAt B w rv p.1
def PolsAt (B : Nat) (w : World) (v : Value) (ps : List PolT) : Prop :=
  ∃ a cap, v = .slice a ps.length cap ∧ ps.length ≤ cap ∧ cap ≤ maxLen ∧ ∀ (i : Nat) p, ps[i]? = some p → ∃ b o, a = some ⟨b, o, none⟩ ∧ b < B ∧ PolC B w b (o + i * 2) p
theorem PolC.later {B B' : Nat} {w w' : World} {b o : Nat} {p : PolT} (h : PolC B w b o p) (hb : Below B' w w') (hB : B ≤ B') (hl : b < B) : PolC B w' b o p := by
  obtain ⟨rv, h1, h2, h3, h4⟩ := h
  exact ⟨rv, (hb.cell (p := ⟨b, o, none⟩) (by show b < B'; omega)).trans h1, (hb.cell (p := ⟨b, o + 1, none⟩) (by show b < B'; omega)).trans h2, h3, h4.later hb hB⟩
theorem PolsAt.later {B B' : Nat} {w w' : World} {v : Value} {ps : List PolT} (h : PolsAt B w v ps) (hb : Below B' w w') (hB : B ≤ B') : PolsAt B w' v ps := by
  obtain ⟨a, cap, h1, h2, h3, h4⟩ := h
  refine ⟨a, cap, h1, h2, h3, fun i c hc => ?_⟩
  obtain ⟨b, o, e, hl, k⟩ := h4 i c hc
  exact ⟨b, o, e, hl, k.later hb hB hl⟩
theorem PolC.pol {B : Nat} {w : World} {b o : Nat} {p : PolT} (h : PolC B w b o p) : ∃ a n cap, w.cell? ⟨b, o, none⟩ = some (.slice a n cap) ∧ w.cell? ⟨b, o + 1, none⟩ = some (.int .i64 p.2) ∧ PolAt B w (.agg #[.slice a n cap, .int .i64 p.2]) p := by
  obtain ⟨rv, h1, h2, h3, h4⟩ := h
  obtain ⟨a, cap, rfl, h5⟩ := h4
  exact ⟨a, _, cap, h1, h2, _, rfl, h3, a, cap, rfl, h5⟩

theorem polsErr_drop (ps : List PolT) (k : Nat) (p : PolT) (h : ps[k]? = some p) : polsErr (ps.drop k) = if polErr p = 0 then polsErr (ps.drop (k + 1)) else polErr p := by
  obtain ⟨hk, rfl⟩ := List.getElem?_eq_some_iff.1 h
  rw [List.drop_eq_getElem_cons hk]
  rfl

set_option maxHeartbeats 2000000 in
theorem checkAll_any (B : Nat) (lv : Value) (ps : List PolT) (w : World) (hl : PolsAt B w lv ps) (hB : B ≤ w.heap.size) :
    Calls Tryz.prog 49 #[lv] w fun e w' => e = .returned (.int .i64 (polsErr ps)) ∧ Below w.heap.size w w' := by
  have HL : Hid (∀ w', Below w.heap.size w w' → PolsAt B w' lv ps) := fun w' h => hl.later h hB
  obtain ⟨a, cap, rfl, hlc, hcm, -⟩ := hl
  have hml := maxLen_eq
  generalize hlen : ps.length = len at *
  have hlenH : Hid (ps.length = len) := hlen
  clear hlen
  go_enter Tryz.func49, Tryz.ntmps49
  go_wp2
  go_loopw [8] (fun iv wr => ∃ k : Nat, k ≤ len ∧ iv = .int .i64 k ∧ Hid (polsErr ps = polsErr (ps.drop k)) ∧ Below w.heap.size w wr) (fun iv _ => len - (intOf iv).toNat)
  case atStart => exact ⟨0, by omega, rfl, rfl, Below.refl _ _⟩
  case round =>
    obtain ⟨k, hk, rfl, H, hbr⟩ := hrel
    obtain ⟨wo, hwo⟩ : ∃ x, x = wr := ⟨_, rfl⟩
    subst hwo
    have i0 : (0 : Int) ≤ (k : Int) := by omega
    have hos := hbr.size
    by_cases hlt : k < len
    · have i1 : (k : Int) < (len : Int) := by omega
      obtain ⟨p, hpk⟩ : ∃ p, ps[k]? = some p := ⟨ps[k]'(by rw [hlenH.out]; omega), by simp⟩
      have S : Hid (polsErr (ps.drop k) = if polErr p = 0 then polsErr (ps.drop (k + 1)) else polErr p) := polsErr_drop ps k p hpk
      obtain ⟨_, _, e1, -, -, hat⟩ := HL.out _ hbr
      obtain ⟨b, o, e, hbB, hpc⟩ := hat k p hpk
      simp at e1
      obtain ⟨rfl, -, -⟩ := e1
      subst e
      clear hat
      obtain ⟨a2, n2, c2, k0, k1, hpa⟩ := hpc.pol
      have HPA : Hid (∀ w', Below wo.heap.size wo w' → Calls Tryz.prog 61 #[.agg #[.slice a2 n2 c2, .int .i64 p.2]] w' fun e w'' => e = .returned (.int .i64 (polErr p)) ∧ Below w'.heap.size w' w'') := fun w' h => checkPolicy_any B _ p w' (hpa.later h (Nat.le_trans hB hos)) (Nat.le_trans hB (Nat.le_trans hos h.size))
      clear hpc hpa
      by_cases he : polErr p = 0
      · rw [he] at HPA
        have S' : Hid (polsErr ps = polsErr (ps.drop (k + 1))) := by unfold Hid; rw [H.out, S.out, if_pos he]
        clear he S
        go_wp2_with (first | (go_at_call 61; go_must (refine Calls.mono (HPA.out _ ((Below.refl _ _).alloc (Nat.le_refl _) _)) ?_; rintro e w2 ⟨rfl, hb2⟩)))
        exact ⟨⟨k + 1, by omega, by go_num, S', Below.thenOf (hbr.alloc hos _) hb2 (by simp; omega)⟩, by simp [intOf]; omega⟩
      · have S' : Hid (polsErr ps = polErr p) := by unfold Hid; rw [H.out, S.out, if_neg he]
        have hq : (polErr p != 0) = true := by simpa using he
        clear he S
        generalize polErr p = pe at *
        go_wp2_with (first | (go_at_call 61; go_must (refine Calls.mono (HPA.out _ ((Below.refl _ _).alloc (Nat.le_refl _) _)) ?_; rintro e w2 ⟨rfl, hb2⟩)))
        go_ret
        exact ⟨by rw [S'.out]; rfl, Below.thenOf (hbr.alloc hos _) hb2 (by simp; omega)⟩
    · go_wp2
      go_ret
      exact ⟨by rw [H.out, List.drop_eq_nil_of_le (by rw [hlenH.out]; omega)]; rfl, hbr⟩

end Go.Proofs.YtclehchkmienoabGreatDoor
end
