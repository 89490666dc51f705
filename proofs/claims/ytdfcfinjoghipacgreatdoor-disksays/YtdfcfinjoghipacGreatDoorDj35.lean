/- Joined: Dsk7 Dsk8. -/
import Derived.Test.YtdfcfinjoghipacGreatDoorDj34
section
/- Plain facts about lines; memory that holds no numbers can be written; what stands in the region of the counterpart's Recovered. -/
set_option linter.all false
set_option maxRecDepth 100000
namespace Go.Proofs.YtdfcfinjoghipacGreatDoor
open Go.RowKit Go.Maps

theorem readL_len : ∀ (ts : List Bs) (most : Nat), (readL most ts).1.length ≤ most
  | [], most => by rw [readL_nil]; exact Nat.zero_le _
  | t :: ts, most => by
    unfold readL
    split
    · exact Nat.zero_le _
    · split
      · split
        · cases most with
          | zero => exact Nat.le_refl _
          | succ m => simp only [List.length_cons]; have := readL_len ts m; omega
        · exact Nat.zero_le _
      · exact Nat.zero_le _
theorem linesP_len (most : Nat) (s : Bs) : (linesP most s).1.length ≤ most := readL_len _ _
theorem readL_bytes : ∀ (ts : List Bs) (most : Nat), (readL most ts).2.1 ≤ ts.flatten.length
  | [], most => by rw [readL_nil]; exact Nat.zero_le _
  | t :: ts, most => by
    unfold readL
    split
    · exact Nat.zero_le _
    · split
      · split
        · cases most with
          | zero => exact Nat.zero_le _
          | succ m => simp only [List.flatten_cons, List.length_append]; have := readL_bytes ts m; omega
        · exact Nat.zero_le _
      · exact Nat.zero_le _
theorem linesK_flat : ∀ (k : Nat) (s : Bs), (linesK k s).flatten = s
  | 0, s => by unfold linesK; simp
  | k + 1, s => by
    unfold linesK
    cases h : cutNl s with
    | none => simp
    | some x =>
      obtain ⟨a, t⟩ := x
      simp only [List.flatten_cons, linesK_flat k t]
      rw [(cutNl_some h).1]
      simp
theorem linesP_bytes (most : Nat) (s : Bs) : (linesP most s).2.1 ≤ s.length := by
  have := readL_bytes (linesK s.length s) most
  rw [linesK_flat] at this
  exact this
/-- What Recover hands back. -/
def recovM (d : DiskT) : List RecT × Nat × Int := linesP (40 - (linesP 40 d.1).1.length) d.2
def recovB (d : DiskT) : Bs := d.1 ++ d.2.take (recovM d).2.1
def recovL (d : DiskT) : List RecT := (linesP 40 d.1).1 ++ (recovM d).1

/-- A block that holds no numbers. -/
def NoInts (w : World) (k : Nat) : Prop := ∀ (o : Nat) (K : IntKind) (x : Int), w.cell? ⟨k, o, none⟩ ≠ some (.int K x)
theorem NoInts.of {w : World} {k n m : Nat} {a b : Option Addr} {c d : Nat} {T : TypeId} {fr : Nat × Nat} (h : w.heap[k]? = some (.cells #[.slice a n c, .slice b m d] T fr)) : NoInts w k := by
  intro o K x hc
  match o with
  | 0 => rw [heap_cell h 0 rfl] at hc; cases hc
  | 1 => rw [heap_cell h 1 rfl] at hc; cases hc
  | o + 2 => simp [World.cell?, h] at hc
def KeepX (k : Nat) (w w' : World) : Prop := ∀ b, b ≠ k → w'.heap[b]? = w.heap[b]?
theorem KeepX.cell {k : Nat} {w w' : World} (h : KeepX k w w') (hn : NoInts w k) {b o : Nat} {K : IntKind} {x : Int} (hc : w.cell? ⟨b, o, none⟩ = some (.int K x)) : w'.cell? ⟨b, o, none⟩ = some (.int K x) := by
  have hb : b ≠ k := fun e => by subst e; exact hn _ _ _ hc
  unfold World.cell? at hc ⊢
  rw [h b hb]
  exact hc
theorem KeepX.near {k : Nat} {w w' : World} (h : KeepX k w w') (hn : NoInts w k) {b o o' : Nat} {K : IntKind} {x : Int} (hc : w.cell? ⟨b, o, none⟩ = some (.int K x)) {v : Value} (hv : w.cell? ⟨b, o', none⟩ = some v) : w'.cell? ⟨b, o', none⟩ = some v := by
  have hb : b ≠ k := fun e => by subst e; exact hn _ _ _ hc
  unfold World.cell? at hv ⊢
  rw [h b hb]
  exact hv
theorem RecAt.box {B k : Nat} {w w' : World} {v : Value} {r : RecT} (h : RecAt B w v r) (hk : KeepX k w w') (hn : NoInts w k) : RecAt B w' v r := by
  obtain ⟨rv, h1, h2, h3, h4, rv', e, hd, a, cap, k3, k4, k5, k6⟩ := h
  refine ⟨rv, h1, h2, h3, h4, rv', e, hd, a, cap, k3, k4, k5, fun i r hr => ?_⟩
  obtain ⟨b, o, m1, m2, cv, m3, m4, m5, a', cap', m6, m7, m8, m9⟩ := k6 i r hr
  refine ⟨b, o, m1, m2, cv, hk.near hn m4 m3, hk.cell hn m4, m5, a', cap', m6, m7, m8, fun j c hc => ?_⟩
  obtain ⟨b', o', q1, q2, c0, c1, c2, q3⟩ := m9 j c hc
  exact ⟨b', o', q1, q2, hk.cell hn c0, hk.cell hn c1, hk.cell hn c2, q3⟩
theorem RecsAt.box {B k : Nat} {w w' : World} {v : Value} {rs : List RecT} (h : RecsAt B w v rs) (hk : KeepX k w w') (hn : NoInts w k) : RecsAt B w' v rs := by
  obtain ⟨a, cap, h1, h2, h3, h4⟩ := h
  refine ⟨a, cap, h1, h2, h3, fun i r hr => ?_⟩
  obtain ⟨b, o, e, hb, rv, k0, k1, k2, k3, k4, k5⟩ := h4 i r hr
  exact ⟨b, o, e, hb, rv, hk.cell hn k0, hk.cell hn k1, hk.cell hn k2, hk.near hn k0 k3, hk.cell hn k4, k5.box hk hn⟩
theorem BytesAt.box {B k : Nat} {w w' : World} {v : Value} {bs : Bs} (h : BytesAt B w v bs) (hk : KeepX k w w') (hn : NoInts w k) : BytesAt B w' v bs := by
  obtain ⟨a, cap, h1, h2, h3, h4⟩ := h
  refine ⟨a, cap, h1, h2, h3, fun i b hi => ?_⟩
  obtain ⟨g, o, e, hl, c⟩ := h4 i b hi
  exact ⟨g, o, e, hl, hk.cell hn c⟩

/-- A literal of two values in its block. -/
def Lit2 (w : World) (u v0 v1 : Value) : Prop := ∃ g T fr, u = .slice (some ⟨g, 0, none⟩) 2 2 ∧ w.heap[g]? = some (.cells #[v0, v1] T fr)
theorem Lit2.later {w w' : World} {u v0 v1 : Value} (h : Lit2 w u v0 v1) (hb : Below w.heap.size w w') : Lit2 w' u v0 v1 := by
  obtain ⟨g, T, fr, e, hg⟩ := h
  exact ⟨g, T, fr, e, (hb.block g (lt_of_block hg)).trans hg⟩
/-- What stands in the region ahead of the store. -/
structure ARe (W : World) (sv tv lv mv : Value) (R : Bs) (Q : List RecT) (fs : Nat → Value → Prop) (w : World) : Prop where
  below : Below W.heap.size W w
  lit6 : ∀ u, fs 6 u → Lit2 w u sv tv
  row7 : ∀ u, fs 7 u → BytesAt w.heap.size w u R
  lit11 : ∀ u, fs 11 u → Lit2 w u lv mv
  row12 : ∀ u, fs 12 u → RecsAt w.heap.size w u Q
  need : ∀ u, fs 12 u → ∃ v, fs 11 v
theorem ARe.later {W w w' : World} {sv tv lv mv : Value} {R : Bs} {Q : List RecT} {fs : Nat → Value → Prop} (h : ARe W sv tv lv mv R Q fs w) (hb : Below w.heap.size w w') : ARe W sv tv lv mv R Q fs w' :=
  ⟨Below.thenOf h.below hb h.below.size, fun u hu => (h.lit6 u hu).later hb, fun u hu => ((h.row7 u hu).later hb (Nat.le_refl _)).wide hb.size, fun u hu => (h.lit11 u hu).later hb, fun u hu => ((h.row12 u hu).later hb (Nat.le_refl _)).wide hb.size, h.need⟩
theorem addF_ne {fs : Nat → Value → Prop} {k m : Nat} {v u : Value} (h : addF fs k v m u) (hne : m ≠ k) : fs m u := by
  rcases h with h | ⟨h, _⟩
  · exact h
  · exact absurd h hne
theorem ARe.put6 {W w : World} {sv tv lv mv : Value} {R : Bs} {Q : List RecT} {fs : Nat → Value → Prop} (h : ARe W sv tv lv mv R Q fs w) (v : Value) (hv : Lit2 w v sv tv) : ARe W sv tv lv mv R Q (addF fs 6 v) w :=
  ⟨h.below, fun u hu => by
    rcases hu with hu | ⟨_, rfl⟩
    · exact h.lit6 u hu
    · exact hv, fun u hu => h.row7 u (addF_ne hu (by decide)), fun u hu => h.lit11 u (addF_ne hu (by decide)), fun u hu => h.row12 u (addF_ne hu (by decide)), fun u hu => by
    obtain ⟨x, hx⟩ := h.need u (addF_ne hu (by decide))
    exact ⟨x, .inl hx⟩⟩
theorem ARe.put7 {W w : World} {sv tv lv mv : Value} {R : Bs} {Q : List RecT} {fs : Nat → Value → Prop} (h : ARe W sv tv lv mv R Q fs w) (v : Value) (hv : BytesAt w.heap.size w v R) : ARe W sv tv lv mv R Q (addF fs 7 v) w :=
  ⟨h.below, fun u hu => h.lit6 u (addF_ne hu (by decide)), fun u hu => by
    rcases hu with hu | ⟨_, rfl⟩
    · exact h.row7 u hu
    · exact hv, fun u hu => h.lit11 u (addF_ne hu (by decide)), fun u hu => h.row12 u (addF_ne hu (by decide)), fun u hu => by
    obtain ⟨x, hx⟩ := h.need u (addF_ne hu (by decide))
    exact ⟨x, .inl hx⟩⟩
theorem ARe.put11 {W w : World} {sv tv lv mv : Value} {R : Bs} {Q : List RecT} {fs : Nat → Value → Prop} (h : ARe W sv tv lv mv R Q fs w) (v : Value) (hv : Lit2 w v lv mv) : ARe W sv tv lv mv R Q (addF fs 11 v) w :=
  ⟨h.below, fun u hu => h.lit6 u (addF_ne hu (by decide)), fun u hu => h.row7 u (addF_ne hu (by decide)), fun u hu => by
    rcases hu with hu | ⟨_, rfl⟩
    · exact h.lit11 u hu
    · exact hv, fun u hu => h.row12 u (addF_ne hu (by decide)), fun u hu => by
    obtain ⟨x, hx⟩ := h.need u (addF_ne hu (by decide))
    exact ⟨x, .inl hx⟩⟩
theorem ARe.put12 {W w : World} {sv tv lv mv : Value} {R : Bs} {Q : List RecT} {fs : Nat → Value → Prop} (h : ARe W sv tv lv mv R Q fs w) (v : Value) (hv : RecsAt w.heap.size w v Q) (hn : ∃ u, fs 11 u) : ARe W sv tv lv mv R Q (addF fs 12 v) w :=
  ⟨h.below, fun u hu => h.lit6 u (addF_ne hu (by decide)), fun u hu => h.row7 u (addF_ne hu (by decide)), fun u hu => h.lit11 u (addF_ne hu (by decide)), fun u hu => by
    rcases hu with hu | ⟨_, rfl⟩
    · exact h.row12 u hu
    · exact hv, fun u hu => by
    obtain ⟨x, hx⟩ := hn
    exact ⟨x, .inl hx⟩⟩
/-- What stands in the region: the store waits for all else. -/
def JRe (bo : Nat) (W : World) (sv tv lv mv : Value) (R : Bs) (Q : List RecT) (fs : Nat → Value → Prop) (w : World) : Prop :=
  ((∀ u, ¬ fs 13 u) ∧ ARe W sv tv lv mv R Q fs w) ∨ ((∃ u, fs 13 u) ∧ (∃ u, fs 6 u) ∧ (∃ u, fs 7 u) ∧ (∃ u, fs 11 u) ∧ (∃ u, fs 12 u) ∧ ∃ w0 u7, w = (w0.setCell ⟨bo, 0, none⟩ u7).setCell ⟨bo, 1, none⟩ (.slice none 0 0) ∧ BytesAt w0.heap.size w0 u7 R ∧ ARe W sv tv lv mv R Q (fun k u => k ≠ 13 ∧ fs k u) w0)
theorem JRe.start (bo : Nat) (W : World) (sv tv lv mv : Value) (R : Bs) (Q : List RecT) : JRe bo W sv tv lv mv R Q (fun _ _ => False) W.drew :=
  .inl ⟨fun _ h => h, (Below.refl _ _).drew, fun _ h => h.elim, fun _ h => h.elim, fun _ h => h.elim, fun _ h => h.elim, fun _ h => h.elim⟩
/-- Ahead of a writer other than the store. -/
theorem JRe.ahead {bo : Nat} {W w : World} {sv tv lv mv : Value} {R : Bs} {Q : List RecT} {fs : Nat → Value → Prop} (h : JRe bo W sv tv lv mv R Q fs w) {k : Nat} (hk : k = 6 ∨ k = 7 ∨ k = 11 ∨ k = 12) (hno : ∀ v, ¬ fs k v) : (∀ u, ¬ fs 13 u) ∧ ARe W sv tv lv mv R Q fs w := by
  rcases h with h | ⟨_, ⟨a, ha⟩, ⟨b, hb⟩, ⟨c, hc⟩, ⟨d, hd⟩, _⟩
  · exact h
  · rcases hk with rfl | rfl | rfl | rfl
    · exact absurd ha (hno _)
    · exact absurd hb (hno _)
    · exact absurd hc (hno _)
    · exact absurd hd (hno _)
theorem JRe.of {bo : Nat} {W w : World} {sv tv lv mv : Value} {R : Bs} {Q : List RecT} {fs : Nat → Value → Prop} {k : Nat} {v : Value} (h13 : ∀ u, ¬ fs 13 u) (hk : k ≠ 13) (h : ARe W sv tv lv mv R Q (addF fs k v) w) : JRe bo W sv tv lv mv R Q (addF fs k v) w :=
  .inl ⟨fun u hu => h13 u (addF_ne hu (Ne.symm hk)), h⟩
theorem JRe.stored {bo : Nat} {W w : World} {sv tv lv mv : Value} {R : Bs} {Q : List RecT} {fs : Nat → Value → Prop} {u6 u7 u12 : Value} (h : JRe bo W sv tv lv mv R Q fs w) (hno : ∀ v, ¬ fs 13 v) (h6 : fs 6 u6) (h7 : fs 7 u7) (h12 : fs 12 u12) : Below W.heap.size W w ∧ JRe bo W sv tv lv mv R Q (addF fs 13 undef) ((w.setCell ⟨bo, 0, none⟩ u7).setCell ⟨bo, 1, none⟩ (.slice none 0 0)) := by
  rcases h with ⟨_, h⟩ | ⟨⟨x, hx⟩, _⟩
  · refine ⟨h.below, .inr ⟨⟨_, .inr ⟨rfl, rfl⟩⟩, ⟨_, .inl h6⟩, ⟨_, .inl h7⟩, ?_, ⟨_, .inl h12⟩, w, u7, rfl, h.row7 u7 h7, ?_⟩⟩
    · obtain ⟨x, hx⟩ := h.need _ h12
      exact ⟨x, .inl hx⟩
    · have hs : ∀ {k u}, k ≠ 13 ∧ addF fs 13 undef k u → fs k u := fun ⟨h1, h2⟩ => addF_ne h2 h1
      refine ⟨h.below, fun u hu => h.lit6 u (hs hu), fun u hu => h.row7 u (hs hu), fun u hu => h.lit11 u (hs hu), fun u hu => h.row12 u (hs hu), fun u hu => ?_⟩
      obtain ⟨x, hx⟩ := h.need u (hs hu)
      exact ⟨x, by decide, .inl hx⟩
  · exact absurd hx (hno _)
/-- Behind the region. -/
theorem JRe.done {bo : Nat} {W w : World} {sv tv lv mv : Value} {R : Bs} {Q : List RecT} {fs : Nat → Value → Prop} {u12 u13 : Value} (h : JRe bo W sv tv lv mv R Q fs w) (h12 : fs 12 u12) (h13 : fs 13 u13) {a b : Option Addr} {n c m d : Nat} {T : TypeId} (hbo : W.heap[bo]? = some (.cells #[.slice a n c, .slice b m d] T (0, 0))) : ∃ u7, w.heap[bo]? = some (.cells #[u7, .slice none 0 0] T (0, 0)) ∧ DiskAt w.heap.size w (.agg #[u7, .slice none 0 0]) (R, []) ∧ RecsAt w.heap.size w u12 Q ∧ ∀ L, L ≤ bo → L ≤ W.heap.size → Below L W w := by
  rcases h with ⟨h, _⟩ | ⟨_, _, _, _, _, w0, u7, rfl, hu, hA⟩
  · exact absurd h13 (h _)
  · have hb0 : w0.heap[bo]? = some (.cells #[.slice a n c, .slice b m d] T (0, 0)) := (hA.below.block bo (lt_of_block hbo)).trans hbo
    have hk : KeepX bo w0 ((w0.setCell ⟨bo, 0, none⟩ u7).setCell ⟨bo, 1, none⟩ (.slice none 0 0)) := fun g hg => (Below.heap_setCell _ _ _ _ hg).trans (Below.heap_setCell _ _ _ _ hg)
    have hn : NoInts w0 bo := NoInts.of hb0
    have hsz : ((w0.setCell ⟨bo, 0, none⟩ u7).setCell ⟨bo, 1, none⟩ (.slice none 0 0)).heap.size = w0.heap.size := by simp
    refine ⟨u7, ?_, ?_, ?_, fun L h1 h2 => ?_⟩
    · rw [row_setCell (row_setCell hb0)]
      rfl
    · rw [hsz]
      exact ⟨_, _, rfl, hu.box hk hn, none, 0, rfl, Nat.le_refl _, Nat.zero_le _, fun i b hb => by simp at hb⟩
    · rw [hsz]
      exact (hA.row12 u12 ⟨by decide, h12⟩).box hk hn
    · exact ((hA.below.mono h2).setCell (p := ⟨bo, 0, none⟩) h1 _).setCell (p := ⟨bo, 1, none⟩) h1 _
theorem JRe.cells {bo bd : Nat} {W w : World} {sv tv lv mv : Value} {R : Bs} {Q : List RecT} {fs : Nat → Value → Prop} (h : JRe bo W sv tv lv mv R Q fs w) {x0 x1 : Value} {T : TypeId} {fr : Nat × Nat} (hbd : W.heap[bd]? = some (.cells #[x0, x1] T fr)) (hne : bd ≠ bo) : w.heap[bd]? = some (.cells #[x0, x1] T fr) := by
  rcases h with ⟨_, h⟩ | ⟨_, _, _, _, _, w0, u7, rfl, hu, hA⟩
  · exact (h.below.block bd (lt_of_block hbd)).trans hbd
  · exact ((Below.heap_setCell _ _ _ _ hne).trans (Below.heap_setCell _ _ _ _ hne)).trans ((hA.below.block bd (lt_of_block hbd)).trans hbd)
end Go.Proofs.YtdfcfinjoghipacGreatDoor
end
section
/- The counterpart's Recovered. -/
set_option linter.all false
set_option maxRecDepth 100000
namespace Go.Proofs.YtdfcfinjoghipacGreatDoor
open Go.RowKit Go.Maps

def SRe (n q : Nat) (k : Nat) (v : Value) : Prop := if k = 6 then ∃ g : Nat, v = .slice (some ⟨g, 0, none⟩) 2 2 else if k = 7 then ∃ a c, v = .slice a n c else if k = 11 then ∃ g : Nat, v = .slice (some ⟨g, 0, none⟩) 2 2 else if k = 12 then ∃ a c, v = .slice a q c else True
theorem sRe_some (n q : Nat) (k : Nat) : ∃ v, SRe n q k v := by
  unfold SRe
  split
  · exact ⟨_, 0, rfl⟩
  · split
    · exact ⟨_, none, 0, rfl⟩
    · split
      · exact ⟨_, 0, rfl⟩
      · split
        · exact ⟨_, none, 0, rfl⟩
        · exact ⟨undef, trivial⟩
def RdW (bd : Nat) (sv tv : Value) : Type := { w' : World // w'.cell? ⟨bd, 0, none⟩ = some sv ∧ w'.cell? ⟨bd, 1, none⟩ = some tv }

set_option maxHeartbeats 16000000 in
theorem recovered_any (B : Nat) (v : Value) (d : DiskT) (w : World) (he : EnvT w) (hd : DiskAt B w v d) (hB : B ≤ w.heap.size) (h1 : d.1.length ≤ 60000) (h2 : d.2.length ≤ 60000) :
    Calls Tryz.prog 32 #[v] w fun e w' => ∃ dv lv, e = .returned (.tuple #[dv, lv]) ∧ DiskAt w'.heap.size w' dv (recovB d, []) ∧ RecsAt w'.heap.size w' lv (recovL d) ∧ Below w.heap.size w w' := by
  obtain ⟨sv, tv, rfl, hs, ht⟩ := hd
  obtain ⟨s, t⟩ := d
  simp only [] at hs ht h1 h2
  obtain ⟨W1, hW1⟩ : ∃ W1, W1 = (w.alloc (.cells #[sv, tv] 48)).alloc (.cells #[.slice none 0 0, .slice none 0 0] 48) := ⟨_, rfl⟩
  have hb1 : Below w.heap.size w W1 := by rw [hW1]; exact ((Below.refl _ _).alloc (Nat.le_refl _) _).alloc (by simp) _
  have hs1 : W1.heap.size = w.heap.size + 1 + 1 := by rw [hW1]; simp
  have hR0 : W1.heap[w.heap.size]? = some (.cells #[sv, tv] 48 (0, 0)) := by rw [hW1, Below.heap_alloc _ _ _ (by simp)]; exact heap_made _ _
  have hR1 : W1.heap[w.heap.size + 1]? = some (.cells #[.slice none 0 0, .slice none 0 0] 48 (0, 0)) := by
    have := heap_made (w.alloc (.cells #[sv, tv] 48)) (.cells #[.slice none 0 0, .slice none 0 0] 48)
    rw [World.size_alloc] at this
    rw [hW1]
    exact this
  obtain ⟨L, hL⟩ : ∃ L, L = (linesP 40 s).1 := ⟨_, rfl⟩
  obtain ⟨M, hM⟩ : ∃ M, M = linesP (40 - L.length) t := ⟨_, rfl⟩
  have hL40 : L.length ≤ 40 := by rw [hL]; exact linesP_len _ _
  have hM40 : M.1.length ≤ 40 := by rw [hM]; exact Nat.le_trans (linesP_len _ _) (by omega)
  have hMb : M.2.1 ≤ t.length := by rw [hM]; exact linesP_bytes _ _
  have HB' : Hid (recovB (s, t) = s ++ t.take M.2.1 ∧ recovL (s, t) = L ++ M.1) := by unfold Hid recovB recovL recovM; rw [hM, hL]; exact ⟨rfl, rfl⟩
  have HC1 : Hid _ := bytes_string (hs.later hb1 hB)
  have HC2 : Hid (∀ w', Below W1.heap.size W1 w' → (convert 46 9 tv).run Tryz.prog w' = .ok (.string ⟨t.toArray⟩) w') := fun w' h => bytes_string (ht.later (Below.thenOf hb1 h hb1.size) hB)
  have HL1 : Hid (Calls Tryz.prog 75 #[.string ⟨s.toArray⟩, .int .i64 40] W1 fun e w' => ∃ v, e = .returned (.tuple #[v, .int .i64 (linesP 40 s).2.1, .int .i64 (linesP 40 s).2.2]) ∧ RecsAt w'.heap.size w' v L ∧ Below W1.heap.size W1 w') := by
    have := linesOf_any ⟨s.toArray⟩ (by rw [Lib.size_eq]; simpa using h1) 40 (by omega) W1 (he.later hb1)
    unfold Hid
    rw [hL]
    exact this
  have HL2 : Hid (∀ w', Below W1.heap.size W1 w' → Calls Tryz.prog 75 #[.string ⟨t.toArray⟩, .int .i64 (40 - (L.length : Int))] w' fun e w'' => ∃ v, e = .returned (.tuple #[v, .int .i64 M.2.1, .int .i64 M.2.2]) ∧ RecsAt w''.heap.size w'' v M.1 ∧ Below w'.heap.size w' w'') := fun w' h => by
    have := linesOf_any ⟨t.toArray⟩ (by rw [Lib.size_eq]; simpa using h2) (40 - L.length) (by omega) w' (he.later (Below.thenOf hb1 h hb1.size))
    rw [show ((40 - L.length : Nat) : Int) = 40 - (L.length : Int) by omega] at this
    rw [hM]
    exact this
  have HS : Hid (∀ w', Below W1.heap.size W1 w' → BytesAt B w' sv s ∧ BytesAt B w' tv t) := fun w' h => ⟨hs.later (Below.thenOf hb1 h hb1.size) hB, ht.later (Below.thenOf hb1 h hb1.size) hB⟩
  obtain ⟨ss, hss⟩ : ∃ ss : ByteArray, ss = ⟨s.toArray⟩ := ⟨_, rfl⟩
  obtain ⟨tt, htt⟩ : ∃ tt : ByteArray, tt = ⟨t.toArray⟩ := ⟨_, rfl⟩
  rw [← hss] at HC1 HL1
  rw [← htt] at HC2 HL2
  obtain ⟨a, c, e1, hac, hcm, -⟩ := hs
  obtain ⟨b, c2, e2, hbc, hcm2, -⟩ := ht
  subst e1 e2
  have HW1 : Hid (W1 = _) := hW1
  have HB1 : Hid (Below w.heap.size w W1) := hb1
  obtain ⟨LN, hLN⟩ : ∃ LN, LN = (linesP 40 s).2.1 := ⟨_, rfl⟩
  obtain ⟨LE, hLE⟩ : ∃ LE, LE = (linesP 40 s).2.2 := ⟨_, rfl⟩
  rw [← hLN, ← hLE] at HL1
  have HR0 : Hid _ := hR0
  have HR1 : Hid _ := hR1
  obtain ⟨sn, hsn⟩ : ∃ n, n = s.length := ⟨_, rfl⟩
  obtain ⟨tn, htn⟩ : ∃ n, n = t.length := ⟨_, rfl⟩
  obtain ⟨ln, hln⟩ : ∃ n, n = L.length := ⟨_, rfl⟩
  obtain ⟨mn, hmn⟩ : ∃ n, n = M.1.length := ⟨_, rfl⟩
  obtain ⟨mb, hmb⟩ : ∃ n, n = M.2.1 := ⟨_, rfl⟩
  obtain ⟨me, hme⟩ : ∃ n, n = M.2.2 := ⟨_, rfl⟩
  obtain ⟨MR, hMR⟩ : ∃ n, n = M.1 := ⟨_, rfl⟩
  have HN : Hid (s.length = sn ∧ t.length = tn ∧ L.length = ln ∧ MR.length = mn) := ⟨hsn.symm, htn.symm, hln.symm, by rw [hMR]; exact hmn.symm⟩
  rw [← hmn] at hM40
  rw [← hmb, ← htn] at hMb
  rw [← hmb, ← hMR] at HB'
  rw [← hmb, ← hme, ← hMR] at HL2
  rw [← hln] at hL40 HL2
  rw [← hsn] at h1 hac HC1 HS HW1 HR0 ⊢
  rw [← htn] at h2 hbc HC2 HS HW1 HR0 ⊢
  have hwr : IntKind.i64.wrap (40 - (ln : Int)) = 40 - (ln : Int) := by
    exact IntWalk.i64_in (40 - (ln : Int)) (by omega)
  clear hL hM hLN hLE hss htt hsn htn hln hmn hmb hme hMR hR0 hR1 hb1 hW1 he
  rw [maxLen_eq] at hcm hcm2
  go_enter Tryz.func32, Tryz.ntmps32
  go_wp2_with fail
  rw [← HW1.out, HC1.out]
  go_wp2_with fail
  go_at_call 75
  refine Calls.mono HL1.out ?_
  rintro e w1 ⟨lv, rfl, hl1, hb1⟩
  obtain ⟨la, lc, el, -, -, -⟩ := id hl1
  rw [HN.out.2.2.1] at el
  subst el
  have y0 : w1.cell? ⟨w.heap.size, 0, none⟩ = some (.slice a sn c) := heap_cell ((hb1.block _ (by omega)).trans HR0.out) 0 rfl
  have y1 : w1.cell? ⟨w.heap.size, 1, none⟩ = some (.slice b tn c2) := heap_cell ((hb1.block _ (by omega)).trans HR0.out) 1 rfl
  have HC2' : Hid _ := HC2.out w1 hb1
  have HL2' : Hid _ := HL2.out w1 hb1
  have Hl1 : Hid (RecsAt w1.heap.size w1 (.slice la ln lc) L) := hl1
  have Hb1 : Hid (Below W1.heap.size W1 w1) := hb1
  clear hl1 hb1 HC2 HL2 HL1 HC1
  go_wp2_with fail
  rw [HC2'.out]
  go_wp2_with fail
  go_at_call 75
  refine Calls.mono HL2'.out ?_
  rintro e w2 ⟨mv, rfl, hl2, hb2⟩
  obtain ⟨ma, mc, em, -, -, -⟩ := id hl2
  rw [HN.out.2.2.2] at em
  subst em
  have hbW : Below W1.heap.size W1 w2 := Below.thenOf Hb1.out hb2 Hb1.out.size
  have HbW : Hid (Below W1.heap.size W1 w2) := hbW
  have hsW : w.heap.size + 1 < w2.heap.size := by have := hbW.size; omega
  have HQ0 : Hid (w2.heap[w.heap.size]? = some (.cells #[.slice a sn c, .slice b tn c2] 48 (0, 0))) := (hbW.block _ (by omega)).trans HR0.out
  have HQ1 : Hid (w2.heap[w.heap.size + 1]? = some (.cells #[.slice none 0 0, .slice none 0 0] 48 (0, 0))) := (hbW.block _ (by omega)).trans HR1.out
  obtain ⟨RB, hRB⟩ : ∃ RB, RB = s ++ t.take mb := ⟨_, rfl⟩
  obtain ⟨RQ, hRQ⟩ : ∃ RQ, RQ = L ++ MR := ⟨_, rfl⟩
  have HCB : Hid (∀ g w', (∃ T fr, w'.heap[g]? = some (.cells #[.slice a sn c, .slice b mb c2] T fr)) → Below w2.heap.size w2 w' → Calls Tryz.prog 78 #[.slice (some ⟨g, 0, none⟩) 2 2] w' fun e w'' => ∃ v, e = .returned v ∧ BytesAt w''.heap.size w'' v RB ∧ Below w'.heap.size w' w'') := by
    rintro g w' ⟨T, fr, hg⟩ hb
    obtain ⟨b0, b1⟩ := HS.out w' (Below.thenOf hbW hb hbW.size)
    have hsz := hb.size
    refine (concatB_any B _ _ s (t.take mb) g w' b0 (b1.take mb (by rw [HN.out.2.1]; exact hMb)) (by omega) (lt_of_block hg) (heap_cell hg 0 rfl) (heap_cell hg 1 rfl) (by rw [List.length_take, HN.out.1]; omega)).mono ?_
    rintro e w'' ⟨v, rfl, ho, hb'⟩
    exact ⟨v, rfl, by rw [hRB]; exact bytesAt_own ho, hb'⟩
  have HCQ : Hid (∀ g w', (∃ T fr, w'.heap[g]? = some (.cells #[.slice la ln lc, .slice ma mn mc] T fr)) → Below w2.heap.size w2 w' → Calls Tryz.prog 36 #[.slice (some ⟨g, 0, none⟩) 2 2] w' fun e w'' => ∃ v, e = .returned v ∧ RecsAt w''.heap.size w'' v RQ ∧ Below w'.heap.size w' w'') := by
    rintro g w' ⟨T, fr, hg⟩ hb
    have r0 := (((Hl1.out.later hb2 (Nat.le_refl _)).wide hb2.size).later hb (Nat.le_refl _)).conds
    have r1 := (hl2.later hb (Nat.le_refl _)).conds
    refine (concatQ_any w2.heap.size _ _ L MR g w' r0 r1 hb.size (lt_of_block hg) (heap_cell hg 0 rfl) (heap_cell hg 1 rfl) (by rw [HN.out.2.2.1, HN.out.2.2.2]; omega)).mono ?_
    rintro e w'' ⟨v, rfl, xs, ho, hx, hb'⟩
    exact ⟨v, rfl, by rw [hRQ]; exact recsAtQ_own ho hx (Nat.le_trans hb.size hb'.size), hb'⟩
  have HRes : Hid (recovB (s, t) = RB ∧ recovL (s, t) = RQ) := by unfold Hid; rw [HB'.out.1, HB'.out.2, hRB, hRQ]; exact ⟨rfl, rfl⟩
  obtain ⟨nB, hnB⟩ : ∃ n, n = RB.length := ⟨_, rfl⟩
  obtain ⟨nQ, hnQ⟩ : ∃ n, n = RQ.length := ⟨_, rfl⟩
  have HnB : Hid (RB.length = nB ∧ RQ.length = nQ) := ⟨hnB.symm, hnQ.symm⟩
  have HFin : Hid (Below w.heap.size w w2) := Below.thenOf HB1.out hbW HB1.out.size
  clear hl2 hb2 hbW hRB hRQ hnB hnQ y0 y1 HC2' HL2' Hl1 Hb1 HbW HN HB' HS HB1 HW1 HR0 HR1
  go_wp2_with fail
  have q0 : ∀ z : RdW w.heap.size (.slice a sn c) (.slice b tn c2), z.1.cell? ⟨w.heap.size, 0, none⟩ = some (.slice a sn c) := fun z => z.2.1
  have q1 : ∀ z : RdW w.heap.size (.slice a sn c) (.slice b tn c2), z.1.cell? ⟨w.heap.size, 1, none⟩ = some (.slice b tn c2) := fun z => z.2.2
  have hne : Nonempty (RdW w.heap.size (.slice a sn c) (.slice b tn c2)) := ⟨⟨w2, heap_cell HQ0.out 0 rfl, heap_cell HQ0.out 1 rfl⟩⟩
  have hDJ : Hid (∀ fs w', JRe (w.heap.size + 1) w2 (.slice a sn c) (.slice b mb c2) (.slice la ln lc) (.slice ma mn mc) RB RQ fs w' → ∃ z : RdW w.heap.size (.slice a sn c) (.slice b tn c2), w' = z.1) := fun fs w' h => ⟨⟨w', heap_cell (h.cells HQ0.out (by omega)) 0 rfl, heap_cell (h.cells HQ0.out (by omega)) 1 rfl⟩, rfl⟩
  refine wp_region_free [_, _, _, _, _, _, _, _, _, _, _, _, _, _] _ rfl (fun k => k == 6 || k == 7 || k == 11 || k == 12 || k == 13) (JRe (w.heap.size + 1) w2 (.slice a sn c) (.slice b mb c2) (.slice la ln lc) (.slice ma mn mc) RB RQ) (SRe nB nQ) (sRe_some _ _) (by kernel_rfl) (by kernel_rfl) (JRe.start _ _ _ _ _ _ _ _) ?_
  iterate 6 (refine wpG_read hDJ.out rfl rfl ?_; go_big_quiet_step (fail); refine wpQuiet_nil ?_)
  refine wpG_write rfl rfl (fun gs w' hJ hdep hno => ⟨.slice (some ⟨w'.heap.size, 0, none⟩) 2 2, w'.alloc (.cells #[.slice a sn c, .slice b mb c2] 46), ?_, ⟨_, rfl⟩, JRe.of (hJ.ahead (.inl rfl) hno).1 (by decide) (((hJ.ahead (.inl rfl) hno).2.later ((Below.refl w'.heap.size w').alloc (Nat.le_refl _) _)).put6 _ ⟨_, _, _, rfl, heap_made w' _⟩)⟩) (fun v6 hv6 => ?_)
  · clear hJ hdep hno q0 q1 hDJ hne
    go_simp
  simp only [Act.put, List.setIfInBounds_toArray, List.set_cons_succ, List.set_cons_zero]
  obtain ⟨g6, rfl⟩ : ∃ g : Nat, v6 = .slice (some ⟨g, 0, none⟩) 2 2 := hv6
  refine wpG_call 78 #[.slice (some ⟨g6, 0, none⟩) 2 2] rfl rfl (fun w' => by kernel_rfl) (fun gs w' hJ hdep hno => ?_) (fun v7 hv7 => ?_)
  · have h6 := hdep 6 _ (.inr ⟨rfl, rfl⟩) (waitsB_spec (by kernel_rfl))
    obtain ⟨h13, hA⟩ := hJ.ahead (.inr (.inl rfl)) hno
    obtain ⟨g, T0, fr, e, hbl⟩ := hA.lit6 _ h6
    simp at e
    subst e
    refine (HCB.out g6 w' ⟨T0, fr, hbl⟩ hA.below).mono ?_
    rintro e w3 ⟨u, rfl, ho, hb⟩
    obtain ⟨a', c', e7, -, -, -⟩ := id ho
    rw [HnB.out.1] at e7
    exact ⟨_, rfl, ⟨a', c', e7⟩, JRe.of h13 (by decide) ((hA.later hb).put7 _ ho)⟩
  simp only [Act.put, List.setIfInBounds_toArray, List.set_cons_succ, List.set_cons_zero]
  obtain ⟨a7, c7, rfl⟩ : ∃ a cap, v7 = .slice a nB cap := hv7
  iterate 3 (refine wpG_read hDJ.out rfl rfl ?_; go_big_quiet_step (fail); refine wpQuiet_nil ?_)
  refine wpG_write rfl rfl (fun gs w' hJ hdep hno => ⟨.slice (some ⟨w'.heap.size, 0, none⟩) 2 2, w'.alloc (.cells #[.slice la ln lc, .slice ma mn mc] 53), ?_, ⟨_, rfl⟩, JRe.of (hJ.ahead (.inr (.inr (.inl rfl))) hno).1 (by decide) (((hJ.ahead (.inr (.inr (.inl rfl))) hno).2.later ((Below.refl w'.heap.size w').alloc (Nat.le_refl _) _)).put11 _ ⟨_, _, _, rfl, heap_made w' _⟩)⟩) (fun v11 hv11 => ?_)
  · clear hJ hdep hno q0 q1 hDJ hne
    go_simp
  simp only [Act.put, List.setIfInBounds_toArray, List.set_cons_succ, List.set_cons_zero]
  obtain ⟨g11, rfl⟩ : ∃ g : Nat, v11 = .slice (some ⟨g, 0, none⟩) 2 2 := hv11
  refine wpG_call 36 #[.slice (some ⟨g11, 0, none⟩) 2 2] rfl rfl (fun w' => by kernel_rfl) (fun gs w' hJ hdep hno => ?_) (fun v12 hv12 => ?_)
  · have h11 := hdep 11 _ (.inr ⟨rfl, rfl⟩) (waitsB_spec (by kernel_rfl))
    obtain ⟨h13, hA⟩ := hJ.ahead (.inr (.inr (.inr rfl))) hno
    obtain ⟨g, T0, fr, e, hbl⟩ := hA.lit11 _ h11
    simp at e
    subst e
    refine (HCQ.out g11 w' ⟨T0, fr, hbl⟩ hA.below).mono ?_
    rintro e w3 ⟨u, rfl, ho, hb⟩
    obtain ⟨a', c', e7, -, -, -⟩ := id ho
    rw [HnB.out.2] at e7
    exact ⟨_, rfl, ⟨a', c', e7⟩, JRe.of h13 (by decide) ((hA.later hb).put12 _ ho ⟨_, h11⟩)⟩
  simp only [Act.put, List.setIfInBounds_toArray, List.set_cons_succ, List.set_cons_zero]
  obtain ⟨a12, c12, rfl⟩ : ∃ a cap, v12 = .slice a nQ cap := hv12
  refine wpG_store rfl rfl (fun gs w' hJ hdep hno => ?_) (fun v13 hv13 => ?_)
  · have h6 := hdep 6 _ (.inl (.inl (.inl (.inr ⟨rfl, rfl⟩)))) (waitsB_spec (by kernel_rfl))
    have h7 := hdep 7 _ (.inl (.inl (.inr ⟨rfl, rfl⟩))) (waitsB_spec (by kernel_rfl))
    have h12 := hdep 12 _ (.inr ⟨rfl, rfl⟩) (waitsB_spec (by kernel_rfl))
    obtain ⟨hbe, hst⟩ := hJ.stored hno h6 h7 h12
    have hbx := (hbe.block _ hsW).trans HQ1.out
    have z0 := heap_cell hbx 0 rfl
    have z1 := heap_cell hbx 1 rfl
    have f0 : w'.frozen? ⟨w.heap.size + 1, 0, none⟩ = false := by simp [World.frozen?, hbx]
    have f1 : w'.frozen? ⟨w.heap.size + 1, 1, none⟩ = false := by simp [World.frozen?, hbx]
    refine ⟨(w'.setCell ⟨w.heap.size + 1, 0, none⟩ (.slice a7 nB c7)).setCell ⟨w.heap.size + 1, 1, none⟩ (.slice none 0 0), ?_, by simp [SRe], hst⟩
    clear hJ hdep hno q0 q1 hDJ hne h6 h7 h12 hbe hst hbx
    go_simp
  simp only [Act.put, List.setIfInBounds_toArray, List.set_cons_succ, List.set_cons_zero]
  refine wpG_nil ?_
  intro w4 hJ
  obtain ⟨u7, hbo4, hD, hQ, hbl⟩ := hJ.done (.inl (.inr ⟨rfl, rfl⟩)) (.inr ⟨rfl, rfl⟩) HQ1.out
  have y0 : w4.cell? ⟨w.heap.size + 1, 0, none⟩ = some u7 := heap_cell hbo4 0 rfl
  have y1 : w4.cell? ⟨w.heap.size + 1, 1, none⟩ = some (.slice none 0 0) := heap_cell hbo4 1 rfl
  have HE : Hid (DiskAt w4.heap.size w4 (.agg #[u7, .slice none 0 0]) (recovB (s, t), []) ∧ RecsAt w4.heap.size w4 (.slice a12 nQ c12) (recovL (s, t)) ∧ Below w.heap.size w w4) := ⟨by rw [HRes.out.1]; exact hD, by rw [HRes.out.2]; exact hQ, Below.trans HFin.out (hbl _ (by omega) (by omega))⟩
  obtain ⟨ua, uc, eu, -, -, -⟩ : ∃ ua uc, u7 = .slice ua RB.length uc ∧ True ∧ True ∧ True := by
    obtain ⟨x, y, e, ⟨ua, uc, e', -, -, -⟩, -⟩ := hD
    simp at e
    exact ⟨ua, uc, by rw [e.1]; exact e', trivial, trivial, trivial⟩
  subst eu
  clear hJ hbo4 hD hQ hbl q0 q1 hDJ hne HCB HCQ HRes HFin HQ0 HQ1
  go_wp2_with fail
  refine bodyPost_ret (v := .tuple #[.agg #[.slice ua RB.length uc, .slice none 0 0], .slice a12 nQ c12]) ?_ rfl ⟨_, _, rfl, HE.out⟩
  rw [results_cell_tmp rfl]
  go_simp
end Go.Proofs.YtdfcfinjoghipacGreatDoor
end
