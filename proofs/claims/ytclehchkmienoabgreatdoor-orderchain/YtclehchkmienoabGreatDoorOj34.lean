/- ordered: the closed fact that every statement on the order asks first. -/
import Derived.Test.YtclehchkmienoabGreatDoorOj32
import Derived.Test.YtclehchkmienoabGreatDoorOj11
import Derived.Test.YtclehchkmienoabGreatDoorOj33
import Derived.Test.YtclehchkmienoabGreatDoorOj19
import Derived.Test.YtclehchkmienoabGreatDoorOj22
set_option linter.all false
set_option maxRecDepth 100000
namespace Go.Proofs.YtclehchkmienoabGreatDoor
open Go.RowKit Go.Maps

def looseRs : List RuleT := [([(0, 1, 3), (2, 3, 5)], 1), ([(1, 2, 0)], 3)]
def looseP : PolT := (looseRs, 4)
theorem loose_made : looserP looseP madeP = some [3, 0, 0, 0, 0] ∧ pointsE [looseP, madeP] = 0 := by decide +kernel
theorem made_loose : looserP madeP looseP = none ∧ pointsE [madeP, looseP] = 0 := by decide +kernel
theorem made_alike : alikeB madeP madeP = true ∧ pointsE [madeP, madeP] = 0 := by decide +kernel

/-- What stands in a region that makes the policy (operation km), asks (2, handed on by 3 and 5), makes a box (7) and lays the call in it (9). -/
structure JOr (km : Nat) (W : World) (y : Nat → Int) (fs : Nat → Value → Prop) (w : World) : Prop where
  bel : Below W.heap.size W w
  pol : ∀ u, fs km u → (∀ v, ¬ fs 9 v) → ∃ Bq, Bq ≤ w.heap.size ∧ PolAt Bq w u madeP
  chain : (∀ u, fs 9 u → ∃ x, fs 5 x) ∧ (∀ u, fs 5 u → ∃ x, fs 3 x) ∧ (∀ u, fs 3 u → ∃ x, fs 2 x)
  aft : ∀ u, fs 9 u → ∃ x, fs 7 x
  one : ∀ u u', fs 7 u → fs 7 u' → u = u'
  box : ∀ u, fs 7 u → ∃ b z, u = .pointer (some ⟨b, 0, none⟩) ∧ W.heap.size ≤ b ∧ w.heap[b]? = some (.cells (cellsX z) 29 (0, 0)) ∧ ((∃ v, fs 9 v) → z = y)
theorem JOr.start (km : Nat) (W : World) (y : Nat → Int) : JOr km W y (fun _ _ => False) W.drew := ⟨(Below.refl _ _).drew, fun _ h => h.elim, ⟨fun _ h => h.elim, fun _ h => h.elim, fun _ h => h.elim⟩, fun _ h => h.elim, fun _ _ h => h.elim, fun _ h => h.elim⟩
section
variable {km : Nat} {W w w' : World} {y : Nat → Int} {fs : Nat → Value → Prop}
theorem orOld {i k : Nat} {v u : Value} (hk : k ≠ i) (hu : addF fs i v k u) : fs k u := by
  rcases hu with hu | ⟨e, _⟩
  · exact hu
  · exact absurd e hk
theorem JOr.none9 (h : JOr km W y fs w) (hno : ∀ v, ¬ fs 2 v) : ∀ v, ¬ fs 9 v := fun v hv => by
  obtain ⟨a, ha⟩ := h.chain.1 v hv
  obtain ⟨b, hb⟩ := h.chain.2.1 a ha
  obtain ⟨c, hc⟩ := h.chain.2.2 b hb
  exact hno c hc
theorem JOr.more_chain (h : JOr km W y fs w) (k : Nat) (u : Value) (h9 : 9 ≠ k) (h5 : k = 5 → ∃ x, fs 3 x) (h3 : k = 3 → ∃ x, fs 2 x) : (∀ v, addF fs k u 9 v → ∃ x, addF fs k u 5 x) ∧ (∀ v, addF fs k u 5 v → ∃ x, addF fs k u 3 x) ∧ (∀ v, addF fs k u 3 v → ∃ x, addF fs k u 2 x) := by
  refine ⟨fun v hv => ?_, fun v hv => ?_, fun v hv => ?_⟩
  · obtain ⟨x, hx⟩ := h.chain.1 v (orOld h9 hv)
    exact ⟨x, .inl hx⟩
  · rcases hv with hv | ⟨e, _⟩
    · obtain ⟨x, hx⟩ := h.chain.2.1 v hv
      exact ⟨x, .inl hx⟩
    · obtain ⟨x, hx⟩ := h5 e.symm
      exact ⟨x, .inl hx⟩
  · rcases hv with hv | ⟨e, _⟩
    · obtain ⟨x, hx⟩ := h.chain.2.2 v hv
      exact ⟨x, .inl hx⟩
    · obtain ⟨x, hx⟩ := h3 e.symm
      exact ⟨x, .inl hx⟩
/-- An operation that makes memory of its own at most. -/
theorem JOr.call (h : JOr km W y fs w) (hb : Below w.heap.size w w') (k : Nat) (u : Value) (h7 : 7 ≠ k) (h9 : 9 ≠ k) (h5 : k = 5 → ∃ x, fs 3 x) (h3 : k = 3 → ∃ x, fs 2 x) (hu : k = km → PolAt w'.heap.size w' u madeP) : JOr km W y (addF fs k u) w' := by
  refine ⟨Below.thenOf h.bel hb h.bel.size, fun v hv hn => ?_, h.more_chain k u h9 h5 h3, fun v hv => (h.aft v (orOld h9 hv)).imp fun _ hx => .inl hx, fun v v' hv hv' => h.one v v' (orOld h7 hv) (orOld h7 hv'), fun v hv => ?_⟩
  · rcases hv with hv | ⟨e, rfl⟩
    · obtain ⟨Bq, q1, q2⟩ := h.pol v hv fun x hx => hn x (.inl hx)
      exact ⟨Bq, Nat.le_trans q1 hb.size, q2.later hb q1⟩
    · exact ⟨_, Nat.le_refl _, hu e.symm⟩
  · obtain ⟨b, z, e1, e2, e3, e4⟩ := h.box v (orOld h7 hv)
    refine ⟨b, z, e1, e2, (hb.block b (lt_of_block e3)).trans e3, fun hx => e4 ?_⟩
    obtain ⟨x, hx⟩ := hx
    exact ⟨x, orOld h9 hx⟩
/-- The box is made. -/
theorem JOr.boxed (h : JOr km W y fs w) (hkm : 7 ≠ km) (hno : ∀ v, ¬ fs 7 v) : JOr km W y (addF fs 7 (.pointer (some ⟨w.heap.size, 0, none⟩))) (w.alloc (.cells #[.int .i64 0, .int .i64 0, .int .i64 0, .int .i64 0, .int .i64 0] 29)) := by
  have hb : Below w.heap.size w (w.alloc (.cells #[.int .i64 0, .int .i64 0, .int .i64 0, .int .i64 0, .int .i64 0] 29)) := (Below.refl _ _).alloc (Nat.le_refl _) _
  have hno9 : ∀ v, ¬ fs 9 v := fun v hv => by
    obtain ⟨u, hu⟩ := h.aft v hv
    exact hno u hu
  refine ⟨Below.thenOf h.bel hb h.bel.size, fun v hv hn => ?_, h.more_chain 7 _ (by decide) (fun e => absurd e (by decide)) (fun e => absurd e (by decide)), fun v hv => absurd (orOld (by decide) hv) (hno9 v), fun v v' hv hv' => ?_, fun v hv => ?_⟩
  · obtain ⟨Bq, q1, q2⟩ := h.pol v (orOld (fun e => hkm e.symm) hv) hno9
    exact ⟨Bq, Nat.le_trans q1 hb.size, q2.later hb q1⟩
  · rcases hv with hv | ⟨_, rfl⟩
    · exact absurd hv (hno v)
    · rcases hv' with hv' | ⟨_, rfl⟩
      · exact absurd hv' (hno v')
      · rfl
  · rcases hv with hv | ⟨_, rfl⟩
    · exact absurd hv (hno v)
    · refine ⟨w.heap.size, fun _ => 0, rfl, h.bel.size, heap_made _ _, fun hx => ?_⟩
      obtain ⟨x, hx⟩ := hx
      exact absurd (orOld (by decide) hx) (hno9 x)
/-- The call is laid in it. -/
theorem JOr.put {b : Nat} {z : Nat → Int} {v9 x5 : Value} (h : JOr km W y fs w) (h5 : fs 5 x5) (h7 : fs 7 (.pointer (some ⟨b, 0, none⟩))) (hb : w.heap[b]? = some (.cells (cellsX z) 29 (0, 0))) (hW : W.heap.size ≤ b) :
    JOr km W y (addF fs 9 v9) (((((w.setCell ⟨b, 0, none⟩ (.int .i64 (y 0))).setCell ⟨b, 1, none⟩ (.int .i64 (y 1))).setCell ⟨b, 2, none⟩ (.int .i64 (y 2))).setCell ⟨b, 3, none⟩ (.int .i64 (y 3))).setCell ⟨b, 4, none⟩ (.int .i64 (y 4))) := by
  refine ⟨callBox_below h.bel hW, fun v hv hn => absurd (.inr ⟨rfl, rfl⟩) (hn v9), ⟨fun v hv => ⟨x5, .inl h5⟩, fun v hv => ?_, fun v hv => ?_⟩, fun v hv => ⟨_, .inl h7⟩, fun v v' hv hv' => h.one v v' (orOld (by decide) hv) (orOld (by decide) hv'), fun v hv => ⟨b, y, h.one _ _ (orOld (by decide) hv) h7, hW, callBox hb, fun _ => rfl⟩⟩
  · obtain ⟨x, hx⟩ := h.chain.2.1 v (orOld (by decide) hv)
    exact ⟨x, .inl hx⟩
  · obtain ⟨x, hx⟩ := h.chain.2.2 v (orOld (by decide) hv)
    exact ⟨x, .inl hx⟩
end
def SOr (km : Nat) (T C : Value) (k : Nat) (v : Value) : Prop := if k = km then ∃ a n c, v = .agg #[.slice a n c, .int .i64 4] else if k = 2 then v = T else if k = 3 then v = T else if k = 5 then v = C else if k = 7 then ∃ b : Nat, v = .pointer (some ⟨b, 0, none⟩) else True
theorem sOr_some (km : Nat) (T C : Value) (k : Nat) : ∃ v, SOr km T C k v := by
  unfold SOr
  split
  · exact ⟨_, none, 0, 0, rfl⟩
  · split
    · exact ⟨_, rfl⟩
    · split
      · exact ⟨_, rfl⟩
      · split
        · exact ⟨_, rfl⟩
        · split
          · exact ⟨_, 0, rfl⟩
          · exact ⟨undef, trivial⟩
theorem CondsAt.more {B B' : Nat} {w : World} {v : Value} {cs : List CondT} (h : CondsAt B w v cs) (hB : B ≤ B') : CondsAt B' w v cs := by
  obtain ⟨a, cap, h1, h2, h3, h4⟩ := h
  refine ⟨a, cap, h1, h2, h3, fun i c hc => ?_⟩
  obtain ⟨b, o, e, hl, k⟩ := h4 i c hc
  exact ⟨b, o, e, by omega, k⟩
theorem PolAt.more {B B' : Nat} {w : World} {v : Value} {p : PolT} (h : PolAt B w v p) (hB : B ≤ B') : PolAt B' w v p := by
  obtain ⟨rv, h1, h2, a, cap, h3, h4, h5, h6⟩ := h
  refine ⟨rv, h1, h2, a, cap, h3, h4, h5, fun i r hr => ?_⟩
  obtain ⟨b, o, e, hl, cv, k1, k2, k3, k4⟩ := h6 i r hr
  exact ⟨b, o, e, by omega, cv, k1, k2, k3, k4.more hB⟩
theorem new_shape {L : Nat} {w : World} {pv : Value} (h : PolNew L w pv madeP) : ∃ a n c, pv = .agg #[.slice a n c, .int .i64 4] ∧ PolAt w.heap.size w (.agg #[.slice a n c, .int .i64 4]) madeP := by
  have h' := h.at
  obtain ⟨rv, rfl, hw, a, c, rfl, hr⟩ := h'
  exact ⟨a, _, c, rfl, _, rfl, hw, a, c, rfl, hr⟩

set_option maxHeartbeats 8000000 in
theorem ordered_true (w : World) (he : EnvAt w) :
    Calls Tryz.prog 16 #[] w fun e w' => e = .returned (.bool true) ∧ Below w.heap.size w w' := by
  have he' : Hid (EnvAt w) := he
  clear he
  go_enter Tryz.func16, Tryz.ntmps16
  go_wp2_with fail
  go_at_call 23
  refine Calls.mono (made_any w he'.out) ?_
  rintro e w1 ⟨pv1, rfl, hp1, hb1⟩
  obtain ⟨a1, n1, c1, rfl, hr1⟩ := new_shape hp1
  have hbX : ∀ X, Below w1.heap.size w1 (w1.alloc X) := fun X => (Below.refl _ _).alloc (Nat.le_refl _) _
  have HCl : Hid (∀ X, Calls Tryz.prog 34 #[.slice a1 n1 c1] (w1.alloc X) fun e w' => ∃ v xs, e = .returned v ∧ w'.ownsRow (w1.alloc X).heap.size 68 2 v 2 xs ∧ XsAt w1.heap.size w' xs madeRs ∧ Below (w1.alloc X).heap.size (w1.alloc X) w') := by
    intro X
    obtain ⟨rv, erv, _, hrr⟩ := hr1
    simp at erv
    obtain ⟨rfl, -⟩ := erv
    exact clone_any w1.heap.size _ madeRs _ (hrr.later (hbX X) (Nat.le_refl _)) (by simp) (by decide)
  have HB1 : Hid _ := hb1
  clear hp1 hr1 hbX hb1
  go_wp2_with fail
  go_at_call 34
  refine Calls.mono (HCl.out _) ?_
  rintro e w2 ⟨v2, xs2, rfl, ho2, hx2, hb2⟩
  rcases ho2.2 with ⟨h0, hz⟩ | ⟨g, cap2, cur, rfl, hge, hgc, hnc, hcm, hcs, htk⟩
  · cases hz
  rw [World.size_alloc] at hge
  have hsz2 := hb2.size
  rw [World.size_alloc] at hsz2 hb2
  have hbox : w2.heap[w1.heap.size]? = some (.cells #[.slice a1 n1 c1, .int .i64 4] 38 (0, 0)) := (hb2.block w1.heap.size (by omega)).trans (heap_made _ _)
  obtain ⟨W3, hW3⟩ : ∃ W3, W3 = (w2.setCell ⟨w1.heap.size, 0, none⟩ (.slice (some ⟨g, 0, none⟩) 2 cap2)).setCell ⟨g, 1, none⟩ (.int .i64 1) := ⟨_, rfl⟩
  have hgb : ¬ g = w1.heap.size := by omega
  have hbg : ¬ w1.heap.size = g := by omega
  have hgl := lt_of_block hgc
  obtain ⟨cv0, k0, k1, -, k3⟩ := hx2.2.2 0 ([(0, 1, 3), (2, 3, 5)], 0) rfl
  obtain ⟨cv1, m0, m1, -, m3⟩ := hx2.2.2 1 ([(1, 2, 0)], 3) rfl
  have hcl := ownsRow_cell ho2
  have c0 := hcl _ _ k0
  have c1' := hcl _ _ k1
  have c2 := hcl _ _ m0
  have c3 := hcl _ _ m1
  simp only [Nat.zero_mul, Nat.zero_add, Nat.one_mul, Nat.reduceAdd] at c0 c1' c2 c3
  have hfg : w2.frozen? ⟨g, 1, none⟩ = false := by simp [World.frozen?, hgc]
  have y0 := heap_cell hbox 0 rfl
  have yf : w2.frozen? ⟨w1.heap.size, 0, none⟩ = false := by simp [World.frozen?, hbox]
  have hs1 := HB1.out.size
  have hbW3 : Below w.heap.size w W3 := by
    rw [hW3]
    exact ((Below.thenOf HB1.out ((Below.refl _ _).alloc (Nat.le_refl _) _) hs1 |>.trans (hb2.mono (by omega))).setCell (p := ⟨w1.heap.size, 0, none⟩) hs1 _).setCell (p := ⟨g, 1, none⟩) (by show w.heap.size ≤ g; omega) _
  have hs3 : W3.heap.size = w2.heap.size := by rw [hW3]; simp
  have hb23 : Below w1.heap.size w2 W3 := by
    rw [hW3]
    exact ((Below.refl _ _).setCell (p := ⟨w1.heap.size, 0, none⟩) (Nat.le_refl _) _).setCell (p := ⟨g, 1, none⟩) (by show w1.heap.size ≤ g; omega) _
  have hbox3 : W3.heap[w1.heap.size]? = some (.cells #[.slice (some ⟨g, 0, none⟩) 2 cap2, .int .i64 4] 38 (0, 0)) := by
    rw [hW3, Below.heap_setCell _ _ _ _ hbg, row_setCell hbox]
    rfl
  have hg3 : W3.heap[g]? = some (.cells (cur.setIfInBounds 1 (.int .i64 1)) 68 (0, 0)) := by
    rw [hW3]
    exact row_setCell ((Below.heap_setCell _ _ _ _ hgb).trans hgc)
  have d0 : W3.cell? ⟨g, 0, none⟩ = some cv0 := heap_cell hg3 0 (by simp only [World.cell?, hgc] at c0; simpa using c0)
  have d1 : W3.cell? ⟨g, 1, none⟩ = some (.int .i64 1) := heap_cell hg3 1 (by simp only [World.cell?, hgc] at c1'; have := (Array.getElem?_eq_some_iff.1 c1').1; simp [this])
  have d2 : W3.cell? ⟨g, 2, none⟩ = some cv1 := heap_cell hg3 2 (by simp only [World.cell?, hgc] at c2; simpa using c2)
  have d3 : W3.cell? ⟨g, 3, none⟩ = some (.int .i64 3) := heap_cell hg3 3 (by simp only [World.cell?, hgc] at c3; simpa using c3)
  have hOR : OwnRules w1.heap.size g W3 (.slice (some ⟨g, 0, none⟩) 2 cap2) looseRs := by
    refine ⟨_, cap2, rfl, hnc, hcm, fun i r hr => ⟨rfl, ?_⟩⟩
    match i, hr with
    | 0, hr =>
      cases hr
      exact ⟨cv0, d0, d1, by unfold wf; decide, k3.later hb23 (Nat.le_refl _)⟩
    | 1, hr =>
      cases hr
      exact ⟨cv1, d2, d3, by unfold wf; decide, m3.later hb23 (Nat.le_refl _)⟩
    | i + 2, hr => simp [looseRs] at hr
  have hPL : PolAt W3.heap.size W3 (.agg #[.slice (some ⟨g, 0, none⟩) 2 cap2, .int .i64 4]) looseP := ⟨_, rfl, by unfold wf; decide, hOR.rulesAt (by omega)⟩
  have HLo : Hid (∀ (Bq : Nat) qv w', Below W3.heap.size W3 w' → Bq ≤ w'.heap.size → PolAt Bq w' qv madeP → (Calls Tryz.prog 13 #[.agg #[.slice (some ⟨g, 0, none⟩) 2 cap2, .int .i64 4], qv] w' fun e w'' => e = .returned (.tuple #[.bool true, .agg #[.int .i64 3, .int .i64 0, .int .i64 0, .int .i64 0, .int .i64 0], .int .i64 0]) ∧ Below w'.heap.size w' w'') ∧ (Calls Tryz.prog 13 #[qv, .agg #[.slice (some ⟨g, 0, none⟩) 2 cap2, .int .i64 4]] w' fun e w'' => e = .returned (.tuple #[.bool false, .agg #[.int .i64 0, .int .i64 0, .int .i64 0, .int .i64 0, .int .i64 0], .int .i64 0]) ∧ Below w'.heap.size w' w'')) := by
    intro Bq qv w' hb hq hp
    have hp1 : PolAt w'.heap.size w' qv madeP := hp.more hq
    have hp2 : PolAt w'.heap.size w' (.agg #[.slice (some ⟨g, 0, none⟩) 2 cap2, .int .i64 4]) looseP := (hPL.later hb (Nat.le_refl _)).more hb.size
    have h1 := looserD_any _ _ _ looseP madeP w' hp2 hp1 (Nat.le_refl _)
    have h2 := looserD_any _ _ _ madeP looseP w' hp1 hp2 (Nat.le_refl _)
    have e1 : looserC looseP madeP = ofL [3, 0, 0, 0, 0] := by unfold looserC; rw [loose_made.1]
    have e2 : looserC madeP looseP = fun _ => 0 := by unfold looserC; rw [made_loose.1]
    rw [loose_made.1, loose_made.2, e1] at h1
    rw [made_loose.1, made_loose.2, e2] at h2
    exact ⟨h1, h2⟩
  have HAl : Hid (∀ (Bq : Nat) pv qv w', Bq ≤ w'.heap.size → PolAt Bq w' pv madeP → PolAt Bq w' qv madeP → Calls Tryz.prog 15 #[pv, qv] w' fun e w'' => e = .returned (.tuple #[.bool true, .int .i64 0]) ∧ Below w'.heap.size w' w'') := by
    intro Bq pv qv w' hq hp hp'
    have h1 := alikeD_any _ _ _ madeP madeP w' hp hp' hq
    rw [made_alike.1, made_alike.2] at h1
    exact h1
  have z0 := heap_cell hbox3 0 rfl
  have z1 := heap_cell hbox3 1 rfl
  have hbl3 := lt_of_block hbox3
  have Q0 : Hid (∀ z : Later W3, z.1.cell? ⟨w1.heap.size, 0, none⟩ = some (.slice (some ⟨g, 0, none⟩) 2 cap2)) := fun z => z.cell z0 hbl3
  have Q1 : Hid (∀ z : Later W3, z.1.cell? ⟨w1.heap.size, 1, none⟩ = some (.int .i64 4)) := fun z => z.cell z1 hbl3
  have HW3 : Hid (W3 = _) := hW3
  have HBW : Hid _ := hbW3
  clear hW3 hs3 hb23 hbox3 hg3 d0 d1 d2 d3 hOR hPL z0 z1 hbl3 hbW3 hbox k0 k1 k3 m0 m1 m3 hcl c0 c2 c3 hx2 ho2 hgc htk hcs hsz2 hgl hb2 HCl
  go_wp2_with fail
  rw [← HW3.out]
  have hne4 := Later.ne W3
  have q0 := Q0.out
  have q1 := Q1.out
  have hDJ : Hid (∀ fs w', JOr 1 W3 (fun j => if j = 0 then 3 else 0) fs w' → ∃ z : Later W3, w' = z.1) := fun fs w' h => ⟨⟨w', h.bel⟩, rfl⟩
  refine wp_region_free [_, _, _, _, _, _, _, _, _, _] _ rfl (fun k => k == 1 || k == 2 || k == 3 || k == 5 || k == 7 || k == 9) (JOr 1 W3 (fun j => if j = 0 then 3 else 0)) (SOr 1 (.tuple #[.bool true, .agg #[.int .i64 3, .int .i64 0, .int .i64 0, .int .i64 0, .int .i64 0], .int .i64 0]) (.agg #[.int .i64 3, .int .i64 0, .int .i64 0, .int .i64 0, .int .i64 0])) (sOr_some _ _ _) (by kernel_rfl) (by kernel_rfl) (JOr.start _ _ _) ?_
  refine wpG_read hDJ.out rfl rfl ?_; go_big_quiet_step (fail); refine wpQuiet_nil ?_
  refine wpG_call 23 #[] rfl rfl (fun w' => by kernel_rfl) (fun gs w' hJ hdep hno => ?_) (fun v1 hv1 => ?_)
  · refine (made_any w' (he'.out.later (Below.thenOf HBW.out hJ.bel HBW.out.size))).mono ?_
    rintro e w4 ⟨pv, rfl, hpn, hb⟩
    obtain ⟨a, n, c, rfl, hpa⟩ := new_shape hpn
    exact ⟨_, rfl, ⟨a, n, c, rfl⟩, hJ.call hb _ _ (by decide) (by decide) (fun e => absurd e (by decide)) (fun e => absurd e (by decide)) (fun _ => hpa)⟩
  simp only [Act.put, List.setIfInBounds_toArray, List.set_cons_succ, List.set_cons_zero]
  obtain ⟨a4, n4, c4, rfl⟩ : ∃ a n c, v1 = .agg #[.slice a n c, .int .i64 4] := hv1
  refine wpG_call 13 #[.agg #[.slice (some ⟨g, 0, none⟩) 2 cap2, .int .i64 4], .agg #[.slice a4 n4 c4, .int .i64 4]] rfl rfl (fun w' => by kernel_rfl) (fun gs w' hJ hdep hno => ?_) (fun v2 hv2 => ?_)
  · obtain ⟨Bq, hq, hp⟩ := hJ.pol _ (hdep 1 _ (.inr ⟨rfl, rfl⟩) (waitsB_spec (by kernel_rfl))) (hJ.none9 hno)
    refine ((HLo.out Bq _ w' hJ.bel hq hp).1).mono ?_
    rintro e w4 ⟨rfl, hb⟩
    exact ⟨_, rfl, rfl, hJ.call hb 2 _ (by decide) (by decide) (fun e => absurd e (by decide)) (fun e => absurd e (by decide)) (fun e => absurd e (by decide))⟩
  simp only [Act.put, List.setIfInBounds_toArray, List.set_cons_succ, List.set_cons_zero]
  obtain rfl : v2 = .tuple #[.bool true, .agg #[.int .i64 3, .int .i64 0, .int .i64 0, .int .i64 0, .int .i64 0], .int .i64 0] := hv2
  refine wpG_write rfl rfl (fun gs w' hJ hdep hno => ⟨.tuple #[.bool true, .agg #[.int .i64 3, .int .i64 0, .int .i64 0, .int .i64 0, .int .i64 0], .int .i64 0], w', ?_, rfl, hJ.call (Below.refl _ _) 3 _ (by decide) (by decide) (fun e => absurd e (by decide)) (fun _ => ⟨_, hdep 2 _ (.inr ⟨rfl, rfl⟩) (waitsB_spec (by kernel_rfl))⟩) (fun e => absurd e (by decide))⟩) (fun v3 hv3 => ?_)
  · clear hJ hdep hno q0 q1 hDJ hne4
    go_simp
  simp only [Act.put, List.setIfInBounds_toArray, List.set_cons_succ, List.set_cons_zero]
  obtain rfl : v3 = .tuple #[.bool true, .agg #[.int .i64 3, .int .i64 0, .int .i64 0, .int .i64 0, .int .i64 0], .int .i64 0] := hv3
  refine wpG_read hDJ.out rfl rfl ?_; go_big_quiet_step (fail); refine wpQuiet_nil ?_
  refine wpG_write rfl rfl (fun gs w' hJ hdep hno => ⟨.agg #[.int .i64 3, .int .i64 0, .int .i64 0, .int .i64 0, .int .i64 0], w', ?_, rfl, hJ.call (Below.refl _ _) 5 _ (by decide) (by decide) (fun _ => ⟨_, hdep 3 _ (.inr ⟨rfl, rfl⟩) (waitsB_spec (by kernel_rfl))⟩) (fun e => absurd e (by decide)) (fun e => absurd e (by decide))⟩) (fun v5 hv5 => ?_)
  · clear hJ hdep hno q0 q1 hDJ hne4
    go_simp
  simp only [Act.put, List.setIfInBounds_toArray, List.set_cons_succ, List.set_cons_zero]
  obtain rfl : v5 = .agg #[.int .i64 3, .int .i64 0, .int .i64 0, .int .i64 0, .int .i64 0] := hv5
  refine wpG_read hDJ.out rfl rfl ?_; go_big_quiet_step (fail); refine wpQuiet_nil ?_
  refine wpG_write rfl rfl (fun gs w' hJ hdep hno => ⟨.pointer (some ⟨w'.heap.size, 0, none⟩), w'.alloc (.cells #[.int .i64 0, .int .i64 0, .int .i64 0, .int .i64 0, .int .i64 0] 29), ?_, ⟨_, rfl⟩, hJ.boxed (by decide) hno⟩) (fun v7 hv7 => ?_)
  · clear hJ hdep hno q0 q1 hDJ hne4
    go_simp
  simp only [Act.put, List.setIfInBounds_toArray, List.set_cons_succ, List.set_cons_zero]
  obtain ⟨b4, rfl⟩ : ∃ b : Nat, v7 = .pointer (some ⟨b, 0, none⟩) := hv7
  refine wpG_read hDJ.out rfl rfl ?_; go_big_quiet_step (fail); refine wpQuiet_nil ?_
  refine wpG_store rfl rfl (fun gs w' hJ hdep hno => ?_) (fun v9 hv9 => ?_)
  · have h7 := hdep 7 _ (.inr ⟨rfl, rfl⟩) (waitsB_spec (by kernel_rfl))
    have h5 := hdep 5 _ (.inl (.inr ⟨rfl, rfl⟩)) (waitsB_spec (by kernel_rfl))
    obtain ⟨b', z, e', hWb, hbx, -⟩ := hJ.box _ h7
    simp at e'
    subst e'
    have Z0 := (cellsX_at hbx).1
    have Z1 := (cellsX_at hbx).2
    have z0 := Z0 0 (by omega)
    have z1 := Z0 1 (by omega)
    have z2 := Z0 2 (by omega)
    have z3 := Z0 3 (by omega)
    have z4 := Z0 4 (by omega)
    have f0 := Z1 0
    have f1 := Z1 1
    have f2 := Z1 2
    have f3 := Z1 3
    have f4 := Z1 4
    refine ⟨((((w'.setCell ⟨b4, 0, none⟩ (.int .i64 3)).setCell ⟨b4, 1, none⟩ (.int .i64 0)).setCell ⟨b4, 2, none⟩ (.int .i64 0)).setCell ⟨b4, 3, none⟩ (.int .i64 0)).setCell ⟨b4, 4, none⟩ (.int .i64 0), ?_, by simp [SOr], hJ.put h5 h7 hbx hWb⟩
    clear hJ hdep hno q0 q1 hDJ hne4 h5 h7 hWb hbx Z0 Z1
    go_simp
  simp only [Act.put, List.setIfInBounds_toArray, List.set_cons_succ, List.set_cons_zero]
  refine wpG_nil ?_
  intro w5 hJ4
  obtain ⟨b', z, e', hWb4, hbx4, hzy⟩ := hJ4.box _ (.inl (.inr ⟨rfl, rfl⟩))
  simp at e'
  subst e'
  have hz := hzy ⟨_, .inr ⟨rfl, rfl⟩⟩
  subst hz
  have hb5 := hJ4.bel
  have HB5 : Hid (Below w.heap.size w w5) := Below.thenOf HBW.out hb5 HBW.out.size
  have HB35 : Hid (∀ w', Below w5.heap.size w5 w' → Below W3.heap.size W3 w') := fun w' h => Below.thenOf hb5 h hb5.size
  have HX : Hid (∀ w', Below w5.heap.size w5 w' → w'.cell? ⟨b4, 0, none⟩ = some (.int .i64 3) ∧ w'.cell? ⟨b4, 1, none⟩ = some (.int .i64 0) ∧ w'.cell? ⟨b4, 2, none⟩ = some (.int .i64 0) ∧ w'.cell? ⟨b4, 3, none⟩ = some (.int .i64 0) ∧ w'.cell? ⟨b4, 4, none⟩ = some (.int .i64 0)) := by
    intro w' h
    have hx := (cellsX_at ((h.block b4 (lt_of_block hbx4)).trans hbx4)).1
    exact ⟨hx 0 (by omega), hx 1 (by omega), hx 2 (by omega), hx 3 (by omega), hx 4 (by omega)⟩
  have Q50 : Hid (∀ z : Later w5, z.1.cell? ⟨w1.heap.size, 0, none⟩ = some (.slice (some ⟨g, 0, none⟩) 2 cap2)) := fun z => Q0.out ⟨z.1, HB35.out _ z.2⟩
  have Q51 : Hid (∀ z : Later w5, z.1.cell? ⟨w1.heap.size, 1, none⟩ = some (.int .i64 4)) := fun z => Q1.out ⟨z.1, HB35.out _ z.2⟩
  clear hJ4 hbx4 hzy hWb4 hb5 q0 q1 hDJ hne4
  go_wp2_with fail
  have hne5 := Later.ne w5
  have q0 := Q50.out
  have q1 := Q51.out
  have hDJ : Hid (∀ fs w', JOr 0 w5 (fun _ => 0) fs w' → ∃ z : Later w5, w' = z.1) := fun fs w' h => ⟨⟨w', h.bel⟩, rfl⟩
  refine wp_region_free [_, _, _, _, _, _, _, _, _, _] _ rfl (fun k => k == 0 || k == 2 || k == 3 || k == 5 || k == 7 || k == 9) (JOr 0 w5 (fun _ => 0)) (SOr 0 (.tuple #[.bool false, .agg #[.int .i64 0, .int .i64 0, .int .i64 0, .int .i64 0, .int .i64 0], .int .i64 0]) (.agg #[.int .i64 0, .int .i64 0, .int .i64 0, .int .i64 0, .int .i64 0])) (sOr_some _ _ _) (by kernel_rfl) (by kernel_rfl) (JOr.start _ _ _) ?_
  refine wpG_call 23 #[] rfl rfl (fun w' => by kernel_rfl) (fun gs w' hJ hdep hno => ?_) (fun v1 hv1 => ?_)
  · refine (made_any w' (he'.out.later (Below.thenOf HB5.out hJ.bel HB5.out.size))).mono ?_
    rintro e w4 ⟨pv, rfl, hpn, hb⟩
    obtain ⟨a, n, c, rfl, hpa⟩ := new_shape hpn
    exact ⟨_, rfl, ⟨a, n, c, rfl⟩, hJ.call hb _ _ (by decide) (by decide) (fun e => absurd e (by decide)) (fun e => absurd e (by decide)) (fun _ => hpa)⟩
  simp only [Act.put, List.setIfInBounds_toArray, List.set_cons_succ, List.set_cons_zero]
  obtain ⟨a5, n5, c5, rfl⟩ : ∃ a n c, v1 = .agg #[.slice a n c, .int .i64 4] := hv1
  refine wpG_read hDJ.out rfl rfl ?_; go_big_quiet_step (fail); refine wpQuiet_nil ?_
  refine wpG_call 13 #[.agg #[.slice a5 n5 c5, .int .i64 4], .agg #[.slice (some ⟨g, 0, none⟩) 2 cap2, .int .i64 4]] rfl rfl (fun w' => by kernel_rfl) (fun gs w' hJ hdep hno => ?_) (fun v2 hv2 => ?_)
  · obtain ⟨Bq, hq, hp⟩ := hJ.pol _ (hdep 0 _ (.inr ⟨rfl, rfl⟩) (waitsB_spec (by kernel_rfl))) (hJ.none9 hno)
    refine ((HLo.out Bq _ w' (HB35.out _ hJ.bel) hq hp).2).mono ?_
    rintro e w4 ⟨rfl, hb⟩
    exact ⟨_, rfl, rfl, hJ.call hb 2 _ (by decide) (by decide) (fun e => absurd e (by decide)) (fun e => absurd e (by decide)) (fun e => absurd e (by decide))⟩
  simp only [Act.put, List.setIfInBounds_toArray, List.set_cons_succ, List.set_cons_zero]
  obtain rfl : v2 = .tuple #[.bool false, .agg #[.int .i64 0, .int .i64 0, .int .i64 0, .int .i64 0, .int .i64 0], .int .i64 0] := hv2
  refine wpG_write rfl rfl (fun gs w' hJ hdep hno => ⟨.tuple #[.bool false, .agg #[.int .i64 0, .int .i64 0, .int .i64 0, .int .i64 0, .int .i64 0], .int .i64 0], w', ?_, rfl, hJ.call (Below.refl _ _) 3 _ (by decide) (by decide) (fun e => absurd e (by decide)) (fun _ => ⟨_, hdep 2 _ (.inr ⟨rfl, rfl⟩) (waitsB_spec (by kernel_rfl))⟩) (fun e => absurd e (by decide))⟩) (fun v3 hv3 => ?_)
  · clear hJ hdep hno q0 q1 hDJ hne5
    go_simp
  simp only [Act.put, List.setIfInBounds_toArray, List.set_cons_succ, List.set_cons_zero]
  obtain rfl : v3 = .tuple #[.bool false, .agg #[.int .i64 0, .int .i64 0, .int .i64 0, .int .i64 0, .int .i64 0], .int .i64 0] := hv3
  refine wpG_read hDJ.out rfl rfl ?_; go_big_quiet_step (fail); refine wpQuiet_nil ?_
  refine wpG_write rfl rfl (fun gs w' hJ hdep hno => ⟨.agg #[.int .i64 0, .int .i64 0, .int .i64 0, .int .i64 0, .int .i64 0], w', ?_, rfl, hJ.call (Below.refl _ _) 5 _ (by decide) (by decide) (fun _ => ⟨_, hdep 3 _ (.inr ⟨rfl, rfl⟩) (waitsB_spec (by kernel_rfl))⟩) (fun e => absurd e (by decide)) (fun e => absurd e (by decide))⟩) (fun v5 hv5 => ?_)
  · clear hJ hdep hno q0 q1 hDJ hne5
    go_simp
  simp only [Act.put, List.setIfInBounds_toArray, List.set_cons_succ, List.set_cons_zero]
  obtain rfl : v5 = .agg #[.int .i64 0, .int .i64 0, .int .i64 0, .int .i64 0, .int .i64 0] := hv5
  refine wpG_read hDJ.out rfl rfl ?_; go_big_quiet_step (fail); refine wpQuiet_nil ?_
  refine wpG_write rfl rfl (fun gs w' hJ hdep hno => ⟨.pointer (some ⟨w'.heap.size, 0, none⟩), w'.alloc (.cells #[.int .i64 0, .int .i64 0, .int .i64 0, .int .i64 0, .int .i64 0] 29), ?_, ⟨_, rfl⟩, hJ.boxed (by decide) hno⟩) (fun v7 hv7 => ?_)
  · clear hJ hdep hno q0 q1 hDJ hne5
    go_simp
  simp only [Act.put, List.setIfInBounds_toArray, List.set_cons_succ, List.set_cons_zero]
  obtain ⟨b5, rfl⟩ : ∃ b : Nat, v7 = .pointer (some ⟨b, 0, none⟩) := hv7
  refine wpG_read hDJ.out rfl rfl ?_; go_big_quiet_step (fail); refine wpQuiet_nil ?_
  refine wpG_store rfl rfl (fun gs w' hJ hdep hno => ?_) (fun v9 hv9 => ?_)
  · have h7 := hdep 7 _ (.inr ⟨rfl, rfl⟩) (waitsB_spec (by kernel_rfl))
    have h5 := hdep 5 _ (.inl (.inr ⟨rfl, rfl⟩)) (waitsB_spec (by kernel_rfl))
    obtain ⟨b', z, e', hWb, hbx, -⟩ := hJ.box _ h7
    simp at e'
    subst e'
    have Z0 := (cellsX_at hbx).1
    have Z1 := (cellsX_at hbx).2
    have z0 := Z0 0 (by omega)
    have z1 := Z0 1 (by omega)
    have z2 := Z0 2 (by omega)
    have z3 := Z0 3 (by omega)
    have z4 := Z0 4 (by omega)
    have f0 := Z1 0
    have f1 := Z1 1
    have f2 := Z1 2
    have f3 := Z1 3
    have f4 := Z1 4
    refine ⟨((((w'.setCell ⟨b5, 0, none⟩ (.int .i64 0)).setCell ⟨b5, 1, none⟩ (.int .i64 0)).setCell ⟨b5, 2, none⟩ (.int .i64 0)).setCell ⟨b5, 3, none⟩ (.int .i64 0)).setCell ⟨b5, 4, none⟩ (.int .i64 0), ?_, by simp [SOr], hJ.put h5 h7 hbx hWb⟩
    clear hJ hdep hno q0 q1 hDJ hne5 h5 h7 hWb hbx Z0 Z1
    go_simp
  simp only [Act.put, List.setIfInBounds_toArray, List.set_cons_succ, List.set_cons_zero]
  refine wpG_nil ?_
  intro w6 hJ5
  have hb6 := hJ5.bel
  have HB6 : Hid (Below w.heap.size w w6) := Below.thenOf HB5.out hb6 HB5.out.size
  have HX6 : Hid (∀ w', Below w6.heap.size w6 w' → Below w5.heap.size w5 w') := fun w' h => Below.thenOf hb6 h hb6.size
  clear hJ5 hb6 q0 q1 hDJ hne5
  go_wp2_with fail
  go_at_call 23
  refine Calls.mono (made_any w6 (he'.out.later HB6.out)) ?_
  rintro e w7 ⟨pv7, rfl, hp7, hb7⟩
  obtain ⟨a7, n7, c7, rfl, hr7⟩ := new_shape hp7
  have HB7 : Hid (Below w.heap.size w w7) := Below.thenOf HB6.out hb7 HB6.out.size
  go_wp2_with fail
  go_at_call 23
  refine Calls.mono (made_any w7 (he'.out.later HB7.out)) ?_
  rintro e w8 ⟨pv8, rfl, hp8, hb8⟩
  obtain ⟨a8, n8, c8, rfl, hr8⟩ := new_shape hp8
  have HAk : Hid _ := HAl.out w8.heap.size _ _ w8 (Nat.le_refl _) ((hr7.later hb8 (Nat.le_refl _)).more hb8.size) hr8
  have HB8 : Hid (Below w.heap.size w w8) := Below.thenOf HB7.out hb8 HB7.out.size
  have HY8 : Hid (∀ w', Below w8.heap.size w8 w' → Below w5.heap.size w5 w') := fun w' h => HX6.out w' (Below.thenOf (Below.thenOf hb7 hb8 hb7.size) h (Nat.le_trans hb7.size hb8.size))
  clear hp7 hr7 hp8 hr8 hb7 hb8
  go_wp2_with fail
  go_at_call 15
  refine Calls.mono HAk.out ?_
  rintro e w9 ⟨rfl, hb9⟩
  obtain ⟨x0, x1, x2, x3, x4⟩ := HX.out w9 (HY8.out w9 hb9)
  have HB9 : Hid (Below w.heap.size w w9) := Below.thenOf HB8.out hb9 HB8.out.size
  have G := guardCall
  have E1 : ∀ w, (Op.equalIn 10000 29 (.agg #[.int .i64 3, .int .i64 0, .int .i64 0, .int .i64 0, .int .i64 0]) (.agg #[.int .i64 3, .int .i64 0, .int .i64 0, .int .i64 0, .int .i64 0])).run Tryz.prog w = .ok true w := fun w => eqCall 9998 3 0 0 0 0 3 0 0 0 0 w
  clear hb9
  go_wp2_with fail
  go_ret
  exact ⟨rfl, HB9.out⟩

end Go.Proofs.YtclehchkmienoabGreatDoor
