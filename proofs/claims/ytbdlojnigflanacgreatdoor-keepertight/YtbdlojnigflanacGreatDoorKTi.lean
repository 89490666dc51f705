/- KeeperTight returns true, whatever the records and the call, in whatever memory. -/
import Derived.Test.YtbdlojnigflanacGreatDoorKb40
import Derived.Test.YtbdlojnigflanacGreatDoorKFk
import Derived.Test.YtbdlojnigflanacGreatDoorKb33
import Derived.Test.YtbdlojnigflanacGreatDoorKb20
set_option linter.all false
set_option maxRecDepth 100000
namespace Go.Proofs.YtbdlojnigflanacGreatDoor
open Go.RowKit Go.Maps

/-- Two boxes are made, in whatever order; one of them is written already. -/
def zC4 : Array Value := #[.bool false, .slice none 0 0, .slice none 0 0, .int .i64 0]
def JTw (W : World) (va : Array Value) (fs : Nat → Value → Prop) (w : World) : Prop :=
  Below W.heap.size W w ∧ (∀ v, fs 8 v → ∃ g : Nat, v = .pointer (some ⟨g, 0, none⟩) ∧ W.heap.size ≤ g ∧ ∃ cs, w.heap[g]? = some (.cells cs 77 (0, 0)) ∧ ((∃ u, fs 10 u) → cs = va) ∧ ((∀ u, ¬ fs 10 u) → cs = zC4)) ∧
  (∀ v, fs 9 v → ∃ g : Nat, v = .pointer (some ⟨g, 0, none⟩) ∧ W.heap.size ≤ g ∧ w.heap[g]? = some (.cells zC4 77 (0, 0))) ∧ (∀ v u, fs 8 v → fs 9 u → v ≠ u) ∧ (∀ u, fs 10 u → (∃ v, fs 8 v) ∧ ∃ v, fs 9 v) ∧ ∀ v u, fs 8 v → fs 8 u → v = u
def STw (k : Nat) (v : Value) : Prop := if k = 10 then True else ∃ g : Nat, v = .pointer (some ⟨g, 0, none⟩)
theorem sTw_some (k : Nat) : ∃ v, STw k v := by
  unfold STw
  split
  · exact ⟨undef, trivial⟩
  · exact ⟨_, 0, rfl⟩
theorem JTw.first {W w : World} {va : Array Value} {fs : Nat → Value → Prop} (h : JTw W va fs w) (hno : ∀ v, ¬ fs 8 v) : JTw W va (addF fs 8 (.pointer (some ⟨w.heap.size, 0, none⟩))) (w.alloc (.cells zC4 77)) := by
  obtain ⟨h1, h2, h3, h4, h5, h6⟩ := h
  have h10 : ∀ u, ¬ fs 10 u := fun u hu => (h5 u hu).1.elim hno
  have hb := (Below.refl w.heap.size w).alloc (Nat.le_refl _) (.cells zC4 77)
  refine ⟨Below.thenOf h1 hb h1.size, fun v hv => ?_, fun v hv => ?_, fun v u hv hu => ?_, fun u hu => ?_, fun v u hv hu => ?_⟩
  · rcases hv with hv | ⟨_, rfl⟩
    · exact absurd hv (hno v)
    · refine ⟨w.heap.size, rfl, h1.size, zC4, heap_made _ _, fun ⟨u, hu⟩ => ?_, fun _ => rfl⟩
      rcases hu with hu | ⟨e, _⟩
      · exact absurd hu (h10 u)
      · cases e
  · rcases hv with hv | ⟨e, _⟩
    · obtain ⟨g, e, k1, k2⟩ := h3 v hv
      exact ⟨g, e, k1, (hb.block g (lt_of_block k2)).trans k2⟩
    · cases e
  · rcases hu with hu | ⟨e, _⟩
    · obtain ⟨g, e, k1, k2⟩ := h3 u hu
      have := lt_of_block k2
      rcases hv with hv | ⟨_, rfl⟩
      · exact absurd hv (hno v)
      · rw [e]
        intro e'
        simp at e' <;> omega
    · cases e
  · rcases hu with hu | ⟨e, _⟩
    · exact absurd hu (h10 u)
    · cases e
  · rcases hv with hv | ⟨_, rfl⟩
    · exact absurd hv (hno v)
    · rcases hu with hu | ⟨_, rfl⟩
      · exact absurd hu (hno u)
      · rfl
theorem JTw.second {W w : World} {va : Array Value} {fs : Nat → Value → Prop} (h : JTw W va fs w) (hno : ∀ v, ¬ fs 9 v) : JTw W va (addF fs 9 (.pointer (some ⟨w.heap.size, 0, none⟩))) (w.alloc (.cells zC4 77)) := by
  obtain ⟨h1, h2, h3, h4, h5, h6⟩ := h
  have h10 : ∀ u, ¬ fs 10 u := fun u hu => (h5 u hu).2.elim hno
  have hb := (Below.refl w.heap.size w).alloc (Nat.le_refl _) (.cells zC4 77)
  refine ⟨Below.thenOf h1 hb h1.size, fun v hv => ?_, fun v hv => ?_, fun v u hv hu => ?_, fun u hu => ?_, fun v u hv hu => ?_⟩
  · rcases hv with hv | ⟨e, _⟩
    · obtain ⟨g, e, k1, cs, k2, k3, k4⟩ := h2 v hv
      refine ⟨g, e, k1, cs, (hb.block g (lt_of_block k2)).trans k2, fun ⟨u, hu⟩ => ?_, fun _ => k4 h10⟩
      rcases hu with hu | ⟨e, _⟩
      · exact absurd hu (h10 u)
      · cases e
    · cases e
  · rcases hv with hv | ⟨_, rfl⟩
    · exact absurd hv (hno v)
    · exact ⟨w.heap.size, rfl, h1.size, heap_made _ _⟩
  · rcases hv with hv | ⟨e, _⟩
    · obtain ⟨g, e, k1, cs, k2, -⟩ := h2 v hv
      have := lt_of_block k2
      rcases hu with hu | ⟨_, rfl⟩
      · exact absurd hu (hno u)
      · rw [e]
        intro e'
        simp at e' <;> omega
    · cases e
  · rcases hu with hu | ⟨e, _⟩
    · exact absurd hu (h10 u)
    · cases e
  · rcases hv with hv | ⟨e, _⟩
    · rcases hu with hu | ⟨e, _⟩
      · exact h6 v u hv hu
      · cases e
    · cases e
theorem JTw.put {W w : World} {u0 u1 u2 u3 : Value} {g : Nat} {v9 : Value} {fs : Nat → Value → Prop} (h : JTw W #[u0, u1, u2, u3] fs w) (h8 : fs 8 (.pointer (some ⟨g, 0, none⟩))) (h9 : fs 9 v9) (h10 : ∀ u, ¬ fs 10 u) : w.heap[g]? = some (.cells zC4 77 (0, 0)) ∧ JTw W #[u0, u1, u2, u3] (addF fs 10 undef) ((((w.setCell ⟨g, 0, none⟩ u0).setCell ⟨g, 1, none⟩ u1).setCell ⟨g, 2, none⟩ u2).setCell ⟨g, 3, none⟩ u3) := by
  obtain ⟨h1, h2, h3, h4, h5, h6⟩ := h
  obtain ⟨g', e, k1, cs, k2, k3, k4⟩ := h2 _ h8
  simp at e
  subst e
  have hz := k4 h10
  subst hz
  refine ⟨k2, ?_⟩
  obtain ⟨b1, b2, b3, b4⟩ := box4_put (u0 := u0) (u1 := u1) (u2 := u2) (u3 := u3) k2
  refine ⟨h1.trans (b4 _ k1), fun v hv => ?_, fun v hv => ?_, fun v u hv hu => ?_, fun u hu => ⟨⟨_, .inl h8⟩, _, .inl h9⟩, fun v u hv hu => ?_⟩
  · rcases hv with hv | ⟨e, _⟩
    · rw [h6 v _ hv h8]
      exact ⟨g, rfl, k1, _, b1, fun _ => rfl, fun h => absurd (.inr ⟨rfl, rfl⟩) (h undef)⟩
    · cases e
  · rcases hv with hv | ⟨e, _⟩
    · obtain ⟨q, e, m1, m2⟩ := h3 v hv
      refine ⟨q, e, m1, (b2 q fun e' => ?_).trans m2⟩
      subst e'
      exact h4 _ _ h8 hv e.symm
    · cases e
  · rcases hv with hv | ⟨e, _⟩
    · rcases hu with hu | ⟨e, _⟩
      · exact h4 v u hv hu
      · cases e
    · cases e
  · rcases hv with hv | ⟨e, _⟩
    · rcases hu with hu | ⟨e, _⟩
      · exact h6 v u hv hu
      · cases e
    · cases e
theorem chainErr_six {l : ChT} (h : chainErr l = 0) : l.length ≤ 6 := by
  unfold chainErr at h
  by_cases h6 : 6 < l.length
  · rw [if_pos h6] at h
    cases h
  · omega
theorem cells_four {B : Nat} {w : World} {v : Value} {l : List CellT} (h : CellsAt B w v l) (h4 : l.length = 4) : ∃ b o c, v = .slice (some ⟨b, o, none⟩) 4 c := by
  obtain ⟨a, cap, rfl, -, -, hat⟩ := h
  obtain ⟨c, hc⟩ : ∃ c, l[0]? = some c := ⟨l[0]'(by omega), by simp⟩
  obtain ⟨b, o, e, -⟩ := hat 0 c hc
  subst e
  exact ⟨b, o, cap, by rw [h4]⟩

set_option maxHeartbeats 16000000 in
theorem keeperTight_any (B : Nat) (lv : Value) (rs : List RecT) (x : Nat → Int) (w : World) (he : EnvAt w) (hl : RecsAt B w lv rs) (hB : B ≤ w.heap.size) :
    Calls Tryz.prog 11 #[lv, callV x] w fun e w' => e = .returned (.bool true) ∧ Below w.heap.size w w' := by
  have HO : Hid (∀ w', Below w.heap.size w w' → Calls Tryz.prog 44 #[] w' fun e w'' => e = .returned (.bool true) ∧ Below w'.heap.size w' w'') := fun w' h => opened_true w' (he.later h)
  have HR : Hid (∀ w', Calls Tryz.prog 13 #[callV x] w' fun e w'' => e = .returned (callV (rx x)) ∧ Below w'.heap.size w' w'') := fun w' => right_any x w'
  have HNw : Hid (∀ w', Calls Tryz.prog 49 #[] w' fun e w'' => ∃ b o c, e = .returned (.slice (some ⟨b, o, none⟩) 4 c) ∧ CellsAt w''.heap.size w'' (.slice (some ⟨b, o, none⟩) 4 c) newCells ∧ Below w'.heap.size w' w'') := fun w' => by
    refine (newKp_any w').mono fun e w'' ⟨v, h1, h2, h3⟩ => ?_
    obtain ⟨b, o, c, ev⟩ := cells_four h2 rfl
    subst ev
    exact ⟨b, o, c, h1, h2, h3⟩
  have HOk : Hid (chkx (rx x) = 0) := right_ok x
  obtain ⟨a, cap, elv, hlc, hcm, hrs⟩ := id hl
  subst elv
  obtain ⟨n, hn⟩ : ∃ n, n = rs.length := ⟨_, rfl⟩
  rw [← hn] at hlc ⊢
  have HN : Hid (n = rs.length) := hn
  have HL : Hid (RecsAt B w (.slice a rs.length cap) rs) := hl
  have hml := maxLen_eq
  clear hl he hn hrs
  unfold callV at HR ⊢
  generalize rx x = y at *
  obtain ⟨W0, hW0⟩ : ∃ W0, W0 = w.alloc (.cells #[.int .i64 (x 0), .int .i64 (x 1), .int .i64 (x 2), .int .i64 (x 3), .int .i64 (x 4)] 26) := ⟨_, rfl⟩
  have bw0 : Below w.heap.size w W0 := by rw [hW0]; exact (Below.refl _ _).alloc (Nat.le_refl _) _
  have hx0 : W0.heap[w.heap.size]? = some (.cells (cellsX x) 26 (0, 0)) := by rw [hW0]; exact heap_made _ _
  have HW0 : Hid (W0 = _) := hW0
  clear hW0
  go_enter Tryz.func11, Tryz.ntmps11
  go_wp2_with fail
  rw [← HW0.out]
  go_at_call 13
  refine Calls.mono (HR.out _) ?_
  rintro e w1 ⟨rfl, b01⟩
  have X1 := (b01.block _ (lt_of_block hx0)).trans hx0
  obtain ⟨z0, z1, z2, z3, z4⟩ := five_atK X1
  have Zf := (cellsX_at X1).2
  have f0 := Zf 0
  have f1 := Zf 1
  have f2 := Zf 2
  have f3 := Zf 3
  have f4 := Zf 4
  have HX1 : Hid (w1.heap[w.heap.size]? = some (.cells (cellsX x) 26 (0, 0))) := X1
  obtain ⟨W1, hW1⟩ : ∃ W1, W1 = ((((w1.setCell ⟨w.heap.size, 0, none⟩ (.int .i64 (y 0))).setCell ⟨w.heap.size, 1, none⟩ (.int .i64 (y 1))).setCell ⟨w.heap.size, 2, none⟩ (.int .i64 (y 2))).setCell ⟨w.heap.size, 3, none⟩ (.int .i64 (y 3))).setCell ⟨w.heap.size, 4, none⟩ (.int .i64 (y 4)) := ⟨_, rfl⟩
  have hx1 : W1.heap[w.heap.size]? = some (.cells (cellsX y) 26 (0, 0)) := by rw [hW1]; exact callBox HX1.out
  have b1 : Below w.heap.size w1 W1 := by rw [hW1]; exact callBox_below (Below.refl _ _) (Nat.le_refl _)
  have bw1 : Below w.heap.size w W1 := (Below.thenOf bw0 b01 bw0.size).trans b1
  have HK : Hid (∀ w', Below W1.heap.size W1 w' → w'.heap[w.heap.size]? = some (.cells (cellsX y) 26 (0, 0)) ∧ Below w.heap.size w w') := fun w' h => ⟨(h.block _ (lt_of_block hx1)).trans hx1, Below.thenOf bw1 h bw1.size⟩
  have HW1 : Hid (W1 = _) := hW1
  have HBw1 : Hid (Below w.heap.size w W1) := bw1
  clear Zf X1 hx0 hW1 hx1 b1 bw1 b01 bw0 HX1
  go_wp2_with fail
  rw [← HW1.out]
  go_at_call 44
  refine Calls.mono (HO.out _ HBw1.out) ?_
  rintro e w2 ⟨rfl, hb2⟩
  clear z0 z1 z2 z3 z4 f0 f1 f2 f3 f4 HR HO
  go_wp2_with fail
  go_at_call 49
  refine Calls.mono (HNw.out _) ?_
  rintro e w3 ⟨nb, no, nc, rfl, hc3, hb3⟩
  have HB3 : Hid (Below W1.heap.size W1 w3) := Below.thenOf hb2 hb3 hb2.size
  have HC3 : Hid (CellsAt w3.heap.size w3 (.slice (some ⟨nb, no, none⟩) 4 nc) newCells) := hc3
  clear hb2 hb3 hc3 HNw
  obtain ⟨m, hm⟩ : ∃ m : Nat, min (n : Int) 20 = (m : Int) := ⟨min n 20, by omega⟩
  have hmn : m ≤ n := by omega
  have HRs : Hid (∀ w', Below w.heap.size w w' → RecsAt B w' (.slice a rs.length cap) rs) := fun w' h => HL.out.later h hB
  clear HL
  go_wp2_with fail
  clear hm
  go_loopw [5, 31] (fun nv iv wr => ∃ i : Nat, i ≤ m ∧ iv = .int .i64 i ∧ (∃ nb no nc, nv = .slice (some ⟨nb, no, none⟩) 4 nc) ∧ Hid (∃ cs, Good cs ∧ CellsAt wr.heap.size wr nv cs) ∧ Hid (Below W1.heap.size W1 wr)) (fun _ iv _ => m - (intOf iv).toNat)
  case atStart => exact ⟨0, by omega, rfl, ⟨_, _, _, rfl⟩, ⟨newCells, good_new, HC3.out⟩, HB3⟩
  case round =>
    obtain ⟨i, hi, rfl, ⟨pb, po, pc, rfl⟩, HS, HBr⟩ := hrel
    obtain ⟨wo, hwo⟩ : ∃ x, x = wr := ⟨_, rfl⟩
    subst hwo
    have i0 : (0 : Int) ≤ (i : Int) := by omega
    by_cases hlt : i < m
    · have i1 : (i : Int) < (m : Int) := by omega
      obtain ⟨r, hrk⟩ : ∃ r, rs[i]? = some r := ⟨rs[i]'(by rw [← HN.out]; omega), by simp⟩
      obtain ⟨cs, hgd, hcat⟩ := HS.out
      have hbwo := (HK.out wo HBr.out).2
      obtain ⟨_, _, e1, -, -, hat⟩ := HRs.out wo hbwo
      obtain ⟨b3, o3, e, hbB3, hrc⟩ := hat i r hrk
      simp at e1
      obtain ⟨rfl, -⟩ := e1
      subst e
      obtain ⟨rv, q0, q1, q2, q3, q4, hra⟩ := hrc
      obtain ⟨ra, rcp, er, -⟩ := hra.shape
      simp at er
      subst er
      obtain ⟨rl, hrl⟩ : ∃ rl, rl = r.2.2.2.1.length := ⟨_, rfl⟩
      rw [← hrl] at q3 hra
      have hos := hbwo.size
      have lb3 : b3 < wo.heap.size := by omega
      obtain ⟨W5, hW5⟩ : ∃ W5, W5 = wo.alloc (.cells #[.int .i64 r.1, .int .i64 r.2.1, .int .i64 r.2.2.1, .slice ra rl rcp, .int .i64 r.2.2.2.2] 38) := ⟨_, rfl⟩
      have hb5 : Below wo.heap.size wo W5 := by rw [hW5]; exact (Below.refl _ _).alloc (Nat.le_refl _) _
      have g5 : W5.heap[wo.heap.size]? = some (.cells #[.int .i64 r.1, .int .i64 r.2.1, .int .i64 r.2.2.1, .slice ra rl rcp, .int .i64 r.2.2.2.2] 38 (0, 0)) := by rw [hW5]; exact heap_made _ _
      have HCall : Hid (Calls Tryz.prog 42 #[.slice (some ⟨pb, po, none⟩) 4 pc, .agg #[.int .i64 r.1, .int .i64 r.2.1, .int .i64 r.2.2.1, .slice ra rl rcp, .int .i64 r.2.2.2.2]] W5 fun e w'' => ∃ na nn nc, e = .returned (.tuple #[.slice na nn nc, .int .i64 (nextE cs r)]) ∧ CellsAt w''.heap.size w'' (.slice na nn nc) (nextR cs r) ∧ Below W5.heap.size W5 w'') := by
        refine (nextKp_any W5.heap.size _ _ cs r W5 ((hcat.later hb5 (Nat.le_refl _)).wide hb5.size) (recAt_more (hra.later hb5 (by omega)) (by have := hb5.size; omega)) (Nat.le_refl _)).mono fun e w' ⟨v, h1, h2, h3⟩ => ?_
        obtain ⟨na, nc, ev, -, -⟩ := h2.shape
        subst ev
        exact ⟨na, _, nc, h1, h2, h3⟩
      have HCO : Hid (∀ w', Below W5.heap.size W5 w' → CellsAt wo.heap.size w' (.slice (some ⟨pb, po, none⟩) 4 pc) cs ∧ w'.heap[wo.heap.size]? = some (.cells #[.int .i64 r.1, .int .i64 r.2.1, .int .i64 r.2.2.1, .slice ra rl rcp, .int .i64 r.2.2.2.2] 38 (0, 0)) ∧ Below W1.heap.size W1 w' ∧ Below wo.heap.size wo w') := fun w' h => ⟨hcat.later (Below.thenOf hb5 h hb5.size) (Nat.le_refl _), (h.block _ (lt_of_block g5)).trans g5, Below.thenOf HBr.out (Below.thenOf hb5 h hb5.size) HBr.out.size, Below.thenOf hb5 h hb5.size⟩
      have HGc : Hid (Good cs) := hgd
      have HW5 : Hid (W5 = _) := hW5
      clear hW5 hb5 g5 hra hcat hrk hat hrl hgd HS
      go_wp2_with fail
      rw [← HW5.out]
      go_at_call 42
      refine Calls.mono HCall.out ?_
      rintro e w6 ⟨na, nn, nc, rfl, hc6, hb6⟩
      obtain ⟨-, g6, hb16, hbo6⟩ := HCO.out w6 hb6
      have HB6 : Hid (Below W5.heap.size W5 w6) := hb6
      have HC6 : Hid (CellsAt w6.heap.size w6 (.slice na nn nc) (nextR cs r)) := hc6
      obtain ⟨k0, k1, k2, k3, k4⟩ := rec_box g6
      have lo6 := lt_of_block g6
      have HB16 : Hid (Below W1.heap.size W1 w6) := hb16
      clear q0 q1 q2 q3 q4 HW5 HCall hc6 hb6 g6 hb16
      by_cases hne0 : nextE cs r = 0
      case neg =>
        have hq : (nextE cs r != 0) = true := by simpa using hne0
        have HS' : Hid (∃ cs, Good cs ∧ CellsAt w6.heap.size w6 (.slice (some ⟨pb, po, none⟩) 4 pc) cs) := ⟨cs, HGc.out, (HCO.out w6 HB6.out).1.wide hbo6.size⟩
        generalize nextE cs r = ne at *
        clear hne0 HCO HC6 hbo6 k0 k1 k2 k3 k4
        go_wp2_with fail
        exact ⟨⟨i + 1, by omega, by go_num, ⟨_, _, _, rfl⟩, HS', HB16⟩, by simp [intOf]; omega⟩
      case pos =>
        have HNe : Hid (nextE cs r = 0) := hne0
        have hgn := HGc.out.next hne0
        have hn4 : nn = 4 := by
          obtain ⟨_, _, e, -⟩ := HC6.out
          simp at e
          rw [e.2.1]
          exact hgn.1
        subst hn4
        obtain ⟨nb2, no2, nc2, e2⟩ := cells_four HC6.out hgn.1
        simp at e2
        obtain ⟨rfl, rfl⟩ := e2
        have HGn : Hid (Good (nextR cs r)) := hgn
        have HCk : Hid (Calls Tryz.prog 45 #[.slice (some ⟨nb2, no2, none⟩) 4 nc] w6 fun e w'' => e = .returned (.int .i64 0) ∧ Below w6.heap.size w6 w'') := by
          have := checkKp_any w6.heap.size _ _ w6 HC6.out (Nat.le_refl _)
          rw [hgn.err] at this
          exact this
        rw [hne0]
        clear hne0 hgn
        go_wp2_with fail
        go_at_call 45
        refine Calls.mono HCk.out ?_
        rintro e w7 ⟨rfl, hb7⟩
        have HB67 : Hid (Below w6.heap.size w6 w7) := hb7
        have HB57 : Hid (Below W5.heap.size W5 w7) := Below.thenOf HB6.out hb7 HB6.out.size
        clear hb7 HCk k0 k1 k2 k3 k4
        go_wp2_with fail
        go_loopw [48] (fun jv wr => ∃ j : Nat, j ≤ 4 ∧ jv = .int .i64 j ∧ Hid (Below w7.heap.size w7 wr)) (fun jv _ => 4 - (intOf jv).toNat)
        case atStart => exact ⟨0, by omega, rfl, Below.refl _ _⟩
        case round =>
          obtain ⟨j, hj, rfl, HBj⟩ := hrel
          obtain ⟨wj, hwj⟩ : ∃ x, x = wr := ⟨_, rfl⟩
          subst hwj
          have j0 : (0 : Int) ≤ (j : Int) := by omega
          by_cases hj4 : j < 4
          · have j1 : (j : Int) < 4 := by omega
            have HB5j : Hid (∀ w', Below wj.heap.size wj w' → Below W5.heap.size W5 w' ∧ Below w6.heap.size w6 w' ∧ Below w7.heap.size w7 w') := fun w' h => by
              have h7 := Below.thenOf HBj.out h HBj.out.size
              exact ⟨Below.thenOf HB57.out h7 HB57.out.size, Below.thenOf HB67.out h7 HB67.out.size, h7⟩
            obtain ⟨cA, hcA⟩ : ∃ c, cs[j]? = some c := ⟨cs[j]'(by rw [HGc.out.1]; omega), by simp⟩
            obtain ⟨cB, hcB⟩ : ∃ c, (nextR cs r)[j]? = some c := ⟨(nextR cs r)[j]'(by rw [HGn.out.1]; omega), by simp⟩
            obtain ⟨t5, t6, -⟩ := HB5j.out wj (Below.refl _ _)
            obtain ⟨hoA, gr, -, -⟩ := HCO.out wj t5
            have hoB := HC6.out.later t6 (Nat.le_refl _)
            obtain ⟨_, _, e1, -, -, hatA⟩ := id hoA
            obtain ⟨b4, o4, e4, hbA, hinA⟩ := hatA j cA hcA
            simp at e1
            obtain ⟨rfl, -⟩ := e1
            simp at e4
            obtain ⟨rfl, rfl⟩ := e4
            obtain ⟨_, _, e1, -, -, hatB⟩ := id hoB
            obtain ⟨b5, o5, e5, hbB, hinB⟩ := hatB j cB hcB
            simp at e1
            obtain ⟨rfl, -⟩ := e1
            simp at e5
            obtain ⟨rfl, rfl⟩ := e5
            obtain ⟨la, lca, pa, pca, a0, a1, a2, a3, hchA, hpoA⟩ := hinA.vals
            obtain ⟨lb, lcb, qb, qcb, d0, d1, d2, d3, hchB, hpoB⟩ := hinB.vals
            have lA : pb < wj.heap.size := World.block_lt_of_cell? _ _ a0
            have lB : nb2 < wj.heap.size := World.block_lt_of_cell? _ _ d0
            have lR := lt_of_block gr
            have hok : CellOk cA := HGc.out.2 cA (List.mem_of_getElem? hcA)
            have hokB : CellOk cB := HGn.out.2 cB (List.mem_of_getElem? hcB)
            -- what is asked of the two sessions
            have HSmE : Hid ((j : Int) ≠ r.2.1 → cA = cB) := fun h => by
              have := next_same HNe.out h
              rw [hcA, hcB] at this
              exact (Option.some.inj this).symm
            have HTi : Hid ((j : Int) = r.2.1 → cA.1 = true → cB.1 = true → askE cA.2.1 y = 0 ∧ askE cB.2.1 y = 0 ∧ ¬ (askV cA.2.1 y < askV cB.2.1 y) ∧ cB.2.1.length = cA.2.1.length + 1 ∧ pointsE [cB.2.2, cA.2.2] = 0 ∧ looserP cB.2.2 cA.2.2 = none) := fun h1 h2 h3 => by
              have eA : cellAt cs r.2.1 = cA := by rw [← h1]; exact cellAt_nat hcA
              have hown := next_own HNe.out
              rw [← h1, Int.toNat_natCast, hcB] at hown
              have eB : (nextC cs r).1 = cB := (Option.some.inj hown).symm
              have := next_tight HGc.out HNe.out (by rw [eA]; exact h2) (by rw [eB]; exact h3) HOk.out
              rw [eA, eB] at this
              exact ⟨this.1, this.2.1, by omega, this.2.2.2⟩
            have HAa : Hid (∀ w', Below wj.heap.size wj w' → Calls Tryz.prog 52 #[.slice la cA.2.1.length lca, .agg #[.int .i64 (y 0), .int .i64 (y 1), .int .i64 (y 2), .int .i64 (y 3), .int .i64 (y 4)]] w' fun e w'' => e = .returned (.tuple #[.int .i64 (askV cA.2.1 y), .int .i64 (askE cA.2.1 y)]) ∧ Below w'.heap.size w' w'') := fun w' h => askD_any wj.heap.size _ cA.2.1 y w' ((ChsAt.mono hchA (by have := t5.size; have := (HCO.out wj t5).2.2.2.size; omega)).later h (Nat.le_refl _)) h.size
            have HAb : Hid (∀ w', Below wj.heap.size wj w' → Calls Tryz.prog 52 #[.slice lb cB.2.1.length lcb, .agg #[.int .i64 (y 0), .int .i64 (y 1), .int .i64 (y 2), .int .i64 (y 3), .int .i64 (y 4)]] w' fun e w'' => e = .returned (.tuple #[.int .i64 (askV cB.2.1 y), .int .i64 (askE cB.2.1 y)]) ∧ Below w'.heap.size w' w'') := fun w' h => askD_any wj.heap.size _ cB.2.1 y w' ((ChsAt.mono hchB t6.size).later h (Nat.le_refl _)) h.size
            have HLo : Hid (∀ w', Below wj.heap.size wj w' → Calls Tryz.prog 17 #[.agg #[.slice qb cB.2.2.1.length qcb, .int .i64 cB.2.2.2], .agg #[.slice pa cA.2.2.1.length pca, .int .i64 cA.2.2.2]] w' fun e w'' => e = .returned (.tuple #[.bool (looserP cB.2.2 cA.2.2).isSome, callV (looserC cB.2.2 cA.2.2), .int .i64 (pointsE [cB.2.2, cA.2.2])]) ∧ Below w'.heap.size w' w'') := fun w' h => looserD_any wj.heap.size _ _ cB.2.2 cA.2.2 w' ((polAt_wideK hpoB t6.size).later h (Nat.le_refl _)) ((polAt_wideK hpoA (by have := (HCO.out wj t5).2.2.2.size; omega)).later h (Nat.le_refl _)) h.size
            have HSa : Hid (∀ w', Below wj.heap.size wj w' → Calls Tryz.prog 47 #[.slice (some ⟨pb, po + j * 4, none⟩) 1 (pc - j), .slice (some ⟨nb2, no2 + j * 4, none⟩) 1 (nc - j)] w' fun e w'' => e = .returned (.bool (decide ([cA] = [cB]))) ∧ Below w'.heap.size w' w'') := fun w' h => sameKp_any wj.heap.size _ _ [cA] [cB] w' (((hoA.wide (by have := (HCO.out wj t5).2.2.2.size; omega)).later h (Nat.le_refl _)).one hcA) (((hoB.wide t6.size).later h (Nat.le_refl _)).one hcB) h.size
            have hpc : 4 ≤ pc := by
              obtain ⟨_, _, e, h, -⟩ := hoA
              simp at e
              rw [HGc.out.1] at h
              omega
            have hnc : 4 ≤ nc := by
              obtain ⟨_, _, e, h, -⟩ := hoB
              simp at e
              rw [HGn.out.1] at h
              omega
            have HBox : Hid (∀ w', Below wj.heap.size wj w' → w'.heap[wo.heap.size]? = some (.cells #[.int .i64 r.1, .int .i64 r.2.1, .int .i64 r.2.2.1, .slice ra rl rcp, .int .i64 r.2.2.2.2] 38 (0, 0)) ∧ w'.heap[w.heap.size]? = some (.cells (cellsX y) 26 (0, 0)) ∧ Below w7.heap.size w7 w') := fun w' h => by
              obtain ⟨h5, -, h7⟩ := HB5j.out w' h
              obtain ⟨-, g, hW, -⟩ := HCO.out w' h5
              exact ⟨g, (HK.out w' hW).1, h7⟩
            have HNl : Hid (cA.1 = true → cA.2.1.length ≤ 6) := fun h => chainErr_six (cellErr_open hok.1 h).1
            clear hatA hatB hinA hinB hchA hchB hpoA hpoB hok hokB hoA hoB hcA hcB t5 t6
            obtain ⟨nA, hnA⟩ : ∃ k, k = cA.2.1.length := ⟨_, rfl⟩
            obtain ⟨nB, hnB⟩ : ∃ k, k = cB.2.1.length := ⟨_, rfl⟩
            obtain ⟨mA, hmA⟩ : ∃ k, k = cA.2.2.1.length := ⟨_, rfl⟩
            obtain ⟨mB, hmB⟩ : ∃ k, k = cB.2.2.1.length := ⟨_, rfl⟩
            obtain ⟨oA, hoA⟩ : ∃ k, k = cA.1 := ⟨_, rfl⟩
            obtain ⟨oB, hoB⟩ : ∃ k, k = cB.1 := ⟨_, rfl⟩
            obtain ⟨eA, heA⟩ : ∃ k, k = cA.2.2.2 := ⟨_, rfl⟩
            obtain ⟨eB, heB⟩ : ∃ k, k = cB.2.2.2 := ⟨_, rfl⟩
            rw [← hnA] at a1 HAa HTi HNl
            rw [← hnB] at d1 HAb HTi
            rw [← hmA, ← heA] at HLo
            rw [← hmB, ← heB] at HLo
            rw [← hmA] at a2
            rw [← hmB] at d2
            rw [← heA] at a3
            rw [← heB] at d3
            rw [← hoA] at a0 HTi HNl
            rw [← hoB] at d0 HTi
            clear hnA hnB hmA hmB hoA hoB heA heB
            have hne := Later.ne wj
            have hDJ : Hid (∀ fs w', JTw wj #[.bool oA, .slice la nA lca, .slice pa mA pca, .int .i64 eA] fs w' → ∃ z : Later wj, w' = z.1) := fun fs w' h => ⟨⟨w', h.1⟩, rfl⟩
            have A0 : ∀ z : Later wj, z.1.cell? ⟨pb, po + j * 4, none⟩ = some (.bool oA) := fun z => z.cell a0 lA
            have A1 : ∀ z : Later wj, z.1.cell? ⟨pb, po + j * 4 + 1, none⟩ = some (.slice la nA lca) := fun z => z.cell a1 lA
            have A2 : ∀ z : Later wj, z.1.cell? ⟨pb, po + j * 4 + 2, none⟩ = some (.slice pa mA pca) := fun z => z.cell a2 lA
            have A3 : ∀ z : Later wj, z.1.cell? ⟨pb, po + j * 4 + 3, none⟩ = some (.int .i64 eA) := fun z => z.cell a3 lA
            have D0 : ∀ z : Later wj, z.1.cell? ⟨nb2, no2 + j * 4, none⟩ = some (.bool oB) := fun z => z.cell d0 lB
            have D1 : ∀ z : Later wj, z.1.cell? ⟨nb2, no2 + j * 4 + 1, none⟩ = some (.slice lb nB lcb) := fun z => z.cell d1 lB
            have D2 : ∀ z : Later wj, z.1.cell? ⟨nb2, no2 + j * 4 + 2, none⟩ = some (.slice qb mB qcb) := fun z => z.cell d2 lB
            have D3 : ∀ z : Later wj, z.1.cell? ⟨nb2, no2 + j * 4 + 3, none⟩ = some (.int .i64 eB) := fun z => z.cell d3 lB
            clear a0 a1 a2 a3 d0 d1 d2 d3
            go_wp2_with fail
            refine wp_region_free [_, _, _, _, _, _, _, _, _, _, _] _ rfl (fun k => k == 8 || k == 9 || k == 10) (JTw wj #[.bool oA, .slice la nA lca, .slice pa mA pca, .int .i64 eA]) STw sTw_some (by kernel_rfl) (by kernel_rfl) ⟨(Below.refl _ _).drew, fun _ h => h.elim, fun _ h => h.elim, fun _ _ h => h.elim, fun _ h => h.elim, fun _ _ h => h.elim⟩ ?_
            iterate 8 (refine wpG_read hDJ.out rfl rfl ?_; go_big_quiet_step (fail); refine wpQuiet_nil ?_)
            refine wpG_write rfl rfl (fun gs w' hJ hdep hno => ⟨.pointer (some ⟨w'.heap.size, 0, none⟩), w'.alloc (.cells zC4 77), ?_, ⟨_, rfl⟩, hJ.first hno⟩) (fun v8 hv8 => ?_)
            · clear hJ hdep hno hDJ hne A0 A1 A2 A3 D0 D1 D2 D3
              unfold zC4
              go_simp
            simp only [Act.put, List.setIfInBounds_toArray, List.set_cons_succ, List.set_cons_zero]
            obtain ⟨g8, rfl⟩ : ∃ g : Nat, v8 = .pointer (some ⟨g, 0, none⟩) := hv8
            refine wpG_write rfl rfl (fun gs w' hJ hdep hno => ⟨.pointer (some ⟨w'.heap.size, 0, none⟩), w'.alloc (.cells zC4 77), ?_, ⟨_, rfl⟩, hJ.second hno⟩) (fun v9 hv9 => ?_)
            · clear hJ hdep hno hDJ hne A0 A1 A2 A3 D0 D1 D2 D3
              unfold zC4
              go_simp
            simp only [Act.put, List.setIfInBounds_toArray, List.set_cons_succ, List.set_cons_zero]
            obtain ⟨g9, rfl⟩ : ∃ g : Nat, v9 = .pointer (some ⟨g, 0, none⟩) := hv9
            refine wpG_store rfl rfl (fun gs w' hJ hdep hno => ?_) (fun v10 hv10 => ?_)
            · have h8 := hdep 8 _ (.inl (.inr ⟨rfl, rfl⟩)) (waitsB_spec (by kernel_rfl))
              have h9 := hdep 9 _ (.inr ⟨rfl, rfl⟩) (waitsB_spec (by kernel_rfl))
              obtain ⟨hz, hst⟩ := hJ.put h8 h9 hno
              have y0 : w'.frozen? ⟨g8, 0, none⟩ = false := by simp [World.frozen?, hz]
              have y1 : w'.frozen? ⟨g8, 1, none⟩ = false := by simp [World.frozen?, hz]
              have y2 : w'.frozen? ⟨g8, 2, none⟩ = false := by simp [World.frozen?, hz]
              have y3 : w'.frozen? ⟨g8, 3, none⟩ = false := by simp [World.frozen?, hz]
              have z0 := heap_cell hz 0 rfl
              have z1 := heap_cell hz 1 rfl
              have z2 := heap_cell hz 2 rfl
              have z3 := heap_cell hz 3 rfl
              refine ⟨_, ?_, trivial, hst⟩
              clear hJ hdep hno hDJ hne h8 h9 hst hz A0 A1 A2 A3 D0 D1 D2 D3
              go_simp
            simp only [Act.put, List.setIfInBounds_toArray, List.set_cons_succ, List.set_cons_zero]
            refine wpG_nil ?_
            intro w8 hJ8
            have hj8 := hJ8.1
            obtain ⟨ga, ea, hga, ca, hca, hca2, -⟩ := hJ8.2.1 _ (.inl (.inl (.inr ⟨rfl, rfl⟩)))
            obtain ⟨gb, eb, hgb, hcb⟩ := hJ8.2.2.1 _ (.inl (.inr ⟨rfl, rfl⟩))
            have hgab := hJ8.2.2.2.1 _ _ (.inl (.inl (.inr ⟨rfl, rfl⟩))) (.inl (.inr ⟨rfl, rfl⟩))
            have hcv := hca2 ⟨_, .inr ⟨rfl, rfl⟩⟩
            subst hcv
            simp at ea eb hgab
            subst ea eb
            have hgab' : ¬ g9 = g8 := fun e => hgab e.symm
            obtain ⟨gr8, gx8, -⟩ := HBox.out w8 hj8
            have lR8 : wo.heap.size < wj.heap.size := lR
            have n1 : ¬ wo.heap.size = g9 := by omega
            have n2 : ¬ g9 = wo.heap.size := by omega
            obtain ⟨b1, b2, b3, b4⟩ := box4_put (u0 := .bool oB) (u1 := .slice lb nB lcb) (u2 := .slice qb mB qcb) (u3 := .int .i64 eB) hcb
            obtain ⟨W8, hW8⟩ : ∃ W8, W8 = (((w8.setCell ⟨g9, 0, none⟩ (.bool oB)).setCell ⟨g9, 1, none⟩ (.slice lb nB lcb)).setCell ⟨g9, 2, none⟩ (.slice qb mB qcb)).setCell ⟨g9, 3, none⟩ (.int .i64 eB) := ⟨_, rfl⟩
            rw [← hW8] at b1 b2 b3 b4
            have HBW8 : Hid (Below wj.heap.size wj W8) := hj8.trans (b4 _ hgb)
            have GA8 : Hid (∀ w', Below W8.heap.size W8 w' → w'.heap[g8]? = some (.cells #[.bool oA, .slice la nA lca, .slice pa mA pca, .int .i64 eA] 77 (0, 0)) ∧ w'.heap[g9]? = some (.cells #[.bool oB, .slice lb nB lcb, .slice qb mB qcb, .int .i64 eB] 77 (0, 0)) ∧ Below wj.heap.size wj w') := fun w' h => ⟨(h.block g8 (by rw [b3]; exact lt_of_block hca)).trans ((b2 g8 hgab).trans hca), (h.block g9 (by rw [b3]; exact lt_of_block hcb)).trans b1, Below.thenOf HBW8.out h HBW8.out.size⟩
            have x0 := heap_cell hcb 0 rfl
            have x1 := heap_cell hcb 1 rfl
            have x2 := heap_cell hcb 2 rfl
            have x3 := heap_cell hcb 3 rfl
            have f0 : w8.frozen? ⟨g9, 0, none⟩ = false := by simp [World.frozen?, hcb]
            have f1 : w8.frozen? ⟨g9, 1, none⟩ = false := by simp [World.frozen?, hcb]
            have f2 : w8.frozen? ⟨g9, 2, none⟩ = false := by simp [World.frozen?, hcb]
            have f3 : w8.frozen? ⟨g9, 3, none⟩ = false := by simp [World.frozen?, hcb]
            have A0 := heap_cell hca 0 rfl
            have A1 := heap_cell hca 1 rfl
            have lg8 := lt_of_block hca
            have lg9 := lt_of_block hcb
            have k1 := (rec_box gr8).2.1
            have HW8 : Hid (W8 = _) := hW8
            obtain ⟨rc, hrc⟩ : ∃ rc, rc = r.2.1 := ⟨_, rfl⟩
            rw [← hrc] at k1 HSmE HTi
            clear hW8 b1 b2 b3 b4 hca hcb hJ8 gr8 gx8 hca2 hDJ hne D0 D1 D2 D3 A2 A3 hrc
            by_cases hjr : (j : Int) = rc
            case neg =>
              have hq : ((j : Int) != rc) = true := by simpa using hjr
              have hAB : cA = cB := HSmE.out hjr
              have HSm : Hid (∀ q : Later W8, Calls Tryz.prog 47 #[.slice (some ⟨pb, po + j * 4, none⟩) 1 (pc - j), .slice (some ⟨nb2, no2 + j * 4, none⟩) 1 (nc - j)] q.1 fun e w'' => e = .returned (.bool true) ∧ Below q.1.heap.size q.1 w'') := fun q => by
                have := HSa.out q.1 (GA8.out q.1 q.2).2.2
                rw [hAB, decide_eq_true rfl] at this
                exact this
              have i4 : IntKind.i64.wrap ((j : Int) + 1) = ((j + 1 : Nat) : Int) := IntWalk.i64_in _ (by omega)
              have k4 : j + 1 ≤ 4 := by omega
              have k5 : j + 1 ≤ pc := by omega
              have k6 : j + 1 ≤ nc := by omega
              have hne := Later.ne W8
              clear HTi HAa HAb HLo HSa hAB hjr HSmE
              go_wp2_with fail
              rw [← HW8.out]
              clear HW8 x0 x1 x2 x3 f0 f1 f2 f3 A0 A1 k1
              refine wp_region_later (by kernel_rfl) (by kernel_rfl) ?_
              repeat (go_big_quiet_step (first
                | (go_at_call 47; exact Calls.later (HSm.out _))))
              refine wpQuiet_nil ?_
              rintro w10 ⟨⟨_, hb10⟩, rfl⟩
              have HZ : Hid (Below w7.heap.size w7 w10) := (HBox.out w10 (GA8.out w10 hb10).2.2).2.2
              clear hb10 hne HSm
              go_wp2_with fail
              exact ⟨⟨j + 1, by omega, by go_num, HZ⟩, by simp [intOf]; omega⟩
            case pos =>
              subst hjr
              cases oA with
              | false =>
                have HZ : Hid (Below w7.heap.size w7 W8) := (HBox.out W8 HBW8.out).2.2
                rw [HW8.out] at HZ
                clear HTi HAa HAb HLo HSa HSmE HW8 HBW8 GA8
                go_wp2_with fail
                exact ⟨⟨j + 1, by omega, by go_num, HZ⟩, by simp [intOf]; omega⟩
              | true =>
                cases oB with
                | false =>
                  have HZ : Hid (Below w7.heap.size w7 W8) := (HBox.out W8 HBW8.out).2.2
                  rw [HW8.out] at HZ
                  clear HTi HAa HAb HLo HSa HSmE HW8 HBW8 GA8
                  go_wp2_with fail
                  exact ⟨⟨j + 1, by omega, by go_num, HZ⟩, by simp [intOf]; omega⟩
                | true =>
                  obtain ⟨e1, e2, e3, e4, e5, e6⟩ := HTi.out rfl rfl rfl
                  rw [e1] at HAa
                  rw [e2] at HAb
                  rw [e5, e6] at HLo
                  have hvv : ¬ (askV cA.2.1 y < askV cB.2.1 y) := by omega
                  obtain rfl : nB = nA + 1 := e4
                  have hA6 := HNl.out rfl
                  clear e1 e2 e3 e5 e6 HTi
                  generalize askV cA.2.1 y = vA at *
                  generalize askV cB.2.1 y = vB at *
                  have HXc : Hid (∀ w', Below wj.heap.size wj w' → w'.cell? ⟨w.heap.size, 0, none⟩ = some (.int .i64 (y 0)) ∧ w'.cell? ⟨w.heap.size, 1, none⟩ = some (.int .i64 (y 1)) ∧ w'.cell? ⟨w.heap.size, 2, none⟩ = some (.int .i64 (y 2)) ∧ w'.cell? ⟨w.heap.size, 3, none⟩ = some (.int .i64 (y 3)) ∧ w'.cell? ⟨w.heap.size, 4, none⟩ = some (.int .i64 (y 4))) := fun w' h => five_atK (HBox.out w' h).2.1
                  obtain ⟨c0, c1, c2, c3, c4⟩ := HXc.out w8 hj8
                  have lw8 : w.heap.size < w8.heap.size := World.block_lt_of_cell? _ _ c0
                  have hos2 := (HBox.out w8 hj8).1
                  have n3 : ¬ w.heap.size = g9 := by have := lt_of_block (HBox.out wj (Below.refl _ _)).2.1; omega
                  have n4 : ¬ g9 = w.heap.size := fun e => n3 e.symm
                  clear HSa HSmE hos2
                  go_wp2_with fail
                  rw [← HW8.out]
                  go_at_call 52
                  refine Calls.mono (HAa.out _ HBW8.out) ?_
                  rintro e w9 ⟨rfl, hb9⟩
                  obtain ⟨ga9, gb9, bj9⟩ := GA8.out w9 hb9
                  clear x0 x1 x2 x3 f0 f1 f2 f3 A0 A1 k1 c0 c1 c2 c3 c4 HW8
                  obtain ⟨c0, c1, c2, c3, c4⟩ := HXc.out w9 bj9
                  have p1 := heap_cell gb9 1 rfl
                  go_wp2_with fail
                  go_at_call 52
                  refine Calls.mono (HAb.out _ bj9) ?_
                  rintro e w10 ⟨rfl, hb10⟩
                  have hb810 := Below.thenOf hb9 hb10 hb9.size
                  obtain ⟨ga10, gb10, bj10⟩ := GA8.out w10 hb810
                  clear c0 c1 c2 c3 c4 p1 ga9 gb9 bj9 hb9 hb10
                  have p1 := heap_cell ga10 1 rfl
                  have p2 := heap_cell gb10 1 rfl
                  have p3 := heap_cell gb10 2 rfl
                  have p4 : w10.cell? ⟨g9, 2 + 1, none⟩ = some (.int .i64 eB) := heap_cell gb10 3 rfl
                  have p5 := heap_cell ga10 2 rfl
                  have p6 : w10.cell? ⟨g8, 2 + 1, none⟩ = some (.int .i64 eA) := heap_cell ga10 3 rfl
                  have hw1 : IntKind.i64.wrap ((nA : Int) + 1) = ((nA + 1 : Nat) : Int) := IntWalk.i64_in _ (by omega)
                  go_wp2_with fail
                  go_at_call 17
                  refine Calls.mono (HLo.out _ bj10) ?_
                  rintro e w11 ⟨rfl, hb11⟩
                  have HZ : Hid (∀ X, Below w7.heap.size w7 (w11.alloc X)) := fun X => (HBox.out w11 (Below.thenOf bj10 hb11 bj10.size)).2.2.alloc (HBox.out w11 (Below.thenOf bj10 hb11 bj10.size)).2.2.size _
                  unfold callV
                  generalize looserC cB.2.2 cA.2.2 = lc at *
                  clear hb11 bj10 p1 p2 p3 p4 p5 p6 ga10 gb10 hb810 HLo HAa HAb GA8 HXc
                  go_wp2_with fail
                  exact ⟨⟨j + 1, by omega, by go_num, HZ.out _⟩, by simp [intOf]; omega⟩
          · have HB5j : Hid (Below W5.heap.size W5 wj ∧ Below w6.heap.size w6 wj) := ⟨Below.thenOf HB57.out HBj.out HB57.out.size, Below.thenOf HB67.out HBj.out HB67.out.size⟩
            have HS' : Hid (∃ cs, Good cs ∧ CellsAt wj.heap.size wj (.slice (some ⟨nb2, no2, none⟩) 4 nc) cs) := ⟨nextR cs r, HGn.out, (HC6.out.later HB5j.out.2 (Nat.le_refl _)).wide HB5j.out.2.size⟩
            have HB1j : Hid (Below W1.heap.size W1 wj) := (HCO.out wj HB5j.out.1).2.2.1
            clear HCO HC6
            go_wp2_with fail
            exact ⟨⟨i + 1, by omega, by go_num, ⟨_, _, _, rfl⟩, HS', HB1j⟩, by simp [intOf]; omega⟩
    · have HZ : Hid (Below w.heap.size w wo) := (HK.out wo HBr.out).2
      go_wp2_with fail
      go_ret
      exact ⟨rfl, HZ.out⟩
end Go.Proofs.YtbdlojnigflanacGreatDoor
