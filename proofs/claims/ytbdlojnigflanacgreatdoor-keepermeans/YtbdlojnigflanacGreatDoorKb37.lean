/- Package keeper: become. -/
import Derived.Test.YtbdlojnigflanacGreatDoorKb36
set_option linter.all false
set_option maxRecDepth 100000
namespace Go.Proofs.YtbdlojnigflanacGreatDoor
open Go.RowKit Go.Maps

set_option maxHeartbeats 4000000 in
theorem becomeK_open (B : Nat) (a : Option Addr) (cap : Nat) (ra : Option Addr) (rl rc : Nat) (l : List CellT) (ci fi : Nat) (rs : List RuleT) (d : Int) (w : World) (hl : CellsAt B w (.slice a 4 cap) l) (hp : PolAt B w (.agg #[.slice ra rl rc, .int .i64 d]) (rs, d)) (hB : B ≤ w.heap.size) :
    Calls Tryz.prog 98 #[.slice a 4 cap, .agg #[.int .i64 1, .int .i64 ci, .int .i64 fi, .slice ra rl rc, .int .i64 d]] w fun e w' => ∃ v, e = .returned (.tuple #[v, .int .i64 (openC (rs, d)).2]) ∧ CellNew w.heap.size w' v (openC (rs, d)).1 ∧ Below w.heap.size w w' := by
  obtain ⟨W2, hW2⟩ : ∃ W2, W2 = (w.alloc (.cells #[.int .i64 1, .int .i64 ci, .int .i64 fi, .slice ra rl rc, .int .i64 d] 38)).alloc (.cells #[.bool false, .slice none 0 0, .slice none 0 0, .int .i64 0] 77) := ⟨_, rfl⟩
  have hb2 : Below w.heap.size w W2 := by rw [hW2]; exact ((Below.refl _ _).alloc (Nat.le_refl _) _).alloc (by simp) _
  have hs2 : W2.heap.size = w.heap.size + 1 + 1 := by rw [hW2]; simp
  have g0 : W2.heap[w.heap.size]? = some (.cells #[.int .i64 1, .int .i64 ci, .int .i64 fi, .slice ra rl rc, .int .i64 d] 38 (0, 0)) := by rw [hW2]; exact heap_kept' _ (heap_at _ _ rfl)
  have g1 : W2.heap[w.heap.size + 1]? = some (.cells #[.bool false, .slice none 0 0, .slice none 0 0, .int .i64 0] 77 (0, 0)) := by rw [hW2]; exact heap_at _ _ (by simp only [World.size_alloc])
  have HW2 : Hid (W2 = _) := hW2
  have HS2 : Hid (W2.heap.size = w.heap.size + 1 + 1) := hs2
  have HB2 : Hid (Below w.heap.size w W2) := hb2
  have HG1 : Hid (W2.heap[w.heap.size + 1]? = _) := g1
  have HBe : Hid (Calls Tryz.prog 154 #[.agg #[.slice ra rl rc, .int .i64 d]] W2 fun e w'' => ∃ v, e = .returned (.tuple #[v, .int .i64 (openC (rs, d)).2]) ∧ CellNew W2.heap.size w'' v (openC (rs, d)).1 ∧ Below W2.heap.size W2 w'') := beginK_any B _ (rs, d) W2 (hp.later hb2 hB) (Nat.le_trans hB hb2.size)
  clear hl hp hW2 g0 g1 hb2 hs2 hB
  generalize (openC (rs, d)).2 = ee at *
  generalize (openC (rs, d)).1 = C5 at *
  go_enter Tryz.func98, Tryz.ntmps98
  go_wp2_with fail
  rw [← HW2.out]
  go_at_call 154
  refine Calls.mono HBe.out ?_
  rintro e w3 ⟨v, rfl, hcn, hb3⟩
  clear HBe
  obtain ⟨la5, lc5, ra5, rc5, ev, h1, h2⟩ := id hcn
  have HCN : Hid (CellNew W2.heap.size w3 v C5) := hcn
  obtain ⟨z0, z1, z2, z3, f0, f1, f2, f3⟩ := box4_free ((hb3.block _ (lt_of_block HG1.out)).trans HG1.out)
  have HB3 : Hid (Below w.heap.size w w3) := Below.thenOf HB2.out hb3 HB2.out.size
  have hlt3 : w.heap.size + 1 < w3.heap.size := Nat.lt_of_lt_of_le (lt_of_block HG1.out) hb3.size
  rw [ev] at HCN ⊢
  clear ev h1 h2 hcn hb3 HG1
  generalize (C5).1 = b5 at *
  generalize (C5).2.1.length = n5 at *
  generalize (C5).2.2.1.length = m5 at *
  generalize (C5).2.2.2 = d5 at *
  go_wp2_with fail
  refine bodyPost_ret (v := .tuple #[.agg #[.bool b5, .slice la5 n5 lc5, .slice ra5 m5 rc5, .int .i64 d5], .int .i64 ee]) ?_ rfl ⟨_, rfl, ?_, ?_⟩
  · rw [results_cell_tmp rfl]
    go_simp
  · refine CellNew.keep (L := W2.heap.size) ?_ HB2.out.size (fun g _ _ => rfl) (Nat.le_refl _)
    repeat (first | refine CellNew.put ?_ (.inl (by rw [HS2.out]; omega)) | exact HCN.out)
  · repeat (first | refine Below.setCell ?_ (by show w.heap.size ≤ w.heap.size + 1; omega) _ | exact HB3.out)

set_option maxHeartbeats 4000000 in
theorem becomeK_fork (B : Nat) (a : Option Addr) (cap : Nat) (ra : Option Addr) (rl rc : Nat) (l : List CellT) (ci fi : Nat) (rs : List RuleT) (d : Int) (w : World) (hl : CellsAt B w (.slice a 4 cap) l) (hlen : l.length = 4) (hB : B ≤ w.heap.size) (fo : Bool) (fls : ChT) (fr : List RuleT) (fd : Int) (hfk : l[fi]? = some (fo, fls, fr, fd)) :
    Calls Tryz.prog 98 #[.slice a 4 cap, .agg #[.int .i64 3, .int .i64 ci, .int .i64 fi, .slice ra rl rc, .int .i64 d]] w fun e w' => ∃ v, e = .returned (.tuple #[v, .int .i64 (openC (fr, fd)).2]) ∧ CellNew w.heap.size w' v (openC (fr, fd)).1 ∧ Below w.heap.size w w' := by
  obtain ⟨W2, hW2⟩ : ∃ W2, W2 = (w.alloc (.cells #[.int .i64 3, .int .i64 ci, .int .i64 fi, .slice ra rl rc, .int .i64 d] 38)).alloc (.cells #[.bool false, .slice none 0 0, .slice none 0 0, .int .i64 0] 77) := ⟨_, rfl⟩
  have hb2 : Below w.heap.size w W2 := by rw [hW2]; exact ((Below.refl _ _).alloc (Nat.le_refl _) _).alloc (by simp) _
  have hs2 : W2.heap.size = w.heap.size + 1 + 1 := by rw [hW2]; simp
  have g0 : W2.heap[w.heap.size]? = some (.cells #[.int .i64 3, .int .i64 ci, .int .i64 fi, .slice ra rl rc, .int .i64 d] 38 (0, 0)) := by rw [hW2]; exact heap_kept' _ (heap_at _ _ rfl)
  have g1 : W2.heap[w.heap.size + 1]? = some (.cells #[.bool false, .slice none 0 0, .slice none 0 0, .int .i64 0] 77 (0, 0)) := by rw [hW2]; exact heap_at _ _ (by simp only [World.size_alloc])
  have HW2 : Hid (W2 = _) := hW2
  have HS2 : Hid (W2.heap.size = w.heap.size + 1 + 1) := hs2
  have HB2 : Hid (Below w.heap.size w W2) := hb2
  have HG1 : Hid (W2.heap[w.heap.size + 1]? = _) := g1
  have hfi : fi < 4 := by
    have := (List.getElem?_eq_some_iff.1 hfk).1
    omega
  have hfi' : (fi : Int) < 4 := by omega
  have hfi0 : (0 : Int) ≤ (fi : Int) := by omega
  obtain ⟨_, _, e1, h4c, -, hat⟩ := id hl
  obtain ⟨b, o, e, hbB, hin⟩ := hat fi _ hfk
  simp at e1
  obtain ⟨rfl, -, rfl⟩ := e1
  subst e
  obtain ⟨la, lc, pa, pc, c0, c1, c2, c3, -, hpo⟩ := hin.vals
  rw [hlen] at h4c
  simp only at c2 c3 hpo
  have hbl : b < w.heap.size := by omega
  have HBe : Hid (Calls Tryz.prog 154 #[.agg #[.slice pa fr.length pc, .int .i64 fd]] W2 fun e w'' => ∃ v, e = .returned (.tuple #[v, .int .i64 (openC (fr, fd)).2]) ∧ CellNew W2.heap.size w'' v (openC (fr, fd)).1 ∧ Below W2.heap.size W2 w'') := beginK_any B _ (fr, fd) W2 (hpo.later hb2 hB) (Nat.le_trans hB hb2.size)
  clear hl hpo hin hat hW2 g0 g1 hb2 hs2 hB hfk hlen c0 c1
  generalize fr.length = fn at *
  generalize (openC (fr, fd)).2 = ee at *
  generalize (openC (fr, fd)).1 = C5 at *
  go_enter Tryz.func98, Tryz.ntmps98
  go_wp2_with fail
  rw [← HW2.out]
  go_at_call 154
  refine Calls.mono HBe.out ?_
  rintro e w3 ⟨v, rfl, hcn, hb3⟩
  clear HBe c2 c3
  obtain ⟨la5, lc5, ra5, rc5, ev, h1, h2⟩ := id hcn
  have HCN : Hid (CellNew W2.heap.size w3 v C5) := hcn
  obtain ⟨z0, z1, z2, z3, f0, f1, f2, f3⟩ := box4_free ((hb3.block _ (lt_of_block HG1.out)).trans HG1.out)
  have HB3 : Hid (Below w.heap.size w w3) := Below.thenOf HB2.out hb3 HB2.out.size
  have hlt3 : w.heap.size + 1 < w3.heap.size := Nat.lt_of_lt_of_le (lt_of_block HG1.out) hb3.size
  rw [ev] at HCN ⊢
  clear ev h1 h2 hcn hb3 HG1
  generalize (C5).1 = b5 at *
  generalize (C5).2.1.length = n5 at *
  generalize (C5).2.2.1.length = m5 at *
  generalize (C5).2.2.2 = d5 at *
  go_wp2_with fail
  refine bodyPost_ret (v := .tuple #[.agg #[.bool b5, .slice la5 n5 lc5, .slice ra5 m5 rc5, .int .i64 d5], .int .i64 ee]) ?_ rfl ⟨_, rfl, ?_, ?_⟩
  · rw [results_cell_tmp rfl]
    go_simp
  · refine CellNew.keep (L := W2.heap.size) ?_ HB2.out.size (fun g _ _ => rfl) (Nat.le_refl _)
    repeat (first | refine CellNew.put ?_ (.inl (by rw [HS2.out]; omega)) | exact HCN.out)
  · repeat (first | refine Below.setCell ?_ (by show w.heap.size ≤ w.heap.size + 1; omega) _ | exact HB3.out)

set_option maxHeartbeats 4000000 in
theorem becomeK_shut (B : Nat) (a : Option Addr) (cap : Nat) (ra : Option Addr) (rl rc : Nat) (l : List CellT) (ci fi : Nat) (rs : List RuleT) (d : Int) (w : World) (hl : CellsAt B w (.slice a 4 cap) l) :
    Calls Tryz.prog 98 #[.slice a 4 cap, .agg #[.int .i64 4, .int .i64 ci, .int .i64 fi, .slice ra rl rc, .int .i64 d]] w fun e w' => ∃ v, e = .returned (.tuple #[v, .int .i64 0]) ∧ CellNew w.heap.size w' v zeroCell ∧ Below w.heap.size w w' := by
  have HB : Hid (Below w.heap.size w ((w.alloc (.cells #[.int .i64 4, .int .i64 ci, .int .i64 fi, .slice ra rl rc, .int .i64 d] 38)).alloc (.cells #[.bool false, .slice none 0 0, .slice none 0 0, .int .i64 0] 77))) := ((Below.refl _ _).alloc (Nat.le_refl _) _).alloc (by simp) _
  clear hl
  go_enter Tryz.func98, Tryz.ntmps98
  go_wp2_with fail
  refine bodyPost_ret (v := .tuple #[.agg #[.bool false, .slice none 0 0, .slice none 0 0, .int .i64 0], .int .i64 0]) ?_ rfl ⟨_, rfl, cellNew_zero _ _, ?_⟩
  · rw [results_cell_tmp rfl]
    go_simp
  · repeat (first | exact HB.out | refine Below.setCell ?_ (by show w.heap.size ≤ w.heap.size + 1; omega) _ | exact Below.refl _ _ | refine Below.alloc ?_ (by simp) _)

/-- What stands behind a call that makes a session, and behind its being stored. -/
def JTg (bo : Nat) (W : World) (E : Int) (C : CellT) (fs : Nat → Value → Prop) (w : World) : Prop :=
  ((∀ u, ¬ fs 10 u) ∧ Below W.heap.size W w ∧ ∀ v, fs 7 v → ∃ u, v = .tuple #[u, .int .i64 E] ∧ CellNew W.heap.size w u C) ∨
  ((∃ u, fs 10 u) ∧ (∃ u, fs 7 u) ∧ ∃ w0 b la n lc ra m rc d, w = (((w0.setCell ⟨bo, 0, none⟩ (.bool b)).setCell ⟨bo, 1, none⟩ (.slice la n lc)).setCell ⟨bo, 2, none⟩ (.slice ra m rc)).setCell ⟨bo, 3, none⟩ (.int .i64 d) ∧ Below W.heap.size W w0 ∧ CellNew W.heap.size w0 (.agg #[.bool b, .slice la n lc, .slice ra m rc, .int .i64 d]) C)
theorem JTg.box {bo : Nat} {W w : World} {E : Int} {C : CellT} {fs : Nat → Value → Prop} (h : JTg bo W E C fs w) {b : Nat} {o : Obj} (hb : W.heap[b]? = some o) (hne : b ≠ bo) : w.heap[b]? = some o := by
  have hl := (Array.getElem?_eq_some_iff.1 hb).1
  rcases h with ⟨_, h2, _⟩ | ⟨_, _, w0, _, _, _, _, _, _, _, _, rfl, h2, _⟩
  · exact (h2.block b hl).trans hb
  · exact ((((Below.heap_setCell _ _ _ _ hne).trans (Below.heap_setCell _ _ _ _ hne)).trans (Below.heap_setCell _ _ _ _ hne)).trans (Below.heap_setCell _ _ _ _ hne)).trans ((h2.block b hl).trans hb)
def STg (E : Int) (k : Nat) (v : Value) : Prop := k = 7 → ∃ b la n lc ra m rc d, v = .tuple #[.agg #[.bool b, .slice la n lc, .slice ra m rc, .int .i64 d], .int .i64 E]
theorem sTg_some (E : Int) (k : Nat) : ∃ v, STg E k v := ⟨.tuple #[.agg #[.bool true, .slice none 0 0, .slice none 0 0, .int .i64 0], .int .i64 E], fun _ => ⟨_, _, _, _, _, _, _, _, rfl⟩⟩
def RdT (r b o : Nat) (u1 u3 u4 v0 v1 v2 v3 : Value) : Type := { w' : World // (w'.cell? ⟨r, 1, none⟩ = some u1 ∧ w'.cell? ⟨r, 3, none⟩ = some u3 ∧ w'.cell? ⟨r, 4, none⟩ = some u4) ∧ w'.cell? ⟨b, o, none⟩ = some v0 ∧ w'.cell? ⟨b, o + 1, none⟩ = some v1 ∧ w'.cell? ⟨b, o + 2, none⟩ = some v2 ∧ w'.cell? ⟨b, o + 3, none⟩ = some v3 }
set_option maxHeartbeats 4000000 in
theorem becomeK_tight (B : Nat) (a : Option Addr) (cap : Nat) (ra : Option Addr) (rl rc : Nat) (l : List CellT) (ci fi : Nat) (rs : List RuleT) (d : Int) (w : World) (hl : CellsAt B w (.slice a 4 cap) l) (hp : PolAt B w (.agg #[.slice ra rl rc, .int .i64 d]) (rs, d)) (hlen : l.length = 4) (hB : B ≤ w.heap.size) (hpe : polErr (rs, d) = 0) (c : CellT) (hck : l[ci]? = some c) :
    Calls Tryz.prog 98 #[.slice a 4 cap, .agg #[.int .i64 2, .int .i64 ci, .int .i64 fi, .slice ra rl rc, .int .i64 d]] w fun e w' => ∃ v, e = .returned (.tuple #[v, .int .i64 (tightE c.2.1 c.2.2 (rs, d))]) ∧ CellNew w.heap.size w' v (if tightE c.2.1 c.2.2 (rs, d) = 0 then (true, tightR c.2.1 c.2.2 (rs, d), rs, d) else zeroCell) ∧ Below w.heap.size w w' := by
  obtain ⟨W2, hW2⟩ : ∃ W2, W2 = (w.alloc (.cells #[.int .i64 2, .int .i64 ci, .int .i64 fi, .slice ra rl rc, .int .i64 d] 38)).alloc (.cells #[.bool false, .slice none 0 0, .slice none 0 0, .int .i64 0] 77) := ⟨_, rfl⟩
  have hb2 : Below w.heap.size w W2 := by rw [hW2]; exact ((Below.refl _ _).alloc (Nat.le_refl _) _).alloc (by simp) _
  have hs2 : W2.heap.size = w.heap.size + 1 + 1 := by rw [hW2]; simp
  have g0 : W2.heap[w.heap.size]? = some (.cells #[.int .i64 2, .int .i64 ci, .int .i64 fi, .slice ra rl rc, .int .i64 d] 38 (0, 0)) := by rw [hW2]; exact heap_kept' _ (heap_at _ _ rfl)
  have g1 : W2.heap[w.heap.size + 1]? = some (.cells #[.bool false, .slice none 0 0, .slice none 0 0, .int .i64 0] 77 (0, 0)) := by rw [hW2]; exact heap_at _ _ (by simp only [World.size_alloc])
  have HW2 : Hid (W2 = _) := hW2
  have HS2 : Hid (W2.heap.size = w.heap.size + 1 + 1) := hs2
  have HB2 : Hid (Below w.heap.size w W2) := hb2
  have hci : ci < 4 := by
    have := (List.getElem?_eq_some_iff.1 hck).1
    omega
  have hci' : (ci : Int) < 4 := by omega
  have hci0 : (0 : Int) ≤ (ci : Int) := by omega
  obtain ⟨_, _, e1, h4c, -, hat⟩ := id hl
  obtain ⟨b, o, e, hbB, hin⟩ := hat ci _ hck
  simp at e1
  obtain ⟨rfl, -, rfl⟩ := e1
  subst e
  obtain ⟨la, lc, pa, pc, c0, c1, c2, c3, hcv⟩ := hin.val
  rw [hlen] at h4c
  have hbl : b < w.heap.size := by omega
  have HTi : Hid (∀ w', Below w.heap.size w w' → Calls Tryz.prog 155 #[.agg #[.bool c.1, .slice la c.2.1.length lc, .slice pa c.2.2.1.length pc, .int .i64 c.2.2.2], .agg #[.slice ra rl rc, .int .i64 d]] w' fun e w'' => ∃ v, e = .returned (.tuple #[v, .int .i64 (tightE c.2.1 c.2.2 (rs, d))]) ∧ CellNew w'.heap.size w'' v (if tightE c.2.1 c.2.2 (rs, d) = 0 then (true, tightR c.2.1 c.2.2 (rs, d), rs, d) else zeroCell) ∧ Below w'.heap.size w' w'') := fun w' h => tightenK_any B _ _ c (rs, d) w' (hcv.later h hB) (hp.later h hB) (Nat.le_trans hB h.size) hpe
  clear hl hp hin hat hB hlen hcv hck hpe
  generalize (if tightE c.2.1 c.2.2 (rs, d) = 0 then (true, tightR c.2.1 c.2.2 (rs, d), rs, d) else zeroCell) = C5 at *
  generalize tightE c.2.1 c.2.2 (rs, d) = ee at *
  generalize c.2.1.length = n1 at *
  generalize c.2.2.1.length = n2 at *
  generalize c.2.2.2 = cd at *
  generalize c.1 = cb at *
  have hbo : b ≠ w.heap.size + 1 := by omega
  have HD : Hid (∀ w' : World, (∀ k o, W2.heap[k]? = some o → k ≠ w.heap.size + 1 → w'.heap[k]? = some o) → ∃ z : RdT w.heap.size b (o + ci * 4) (.int .i64 ci) (.slice ra rl rc) (.int .i64 d) (.bool cb) (.slice la n1 lc) (.slice pa n2 pc) (.int .i64 cd), w' = z.1) := fun w' h => by
    have r0 := h _ _ g0 (by omega)
    have cc : ∀ q u, w.cell? ⟨b, q, none⟩ = some u → w'.cell? ⟨b, q, none⟩ = some u := fun q u hu => by
      have hbk : W2.heap[b]? = w.heap[b]? := hb2.block b hbl
      obtain ⟨ob, hob⟩ : ∃ ob, w.heap[b]? = some ob := ⟨w.heap[b]'hbl, by simp⟩
      have hw' := h b ob (hbk.trans hob) hbo
      rw [← hu]
      simp only [World.cell?, hw', hob]
    exact ⟨⟨w', ⟨heap_cell r0 1 rfl, heap_cell r0 3 rfl, heap_cell r0 4 rfl⟩, cc _ _ c0, cc _ _ c1, cc _ _ c2, cc _ _ c3⟩, rfl⟩
  have hDJ : Hid (∀ fs w', JTg (w.heap.size + 1) W2 ee C5 fs w' → ∃ z : RdT w.heap.size b (o + ci * 4) (.int .i64 ci) (.slice ra rl rc) (.int .i64 d) (.bool cb) (.slice la n1 lc) (.slice pa n2 pc) (.int .i64 cd), w' = z.1) := fun fs w' h => HD.out w' fun k o hk hne => h.box hk hne
  obtain ⟨z0, -⟩ := HD.out W2 fun k o h _ => h
  have hne : Nonempty (RdT w.heap.size b (o + ci * 4) (.int .i64 ci) (.slice ra rl rc) (.int .i64 d) (.bool cb) (.slice la n1 lc) (.slice pa n2 pc) (.int .i64 cd)) := ⟨z0⟩
  have q1 : ∀ z : RdT w.heap.size b (o + ci * 4) (.int .i64 ci) (.slice ra rl rc) (.int .i64 d) (.bool cb) (.slice la n1 lc) (.slice pa n2 pc) (.int .i64 cd), z.1.cell? ⟨w.heap.size, 1, none⟩ = some (.int .i64 ci) := fun z => z.2.1.1
  have q2 : ∀ z : RdT w.heap.size b (o + ci * 4) (.int .i64 ci) (.slice ra rl rc) (.int .i64 d) (.bool cb) (.slice la n1 lc) (.slice pa n2 pc) (.int .i64 cd), z.1.cell? ⟨w.heap.size, 3, none⟩ = some (.slice ra rl rc) := fun z => z.2.1.2.1
  have q3 : ∀ z : RdT w.heap.size b (o + ci * 4) (.int .i64 ci) (.slice ra rl rc) (.int .i64 d) (.bool cb) (.slice la n1 lc) (.slice pa n2 pc) (.int .i64 cd), z.1.cell? ⟨w.heap.size, 4, none⟩ = some (.int .i64 d) := fun z => z.2.1.2.2
  have q4 : ∀ z : RdT w.heap.size b (o + ci * 4) (.int .i64 ci) (.slice ra rl rc) (.int .i64 d) (.bool cb) (.slice la n1 lc) (.slice pa n2 pc) (.int .i64 cd), z.1.cell? ⟨b, o + ci * 4, none⟩ = some (.bool cb) := fun z => z.2.2.1
  have q5 : ∀ z : RdT w.heap.size b (o + ci * 4) (.int .i64 ci) (.slice ra rl rc) (.int .i64 d) (.bool cb) (.slice la n1 lc) (.slice pa n2 pc) (.int .i64 cd), z.1.cell? ⟨b, o + ci * 4 + 1, none⟩ = some (.slice la n1 lc) := fun z => z.2.2.2.1
  have q6 : ∀ z : RdT w.heap.size b (o + ci * 4) (.int .i64 ci) (.slice ra rl rc) (.int .i64 d) (.bool cb) (.slice la n1 lc) (.slice pa n2 pc) (.int .i64 cd), z.1.cell? ⟨b, o + ci * 4 + 2, none⟩ = some (.slice pa n2 pc) := fun z => z.2.2.2.2.1
  have q7 : ∀ z : RdT w.heap.size b (o + ci * 4) (.int .i64 ci) (.slice ra rl rc) (.int .i64 d) (.bool cb) (.slice la n1 lc) (.slice pa n2 pc) (.int .i64 cd), z.1.cell? ⟨b, o + ci * 4 + 3, none⟩ = some (.int .i64 cd) := fun z => z.2.2.2.2.2
  have HG1 : Hid (W2.heap[w.heap.size + 1]? = some (.cells #[.bool false, .slice none 0 0, .slice none 0 0, .int .i64 0] 77 (0, 0))) := g1
  clear hW2 g0 g1 hb2 hs2 c0 c1 c2 c3 hbo HD z0
  go_enter Tryz.func98, Tryz.ntmps98
  go_wp2_with fail
  rw [← HW2.out]
  refine wp_region_free [_, _, _, _, _, _, _, _, _, _, _] _ rfl (fun k => k == 7 || k == 10) (JTg (w.heap.size + 1) W2 ee C5) (STg ee) (sTg_some ee) (by kernel_rfl) (by kernel_rfl) (.inl ⟨fun _ h => h, (Below.refl _ _).drew, fun _ h => h.elim⟩) ?_
  iterate 7 (refine wpG_read hDJ.out rfl rfl ?_; go_big_quiet_step (fail); refine wpQuiet_nil ?_)
  refine wpG_call 155 #[.agg #[.bool cb, .slice la n1 lc, .slice pa n2 pc, .int .i64 cd], .agg #[.slice ra rl rc, .int .i64 d]] rfl rfl (fun w' => by kernel_rfl) (fun gs w' hJ hdep hno => ?_) (fun v7 hv7 => ?_)
  · rcases hJ with ⟨j1, j2, j3⟩ | ⟨_, ⟨u, hu⟩, _⟩
    · refine (HTi.out w' (Below.thenOf HB2.out j2 HB2.out.size)).mono ?_
      rintro e w4 ⟨v, rfl, hcn, hb⟩
      obtain ⟨la5, lc5, ra5, rc5, ev, -, -⟩ := id hcn
      refine ⟨_, rfl, fun _ => ⟨_, _, _, _, _, _, _, _, by rw [ev]⟩, .inl ⟨fun u hu => ?_, Below.thenOf j2 hb j2.size, fun v' hv' => ?_⟩⟩
      · rcases hu with hu | ⟨e, _⟩
        · exact j1 u hu
        · cases e
      · rcases hv' with hv' | ⟨_, rfl⟩
        · exact absurd hv' (hno _)
        · exact ⟨v, rfl, hcn.keep j2.size (fun _ _ _ => rfl) (Nat.le_refl _)⟩
    · exact absurd hu (hno _)
  simp only [Act.put, List.setIfInBounds_toArray, List.set_cons_succ, List.set_cons_zero]
  obtain ⟨b5, la5, n5, lc5, ra5, m5, rc5, d5, rfl⟩ := hv7 rfl
  iterate 2 (refine wpG_read hDJ.out rfl rfl ?_; go_big_quiet_step (fail); refine wpQuiet_nil ?_)
  refine wpG_store rfl rfl (fun gs w' hJ hdep hno => ?_) (fun v10 hv10 => ?_)
  · have h7 := hdep 7 _ (.inr ⟨rfl, rfl⟩) (waitsB_spec (by kernel_rfl))
    rcases hJ with ⟨j1, j2, j3⟩ | ⟨⟨u, hu⟩, _⟩
    · obtain ⟨u, eu, hcn⟩ := j3 _ h7
      simp at eu
      subst eu
      obtain ⟨y0, y1, y2, y3, f0, f1, f2, f3⟩ := box4_free ((j2.block _ (lt_of_block HG1.out)).trans HG1.out)
      refine ⟨(((w'.setCell ⟨w.heap.size + 1, 0, none⟩ (.bool b5)).setCell ⟨w.heap.size + 1, 1, none⟩ (.slice la5 n5 lc5)).setCell ⟨w.heap.size + 1, 2, none⟩ (.slice ra5 m5 rc5)).setCell ⟨w.heap.size + 1, 3, none⟩ (.int .i64 d5), ?_, fun e => absurd e (by decide), .inr ⟨⟨_, .inr ⟨rfl, rfl⟩⟩, ⟨_, .inl h7⟩, w', b5, la5, n5, lc5, ra5, m5, rc5, d5, rfl, j2, hcn⟩⟩
      clear hdep hno hDJ hne h7 hcn j1 j2 j3 q1 q2 q3 q4 q5 q6 q7
      go_simp
    · exact absurd hu (hno _)
  simp only [Act.put, List.setIfInBounds_toArray, List.set_cons_succ, List.set_cons_zero]
  refine wpG_nil ?_
  intro w4 hJ
  rcases hJ with ⟨j1, _⟩ | ⟨_, _, w0, b6, la6, n6, lc6, ra6, m6, rc6, d6, e4, j2, hcn⟩
  · exact absurd (.inr ⟨rfl, rfl⟩) (j1 v10)
  · obtain ⟨k0, -, k2, k3⟩ := box4_put (u0 := .bool b6) (u1 := .slice la6 n6 lc6) (u2 := .slice ra6 m6 rc6) (u3 := .int .i64 d6) ((j2.block _ (lt_of_block HG1.out)).trans HG1.out)
    rw [← e4] at k0 k2 k3
    obtain ⟨y0, y1, y2, y3, -⟩ := box4_free k0
    have HFin : Hid (CellNew w.heap.size w4 (.agg #[.bool b6, .slice la6 n6 lc6, .slice ra6 m6 rc6, .int .i64 d6]) C5 ∧ Below w.heap.size w w4) := by
      refine ⟨?_, (Below.thenOf HB2.out j2 HB2.out.size).trans (k3 _ (by omega))⟩
      refine CellNew.keep (L := W2.heap.size) ?_ HB2.out.size (fun g _ _ => rfl) (Nat.le_refl _)
      rw [e4]
      repeat (first | refine CellNew.put ?_ (.inl (by rw [HS2.out]; omega)) | exact hcn)
    clear e4 j2 hcn k0 k2 k3 q1 q2 q3 q4 q5 q6 q7 hDJ hne HTi HG1
    go_wp2_with fail
    refine bodyPost_ret (v := .tuple #[.agg #[.bool b6, .slice la6 n6 lc6, .slice ra6 m6 rc6, .int .i64 d6], .int .i64 ee]) ?_ rfl ⟨_, rfl, HFin.out.1, HFin.out.2⟩
    rw [results_cell_tmp rfl]
    go_simp
end Go.Proofs.YtbdlojnigflanacGreatDoor
