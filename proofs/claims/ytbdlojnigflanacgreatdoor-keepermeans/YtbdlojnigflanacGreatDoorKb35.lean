/- Joined: KpB KpC. -/
import Derived.Test.YtbdlojnigflanacGreatDoorKb22
import Derived.Test.YtbdlojnigflanacGreatDoorKb34
section
/- Package keeper: begin, tighten. -/
set_option linter.all false
set_option maxRecDepth 100000
namespace Go.Proofs.YtbdlojnigflanacGreatDoor
open Go.RowKit Go.Maps

/-- A session as a value, all of whose memory is new: from block L on. -/
def CellNew (L : Nat) (w : World) (v : Value) (c : CellT) : Prop := ∃ la lc ra rc, v = .agg #[.bool c.1, .slice la c.2.1.length lc, .slice ra c.2.2.1.length rc, .int .i64 c.2.2.2] ∧ ChsNew L w (.slice la c.2.1.length lc) c.2.1 ∧ PolNew L w (.agg #[.slice ra c.2.2.1.length rc, .int .i64 c.2.2.2]) c.2.2
theorem CellNew.keep {L L' : Nat} {w w' : World} {v : Value} {c : CellT} (h : CellNew L w v c) (hL : L' ≤ L) (hk : ∀ g, L ≤ g → g < w.heap.size → w'.heap[g]? = w.heap[g]?) (hs : w.heap.size ≤ w'.heap.size) : CellNew L' w' v c := by
  obtain ⟨la, lc, ra, rc, e, h1, h2⟩ := h
  exact ⟨la, lc, ra, rc, e, h1.keep hL hk hs, h2.keep hL hk hs⟩
theorem CellNew.later {L L' : Nat} {w w' : World} {v : Value} {c : CellT} (h : CellNew L w v c) (hL : L' ≤ L) (hb : Below w.heap.size w w') : CellNew L' w' v c := h.keep hL (fun g _ hl => hb.block g hl) hb.size
theorem CellNew.put {L : Nat} {w : World} {v : Value} {c : CellT} {b o : Nat} {u : Value} (h : CellNew L w v c) (hb : b < L ∨ w.heap.size ≤ b) : CellNew L (w.setCell ⟨b, o, none⟩ u) v c := h.keep (Nat.le_refl _) (fun g hg hl => Below.heap_setCell _ _ _ _ (by show g ≠ b; omega)) (by simp)
theorem cellNew_zero (L : Nat) (w : World) : CellNew L w (.agg #[.bool false, .slice none 0 0, .slice none 0 0, .int .i64 0]) zeroCell := ⟨none, 0, none, 0, rfl, chsNew_nil _ _, zeroNew _ _⟩
theorem polNew_shape {L : Nat} {w : World} {v : Value} {p : PolT} (h : PolNew L w v p) : ∃ a c, v = .agg #[.slice a p.1.length c, .int .i64 p.2] := by
  obtain ⟨rv, e, -, a, c, e2, -⟩ := h.at
  exact ⟨a, c, by rw [e, e2]⟩
theorem chsNew_shape {L : Nat} {w : World} {v : Value} {ls : ChT} (h : ChsNew L w v ls) : ∃ a c, v = .slice a ls.length c := by
  obtain ⟨a, c, e, -⟩ := h.at
  exact ⟨a, c, e⟩
theorem box4_free {w : World} {b : Nat} {u0 u1 u2 u3 : Value} {T : TypeId} (h : w.heap[b]? = some (.cells #[u0, u1, u2, u3] T (0, 0))) : w.cell? ⟨b, 0, none⟩ = some u0 ∧ w.cell? ⟨b, 1, none⟩ = some u1 ∧ w.cell? ⟨b, 2, none⟩ = some u2 ∧ w.cell? ⟨b, 3, none⟩ = some u3 ∧ w.frozen? ⟨b, 0, none⟩ = false ∧ w.frozen? ⟨b, 1, none⟩ = false ∧ w.frozen? ⟨b, 2, none⟩ = false ∧ w.frozen? ⟨b, 3, none⟩ = false :=
  ⟨heap_cell h 0 rfl, heap_cell h 1 rfl, heap_cell h 2 rfl, heap_cell h 3 rfl, by simp [World.frozen?, h], by simp [World.frozen?, h], by simp [World.frozen?, h], by simp [World.frozen?, h]⟩
theorem comp_bounds {p : PolT} (h : polErr p = 0) : p.1.length ≤ 1000 ∧ ∀ r ∈ p.1, r.1.length ≤ 1000 := by
  obtain ⟨h1, -, h3⟩ := polErr_ok h
  exact ⟨by omega, fun r hr => by have := (ruleErr_ok (rulesErr_all h3 r hr)).1; omega⟩
theorem comp_pol {p : PolT} (h : compE p = 0) : polErr p = 0 := by
  unfold compE at h
  by_cases hp : polErr p = 0
  · exact hp
  · rw [if_neg hp] at h
    exact absurd h hp

set_option maxHeartbeats 4000000 in
theorem beginK_any (B : Nat) (pv : Value) (p : PolT) (w : World) (hp : PolAt B w pv p) (hB : B ≤ w.heap.size) :
    Calls Tryz.prog 154 #[pv] w fun e w' => ∃ v, e = .returned (.tuple #[v, .int .i64 (openC p).2]) ∧ CellNew w.heap.size w' v (openC p).1 ∧ Below w.heap.size w w' := by
  have HCo : Hid (∀ w', Below w.heap.size w w' → Calls Tryz.prog 53 #[pv] w' fun e w'' => ∃ lv, e = .returned (.tuple #[lv, .int .i64 (compE p)]) ∧ w''.ownsRow w'.heap.size 86 4 lv (compL p).length (insCells (compL p)) ∧ (∀ i ∈ compL p, insWf i) ∧ Below w'.heap.size w' w'') := fun w' h => compile_any B pv p w' (hp.later h hB) (Nat.le_trans hB h.size)
  have HCp : Hid (compE p = 0 → ∀ w', Below w.heap.size w w' → Calls Tryz.prog 119 #[pv] w' fun e w'' => ∃ v, e = .returned v ∧ PolNew w'.heap.size w'' v p ∧ Below w'.heap.size w' w'') := fun he w' h => copyD_any B pv p w' (hp.later h hB) (Nat.le_trans hB h.size) (comp_bounds (comp_pol he)).1 (comp_bounds (comp_pol he)).2
  have HO : Hid (openC p = if compE p = 0 then ((true, [polI p], p), 0) else (zeroCell, compE p)) := rfl
  have HCL : Hid (compE p = 0 → compL p = polI p) := fun h => by rw [compL, if_pos h]
  obtain ⟨rs, d⟩ := p
  obtain ⟨rv, epv, -, a, cap, erv, -⟩ := hp
  simp only at epv erv
  subst erv
  subst epv
  obtain ⟨n, hn⟩ : ∃ n, n = rs.length := ⟨_, rfl⟩
  have HN : Hid (rs.length = n) := hn.symm
  rw [← hn] at HCo HCp ⊢
  clear hn
  obtain ⟨W2, hW2⟩ : ∃ W2, W2 = (w.alloc (.cells #[.slice a n cap, .int .i64 d] 24)).alloc (.cells #[.bool false, .slice none 0 0, .slice none 0 0, .int .i64 0] 77) := ⟨_, rfl⟩
  have hb2 : Below w.heap.size w W2 := by rw [hW2]; exact ((Below.refl _ _).alloc (Nat.le_refl _) _).alloc (by simp) _
  have hs2 : W2.heap.size = w.heap.size + 1 + 1 := by rw [hW2]; simp
  have g0 : W2.heap[w.heap.size]? = some (.cells #[.slice a n cap, .int .i64 d] 24 (0, 0)) := by rw [hW2]; exact heap_kept' _ (heap_at _ _ rfl)
  have g1 : W2.heap[w.heap.size + 1]? = some (.cells #[.bool false, .slice none 0 0, .slice none 0 0, .int .i64 0] 77 (0, 0)) := by rw [hW2]; exact heap_at _ _ (by simp only [World.size_alloc])
  have HW2 : Hid (W2 = _) := hW2
  have HG : Hid (∀ w', Below W2.heap.size W2 w' → w'.heap[w.heap.size]? = some (.cells #[.slice a n cap, .int .i64 d] 24 (0, 0)) ∧ w'.heap[w.heap.size + 1]? = some (.cells #[.bool false, .slice none 0 0, .slice none 0 0, .int .i64 0] 77 (0, 0)) ∧ Below w.heap.size w w' ∧ w.heap.size + 1 < w'.heap.size) := fun w' h => ⟨(h.block _ (by omega)).trans g0, (h.block _ (by omega)).trans g1, Below.thenOf hb2 h hb2.size, by have := h.size; omega⟩
  have HB2 : Hid (Below w.heap.size w W2) := hb2
  have HS2 : Hid (W2.heap.size = w.heap.size + 1 + 1) := hs2
  clear hW2 g0 g1 hb2 hs2
  go_enter Tryz.func154, Tryz.ntmps154
  go_wp2_with fail
  rw [← HW2.out]
  go_at_call 53
  refine Calls.mono (HCo.out _ HB2.out) ?_
  rintro e w3 ⟨fv, rfl, hof, hwf, hb3⟩
  obtain ⟨G0, G1, hb3w, hl3⟩ := HG.out w3 hb3
  obtain ⟨fa, fc, efv, -, -⟩ := ownsRow_caps hof
  subst efv
  have HB3 : Hid (Below W2.heap.size W2 w3 ∧ Below w.heap.size w w3) := ⟨hb3, hb3w⟩
  by_cases hce : compE (rs, d) = 0
  · have HO' : Hid (openC (rs, d) = ((true, [polI (rs, d)], rs, d), 0)) := by unfold Hid; rw [HO.out, if_pos hce]
    have HCp' : Hid (∀ w', Below w.heap.size w w' → Calls Tryz.prog 119 #[.agg #[.slice a n cap, .int .i64 d]] w' fun e w'' => ∃ v, e = .returned v ∧ PolNew w'.heap.size w'' v (rs, d) ∧ Below w'.heap.size w' w'') := HCp.out hce
    rw [HCL.out hce] at hof hwf ⊢
    rw [hce]
    have HOf : Hid (w3.ownsRow W2.heap.size 86 4 (.slice fa (polI (rs, d)).length fc) (polI (rs, d)).length (insCells (polI (rs, d))) ∧ ∀ i ∈ polI (rs, d), insWf i) := ⟨hof, hwf⟩
    clear hof hwf hce HO HCp HCL hb3 hb3w HCo
    generalize hfl : (polI (rs, d)).length = fl at *
    have HFl : Hid ((polI (rs, d)).length = fl) := hfl
    clear hfl
    obtain ⟨W4, hW4⟩ : ∃ W4, W4 = w3.alloc (.cells #[.slice fa fl fc] 81) := ⟨_, rfl⟩
    have hb34 : Below w3.heap.size w3 W4 := by rw [hW4]; exact (Below.refl _ _).alloc (Nat.le_refl _) _
    have hs4 : W4.heap.size = w3.heap.size + 1 := by rw [hW4]; simp
    have g4 : W4.heap[w3.heap.size]? = some (.cells #[.slice fa fl fc] 81 (0, 0)) := by rw [hW4]; exact heap_made _ _
    have hb24 : Below W2.heap.size W2 W4 := Below.thenOf HB3.out.1 hb34 HB3.out.1.size
    obtain ⟨G04, G14, hb4w, hl4⟩ := HG.out W4 hb24
    have HW4 : Hid (W4 = _) := hW4
    have HB4 : Hid (Below W2.heap.size W2 W4 ∧ Below w.heap.size w W4) := ⟨hb24, hb4w⟩
    have hs3 : W2.heap.size ≤ w3.heap.size := HB3.out.1.size
    have HCh : Hid (ChsNew W2.heap.size W4 (.slice (some ⟨w3.heap.size, 0, none⟩) 1 1) [polI (rs, d)]) := by
      refine chsNew_own (xs := [.slice fa fl fc]) ⟨rfl, .inr ⟨w3.heap.size, 1, _, rfl, hs3, g4, Nat.le_refl _, by rw [maxLen_eq]; omega, rfl, rfl⟩⟩ ?_
      refine FvsN.snoc (FvsN.nil _ _) (ownsRow_below ?_ hb34) HOf.out.2
      rw [HFl.out]
      exact HOf.out.1
    obtain ⟨p0, p1⟩ : w3.cell? ⟨w.heap.size, 0, none⟩ = some (.slice a n cap) ∧ w3.cell? ⟨w.heap.size, 1, none⟩ = some (.int .i64 d) := ⟨heap_cell G0 0 rfl, heap_cell G0 1 rfl⟩
    have hl3' : w.heap.size < w3.heap.size := by omega
    clear hW4 hb34 g4 hb24 G04 G14 hb4w G0 G1 hs4 HB3
    go_wp2_with fail
    rw [← HW4.out]
    go_at_call 119
    refine Calls.mono (HCp'.out _ HB4.out.2) ?_
    rintro e w5 ⟨cv, rfl, hpn, hb5⟩
    obtain ⟨G05, G15, hb5w, hl5⟩ := HG.out w5 (Below.thenOf HB4.out.1 hb5 HB4.out.1.size)
    have hch5 : ChsNew W2.heap.size w5 (.slice (some ⟨w3.heap.size, 0, none⟩) 1 1) [polI (rs, d)] := HCh.out.later (Nat.le_refl _) hb5
    have hpn5 : PolNew W2.heap.size w5 cv (rs, d) := hpn.keep HB4.out.1.size (fun g _ _ => rfl) (Nat.le_refl _)
    obtain ⟨ra, rc, ecv⟩ := polNew_shape hpn5
    subst ecv
    simp only [] at hpn5 hpn ⊢
    obtain ⟨z0, z1, z2, z3, f0, f1, f2, f3⟩ := box4_free G15
    have HF : Hid (ChsNew W2.heap.size w5 (.slice (some ⟨w3.heap.size, 0, none⟩) 1 1) [polI (rs, d)] ∧ PolNew W2.heap.size w5 (.agg #[.slice ra n rc, .int .i64 d]) (rs, d)) := ⟨hch5, by rw [← HN.out]; exact hpn5⟩
    have HB5 : Hid (Below w.heap.size w w5) := hb5w
    rw [HN.out]
    clear hch5 hpn5 hpn hb5 G05 G15 hb5w HCh HB4 HOf HCp' p0 p1 HG
    go_wp2_with fail
    refine bodyPost_ret (v := .tuple #[.agg #[.bool true, .slice (some ⟨w3.heap.size, 0, none⟩) 1 1, .slice ra n rc, .int .i64 d], .int .i64 0]) ?_ rfl ⟨_, by rw [HO'.out], ?_, ?_⟩
    · rw [results_cell_tmp rfl]
      go_simp
    · rw [HO'.out]
      refine ⟨some ⟨w3.heap.size, 0, none⟩, 1, ra, rc, by simp [HN.out], ?_, ?_⟩
      · refine ChsNew.keep (L := W2.heap.size) ?_ HB2.out.size (fun g _ _ => rfl) (Nat.le_refl _)
        repeat (first | refine ChsNew.put ?_ (.inl (by rw [HS2.out]; omega)) | exact HF.out.1)
      · simp only [HN.out]
        refine PolNew.keep (L := W2.heap.size) ?_ HB2.out.size (fun g _ _ => rfl) (Nat.le_refl _)
        repeat (first | refine PolNew.put ?_ (.inl (by rw [HS2.out]; omega)) | exact HF.out.2)
    · repeat (first | refine Below.setCell ?_ (by show w.heap.size ≤ w.heap.size + 1; omega) _ | exact HB5.out)
  · have HO' : Hid (openC (rs, d) = (zeroCell, compE (rs, d))) := by unfold Hid; rw [HO.out, if_neg hce]
    have hq : (compE (rs, d) != 0) = true := by simpa using hce
    obtain ⟨z0, z1, z2, z3, f0, f1, f2, f3⟩ := box4_free G1
    have HB3w : Hid (Below w.heap.size w w3) := hb3w
    clear hof hwf hce HO HCp HCL hb3 hb3w HCo HG HB3 G0 G1
    generalize compE (rs, d) = ce at *
    generalize (compL (rs, d)).length = fl at *
    go_wp2_with fail
    refine bodyPost_ret (v := .tuple #[.agg #[.bool false, .slice none 0 0, .slice none 0 0, .int .i64 0], .int .i64 ce]) ?_ rfl ⟨_, by rw [HO'.out], by rw [HO'.out]; exact cellNew_zero _ _, ?_⟩
    · rw [results_cell_tmp rfl]
      go_simp
    · repeat (first | refine Below.setCell ?_ (by show w.heap.size ≤ w.heap.size + 1; omega) _ | exact HB3w.out)

set_option maxHeartbeats 4000000 in
theorem tightenK_any (B : Nat) (cv pv : Value) (c : CellT) (p : PolT) (w : World) (hc : CellV B w cv c) (hp : PolAt B w pv p) (hB : B ≤ w.heap.size) (hpe : polErr p = 0) :
    Calls Tryz.prog 155 #[cv, pv] w fun e w' => ∃ v, e = .returned (.tuple #[v, .int .i64 (tightE c.2.1 c.2.2 p)]) ∧ CellNew w.heap.size w' v (if tightE c.2.1 c.2.2 p = 0 then (true, tightR c.2.1 c.2.2 p, p) else zeroCell) ∧ Below w.heap.size w w' := by
  have HCp : Hid (∀ w', Below w.heap.size w w' → Calls Tryz.prog 119 #[pv] w' fun e w'' => ∃ v, e = .returned v ∧ PolNew w'.heap.size w'' v p ∧ Below w'.heap.size w' w'') := fun w' h => copyD_any B pv p w' (hp.later h hB) (Nat.le_trans hB h.size) (comp_bounds hpe).1 (comp_bounds hpe).2
  obtain ⟨la, lc, ra, rc, rfl, h1, h2⟩ := hc
  have HTi : Hid (∀ w', Below w.heap.size w w' → Calls Tryz.prog 60 #[.slice la c.2.1.length lc, .agg #[.slice ra c.2.2.1.length rc, .int .i64 c.2.2.2], pv] w' fun e w'' => ∃ v, e = .returned (.tuple #[v, .int .i64 (tightE c.2.1 c.2.2 p)]) ∧ ChsNew w'.heap.size w'' v (tightR c.2.1 c.2.2 p) ∧ Below w'.heap.size w' w'') := fun w' h => tightenD_new B _ _ pv c.2.1 c.2.2 p w' (h1.later h hB) (h2.later h hB) (hp.later h hB) (Nat.le_trans hB h.size)
  obtain ⟨rs, d⟩ := p
  obtain ⟨rv, epv, -, a, cap, erv, -⟩ := hp
  simp only at epv erv
  subst erv
  subst epv
  clear h1 h2 hpe
  generalize tightE c.2.1 c.2.2 (rs, d) = te at *
  generalize tightR c.2.1 c.2.2 (rs, d) = tr at *
  generalize c.2.1.length = n1 at *
  generalize c.2.2.1.length = n2 at *
  generalize c.2.2.2 = f at *
  generalize c.1 = op at *
  obtain ⟨n, hn⟩ : ∃ n, n = rs.length := ⟨_, rfl⟩
  have HN : Hid (rs.length = n) := hn.symm
  rw [← hn] at HTi HCp ⊢
  clear hn
  obtain ⟨W2, hW2⟩ : ∃ W2, W2 = ((w.alloc (.cells #[.bool op, .slice la n1 lc, .slice ra n2 rc, .int .i64 f] 77)).alloc (.cells #[.slice a n cap, .int .i64 d] 24)).alloc (.cells #[.bool false, .slice none 0 0, .slice none 0 0, .int .i64 0] 77) := ⟨_, rfl⟩
  have hb2 : Below w.heap.size w W2 := by rw [hW2]; exact (((Below.refl _ _).alloc (Nat.le_refl _) _).alloc (by simp) _).alloc (by simp; omega) _
  have hs2 : W2.heap.size = w.heap.size + 1 + 1 + 1 := by rw [hW2]; simp
  have g0 : W2.heap[w.heap.size]? = some (.cells #[.bool op, .slice la n1 lc, .slice ra n2 rc, .int .i64 f] 77 (0, 0)) := by rw [hW2]; exact heap_kept' _ (heap_kept' _ (heap_at _ _ rfl))
  have g1 : W2.heap[w.heap.size + 1]? = some (.cells #[.slice a n cap, .int .i64 d] 24 (0, 0)) := by rw [hW2]; exact heap_kept' _ (heap_at _ _ (by simp only [World.size_alloc]))
  have g2 : W2.heap[w.heap.size + 1 + 1]? = some (.cells #[.bool false, .slice none 0 0, .slice none 0 0, .int .i64 0] 77 (0, 0)) := by rw [hW2]; exact heap_at _ _ (by simp only [World.size_alloc])
  have HW2 : Hid (W2 = _) := hW2
  have HG : Hid (∀ w', Below W2.heap.size W2 w' → w'.heap[w.heap.size + 1]? = some (.cells #[.slice a n cap, .int .i64 d] 24 (0, 0)) ∧ w'.heap[w.heap.size + 1 + 1]? = some (.cells #[.bool false, .slice none 0 0, .slice none 0 0, .int .i64 0] 77 (0, 0)) ∧ Below w.heap.size w w') := fun w' h => ⟨(h.block _ (by omega)).trans g1, (h.block _ (by omega)).trans g2, Below.thenOf hb2 h hb2.size⟩
  have HS2 : Hid (W2.heap.size = w.heap.size + 1 + 1 + 1) := hs2
  have HB2 : Hid (Below w.heap.size w W2) := hb2
  clear hW2 g0 g1 g2 hb2 hs2
  go_enter Tryz.func155, Tryz.ntmps155
  go_wp2_with fail
  rw [← HW2.out]
  go_at_call 60
  refine Calls.mono (HTi.out _ HB2.out) ?_
  rintro e w3 ⟨tv, rfl, hch, hb3⟩
  obtain ⟨G1, G2, hb3w⟩ := HG.out w3 hb3
  obtain ⟨ta, tc, etv⟩ := chsNew_shape hch
  subst etv
  have HB3 : Hid (Below W2.heap.size W2 w3 ∧ Below w.heap.size w w3) := ⟨hb3, hb3w⟩
  have HCh : Hid (ChsNew W2.heap.size w3 (.slice ta tr.length tc) tr) := hch
  clear hch hb3 hb3w HTi
  generalize hfl : tr.length = fl at *
  have HFl : Hid (tr.length = fl) := hfl
  clear hfl
  by_cases hte : te = 0
  · subst hte
    have p0 := heap_cell G1 0 rfl
    have p1 := heap_cell G1 1 rfl
    clear G1 G2
    go_wp2_with fail
    go_at_call 119
    refine Calls.mono (HCp.out _ HB3.out.2) ?_
    rintro e w5 ⟨cv, rfl, hpn, hb5⟩
    obtain ⟨G15, G25, hb5w⟩ := HG.out w5 (Below.thenOf HB3.out.1 hb5 HB3.out.1.size)
    have hch5 : ChsNew W2.heap.size w5 (.slice ta fl tc) tr := HCh.out.later (Nat.le_refl _) hb5
    have hpn5 : PolNew W2.heap.size w5 cv (rs, d) := hpn.keep HB3.out.1.size (fun g _ _ => rfl) (Nat.le_refl _)
    obtain ⟨ra5, rc5, ecv⟩ := polNew_shape hpn5
    subst ecv
    simp only [] at hpn5 hpn ⊢
    obtain ⟨z0, z1, z2, z3, f0, f1, f2, f3⟩ := box4_free G25
    have HF : Hid (ChsNew W2.heap.size w5 (.slice ta fl tc) tr ∧ PolNew W2.heap.size w5 (.agg #[.slice ra5 n rc5, .int .i64 d]) (rs, d)) := ⟨hch5, by rw [← HN.out]; exact hpn5⟩
    have HB5 : Hid (Below w.heap.size w w5) := hb5w
    rw [HN.out]
    clear hch5 hpn5 hpn hb5 G15 G25 hb5w HCh HB3 HCp p0 p1 HG
    go_wp2_with fail
    refine bodyPost_ret (v := .tuple #[.agg #[.bool true, .slice ta fl tc, .slice ra5 n rc5, .int .i64 d], .int .i64 0]) ?_ rfl ⟨_, rfl, ?_, ?_⟩
    · rw [results_cell_tmp rfl]
      go_simp
    · refine ⟨ta, tc, ra5, rc5, by simp [HN.out, HFl.out], ?_, ?_⟩
      · simp only [HFl.out]
        refine ChsNew.keep (L := W2.heap.size) ?_ HB2.out.size (fun g _ _ => rfl) (Nat.le_refl _)
        repeat (first | refine ChsNew.put ?_ (.inl (by rw [HS2.out]; omega)) | exact HF.out.1)
      · simp only [HN.out]
        refine PolNew.keep (L := W2.heap.size) ?_ HB2.out.size (fun g _ _ => rfl) (Nat.le_refl _)
        repeat (first | refine PolNew.put ?_ (.inl (by rw [HS2.out]; omega)) | exact HF.out.2)
    · repeat (first | refine Below.setCell ?_ (by show w.heap.size ≤ w.heap.size + 1 + 1; omega) _ | exact HB5.out)
  · have hq : (te != 0) = true := by simpa using hte
    obtain ⟨z0, z1, z2, z3, f0, f1, f2, f3⟩ := box4_free G2
    have Hte : Hid (¬ te = 0) := hte
    clear hte HCh HCp HG G1 G2
    go_wp2_with fail
    refine bodyPost_ret (v := .tuple #[.agg #[.bool false, .slice none 0 0, .slice none 0 0, .int .i64 0], .int .i64 te]) ?_ rfl ⟨_, rfl, cellNew_zero _ _, ?_⟩
    · rw [results_cell_tmp rfl]
      go_simp
    · repeat (first | refine Below.setCell ?_ (by show w.heap.size ≤ w.heap.size + 1 + 1; omega) _ | exact HB3.out.2)
end Go.Proofs.YtbdlojnigflanacGreatDoor
end
section
/- Package keeper: Copy. -/
set_option linter.all false
set_option maxRecDepth 100000
namespace Go.Proofs.YtbdlojnigflanacGreatDoor
open Go.RowKit Go.Maps

theorem make_cellsN (n : Nat) (hn : n ≤ 4294967281) (w : World) : (Instr.makeSlice 66 (.int .i64 n) (.int .i64 n)).run Tryz.prog w = .ok (.slice (some ⟨w.heap.size, 0, none⟩) n n) (w.alloc (.cells (madeCells #[.bool false, .slice none 0 0, .slice none 0 0, .int .i64 0] (n * 4)) 77)) := by
  obtain ⟨inf, hi1, hi2, hi3, hi4⟩ := infoCell
  have := run_make (P := Tryz.prog) w 66 77 inf _ Tryz.underlying66 hi1 hi2 .i64 .i64 n n (by omega) (Int.le_refl _) (by rw [hi4]; omega) (by omega)
  rw [hi3] at this
  simpa [Value.cells] using this
/-- copy() of sessions into a list of as many. -/
theorem run_copy_cells (B g : Nat) (sv : Value) (l : List CellT) (cur : Array Value) (w : World) (h : CellsAt B w sv l) (hB : B ≤ g) (hg : w.heap[g]? = some (.cells cur 77 (0, 0))) (hc : cur.size = l.length * 4) :
    ∃ w' xs, (∀ ty, (Builtin.copy_ #[66, 66] ty #[.slice (some ⟨g, 0, none⟩) l.length l.length, sv]).run Tryz.prog w = .ok (.int .i64 l.length) w') ∧ w'.heap[g]? = some (.cells xs.toArray 77 (0, 0)) ∧ XsC B w' xs l ∧ Below g w w' ∧ w'.heap.size = w.heap.size ∧ ∀ b, b ≠ g → w'.heap[b]? = w.heap[b]? := by
  obtain ⟨inf, hi1, hi2, hi3, hi4⟩ := infoCell
  obtain ⟨a, cap, rfl, hlc, hcm, hrs⟩ := h
  have hmin : Nat.min l.length l.length = l.length := Nat.min_self _
  cases a with
  | none =>
    have h0 : l = [] := by
      cases l with
      | nil => rfl
      | cons r l => obtain ⟨b, o, e, _⟩ := hrs 0 r rfl; cases e
    subst h0
    have hcu : cur = #[] := Array.eq_empty_of_size_eq_zero (by simpa using hc)
    refine ⟨w, [], fun ty => ?_, by rw [hg, hcu], ⟨rfl, fun u hu => (by cases hu), fun i c hc => by simp at hc⟩, Below.refl _ _, rfl, fun _ _ => rfl⟩
    simp [Builtin.copy_, run_underlying Tryz.underlying66, Builtin.lenOf, sizeOf, typeInfo, hi1, Builtin.firstCells, storeCells, goInt]
  | some ad =>
    obtain ⟨xs, hxs, hcell⟩ : ∃ xs, XsC B w xs l ∧ ∀ j u, xs[j]? = some u → w.cell? (ad.add j) = some u := by
      cases l with
      | nil => exact ⟨[], ⟨rfl, fun u hu => (by cases hu), fun i c hc => by simp at hc⟩, fun j u hj => by simp at hj⟩
      | cons r l =>
        obtain ⟨b, o, e, _, _⟩ := hrs 0 r rfl
        cases e
        obtain ⟨xs, h1, h2⟩ := xsC_of (b := b) (o := o) (l := r :: l) fun i c hc => by
          obtain ⟨b', o', e, -, k⟩ := hrs i c hc
          cases e
          exact k
        exact ⟨xs, h1, fun j u hj => by rw [add_at]; exact h2 j u hj⟩
    have hxl := hxs.1
    have hl := run_loadCells_list (P := Tryz.prog) w ad xs hcell
    rw [hxl] at hl
    have hst := run_storeCells_at Tryz.prog g 0 77 xs 0 cur w hg (by rw [hxl, hc]; omega) hxs.2.1
    have hrow : (cur.toList.take (0 + 0) ++ xs ++ cur.toList.drop (0 + 0 + xs.length)).toArray = xs.toArray := by
      rw [hxl, List.drop_of_length_le (by simp [hc])]
      simp
    rw [hrow] at hst
    have hbw : Below g w (w.setRow g xs.toArray) := ⟨rfl, rfl, rfl, by simp [World.setRow], fun k hk => setRow_other w g k _ (by omega)⟩
    refine ⟨w.setRow g xs.toArray, xs, fun ty => ?_, setRow_heap w g _ _ _ _ hg, hxs.later hbw hB, hbw, by simp [World.setRow], fun b hb => setRow_other w g b _ hb⟩
    simp [Builtin.copy_, run_underlying Tryz.underlying66, Builtin.lenOf, Builtin.firstCells, sizeOf, typeInfo, hi1, hi3, hmin, hl, hst, goInt]

/-- One session of the row: copied already, or as it was handed in. -/
def CkOne (B L k : Nat) (w : World) (i : Nat) (lv rv : Value) (c : CellT) : Prop :=
  (i < k → ChsNew L w lv c.2.1 ∧ PolNew L w (.agg #[rv, .int .i64 c.2.2.2]) c.2.2) ∧ (¬ i < k → ChsAt B w lv c.2.1 ∧ PolAt B w (.agg #[rv, .int .i64 c.2.2.2]) c.2.2)
/-- What stands while Copy goes on: the row in block G, of which the first k sessions are copied. -/
def CkAt (B G k : Nat) (l : List CellT) (w : World) : Prop :=
  ∃ xs : List Value, w.heap[G]? = some (.cells xs.toArray 77 (0, 0)) ∧ xs.length = l.length * 4 ∧ (∀ u ∈ xs, u.oneCell' = true) ∧ ∀ i c, l[i]? = some c → ∃ lv rv, xs[i * 4]? = some (.bool c.1) ∧ xs[i * 4 + 1]? = some lv ∧ xs[i * 4 + 2]? = some rv ∧ xs[i * 4 + 3]? = some (.int .i64 c.2.2.2) ∧ CkOne B (G + 1) k w i lv rv c
theorem ckOne_keep {B G k : Nat} {w w' : World} {i : Nat} {lv rv : Value} {c : CellT} (h : CkOne B (G + 1) k w i lv rv c) (hB : B ≤ G) (hb : Below G w w') (hk : ∀ g, g ≠ G → g < w.heap.size → w'.heap[g]? = w.heap[g]?) : CkOne B (G + 1) k w' i lv rv c :=
  ⟨fun hi => ⟨(h.1 hi).1.keep (Nat.le_refl _) (fun g hg hl => hk g (by omega) hl) hb.size, (h.1 hi).2.keep (Nat.le_refl _) (fun g hg hl => hk g (by omega) hl) hb.size⟩, fun hi => ⟨(h.2 hi).1.later hb hB, (h.2 hi).2.later hb hB⟩⟩
theorem CkAt.later {B G k : Nat} {l : List CellT} {w w' : World} (h : CkAt B G k l w) (hB : B ≤ G) (hb : Below w.heap.size w w') : CkAt B G k l w' := by
  obtain ⟨xs, h1, h2, h3, h4⟩ := h
  have hG := lt_of_block h1
  refine ⟨xs, (hb.block G hG).trans h1, h2, h3, fun i c hc => ?_⟩
  obtain ⟨lv, rv, e0, e1, e2, e3, e4⟩ := h4 i c hc
  exact ⟨lv, rv, e0, e1, e2, e3, ckOne_keep e4 hB (hb.mono (by omega)) fun g _ hl => hb.block g hl⟩
/-- The k-th is copied: its chain and its policy are written into the row. -/
theorem CkAt.put {B G k : Nat} {l : List CellT} {W w : World} {c : CellT} {lv rv : Value} (h : CkAt B G k l W) (hB : B ≤ G) (hk : l[k]? = some c) (hb : Below G W w) (hkeep : ∀ g, G < g → g < W.heap.size → w.heap[g]? = W.heap[g]?) (hrow : ∀ xs : List Value, W.heap[G]? = some (.cells xs.toArray 77 (0, 0)) → w.heap[G]? = some (.cells (((xs.set (k * 4 + 1) lv).set (k * 4 + 2) rv).set (k * 4 + 3) (.int .i64 c.2.2.2)).toArray 77 (0, 0))) (o1 : lv.oneCell' = true) (o2 : rv.oneCell' = true) (hch : ChsNew (G + 1) w lv c.2.1) (hpn : PolNew (G + 1) w (.agg #[rv, .int .i64 c.2.2.2]) c.2.2) : CkAt B G (k + 1) l w := by
  obtain ⟨xs, h1, h2, h3, h4⟩ := h
  have hkl : k < l.length := (List.getElem?_eq_some_iff.1 hk).1
  have hkeep' : ∀ g, g ≠ G → g < W.heap.size → w.heap[g]? = W.heap[g]? := fun g hg hl => by
    by_cases h : g < G
    · exact hb.block g h
    · exact hkeep g (by omega) hl
  refine ⟨_, hrow xs h1, by simp [h2], fun u hu => ?_, fun i d hd => ?_⟩
  · rcases List.mem_or_eq_of_mem_set hu with hu | rfl
    · rcases List.mem_or_eq_of_mem_set hu with hu | rfl
      · rcases List.mem_or_eq_of_mem_set hu with hu | rfl
        · exact h3 u hu
        · exact o1
      · exact o2
    · rfl
  · by_cases hi : i = k
    · subst hi
      rw [hk] at hd
      cases hd
      obtain ⟨lv0, rv0, e0, e1, e2, e3, e4⟩ := h4 i c hk
      refine ⟨lv, rv, ?_, ?_, ?_, ?_, fun _ => ⟨hch, hpn⟩, fun h => absurd (Nat.lt_succ_self i) h⟩
      · rw [List.getElem?_set_ne (by omega), List.getElem?_set_ne (by omega), List.getElem?_set_ne (by omega)]
        exact e0
      · rw [List.getElem?_set_ne (by omega), List.getElem?_set_ne (by omega), List.getElem?_set_self (by omega)]
      · rw [List.getElem?_set_ne (by omega), List.getElem?_set_self (by simp; omega)]
      · rw [List.getElem?_set_self (by simp; omega)]
    · obtain ⟨lv0, rv0, e0, e1, e2, e3, e4⟩ := h4 i d hd
      have e4' := ckOne_keep e4 hB hb hkeep'
      refine ⟨lv0, rv0, ?_, ?_, ?_, ?_, fun h => e4'.1 (by omega), fun h => e4'.2 (by omega)⟩
      all_goals
        rw [List.getElem?_set_ne (by omega), List.getElem?_set_ne (by omega), List.getElem?_set_ne (by omega)]
        assumption
/-- All are copied, and one of them is written anew. -/
theorem CkAt.set {B G n ci : Nat} {l : List CellT} {w wF : World} {c : CellT} {lv rv : Value} (h : CkAt B G n l w) (hn : l.length = n) (hnm : n ≤ 1000) (hci : ci < n) (eF : wF = (((w.setCell ⟨G, ci * 4, none⟩ (.bool c.1)).setCell ⟨G, ci * 4 + 1, none⟩ lv).setCell ⟨G, ci * 4 + 2, none⟩ rv).setCell ⟨G, ci * 4 + 3, none⟩ (.int .i64 c.2.2.2)) (hnew : ∀ wX : World, (∀ g, g ≠ G → g < w.heap.size → wX.heap[g]? = w.heap[g]?) → w.heap.size ≤ wX.heap.size → ChsAt wX.heap.size wX lv c.2.1 ∧ PolAt wX.heap.size wX (.agg #[rv, .int .i64 c.2.2.2]) c.2.2) : CellsAt wF.heap.size wF (.slice (some ⟨G, 0, none⟩) n n) (l.set ci c) := by
  obtain ⟨xs, h1, h2, h3, h4⟩ := h
  have q1 := row_setCell (o := ci * 4) (u := .bool c.1) h1
  have q2 := row_setCell (o := ci * 4 + 1) (u := lv) q1
  have q3 := row_setCell (o := ci * 4 + 2) (u := rv) q2
  have q4 := row_setCell (o := ci * 4 + 3) (u := .int .i64 c.2.2.2) q3
  rw [← eF] at q4
  have hGF := lt_of_block q4
  have hsF : wF.heap.size = w.heap.size := by rw [eF]; simp
  have hkF : ∀ g, g ≠ G → wF.heap[g]? = w.heap[g]? := fun g hg => by
    rw [eF]
    exact (((Below.heap_setCell _ _ _ _ hg).trans (Below.heap_setCell _ _ _ _ hg)).trans (Below.heap_setCell _ _ _ _ hg)).trans (Below.heap_setCell _ _ _ _ hg)
  have hml : n ≤ maxLen := by rw [maxLen_eq]; omega
  refine ⟨some ⟨G, 0, none⟩, n, by simp [hn], by simp [hn], hml, fun i d hd => ⟨G, 0, rfl, hGF, ?_⟩⟩
  rw [Nat.zero_add]
  have hil : i < l.length := by
    have := (List.getElem?_eq_some_iff.1 hd).1
    simpa using this
  by_cases hi : i = ci
  · subst hi
    rw [List.getElem?_set_self hil] at hd
    cases hd
    obtain ⟨n1, n2⟩ := hnew wF (fun g hg _ => hkF g hg) (by omega)
    refine ⟨lv, rv, heap_cell q4 _ ?_, heap_cell q4 _ ?_, heap_cell q4 _ ?_, heap_cell q4 _ ?_, n1, n2⟩
    all_goals
      simp only [Array.getElem?_setIfInBounds, Array.size_setIfInBounds, List.size_toArray]
      repeat (first | rw [if_pos trivial] | rw [if_pos (by omega)] | rw [if_neg (by omega)])
  · rw [List.getElem?_set_ne (Ne.symm hi)] at hd
    obtain ⟨lv', rv', e0, e1, e2, e3, e4⟩ := h4 i d hd
    have e5 := e4.1 (by omega)
    refine ⟨lv', rv', heap_cell q4 _ ?_, heap_cell q4 _ ?_, heap_cell q4 _ ?_, heap_cell q4 _ ?_, e5.1 wF (fun g hg _ => hkF g (by omega)) (by omega), e5.2 wF (fun g hg _ => hkF g (by omega)) (by omega)⟩
    all_goals
      simp only [Array.getElem?_setIfInBounds, Array.size_setIfInBounds, List.size_toArray]
      repeat (rw [if_neg (by omega)])
      rw [List.getElem?_toArray]
      assumption

/-- What stands behind the writers of the region that copies a chain (6) and a policy (9) and stores them (12, 15). -/
structure JKc (G k : Nat) (xs : List Value) (W : World) (c : CellT) (fs : Nat → Value → Prop) (w : World) : Prop where
  below : Below G W w
  keep : ∀ g, G < g → g < W.heap.size → w.heap[g]? = W.heap[g]?
  chs : ∀ v, fs 6 v → ChsNew W.heap.size w v c.2.1
  pol : ∀ v, fs 9 v → PolNew W.heap.size w v c.2.2
  row0 : (∀ u, ¬ fs 12 u) → w.heap[G]? = some (.cells xs.toArray 77 (0, 0))
  row1 : ∀ u v, fs 12 u → fs 6 v → (∀ x, ¬ fs 15 x) → w.heap[G]? = some (.cells (xs.set (k * 4 + 1) v).toArray 77 (0, 0))
  row2 : ∀ u v r d, fs 15 u → fs 6 v → fs 9 (.agg #[r, d]) → w.heap[G]? = some (.cells (((xs.set (k * 4 + 1) v).set (k * 4 + 2) r).set (k * 4 + 3) d).toArray 77 (0, 0))
  two : ∀ u, fs 12 u → (∃ v, fs 6 v) ∧ ∃ v, fs 9 v
  last : ∀ u, fs 15 u → ∃ v, fs 12 v
  uni6 : ∀ v u, fs 6 v → fs 6 u → v = u
  uni9 : ∀ v u, fs 9 v → fs 9 u → v = u
section
variable {G k : Nat} {xs : List Value} {W w w' : World} {c : CellT} {fs : Nat → Value → Prop}
theorem JKc.start (hG : W.heap[G]? = some (.cells xs.toArray 77 (0, 0))) : JKc G k xs W c (fun _ _ => False) W.drew := ⟨(Below.refl _ _).drew, fun _ _ _ => rfl, fun _ h => h.elim, fun _ h => h.elim, fun _ => hG, fun _ _ h => h.elim, fun _ _ _ _ h => h.elim, fun _ h => h.elim, fun _ h => h.elim, fun _ _ h => h.elim, fun _ _ h => h.elim⟩
theorem JKc.no12 (h : JKc G k xs W c fs w) {j : Nat} (hj : j = 6 ∨ j = 9) (hno : ∀ v, ¬ fs j v) : ∀ u, ¬ fs 12 u := fun u hu => by
  obtain ⟨⟨v, hv⟩, v', hv'⟩ := h.two u hu
  rcases hj with rfl | rfl
  · exact hno _ hv
  · exact hno _ hv'
theorem JKc.no15 (h : JKc G k xs W c fs w) (h12 : ∀ u, ¬ fs 12 u) : ∀ u, ¬ fs 15 u := fun u hu => (h.last u hu).elim h12
theorem addF_ne {j m : Nat} {u v : Value} (h : addF fs j u m v) (hne : m ≠ j) : fs m v := by
  rcases h with h | ⟨e, _⟩
  · exact h
  · exact absurd e hne
theorem JKc.made (h : JKc G k xs W c fs w) {j : Nat} (hj : j = 6 ∨ j = 9) (hno : ∀ v, ¬ fs j v) (hG : G < W.heap.size) (hb : Below w.heap.size w w') {u : Value} (h6 : j = 6 → ChsNew w.heap.size w' u c.2.1) (h9 : j = 9 → PolNew w.heap.size w' u c.2.2) : JKc G k xs W c (addF fs j u) w' := by
  have h12 := h.no12 hj hno
  have h15 := h.no15 h12
  have a12 : ∀ u', ¬ addF fs j u 12 u' := fun u' hu => h12 _ (addF_ne hu (by omega))
  have a15 : ∀ u', ¬ addF fs j u 15 u' := fun u' hu => h15 _ (addF_ne hu (by omega))
  have hs := h.below.size
  have uni : ∀ m, (∀ v v', fs m v → fs m v' → v = v') → ∀ v v', addF fs j u m v → addF fs j u m v' → v = v' := fun m hm v v' hv hv' => by
    rcases hv with hv | ⟨e, rfl⟩
    · rcases hv' with hv' | ⟨e', rfl⟩
      · exact hm v v' hv hv'
      · subst e'
        exact absurd hv (hno _)
    · rcases hv' with hv' | ⟨e', rfl⟩
      · subst e
        exact absurd hv' (hno _)
      · rfl
  refine ⟨h.below.trans (hb.mono (by omega)), fun g hg hl => (hb.block g (by omega)).trans (h.keep g hg hl), fun v hv => ?_, fun v hv => ?_, fun _ => (hb.block G (by omega)).trans (h.row0 h12), fun u' v hu _ _ => absurd hu (a12 _), fun u' v r d hu _ _ => absurd hu (a15 _), fun u' hu => absurd hu (a12 _), fun u' hu => absurd hu (a15 _), uni 6 h.uni6, uni 9 h.uni9⟩
  · rcases hv with hv | ⟨e, rfl⟩
    · exact (h.chs v hv).later (Nat.le_refl _) hb
    · exact (h6 e.symm).keep hs (fun _ _ _ => rfl) (Nat.le_refl _)
  · rcases hv with hv | ⟨e, rfl⟩
    · exact (h.pol v hv).later (Nat.le_refl _) hb
    · exact (h9 e.symm).keep hs (fun _ _ _ => rfl) (Nat.le_refl _)
theorem JKc.store (h : JKc G k xs W c fs w) (hno : ∀ v, ¬ fs 12 v) {v6 v9 : Value} (h6 : fs 6 v6) (h9 : fs 9 v9) (hG : G < W.heap.size) : JKc G k xs W c (addF fs 12 undef) (w.setCell ⟨G, k * 4 + 1, none⟩ v6) := by
  have h15 := h.no15 hno
  have hr := row_setCell (o := k * 4 + 1) (u := v6) (h.row0 hno)
  have a15 : ∀ u', ¬ addF fs 12 undef 15 u' := fun u' hu => h15 _ (addF_ne hu (by decide))
  refine ⟨h.below.setCell (p := ⟨G, k * 4 + 1, none⟩) (Nat.le_refl _) _, fun g hg hl => (Below.heap_setCell _ _ _ _ (by show g ≠ G; omega)).trans (h.keep g hg hl), fun v hv => (h.chs v (addF_ne hv (by decide))).put (.inl hG), fun v hv => (h.pol v (addF_ne hv (by decide))).put (.inl hG), fun hn => absurd (.inr ⟨rfl, rfl⟩) (hn undef), fun u v hu hv _ => ?_, fun u' v r d hu _ _ => absurd hu (a15 _), fun u hu => ⟨⟨v6, .inl h6⟩, v9, .inl h9⟩, fun u' hu => absurd hu (a15 _), fun v v' hv hv' => h.uni6 v v' (addF_ne hv (by decide)) (addF_ne hv' (by decide)), fun v v' hv hv' => h.uni9 v v' (addF_ne hv (by decide)) (addF_ne hv' (by decide))⟩
  have : v = v6 := h.uni6 v v6 (addF_ne hv (by decide)) h6
  subst this
  rw [hr]
  simp
theorem JKc.store2 (h : JKc G k xs W c fs w) (hno : ∀ v, ¬ fs 15 v) {v6 v12 r d : Value} (h6 : fs 6 v6) (h9 : fs 9 (.agg #[r, d])) (h12 : fs 12 v12) (hG : G < W.heap.size) : JKc G k xs W c (addF fs 15 undef) ((w.setCell ⟨G, k * 4 + 2, none⟩ r).setCell ⟨G, k * 4 + 3, none⟩ d) := by
  have hr := row_setCell (o := k * 4 + 3) (u := d) (row_setCell (o := k * 4 + 2) (u := r) (h.row1 _ _ h12 h6 hno))
  refine ⟨(h.below.setCell (p := ⟨G, k * 4 + 2, none⟩) (Nat.le_refl _) _).setCell (p := ⟨G, k * 4 + 3, none⟩) (Nat.le_refl _) _, fun g hg hl => ((Below.heap_setCell _ _ _ _ (by show g ≠ G; omega)).trans (Below.heap_setCell _ _ _ _ (by show g ≠ G; omega))).trans (h.keep g hg hl), fun v hv => ((h.chs v (addF_ne hv (by decide))).put (.inl hG)).put (.inl hG), fun v hv => ((h.pol v (addF_ne hv (by decide))).put (.inl hG)).put (.inl hG), fun hn => absurd (.inl h12) (hn v12), fun u v hu hv hn => absurd (.inr ⟨rfl, rfl⟩) (hn undef), fun u' v r' d' hu hv hp => ?_, fun u hu => h.two u (addF_ne hu (by decide)) |>.imp (fun ⟨v, hv⟩ => ⟨v, .inl hv⟩) (fun ⟨v, hv⟩ => ⟨v, .inl hv⟩), fun u' hu => ⟨v12, .inl h12⟩, fun v v' hv hv' => h.uni6 v v' (addF_ne hv (by decide)) (addF_ne hv' (by decide)), fun v v' hv hv' => h.uni9 v v' (addF_ne hv (by decide)) (addF_ne hv' (by decide))⟩
  have e1 : v = v6 := h.uni6 v v6 (addF_ne hv (by decide)) h6
  have e2 := h.uni9 _ _ (addF_ne hp (by decide)) h9
  simp at e2
  obtain ⟨rfl, rfl⟩ := e2
  subst e1
  rw [hr]
  simp
end
end Go.Proofs.YtbdlojnigflanacGreatDoor
end
