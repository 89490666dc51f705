/- Joined: DkH DkI. -/
import Derived.Test.YtdfcfinjoghipacGreatDoorDj40
section
/- Package disk: Crash, Sync. -/
set_option linter.all false
set_option maxRecDepth 100000
namespace Go.Proofs.YtdfcfinjoghipacGreatDoor
open Go.RowKit Go.Maps

set_option maxHeartbeats 4000000 in
theorem crashK_new (B : Nat) (v : Value) (d : DiskT) (n : Int) (w : World) (he : EnvT w) (hn : wf n) (hd : DiskAt B w v d) (hB : B ≤ w.heap.size) (hsm : DSm d) :
    Calls Tryz.prog 23 #[v, .int .i64 n] w fun e w' => ∃ v', e = .returned (.tuple #[v', .int .i64 (dCrashE d n)]) ∧ DiskNew w.heap.size w' v' (dCrashR d n) ∧ Below w.heap.size w w' := by
  obtain ⟨sv, tv, rfl, hs, ht⟩ := id hd
  obtain ⟨s, t⟩ := d
  simp only [] at hs ht
  obtain ⟨a, c, e1, -, -, -⟩ := id hs
  obtain ⟨b, c2, e2, h21, h22, -⟩ := id ht
  subst e1 e2
  obtain ⟨W, hW⟩ : ∃ W, W = (w.alloc (.cells #[.slice a s.length c, .slice b t.length c2] 48)).alloc (.cells #[.slice none 0 0, .slice none 0 0] 48) := ⟨_, rfl⟩
  have hb0 : Below w.heap.size w W := by rw [hW]; exact ((Below.refl _ _).alloc (Nat.le_refl _) _).alloc (by simp) _
  have g0 : W.heap[w.heap.size]? = some (.cells #[.slice a s.length c, .slice b t.length c2] 48 (0, 0)) := by
    rw [hW]
    exact heapK_kept _ (heapK_at _ _ rfl)
  have g1 : W.heap[w.heap.size + 1]? = some (.cells #[.slice none 0 0, .slice none 0 0] 48 (0, 0)) := by
    rw [hW]
    exact heapK_at _ _ (by simp only [World.size_alloc])
  have hsW : W.heap.size = w.heap.size + 1 + 1 := by rw [hW]; simp
  have HCk : Hid _ := checkK_any B _ (s, t) W (he.later hb0) (hd.later hb0 hB) (by omega) hsm
  obtain ⟨y0, y1, -, -⟩ := box_free g0
  have HW : Hid (W = _) := hW
  have Hb0 : Hid (Below w.heap.size w W) := hb0
  generalize hDE : diskErr (s, t) = DE at *
  have HDE : Hid (diskErr (s, t) = DE) := hDE
  obtain ⟨N, hN⟩ : ∃ n, n = s.length := ⟨_, rfl⟩
  obtain ⟨m, hm⟩ : ∃ m, m = t.length := ⟨_, rfl⟩
  rw [← hN] at HW HCk y0 g0 ⊢
  rw [← hm] at HW HCk y1 g0 ⊢
  have HN : Hid (N = s.length) := hN
  have HM : Hid (m = t.length) := hm
  clear hW hDE hN hm
  go_enter Tryz.func23, Tryz.ntmps23
  go_wp2_with fail
  rw [← HW.out]
  go_at_call 27
  refine Calls.mono HCk.out ?_
  rintro e w1 ⟨rfl, hb1⟩
  have G0 := (hb1.block _ (lt_of_block g0)).trans g0
  have G1 := (hb1.block _ (lt_of_block g1)).trans g1
  have hbw1 : Below w.heap.size w w1 := Below.thenOf hb0 hb1 hb0.size
  have hl1 : w.heap.size + 1 < w1.heap.size := lt_of_block G1
  obtain ⟨z0, z1, f0, f1⟩ := box_free G1
  obtain ⟨x0, x1, -, -⟩ := box_free G0
  clear y0 y1 HCk g0 g1 hsW hb1 HW
  by_cases hE : DE = 0
  · subst hE
    have hm := HM.out
    have hN := HN.out
    by_cases hr : n < 0 ∨ (m : Int) < n
    · have HS : Hid (dCrashE (s, t) n = 3 ∧ dCrashR (s, t) n = ([], [])) := by
        have e : dCrashE (s, t) n = 3 := by unfold dCrashE; rw [if_pos HDE.out, if_pos (by rw [← hm]; exact hr)]
        exact ⟨e, by unfold dCrashR; rw [e, if_neg (by decide)]⟩
      have Hbw : Hid (Below w.heap.size w w1) := hbw1
      have HF : Hid (∀ x y, Below w.heap.size w ((w1.setCell ⟨w.heap.size + 1, 0, none⟩ x).setCell ⟨w.heap.size + 1, 1, none⟩ y)) := fun x y => below_disk hbw1 (by omega) x y
      clear G0 G1 hbw1 hs ht hd HDE hB hsm h21 h22 hb0 hN hm
      by_cases h0 : n < 0
      · clear hr
        go_wp2_with fail
        refine bodyPost_ret (v := .tuple #[.agg #[.slice none 0 0, .slice none 0 0], .int .i64 3]) ?_ rfl ⟨_, by rw [HS.out.1], by rw [HS.out.2]; exact diskNew_zero _ _, HF.out _ _⟩
        rw [results_cell_tmp rfl]
        go_simp
      · have h1 : (m : Int) < n := hr.resolve_left h0
        clear hr
        go_wp2_with fail
        refine bodyPost_ret (v := .tuple #[.agg #[.slice none 0 0, .slice none 0 0], .int .i64 3]) ?_ rfl ⟨_, by rw [HS.out.1], by rw [HS.out.2]; exact diskNew_zero _ _, HF.out _ _⟩
        rw [results_cell_tmp rfl]
        go_simp
    · obtain ⟨k, hk⟩ : ∃ k : Nat, (k : Int) = n := ⟨n.toNat, by omega⟩
      have hkm : k ≤ t.length := by omega
      have HS : Hid (dCrashE (s, t) n = 0 ∧ dCrashR (s, t) n = (s, t.take k)) := by
        have e : dCrashE (s, t) n = 0 := by unfold dCrashE; rw [if_pos HDE.out, if_neg (by rw [← hm]; exact hr)]
        exact ⟨e, by unfold dCrashR; rw [e, if_pos rfl]; simp only []; rw [← hk]; rfl⟩
      subst hk
      obtain ⟨hl6, hl7, -, -⟩ := diskErr_ok HDE.out
      simp only [] at hl6 hl7
      obtain ⟨a', hsl, hta⟩ := slice_to ht k hkm
      have HCp : Hid (∀ w', Below w.heap.size w w' → Calls Tryz.prog 73 #[.agg #[.slice a N c, .slice a' k c2]] w' fun e w'' => ∃ v', e = .returned v' ∧ DiskNew w'.heap.size w'' v' (s, t.take k) ∧ Below w'.heap.size w' w'') := fun w' hb => by
        refine copyK_any B _ (s, t.take k) w' ⟨_, _, rfl, ?_, hta.later hb hB⟩ (Nat.le_trans hB hb.size) ⟨hl6, by simp only [List.length_take]; omega⟩
        rw [hN]
        exact hs.later hb hB
      have h0 : ¬ ((k : Int) < 0) := by omega
      have h1 : ¬ ((m : Int) < (k : Int)) := by omega
      have h2 : (k : Int) ≤ (c2 : Int) := by omega
      have Hbw : Hid (Below w.heap.size w w1) := hbw1
      have HG0' : Hid (w1.heap[w.heap.size]? = some (.cells #[.slice a N c, .slice b m c2] 48 (0, 0))) := G0
      have HG1 : Hid (w1.heap[w.heap.size + 1]? = some (.cells #[.slice none 0 0, .slice none 0 0] 48 (0, 0))) := G1
      rw [← hm] at hsl
      clear G0 G1 hbw1 hs ht hd HDE hsm h21 h22 hb0 hN hm hta hkm hl6 hl7 hr
      have HG0 : Hid (w1.heap[w.heap.size]? = some (.cells #[.slice a N c, .slice b m c2] 48 (0, 0))) := HG0'.out
      obtain ⟨D, hD⟩ : ∃ D : DiskT, D = (s, t.take k) := ⟨_, rfl⟩
      rw [← hD] at HCp HS
      clear hD
      obtain ⟨G, hG⟩ : ∃ G : Nat → World → Value → Prop, G = fun j w' u => j = 7 → DiskNew w1.heap.size w' u D := ⟨_, rfl⟩
      have HGm : Hid (∀ j u w w', Below w.heap.size w w' → G j w u → G j w' u) := fun j u w w' hb h => by rw [hG] at h ⊢; exact fun e => (h e).later hb
      have HG7 : Hid (∀ w' u, G 7 w' u ↔ DiskNew w1.heap.size w' u D) := fun w' u => by rw [hG]; simp
      obtain ⟨R, hR⟩ : ∃ R : Value → Value → World → Prop, R = fun p q w' => DiskNew w1.heap.size w' (.agg #[p, q]) D := ⟨_, rfl⟩
      have HR : Hid (∀ p q w', R p q w' ↔ DiskNew w1.heap.size w' (.agg #[p, q]) D) := fun p q w' => by rw [hR]
      obtain ⟨S, hS⟩ : ∃ S : Nat → Value → Prop, S = fun j v => j = 7 → ∃ a n c b m k, v = .agg #[.slice a n c, .slice b m k] := ⟨_, rfl⟩
      have HS7 : Hid (∀ v, S 7 v ↔ ∃ a n c b m k, v = .agg #[.slice a n c, .slice b m k]) := fun v => by rw [hS]; simp
      have HS8 : Hid (S 8 undef) := by unfold Hid; rw [hS]; exact fun e => by cases e
      have HSs : Hid (∀ j, ∃ v, S j v) := fun j => ⟨.agg #[.slice none 0 0, .slice none 0 0], by rw [hS]; exact fun _ => ⟨_, _, _, _, _, _, rfl⟩⟩
      clear hG hR hS
      have q0 : ∀ z : RdW w.heap.size (.slice a N c) (.slice b m c2), z.1.cell? ⟨w.heap.size, 0, none⟩ = some (.slice a N c) := fun z => z.2.1
      have q1 : ∀ z : RdW w.heap.size (.slice a N c) (.slice b m c2), z.1.cell? ⟨w.heap.size, 1, none⟩ = some (.slice b m c2) := fun z => z.2.2
      have hne : Nonempty (RdW w.heap.size (.slice a N c) (.slice b m c2)) := ⟨⟨w1, x0, x1⟩⟩
      have hDJ : Hid (∀ fs w', JD (w.heap.size + 1) 8 [7] w1 G R fs w' → ∃ z : RdW w.heap.size (.slice a N c) (.slice b m c2), w' = z.1) := fun fs w' h => ⟨⟨w', heap_cell (h.box HG0.out (by omega)) 0 rfl, heap_cell (h.box HG0.out (by omega)) 1 rfl⟩, rfl⟩
      go_wp2_with fail
      refine wp_region_free [_, _, _, _, _, _, _, _, _] _ rfl (fun k => k == 7 || k == 8) (JD (w.heap.size + 1) 8 [7] w1 G R) S HSs.out (by kernel_rfl) (by kernel_rfl) (JD.start _ _ _ _ _ _) ?_
      iterate 7 (refine wpG_read hDJ.out rfl rfl ?_; go_big_quiet_step (fail); refine wpQuiet_nil ?_)
      refine wpG_call 73 #[.agg #[.slice a N c, .slice a' k c2]] rfl rfl (fun w' => by kernel_rfl) (fun gs w' hJ hdep hno => ?_) (fun v7 hv7 => ?_)
      · obtain ⟨-, hbe, -⟩ := hJ.ahead (.inr (by simp)) hno
        refine (HCp.out w' (Below.thenOf Hbw.out hbe Hbw.out.size)).mono ?_
        rintro e w3 ⟨u, rfl, hnew, hb⟩
        obtain ⟨ea, en, ec, eb, em, ek, ee⟩ : ∃ a n c b m k, u = .agg #[.slice a n c, .slice b m k] := by
          obtain ⟨ea, ec, eb, ek, ee⟩ := hnew.at.shapeS
          exact ⟨_, _, _, _, _, _, ee⟩
        exact ⟨_, rfl, (HS7.out _).2 ⟨_, _, _, _, _, _, ee⟩, hJ.put HGm.out (by simp) (by decide) hno hb ((HG7.out _ _).2 (hnew.mono hbe.size))⟩
      simp only [Act.put, List.setIfInBounds_toArray, List.set_cons_succ, List.set_cons_zero]
      obtain ⟨ea, en, ec, eb, em, ek, ee⟩ := (HS7.out _).1 hv7
      subst ee
      refine wpG_store rfl rfl (fun gs w' hJ hdep hno => ?_) (fun v8 hv8 => ?_)
      · have h7 := hdep 7 _ (.inr ⟨rfl, rfl⟩) (waitsB_spec (by kernel_rfl))
        obtain ⟨-, hbe, hG⟩ := hJ.ahead (.inl rfl) hno
        have hbx := (hbe.block _ hl1).trans HG1.out
        obtain ⟨z0', z1', f0', f1'⟩ := box_free hbx
        refine ⟨(w'.setCell ⟨w.heap.size + 1, 0, none⟩ (.slice ea en ec)).setCell ⟨w.heap.size + 1, 1, none⟩ (.slice eb em ek), ?_, HS8.out, hJ.store hno (fun k hk => by simp at hk; subst hk; exact ⟨_, h7⟩) ((HR.out _ _ _).2 ((HG7.out _ _).1 (hG 7 _ h7)))⟩
        clear hJ hdep hno q0 q1 hDJ hne h7 hbe hG hbx
        go_simp
      simp only [Act.put, List.setIfInBounds_toArray, List.set_cons_succ, List.set_cons_zero]
      refine wpG_nil ?_
      intro w4 hJ
      obtain ⟨w0, p, q, e4, hbe, hRR⟩ := hJ.done (.inr ⟨rfl, rfl⟩)
      have hnw := (HR.out _ _ _).1 hRR
      have hbx := (hbe.block _ hl1).trans HG1.out
      obtain ⟨k0, k1, k2⟩ := box_put (u := p) (v := q) hbx
      rw [← e4] at k0 k1 k2
      obtain ⟨ea, ec, eb, ek, ee⟩ := hnw.at.shapeS
      simp at ee
      obtain ⟨rfl, rfl⟩ := ee
      obtain ⟨y0, y1, -, -⟩ := box_free k0
      have HFin : Hid (DiskNew w.heap.size w4 (.agg #[.slice ea D.1.length ec, .slice eb D.2.length ek]) D ∧ Below w.heap.size w w4) := by
        refine ⟨(hnw.keep k1 hl1 k2).mono Hbw.out.size, ?_⟩
        rw [e4]
        exact below_disk (Below.thenOf Hbw.out hbe Hbw.out.size) (by omega) _ _
      generalize D.1.length = n1 at *
      generalize D.2.length = n2 at *
      clear hJ e4 hbe hRR hnw hbx k0 k1 k2 q0 q1 hDJ hne
      go_wp2_with fail
      refine bodyPost_ret (v := .tuple #[.agg #[.slice ea n1 ec, .slice eb n2 ek], .int .i64 0]) ?_ rfl ⟨_, by rw [HS.out.1], by rw [HS.out.2]; exact HFin.out.1, HFin.out.2⟩
      rw [results_cell_tmp rfl]
      go_simp
  · have hq : (DE != 0) = true := by simpa using hE
    have HS : Hid (dCrashE (s, t) n = DE ∧ dCrashR (s, t) n = ([], [])) := by
      have e : dCrashE (s, t) n = DE := by unfold dCrashE; rw [if_neg (by rw [HDE.out]; exact hE), HDE.out]
      exact ⟨e, by unfold dCrashR; rw [e, if_neg hE]⟩
    have HF : Hid (∀ x y, Below w.heap.size w ((w1.setCell ⟨w.heap.size + 1, 0, none⟩ x).setCell ⟨w.heap.size + 1, 1, none⟩ y)) := fun x y => below_disk hbw1 (by omega) x y
    clear G0 G1 hbw1 hs ht hd HDE hB hsm h21 h22 hb0 hE
    go_wp2_with fail
    refine bodyPost_ret (v := .tuple #[.agg #[.slice none 0 0, .slice none 0 0], .int .i64 DE]) ?_ rfl ⟨_, by rw [HS.out.1], by rw [HS.out.2]; exact diskNew_zero _ _, HF.out _ _⟩
    rw [results_cell_tmp rfl]
    go_simp
end Go.Proofs.YtdfcfinjoghipacGreatDoor
end
section
/- Package disk: Sync. -/
set_option linter.all false
set_option maxRecDepth 100000
namespace Go.Proofs.YtdfcfinjoghipacGreatDoor
open Go.RowKit Go.Maps

set_option maxHeartbeats 4000000 in
theorem syncK_new (B : Nat) (v : Value) (d : DiskT) (w : World) (he : EnvT w) (hd : DiskAt B w v d) (hB : B ≤ w.heap.size) (hsm : DSm d) :
    Calls Tryz.prog 22 #[v] w fun e w' => ∃ v', e = .returned (.tuple #[v', .int .i64 (dSyncE d)]) ∧ DiskNew w.heap.size w' v' (dSyncR d) ∧ Below w.heap.size w w' := by
  obtain ⟨sv, tv, rfl, hs, ht⟩ := id hd
  obtain ⟨s, t⟩ := d
  simp only [] at hs ht
  obtain ⟨a, c, e1, -, -, -⟩ := id hs
  obtain ⟨b, c2, e2, h21, h22, -⟩ := id ht
  subst e1 e2
  obtain ⟨W, hW⟩ : ∃ W, W = (w.alloc (.cells #[.slice a s.length c, .slice b t.length c2] 48)).alloc (.cells #[.slice none 0 0, .slice none 0 0] 48) := ⟨_, rfl⟩
  have hb0 : Below w.heap.size w W := by rw [hW]; exact ((Below.refl _ _).alloc (Nat.le_refl _) _).alloc (by simp) _
  have g0 : W.heap[w.heap.size]? = some (.cells #[.slice a s.length c, .slice b t.length c2] 48 (0, 0)) := by
    rw [hW]
    exact heapK_kept _ (heapK_at _ _ rfl)
  have g1 : W.heap[w.heap.size + 1]? = some (.cells #[.slice none 0 0, .slice none 0 0] 48 (0, 0)) := by
    rw [hW]
    exact heapK_at _ _ (by simp only [World.size_alloc])
  have hsW : W.heap.size = w.heap.size + 1 + 1 := by rw [hW]; simp
  have HCk : Hid _ := checkK_any B _ (s, t) W (he.later hb0) (hd.later hb0 hB) (by omega) hsm
  obtain ⟨y0, y1, -, -⟩ := box_free g0
  have HW : Hid (W = _) := hW
  have Hb0 : Hid (Below w.heap.size w W) := hb0
  generalize hDE : diskErr (s, t) = DE at *
  have HDE : Hid (diskErr (s, t) = DE) := hDE
  obtain ⟨N, hN⟩ : ∃ n, n = s.length := ⟨_, rfl⟩
  obtain ⟨m, hm⟩ : ∃ m, m = t.length := ⟨_, rfl⟩
  rw [← hN] at HW HCk y0 g0 ⊢
  rw [← hm] at HW HCk y1 g0 ⊢
  have HN : Hid (N = s.length) := hN
  have HM : Hid (m = t.length) := hm
  clear hW hDE hN hm
  go_enter Tryz.func22, Tryz.ntmps22
  go_wp2_with fail
  rw [← HW.out]
  go_at_call 27
  refine Calls.mono HCk.out ?_
  rintro e w1 ⟨rfl, hb1⟩
  have G0 := (hb1.block _ (lt_of_block g0)).trans g0
  have G1 := (hb1.block _ (lt_of_block g1)).trans g1
  have hbw1 : Below w.heap.size w w1 := Below.thenOf hb0 hb1 hb0.size
  have hl1 : w.heap.size + 1 < w1.heap.size := lt_of_block G1
  obtain ⟨z0, z1, f0, f1⟩ := box_free G1
  obtain ⟨x0, x1, -, -⟩ := box_free G0
  clear y0 y1 HCk g0 g1 hsW hb1 HW
  by_cases hE : DE = 0
  · subst hE
    have hm := HM.out
    have hN := HN.out
    obtain ⟨-, -, hl8, -⟩ := diskErr_ok HDE.out
    simp only [] at hl8
    have Hbw : Hid (Below w.heap.size w w1) := hbw1
    have HG0 : Hid (w1.heap[w.heap.size]? = some (.cells #[.slice a N c, .slice b m c2] 48 (0, 0))) := G0
    have HG1 : Hid (w1.heap[w.heap.size + 1]? = some (.cells #[.slice none 0 0, .slice none 0 0] 48 (0, 0))) := G1
    have HJn : Hid (∀ w', Below w.heap.size w w' → Calls Tryz.prog 72 #[.slice a N c, .slice b m c2] w' fun e w'' => ∃ v, e = .returned v ∧ BytesNew w'.heap.size w'' v (s ++ t) ∧ Below w'.heap.size w' w'') := fun w' hb => by
      rw [hN, hm]
      exact (joinK_any B _ _ s t w' (hs.later hb hB) (ht.later hb hB) (Nat.le_trans hB hb.size) (by omega)).mono fun e w'' ⟨v, h1, _, h3, h4⟩ => ⟨v, h1, h3, h4⟩
    have HE : Hid (∀ w', Below w.heap.size w w' → EnvT w') := fun w' hb => he.later hb
    have HSy : Hid (dSyncE (s, t) = diskErr (s ++ t, []) ∧ dSyncR (s, t) = if diskErr (s ++ t, []) = 0 then (s ++ t, []) else ([], [])) := by
      have e : dSyncE (s, t) = diskErr (s ++ t, []) := by unfold dSyncE syncE; rw [if_pos HDE.out]
      exact ⟨e, by unfold dSyncR; rw [e]⟩
    have HSm : Hid (DSm (s ++ t, [])) := by unfold Hid DSm; simp; omega
    clear G0 G1 hbw1 hs ht hd HDE hsm h21 h22 hb0 hN hm hl8
    go_wp2_with fail
    go_at_call 72
    refine Calls.mono (HJn.out w1 Hbw.out) ?_
    rintro e w2 ⟨jv, rfl, hnew, hb2⟩
    obtain ⟨ja, jc, ej⟩ := hnew.shape
    subst ej
    obtain ⟨X, hX⟩ : ∃ X, X = s ++ t := ⟨_, rfl⟩
    rw [← hX] at hnew HSy HSm ⊢
    obtain ⟨W3, hW3⟩ : ∃ W3, W3 = w2.alloc (.cells #[.slice ja X.length jc, .slice none 0 0] 48) := ⟨_, rfl⟩
    have hb3 : Below w2.heap.size w2 W3 := by rw [hW3]; exact (Below.refl _ _).alloc (Nat.le_refl _) _
    have g3 : W3.heap[w2.heap.size]? = some (.cells #[.slice ja X.length jc, .slice none 0 0] 48 (0, 0)) := by rw [hW3]; exact heap_made _ _
    have hb13 : Below w1.heap.size w1 W3 := Below.thenOf hb2 hb3 hb2.size
    have hbw3 : Below w.heap.size w W3 := Below.thenOf Hbw.out hb13 Hbw.out.size
    have hnw3 := hnew.later hb3
    have HCk : Hid _ := checkK_any W3.heap.size (.agg #[.slice ja X.length jc, .slice none 0 0]) (X, []) W3 (HE.out W3 hbw3) ⟨_, _, rfl, hnw3.at, nilBytes _ _⟩ (Nat.le_refl _) HSm.out
    have HNw : Hid (BytesNew w1.heap.size W3 (.slice ja X.length jc) X) := hnw3
    have HW3 : Hid (W3 = _) := hW3
    have HB13 : Hid (Below w1.heap.size w1 W3) := hb13
    have HG3 : Hid (W3.heap[w2.heap.size]? = some (.cells #[.slice ja X.length jc, .slice none 0 0] 48 (0, 0))) := g3
    have hs12 := hb2.size
    generalize hXl : X.length = xl at *
    have HXl : Hid (X.length = xl) := hXl
    clear hXl hX hnew hb2 hW3 hb3 g3 hb13 hbw3 hnw3 HJn x0 x1
    generalize diskErr (X, []) = de at *
    go_wp2_with fail
    rw [← HW3.out]
    go_at_call 27
    refine Calls.mono HCk.out ?_
    rintro e w4 ⟨rfl, hb4⟩
    have hb14 : Below w1.heap.size w1 w4 := Below.thenOf HB13.out hb4 HB13.out.size
    have hbw4 : Below w.heap.size w w4 := Below.thenOf Hbw.out hb14 Hbw.out.size
    have G4 := (hb14.block _ hl1).trans HG1.out
    have G5 := (hb4.block _ (lt_of_block HG3.out)).trans HG3.out
    obtain ⟨u0, u1, uf0, uf1⟩ := box_free G4
    obtain ⟨v0, v1, -, -⟩ := box_free G5
    have HF : Hid (∀ x y, Below w.heap.size w ((w4.setCell ⟨w.heap.size + 1, 0, none⟩ x).setCell ⟨w.heap.size + 1, 1, none⟩ y)) := fun x y => below_disk hbw4 (by omega) x y
    by_cases h0 : de = 0
    · subst h0
      obtain ⟨k0, k1, k2⟩ := box_put (u := .slice ja xl jc) (v := .slice none 0 0) G4
      have HFin : Hid (DiskNew w.heap.size ((w4.setCell ⟨w.heap.size + 1, 0, none⟩ (.slice ja xl jc)).setCell ⟨w.heap.size + 1, 1, none⟩ (.slice none 0 0)) (.agg #[.slice ja xl jc, .slice none 0 0]) (X, [])) := diskNew_of (((HNw.out.later hb4).keep k1 hl1 k2).mono Hbw.out.size) (nilNew _ _)
      have HS : Hid (dSyncE (s, t) = 0 ∧ dSyncR (s, t) = (X, [])) := ⟨HSy.out.1, by rw [HSy.out.2, if_pos rfl]⟩
      have hlne : w2.heap.size ≠ w.heap.size + 1 := by omega
      clear G4 G5 hb14 hbw4 hb4 k0 k1 k2 HCk HNw HG3 HSy z0 z1 f0 f1
      go_wp2_with fail
      refine bodyPost_ret (v := .tuple #[.agg #[.slice ja xl jc, .slice none 0 0], .int .i64 0]) ?_ rfl ⟨_, by rw [HS.out.1], by rw [HS.out.2]; exact HFin.out, HF.out _ _⟩
      rw [results_cell_tmp rfl]
      go_simp
    · have hq : (de != 0) = true := by simpa using h0
      have HS : Hid (dSyncE (s, t) = de ∧ dSyncR (s, t) = ([], [])) := ⟨HSy.out.1, by rw [HSy.out.2, if_neg h0]⟩
      clear G4 G5 hb14 hbw4 hb4 HCk HNw HG3 HSy z0 z1 f0 f1 h0 v0 v1
      go_wp2_with fail
      refine bodyPost_ret (v := .tuple #[.agg #[.slice none 0 0, .slice none 0 0], .int .i64 de]) ?_ rfl ⟨_, by rw [HS.out.1], by rw [HS.out.2]; exact diskNew_zero _ _, HF.out _ _⟩
      rw [results_cell_tmp rfl]
      go_simp
  · have hq : (DE != 0) = true := by simpa using hE
    have HS : Hid (dSyncE (s, t) = DE ∧ dSyncR (s, t) = ([], [])) := by
      have e : dSyncE (s, t) = DE := by unfold dSyncE; rw [if_neg (by rw [HDE.out]; exact hE), HDE.out]
      exact ⟨e, by unfold dSyncR; rw [e, if_neg hE]⟩
    have HF : Hid (∀ x y, Below w.heap.size w ((w1.setCell ⟨w.heap.size + 1, 0, none⟩ x).setCell ⟨w.heap.size + 1, 1, none⟩ y)) := fun x y => below_disk hbw1 (by omega) x y
    clear G0 G1 hbw1 hs ht hd HDE hB hsm h21 h22 hb0 hE
    go_wp2_with fail
    refine bodyPost_ret (v := .tuple #[.agg #[.slice none 0 0, .slice none 0 0], .int .i64 DE]) ?_ rfl ⟨_, by rw [HS.out.1], by rw [HS.out.2]; exact diskNew_zero _ _, HF.out _ _⟩
    rw [results_cell_tmp rfl]
    go_simp
end Go.Proofs.YtdfcfinjoghipacGreatDoor
end
