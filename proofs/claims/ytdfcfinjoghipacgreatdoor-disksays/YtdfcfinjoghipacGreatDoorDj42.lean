/- Package disk: Put. -/
import Derived.Test.YtdfcfinjoghipacGreatDoorDj41
set_option linter.all false
set_option maxRecDepth 100000
namespace Go.Proofs.YtdfcfinjoghipacGreatDoor
open Go.RowKit Go.Maps

set_option maxHeartbeats 4000000 in
theorem putK_new (B : Nat) (v rv : Value) (d : DiskT) (r : RecT) (w : World) (he : EnvT w) (hd : DiskAt B w v d) (hr : RecAt B w rv r) (hB : B ≤ w.heap.size) (hsm : DSm d) :
    Calls Tryz.prog 21 #[v, rv] w fun e w' => ∃ v', e = .returned (.tuple #[v', .int .i64 (dPutE d r)]) ∧ DiskNew w.heap.size w' v' (dPutR d r) ∧ Below w.heap.size w w' := by
  obtain ⟨sv, tv, rfl, hs, ht⟩ := id hd
  obtain ⟨s, t⟩ := d
  simp only [] at hs ht
  obtain ⟨a, c, e1, -, -, -⟩ := id hs
  obtain ⟨b, c2, e2, h21, h22, -⟩ := id ht
  subst e1 e2
  obtain ⟨r1, r2, r3, rr, r4⟩ := r
  obtain ⟨ra, rc, er, -⟩ := hr.shape
  subst er
  simp only [] at *
  have HRr : Hid (∀ w', Below w.heap.size w w' → RecAt B w' (.agg #[.int .i64 r1, .int .i64 r2, .int .i64 r3, .slice ra rr.length rc, .int .i64 r4]) (r1, r2, r3, rr, r4)) := fun w' hb => hr.later hb hB
  obtain ⟨r, hrr⟩ : ∃ r : RecT, r = (r1, r2, r3, rr, r4) := ⟨_, rfl⟩
  rw [← hrr] at HRr ⊢
  obtain ⟨W, hW⟩ : ∃ W, W = ((w.alloc (.cells #[.slice a s.length c, .slice b t.length c2] 48)).alloc (.cells #[.int .i64 r1, .int .i64 r2, .int .i64 r3, .slice ra rr.length rc, .int .i64 r4] 38)).alloc (.cells #[.slice none 0 0, .slice none 0 0] 48) := ⟨_, rfl⟩
  have hb0 : Below w.heap.size w W := by rw [hW]; exact (((Below.refl _ _).alloc (Nat.le_refl _) _).alloc (by simp) _).alloc (by simp; omega) _
  have g0 : W.heap[w.heap.size]? = some (.cells #[.slice a s.length c, .slice b t.length c2] 48 (0, 0)) := by
    rw [hW]
    exact heapK_kept _ (heapK_kept _ (heapK_at _ _ rfl))
  have gr : W.heap[w.heap.size + 1]? = some (.cells #[.int .i64 r1, .int .i64 r2, .int .i64 r3, .slice ra rr.length rc, .int .i64 r4] 38 (0, 0)) := by
    rw [hW]
    exact heapK_kept _ (heapK_at _ _ (by simp only [World.size_alloc]))
  have g1 : W.heap[w.heap.size + 1 + 1]? = some (.cells #[.slice none 0 0, .slice none 0 0] 48 (0, 0)) := by
    rw [hW]
    exact heapK_at _ _ (by simp only [World.size_alloc])
  have hsW : W.heap.size = w.heap.size + 1 + 1 + 1 := by rw [hW]; simp
  have HCk : Hid _ := checkK_any B _ (s, t) W (he.later hb0) (hd.later hb0 hB) (by omega) hsm
  obtain ⟨y0, y1, -, -⟩ := box_free g0
  have HW : Hid (W = _) := hW
  have Hb0 : Hid (Below w.heap.size w W) := hb0
  generalize hDE : diskErr (s, t) = DE at *
  have HDE : Hid (diskErr (s, t) = DE) := hDE
  obtain ⟨N, hN⟩ : ∃ n, n = s.length := ⟨_, rfl⟩
  obtain ⟨m, hm⟩ : ∃ m, m = t.length := ⟨_, rfl⟩
  obtain ⟨rl, hrl⟩ : ∃ n, n = rr.length := ⟨_, rfl⟩
  rw [← hrl] at HW gr HRr ⊢
  rw [← hN] at HW HCk y0 g0 ⊢
  rw [← hm] at HW HCk y1 g0 ⊢
  have HN : Hid (N = s.length) := hN
  have HM : Hid (m = t.length) := hm
  obtain ⟨t0, t1, t2, t3, t4⟩ := rec_box gr
  clear hW hDE hN hm hrl hr
  go_enter Tryz.func21, Tryz.ntmps21
  go_wp2_with fail
  rw [← HW.out]
  go_at_call 27
  refine Calls.mono HCk.out ?_
  rintro e w1 ⟨rfl, hb1⟩
  have G0 := (hb1.block _ (lt_of_block g0)).trans g0
  have G1 := (hb1.block _ (lt_of_block g1)).trans g1
  have hbw1 : Below w.heap.size w w1 := Below.thenOf hb0 hb1 hb0.size
  have Gr := (hb1.block _ (lt_of_block gr)).trans gr
  have hl1 : w.heap.size + 1 + 1 < w1.heap.size := lt_of_block G1
  obtain ⟨z0, z1, f0, f1⟩ := box_free G1
  obtain ⟨x0, x1, -, -⟩ := box_free G0
  obtain ⟨p0, p1, p2, p3, p4⟩ := rec_box Gr
  clear y0 y1 HCk g0 g1 hsW hb1 HW gr t0 t1 t2 t3 t4
  by_cases hE : DE = 0
  · subst hE
    have hm := HM.out
    have hN := HN.out
    obtain ⟨-, -, hl8, -⟩ := diskErr_ok HDE.out
    simp only [] at hl8
    have Hbw : Hid (Below w.heap.size w w1) := hbw1
    have HG0 : Hid (w1.heap[w.heap.size]? = some (.cells #[.slice a N c, .slice b m c2] 48 (0, 0))) := G0
    have HG1 : Hid (w1.heap[w.heap.size + 1 + 1]? = some (.cells #[.slice none 0 0, .slice none 0 0] 48 (0, 0))) := G1
    have HPr : Hid _ := printN_any B _ r w1 (he.later hbw1) (HRr.out w1 hbw1) (by omega)
    have HPE : Hid (dPutE (s, t) r = putE (s, t) r) := by unfold Hid dPutE; rw [if_pos HDE.out]
    obtain ⟨P, hP⟩ : ∃ P, P = printT r := ⟨_, rfl⟩
    obtain ⟨E, hEE⟩ : ∃ E, E = recErr r := ⟨_, rfl⟩
    have HPuE : Hid (dPutE (s, t) r = if E = 0 then (if 60000 < N + m + P.length + 1 then 2 else 0) else E) := by unfold Hid; rw [HPE.out]; unfold putE; rw [← hP, ← hEE, ← hN, ← hm]
    have HPuR : Hid (dPutR (s, t) r = if dPutE (s, t) r = 0 then (s, t ++ (P ++ [10])) else ([], [])) := by unfold Hid dPutR; rw [← hP]
    have hpl : P.length ≤ 100000000 := by rw [hP]; exact printT_len r
    rw [← hP, ← hEE] at HPr
    obtain ⟨pn, hpn⟩ : ∃ n, n = P.length := ⟨_, rfl⟩
    have HPn : Hid (P.length = pn) := hpn.symm
    rw [← hpn] at hpl HPuE
    obtain ⟨PS, hPS⟩ : ∃ PS, PS = bsB P := ⟨_, rfl⟩
    have HPS : Hid (PS.size = pn ∧ PS ++ ⟨#[10]⟩ = bsB (P ++ [10])) := by unfold Hid; rw [hPS]; exact ⟨by rw [hpn]; simp [bsB, ByteArray.size], bsB_add P⟩
    rw [← hPS] at HPr
    have hNm : N + m ≤ 60000 := by omega
    have HJs : Hid (∀ w', Below w.heap.size w w' → Calls Tryz.prog 72 #[.slice a N c, .slice none 0 0] w' fun e w'' => ∃ v, e = .returned v ∧ BytesNew w'.heap.size w'' v s ∧ Below w'.heap.size w' w'') := fun w' hbw => by
      have := joinK_any B _ _ s [] w' (hs.later hbw hB) (nilBytes B w') (Nat.le_trans hB hbw.size) (by simp; omega)
      rw [List.append_nil] at this
      rw [hN]
      exact this.mono fun e w'' ⟨v, h1, _, h3, h4⟩ => ⟨v, h1, h3, h4⟩
    have HJt : Hid (∀ w' u x, Below w.heap.size w w' → BytesAt w'.heap.size w' u x → x.length ≤ 60001 → Calls Tryz.prog 72 #[.slice b m c2, u] w' fun e w'' => ∃ v, e = .returned v ∧ BytesNew w'.heap.size w'' v (t ++ x) ∧ Below w'.heap.size w' w'') := fun w' u x hbw hu hx => by
      have := joinK_any w'.heap.size _ _ t x w' ((ht.later hbw hB).wide (Nat.le_trans hB hbw.size)) hu (Nat.le_refl _) (by omega)
      rw [hm]
      exact this.mono fun e w'' ⟨v, h1, _, h3, h4⟩ => ⟨v, h1, h3, h4⟩
    have HSz : Hid (∀ w', Calls Tryz.prog 71 #[.agg #[.slice a N c, .slice b m c2]] w' fun e w'' => e = .returned (.int .i64 ((N : Int) + (m : Int))) ∧ Below w'.heap.size w' w'') := fun w' => sizeK_any a b N c m c2 w' (by omega)
    have Hl : Hid (w.heap.size + 1 + 1 < w1.heap.size) := hl1
    clear G0 G1 Gr hbw1 hd HDE hsm h21 h22 hb0 hN hm hP hEE hpn hPS HPE hl8 hs ht hrr
    go_wp2_with fail
    go_at_call 13
    refine Calls.mono HPr.out ?_
    rintro e w2 ⟨rfl, hb2⟩
    have hbw2 : Below w.heap.size w w2 := Below.thenOf Hbw.out hb2 Hbw.out.size
    have G0 := (hb2.block _ (lt_of_block HG0.out)).trans HG0.out
    have G1 := (hb2.block _ (lt_of_block HG1.out)).trans HG1.out
    have hl2 : w.heap.size + 1 + 1 < w2.heap.size := lt_of_block G1
    clear z0 z1 f0 f1 x0 x1 p0 p1 p2 p3 p4 HPr
    obtain ⟨z0, z1, f0, f1⟩ := box_free G1
    obtain ⟨x0, x1, -, -⟩ := box_free G0
    have HB2 : Hid (Below w.heap.size w w2) := hbw2
    have HK0 : Hid (w2.heap[w.heap.size]? = some (.cells #[.slice a N c, .slice b m c2] 48 (0, 0))) := G0
    have HK1 : Hid (w2.heap[w.heap.size + 1 + 1]? = some (.cells #[.slice none 0 0, .slice none 0 0] 48 (0, 0))) := G1
    clear HG0 HG1 G0 G1 hb2 hbw2
    by_cases hE : E = 0
    · subst hE
      have hps : PS.size = pn := HPS.out.1
      have HPuE0 : Hid (dPutE (s, t) r = if 60000 < N + m + pn + 1 then 2 else 0) := by unfold Hid; rw [HPuE.out, if_pos rfl]
      clear HPuE
      go_wp2_with fail
      go_at_call 71
      refine Calls.mono (HSz.out w2) ?_
      rintro e w3 ⟨rfl, hb3⟩
      rw [HPS.out.2]
      obtain ⟨XS, hXS⟩ : ∃ XS, XS = bsB (P ++ [10]) := ⟨_, rfl⟩
      have HXS : Hid (XS = bsB (P ++ [10])) := hXS
      have hxs : XS.size = pn + 1 := by rw [hXS]; simp [bsB, ByteArray.size, HPn.out]
      rw [← hXS]
      clear hXS hps HPS HSz
      have hbw3 : Below w.heap.size w w3 := Below.thenOf HB2.out hb3 HB2.out.size
      have G0 := (hb3.block _ (lt_of_block HK0.out)).trans HK0.out
      have G1 := (hb3.block _ (lt_of_block HK1.out)).trans HK1.out
      have hl3 : w.heap.size + 1 + 1 < w3.heap.size := lt_of_block G1
      clear z0 z1 f0 f1 x0 x1
      obtain ⟨z0, z1, f0, f1⟩ := box_free G1
      obtain ⟨x0, x1, -, -⟩ := box_free G0
      have HB3 : Hid (Below w.heap.size w w3) := hbw3
      have HQ0 : Hid (w3.heap[w.heap.size]? = some (.cells #[.slice a N c, .slice b m c2] 48 (0, 0))) := G0
      have HQ1 : Hid (w3.heap[w.heap.size + 1 + 1]? = some (.cells #[.slice none 0 0, .slice none 0 0] 48 (0, 0))) := G1
      clear HK0 HK1 G0 G1 hb3 hbw3 HB2
      obtain ⟨zz, hzz⟩ : ∃ zz : Int, zz = (N : Int) + (m : Int) + ((pn : Int) + 1) := ⟨_, rfl⟩
      have Hzz : Hid (zz = (N : Int) + (m : Int) + ((pn : Int) + 1)) := hzz
      have hwz : IntKind.i64.wrap ((N : Int) + (m : Int) + ((pn : Int) + 1)) = zz := by rw [hzz]; exact IntWalk.i64_in _ (by omega)
      have hxi : (XS.size : Int) = (pn : Int) + 1 := by omega
      clear hzz
      by_cases hbig : 60000 < zz
      · have HS : Hid (dPutE (s, t) r = 2 ∧ dPutR (s, t) r = ([], [])) := by
          have hz := Hzz.out
          have e : dPutE (s, t) r = 2 := by rw [HPuE0.out, if_pos (by omega)]
          exact ⟨e, by rw [HPuR.out, e, if_neg (by decide)]⟩
        have HF : Hid (∀ x y, Below w.heap.size w ((w3.setCell ⟨w.heap.size + 1 + 1, 0, none⟩ x).setCell ⟨w.heap.size + 1 + 1, 1, none⟩ y)) := fun x y => below_disk HB3.out (by omega) x y
        clear HPuE0 HPuR hxs hpl hNm
        go_wp2_with fail
        refine bodyPost_ret (v := .tuple #[.agg #[.slice none 0 0, .slice none 0 0], .int .i64 2]) ?_ rfl ⟨_, by rw [HS.out.1], by rw [HS.out.2]; exact diskNew_zero _ _, HF.out _ _⟩
        rw [results_cell_tmp rfl]
        go_simp
      · have HS : Hid (dPutE (s, t) r = 0 ∧ dPutR (s, t) r = (s, t ++ (P ++ [10]))) := by
          have hz := Hzz.out
          have e : dPutE (s, t) r = 0 := by rw [HPuE0.out, if_neg (by omega)]
          exact ⟨e, by rw [HPuR.out, e, if_pos rfl]⟩
        have Hpn6 : Hid (pn + 1 ≤ 60001) := by have hz := Hzz.out; unfold Hid; omega
        clear HPuE0 HPuR hpl hNm
        obtain ⟨X, hX⟩ : ∃ X, X = P ++ [10] := ⟨_, rfl⟩
        have HXl : Hid (X.length ≤ 60001) := by have := Hpn6.out; unfold Hid; rw [hX, List.length_append, HPn.out]; exact this
        rw [← hX] at HS HXS
        have HCv : Hid (∀ w', ∃ a n cap w'', (convert 9 46 (.string XS)).run Tryz.prog w' = .ok (.slice a n cap) w'' ∧ BytesAt w''.heap.size w'' (.slice a n cap) X ∧ Below w'.heap.size w' w'') := fun w' => by
          obtain ⟨cap, w'', h1, h2, h3⟩ := conv_bytes XS w' (by have := Hpn6.out; omega)
          have e : XS.data.toList = X := by rw [HXS.out]; simp [bsB]
          rw [e] at h2
          exact ⟨_, _, cap, w'', h1, h2, h3⟩
        clear hX HXS
        obtain ⟨G, hG⟩ : ∃ G : Nat → World → Value → Prop, G = fun j w' u => (j = 2 → BytesNew w3.heap.size w' u s) ∧ (j = 6 → BytesAt w'.heap.size w' u X) ∧ (j = 7 → BytesNew w3.heap.size w' u (t ++ X)) := ⟨_, rfl⟩
        have HGm : Hid (∀ j u w w', Below w.heap.size w w' → G j w u → G j w' u) := fun j u w w' hb h => by
          rw [hG] at h ⊢
          exact ⟨fun e => (h.1 e).later hb, fun e => ((h.2.1 e).later hb (Nat.le_refl _)).wide hb.size, fun e => (h.2.2 e).later hb⟩
        have HG2 : Hid (∀ w' u, G 2 w' u ↔ BytesNew w3.heap.size w' u s) := fun w' u => by rw [hG]; simp
        have HG6 : Hid (∀ w' u, G 6 w' u ↔ BytesAt w'.heap.size w' u X) := fun w' u => by rw [hG]; simp
        have HG7 : Hid (∀ w' u, G 7 w' u ↔ BytesNew w3.heap.size w' u (t ++ X)) := fun w' u => by rw [hG]; simp
        obtain ⟨R, hR⟩ : ∃ R : Value → Value → World → Prop, R = fun p q w' => BytesNew w3.heap.size w' p s ∧ BytesNew w3.heap.size w' q (t ++ X) := ⟨_, rfl⟩
        have HR : Hid (∀ p q w', R p q w' ↔ BytesNew w3.heap.size w' p s ∧ BytesNew w3.heap.size w' q (t ++ X)) := fun p q w' => by rw [hR]
        obtain ⟨S, hS⟩ : ∃ S : Nat → Value → Prop, S = fun j v => j ≠ 9 → ∃ a n c, v = .slice a n c := ⟨_, rfl⟩
        have HSj : Hid (∀ j v, j ≠ 9 → (S j v ↔ ∃ a n c, v = .slice a n c)) := fun j v hj => by rw [hS]; simp [hj]
        have HS9 : Hid (S 9 undef) := by unfold Hid; rw [hS]; exact fun e => absurd rfl e
        have HSs : Hid (∀ j, ∃ v, S j v) := fun j => ⟨.slice none 0 0, by rw [hS]; exact fun _ => ⟨_, _, _, rfl⟩⟩
        clear hG hR hS
        have q0 : ∀ z : RdW w.heap.size (.slice a N c) (.slice b m c2), z.1.cell? ⟨w.heap.size, 0, none⟩ = some (.slice a N c) := fun z => z.2.1
        have q1 : ∀ z : RdW w.heap.size (.slice a N c) (.slice b m c2), z.1.cell? ⟨w.heap.size, 1, none⟩ = some (.slice b m c2) := fun z => z.2.2
        have hne : Nonempty (RdW w.heap.size (.slice a N c) (.slice b m c2)) := ⟨⟨w3, x0, x1⟩⟩
        have hDJ : Hid (∀ fs w', JD (w.heap.size + 1 + 1) 9 [2, 6, 7] w3 G R fs w' → ∃ z : RdW w.heap.size (.slice a N c) (.slice b m c2), w' = z.1) := fun fs w' h => ⟨⟨w', heap_cell (h.box HQ0.out (by omega)) 0 rfl, heap_cell (h.box HQ0.out (by omega)) 1 rfl⟩, rfl⟩
        go_wp2_with fail
        clear hxs hxi hwz
        refine wp_region_free [_, _, _, _, _, _, _, _, _, _] _ rfl (fun k => k == 2 || k == 6 || k == 7 || k == 9) (JD (w.heap.size + 1 + 1) 9 [2, 6, 7] w3 G R) S HSs.out (by kernel_rfl) (by kernel_rfl) (JD.start _ _ _ _ _ _) ?_
        iterate 2 (refine wpG_read hDJ.out rfl rfl ?_; go_big_quiet_step (fail); refine wpQuiet_nil ?_)
        refine wpG_call 72 #[.slice a N c, .slice none 0 0] rfl rfl (fun w' => by kernel_rfl) (fun gs w' hJ hdep hno => ?_) (fun v2 hv2 => ?_)
        · obtain ⟨-, hbe, -⟩ := hJ.ahead (.inr (by simp)) hno
          refine (HJs.out w' (Below.thenOf HB3.out hbe HB3.out.size)).mono ?_
          rintro e w4 ⟨u, rfl, hnew, hb⟩
          obtain ⟨ua, uc, eu⟩ := hnew.shape
          exact ⟨_, rfl, (HSj.out 2 _ (by decide)).2 ⟨_, _, _, eu⟩, hJ.put HGm.out (by simp) (by decide) hno hb ((HG2.out _ _).2 (hnew.mono hbe.size))⟩
        simp only [Act.put, List.setIfInBounds_toArray, List.set_cons_succ, List.set_cons_zero]
        obtain ⟨a2, n2, k2, rfl⟩ := (HSj.out 2 _ (by decide)).1 hv2
        iterate 3 (refine wpG_read hDJ.out rfl rfl ?_; go_big_quiet_step (fail); refine wpQuiet_nil ?_)
        refine wpG_write rfl rfl (fun gs w' hJ hdep hno => ?_) (fun v6 hv6 => ?_)
        · obtain ⟨ca, cn, cap, w'', r1, r2, r3⟩ := HCv.out w'
          refine ⟨_, w'', ?_, (HSj.out 6 _ (by decide)).2 ⟨_, _, _, rfl⟩, hJ.put HGm.out (by simp) (by decide) hno r3 ((HG6.out _ _).2 r2)⟩
          unfold execOp
          simp only [resolve, invoke, builtin, Sem.run_bind, Sem.run_pure, Result.andThen_ok, List.map_toArray, List.map_cons, List.map_nil]
          exact (congrArg (fun r => Result.andThen r fun v w => .ok (Next.value v) w) r1)
        simp only [Act.put, List.setIfInBounds_toArray, List.set_cons_succ, List.set_cons_zero]
        obtain ⟨a6, n6, k6, rfl⟩ := (HSj.out 6 _ (by decide)).1 hv6
        refine wpG_call 72 #[.slice b m c2, .slice a6 n6 k6] rfl rfl (fun w' => by kernel_rfl) (fun gs w' hJ hdep hno => ?_) (fun v7 hv7 => ?_)
        · have h6 := hdep 6 _ (.inr ⟨rfl, rfl⟩) (waitsB_spec (by kernel_rfl))
          obtain ⟨-, hbe, hG⟩ := hJ.ahead (.inr (by simp)) hno
          refine (HJt.out w' _ X (Below.thenOf HB3.out hbe HB3.out.size) ((HG6.out _ _).1 (hG 6 _ h6)) HXl.out).mono ?_
          rintro e w4 ⟨u, rfl, hnew, hb⟩
          obtain ⟨ua, uc, eu⟩ := hnew.shape
          exact ⟨_, rfl, (HSj.out 7 _ (by decide)).2 ⟨_, _, _, eu⟩, hJ.put HGm.out (by simp) (by decide) hno hb ((HG7.out _ _).2 (hnew.mono hbe.size))⟩
        simp only [Act.put, List.setIfInBounds_toArray, List.set_cons_succ, List.set_cons_zero]
        obtain ⟨a7, n7, k7, rfl⟩ := (HSj.out 7 _ (by decide)).1 hv7
        refine wpG_read hDJ.out rfl rfl ?_; go_big_quiet_step (fail); refine wpQuiet_nil ?_
        refine wpG_store rfl rfl (fun gs w' hJ hdep hno => ?_) (fun v9 hv9 => ?_)
        · have h2 := hdep 2 _ (.inl (.inl (.inr ⟨rfl, rfl⟩))) (waitsB_spec (by kernel_rfl))
          have h6 := hdep 6 _ (.inl (.inr ⟨rfl, rfl⟩)) (waitsB_spec (by kernel_rfl))
          have h7 := hdep 7 _ (.inr ⟨rfl, rfl⟩) (waitsB_spec (by kernel_rfl))
          obtain ⟨-, hbe, hG⟩ := hJ.ahead (.inl rfl) hno
          have hbx := (hbe.block _ hl3).trans HQ1.out
          obtain ⟨z0', z1', f0', f1'⟩ := box_free hbx
          refine ⟨(w'.setCell ⟨w.heap.size + 1 + 1, 0, none⟩ (.slice a2 n2 k2)).setCell ⟨w.heap.size + 1 + 1, 1, none⟩ (.slice a7 n7 k7), ?_, HS9.out, hJ.store hno (fun k hk => by
            simp at hk
            rcases hk with rfl | rfl | rfl
            · exact ⟨_, h2⟩
            · exact ⟨_, h6⟩
            · exact ⟨_, h7⟩) ((HR.out _ _ _).2 ⟨(HG2.out _ _).1 (hG 2 _ h2), (HG7.out _ _).1 (hG 7 _ h7)⟩)⟩
          clear hJ hdep hno q0 q1 hDJ hne h2 h6 h7 hbe hG hbx
          go_simp
        simp only [Act.put, List.setIfInBounds_toArray, List.set_cons_succ, List.set_cons_zero]
        refine wpG_nil ?_
        intro w4 hJ
        obtain ⟨w0, p, q, e4, hbe, hRR⟩ := hJ.done (.inr ⟨rfl, rfl⟩)
        obtain ⟨hn1, hn2⟩ := (HR.out _ _ _).1 hRR
        have hbx := (hbe.block _ hl3).trans HQ1.out
        obtain ⟨k0, k1, k2⟩ := box_put (u := p) (v := q) hbx
        rw [← e4] at k0 k1 k2
        obtain ⟨ea, ec, ee⟩ := hn1.shape
        obtain ⟨eb, ek, ef⟩ := hn2.shape
        subst ee ef
        obtain ⟨y0, y1, -, -⟩ := box_free k0
        have HFin : Hid (DiskNew w.heap.size w4 (.agg #[.slice ea s.length ec, .slice eb (t ++ X).length ek]) (s, t ++ X) ∧ Below w.heap.size w w4) := by
          refine ⟨diskNew_of ((hn1.keep k1 hl3 k2).mono HB3.out.size) ((hn2.keep k1 hl3 k2).mono HB3.out.size), ?_⟩
          rw [e4]
          exact below_disk (Below.thenOf HB3.out hbe HB3.out.size) (by omega) _ _
        generalize s.length = n1 at *
        generalize (t ++ X).length = n2 at *
        clear hJ e4 hbe hRR hn1 hn2 hbx k0 k1 k2 q0 q1 hDJ hne
        go_wp2_with fail
        refine bodyPost_ret (v := .tuple #[.agg #[.slice ea n1 ec, .slice eb n2 ek], .int .i64 0]) ?_ rfl ⟨_, by rw [HS.out.1], by rw [HS.out.2]; exact HFin.out.1, HFin.out.2⟩
        rw [results_cell_tmp rfl]
        go_simp
    · have hq : (E != 0) = true := by simpa using hE
      have HS : Hid (dPutE (s, t) r = E ∧ dPutR (s, t) r = ([], [])) := by
        have e : dPutE (s, t) r = E := by rw [HPuE.out, if_neg hE]
        exact ⟨e, by rw [HPuR.out, e, if_neg hE]⟩
      have HF : Hid (∀ x y, Below w.heap.size w ((w2.setCell ⟨w.heap.size + 1 + 1, 0, none⟩ x).setCell ⟨w.heap.size + 1 + 1, 1, none⟩ y)) := fun x y => below_disk HB2.out (by omega) x y
      clear hE HPuE HPuR
      go_wp2_with fail
      refine bodyPost_ret (v := .tuple #[.agg #[.slice none 0 0, .slice none 0 0], .int .i64 E]) ?_ rfl ⟨_, by rw [HS.out.1], by rw [HS.out.2]; exact diskNew_zero _ _, HF.out _ _⟩
      rw [results_cell_tmp rfl]
      go_simp
  · have hq : (DE != 0) = true := by simpa using hE
    have HS : Hid (dPutE (s, t) r = DE ∧ dPutR (s, t) r = ([], [])) := by
      have e : dPutE (s, t) r = DE := by unfold dPutE; rw [if_neg (by rw [HDE.out]; exact hE), HDE.out]
      exact ⟨e, by unfold dPutR; rw [e, if_neg hE]⟩
    have HF : Hid (∀ x y, Below w.heap.size w ((w1.setCell ⟨w.heap.size + 1 + 1, 0, none⟩ x).setCell ⟨w.heap.size + 1 + 1, 1, none⟩ y)) := fun x y => below_disk hbw1 (by omega) x y
    clear G0 G1 Gr hbw1 hs ht hd HDE hB hsm h21 h22 hb0 hE
    go_wp2_with fail
    refine bodyPost_ret (v := .tuple #[.agg #[.slice none 0 0, .slice none 0 0], .int .i64 DE]) ?_ rfl ⟨_, by rw [HS.out.1], by rw [HS.out.2]; exact diskNew_zero _ _, HF.out _ _⟩
    rw [results_cell_tmp rfl]
    go_simp
end Go.Proofs.YtdfcfinjoghipacGreatDoor
