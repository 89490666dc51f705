/- The counterpart's RecRead, at a text of kind open or tight. -/
import Derived.Test.YtdfcfinjoghipacGreatDoorDj20
set_option linter.all false
set_option maxRecDepth 100000
namespace Go.Proofs.YtdfcfinjoghipacGreatDoor
open Go.RowKit Go.Maps

set_option maxHeartbeats 4000000 in
theorem recRead_pol1 (s : ByteArray) (hs60 : s.size ≤ 60000) (w : World) (he : EnvT w) (hk : idxL kN ((split3 s.data.toList).getD 0 []) = 0) (hn : (split3 s.data.toList).length = 3) :
    Calls Tryz.prog 20 #[.string s] w fun e w' => ∃ v, e = .returned (.tuple #[v, .int .i64 (recOf s.data.toList).2]) ∧ RecNew w.heap.size w' v (recOf s.data.toList).1 ∧ Below w.heap.size w w' := by
  have hmm := @run_makeMap Tryz.prog
  have HE : Hid (∀ w', Below w.heap.size w w' → EnvT w') := fun w' h => he.later h
  clear he
  obtain ⟨ws, hmap, hl1, hl3, hsz, HSp⟩ := words3_any s hs60
  have HM : Hid (ws.map (fun p : ByteArray => p.data.toList) = split3 s.data.toList) := hmap
  have HSz : Hid (∀ u ∈ ws, u.size ≤ 60000) := hsz
  obtain ⟨u0, hu0⟩ : ∃ u, ws[0]? = some u := ⟨ws[0]'(by omega), by simp⟩
  have h0z : u0.size ≤ 60000 := hsz u0 (List.mem_of_getElem? hu0)
  have hw0 : (split3 s.data.toList).getD 0 [] = u0.data.toList := by
    rw [← hmap, List.getD_eq_getElem?_getD, List.getElem?_map, hu0]
    rfl
  obtain ⟨W0, hW0⟩ : ∃ W0, W0 = w.alloc (.cells #[.int .i64 0, .int .i64 0, .int .i64 0, .slice none 0 0, .int .i64 0] 38) := ⟨_, rfl⟩
  have g0 : W0.heap[w.heap.size]? = some (.cells #[.int .i64 0, .int .i64 0, .int .i64 0, .slice none 0 0, .int .i64 0] 38 (0, 0)) := by rw [hW0]; exact heap_made _ _
  have bw0 : Below w.heap.size w W0 := by rw [hW0]; exact (Below.refl _ _).alloc (Nat.le_refl _) _
  have HG : Hid (∀ w', Below W0.heap.size W0 w' → w'.heap[w.heap.size]? = some (.cells #[.int .i64 0, .int .i64 0, .int .i64 0, .slice none 0 0, .int .i64 0] 38 (0, 0)) ∧ Below w.heap.size w w') := fun w' h => ⟨(h.block _ (lt_of_block g0)).trans g0, Below.thenOf bw0 h bw0.size⟩
  obtain ⟨mm, hm⟩ := (HE.out W0 bw0).1
  have HSp0 : Hid _ := HSp mm W0 hm
  have HW : Hid (W0 = _) := hW0
  have Hu0 : Hid (ws[0]? = some u0 ∧ (split3 s.data.toList).getD 0 [] = u0.data.toList ∧ u0.size ≤ 60000) := ⟨hu0, hw0, h0z⟩
  clear hW0 g0 bw0 hmap hsz HSp hm hu0 hw0
  have hwlen : (split3 s.data.toList).length = ws.length := by rw [← HM.out]; simp
  obtain ⟨u1, hu1⟩ : ∃ u, ws[1]? = some u := ⟨ws[1]'(by omega), by simp⟩
  have h1z : u1.size ≤ 60000 := HSz.out u1 (List.mem_of_getElem? hu1)
  have hw1 : (split3 s.data.toList).getD 1 [] = u1.data.toList := by
    rw [← HM.out, List.getD_eq_getElem?_getD, List.getElem?_map, hu1]
    rfl
  obtain ⟨u2, hu2⟩ : ∃ u, ws[2]? = some u := ⟨ws[2]'(by omega), by simp⟩
  have h2z : u2.size ≤ 60000 := HSz.out u2 (List.mem_of_getElem? hu2)
  have hw2 : (split3 s.data.toList).getD 2 [] = u2.data.toList := by
    rw [← HM.out, List.getD_eq_getElem?_getD, List.getElem?_map, hu2]
    rfl
  have Hu2 : Hid (ws[2]? = some u2 ∧ u2.size ≤ 60000) := ⟨hu2, h2z⟩
  have HKd : Hid (1 + idxL kN u0.data.toList = 1) := by unfold Hid; rw [← Hu0.out.2.1, hk]; rfl
  have HRec : Hid (recOf s.data.toList = match numOf u1.data.toList with | none => (zeroRec, 1) | some c => if (parseR u2.data.toList).2 = 0 then finRec (1, c, 0, (parseR u2.data.toList).1) else (zeroRec, (parseR u2.data.toList).2)) := by
    unfold Hid recOf
    rw [hk, hn, hw1, hw2, if_neg (by omega)]
    cases numOf u1.data.toList <;> rfl
  have Hu1 : Hid (ws[1]? = some u1 ∧ u1.size ≤ 60000) := ⟨hu1, h1z⟩
  rw [hwlen] at hn
  rw [hn] at HSp0
  clear hwlen hk hu1 hw1 hu2 hw2 hl1 hl3
  go_enter Tryz.func20, Tryz.ntmps20
  go_wp2_with fail
  rw [← HW.out]
  go_at_call 68
  refine Calls.mono HSp0.out ?_
  rintro e w1 ⟨SB, cap, rfl, hc1, hc2, b01, hSB1, hSB2, hcell⟩
  have x0 := hcell 0 u0 Hu0.out.1
  have HCe : Hid (∀ j u, ws[j]? = some u → w1.cell? ⟨SB, j, none⟩ = some (.string u)) := hcell
  have hm0 := World.ownsMap_made (H := Unit) w1 Tryz.prog 9 (plainElem Tryz.prog 3)
  have y1 := hcell 1 u1 Hu1.out.1
  have y2 := hcell 2 u2 Hu2.out.1
  have hu0m : Hid (u0.size ≤ maxLen) := by unfold Hid; have := maxLen_eq; omega
  clear hcell HSp0 HW
  go_wp2_with (first
    | (refine wpList_insert_own _ rfl _ _ _ 106 rfl 9 3 keyStr Tryz.underlying106 (plainElem Tryz.prog 3) w1.heap.size 0 _ rfl hm0 (by decide) _ _ _ rfl rfl (Go.WideMaps.keyOf_string_mk Tryz.underlying9 (by decide)) _ [] (plainElem_int Tryz.underlying3 (by decide)) ?_; go_must (intro w2 hown2 hg2; clear hm0; have HB := ((Below.refl w1.heap.size w1).alloc (Nat.le_refl _) _).grown hg2 (by simp) (fun k hk => by cases hk; exact Nat.le_refl _)))
    | (refine wpList_insert_own _ rfl _ _ _ 106 rfl 9 3 keyStr Tryz.underlying106 (plainElem Tryz.prog 3) w1.heap.size 1 _ rfl hown2 (by decide) _ _ _ rfl rfl (Go.WideMaps.keyOf_string_mk Tryz.underlying9 (by decide)) _ [] (plainElem_int Tryz.underlying3 (by decide)) ?_; go_must (intro w3 hown3 hg3; clear hown2; replace HB := HB.grown hg3 HB.size (fun k hk => by cases hk; exact Nat.le_refl _)))
    | (refine wpList_insert_own _ rfl _ _ _ 106 rfl 9 3 keyStr Tryz.underlying106 (plainElem Tryz.prog 3) w1.heap.size 2 _ rfl hown3 (by decide) _ _ _ rfl rfl (Go.WideMaps.keyOf_string_mk Tryz.underlying9 (by decide)) _ [] (plainElem_int Tryz.underlying3 (by decide)) ?_; go_must (intro w4 hown4 hg4; clear hown3; replace HB := HB.grown hg4 HB.size (fun k hk => by cases hk; exact Nat.le_refl _)))
    | (refine wpList_insert_own _ rfl _ _ _ 106 rfl 9 3 keyStr Tryz.underlying106 (plainElem Tryz.prog 3) w1.heap.size 3 _ rfl hown4 (by decide) _ _ _ rfl rfl (Go.WideMaps.keyOf_string_mk Tryz.underlying9 (by decide)) _ [] (plainElem_int Tryz.underlying3 (by decide)) ?_; go_must (intro w5 hown5 hg5; clear hown4; replace HB := HB.grown hg5 HB.size (fun k hk => by cases hk; exact Nat.le_refl _); have x5 := (HB.cell (p := ⟨SB, 0, none⟩) hSB2).trans x0; have y5 := (HB.cell (p := ⟨SB, 1, none⟩) hSB2).trans y1; have hSB5 : SB < w5.heap.size := (Nat.lt_of_lt_of_le hSB2 HB.size); have hs5 := HB.size; obtain ⟨c', hlk, h2, _⟩ := hown5.lookup_int keyStr Tryz.underlying106 Tryz.underlying3 (zero3 _) (Go.WideMaps.keyOf_string_mk (s := u0) Tryz.underlying9 hu0m.out); have hc' := (lit_inj (h2.symm.trans (D4_says _))).trans HKd.out; rw [hc'] at hlk; clear h2 hc')))
  have Hy2 : Hid (∀ w', Below w5.heap.size w5 w' → w'.cell? ⟨SB, 2, none⟩ = some (.string u2)) := fun w' h => (h.cell (p := ⟨SB, 2, none⟩) hSB5).trans ((HB.cell (p := ⟨SB, 2, none⟩) hSB2).trans y2)
  have hneS : ¬ SB = w5.heap.size := by omega
  have b05 : Below W0.heap.size W0 w5 := Below.thenOf b01 HB b01.size
  have bw5 := (HG.out w5 b05).2
  have H05 : Hid (W0.heap.size ≤ w5.heap.size) := b05.size
  obtain ⟨W6, hW6⟩ : ∃ W6, W6 = w5.alloc (.cells #[.int .i64 1, .int .i64 0, .int .i64 0, .slice none 0 0, .int .i64 0] 38) := ⟨_, rfl⟩
  have b56 : Below w5.heap.size w5 W6 := by rw [hW6]; exact (Below.refl _ _).alloc (Nat.le_refl _) _
  have b06 : Below W0.heap.size W0 W6 := Below.thenOf b05 b56 b05.size
  have g6 : W6.heap[w5.heap.size]? = some (.cells #[.int .i64 1, .int .i64 0, .int .i64 0, .slice none 0 0, .int .i64 0] 38 (0, 0)) := by rw [hW6]; exact heap_made _ _
  have l6 := lt_of_block g6
  have HR6 : Hid (∀ w', Below W6.heap.size W6 w' → w'.heap[w5.heap.size]? = some (.cells #[.int .i64 1, .int .i64 0, .int .i64 0, .slice none 0 0, .int .i64 0] 38 (0, 0)) ∧ Below W0.heap.size W0 w' ∧ Below w5.heap.size w5 w') := fun w' h => ⟨(h.block _ l6).trans g6, Below.thenOf b06 h b06.size, Below.thenOf b56 h b56.size⟩
  have HWh : Hid _ := whole_any u1 (by have := Hu1.out.2; omega) W6 (HE.out W6 (HG.out W6 b06).2)
  rw [← hW6]
  clear hW6 g6 b06 b56 b05 bw5 HB hown5 hlk x5 y5 x0 y1 y2 b01
  go_at_call 69
  refine Calls.mono HWh.out ?_
  rintro e w7 ⟨n, ok, rfl, hnum, hwfn, b67⟩
  obtain ⟨g7, b07, b57⟩ := HR6.out w7 b67
  have y7 := Hy2.out w7 b57
  have lS7 : SB < w7.heap.size := by have := b57.size; omega
  have l7 := lt_of_block g7
  obtain ⟨q0, q1, q2, q3, q4⟩ := rec_box g7
  have fq : w7.frozen? ⟨w5.heap.size, 1, none⟩ = false := by simp [World.frozen?, g7]
  have hne : ¬ w.heap.size = w5.heap.size := by have := (HG.out w7 b07).1; have := lt_of_block this; intro e; rw [e] at this; have h2 := (HG.out w7 b07).1; rw [e, g7] at h2; simp at h2
  have G7 : Hid (w7.heap[w5.heap.size]? = _) := g7
  have B07 : Hid (Below W0.heap.size W0 w7) := b07
  clear g7 b07 b67 HR6 HWh hSB5 b57 Hy2
  cases ok with
  | false =>
    have HRes : Hid (recOf s.data.toList = (zeroRec, 1)) := by unfold Hid; rw [HRec.out, hnum]; rfl
    clear hnum
    go_wp2_with fail
    go_at_call 67
    refine Calls.mono (badR_any 1 _) ?_
    rintro e w8 ⟨rfl, b78⟩
    have b0s : Below W0.heap.size W0 (w7.setCell ⟨w5.heap.size, 1, none⟩ (.int .i64 n)) := B07.out.setCell (p := ⟨w5.heap.size, 1, none⟩) H05.out _
    have b0b : Below W0.heap.size W0 w8 := Below.thenOf b0s b78 b0s.size
    clear b0s b78 q0 q1 q2 q3 q4 fq
    obtain ⟨gb, bwb⟩ := HG.out w8 b0b
    have lb := lt_of_block gb
    obtain ⟨z0, z1, z2, z3, z4⟩ := rec_box gb
    have f0 : w8.frozen? ⟨w.heap.size, 0, none⟩ = false := by simp [World.frozen?, gb]
    have f1 : w8.frozen? ⟨w.heap.size, 1, none⟩ = false := by simp [World.frozen?, gb]
    have f2 : w8.frozen? ⟨w.heap.size, 2, none⟩ = false := by simp [World.frozen?, gb]
    have f3 : w8.frozen? ⟨w.heap.size, 3, none⟩ = false := by simp [World.frozen?, gb]
    have f4 : w8.frozen? ⟨w.heap.size, 4, none⟩ = false := by simp [World.frozen?, gb]
    have Bwb : Hid (Below w.heap.size w w8) := bwb
    clear gb bwb b0b
    go_wp2_with fail
    refine bodyPost_ret (v := .tuple #[.agg #[.int .i64 0, .int .i64 0, .int .i64 0, .slice none 0 0, .int .i64 0], .int .i64 1]) ?_ rfl ⟨_, by rw [HRes.out], by rw [HRes.out]; exact recNew_zero _ _, ?_⟩
    · rw [results_cell_tmp rfl]
      go_simp
    · exact ((((Bwb.out.setCell (p := ⟨w.heap.size, 0, none⟩) (Nat.le_refl _) _).setCell (p := ⟨w.heap.size, 1, none⟩) (Nat.le_refl _) _).setCell (p := ⟨w.heap.size, 2, none⟩) (Nat.le_refl _) _).setCell (p := ⟨w.heap.size, 3, none⟩) (Nat.le_refl _) _).setCell (p := ⟨w.heap.size, 4, none⟩) (Nat.le_refl _) _
  | true =>
    obtain ⟨W8, hW8⟩ : ∃ W8, W8 = w7.setCell ⟨w5.heap.size, 1, none⟩ (.int .i64 n) := ⟨_, rfl⟩
    have b08 : Below W0.heap.size W0 W8 := by rw [hW8]; exact B07.out.setCell (p := ⟨w5.heap.size, 1, none⟩) H05.out _
    have g8 : W8.heap[w5.heap.size]? = some (.cells #[.int .i64 1, .int .i64 n, .int .i64 0, .slice none 0 0, .int .i64 0] 38 (0, 0)) := by rw [hW8]; exact row_setCell G7.out
    have HPd : Hid _ := policyRead_new u2 Hu2.out.2 W8 (HE.out W8 (HG.out W8 b08).2)
    have HW8 : Hid (W8 = _) := hW8
    have B08 : Hid (Below W0.heap.size W0 W8) := b08
    have G8 : Hid (W8.heap[w5.heap.size]? = _) := g8
    have HN1 : Hid (numOf u1.data.toList = some n) := hnum
    clear hW8 b08 g8 hnum G7 B07
    go_wp2_with fail
    rw [← HW8.out]
    go_at_call 70
    refine Calls.mono HPd.out ?_
    rintro e w9 ⟨pv, rfl, hnw, b89⟩
    have b09 : Below W0.heap.size W0 w9 := Below.thenOf B08.out b89 B08.out.size
    have g9 : w9.heap[w5.heap.size]? = some (.cells #[.int .i64 1, .int .i64 n, .int .i64 0, .slice none 0 0, .int .i64 0] 38 (0, 0)) := (b89.block _ (lt_of_block G8.out)).trans G8.out
    have l9 := lt_of_block g9
    have B09 : Hid (Below W0.heap.size W0 w9) := b09
    have G9 : Hid (w9.heap[w5.heap.size]? = _) := g9
    obtain ⟨p0, p1, p2, p3, p4⟩ := rec_box g9
    have fp3 : w9.frozen? ⟨w5.heap.size, 3, none⟩ = false := by simp [World.frozen?, g9]
    have fp4 : w9.frozen? ⟨w5.heap.size, 4, none⟩ = false := by simp [World.frozen?, g9]
    obtain ⟨PP, hPP⟩ : ∃ PP, PP = (parseR u2.data.toList).1 := ⟨_, rfl⟩
    obtain ⟨PE, hPE⟩ : ∃ PE, PE = (parseR u2.data.toList).2 := ⟨_, rfl⟩
    rw [← hPP] at hnw
    rw [← hPE] at ⊢
    rw [← hPP, ← hPE] at HRec
    clear hPP hPE
    have HNw : Hid (PolNew W8.heap.size w9 pv PP) := hnw
    obtain ⟨prs, pd⟩ := PP
    obtain ⟨vr, ev, hwv, va, vc, er, -⟩ := hnw.at
    simp only [] at ev er
    subst er
    subst ev
    have HL8 : Hid (w5.heap.size < W8.heap.size ∧ w.heap.size < W8.heap.size) := ⟨lt_of_block G8.out, lt_of_block (HG.out W8 B08.out).1⟩
    generalize prs.length = pn at *
    clear b89 b09 g9 HW8 G8 B08 HPd q0 q1 q2 q3 q4 fq y7 lS7 hnw
    by_cases hPE0 : PE = 0
    case neg =>
      have HRes : Hid (recOf s.data.toList = (zeroRec, PE)) := by unfold Hid; rw [HRec.out, HN1.out]; show (if PE = 0 then _ else _) = _; rw [if_neg hPE0]
      have hq : (PE != 0) = true := by simpa using hPE0
      clear hPE0
      go_wp2_with fail
      go_at_call 67
      refine Calls.mono (badR_any PE _) ?_
      rintro e w10 ⟨rfl, b910⟩
      have b0a : Below W0.heap.size W0 (w9.alloc (.cells #[.slice va pn vc, .int .i64 pd] 24)) := B09.out.alloc B09.out.size _
      have b0b : Below W0.heap.size W0 w10 := Below.thenOf b0a b910 b0a.size
      clear b910 b0a p0 p1 p2 p3 p4 fp3 fp4
      obtain ⟨gb, bwb⟩ := HG.out w10 b0b
      have lb := lt_of_block gb
      obtain ⟨z0, z1, z2, z3, z4⟩ := rec_box gb
      have f0 : w10.frozen? ⟨w.heap.size, 0, none⟩ = false := by simp [World.frozen?, gb]
      have f1 : w10.frozen? ⟨w.heap.size, 1, none⟩ = false := by simp [World.frozen?, gb]
      have f2 : w10.frozen? ⟨w.heap.size, 2, none⟩ = false := by simp [World.frozen?, gb]
      have f3 : w10.frozen? ⟨w.heap.size, 3, none⟩ = false := by simp [World.frozen?, gb]
      have f4 : w10.frozen? ⟨w.heap.size, 4, none⟩ = false := by simp [World.frozen?, gb]
      have Bwb : Hid (Below w.heap.size w w10) := bwb
      clear gb bwb b0b
      go_wp2_with fail
      refine bodyPost_ret (v := .tuple #[.agg #[.int .i64 0, .int .i64 0, .int .i64 0, .slice none 0 0, .int .i64 0], .int .i64 PE]) ?_ rfl ⟨_, by rw [HRes.out], by rw [HRes.out]; exact recNew_zero _ _, ?_⟩
      · rw [results_cell_tmp rfl]
        go_simp
      · exact ((((Bwb.out.setCell (p := ⟨w.heap.size, 0, none⟩) (Nat.le_refl _) _).setCell (p := ⟨w.heap.size, 1, none⟩) (Nat.le_refl _) _).setCell (p := ⟨w.heap.size, 2, none⟩) (Nat.le_refl _) _).setCell (p := ⟨w.heap.size, 3, none⟩) (Nat.le_refl _) _).setCell (p := ⟨w.heap.size, 4, none⟩) (Nat.le_refl _) _
    case pos =>
      subst hPE0
      obtain ⟨W10, hW10⟩ : ∃ W10, W10 = ((w9.setCell ⟨w5.heap.size, 3, none⟩ (.slice va pn vc)).setCell ⟨w5.heap.size, 4, none⟩ (.int .i64 pd)).alloc (.cells #[.slice va pn vc, .int .i64 pd] 24) := ⟨_, rfl⟩
      have b0s : Below W0.heap.size W0 W10 := by
        rw [hW10]
        exact ((B09.out.setCell (p := ⟨w5.heap.size, 3, none⟩) H05.out _).setCell (p := ⟨w5.heap.size, 4, none⟩) H05.out _).alloc (by simpa using B09.out.size) _
      have g10' : W10.heap[w5.heap.size]? = some (.cells #[.int .i64 1, .int .i64 n, .int .i64 0, .slice va pn vc, .int .i64 pd] 38 (0, 0)) := by
        have e1 := row_setCell (o := 3) (u := .slice va pn vc) G9.out
        have e2 := row_setCell (o := 4) (u := .int .i64 pd) e1
        rw [hW10, Below.heap_alloc _ _ _ (by simpa using l9), e2]
        rfl
      have HN10 : Hid (PolNew W8.heap.size W10 (.agg #[.slice va pn vc, .int .i64 pd]) (prs, pd)) := by
        unfold Hid
        rw [hW10]
        have := HL8.out
        exact ((HNw.out.put (.inl this.1)).put (.inl this.1)).later (Nat.le_refl _) ((Below.refl _ _).alloc (Nat.le_refl _) _)
      have HNum : Hid (recOf s.data.toList = finRec (1, n, 0, prs, pd)) := by unfold Hid; rw [HRec.out, HN1.out]; rfl
      obtain ⟨E, hE⟩ : ∃ E, E = recErr (1, n, 0, prs, pd) := ⟨_, rfl⟩
      have HFin : Hid (finRec (1, n, 0, prs, pd) = if E = 0 then ((1, n, 0, prs, pd), 0) else (zeroRec, E)) := by rw [hE]; rfl
      have HRecAt : Hid (∀ W, PolNew W8.heap.size W (.agg #[.slice va pn vc, .int .i64 pd]) (prs, pd) → RecAt W.heap.size W (.agg #[.int .i64 1, .int .i64 n, .int .i64 0, .slice va pn vc, .int .i64 pd]) (1, n, 0, prs, pd)) := fun W h => ⟨_, rfl, (by unfold wf; decide : wf (1 : Int)), hwfn, (by unfold wf; decide : wf (0 : Int)), h.at⟩
      have HCk : Hid (Calls Tryz.prog 62 #[.agg #[.int .i64 1, .int .i64 n, .int .i64 0, .slice va pn vc, .int .i64 pd]] W10 fun e w' => e = .returned (.int .i64 E) ∧ Below W10.heap.size W10 w') := by
        unfold Hid
        rw [hE]
        exact checkRec_any _ _ (1, n, 0, prs, pd) W10 (HRecAt.out _ HN10.out) (Nat.le_refl _)
      have HW10 : Hid (W10 = _) := hW10
      have B0s : Hid (Below W0.heap.size W0 W10) := b0s
      have G10 : Hid (W10.heap[w5.heap.size]? = _) := g10'
      clear hE b0s g10' hW10 HRec
      go_wp2_with fail
      rw [← HW10.out]
      go_at_call 62
      refine Calls.mono HCk.out ?_
      rintro e w11 ⟨rfl, b1011⟩
      have b011 : Below W0.heap.size W0 w11 := Below.thenOf B0s.out b1011 B0s.out.size
      have g11 : w11.heap[w5.heap.size]? = some (.cells #[.int .i64 1, .int .i64 n, .int .i64 0, .slice va pn vc, .int .i64 pd] 38 (0, 0)) := (b1011.block _ (lt_of_block G10.out)).trans G10.out
      have l11 := lt_of_block g11
      obtain ⟨r0, r1, r2, r3, r4⟩ := rec_box g11
      have B011 : Hid (Below W0.heap.size W0 w11) := b011
      have HN11 : Hid (PolNew W8.heap.size w11 (.agg #[.slice va pn vc, .int .i64 pd]) (prs, pd)) := HN10.out.later (Nat.le_refl _) b1011
      clear b1011 p0 p1 p2 p3 p4 fp3 fp4 G9 b011 g11
      by_cases hE0 : E = 0
      · have HRes : Hid (recOf s.data.toList = ((1, n, 0, prs, pd), 0)) := by unfold Hid; rw [HNum.out, HFin.out, if_pos hE0]
        subst hE0
        have b0b := B011.out
        obtain ⟨gb, bwb⟩ := HG.out w11 b0b
        have lb := lt_of_block gb
        obtain ⟨z0, z1, z2, z3, z4⟩ := rec_box gb
        have f0 : w11.frozen? ⟨w.heap.size, 0, none⟩ = false := by simp [World.frozen?, gb]
        have f1 : w11.frozen? ⟨w.heap.size, 1, none⟩ = false := by simp [World.frozen?, gb]
        have f2 : w11.frozen? ⟨w.heap.size, 2, none⟩ = false := by simp [World.frozen?, gb]
        have f3 : w11.frozen? ⟨w.heap.size, 3, none⟩ = false := by simp [World.frozen?, gb]
        have f4 : w11.frozen? ⟨w.heap.size, 4, none⟩ = false := by simp [World.frozen?, gb]
        have Bwb : Hid (Below w.heap.size w w11) := bwb
        clear gb bwb b0b
        go_wp2_with fail
        refine bodyPost_ret (v := .tuple #[.agg #[.int .i64 1, .int .i64 n, .int .i64 0, .slice va pn vc, .int .i64 pd], .int .i64 0]) ?_ rfl ⟨_, by rw [HRes.out], by rw [HRes.out]; have := HL8.out; exact fun wF h1 h2 => HRecAt.out wF ((((((HN11.out.put (.inl this.2)).put (.inl this.2)).put (.inl this.2)).put (.inl this.2)).put (.inl this.2)).keep (Nat.le_refl _) (fun g hg hl => h1 g (by omega) hl) h2), ?_⟩
        · rw [results_cell_tmp rfl]
          go_simp
        · exact ((((Bwb.out.setCell (p := ⟨w.heap.size, 0, none⟩) (Nat.le_refl _) _).setCell (p := ⟨w.heap.size, 1, none⟩) (Nat.le_refl _) _).setCell (p := ⟨w.heap.size, 2, none⟩) (Nat.le_refl _) _).setCell (p := ⟨w.heap.size, 3, none⟩) (Nat.le_refl _) _).setCell (p := ⟨w.heap.size, 4, none⟩) (Nat.le_refl _) _
      · have HRes : Hid (recOf s.data.toList = (zeroRec, E)) := by unfold Hid; rw [HNum.out, HFin.out, if_neg hE0]
        have hq : (E != 0) = true := by simpa using hE0
        go_wp2_with fail
        go_at_call 67
        refine Calls.mono (badR_any E _) ?_
        rintro e w12 ⟨rfl, b1112⟩
        have b0b : Below W0.heap.size W0 w12 := Below.thenOf B011.out b1112 B011.out.size
        clear b1112 r0 r1 r2 r3 r4
        obtain ⟨gb, bwb⟩ := HG.out w12 b0b
        have lb := lt_of_block gb
        obtain ⟨z0, z1, z2, z3, z4⟩ := rec_box gb
        have f0 : w12.frozen? ⟨w.heap.size, 0, none⟩ = false := by simp [World.frozen?, gb]
        have f1 : w12.frozen? ⟨w.heap.size, 1, none⟩ = false := by simp [World.frozen?, gb]
        have f2 : w12.frozen? ⟨w.heap.size, 2, none⟩ = false := by simp [World.frozen?, gb]
        have f3 : w12.frozen? ⟨w.heap.size, 3, none⟩ = false := by simp [World.frozen?, gb]
        have f4 : w12.frozen? ⟨w.heap.size, 4, none⟩ = false := by simp [World.frozen?, gb]
        have Bwb : Hid (Below w.heap.size w w12) := bwb
        clear gb bwb b0b
        go_wp2_with fail
        refine bodyPost_ret (v := .tuple #[.agg #[.int .i64 0, .int .i64 0, .int .i64 0, .slice none 0 0, .int .i64 0], .int .i64 E]) ?_ rfl ⟨_, by rw [HRes.out], by rw [HRes.out]; exact recNew_zero _ _, ?_⟩
        · rw [results_cell_tmp rfl]
          go_simp
        · exact ((((Bwb.out.setCell (p := ⟨w.heap.size, 0, none⟩) (Nat.le_refl _) _).setCell (p := ⟨w.heap.size, 1, none⟩) (Nat.le_refl _) _).setCell (p := ⟨w.heap.size, 2, none⟩) (Nat.le_refl _) _).setCell (p := ⟨w.heap.size, 3, none⟩) (Nat.le_refl _) _).setCell (p := ⟨w.heap.size, 4, none⟩) (Nat.le_refl _) _

set_option maxHeartbeats 4000000 in
theorem recRead_pol2 (s : ByteArray) (hs60 : s.size ≤ 60000) (w : World) (he : EnvT w) (hk : idxL kN ((split3 s.data.toList).getD 0 []) = 1) (hn : (split3 s.data.toList).length = 3) :
    Calls Tryz.prog 20 #[.string s] w fun e w' => ∃ v, e = .returned (.tuple #[v, .int .i64 (recOf s.data.toList).2]) ∧ RecNew w.heap.size w' v (recOf s.data.toList).1 ∧ Below w.heap.size w w' := by
  have hmm := @run_makeMap Tryz.prog
  have HE : Hid (∀ w', Below w.heap.size w w' → EnvT w') := fun w' h => he.later h
  clear he
  obtain ⟨ws, hmap, hl1, hl3, hsz, HSp⟩ := words3_any s hs60
  have HM : Hid (ws.map (fun p : ByteArray => p.data.toList) = split3 s.data.toList) := hmap
  have HSz : Hid (∀ u ∈ ws, u.size ≤ 60000) := hsz
  obtain ⟨u0, hu0⟩ : ∃ u, ws[0]? = some u := ⟨ws[0]'(by omega), by simp⟩
  have h0z : u0.size ≤ 60000 := hsz u0 (List.mem_of_getElem? hu0)
  have hw0 : (split3 s.data.toList).getD 0 [] = u0.data.toList := by
    rw [← hmap, List.getD_eq_getElem?_getD, List.getElem?_map, hu0]
    rfl
  obtain ⟨W0, hW0⟩ : ∃ W0, W0 = w.alloc (.cells #[.int .i64 0, .int .i64 0, .int .i64 0, .slice none 0 0, .int .i64 0] 38) := ⟨_, rfl⟩
  have g0 : W0.heap[w.heap.size]? = some (.cells #[.int .i64 0, .int .i64 0, .int .i64 0, .slice none 0 0, .int .i64 0] 38 (0, 0)) := by rw [hW0]; exact heap_made _ _
  have bw0 : Below w.heap.size w W0 := by rw [hW0]; exact (Below.refl _ _).alloc (Nat.le_refl _) _
  have HG : Hid (∀ w', Below W0.heap.size W0 w' → w'.heap[w.heap.size]? = some (.cells #[.int .i64 0, .int .i64 0, .int .i64 0, .slice none 0 0, .int .i64 0] 38 (0, 0)) ∧ Below w.heap.size w w') := fun w' h => ⟨(h.block _ (lt_of_block g0)).trans g0, Below.thenOf bw0 h bw0.size⟩
  obtain ⟨mm, hm⟩ := (HE.out W0 bw0).1
  have HSp0 : Hid _ := HSp mm W0 hm
  have HW : Hid (W0 = _) := hW0
  have Hu0 : Hid (ws[0]? = some u0 ∧ (split3 s.data.toList).getD 0 [] = u0.data.toList ∧ u0.size ≤ 60000) := ⟨hu0, hw0, h0z⟩
  clear hW0 g0 bw0 hmap hsz HSp hm hu0 hw0
  have hwlen : (split3 s.data.toList).length = ws.length := by rw [← HM.out]; simp
  obtain ⟨u1, hu1⟩ : ∃ u, ws[1]? = some u := ⟨ws[1]'(by omega), by simp⟩
  have h1z : u1.size ≤ 60000 := HSz.out u1 (List.mem_of_getElem? hu1)
  have hw1 : (split3 s.data.toList).getD 1 [] = u1.data.toList := by
    rw [← HM.out, List.getD_eq_getElem?_getD, List.getElem?_map, hu1]
    rfl
  obtain ⟨u2, hu2⟩ : ∃ u, ws[2]? = some u := ⟨ws[2]'(by omega), by simp⟩
  have h2z : u2.size ≤ 60000 := HSz.out u2 (List.mem_of_getElem? hu2)
  have hw2 : (split3 s.data.toList).getD 2 [] = u2.data.toList := by
    rw [← HM.out, List.getD_eq_getElem?_getD, List.getElem?_map, hu2]
    rfl
  have Hu2 : Hid (ws[2]? = some u2 ∧ u2.size ≤ 60000) := ⟨hu2, h2z⟩
  have HKd : Hid (1 + idxL kN u0.data.toList = 2) := by unfold Hid; rw [← Hu0.out.2.1, hk]; rfl
  have HRec : Hid (recOf s.data.toList = match numOf u1.data.toList with | none => (zeroRec, 1) | some c => if (parseR u2.data.toList).2 = 0 then finRec (2, c, 0, (parseR u2.data.toList).1) else (zeroRec, (parseR u2.data.toList).2)) := by
    unfold Hid recOf
    rw [hk, hn, hw1, hw2, if_neg (by omega)]
    cases numOf u1.data.toList <;> rfl
  have Hu1 : Hid (ws[1]? = some u1 ∧ u1.size ≤ 60000) := ⟨hu1, h1z⟩
  rw [hwlen] at hn
  rw [hn] at HSp0
  clear hwlen hk hu1 hw1 hu2 hw2 hl1 hl3
  go_enter Tryz.func20, Tryz.ntmps20
  go_wp2_with fail
  rw [← HW.out]
  go_at_call 68
  refine Calls.mono HSp0.out ?_
  rintro e w1 ⟨SB, cap, rfl, hc1, hc2, b01, hSB1, hSB2, hcell⟩
  have x0 := hcell 0 u0 Hu0.out.1
  have HCe : Hid (∀ j u, ws[j]? = some u → w1.cell? ⟨SB, j, none⟩ = some (.string u)) := hcell
  have hm0 := World.ownsMap_made (H := Unit) w1 Tryz.prog 9 (plainElem Tryz.prog 3)
  have y1 := hcell 1 u1 Hu1.out.1
  have y2 := hcell 2 u2 Hu2.out.1
  have hu0m : Hid (u0.size ≤ maxLen) := by unfold Hid; have := maxLen_eq; omega
  clear hcell HSp0 HW
  go_wp2_with (first
    | (refine wpList_insert_own _ rfl _ _ _ 106 rfl 9 3 keyStr Tryz.underlying106 (plainElem Tryz.prog 3) w1.heap.size 0 _ rfl hm0 (by decide) _ _ _ rfl rfl (Go.WideMaps.keyOf_string_mk Tryz.underlying9 (by decide)) _ [] (plainElem_int Tryz.underlying3 (by decide)) ?_; go_must (intro w2 hown2 hg2; clear hm0; have HB := ((Below.refl w1.heap.size w1).alloc (Nat.le_refl _) _).grown hg2 (by simp) (fun k hk => by cases hk; exact Nat.le_refl _)))
    | (refine wpList_insert_own _ rfl _ _ _ 106 rfl 9 3 keyStr Tryz.underlying106 (plainElem Tryz.prog 3) w1.heap.size 1 _ rfl hown2 (by decide) _ _ _ rfl rfl (Go.WideMaps.keyOf_string_mk Tryz.underlying9 (by decide)) _ [] (plainElem_int Tryz.underlying3 (by decide)) ?_; go_must (intro w3 hown3 hg3; clear hown2; replace HB := HB.grown hg3 HB.size (fun k hk => by cases hk; exact Nat.le_refl _)))
    | (refine wpList_insert_own _ rfl _ _ _ 106 rfl 9 3 keyStr Tryz.underlying106 (plainElem Tryz.prog 3) w1.heap.size 2 _ rfl hown3 (by decide) _ _ _ rfl rfl (Go.WideMaps.keyOf_string_mk Tryz.underlying9 (by decide)) _ [] (plainElem_int Tryz.underlying3 (by decide)) ?_; go_must (intro w4 hown4 hg4; clear hown3; replace HB := HB.grown hg4 HB.size (fun k hk => by cases hk; exact Nat.le_refl _)))
    | (refine wpList_insert_own _ rfl _ _ _ 106 rfl 9 3 keyStr Tryz.underlying106 (plainElem Tryz.prog 3) w1.heap.size 3 _ rfl hown4 (by decide) _ _ _ rfl rfl (Go.WideMaps.keyOf_string_mk Tryz.underlying9 (by decide)) _ [] (plainElem_int Tryz.underlying3 (by decide)) ?_; go_must (intro w5 hown5 hg5; clear hown4; replace HB := HB.grown hg5 HB.size (fun k hk => by cases hk; exact Nat.le_refl _); have x5 := (HB.cell (p := ⟨SB, 0, none⟩) hSB2).trans x0; have y5 := (HB.cell (p := ⟨SB, 1, none⟩) hSB2).trans y1; have hSB5 : SB < w5.heap.size := (Nat.lt_of_lt_of_le hSB2 HB.size); have hs5 := HB.size; obtain ⟨c', hlk, h2, _⟩ := hown5.lookup_int keyStr Tryz.underlying106 Tryz.underlying3 (zero3 _) (Go.WideMaps.keyOf_string_mk (s := u0) Tryz.underlying9 hu0m.out); have hc' := (lit_inj (h2.symm.trans (D4_says _))).trans HKd.out; rw [hc'] at hlk; clear h2 hc')))
  have Hy2 : Hid (∀ w', Below w5.heap.size w5 w' → w'.cell? ⟨SB, 2, none⟩ = some (.string u2)) := fun w' h => (h.cell (p := ⟨SB, 2, none⟩) hSB5).trans ((HB.cell (p := ⟨SB, 2, none⟩) hSB2).trans y2)
  have hneS : ¬ SB = w5.heap.size := by omega
  have b05 : Below W0.heap.size W0 w5 := Below.thenOf b01 HB b01.size
  have bw5 := (HG.out w5 b05).2
  have H05 : Hid (W0.heap.size ≤ w5.heap.size) := b05.size
  obtain ⟨W6, hW6⟩ : ∃ W6, W6 = w5.alloc (.cells #[.int .i64 2, .int .i64 0, .int .i64 0, .slice none 0 0, .int .i64 0] 38) := ⟨_, rfl⟩
  have b56 : Below w5.heap.size w5 W6 := by rw [hW6]; exact (Below.refl _ _).alloc (Nat.le_refl _) _
  have b06 : Below W0.heap.size W0 W6 := Below.thenOf b05 b56 b05.size
  have g6 : W6.heap[w5.heap.size]? = some (.cells #[.int .i64 2, .int .i64 0, .int .i64 0, .slice none 0 0, .int .i64 0] 38 (0, 0)) := by rw [hW6]; exact heap_made _ _
  have l6 := lt_of_block g6
  have HR6 : Hid (∀ w', Below W6.heap.size W6 w' → w'.heap[w5.heap.size]? = some (.cells #[.int .i64 2, .int .i64 0, .int .i64 0, .slice none 0 0, .int .i64 0] 38 (0, 0)) ∧ Below W0.heap.size W0 w' ∧ Below w5.heap.size w5 w') := fun w' h => ⟨(h.block _ l6).trans g6, Below.thenOf b06 h b06.size, Below.thenOf b56 h b56.size⟩
  have HWh : Hid _ := whole_any u1 (by have := Hu1.out.2; omega) W6 (HE.out W6 (HG.out W6 b06).2)
  rw [← hW6]
  clear hW6 g6 b06 b56 b05 bw5 HB hown5 hlk x5 y5 x0 y1 y2 b01
  go_at_call 69
  refine Calls.mono HWh.out ?_
  rintro e w7 ⟨n, ok, rfl, hnum, hwfn, b67⟩
  obtain ⟨g7, b07, b57⟩ := HR6.out w7 b67
  have y7 := Hy2.out w7 b57
  have lS7 : SB < w7.heap.size := by have := b57.size; omega
  have l7 := lt_of_block g7
  obtain ⟨q0, q1, q2, q3, q4⟩ := rec_box g7
  have fq : w7.frozen? ⟨w5.heap.size, 1, none⟩ = false := by simp [World.frozen?, g7]
  have hne : ¬ w.heap.size = w5.heap.size := by have := (HG.out w7 b07).1; have := lt_of_block this; intro e; rw [e] at this; have h2 := (HG.out w7 b07).1; rw [e, g7] at h2; simp at h2
  have G7 : Hid (w7.heap[w5.heap.size]? = _) := g7
  have B07 : Hid (Below W0.heap.size W0 w7) := b07
  clear g7 b07 b67 HR6 HWh hSB5 b57 Hy2
  cases ok with
  | false =>
    have HRes : Hid (recOf s.data.toList = (zeroRec, 1)) := by unfold Hid; rw [HRec.out, hnum]; rfl
    clear hnum
    go_wp2_with fail
    go_at_call 67
    refine Calls.mono (badR_any 1 _) ?_
    rintro e w8 ⟨rfl, b78⟩
    have b0s : Below W0.heap.size W0 (w7.setCell ⟨w5.heap.size, 1, none⟩ (.int .i64 n)) := B07.out.setCell (p := ⟨w5.heap.size, 1, none⟩) H05.out _
    have b0b : Below W0.heap.size W0 w8 := Below.thenOf b0s b78 b0s.size
    clear b0s b78 q0 q1 q2 q3 q4 fq
    obtain ⟨gb, bwb⟩ := HG.out w8 b0b
    have lb := lt_of_block gb
    obtain ⟨z0, z1, z2, z3, z4⟩ := rec_box gb
    have f0 : w8.frozen? ⟨w.heap.size, 0, none⟩ = false := by simp [World.frozen?, gb]
    have f1 : w8.frozen? ⟨w.heap.size, 1, none⟩ = false := by simp [World.frozen?, gb]
    have f2 : w8.frozen? ⟨w.heap.size, 2, none⟩ = false := by simp [World.frozen?, gb]
    have f3 : w8.frozen? ⟨w.heap.size, 3, none⟩ = false := by simp [World.frozen?, gb]
    have f4 : w8.frozen? ⟨w.heap.size, 4, none⟩ = false := by simp [World.frozen?, gb]
    have Bwb : Hid (Below w.heap.size w w8) := bwb
    clear gb bwb b0b
    go_wp2_with fail
    refine bodyPost_ret (v := .tuple #[.agg #[.int .i64 0, .int .i64 0, .int .i64 0, .slice none 0 0, .int .i64 0], .int .i64 1]) ?_ rfl ⟨_, by rw [HRes.out], by rw [HRes.out]; exact recNew_zero _ _, ?_⟩
    · rw [results_cell_tmp rfl]
      go_simp
    · exact ((((Bwb.out.setCell (p := ⟨w.heap.size, 0, none⟩) (Nat.le_refl _) _).setCell (p := ⟨w.heap.size, 1, none⟩) (Nat.le_refl _) _).setCell (p := ⟨w.heap.size, 2, none⟩) (Nat.le_refl _) _).setCell (p := ⟨w.heap.size, 3, none⟩) (Nat.le_refl _) _).setCell (p := ⟨w.heap.size, 4, none⟩) (Nat.le_refl _) _
  | true =>
    obtain ⟨W8, hW8⟩ : ∃ W8, W8 = w7.setCell ⟨w5.heap.size, 1, none⟩ (.int .i64 n) := ⟨_, rfl⟩
    have b08 : Below W0.heap.size W0 W8 := by rw [hW8]; exact B07.out.setCell (p := ⟨w5.heap.size, 1, none⟩) H05.out _
    have g8 : W8.heap[w5.heap.size]? = some (.cells #[.int .i64 2, .int .i64 n, .int .i64 0, .slice none 0 0, .int .i64 0] 38 (0, 0)) := by rw [hW8]; exact row_setCell G7.out
    have HPd : Hid _ := policyRead_new u2 Hu2.out.2 W8 (HE.out W8 (HG.out W8 b08).2)
    have HW8 : Hid (W8 = _) := hW8
    have B08 : Hid (Below W0.heap.size W0 W8) := b08
    have G8 : Hid (W8.heap[w5.heap.size]? = _) := g8
    have HN1 : Hid (numOf u1.data.toList = some n) := hnum
    clear hW8 b08 g8 hnum G7 B07
    go_wp2_with fail
    rw [← HW8.out]
    go_at_call 70
    refine Calls.mono HPd.out ?_
    rintro e w9 ⟨pv, rfl, hnw, b89⟩
    have b09 : Below W0.heap.size W0 w9 := Below.thenOf B08.out b89 B08.out.size
    have g9 : w9.heap[w5.heap.size]? = some (.cells #[.int .i64 2, .int .i64 n, .int .i64 0, .slice none 0 0, .int .i64 0] 38 (0, 0)) := (b89.block _ (lt_of_block G8.out)).trans G8.out
    have l9 := lt_of_block g9
    have B09 : Hid (Below W0.heap.size W0 w9) := b09
    have G9 : Hid (w9.heap[w5.heap.size]? = _) := g9
    obtain ⟨p0, p1, p2, p3, p4⟩ := rec_box g9
    have fp3 : w9.frozen? ⟨w5.heap.size, 3, none⟩ = false := by simp [World.frozen?, g9]
    have fp4 : w9.frozen? ⟨w5.heap.size, 4, none⟩ = false := by simp [World.frozen?, g9]
    obtain ⟨PP, hPP⟩ : ∃ PP, PP = (parseR u2.data.toList).1 := ⟨_, rfl⟩
    obtain ⟨PE, hPE⟩ : ∃ PE, PE = (parseR u2.data.toList).2 := ⟨_, rfl⟩
    rw [← hPP] at hnw
    rw [← hPE] at ⊢
    rw [← hPP, ← hPE] at HRec
    clear hPP hPE
    have HNw : Hid (PolNew W8.heap.size w9 pv PP) := hnw
    obtain ⟨prs, pd⟩ := PP
    obtain ⟨vr, ev, hwv, va, vc, er, -⟩ := hnw.at
    simp only [] at ev er
    subst er
    subst ev
    have HL8 : Hid (w5.heap.size < W8.heap.size ∧ w.heap.size < W8.heap.size) := ⟨lt_of_block G8.out, lt_of_block (HG.out W8 B08.out).1⟩
    generalize prs.length = pn at *
    clear b89 b09 g9 HW8 G8 B08 HPd q0 q1 q2 q3 q4 fq y7 lS7 hnw
    by_cases hPE0 : PE = 0
    case neg =>
      have HRes : Hid (recOf s.data.toList = (zeroRec, PE)) := by unfold Hid; rw [HRec.out, HN1.out]; show (if PE = 0 then _ else _) = _; rw [if_neg hPE0]
      have hq : (PE != 0) = true := by simpa using hPE0
      clear hPE0
      go_wp2_with fail
      go_at_call 67
      refine Calls.mono (badR_any PE _) ?_
      rintro e w10 ⟨rfl, b910⟩
      have b0a : Below W0.heap.size W0 (w9.alloc (.cells #[.slice va pn vc, .int .i64 pd] 24)) := B09.out.alloc B09.out.size _
      have b0b : Below W0.heap.size W0 w10 := Below.thenOf b0a b910 b0a.size
      clear b910 b0a p0 p1 p2 p3 p4 fp3 fp4
      obtain ⟨gb, bwb⟩ := HG.out w10 b0b
      have lb := lt_of_block gb
      obtain ⟨z0, z1, z2, z3, z4⟩ := rec_box gb
      have f0 : w10.frozen? ⟨w.heap.size, 0, none⟩ = false := by simp [World.frozen?, gb]
      have f1 : w10.frozen? ⟨w.heap.size, 1, none⟩ = false := by simp [World.frozen?, gb]
      have f2 : w10.frozen? ⟨w.heap.size, 2, none⟩ = false := by simp [World.frozen?, gb]
      have f3 : w10.frozen? ⟨w.heap.size, 3, none⟩ = false := by simp [World.frozen?, gb]
      have f4 : w10.frozen? ⟨w.heap.size, 4, none⟩ = false := by simp [World.frozen?, gb]
      have Bwb : Hid (Below w.heap.size w w10) := bwb
      clear gb bwb b0b
      go_wp2_with fail
      refine bodyPost_ret (v := .tuple #[.agg #[.int .i64 0, .int .i64 0, .int .i64 0, .slice none 0 0, .int .i64 0], .int .i64 PE]) ?_ rfl ⟨_, by rw [HRes.out], by rw [HRes.out]; exact recNew_zero _ _, ?_⟩
      · rw [results_cell_tmp rfl]
        go_simp
      · exact ((((Bwb.out.setCell (p := ⟨w.heap.size, 0, none⟩) (Nat.le_refl _) _).setCell (p := ⟨w.heap.size, 1, none⟩) (Nat.le_refl _) _).setCell (p := ⟨w.heap.size, 2, none⟩) (Nat.le_refl _) _).setCell (p := ⟨w.heap.size, 3, none⟩) (Nat.le_refl _) _).setCell (p := ⟨w.heap.size, 4, none⟩) (Nat.le_refl _) _
    case pos =>
      subst hPE0
      obtain ⟨W10, hW10⟩ : ∃ W10, W10 = ((w9.setCell ⟨w5.heap.size, 3, none⟩ (.slice va pn vc)).setCell ⟨w5.heap.size, 4, none⟩ (.int .i64 pd)).alloc (.cells #[.slice va pn vc, .int .i64 pd] 24) := ⟨_, rfl⟩
      have b0s : Below W0.heap.size W0 W10 := by
        rw [hW10]
        exact ((B09.out.setCell (p := ⟨w5.heap.size, 3, none⟩) H05.out _).setCell (p := ⟨w5.heap.size, 4, none⟩) H05.out _).alloc (by simpa using B09.out.size) _
      have g10' : W10.heap[w5.heap.size]? = some (.cells #[.int .i64 2, .int .i64 n, .int .i64 0, .slice va pn vc, .int .i64 pd] 38 (0, 0)) := by
        have e1 := row_setCell (o := 3) (u := .slice va pn vc) G9.out
        have e2 := row_setCell (o := 4) (u := .int .i64 pd) e1
        rw [hW10, Below.heap_alloc _ _ _ (by simpa using l9), e2]
        rfl
      have HN10 : Hid (PolNew W8.heap.size W10 (.agg #[.slice va pn vc, .int .i64 pd]) (prs, pd)) := by
        unfold Hid
        rw [hW10]
        have := HL8.out
        exact ((HNw.out.put (.inl this.1)).put (.inl this.1)).later (Nat.le_refl _) ((Below.refl _ _).alloc (Nat.le_refl _) _)
      have HNum : Hid (recOf s.data.toList = finRec (2, n, 0, prs, pd)) := by unfold Hid; rw [HRec.out, HN1.out]; rfl
      obtain ⟨E, hE⟩ : ∃ E, E = recErr (2, n, 0, prs, pd) := ⟨_, rfl⟩
      have HFin : Hid (finRec (2, n, 0, prs, pd) = if E = 0 then ((2, n, 0, prs, pd), 0) else (zeroRec, E)) := by rw [hE]; rfl
      have HRecAt : Hid (∀ W, PolNew W8.heap.size W (.agg #[.slice va pn vc, .int .i64 pd]) (prs, pd) → RecAt W.heap.size W (.agg #[.int .i64 2, .int .i64 n, .int .i64 0, .slice va pn vc, .int .i64 pd]) (2, n, 0, prs, pd)) := fun W h => ⟨_, rfl, (by unfold wf; decide : wf (2 : Int)), hwfn, (by unfold wf; decide : wf (0 : Int)), h.at⟩
      have HCk : Hid (Calls Tryz.prog 62 #[.agg #[.int .i64 2, .int .i64 n, .int .i64 0, .slice va pn vc, .int .i64 pd]] W10 fun e w' => e = .returned (.int .i64 E) ∧ Below W10.heap.size W10 w') := by
        unfold Hid
        rw [hE]
        exact checkRec_any _ _ (2, n, 0, prs, pd) W10 (HRecAt.out _ HN10.out) (Nat.le_refl _)
      have HW10 : Hid (W10 = _) := hW10
      have B0s : Hid (Below W0.heap.size W0 W10) := b0s
      have G10 : Hid (W10.heap[w5.heap.size]? = _) := g10'
      clear hE b0s g10' hW10 HRec
      go_wp2_with fail
      rw [← HW10.out]
      go_at_call 62
      refine Calls.mono HCk.out ?_
      rintro e w11 ⟨rfl, b1011⟩
      have b011 : Below W0.heap.size W0 w11 := Below.thenOf B0s.out b1011 B0s.out.size
      have g11 : w11.heap[w5.heap.size]? = some (.cells #[.int .i64 2, .int .i64 n, .int .i64 0, .slice va pn vc, .int .i64 pd] 38 (0, 0)) := (b1011.block _ (lt_of_block G10.out)).trans G10.out
      have l11 := lt_of_block g11
      obtain ⟨r0, r1, r2, r3, r4⟩ := rec_box g11
      have B011 : Hid (Below W0.heap.size W0 w11) := b011
      have HN11 : Hid (PolNew W8.heap.size w11 (.agg #[.slice va pn vc, .int .i64 pd]) (prs, pd)) := HN10.out.later (Nat.le_refl _) b1011
      clear b1011 p0 p1 p2 p3 p4 fp3 fp4 G9 b011 g11
      by_cases hE0 : E = 0
      · have HRes : Hid (recOf s.data.toList = ((2, n, 0, prs, pd), 0)) := by unfold Hid; rw [HNum.out, HFin.out, if_pos hE0]
        subst hE0
        have b0b := B011.out
        obtain ⟨gb, bwb⟩ := HG.out w11 b0b
        have lb := lt_of_block gb
        obtain ⟨z0, z1, z2, z3, z4⟩ := rec_box gb
        have f0 : w11.frozen? ⟨w.heap.size, 0, none⟩ = false := by simp [World.frozen?, gb]
        have f1 : w11.frozen? ⟨w.heap.size, 1, none⟩ = false := by simp [World.frozen?, gb]
        have f2 : w11.frozen? ⟨w.heap.size, 2, none⟩ = false := by simp [World.frozen?, gb]
        have f3 : w11.frozen? ⟨w.heap.size, 3, none⟩ = false := by simp [World.frozen?, gb]
        have f4 : w11.frozen? ⟨w.heap.size, 4, none⟩ = false := by simp [World.frozen?, gb]
        have Bwb : Hid (Below w.heap.size w w11) := bwb
        clear gb bwb b0b
        go_wp2_with fail
        refine bodyPost_ret (v := .tuple #[.agg #[.int .i64 2, .int .i64 n, .int .i64 0, .slice va pn vc, .int .i64 pd], .int .i64 0]) ?_ rfl ⟨_, by rw [HRes.out], by rw [HRes.out]; have := HL8.out; exact fun wF h1 h2 => HRecAt.out wF ((((((HN11.out.put (.inl this.2)).put (.inl this.2)).put (.inl this.2)).put (.inl this.2)).put (.inl this.2)).keep (Nat.le_refl _) (fun g hg hl => h1 g (by omega) hl) h2), ?_⟩
        · rw [results_cell_tmp rfl]
          go_simp
        · exact ((((Bwb.out.setCell (p := ⟨w.heap.size, 0, none⟩) (Nat.le_refl _) _).setCell (p := ⟨w.heap.size, 1, none⟩) (Nat.le_refl _) _).setCell (p := ⟨w.heap.size, 2, none⟩) (Nat.le_refl _) _).setCell (p := ⟨w.heap.size, 3, none⟩) (Nat.le_refl _) _).setCell (p := ⟨w.heap.size, 4, none⟩) (Nat.le_refl _) _
      · have HRes : Hid (recOf s.data.toList = (zeroRec, E)) := by unfold Hid; rw [HNum.out, HFin.out, if_neg hE0]
        have hq : (E != 0) = true := by simpa using hE0
        go_wp2_with fail
        go_at_call 67
        refine Calls.mono (badR_any E _) ?_
        rintro e w12 ⟨rfl, b1112⟩
        have b0b : Below W0.heap.size W0 w12 := Below.thenOf B011.out b1112 B011.out.size
        clear b1112 r0 r1 r2 r3 r4
        obtain ⟨gb, bwb⟩ := HG.out w12 b0b
        have lb := lt_of_block gb
        obtain ⟨z0, z1, z2, z3, z4⟩ := rec_box gb
        have f0 : w12.frozen? ⟨w.heap.size, 0, none⟩ = false := by simp [World.frozen?, gb]
        have f1 : w12.frozen? ⟨w.heap.size, 1, none⟩ = false := by simp [World.frozen?, gb]
        have f2 : w12.frozen? ⟨w.heap.size, 2, none⟩ = false := by simp [World.frozen?, gb]
        have f3 : w12.frozen? ⟨w.heap.size, 3, none⟩ = false := by simp [World.frozen?, gb]
        have f4 : w12.frozen? ⟨w.heap.size, 4, none⟩ = false := by simp [World.frozen?, gb]
        have Bwb : Hid (Below w.heap.size w w12) := bwb
        clear gb bwb b0b
        go_wp2_with fail
        refine bodyPost_ret (v := .tuple #[.agg #[.int .i64 0, .int .i64 0, .int .i64 0, .slice none 0 0, .int .i64 0], .int .i64 E]) ?_ rfl ⟨_, by rw [HRes.out], by rw [HRes.out]; exact recNew_zero _ _, ?_⟩
        · rw [results_cell_tmp rfl]
          go_simp
        · exact ((((Bwb.out.setCell (p := ⟨w.heap.size, 0, none⟩) (Nat.le_refl _) _).setCell (p := ⟨w.heap.size, 1, none⟩) (Nat.le_refl _) _).setCell (p := ⟨w.heap.size, 2, none⟩) (Nat.le_refl _) _).setCell (p := ⟨w.heap.size, 3, none⟩) (Nat.le_refl _) _).setCell (p := ⟨w.heap.size, 4, none⟩) (Nat.le_refl _) _

end Go.Proofs.YtdfcfinjoghipacGreatDoor
