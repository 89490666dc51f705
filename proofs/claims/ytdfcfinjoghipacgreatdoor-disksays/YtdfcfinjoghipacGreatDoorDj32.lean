/- Joined: NtDb NtDc NtDd. -/
import Derived.Test.YtdfcfinjoghipacGreatDoorDj31
section
/- What the program's own note.read says of a text of kind fork. -/
set_option linter.all false
set_option maxRecDepth 100000
namespace Go.Proofs.YtdfcfinjoghipacGreatDoor
open Go.RowKit Go.Maps

set_option maxHeartbeats 4000000 in
theorem readN_fork (s : ByteArray) (hs60 : s.size ≤ 60000) (w : World) (he : EnvT w) (hk : idxL kN ((split3 s.data.toList).getD 0 []) = 2) (hn : (split3 s.data.toList).length = 3) : ReadSays s w := by
  have HE : Hid (∀ w', Below w.heap.size w w' → EnvT w') := fun w' h => he.later h
  clear he
  obtain ⟨ws, hmap, hl1, hl3, hsz, HSp⟩ := words3_any s hs60
  have HM : Hid (ws.map (fun p : ByteArray => p.data.toList) = split3 s.data.toList) := hmap
  have HSz : Hid (∀ u ∈ ws, u.size ≤ 60000) := hsz
  obtain ⟨u0, hu0⟩ : ∃ u, ws[0]? = some u := ⟨ws[0]'(by omega), by simp⟩
  have h0z : u0.size ≤ 60000 := hsz u0 (List.mem_of_getElem? hu0)
  have hw0 : (split3 s.data.toList).getD 0 [] = u0.data.toList := by
    rw [← hmap, List.getD_eq_getElem?_getD, List.getElem?_map, hu0]
    rfl
  have hwlen : (split3 s.data.toList).length = ws.length := by rw [← hmap]; simp
  obtain ⟨W0, hW0⟩ : ∃ W0, W0 = w.alloc (.cells #[.int .i64 0, .int .i64 0, .int .i64 0, .slice none 0 0, .int .i64 0] 38) := ⟨_, rfl⟩
  have g0 : W0.heap[w.heap.size]? = some (.cells #[.int .i64 0, .int .i64 0, .int .i64 0, .slice none 0 0, .int .i64 0] 38 (0, 0)) := by rw [hW0]; exact heap_made _ _
  have bw0 : Below w.heap.size w W0 := by rw [hW0]; exact (Below.refl _ _).alloc (Nat.le_refl _) _
  have HG : Hid (∀ w', Below W0.heap.size W0 w' → w'.heap[w.heap.size]? = some (.cells #[.int .i64 0, .int .i64 0, .int .i64 0, .slice none 0 0, .int .i64 0] 38 (0, 0)) ∧ Below w.heap.size w w') := fun w' h => ⟨(h.block _ (lt_of_block g0)).trans g0, Below.thenOf bw0 h bw0.size⟩
  obtain ⟨mm, hm⟩ := (HE.out W0 bw0).1
  have HSp0 : Hid _ := HSp mm W0 hm
  have HW : Hid (W0 = _) := hW0
  clear hW0 g0 bw0 HSp hm hmap hsz
  rw [hwlen] at hn
  obtain ⟨u1, hu1⟩ : ∃ u, ws[1]? = some u := ⟨ws[1]'(by omega), by simp⟩
  have h1z : u1.size ≤ 60000 := HSz.out u1 (List.mem_of_getElem? hu1)
  have hw1 : (split3 s.data.toList).getD 1 [] = u1.data.toList := by
    rw [← HM.out, List.getD_eq_getElem?_getD, List.getElem?_map, hu1]
    rfl
  obtain ⟨u2, hu2⟩ : ∃ u, ws[2]? = some u := ⟨ws[2]'(by omega), by simp⟩
  have h2z : u2.size ≤ 60000 := HSz.out u2 (List.mem_of_getElem? hu2)
  have hw2 : (split3 s.data.toList).getD 2 [] = u2.data.toList := by
    rw [← HM.out, List.getD_eq_getElem?_getD, List.getElem?_map, hu2]
    rfl
  have HRec : Hid (readP s.data.toList = match numOf u1.data.toList with | none => (zeroRec, 1) | some c => (match numOf u2.data.toList with | none => (zeroRec, 1) | some f => ((3, c, f, [], 0), 0))) := by
    unfold Hid readP
    rw [hk, hwlen, hn, hw1, hw2, if_neg (by omega)]
    cases numOf u1.data.toList with
    | none => rfl
    | some c => cases numOf u2.data.toList <;> rfl
  have HRk : Hid (∀ w', Calls Tryz.prog 105 #[.string u0] w' fun e w'' => e = .returned (.tuple #[.int .i64 3, .bool true]) ∧ Below w'.heap.size w' w'') := fun w' => by
    have := readKind_any u0 w'
    rw [← hw0, hk] at this
    exact this
  have HWo : Hid (∀ w', Calls Tryz.prog 106 #[.int .i64 3] w' fun e w'' => e = .returned (.int .i64 3) ∧ w'' = w') := fun w' => wordsOf_less (by decide) w'
  have HN1 : Hid (∀ w', Below w.heap.size w w' → Calls Tryz.prog 107 #[.string u1] w' fun e w'' => ∃ n ok, e = .returned (.tuple #[.int .i64 n, .bool ok]) ∧ (numOf u1.data.toList = if ok = true then some n else none) ∧ wf n ∧ Below w'.heap.size w' w'') := fun w' h => number_any u1 (by omega) w' (HE.out w' h)
  have HN2 : Hid (∀ w', Below w.heap.size w w' → Calls Tryz.prog 107 #[.string u2] w' fun e w'' => ∃ n ok, e = .returned (.tuple #[.int .i64 n, .bool ok]) ∧ (numOf u2.data.toList = if ok = true then some n else none) ∧ wf n ∧ Below w'.heap.size w' w'') := fun w' h => number_any u2 (by omega) w' (HE.out w' h)
  have HU : Hid (ws[0]? = some u0 ∧ ws[1]? = some u1 ∧ ws[2]? = some u2) := ⟨hu0, hu1, hu2⟩
  rw [hn] at HSp0
  clear hw0 hwlen hu0 h0z hu1 h1z hw1 hu2 h2z hw2 hk hn hl1 hl3 HSz HM HE
  go_enter Tryz.func61, Tryz.ntmps61
  go_wp2_with fail
  rw [← HW.out]
  go_at_call 68
  refine Calls.mono HSp0.out ?_
  rintro e w1 ⟨SB, cap, rfl, hc1, hc2, b01, hSB1, hSB2, hcell⟩
  have x0 := hcell 0 u0 HU.out.1
  have HX : Hid (∀ w', Below w1.heap.size w1 w' → w'.cell? ⟨SB, 1, none⟩ = some (.string u1) ∧ w'.cell? ⟨SB, 2, none⟩ = some (.string u2)) := fun w' h => ⟨(h.cell (p := ⟨SB, 1, none⟩) hSB2).trans (hcell 1 u1 HU.out.2.1), (h.cell (p := ⟨SB, 2, none⟩) hSB2).trans (hcell 2 u2 HU.out.2.2)⟩
  have B01 : Hid (Below W0.heap.size W0 w1) := b01
  clear hcell HSp0 HW hSB1 b01
  go_wp2_with fail
  go_at_call 105
  refine Calls.mono (HRk.out _) ?_
  rintro e w2 ⟨rfl, b12⟩
  have B12 : Hid (Below w1.heap.size w1 w2) := b12
  have x1 := (HX.out w2 b12).1
  have lS2 : SB < w2.heap.size := Nat.lt_of_lt_of_le hSB2 b12.size
  have B02 : Hid (Below W0.heap.size W0 w2) := Below.thenOf B01.out b12 B01.out.size
  clear b12 x0
  go_wp2_with fail
  go_at_call 106
  refine Calls.mono (HWo.out _) ?_
  rintro e w3 ⟨rfl, rfl⟩
  go_wp2_with fail
  go_at_call 107
  refine Calls.mono (HN1.out _ (HG.out _ B02.out).2) ?_
  rintro e w4 ⟨n, ok, rfl, hnum, hwfn, b34⟩
  have b04 := Below.thenOf B02.out b34 B02.out.size
  have lS4 : SB < w4.heap.size := Nat.lt_of_lt_of_le lS2 b34.size
  have HX4 : Hid (∀ w', Below w4.heap.size w4 w' → w'.cell? ⟨SB, 2, none⟩ = some (.string u2)) := fun w' h => ((h.cell (p := ⟨SB, 2, none⟩) lS4).trans (b34.cell (p := ⟨SB, 2, none⟩) lS2)).trans (HX.out w3 B12.out).2
  clear HX x1
  cases ok with
  | false =>
    have HRes : Hid (readP s.data.toList = (zeroRec, 1)) := by unfold Hid; rw [HRec.out, hnum]; rfl
    have b0b := b04
    clear hnum b34 b04
    obtain ⟨gb, bwb⟩ := HG.out w4 b0b
    have lb := lt_of_block gb
    obtain ⟨z0, z1, z2, z3, z4⟩ := rec_box gb
    have f0 : w4.frozen? ⟨w.heap.size, 0, none⟩ = false := by simp [World.frozen?, gb]
    have f1 : w4.frozen? ⟨w.heap.size, 1, none⟩ = false := by simp [World.frozen?, gb]
    have f2 : w4.frozen? ⟨w.heap.size, 2, none⟩ = false := by simp [World.frozen?, gb]
    have f3 : w4.frozen? ⟨w.heap.size, 3, none⟩ = false := by simp [World.frozen?, gb]
    have f4 : w4.frozen? ⟨w.heap.size, 4, none⟩ = false := by simp [World.frozen?, gb]
    have Bwb : Hid (Below w.heap.size w w4) := bwb
    clear gb bwb b0b
    go_wp2_with fail
    refine bodyPost_ret (v := .tuple #[.agg #[.int .i64 0, .int .i64 0, .int .i64 0, .slice none 0 0, .int .i64 0], .int .i64 1]) ?_ rfl ⟨_, by rw [HRes.out], by rw [HRes.out]; exact recNew_zero _ _, ?_⟩
    · rw [results_cell_tmp rfl]
      go_simp
    · exact (((((Bwb.out.setCell (p := ⟨w.heap.size, 0, none⟩) (Nat.le_refl _) _).setCell (p := ⟨w.heap.size, 1, none⟩) (Nat.le_refl _) _).setCell (p := ⟨w.heap.size, 2, none⟩) (Nat.le_refl _) _).setCell (p := ⟨w.heap.size, 3, none⟩) (Nat.le_refl _) _).setCell (p := ⟨w.heap.size, 4, none⟩) (Nat.le_refl _) _)
  | true =>
    have HRec2 : Hid (readP s.data.toList = match numOf u2.data.toList with | none => (zeroRec, 1) | some f => ((3, n, f, [], 0), 0)) := by unfold Hid; rw [HRec.out, hnum]; rfl
    have HWf : Hid (wf n) := hwfn
    obtain ⟨W5, hW5⟩ : ∃ W5, W5 = w4.alloc (.cells #[.int .i64 3, .int .i64 n, .int .i64 0, .slice none 0 0, .int .i64 0] 38) := ⟨_, rfl⟩
    have b45 : Below w4.heap.size w4 W5 := by rw [hW5]; exact (Below.refl _ _).alloc (Nat.le_refl _) _
    have g5 : W5.heap[w4.heap.size]? = some (.cells #[.int .i64 3, .int .i64 n, .int .i64 0, .slice none 0 0, .int .i64 0] 38 (0, 0)) := by rw [hW5]; exact heap_made _ _
    have x4 := HX4.out w4 (Below.refl _ _)
    have b05 := Below.thenOf b04 b45 b04.size
    have l5 := lt_of_block g5
    have HN5 := HN2.out W5 (HG.out W5 b05).2
    have HN5' : Hid _ := HN5
    have HR5 : Hid (∀ w', Below W5.heap.size W5 w' → w'.heap[w4.heap.size]? = some (.cells #[.int .i64 3, .int .i64 n, .int .i64 0, .slice none 0 0, .int .i64 0] 38 (0, 0)) ∧ Below W0.heap.size W0 w') := fun w' h => ⟨(h.block _ l5).trans g5, Below.thenOf b05 h b05.size⟩
    have H04 : Hid (W0.heap.size ≤ w4.heap.size) := b04.size
    have HL4 : Hid (w.heap.size ≤ w4.heap.size) := Nat.le_of_lt (lt_of_block (HG.out w4 b04).1)
    have hne : ¬ w.heap.size = w4.heap.size := by have := lt_of_block (HG.out w4 b04).1; omega
    have HW5 : Hid (W5 = _) := hW5
    have lS5 : SB < W5.heap.size := Nat.lt_of_lt_of_le lS4 b45.size
    clear hW5 b45 g5 b05 b04 b34 hnum hwfn HN5 HX4
    go_wp2_with fail
    rw [← HW5.out]
    go_at_call 107
    refine Calls.mono HN5'.out ?_
    rintro e w6 ⟨m, ok2, rfl, hnum2, hwfm, b56⟩
    obtain ⟨g6, b06⟩ := HR5.out w6 b56
    have l6 := lt_of_block g6
    obtain ⟨q0, q1, q2, q3, q4⟩ := rec_box g6
    have fq : w6.frozen? ⟨w4.heap.size, 2, none⟩ = false := by simp [World.frozen?, g6]
    have HWm : Hid (wf m) := hwfm
    clear HN5' HR5 x4 l5 lS5 b56 HW5 hwfm g6
    cases ok2 with
    | false =>
      have HRes : Hid (readP s.data.toList = (zeroRec, 1)) := by unfold Hid; rw [HRec2.out, hnum2]; rfl
      have b0b := b06
      clear hnum2 b06
      obtain ⟨gb, bwb⟩ := HG.out w6 b0b
      have lb := lt_of_block gb
      obtain ⟨z0, z1, z2, z3, z4⟩ := rec_box gb
      have f0 : w6.frozen? ⟨w.heap.size, 0, none⟩ = false := by simp [World.frozen?, gb]
      have f1 : w6.frozen? ⟨w.heap.size, 1, none⟩ = false := by simp [World.frozen?, gb]
      have f2 : w6.frozen? ⟨w.heap.size, 2, none⟩ = false := by simp [World.frozen?, gb]
      have f3 : w6.frozen? ⟨w.heap.size, 3, none⟩ = false := by simp [World.frozen?, gb]
      have f4 : w6.frozen? ⟨w.heap.size, 4, none⟩ = false := by simp [World.frozen?, gb]
      have Bwb : Hid (Below w.heap.size w w6) := bwb
      clear gb bwb b0b
      go_wp2_with fail
      refine bodyPost_ret (v := .tuple #[.agg #[.int .i64 0, .int .i64 0, .int .i64 0, .slice none 0 0, .int .i64 0], .int .i64 1]) ?_ rfl ⟨_, by rw [HRes.out], by rw [HRes.out]; exact recNew_zero _ _, ?_⟩
      · rw [results_cell_tmp rfl]
        go_simp
      · exact ((((((Bwb.out.setCell (p := ⟨w4.heap.size, 2, none⟩) HL4.out _).setCell (p := ⟨w.heap.size, 0, none⟩) (Nat.le_refl _) _).setCell (p := ⟨w.heap.size, 1, none⟩) (Nat.le_refl _) _).setCell (p := ⟨w.heap.size, 2, none⟩) (Nat.le_refl _) _).setCell (p := ⟨w.heap.size, 3, none⟩) (Nat.le_refl _) _).setCell (p := ⟨w.heap.size, 4, none⟩) (Nat.le_refl _) _)
    | true =>
      have HRes : Hid (readP s.data.toList = ((3, n, m, [], 0), 0)) := by unfold Hid; rw [HRec2.out, hnum2]; rfl
      have b0b := b06
      clear hnum2 b06
      obtain ⟨gb, bwb⟩ := HG.out w6 b0b
      have lb := lt_of_block gb
      obtain ⟨z0, z1, z2, z3, z4⟩ := rec_box gb
      have f0 : w6.frozen? ⟨w.heap.size, 0, none⟩ = false := by simp [World.frozen?, gb]
      have f1 : w6.frozen? ⟨w.heap.size, 1, none⟩ = false := by simp [World.frozen?, gb]
      have f2 : w6.frozen? ⟨w.heap.size, 2, none⟩ = false := by simp [World.frozen?, gb]
      have f3 : w6.frozen? ⟨w.heap.size, 3, none⟩ = false := by simp [World.frozen?, gb]
      have f4 : w6.frozen? ⟨w.heap.size, 4, none⟩ = false := by simp [World.frozen?, gb]
      have Bwb : Hid (Below w.heap.size w w6) := bwb
      clear gb bwb b0b
      go_wp2_with fail
      refine bodyPost_ret (v := .tuple #[.agg #[.int .i64 3, .int .i64 n, .int .i64 m, .slice none 0 0, .int .i64 0], .int .i64 0]) ?_ rfl ⟨_, by rw [HRes.out], by rw [HRes.out]; exact fun wF _ _ => ⟨_, rfl, (by unfold wf; decide : wf (3 : Int)), HWf.out, HWm.out, polAt_zero _ _⟩, ?_⟩
      · rw [results_cell_tmp rfl]
        go_simp
      · exact ((((((Bwb.out.setCell (p := ⟨w4.heap.size, 2, none⟩) HL4.out _).setCell (p := ⟨w.heap.size, 0, none⟩) (Nat.le_refl _) _).setCell (p := ⟨w.heap.size, 1, none⟩) (Nat.le_refl _) _).setCell (p := ⟨w.heap.size, 2, none⟩) (Nat.le_refl _) _).setCell (p := ⟨w.heap.size, 3, none⟩) (Nat.le_refl _) _).setCell (p := ⟨w.heap.size, 4, none⟩) (Nat.le_refl _) _)

end Go.Proofs.YtdfcfinjoghipacGreatDoor
end
section
/- What the program's own note.read says of a text of kind open. -/
set_option linter.all false
set_option maxRecDepth 100000
namespace Go.Proofs.YtdfcfinjoghipacGreatDoor
open Go.RowKit Go.Maps

set_option maxHeartbeats 4000000 in
theorem readN_pol1 (s : ByteArray) (hs60 : s.size ≤ 60000) (w : World) (he : EnvT w) (hk : idxL kN ((split3 s.data.toList).getD 0 []) = 0) (hn : (split3 s.data.toList).length = 3) : ReadSays s w := by
  have HE : Hid (∀ w', Below w.heap.size w w' → EnvT w') := fun w' h => he.later h
  clear he
  obtain ⟨ws, hmap, hl1, hl3, hsz, HSp⟩ := words3_any s hs60
  have HM : Hid (ws.map (fun p : ByteArray => p.data.toList) = split3 s.data.toList) := hmap
  have HSz : Hid (∀ u ∈ ws, u.size ≤ 60000) := hsz
  obtain ⟨u0, hu0⟩ : ∃ u, ws[0]? = some u := ⟨ws[0]'(by omega), by simp⟩
  have h0z : u0.size ≤ 60000 := hsz u0 (List.mem_of_getElem? hu0)
  have hw0 : (split3 s.data.toList).getD 0 [] = u0.data.toList := by
    rw [← hmap, List.getD_eq_getElem?_getD, List.getElem?_map, hu0]
    rfl
  have hwlen : (split3 s.data.toList).length = ws.length := by rw [← hmap]; simp
  obtain ⟨W0, hW0⟩ : ∃ W0, W0 = w.alloc (.cells #[.int .i64 0, .int .i64 0, .int .i64 0, .slice none 0 0, .int .i64 0] 38) := ⟨_, rfl⟩
  have g0 : W0.heap[w.heap.size]? = some (.cells #[.int .i64 0, .int .i64 0, .int .i64 0, .slice none 0 0, .int .i64 0] 38 (0, 0)) := by rw [hW0]; exact heap_made _ _
  have bw0 : Below w.heap.size w W0 := by rw [hW0]; exact (Below.refl _ _).alloc (Nat.le_refl _) _
  have HG : Hid (∀ w', Below W0.heap.size W0 w' → w'.heap[w.heap.size]? = some (.cells #[.int .i64 0, .int .i64 0, .int .i64 0, .slice none 0 0, .int .i64 0] 38 (0, 0)) ∧ Below w.heap.size w w') := fun w' h => ⟨(h.block _ (lt_of_block g0)).trans g0, Below.thenOf bw0 h bw0.size⟩
  obtain ⟨mm, hm⟩ := (HE.out W0 bw0).1
  have HSp0 : Hid _ := HSp mm W0 hm
  have HW : Hid (W0 = _) := hW0
  clear hW0 g0 bw0 HSp hm hmap hsz
  rw [hwlen] at hn
  obtain ⟨u1, hu1⟩ : ∃ u, ws[1]? = some u := ⟨ws[1]'(by omega), by simp⟩
  have h1z : u1.size ≤ 60000 := HSz.out u1 (List.mem_of_getElem? hu1)
  have hw1 : (split3 s.data.toList).getD 1 [] = u1.data.toList := by
    rw [← HM.out, List.getD_eq_getElem?_getD, List.getElem?_map, hu1]
    rfl
  obtain ⟨u2, hu2⟩ : ∃ u, ws[2]? = some u := ⟨ws[2]'(by omega), by simp⟩
  have h2z : u2.size ≤ 60000 := HSz.out u2 (List.mem_of_getElem? hu2)
  have hw2 : (split3 s.data.toList).getD 2 [] = u2.data.toList := by
    rw [← HM.out, List.getD_eq_getElem?_getD, List.getElem?_map, hu2]
    rfl
  have HRec : Hid (readP s.data.toList = match numOf u1.data.toList with | none => (zeroRec, 1) | some c => ((1, c, 0, (parseR u2.data.toList).1), (parseR u2.data.toList).2)) := by
    unfold Hid readP
    rw [hk, hwlen, hn, hw1, hw2, if_neg (by omega)]
    cases numOf u1.data.toList <;> rfl
  have HRk : Hid (∀ w', Calls Tryz.prog 105 #[.string u0] w' fun e w'' => e = .returned (.tuple #[.int .i64 1, .bool true]) ∧ Below w'.heap.size w' w'') := fun w' => by
    have := readKind_any u0 w'
    rw [← hw0, hk] at this
    exact this
  have HWo : Hid (∀ w', Calls Tryz.prog 106 #[.int .i64 1] w' fun e w'' => e = .returned (.int .i64 3) ∧ w'' = w') := fun w' => wordsOf_less (by decide) w'
  have HN1 : Hid (∀ w', Below w.heap.size w w' → Calls Tryz.prog 107 #[.string u1] w' fun e w'' => ∃ n ok, e = .returned (.tuple #[.int .i64 n, .bool ok]) ∧ (numOf u1.data.toList = if ok = true then some n else none) ∧ wf n ∧ Below w'.heap.size w' w'') := fun w' h => number_any u1 (by omega) w' (HE.out w' h)
  have HN2 : Hid (∀ w', Below w.heap.size w w' → Calls Tryz.prog 108 #[.string u2] w' fun e w'' => ∃ pv, e = .returned (.tuple #[pv, .int .i64 (parseR u2.data.toList).2]) ∧ PolN w'.heap.size w'' pv (parseR u2.data.toList).1 ∧ Below w'.heap.size w' w'') := fun w' h => parse_any u2 w' (HE.out w' h)
  have HU : Hid (ws[0]? = some u0 ∧ ws[1]? = some u1 ∧ ws[2]? = some u2) := ⟨hu0, hu1, hu2⟩
  rw [hn] at HSp0
  clear hw0 hwlen hu0 h0z hu1 h1z hw1 hu2 h2z hw2 hk hn hl1 hl3 HSz HM HE
  go_enter Tryz.func61, Tryz.ntmps61
  go_wp2_with fail
  rw [← HW.out]
  go_at_call 68
  refine Calls.mono HSp0.out ?_
  rintro e w1 ⟨SB, cap, rfl, hc1, hc2, b01, hSB1, hSB2, hcell⟩
  have x0 := hcell 0 u0 HU.out.1
  have HX : Hid (∀ w', Below w1.heap.size w1 w' → w'.cell? ⟨SB, 1, none⟩ = some (.string u1) ∧ w'.cell? ⟨SB, 2, none⟩ = some (.string u2)) := fun w' h => ⟨(h.cell (p := ⟨SB, 1, none⟩) hSB2).trans (hcell 1 u1 HU.out.2.1), (h.cell (p := ⟨SB, 2, none⟩) hSB2).trans (hcell 2 u2 HU.out.2.2)⟩
  have B01 : Hid (Below W0.heap.size W0 w1) := b01
  clear hcell HSp0 HW hSB1 b01
  go_wp2_with fail
  go_at_call 105
  refine Calls.mono (HRk.out _) ?_
  rintro e w2 ⟨rfl, b12⟩
  have B12 : Hid (Below w1.heap.size w1 w2) := b12
  have x1 := (HX.out w2 b12).1
  have lS2 : SB < w2.heap.size := Nat.lt_of_lt_of_le hSB2 b12.size
  have B02 : Hid (Below W0.heap.size W0 w2) := Below.thenOf B01.out b12 B01.out.size
  clear b12 x0
  go_wp2_with fail
  go_at_call 106
  refine Calls.mono (HWo.out _) ?_
  rintro e w3 ⟨rfl, rfl⟩
  go_wp2_with fail
  go_at_call 107
  refine Calls.mono (HN1.out _ (HG.out _ B02.out).2) ?_
  rintro e w4 ⟨n, ok, rfl, hnum, hwfn, b34⟩
  have b04 := Below.thenOf B02.out b34 B02.out.size
  have lS4 : SB < w4.heap.size := Nat.lt_of_lt_of_le lS2 b34.size
  have HX4 : Hid (∀ w', Below w4.heap.size w4 w' → w'.cell? ⟨SB, 2, none⟩ = some (.string u2)) := fun w' h => ((h.cell (p := ⟨SB, 2, none⟩) lS4).trans (b34.cell (p := ⟨SB, 2, none⟩) lS2)).trans (HX.out w3 B12.out).2
  clear HX x1
  cases ok with
  | false =>
    have HRes : Hid (readP s.data.toList = (zeroRec, 1)) := by unfold Hid; rw [HRec.out, hnum]; rfl
    have b0b := b04
    clear hnum b34 b04
    obtain ⟨gb, bwb⟩ := HG.out w4 b0b
    have lb := lt_of_block gb
    obtain ⟨z0, z1, z2, z3, z4⟩ := rec_box gb
    have f0 : w4.frozen? ⟨w.heap.size, 0, none⟩ = false := by simp [World.frozen?, gb]
    have f1 : w4.frozen? ⟨w.heap.size, 1, none⟩ = false := by simp [World.frozen?, gb]
    have f2 : w4.frozen? ⟨w.heap.size, 2, none⟩ = false := by simp [World.frozen?, gb]
    have f3 : w4.frozen? ⟨w.heap.size, 3, none⟩ = false := by simp [World.frozen?, gb]
    have f4 : w4.frozen? ⟨w.heap.size, 4, none⟩ = false := by simp [World.frozen?, gb]
    have Bwb : Hid (Below w.heap.size w w4) := bwb
    clear gb bwb b0b
    go_wp2_with fail
    refine bodyPost_ret (v := .tuple #[.agg #[.int .i64 0, .int .i64 0, .int .i64 0, .slice none 0 0, .int .i64 0], .int .i64 1]) ?_ rfl ⟨_, by rw [HRes.out], by rw [HRes.out]; exact recNew_zero _ _, ?_⟩
    · rw [results_cell_tmp rfl]
      go_simp
    · exact (((((Bwb.out.setCell (p := ⟨w.heap.size, 0, none⟩) (Nat.le_refl _) _).setCell (p := ⟨w.heap.size, 1, none⟩) (Nat.le_refl _) _).setCell (p := ⟨w.heap.size, 2, none⟩) (Nat.le_refl _) _).setCell (p := ⟨w.heap.size, 3, none⟩) (Nat.le_refl _) _).setCell (p := ⟨w.heap.size, 4, none⟩) (Nat.le_refl _) _)
  | true =>
    have HRec2 : Hid (readP s.data.toList = ((1, n, 0, (parseR u2.data.toList).1), (parseR u2.data.toList).2)) := by unfold Hid; rw [HRec.out, hnum]; rfl
    have HWf : Hid (wf n) := hwfn
    obtain ⟨W5, hW5⟩ : ∃ W5, W5 = w4.alloc (.cells #[.int .i64 1, .int .i64 n, .int .i64 0, .slice none 0 0, .int .i64 0] 38) := ⟨_, rfl⟩
    have b45 : Below w4.heap.size w4 W5 := by rw [hW5]; exact (Below.refl _ _).alloc (Nat.le_refl _) _
    have g5 : W5.heap[w4.heap.size]? = some (.cells #[.int .i64 1, .int .i64 n, .int .i64 0, .slice none 0 0, .int .i64 0] 38 (0, 0)) := by rw [hW5]; exact heap_made _ _
    have x4 := HX4.out w4 (Below.refl _ _)
    have b05 := Below.thenOf b04 b45 b04.size
    have l5 := lt_of_block g5
    have HN5 := HN2.out W5 (HG.out W5 b05).2
    have HN5' : Hid _ := HN5
    have HR5 : Hid (∀ w', Below W5.heap.size W5 w' → w'.heap[w4.heap.size]? = some (.cells #[.int .i64 1, .int .i64 n, .int .i64 0, .slice none 0 0, .int .i64 0] 38 (0, 0)) ∧ Below W0.heap.size W0 w') := fun w' h => ⟨(h.block _ l5).trans g5, Below.thenOf b05 h b05.size⟩
    have H04 : Hid (W0.heap.size ≤ w4.heap.size) := b04.size
    have HL4 : Hid (w.heap.size < W5.heap.size ∧ w4.heap.size < W5.heap.size ∧ w.heap.size ≤ w4.heap.size) := ⟨lt_of_block (HG.out W5 b05).1, l5, Nat.le_of_lt (lt_of_block (HG.out w4 b04).1)⟩
    have hne : ¬ w.heap.size = w4.heap.size := by have := lt_of_block (HG.out w4 b04).1; omega
    have HW5 : Hid (W5 = _) := hW5
    have lS5 : SB < W5.heap.size := Nat.lt_of_lt_of_le lS4 b45.size
    clear hW5 b45 g5 b05 b04 b34 hnum hwfn HN5 HX4
    go_wp2_with fail
    rw [← HW5.out]
    go_at_call 108
    refine Calls.mono HN5'.out ?_
    rintro e w6 ⟨pv, rfl, hpn, b56⟩
    obtain ⟨PP, hPP⟩ : ∃ PP, PP = (parseR u2.data.toList).1 := ⟨_, rfl⟩
    obtain ⟨PE, hPE⟩ : ∃ PE, PE = (parseR u2.data.toList).2 := ⟨_, rfl⟩
    rw [← hPP] at hpn
    rw [← hPE] at ⊢
    rw [← hPP, ← hPE] at HRec2
    clear hPP hPE HRec
    obtain ⟨prs, pd⟩ := PP
    have HNw : Hid (PolNew W5.heap.size w6 pv (prs, pd)) := fun wF h1 h2 => (hpn.keep h1 h2).at
    obtain ⟨va, vn, vc, ev⟩ := hpn.shape
    simp only [] at ev
    subst ev
    obtain ⟨g6, b06⟩ := HR5.out w6 b56
    have l6 := lt_of_block g6
    obtain ⟨q0, q1, q2, q3, q4⟩ := rec_box g6
    have fq3 : w6.frozen? ⟨w4.heap.size, 3, none⟩ = false := by simp [World.frozen?, g6]
    have fq4 : w6.frozen? ⟨w4.heap.size, 4, none⟩ = false := by simp [World.frozen?, g6]
    have HRes : Hid (readP s.data.toList = ((1, n, 0, prs, pd), PE)) := HRec2.out
    have b0b := b06
    clear HN5' HR5 x4 l5 lS5 b56 HW5 g6 hpn b06 HRec2
    obtain ⟨gb, bwb⟩ := HG.out w6 b0b
    have lb := lt_of_block gb
    obtain ⟨z0, z1, z2, z3, z4⟩ := rec_box gb
    have f0 : w6.frozen? ⟨w.heap.size, 0, none⟩ = false := by simp [World.frozen?, gb]
    have f1 : w6.frozen? ⟨w.heap.size, 1, none⟩ = false := by simp [World.frozen?, gb]
    have f2 : w6.frozen? ⟨w.heap.size, 2, none⟩ = false := by simp [World.frozen?, gb]
    have f3 : w6.frozen? ⟨w.heap.size, 3, none⟩ = false := by simp [World.frozen?, gb]
    have f4 : w6.frozen? ⟨w.heap.size, 4, none⟩ = false := by simp [World.frozen?, gb]
    have Bwb : Hid (Below w.heap.size w w6) := bwb
    clear gb bwb b0b
    go_wp2_with fail
    refine bodyPost_ret (v := .tuple #[.agg #[.int .i64 1, .int .i64 n, .int .i64 0, .slice va vn vc, .int .i64 pd], .int .i64 PE]) ?_ rfl ⟨_, by rw [HRes.out], by rw [HRes.out]; have hL := HL4.out; exact fun wF h1 h2 => ⟨_, rfl, (by unfold wf; decide : wf (1 : Int)), HWf.out, (by unfold wf; decide : wf (0 : Int)), (((((((((HNw.out.put (.inl hL.2.1)).put (.inl hL.2.1)).put (.inl hL.1)).put (.inl hL.1)).put (.inl hL.1)).put (.inl hL.1)).put (.inl hL.1)).later (Nat.le_refl _) ((Below.refl _ _).alloc (Nat.le_refl _) _)).keep (Nat.le_refl _) (fun g hg hl => h1 g (by omega) hl) h2).at⟩, ?_⟩
    · rw [results_cell_tmp rfl]
      go_simp
    · exact (((((((Bwb.out.setCell (p := ⟨w4.heap.size, 3, none⟩) HL4.out.2.2 _).setCell (p := ⟨w4.heap.size, 4, none⟩) HL4.out.2.2 _).setCell (p := ⟨w.heap.size, 0, none⟩) (Nat.le_refl _) _).setCell (p := ⟨w.heap.size, 1, none⟩) (Nat.le_refl _) _).setCell (p := ⟨w.heap.size, 2, none⟩) (Nat.le_refl _) _).setCell (p := ⟨w.heap.size, 3, none⟩) (Nat.le_refl _) _).setCell (p := ⟨w.heap.size, 4, none⟩) (Nat.le_refl _) _).alloc (by simp; exact Bwb.out.size) _

end Go.Proofs.YtdfcfinjoghipacGreatDoor
end
section
/- What the program's own note.read says of a text of kind tight. -/
set_option linter.all false
set_option maxRecDepth 100000
namespace Go.Proofs.YtdfcfinjoghipacGreatDoor
open Go.RowKit Go.Maps

set_option maxHeartbeats 4000000 in
theorem readN_pol2 (s : ByteArray) (hs60 : s.size ≤ 60000) (w : World) (he : EnvT w) (hk : idxL kN ((split3 s.data.toList).getD 0 []) = 1) (hn : (split3 s.data.toList).length = 3) : ReadSays s w := by
  have HE : Hid (∀ w', Below w.heap.size w w' → EnvT w') := fun w' h => he.later h
  clear he
  obtain ⟨ws, hmap, hl1, hl3, hsz, HSp⟩ := words3_any s hs60
  have HM : Hid (ws.map (fun p : ByteArray => p.data.toList) = split3 s.data.toList) := hmap
  have HSz : Hid (∀ u ∈ ws, u.size ≤ 60000) := hsz
  obtain ⟨u0, hu0⟩ : ∃ u, ws[0]? = some u := ⟨ws[0]'(by omega), by simp⟩
  have h0z : u0.size ≤ 60000 := hsz u0 (List.mem_of_getElem? hu0)
  have hw0 : (split3 s.data.toList).getD 0 [] = u0.data.toList := by
    rw [← hmap, List.getD_eq_getElem?_getD, List.getElem?_map, hu0]
    rfl
  have hwlen : (split3 s.data.toList).length = ws.length := by rw [← hmap]; simp
  obtain ⟨W0, hW0⟩ : ∃ W0, W0 = w.alloc (.cells #[.int .i64 0, .int .i64 0, .int .i64 0, .slice none 0 0, .int .i64 0] 38) := ⟨_, rfl⟩
  have g0 : W0.heap[w.heap.size]? = some (.cells #[.int .i64 0, .int .i64 0, .int .i64 0, .slice none 0 0, .int .i64 0] 38 (0, 0)) := by rw [hW0]; exact heap_made _ _
  have bw0 : Below w.heap.size w W0 := by rw [hW0]; exact (Below.refl _ _).alloc (Nat.le_refl _) _
  have HG : Hid (∀ w', Below W0.heap.size W0 w' → w'.heap[w.heap.size]? = some (.cells #[.int .i64 0, .int .i64 0, .int .i64 0, .slice none 0 0, .int .i64 0] 38 (0, 0)) ∧ Below w.heap.size w w') := fun w' h => ⟨(h.block _ (lt_of_block g0)).trans g0, Below.thenOf bw0 h bw0.size⟩
  obtain ⟨mm, hm⟩ := (HE.out W0 bw0).1
  have HSp0 : Hid _ := HSp mm W0 hm
  have HW : Hid (W0 = _) := hW0
  clear hW0 g0 bw0 HSp hm hmap hsz
  rw [hwlen] at hn
  obtain ⟨u1, hu1⟩ : ∃ u, ws[1]? = some u := ⟨ws[1]'(by omega), by simp⟩
  have h1z : u1.size ≤ 60000 := HSz.out u1 (List.mem_of_getElem? hu1)
  have hw1 : (split3 s.data.toList).getD 1 [] = u1.data.toList := by
    rw [← HM.out, List.getD_eq_getElem?_getD, List.getElem?_map, hu1]
    rfl
  obtain ⟨u2, hu2⟩ : ∃ u, ws[2]? = some u := ⟨ws[2]'(by omega), by simp⟩
  have h2z : u2.size ≤ 60000 := HSz.out u2 (List.mem_of_getElem? hu2)
  have hw2 : (split3 s.data.toList).getD 2 [] = u2.data.toList := by
    rw [← HM.out, List.getD_eq_getElem?_getD, List.getElem?_map, hu2]
    rfl
  have HRec : Hid (readP s.data.toList = match numOf u1.data.toList with | none => (zeroRec, 1) | some c => ((2, c, 0, (parseR u2.data.toList).1), (parseR u2.data.toList).2)) := by
    unfold Hid readP
    rw [hk, hwlen, hn, hw1, hw2, if_neg (by omega)]
    cases numOf u1.data.toList <;> rfl
  have HRk : Hid (∀ w', Calls Tryz.prog 105 #[.string u0] w' fun e w'' => e = .returned (.tuple #[.int .i64 2, .bool true]) ∧ Below w'.heap.size w' w'') := fun w' => by
    have := readKind_any u0 w'
    rw [← hw0, hk] at this
    exact this
  have HWo : Hid (∀ w', Calls Tryz.prog 106 #[.int .i64 2] w' fun e w'' => e = .returned (.int .i64 3) ∧ w'' = w') := fun w' => wordsOf_less (by decide) w'
  have HN1 : Hid (∀ w', Below w.heap.size w w' → Calls Tryz.prog 107 #[.string u1] w' fun e w'' => ∃ n ok, e = .returned (.tuple #[.int .i64 n, .bool ok]) ∧ (numOf u1.data.toList = if ok = true then some n else none) ∧ wf n ∧ Below w'.heap.size w' w'') := fun w' h => number_any u1 (by omega) w' (HE.out w' h)
  have HN2 : Hid (∀ w', Below w.heap.size w w' → Calls Tryz.prog 108 #[.string u2] w' fun e w'' => ∃ pv, e = .returned (.tuple #[pv, .int .i64 (parseR u2.data.toList).2]) ∧ PolN w'.heap.size w'' pv (parseR u2.data.toList).1 ∧ Below w'.heap.size w' w'') := fun w' h => parse_any u2 w' (HE.out w' h)
  have HU : Hid (ws[0]? = some u0 ∧ ws[1]? = some u1 ∧ ws[2]? = some u2) := ⟨hu0, hu1, hu2⟩
  rw [hn] at HSp0
  clear hw0 hwlen hu0 h0z hu1 h1z hw1 hu2 h2z hw2 hk hn hl1 hl3 HSz HM HE
  go_enter Tryz.func61, Tryz.ntmps61
  go_wp2_with fail
  rw [← HW.out]
  go_at_call 68
  refine Calls.mono HSp0.out ?_
  rintro e w1 ⟨SB, cap, rfl, hc1, hc2, b01, hSB1, hSB2, hcell⟩
  have x0 := hcell 0 u0 HU.out.1
  have HX : Hid (∀ w', Below w1.heap.size w1 w' → w'.cell? ⟨SB, 1, none⟩ = some (.string u1) ∧ w'.cell? ⟨SB, 2, none⟩ = some (.string u2)) := fun w' h => ⟨(h.cell (p := ⟨SB, 1, none⟩) hSB2).trans (hcell 1 u1 HU.out.2.1), (h.cell (p := ⟨SB, 2, none⟩) hSB2).trans (hcell 2 u2 HU.out.2.2)⟩
  have B01 : Hid (Below W0.heap.size W0 w1) := b01
  clear hcell HSp0 HW hSB1 b01
  go_wp2_with fail
  go_at_call 105
  refine Calls.mono (HRk.out _) ?_
  rintro e w2 ⟨rfl, b12⟩
  have B12 : Hid (Below w1.heap.size w1 w2) := b12
  have x1 := (HX.out w2 b12).1
  have lS2 : SB < w2.heap.size := Nat.lt_of_lt_of_le hSB2 b12.size
  have B02 : Hid (Below W0.heap.size W0 w2) := Below.thenOf B01.out b12 B01.out.size
  clear b12 x0
  go_wp2_with fail
  go_at_call 106
  refine Calls.mono (HWo.out _) ?_
  rintro e w3 ⟨rfl, rfl⟩
  go_wp2_with fail
  go_at_call 107
  refine Calls.mono (HN1.out _ (HG.out _ B02.out).2) ?_
  rintro e w4 ⟨n, ok, rfl, hnum, hwfn, b34⟩
  have b04 := Below.thenOf B02.out b34 B02.out.size
  have lS4 : SB < w4.heap.size := Nat.lt_of_lt_of_le lS2 b34.size
  have HX4 : Hid (∀ w', Below w4.heap.size w4 w' → w'.cell? ⟨SB, 2, none⟩ = some (.string u2)) := fun w' h => ((h.cell (p := ⟨SB, 2, none⟩) lS4).trans (b34.cell (p := ⟨SB, 2, none⟩) lS2)).trans (HX.out w3 B12.out).2
  clear HX x1
  cases ok with
  | false =>
    have HRes : Hid (readP s.data.toList = (zeroRec, 1)) := by unfold Hid; rw [HRec.out, hnum]; rfl
    have b0b := b04
    clear hnum b34 b04
    obtain ⟨gb, bwb⟩ := HG.out w4 b0b
    have lb := lt_of_block gb
    obtain ⟨z0, z1, z2, z3, z4⟩ := rec_box gb
    have f0 : w4.frozen? ⟨w.heap.size, 0, none⟩ = false := by simp [World.frozen?, gb]
    have f1 : w4.frozen? ⟨w.heap.size, 1, none⟩ = false := by simp [World.frozen?, gb]
    have f2 : w4.frozen? ⟨w.heap.size, 2, none⟩ = false := by simp [World.frozen?, gb]
    have f3 : w4.frozen? ⟨w.heap.size, 3, none⟩ = false := by simp [World.frozen?, gb]
    have f4 : w4.frozen? ⟨w.heap.size, 4, none⟩ = false := by simp [World.frozen?, gb]
    have Bwb : Hid (Below w.heap.size w w4) := bwb
    clear gb bwb b0b
    go_wp2_with fail
    refine bodyPost_ret (v := .tuple #[.agg #[.int .i64 0, .int .i64 0, .int .i64 0, .slice none 0 0, .int .i64 0], .int .i64 1]) ?_ rfl ⟨_, by rw [HRes.out], by rw [HRes.out]; exact recNew_zero _ _, ?_⟩
    · rw [results_cell_tmp rfl]
      go_simp
    · exact (((((Bwb.out.setCell (p := ⟨w.heap.size, 0, none⟩) (Nat.le_refl _) _).setCell (p := ⟨w.heap.size, 1, none⟩) (Nat.le_refl _) _).setCell (p := ⟨w.heap.size, 2, none⟩) (Nat.le_refl _) _).setCell (p := ⟨w.heap.size, 3, none⟩) (Nat.le_refl _) _).setCell (p := ⟨w.heap.size, 4, none⟩) (Nat.le_refl _) _)
  | true =>
    have HRec2 : Hid (readP s.data.toList = ((2, n, 0, (parseR u2.data.toList).1), (parseR u2.data.toList).2)) := by unfold Hid; rw [HRec.out, hnum]; rfl
    have HWf : Hid (wf n) := hwfn
    obtain ⟨W5, hW5⟩ : ∃ W5, W5 = w4.alloc (.cells #[.int .i64 2, .int .i64 n, .int .i64 0, .slice none 0 0, .int .i64 0] 38) := ⟨_, rfl⟩
    have b45 : Below w4.heap.size w4 W5 := by rw [hW5]; exact (Below.refl _ _).alloc (Nat.le_refl _) _
    have g5 : W5.heap[w4.heap.size]? = some (.cells #[.int .i64 2, .int .i64 n, .int .i64 0, .slice none 0 0, .int .i64 0] 38 (0, 0)) := by rw [hW5]; exact heap_made _ _
    have x4 := HX4.out w4 (Below.refl _ _)
    have b05 := Below.thenOf b04 b45 b04.size
    have l5 := lt_of_block g5
    have HN5 := HN2.out W5 (HG.out W5 b05).2
    have HN5' : Hid _ := HN5
    have HR5 : Hid (∀ w', Below W5.heap.size W5 w' → w'.heap[w4.heap.size]? = some (.cells #[.int .i64 2, .int .i64 n, .int .i64 0, .slice none 0 0, .int .i64 0] 38 (0, 0)) ∧ Below W0.heap.size W0 w') := fun w' h => ⟨(h.block _ l5).trans g5, Below.thenOf b05 h b05.size⟩
    have H04 : Hid (W0.heap.size ≤ w4.heap.size) := b04.size
    have HL4 : Hid (w.heap.size < W5.heap.size ∧ w4.heap.size < W5.heap.size ∧ w.heap.size ≤ w4.heap.size) := ⟨lt_of_block (HG.out W5 b05).1, l5, Nat.le_of_lt (lt_of_block (HG.out w4 b04).1)⟩
    have hne : ¬ w.heap.size = w4.heap.size := by have := lt_of_block (HG.out w4 b04).1; omega
    have HW5 : Hid (W5 = _) := hW5
    have lS5 : SB < W5.heap.size := Nat.lt_of_lt_of_le lS4 b45.size
    clear hW5 b45 g5 b05 b04 b34 hnum hwfn HN5 HX4
    go_wp2_with fail
    rw [← HW5.out]
    go_at_call 108
    refine Calls.mono HN5'.out ?_
    rintro e w6 ⟨pv, rfl, hpn, b56⟩
    obtain ⟨PP, hPP⟩ : ∃ PP, PP = (parseR u2.data.toList).1 := ⟨_, rfl⟩
    obtain ⟨PE, hPE⟩ : ∃ PE, PE = (parseR u2.data.toList).2 := ⟨_, rfl⟩
    rw [← hPP] at hpn
    rw [← hPE] at ⊢
    rw [← hPP, ← hPE] at HRec2
    clear hPP hPE HRec
    obtain ⟨prs, pd⟩ := PP
    have HNw : Hid (PolNew W5.heap.size w6 pv (prs, pd)) := fun wF h1 h2 => (hpn.keep h1 h2).at
    obtain ⟨va, vn, vc, ev⟩ := hpn.shape
    simp only [] at ev
    subst ev
    obtain ⟨g6, b06⟩ := HR5.out w6 b56
    have l6 := lt_of_block g6
    obtain ⟨q0, q1, q2, q3, q4⟩ := rec_box g6
    have fq3 : w6.frozen? ⟨w4.heap.size, 3, none⟩ = false := by simp [World.frozen?, g6]
    have fq4 : w6.frozen? ⟨w4.heap.size, 4, none⟩ = false := by simp [World.frozen?, g6]
    have HRes : Hid (readP s.data.toList = ((2, n, 0, prs, pd), PE)) := HRec2.out
    have b0b := b06
    clear HN5' HR5 x4 l5 lS5 b56 HW5 g6 hpn b06 HRec2
    obtain ⟨gb, bwb⟩ := HG.out w6 b0b
    have lb := lt_of_block gb
    obtain ⟨z0, z1, z2, z3, z4⟩ := rec_box gb
    have f0 : w6.frozen? ⟨w.heap.size, 0, none⟩ = false := by simp [World.frozen?, gb]
    have f1 : w6.frozen? ⟨w.heap.size, 1, none⟩ = false := by simp [World.frozen?, gb]
    have f2 : w6.frozen? ⟨w.heap.size, 2, none⟩ = false := by simp [World.frozen?, gb]
    have f3 : w6.frozen? ⟨w.heap.size, 3, none⟩ = false := by simp [World.frozen?, gb]
    have f4 : w6.frozen? ⟨w.heap.size, 4, none⟩ = false := by simp [World.frozen?, gb]
    have Bwb : Hid (Below w.heap.size w w6) := bwb
    clear gb bwb b0b
    go_wp2_with fail
    refine bodyPost_ret (v := .tuple #[.agg #[.int .i64 2, .int .i64 n, .int .i64 0, .slice va vn vc, .int .i64 pd], .int .i64 PE]) ?_ rfl ⟨_, by rw [HRes.out], by rw [HRes.out]; have hL := HL4.out; exact fun wF h1 h2 => ⟨_, rfl, (by unfold wf; decide : wf (2 : Int)), HWf.out, (by unfold wf; decide : wf (0 : Int)), (((((((((HNw.out.put (.inl hL.2.1)).put (.inl hL.2.1)).put (.inl hL.1)).put (.inl hL.1)).put (.inl hL.1)).put (.inl hL.1)).put (.inl hL.1)).later (Nat.le_refl _) ((Below.refl _ _).alloc (Nat.le_refl _) _)).keep (Nat.le_refl _) (fun g hg hl => h1 g (by omega) hl) h2).at⟩, ?_⟩
    · rw [results_cell_tmp rfl]
      go_simp
    · exact (((((((Bwb.out.setCell (p := ⟨w4.heap.size, 3, none⟩) HL4.out.2.2 _).setCell (p := ⟨w4.heap.size, 4, none⟩) HL4.out.2.2 _).setCell (p := ⟨w.heap.size, 0, none⟩) (Nat.le_refl _) _).setCell (p := ⟨w.heap.size, 1, none⟩) (Nat.le_refl _) _).setCell (p := ⟨w.heap.size, 2, none⟩) (Nat.le_refl _) _).setCell (p := ⟨w.heap.size, 3, none⟩) (Nat.le_refl _) _).setCell (p := ⟨w.heap.size, 4, none⟩) (Nat.le_refl _) _).alloc (by simp; exact Bwb.out.size) _

end Go.Proofs.YtdfcfinjoghipacGreatDoor
end
