/- Joined: Prs NtD3 NtDa. -/
import Derived.Test.YtdfcfinjoghipacGreatDoorDj18
import Derived.Test.YtdfcfinjoghipacGreatDoorDj02
import Derived.Test.YtdfcfinjoghipacGreatDoorDj25
import Derived.Test.YtdfcfinjoghipacGreatDoorDj20
section
/- What the program's own Parse says of any text. -/
set_option linter.all false
set_option maxRecDepth 100000
namespace Go.Proofs.YtdfcfinjoghipacGreatDoor
open Go.RowKit Go.Maps

set_option maxHeartbeats 4000000 in
theorem parse_any (s : ByteArray) (w : World) (he : EnvT w) :
    Calls Tryz.prog 108 #[.string s] w fun e w' => ∃ pv, e = .returned (.tuple #[pv, .int .i64 (parseR s.data.toList).2]) ∧ PolN w.heap.size w' pv (parseR s.data.toList).1 ∧ Below w.heap.size w w' := by
  have hb1 : ∀ X, Below w.heap.size w (w.alloc X) := fun X => (Below.refl _ _).alloc (Nat.le_refl _) _
  have HB : Hid (∀ w' T, Below (w.heap.size + 1) (w.alloc (.cells #[.slice none 0 0, .int .i64 0] T)) w' → w'.heap[w.heap.size]? = some (.cells #[.slice none 0 0, .int .i64 0] T (0, 0)) ∧ Below w.heap.size w w') := fun w' T h => ⟨(h.block w.heap.size (by omega)).trans (MapKept.heap_alloc w _).1, (hb1 _).trans (h.mono (by omega))⟩
  have hsz := Lib.size_eq s
  by_cases hlong : 60000 < s.size
  · have hR : Hid (parseR s.data.toList = (([], 0), 2)) := by unfold Hid parseR; rw [if_pos (by omega)]
    have hl : (60000 : Int) < (s.size : Int) := by omega
    have hRb := (MapKept.heap_alloc w (.cells #[.slice none 0 0, .int .i64 0] 24)).1
    have hbW := hb1 (.cells #[.slice none 0 0, .int .i64 0] 24)
    clear hsz
    go_enter Tryz.func108, Tryz.ntmps108
    go_wp2
    refine bodyPost_ret (v := .tuple #[.agg #[.slice none 0 0, .int .i64 0], .int .i64 2]) ?_ rfl ⟨_, by rw [hR.out], by rw [hR.out]; exact PolN.zero _ _, ?_⟩
    · rw [results_cell_tmp rfl]
      go_simp
    · first | exact hbW | exact (hbW.setCell (p := ⟨w.heap.size, 0, none⟩) (Nat.le_refl _) _).setCell (p := ⟨w.heap.size, 1, none⟩) (Nat.le_refl _) _
  · have hl : ¬ ((60000 : Int) < (s.size : Int)) := by omega
    have hRP := readPolicy_any s (by omega) (w.alloc (.cells #[.slice none 0 0, .int .i64 0] 24)) (he.later (hb1 _))
    have HRP : Hid _ := hRP
    have hR : Hid (parseR s.data.toList = match polOf s.data.toList with
      | none => (([], 0), 1)
      | some p => if polErr p = 0 then (p, 0) else (([], 0), polErr p)) := by unfold Hid parseR; rw [if_neg (by omega)]; rfl
    clear hRP hsz hlong
    generalize polOf s.data.toList = po at *
    cases po with
    | none =>
      have hR' : Hid (parseR s.data.toList = (([], 0), 1)) := hR.out
      clear hR
      go_enter Tryz.func108, Tryz.ntmps108
      go_wp2_with fail
      go_at_call 143
      refine Calls.mono HRP.out ?_
      rintro e w1 ⟨pv, rfl, hpn, hb⟩
      simp only [World.size_alloc] at hb hpn
      obtain ⟨hRb, hbw⟩ := HB.out _ _ hb
      obtain ⟨a, n, cap, rfl⟩ := hpn.shape
      have hs1 : w.heap.size + 1 ≤ w1.heap.size := by have := hb.size; simpa using this
      have hRb2 : ∀ X, (w1.alloc X).heap[w.heap.size]? = some (.cells #[.slice none 0 0, .int .i64 0] 24 (0, 0)) := fun X => (Below.heap_alloc _ _ _ (by omega)).trans hRb
      have t0 : ∀ X, (w1.alloc X).cell? ⟨w.heap.size, 0, none⟩ = some (.slice none 0 0) := fun X => (cell_of_two (hRb2 X)).1
      have t1 : ∀ X, (w1.alloc X).cell? ⟨w.heap.size, 1, none⟩ = some (.int .i64 0) := fun X => (cell_of_two (hRb2 X)).2.1
      have t2 : ∀ X, (w1.alloc X).frozen? ⟨w.heap.size, 0, none⟩ = false := fun X => (cell_of_two (hRb2 X)).2.2.1
      have t3 : ∀ X, (w1.alloc X).frozen? ⟨w.heap.size, 1, none⟩ = false := fun X => (cell_of_two (hRb2 X)).2.2.2
      have hRH : Hid _ := hRb2
      clear hRb hRb2 hpn
      go_wp2_with fail
      have HRF := two_setCell1 (u := .int .i64 0) (two_setCell (u := .slice none 0 0) (hRH.out (.cells #[.slice a n cap, .int .i64 0] 24)))
      obtain ⟨z0, z1, _, _⟩ := cell_of_two HRF
      refine bodyPost_ret (v := .tuple #[.agg #[.slice none 0 0, .int .i64 0], .int .i64 1]) ?_ rfl ⟨_, by rw [hR'.out], by rw [hR'.out]; exact PolN.zero _ _, ((hbw.alloc (by omega) _).setCell (p := ⟨w.heap.size, 0, none⟩) (Nat.le_refl _) _).setCell (p := ⟨w.heap.size, 1, none⟩) (Nat.le_refl _) _⟩
      rw [results_cell_tmp rfl]
      go_simp
    | some p =>
      obtain ⟨rs, d⟩ := p
      have hR' : Hid (parseR s.data.toList = if polErr (rs, d) = 0 then ((rs, d), 0) else (([], 0), polErr (rs, d))) := hR.out
      clear hR
      go_enter Tryz.func108, Tryz.ntmps108
      go_wp2_with fail
      go_at_call 143
      refine Calls.mono HRP.out ?_
      rintro e w1 ⟨pv, rfl, hpn, hb⟩
      simp only [World.size_alloc] at hb hpn
      obtain ⟨hRb, hbw⟩ := HB.out _ _ hb
      obtain ⟨a, n, cap, rfl⟩ := hpn.shape
      have hs1 : w.heap.size + 1 ≤ w1.heap.size := by have := hb.size; simpa using this
      have hpnH : Hid (PolN (w.heap.size + 1) w1 (.agg #[.slice a n cap, .int .i64 d]) (rs, d)) := hpn
      have hCk : Hid (∀ w', Below w1.heap.size w1 w' → Calls Tryz.prog 45 #[.agg #[.slice a n cap, .int .i64 d]] w' fun e w'' => e = .returned (.int .i64 (polErr (rs, d))) ∧ Below w'.heap.size w' w'') := fun w' h => check_pol w'.heap.size _ (rs, d) w' (hpnH.out.keep (fun g h1 h2 => h.block g h2) h.size).at (Nat.le_refl _)
      have hRH : Hid _ := hRb
      clear hRb hpn
      generalize hpe : polErr (rs, d) = pe at *
      have hb2A : Below w1.heap.size w1 (w1.alloc (.cells #[.slice a n cap, .int .i64 d] 24)) := (Below.refl _ _).alloc (Nat.le_refl _) _
      go_wp2_with fail
      go_at_call 45
      refine Calls.mono (hCk.out _ hb2A) ?_
      rintro e w2 ⟨rfl, hb2⟩
      have hb12 := Below.thenOf hb2A hb2 (by simp)
      have hRb2 : w2.heap[w.heap.size]? = some (.cells #[.slice none 0 0, .int .i64 0] 24 (0, 0)) := (hb12.block _ (by omega)).trans hRH.out
      obtain ⟨t0, t1, t2, t3⟩ := cell_of_two hRb2
      have hbx : w2.heap[w1.heap.size]? = some (.cells #[.slice a n cap, .int .i64 d] 24 (0, 0)) := (hb2.block _ (by simp)).trans (MapKept.heap_alloc w1 _).1
      obtain ⟨b0, b1, _, _⟩ := cell_of_two hbx
      have hbw2 : Below w.heap.size w w2 := Below.thenOf hbw hb12 hbw.size
      have hRH2 : Hid _ := hRb2
      have hne1 : ¬ (w1.heap.size = w.heap.size) := by omega
      have hne2 : ¬ (w.heap.size = w1.heap.size) := by omega
      have hs12 := hb12.size
      clear hRb2 hbx hb2 hb2A
      by_cases h0 : pe = 0
      · subst h0
        have hR2 : Hid (parseR s.data.toList = ((rs, d), 0)) := by unfold Hid; rw [hR'.out, if_pos rfl]
        clear hR'
        go_wp2_with fail
        have HRF := two_setCell1 (u := .int .i64 d) (two_setCell (u := .slice a n cap) hRH2.out)
        obtain ⟨z0, z1, _, _⟩ := cell_of_two HRF
        refine bodyPost_ret (v := .tuple #[.agg #[.slice a n cap, .int .i64 d], .int .i64 0]) ?_ rfl ⟨_, by rw [hR2.out], ?_, (hbw2.setCell (p := ⟨w.heap.size, 0, none⟩) (Nat.le_refl _) _).setCell (p := ⟨w.heap.size, 1, none⟩) (Nat.le_refl _) _⟩
        · rw [results_cell_tmp rfl]
          go_simp
        · rw [hR2.out]
          have h3 := hpnH.out.keep (w' := (w2.setCell ⟨w.heap.size, 0, none⟩ (.slice a n cap)).setCell ⟨w.heap.size, 1, none⟩ (.int .i64 d)) (fun g h1 h2 => (heap_set2 0 _ _ (by omega)).trans (hb12.block g h2)) (by simp; exact hs12)
          obtain ⟨rv, e1, e2, a', cap', e3, e4, e5, e6⟩ := h3
          refine ⟨rv, e1, e2, a', cap', e3, e4, e5, fun i r hr => ?_⟩
          obtain ⟨b, o, k1, k2, k3, cv, k4, k5, k6, k7⟩ := e6 i r hr
          exact ⟨b, o, k1, by omega, k3, cv, k4, k5, k6, k7.mono (by omega)⟩
      · have hq : (pe != 0) = true := by simpa using h0
        have hR2 : Hid (parseR s.data.toList = (([], 0), pe)) := by unfold Hid; rw [hR'.out, if_neg h0]
        clear hR' h0
        go_wp2_with fail
        have HRF := two_setCell1 (u := .int .i64 0) (two_setCell (u := .slice none 0 0) hRH2.out)
        obtain ⟨z0, z1, _, _⟩ := cell_of_two HRF
        refine bodyPost_ret (v := .tuple #[.agg #[.slice none 0 0, .int .i64 0], .int .i64 pe]) ?_ rfl ⟨_, by rw [hR2.out], by rw [hR2.out]; exact PolN.zero _ _, (hbw2.setCell (p := ⟨w.heap.size, 0, none⟩) (Nat.le_refl _) _).setCell (p := ⟨w.heap.size, 1, none⟩) (Nat.le_refl _) _⟩
        rw [results_cell_tmp rfl]
        go_simp

end Go.Proofs.YtdfcfinjoghipacGreatDoor
end
section
/- What the program's own note.read says of any text. -/
set_option linter.all false
set_option maxRecDepth 100000
namespace Go.Proofs.YtdfcfinjoghipacGreatDoor
open Go.RowKit Go.Maps

/-- What read makes of a text, ahead of Check. -/
def readP (s : Bs) : RecT × Int :=
  if idxL kN ((split3 s).getD 0 []) < 0 ∨ (idxL kN ((split3 s).getD 0 []) = 3 ∧ (split3 s).length ≠ 2) ∨ (idxL kN ((split3 s).getD 0 []) < 3 ∧ (split3 s).length ≠ 3) then (zeroRec, 1)
  else match numOf ((split3 s).getD 1 []) with
    | none => (zeroRec, 1)
    | some c => if idxL kN ((split3 s).getD 0 []) = 2 then (match numOf ((split3 s).getD 2 []) with
        | none => (zeroRec, 1)
        | some f => ((3, c, f, [], 0), 0))
      else if idxL kN ((split3 s).getD 0 []) = 3 then ((4, c, 0, [], 0), 0)
      else ((idxL kN ((split3 s).getD 0 []) + 1, c, 0, (parseR ((split3 s).getD 2 [])).1), (parseR ((split3 s).getD 2 [])).2)
theorem readP_of (s : Bs) : recOf s = if (readP s).2 = 0 then finRec (readP s).1 else (zeroRec, (readP s).2) := by
  unfold recOf readP
  split
  · rfl
  · cases numOf ((split3 s).getD 1 []) with
    | none => rfl
    | some c =>
      simp only []
      split
      · cases numOf ((split3 s).getD 2 []) with
        | none => rfl
        | some f => rfl
      · split
        · rfl
        · rfl
abbrev ReadSays (s : ByteArray) (w : World) : Prop := Calls Tryz.prog 61 #[.string s] w fun e w' => ∃ v, e = .returned (.tuple #[v, .int .i64 (readP s.data.toList).2]) ∧ RecNew w.heap.size w' v (readP s.data.toList).1 ∧ Below w.heap.size w w'

set_option maxHeartbeats 4000000 in
theorem readN_bad (s : ByteArray) (hs60 : s.size ≤ 60000) (w : World) (he : EnvT w) (hbad : idxL kN ((split3 s.data.toList).getD 0 []) < 0 ∨ (idxL kN ((split3 s.data.toList).getD 0 []) = 3 ∧ (split3 s.data.toList).length ≠ 2) ∨ (idxL kN ((split3 s.data.toList).getD 0 []) < 3 ∧ (split3 s.data.toList).length ≠ 3)) : ReadSays s w := by
  have HRes : Hid (readP s.data.toList = (zeroRec, 1)) := by unfold Hid readP; rw [if_pos hbad]
  have HE : Hid (∀ w', Below w.heap.size w w' → EnvT w') := fun w' h => he.later h
  clear he
  obtain ⟨ws, hmap, hl1, hl3, hsz, HSp⟩ := words3_any s hs60
  have HM : Hid (ws.map (fun p : ByteArray => p.data.toList) = split3 s.data.toList) := hmap
  have HSz : Hid (∀ u ∈ ws, u.size ≤ 60000) := hsz
  obtain ⟨u0, hu0⟩ : ∃ u, ws[0]? = some u := ⟨ws[0]'(by omega), by simp⟩
  have h0z : u0.size ≤ 60000 := hsz u0 (List.mem_of_getElem? hu0)
  have hw0 : (split3 s.data.toList).getD 0 [] = u0.data.toList := by
    rw [← hmap, List.getD_eq_getElem?_getD, List.getElem?_map, hu0]
    rfl
  have hwlen : (split3 s.data.toList).length = ws.length := by rw [← hmap]; simp
  obtain ⟨W0, hW0⟩ : ∃ W0, W0 = w.alloc (.cells #[.int .i64 0, .int .i64 0, .int .i64 0, .slice none 0 0, .int .i64 0] 38) := ⟨_, rfl⟩
  have g0 : W0.heap[w.heap.size]? = some (.cells #[.int .i64 0, .int .i64 0, .int .i64 0, .slice none 0 0, .int .i64 0] 38 (0, 0)) := by rw [hW0]; exact heap_made _ _
  have bw0 : Below w.heap.size w W0 := by rw [hW0]; exact (Below.refl _ _).alloc (Nat.le_refl _) _
  have HG : Hid (∀ w', Below W0.heap.size W0 w' → w'.heap[w.heap.size]? = some (.cells #[.int .i64 0, .int .i64 0, .int .i64 0, .slice none 0 0, .int .i64 0] 38 (0, 0)) ∧ Below w.heap.size w w') := fun w' h => ⟨(h.block _ (lt_of_block g0)).trans g0, Below.thenOf bw0 h bw0.size⟩
  obtain ⟨mm, hm⟩ := (HE.out W0 bw0).1
  have HSp0 : Hid _ := HSp mm W0 hm
  have HW : Hid (W0 = _) := hW0
  clear hW0 g0 bw0 HSp hm hmap hsz
  rw [hw0, hwlen] at hbad
  have HRk : Hid (∀ w', Calls Tryz.prog 105 #[.string u0] w' fun e w'' => e = .returned (.tuple #[.int .i64 (1 + idxL kN u0.data.toList), .bool (decide (0 ≤ idxL kN u0.data.toList))]) ∧ Below w'.heap.size w' w'') := fun w' => readKind_any u0 w'
  have hge := idxL_ge kN u0.data.toList
  have hlt := idx_lt u0.data.toList
  have HU0 : Hid (ws[0]? = some u0) := hu0
  clear hw0 hwlen hu0 h0z
  generalize idxL kN u0.data.toList = ix at *
  generalize hwn : ws.length = wn at *
  have HWn : Hid (ws.length = wn) := hwn
  clear hwn
  go_enter Tryz.func61, Tryz.ntmps61
  go_wp2_with fail
  rw [← HW.out]
  go_at_call 68
  refine Calls.mono HSp0.out ?_
  rintro e w1 ⟨SB, cap, rfl, hc1, hc2, b01, hSB1, hSB2, hcell⟩
  have x0 := hcell 0 u0 HU0.out
  have n0 : (0 : Int) < (wn : Int) := by omega
  clear hcell HSp0 HW hSB1
  go_wp2_with fail
  go_at_call 105
  refine Calls.mono (HRk.out _) ?_
  rintro e w2 ⟨rfl, b12⟩
  have b0b := Below.thenOf b01 b12 b01.size
  clear b12 b01 x0
  by_cases hneg : ix < 0
  · have hd : decide (0 ≤ ix) = false := by simp; omega
    rw [hd]
    clear hbad hge hlt hneg
    obtain ⟨gb, bwb⟩ := HG.out w2 b0b
    have lb := lt_of_block gb
    obtain ⟨z0, z1, z2, z3, z4⟩ := rec_box gb
    have f0 : w2.frozen? ⟨w.heap.size, 0, none⟩ = false := by simp [World.frozen?, gb]
    have f1 : w2.frozen? ⟨w.heap.size, 1, none⟩ = false := by simp [World.frozen?, gb]
    have f2 : w2.frozen? ⟨w.heap.size, 2, none⟩ = false := by simp [World.frozen?, gb]
    have f3 : w2.frozen? ⟨w.heap.size, 3, none⟩ = false := by simp [World.frozen?, gb]
    have f4 : w2.frozen? ⟨w.heap.size, 4, none⟩ = false := by simp [World.frozen?, gb]
    have Bwb : Hid (Below w.heap.size w w2) := bwb
    clear gb bwb b0b
    go_wp2_with fail
    refine bodyPost_ret (v := .tuple #[.agg #[.int .i64 0, .int .i64 0, .int .i64 0, .slice none 0 0, .int .i64 0], .int .i64 1]) ?_ rfl ⟨_, by rw [HRes.out], by rw [HRes.out]; exact recNew_zero _ _, ?_⟩
    · rw [results_cell_tmp rfl]
      go_simp
    · exact (((((Bwb.out.setCell (p := ⟨w.heap.size, 0, none⟩) (Nat.le_refl _) _).setCell (p := ⟨w.heap.size, 1, none⟩) (Nat.le_refl _) _).setCell (p := ⟨w.heap.size, 2, none⟩) (Nat.le_refl _) _).setCell (p := ⟨w.heap.size, 3, none⟩) (Nat.le_refl _) _).setCell (p := ⟨w.heap.size, 4, none⟩) (Nat.le_refl _) _)
  · have hd : decide (0 ≤ ix) = true := by simp; omega
    rw [hd]
    by_cases h3 : ix = 3
    · have hwn2 : ((wn : Int) != 2) = true := by simp; omega
      subst h3
      have HWo : Hid (∀ w', Calls Tryz.prog 106 #[.int .i64 4] w' fun e w'' => e = .returned (.int .i64 2) ∧ w'' = w') := fun w' => wordsOf_four w'
      clear hbad hge hlt hneg
      go_wp2_with fail
      go_at_call 106
      refine Calls.mono (HWo.out _) ?_
      rintro e w3 ⟨rfl, rfl⟩
      obtain ⟨gb, bwb⟩ := HG.out w3 b0b
      have lb := lt_of_block gb
      obtain ⟨z0, z1, z2, z3, z4⟩ := rec_box gb
      have f0 : w3.frozen? ⟨w.heap.size, 0, none⟩ = false := by simp [World.frozen?, gb]
      have f1 : w3.frozen? ⟨w.heap.size, 1, none⟩ = false := by simp [World.frozen?, gb]
      have f2 : w3.frozen? ⟨w.heap.size, 2, none⟩ = false := by simp [World.frozen?, gb]
      have f3 : w3.frozen? ⟨w.heap.size, 3, none⟩ = false := by simp [World.frozen?, gb]
      have f4 : w3.frozen? ⟨w.heap.size, 4, none⟩ = false := by simp [World.frozen?, gb]
      have Bwb : Hid (Below w.heap.size w w3) := bwb
      clear gb bwb b0b
      go_wp2_with fail
      refine bodyPost_ret (v := .tuple #[.agg #[.int .i64 0, .int .i64 0, .int .i64 0, .slice none 0 0, .int .i64 0], .int .i64 1]) ?_ rfl ⟨_, by rw [HRes.out], by rw [HRes.out]; exact recNew_zero _ _, ?_⟩
      · rw [results_cell_tmp rfl]
        go_simp
      · exact (((((Bwb.out.setCell (p := ⟨w.heap.size, 0, none⟩) (Nat.le_refl _) _).setCell (p := ⟨w.heap.size, 1, none⟩) (Nat.le_refl _) _).setCell (p := ⟨w.heap.size, 2, none⟩) (Nat.le_refl _) _).setCell (p := ⟨w.heap.size, 3, none⟩) (Nat.le_refl _) _).setCell (p := ⟨w.heap.size, 4, none⟩) (Nat.le_refl _) _)
    · have hwn3 : ((wn : Int) != 3) = true := by simp; omega
      have HWo : Hid (∀ w', Calls Tryz.prog 106 #[.int .i64 (1 + ix)] w' fun e w'' => e = .returned (.int .i64 3) ∧ w'' = w') := fun w' => wordsOf_less (by omega) w'
      clear hbad hge hlt hneg h3
      go_wp2_with fail
      go_at_call 106
      refine Calls.mono (HWo.out _) ?_
      rintro e w3 ⟨rfl, rfl⟩
      obtain ⟨gb, bwb⟩ := HG.out w3 b0b
      have lb := lt_of_block gb
      obtain ⟨z0, z1, z2, z3, z4⟩ := rec_box gb
      have f0 : w3.frozen? ⟨w.heap.size, 0, none⟩ = false := by simp [World.frozen?, gb]
      have f1 : w3.frozen? ⟨w.heap.size, 1, none⟩ = false := by simp [World.frozen?, gb]
      have f2 : w3.frozen? ⟨w.heap.size, 2, none⟩ = false := by simp [World.frozen?, gb]
      have f3 : w3.frozen? ⟨w.heap.size, 3, none⟩ = false := by simp [World.frozen?, gb]
      have f4 : w3.frozen? ⟨w.heap.size, 4, none⟩ = false := by simp [World.frozen?, gb]
      have Bwb : Hid (Below w.heap.size w w3) := bwb
      clear gb bwb b0b
      go_wp2_with fail
      refine bodyPost_ret (v := .tuple #[.agg #[.int .i64 0, .int .i64 0, .int .i64 0, .slice none 0 0, .int .i64 0], .int .i64 1]) ?_ rfl ⟨_, by rw [HRes.out], by rw [HRes.out]; exact recNew_zero _ _, ?_⟩
      · rw [results_cell_tmp rfl]
        go_simp
      · exact (((((Bwb.out.setCell (p := ⟨w.heap.size, 0, none⟩) (Nat.le_refl _) _).setCell (p := ⟨w.heap.size, 1, none⟩) (Nat.le_refl _) _).setCell (p := ⟨w.heap.size, 2, none⟩) (Nat.le_refl _) _).setCell (p := ⟨w.heap.size, 3, none⟩) (Nat.le_refl _) _).setCell (p := ⟨w.heap.size, 4, none⟩) (Nat.le_refl _) _)

end Go.Proofs.YtdfcfinjoghipacGreatDoor
end
section
/- What the program's own note.read says of a text of kind shut. -/
set_option linter.all false
set_option maxRecDepth 100000
namespace Go.Proofs.YtdfcfinjoghipacGreatDoor
open Go.RowKit Go.Maps

set_option maxHeartbeats 4000000 in
theorem readN_shut (s : ByteArray) (hs60 : s.size ≤ 60000) (w : World) (he : EnvT w) (hk : idxL kN ((split3 s.data.toList).getD 0 []) = 3) (hn : (split3 s.data.toList).length = 2) : ReadSays s w := by
  have HE : Hid (∀ w', Below w.heap.size w w' → EnvT w') := fun w' h => he.later h
  clear he
  obtain ⟨ws, hmap, hl1, hl3, hsz, HSp⟩ := words3_any s hs60
  have HM : Hid (ws.map (fun p : ByteArray => p.data.toList) = split3 s.data.toList) := hmap
  have HSz : Hid (∀ u ∈ ws, u.size ≤ 60000) := hsz
  obtain ⟨u0, hu0⟩ : ∃ u, ws[0]? = some u := ⟨ws[0]'(by omega), by simp⟩
  have h0z : u0.size ≤ 60000 := hsz u0 (List.mem_of_getElem? hu0)
  have hw0 : (split3 s.data.toList).getD 0 [] = u0.data.toList := by
    rw [← hmap, List.getD_eq_getElem?_getD, List.getElem?_map, hu0]
    rfl
  have hwlen : (split3 s.data.toList).length = ws.length := by rw [← hmap]; simp
  obtain ⟨W0, hW0⟩ : ∃ W0, W0 = w.alloc (.cells #[.int .i64 0, .int .i64 0, .int .i64 0, .slice none 0 0, .int .i64 0] 38) := ⟨_, rfl⟩
  have g0 : W0.heap[w.heap.size]? = some (.cells #[.int .i64 0, .int .i64 0, .int .i64 0, .slice none 0 0, .int .i64 0] 38 (0, 0)) := by rw [hW0]; exact heap_made _ _
  have bw0 : Below w.heap.size w W0 := by rw [hW0]; exact (Below.refl _ _).alloc (Nat.le_refl _) _
  have HG : Hid (∀ w', Below W0.heap.size W0 w' → w'.heap[w.heap.size]? = some (.cells #[.int .i64 0, .int .i64 0, .int .i64 0, .slice none 0 0, .int .i64 0] 38 (0, 0)) ∧ Below w.heap.size w w') := fun w' h => ⟨(h.block _ (lt_of_block g0)).trans g0, Below.thenOf bw0 h bw0.size⟩
  obtain ⟨mm, hm⟩ := (HE.out W0 bw0).1
  have HSp0 : Hid _ := HSp mm W0 hm
  have HW : Hid (W0 = _) := hW0
  clear hW0 g0 bw0 HSp hm hmap hsz
  rw [hwlen] at hn
  obtain ⟨u1, hu1⟩ : ∃ u, ws[1]? = some u := ⟨ws[1]'(by omega), by simp⟩
  have h1z : u1.size ≤ 60000 := HSz.out u1 (List.mem_of_getElem? hu1)
  have hw1 : (split3 s.data.toList).getD 1 [] = u1.data.toList := by
    rw [← HM.out, List.getD_eq_getElem?_getD, List.getElem?_map, hu1]
    rfl
  have HRec : Hid (readP s.data.toList = match numOf u1.data.toList with | none => (zeroRec, 1) | some c => ((4, c, 0, [], 0), 0)) := by
    unfold Hid readP
    rw [hk, hwlen, hn, hw1, if_neg (by omega)]
    cases numOf u1.data.toList <;> rfl
  have HRk : Hid (∀ w', Calls Tryz.prog 105 #[.string u0] w' fun e w'' => e = .returned (.tuple #[.int .i64 4, .bool true]) ∧ Below w'.heap.size w' w'') := fun w' => by
    have := readKind_any u0 w'
    rw [← hw0, hk] at this
    exact this
  have HWo : Hid (∀ w', Calls Tryz.prog 106 #[.int .i64 4] w' fun e w'' => e = .returned (.int .i64 2) ∧ w'' = w') := fun w' => wordsOf_four w'
  have HN1 : Hid (∀ w', Below w.heap.size w w' → Calls Tryz.prog 107 #[.string u1] w' fun e w'' => ∃ n ok, e = .returned (.tuple #[.int .i64 n, .bool ok]) ∧ (numOf u1.data.toList = if ok = true then some n else none) ∧ wf n ∧ Below w'.heap.size w' w'') := fun w' h => number_any u1 (by omega) w' (HE.out w' h)
  have HU : Hid (ws[0]? = some u0 ∧ ws[1]? = some u1) := ⟨hu0, hu1⟩
  rw [hn] at HSp0
  clear hw0 hwlen hu0 h0z hu1 h1z hw1  hk hn hl1 hl3 HSz HM HE
  go_enter Tryz.func61, Tryz.ntmps61
  go_wp2_with fail
  rw [← HW.out]
  go_at_call 68
  refine Calls.mono HSp0.out ?_
  rintro e w1 ⟨SB, cap, rfl, hc1, hc2, b01, hSB1, hSB2, hcell⟩
  have x0 := hcell 0 u0 HU.out.1
  have HX : Hid (∀ w', Below w1.heap.size w1 w' → w'.cell? ⟨SB, 1, none⟩ = some (.string u1)) := fun w' h => (h.cell (p := ⟨SB, 1, none⟩) hSB2).trans (hcell 1 u1 HU.out.2)
  have B01 : Hid (Below W0.heap.size W0 w1) := b01
  clear hcell HSp0 HW hSB1 b01
  go_wp2_with fail
  go_at_call 105
  refine Calls.mono (HRk.out _) ?_
  rintro e w2 ⟨rfl, b12⟩
  have B12 : Hid (Below w1.heap.size w1 w2) := b12
  have x1 := HX.out w2 b12
  have lS2 : SB < w2.heap.size := Nat.lt_of_lt_of_le hSB2 b12.size
  have B02 : Hid (Below W0.heap.size W0 w2) := Below.thenOf B01.out b12 B01.out.size
  clear b12 x0
  go_wp2_with fail
  go_at_call 106
  refine Calls.mono (HWo.out _) ?_
  rintro e w3 ⟨rfl, rfl⟩
  go_wp2_with fail
  go_at_call 107
  refine Calls.mono (HN1.out _ (HG.out _ B02.out).2) ?_
  rintro e w4 ⟨n, ok, rfl, hnum, hwfn, b34⟩
  have b04 := Below.thenOf B02.out b34 B02.out.size
  have lS4 : SB < w4.heap.size := Nat.lt_of_lt_of_le lS2 b34.size
  clear HX x1
  cases ok with
  | false =>
    have HRes : Hid (readP s.data.toList = (zeroRec, 1)) := by unfold Hid; rw [HRec.out, hnum]; rfl
    have b0b := b04
    clear hnum b34 b04
    obtain ⟨gb, bwb⟩ := HG.out w4 b0b
    have lb := lt_of_block gb
    obtain ⟨z0, z1, z2, z3, z4⟩ := rec_box gb
    have f0 : w4.frozen? ⟨w.heap.size, 0, none⟩ = false := by simp [World.frozen?, gb]
    have f1 : w4.frozen? ⟨w.heap.size, 1, none⟩ = false := by simp [World.frozen?, gb]
    have f2 : w4.frozen? ⟨w.heap.size, 2, none⟩ = false := by simp [World.frozen?, gb]
    have f3 : w4.frozen? ⟨w.heap.size, 3, none⟩ = false := by simp [World.frozen?, gb]
    have f4 : w4.frozen? ⟨w.heap.size, 4, none⟩ = false := by simp [World.frozen?, gb]
    have Bwb : Hid (Below w.heap.size w w4) := bwb
    clear gb bwb b0b
    go_wp2_with fail
    refine bodyPost_ret (v := .tuple #[.agg #[.int .i64 0, .int .i64 0, .int .i64 0, .slice none 0 0, .int .i64 0], .int .i64 1]) ?_ rfl ⟨_, by rw [HRes.out], by rw [HRes.out]; exact recNew_zero _ _, ?_⟩
    · rw [results_cell_tmp rfl]
      go_simp
    · exact (((((Bwb.out.setCell (p := ⟨w.heap.size, 0, none⟩) (Nat.le_refl _) _).setCell (p := ⟨w.heap.size, 1, none⟩) (Nat.le_refl _) _).setCell (p := ⟨w.heap.size, 2, none⟩) (Nat.le_refl _) _).setCell (p := ⟨w.heap.size, 3, none⟩) (Nat.le_refl _) _).setCell (p := ⟨w.heap.size, 4, none⟩) (Nat.le_refl _) _)
  | true =>
    have HRes : Hid (readP s.data.toList = ((4, n, 0, [], 0), 0)) := by unfold Hid; rw [HRec.out, hnum]; rfl
    have HWf : Hid (wf n) := hwfn
    have b0b := b04
    clear hnum b34 b04 hwfn
    obtain ⟨gb, bwb⟩ := HG.out w4 b0b
    have lb := lt_of_block gb
    obtain ⟨z0, z1, z2, z3, z4⟩ := rec_box gb
    have f0 : w4.frozen? ⟨w.heap.size, 0, none⟩ = false := by simp [World.frozen?, gb]
    have f1 : w4.frozen? ⟨w.heap.size, 1, none⟩ = false := by simp [World.frozen?, gb]
    have f2 : w4.frozen? ⟨w.heap.size, 2, none⟩ = false := by simp [World.frozen?, gb]
    have f3 : w4.frozen? ⟨w.heap.size, 3, none⟩ = false := by simp [World.frozen?, gb]
    have f4 : w4.frozen? ⟨w.heap.size, 4, none⟩ = false := by simp [World.frozen?, gb]
    have Bwb : Hid (Below w.heap.size w w4) := bwb
    clear gb bwb b0b
    go_wp2_with fail
    refine bodyPost_ret (v := .tuple #[.agg #[.int .i64 4, .int .i64 n, .int .i64 0, .slice none 0 0, .int .i64 0], .int .i64 0]) ?_ rfl ⟨_, by rw [HRes.out], by rw [HRes.out]; exact fun wF _ _ => ⟨_, rfl, (by unfold wf; decide : wf (4 : Int)), HWf.out, (by unfold wf; decide : wf (0 : Int)), polAt_zero _ _⟩, ?_⟩
    · rw [results_cell_tmp rfl]
      go_simp
    · exact (((((Bwb.out.setCell (p := ⟨w.heap.size, 0, none⟩) (Nat.le_refl _) _).setCell (p := ⟨w.heap.size, 1, none⟩) (Nat.le_refl _) _).setCell (p := ⟨w.heap.size, 2, none⟩) (Nat.le_refl _) _).setCell (p := ⟨w.heap.size, 3, none⟩) (Nat.le_refl _) _).setCell (p := ⟨w.heap.size, 4, none⟩) (Nat.le_refl _) _).alloc (by simp; exact Bwb.out.size) _

end Go.Proofs.YtdfcfinjoghipacGreatDoor
end
