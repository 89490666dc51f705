/- Joined: NtD1 KpA. -/
import Derived.Test.YtbdlojnigflanacGreatDoorKb10
import Derived.Test.YtbdlojnigflanacGreatDoorKb20
import Derived.Test.YtbdlojnigflanacGreatDoorKb21
section
/- What the program's own note.Check and note.Same say of any record. -/
set_option linter.all false
set_option maxRecDepth 100000
namespace Go.Proofs.YtbdlojnigflanacGreatDoor
open Go.RowKit Go.Maps

theorem isCell_yes {n : Int} (h0 : 0 ≤ n) (h3 : n < 4) (w : World) : Calls Tryz.prog 81 #[.int .i64 n] w fun e w' => e = .returned (.bool true) ∧ w' = w := by
  go_enter Tryz.func81, Tryz.ntmps81
  go_wp2
  go_ret
  exact ⟨by simp [h0, h3], rfl⟩
theorem isCell_no {n : Int} (h : n < 0 ∨ 3 < n) (w : World) : Calls Tryz.prog 81 #[.int .i64 n] w fun e w' => e = .returned (.bool false) ∧ w' = w := by
  by_cases h0 : 0 ≤ n
  · have h3 : ¬ n < 4 := by omega
    clear h
    go_enter Tryz.func81, Tryz.ntmps81
    go_wp2
    go_ret
    exact ⟨by simp [h3], rfl⟩
  · clear h
    go_enter Tryz.func81, Tryz.ntmps81
    go_wp2
    go_ret
    exact ⟨by simp [h0], rfl⟩
theorem tells_any {k : Int} (hk : k = 1 ∨ k = 2 ∨ k = 3 ∨ k = 4) (w : World) : Calls Tryz.prog 74 #[.int .i64 k] w fun e w' => e = .returned (.bool (decide (k = 1 ∨ k = 2))) ∧ w' = w := by
  rcases hk with rfl | rfl | rfl | rfl
  all_goals
    go_enter Tryz.func74, Tryz.ntmps74
    go_wp2
    go_ret
    exact ⟨by simp, rfl⟩

set_option maxHeartbeats 8000000 in
theorem checkN_any (B : Nat) (v : Value) (r : RecT) (w : World) (hr : RecAt B w v r) (hB : B ≤ w.heap.size) :
    Calls Tryz.prog 22 #[v] w fun e w' => e = .returned (.int .i64 (recErr r)) ∧ Below w.heap.size w w' := by
  obtain ⟨a, c, rfl, hp⟩ := hr.shape
  have HCP : Hid (∀ w', Below w.heap.size w w' → Calls Tryz.prog 61 #[.agg #[.slice a r.2.2.2.1.length c, .int .i64 r.2.2.2.2]] w' fun e w'' => e = .returned (.int .i64 (polErr r.2.2.2)) ∧ Below w'.heap.size w' w'') := fun w' h => check_pol B _ r.2.2.2 w' (hp.later h hB) (Nat.le_trans hB h.size)
  obtain ⟨z, hz⟩ : ∃ z, z = decide (r.2.2.2 = (([], 0) : PolT)) := ⟨_, rfl⟩
  have HSa : Hid (∀ w', Below w.heap.size w w' → Calls Tryz.prog 80 #[.agg #[.slice a r.2.2.2.1.length c, .int .i64 r.2.2.2.2], .agg #[.slice none 0 0, .int .i64 0]] w' fun e w'' => e = .returned (.bool z) ∧ Below w'.heap.size w' w'') := fun w' h => by rw [hz]; exact same_any B _ _ r.2.2.2 ([], 0) w' (hp.later h hB) (polAt_zero _ _) (Nat.le_trans hB h.size)
  have HE : Hid (recErr r = if r.1 < 1 ∨ 4 < r.1 then 4 else if (r.2.1 < 0 ∨ 3 < r.2.1) ∨ (r.2.2.1 < 0 ∨ 3 < r.2.2.1) then 3 else if (0 < r.2.2.1 ∧ r.1 ≠ 3) ∨ (¬ (r.1 = 1 ∨ r.1 = 2) ∧ ¬ (r.2.2.2.2 = 0 ∧ r.2.2.2.1 = [])) then 4 else if r.1 = 1 ∨ r.1 = 2 then polErr r.2.2.2 else 0) := rfl
  have HZ : Hid (z = true ↔ (r.2.2.2.2 = 0 ∧ r.2.2.2.1 = [])) := by
    unfold Hid
    rw [hz, decide_eq_true_iff]
    obtain ⟨k, ce, fr, rs, d⟩ := r
    constructor
    · intro h
      cases h
      exact ⟨rfl, rfl⟩
    · rintro ⟨h1, h2⟩
      show ((rs, d) : PolT) = ([], 0)
      rw [show rs = [] from h2, show d = 0 from h1]
  clear hz
  clear hr hp
  obtain ⟨k, ce, fr, rs, d⟩ := r
  simp only at *
  generalize recErr (k, ce, fr, rs, d) = E at *
  generalize polErr (rs, d) = pe at *
  have HZ' : Hid (z = true ↔ (d = 0 ∧ rs = [])) := HZ.out
  generalize hn : rs.length = n at *
  clear hn HZ
  have hb : ∀ X, Below w.heap.size w (w.alloc X) := fun X => (Below.refl _ _).alloc (Nat.le_refl _) _
  by_cases h1 : k < 1 ∨ 4 < k
  · have e : Hid (E = 4) := by unfold Hid; rw [HE.out, if_pos h1]
    clear HE HCP HSa
    rcases h1 with h1 | h1
    · go_enter Tryz.func22, Tryz.ntmps22
      go_wp2
      go_ret
      exact ⟨by rw [e.out]; rfl, hb _⟩
    · have h2 : ¬ k < 1 := by omega
      go_enter Tryz.func22, Tryz.ntmps22
      go_wp2
      go_ret
      exact ⟨by rw [e.out]; rfl, hb _⟩
  · have hk : k = 1 ∨ k = 2 ∨ k = 3 ∨ k = 4 := by omega
    have k1 : ¬ k < 1 := by omega
    have k4 : ¬ 4 < k := by omega
    have HE1 : Hid (E = if (ce < 0 ∨ 3 < ce) ∨ (fr < 0 ∨ 3 < fr) then 3 else if (0 < fr ∧ k ≠ 3) ∨ (¬ (k = 1 ∨ k = 2) ∧ ¬ (d = 0 ∧ rs = [])) then 4 else if k = 1 ∨ k = 2 then pe else 0) := by unfold Hid; rw [HE.out, if_neg h1]
    have Hk : Hid (k = 1 ∨ k = 2 ∨ k = 3 ∨ k = 4) := hk
    clear HE h1 hk
    by_cases h2 : ce < 0 ∨ 3 < ce
    · have e : Hid (E = 3) := by unfold Hid; rw [HE1.out, if_pos (.inl h2)]
      have hin2 : Hid (∀ w', Calls Tryz.prog 81 #[.int .i64 ce] w' fun e w'' => e = .returned (.bool false) ∧ w'' = w') := fun w' => isCell_no h2 w'
      clear HE1 HCP HSa h2
      go_enter Tryz.func22, Tryz.ntmps22
      go_wp2_with fail
      go_at_call 81
      refine Calls.mono (hin2.out _) ?_
      rintro e w2 ⟨rfl, rfl⟩
      go_wp2_with fail
      go_ret
      exact ⟨by rw [e.out]; rfl, hb _⟩
    · have hin2 : Hid (∀ w', Calls Tryz.prog 81 #[.int .i64 ce] w' fun e w'' => e = .returned (.bool true) ∧ w'' = w') := fun w' => isCell_yes (by omega) (by omega) w'
      by_cases h3 : fr < 0 ∨ 3 < fr
      · have e : Hid (E = 3) := by unfold Hid; rw [HE1.out, if_pos (.inr h3)]
        have hin3 : Hid (∀ w', Calls Tryz.prog 81 #[.int .i64 fr] w' fun e w'' => e = .returned (.bool false) ∧ w'' = w') := fun w' => isCell_no h3 w'
        clear HE1 HCP HSa h2 h3
        go_enter Tryz.func22, Tryz.ntmps22
        go_wp2_with fail
        go_at_call 81
        refine Calls.mono (hin2.out _) ?_
        rintro e w2 ⟨rfl, rfl⟩
        go_wp2_with fail
        go_at_call 81
        refine Calls.mono (hin3.out _) ?_
        rintro e w2 ⟨rfl, rfl⟩
        go_wp2_with fail
        go_ret
        exact ⟨by rw [e.out]; rfl, hb _⟩
      · have hin3 : Hid (∀ w', Calls Tryz.prog 81 #[.int .i64 fr] w' fun e w'' => e = .returned (.bool true) ∧ w'' = w') := fun w' => isCell_yes (by omega) (by omega) w'
        have HE2 : Hid (E = if (0 < fr ∧ k ≠ 3) ∨ (¬ (k = 1 ∨ k = 2) ∧ ¬ (d = 0 ∧ rs = [])) then 4 else if k = 1 ∨ k = 2 then pe else 0) := by unfold Hid; rw [HE1.out, if_neg (by omega)]
        have hf0 : 0 ≤ fr := by omega
        clear HE1 h2 h3
        by_cases hfz : fr = 0
        · have HTe : Hid (∀ w', Calls Tryz.prog 74 #[.int .i64 k] w' fun e w'' => e = .returned (.bool (decide (k = 1 ∨ k = 2))) ∧ w'' = w') := fun w' => tells_any Hk.out w'
          by_cases hp : k = 1 ∨ k = 2
          · have e : Hid (E = pe) := by unfold Hid; rw [HE2.out, if_neg (by rintro (h | ⟨h, -⟩); (exact absurd h.1 (by omega)); (exact h hp)), if_pos hp]
            rw [decide_eq_true hp] at HTe
            have hk3 : (k != 3) = true := by simp; omega
            subst hfz
            clear HE2 HSa hp
            go_enter Tryz.func22, Tryz.ntmps22
            go_wp2_with fail
            go_at_call 81
            refine Calls.mono (hin2.out _) ?_
            rintro e w2 ⟨rfl, rfl⟩
            go_wp2_with fail
            go_at_call 81
            refine Calls.mono (hin3.out _) ?_
            rintro e w2 ⟨rfl, rfl⟩
            go_wp2_with fail
            go_at_call 74
            refine Calls.mono (HTe.out _) ?_
            rintro e w2 ⟨rfl, rfl⟩
            go_wp2_with fail
            go_at_call 61
            refine Calls.mono (HCP.out _ (hb _)) ?_
            rintro e2 w2 ⟨rfl, hb2⟩
            go_wp2_with fail
            go_ret
            exact ⟨by rw [e.out]; rfl, Below.thenOf (hb _) hb2 (by simp)⟩
          · rw [decide_eq_false hp] at HTe
            have hk34 : k = 3 ∨ k = 4 := by have := Hk.out; omega
            have e : Hid (E = if z = true then 0 else 4) := by
              unfold Hid
              rw [HE2.out]
              by_cases hz : z = true
              · rw [if_pos hz, if_neg (by rintro (h | ⟨-, h⟩); (exact absurd h.1 (by omega)); (exact h (HZ'.out.1 hz))), if_neg hp]
              · rw [if_neg hz, if_pos (.inr ⟨hp, fun h => hz (HZ'.out.2 h)⟩)]
            subst hfz
            clear HE2 HCP hp HZ'
            rcases hk34 with rfl | rfl
            all_goals
              go_enter Tryz.func22, Tryz.ntmps22
              go_wp2_with fail
              go_at_call 81
              refine Calls.mono (hin2.out _) ?_
              rintro e w2 ⟨rfl, rfl⟩
              go_wp2_with fail
              go_at_call 81
              refine Calls.mono (hin3.out _) ?_
              rintro e w2 ⟨rfl, rfl⟩
              go_wp2_with fail
              go_at_call 74
              refine Calls.mono (HTe.out _) ?_
              rintro e w2 ⟨rfl, rfl⟩
              go_wp2_with fail
              go_at_call 80
              refine Calls.mono (HSa.out _ (hb _)) ?_
              rintro e2 w2 ⟨rfl, hb2⟩
              cases z
              all_goals
                go_wp2_with fail
                go_ret
                exact ⟨by rw [e.out]; rfl, Below.thenOf (hb _) hb2 (by simp)⟩
        · have hfn : (fr != 0) = true := by simpa using hfz
          by_cases hk3 : k = 3
          · have HTe : Hid (∀ w', Calls Tryz.prog 74 #[.int .i64 3] w' fun e w'' => e = .returned (.bool false) ∧ w'' = w') := fun w' => tells_any (k := 3) (by decide) w'
            have e : Hid (E = if z = true then 0 else 4) := by
              unfold Hid
              rw [HE2.out]
              by_cases hz : z = true
              · rw [if_pos hz, if_neg (by rintro (h | ⟨-, h⟩); (exact h.2 hk3); (exact h (HZ'.out.1 hz))), if_neg (by omega)]
              · rw [if_neg hz, if_pos (.inr ⟨by omega, fun h => hz (HZ'.out.2 h)⟩)]
            subst hk3
            clear HE2 HCP HZ' Hk k1 k4
            go_enter Tryz.func22, Tryz.ntmps22
            go_wp2_with fail
            go_at_call 81
            refine Calls.mono (hin2.out _) ?_
            rintro e w2 ⟨rfl, rfl⟩
            go_wp2_with fail
            go_at_call 81
            refine Calls.mono (hin3.out _) ?_
            rintro e w2 ⟨rfl, rfl⟩
            go_wp2_with fail
            go_at_call 74
            refine Calls.mono (HTe.out _) ?_
            rintro e w2 ⟨rfl, rfl⟩
            go_wp2_with fail
            go_at_call 80
            refine Calls.mono (HSa.out _ (hb _)) ?_
            rintro e2 w2 ⟨rfl, hb2⟩
            cases z
            all_goals
              go_wp2_with fail
              go_ret
              exact ⟨by rw [e.out]; rfl, Below.thenOf (hb _) hb2 (by simp)⟩
          · have hk3' : (k != 3) = true := by simpa using hk3
            have e : Hid (E = 4) := by unfold Hid; rw [HE2.out, if_pos (.inl ⟨by omega, hk3⟩)]
            clear HE2 HCP HZ' HSa
            go_enter Tryz.func22, Tryz.ntmps22
            go_wp2_with fail
            go_at_call 81
            refine Calls.mono (hin2.out _) ?_
            rintro e w2 ⟨rfl, rfl⟩
            go_wp2_with fail
            go_at_call 81
            refine Calls.mono (hin3.out _) ?_
            rintro e w2 ⟨rfl, rfl⟩
            go_wp2_with fail
            go_ret
            exact ⟨by rw [e.out]; rfl, hb _⟩

end Go.Proofs.YtbdlojnigflanacGreatDoor
end
section
/- Package keeper: New, Same, Check. -/
set_option linter.all false
set_option maxRecDepth 100000
namespace Go.Proofs.YtbdlojnigflanacGreatDoor
open Go.RowKit Go.Maps

set_option maxHeartbeats 4000000 in
theorem sameCellD_any (B : Nat) (u v : Value) (c d : CellT) (w : World) (hc : CellV B w u c) (hd : CellV B w v d) (hB : B ≤ w.heap.size) :
    Calls Tryz.prog 107 #[u, v] w fun e w' => e = .returned (.bool (decide (c = d))) ∧ Below w.heap.size w w' := by
  obtain ⟨la, lc, ra, rc, rfl, h1, h2⟩ := hc
  obtain ⟨la2, lc2, ra2, rc2, rfl, k1, k2⟩ := hd
  have HC : Hid (∀ w', Below w.heap.size w w' → Calls Tryz.prog 158 #[.slice la c.2.1.length lc, .slice la2 d.2.1.length lc2] w' fun e w'' => e = .returned (.bool (decide (c.2.1 = d.2.1))) ∧ Below w'.heap.size w' w'') := fun w' h => sameD_any B _ _ c.2.1 d.2.1 w' (h1.later h hB) (k1.later h hB) (Nat.le_trans hB h.size)
  have HP : Hid (∀ w', Below w.heap.size w w' → Calls Tryz.prog 80 #[.agg #[.slice ra c.2.2.1.length rc, .int .i64 c.2.2.2], .agg #[.slice ra2 d.2.2.1.length rc2, .int .i64 d.2.2.2]] w' fun e w'' => e = .returned (.bool (decide (c.2.2 = d.2.2))) ∧ Below w'.heap.size w' w'') := fun w' h => same_any B _ _ c.2.2 d.2.2 w' (h2.later h hB) (k2.later h hB) (Nat.le_trans hB h.size)
  have HE : Hid (decide (c = d) = (decide (c.1 = d.1) && (decide (c.2.1 = d.2.1) && decide (c.2.2 = d.2.2)))) := by
    unfold Hid
    rw [← Bool.decide_and, ← Bool.decide_and]
    refine decide_eq_decide.2 ⟨fun h => by rw [h]; exact ⟨rfl, rfl, rfl⟩, fun ⟨h1, h2, h3⟩ => ?_⟩
    exact Prod.ext h1 (Prod.ext h2 h3)
  clear h1 h2 k1 k2
  obtain ⟨o, ls, rs, f⟩ := c
  obtain ⟨o', ls', rs', f'⟩ := d
  simp only at HC HP HE
  generalize decide ((o, ls, rs, f) = (o', ls', rs', f')) = eq at *
  generalize decide (ls = ls') = e1 at *
  generalize decide ((rs, f) = (rs', f')) = e2 at *
  generalize ls.length = n1 at *
  generalize ls'.length = n2 at *
  generalize rs.length = n3 at *
  generalize rs'.length = n4 at *
  obtain ⟨W2, hW2⟩ : ∃ W2, W2 = (w.alloc (.cells #[.bool o, .slice la n1 lc, .slice ra n3 rc, .int .i64 f] 77)).alloc (.cells #[.bool o', .slice la2 n2 lc2, .slice ra2 n4 rc2, .int .i64 f'] 77) := ⟨_, rfl⟩
  have hb2 : Below w.heap.size w W2 := by rw [hW2]; exact ((Below.refl _ _).alloc (Nat.le_refl _) _).alloc (by simp) _
  have hs2 : W2.heap.size = w.heap.size + 1 + 1 := by rw [hW2]; simp
  have g0 : W2.heap[w.heap.size]? = some (.cells #[.bool o, .slice la n1 lc, .slice ra n3 rc, .int .i64 f] 77 (0, 0)) := by rw [hW2]; exact heap_kept' _ (heap_at _ _ rfl)
  have g1 : W2.heap[w.heap.size + 1]? = some (.cells #[.bool o', .slice la2 n2 lc2, .slice ra2 n4 rc2, .int .i64 f'] 77 (0, 0)) := by rw [hW2]; exact heap_at _ _ (by simp only [World.size_alloc])
  have HG : Hid (∀ w', Below W2.heap.size W2 w' → w'.cell? ⟨w.heap.size, 2, none⟩ = some (.slice ra n3 rc) ∧ w'.cell? ⟨w.heap.size, 3, none⟩ = some (.int .i64 f) ∧ w'.cell? ⟨w.heap.size + 1, 2, none⟩ = some (.slice ra2 n4 rc2) ∧ w'.cell? ⟨w.heap.size + 1, 3, none⟩ = some (.int .i64 f') ∧ Below w.heap.size w w') := fun w' h => by
    have q0 := (h.block _ (by omega)).trans g0
    have q1 := (h.block _ (by omega)).trans g1
    exact ⟨heap_cell q0 2 rfl, heap_cell q0 3 rfl, heap_cell q1 2 rfl, heap_cell q1 3 rfl, Below.thenOf hb2 h hb2.size⟩
  have HW2 : Hid (W2 = _) := hW2
  have HB2 : Hid (Below w.heap.size w W2) := hb2
  clear hW2 g0 g1 hb2
  by_cases ho : o = o'
  · subst ho
    cases e1 with
    | true =>
      have HE' : Hid (eq = e2) := by unfold Hid; rw [HE.out]; simp
      clear HE
      go_enter Tryz.func107, Tryz.ntmps107
      go_wp2_with fail
      rw [← HW2.out]
      go_at_call 158
      refine Calls.mono (HC.out _ HB2.out) ?_
      rintro e w3 ⟨rfl, hb3⟩
      obtain ⟨y0, y1, y2, y3, yw⟩ := HG.out _ hb3
      have Yw : Hid (Below w.heap.size w w3) := yw
      clear hb3 yw
      go_wp2_with fail
      go_at_call 80
      refine Calls.mono (HP.out _ Yw.out) ?_
      rintro e w4 ⟨rfl, hb4⟩
      have HZ : Hid (Below w.heap.size w w4) := Below.thenOf Yw.out hb4 Yw.out.size
      clear hb4
      go_wp2_with fail
      all_goals
        go_ret
        exact ⟨by rw [HE'.out]; rfl, HZ.out⟩
    | false =>
      have HE' : Hid (eq = false) := by unfold Hid; rw [HE.out]; simp
      clear HE
      go_enter Tryz.func107, Tryz.ntmps107
      go_wp2_with fail
      rw [← HW2.out]
      go_at_call 158
      refine Calls.mono (HC.out _ HB2.out) ?_
      rintro e w3 ⟨rfl, hb3⟩
      obtain ⟨y0, y1, y2, y3, yw⟩ := HG.out _ hb3
      have Yw : Hid (Below w.heap.size w w3) := yw
      clear hb3 yw
      go_wp2_with fail
      go_ret
      exact ⟨by rw [HE'.out]; rfl, Yw.out⟩
  · have HE' : Hid (eq = false) := by unfold Hid; rw [HE.out, decide_eq_false ho]; rfl
    have hq : (o == o') = false := by cases o <;> cases o' <;> simp at ho ⊢
    rw [HW2.out] at HB2
    clear HE HC HP HG HW2 ho
    go_enter Tryz.func107, Tryz.ntmps107
    go_wp2_with fail
    all_goals
      go_ret
      exact ⟨by rw [HE'.out]; rfl, HB2.out⟩
set_option maxHeartbeats 2000000 in
theorem sameKp_any (B : Nat) (lv mv : Value) (ls ms : List CellT) (w : World) (hl : CellsAt B w lv ls) (hm : CellsAt B w mv ms) (hB : B ≤ w.heap.size) :
    Calls Tryz.prog 47 #[lv, mv] w fun e w' => e = .returned (.bool (decide (ls = ms))) ∧ Below w.heap.size w w' := by
  have HC : Hid (Calls Tryz.prog 106 #[lv, mv, .func (.func 107) #[] #[]] w fun e w' => e = .returned (.bool (decide (ls = ms))) ∧ Below w.heap.size w w') := equalCells_any B 107 (fun args w' => by kernel_rfl) (fun w' u v c d hBw h1 h2 => sameCellD_any B u v c d w' h1 h2 hBw) lv mv ls ms w hl hm hB
  obtain ⟨a, c, rfl, -, -⟩ := hl.shape
  obtain ⟨a2, c2, rfl, -, -⟩ := hm.shape
  clear hl hm
  generalize decide (ls = ms) = eq at *
  generalize ls.length = n at *
  generalize ms.length = n2 at *
  go_enter Tryz.func47, Tryz.ntmps47
  go_wp2_with (first | (go_at_call 106; go_must (refine Calls.mono HC.out ?_; rintro e w2 ⟨rfl, hb2⟩)))
  go_ret
  exact ⟨rfl, hb2⟩

theorem newKp_any (w : World) : Calls Tryz.prog 49 #[] w fun e w' => ∃ v, e = .returned v ∧ CellsAt w'.heap.size w' v newCells ∧ Below w.heap.size w w' := by
  have hmk := make_cells
  obtain ⟨mc, hmc⟩ : ∃ mc, mc = madeCells #[.bool false, .slice none 0 0, .slice none 0 0, .int .i64 0] 16 := ⟨_, rfl⟩
  rw [← hmc] at hmk
  have hnew := cellsAt_new w
  rw [← hmc] at hnew
  have HNew : Hid (CellsAt (w.alloc (.cells mc 77)).heap.size (w.alloc (.cells mc 77)) (.slice (some ⟨w.heap.size, 0, none⟩) 4 4) newCells) := by
    unfold Hid
    rw [World.size_alloc]
    exact hnew
  have HB : Hid (Below w.heap.size w (w.alloc (.cells mc 77))) := (Below.refl _ _).alloc (Nat.le_refl _) _
  clear hnew hmc
  go_enter Tryz.func49, Tryz.ntmps49
  go_wp2_with fail
  go_ret
  exact ⟨_, rfl, HNew.out, HB.out⟩

theorem cellV_zero (B : Nat) (w : World) : CellV B w (.agg #[.bool false, .slice none 0 0, .slice none 0 0, .int .i64 0]) zeroCell := ⟨none, 0, none, 0, rfl, chsAt_nil _ _, polAt_zero _ _⟩
theorem cellErr_shutD {ls : ChT} {rs : List RuleT} {d : Int} : cellErr (false, ls, rs, d) = if (false, ls, rs, d) = zeroCell then 0 else 4 := by
  unfold cellErr zeroCell
  by_cases h : ls = []
  · subst h
    by_cases h2 : d = 0 ∧ rs = []
    · obtain ⟨rfl, rfl⟩ := h2
      simp
    · have : ¬ ((false, ([] : ChT), rs, d) = (false, [], [], 0)) := fun e => h2 (by simp at e; exact ⟨e.2, e.1⟩)
      rw [if_pos (.inr ⟨rfl, h2⟩), if_neg this]
  · have : ¬ ((false, ls, rs, d) = ((false, [], [], 0) : CellT)) := fun e => h (by simp at e; exact e.1)
    have hl : 0 < ls.length := List.length_pos_iff.2 h
    rw [if_pos (.inl (by simp; exact h)), if_neg this]
theorem cellErr_openD {ls : ChT} {p : PolT} : cellErr (true, ls, p) = if ls.length = 0 then 4 else if chainErr ls = 0 then polErr p else chainErr ls := by
  unfold cellErr
  by_cases h : ls.length = 0
  · rw [if_pos (.inl (by simp [h])), if_pos h]
  · rw [if_neg (by simp; intro e; exact h (by rw [e]; rfl)), if_neg (by simp), if_neg h]

set_option maxHeartbeats 4000000 in
theorem checkCell_any (B : Nat) (v : Value) (c : CellT) (w : World) (hc : CellV B w v c) (hB : B ≤ w.heap.size) :
    Calls Tryz.prog 102 #[v] w fun e w' => e = .returned (.int .i64 (cellErr c)) ∧ Below w.heap.size w w' := by
  have HSm : Hid (∀ w', Below w.heap.size w w' → Calls Tryz.prog 107 #[v, .agg #[.bool false, .slice none 0 0, .slice none 0 0, .int .i64 0]] w' fun e w'' => e = .returned (.bool (decide (c = zeroCell))) ∧ Below w'.heap.size w' w'') := fun w' h => sameCellD_any B _ _ c zeroCell w' (hc.later h hB) (cellV_zero _ _) (Nat.le_trans hB h.size)
  obtain ⟨la, lc, ra, rc, rfl, h1, h2⟩ := hc
  have HCh : Hid (∀ w', Below w.heap.size w w' → Calls Tryz.prog 110 #[.slice la c.2.1.length lc] w' fun e w'' => e = .returned (.int .i64 (chainErr c.2.1)) ∧ Below w'.heap.size w' w'') := fun w' h => checkD_any B _ c.2.1 w' (h1.later h hB) (Nat.le_trans hB h.size)
  have HPo : Hid (∀ w', Below w.heap.size w w' → Calls Tryz.prog 61 #[.agg #[.slice ra c.2.2.1.length rc, .int .i64 c.2.2.2]] w' fun e w'' => e = .returned (.int .i64 (polErr c.2.2)) ∧ Below w'.heap.size w' w'') := fun w' h => check_pol B _ c.2.2 w' (h2.later h hB) (Nat.le_trans hB h.size)
  clear h1 h2
  obtain ⟨o, ls, rs, f⟩ := c
  simp only at HSm HCh HPo
  obtain ⟨W1, hW1⟩ : ∃ W1, W1 = w.alloc (.cells #[.bool o, .slice la ls.length lc, .slice ra rs.length rc, .int .i64 f] 77) := ⟨_, rfl⟩
  have hb1 : Below w.heap.size w W1 := by rw [hW1]; exact (Below.refl _ _).alloc (Nat.le_refl _) _
  have hs1 : W1.heap.size = w.heap.size + 1 := by rw [hW1]; simp
  have g0 : W1.heap[w.heap.size]? = some (.cells #[.bool o, .slice la ls.length lc, .slice ra rs.length rc, .int .i64 f] 77 (0, 0)) := by rw [hW1]; exact heap_made _ _
  have HG : Hid (∀ w', Below W1.heap.size W1 w' → w'.cell? ⟨w.heap.size, 0, none⟩ = some (.bool o) ∧ w'.cell? ⟨w.heap.size, 1, none⟩ = some (.slice la ls.length lc) ∧ w'.cell? ⟨w.heap.size, 2, none⟩ = some (.slice ra rs.length rc) ∧ w'.cell? ⟨w.heap.size, 3, none⟩ = some (.int .i64 f) ∧ Below w.heap.size w w') := fun w' h => by
    have q0 := (h.block _ (by omega)).trans g0
    exact ⟨heap_cell q0 0 rfl, heap_cell q0 1 rfl, heap_cell q0 2 rfl, heap_cell q0 3 rfl, Below.thenOf hb1 h hb1.size⟩
  have HW1 : Hid (W1 = _) := hW1
  have HB1 : Hid (Below w.heap.size w W1) := hb1
  clear hW1 g0 hb1 hs1
  cases o with
  | false =>
    have HE : Hid (cellErr (false, ls, rs, f) = if (false, ls, rs, f) = zeroCell then 0 else 4) := cellErr_shutD
    clear HCh HPo
    obtain ⟨q, hq⟩ : ∃ q, q = decide ((false, ls, rs, f) = zeroCell) := ⟨_, rfl⟩
    have HQ : Hid (q = decide ((false, ls, rs, f) = zeroCell)) := hq
    rw [← hq] at HSm
    clear hq
    generalize cellErr (false, ls, rs, f) = ce at *
    generalize ls.length = n1 at *
    generalize rs.length = n2 at *
    go_enter Tryz.func102, Tryz.ntmps102
    go_wp2_with fail
    rw [← HW1.out]
    go_at_call 107
    refine Calls.mono (HSm.out _ HB1.out) ?_
    rintro e w3 ⟨rfl, hb3⟩
    obtain ⟨y0, y1, y2, y3, yw⟩ := HG.out _ hb3
    have Yw : Hid (Below w.heap.size w w3) := yw
    clear hb3 yw HSm HG
    cases q with
    | true =>
      have HE' : Hid (ce = 0) := by unfold Hid; rw [HE.out, if_pos (of_decide_eq_true HQ.out.symm)]
      clear HE HQ
      go_wp2_with fail
      go_ret
      exact ⟨by rw [HE'.out]; rfl, Yw.out⟩
    | false =>
      have HE' : Hid (ce = 4) := by unfold Hid; rw [HE.out, if_neg (of_decide_eq_false HQ.out.symm)]
      clear HE HQ
      go_wp2_with fail
      go_ret
      exact ⟨by rw [HE'.out]; rfl, Yw.out⟩
  | true =>
    have HE : Hid (cellErr (true, ls, rs, f) = if ls.length = 0 then 4 else if chainErr ls = 0 then polErr (rs, f) else chainErr ls) := cellErr_openD
    clear HSm
    generalize cellErr (true, ls, rs, f) = ce at *
    generalize chainErr ls = he at *
    generalize polErr (rs, f) = pe at *
    generalize ls.length = n1 at *
    generalize rs.length = n2 at *
    by_cases hn : n1 = 0
    · subst hn
      have HE' : Hid (ce = 4) := by unfold Hid; rw [HE.out, if_pos rfl]
      rw [HW1.out] at HB1
      clear HE HCh HPo HG HW1
      go_enter Tryz.func102, Tryz.ntmps102
      go_wp2_with fail
      go_ret
      exact ⟨by rw [HE'.out]; rfl, HB1.out⟩
    · have hn' : ¬ (n1 : Int) = 0 := by omega
      have hnq : ((n1 : Int) == 0) = false := by simpa using hn'
      have HE1 : Hid (ce = if he = 0 then pe else he) := by unfold Hid; rw [HE.out, if_neg hn]
      clear HE hn
      go_enter Tryz.func102, Tryz.ntmps102
      go_wp2_with fail
      rw [← HW1.out]
      go_at_call 110
      refine Calls.mono (HCh.out _ HB1.out) ?_
      rintro e w3 ⟨rfl, hb3⟩
      obtain ⟨y0, y1, y2, y3, yw⟩ := HG.out _ hb3
      have Yw : Hid (Below w.heap.size w w3) := yw
      clear hb3 yw HCh HG hn' hnq
      by_cases hh : he = 0
      · subst hh
        have HE' : Hid (ce = pe) := by unfold Hid; rw [HE1.out, if_pos rfl]
        clear HE1
        go_wp2_with fail
        go_at_call 61
        refine Calls.mono (HPo.out _ Yw.out) ?_
        rintro e w4 ⟨rfl, hb4⟩
        have HZ : Hid (Below w.heap.size w w4) := Below.thenOf Yw.out hb4 Yw.out.size
        clear hb4
        go_wp2_with fail
        go_ret
        exact ⟨by rw [HE'.out]; rfl, HZ.out⟩
      · have HE' : Hid (ce = he) := by unfold Hid; rw [HE1.out, if_neg hh]
        have hq : (he != 0) = true := by simpa using hh
        clear HE1 HPo hh
        go_wp2_with fail
        go_ret
        exact ⟨by rw [HE'.out]; rfl, Yw.out⟩

set_option maxHeartbeats 4000000 in
theorem checkKp_any (B : Nat) (v : Value) (l : List CellT) (w : World) (hl : CellsAt B w v l) (hB : B ≤ w.heap.size) :
    Calls Tryz.prog 45 #[v] w fun e w' => e = .returned (.int .i64 (cellsErr l)) ∧ Below w.heap.size w w' := by
  have HL : Hid (∀ w', Below w.heap.size w w' → CellsAt B w' v l) := fun w' h => hl.later h hB
  obtain ⟨a, cap, rfl, hlc, hcm, -⟩ := hl
  have hml := maxLen_eq
  have HE : Hid (cellsErr l = if l.length = 4 then cellsErr1 l else 4) := rfl
  generalize hlen : l.length = len at *
  have hlenH : Hid (l.length = len) := hlen
  clear hlen
  by_cases h4 : len = 4
  · subst h4
    have HE' : Hid (cellsErr l = cellsErr1 l) := by unfold Hid; rw [HE.out]; rfl
    clear HE
    go_enter Tryz.func45, Tryz.ntmps45
    go_wp2_with fail
    go_loopw [11] (fun iv wr => ∃ k : Nat, k ≤ 4 ∧ iv = .int .i64 k ∧ Hid (cellsErr1 l = cellsErr1 (l.drop k)) ∧ Below w.heap.size w wr) (fun iv _ => 4 - (intOf iv).toNat)
    case atStart => exact ⟨0, by omega, rfl, rfl, Below.refl _ _⟩
    case round =>
      obtain ⟨k, hk, rfl, H, hbr⟩ := hrel
      obtain ⟨wo, hwo⟩ : ∃ x, x = wr := ⟨_, rfl⟩
      subst hwo
      have i0 : (0 : Int) ≤ (k : Int) := by omega
      have hos := hbr.size
      by_cases hlt : k < 4
      · have i1 : (k : Int) < 4 := by omega
        obtain ⟨c, hc⟩ : ∃ c, l[k]? = some c := ⟨l[k]'(by rw [hlenH.out]; omega), by simp⟩
        have S : Hid (cellsErr1 (l.drop k) = if cellErr c = 0 then cellsErr1 (l.drop (k + 1)) else cellErr c) := cellsErr1_drop l k c hc
        obtain ⟨_, _, e1, -, -, hat⟩ := HL.out _ hbr
        obtain ⟨b, o, e, hbB, hin⟩ := hat k c hc
        simp at e1
        obtain ⟨rfl, -, -⟩ := e1
        subst e
        clear hat hc
        obtain ⟨la, lc, ra, rc, c0, c1, c2, c3, hcv⟩ := hin.val
        have HCk : Hid (∀ X, Calls Tryz.prog 102 #[.agg #[.bool c.1, .slice la c.2.1.length lc, .slice ra c.2.2.1.length rc, .int .i64 c.2.2.2]] (wo.alloc X) fun e w'' => e = .returned (.int .i64 (cellErr c)) ∧ Below (wo.alloc X).heap.size (wo.alloc X) w'') := fun X => checkCell_any B _ c _ (hcv.later ((Below.refl wo.heap.size wo).alloc (Nat.le_refl _) X) (Nat.le_trans hB hos)) (by simp; omega)
        clear hin hcv
        generalize c.2.1.length = n1 at *
        generalize c.2.2.1.length = n2 at *
        generalize c.2.2.2 = d at *
        generalize c.1 = op at *
        generalize cellErr c = ce at *
        have HBr : Hid (Below w.heap.size w wo) := hbr
        clear hbr
        by_cases he : ce = 0
        · subst he
          have S' : Hid (cellsErr1 l = cellsErr1 (l.drop (k + 1))) := by unfold Hid; rw [H.out, S.out, if_pos rfl]
          clear S H
          go_wp2_with fail
          go_at_call 102
          refine Calls.mono (HCk.out _) ?_
          rintro e w2 ⟨rfl, hb2⟩
          have hbw2 : Below w.heap.size w w2 := Below.thenOf (HBr.out.alloc HBr.out.size _) hb2 (by simp; omega)
          clear hb2 HCk c0 c1 c2 c3
          go_wp2_with fail
          exact ⟨⟨k + 1, by omega, by go_num, S', hbw2⟩, by simp [intOf]; omega⟩
        · have S' : Hid (cellsErr1 l = ce) := by unfold Hid; rw [H.out, S.out, if_neg he]
          have hq : (ce != 0) = true := by simpa using he
          clear he S H
          go_wp2_with fail
          go_at_call 102
          refine Calls.mono (HCk.out _) ?_
          rintro e w2 ⟨rfl, hb2⟩
          have hbw2 : Below w.heap.size w w2 := Below.thenOf (HBr.out.alloc HBr.out.size _) hb2 (by simp; omega)
          clear hb2 HCk c0 c1 c2 c3
          go_wp2_with fail
          go_ret
          exact ⟨by rw [HE'.out, S'.out]; rfl, hbw2⟩
      · go_wp2_with fail
        go_ret
        exact ⟨by rw [HE'.out, H.out, List.drop_eq_nil_of_le (by rw [hlenH.out]; omega)]; rfl, hbr⟩
  · have HE' : Hid (cellsErr l = 4) := by unfold Hid; rw [HE.out, if_neg h4]
    have hq : ((len : Int) != 4) = true := by simp; omega
    go_enter Tryz.func45, Tryz.ntmps45
    go_wp2_with fail
    go_ret
    exact ⟨by rw [HE'.out]; rfl, Below.refl _ _⟩
end Go.Proofs.YtbdlojnigflanacGreatDoor
end
