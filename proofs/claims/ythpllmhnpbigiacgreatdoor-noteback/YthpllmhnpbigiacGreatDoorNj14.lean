/- Joined: OpenR NtD1 Txt TxtO. -/
import Derived.Test.YthpllmhnpbigiacGreatDoorNj10
import Derived.Test.YthpllmhnpbigiacGreatDoorNj13
import Derived.Lib.SmallJoins
import Derived.Test.YthpllmhnpbigiacGreatDoorNj02
import Derived.Lib.Split
import Derived.Lib.SplitLaws
import Derived.Lib.IndexAny
import Derived.Lib.ItoaNum
import Derived.Lib.AtoiAll
import Derived.Lib.SlicesS
import Derived.Test.YthpllmhnpbigiacGreatDoorNj03
section
/- A record that came in. -/
set_option linter.all false
set_option maxRecDepth 100000
namespace Go.Proofs.YthpllmhnpbigiacGreatDoor
open Go.ChangeShapes Go.WideShapes Go.ChangeAt Go.RowKit Go.Deep Go.Maps

theorem polOf_cells {H : Type} {enc : TypeId × Value → H} {W : World} {base fuel : Nat} {sp : Nat → Bool} {held : Bool} {c0 c1 : Value} {x : DataW H × List MemPlace}
    (hf : DataW.trod enc Tryz.prog W base sp held fuel 24 [c0, c1] = some x) : ∃ pp, PolAt W.heap.size W (.agg #[c0, c1]) pp := by
  obtain ⟨y0, y1, n, _, _, t0, t1⟩ := trod_struct2 Tryz.underlying24 hf
  have hr1 : Tryz.prog.cellsOf 22 = 1 := by kernel_rfl
  have hi1 : Tryz.prog.cellsOf 3 = 1 := by kernel_rfl
  simp [hr1, hi1] at t0 t1
  obtain ⟨rs, hrs⟩ := open_rules t0
  obtain ⟨dd, q1, _, w1⟩ := DataW.trod_int Tryz.underlying3 t1
  simp at q1
  subst q1
  exact ⟨(rs, dd), c0, rfl, w1, hrs⟩
theorem open_rec {H : Type} {enc : TypeId × Value → H} {W : World} {r : Reach} {b0 base : Nat} {sp : Nat → Bool} {held : Bool} {v : Value} {d : DataW H} {p : List MemPlace}
    (hv : Value.okWide Tryz.prog W r b0 38 v) (h : DataW.Trod enc Tryz.prog W base sp held 38 v d p) : ∃ x, RecAt W.heap.size W v x := by
  obtain ⟨cs, rfl, hsz⟩ := okWide_struct Tryz.underlying38 hv
  obtain ⟨fuel, hf⟩ := h
  obtain ⟨y0, y1, y2, y3, n, _, _, t0, t1, t2, t3⟩ := Go.Joins.trod_struct4 Tryz.underlying38 hf
  have h5 : Tryz.prog.cellsOf 38 = 5 := by kernel_rfl
  have hp2 : Tryz.prog.cellsOf 24 = 2 := by kernel_rfl
  have hi1 : Tryz.prog.cellsOf 3 = 1 := by kernel_rfl
  rw [h5] at hsz
  obtain ⟨l⟩ := cs
  match l, hsz with
  | [c0, c1, c2, c3, c4], _ =>
    simp [Value.cells, hp2, hi1] at t0 t1 t2 t3
    obtain ⟨k0, q0, _, w0⟩ := DataW.trod_int Tryz.underlying3 t0
    obtain ⟨k1, q1, _, w1⟩ := DataW.trod_int Tryz.underlying3 t1
    obtain ⟨k2, q2, _, w2⟩ := DataW.trod_int Tryz.underlying3 t2
    simp at q0 q1 q2
    subst q0 q1 q2
    obtain ⟨pp, hpp⟩ := polOf_cells t3
    obtain ⟨rv, e, hd, hrs⟩ := id hpp
    simp at e
    obtain ⟨rfl, rfl⟩ := e
    exact ⟨(k0, k1, k2, pp), c3, rfl, w0, w1, w2, hpp⟩

end Go.Proofs.YthpllmhnpbigiacGreatDoor
end
section
/- What the program's own note.Check and note.Same say of any record. -/
set_option linter.all false
set_option maxRecDepth 100000
namespace Go.Proofs.YthpllmhnpbigiacGreatDoor
open Go.RowKit Go.Maps

theorem isCell_yes {n : Int} (h0 : 0 ≤ n) (h3 : n < 4) (w : World) : Calls Tryz.prog 48 #[.int .i64 n] w fun e w' => e = .returned (.bool true) ∧ w' = w := by
  go_enter Tryz.func48, Tryz.ntmps48
  go_wp2
  go_ret
  exact ⟨by simp [h0, h3], rfl⟩
theorem isCell_no {n : Int} (h : n < 0 ∨ 3 < n) (w : World) : Calls Tryz.prog 48 #[.int .i64 n] w fun e w' => e = .returned (.bool false) ∧ w' = w := by
  by_cases h0 : 0 ≤ n
  · have h3 : ¬ n < 4 := by omega
    clear h
    go_enter Tryz.func48, Tryz.ntmps48
    go_wp2
    go_ret
    exact ⟨by simp [h3], rfl⟩
  · clear h
    go_enter Tryz.func48, Tryz.ntmps48
    go_wp2
    go_ret
    exact ⟨by simp [h0], rfl⟩
theorem tells_any {k : Int} (hk : k = 1 ∨ k = 2 ∨ k = 3 ∨ k = 4) (w : World) : Calls Tryz.prog 41 #[.int .i64 k] w fun e w' => e = .returned (.bool (decide (k = 1 ∨ k = 2))) ∧ w' = w := by
  rcases hk with rfl | rfl | rfl | rfl
  all_goals
    go_enter Tryz.func41, Tryz.ntmps41
    go_wp2
    go_ret
    exact ⟨by simp, rfl⟩

set_option maxHeartbeats 8000000 in
theorem checkN_any (B : Nat) (v : Value) (r : RecT) (w : World) (hr : RecAt B w v r) (hB : B ≤ w.heap.size) :
    Calls Tryz.prog 15 #[v] w fun e w' => e = .returned (.int .i64 (recErr r)) ∧ Below w.heap.size w w' := by
  obtain ⟨a, c, rfl, hp⟩ := hr.shape
  have HCP : Hid (∀ w', Below w.heap.size w w' → Calls Tryz.prog 28 #[.agg #[.slice a r.2.2.2.1.length c, .int .i64 r.2.2.2.2]] w' fun e w'' => e = .returned (.int .i64 (polErr r.2.2.2)) ∧ Below w'.heap.size w' w'') := fun w' h => check_pol B _ r.2.2.2 w' (hp.later h hB) (Nat.le_trans hB h.size)
  obtain ⟨z, hz⟩ : ∃ z, z = decide (r.2.2.2 = (([], 0) : PolT)) := ⟨_, rfl⟩
  have HSa : Hid (∀ w', Below w.heap.size w w' → Calls Tryz.prog 47 #[.agg #[.slice a r.2.2.2.1.length c, .int .i64 r.2.2.2.2], .agg #[.slice none 0 0, .int .i64 0]] w' fun e w'' => e = .returned (.bool z) ∧ Below w'.heap.size w' w'') := fun w' h => by rw [hz]; exact same_any B _ _ r.2.2.2 ([], 0) w' (hp.later h hB) (polAt_zero _ _) (Nat.le_trans hB h.size)
  have HE : Hid (recErr r = if r.1 < 1 ∨ 4 < r.1 then 4 else if (r.2.1 < 0 ∨ 3 < r.2.1) ∨ (r.2.2.1 < 0 ∨ 3 < r.2.2.1) then 3 else if (0 < r.2.2.1 ∧ r.1 ≠ 3) ∨ (¬ (r.1 = 1 ∨ r.1 = 2) ∧ ¬ (r.2.2.2.2 = 0 ∧ r.2.2.2.1 = [])) then 4 else if r.1 = 1 ∨ r.1 = 2 then polErr r.2.2.2 else 0) := rfl
  have HZ : Hid (z = true ↔ (r.2.2.2.2 = 0 ∧ r.2.2.2.1 = [])) := by
    unfold Hid
    rw [hz, decide_eq_true_iff]
    obtain ⟨k, ce, fr, rs, d⟩ := r
    constructor
    · intro h
      cases h
      exact ⟨rfl, rfl⟩
    · rintro ⟨h1, h2⟩
      show ((rs, d) : PolT) = ([], 0)
      rw [show rs = [] from h2, show d = 0 from h1]
  clear hz
  clear hr hp
  obtain ⟨k, ce, fr, rs, d⟩ := r
  simp only at *
  generalize recErr (k, ce, fr, rs, d) = E at *
  generalize polErr (rs, d) = pe at *
  have HZ' : Hid (z = true ↔ (d = 0 ∧ rs = [])) := HZ.out
  generalize hn : rs.length = n at *
  clear hn HZ
  have hb : ∀ X, Below w.heap.size w (w.alloc X) := fun X => (Below.refl _ _).alloc (Nat.le_refl _) _
  by_cases h1 : k < 1 ∨ 4 < k
  · have e : Hid (E = 4) := by unfold Hid; rw [HE.out, if_pos h1]
    clear HE HCP HSa
    rcases h1 with h1 | h1
    · go_enter Tryz.func15, Tryz.ntmps15
      go_wp2
      go_ret
      exact ⟨by rw [e.out]; rfl, hb _⟩
    · have h2 : ¬ k < 1 := by omega
      go_enter Tryz.func15, Tryz.ntmps15
      go_wp2
      go_ret
      exact ⟨by rw [e.out]; rfl, hb _⟩
  · have hk : k = 1 ∨ k = 2 ∨ k = 3 ∨ k = 4 := by omega
    have k1 : ¬ k < 1 := by omega
    have k4 : ¬ 4 < k := by omega
    have HE1 : Hid (E = if (ce < 0 ∨ 3 < ce) ∨ (fr < 0 ∨ 3 < fr) then 3 else if (0 < fr ∧ k ≠ 3) ∨ (¬ (k = 1 ∨ k = 2) ∧ ¬ (d = 0 ∧ rs = [])) then 4 else if k = 1 ∨ k = 2 then pe else 0) := by unfold Hid; rw [HE.out, if_neg h1]
    have Hk : Hid (k = 1 ∨ k = 2 ∨ k = 3 ∨ k = 4) := hk
    clear HE h1 hk
    by_cases h2 : ce < 0 ∨ 3 < ce
    · have e : Hid (E = 3) := by unfold Hid; rw [HE1.out, if_pos (.inl h2)]
      have hin2 : Hid (∀ w', Calls Tryz.prog 48 #[.int .i64 ce] w' fun e w'' => e = .returned (.bool false) ∧ w'' = w') := fun w' => isCell_no h2 w'
      clear HE1 HCP HSa h2
      go_enter Tryz.func15, Tryz.ntmps15
      go_wp2_with fail
      go_at_call 48
      refine Calls.mono (hin2.out _) ?_
      rintro e w2 ⟨rfl, rfl⟩
      go_wp2_with fail
      go_ret
      exact ⟨by rw [e.out]; rfl, hb _⟩
    · have hin2 : Hid (∀ w', Calls Tryz.prog 48 #[.int .i64 ce] w' fun e w'' => e = .returned (.bool true) ∧ w'' = w') := fun w' => isCell_yes (by omega) (by omega) w'
      by_cases h3 : fr < 0 ∨ 3 < fr
      · have e : Hid (E = 3) := by unfold Hid; rw [HE1.out, if_pos (.inr h3)]
        have hin3 : Hid (∀ w', Calls Tryz.prog 48 #[.int .i64 fr] w' fun e w'' => e = .returned (.bool false) ∧ w'' = w') := fun w' => isCell_no h3 w'
        clear HE1 HCP HSa h2 h3
        go_enter Tryz.func15, Tryz.ntmps15
        go_wp2_with fail
        go_at_call 48
        refine Calls.mono (hin2.out _) ?_
        rintro e w2 ⟨rfl, rfl⟩
        go_wp2_with fail
        go_at_call 48
        refine Calls.mono (hin3.out _) ?_
        rintro e w2 ⟨rfl, rfl⟩
        go_wp2_with fail
        go_ret
        exact ⟨by rw [e.out]; rfl, hb _⟩
      · have hin3 : Hid (∀ w', Calls Tryz.prog 48 #[.int .i64 fr] w' fun e w'' => e = .returned (.bool true) ∧ w'' = w') := fun w' => isCell_yes (by omega) (by omega) w'
        have HE2 : Hid (E = if (0 < fr ∧ k ≠ 3) ∨ (¬ (k = 1 ∨ k = 2) ∧ ¬ (d = 0 ∧ rs = [])) then 4 else if k = 1 ∨ k = 2 then pe else 0) := by unfold Hid; rw [HE1.out, if_neg (by omega)]
        have hf0 : 0 ≤ fr := by omega
        clear HE1 h2 h3
        by_cases hfz : fr = 0
        · have HTe : Hid (∀ w', Calls Tryz.prog 41 #[.int .i64 k] w' fun e w'' => e = .returned (.bool (decide (k = 1 ∨ k = 2))) ∧ w'' = w') := fun w' => tells_any Hk.out w'
          by_cases hp : k = 1 ∨ k = 2
          · have e : Hid (E = pe) := by unfold Hid; rw [HE2.out, if_neg (by rintro (h | ⟨h, -⟩); (exact absurd h.1 (by omega)); (exact h hp)), if_pos hp]
            rw [decide_eq_true hp] at HTe
            have hk3 : (k != 3) = true := by simp; omega
            subst hfz
            clear HE2 HSa hp
            go_enter Tryz.func15, Tryz.ntmps15
            go_wp2_with fail
            go_at_call 48
            refine Calls.mono (hin2.out _) ?_
            rintro e w2 ⟨rfl, rfl⟩
            go_wp2_with fail
            go_at_call 48
            refine Calls.mono (hin3.out _) ?_
            rintro e w2 ⟨rfl, rfl⟩
            go_wp2_with fail
            go_at_call 41
            refine Calls.mono (HTe.out _) ?_
            rintro e w2 ⟨rfl, rfl⟩
            go_wp2_with fail
            go_at_call 28
            refine Calls.mono (HCP.out _ (hb _)) ?_
            rintro e2 w2 ⟨rfl, hb2⟩
            go_wp2_with fail
            go_ret
            exact ⟨by rw [e.out]; rfl, Below.thenOf (hb _) hb2 (by simp)⟩
          · rw [decide_eq_false hp] at HTe
            have hk34 : k = 3 ∨ k = 4 := by have := Hk.out; omega
            have e : Hid (E = if z = true then 0 else 4) := by
              unfold Hid
              rw [HE2.out]
              by_cases hz : z = true
              · rw [if_pos hz, if_neg (by rintro (h | ⟨-, h⟩); (exact absurd h.1 (by omega)); (exact h (HZ'.out.1 hz))), if_neg hp]
              · rw [if_neg hz, if_pos (.inr ⟨hp, fun h => hz (HZ'.out.2 h)⟩)]
            subst hfz
            clear HE2 HCP hp HZ'
            rcases hk34 with rfl | rfl
            all_goals
              go_enter Tryz.func15, Tryz.ntmps15
              go_wp2_with fail
              go_at_call 48
              refine Calls.mono (hin2.out _) ?_
              rintro e w2 ⟨rfl, rfl⟩
              go_wp2_with fail
              go_at_call 48
              refine Calls.mono (hin3.out _) ?_
              rintro e w2 ⟨rfl, rfl⟩
              go_wp2_with fail
              go_at_call 41
              refine Calls.mono (HTe.out _) ?_
              rintro e w2 ⟨rfl, rfl⟩
              go_wp2_with fail
              go_at_call 47
              refine Calls.mono (HSa.out _ (hb _)) ?_
              rintro e2 w2 ⟨rfl, hb2⟩
              cases z
              all_goals
                go_wp2_with fail
                go_ret
                exact ⟨by rw [e.out]; rfl, Below.thenOf (hb _) hb2 (by simp)⟩
        · have hfn : (fr != 0) = true := by simpa using hfz
          by_cases hk3 : k = 3
          · have HTe : Hid (∀ w', Calls Tryz.prog 41 #[.int .i64 3] w' fun e w'' => e = .returned (.bool false) ∧ w'' = w') := fun w' => tells_any (k := 3) (by decide) w'
            have e : Hid (E = if z = true then 0 else 4) := by
              unfold Hid
              rw [HE2.out]
              by_cases hz : z = true
              · rw [if_pos hz, if_neg (by rintro (h | ⟨-, h⟩); (exact h.2 hk3); (exact h (HZ'.out.1 hz))), if_neg (by omega)]
              · rw [if_neg hz, if_pos (.inr ⟨by omega, fun h => hz (HZ'.out.2 h)⟩)]
            subst hk3
            clear HE2 HCP HZ' Hk k1 k4
            go_enter Tryz.func15, Tryz.ntmps15
            go_wp2_with fail
            go_at_call 48
            refine Calls.mono (hin2.out _) ?_
            rintro e w2 ⟨rfl, rfl⟩
            go_wp2_with fail
            go_at_call 48
            refine Calls.mono (hin3.out _) ?_
            rintro e w2 ⟨rfl, rfl⟩
            go_wp2_with fail
            go_at_call 41
            refine Calls.mono (HTe.out _) ?_
            rintro e w2 ⟨rfl, rfl⟩
            go_wp2_with fail
            go_at_call 47
            refine Calls.mono (HSa.out _ (hb _)) ?_
            rintro e2 w2 ⟨rfl, hb2⟩
            cases z
            all_goals
              go_wp2_with fail
              go_ret
              exact ⟨by rw [e.out]; rfl, Below.thenOf (hb _) hb2 (by simp)⟩
          · have hk3' : (k != 3) = true := by simpa using hk3
            have e : Hid (E = 4) := by unfold Hid; rw [HE2.out, if_pos (.inl ⟨by omega, hk3⟩)]
            clear HE2 HCP HZ' HSa
            go_enter Tryz.func15, Tryz.ntmps15
            go_wp2_with fail
            go_at_call 48
            refine Calls.mono (hin2.out _) ?_
            rintro e w2 ⟨rfl, rfl⟩
            go_wp2_with fail
            go_at_call 48
            refine Calls.mono (hin3.out _) ?_
            rintro e w2 ⟨rfl, rfl⟩
            go_wp2_with fail
            go_ret
            exact ⟨by rw [e.out]; rfl, hb _⟩

set_option maxHeartbeats 4000000 in
theorem sameN_any (B : Nat) (v u : Value) (r q : RecT) (w : World) (hr : RecAt B w v r) (hq : RecAt B w u q) (hB : B ≤ w.heap.size) :
    Calls Tryz.prog 16 #[v, u] w fun e w' => e = .returned (.bool (decide (r = q))) ∧ Below w.heap.size w w' := by
  obtain ⟨a, c, rfl, hp⟩ := hr.shape
  obtain ⟨a2, c2, rfl, hp2⟩ := hq.shape
  have HSP : Hid (∀ w', Below w.heap.size w w' → Calls Tryz.prog 47 #[.agg #[.slice a r.2.2.2.1.length c, .int .i64 r.2.2.2.2], .agg #[.slice a2 q.2.2.2.1.length c2, .int .i64 q.2.2.2.2]] w' fun e w'' => e = .returned (.bool (decide (r.2.2.2 = q.2.2.2))) ∧ Below w'.heap.size w' w'') := fun w' h => same_any B _ _ r.2.2.2 q.2.2.2 w' (hp.later h hB) (hp2.later h hB) (Nat.le_trans hB h.size)
  clear hr hq hp hp2
  obtain ⟨k, ce, fr, rs, d⟩ := r
  obtain ⟨k2, ce2, fr2, rs2, d2⟩ := q
  simp only at *
  have HD : Hid (decide ((k, ce, fr, rs, d) = ((k2, ce2, fr2, rs2, d2) : RecT)) = (decide (k = k2) && decide (ce = ce2) && decide (fr = fr2) && decide (((rs, d) : PolT) = (rs2, d2)))) := by
    unfold Hid
    simp [Bool.and_assoc]
  generalize decide (((rs, d) : PolT) = (rs2, d2)) = sp at *
  generalize decide ((k, ce, fr, rs, d) = ((k2, ce2, fr2, rs2, d2) : RecT)) = E at *
  generalize rs.length = n at *
  generalize rs2.length = n2 at *
  have hb : ∀ X Y, Below w.heap.size w ((w.alloc X).alloc Y) := fun X Y => ((Below.refl _ _).alloc (Nat.le_refl _) _).alloc (by simp) _
  by_cases h1 : k = k2
  · by_cases h2 : ce = ce2
    · by_cases h3 : fr = fr2
      · subst h1 h2 h3
        have e : Hid (E = sp) := by unfold Hid; rw [HD.out]; simp
        clear HD
        go_enter Tryz.func16, Tryz.ntmps16
        go_wp2_with (first | (go_at_call 47; go_must (refine Calls.mono (HSP.out _ (hb _ _)) ?_; rintro e2 w2 ⟨rfl, hb2⟩)))
        go_ret
        exact ⟨by rw [e.out]; simp, Below.thenOf (hb _ _) hb2 (by simp; omega)⟩
      · have e : Hid (E = false) := by unfold Hid; rw [HD.out]; simp [h3]
        have hq : (fr == fr2) = false := by simpa using h3
        subst h1 h2
        clear HD HSP
        go_enter Tryz.func16, Tryz.ntmps16
        go_wp2
        go_ret
        exact ⟨by rw [e.out]; simp [h3], hb _ _⟩
    · have e : Hid (E = false) := by unfold Hid; rw [HD.out]; simp [h2]
      have hq : (ce == ce2) = false := by simpa using h2
      subst h1
      clear HD HSP
      go_enter Tryz.func16, Tryz.ntmps16
      go_wp2
      go_ret
      exact ⟨by rw [e.out]; simp [h2], hb _ _⟩
  · have e : Hid (E = false) := by unfold Hid; rw [HD.out]; simp [h1]
    have hq : (k == k2) = false := by simpa using h1
    clear HD HSP
    go_enter Tryz.func16, Tryz.ntmps16
    go_wp2
    go_ret
    exact ⟨by rw [e.out]; simp [h1], hb _ _⟩

end Go.Proofs.YthpllmhnpbigiacGreatDoor
end
section
/- Texts of policies: plain data. -/
set_option linter.all false
namespace Go.Proofs.YthpllmhnpbigiacGreatDoor
open Go.RowKit Go.Maps

abbrev Bs := List UInt8
/-- What stands between the signs c. -/
def splitL (c : UInt8) : Bs → List Bs
  | [] => [[]]
  | b :: l => if b = c then [] :: splitL c l else match splitL c l with
    | [] => [[b]]
    | h :: t => (b :: h) :: t
theorem splitL_ne (c : UInt8) : ∀ l, splitL c l ≠ []
  | [] => by simp [splitL]
  | b :: l => by
    unfold splitL
    split
    · simp
    · split <;> simp
theorem split_splitL (c : UInt8) : ∀ l : Bs, Lib.split l [c] = splitL c l
  | [] => by simp [Lib.split, Lib.count_one, splitL, Lib.splitK]
  | b :: l => by
    have ih := split_splitL c l
    unfold Lib.split at ih ⊢
    by_cases h : b = c
    · subst h
      rw [Lib.count_cons_eq, Nat.add_comm, Lib.splitK]
      have hix : Lib.index (b :: l) [b] = 0 := by rw [Lib.index]; simp [List.isPrefixOf]
      rw [hix]
      simp [ih, splitL]
    · rw [Lib.count_cons_ne b c l h]
      have hp : ([c] : Bs).isPrefixOf (b :: l) = false := by simp [List.isPrefixOf, Ne.symm h]
      have hix : Lib.index (b :: l) [c] = if Lib.index l [c] == -1 then -1 else Lib.index l [c] + 1 := by rw [Lib.index, hp]; simp
      rw [splitL, if_neg h, ← ih]
      by_cases hm : Lib.index l [c] = -1
      · rw [Lib.count_miss hm]
        simp [Lib.splitK]
      · have hge := Lib.index_ge l [c]
        obtain ⟨j, hj⟩ : ∃ j : Nat, Lib.index l [c] = j := ⟨(Lib.index l [c]).toNat, by omega⟩
        have hix' : Lib.index (b :: l) [c] = ((j + 1 : Nat) : Int) := by rw [hix, if_neg (fun e => hm (beq_iff_eq.1 e)), hj]; omega
        rw [Lib.count_hit (by simp) hj, Nat.add_comm, Lib.splitK, Lib.splitK, hix', hj]
        have e1 : (((j + 1 : Nat) : Int) == -1) = false := beq_eq_false_iff_ne.2 (by omega)
        have e2 : (((j : Nat) : Int) == -1) = false := beq_eq_false_iff_ne.2 (by omega)
        rw [e1, e2]
        simp

def idxL : List Bs → Bs → Int
  | [], _ => -1
  | n :: r, x => if n = x then 0 else if idxL r x = -1 then -1 else idxL r x + 1
theorem idxL_ge : ∀ (l : List Bs) (x : Bs), -1 ≤ idxL l x
  | [], _ => by simp [idxL]
  | n :: r, x => by
    have := idxL_ge r x
    unfold idxL
    split
    · omega
    · split <;> omega
theorem idxL_lt : ∀ (l : List Bs) (x : Bs), idxL l x < l.length
  | [], _ => by simp [idxL]
  | n :: r, x => by
    have := idxL_lt r x
    unfold idxL
    rw [List.length_cons]
    split
    · omega
    · split <;> omega

def vN : List Bs := [[107, 105, 108, 108], [116, 114, 97, 112], [102, 97, 105, 108], [108, 111, 103], [97, 108, 108, 111, 119]]
def fN : List Bs := [[110, 114], [107, 105, 110, 100], [97], [98], [99]]
def opC : Bs := [61, 33, 60, 62]
def numOf (w : Bs) : Option Int := match Lib.atoiAll w with
  | .ok v => if Lib.itoa v = w then some v else none
  | _ => none
def condOf (w : Bs) : Option CondT :=
  if Lib.indexAny w opC < 0 then none else
    match numOf (w.drop ((Lib.indexAny w opC).toNat + 1)) with
    | none => none
    | some n => if idxL fN (w.take (Lib.indexAny w opC).toNat) < 0 then none else some (idxL fN (w.take (Lib.indexAny w opC).toNat), 1 + Lib.indexByte opC (w.getD (Lib.indexAny w opC).toNat 0), n)
def allOf {α : Type} (f : Bs → Option α) : List Bs → Option (List α)
  | [] => some []
  | w :: r => match f w, allOf f r with
    | some a, some l => some (a :: l)
    | _, _ => none
def ruleOf (w : Bs) : Option RuleT := match splitL 32 w with
  | [] => none
  | h :: t => if idxL vN h < 0 then none else match allOf condOf t with
    | none => none
    | some cs => some (cs, idxL vN h)
def polOf (s : Bs) : Option PolT := match allOf ruleOf (splitL 59 s).dropLast with
  | none => none
  | some rs => if idxL vN ((splitL 59 s).getLast (splitL_ne 59 s)) < 0 then none else some (rs, idxL vN ((splitL 59 s).getLast (splitL_ne 59 s)))
/-- What Parse answers: the policy (nothing where it is refused), the error. -/
def parseR (s : Bs) : PolT × Int := if 60000 < s.length then (([], 0), 2) else match polOf s with
  | none => (([], 0), 1)
  | some p => if polErr p = 0 then (p, 0) else (([], 0), polErr p)

theorem allOf_snoc {α : Type} (f : Bs → Option α) : ∀ (l : List Bs) (w : Bs), allOf f (l ++ [w]) = match allOf f l, f w with
    | some r, some a => some (r ++ [a])
    | _, _ => none
  | [], w => by
    simp only [List.nil_append, allOf]
    cases f w <;> rfl
  | x :: r, w => by
    rw [List.cons_append, allOf, allOf_snoc f r w, allOf]
    cases f x <;> cases allOf f r <;> cases f w <;> rfl
theorem allOf_length {α : Type} (f : Bs → Option α) : ∀ (l : List Bs) (r : List α), allOf f l = some r → r.length = l.length
  | [], r, h => by simp [allOf] at h; subst h; rfl
  | x :: l, r, h => by
    rw [allOf] at h
    cases h1 : f x <;> cases h2 : allOf f l <;> rw [h1, h2] at h <;> simp at h
    subst h
    simp [allOf_length f l _ h2]
theorem allOf_take {α : Type} (f : Bs → Option α) (l : List Bs) (k : Nat) (w : Bs) (h : l[k]? = some w) (r : List α) (hr : allOf f (l.take k) = some r) (a : α) (ha : f w = some a) : allOf f (l.take (k + 1)) = some (r ++ [a]) := by
  rw [List.take_add_one, h]
  simp only [Option.toList]
  rw [allOf_snoc, hr, ha]
theorem allOf_none {α : Type} (f : Bs → Option α) : ∀ (l : List Bs) (k : Nat) (w : Bs), l[k]? = some w → f w = none → allOf f l = none
  | [], _, _, h, _ => by simp at h
  | x :: r, 0, w, h, hw => by
    simp at h
    subst h
    rw [allOf, hw]
  | x :: r, k + 1, w, h, hw => by
    rw [allOf, allOf_none f r k w (by simpa using h) hw]
    cases f x <;> rfl

end Go.Proofs.YthpllmhnpbigiacGreatDoor
end
section
/- What is printed: plain data. -/
set_option linter.all false
namespace Go.Proofs.YthpllmhnpbigiacGreatDoor
open Go.RowKit Go.Maps

def vName (v : Int) : Bs := vN.getD v.toNat []
def fName (f : Int) : Bs := fN.getD f.toNat []
def opSign (o : Int) : UInt8 := opC.getD (o - 1).toNat 0
def condText (c : CondT) : Bs := 32 :: (fName c.1 ++ (opSign c.2.1 :: Lib.itoa c.2.2))
def ruleText (r : RuleT) : Bs := vName r.2 ++ r.1.flatMap condText ++ [59]
def polText (p : PolT) : Bs := p.1.flatMap ruleText ++ vName p.2

theorem decDigits_len : ∀ u : Nat, (Lib.decDigits u).length ≤ u + 1 := by
  intro u
  induction u using Nat.strongRecOn with
  | _ u ih =>
    rw [Lib.decDigits]
    split
    · simp
    · rename_i h
      have := ih (u / 10) (by omega)
      simp
      omega
theorem vName_len (v : Int) : (vName v).length ≤ 5 := by
  unfold vName
  generalize v.toNat = k
  match k with
  | 0 => decide
  | 1 => decide
  | 2 => decide
  | 3 => decide
  | 4 => decide
  | k + 5 => simp [vN]
theorem fName_len (v : Int) : (fName v).length ≤ 4 := by
  unfold fName
  generalize v.toNat = k
  match k with
  | 0 => decide
  | 1 => decide
  | 2 => decide
  | 3 => decide
  | 4 => decide
  | k + 5 => simp [fN]
theorem condErr_num {c : CondT} (h : condErr c = 0) : (0 ≤ c.1 ∧ c.1 < 5) ∧ (1 ≤ c.2.1 ∧ c.2.1 ≤ 4) ∧ (0 ≤ c.2.2 ∧ c.2.2 ≤ 65535) := by
  unfold condErr at h
  split at h
  · cases h
  · split at h
    · cases h
    · split at h
      · cases h
      · have := most_le c.1
        omega
theorem condText_len {c : CondT} (h : condErr c = 0) : (condText c).length ≤ 70000 := by
  obtain ⟨_, _, h3⟩ := condErr_num h
  have h1 := fName_len c.1
  have h2 : (Lib.itoa c.2.2).length ≤ 65536 := by
    unfold Lib.itoa
    rw [if_neg (by omega)]
    have := decDigits_len c.2.2.toNat
    omega
  unfold condText
  simp
  omega
theorem condsText_len : ∀ (cs : List CondT), (∀ c ∈ cs, condErr c = 0) → (cs.flatMap condText).length ≤ cs.length * 70000
  | [], _ => by simp
  | c :: r, h => by
    have := condsText_len r fun d hd => h d (by simp [hd])
    have := condText_len (h c (by simp))
    simp only [List.flatMap_cons, List.length_append, List.length_cons]
    omega
theorem condsErr_each : ∀ (cs : List CondT), condsErr cs = 0 → ∀ c ∈ cs, condErr c = 0
  | [], _, c, h => by cases h
  | d :: r, h, c, hc => by
    unfold condsErr at h
    by_cases h0 : condErr d = 0
    · rw [if_pos h0] at h
      rcases List.mem_cons.1 hc with rfl | hc
      · exact h0
      · exact condsErr_each r h c hc
    · rw [if_neg h0] at h
      exact absurd h h0
theorem ruleErr_all {r : RuleT} (h : ruleErr r = 0) : r.1.length ≤ 10 ∧ (0 ≤ r.2 ∧ r.2 ≤ 4) ∧ ∀ c ∈ r.1, condErr c = 0 := by
  unfold ruleErr at h
  split at h
  · cases h
  · split at h
    · rename_i hv
      unfold verdictOk at hv
      simp at hv
      exact ⟨by omega, hv, condsErr_each _ h⟩
    · cases h
theorem rulesErr_each : ∀ (rs : List RuleT), rulesErr rs = 0 → ∀ r ∈ rs, ruleErr r = 0
  | [], _, c, h => by cases h
  | d :: r, h, c, hc => by
    unfold rulesErr at h
    by_cases h0 : ruleErr d = 0
    · rw [if_pos h0] at h
      rcases List.mem_cons.1 hc with rfl | hc
      · exact h0
      · exact rulesErr_each r h c hc
    · rw [if_neg h0] at h
      exact absurd h h0
theorem polErr_all {p : PolT} (h : polErr p = 0) : p.1.length ≤ 120 ∧ (0 ≤ p.2 ∧ p.2 ≤ 4) ∧ ∀ r ∈ p.1, ruleErr r = 0 := by
  unfold polErr at h
  split at h
  · cases h
  · split at h
    · rename_i hv
      unfold verdictOk at hv
      simp at hv
      exact ⟨by omega, hv, rulesErr_each _ h⟩
    · cases h
theorem ruleText_len {r : RuleT} (h : ruleErr r = 0) : (ruleText r).length ≤ 800000 := by
  obtain ⟨h1, _, h3⟩ := ruleErr_all h
  have := condsText_len r.1 h3
  have := vName_len r.2
  unfold ruleText
  simp only [List.length_append, List.length_cons, List.length_nil]
  omega
theorem rulesText_len : ∀ (rs : List RuleT), (∀ r ∈ rs, ruleErr r = 0) → (rs.flatMap ruleText).length ≤ rs.length * 800000
  | [], _ => by simp
  | c :: r, h => by
    have := rulesText_len r fun d hd => h d (by simp [hd])
    have := ruleText_len (h c (by simp))
    simp only [List.flatMap_cons, List.length_append, List.length_cons]
    omega

end Go.Proofs.YthpllmhnpbigiacGreatDoor
end
