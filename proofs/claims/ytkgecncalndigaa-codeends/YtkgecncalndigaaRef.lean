/- What the counterpart says of filters: the same. -/
import Derived.Test.YtkgecncalndigaaCod2
set_option linter.all false
set_option maxRecDepth 100000
namespace Go.Proofs.Ytkgecncalndigaa
open Go.RowKit Go.Maps

theorem in_true {n a b : Int} (h : a ≤ n ∧ n ≤ b) (w : World) : Calls Try.prog 19 #[.int .i64 n, .int .i64 a, .int .i64 b] w fun e w' => e = .returned (.bool true) ∧ w' = w := by
  have := in_any n a b w
  rw [show (decide (a ≤ n) && decide (n ≤ b)) = true by simp; exact h] at this
  exact this
theorem in_false {n a b : Int} (h : ¬ (a ≤ n ∧ n ≤ b)) (w : World) : Calls Try.prog 19 #[.int .i64 n, .int .i64 a, .int .i64 b] w fun e w' => e = .returned (.bool false) ∧ w' = w := by
  have := in_any n a b w
  rw [show (decide (a ≤ n) && decide (n ≤ b)) = false by simp; omega] at this
  exact this

set_option maxHeartbeats 4000000 in
theorem checkCode_any (B : Nat) (cv : Value) (l : List InsT) (w : World) (hc : InssAt B w cv l) (hB : B ≤ w.heap.size) :
    Calls Try.prog 13 #[cv] w fun e w' => e = .returned (.int .i64 (codeErr l)) ∧ Below w.heap.size w w' := by
  obtain ⟨a, cap, rfl, hlc, hcm, hcs⟩ := hc
  have hcs' : Hid (∀ (i : Nat) (c : InsT), l[i]? = some c → ∃ b o, a = some ⟨b, o, none⟩ ∧ b < B ∧ InsAt w b (o + i * 4) c) := hcs
  clear hcs
  have HR : Hid ((l.length < 1 ∨ 1500 < l.length) → codeErr l = 2) := by intro h; rw [codeErr, if_pos h]
  have HN : Hid (¬ (l.length < 1 ∨ 1500 < l.length) → codeErr l = if inssErr l = 0 then (if lastKind l = 4 then 0 else 4) else inssErr l) := by intro h; rw [codeErr, if_neg h]
  have HL : Hid (∀ c, l[l.length - 1]? = some c → lastKind l = c.1) := lastKind_at l
  have HS : Hid (∀ (k : Nat) (c : InsT), l[k]? = some c → inssErr (l.drop k) = if insErr c ((l.length : Int) - 1 - k) = 0 then inssErr (l.drop (k + 1)) else insErr c ((l.length : Int) - 1 - k)) := inssErr_drop l
  generalize hn : l.length = n at *
  have hml := maxLen_eq
  by_cases h0 : n < 1 ∨ 1500 < n
  · have HE : Hid (codeErr l = 2) := HR.out h0
    have hin : Hid (¬ ((1 : Int) ≤ (n : Int) ∧ (n : Int) ≤ 1500)) := by unfold Hid; omega
    clear h0
    go_enter Try.func13, Try.ntmps13
    go_wp2_with (first | (go_at_call 19; go_must (refine (in_false hin.out _).mono ?_; rintro e w' ⟨rfl, rfl⟩)))
    go_ret
    exact ⟨by rw [HE.out]; rfl, Below.refl _ _⟩
  · have HE : Hid (codeErr l = if inssErr l = 0 then (if lastKind l = 4 then 0 else 4) else inssErr l) := HN.out h0
    have hin : Hid ((1 : Int) ≤ (n : Int) ∧ (n : Int) ≤ 1500) := by unfold Hid; omega
    have i3 : IntKind.i64.wrap ((n : Int) - 1) = (n : Int) - 1 := IntWalk.i64_in _ (by omega)
    have hn1 : 1 ≤ n ∧ n ≤ 1500 := by omega
    clear h0 HR HN
    go_enter Try.func13, Try.ntmps13
    go_wp2_with (first | (go_at_call 19; go_must (refine (in_true hin.out _).mono ?_; rintro e w' ⟨rfl, rfl⟩)))
    obtain ⟨w, hw⟩ : ∃ x, x = w' := ⟨_, rfl⟩
    subst hw
    go_loopw [14] (fun i wr => ∃ k : Nat, k ≤ n ∧ i = .int .i64 k ∧ Hid (inssErr l = inssErr (l.drop k)) ∧ Below w.heap.size w wr) (fun i _ => n - (intOf i).toNat)
    case atStart => exact ⟨0, by omega, rfl, rfl, Below.refl _ _⟩
    case round =>
      obtain ⟨k, hk, rfl, H, hbr⟩ := hrel
      have i0 : (0 : Int) ≤ (k : Int) := by omega
      by_cases hlt : k < n
      · have i4 : (k : Int) < (n : Int) := by omega
        have i5 : IntKind.i64.wrap ((n : Int) - 1 - k) = (n : Int) - 1 - k := IntWalk.i64_in _ (by omega)
        obtain ⟨c, hck⟩ : ∃ c, l[k]? = some c := ⟨l[k]'(by omega), by simp⟩
        obtain ⟨b, o, rfl, hbB, hat⟩ := hcs'.out k c hck
        have S : Hid (inssErr (l.drop k) = if insErr c ((n : Int) - 1 - k) = 0 then inssErr (l.drop (k + 1)) else insErr c ((n : Int) - 1 - k)) := HS.out k c hck
        have bad : Hid (∀ e : Int, insErr c ((n : Int) - 1 - k) = e → e ≠ 0 → codeErr l = e) := by
          intro e h1 h2
          have hI : inssErr l = e := by rw [H.out, S.out, h1, if_neg h2]
          rw [HE.out, hI, if_neg h2]
        have good : Hid (insErr c ((n : Int) - 1 - k) = 0 → inssErr l = inssErr (l.drop (k + 1))) := by
          intro h1
          rw [H.out, S.out, if_pos h1]
        obtain ⟨kd, ca, cb, cc⟩ := c
        obtain ⟨c0, c1, c2, c3, _⟩ := hat.later hbr (by omega)
        simp only [] at c0 c1 c2 c3
        have hsz := hbr.size
        have hb1 : ∀ X, Below w.heap.size w (wr.alloc X) := fun X => hbr.alloc hsz X
        have hb2 : ∀ X Y, Below w.heap.size w ((wr.alloc X).alloc Y) := fun X Y => (hb1 X).alloc (by simp; omega) Y
        clear H S HE
        by_cases s1 : kd = 1 ∨ kd = 4
        · have HI : Hid (insErr (kd, ca, cb, cc) ((n : Int) - 1 - k) = stepErr ca cb cc 4) := insErr_step1 _ _ _ _ _ s1
          by_cases e1 : cb ≠ 0 ∨ cc ≠ 0
          · have HF : Hid (codeErr l = 4) := bad.out 4 (by rw [HI.out, stepErr, if_pos e1]) (by omega)
            clear bad good HI
            by_cases hq : cb = 0
            · have hq2 : (cc != 0) = true := by simp; omega
              subst hq
              clear e1
              rcases s1 with rfl | rfl
              all_goals
                go_wp2
                go_ret
                exact ⟨by rw [HF.out]; rfl, hb1 _⟩
            · have hq1 : (cb != 0) = true := by simpa using hq
              clear e1 hq
              rcases s1 with rfl | rfl
              all_goals
                go_wp2
                go_ret
                exact ⟨by rw [HF.out]; rfl, hb1 _⟩
          · obtain ⟨rfl, rfl⟩ : cb = 0 ∧ cc = 0 := by omega
            by_cases e2 : ca < 0 ∨ 4 < ca
            · have HF : Hid (codeErr l = 3) := bad.out 3 (by rw [HI.out, stepErr, if_neg e1, if_pos e2]) (by omega)
              have hin2 : Hid (¬ ((0 : Int) ≤ ca ∧ ca ≤ 4)) := by unfold Hid; omega
              clear bad good HI e1 e2
              rcases s1 with rfl | rfl
              all_goals
                go_wp2_with (first | (go_at_call 19; go_must (refine (in_false hin2.out _).mono ?_; rintro e w' ⟨rfl, rfl⟩)))
                go_ret
                exact ⟨by rw [HF.out]; rfl, hb1 _⟩
            · have HF : Hid (inssErr l = inssErr (l.drop (k + 1))) := good.out (by rw [HI.out, stepErr, if_neg e1, if_neg e2])
              have hin2 : Hid ((0 : Int) ≤ ca ∧ ca ≤ 4) := by unfold Hid; omega
              clear bad good HI e1 e2
              rcases s1 with rfl | rfl
              all_goals
                go_wp2_with (first | (go_at_call 19; go_must (refine (in_true hin2.out _).mono ?_; rintro e w' ⟨rfl, rfl⟩)))
                exact ⟨⟨k + 1, by omega, by go_num, HF, hb1 _⟩, by simp [intOf]; omega⟩
        · by_cases s2 : kd = 2 ∨ kd = 3
          · have HI : Hid (insErr (kd, ca, cb, cc) ((n : Int) - 1 - k) = jumpErr ca cb cc ((n : Int) - 1 - k)) := insErr_jump _ _ _ _ _ s2
            clear s1
            by_cases e2 : ca < 0 ∨ 65535 < ca
            · have HF : Hid (codeErr l = 3) := bad.out 3 (by rw [HI.out, jumpErr, if_pos e2]) (by omega)
              have hin2 : Hid (¬ ((0 : Int) ≤ ca ∧ ca ≤ 65535)) := by unfold Hid; omega
              clear bad good HI e2
              rcases s2 with rfl | rfl
              all_goals
                go_wp2_with (first | (go_at_call 19; go_must (refine (in_false hin2.out _).mono ?_; rintro e w' ⟨rfl, rfl⟩)))
                go_ret
                exact ⟨by rw [HF.out]; rfl, hb1 _⟩
            · have hin2 : Hid ((0 : Int) ≤ ca ∧ ca ≤ 65535) := by unfold Hid; omega
              have HB : Hid ((cb < 0 ∨ (n : Int) - 1 - k ≤ cb ∨ cc < 0 ∨ (n : Int) - 1 - k ≤ cc) → codeErr l = 5) := fun h => bad.out 5 (by rw [HI.out, jumpErr, if_neg e2, if_pos h]) (by omega)
              have HF : Hid (¬ (cb < 0 ∨ (n : Int) - 1 - k ≤ cb ∨ cc < 0 ∨ (n : Int) - 1 - k ≤ cc) → inssErr l = inssErr (l.drop (k + 1))) := fun h => good.out (by rw [HI.out, jumpErr, if_neg e2, if_neg h])
              clear bad good HI e2
              rcases s2 with rfl | rfl
              all_goals
                go_wp2_with (first | (go_at_call 19; go_must (refine (in_true hin2.out _).mono ?_; rintro e w' ⟨rfl, rfl⟩)))
                go_loop [54] (fun i => ∃ j : Nat, j ≤ 2 ∧ i = .int .i64 j ∧ (0 < j → ¬ (cb < 0 ∨ (n : Int) - 1 - k ≤ cb)) ∧ (1 < j → ¬ (cc < 0 ∨ (n : Int) - 1 - k ≤ cc))) (fun i => 2 - (intOf i).toNat)
                case atStart => exact ⟨0, by omega, rfl, by omega, by omega⟩
                case round =>
                  obtain ⟨j, hj, rfl, g1, g2⟩ := hrel
                  have hj' : j = 0 ∨ j = 1 ∨ j = 2 := by omega
                  rcases hj' with rfl | rfl | rfl
                  · clear g1 g2
                    by_cases q : cb < 0 ∨ (n : Int) - 1 - k ≤ cb
                    · have HK : Hid (codeErr l = 5) := HB.out (by omega)
                      go_wp2
                      all_goals
                        go_ret
                        exact ⟨by rw [HK.out]; rfl, hb2 _ _⟩
                    · go_wp2
                      all_goals exact ⟨⟨1, by omega, rfl, fun _ => q, by omega⟩, by simp [intOf]⟩
                  · have g1' := g1 (by omega)
                    have G1 : Hid (¬ (cb < 0 ∨ (n : Int) - 1 - k ≤ cb)) := g1'
                    clear g1 g2 g1'
                    by_cases q : cc < 0 ∨ (n : Int) - 1 - k ≤ cc
                    · have HK : Hid (codeErr l = 5) := HB.out (by omega)
                      go_wp2
                      all_goals
                        go_ret
                        exact ⟨by rw [HK.out]; rfl, hb2 _ _⟩
                    · go_wp2
                      all_goals exact ⟨⟨2, by omega, rfl, fun _ => G1.out, fun _ => q⟩, by simp [intOf]⟩
                  · have HK : Hid (inssErr l = inssErr (l.drop (k + 1))) := HF.out (by have := g1 (by omega); have := g2 (by omega); omega)
                    clear g1 g2
                    go_wp2
                    exact ⟨⟨k + 1, by omega, by go_num, HK, hb2 _ _⟩, by simp [intOf]; omega⟩
          · have HF : Hid (codeErr l = 4) := bad.out 4 (by unfold insErr; rw [if_neg s1, if_neg s2]) (by omega)
            have k1 : (kd == 1) = false := by simp; omega
            have k2 : (kd == 2) = false := by simp; omega
            have k3 : (kd == 3) = false := by simp; omega
            have k4 : (kd == 4) = false := by simp; omega
            clear bad good s1 s2
            go_wp2
            go_ret
            exact ⟨by rw [HF.out]; rfl, hb1 _⟩
      · have hI : Hid (inssErr l = 0) := by unfold Hid; rw [H.out, List.drop_eq_nil_of_le (by omega)]; rfl
        obtain ⟨c, hck⟩ : ∃ c, l[n - 1]? = some c := ⟨l[n - 1]'(by omega), by simp⟩
        obtain ⟨b, o, rfl, hbB, hat⟩ := hcs'.out (n - 1) c hck
        have hlk : Hid (lastKind l = c.1) := HL.out c hck
        obtain ⟨c0, _⟩ := hat.later hbr (by omega)
        obtain ⟨q, rfl⟩ : ∃ q : Nat, n = q + 1 := ⟨n - 1, by omega⟩
        simp only [Nat.add_sub_cancel] at c0
        have e0 : (((q + 1 : Nat) : Int) - 1) = (q : Int) := by omega
        by_cases h4 : c.1 = 4
        · have h4' : (c.1 != 4) = false := by simpa using h4
          have HF : Hid (codeErr l = 0) := by unfold Hid; rw [HE.out, if_pos hI.out, hlk.out, if_pos h4]
          generalize c.1 = c1 at *
          clear h4 HE
          go_wp2
          go_ret
          exact ⟨by rw [HF.out]; rfl, hbr⟩
        · have h4' : (c.1 != 4) = true := by simpa using h4
          have HF : Hid (codeErr l = 4) := by unfold Hid; rw [HE.out, if_pos hI.out, hlk.out, if_neg h4]
          generalize c.1 = c1 at *
          clear h4 HE
          go_wp2
          go_ret
          exact ⟨by rw [HF.out]; rfl, hbr⟩

end Go.Proofs.Ytkgecncalndigaa
