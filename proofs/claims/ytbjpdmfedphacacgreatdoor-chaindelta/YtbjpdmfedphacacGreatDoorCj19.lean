/- What the program's own Check says of a filter. -/
import Derived.Test.YtbjpdmfedphacacGreatDoorCj17
set_option linter.all false
set_option maxRecDepth 100000
namespace Go.Proofs.YtbjpdmfedphacacGreatDoor
open Go.RowKit Go.Maps

def stepErr (a b c m : Int) : Int := if b ≠ 0 ∨ c ≠ 0 then 4 else if a < 0 ∨ m < a then 3 else 0
def jumpErr (a b c m : Int) : Int := if a < 0 ∨ 65535 < a then 3 else if b < 0 ∨ m ≤ b ∨ c < 0 ∨ m ≤ c then 5 else 0

set_option maxHeartbeats 1000000 in
theorem checkStep_any (k a b c m : Int) (w : World) :
    Calls Tryz.prog 66 #[.agg #[.int .i64 k, .int .i64 a, .int .i64 b, .int .i64 c], .int .i64 m] w fun e w' => e = .returned (.int .i64 (stepErr a b c m)) ∧ Below w.heap.size w w' := by
  have hbl : ∀ x, Below w.heap.size w (w.alloc x) := fun x => (Below.refl _ _).alloc (Nat.le_refl _) _
  by_cases h0 : b ≠ 0 ∨ c ≠ 0
  · have HE : Hid (stepErr a b c m = 4) := by unfold Hid; rw [stepErr, if_pos h0]
    by_cases hb : b = 0
    · have hc : c ≠ 0 := by omega
      have hb' : (b != 0) = false := by simpa using hb
      have hc' : (c != 0) = true := by simpa using hc
      clear h0
      go_enter Tryz.func66, Tryz.ntmps66
      go_wp2
      all_goals
        go_ret
        exact ⟨by rw [HE.out]; rfl, hbl _⟩
    · have hb' : (b != 0) = true := by simpa using hb
      clear h0
      go_enter Tryz.func66, Tryz.ntmps66
      go_wp2
      all_goals
        go_ret
        exact ⟨by rw [HE.out]; rfl, hbl _⟩
  · obtain ⟨rfl, rfl⟩ : b = 0 ∧ c = 0 := by omega
    by_cases h1 : a < 0 ∨ m < a
    · have HE : Hid (stepErr a 0 0 m = 3) := by unfold Hid; rw [stepErr, if_neg h0, if_pos h1]
      go_enter Tryz.func66, Tryz.ntmps66
      go_wp2
      all_goals
        go_ret
        exact ⟨by rw [HE.out]; rfl, hbl _⟩
    · have HE : Hid (stepErr a 0 0 m = 0) := by unfold Hid; rw [stepErr, if_neg h0, if_neg h1]
      go_enter Tryz.func66, Tryz.ntmps66
      go_wp2
      all_goals
        go_ret
        exact ⟨by rw [HE.out]; rfl, hbl _⟩

set_option maxHeartbeats 2000000 in
theorem checkJump_any (k a b c m : Int) (w : World) :
    Calls Tryz.prog 67 #[.agg #[.int .i64 k, .int .i64 a, .int .i64 b, .int .i64 c], .int .i64 m] w fun e w' => e = .returned (.int .i64 (jumpErr a b c m)) ∧ Below w.heap.size w w' := by
  have hbl : ∀ x, Below w.heap.size w (w.alloc x) := fun x => (Below.refl _ _).alloc (Nat.le_refl _) _
  by_cases h0 : a < 0 ∨ 65535 < a
  · have HE : Hid (jumpErr a b c m = 3) := by unfold Hid; rw [jumpErr, if_pos h0]
    go_enter Tryz.func67, Tryz.ntmps67
    go_wp2
    all_goals
      go_ret
      exact ⟨by rw [HE.out]; rfl, hbl _⟩
  · by_cases h1 : b < 0 ∨ m ≤ b ∨ c < 0 ∨ m ≤ c
    · have HE : Hid (jumpErr a b c m = 5) := by unfold Hid; rw [jumpErr, if_neg h0, if_pos h1]
      have a1 : ¬ a < 0 := by omega
      have a2 : ¬ 65535 < a := by omega
      clear h0
      by_cases b1 : b < 0
      · clear h1
        go_enter Tryz.func67, Tryz.ntmps67
        go_wp2
        all_goals
          go_ret
          exact ⟨by rw [HE.out]; rfl, hbl _⟩
      · by_cases b2 : m ≤ b
        · clear h1
          go_enter Tryz.func67, Tryz.ntmps67
          go_wp2
          all_goals
            go_ret
            exact ⟨by rw [HE.out]; rfl, hbl _⟩
        · by_cases c1 : c < 0
          · clear h1
            go_enter Tryz.func67, Tryz.ntmps67
            go_wp2
            all_goals
              go_ret
              exact ⟨by rw [HE.out]; rfl, hbl _⟩
          · have c2 : m ≤ c := by omega
            clear h1
            go_enter Tryz.func67, Tryz.ntmps67
            go_wp2
            all_goals
              go_ret
              exact ⟨by rw [HE.out]; rfl, hbl _⟩
    · have HE : Hid (jumpErr a b c m = 0) := by unfold Hid; rw [jumpErr, if_neg h0, if_neg h1]
      have a1 : ¬ a < 0 := by omega
      have a2 : ¬ 65535 < a := by omega
      have b1 : ¬ b < 0 := by omega
      have b2 : ¬ m ≤ b := by omega
      have c1 : ¬ c < 0 := by omega
      have c2 : ¬ m ≤ c := by omega
      clear h0 h1
      go_enter Tryz.func67, Tryz.ntmps67
      go_wp2
      all_goals
        go_ret
        exact ⟨by rw [HE.out]; rfl, hbl _⟩

theorem insErr_step1 (k a b c m : Int) (h : k = 1 ∨ k = 4) : insErr (k, a, b, c) m = stepErr a b c 4 := by
  unfold insErr
  rw [if_pos h]
  rfl
theorem insErr_jump (k a b c m : Int) (h : k = 2 ∨ k = 3) : insErr (k, a, b, c) m = jumpErr a b c m := by
  unfold insErr
  rw [if_neg (by simp only []; omega), if_pos h]
  rfl

set_option maxHeartbeats 2000000 in
theorem checkIns_any (k a b c m : Int) (w : World) :
    Calls Tryz.prog 52 #[.agg #[.int .i64 k, .int .i64 a, .int .i64 b, .int .i64 c], .int .i64 m] w fun e w' => e = .returned (.int .i64 (insErr (k, a, b, c) m)) ∧ Below w.heap.size w w' := by
  have hbl : ∀ x, Below w.heap.size w (w.alloc x) := fun x => (Below.refl _ _).alloc (Nat.le_refl _) _
  by_cases h0 : k = 1 ∨ k = 4
  · have HE : Hid (insErr (k, a, b, c) m = stepErr a b c 4) := insErr_step1 k a b c m h0
    rcases h0 with rfl | rfl
    all_goals
      go_enter Tryz.func52, Tryz.ntmps52
      go_wp2_with (first | (go_at_call 66; go_must (refine (checkStep_any _ _ _ _ _ _).mono ?_; rintro e w' ⟨rfl, hb2⟩)))
      go_ret
      exact ⟨by rw [HE.out]; rfl, Below.thenOf (hbl _) hb2 (by simp)⟩
  · by_cases h1 : k = 2 ∨ k = 3
    · have HE : Hid (insErr (k, a, b, c) m = jumpErr a b c m) := insErr_jump k a b c m h1
      clear h0
      rcases h1 with rfl | rfl
      all_goals
        go_enter Tryz.func52, Tryz.ntmps52
        go_wp2_with (first | (go_at_call 67; go_must (refine (checkJump_any _ _ _ _ _ _).mono ?_; rintro e w' ⟨rfl, hb2⟩)))
        go_ret
        exact ⟨by rw [HE.out]; rfl, Below.thenOf (hbl _) hb2 (by simp)⟩
    · have HE : Hid (insErr (k, a, b, c) m = 4) := by unfold Hid insErr; rw [if_neg h0, if_neg h1]
      have k1 : (k == 1) = false := by simp; omega
      have k2 : (k == 2) = false := by simp; omega
      have k3 : (k == 3) = false := by simp; omega
      have k4 : (k == 4) = false := by simp; omega
      clear h0 h1
      go_enter Tryz.func52, Tryz.ntmps52
      go_wp2
      go_ret
      exact ⟨by rw [HE.out]; rfl, hbl _⟩

set_option maxHeartbeats 1000000 in
theorem leftOut_any (k a b c : Int) (h : Bool) (w : World) :
    Calls Tryz.prog 73 #[.agg #[.int .i64 k, .int .i64 a, .int .i64 b, .int .i64 c], .bool h] w fun e w' => e = .returned (.int .i64 (if h = true then b else c)) ∧ Below w.heap.size w w' := by
  have hbl : ∀ x, Below w.heap.size w (w.alloc x) := fun x => (Below.refl _ _).alloc (Nat.le_refl _) _
  cases h
  all_goals
    go_enter Tryz.func73, Tryz.ntmps73
    go_wp2
    go_ret
    exact ⟨rfl, hbl _⟩

set_option maxHeartbeats 2000000 in
theorem check_code (B : Nat) (cv : Value) (l : List InsT) (w : World) (hc : InssAt B w cv l) (hB : B ≤ w.heap.size) :
    Calls Tryz.prog 36 #[cv] w fun e w' => e = .returned (.int .i64 (codeErr l)) ∧ Below w.heap.size w w' := by
  obtain ⟨a, cap, rfl, hlc, hcm, hcs⟩ := hc
  have hcs' : Hid (∀ (i : Nat) (c : InsT), l[i]? = some c → ∃ b o, a = some ⟨b, o, none⟩ ∧ b < B ∧ InsAt w b (o + i * 4) c) := hcs
  clear hcs
  have HR : Hid ((l.length < 1 ∨ 1500 < l.length) → codeErr l = 2) := by intro h; rw [codeErr, if_pos h]
  have HN : Hid (¬ (l.length < 1 ∨ 1500 < l.length) → codeErr l = if inssErr l = 0 then (if lastKind l = 4 then 0 else 4) else inssErr l) := by intro h; rw [codeErr, if_neg h]
  have HL : Hid (∀ c, l[l.length - 1]? = some c → lastKind l = c.1) := lastKind_at l
  have HS : Hid (∀ k c, l[k]? = some c → inssErr (l.drop k) = if insErr c ((l.length : Int) - 1 - k) = 0 then inssErr (l.drop (k + 1)) else insErr c ((l.length : Int) - 1 - k)) := inssErr_drop l
  generalize hn : l.length = n at *
  have hml := maxLen_eq
  by_cases h0 : n < 1 ∨ 1500 < n
  · have HE : Hid (codeErr l = 2) := HR.out h0
    by_cases h1 : n < 1
    · obtain rfl : n = 0 := by omega
      clear h0
      go_enter Tryz.func36, Tryz.ntmps36
      go_wp2
      go_ret
      exact ⟨by rw [HE.out]; rfl, Below.refl _ _⟩
    · have i1 : ¬ ((n : Int) < 1) := by omega
      have i2 : (1500 : Int) < (n : Int) := by omega
      clear h0
      go_enter Tryz.func36, Tryz.ntmps36
      go_wp2
      go_ret
      exact ⟨by rw [HE.out]; rfl, Below.refl _ _⟩
  · have HE : Hid (codeErr l = if inssErr l = 0 then (if lastKind l = 4 then 0 else 4) else inssErr l) := HN.out h0
    have i1 : ¬ ((n : Int) < 1) := by omega
    have i2 : ¬ ((1500 : Int) < (n : Int)) := by omega
    have i3 : IntKind.i64.wrap ((n : Int) - 1) = (n : Int) - 1 := IntWalk.i64_in _ (by omega)
    have hn1 : 1 ≤ n ∧ n ≤ 1500 := by omega
    clear h0 HR HN
    go_enter Tryz.func36, Tryz.ntmps36
    go_wp2
    go_loopw [20] (fun i wr => ∃ k : Nat, k ≤ n ∧ i = .int .i64 k ∧ Hid (inssErr l = inssErr (l.drop k)) ∧ Below w.heap.size w wr) (fun i _ => n - (intOf i).toNat)
    case atStart => exact ⟨0, by omega, rfl, rfl, Below.refl _ _⟩
    case round =>
      obtain ⟨k, hk, rfl, H, hbr⟩ := hrel
      have i0 : (0 : Int) ≤ (k : Int) := by omega
      by_cases hlt : k < n
      · have i4 : (k : Int) < (n : Int) := by omega
        have i5 : IntKind.i64.wrap ((n : Int) - 1 - k) = (n : Int) - 1 - k := IntWalk.i64_in _ (by omega)
        obtain ⟨c, hck⟩ : ∃ c, l[k]? = some c := ⟨l[k]'(by omega), by simp⟩
        obtain ⟨b, o, rfl, hbB, hat⟩ := hcs'.out k c hck
        have S : Hid (inssErr (l.drop k) = if insErr c ((n : Int) - 1 - k) = 0 then inssErr (l.drop (k + 1)) else insErr c ((n : Int) - 1 - k)) := HS.out k c hck
        obtain ⟨kd, ca, cb, cc⟩ := c
        obtain ⟨c0, c1, c2, c3, _⟩ := hat.later hbr (by omega)
        simp only [] at c0 c1 c2 c3
        go_wp2_with (first | (go_at_call 52; go_must (refine (checkIns_any _ _ _ _ _ _).mono ?_; rintro e w' ⟨rfl, hb2⟩)))
        all_goals have hb3 : Below w.heap.size w w' := Below.thenOf (hbr.alloc hbr.size _) hb2 (by simp; have := hbr.size; omega)
        · have hne : insErr (kd, ca, cb, cc) ((n : Int) - 1 - k) ≠ 0 := by simpa using (by assumption : (insErr (kd, ca, cb, cc) ((n : Int) - 1 - k) != 0) = true)
          have hI : inssErr l = insErr (kd, ca, cb, cc) ((n : Int) - 1 - k) := by rw [H.out, S.out, if_neg hne]
          go_ret
          exact ⟨by rw [HE.out, hI, if_neg hne]; rfl, hb3⟩
        · have he : insErr (kd, ca, cb, cc) ((n : Int) - 1 - k) = 0 := by simpa using (by assumption : (insErr (kd, ca, cb, cc) ((n : Int) - 1 - k) != 0) = false)
          exact ⟨⟨k + 1, by omega, by go_num, by unfold Hid; rw [H.out, S.out, if_pos he], hb3⟩, by simp [intOf]; omega⟩
      · have hI : Hid (inssErr l = 0) := by unfold Hid; rw [H.out, List.drop_eq_nil_of_le (by omega)]; rfl
        obtain ⟨c, hck⟩ : ∃ c, l[n - 1]? = some c := ⟨l[n - 1]'(by omega), by simp⟩
        obtain ⟨b, o, rfl, hbB, hat⟩ := hcs'.out (n - 1) c hck
        have hlk : Hid (lastKind l = c.1) := HL.out c hck
        obtain ⟨c0, _⟩ := hat.later hbr (by omega)
        obtain ⟨q, rfl⟩ : ∃ q : Nat, n = q + 1 := ⟨n - 1, by omega⟩
        simp only [Nat.add_sub_cancel] at c0
        have e0 : (((q + 1 : Nat) : Int) - 1) = (q : Int) := by omega
        by_cases h4 : c.1 = 4
        · have h4' : (c.1 != 4) = false := by simpa using h4
          have HF : Hid (codeErr l = 0) := by unfold Hid; rw [HE.out, if_pos hI.out, hlk.out, if_pos h4]
          generalize c.1 = c1 at *
          clear h4 HE
          go_wp2
          go_ret
          exact ⟨by rw [HF.out]; rfl, hbr⟩
        · have h4' : (c.1 != 4) = true := by simpa using h4
          have HF : Hid (codeErr l = 4) := by unfold Hid; rw [HE.out, if_pos hI.out, hlk.out, if_neg h4]
          generalize c.1 = c1 at *
          clear h4 HE
          go_wp2
          go_ret
          exact ⟨by rw [HF.out]; rfl, hbr⟩

end Go.Proofs.YtbjpdmfedphacacGreatDoor
