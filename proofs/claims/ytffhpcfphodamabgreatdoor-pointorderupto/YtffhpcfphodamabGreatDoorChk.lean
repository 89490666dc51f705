/- What Check and its counterpart say of any five numbers: the same. -/
import Derived.Test.YtffhpcfphodamabGreatDoorCallw
import Derived.Test.YtffhpcfphodamabGreatDoorLater
namespace Go.Proofs.YtffhpcfphodamabGreatDoor
open Go.RowKit Go.Maps

def inR (k v : Int) : Bool := decide (0 ≤ v) && decide (v ≤ most k)
def okFrom : Nat → List Int → Bool
  | _, [] => true
  | k, v :: r => inR k v && okFrom (k + 1) r
/-- What is answered: 0, or 3 (ErrRange). -/
def chk (a0 a1 a2 a3 a4 : Int) : Int := if okFrom 0 [a0, a1, a2, a3, a4] then 0 else 3

def at5 (a0 a1 a2 a3 a4 : Int) : Nat → Int
  | 0 => a0 | 1 => a1 | 2 => a2 | 3 => a3 | _ => a4
theorem okFrom_step (a0 a1 a2 a3 a4 : Int) (k : Nat) (h : k < 5) : okFrom k ([a0, a1, a2, a3, a4].drop k) = (inR k (at5 a0 a1 a2 a3 a4 k) && okFrom (k + 1) ([a0, a1, a2, a3, a4].drop (k + 1))) := by
  have : k = 0 ∨ k = 1 ∨ k = 2 ∨ k = 3 ∨ k = 4 := by omega
  rcases this with rfl | rfl | rfl | rfl | rfl <;> rfl
theorem index5_0 (a0 a1 a2 a3 a4 : Int) (w : World) : (Instr.index 29 (.agg #[.int .i64 a0, .int .i64 a1, .int .i64 a2, .int .i64 a3, .int .i64 a4]) (.int .i64 0)).run Tryz.prog w = .ok (.int .i64 a0) w := by kernel_rfl
theorem index5_1 (a0 a1 a2 a3 a4 : Int) (w : World) : (Instr.index 29 (.agg #[.int .i64 a0, .int .i64 a1, .int .i64 a2, .int .i64 a3, .int .i64 a4]) (.int .i64 1)).run Tryz.prog w = .ok (.int .i64 a1) w := by kernel_rfl
theorem index5_2 (a0 a1 a2 a3 a4 : Int) (w : World) : (Instr.index 29 (.agg #[.int .i64 a0, .int .i64 a1, .int .i64 a2, .int .i64 a3, .int .i64 a4]) (.int .i64 2)).run Tryz.prog w = .ok (.int .i64 a2) w := by kernel_rfl
theorem index5_3 (a0 a1 a2 a3 a4 : Int) (w : World) : (Instr.index 29 (.agg #[.int .i64 a0, .int .i64 a1, .int .i64 a2, .int .i64 a3, .int .i64 a4]) (.int .i64 3)).run Tryz.prog w = .ok (.int .i64 a3) w := by kernel_rfl
theorem index5_4 (a0 a1 a2 a3 a4 : Int) (w : World) : (Instr.index 29 (.agg #[.int .i64 a0, .int .i64 a1, .int .i64 a2, .int .i64 a3, .int .i64 a4]) (.int .i64 4)).run Tryz.prog w = .ok (.int .i64 a4) w := by kernel_rfl
theorem index5 (a0 a1 a2 a3 a4 : Int) (k : Nat) (h : k < 5) (w : World) : (Instr.index 29 (.agg #[.int .i64 a0, .int .i64 a1, .int .i64 a2, .int .i64 a3, .int .i64 a4]) (.int .i64 k)).run Tryz.prog w = .ok (.int .i64 (at5 a0 a1 a2 a3 a4 k)) w := by
  have : k = 0 ∨ k = 1 ∨ k = 2 ∨ k = 3 ∨ k = 4 := by omega
  rcases this with rfl | rfl | rfl | rfl | rfl
  · exact index5_0 ..
  · exact index5_1 ..
  · exact index5_2 ..
  · exact index5_3 ..
  · exact index5_4 ..

/-- The counterpart's answer in words: what is wrong at place k is wrong. -/
theorem chk_bad {a0 a1 a2 a3 a4 : Int} {k : Nat} {v : Int} {r : Bool} (H : Hid (okFrom 0 [a0, a1, a2, a3, a4] = okFrom k ([a0, a1, a2, a3, a4].drop k))) (S : Hid (okFrom k ([a0, a1, a2, a3, a4].drop k) = (inR k v && r))) (h : v < 0 ∨ most k < v) : chk a0 a1 a2 a3 a4 = 3 := by
  have : inR k v = false := by
    unfold inR
    rw [Bool.and_eq_false_iff, decide_eq_false_iff_not, decide_eq_false_iff_not]
    omega
  unfold chk
  rw [H.out, S.out, this]
  rfl
theorem chk_next {a0 a1 a2 a3 a4 : Int} {k : Nat} {v : Int} {r : Bool} (H : Hid (okFrom 0 [a0, a1, a2, a3, a4] = okFrom k ([a0, a1, a2, a3, a4].drop k))) (S : Hid (okFrom k ([a0, a1, a2, a3, a4].drop k) = (inR k v && r))) (h : 0 ≤ v ∧ v ≤ most k) : okFrom 0 [a0, a1, a2, a3, a4] = r := by
  have : inR k v = true := by
    unfold inR
    rw [Bool.and_eq_true, decide_eq_true_eq, decide_eq_true_eq]
    omega
  rw [H.out, S.out, this]
  rfl
theorem chk_end {a0 a1 a2 a3 a4 : Int} {k : Nat} (H : Hid (okFrom 0 [a0, a1, a2, a3, a4] = okFrom k ([a0, a1, a2, a3, a4].drop k))) (h : 5 ≤ k) : chk a0 a1 a2 a3 a4 = 0 := by
  unfold chk
  rw [H.out, List.drop_eq_nil_of_le (by simpa using h)]
  rfl

set_option maxHeartbeats 400000 in
theorem check_any (a0 a1 a2 a3 a4 : Int) (w : World) :
    Calls Tryz.prog 6 #[.agg #[.int .i64 a0, .int .i64 a1, .int .i64 a2, .int .i64 a3, .int .i64 a4]] w fun e w' => e = .returned (.int .i64 (chk a0 a1 a2 a3 a4)) ∧ Below w.heap.size w w' := by
  go_enter Tryz.func6, Tryz.ntmps6
  go_wp2
  go_loop [6] (fun i => ∃ k : Nat, k ≤ 5 ∧ i = .int .i64 k ∧ Hid (okFrom 0 [a0, a1, a2, a3, a4] = okFrom k ([a0, a1, a2, a3, a4].drop k))) (fun i => 5 - (intOf i).toNat)
  case atStart => exact ⟨0, by omega, rfl, rfl⟩
  case round =>
    obtain ⟨k, hk, rfl, H⟩ := hrel
    by_cases hlt : k < 5
    · have hix := index5 a0 a1 a2 a3 a4 k hlt
      have S : Hid (okFrom k ([a0, a1, a2, a3, a4].drop k) = (inR k (at5 a0 a1 a2 a3 a4 k) && okFrom (k + 1) ([a0, a1, a2, a3, a4].drop (k + 1)))) := okFrom_step a0 a1 a2 a3 a4 k hlt
      generalize at5 a0 a1 a2 a3 a4 k = v at *
      go_wp2_with (first | (go_at_call 17; refine (most_any _ _).mono ?_; rintro e w' ⟨rfl, rfl⟩))
      · go_ret
        exact ⟨by rw [chk_bad H S ‹_›]; rfl, (Below.refl _ _).alloc (Nat.le_refl _) _⟩
      · exact ⟨⟨k + 1, by omega, by go_num, chk_next H S ‹_›⟩, by simp [intOf]; omega⟩
      · go_ret
        exact ⟨by rw [chk_bad H S (.inl ‹_›)]; rfl, (Below.refl _ _).alloc (Nat.le_refl _) _⟩
    · go_wp2
      go_ret
      exact ⟨by rw [chk_end H (by omega)]; rfl, (Below.refl _ _).alloc (Nat.le_refl _) _⟩

theorem cell5 (a0 a1 a2 a3 a4 : Int) (w : World) (T : TypeId) (k : Nat) (h : k < 5) : (w.alloc (.cells #[.int .i64 a0, .int .i64 a1, .int .i64 a2, .int .i64 a3, .int .i64 a4] T)).cell? ⟨w.heap.size, k, none⟩ = some (.int .i64 (at5 a0 a1 a2 a3 a4 k)) := by
  have : k = 0 ∨ k = 1 ∨ k = 2 ∨ k = 3 ∨ k = 4 := by omega
  rcases this with rfl | rfl | rfl | rfl | rfl <;> simp [go_sem, at5]

end Go.Proofs.YtffhpcfphodamabGreatDoor
