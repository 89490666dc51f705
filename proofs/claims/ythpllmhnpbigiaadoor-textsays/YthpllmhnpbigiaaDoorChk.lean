/- What Check and its counterpart say of any five numbers: the same. -/
import Derived.Test.YthpllmhnpbigiaaDoorCallw
import Derived.Test.YthpllmhnpbigiaaDoorLater
namespace Go.Proofs.YthpllmhnpbigiaaDoor
open Go.RowKit Go.Maps

def inR (k v : Int) : Bool := decide (0 ≤ v) && decide (v ≤ most k)
def okFrom : Nat → List Int → Bool
  | _, [] => true
  | k, v :: r => inR k v && okFrom (k + 1) r
/-- What is answered: 0, or 3 (ErrRange). -/
def chk (a0 a1 a2 a3 a4 : Int) : Int := if okFrom 0 [a0, a1, a2, a3, a4] then 0 else 3

def at5 (a0 a1 a2 a3 a4 : Int) : Nat → Int
  | 0 => a0 | 1 => a1 | 2 => a2 | 3 => a3 | _ => a4
theorem okFrom_step (a0 a1 a2 a3 a4 : Int) (k : Nat) (h : k < 5) : okFrom k ([a0, a1, a2, a3, a4].drop k) = (inR k (at5 a0 a1 a2 a3 a4 k) && okFrom (k + 1) ([a0, a1, a2, a3, a4].drop (k + 1))) := by
  have : k = 0 ∨ k = 1 ∨ k = 2 ∨ k = 3 ∨ k = 4 := by omega
  rcases this with rfl | rfl | rfl | rfl | rfl <;> rfl
theorem index5_0 (a0 a1 a2 a3 a4 : Int) (w : World) : (Instr.index 26 (.agg #[.int .i64 a0, .int .i64 a1, .int .i64 a2, .int .i64 a3, .int .i64 a4]) (.int .i64 0)).run Tryd.prog w = .ok (.int .i64 a0) w := by kernel_rfl
theorem index5_1 (a0 a1 a2 a3 a4 : Int) (w : World) : (Instr.index 26 (.agg #[.int .i64 a0, .int .i64 a1, .int .i64 a2, .int .i64 a3, .int .i64 a4]) (.int .i64 1)).run Tryd.prog w = .ok (.int .i64 a1) w := by kernel_rfl
theorem index5_2 (a0 a1 a2 a3 a4 : Int) (w : World) : (Instr.index 26 (.agg #[.int .i64 a0, .int .i64 a1, .int .i64 a2, .int .i64 a3, .int .i64 a4]) (.int .i64 2)).run Tryd.prog w = .ok (.int .i64 a2) w := by kernel_rfl
theorem index5_3 (a0 a1 a2 a3 a4 : Int) (w : World) : (Instr.index 26 (.agg #[.int .i64 a0, .int .i64 a1, .int .i64 a2, .int .i64 a3, .int .i64 a4]) (.int .i64 3)).run Tryd.prog w = .ok (.int .i64 a3) w := by kernel_rfl
theorem index5_4 (a0 a1 a2 a3 a4 : Int) (w : World) : (Instr.index 26 (.agg #[.int .i64 a0, .int .i64 a1, .int .i64 a2, .int .i64 a3, .int .i64 a4]) (.int .i64 4)).run Tryd.prog w = .ok (.int .i64 a4) w := by kernel_rfl
theorem index5 (a0 a1 a2 a3 a4 : Int) (k : Nat) (h : k < 5) (w : World) : (Instr.index 26 (.agg #[.int .i64 a0, .int .i64 a1, .int .i64 a2, .int .i64 a3, .int .i64 a4]) (.int .i64 k)).run Tryd.prog w = .ok (.int .i64 (at5 a0 a1 a2 a3 a4 k)) w := by
  have : k = 0 ∨ k = 1 ∨ k = 2 ∨ k = 3 ∨ k = 4 := by omega
  rcases this with rfl | rfl | rfl | rfl | rfl
  · exact index5_0 ..
  · exact index5_1 ..
  · exact index5_2 ..
  · exact index5_3 ..
  · exact index5_4 ..

/-- The counterpart's answer in words: what is wrong at place k is wrong. -/
theorem chk_bad {a0 a1 a2 a3 a4 : Int} {k : Nat} {v : Int} {r : Bool} (H : Hid (okFrom 0 [a0, a1, a2, a3, a4] = okFrom k ([a0, a1, a2, a3, a4].drop k))) (S : Hid (okFrom k ([a0, a1, a2, a3, a4].drop k) = (inR k v && r))) (h : v < 0 ∨ most k < v) : chk a0 a1 a2 a3 a4 = 3 := by
  have : inR k v = false := by
    unfold inR
    rw [Bool.and_eq_false_iff, decide_eq_false_iff_not, decide_eq_false_iff_not]
    omega
  unfold chk
  rw [H.out, S.out, this]
  rfl
theorem chk_next {a0 a1 a2 a3 a4 : Int} {k : Nat} {v : Int} {r : Bool} (H : Hid (okFrom 0 [a0, a1, a2, a3, a4] = okFrom k ([a0, a1, a2, a3, a4].drop k))) (S : Hid (okFrom k ([a0, a1, a2, a3, a4].drop k) = (inR k v && r))) (h : 0 ≤ v ∧ v ≤ most k) : okFrom 0 [a0, a1, a2, a3, a4] = r := by
  have : inR k v = true := by
    unfold inR
    rw [Bool.and_eq_true, decide_eq_true_eq, decide_eq_true_eq]
    omega
  rw [H.out, S.out, this]
  rfl
theorem chk_end {a0 a1 a2 a3 a4 : Int} {k : Nat} (H : Hid (okFrom 0 [a0, a1, a2, a3, a4] = okFrom k ([a0, a1, a2, a3, a4].drop k))) (h : 5 ≤ k) : chk a0 a1 a2 a3 a4 = 0 := by
  unfold chk
  rw [H.out, List.drop_eq_nil_of_le (by simpa using h)]
  rfl

set_option maxHeartbeats 400000 in
theorem check_any (a0 a1 a2 a3 a4 : Int) (w : World) :
    Calls Tryd.prog 32 #[.agg #[.int .i64 a0, .int .i64 a1, .int .i64 a2, .int .i64 a3, .int .i64 a4]] w fun e w' => e = .returned (.int .i64 (chk a0 a1 a2 a3 a4)) ∧ Below w.heap.size w w' := by
  go_enter Tryd.func32, Tryd.ntmps32
  go_wp2
  go_loop [6] (fun i => ∃ k : Nat, k ≤ 5 ∧ i = .int .i64 k ∧ Hid (okFrom 0 [a0, a1, a2, a3, a4] = okFrom k ([a0, a1, a2, a3, a4].drop k))) (fun i => 5 - (intOf i).toNat)
  case atStart => exact ⟨0, by omega, rfl, rfl⟩
  case round =>
    obtain ⟨k, hk, rfl, H⟩ := hrel
    by_cases hlt : k < 5
    · have hix := index5 a0 a1 a2 a3 a4 k hlt
      have S : Hid (okFrom k ([a0, a1, a2, a3, a4].drop k) = (inR k (at5 a0 a1 a2 a3 a4 k) && okFrom (k + 1) ([a0, a1, a2, a3, a4].drop (k + 1)))) := okFrom_step a0 a1 a2 a3 a4 k hlt
      generalize at5 a0 a1 a2 a3 a4 k = v at *
      go_wp2_with (first | (go_at_call 64; refine (most_any _ _).mono ?_; rintro e w' ⟨rfl, rfl⟩))
      · go_ret
        exact ⟨by rw [chk_bad H S ‹_›]; rfl, (Below.refl _ _).alloc (Nat.le_refl _) _⟩
      · exact ⟨⟨k + 1, by omega, by go_num, chk_next H S ‹_›⟩, by simp [intOf]; omega⟩
      · go_ret
        exact ⟨by rw [chk_bad H S (.inl ‹_›)]; rfl, (Below.refl _ _).alloc (Nat.le_refl _) _⟩
    · go_wp2
      go_ret
      exact ⟨by rw [chk_end H (by omega)]; rfl, (Below.refl _ _).alloc (Nat.le_refl _) _⟩

theorem cell5 (a0 a1 a2 a3 a4 : Int) (w : World) (T : TypeId) (k : Nat) (h : k < 5) : (w.alloc (.cells #[.int .i64 a0, .int .i64 a1, .int .i64 a2, .int .i64 a3, .int .i64 a4] T)).cell? ⟨w.heap.size, k, none⟩ = some (.int .i64 (at5 a0 a1 a2 a3 a4 k)) := by
  have : k = 0 ∨ k = 1 ∨ k = 2 ∨ k = 3 ∨ k = 4 := by omega
  rcases this with rfl | rfl | rfl | rfl | rfl <;> simp [go_sem, at5]

set_option maxHeartbeats 400000 in
theorem checkCall_any (a0 a1 a2 a3 a4 : Int) (w : World) :
    Calls Tryd.prog 15 #[.agg #[.int .i64 a0, .int .i64 a1, .int .i64 a2, .int .i64 a3, .int .i64 a4]] w fun e w' => e = .returned (.int .i64 (chk a0 a1 a2 a3 a4)) ∧ Below w.heap.size w w' := by
  go_enter Tryd.func15, Tryd.ntmps15
  go_wp2
  go_loopw [4] (fun i wr => ∃ k : Nat, k ≤ 5 ∧ i = .int .i64 k ∧ Hid (okFrom 0 [a0, a1, a2, a3, a4] = okFrom k ([a0, a1, a2, a3, a4].drop k)) ∧ Hid (∀ j, j < 5 → wr.cell? ⟨w.heap.size, j, none⟩ = some (.int .i64 (at5 a0 a1 a2 a3 a4 j))) ∧ Below w.heap.size w wr ∧ w.heap.size < wr.heap.size) (fun i _ => 5 - (intOf i).toNat)
  case atStart => exact ⟨0, by omega, rfl, rfl, fun j hj => cell5 a0 a1 a2 a3 a4 w _ j hj, (Below.refl _ _).alloc (Nat.le_refl _) _, by simp⟩
  case round =>
    obtain ⟨k, hk, rfl, H, HC, hb, hz⟩ := hrel
    by_cases hlt : k < 5
    · have S : Hid (okFrom k ([a0, a1, a2, a3, a4].drop k) = (inR k (at5 a0 a1 a2 a3 a4 k) && okFrom (k + 1) ([a0, a1, a2, a3, a4].drop (k + 1)))) := okFrom_step a0 a1 a2 a3 a4 k hlt
      have hc := HC.out k hlt
      generalize at5 a0 a1 a2 a3 a4 k = v at hc S
      have hwf : (Lit.int .i64 (k : Int)).wf = true := WalkArith.wf_i64 (by omega)
      have i0 : (0 : Int) ≤ (k : Int) := by omega
      have i1 : (k : Int) < 5 := by omega
      go_wp2
      have hne := Later.ne wr
      have hcx : ∀ x : Later wr, x.1.cell? ⟨w.heap.size, k, none⟩ = some (.int .i64 v) := fun x => x.cell hc hz
      refine wp_region_later (by kernel_rfl) (by kernel_rfl) ?_
      repeat (go_big_quiet_step (first | (go_at_call 39; exact Calls.later (mostOf_any _ hwf _)) | (go_at_call 38; exact Calls.later_same (in_any _ _ _ _))))
      refine wpQuiet_nil ?_
      rintro wx ⟨⟨_, hx⟩, rfl⟩
      have hC' : Hid (∀ j, j < 5 → wx.cell? ⟨w.heap.size, j, none⟩ = some (.int .i64 (at5 a0 a1 a2 a3 a4 j))) := fun j hj => (hx.cell (p := ⟨w.heap.size, j, none⟩) hz).trans (HC.out j hj)
      have hb' : Below w.heap.size w wx := hb.trans (hx.mono hb.size)
      have hz' : w.heap.size < wx.heap.size := Nat.lt_of_lt_of_le hz hx.size
      clear hcx hc HC hne hx
      go_wp2
      · have hv : v < 0 ∨ most k < v := by
          have h : (!decide (0 ≤ v)) = true ∨ (!decide (v ≤ most ↑k)) = true := by assumption
          simp at h; omega
        go_ret
        exact ⟨by rw [chk_bad H S hv]; rfl, hb'⟩
      · have hv : 0 ≤ v ∧ v ≤ most k := by
          have h : (!decide (0 ≤ v)) = false ∧ (!decide (v ≤ most ↑k)) = false := by assumption
          simp at h; omega
        exact ⟨⟨k + 1, by omega, by go_num, chk_next H S hv, hC', hb', hz'⟩, by simp [intOf]; omega⟩
    · go_wp2
      go_ret
      exact ⟨by rw [chk_end H (by omega)]; rfl, hb⟩

end Go.Proofs.YthpllmhnpbigiaaDoor
