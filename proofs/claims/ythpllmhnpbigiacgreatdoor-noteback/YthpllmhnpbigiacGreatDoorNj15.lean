/- strings.IndexRune of any rune among the signs of the operations. -/
import Derived.Test.YthpllmhnpbigiacGreatDoorShelf
import Derived.Test.YthpllmhnpbigiacGreatDoorNj14
import Derived.Test.YthpllmhnpbigiacGreatDoorNj01
import Derived.Laws.RangeAny
import Derived.Laws.Runes
import Derived.Lib.OthersKept
import Derived.Scope
set_option linter.all false
set_option maxRecDepth 100000
namespace Go.Proofs.YthpllmhnpbigiacGreatDoor
open Go.RowKit Go.Maps

/-- An operation in a drawn region whose value one tells. -/
theorem wpQuiet_val {P : Program} {ops : Array Oper} {C : World → Prop} {Q : Act → Prop} {a : Act} {o : Oper} {rest : List Oper} (v : Value) (hw : Region.wanted o (yielded ops a.tmps) = true) (hr : ∀ w, (execOp a.eval o).run P w = .ok (.value v) w) (h : wpQuiet P ops C Q rest (a.put o.dst v)) : wpQuiet P ops C Q (o :: rest) a :=
  Go.BigFrame.wpQuiet_want hw fun K hK => ⟨v, fun w _ => by unfold Oper.quietAt; rw [hr w]; exact ⟨rfl, rfl⟩, hK _ h⟩

def opB : ByteArray := ⟨#[61, 33, 60, 62]⟩
theorem opB_list : opB.data.toList = opC := rfl

theorem decode_cont (s : ByteArray) (pos j : Nat) (h0 : 0 < j) (h : j < (Utf8.decode s pos).2) : 128 ≤ (s.get! (pos + j)).toNat := by
  unfold Utf8.decode at h
  simp only [] at h
  split at h
  · simp at h; omega
  · split at h
    · rename_i hc
      simp at hc
      split at h
      · simp at h
        obtain rfl : j = 1 := by omega
        omega
      · simp at h; omega
    · split at h
      · rename_i hc
        simp at hc
        split at h
        · simp at h
          have : j = 1 ∨ j = 2 := by omega
          rcases this with rfl | rfl <;> omega
        · simp at h; omega
      · split at h
        · rename_i hc
          simp at hc
          split at h
          · simp at h
            have : j = 1 ∨ j = 2 ∨ j = 3 := by omega
            rcases this with rfl | rfl | rfl <;> omega
          · simp at h; omega
        · simp at h; omega

theorem opC_high (b : UInt8) (h : 128 ≤ b.toNat) : opC.contains b = false := by
  unfold opC
  simp
  refine ⟨?_, ?_, ?_, ?_⟩ <;> (intro e; subst e; revert h; decide)
theorem indexByte_high (l : Bs) (c : UInt8) (hl : ∀ b ∈ l, b.toNat < 128) (hc : 128 ≤ c.toNat) : Lib.indexByte l c = -1 := by
  induction l with
  | nil => rfl
  | cons b r ih =>
    have hb := hl b (by simp)
    have hne : (b == c) = false := by
      rw [beq_eq_false_iff_ne]
      intro e
      subst e
      omega
    rw [Lib.indexByte, ih fun x hx => hl x (by simp [hx]), hne]
    rfl

theorem index_str (s : ByteArray) (i : Nat) (h : i < s.size) (w : World) : (Instr.index 9 (.string s) (.int .i64 i)).run Tryz.prog w = .ok (.int .u8 (s[i]'h).toNat) w := by
  have hi : (i : Int) < (s.size : Int) := by omega
  simp [go_sem, h, hi, Tryz.underlying9]
theorem slice_str (s : ByteArray) (i : Nat) (h : i ≤ s.size) (w : World) : (Instr.sliceAt 9 (.string s) (some (.int .i64 i)) none none).run Tryz.prog w = .ok (.string (s.extract i s.size)) w := by
  have hi : (i : Int) ≤ (s.size : Int) := by omega
  simp [go_sem, h, hi, Tryz.underlying9]
theorem indexByte_op (i : Nat) (c : UInt8) (hc : 128 ≤ c.toNat) (w : World) : Calls Tryz.prog 186 #[.string (opB.extract i 4), .int .u8 c.toNat] w fun e w' => e = .returned (.int .i64 (-1)) ∧ w' = w := by
  have := Tryz.strings_IndexByte (opB.extract i 4) c.toNat w
  rw [indexByte_high _ _ ?_ (by simpa using hc)] at this
  · exact this
  · intro b hb
    have hb' : b ∈ opB.data.toList := mem_extract hb
    rw [opB_list] at hb'
    simp [opC] at hb'
    rcases hb' with rfl | rfl | rfl | rfl <;> decide

theorem run_val {P : Program} {w : World} {x : Sem Value} {v : Value} (h : x.run P w = .ok v w) : (do let y ← x; pure (Next.value y) : Sem Next).run P w = .ok (.value v) w := by
  simp [Sem.run_bind, h, Result.andThen]

set_option maxHeartbeats 4000000 in
theorem rune_1 (r : Int) (rs : ByteArray) (h0 : 128 ≤ r) (he' : (r == 65533) = false) (hv : Lib.validRune r = true) (hcv : ∀ w, (convert 21 9 (.int .i32 r)).run Tryz.prog w = .ok (.string rs) w) (hm : rs.size = 2) (h128 : ∀ h : 1 < rs.size, 128 ≤ (rs[1]'h).toNat) (w : World) :
    Calls Tryz.prog 190 #[.string opB, .int .i32 r] w fun e w' => e = .returned (.int .i64 (-1)) ∧ Below w.heap.size w w' := by
  have a1 : ¬ (r < 128) := by omega
  have a0 : (0 : Int) ≤ r := by omega
  have hos : opB.size = 4 := rfl
  obtain ⟨c, hc⟩ : ∃ c : UInt8, rs[1]'(by omega) = c := ⟨_, rfl⟩
  have hc128 : 128 ≤ c.toNat := by
    rw [← hc]
    exact h128 _
  have hIB : Hid (∀ i w, Calls Tryz.prog 186 #[.string (opB.extract i 4), .int .u8 c.toNat] w fun e w' => e = .returned (.int .i64 (-1)) ∧ w' = w) := fun i w => indexByte_op i c hc128 w
  have hne : ((33 : Int) == (c.toNat : Int)) = false := by
    rw [beq_eq_false_iff_ne]
    omega
  have hne2 : ((33 : Int) != (c.toNat : Int)) = true := by simpa using hne
  have hx1 : ∀ w, (Instr.index 9 (.string rs) (.int .i64 1)).run Tryz.prog w = .ok (.int .u8 c.toNat) w := fun w => by
    have := index_str rs 1 (by omega) w
    rw [hc] at this
    exact this
  have hx2 : ∀ w, (Instr.index 9 (.string opB) (.int .i64 1)).run Tryz.prog w = .ok (.int .u8 33) w := fun w => by kernel_rfl
  have hadd : ∀ w, (binOp .add 3 (.int .i64 1) (.int .i64 1)).run Tryz.prog w = .ok (.int .i64 2) w := fun w => by kernel_rfl
  have hsl : ∀ w, (Instr.sliceAt 9 (.string opB) (some (.int .i64 2)) none none).run Tryz.prog w = .ok (.string (opB.extract 2 4)) w := fun w => slice_str opB 2 (by decide) w
  clear hc h128 hne
  go_enter Tryz.func190, Tryz.ntmps190
  go_wp2_with (first | (go_at_call 194; go_must (refine (Tryz.utf8_ValidRune _ _).mono ?_; rintro e w' ⟨rfl, rfl⟩; rw [hv])))
  apply wp_scope_straight
  go_wp2
  go_loop [9, 10] (fun i f => i = .int .i64 1 ∧ f = .int .i64 0) (fun _ _ => 0)
  case atStart => exact ⟨rfl, rfl⟩
  case round =>
    obtain ⟨rfl, rfl⟩ := hrel
    go_wp2
    apply wp_scope_straight
    go_wp2
    go_quiet (fail)
    go_wp2
    have hnl := Later.ne w'
    refine wp_region_later (by kernel_rfl) (by kernel_rfl) ?_
    iterate 2 (go_big_quiet_step (fail))
    refine wpQuiet_val (.int .i64 2) rfl (fun w => run_val (hadd w)) ?_
    simp only [Act.put, List.setIfInBounds_toArray, List.set_cons_succ, List.set_cons_zero]
    refine wpQuiet_val (.string (opB.extract 2 4)) rfl (fun w => run_val (hsl w)) ?_
    simp only [Act.put, List.setIfInBounds_toArray, List.set_cons_succ, List.set_cons_zero]
    iterate 2 (go_big_quiet_step (fail))
    refine wpQuiet_val (.int .u8 c.toNat) rfl (fun w => run_val (hx1 w)) ?_
    simp only [Act.put, List.setIfInBounds_toArray, List.set_cons_succ, List.set_cons_zero]
    repeat (go_big_quiet_step (first | (go_at_call 186; exact Calls.later_same (hIB.out _ _))))
    refine wpQuiet_nil ?_
    rintro wx ⟨⟨_, hx⟩, rfl⟩
    go_wp2
    simp only [Exit.noGoto]
    go_wp2
    simp only [Exit.noGoto]
    go_wp2
    go_ret
    exact ⟨rfl, Below.trans (Below.drewN_ (Below.refl _ _) _) hx⟩

set_option maxHeartbeats 4000000 in
theorem rune_2 (r : Int) (rs : ByteArray) (h0 : 128 ≤ r) (he' : (r == 65533) = false) (hv : Lib.validRune r = true) (hcv : ∀ w, (convert 21 9 (.int .i32 r)).run Tryz.prog w = .ok (.string rs) w) (hm : rs.size = 3) (h128 : ∀ h : 2 < rs.size, 128 ≤ (rs[2]'h).toNat) (w : World) :
    Calls Tryz.prog 190 #[.string opB, .int .i32 r] w fun e w' => e = .returned (.int .i64 (-1)) ∧ Below w.heap.size w w' := by
  have a1 : ¬ (r < 128) := by omega
  have a0 : (0 : Int) ≤ r := by omega
  have hos : opB.size = 4 := rfl
  obtain ⟨c, hc⟩ : ∃ c : UInt8, rs[2]'(by omega) = c := ⟨_, rfl⟩
  have hc128 : 128 ≤ c.toNat := by
    rw [← hc]
    exact h128 _
  have hIB : Hid (∀ i w, Calls Tryz.prog 186 #[.string (opB.extract i 4), .int .u8 c.toNat] w fun e w' => e = .returned (.int .i64 (-1)) ∧ w' = w) := fun i w => indexByte_op i c hc128 w
  have hne : ((60 : Int) == (c.toNat : Int)) = false := by
    rw [beq_eq_false_iff_ne]
    omega
  have hne2 : ((60 : Int) != (c.toNat : Int)) = true := by simpa using hne
  have hx1 : ∀ w, (Instr.index 9 (.string rs) (.int .i64 2)).run Tryz.prog w = .ok (.int .u8 c.toNat) w := fun w => by
    have := index_str rs 2 (by omega) w
    rw [hc] at this
    exact this
  have hx2 : ∀ w, (Instr.index 9 (.string opB) (.int .i64 2)).run Tryz.prog w = .ok (.int .u8 60) w := fun w => by kernel_rfl
  have hadd : ∀ w, (binOp .add 3 (.int .i64 2) (.int .i64 1)).run Tryz.prog w = .ok (.int .i64 3) w := fun w => by kernel_rfl
  have hsl : ∀ w, (Instr.sliceAt 9 (.string opB) (some (.int .i64 3)) none none).run Tryz.prog w = .ok (.string (opB.extract 3 4)) w := fun w => slice_str opB 3 (by decide) w
  clear hc h128 hne
  go_enter Tryz.func190, Tryz.ntmps190
  go_wp2_with (first | (go_at_call 194; go_must (refine (Tryz.utf8_ValidRune _ _).mono ?_; rintro e w' ⟨rfl, rfl⟩; rw [hv])))
  apply wp_scope_straight
  go_wp2
  go_loop [9, 10] (fun i f => i = .int .i64 2 ∧ f = .int .i64 0) (fun _ _ => 0)
  case atStart => exact ⟨rfl, rfl⟩
  case round =>
    obtain ⟨rfl, rfl⟩ := hrel
    go_wp2
    apply wp_scope_straight
    go_wp2
    go_quiet (fail)
    go_wp2
    have hnl := Later.ne w'
    refine wp_region_later (by kernel_rfl) (by kernel_rfl) ?_
    iterate 2 (go_big_quiet_step (fail))
    refine wpQuiet_val (.int .i64 3) rfl (fun w => run_val (hadd w)) ?_
    simp only [Act.put, List.setIfInBounds_toArray, List.set_cons_succ, List.set_cons_zero]
    refine wpQuiet_val (.string (opB.extract 3 4)) rfl (fun w => run_val (hsl w)) ?_
    simp only [Act.put, List.setIfInBounds_toArray, List.set_cons_succ, List.set_cons_zero]
    iterate 2 (go_big_quiet_step (fail))
    refine wpQuiet_val (.int .u8 c.toNat) rfl (fun w => run_val (hx1 w)) ?_
    simp only [Act.put, List.setIfInBounds_toArray, List.set_cons_succ, List.set_cons_zero]
    repeat (go_big_quiet_step (first | (go_at_call 186; exact Calls.later_same (hIB.out _ _))))
    refine wpQuiet_nil ?_
    rintro wx ⟨⟨_, hx⟩, rfl⟩
    go_wp2
    simp only [Exit.noGoto]
    go_wp2
    simp only [Exit.noGoto]
    go_wp2
    go_ret
    exact ⟨rfl, Below.trans (Below.drewN_ (Below.refl _ _) _) hx⟩

set_option maxHeartbeats 4000000 in
theorem rune_3 (r : Int) (rs : ByteArray) (h0 : 128 ≤ r) (he' : (r == 65533) = false) (hv : Lib.validRune r = true) (hcv : ∀ w, (convert 21 9 (.int .i32 r)).run Tryz.prog w = .ok (.string rs) w) (hm : rs.size = 4) (h128 : ∀ h : 3 < rs.size, 128 ≤ (rs[3]'h).toNat) (w : World) :
    Calls Tryz.prog 190 #[.string opB, .int .i32 r] w fun e w' => e = .returned (.int .i64 (-1)) ∧ Below w.heap.size w w' := by
  have a1 : ¬ (r < 128) := by omega
  have a0 : (0 : Int) ≤ r := by omega
  have hos : opB.size = 4 := rfl
  obtain ⟨c, hc⟩ : ∃ c : UInt8, rs[3]'(by omega) = c := ⟨_, rfl⟩
  have hc128 : 128 ≤ c.toNat := by
    rw [← hc]
    exact h128 _
  have hIB : Hid (∀ w, Calls Tryz.prog 186 #[.string ByteArray.empty, .int .u8 c.toNat] w fun e w' => e = .returned (.int .i64 (-1)) ∧ w' = w) := fun w => Tryz.strings_IndexByte ByteArray.empty c.toNat w
  have hne : ((62 : Int) == (c.toNat : Int)) = false := by
    rw [beq_eq_false_iff_ne]
    omega
  have hne2 : ((62 : Int) != (c.toNat : Int)) = true := by simpa using hne
  have hx1 : ∀ w, (Instr.index 9 (.string rs) (.int .i64 3)).run Tryz.prog w = .ok (.int .u8 c.toNat) w := fun w => by
    have := index_str rs 3 (by omega) w
    rw [hc] at this
    exact this
  have hx2 : ∀ w, (Instr.index 9 (.string opB) (.int .i64 3)).run Tryz.prog w = .ok (.int .u8 62) w := fun w => by kernel_rfl
  have hadd : ∀ w, (binOp .add 3 (.int .i64 3) (.int .i64 1)).run Tryz.prog w = .ok (.int .i64 4) w := fun w => by kernel_rfl
  have hsl : ∀ w, (Instr.sliceAt 9 (.string opB) (some (.int .i64 4)) none none).run Tryz.prog w = .ok (.string ByteArray.empty) w := fun w => by have := slice_str opB 4 (by decide) w; rw [show opB.extract 4 opB.size = ByteArray.empty by decide +kernel] at this; exact this
  clear hc h128 hne
  go_enter Tryz.func190, Tryz.ntmps190
  go_wp2_with (first | (go_at_call 194; go_must (refine (Tryz.utf8_ValidRune _ _).mono ?_; rintro e w' ⟨rfl, rfl⟩; rw [hv])))
  apply wp_scope_straight
  go_wp2
  go_loop [9, 10] (fun i f => i = .int .i64 3 ∧ f = .int .i64 0) (fun _ _ => 0)
  case atStart => exact ⟨rfl, rfl⟩
  case round =>
    obtain ⟨rfl, rfl⟩ := hrel
    go_wp2
    apply wp_scope_straight
    go_wp2
    go_quiet (fail)
    go_wp2
    have hnl := Later.ne w'
    refine wp_region_later (by kernel_rfl) (by kernel_rfl) ?_
    iterate 2 (go_big_quiet_step (fail))
    refine wpQuiet_val (.int .i64 4) rfl (fun w => run_val (hadd w)) ?_
    simp only [Act.put, List.setIfInBounds_toArray, List.set_cons_succ, List.set_cons_zero]
    refine wpQuiet_val (.string ByteArray.empty) rfl (fun w => run_val (hsl w)) ?_
    simp only [Act.put, List.setIfInBounds_toArray, List.set_cons_succ, List.set_cons_zero]
    iterate 2 (go_big_quiet_step (fail))
    refine wpQuiet_val (.int .u8 c.toNat) rfl (fun w => run_val (hx1 w)) ?_
    simp only [Act.put, List.setIfInBounds_toArray, List.set_cons_succ, List.set_cons_zero]
    repeat (go_big_quiet_step (first | (go_at_call 186; exact Calls.later_same (hIB.out _))))
    refine wpQuiet_nil ?_
    rintro wx ⟨⟨_, hx⟩, rfl⟩
    go_wp2
    simp only [Exit.noGoto]
    go_wp2
    simp only [Exit.noGoto]
    go_wp2
    go_ret
    exact ⟨rfl, Below.trans (Below.drewN_ (Below.refl _ _) _) hx⟩

set_option maxHeartbeats 4000000 in
theorem indexRune_high (r : Int) (h0 : 128 ≤ r) (h1 : r ≤ 2147483647) (w : World) :
    Calls Tryz.prog 190 #[.string opB, .int .i32 r] w fun e w' => e = .returned (.int .i64 (-1)) ∧ Below w.heap.size w w' := by
  have a1 : ¬ (r < 128) := by omega
  have a0 : (0 : Int) ≤ r := by omega
  by_cases he : r = 65533
  · subst he
    go_enter Tryz.func190, Tryz.ntmps190
    go_wp2
    have hbi : ∀ i, Below w.heap.size w (w.iter opB i) := fun i => (Below.refl _ _).alloc (Nat.le_refl _) _
    go_loopw [5, 6] (fun _ _ wr => ∃ i, i ≤ 4 ∧ wr = w.iter opB i) (fun _ _ wr => 4 - wr.iterPos w.heap.size)
    case atStart => exact ⟨0, by omega, rfl⟩
    case round =>
      obtain ⟨i, hi, rfl⟩ := hrel
      have hi' : i = 0 ∨ i = 1 ∨ i = 2 ∨ i = 3 ∨ i = 4 := by omega
      rcases hi' with rfl | rfl | rfl | rfl | rfl
      · have hnx := fun ty => run_next_ascii (P := Tryz.prog) w opB 0 ty (by decide) (by decide)
        rw [show (opB[0]'(by decide)).toNat = 61 by decide] at hnx
        go_wp2
        exact ⟨⟨1, by omega, rfl⟩, by simp⟩
      · have hnx := fun ty => run_next_ascii (P := Tryz.prog) w opB 1 ty (by decide) (by decide)
        rw [show (opB[1]'(by decide)).toNat = 33 by decide] at hnx
        go_wp2
        exact ⟨⟨2, by omega, rfl⟩, by simp⟩
      · have hnx := fun ty => run_next_ascii (P := Tryz.prog) w opB 2 ty (by decide) (by decide)
        rw [show (opB[2]'(by decide)).toNat = 60 by decide] at hnx
        go_wp2
        exact ⟨⟨3, by omega, rfl⟩, by simp⟩
      · have hnx := fun ty => run_next_ascii (P := Tryz.prog) w opB 3 ty (by decide) (by decide)
        rw [show (opB[3]'(by decide)).toNat = 62 by decide] at hnx
        go_wp2
        exact ⟨⟨4, by omega, rfl⟩, by simp⟩
      · have hnx := run_next_end (P := Tryz.prog) w opB 4
        have hz : ¬ 4 < opB.size := by decide
        go_wp2
        go_ret
        exact ⟨rfl, hbi _⟩
  · have he' : (r == 65533) = false := by simpa using he
    by_cases hv : Lib.validRune r = true
    · have hv2 : Utf8.valid r = true := by rw [validRune_eq]; exact hv
      obtain ⟨s1, s2, s3⟩ := encode_facts r hv2 h0
      have hcv : ∀ w, (convert 21 9 (.int .i32 r)).run Tryz.prog w = .ok (.string (Utf8.encode r)) w := fun w => run_convert_int_string w _ _ _ _ (by kernel_rfl) Tryz.underlying9
      generalize Utf8.encode r = rs at *
      have hm : rs.size = 2 ∨ rs.size = 3 ∨ rs.size = 4 := by omega
      rcases hm with hm | hm | hm
      · exact rune_1 r rs h0 he' hv hcv hm (fun h => by have := s3 (by omega); simp only [hm] at this; exact this) w
      · exact rune_2 r rs h0 he' hv hcv hm (fun h => by have := s3 (by omega); simp only [hm] at this; exact this) w
      · exact rune_3 r rs h0 he' hv hcv hm (fun h => by have := s3 (by omega); simp only [hm] at this; exact this) w
    · have hv' : Lib.validRune r = false := by simpa using hv
      go_enter Tryz.func190, Tryz.ntmps190
      go_wp2_with (first | (go_at_call 194; go_must (refine (Tryz.utf8_ValidRune _ _).mono ?_; rintro e w' ⟨rfl, rfl⟩; rw [hv'])))
      go_ret
      exact ⟨rfl, Below.refl _ _⟩


end Go.Proofs.YthpllmhnpbigiacGreatDoor
