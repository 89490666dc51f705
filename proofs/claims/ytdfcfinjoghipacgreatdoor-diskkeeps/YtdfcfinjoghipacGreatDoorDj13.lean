/- Joined: IRune IAny Num. -/
import Derived.Test.YtdfcfinjoghipacGreatDoorShelf
import Derived.Test.YtdfcfinjoghipacGreatDoorDj12
import Derived.Test.YtdfcfinjoghipacGreatDoorDj01
import Derived.Laws.RangeAny
import Derived.Laws.Runes
import Derived.Lib.OthersKept
import Derived.Scope
import Derived.Test.YtdfcfinjoghipacGreatDoorDj06
import Derived.Test.YtdfcfinjoghipacGreatDoorDj03
import Derived.Lib.AppendIntMem
section
/- strings.IndexRune of any rune among the signs of the operations. -/
set_option linter.all false
set_option maxRecDepth 100000
namespace Go.Proofs.YtdfcfinjoghipacGreatDoor
open Go.RowKit Go.Maps

/-- An operation in a drawn region whose value one tells. -/
theorem wpQuiet_val {P : Program} {ops : Array Oper} {C : World → Prop} {Q : Act → Prop} {a : Act} {o : Oper} {rest : List Oper} (v : Value) (hw : Region.wanted o (yielded ops a.tmps) = true) (hr : ∀ w, (execOp a.eval o).run P w = .ok (.value v) w) (h : wpQuiet P ops C Q rest (a.put o.dst v)) : wpQuiet P ops C Q (o :: rest) a :=
  Go.BigFrame.wpQuiet_want hw fun K hK => ⟨v, fun w _ => by unfold Oper.quietAt; rw [hr w]; exact ⟨rfl, rfl⟩, hK _ h⟩

def opB : ByteArray := ⟨#[61, 33, 60, 62]⟩
theorem opB_list : opB.data.toList = opC := rfl

theorem decode_cont (s : ByteArray) (pos j : Nat) (h0 : 0 < j) (h : j < (Utf8.decode s pos).2) : 128 ≤ (s.get! (pos + j)).toNat := by
  unfold Utf8.decode at h
  simp only [] at h
  split at h
  · simp at h; omega
  · split at h
    · rename_i hc
      simp at hc
      split at h
      · simp at h
        obtain rfl : j = 1 := by omega
        omega
      · simp at h; omega
    · split at h
      · rename_i hc
        simp at hc
        split at h
        · simp at h
          have : j = 1 ∨ j = 2 := by omega
          rcases this with rfl | rfl <;> omega
        · simp at h; omega
      · split at h
        · rename_i hc
          simp at hc
          split at h
          · simp at h
            have : j = 1 ∨ j = 2 ∨ j = 3 := by omega
            rcases this with rfl | rfl | rfl <;> omega
          · simp at h; omega
        · simp at h; omega

theorem opC_high (b : UInt8) (h : 128 ≤ b.toNat) : opC.contains b = false := by
  unfold opC
  simp
  refine ⟨?_, ?_, ?_, ?_⟩ <;> (intro e; subst e; revert h; decide)
theorem indexByte_high (l : Bs) (c : UInt8) (hl : ∀ b ∈ l, b.toNat < 128) (hc : 128 ≤ c.toNat) : Lib.indexByte l c = -1 := by
  induction l with
  | nil => rfl
  | cons b r ih =>
    have hb := hl b (by simp)
    have hne : (b == c) = false := by
      rw [beq_eq_false_iff_ne]
      intro e
      subst e
      omega
    rw [Lib.indexByte, ih fun x hx => hl x (by simp [hx]), hne]
    rfl

theorem index_str (s : ByteArray) (i : Nat) (h : i < s.size) (w : World) : (Instr.index 9 (.string s) (.int .i64 i)).run Tryz.prog w = .ok (.int .u8 (s[i]'h).toNat) w := by
  have hi : (i : Int) < (s.size : Int) := by omega
  simp [go_sem, h, hi, Tryz.underlying9]
theorem slice_str (s : ByteArray) (i : Nat) (h : i ≤ s.size) (w : World) : (Instr.sliceAt 9 (.string s) (some (.int .i64 i)) none none).run Tryz.prog w = .ok (.string (s.extract i s.size)) w := by
  have hi : (i : Int) ≤ (s.size : Int) := by omega
  simp [go_sem, h, hi, Tryz.underlying9]
theorem indexByte_op (i : Nat) (c : UInt8) (hc : 128 ≤ c.toNat) (w : World) : Calls Tryz.prog 219 #[.string (opB.extract i 4), .int .u8 c.toNat] w fun e w' => e = .returned (.int .i64 (-1)) ∧ w' = w := by
  have := Tryz.strings_IndexByte (opB.extract i 4) c.toNat w
  rw [indexByte_high _ _ ?_ (by simpa using hc)] at this
  · exact this
  · intro b hb
    have hb' : b ∈ opB.data.toList := mem_extract hb
    rw [opB_list] at hb'
    simp [opC] at hb'
    rcases hb' with rfl | rfl | rfl | rfl <;> decide

theorem run_val {P : Program} {w : World} {x : Sem Value} {v : Value} (h : x.run P w = .ok v w) : (do let y ← x; pure (Next.value y) : Sem Next).run P w = .ok (.value v) w := by
  simp [Sem.run_bind, h, Result.andThen]

set_option maxHeartbeats 4000000 in
theorem rune_1 (r : Int) (rs : ByteArray) (h0 : 128 ≤ r) (he' : (r == 65533) = false) (hv : Lib.validRune r = true) (hcv : ∀ w, (convert 21 9 (.int .i32 r)).run Tryz.prog w = .ok (.string rs) w) (hm : rs.size = 2) (h128 : ∀ h : 1 < rs.size, 128 ≤ (rs[1]'h).toNat) (w : World) :
    Calls Tryz.prog 223 #[.string opB, .int .i32 r] w fun e w' => e = .returned (.int .i64 (-1)) ∧ Below w.heap.size w w' := by
  have a1 : ¬ (r < 128) := by omega
  have a0 : (0 : Int) ≤ r := by omega
  have hos : opB.size = 4 := rfl
  obtain ⟨c, hc⟩ : ∃ c : UInt8, rs[1]'(by omega) = c := ⟨_, rfl⟩
  have hc128 : 128 ≤ c.toNat := by
    rw [← hc]
    exact h128 _
  have hIB : Hid (∀ i w, Calls Tryz.prog 219 #[.string (opB.extract i 4), .int .u8 c.toNat] w fun e w' => e = .returned (.int .i64 (-1)) ∧ w' = w) := fun i w => indexByte_op i c hc128 w
  have hne : ((33 : Int) == (c.toNat : Int)) = false := by
    rw [beq_eq_false_iff_ne]
    omega
  have hne2 : ((33 : Int) != (c.toNat : Int)) = true := by simpa using hne
  have hx1 : ∀ w, (Instr.index 9 (.string rs) (.int .i64 1)).run Tryz.prog w = .ok (.int .u8 c.toNat) w := fun w => by
    have := index_str rs 1 (by omega) w
    rw [hc] at this
    exact this
  have hx2 : ∀ w, (Instr.index 9 (.string opB) (.int .i64 1)).run Tryz.prog w = .ok (.int .u8 33) w := fun w => by kernel_rfl
  have hadd : ∀ w, (binOp .add 3 (.int .i64 1) (.int .i64 1)).run Tryz.prog w = .ok (.int .i64 2) w := fun w => by kernel_rfl
  have hsl : ∀ w, (Instr.sliceAt 9 (.string opB) (some (.int .i64 2)) none none).run Tryz.prog w = .ok (.string (opB.extract 2 4)) w := fun w => slice_str opB 2 (by decide) w
  clear hc h128 hne
  go_enter Tryz.func223, Tryz.ntmps223
  go_wp2_with (first | (go_at_call 227; go_must (refine (Tryz.utf8_ValidRune _ _).mono ?_; rintro e w' ⟨rfl, rfl⟩; rw [hv])))
  apply wp_scope_straight
  go_wp2
  go_loop [9, 10] (fun i f => i = .int .i64 1 ∧ f = .int .i64 0) (fun _ _ => 0)
  case atStart => exact ⟨rfl, rfl⟩
  case round =>
    obtain ⟨rfl, rfl⟩ := hrel
    go_wp2
    apply wp_scope_straight
    go_wp2
    go_quiet (fail)
    go_wp2
    have hnl := Later.ne w'
    refine wp_region_later (by kernel_rfl) (by kernel_rfl) ?_
    iterate 2 (go_big_quiet_step (fail))
    refine wpQuiet_val (.int .i64 2) rfl (fun w => run_val (hadd w)) ?_
    simp only [Act.put, List.setIfInBounds_toArray, List.set_cons_succ, List.set_cons_zero]
    refine wpQuiet_val (.string (opB.extract 2 4)) rfl (fun w => run_val (hsl w)) ?_
    simp only [Act.put, List.setIfInBounds_toArray, List.set_cons_succ, List.set_cons_zero]
    iterate 2 (go_big_quiet_step (fail))
    refine wpQuiet_val (.int .u8 c.toNat) rfl (fun w => run_val (hx1 w)) ?_
    simp only [Act.put, List.setIfInBounds_toArray, List.set_cons_succ, List.set_cons_zero]
    repeat (go_big_quiet_step (first | (go_at_call 219; exact Calls.later_same (hIB.out _ _))))
    refine wpQuiet_nil ?_
    rintro wx ⟨⟨_, hx⟩, rfl⟩
    go_wp2
    simp only [Exit.noGoto]
    go_wp2
    simp only [Exit.noGoto]
    go_wp2
    go_ret
    exact ⟨rfl, Below.trans (Below.drewN_ (Below.refl _ _) _) hx⟩

set_option maxHeartbeats 4000000 in
theorem rune_2 (r : Int) (rs : ByteArray) (h0 : 128 ≤ r) (he' : (r == 65533) = false) (hv : Lib.validRune r = true) (hcv : ∀ w, (convert 21 9 (.int .i32 r)).run Tryz.prog w = .ok (.string rs) w) (hm : rs.size = 3) (h128 : ∀ h : 2 < rs.size, 128 ≤ (rs[2]'h).toNat) (w : World) :
    Calls Tryz.prog 223 #[.string opB, .int .i32 r] w fun e w' => e = .returned (.int .i64 (-1)) ∧ Below w.heap.size w w' := by
  have a1 : ¬ (r < 128) := by omega
  have a0 : (0 : Int) ≤ r := by omega
  have hos : opB.size = 4 := rfl
  obtain ⟨c, hc⟩ : ∃ c : UInt8, rs[2]'(by omega) = c := ⟨_, rfl⟩
  have hc128 : 128 ≤ c.toNat := by
    rw [← hc]
    exact h128 _
  have hIB : Hid (∀ i w, Calls Tryz.prog 219 #[.string (opB.extract i 4), .int .u8 c.toNat] w fun e w' => e = .returned (.int .i64 (-1)) ∧ w' = w) := fun i w => indexByte_op i c hc128 w
  have hne : ((60 : Int) == (c.toNat : Int)) = false := by
    rw [beq_eq_false_iff_ne]
    omega
  have hne2 : ((60 : Int) != (c.toNat : Int)) = true := by simpa using hne
  have hx1 : ∀ w, (Instr.index 9 (.string rs) (.int .i64 2)).run Tryz.prog w = .ok (.int .u8 c.toNat) w := fun w => by
    have := index_str rs 2 (by omega) w
    rw [hc] at this
    exact this
  have hx2 : ∀ w, (Instr.index 9 (.string opB) (.int .i64 2)).run Tryz.prog w = .ok (.int .u8 60) w := fun w => by kernel_rfl
  have hadd : ∀ w, (binOp .add 3 (.int .i64 2) (.int .i64 1)).run Tryz.prog w = .ok (.int .i64 3) w := fun w => by kernel_rfl
  have hsl : ∀ w, (Instr.sliceAt 9 (.string opB) (some (.int .i64 3)) none none).run Tryz.prog w = .ok (.string (opB.extract 3 4)) w := fun w => slice_str opB 3 (by decide) w
  clear hc h128 hne
  go_enter Tryz.func223, Tryz.ntmps223
  go_wp2_with (first | (go_at_call 227; go_must (refine (Tryz.utf8_ValidRune _ _).mono ?_; rintro e w' ⟨rfl, rfl⟩; rw [hv])))
  apply wp_scope_straight
  go_wp2
  go_loop [9, 10] (fun i f => i = .int .i64 2 ∧ f = .int .i64 0) (fun _ _ => 0)
  case atStart => exact ⟨rfl, rfl⟩
  case round =>
    obtain ⟨rfl, rfl⟩ := hrel
    go_wp2
    apply wp_scope_straight
    go_wp2
    go_quiet (fail)
    go_wp2
    have hnl := Later.ne w'
    refine wp_region_later (by kernel_rfl) (by kernel_rfl) ?_
    iterate 2 (go_big_quiet_step (fail))
    refine wpQuiet_val (.int .i64 3) rfl (fun w => run_val (hadd w)) ?_
    simp only [Act.put, List.setIfInBounds_toArray, List.set_cons_succ, List.set_cons_zero]
    refine wpQuiet_val (.string (opB.extract 3 4)) rfl (fun w => run_val (hsl w)) ?_
    simp only [Act.put, List.setIfInBounds_toArray, List.set_cons_succ, List.set_cons_zero]
    iterate 2 (go_big_quiet_step (fail))
    refine wpQuiet_val (.int .u8 c.toNat) rfl (fun w => run_val (hx1 w)) ?_
    simp only [Act.put, List.setIfInBounds_toArray, List.set_cons_succ, List.set_cons_zero]
    repeat (go_big_quiet_step (first | (go_at_call 219; exact Calls.later_same (hIB.out _ _))))
    refine wpQuiet_nil ?_
    rintro wx ⟨⟨_, hx⟩, rfl⟩
    go_wp2
    simp only [Exit.noGoto]
    go_wp2
    simp only [Exit.noGoto]
    go_wp2
    go_ret
    exact ⟨rfl, Below.trans (Below.drewN_ (Below.refl _ _) _) hx⟩

set_option maxHeartbeats 4000000 in
theorem rune_3 (r : Int) (rs : ByteArray) (h0 : 128 ≤ r) (he' : (r == 65533) = false) (hv : Lib.validRune r = true) (hcv : ∀ w, (convert 21 9 (.int .i32 r)).run Tryz.prog w = .ok (.string rs) w) (hm : rs.size = 4) (h128 : ∀ h : 3 < rs.size, 128 ≤ (rs[3]'h).toNat) (w : World) :
    Calls Tryz.prog 223 #[.string opB, .int .i32 r] w fun e w' => e = .returned (.int .i64 (-1)) ∧ Below w.heap.size w w' := by
  have a1 : ¬ (r < 128) := by omega
  have a0 : (0 : Int) ≤ r := by omega
  have hos : opB.size = 4 := rfl
  obtain ⟨c, hc⟩ : ∃ c : UInt8, rs[3]'(by omega) = c := ⟨_, rfl⟩
  have hc128 : 128 ≤ c.toNat := by
    rw [← hc]
    exact h128 _
  have hIB : Hid (∀ w, Calls Tryz.prog 219 #[.string ByteArray.empty, .int .u8 c.toNat] w fun e w' => e = .returned (.int .i64 (-1)) ∧ w' = w) := fun w => Tryz.strings_IndexByte ByteArray.empty c.toNat w
  have hne : ((62 : Int) == (c.toNat : Int)) = false := by
    rw [beq_eq_false_iff_ne]
    omega
  have hne2 : ((62 : Int) != (c.toNat : Int)) = true := by simpa using hne
  have hx1 : ∀ w, (Instr.index 9 (.string rs) (.int .i64 3)).run Tryz.prog w = .ok (.int .u8 c.toNat) w := fun w => by
    have := index_str rs 3 (by omega) w
    rw [hc] at this
    exact this
  have hx2 : ∀ w, (Instr.index 9 (.string opB) (.int .i64 3)).run Tryz.prog w = .ok (.int .u8 62) w := fun w => by kernel_rfl
  have hadd : ∀ w, (binOp .add 3 (.int .i64 3) (.int .i64 1)).run Tryz.prog w = .ok (.int .i64 4) w := fun w => by kernel_rfl
  have hsl : ∀ w, (Instr.sliceAt 9 (.string opB) (some (.int .i64 4)) none none).run Tryz.prog w = .ok (.string ByteArray.empty) w := fun w => by have := slice_str opB 4 (by decide) w; rw [show opB.extract 4 opB.size = ByteArray.empty by decide +kernel] at this; exact this
  clear hc h128 hne
  go_enter Tryz.func223, Tryz.ntmps223
  go_wp2_with (first | (go_at_call 227; go_must (refine (Tryz.utf8_ValidRune _ _).mono ?_; rintro e w' ⟨rfl, rfl⟩; rw [hv])))
  apply wp_scope_straight
  go_wp2
  go_loop [9, 10] (fun i f => i = .int .i64 3 ∧ f = .int .i64 0) (fun _ _ => 0)
  case atStart => exact ⟨rfl, rfl⟩
  case round =>
    obtain ⟨rfl, rfl⟩ := hrel
    go_wp2
    apply wp_scope_straight
    go_wp2
    go_quiet (fail)
    go_wp2
    have hnl := Later.ne w'
    refine wp_region_later (by kernel_rfl) (by kernel_rfl) ?_
    iterate 2 (go_big_quiet_step (fail))
    refine wpQuiet_val (.int .i64 4) rfl (fun w => run_val (hadd w)) ?_
    simp only [Act.put, List.setIfInBounds_toArray, List.set_cons_succ, List.set_cons_zero]
    refine wpQuiet_val (.string ByteArray.empty) rfl (fun w => run_val (hsl w)) ?_
    simp only [Act.put, List.setIfInBounds_toArray, List.set_cons_succ, List.set_cons_zero]
    iterate 2 (go_big_quiet_step (fail))
    refine wpQuiet_val (.int .u8 c.toNat) rfl (fun w => run_val (hx1 w)) ?_
    simp only [Act.put, List.setIfInBounds_toArray, List.set_cons_succ, List.set_cons_zero]
    repeat (go_big_quiet_step (first | (go_at_call 219; exact Calls.later_same (hIB.out _))))
    refine wpQuiet_nil ?_
    rintro wx ⟨⟨_, hx⟩, rfl⟩
    go_wp2
    simp only [Exit.noGoto]
    go_wp2
    simp only [Exit.noGoto]
    go_wp2
    go_ret
    exact ⟨rfl, Below.trans (Below.drewN_ (Below.refl _ _) _) hx⟩

set_option maxHeartbeats 4000000 in
theorem indexRune_high (r : Int) (h0 : 128 ≤ r) (h1 : r ≤ 2147483647) (w : World) :
    Calls Tryz.prog 223 #[.string opB, .int .i32 r] w fun e w' => e = .returned (.int .i64 (-1)) ∧ Below w.heap.size w w' := by
  have a1 : ¬ (r < 128) := by omega
  have a0 : (0 : Int) ≤ r := by omega
  by_cases he : r = 65533
  · subst he
    go_enter Tryz.func223, Tryz.ntmps223
    go_wp2
    have hbi : ∀ i, Below w.heap.size w (w.iter opB i) := fun i => (Below.refl _ _).alloc (Nat.le_refl _) _
    go_loopw [5, 6] (fun _ _ wr => ∃ i, i ≤ 4 ∧ wr = w.iter opB i) (fun _ _ wr => 4 - wr.iterPos w.heap.size)
    case atStart => exact ⟨0, by omega, rfl⟩
    case round =>
      obtain ⟨i, hi, rfl⟩ := hrel
      have hi' : i = 0 ∨ i = 1 ∨ i = 2 ∨ i = 3 ∨ i = 4 := by omega
      rcases hi' with rfl | rfl | rfl | rfl | rfl
      · have hnx := fun ty => run_next_ascii (P := Tryz.prog) w opB 0 ty (by decide) (by decide)
        rw [show (opB[0]'(by decide)).toNat = 61 by decide] at hnx
        go_wp2
        exact ⟨⟨1, by omega, rfl⟩, by simp⟩
      · have hnx := fun ty => run_next_ascii (P := Tryz.prog) w opB 1 ty (by decide) (by decide)
        rw [show (opB[1]'(by decide)).toNat = 33 by decide] at hnx
        go_wp2
        exact ⟨⟨2, by omega, rfl⟩, by simp⟩
      · have hnx := fun ty => run_next_ascii (P := Tryz.prog) w opB 2 ty (by decide) (by decide)
        rw [show (opB[2]'(by decide)).toNat = 60 by decide] at hnx
        go_wp2
        exact ⟨⟨3, by omega, rfl⟩, by simp⟩
      · have hnx := fun ty => run_next_ascii (P := Tryz.prog) w opB 3 ty (by decide) (by decide)
        rw [show (opB[3]'(by decide)).toNat = 62 by decide] at hnx
        go_wp2
        exact ⟨⟨4, by omega, rfl⟩, by simp⟩
      · have hnx := run_next_end (P := Tryz.prog) w opB 4
        have hz : ¬ 4 < opB.size := by decide
        go_wp2
        go_ret
        exact ⟨rfl, hbi _⟩
  · have he' : (r == 65533) = false := by simpa using he
    by_cases hv : Lib.validRune r = true
    · have hv2 : Utf8.valid r = true := by rw [validRune_eq]; exact hv
      obtain ⟨s1, s2, s3⟩ := encode_facts r hv2 h0
      have hcv : ∀ w, (convert 21 9 (.int .i32 r)).run Tryz.prog w = .ok (.string (Utf8.encode r)) w := fun w => run_convert_int_string w _ _ _ _ (by kernel_rfl) Tryz.underlying9
      generalize Utf8.encode r = rs at *
      have hm : rs.size = 2 ∨ rs.size = 3 ∨ rs.size = 4 := by omega
      rcases hm with hm | hm | hm
      · exact rune_1 r rs h0 he' hv hcv hm (fun h => by have := s3 (by omega); simp only [hm] at this; exact this) w
      · exact rune_2 r rs h0 he' hv hcv hm (fun h => by have := s3 (by omega); simp only [hm] at this; exact this) w
      · exact rune_3 r rs h0 he' hv hcv hm (fun h => by have := s3 (by omega); simp only [hm] at this; exact this) w
    · have hv' : Lib.validRune r = false := by simpa using hv
      go_enter Tryz.func223, Tryz.ntmps223
      go_wp2_with (first | (go_at_call 227; go_must (refine (Tryz.utf8_ValidRune _ _).mono ?_; rintro e w' ⟨rfl, rfl⟩; rw [hv'])))
      go_ret
      exact ⟨rfl, Below.refl _ _⟩


end Go.Proofs.YtdfcfinjoghipacGreatDoor
end
section
/- strings.IndexAny of the signs of the operations, at every text. -/
set_option linter.all false
set_option maxRecDepth 100000
namespace Go.Proofs.YtdfcfinjoghipacGreatDoor
open Go.RowKit Go.Maps

theorem noAny_wide {s : ByteArray} {i : Nat} (h : Lib.NoAny s.data.toList opC i) (hi : i < s.size) (hx : 128 ≤ (s[i]'hi).toNat) : Lib.NoAny s.data.toList opC (i + (Utf8.decode s i).2) := by
  intro j b hj hb
  by_cases h1 : j < i
  · exact h j b h1 hb
  · have hjs : j < s.size := by
      have := (List.getElem?_eq_some_iff.1 hb).1
      rw [← Lib.size_eq] at this
      exact this
    have hbe : b = s[j]'hjs := by
      rw [Lib.data_getElem? s j hjs] at hb
      exact (Option.some.inj hb).symm
    apply opC_high
    by_cases h2 : j = i
    · subst h2; rw [hbe]; exact hx
    · have := decode_cont s i (j - i) (by omega) (by omega)
      rw [show i + (j - i) = j by omega] at this
      rw [hbe]
      have e : s.get! j = s[j]'hjs := get_at s j hjs
      rw [← e]
      exact this

set_option maxHeartbeats 4000000 in
theorem indexAny_short (s : ByteArray) (h8 : s.size ≤ 8) (w : World) :
    Calls Tryz.prog 218 #[.string s, .string opB] w fun e w' => e = .returned (.int .i64 (Lib.indexAny s.data.toList opC)) ∧ Below w.heap.size w w' := by
  have hos : opB.size = 4 := rfl
  have h8z : decide ((8 : Int) < (s.size : Int)) = false := decide_eq_false (by omega)
  have hemp : opB.toList.isEmpty = false := by rw [Lib.toList_data]; rfl
  have hb0 : Below w.heap.size w (w.iter s 0) := (Below.refl _ _).alloc (Nat.le_refl _) _
  go_enter Tryz.func218, Tryz.ntmps218
  go_wp2_with (first | (go_at_call 224; go_must (refine (Tryz.strings_shouldUseASCIISet _ _).mono ?_; rintro e w' ⟨rfl, hw⟩; rw [hw, h8z]; clear hw)))
  go_loopw [9, 10] (fun _ _ wr => ∃ i, Hid (wr.heap[w.heap.size]? = some (.stringIter s i)) ∧ Below w.heap.size w wr ∧ Hid (Lib.NoAny s.data.toList opC i)) (fun _ _ wr => s.size - wr.iterPos w.heap.size)
  case atStart => exact ⟨0, World.iter_heap w s 0, hb0, Lib.NoAny.zero _ _⟩
  case round =>
    obtain ⟨i, HK, hbr, HN⟩ := hrel
    have hip : wr.iterPos w.heap.size = i := by unfold World.iterPos; rw [HK.out]
    have hlt := lt_of_block HK.out
    by_cases hi : i < s.size
    · obtain ⟨x, hx⟩ : ∃ x : UInt8, s[i]'hi = x := ⟨_, rfl⟩
      have hxl : Hid (s.data.toList[i]? = some x) := by rw [← hx]; exact Lib.data_getElem? s i hi
      by_cases h128 : x.toNat < 128
      · have hnx := fun ty => Lib.run_next_ascii_at (P := Tryz.prog) wr w.heap.size s i ty HK.out hi (by rw [hx]; exact h128)
        rw [hx] at hnx
        have HK2 : Hid ((wr.iterAt w.heap.size s (i + 1)).heap[w.heap.size]? = some (.stringIter s (i + 1))) := Lib.iterAt_heap wr _ s i (i + 1) HK.out
        have hb2 : Below w.heap.size w (wr.iterAt w.heap.size s (i + 1)) := Lib.below_iterAt hbr (Nat.le_refl _) _ _
        have hcon := Lib.contains_iff_indexByte opC x
        have hback : ((x.toNat : Int)).toNat.toUInt8 = x := by simp
        generalize wr.iterAt w.heap.size s (i + 1) = W at *
        clear hx
        cases hin : opC.contains x
        · rw [hin] at hcon
          have hltz : ¬ ((0 : Int) ≤ Lib.indexByte opC x) := of_decide_eq_false hcon.symm
          have HN2 : Hid (Lib.NoAny s.data.toList opC (i + 1)) := HN.out.succ hxl.out hin
          clear hcon
          have hC : Hid (∀ w, Calls Tryz.prog 223 #[.string opB, .int .i32 x.toNat] w fun e w' => e = .returned (.int .i64 (Lib.indexByte opC x)) ∧ w' = w) := fun w => by
            have := Tryz.strings_IndexRune_ascii opB x.toNat w (by omega) (by omega)
            rw [hback] at this
            exact this
          generalize Lib.indexByte opC x = ix at *
          go_wp2_with (first | (go_at_call 223; go_must (refine (hC.out _).mono ?_; rintro e w' ⟨rfl, rfl⟩)))
          have hip2 : w'.iterPos w.heap.size = i + 1 := by unfold World.iterPos; rw [HK2.out]
          exact ⟨⟨i + 1, HK2, hb2, HN2⟩, by rw [hip, hip2]; omega⟩
        · rw [hin] at hcon
          have hgez : (0 : Int) ≤ Lib.indexByte opC x := of_decide_eq_true hcon.symm
          have HN2 : Hid (Lib.indexAny s.data.toList opC = i) := Lib.indexAny_hit HN.out hxl.out hin
          clear hcon
          have hC : Hid (∀ w, Calls Tryz.prog 223 #[.string opB, .int .i32 x.toNat] w fun e w' => e = .returned (.int .i64 (Lib.indexByte opC x)) ∧ w' = w) := fun w => by
            have := Tryz.strings_IndexRune_ascii opB x.toNat w (by omega) (by omega)
            rw [hback] at this
            exact this
          generalize Lib.indexByte opC x = ix at *
          go_wp2_with (first | (go_at_call 223; go_must (refine (hC.out _).mono ?_; rintro e w' ⟨rfl, rfl⟩)))
          go_ret
          exact ⟨by rw [HN2.out]; rfl, hb2⟩
      · have hx128 : 128 ≤ (s[i]'hi).toNat := by rw [hx]; omega
        obtain ⟨d1, d2⟩ := decode_high s i hi hx128
        have d3 := decode_le s i
        have HN2 : Hid (Lib.NoAny s.data.toList opC (i + (Utf8.decode s i).2)) := noAny_wide HN.out hi hx128
        have hnx := fun ty => Lib.run_next_any_at (P := Tryz.prog) wr w.heap.size s i ty HK.out hi
        have HK2 : Hid ((wr.iterAt w.heap.size s (i + (Utf8.decode s i).2)).heap[w.heap.size]? = some (.stringIter s (i + (Utf8.decode s i).2))) := Lib.iterAt_heap wr _ s i _ HK.out
        have hb2 : Below w.heap.size w (wr.iterAt w.heap.size s (i + (Utf8.decode s i).2)) := Lib.below_iterAt hbr (Nat.le_refl _) _ _
        generalize wr.iterAt w.heap.size s (i + (Utf8.decode s i).2) = W at *
        have hC : Hid (∀ w, Calls Tryz.prog 223 #[.string opB, .int .i32 (Utf8.decode s i).1] w fun e w' => e = .returned (.int .i64 (-1)) ∧ Below w.heap.size w w') := fun w => indexRune_high _ (by omega) (by omega) w
        generalize (Utf8.decode s i).1 = r at *
        generalize (Utf8.decode s i).2 = wd at *
        clear hx hx128 hxl
        have hlt2 := lt_of_block HK2.out
        go_wp2_with (first | (go_at_call 223; go_must (refine (hC.out _).mono ?_; rintro e w' ⟨rfl, hb3⟩)))
        have HK3 : w'.heap[w.heap.size]? = some (.stringIter s (i + wd)) := (hb3.block w.heap.size hlt2).trans HK2.out
        have hip2 : w'.iterPos w.heap.size = i + wd := by unfold World.iterPos; rw [HK3]
        exact ⟨⟨i + wd, HK3, Below.thenOf hb2 hb3 hb2.size, HN2⟩, by rw [hip, hip2]; omega⟩
    · have hnx := fun ty => Lib.run_next_end_at (P := Tryz.prog) wr w.heap.size s i ty HK.out hi
      have HN2 : Hid (Lib.indexAny s.data.toList opC = -1) := Lib.indexAny_none (fun j b hj hb => HN.out j b (by rw [← Lib.size_eq] at hj; omega) hb)
      go_wp2
      go_ret
      exact ⟨by rw [HN2.out]; rfl, hbr⟩

/-- At every text. -/
theorem indexAny_any (s : ByteArray) (hs : s.size < 4294967281) (w : World) :
    Calls Tryz.prog 218 #[.string s, .string opB] w fun e w' => e = .returned (.int .i64 (Lib.indexAny s.data.toList opC)) ∧ Below w.heap.size w w' := by
  by_cases h8 : s.size ≤ 8
  · exact indexAny_short s h8 w
  · refine (Tryz.strings_IndexAny_long (fun w => by kernel_rfl) s opB w (by decide) (by omega) hs (by decide) (fun j b hb => ?_)).mono ?_
    · have hb' := List.mem_of_getElem? hb
      rw [opB_list] at hb'
      simp [opC] at hb'
      rcases hb' with rfl | rfl | rfl | rfl <;> decide
    · rintro e w' ⟨rfl, rfl⟩
      exact ⟨rfl, ((Below.refl _ _).alloc (Nat.le_refl _) _).alloc (by simp) _⟩

end Go.Proofs.YtdfcfinjoghipacGreatDoor
end
section
/- What the program's own reader of a number, of a verdict's name says. -/
set_option linter.all false
set_option maxRecDepth 100000
namespace Go.Proofs.YtdfcfinjoghipacGreatDoor
open Go.RowKit Go.Maps

theorem atoiAll_in {l : Bs} {v : Int} (h : Lib.atoiAll l = .ok v) : -9223372036854775808 ≤ v ∧ v ≤ 9223372036854775807 := by
  unfold Lib.atoiAll at h
  split at h
  · cases h
  · simp only [] at h
    split at h
    · cases h
    · cases h
    · split at h
      · cases h
      · split at h
        · cases h
        · cases h
          split <;> omega

set_option maxHeartbeats 2000000 in
theorem number_any (s : ByteArray) (hs : s.size ≤ 4294967280) (w : World) (he : EnvT w) :
    Calls Tryz.prog 107 #[.string s] w fun e w' => ∃ n ok, e = .returned (.tuple #[.int .i64 n, .bool ok]) ∧ (numOf s.data.toList = if ok = true then some n else none) ∧ wf n ∧ Below w.heap.size w w' := by
  cases hA : Lib.atoiAll s.data.toList with
  | ok v =>
    obtain ⟨v0, v1⟩ := atoiAll_in hA
    have hwf : wf v := by unfold wf; exact WalkArith.wf_i64 (by omega)
    have HIt : Hid (∀ w', Below w.heap.size w w' → Calls Tryz.prog 57 #[.int .i64 v] w' fun e w'' => e = .returned (.string ⟨(Lib.itoa v).toArray⟩) ∧ Below w'.heap.size w' w'') := fun w' hb =>
      (Tryz.strconv_Itoa v v0 v1 w' (he.later hb).2.2.2).mono (by rintro e w2 ⟨rfl, k, os, rfl⟩; exact ⟨rfl, Lib.below_grow _ _ (Nat.le_refl _) _ _⟩)
    have HAt : Hid (Calls Tryz.prog 142 #[.string s] w fun e w' => e = .returned (.tuple #[.int .i64 v, .nilIface]) ∧ Below w.heap.size w w') :=
      (Tryz.strconv_Atoi_ok s (by omega) v hA w).mono (fun e w2 h => ⟨h.1, by rcases h.2 with rfl | ⟨t, h⟩; (exact Below.refl _ _); (exact bytesWorld_below _ _ _ _ h)⟩)
    have hN : Hid (numOf s.data.toList = if Lib.itoa v = s.data.toList then some v else none) := by unfold Hid numOf; rw [hA]
    have hwfH : Hid (wf v) := hwf
    clear hwf hA
    by_cases hq : Lib.itoa v = s.data.toList
    · have hd : (Lib.itoa v).toArray = s.data := by rw [hq]
      have HN : Hid (numOf s.data.toList = some v) := by unfold Hid; rw [hN.out, if_pos hq]
      clear hN hq
      go_enter Tryz.func107, Tryz.ntmps107
      go_wp2_with fail
      go_at_call 142
      refine Calls.mono HAt.out ?_
      rintro e w1 ⟨rfl, hb1⟩
      go_wp2_with fail
      go_at_call 57
      refine Calls.mono (HIt.out _ hb1) ?_
      rintro e w2 ⟨rfl, hb2⟩
      go_wp2_with fail
      go_ret2
      exact ⟨v, true, rfl, by rw [HN.out]; rfl, hwfH.out, Below.thenOf hb1 hb2 hb1.size⟩
    · have hd : (Lib.itoa v == s.toList) = false := by
        rw [Lib.toList_data]
        simpa using hq
      have HN : Hid (numOf s.data.toList = none) := by unfold Hid; rw [hN.out, if_neg hq]
      clear hN hq
      go_enter Tryz.func107, Tryz.ntmps107
      go_wp2_with fail
      go_at_call 142
      refine Calls.mono HAt.out ?_
      rintro e w1 ⟨rfl, hb1⟩
      go_wp2_with fail
      go_at_call 57
      refine Calls.mono (HIt.out _ hb1) ?_
      rintro e w2 ⟨rfl, hb2⟩
      go_wp2_with fail
      go_ret2
      exact ⟨0, false, rfl, by rw [HN.out]; rfl, by unfold wf; decide, Below.thenOf hb1 hb2 hb1.size⟩
  | «syntax» =>
    obtain ⟨ev, e1, e2⟩ := he.2.1
    have HAt : Hid (Calls Tryz.prog 142 #[.string s] w fun e w' => ∃ n t p, e = .returned (.tuple #[.int .i64 n, .iface t (.pointer (some p))]) ∧ wf n ∧ Below w.heap.size w w') :=
      (Tryz.strconv_Atoi_syntax s (by omega) hA ev w e1 e2).mono (by rintro e w2 ⟨N, rfl, _, _, hb⟩; exact ⟨0, _, _, rfl, by unfold wf; decide, hb⟩)
    have HN : Hid (numOf s.data.toList = none) := by unfold Hid numOf; rw [hA]
    clear hA e1 e2
    go_enter Tryz.func107, Tryz.ntmps107
    go_wp2_with fail
    go_at_call 142
    refine Calls.mono HAt.out ?_
    rintro e w1 ⟨n, t, p, rfl, hwf, hb1⟩
    have hwfH : Hid (wf n) := hwf
    clear hwf
    go_wp2_with fail
    go_ret2
    exact ⟨0, false, rfl, by rw [HN.out]; rfl, by unfold wf; decide, hb1⟩
  | range =>
    obtain ⟨ev, e1, e2⟩ := he.2.2.1
    have HAt : Hid (Calls Tryz.prog 142 #[.string s] w fun e w' => ∃ n t p, e = .returned (.tuple #[.int .i64 n, .iface t (.pointer (some p))]) ∧ wf n ∧ Below w.heap.size w w') :=
      (Tryz.strconv_Atoi_range s (by omega) hA ev w e1 e2).mono (by rintro e w2 ⟨N, rfl, _, _, hb⟩; exact ⟨_, _, _, rfl, by unfold wf Lib.atoiSat; split <;> decide, hb⟩)
    have HN : Hid (numOf s.data.toList = none) := by unfold Hid numOf; rw [hA]
    clear hA e1 e2
    go_enter Tryz.func107, Tryz.ntmps107
    go_wp2_with fail
    go_at_call 142
    refine Calls.mono HAt.out ?_
    rintro e w1 ⟨n, t, p, rfl, hwf, hb1⟩
    have hwfH : Hid (wf n) := hwf
    clear hwf
    go_wp2_with fail
    go_ret2
    exact ⟨0, false, rfl, by rw [HN.out]; rfl, by unfold wf; decide, hb1⟩

/-! Names. -/
def bsB (l : Bs) : ByteArray := ⟨l.toArray⟩
theorem idxOfS_idxL : ∀ (ns : List Bs) (x : ByteArray), Lib.idxOfS (ns.map bsB) x = idxL ns x.data.toList := by
  have key : ∀ (ns : List Bs) (x : ByteArray) (i : Nat), Lib.idxFromS (ns.map bsB) x i = if idxL ns x.data.toList = -1 then -1 else idxL ns x.data.toList + i := by
    intro ns x
    induction ns with
    | nil => intro i; simp [Lib.idxFromS, idxL]
    | cons n r ih =>
      intro i
      have hge := idxL_ge r x.data.toList
      have hbe : (bsB n = x) ↔ n = x.data.toList := by
        constructor
        · intro h; rw [← h]; simp [bsB]
        · intro h; rw [h]; cases x; simp [bsB]
      rw [List.map_cons, Lib.idxFromS, ih (i + 1), idxL]
      by_cases h : n = x.data.toList
      · rw [if_pos (hbe.2 h), if_pos h]
        simp
      · have h' : ¬ (bsB n = x) := fun e => h (hbe.1 e)
        simp only [h, h', if_false]
        by_cases h2 : idxL r x.data.toList = -1
        · simp [h2]
        · simp only [h2, if_false]
          split <;> omega
  intro ns x
  have := key ns x 0
  unfold Lib.idxOfS
  rw [this]
  split
  · rename_i h; exact h.symm
  · simp

end Go.Proofs.YtdfcfinjoghipacGreatDoor
end
