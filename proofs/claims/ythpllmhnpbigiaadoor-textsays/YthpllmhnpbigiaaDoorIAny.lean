/- strings.IndexAny of the signs of the operations, at every text. -/
import Derived.Test.YthpllmhnpbigiaaDoorIRune
set_option linter.all false
set_option maxRecDepth 100000
namespace Go.Proofs.YthpllmhnpbigiaaDoor
open Go.RowKit Go.Maps

theorem noAny_wide {s : ByteArray} {i : Nat} (h : Lib.NoAny s.data.toList opC i) (hi : i < s.size) (hx : 128 ≤ (s[i]'hi).toNat) : Lib.NoAny s.data.toList opC (i + (Utf8.decode s i).2) := by
  intro j b hj hb
  by_cases h1 : j < i
  · exact h j b h1 hb
  · have hjs : j < s.size := by
      have := (List.getElem?_eq_some_iff.1 hb).1
      rw [← Lib.size_eq] at this
      exact this
    have hbe : b = s[j]'hjs := by
      rw [Lib.data_getElem? s j hjs] at hb
      exact (Option.some.inj hb).symm
    apply opC_high
    by_cases h2 : j = i
    · subst h2; rw [hbe]; exact hx
    · have := decode_cont s i (j - i) (by omega) (by omega)
      rw [show i + (j - i) = j by omega] at this
      rw [hbe]
      have e : s.get! j = s[j]'hjs := get_at s j hjs
      rw [← e]
      exact this

set_option maxHeartbeats 4000000 in
theorem indexAny_short (s : ByteArray) (h8 : s.size ≤ 8) (w : World) :
    Calls Tryd.prog 94 #[.string s, .string opB] w fun e w' => e = .returned (.int .i64 (Lib.indexAny s.data.toList opC)) ∧ Below w.heap.size w w' := by
  have hos : opB.size = 4 := rfl
  have h8z : decide ((8 : Int) < (s.size : Int)) = false := decide_eq_false (by omega)
  have hemp : opB.toList.isEmpty = false := by rw [Lib.toList_data]; rfl
  have hb0 : Below w.heap.size w (w.iter s 0) := (Below.refl _ _).alloc (Nat.le_refl _) _
  go_enter Tryd.func94, Tryd.ntmps94
  go_wp2_with (first | (go_at_call 116; go_must (refine (Tryd.strings_shouldUseASCIISet _ _).mono ?_; rintro e w' ⟨rfl, hw⟩; rw [hw, h8z]; clear hw)))
  go_loopw [9, 10] (fun _ _ wr => ∃ i, Hid (wr.heap[w.heap.size]? = some (.stringIter s i)) ∧ Below w.heap.size w wr ∧ Hid (Lib.NoAny s.data.toList opC i)) (fun _ _ wr => s.size - wr.iterPos w.heap.size)
  case atStart => exact ⟨0, World.iter_heap w s 0, hb0, Lib.NoAny.zero _ _⟩
  case round =>
    obtain ⟨i, HK, hbr, HN⟩ := hrel
    have hip : wr.iterPos w.heap.size = i := by unfold World.iterPos; rw [HK.out]
    have hlt := lt_of_block HK.out
    by_cases hi : i < s.size
    · obtain ⟨x, hx⟩ : ∃ x : UInt8, s[i]'hi = x := ⟨_, rfl⟩
      have hxl : Hid (s.data.toList[i]? = some x) := by rw [← hx]; exact Lib.data_getElem? s i hi
      by_cases h128 : x.toNat < 128
      · have hnx := fun ty => Lib.run_next_ascii_at (P := Tryd.prog) wr w.heap.size s i ty HK.out hi (by rw [hx]; exact h128)
        rw [hx] at hnx
        have HK2 : Hid ((wr.iterAt w.heap.size s (i + 1)).heap[w.heap.size]? = some (.stringIter s (i + 1))) := Lib.iterAt_heap wr _ s i (i + 1) HK.out
        have hb2 : Below w.heap.size w (wr.iterAt w.heap.size s (i + 1)) := Lib.below_iterAt hbr (Nat.le_refl _) _ _
        have hcon := Lib.contains_iff_indexByte opC x
        have hback : ((x.toNat : Int)).toNat.toUInt8 = x := by simp
        generalize wr.iterAt w.heap.size s (i + 1) = W at *
        clear hx
        cases hin : opC.contains x
        · rw [hin] at hcon
          have hltz : ¬ ((0 : Int) ≤ Lib.indexByte opC x) := of_decide_eq_false hcon.symm
          have HN2 : Hid (Lib.NoAny s.data.toList opC (i + 1)) := HN.out.succ hxl.out hin
          clear hcon
          have hC : Hid (∀ w, Calls Tryd.prog 115 #[.string opB, .int .i32 x.toNat] w fun e w' => e = .returned (.int .i64 (Lib.indexByte opC x)) ∧ w' = w) := fun w => by
            have := Tryd.strings_IndexRune_ascii opB x.toNat w (by omega) (by omega)
            rw [hback] at this
            exact this
          generalize Lib.indexByte opC x = ix at *
          go_wp2_with (first | (go_at_call 115; go_must (refine (hC.out _).mono ?_; rintro e w' ⟨rfl, rfl⟩)))
          have hip2 : w'.iterPos w.heap.size = i + 1 := by unfold World.iterPos; rw [HK2.out]
          exact ⟨⟨i + 1, HK2, hb2, HN2⟩, by rw [hip, hip2]; omega⟩
        · rw [hin] at hcon
          have hgez : (0 : Int) ≤ Lib.indexByte opC x := of_decide_eq_true hcon.symm
          have HN2 : Hid (Lib.indexAny s.data.toList opC = i) := Lib.indexAny_hit HN.out hxl.out hin
          clear hcon
          have hC : Hid (∀ w, Calls Tryd.prog 115 #[.string opB, .int .i32 x.toNat] w fun e w' => e = .returned (.int .i64 (Lib.indexByte opC x)) ∧ w' = w) := fun w => by
            have := Tryd.strings_IndexRune_ascii opB x.toNat w (by omega) (by omega)
            rw [hback] at this
            exact this
          generalize Lib.indexByte opC x = ix at *
          go_wp2_with (first | (go_at_call 115; go_must (refine (hC.out _).mono ?_; rintro e w' ⟨rfl, rfl⟩)))
          go_ret
          exact ⟨by rw [HN2.out]; rfl, hb2⟩
      · have hx128 : 128 ≤ (s[i]'hi).toNat := by rw [hx]; omega
        obtain ⟨d1, d2⟩ := decode_high s i hi hx128
        have d3 := decode_le s i
        have HN2 : Hid (Lib.NoAny s.data.toList opC (i + (Utf8.decode s i).2)) := noAny_wide HN.out hi hx128
        have hnx := fun ty => Lib.run_next_any_at (P := Tryd.prog) wr w.heap.size s i ty HK.out hi
        have HK2 : Hid ((wr.iterAt w.heap.size s (i + (Utf8.decode s i).2)).heap[w.heap.size]? = some (.stringIter s (i + (Utf8.decode s i).2))) := Lib.iterAt_heap wr _ s i _ HK.out
        have hb2 : Below w.heap.size w (wr.iterAt w.heap.size s (i + (Utf8.decode s i).2)) := Lib.below_iterAt hbr (Nat.le_refl _) _ _
        generalize wr.iterAt w.heap.size s (i + (Utf8.decode s i).2) = W at *
        have hC : Hid (∀ w, Calls Tryd.prog 115 #[.string opB, .int .i32 (Utf8.decode s i).1] w fun e w' => e = .returned (.int .i64 (-1)) ∧ Below w.heap.size w w') := fun w => indexRune_high _ (by omega) (by omega) w
        generalize (Utf8.decode s i).1 = r at *
        generalize (Utf8.decode s i).2 = wd at *
        clear hx hx128 hxl
        have hlt2 := lt_of_block HK2.out
        go_wp2_with (first | (go_at_call 115; go_must (refine (hC.out _).mono ?_; rintro e w' ⟨rfl, hb3⟩)))
        have HK3 : w'.heap[w.heap.size]? = some (.stringIter s (i + wd)) := (hb3.block w.heap.size hlt2).trans HK2.out
        have hip2 : w'.iterPos w.heap.size = i + wd := by unfold World.iterPos; rw [HK3]
        exact ⟨⟨i + wd, HK3, Below.thenOf hb2 hb3 hb2.size, HN2⟩, by rw [hip, hip2]; omega⟩
    · have hnx := fun ty => Lib.run_next_end_at (P := Tryd.prog) wr w.heap.size s i ty HK.out hi
      have HN2 : Hid (Lib.indexAny s.data.toList opC = -1) := Lib.indexAny_none (fun j b hj hb => HN.out j b (by rw [← Lib.size_eq] at hj; omega) hb)
      go_wp2
      go_ret
      exact ⟨by rw [HN2.out]; rfl, hbr⟩

/-- At every text. -/
theorem indexAny_any (s : ByteArray) (hs : s.size < 4294967281) (w : World) :
    Calls Tryd.prog 94 #[.string s, .string opB] w fun e w' => e = .returned (.int .i64 (Lib.indexAny s.data.toList opC)) ∧ Below w.heap.size w w' := by
  by_cases h8 : s.size ≤ 8
  · exact indexAny_short s h8 w
  · refine (Tryd.strings_IndexAny_long (fun w => by kernel_rfl) s opB w (by decide) (by omega) hs (by decide) (fun j b hb => ?_)).mono ?_
    · have hb' := List.mem_of_getElem? hb
      rw [opB_list] at hb'
      simp [opC] at hb'
      rcases hb' with rfl | rfl | rfl | rfl <;> decide
    · rintro e w' ⟨rfl, rfl⟩
      exact ⟨rfl, ((Below.refl _ _).alloc (Nat.le_refl _) _).alloc (by simp) _⟩

end Go.Proofs.YthpllmhnpbigiaaDoor
