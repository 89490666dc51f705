/- strings.Join of two or three texts at a blank: the walk. -/
import Derived.Test.YthpllmhnpbigiacGreatDoorNj27
set_option linter.all false
set_option maxRecDepth 100000
namespace Go.Proofs.YthpllmhnpbigiacGreatDoor
open Go.RowKit Go.Maps

theorem bsB_data (s : ByteArray) : bsB s.data.toList = s := by cases s; simp [bsB]

set_option maxHeartbeats 8000000 in
theorem join_any (bk c n : Nat) (x0 : ByteArray) (r : List ByteArray) (w : World) (hcells : ∀ (j : Nat) x, (x0 :: r)[j]? = some x → w.cell? ⟨bk, j, none⟩ = some (.string x)) (hbk : bk < w.heap.size) (hn : n = 2 ∨ n = 3) (hrn : r.length + 1 = n) (hcap : n ≤ c) (hlen : szK (x0 :: r) n ≤ 10000000000) (hne : x0.data.toList ≠ []) :
    Calls Tryz.prog 43 #[.slice (some ⟨bk, 0, none⟩) n c, .string ⟨#[32]⟩] w fun e w' => e = .returned (.string (bsB (joinT x0.data.toList r r.length))) ∧ Below w.heap.size w w' := by
  have HC : Hid (∀ (j : Nat) x, (x0 :: r)[j]? = some x → w.cell? ⟨bk, j, none⟩ = some (.string x)) := hcells
  have HL : Hid (∀ k, szK (x0 :: r) k ≤ 10000000000) := by
    intro k
    have h1 := szK_le (x0 :: r) k
    rw [show (x0 :: r).length = n from hrn] at h1
    omega
  have HJ : Hid (∀ k, (joinT x0.data.toList r k).length ≤ 20000000000) := by
    intro k
    have h1 := joinT_len x0 r k
    rw [hrn] at h1
    omega
  have HNe : Hid (x0.data.toList ≠ []) := hne
  have Hx0 : Hid (w.cell? ⟨bk, 0, none⟩ = some (.string x0)) := hcells 0 x0 rfl
  have HG : ∀ k : Nat, k < n → ∃ x, (x0 :: r)[k]? = some x := fun k hk => ⟨(x0 :: r)[k]'(by simpa [hrn] using hk), by simp⟩
  have HGx : Hid (∀ k : Nat, k < n → ∃ x, (x0 :: r)[k]? = some x) := HG
  have HGy : Hid (∀ k : Nat, k + 1 < n → ∃ y, r[k]? = some y) := fun k hk => ⟨r[k]'(by omega), by simp⟩
  have HRn : Hid (r.length + 1 = n) := hrn
  clear hcells hlen hne HG hrn
  rcases hn with rfl | rfl
  · go_enter Tryz.func43, Tryz.ntmps43
    go_wp2_with fail
    go_loop [5, 41] (fun nv iv => ∃ k : Nat, k ≤ 2 ∧ iv = .int .i64 k ∧ nv = .int .i64 ((1 + szK (x0 :: r) k : Nat) : Int)) (fun _ iv => 2 - (intOf iv).toNat)
    case atStart => exact ⟨0, Nat.zero_le _, rfl, by simp [szK]⟩
    case round =>
      obtain ⟨k, hk, rfl, rfl⟩ := hrel
      by_cases hkn : k < 2
      · obtain ⟨x, hx⟩ := HGx.out k hkn
        have hc := HC.out k x hx
        have hstep := szK_succ hx
        have hbound := HL.out (k + 1)
        generalize hA1 : szK (x0 :: r) (k + 1) = A1 at hstep hbound
        generalize szK (x0 :: r) k = A0 at hstep
        have HA1 : Hid (szK (x0 :: r) (k + 1) = A1) := hA1
        clear hA1 hx
        go_wp2
        exact ⟨⟨k + 1, by omega, by go_num, by rw [HA1.out]; refine congrArg _ ?_; omega⟩, by simp [intOf]; omega⟩
      · have hke : k = 2 := by omega
        subst hke
        have hT := HL.out 2
        generalize szK (x0 :: r) 2 = T at hT
        go_wp2_with fail
        have hMT : ((1 : Int) + (T : Int)) = ((1 + T : Nat) : Int) := by omega
        first | rw [hMT] | skip
        have HGr : Hid _ := bld_grow w.heap.size w.heap.size (1 + T) (w.alloc (.cells #[.pointer none, .slice none 0 0] 117)) (Nat.le_refl _) ((MapKept.heap_alloc w _).1) (by simp) (by omega)
        have hbw : Hid (Below w.heap.size w (w.alloc (.cells #[.pointer none, .slice none 0 0] 117))) := (Below.refl w.heap.size w).alloc (Nat.le_refl _) _
        clear hMT hT
        go_at_call 78
        refine Calls.mono HGr.out ?_
        rintro e w1 ⟨rfl, h1, hb1⟩
        have hb1' : Below w.heap.size w w1 := hbw.out.trans hb1
        have hc0 : w1.cell? ⟨bk, 0, none⟩ = some (.string x0) := (hb1'.cell (p := ⟨bk, 0, none⟩) hbk).trans Hx0.out
        have H1 : Hid (IsBld w.heap.size w.heap.size (Lib.byteCells []) w1) := Or.inr h1
        have Hb1 : Hid (Below w.heap.size w w1) := hb1'
        have hs1 : w.heap.size ≤ w1.heap.size := hb1'.size
        have HW1 : Hid (Calls Tryz.prog 75 #[.pointer (some ⟨w.heap.size, 0, none⟩), .string x0] w1 fun e w' => (∃ n : Int, e = .returned (.tuple #[.int .i64 n, .nilIface])) ∧ IsBld w.heap.size w.heap.size (Lib.byteCells ([] ++ x0.data.toList)) w' ∧ Below w.heap.size w1 w' ∧ BKept w.heap.size w1 w') := by
          have := bld_bytes w.heap.size w.heap.size [] x0.data.toList w1 H1.out (by have := HJ.out 0; unfold joinT at this; simp at this ⊢; omega) hs1
          rw [bsB_data] at this
          exact this
        clear h1 hb1 hb1' HGr hbw
        go_wp2_with fail
        go_at_call 75
        refine Calls.mono HW1.out ?_
        rintro e w2 ⟨⟨m, rfl⟩, h2, hb2, -⟩
        have H2 : Hid (IsBld w.heap.size w.heap.size (Lib.byteCells (joinT x0.data.toList r 0)) w2) := by
          unfold Hid joinT
          simpa using h2
        have Hb2 : Hid (Below w.heap.size w w2) := Hb1.out.trans hb2
        clear h2 hb2 HW1 hc0 hs1
        go_wp2_with fail
        go_loopw [65] (fun iv wr => ∃ k : Nat, k ≤ 1 ∧ iv = .int .i64 k ∧ Hid (IsBld w.heap.size w.heap.size (Lib.byteCells (joinT x0.data.toList r k)) wr) ∧ Hid (Below w.heap.size w wr)) (fun iv _ => 1 - (intOf iv).toNat)
        case atStart => exact ⟨0, Nat.zero_le _, rfl, H2, Hb2⟩
        case round =>
          obtain ⟨k, hk', rfl, HB, HWd⟩ := hrel
          obtain ⟨wo, hwo⟩ : ∃ x, x = wr := ⟨_, rfl⟩
          subst hwo
          by_cases hkr : k < 1
          · obtain ⟨y, hy⟩ := HGy.out k (by omega)
            have hcy : wo.cell? ⟨bk, 1 + k, none⟩ = some (.string y) := by
              rw [HWd.out.cell (p := ⟨bk, 1 + k, none⟩) hbk, show 1 + k = k + 1 by omega]
              exact HC.out (k + 1) y (by simpa using hy)
            have hBw : w.heap.size ≤ wo.heap.size := HWd.out.size
            have hl1 := HJ.out (k + 1)
            have HNx : Hid (joinT x0.data.toList r (k + 1) = (joinT x0.data.toList r k ++ [32]) ++ y.data.toList) := joinT_succ hy
            rw [HNx.out] at hl1
            simp only [List.length_append, List.length_cons, List.length_nil] at hl1
            have HWa : Hid (Calls Tryz.prog 75 #[.pointer (some ⟨w.heap.size, 0, none⟩), .string ⟨#[32]⟩] wo fun e w' => (∃ n : Int, e = .returned (.tuple #[.int .i64 n, .nilIface])) ∧ IsBld w.heap.size w.heap.size (Lib.byteCells (joinT x0.data.toList r k ++ [32])) w' ∧ Below w.heap.size wo w' ∧ BKept w.heap.size wo w') := bld_bytes w.heap.size w.heap.size (joinT x0.data.toList r k) [32] wo HB.out (by simp; omega) hBw
            have HWb : Hid (∀ w', w.heap.size ≤ w'.heap.size → IsBld w.heap.size w.heap.size (Lib.byteCells (joinT x0.data.toList r k ++ [32])) w' → Calls Tryz.prog 75 #[.pointer (some ⟨w.heap.size, 0, none⟩), .string y] w' fun e w'' => (∃ n : Int, e = .returned (.tuple #[.int .i64 n, .nilIface])) ∧ IsBld w.heap.size w.heap.size (Lib.byteCells (joinT x0.data.toList r (k + 1))) w'' ∧ Below w.heap.size w' w'' ∧ BKept w.heap.size w' w'') := fun w' hs hi => by
              have := bld_bytes w.heap.size w.heap.size (joinT x0.data.toList r k ++ [32]) y.data.toList w' hi (by rw [List.length_append, List.length_cons, List.length_nil]; omega) hs
              rw [bsB_data, ← HNx.out] at this
              exact this
            clear hl1 hy HNx
            go_wp2_with fail
            go_at_call 75
            refine Calls.mono HWa.out ?_
            rintro e w3 ⟨⟨m3, rfl⟩, h3, hb3, -⟩
            have hBw3 : w.heap.size ≤ w3.heap.size := Nat.le_trans hBw hb3.size
            have HWb3 : Hid _ := HWb.out w3 hBw3 h3
            have Hb3 : Hid (Below w.heap.size wo w3) := hb3
            clear h3 hb3 HWa HWb
            go_wp2_with fail
            go_at_call 75
            refine Calls.mono HWb3.out ?_
            rintro e w4 ⟨⟨m4, rfl⟩, h4, hb4, -⟩
            have H4 : Hid (IsBld w.heap.size w.heap.size (Lib.byteCells (joinT x0.data.toList r (k + 1))) w4) := h4
            have Hb4 : Hid (Below w.heap.size w w4) := (HWd.out.trans Hb3.out).trans hb4
            clear h4 hb4 HWb3
            go_wp2
            exact ⟨⟨k + 1, by omega, by go_num, H4, Hb4⟩, by simp [intOf]; omega⟩
          · have hke : k = 1 := by omega
            have hrl : r.length = 1 := by have := HRn.out; omega
            subst hke
            have hB' := HB.out
            rw [← hrl] at hB'
            have HSt : Hid _ := Tryz.Builder_String w.heap.size w.heap.size (joinT x0.data.toList r r.length) wo hB' (fun e => by unfold joinT at e; exact HNe.out (List.append_eq_nil_iff.1 e).1)
            clear hB' hrl
            go_wp2_with fail
            go_at_call 77
            refine Calls.mono HSt.out ?_
            rintro e w5 ⟨rfl, hb5⟩
            have Hb5 : Hid (Below w.heap.size w w5) := HWd.out.trans hb5
            clear hb5 HSt
            go_wp2
            go_ret
            exact ⟨rfl, Hb5.out⟩
  · go_enter Tryz.func43, Tryz.ntmps43
    go_wp2_with fail
    go_loop [5, 41] (fun nv iv => ∃ k : Nat, k ≤ 3 ∧ iv = .int .i64 k ∧ nv = .int .i64 ((2 + szK (x0 :: r) k : Nat) : Int)) (fun _ iv => 3 - (intOf iv).toNat)
    case atStart => exact ⟨0, Nat.zero_le _, rfl, by simp [szK]⟩
    case round =>
      obtain ⟨k, hk, rfl, rfl⟩ := hrel
      by_cases hkn : k < 3
      · obtain ⟨x, hx⟩ := HGx.out k hkn
        have hc := HC.out k x hx
        have hstep := szK_succ hx
        have hbound := HL.out (k + 1)
        generalize hA1 : szK (x0 :: r) (k + 1) = A1 at hstep hbound
        generalize szK (x0 :: r) k = A0 at hstep
        have HA1 : Hid (szK (x0 :: r) (k + 1) = A1) := hA1
        clear hA1 hx
        go_wp2
        exact ⟨⟨k + 1, by omega, by go_num, by rw [HA1.out]; refine congrArg _ ?_; omega⟩, by simp [intOf]; omega⟩
      · have hke : k = 3 := by omega
        subst hke
        have hT := HL.out 3
        generalize szK (x0 :: r) 3 = T at hT
        go_wp2_with fail
        have hMT : ((2 : Int) + (T : Int)) = ((2 + T : Nat) : Int) := by omega
        first | rw [hMT] | skip
        have HGr : Hid _ := bld_grow w.heap.size w.heap.size (2 + T) (w.alloc (.cells #[.pointer none, .slice none 0 0] 117)) (Nat.le_refl _) ((MapKept.heap_alloc w _).1) (by simp) (by omega)
        have hbw : Hid (Below w.heap.size w (w.alloc (.cells #[.pointer none, .slice none 0 0] 117))) := (Below.refl w.heap.size w).alloc (Nat.le_refl _) _
        clear hMT hT
        go_at_call 78
        refine Calls.mono HGr.out ?_
        rintro e w1 ⟨rfl, h1, hb1⟩
        have hb1' : Below w.heap.size w w1 := hbw.out.trans hb1
        have hc0 : w1.cell? ⟨bk, 0, none⟩ = some (.string x0) := (hb1'.cell (p := ⟨bk, 0, none⟩) hbk).trans Hx0.out
        have H1 : Hid (IsBld w.heap.size w.heap.size (Lib.byteCells []) w1) := Or.inr h1
        have Hb1 : Hid (Below w.heap.size w w1) := hb1'
        have hs1 : w.heap.size ≤ w1.heap.size := hb1'.size
        have HW1 : Hid (Calls Tryz.prog 75 #[.pointer (some ⟨w.heap.size, 0, none⟩), .string x0] w1 fun e w' => (∃ n : Int, e = .returned (.tuple #[.int .i64 n, .nilIface])) ∧ IsBld w.heap.size w.heap.size (Lib.byteCells ([] ++ x0.data.toList)) w' ∧ Below w.heap.size w1 w' ∧ BKept w.heap.size w1 w') := by
          have := bld_bytes w.heap.size w.heap.size [] x0.data.toList w1 H1.out (by have := HJ.out 0; unfold joinT at this; simp at this ⊢; omega) hs1
          rw [bsB_data] at this
          exact this
        clear h1 hb1 hb1' HGr hbw
        go_wp2_with fail
        go_at_call 75
        refine Calls.mono HW1.out ?_
        rintro e w2 ⟨⟨m, rfl⟩, h2, hb2, -⟩
        have H2 : Hid (IsBld w.heap.size w.heap.size (Lib.byteCells (joinT x0.data.toList r 0)) w2) := by
          unfold Hid joinT
          simpa using h2
        have Hb2 : Hid (Below w.heap.size w w2) := Hb1.out.trans hb2
        clear h2 hb2 HW1 hc0 hs1
        go_wp2_with fail
        go_loopw [65] (fun iv wr => ∃ k : Nat, k ≤ 2 ∧ iv = .int .i64 k ∧ Hid (IsBld w.heap.size w.heap.size (Lib.byteCells (joinT x0.data.toList r k)) wr) ∧ Hid (Below w.heap.size w wr)) (fun iv _ => 2 - (intOf iv).toNat)
        case atStart => exact ⟨0, Nat.zero_le _, rfl, H2, Hb2⟩
        case round =>
          obtain ⟨k, hk', rfl, HB, HWd⟩ := hrel
          obtain ⟨wo, hwo⟩ : ∃ x, x = wr := ⟨_, rfl⟩
          subst hwo
          by_cases hkr : k < 2
          · obtain ⟨y, hy⟩ := HGy.out k (by omega)
            have hcy : wo.cell? ⟨bk, 1 + k, none⟩ = some (.string y) := by
              rw [HWd.out.cell (p := ⟨bk, 1 + k, none⟩) hbk, show 1 + k = k + 1 by omega]
              exact HC.out (k + 1) y (by simpa using hy)
            have hBw : w.heap.size ≤ wo.heap.size := HWd.out.size
            have hl1 := HJ.out (k + 1)
            have HNx : Hid (joinT x0.data.toList r (k + 1) = (joinT x0.data.toList r k ++ [32]) ++ y.data.toList) := joinT_succ hy
            rw [HNx.out] at hl1
            simp only [List.length_append, List.length_cons, List.length_nil] at hl1
            have HWa : Hid (Calls Tryz.prog 75 #[.pointer (some ⟨w.heap.size, 0, none⟩), .string ⟨#[32]⟩] wo fun e w' => (∃ n : Int, e = .returned (.tuple #[.int .i64 n, .nilIface])) ∧ IsBld w.heap.size w.heap.size (Lib.byteCells (joinT x0.data.toList r k ++ [32])) w' ∧ Below w.heap.size wo w' ∧ BKept w.heap.size wo w') := bld_bytes w.heap.size w.heap.size (joinT x0.data.toList r k) [32] wo HB.out (by simp; omega) hBw
            have HWb : Hid (∀ w', w.heap.size ≤ w'.heap.size → IsBld w.heap.size w.heap.size (Lib.byteCells (joinT x0.data.toList r k ++ [32])) w' → Calls Tryz.prog 75 #[.pointer (some ⟨w.heap.size, 0, none⟩), .string y] w' fun e w'' => (∃ n : Int, e = .returned (.tuple #[.int .i64 n, .nilIface])) ∧ IsBld w.heap.size w.heap.size (Lib.byteCells (joinT x0.data.toList r (k + 1))) w'' ∧ Below w.heap.size w' w'' ∧ BKept w.heap.size w' w'') := fun w' hs hi => by
              have := bld_bytes w.heap.size w.heap.size (joinT x0.data.toList r k ++ [32]) y.data.toList w' hi (by rw [List.length_append, List.length_cons, List.length_nil]; omega) hs
              rw [bsB_data, ← HNx.out] at this
              exact this
            clear hl1 hy HNx
            go_wp2_with fail
            go_at_call 75
            refine Calls.mono HWa.out ?_
            rintro e w3 ⟨⟨m3, rfl⟩, h3, hb3, -⟩
            have hBw3 : w.heap.size ≤ w3.heap.size := Nat.le_trans hBw hb3.size
            have HWb3 : Hid _ := HWb.out w3 hBw3 h3
            have Hb3 : Hid (Below w.heap.size wo w3) := hb3
            clear h3 hb3 HWa HWb
            go_wp2_with fail
            go_at_call 75
            refine Calls.mono HWb3.out ?_
            rintro e w4 ⟨⟨m4, rfl⟩, h4, hb4, -⟩
            have H4 : Hid (IsBld w.heap.size w.heap.size (Lib.byteCells (joinT x0.data.toList r (k + 1))) w4) := h4
            have Hb4 : Hid (Below w.heap.size w w4) := (HWd.out.trans Hb3.out).trans hb4
            clear h4 hb4 HWb3
            go_wp2
            exact ⟨⟨k + 1, by omega, by go_num, H4, Hb4⟩, by simp [intOf]; omega⟩
          · have hke : k = 2 := by omega
            have hrl : r.length = 2 := by have := HRn.out; omega
            subst hke
            have hB' := HB.out
            rw [← hrl] at hB'
            have HSt : Hid _ := Tryz.Builder_String w.heap.size w.heap.size (joinT x0.data.toList r r.length) wo hB' (fun e => by unfold joinT at e; exact HNe.out (List.append_eq_nil_iff.1 e).1)
            clear hB' hrl
            go_wp2_with fail
            go_at_call 77
            refine Calls.mono HSt.out ?_
            rintro e w5 ⟨rfl, hb5⟩
            have Hb5 : Hid (Below w.heap.size w w5) := HWd.out.trans hb5
            clear hb5 HSt
            go_wp2
            go_ret
            exact ⟨rfl, Hb5.out⟩

end Go.Proofs.YthpllmhnpbigiacGreatDoor
