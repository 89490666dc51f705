/- slices.Grow of nothing, slices.Concat of two, slices.Clone and slices.Reverse: of chains. -/
import Derived.Test.YtbjpdmfedphacabGreatDoorCj25
import Derived.Lib.AppendZerosOnto
import Derived.Lib.AppendZeros
set_option linter.all false
set_option maxRecDepth 100000
namespace Go.Proofs.YtbjpdmfedphacabGreatDoor
open Go.RowKit Go.Maps

set_option maxHeartbeats 4000000 in
theorem growL_nil (n : Nat) (w : World) (hn : n * 24 ≤ 140737488355328) :
    Calls Tryz.prog 105 #[.slice none 0 0, .int .i64 n] w fun e w' => ∃ v, e = .returned v ∧ w'.ownsRow w.heap.size 63 1 v 0 [] ∧ Below w.heap.size w w' := by
  have hml := maxLen_eq
  by_cases h0 : n = 0
  · subst h0
    go_enter Tryz.func105, Tryz.ntmps105
    go_wp2
    go_ret
    exact ⟨_, rfl, ⟨rfl, .inl ⟨rfl, rfl⟩⟩, Below.refl _ _⟩
  · obtain ⟨inf, hi1, hi2, hi3, hi4⟩ := infoFil
    have h1 : ¬ ((n : Int) < 0) := by omega
    have h4 : (n : Int) > 0 := by omega
    obtain ⟨G, hG⟩ : ∃ G, G = grownCap w n 0 63 := ⟨_, rfl⟩
    have hGn : n ≤ G := by rw [hG]; exact grownCap_ge w _ _ _
    have hG63 : G ≤ maxLen := by rw [hG]; exact grownCap_le_maxLen w n 0 _ (by omega)
    obtain ⟨z, hz⟩ : ∃ z : Value, z = .slice none 0 0 := ⟨_, rfl⟩
    have hzs : z.cells.size = 1 := by rw [hz]; rfl
    rw [← hz] at hi2
    have hrz : ∀ ty, (Builtin.append_ #[54, 3] ty #[.slice none 0 0, .int .i64 n]).run Tryz.prog w =
        .ok (.slice (some ⟨w.heap.size, 0, none⟩) n G) (w.drew.alloc (.cells ((Builtin.zeroCells z.cells n) ++ Builtin.zeroCells z.cells (G - n)) 63)) := fun ty => by
      have h := Lib.run_append_grow_zeros w 54 3 ty 63 inf z .i64 .i64 Tryz.underlying54 Tryz.underlying3 hi1 hi2 none 0 0 [] (run_firstCells_none w.drew inf.size 0 0 0) n (by omega) (by omega) (by omega) (by omega)
        (by rw [hi4]; omega)
        (by rw [Nat.zero_add]; exact growslice_fits (by omega) (by rw [hi4]; omega))
      simpa [← hG] using h
    have hown : Hid ((w.drew.alloc (.cells ((Builtin.zeroCells z.cells n) ++ Builtin.zeroCells z.cells (G - n)) 63)).ownsRow w.heap.size 63 1 (.slice (some ⟨w.heap.size, 0, none⟩) 0 G) 0 []) := by
      refine ⟨rfl, .inr ⟨w.heap.size, G, _, rfl, Nat.le_refl _, (MapKept.heap_alloc w.drew _).1, Nat.zero_le _, hG63, ?_, by simp⟩⟩
      rw [Array.size_append, size_zeroCells, size_zeroCells, hzs, ← Nat.add_mul]
      congr 1
      omega
    have hbel : Hid (Below w.heap.size w (w.drew.alloc (.cells ((Builtin.zeroCells z.cells n) ++ Builtin.zeroCells z.cells (G - n)) 63))) := (Below.refl _ _).drew.alloc (Nat.le_refl _) _
    clear hG hz
    rw [hml] at hG63
    generalize (Builtin.zeroCells z.cells n) ++ Builtin.zeroCells z.cells (G - n) = zs at *
    go_enter Tryz.func105, Tryz.ntmps105
    go_wp2_with (at_builtin; refine Lib.wpList_append_run _ rfl _ _ _ _ rfl _ _ rfl rfl _ _ (hrz _) ?_)
    go_ret
    exact ⟨_, rfl, hown.out, hbel.out⟩

set_option maxHeartbeats 4000000 in
theorem concatL_any (B : Nat) (v0 v1 : Value) (r0 r1 : ChT) (bs : Nat) (w : World) (h0 : ChsAt B w v0 r0) (h1 : ChsAt B w v1 r1) (hB : B ≤ w.heap.size) (hbs : bs < w.heap.size) (hc0 : w.cell? ⟨bs, 0, none⟩ = some v0) (hc1 : w.cell? ⟨bs, 1, none⟩ = some v1) (hn : (r0.length + r1.length) * 24 ≤ 140737488355328) :
    Calls Tryz.prog 50 #[.slice (some ⟨bs, 0, none⟩) 2 2] w fun e w' => ∃ v, e = .returned v ∧ ChsAt w'.heap.size w' v (r0 ++ r1) ∧ Below w.heap.size w w' := by
  obtain ⟨a0, cap0, rfl, hle0, hcm0⟩ := h0.shape
  obtain ⟨a1, cap1, rfl, hle1, hcm1⟩ := h1.shape
  obtain ⟨x0, hx0, hs0⟩ := chs_values h0
  obtain ⟨x1, hx1, hs1⟩ := chs_values h1
  have hml := maxLen_eq
  have HX0 : Hid (FvsAt B w x0 r0) := hx0
  have HX1 : Hid (FvsAt B w x1 r1) := hx1
  have HS0 : Hid (∀ (w' : World), Below w.heap.size w w' → ∀ (j : Nat) u, x0[j]? = some u → ∃ b o, a0 = some ⟨b, o, none⟩ ∧ w'.cell? ⟨b, o + j, none⟩ = some u) := fun w' h j u hu => by
    obtain ⟨b, o, e, hb, hc⟩ := hs0 j u hu
    exact ⟨b, o, e, (h.cell (p := ⟨b, o + j, none⟩) (by show b < w.heap.size; omega)).trans hc⟩
  have HS1 : Hid (∀ (w' : World), Below w.heap.size w w' → ∀ (j : Nat) u, x1[j]? = some u → ∃ b o, a1 = some ⟨b, o, none⟩ ∧ w'.cell? ⟨b, o + j, none⟩ = some u) := fun w' h j u hu => by
    obtain ⟨b, o, e, hb, hc⟩ := hs1 j u hu
    exact ⟨b, o, e, (h.cell (p := ⟨b, o + j, none⟩) (by show b < w.heap.size; omega)).trans hc⟩
  have HC : Hid (∀ w', Below w.heap.size w w' → w'.cell? ⟨bs, 0, none⟩ = some (.slice a0 r0.length cap0) ∧ w'.cell? ⟨bs, 1, none⟩ = some (.slice a1 r1.length cap1)) := fun w' h => ⟨(h.cell (p := ⟨bs, 0, none⟩) hbs).trans hc0, (h.cell (p := ⟨bs, 1, none⟩) hbs).trans hc1⟩
  have hl0 : x0.length = r0.length := hx0.1
  have hl1 : x1.length = r1.length := hx1.1
  have HL0 : Hid (x0.length = r0.length) := hl0
  have HL1 : Hid (x1.length = r1.length) := hl1
  have HB : Hid (B ≤ w.heap.size) := hB
  clear h0 h1 hx0 hx1 hs0 hs1 hl0 hl1 hB
  generalize hn0 : r0.length = n0 at *
  generalize hn1 : r1.length = n1 at *
  have hN0 : Hid (r0.length = n0) := hn0
  have hN1 : Hid (r1.length = n1) := hn1
  clear hn0 hn1
  go_enter Tryz.func50, Tryz.ntmps50
  go_wp2
  go_loop [3, 11] (fun sz i => ∃ k : Nat, k ≤ 2 ∧ i = .int .i64 k ∧ sz = .int .i64 (if k = 0 then 0 else if k = 1 then (n0 : Int) else ((n0 : Int) + n1))) (fun _ i => 2 - (intOf i).toNat)
  case atStart => exact ⟨0, by omega, rfl, rfl⟩
  case round =>
    obtain ⟨k, hk, rfl, rfl⟩ := hrel
    have hk' : k = 0 ∨ k = 1 ∨ k = 2 := by omega
    rcases hk' with rfl | rfl | rfl
    · go_wp2
      exact ⟨⟨1, by omega, rfl, by simp⟩, by simp [intOf]⟩
    · have hneg : ¬ ((n0 : Int) + (n1 : Int) < 0) := by omega
      have hwr : wrap64 ((n0 : Int) + (n1 : Int)) = (n0 : Int) + n1 := by unfold wrap64; omega
      go_wp2
      exact ⟨⟨2, by omega, rfl, by simp⟩, by simp [intOf]⟩
    · have hG : Hid (∀ w', Calls Tryz.prog 105 #[.slice none 0 0, .int .i64 ((n0 : Int) + n1)] w' fun e w'' => ∃ v, e = .returned v ∧ w''.ownsRow w'.heap.size 63 1 v 0 [] ∧ Below w'.heap.size w' w'') := fun w' => by
        have := growL_nil (n0 + n1) w' hn
        rw [show ((n0 + n1 : Nat) : Int) = (n0 : Int) + n1 by omega] at this
        exact this
      go_wp2_with fail
      go_at_call 105
      refine Calls.mono (hG.out _) ?_
      rintro e w1 ⟨v, rfl, hown1, hb1⟩
      have HO : Hid (w1.ownsRow w.heap.size 63 1 v 0 []) := hown1
      clear hown1
      go_wp2_with fail
      go_loopw [6, 27] (fun nv i wr => ∃ (k : Nat), k ≤ 2 ∧ i = .int .i64 k ∧ Hid (wr.ownsRow w.heap.size 63 1 nv (if k = 0 then 0 else if k = 1 then n0 else n0 + n1) (([x0, x1].take k).flatten)) ∧ Below w.heap.size w wr) (fun _ i _ => 2 - (intOf i).toNat)
      case atStart => exact ⟨0, by omega, rfl, HO, hb1⟩
      case round =>
        obtain ⟨k, hk, rfl, HOr, hbr⟩ := hrel
        obtain ⟨c0, c1⟩ := HC.out _ hbr
        have hk' : k = 0 ∨ k = 1 ∨ k = 2 := by omega
        rcases hk' with rfl | rfl | rfl
        · obtain ⟨v', W', hrun, hown', hbel⟩ := run_append_chs w.heap.size 54 _ 0 [] a0 n0 cap0 x0 wr HOr.out HL0.out (HS0.out wr hbr) HX0.out.slices (by omega) hbr.size
          have HO' : Hid (W'.ownsRow w.heap.size 63 1 v' (if 1 = 0 then 0 else if 1 = 1 then n0 else n0 + n1) (([x0, x1].take 1).flatten)) := by
            unfold Hid
            have e : ([x0, x1].take 1).flatten = x0 := by simp
            rw [e]
            simpa using hown'
          have hb' : Below w.heap.size w W' := hbr.trans hbel
          clear hown' hbel HOr
          go_wp2_with (at_builtin; refine Lib.wpList_append_run _ rfl _ _ _ _ rfl _ _ rfl rfl _ _ hrun ?_)
          exact ⟨⟨1, by omega, rfl, HO', hb'⟩, by simp [intOf]⟩
        · obtain ⟨v', W', hrun, hown', hbel⟩ := run_append_chs w.heap.size 54 _ n0 x0 a1 n1 cap1 x1 wr (by have := HOr.out; simpa using this) HL1.out (HS1.out wr hbr) HX1.out.slices (by omega) hbr.size
          have HO' : Hid (W'.ownsRow w.heap.size 63 1 v' (if 2 = 0 then 0 else if 2 = 1 then n0 else n0 + n1) (([x0, x1].take 2).flatten)) := by
            unfold Hid
            have e : ([x0, x1].take 2).flatten = x0 ++ x1 := by simp
            rw [e]
            exact hown'
          have hb' : Below w.heap.size w W' := hbr.trans hbel
          clear hown' hbel HOr
          go_wp2_with (at_builtin; refine Lib.wpList_append_run _ rfl _ _ _ _ rfl _ _ rfl rfl _ _ hrun ?_)
          exact ⟨⟨2, by omega, rfl, HO', hb'⟩, by simp [intOf]⟩
        · have h1 := HOr.out
          have e : ([x0, x1].take 2).flatten = x0 ++ x1 := by simp
          rw [e] at h1
          have e2 : n0 + n1 = (r0 ++ r1).length := by rw [List.length_append, hN0.out, hN1.out]
          rw [if_neg (by decide), if_neg (by decide), e2] at h1
          have hch := chsAt_own h1 (((HX0.out.later hbr HB.out).append (HX1.out.later hbr HB.out)).mono (Nat.le_trans HB.out hbr.size))
          have h1' : Hid _ := hch
          clear HOr h1 e e2 hch
          go_wp2
          go_ret
          exact ⟨_, rfl, h1'.out, hbr⟩

set_option maxHeartbeats 2000000 in
theorem cloneL_any (B : Nat) (sv : Value) (ls : ChT) (w : World) (h : ChsAt B w sv ls) (hB : B ≤ w.heap.size) (hn : ls.length * 24 ≤ 140737488355328) :
    Calls Tryz.prog 48 #[sv] w fun e w' => ∃ v xs, e = .returned v ∧ w'.ownsRow w.heap.size 63 1 v ls.length xs ∧ FvsAt B w' xs ls ∧ Below w.heap.size w w' := by
  obtain ⟨a, cap, rfl, hlc, hcm⟩ := h.shape
  obtain ⟨xs, hxs, hs⟩ := chs_values h
  have hml := maxLen_eq
  cases a with
  | none =>
    have h0 : ls = [] := by
      cases ls with
      | nil => rfl
      | cons r l =>
        obtain ⟨b, o, e, _⟩ := hs 0 (xs[0]'(by rw [hxs.1]; simp)) (by simp)
        cases e
    subst h0
    obtain rfl : xs = [] := List.length_eq_zero_iff.1 hxs.1
    have hq : ∀ w, (binOp .eql 54 (.slice none 0 cap) (.slice none 0 0)).run Tryz.prog w = .ok (.bool true) w := fun w => by kernel_rfl
    have HX : Hid (FvsAt B w [] []) := hxs
    clear hs h hxs
    go_enter Tryz.func48, Tryz.ntmps48
    go_wp2
    go_ret
    exact ⟨_, [], rfl, ⟨rfl, .inl ⟨rfl, rfl⟩⟩, HX.out, Below.refl _ _⟩
  | some ad =>
    obtain ⟨W6, hW6⟩ : ∃ W6, W6 = w.alloc (.cells #[] 63) := ⟨_, rfl⟩
    have hb6 : Below w.heap.size w W6 := by rw [hW6]; exact (Below.refl _ _).alloc (Nat.le_refl _) _
    have ho6 : W6.ownsRow w.heap.size 63 1 (.slice (some ⟨w.heap.size, 0, none⟩) 0 0) 0 [] := by
      rw [hW6]
      exact ⟨rfl, .inr ⟨w.heap.size, 0, #[], rfl, Nat.le_refl _, heap_made w _, Nat.le_refl _, Nat.zero_le _, rfl, rfl⟩⟩
    obtain ⟨v7, w7, hr7, ho7, hb7⟩ := run_append_chs w.heap.size 54 _ 0 [] (some ad) ls.length cap xs W6 ho6 hxs.1 (fun j u hj => by
      obtain ⟨b, o, e, hb, hc⟩ := hs j u hj
      exact ⟨b, o, e, (hb6.cell (p := ⟨b, o + j, none⟩) (by show b < w.heap.size; omega)).trans hc⟩) hxs.slices (by omega) hb6.size
    have hb07 : Below w.heap.size w w7 := hb6.trans hb7
    have HW6 : Hid (W6 = _) := hW6
    have HR : Hid (w7.ownsRow w.heap.size 63 1 v7 ls.length xs ∧ FvsAt B w7 xs ls ∧ Below w.heap.size w w7) := ⟨by simpa using ho7, hxs.later hb07 hB, hb07⟩
    clear hW6 hb6 ho6 ho7 hb7 hb07 hs hxs h
    generalize ls.length = n at *
    have hq : ∀ w, (binOp .eql 54 (.slice (some ad) n cap) (.slice none 0 0)).run Tryz.prog w = .ok (.bool false) w := fun w => by kernel_rfl
    go_enter Tryz.func48, Tryz.ntmps48
    go_wp2_with (first | (at_builtin; go_must (rw [← HW6.out]; refine Lib.wpList_append_run _ rfl _ _ _ _ rfl _ _ rfl rfl _ _ hr7 ?_)))
    go_ret
    exact ⟨v7, xs, rfl, HR.out⟩

end Go.Proofs.YtbjpdmfedphacabGreatDoor
