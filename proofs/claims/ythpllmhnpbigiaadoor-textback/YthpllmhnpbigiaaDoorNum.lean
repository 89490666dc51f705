/- What the program's own reader of a number, of a verdict's name says. -/
import Derived.Test.YthpllmhnpbigiaaDoorIAny
import Derived.Test.YthpllmhnpbigiaaDoorEnv
import Derived.Test.YthpllmhnpbigiaaDoorWhole
import Derived.Lib.AppendIntMem
set_option linter.all false
set_option maxRecDepth 100000
namespace Go.Proofs.YthpllmhnpbigiaaDoor
open Go.RowKit Go.Maps

theorem atoiAll_in {l : Bs} {v : Int} (h : Lib.atoiAll l = .ok v) : -9223372036854775808 ≤ v ∧ v ≤ 9223372036854775807 := by
  unfold Lib.atoiAll at h
  split at h
  · cases h
  · simp only [] at h
    split at h
    · cases h
    · cases h
    · split at h
      · cases h
      · split at h
        · cases h
        · cases h
          split <;> omega

set_option maxHeartbeats 2000000 in
theorem number_any (s : ByteArray) (hs : s.size ≤ 4294967280) (w : World) (he : EnvT w) :
    Calls Tryd.prog 95 #[.string s] w fun e w' => ∃ n ok, e = .returned (.tuple #[.int .i64 n, .bool ok]) ∧ (numOf s.data.toList = if ok = true then some n else none) ∧ wf n ∧ Below w.heap.size w w' := by
  cases hA : Lib.atoiAll s.data.toList with
  | ok v =>
    obtain ⟨v0, v1⟩ := atoiAll_in hA
    have hwf : wf v := by unfold wf; exact WalkArith.wf_i64 (by omega)
    have HIt : Hid (∀ w', Below w.heap.size w w' → Calls Tryd.prog 55 #[.int .i64 v] w' fun e w'' => e = .returned (.string ⟨(Lib.itoa v).toArray⟩) ∧ Below w'.heap.size w' w'') := fun w' hb =>
      (Tryd.strconv_Itoa v v0 v1 w' (he.later hb).2.2.2).mono (by rintro e w2 ⟨rfl, k, os, rfl⟩; exact ⟨rfl, Lib.below_grow _ _ (Nat.le_refl _) _ _⟩)
    have HAt : Hid (Calls Tryd.prog 119 #[.string s] w fun e w' => e = .returned (.tuple #[.int .i64 v, .nilIface]) ∧ Below w.heap.size w w') :=
      (Tryd.strconv_Atoi_ok s (by omega) v hA w).mono (fun e w2 h => ⟨h.1, by rcases h.2 with rfl | ⟨t, h⟩; (exact Below.refl _ _); (exact bytesWorld_below _ _ _ _ h)⟩)
    have hN : Hid (numOf s.data.toList = if Lib.itoa v = s.data.toList then some v else none) := by unfold Hid numOf; rw [hA]
    have hwfH : Hid (wf v) := hwf
    clear hwf hA
    by_cases hq : Lib.itoa v = s.data.toList
    · have hd : (Lib.itoa v).toArray = s.data := by rw [hq]
      have HN : Hid (numOf s.data.toList = some v) := by unfold Hid; rw [hN.out, if_pos hq]
      clear hN hq
      go_enter Tryd.func95, Tryd.ntmps95
      go_wp2_with fail
      go_at_call 119
      refine Calls.mono HAt.out ?_
      rintro e w1 ⟨rfl, hb1⟩
      go_wp2_with fail
      go_at_call 55
      refine Calls.mono (HIt.out _ hb1) ?_
      rintro e w2 ⟨rfl, hb2⟩
      go_wp2_with fail
      go_ret2
      exact ⟨v, true, rfl, by rw [HN.out]; rfl, hwfH.out, Below.thenOf hb1 hb2 hb1.size⟩
    · have hd : (Lib.itoa v == s.toList) = false := by
        rw [Lib.toList_data]
        simpa using hq
      have HN : Hid (numOf s.data.toList = none) := by unfold Hid; rw [hN.out, if_neg hq]
      clear hN hq
      go_enter Tryd.func95, Tryd.ntmps95
      go_wp2_with fail
      go_at_call 119
      refine Calls.mono HAt.out ?_
      rintro e w1 ⟨rfl, hb1⟩
      go_wp2_with fail
      go_at_call 55
      refine Calls.mono (HIt.out _ hb1) ?_
      rintro e w2 ⟨rfl, hb2⟩
      go_wp2_with fail
      go_ret2
      exact ⟨0, false, rfl, by rw [HN.out]; rfl, by unfold wf; decide, Below.thenOf hb1 hb2 hb1.size⟩
  | «syntax» =>
    obtain ⟨ev, e1, e2⟩ := he.2.1
    have HAt : Hid (Calls Tryd.prog 119 #[.string s] w fun e w' => ∃ n t p, e = .returned (.tuple #[.int .i64 n, .iface t (.pointer (some p))]) ∧ wf n ∧ Below w.heap.size w w') :=
      (Tryd.strconv_Atoi_syntax s (by omega) hA ev w e1 e2).mono (by rintro e w2 ⟨N, rfl, _, _, hb⟩; exact ⟨0, _, _, rfl, by unfold wf; decide, hb⟩)
    have HN : Hid (numOf s.data.toList = none) := by unfold Hid numOf; rw [hA]
    clear hA e1 e2
    go_enter Tryd.func95, Tryd.ntmps95
    go_wp2_with fail
    go_at_call 119
    refine Calls.mono HAt.out ?_
    rintro e w1 ⟨n, t, p, rfl, hwf, hb1⟩
    have hwfH : Hid (wf n) := hwf
    clear hwf
    go_wp2_with fail
    go_ret2
    exact ⟨0, false, rfl, by rw [HN.out]; rfl, by unfold wf; decide, hb1⟩
  | range =>
    obtain ⟨ev, e1, e2⟩ := he.2.2.1
    have HAt : Hid (Calls Tryd.prog 119 #[.string s] w fun e w' => ∃ n t p, e = .returned (.tuple #[.int .i64 n, .iface t (.pointer (some p))]) ∧ wf n ∧ Below w.heap.size w w') :=
      (Tryd.strconv_Atoi_range s (by omega) hA ev w e1 e2).mono (by rintro e w2 ⟨N, rfl, _, _, hb⟩; exact ⟨_, _, _, rfl, by unfold wf Lib.atoiSat; split <;> decide, hb⟩)
    have HN : Hid (numOf s.data.toList = none) := by unfold Hid numOf; rw [hA]
    clear hA e1 e2
    go_enter Tryd.func95, Tryd.ntmps95
    go_wp2_with fail
    go_at_call 119
    refine Calls.mono HAt.out ?_
    rintro e w1 ⟨n, t, p, rfl, hwf, hb1⟩
    have hwfH : Hid (wf n) := hwf
    clear hwf
    go_wp2_with fail
    go_ret2
    exact ⟨0, false, rfl, by rw [HN.out]; rfl, by unfold wf; decide, hb1⟩

/-! Names. -/
def bsB (l : Bs) : ByteArray := ⟨l.toArray⟩
theorem idxOfS_idxL : ∀ (ns : List Bs) (x : ByteArray), Lib.idxOfS (ns.map bsB) x = idxL ns x.data.toList := by
  have key : ∀ (ns : List Bs) (x : ByteArray) (i : Nat), Lib.idxFromS (ns.map bsB) x i = if idxL ns x.data.toList = -1 then -1 else idxL ns x.data.toList + i := by
    intro ns x
    induction ns with
    | nil => intro i; simp [Lib.idxFromS, idxL]
    | cons n r ih =>
      intro i
      have hge := idxL_ge r x.data.toList
      have hbe : (bsB n = x) ↔ n = x.data.toList := by
        constructor
        · intro h; rw [← h]; simp [bsB]
        · intro h; rw [h]; cases x; simp [bsB]
      rw [List.map_cons, Lib.idxFromS, ih (i + 1), idxL]
      by_cases h : n = x.data.toList
      · rw [if_pos (hbe.2 h), if_pos h]
        simp
      · have h' : ¬ (bsB n = x) := fun e => h (hbe.1 e)
        simp only [h, h', if_false]
        by_cases h2 : idxL r x.data.toList = -1
        · simp [h2]
        · simp only [h2, if_false]
          split <;> omega
  intro ns x
  have := key ns x 0
  unfold Lib.idxOfS
  rw [this]
  split
  · rename_i h; exact h.symm
  · simp

end Go.Proofs.YthpllmhnpbigiaaDoor
