/- The counterpart's reader at any text: what its small maps say, how its texts are cut, its numbers. -/
import Derived.Test.YthpllmhnpbigiacGreatDoorNj16
import Derived.Test.YthpllmhnpbigiacGreatDoorNj17
import Derived.Test.YthpllmhnpbigiacGreatDoorNj19
import Derived.Test.YthpllmhnpbigiacGreatDoorNj05
import Derived.Lib.ParseIntB
set_option linter.all false
set_option maxRecDepth 100000
namespace Go.Proofs.YthpllmhnpbigiacGreatDoor
open Go.RowKit Go.Maps

/-! Numbers. -/
theorem parseM_eq : ∀ (l : Bs) (acc : Nat), Lib.parseUintM (2 ^ 64 - 1) acc l = Lib.parseUint10 acc l
  | [], acc => rfl
  | c :: r, acc => by
    rw [Lib.parseUintM, Lib.parseUint10]
    by_cases h : 48 ≤ c.toNat ∧ c.toNat ≤ 57
    · rw [if_pos h, if_pos h]
      by_cases h1 : 1844674407370955162 ≤ acc
      · rw [if_pos h1, if_pos h1]
      · rw [if_neg h1, if_neg h1]
        by_cases h2 : 18446744073709551616 ≤ acc * 10 + (c.toNat - 48)
        · rw [if_pos h2, if_pos (by omega)]
        · rw [if_neg h2, if_neg (by omega), parseM_eq r]
    · rw [if_neg h, if_neg h]
theorem parseInt_eq (l : Bs) : Lib.parseIntB 64 l = Lib.atoiAll l := by
  have e : ∀ m : Bs, Lib.parseUintB 64 m = Lib.parseMag m := fun m => by
    unfold Lib.parseUintB Lib.parseMag
    split
    · rfl
    · exact parseM_eq m 0
  cases l with
  | nil => rfl
  | cons c r =>
    unfold Lib.parseIntB Lib.atoiAll
    simp only []
    rw [e]
    rfl

set_option maxHeartbeats 2000000 in
theorem whole_any (s : ByteArray) (hs : s.size ≤ 4294967280) (w : World) (he : EnvT w) :
    Calls Tryz.prog 52 #[.string s] w fun e w' => ∃ n ok, e = .returned (.tuple #[.int .i64 n, .bool ok]) ∧ (numOf s.data.toList = if ok = true then some n else none) ∧ wf n ∧ Below w.heap.size w w' := by
  cases hA : Lib.atoiAll s.data.toList with
  | ok v =>
    obtain ⟨v0, v1⟩ := atoiAll_in hA
    have hwf : wf v := by unfold wf; exact WalkArith.wf_i64 (by omega)
    have HIt : Hid (∀ w', Below w.heap.size w w' → Calls Tryz.prog 92 #[.int .i64 v, .int .i64 10] w' fun e w'' => e = .returned (.string ⟨(Lib.itoa v).toArray⟩) ∧ Below w'.heap.size w' w'') := fun w' hb =>
      (Tryz.strconv_FormatInt_10 v v0 v1 w' (he.later hb).2.2.2).mono (by rintro e w2 ⟨rfl, k, os, rfl⟩; exact ⟨rfl, Lib.below_grow _ _ (Nat.le_refl _) _ _⟩)
    have HAt : Hid (Calls Tryz.prog 91 #[.string s, .int .i64 10, .int .i64 64] w fun e w' => e = .returned (.tuple #[.int .i64 v, .nilIface]) ∧ Below w.heap.size w w') :=
      (Tryz.strconv_ParseInt_10_at64_ok s (by omega) v ((parseInt_eq _).trans hA) w).mono (fun e w2 h => ⟨h.1, by rcases h.2 with rfl | ⟨t, h⟩; (exact Below.refl _ _); (exact bytesWorld_below _ _ _ _ h)⟩)
    have hN : Hid (numOf s.data.toList = if Lib.itoa v = s.data.toList then some v else none) := by unfold Hid numOf; rw [hA]
    have hwfH : Hid (wf v) := hwf
    clear hwf hA
    by_cases hq : Lib.itoa v = s.data.toList
    · have hd : (Lib.itoa v).toArray = s.data := by rw [hq]
      have HN : Hid (numOf s.data.toList = some v) := by unfold Hid; rw [hN.out, if_pos hq]
      clear hN hq
      go_enter Tryz.func52, Tryz.ntmps52
      go_wp2_with fail
      go_at_call 91
      refine Calls.mono HAt.out ?_
      rintro e w1 ⟨rfl, hb1⟩
      go_wp2_with fail
      go_at_call 92
      refine Calls.mono (HIt.out _ hb1) ?_
      rintro e w2 ⟨rfl, hb2⟩
      go_wp2_with fail
      go_ret2
      exact ⟨v, true, rfl, by rw [HN.out]; rfl, hwfH.out, Below.thenOf hb1 hb2 hb1.size⟩
    · have hd : (Lib.itoa v == s.toList) = false := by
        rw [Lib.toList_data]
        simpa using hq
      have HN : Hid (numOf s.data.toList = none) := by unfold Hid; rw [hN.out, if_neg hq]
      clear hN hq
      go_enter Tryz.func52, Tryz.ntmps52
      go_wp2_with fail
      go_at_call 91
      refine Calls.mono HAt.out ?_
      rintro e w1 ⟨rfl, hb1⟩
      go_wp2_with fail
      go_at_call 92
      refine Calls.mono (HIt.out _ hb1) ?_
      rintro e w2 ⟨rfl, hb2⟩
      go_wp2_with fail
      go_ret2
      exact ⟨v, false, rfl, by rw [HN.out]; rfl, hwfH.out, Below.thenOf hb1 hb2 hb1.size⟩
  | «syntax» =>
    obtain ⟨ev, e1, e2⟩ := he.2.1
    have HAt : Hid (Calls Tryz.prog 91 #[.string s, .int .i64 10, .int .i64 64] w fun e w' => ∃ n t p, e = .returned (.tuple #[.int .i64 n, .iface t (.pointer (some p))]) ∧ wf n ∧ Below w.heap.size w w') :=
      (Tryz.strconv_ParseInt_10_at64_syntax s (by omega) ((parseInt_eq _).trans hA) ev w e1 e2).mono (by rintro e w2 ⟨N, rfl, _, _, hb⟩; exact ⟨0, _, _, rfl, by unfold wf; decide, hb⟩)
    have HN : Hid (numOf s.data.toList = none) := by unfold Hid numOf; rw [hA]
    clear hA e1 e2
    go_enter Tryz.func52, Tryz.ntmps52
    go_wp2_with fail
    go_at_call 91
    refine Calls.mono HAt.out ?_
    rintro e w1 ⟨n, t, p, rfl, hwf, hb1⟩
    have hwfH : Hid (wf n) := hwf
    clear hwf
    go_wp2_with fail
    go_ret2
    exact ⟨n, false, rfl, by rw [HN.out]; rfl, hwfH.out, hb1⟩
  | range =>
    obtain ⟨ev, e1, e2⟩ := he.2.2.1
    have HAt : Hid (Calls Tryz.prog 91 #[.string s, .int .i64 10, .int .i64 64] w fun e w' => ∃ n t p, e = .returned (.tuple #[.int .i64 n, .iface t (.pointer (some p))]) ∧ wf n ∧ Below w.heap.size w w') :=
      (Tryz.strconv_ParseInt_10_at64_range s (by omega) ((parseInt_eq _).trans hA) ev w e1 e2).mono (by rintro e w2 ⟨N, rfl, _, _, hb⟩; exact ⟨_, _, _, rfl, by unfold wf Lib.intSat; split <;> decide, hb⟩)
    have HN : Hid (numOf s.data.toList = none) := by unfold Hid numOf; rw [hA]
    clear hA e1 e2
    go_enter Tryz.func52, Tryz.ntmps52
    go_wp2_with fail
    go_at_call 91
    refine Calls.mono HAt.out ?_
    rintro e w1 ⟨n, t, p, rfl, hwf, hb1⟩
    have hwfH : Hid (wf n) := hwf
    clear hwf
    go_wp2_with fail
    go_ret2
    exact ⟨n, false, rfl, by rw [HN.out]; rfl, hwfH.out, hb1⟩

/-! The small maps. -/
theorem keyStr_ok (l : Bs) : WideAt.IsKeyLit (.string l) := by simp [WideAt.IsKeyLit]
theorem keyU8_ok (z : Int) : WideAt.IsKeyLit (.int .u8 z) := by simp [WideAt.IsKeyLit]
def putAll (ns : List Bs) (k : Nat) (D : DataW Unit) : DataW Unit := match ns with
  | [] => D
  | n :: r => putAll r (k + 1) (D.put (.string n) (.lit (.int .i64 k)))
theorem D1_putAll : D1 = putAll vN 0 (.map []) := rfl
theorem D2_putAll : D2 = putAll fN 0 (.map []) := rfl
theorem putAll_miss (l : Bs) : ∀ (ns : List Bs) (k : Nat) (D : DataW Unit), l ∉ ns → Maps.has (putAll ns k D) (.string l) = Maps.has D (.string l) ∧ (putAll ns k D).atKey (.string l) zed = D.atKey (.string l) zed
  | [], _, _, _ => ⟨rfl, rfl⟩
  | n :: r, k, D, h => by
    have hne : Lit.string l ≠ Lit.string n := by
      intro e
      injection e with e
      exact h (by simp [e])
    obtain ⟨h1, h2⟩ := putAll_miss l r (k + 1) (D.put (.string n) (.lit (.int .i64 k))) (fun e => h (by simp [e]))
    rw [putAll, h1, h2, Maps.has_put_other hne, Maps.atKey_put_other hne]
    exact ⟨rfl, rfl⟩
theorem putAll_idx (l : Bs) : ∀ (ns : List Bs) (k : Nat) (D : DataW Unit), Maps.IsMap D → ns.Nodup → 0 ≤ idxL ns l → Maps.has (putAll ns k D) (.string l) = true ∧ (putAll ns k D).atKey (.string l) zed = .lit (.int .i64 (k + idxL ns l))
  | [], _, _, _, _, h => by simp [idxL] at h
  | n :: r, k, D, hD, hn, h => by
    have hge := idxL_ge r l
    have hn' := List.nodup_cons.1 hn
    rw [putAll]
    by_cases e : n = l
    · subst e
      obtain ⟨h1, h2⟩ := putAll_miss n r (k + 1) (D.put (.string n) (.lit (.int .i64 k))) hn'.1
      rw [h1, h2, Maps.has_put_same hD (keyStr_ok n), Maps.atKey_put_same hD (keyStr_ok n)]
      refine ⟨rfl, ?_⟩
      unfold idxL
      rw [if_pos rfl]
      simp
    · unfold idxL at h ⊢
      rw [if_neg e] at h ⊢
      by_cases h2 : idxL r l = -1
      · rw [if_pos h2] at h; omega
      · obtain ⟨k1, k2⟩ := putAll_idx l r (k + 1) _ (hD.put (.string n) (.lit (.int .i64 k))) hn'.2 (by omega)
        refine ⟨k1, ?_⟩
        rw [k2, if_neg h2, show ((k + 1 : Nat) : Int) + idxL r l = (k : Int) + (idxL r l + 1) by omega]
theorem idxL_mem : ∀ (ns : List Bs) (l : Bs), idxL ns l < 0 → l ∉ ns
  | [], l, _ => by simp
  | n :: r, l, h => by
    have hge := idxL_ge r l
    unfold idxL at h
    by_cases e : n = l
    · rw [if_pos e] at h; omega
    · rw [if_neg e] at h
      by_cases h2 : idxL r l = -1
      · have := idxL_mem r l (by omega)
        simp [Ne.symm e, this]
      · rw [if_neg h2] at h; omega
theorem D1_says (l : Bs) : (0 ≤ idxL vN l ∧ Maps.has D1 (.string l) = true ∧ D1.atKey (.string l) zed = .lit (.int .i64 (idxL vN l))) ∨ (idxL vN l < 0 ∧ Maps.has D1 (.string l) = false) := by
  by_cases h : 0 ≤ idxL vN l
  · obtain ⟨h1, h2⟩ := putAll_idx l vN 0 (.map []) Maps.isMap_empty (by decide) h
    exact .inl ⟨h, h1, by rw [D1_putAll, h2]; simp⟩
  · obtain ⟨h1, _⟩ := putAll_miss l vN 0 (.map []) (idxL_mem _ _ (by omega))
    exact .inr ⟨by omega, h1⟩
theorem D2_says (l : Bs) : (0 ≤ idxL fN l ∧ Maps.has D2 (.string l) = true ∧ D2.atKey (.string l) zed = .lit (.int .i64 (idxL fN l))) ∨ (idxL fN l < 0 ∧ Maps.has D2 (.string l) = false) := by
  by_cases h : 0 ≤ idxL fN l
  · obtain ⟨h1, h2⟩ := putAll_idx l fN 0 (.map []) Maps.isMap_empty (by decide) h
    exact .inl ⟨h, h1, by rw [D2_putAll, h2]; simp⟩
  · obtain ⟨h1, _⟩ := putAll_miss l fN 0 (.map []) (idxL_mem _ _ (by omega))
    exact .inr ⟨by omega, h1⟩
/-- What the operations' map says of a sign. -/
def opNum (b : UInt8) : Int := if opC.contains b = true then 1 + Lib.indexByte opC b else 0
theorem D3_says (b : UInt8) : D3.atKey (.int .u8 b.toNat) zed = .lit (.int .i64 (opNum b)) := by
  have hk : ∀ z, WideAt.IsKeyLit (.int .u8 z) := keyU8_ok
  have m0 : Maps.IsMap (.map [] : DataW Unit) := Maps.isMap_empty
  have ne : ∀ z : Int, (b.toNat : Int) ≠ z → Lit.int .u8 b.toNat ≠ Lit.int .u8 z := fun z h e => by
    injection e with _ e
    exact h e
  unfold D3
  by_cases h4 : b = 62
  · subst h4
    exact Maps.atKey_put_same (((m0.put _ _).put _ _).put _ _) (hk 62) _ _
  · have n4 : (b.toNat : Int) ≠ 62 := fun e => h4 (UInt8.toNat_inj.1 (by show b.toNat = 62; omega))
    rw [Maps.atKey_put_other (ne 62 n4)]
    by_cases h3 : b = 60
    · subst h3
      exact Maps.atKey_put_same ((m0.put _ _).put _ _) (hk 60) _ _
    · have n3 : (b.toNat : Int) ≠ 60 := fun e => h3 (UInt8.toNat_inj.1 (by show b.toNat = 60; omega))
      rw [Maps.atKey_put_other (ne 60 n3)]
      by_cases h2 : b = 33
      · subst h2
        exact Maps.atKey_put_same (m0.put _ _) (hk 33) _ _
      · have n2 : (b.toNat : Int) ≠ 33 := fun e => h2 (UInt8.toNat_inj.1 (by show b.toNat = 33; omega))
        rw [Maps.atKey_put_other (ne 33 n2)]
        by_cases h1 : b = 61
        · subst h1
          exact Maps.atKey_put_same m0 (hk 61) _ _
        · have n1 : (b.toNat : Int) ≠ 61 := fun e => h1 (UInt8.toNat_inj.1 (by show b.toNat = 61; omega))
          rw [Maps.atKey_put_other (ne 61 n1)]
          have hc : opC.contains b = false := by
            unfold opC
            simp [h1, h2, h3, h4]
          unfold opNum
          rw [hc]
          rfl
theorem opNum_zero (b : UInt8) : (opNum b = 0) ↔ opC.contains b = false := by
  have := Lib.contains_iff_indexByte opC b
  unfold opNum
  cases h : opC.contains b
  · simp
  · rw [h] at this
    have h0 : 0 ≤ Lib.indexByte opC b := by simpa using this.symm
    simp
    omega

/-! Cutting. -/
theorem splitL_clean (c : UInt8) : ∀ (l p : Bs), p ∈ splitL c l → c ∉ p
  | [], p, h => by simp [splitL] at h; subst h; simp
  | b :: l, p, h => by
    have ih := splitL_clean c l
    unfold splitL at h
    split at h
    · rcases List.mem_cons.1 h with rfl | h
      · simp
      · exact ih p h
    · rename_i hb
      split at h
      · simp at h; subst h; simpa using fun e : c = b => hb e.symm
      · rename_i h0 t0 hs
        rw [hs] at ih
        rcases List.mem_cons.1 h with rfl | h
        · have := ih h0 (by simp)
          simp [this]
          exact fun e => hb e.symm
        · exact ih p (by simp [h])
theorem index_hit (c : UInt8) (m : Bs) : ∀ x : Bs, c ∉ x → Lib.index (x ++ c :: m) [c] = x.length
  | [], _ => by simp [Lib.index, List.isPrefixOf]
  | b :: x, h => by
    have ih := index_hit c m x (fun e => h (by simp [e]))
    have hb : (c == b) = false := by
      rw [beq_eq_false_iff_ne]
      intro e
      exact h (by simp [e])
    rw [List.cons_append, Lib.index, ih]
    simp [List.isPrefixOf, hb]
theorem index_miss (c : UInt8) : ∀ x : Bs, c ∉ x → Lib.index x [c] = -1
  | [], _ => by simp [Lib.index]
  | b :: x, h => by
    have ih := index_miss c x (fun e => h (by simp [e]))
    have hb : (c == b) = false := by
      rw [beq_eq_false_iff_ne]
      intro e
      exact h (by simp [e])
    rw [Lib.index, ih]
    simp [List.isPrefixOf, hb]
theorem cut_parts (x : Bs) (rest : List Bs) (h : (59 : UInt8) ∉ x) : Lib.cut (joinL 59 (x :: rest)) [59] = (x, joinL 59 rest, !rest.isEmpty) := by
  cases rest with
  | nil =>
    show Lib.cut x [59] = _
    unfold Lib.cut
    rw [index_miss 59 x h]
    rfl
  | cons y r =>
    show Lib.cut (x ++ 59 :: joinL 59 (y :: r)) [59] = _
    unfold Lib.cut
    rw [index_hit 59 _ x h]
    simp
theorem verdict_clean {x : Bs} (h : 0 ≤ idxL vN x) : splitL 32 x = [x] := by
  have hg := idxL_get vN x h
  have hl := idxL_lt vN x
  have e : vN.length = 5 := rfl
  rw [e] at hl
  refine splitL_one 32 x fun hm => ?_
  rw [← hg] at hm
  exact (names_clean.1 (idxL vN x).toNat (by omega) _ hm).2 rfl

end Go.Proofs.YthpllmhnpbigiacGreatDoor
