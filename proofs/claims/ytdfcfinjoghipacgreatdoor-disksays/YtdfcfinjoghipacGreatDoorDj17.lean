/- Joined: PRA PRB0 Nte0. -/
import Derived.Test.YtdfcfinjoghipacGreatDoorDj13
import Derived.Test.YtdfcfinjoghipacGreatDoorDj14
import Derived.Test.YtdfcfinjoghipacGreatDoorDj16
import Derived.Test.YtdfcfinjoghipacGreatDoorDj03
import Derived.Lib.ParseIntB
import Derived.Test.YtdfcfinjoghipacGreatDoorDj08
import Derived.Test.YtdfcfinjoghipacGreatDoorDj04
import Derived.Laws.ResultCell
section
/- The counterpart's reader at any text: what its small maps say, how its texts are cut, its numbers. -/
set_option linter.all false
set_option maxRecDepth 100000
namespace Go.Proofs.YtdfcfinjoghipacGreatDoor
open Go.RowKit Go.Maps

/-! Numbers. -/
theorem parseM_eq : ∀ (l : Bs) (acc : Nat), Lib.parseUintM (2 ^ 64 - 1) acc l = Lib.parseUint10 acc l
  | [], acc => rfl
  | c :: r, acc => by
    rw [Lib.parseUintM, Lib.parseUint10]
    by_cases h : 48 ≤ c.toNat ∧ c.toNat ≤ 57
    · rw [if_pos h, if_pos h]
      by_cases h1 : 1844674407370955162 ≤ acc
      · rw [if_pos h1, if_pos h1]
      · rw [if_neg h1, if_neg h1]
        by_cases h2 : 18446744073709551616 ≤ acc * 10 + (c.toNat - 48)
        · rw [if_pos h2, if_pos (by omega)]
        · rw [if_neg h2, if_neg (by omega), parseM_eq r]
    · rw [if_neg h, if_neg h]
theorem parseInt_eq (l : Bs) : Lib.parseIntB 64 l = Lib.atoiAll l := by
  have e : ∀ m : Bs, Lib.parseUintB 64 m = Lib.parseMag m := fun m => by
    unfold Lib.parseUintB Lib.parseMag
    split
    · rfl
    · exact parseM_eq m 0
  cases l with
  | nil => rfl
  | cons c r =>
    unfold Lib.parseIntB Lib.atoiAll
    simp only []
    rw [e]
    rfl

set_option maxHeartbeats 2000000 in
theorem whole_any (s : ByteArray) (hs : s.size ≤ 4294967280) (w : World) (he : EnvT w) :
    Calls Tryz.prog 69 #[.string s] w fun e w' => ∃ n ok, e = .returned (.tuple #[.int .i64 n, .bool ok]) ∧ (numOf s.data.toList = if ok = true then some n else none) ∧ wf n ∧ Below w.heap.size w w' := by
  cases hA : Lib.atoiAll s.data.toList with
  | ok v =>
    obtain ⟨v0, v1⟩ := atoiAll_in hA
    have hwf : wf v := by unfold wf; exact WalkArith.wf_i64 (by omega)
    have HIt : Hid (∀ w', Below w.heap.size w w' → Calls Tryz.prog 118 #[.int .i64 v, .int .i64 10] w' fun e w'' => e = .returned (.string ⟨(Lib.itoa v).toArray⟩) ∧ Below w'.heap.size w' w'') := fun w' hb =>
      (Tryz.strconv_FormatInt_10 v v0 v1 w' (he.later hb).2.2.2).mono (by rintro e w2 ⟨rfl, k, os, rfl⟩; exact ⟨rfl, Lib.below_grow _ _ (Nat.le_refl _) _ _⟩)
    have HAt : Hid (Calls Tryz.prog 117 #[.string s, .int .i64 10, .int .i64 64] w fun e w' => e = .returned (.tuple #[.int .i64 v, .nilIface]) ∧ Below w.heap.size w w') :=
      (Tryz.strconv_ParseInt_10_at64_ok s (by omega) v ((parseInt_eq _).trans hA) w).mono (fun e w2 h => ⟨h.1, by rcases h.2 with rfl | ⟨t, h⟩; (exact Below.refl _ _); (exact bytesWorld_below _ _ _ _ h)⟩)
    have hN : Hid (numOf s.data.toList = if Lib.itoa v = s.data.toList then some v else none) := by unfold Hid numOf; rw [hA]
    have hwfH : Hid (wf v) := hwf
    clear hwf hA
    by_cases hq : Lib.itoa v = s.data.toList
    · have hd : (Lib.itoa v).toArray = s.data := by rw [hq]
      have HN : Hid (numOf s.data.toList = some v) := by unfold Hid; rw [hN.out, if_pos hq]
      clear hN hq
      go_enter Tryz.func69, Tryz.ntmps69
      go_wp2_with fail
      go_at_call 117
      refine Calls.mono HAt.out ?_
      rintro e w1 ⟨rfl, hb1⟩
      go_wp2_with fail
      go_at_call 118
      refine Calls.mono (HIt.out _ hb1) ?_
      rintro e w2 ⟨rfl, hb2⟩
      go_wp2_with fail
      go_ret2
      exact ⟨v, true, rfl, by rw [HN.out]; rfl, hwfH.out, Below.thenOf hb1 hb2 hb1.size⟩
    · have hd : (Lib.itoa v == s.toList) = false := by
        rw [Lib.toList_data]
        simpa using hq
      have HN : Hid (numOf s.data.toList = none) := by unfold Hid; rw [hN.out, if_neg hq]
      clear hN hq
      go_enter Tryz.func69, Tryz.ntmps69
      go_wp2_with fail
      go_at_call 117
      refine Calls.mono HAt.out ?_
      rintro e w1 ⟨rfl, hb1⟩
      go_wp2_with fail
      go_at_call 118
      refine Calls.mono (HIt.out _ hb1) ?_
      rintro e w2 ⟨rfl, hb2⟩
      go_wp2_with fail
      go_ret2
      exact ⟨v, false, rfl, by rw [HN.out]; rfl, hwfH.out, Below.thenOf hb1 hb2 hb1.size⟩
  | «syntax» =>
    obtain ⟨ev, e1, e2⟩ := he.2.1
    have HAt : Hid (Calls Tryz.prog 117 #[.string s, .int .i64 10, .int .i64 64] w fun e w' => ∃ n t p, e = .returned (.tuple #[.int .i64 n, .iface t (.pointer (some p))]) ∧ wf n ∧ Below w.heap.size w w') :=
      (Tryz.strconv_ParseInt_10_at64_syntax s (by omega) ((parseInt_eq _).trans hA) ev w e1 e2).mono (by rintro e w2 ⟨N, rfl, _, _, hb⟩; exact ⟨0, _, _, rfl, by unfold wf; decide, hb⟩)
    have HN : Hid (numOf s.data.toList = none) := by unfold Hid numOf; rw [hA]
    clear hA e1 e2
    go_enter Tryz.func69, Tryz.ntmps69
    go_wp2_with fail
    go_at_call 117
    refine Calls.mono HAt.out ?_
    rintro e w1 ⟨n, t, p, rfl, hwf, hb1⟩
    have hwfH : Hid (wf n) := hwf
    clear hwf
    go_wp2_with fail
    go_ret2
    exact ⟨n, false, rfl, by rw [HN.out]; rfl, hwfH.out, hb1⟩
  | range =>
    obtain ⟨ev, e1, e2⟩ := he.2.2.1
    have HAt : Hid (Calls Tryz.prog 117 #[.string s, .int .i64 10, .int .i64 64] w fun e w' => ∃ n t p, e = .returned (.tuple #[.int .i64 n, .iface t (.pointer (some p))]) ∧ wf n ∧ Below w.heap.size w w') :=
      (Tryz.strconv_ParseInt_10_at64_range s (by omega) ((parseInt_eq _).trans hA) ev w e1 e2).mono (by rintro e w2 ⟨N, rfl, _, _, hb⟩; exact ⟨_, _, _, rfl, by unfold wf Lib.intSat; split <;> decide, hb⟩)
    have HN : Hid (numOf s.data.toList = none) := by unfold Hid numOf; rw [hA]
    clear hA e1 e2
    go_enter Tryz.func69, Tryz.ntmps69
    go_wp2_with fail
    go_at_call 117
    refine Calls.mono HAt.out ?_
    rintro e w1 ⟨n, t, p, rfl, hwf, hb1⟩
    have hwfH : Hid (wf n) := hwf
    clear hwf
    go_wp2_with fail
    go_ret2
    exact ⟨n, false, rfl, by rw [HN.out]; rfl, hwfH.out, hb1⟩

/-! The small maps. -/
theorem keyStr_ok (l : Bs) : WideAt.IsKeyLit (.string l) := by simp [WideAt.IsKeyLit]
theorem keyU8_ok (z : Int) : WideAt.IsKeyLit (.int .u8 z) := by simp [WideAt.IsKeyLit]
def putAll (ns : List Bs) (k : Nat) (D : DataW Unit) : DataW Unit := match ns with
  | [] => D
  | n :: r => putAll r (k + 1) (D.put (.string n) (.lit (.int .i64 k)))
theorem D1_putAll : D1 = putAll vN 0 (.map []) := rfl
theorem D2_putAll : D2 = putAll fN 0 (.map []) := rfl
theorem putAll_miss (l : Bs) : ∀ (ns : List Bs) (k : Nat) (D : DataW Unit), l ∉ ns → Maps.has (putAll ns k D) (.string l) = Maps.has D (.string l) ∧ (putAll ns k D).atKey (.string l) zed = D.atKey (.string l) zed
  | [], _, _, _ => ⟨rfl, rfl⟩
  | n :: r, k, D, h => by
    have hne : Lit.string l ≠ Lit.string n := by
      intro e
      injection e with e
      exact h (by simp [e])
    obtain ⟨h1, h2⟩ := putAll_miss l r (k + 1) (D.put (.string n) (.lit (.int .i64 k))) (fun e => h (by simp [e]))
    rw [putAll, h1, h2, Maps.has_put_other hne, Maps.atKey_put_other hne]
    exact ⟨rfl, rfl⟩
theorem putAll_idx (l : Bs) : ∀ (ns : List Bs) (k : Nat) (D : DataW Unit), Maps.IsMap D → ns.Nodup → 0 ≤ idxL ns l → Maps.has (putAll ns k D) (.string l) = true ∧ (putAll ns k D).atKey (.string l) zed = .lit (.int .i64 (k + idxL ns l))
  | [], _, _, _, _, h => by simp [idxL] at h
  | n :: r, k, D, hD, hn, h => by
    have hge := idxL_ge r l
    have hn' := List.nodup_cons.1 hn
    rw [putAll]
    by_cases e : n = l
    · subst e
      obtain ⟨h1, h2⟩ := putAll_miss n r (k + 1) (D.put (.string n) (.lit (.int .i64 k))) hn'.1
      rw [h1, h2, Maps.has_put_same hD (keyStr_ok n), Maps.atKey_put_same hD (keyStr_ok n)]
      refine ⟨rfl, ?_⟩
      unfold idxL
      rw [if_pos rfl]
      simp
    · unfold idxL at h ⊢
      rw [if_neg e] at h ⊢
      by_cases h2 : idxL r l = -1
      · rw [if_pos h2] at h; omega
      · obtain ⟨k1, k2⟩ := putAll_idx l r (k + 1) _ (hD.put (.string n) (.lit (.int .i64 k))) hn'.2 (by omega)
        refine ⟨k1, ?_⟩
        rw [k2, if_neg h2, show ((k + 1 : Nat) : Int) + idxL r l = (k : Int) + (idxL r l + 1) by omega]
theorem idxL_mem : ∀ (ns : List Bs) (l : Bs), idxL ns l < 0 → l ∉ ns
  | [], l, _ => by simp
  | n :: r, l, h => by
    have hge := idxL_ge r l
    unfold idxL at h
    by_cases e : n = l
    · rw [if_pos e] at h; omega
    · rw [if_neg e] at h
      by_cases h2 : idxL r l = -1
      · have := idxL_mem r l (by omega)
        simp [Ne.symm e, this]
      · rw [if_neg h2] at h; omega
theorem D1_says (l : Bs) : (0 ≤ idxL vN l ∧ Maps.has D1 (.string l) = true ∧ D1.atKey (.string l) zed = .lit (.int .i64 (idxL vN l))) ∨ (idxL vN l < 0 ∧ Maps.has D1 (.string l) = false) := by
  by_cases h : 0 ≤ idxL vN l
  · obtain ⟨h1, h2⟩ := putAll_idx l vN 0 (.map []) Maps.isMap_empty (by decide) h
    exact .inl ⟨h, h1, by rw [D1_putAll, h2]; simp⟩
  · obtain ⟨h1, _⟩ := putAll_miss l vN 0 (.map []) (idxL_mem _ _ (by omega))
    exact .inr ⟨by omega, h1⟩
theorem D2_says (l : Bs) : (0 ≤ idxL fN l ∧ Maps.has D2 (.string l) = true ∧ D2.atKey (.string l) zed = .lit (.int .i64 (idxL fN l))) ∨ (idxL fN l < 0 ∧ Maps.has D2 (.string l) = false) := by
  by_cases h : 0 ≤ idxL fN l
  · obtain ⟨h1, h2⟩ := putAll_idx l fN 0 (.map []) Maps.isMap_empty (by decide) h
    exact .inl ⟨h, h1, by rw [D2_putAll, h2]; simp⟩
  · obtain ⟨h1, _⟩ := putAll_miss l fN 0 (.map []) (idxL_mem _ _ (by omega))
    exact .inr ⟨by omega, h1⟩
/-- What the operations' map says of a sign. -/
def opNum (b : UInt8) : Int := if opC.contains b = true then 1 + Lib.indexByte opC b else 0
theorem D3_says (b : UInt8) : D3.atKey (.int .u8 b.toNat) zed = .lit (.int .i64 (opNum b)) := by
  have hk : ∀ z, WideAt.IsKeyLit (.int .u8 z) := keyU8_ok
  have m0 : Maps.IsMap (.map [] : DataW Unit) := Maps.isMap_empty
  have ne : ∀ z : Int, (b.toNat : Int) ≠ z → Lit.int .u8 b.toNat ≠ Lit.int .u8 z := fun z h e => by
    injection e with _ e
    exact h e
  unfold D3
  by_cases h4 : b = 62
  · subst h4
    exact Maps.atKey_put_same (((m0.put _ _).put _ _).put _ _) (hk 62) _ _
  · have n4 : (b.toNat : Int) ≠ 62 := fun e => h4 (UInt8.toNat_inj.1 (by show b.toNat = 62; omega))
    rw [Maps.atKey_put_other (ne 62 n4)]
    by_cases h3 : b = 60
    · subst h3
      exact Maps.atKey_put_same ((m0.put _ _).put _ _) (hk 60) _ _
    · have n3 : (b.toNat : Int) ≠ 60 := fun e => h3 (UInt8.toNat_inj.1 (by show b.toNat = 60; omega))
      rw [Maps.atKey_put_other (ne 60 n3)]
      by_cases h2 : b = 33
      · subst h2
        exact Maps.atKey_put_same (m0.put _ _) (hk 33) _ _
      · have n2 : (b.toNat : Int) ≠ 33 := fun e => h2 (UInt8.toNat_inj.1 (by show b.toNat = 33; omega))
        rw [Maps.atKey_put_other (ne 33 n2)]
        by_cases h1 : b = 61
        · subst h1
          exact Maps.atKey_put_same m0 (hk 61) _ _
        · have n1 : (b.toNat : Int) ≠ 61 := fun e => h1 (UInt8.toNat_inj.1 (by show b.toNat = 61; omega))
          rw [Maps.atKey_put_other (ne 61 n1)]
          have hc : opC.contains b = false := by
            unfold opC
            simp [h1, h2, h3, h4]
          unfold opNum
          rw [hc]
          rfl
theorem opNum_zero (b : UInt8) : (opNum b = 0) ↔ opC.contains b = false := by
  have := Lib.contains_iff_indexByte opC b
  unfold opNum
  cases h : opC.contains b
  · simp
  · rw [h] at this
    have h0 : 0 ≤ Lib.indexByte opC b := by simpa using this.symm
    simp
    omega

/-! Cutting. -/
theorem splitL_clean (c : UInt8) : ∀ (l p : Bs), p ∈ splitL c l → c ∉ p
  | [], p, h => by simp [splitL] at h; subst h; simp
  | b :: l, p, h => by
    have ih := splitL_clean c l
    unfold splitL at h
    split at h
    · rcases List.mem_cons.1 h with rfl | h
      · simp
      · exact ih p h
    · rename_i hb
      split at h
      · simp at h; subst h; simpa using fun e : c = b => hb e.symm
      · rename_i h0 t0 hs
        rw [hs] at ih
        rcases List.mem_cons.1 h with rfl | h
        · have := ih h0 (by simp)
          simp [this]
          exact fun e => hb e.symm
        · exact ih p (by simp [h])
theorem index_hit (c : UInt8) (m : Bs) : ∀ x : Bs, c ∉ x → Lib.index (x ++ c :: m) [c] = x.length
  | [], _ => by simp [Lib.index, List.isPrefixOf]
  | b :: x, h => by
    have ih := index_hit c m x (fun e => h (by simp [e]))
    have hb : (c == b) = false := by
      rw [beq_eq_false_iff_ne]
      intro e
      exact h (by simp [e])
    rw [List.cons_append, Lib.index, ih]
    simp [List.isPrefixOf, hb]
theorem index_miss (c : UInt8) : ∀ x : Bs, c ∉ x → Lib.index x [c] = -1
  | [], _ => by simp [Lib.index]
  | b :: x, h => by
    have ih := index_miss c x (fun e => h (by simp [e]))
    have hb : (c == b) = false := by
      rw [beq_eq_false_iff_ne]
      intro e
      exact h (by simp [e])
    rw [Lib.index, ih]
    simp [List.isPrefixOf, hb]
theorem cut_parts (x : Bs) (rest : List Bs) (h : (59 : UInt8) ∉ x) : Lib.cut (joinL 59 (x :: rest)) [59] = (x, joinL 59 rest, !rest.isEmpty) := by
  cases rest with
  | nil =>
    show Lib.cut x [59] = _
    unfold Lib.cut
    rw [index_miss 59 x h]
    rfl
  | cons y r =>
    show Lib.cut (x ++ 59 :: joinL 59 (y :: r)) [59] = _
    unfold Lib.cut
    rw [index_hit 59 _ x h]
    simp
theorem verdict_clean {x : Bs} (h : 0 ≤ idxL vN x) : splitL 32 x = [x] := by
  have hg := idxL_get vN x h
  have hl := idxL_lt vN x
  have e : vN.length = 5 := rfl
  rw [e] at hl
  refine splitL_one 32 x fun hm => ?_
  rw [← hg] at hm
  exact (names_clean.1 (idxL vN x).toNat (by omega) _ hm).2 rfl

end Go.Proofs.YtdfcfinjoghipacGreatDoor
end
section
/- The counterpart's reader at any text: plain facts, its small closure, rows that are a policy. -/
set_option linter.all false
set_option maxRecDepth 100000
namespace Go.Proofs.YtdfcfinjoghipacGreatDoor
open Go.RowKit Go.Maps

theorem parse_none {l : Bs} (hl : l.length ≤ 60000) (h : polOf l = none) : parseR l = (([], 0), 1) := by
  unfold parseR
  rw [if_neg (by omega), h]
theorem parse_some {l : Bs} {p : PolT} (hl : l.length ≤ 60000) (h : polOf l = some p) : parseR l = if polErr p = 0 then (p, 0) else (([], 0), polErr p) := by
  unfold parseR
  rw [if_neg (by omega), h]
theorem pol_badRule {l x : Bs} {i : Nat} (h : (splitL 59 l)[i]? = some x) (hi : i + 1 < (splitL 59 l).length) (hr : ruleOf x = none) : polOf l = none := by
  unfold polOf
  rw [allOf_none ruleOf _ i x (by rw [List.getElem?_dropLast, if_pos (by omega)]; exact h) hr]
theorem pol_last {l x : Bs} {i : Nat} (h : (splitL 59 l)[i]? = some x) (hi : i + 1 = (splitL 59 l).length) : (splitL 59 l).getLast (splitL_ne 59 l) = x := by
  have h1 := List.getLast?_eq_some_getLast (splitL_ne 59 l)
  rw [List.getLast?_eq_getElem?, ← hi, Nat.add_sub_cancel, h] at h1
  exact (Option.some.inj h1).symm
theorem pol_badLast {l x : Bs} {i : Nat} (h : (splitL 59 l)[i]? = some x) (hi : i + 1 = (splitL 59 l).length) (hx : idxL vN x < 0) : polOf l = none := by
  unfold polOf
  rw [pol_last h hi]
  cases allOf ruleOf (splitL 59 l).dropLast with
  | none => rfl
  | some rs => simp only []; rw [if_pos hx]
theorem pol_good {l x : Bs} {i : Nat} {rs : List RuleT} (h : (splitL 59 l)[i]? = some x) (hi : i + 1 = (splitL 59 l).length) (ha : allOf ruleOf ((splitL 59 l).take i) = some rs) (hx : 0 ≤ idxL vN x) : polOf l = some (rs, idxL vN x) := by
  unfold polOf
  rw [pol_last h hi, List.dropLast_eq_take, ← hi, Nat.add_sub_cancel, ha]
  simp only []
  rw [if_neg (by omega)]
theorem rule_bad {x h : Bs} {t : List Bs} (hs : splitL 32 x = h :: t) (hv : idxL vN h < 0) : ruleOf x = none := by
  unfold ruleOf
  rw [hs]
  simp only []
  rw [if_pos hv]
theorem rule_badWord {x h u : Bs} {t : List Bs} {j : Nat} (hs : splitL 32 x = h :: t) (hu : t[j]? = some u) (hc : condOf u = none) : ruleOf x = none := by
  unfold ruleOf
  rw [hs]
  simp only []
  rw [allOf_none condOf t j u hu hc]
  simp
theorem rule_good {x h : Bs} {t : List Bs} {cs : List CondT} (hs : splitL 32 x = h :: t) (hv : 0 ≤ idxL vN h) (ha : allOf condOf t = some cs) : ruleOf x = some (cs, idxL vN h) := by
  unfold ruleOf
  rw [hs]
  simp only []
  rw [if_neg (by omega), ha]
theorem indexAny_free : ∀ (l cs : Bs) (i : Nat), i < l.length → (Lib.indexAny l cs < 0 ∨ (i : Int) < Lib.indexAny l cs) → cs.contains (l.getD i 0) = false
  | [], _, _, h, _ => by simp at h
  | b :: r, cs, i, hi, h => by
    have hge := Lib.indexAny_ge cs r
    unfold Lib.indexAny at h
    by_cases hb : cs.contains b = true
    · rw [if_pos hb] at h; omega
    · rw [if_neg hb] at h
      cases i with
      | zero => simpa using hb
      | succ i =>
        have ih := indexAny_free r cs i (by simpa using hi)
        rw [List.getD_cons_succ]
        refine ih ?_
        by_cases h2 : (Lib.indexAny r cs == -1) = true
        · left
          have : Lib.indexAny r cs = -1 := by simpa using h2
          omega
        · rw [if_neg h2] at h
          have : Lib.indexAny r cs ≠ -1 := by simpa using h2
          omega
/-- Where a condition's sign stands, and what the condition is. -/
theorem opIdx (l : Bs) : ∃ K : Nat, K ≤ l.length ∧ (∀ i, i < K → opNum (l.getD i 0) = 0) ∧ ((K = l.length ∧ condOf l = none) ∨ (K < l.length ∧ opNum (l.getD K 0) ≠ 0 ∧ condOf l = match numOf (l.drop (K + 1)) with
    | none => none
    | some n => if idxL fN (l.take K) < 0 then none else some (idxL fN (l.take K), opNum (l.getD K 0), n))) := by
  have hge := Lib.indexAny_ge opC l
  have hlt := indexAny_lt opC l
  by_cases h : Lib.indexAny l opC < 0
  · refine ⟨l.length, Nat.le_refl _, fun i hi => (opNum_zero _).2 (indexAny_free l opC i hi (.inl h)), .inl ⟨rfl, ?_⟩⟩
    unfold condOf
    rw [if_pos h]
  · obtain ⟨K, hK⟩ : ∃ K : Nat, Lib.indexAny l opC = K := ⟨(Lib.indexAny l opC).toNat, by omega⟩
    have hm := indexAny_mem l opC (by omega)
    rw [hK, Int.toNat_natCast] at hm
    refine ⟨K, by omega, fun i hi => (opNum_zero _).2 (indexAny_free l opC i (by omega) (.inr (by omega))), .inr ⟨by omega, fun e => ?_, ?_⟩⟩
    · rw [(opNum_zero _).1 e] at hm
      cases hm
    · have e : opNum (l.getD K 0) = 1 + Lib.indexByte opC (l.getD K 0) := by unfold opNum; rw [if_pos hm]
      unfold condOf
      rw [hK, if_neg (by omega), Int.toNat_natCast, e]
      rfl
theorem allOf_mem {α : Type} (f : Bs → Option α) : ∀ (l : List Bs) (r : List α), allOf f l = some r → ∀ a ∈ r, ∃ w ∈ l, f w = some a
  | [], r, h, a, ha => by simp [allOf] at h; subst h; cases ha
  | x :: l, r, h, a, ha => by
    rw [allOf] at h
    cases h1 : f x <;> cases h2 : allOf f l <;> rw [h1, h2] at h <;> simp at h
    subst h
    rcases List.mem_cons.1 ha with rfl | ha
    · exact ⟨x, by simp, h1⟩
    · obtain ⟨w, hw, e⟩ := allOf_mem f l _ h2 a ha
      exact ⟨w, by simp [hw], e⟩
def CondWf (c : CondT) : Prop := wf c.1 ∧ wf c.2.1 ∧ wf c.2.2
def RuleWf (r : RuleT) : Prop := wf r.2 ∧ ∀ c ∈ r.1, CondWf c
theorem ruleOf_all {l : Bs} {r : RuleT} (h : ruleOf l = some r) : RuleWf r := by
  refine ⟨ruleOf_wf h, fun c hc => ?_⟩
  unfold ruleOf at h
  split at h
  · cases h
  · split at h
    · cases h
    · split at h
      · cases h
      · rename_i cs ha
        cases h
        obtain ⟨w, _, e⟩ := allOf_mem condOf _ _ ha c hc
        exact condOf_wf e
theorem condsAt_w {B base : Nat} {w : World} {cv : Value} {cs : List CondT} (h : w.ownsRow base 83 3 cv cs.length (condCells cs)) (hok : ∀ c ∈ cs, CondWf c) (hB : w.heap.size ≤ B) : CondsAt B w cv cs := by
  obtain ⟨a, cap, rfl, h1, h2, h3⟩ := ownsRow_caps h
  refine ⟨a, cap, rfl, h1, h2, fun i c hc => ?_⟩
  have hi : i < cs.length := (List.getElem?_eq_some_iff.1 hc).1
  obtain ⟨g, rfl, hg1, hg2⟩ := h3 (by omega)
  obtain ⟨e0, e1, e2⟩ := condCells_get cs i c hc
  obtain ⟨w0, w1, w2⟩ := hok c (List.mem_of_getElem? hc)
  refine ⟨g, 0, rfl, by omega, ?_, ?_, ?_, w0, w1, w2⟩
  · rw [Nat.zero_add]; exact ownsRow_cell h _ _ e0
  · rw [Nat.zero_add]; exact ownsRow_cell h _ _ e1
  · rw [Nat.zero_add]; exact ownsRow_cell h _ _ e2
theorem rulesAt_w {B base : Nat} {w : World} {rv : Value} {rs : List RuleT} {xs : List Value} (h : w.ownsRow base 79 2 rv rs.length xs) (hx : RulesCells base w rs xs) (hok : ∀ r ∈ rs, RuleWf r) (hB : w.heap.size ≤ B) : RulesAt B w rv rs := by
  obtain ⟨a, cap, rfl, h1, h2, h3⟩ := ownsRow_caps h
  refine ⟨a, cap, rfl, h1, h2, fun i r hr => ?_⟩
  have hi : i < rs.length := (List.getElem?_eq_some_iff.1 hr).1
  obtain ⟨g, rfl, hg1, hg2⟩ := h3 (by omega)
  obtain ⟨cv, e0, e1, hc⟩ := RulesCells.get rs xs i r hx hr
  obtain ⟨k2, k3⟩ := hok r (List.mem_of_getElem? hr)
  refine ⟨g, 0, rfl, by omega, cv, ?_, ?_, k2, condsAt_w hc k3 hB⟩
  · rw [Nat.zero_add]; exact ownsRow_cell h _ _ e0
  · rw [Nat.zero_add]; exact ownsRow_cell h _ _ e1
theorem polAt_w {B base : Nat} {w : World} {rv : Value} {rs : List RuleT} {d : Int} {xs : List Value} (h : w.ownsRow base 79 2 rv rs.length xs) (hx : RulesCells base w rs xs) (hok : ∀ r ∈ rs, RuleWf r) (hd : wf d) (hB : w.heap.size ≤ B) : PolAt B w (.agg #[rv, .int .i64 d]) (rs, d) :=
  ⟨rv, rfl, hd, rulesAt_w h hx hok hB⟩

set_option maxHeartbeats 2000000 in
theorem bad_any (e : Int) (w : World) : Calls Tryz.prog 119 #[.int .i64 e] w fun r w' => r = .returned (.tuple #[.agg #[.slice none 0 0, .int .i64 0], .int .i64 e]) ∧ Below w.heap.size w w' := by
  go_enter Tryz.func119, Tryz.ntmps119
  go_wp2_with fail
  have HR := (MapKept.heap_alloc w (.cells #[.slice none 0 0, .int .i64 0] 24)).1
  obtain ⟨z0, z1, _, _⟩ := cell_of_two HR
  refine bodyPost_ret (v := .tuple #[.agg #[.slice none 0 0, .int .i64 0], .int .i64 e]) ?_ rfl ⟨rfl, (Below.refl _ _).alloc (Nat.le_refl _) _⟩
  rw [results_cell_tmp rfl]
  go_simp
theorem bad_exit {w wx : World} {R0 : Nat} (hb : Below R0 w wx) (h : wx.heap[R0]? = some (.cells #[.slice none 0 0, .int .i64 0] 24 (0, 0))) :
    Below R0 w ((wx.setCell ⟨R0, 0, none⟩ (.slice none 0 0)).setCell ⟨R0, 1, none⟩ (.int .i64 0)) ∧
    ((wx.setCell ⟨R0, 0, none⟩ (.slice none 0 0)).setCell ⟨R0, 1, none⟩ (.int .i64 0)).cell? ⟨R0, 0, none⟩ = some (.slice none 0 0) ∧
    ((wx.setCell ⟨R0, 0, none⟩ (.slice none 0 0)).setCell ⟨R0, 1, none⟩ (.int .i64 0)).cell? ⟨R0, 1, none⟩ = some (.int .i64 0) := by
  obtain ⟨z0, z1, _, _⟩ := cell_of_two (two_setCell1 (u := .int .i64 0) (two_setCell (u := .slice none 0 0) h))
  exact ⟨(hb.setCell (p := ⟨R0, 0, none⟩) (Nat.le_refl _) _).setCell (p := ⟨R0, 1, none⟩) (Nat.le_refl _) _, z0, z1⟩

end Go.Proofs.YtdfcfinjoghipacGreatDoor
end
section
/- Records and their texts: plain data. -/
set_option linter.all false
namespace Go.Proofs.YtdfcfinjoghipacGreatDoor

def kN : List Bs := [[111, 112, 101, 110], [116, 105, 103, 104, 116], [102, 111, 114, 107], [115, 104, 117, 116]]
def recText (r : RecT) : Bs := kN.getD (r.1 - 1).toNat [] ++ 32 :: (Lib.itoa r.2.1 ++ (if r.1 = 3 then 32 :: Lib.itoa r.2.2.1 else if r.1 = 4 then [] else 32 :: polText r.2.2.2))
def printT (r : RecT) : Bs := if recErr r = 0 then recText r else []
/-- The first blank parts a text. -/
def cutSp : Bs → Option (Bs × Bs)
  | [] => none
  | b :: l => if b = 32 then some ([], l) else match cutSp l with
    | none => none
    | some (a, t) => some (b :: a, t)
def split3 (s : Bs) : List Bs := match cutSp s with
  | none => [s]
  | some (a, t) => match cutSp t with
    | none => [a, t]
    | some (b, u) => [a, b, u]
def finRec (r : RecT) : RecT × Int := if recErr r = 0 then (r, 0) else (zeroRec, recErr r)
/-- What a record's text is read as. -/
def recOf (s : Bs) : RecT × Int :=
  if idxL kN ((split3 s).getD 0 []) < 0 ∨ (idxL kN ((split3 s).getD 0 []) = 3 ∧ (split3 s).length ≠ 2) ∨ (idxL kN ((split3 s).getD 0 []) < 3 ∧ (split3 s).length ≠ 3) then (zeroRec, 1)
  else match numOf ((split3 s).getD 1 []) with
    | none => (zeroRec, 1)
    | some c => if idxL kN ((split3 s).getD 0 []) = 2 then (match numOf ((split3 s).getD 2 []) with
        | none => (zeroRec, 1)
        | some f => finRec (3, c, f, [], 0))
      else if idxL kN ((split3 s).getD 0 []) = 3 then finRec (4, c, 0, [], 0)
      else if (parseR ((split3 s).getD 2 [])).2 = 0 then finRec (idxL kN ((split3 s).getD 0 []) + 1, c, 0, (parseR ((split3 s).getD 2 [])).1)
      else (zeroRec, (parseR ((split3 s).getD 2 [])).2)

theorem cutSp_hit : ∀ (a t : Bs), (32 : UInt8) ∉ a → cutSp (a ++ 32 :: t) = some (a, t)
  | [], t, _ => rfl
  | b :: a, t, h => by
    have hb : b ≠ 32 := fun e => h (by simp [e])
    show (if b = 32 then some ([], a ++ 32 :: t) else match cutSp (a ++ 32 :: t) with | none => none | some (a, t) => some (b :: a, t)) = _
    rw [if_neg hb, cutSp_hit a t fun e => h (by simp [e])]
theorem cutSp_miss : ∀ (a : Bs), (32 : UInt8) ∉ a → cutSp a = none
  | [], _ => rfl
  | b :: a, h => by
    have hb : b ≠ 32 := fun e => h (by simp [e])
    show (if b = 32 then some ([], a) else match cutSp a with | none => none | some (a, t) => some (b :: a, t)) = _
    rw [if_neg hb, cutSp_miss a fun e => h (by simp [e])]
theorem cutSp_some : ∀ {s a t : Bs}, cutSp s = some (a, t) → s = a ++ 32 :: t ∧ (32 : UInt8) ∉ a
  | [], a, t, h => by cases h
  | b :: s, a, t, h => by
    have h' : (if b = 32 then some ([], s) else match cutSp s with | none => none | some (a, t) => some (b :: a, t)) = some (a, t) := h
    by_cases hb : b = 32
    · rw [if_pos hb] at h'
      cases h'
      exact ⟨by rw [hb]; rfl, by simp⟩
    · rw [if_neg hb] at h'
      cases hc : cutSp s with
      | none => rw [hc] at h'; cases h'
      | some x =>
        obtain ⟨a', t'⟩ := x
        rw [hc] at h'
        cases h'
        obtain ⟨e, hn⟩ := cutSp_some hc
        exact ⟨by rw [e]; rfl, by simp; exact ⟨fun e => hb e.symm, hn⟩⟩
theorem cutSp_none {s : Bs} (h : cutSp s = none) : (32 : UInt8) ∉ s := by
  intro hm
  obtain ⟨a, t, e, hn⟩ : ∃ a t, s = a ++ 32 :: t ∧ (32 : UInt8) ∉ a := by
    clear h
    induction s with
    | nil => cases hm
    | cons b s ih =>
      by_cases hb : b = 32
      · exact ⟨[], s, by rw [hb]; rfl, by simp⟩
      · rcases List.mem_cons.1 hm with e | hm
        · exact absurd e.symm hb
        · obtain ⟨a, t, e, hn⟩ := ih hm
          exact ⟨b :: a, t, by rw [e]; rfl, by simp; exact ⟨fun e => hb e.symm, hn⟩⟩
  rw [e, cutSp_hit a t hn] at h
  cases h
theorem itoa_clean {n : Int} (h : 0 ≤ n) : (32 : UInt8) ∉ Lib.itoa n := by
  have e : Lib.itoa n = Lib.decDigits n.toNat := by unfold Lib.itoa; rw [if_neg (by omega)]
  rw [e]
  intro hm
  have := decDigits_digit _ _ hm
  have h32 : (32 : UInt8).toNat = 32 := rfl
  omega
theorem kN_clean : ∀ k, k < 4 → (32 : UInt8) ∉ kN.getD k [] := by decide
theorem kN_idx : ∀ k, k < 4 → idxL kN (kN.getD k []) = (k : Int) := by decide

end Go.Proofs.YtdfcfinjoghipacGreatDoor
end
