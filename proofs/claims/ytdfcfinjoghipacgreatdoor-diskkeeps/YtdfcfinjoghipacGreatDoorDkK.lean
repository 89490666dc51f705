/- What DiskKeeps asks, plain: records that are put one behind the other, and what is read of a beginning of them. -/
import Derived.Test.YtdfcfinjoghipacGreatDoorDj37
set_option linter.all false
set_option maxRecDepth 100000
namespace Go.Proofs.YtdfcfinjoghipacGreatDoor

theorem nl_names : (∀ k, k < 5 → (10 : UInt8) ∉ vN.getD k []) ∧ (∀ k, k < 5 → (10 : UInt8) ∉ fN.getD k []) ∧ (∀ k, k < 4 → opC.getD k 0 ≠ 10) ∧ ∀ k, k < 4 → (10 : UInt8) ∉ kN.getD k [] := by decide
theorem nl_itoa {n : Int} (h : 0 ≤ n) : (10 : UInt8) ∉ Lib.itoa n := by
  have e : Lib.itoa n = Lib.decDigits n.toNat := by unfold Lib.itoa; rw [if_neg (by omega)]
  rw [e]
  intro hm
  have := decDigits_digit _ _ hm
  have h10 : (10 : UInt8).toNat = 10 := rfl
  omega
theorem nl_cond {c : CondT} (h : condErr c = 0) : (10 : UInt8) ∉ condText c := by
  obtain ⟨f, o, n⟩ := c
  obtain ⟨h1, h2, h3⟩ := condErr_ok h
  simp only [] at h1 h2 h3
  obtain ⟨fi, rfl⟩ : ∃ k : Nat, f = k := ⟨f.toNat, by omega⟩
  obtain ⟨oi, rfl⟩ : ∃ k : Nat, o = (k : Int) + 1 := ⟨(o - 1).toNat, by omega⟩
  have a1 := nl_names.2.1 fi (by omega)
  have a2 := nl_names.2.2.1 oi (by omega)
  have a3 := nl_itoa h3.1
  intro hm
  unfold condText at hm
  simp only [List.mem_cons, List.mem_append] at hm
  rcases hm with hm | hm | hm | hm
  · exact absurd hm (by decide)
  · unfold fName at hm; simp only [Int.toNat_natCast] at hm; exact a1 hm
  · unfold opSign at hm
    rw [show ((oi : Int) + 1 - 1).toNat = oi by omega] at hm
    exact a2 hm.symm
  · exact a3 hm
theorem nl_verdict {v : Int} (h : verdictOk v = true) : (10 : UInt8) ∉ vName v := by
  have hv : 0 ≤ v ∧ v ≤ 4 := by unfold verdictOk at h; simp at h; omega
  obtain ⟨k, rfl⟩ : ∃ k : Nat, v = k := ⟨v.toNat, by omega⟩
  have := nl_names.1 k (by omega)
  unfold vName
  simpa using this
theorem nl_pol {p : PolT} (h : polErr p = 0) : (10 : UInt8) ∉ polText p := by
  obtain ⟨_, h2, h3⟩ := polErr_ok h
  intro hm
  unfold polText at hm
  rcases List.mem_append.1 hm with hm | hm
  · obtain ⟨r, hr, hm⟩ := List.mem_flatMap.1 hm
    obtain ⟨_, g2, g3⟩ := ruleErr_ok (rulesErr_all h3 r hr)
    unfold ruleText at hm
    rcases List.mem_append.1 hm with hm | hm
    · rcases List.mem_append.1 hm with hm | hm
      · exact nl_verdict g2 hm
      · obtain ⟨c, hc, hm⟩ := List.mem_flatMap.1 hm
        exact nl_cond (condsErr_all g3 c hc) hm
    · simp at hm
  · exact nl_verdict h2 hm
theorem nl_rec {r : RecT} (h : recErr r = 0) : (10 : UInt8) ∉ recText r := by
  obtain ⟨h1, h2, h3, _, h5⟩ := recErr_ok h
  obtain ⟨k, hk⟩ : ∃ k : Nat, r.1 = (k : Int) + 1 := ⟨(r.1 - 1).toNat, by omega⟩
  have hk4 : k < 4 := by omega
  have a1 := nl_names.2.2.2 k hk4
  intro hm
  unfold recText at hm
  rw [show (r.1 - 1).toNat = k by omega] at hm
  rcases List.mem_append.1 hm with hm | hm
  · exact a1 hm
  · rcases List.mem_cons.1 hm with hm | hm
    · exact absurd hm (by decide)
    · rcases List.mem_append.1 hm with hm | hm
      · exact nl_itoa h2.1 hm
      · split at hm
        · rcases List.mem_cons.1 hm with hm | hm
          · exact absurd hm (by decide)
          · exact nl_itoa h3.1 hm
        · split at hm
          · cases hm
          · rename_i n3 n4
            rcases h5 with ⟨_, h5⟩ | ⟨h5, _⟩
            · rcases List.mem_cons.1 hm with hm | hm
              · exact absurd hm (by decide)
              · exact nl_pol h5 hm
            · omega

/-- Records as they are put: each printed, with its line feed. -/
def textsT (rs : List RecT) : Bs := rs.flatMap fun r => recText r ++ [10]
def AllR (rs : List RecT) : Prop := ∀ r ∈ rs, recErr r = 0 ∧ (recText r).length ≤ 60000
theorem textsT_cons (r : RecT) (rs : List RecT) : textsT (r :: rs) = recText r ++ 10 :: textsT rs := by unfold textsT; simp
theorem textsT_append (rs qs : List RecT) : textsT (rs ++ qs) = textsT rs ++ textsT qs := by unfold textsT; simp
theorem textsT_snoc (rs : List RecT) (r : RecT) : textsT (rs ++ [r]) = textsT rs ++ (recText r ++ [10]) := by unfold textsT; simp
/-- Right records are read, and then what stands behind them. -/
theorem lines_texts : ∀ (rs : List RecT) (most : Nat) (t : Bs), AllR rs → rs.length ≤ most → linesP most (textsT rs ++ t) = (rs ++ (linesP (most - rs.length) t).1, (textsT rs).length + (linesP (most - rs.length) t).2.1, (linesP (most - rs.length) t).2.2)
  | [], most, t, _, _ => by simp [textsT]
  | r :: rs, 0, t, _, h => by simp at h
  | r :: rs, most + 1, t, ha, h => by
    obtain ⟨h1, h2⟩ := ha r (by simp)
    have ih := lines_texts rs most t (fun q hq => ha q (by simp [hq])) (by simpa using h)
    rw [textsT_cons, List.append_assoc, List.cons_append, linesP_line _ _ _ (nl_rec h1), rec_read h1 h2]
    simp only [if_true]
    rw [ih]
    simp only [List.length_cons, Nat.add_sub_add_right, List.cons_append, List.length_append, Prod.mk.injEq, true_and, and_true]
    omega
theorem lines_all {rs : List RecT} {most : Nat} (ha : AllR rs) (h : rs.length ≤ most) : linesP most (textsT rs) = (rs, (textsT rs).length, 0) := by
  have := lines_texts rs most [] ha h
  rw [List.append_nil, linesP_nil] at this
  simpa using this
/-- A beginning: some records whole, and of the next one less than all. -/
theorem texts_take : ∀ (rs : List RecT) (m : Nat), AllR rs → ∃ j t, j ≤ rs.length ∧ (textsT rs).take m = textsT (rs.take j) ++ t ∧ (10 : UInt8) ∉ t
  | [], m, _ => ⟨0, [], Nat.le_refl _, by simp [textsT], by simp⟩
  | r :: rs, m, ha => by
    obtain ⟨h1, h2⟩ := ha r (by simp)
    by_cases hm : m ≤ (recText r).length
    · refine ⟨0, (recText r).take m, Nat.zero_le _, ?_, fun h => nl_rec h1 (List.mem_of_mem_take h)⟩
      rw [textsT_cons, List.take_append_of_le_length hm]
      simp [textsT]
    · obtain ⟨j, t, hj, e, ht⟩ := texts_take rs (m - (recText r).length - 1) (fun q hq => ha q (by simp [hq]))
      refine ⟨j + 1, t, by simp; omega, ?_, ht⟩
      rw [textsT_cons, List.take_append, List.take_of_length_le (by omega)]
      obtain ⟨k, hk⟩ : ∃ k, m - (recText r).length = k + 1 := ⟨m - (recText r).length - 1, by omega⟩
      rw [hk, List.take_succ_cons, List.take_succ_cons, textsT_cons, List.append_assoc]
      rw [show m - (recText r).length - 1 = k by omega] at e
      rw [e]
      rfl
theorem lines_begin {rs : List RecT} {most m : Nat} (ha : AllR rs) (h : rs.length ≤ most) : ∃ j, j ≤ rs.length ∧ (linesP most ((textsT rs).take m)).1 = rs.take j ∧ (linesP most ((textsT rs).take m)).2.1 = (textsT (rs.take j)).length ∧ ((textsT rs).take m).take (textsT (rs.take j)).length = textsT (rs.take j) := by
  obtain ⟨j, t, hj, e, ht⟩ := texts_take rs m ha
  refine ⟨j, hj, ?_, ?_, ?_⟩
  all_goals rw [e]
  case refine_3 => simp
  all_goals
    rw [lines_texts (rs.take j) most t (fun q hq => ha q (List.mem_of_mem_take hq)) (by simp; omega)]
    by_cases h0 : t = []
    · subst h0
      rw [linesP_nil]
      simp
    · rw [linesP_torn _ t ht h0]
      simp

/-- Records put one behind the other, as far as there is room and they are right. -/
def putsF (d : DiskT) (l : List RecT) : DiskT × List RecT := l.foldl (fun s c => if dPutE s.1 c = 0 then (dPutR s.1 c, s.2 ++ [c]) else s) (d, [])
theorem putsF_snoc (d : DiskT) (l : List RecT) (c : RecT) : putsF d (l ++ [c]) = if dPutE (putsF d l).1 c = 0 then (dPutR (putsF d l).1 c, (putsF d l).2 ++ [c]) else putsF d l := by
  unfold putsF
  rw [List.foldl_append]
  rfl
theorem putsF_len (d : DiskT) (l : List RecT) : (putsF d l).2.length ≤ l.length := by
  induction hn : l.length generalizing l with
  | zero =>
    obtain rfl := List.eq_nil_of_length_eq_zero hn
    exact Nat.le_refl _
  | succ n ih =>
    obtain ⟨l', c, rfl⟩ : ∃ l' c, l = l' ++ [c] := ⟨l.dropLast, l.getLast (by intro e; rw [e] at hn; simp at hn), (List.dropLast_concat_getLast _).symm⟩
    have := ih l' (by simpa using hn)
    rw [putsF_snoc]
    split
    · simp only [List.length_append, List.length_singleton]
      omega
    · omega
/-- What stands behind the puts. -/
theorem putsF_sm {d : DiskT} (h : DSm d) (l : List RecT) : DSm (putsF d l).1 := by
  induction hn : l.length generalizing l with
  | zero =>
    obtain rfl := List.eq_nil_of_length_eq_zero hn
    exact h
  | succ n ih =>
    obtain ⟨l', c, rfl⟩ : ∃ l' c, l = l' ++ [c] := ⟨l.dropLast, l.getLast (by intro e; rw [e] at hn; simp at hn), (List.dropLast_concat_getLast _).symm⟩
    rw [putsF_snoc]
    split
    · exact dPut_sm
    · exact ih l' (by simp at hn; exact hn)
theorem putsF_says (S : Bs) (hS : (linesP 40 S).2.2 = 0) (hS6 : S.length ≤ 60000) (l : List RecT) : ∃ out, putsF (S, []) l = ((S, textsT out), out) ∧ AllR out ∧ out.length ≤ l.length ∧ S.length + (textsT out).length ≤ 60000 := by
  induction hn : l.length generalizing l with
  | zero =>
    obtain rfl := List.eq_nil_of_length_eq_zero hn
    exact ⟨[], rfl, (fun r hr => by cases hr), Nat.le_refl _, by simpa [textsT] using hS6⟩
  | succ n ih =>
    obtain ⟨l', c, rfl⟩ : ∃ l' c, l = l' ++ [c] := ⟨l.dropLast, l.getLast (by intro e; rw [e] at hn; simp at hn), (List.dropLast_concat_getLast _).symm⟩
    obtain ⟨out, e, ha, hl, hb⟩ := ih l' (by simpa using hn)
    rw [putsF_snoc, e]
    simp only
    have hl' : l'.length = n := by simpa using hn
    have hd : diskErr (S, textsT out) = 0 := diskErr_of hb hS
    by_cases hp : dPutE (S, textsT out) c = 0
    · rw [if_pos hp]
      have hp' := hp
      unfold dPutE putE at hp'
      rw [if_pos hd] at hp'
      by_cases hr : recErr c = 0
      · rw [if_pos hr] at hp'
        have ep : printT c = recText c := by unfold printT; rw [if_pos hr]
        rw [ep] at hp'
        simp only at hp'
        have hlen : S.length + (textsT out).length + (recText c).length + 1 ≤ 60000 := by
          by_cases hx : 60000 < S.length + (textsT out).length + (recText c).length + 1
          · rw [if_pos hx] at hp'; cases hp'
          · omega
        refine ⟨out ++ [c], ?_, ?_, by simp; omega, ?_⟩
        · unfold dPutR
          rw [if_pos hp, ep, textsT_snoc]
        · intro r hm
          rcases List.mem_append.1 hm with hm | hm
          · exact ha r hm
          · simp at hm
            subst hm
            exact ⟨hr, by omega⟩
        · rw [textsT_snoc]
          simp
          omega
      · rw [if_neg hr] at hp'
        exact absurd hp' hr
    · rw [if_neg hp]
      exact ⟨out, rfl, ha, by omega, hb⟩

/-- All that DiskKeeps asks. -/
theorem keeps_plain (la lb : List RecT) (ha : la.length ≤ 15) (hb : lb.length ≤ 15) : ∃ a b, putsF ([], []) la = (([], textsT a), a) ∧ dSyncE ([], textsT a) = 0 ∧ dSyncR ([], textsT a) = (textsT a, []) ∧ putsF (textsT a, []) lb = ((textsT a, textsT b), b) ∧ ((textsT b).length ≤ 60000 ∧ a.length ≤ 15 ∧ b.length ≤ 15) ∧
    ∀ m : Nat, m ≤ (textsT b).length → dCrashE (textsT a, textsT b) m = 0 ∧ ∃ d, dCrashR (textsT a, textsT b) m = d ∧ diskErr d = 0 ∧ a.length ≤ (dRecL d).length ∧ (dRecL d).length ≤ a.length + b.length ∧ dRecL d = (a ++ b).take (dRecL d).length ∧ (dRecR d).2 = [] ∧ diskErr (dRecR d) = 0 ∧ dRecR (dRecR d) = dRecR d ∧ dRecL (dRecR d) = dRecL d := by
  obtain ⟨a, e1, a1, a2, a3⟩ := putsF_says [] (by rw [linesP_nil]) (Nat.zero_le _) la
  have hla : linesP 40 (textsT a) = (a, (textsT a).length, 0) := lines_all a1 (by omega)
  have ha60 : (textsT a).length ≤ 60000 := by simpa using a3
  obtain ⟨b, f1, b1, b2, b3⟩ := putsF_says (textsT a) (by rw [hla]) ha60 lb
  have hd0 : diskErr ([], textsT a) = 0 := diskErr_of a3 (by rw [linesP_nil])
  have hs : dSyncE ([], textsT a) = 0 := by
    unfold dSyncE syncE
    rw [if_pos hd0]
    exact diskErr_of (by simpa using a3) (by simp only [List.nil_append]; rw [hla])
  refine ⟨a, b, e1, hs, by unfold dSyncR; rw [if_pos hs]; rfl, f1, ⟨by omega, by omega, by omega⟩, fun m hm => ?_⟩
  have hd1 : diskErr (textsT a, textsT b) = 0 := diskErr_of b3 (by rw [hla])
  have hc : dCrashE (textsT a, textsT b) m = 0 := by
    unfold dCrashE
    rw [if_pos hd1, if_neg (by simp only; omega)]
  refine ⟨hc, (textsT a, (textsT b).take m), by unfold dCrashR; rw [if_pos hc]; simp, ?_⟩
  have hd2 : diskErr (textsT a, (textsT b).take m) = 0 := diskErr_of (by simp only [List.length_take] at *; omega) (by rw [hla])
  obtain ⟨j, hj, l1, l2, l3⟩ := lines_begin (most := 40 - a.length) (m := m) b1 (by omega)
  have hM : recovM (textsT a, (textsT b).take m) = linesP (40 - a.length) ((textsT b).take m) := by unfold recovM; simp only [hla]
  have hL : dRecL (textsT a, (textsT b).take m) = a ++ b.take j := by
    unfold dRecL recovL
    rw [if_pos hd2, hM, l1]
    simp only [hla]
  have hR : dRecR (textsT a, (textsT b).take m) = (textsT (a ++ b.take j), []) := by
    unfold dRecR recovB
    rw [if_pos hd2, hM, l2]
    simp only
    rw [l3, textsT_append]
  have hab : AllR (a ++ b.take j) := fun r hr => by
    rcases List.mem_append.1 hr with hr | hr
    · exact a1 r hr
    · exact b1 r (List.mem_of_mem_take hr)
  have hlab : linesP 40 (textsT (a ++ b.take j)) = (a ++ b.take j, (textsT (a ++ b.take j)).length, 0) := lines_all hab (by simp; omega)
  have hlen : (textsT (a ++ b.take j)).length ≤ 60000 := by
    have h1 : (textsT (b.take j)).length ≤ (textsT b).length := by
      conv => rhs; rw [← List.take_append_drop j b]
      rw [textsT_append, List.length_append]
      omega
    rw [textsT_append, List.length_append]
    omega
  have hd3 : diskErr (textsT (a ++ b.take j), []) = 0 := diskErr_of (by simpa using hlen) (by rw [hlab])
  have hM3 : recovM (textsT (a ++ b.take j), []) = ([], 0, 0) := by unfold recovM; exact linesP_nil _
  rw [hL, hR]
  refine ⟨hd2, by simp, by simp; omega, ?_, rfl, hd3, ?_, ?_⟩
  · rw [List.length_append, List.take_append, List.take_of_length_le (Nat.le_add_right _ _)]
    congr 1
    rw [Nat.add_sub_cancel_left, List.length_take, List.take_eq_take_iff]
    omega
  · unfold dRecR recovB
    rw [if_pos hd3, hM3]
    simp
  · unfold dRecL recovL
    rw [if_pos hd3, hM3]
    simp only [hlab, List.append_nil]
end Go.Proofs.YtdfcfinjoghipacGreatDoor
