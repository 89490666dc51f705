/- Joined: Nte1 NtP Dsk0 RdrP2. -/
import Derived.Test.YtdfcfinjoghipacGreatDoorDj17
import Derived.Test.YtdfcfinjoghipacGreatDoorDj16
section
/- A record's text is read as the record, and a text that is read as one is that record's text. -/
set_option linter.all false
namespace Go.Proofs.YtdfcfinjoghipacGreatDoor

theorem split3_two {a b : Bs} (ha : (32 : UInt8) ∉ a) (hb : (32 : UInt8) ∉ b) : split3 (a ++ 32 :: b) = [a, b] := by
  unfold split3
  rw [cutSp_hit a b ha]
  simp only [cutSp_miss b hb]
theorem split3_three {a b c : Bs} (ha : (32 : UInt8) ∉ a) (hb : (32 : UInt8) ∉ b) : split3 (a ++ 32 :: (b ++ 32 :: c)) = [a, b, c] := by
  unfold split3
  rw [cutSp_hit a _ ha]
  simp only [cutSp_hit b c hb]
theorem split3_join {s : Bs} : (∃ a, split3 s = [a] ∧ s = a) ∨ (∃ a b, split3 s = [a, b] ∧ s = a ++ 32 :: b) ∨ ∃ a b c, split3 s = [a, b, c] ∧ s = a ++ 32 :: (b ++ 32 :: c) := by
  unfold split3
  cases h : cutSp s with
  | none => exact .inl ⟨s, rfl, rfl⟩
  | some x =>
    obtain ⟨a, t⟩ := x
    obtain ⟨e, -⟩ := cutSp_some h
    cases h2 : cutSp t with
    | none => exact .inr (.inl ⟨a, t, by simp only [h2], e⟩)
    | some x =>
      obtain ⟨b, u⟩ := x
      obtain ⟨e2, -⟩ := cutSp_some h2
      exact .inr (.inr ⟨a, b, u, by simp only [h2], by rw [e, e2]⟩)
theorem itoa_num {w : Bs} {n : Int} (h : numOf w = some n) : Lib.itoa n = w := by
  unfold numOf at h
  split at h
  · split at h
    · rename_i e
      cases h
      exact e
    · cases h
  · cases h
theorem finRec_ok {r x : RecT} (h : finRec r = (x, 0)) : x = r ∧ recErr r = 0 := by
  unfold finRec at h
  split at h
  · rename_i h0
    cases h
    exact ⟨rfl, h0⟩
  · rename_i h0
    simp at h
    exact absurd h.2 h0
theorem finRec_right {r : RecT} (h : recErr r = 0) : finRec r = (r, 0) := by unfold finRec; rw [if_pos h]
theorem parse_polText {p : PolT} (h : polErr p = 0) (hl : (polText p).length ≤ 60000) : parseR (polText p) = (p, 0) := by
  rw [parse_some hl (pol_read h), if_pos h]
/-- The words of a right record's text. -/
theorem recText_words {r : RecT} (h : recErr r = 0) : ∃ k : Nat, k < 4 ∧ r.1 = (k : Int) + 1 ∧ (split3 (recText r)).getD 0 [] = kN.getD k [] ∧ (split3 (recText r)).getD 1 [] = Lib.itoa r.2.1 ∧
    (k = 3 → (split3 (recText r)).length = 2) ∧ (k < 3 → (split3 (recText r)).length = 3 ∧ (split3 (recText r)).getD 2 [] = if k = 2 then Lib.itoa r.2.2.1 else polText r.2.2.2) := by
  obtain ⟨hk, hc, hf, -, -⟩ := recErr_ok h
  obtain ⟨k, hk4, ek⟩ : ∃ k : Nat, k < 4 ∧ r.1 = (k : Int) + 1 := ⟨(r.1 - 1).toNat, by omega, by omega⟩
  refine ⟨k, hk4, ek, ?_⟩
  have hw := kN_clean k hk4
  have hi := itoa_clean hc.1
  have et : (r.1 - 1).toNat = k := by omega
  unfold recText
  rw [et]
  by_cases h4 : k = 3
  · have h3 : ¬ r.1 = 3 := by omega
    have h4' : r.1 = 4 := by omega
    rw [if_neg h3, if_pos h4', List.append_nil, split3_two hw hi]
    exact ⟨rfl, rfl, fun _ => rfl, fun h => by omega⟩
  · by_cases h3 : k = 2
    · have h3' : r.1 = 3 := by omega
      rw [if_pos h3', split3_three hw hi]
      exact ⟨rfl, rfl, fun h => absurd h h4, fun _ => ⟨rfl, by rw [if_pos h3]; rfl⟩⟩
    · have h3' : ¬ r.1 = 3 := by omega
      have h4' : ¬ r.1 = 4 := by omega
      rw [if_neg h3', if_neg h4', split3_three hw hi]
      exact ⟨rfl, rfl, fun h => absurd h h4, fun _ => ⟨rfl, by rw [if_neg h3]; rfl⟩⟩
theorem rec_read {r : RecT} (h : recErr r = 0) (hl : (recText r).length ≤ 60000) : recOf (recText r) = (r, 0) := by
  obtain ⟨k, hk4, ek, w0, w1, h3, hlt⟩ := recText_words h
  obtain ⟨hk, hc, hf, hfz, hP⟩ := recErr_ok h
  have hidx := kN_idx k hk4
  have hnum : numOf (Lib.itoa r.2.1) = some r.2.1 := numOf_itoa _ (by omega)
  unfold recOf
  rw [w0, hidx, w1, hnum]
  have hcond : ¬ ((k : Int) < 0 ∨ ((k : Int) = 3 ∧ (split3 (recText r)).length ≠ 2) ∨ ((k : Int) < 3 ∧ (split3 (recText r)).length ≠ 3)) := by
    rintro (h | ⟨h, h'⟩ | ⟨h, h'⟩)
    · omega
    · exact h' (h3 (by omega))
    · exact h' (hlt (by omega)).1
  rw [if_neg hcond]
  obtain ⟨rk, rc, rf, rp⟩ := r
  simp only at ek hk hc hf hfz hP hlt ⊢
  by_cases k2 : k = 2
  · have hk2 : (k : Int) = 2 := by omega
    rw [if_pos hk2, (hlt (by omega)).2, if_pos k2, numOf_itoa _ (by omega)]
    have hp0 : rp = ([], 0) := by
      rcases hP with ⟨h, -⟩ | ⟨-, h⟩
      · omega
      · exact h
    have e3 : rk = 3 := by omega
    subst e3 hp0
    exact finRec_right h
  · have hk2 : ¬ (k : Int) = 2 := by omega
    rw [if_neg hk2]
    have hf0 : rf = 0 := by omega
    by_cases k3 : k = 3
    · have hk3 : (k : Int) = 3 := by omega
      rw [if_pos hk3]
      have hp0 : rp = ([], 0) := by
        rcases hP with ⟨h, -⟩ | ⟨-, h⟩
        · omega
        · exact h
      have e4 : rk = 4 := by omega
      subst e4 hp0 hf0
      exact finRec_right h
    · have hk3 : ¬ (k : Int) = 3 := by omega
      have hp : polErr rp = 0 := by
        rcases hP with ⟨-, h⟩ | ⟨h, -⟩
        · exact h
        · omega
      have hpl : (polText rp).length ≤ 60000 := by
        have e := (hlt (by omega)).2
        rw [if_neg k2] at e
        have hle : (polText rp).length ≤ (recText (rk, rc, rf, rp)).length := by
          unfold recText
          have a3 : ¬ rk = 3 := by omega
          have a4 : ¬ rk = 4 := by omega
          simp only [if_neg a3, if_neg a4]
          simp
          omega
        omega
      rw [if_neg hk3, (hlt (by omega)).2, if_neg k2, parse_polText hp hpl]
      simp only [if_true]
      subst hf0
      rw [← ek]
      exact finRec_right h
theorem rec_back {s : Bs} {r : RecT} (h : recOf s = (r, 0)) (hl : s.length ≤ 60000) : recErr r = 0 ∧ recText r = s := by
  unfold recOf at h
  split at h
  · cases h
  · rename_i hc
    have hidx : 0 ≤ idxL kN ((split3 s).getD 0 []) := by
      apply Classical.byContradiction
      intro e
      exact hc (.inl (by omega))
    have hlt := idxL_lt kN ((split3 s).getD 0 [])
    have hget := idxL_get kN ((split3 s).getD 0 []) hidx
    have hL : kN.length = 4 := rfl
    rw [hL] at hlt
    generalize hkk : idxL kN ((split3 s).getD 0 []) = k at *
    have hc2 : k = 3 → (split3 s).length = 2 := fun e => by
      apply Classical.byContradiction
      intro e'
      exact hc (.inr (.inl ⟨e, e'⟩))
    have hc3 : k < 3 → (split3 s).length = 3 := fun e => by
      apply Classical.byContradiction
      intro e'
      exact hc (.inr (.inr ⟨e, e'⟩))
    cases hn : numOf ((split3 s).getD 1 []) with
    | none => rw [hn] at h; cases h
    | some c =>
      rw [hn] at h
      have e1 := itoa_num hn
      simp only at h
      split at h
      · rename_i k2
        cases hn2 : numOf ((split3 s).getD 2 []) with
        | none => rw [hn2] at h; cases h
        | some f =>
          rw [hn2] at h
          obtain ⟨rfl, he⟩ := finRec_ok h
          refine ⟨he, ?_⟩
          have e2 := itoa_num hn2
          rcases split3_join (s := s) with ⟨a, e, es⟩ | ⟨a, b, e, es⟩ | ⟨a, b, c', e, es⟩
          · have := hc3 (by omega); rw [e] at this; simp at this
          · have := hc3 (by omega); rw [e] at this; simp at this
          · rw [e] at hget e1 e2
            simp at hget e1 e2
            rw [es, ← hget, ← e1, ← e2, k2]
            rfl
      · rename_i k2
        split at h
        · rename_i k3
          obtain ⟨rfl, he⟩ := finRec_ok h
          refine ⟨he, ?_⟩
          rcases split3_join (s := s) with ⟨a, e, es⟩ | ⟨a, b, e, es⟩ | ⟨a, b, c', e, es⟩
          · have := hc2 k3; rw [e] at this; simp at this
          · rw [e] at hget e1
            simp at hget e1
            rw [es, ← hget, ← e1, k3]
            show _ ++ 32 :: (Lib.itoa c ++ []) = _
            rw [List.append_nil]
            rfl
          · have := hc2 k3; rw [e] at this; simp at this
        · rename_i k3
          split at h
          · rename_i hp
            obtain ⟨rfl, he⟩ := finRec_ok h
            refine ⟨he, ?_⟩
            rcases split3_join (s := s) with ⟨a, e, es⟩ | ⟨a, b, e, es⟩ | ⟨a, b, c', e, es⟩
            · have := hc3 (by omega); rw [e] at this; simp at this
            · have := hc3 (by omega); rw [e] at this; simp at this
            · rw [e] at hget e1 hp ⊢
              simp at hget e1 hp ⊢
              have hcl : c'.length ≤ 60000 := by rw [es] at hl; simp at hl; omega
              have hpt : polText (parseR c').1 = c' := by
                cases hpo : polOf c' with
                | none => rw [parse_none hcl hpo] at hp; cases hp
                | some p =>
                  rw [parse_some hcl hpo] at hp ⊢
                  split at hp
                  · rename_i h0
                    rw [if_pos h0]
                    exact pol_back hpo
                  · rename_i h0
                    exact absurd hp h0
              unfold recText
              have a3 : ¬ k + 1 = 3 := by omega
              have a4 : ¬ k + 1 = 4 := by omega
              simp only [if_neg a3, if_neg a4, hpt]
              rw [es, ← hget, ← e1, show (k + 1 - 1).toNat = k.toNat by omega]
              simp
          · rename_i hp
            exact absurd (Prod.mk.inj h).2 hp
/-- Unlike records have unlike texts. -/
theorem rec_inj {r q : RecT} (hr : recErr r = 0) (hq : recErr q = 0) (h : recText r = recText q) : r = q := by
  obtain ⟨k, hk4, ek, w0, w1, h3, hlt⟩ := recText_words hr
  obtain ⟨k', hk4', ek', w0', w1', h3', hlt'⟩ := recText_words hq
  obtain ⟨hk, hc, hf, hfz, hP⟩ := recErr_ok hr
  obtain ⟨hk', hc', hf', hfz', hP'⟩ := recErr_ok hq
  rw [← h] at w0' w1' hlt'
  have ekk : k = k' := by
    have e : kN.getD k [] = kN.getD k' [] := by rw [← w0, ← w0']
    have := kN_idx k hk4
    rw [e, kN_idx k' hk4'] at this
    omega
  subst ekk
  have ec : r.2.1 = q.2.1 := by
    have e : Lib.itoa r.2.1 = Lib.itoa q.2.1 := by rw [← w1, ← w1']
    have := numOf_itoa r.2.1 (by omega)
    rw [e, numOf_itoa q.2.1 (by omega)] at this
    exact (Option.some.inj this).symm
  obtain ⟨rk, rc, rf, rp⟩ := r
  obtain ⟨qk, qc, qf, qp⟩ := q
  simp only at *
  have e1 : rk = qk := by omega
  by_cases k2 : k = 2
  · have ef : rf = qf := by
      have a := (hlt (by omega)).2
      have b := (hlt' (by omega)).2
      rw [if_pos k2] at a b
      have := numOf_itoa rf (by omega)
      rw [← a, b, numOf_itoa qf (by omega)] at this
      exact (Option.some.inj this).symm
    have p1 : rp = ([], 0) := by
      rcases hP with ⟨h, -⟩ | ⟨-, h⟩
      · omega
      · exact h
    have p2 : qp = ([], 0) := by
      rcases hP' with ⟨h, -⟩ | ⟨-, h⟩
      · omega
      · exact h
    rw [e1, ec, ef, p1, p2]
  · have f1 : rf = 0 := by omega
    have f2 : qf = 0 := by omega
    by_cases k3 : k = 3
    · have p1 : rp = ([], 0) := by
        rcases hP with ⟨h, -⟩ | ⟨-, h⟩
        · omega
        · exact h
      have p2 : qp = ([], 0) := by
        rcases hP' with ⟨h, -⟩ | ⟨-, h⟩
        · omega
        · exact h
      rw [e1, ec, f1, f2, p1, p2]
    · have p1 : polErr rp = 0 := by
        rcases hP with ⟨-, h⟩ | ⟨h, -⟩
        · exact h
        · omega
      have p2 : polErr qp = 0 := by
        rcases hP' with ⟨-, h⟩ | ⟨h, -⟩
        · exact h
        · omega
      have ep : rp = qp := by
        have a := (hlt (by omega)).2
        have b := (hlt' (by omega)).2
        rw [if_neg k2] at a b
        have := pol_read p1
        rw [← a, b, pol_read p2] at this
        exact (Option.some.inj this).symm
      rw [e1, ec, f1, f2, ep]

end Go.Proofs.YtdfcfinjoghipacGreatDoor
end
section
/- Records' texts, of any length: plain data. -/
set_option linter.all false
namespace Go.Proofs.YtdfcfinjoghipacGreatDoor

/-- What Parse reads a text as. -/
def recParse (s : Bs) : RecT × Int := if 60000 < s.length then (zeroRec, 2) else recOf s
theorem recParse_text {r : RecT} (h : recErr r = 0) (hl : (recText r).length ≤ 60000) : recParse (recText r) = (r, 0) := by
  unfold recParse
  rw [if_neg (by omega)]
  exact rec_read h hl
theorem recParse_back {s : Bs} {r : RecT} (h : recParse s = (r, 0)) : recErr r = 0 ∧ recText r = s := by
  unfold recParse at h
  by_cases hl : 60000 < s.length
  · rw [if_pos hl] at h
    cases h
  · rw [if_neg hl] at h
    exact rec_back h (by omega)

end Go.Proofs.YtdfcfinjoghipacGreatDoor
end
section
/- Lines of records: plain data. -/
set_option linter.all false
namespace Go.Proofs.YtdfcfinjoghipacGreatDoor

/-- The first line feed parts a text. -/
def cutNl : Bs → Option (Bs × Bs)
  | [] => none
  | b :: l => if b = 10 then some ([], l) else match cutNl l with
    | none => none
    | some (a, t) => some (b :: a, t)
theorem cutNl_hit : ∀ (a t : Bs), (10 : UInt8) ∉ a → cutNl (a ++ 10 :: t) = some (a, t)
  | [], t, _ => rfl
  | b :: a, t, h => by
    have hb : b ≠ 10 := fun e => h (by simp [e])
    show (if b = 10 then some ([], a ++ 10 :: t) else match cutNl (a ++ 10 :: t) with | none => none | some (a, t) => some (b :: a, t)) = _
    rw [if_neg hb, cutNl_hit a t fun e => h (by simp [e])]
theorem cutNl_miss : ∀ (a : Bs), (10 : UInt8) ∉ a → cutNl a = none
  | [], _ => rfl
  | b :: a, h => by
    have hb : b ≠ 10 := fun e => h (by simp [e])
    show (if b = 10 then some ([], a) else match cutNl a with | none => none | some (a, t) => some (b :: a, t)) = _
    rw [if_neg hb, cutNl_miss a fun e => h (by simp [e])]
theorem cutNl_some : ∀ {s a t : Bs}, cutNl s = some (a, t) → s = a ++ 10 :: t ∧ (10 : UInt8) ∉ a
  | [], a, t, h => by cases h
  | b :: s, a, t, h => by
    have h' : (if b = 10 then some ([], s) else match cutNl s with | none => none | some (a, t) => some (b :: a, t)) = some (a, t) := h
    by_cases hb : b = 10
    · rw [if_pos hb] at h'
      cases h'
      exact ⟨by rw [hb]; rfl, by simp⟩
    · rw [if_neg hb] at h'
      cases hc : cutNl s with
      | none => rw [hc] at h'; cases h'
      | some x =>
        obtain ⟨a', t'⟩ := x
        rw [hc] at h'
        cases h'
        obtain ⟨e, hn⟩ := cutNl_some hc
        exact ⟨by rw [e]; rfl, by simp; exact ⟨fun e => hb e.symm, hn⟩⟩
theorem cutNl_none {s : Bs} (h : cutNl s = none) : (10 : UInt8) ∉ s := by
  intro hm
  obtain ⟨a, t, e, hn⟩ : ∃ a t, s = a ++ 10 :: t ∧ (10 : UInt8) ∉ a := by
    clear h
    induction s with
    | nil => cases hm
    | cons b s ih =>
      by_cases hb : b = 10
      · exact ⟨[], s, by rw [hb]; rfl, by simp⟩
      · rcases List.mem_cons.1 hm with e | hm
        · exact absurd e.symm hb
        · obtain ⟨a, t, e, hn⟩ := ih hm
          exact ⟨b :: a, t, by rw [e]; rfl, by simp; exact ⟨fun e => hb e.symm, hn⟩⟩
  rw [e, cutNl_hit a t hn] at h
  cases h
theorem cutNl_len {s a t : Bs} (h : cutNl s = some (a, t)) : s.length = a.length + 1 + t.length := by
  rw [(cutNl_some h).1]
  simp
  omega

/-- A text in lines, each with its line feed; what has none stands at the end, if it is nothing too. -/
def linesK : Nat → Bs → List Bs
  | 0, s => [s]
  | k + 1, s => match cutNl s with
    | none => [s]
    | some (a, t) => (a ++ [10]) :: linesK k t
/-- Records as far as they are whole, how many bytes these have, what is wrong with the next one. -/
def readL (most : Nat) : List Bs → List RecT × Nat × Int
  | [] => ([], 0, 0)
  | t :: ts => if t = [] then ([], 0, 0) else if t.getLast? = some 10 then
      (if (recOf t.dropLast).2 = 0 then
        (match most with
          | 0 => ([], 0, 2)
          | m + 1 => ((recOf t.dropLast).1 :: (readL m ts).1, t.length + (readL m ts).2.1, (readL m ts).2.2))
        else ([], 0, (recOf t.dropLast).2)) else ([], 0, 8)
def linesP (most : Nat) (s : Bs) : List RecT × Nat × Int := readL most (linesK s.length s)
theorem linesK_more : ∀ (k j : Nat) (s : Bs), s.length ≤ k → s.length ≤ j → linesK k s = linesK j s
  | 0, 0, s, _, _ => rfl
  | 0, j + 1, s, h, _ => by
    obtain rfl : s = [] := List.eq_nil_of_length_eq_zero (by omega)
    rfl
  | k + 1, 0, s, _, h => by
    obtain rfl : s = [] := List.eq_nil_of_length_eq_zero (by omega)
    rfl
  | k + 1, j + 1, s, h1, h2 => by
    unfold linesK
    cases h : cutNl s with
    | none => rfl
    | some x =>
      obtain ⟨a, t⟩ := x
      have := cutNl_len h
      simp only
      rw [linesK_more k j t (by omega) (by omega)]
theorem linesP_nil (most : Nat) : linesP most [] = ([], 0, 0) := by
  unfold linesP linesK readL
  simp
theorem linesP_line (most : Nat) (a t : Bs) (h : (10 : UInt8) ∉ a) : linesP most (a ++ 10 :: t) = (if (recOf a).2 = 0 then (match most with | 0 => ([], 0, 2) | m + 1 => ((recOf a).1 :: (linesP m t).1, a.length + 1 + (linesP m t).2.1, (linesP m t).2.2)) else ([], 0, (recOf a).2)) := by
  unfold linesP
  have hl : (a ++ 10 :: t).length = (a.length + t.length) + 1 := by simp; omega
  rw [hl]
  conv => lhs; unfold linesK
  rw [cutNl_hit a t h]
  simp only
  rw [linesK_more (a.length + t.length) t.length t (by omega) (Nat.le_refl _)]
  conv => lhs; unfold readL
  rw [if_neg (by simp), if_pos (by simp)]
  simp
theorem linesP_torn (most : Nat) (s : Bs) (h : (10 : UInt8) ∉ s) (hs : s ≠ []) : linesP most s = ([], 0, 8) := by
  unfold linesP
  obtain ⟨k, hk⟩ : ∃ k, s.length = k + 1 := by
    cases s with
    | nil => exact absurd rfl hs
    | cons b l => exact ⟨l.length, rfl⟩
  rw [hk]
  unfold linesK
  rw [cutNl_miss s h]
  simp only
  unfold readL
  rw [if_neg hs, if_neg]
  intro e
  exact h (List.mem_of_getLast? e)

end Go.Proofs.YtdfcfinjoghipacGreatDoor
end
section
/- What the program's own reader of a policy says: the walk. -/
set_option linter.all false
set_option maxRecDepth 100000
namespace Go.Proofs.YtdfcfinjoghipacGreatDoor
open Go.RowKit Go.Maps

theorem split_count (c : UInt8) (s : ByteArray) (ps : List ByteArray) (hps : ps.map (fun p : ByteArray => p.data.toList) = splitL c s.data.toList) : ps.length ≤ s.size + 1 ∧ ∀ p ∈ ps, p.size ≤ s.size := by
  refine ⟨?_, fun p hp => ?_⟩
  · have h1 : ps.length = (splitL c s.data.toList).length := by rw [← hps]; simp
    rw [h1, ← split_splitL]
    unfold Lib.split
    have : ∀ k (l : Bs), (Lib.splitK [c] 0 k l).length ≤ k + 1 := by
      intro k
      induction k with
      | zero => intro l; simp [Lib.splitK]
      | succ k ih => intro l; unfold Lib.splitK; split
                     · simp
                     · simp; exact ih _
    have h2 := this (Lib.count s.data.toList [c]) s.data.toList
    rw [Lib.count_one] at h2
    have h3 := List.count_le_length (a := c) (l := s.data.toList)
    rw [← Lib.size_eq] at h3
    rw [Lib.count_one]
    omega
  · have := splitL_len c s.data.toList p.data.toList (by rw [← hps]; exact List.mem_map.2 ⟨p, hp, rfl⟩)
    rw [← Lib.size_eq, ← Lib.size_eq] at this
    exact this

set_option maxHeartbeats 8000000 in
theorem readPolicy_any (s : ByteArray) (hs : s.size ≤ 4294967279) (w : World) (he : EnvT w) :
    Calls Tryz.prog 143 #[.string s] w fun e w' => ∃ pv, e = .returned (.tuple #[pv, .bool (polOf s.data.toList).isSome]) ∧ PolN w.heap.size w' pv ((polOf s.data.toList).getD ([], 0)) ∧ Below w.heap.size w w' := by
  have hb1 : ∀ X, Below w.heap.size w (w.alloc X) := fun X => (Below.refl _ _).alloc (Nat.le_refl _) _
  obtain ⟨ps0, hps, hsplit⟩ := split_any 59 s (by omega) (w.alloc (.cells #[.slice none 0 0, .int .i64 0] 24)) (he.later (hb1 _)).1
  obtain ⟨hcount, hpl⟩ := split_count 59 s ps0 hps
  have hne0 : ps0 ≠ [] := by intro e; subst e; exact splitL_ne 59 _ hps.symm
  obtain ⟨ps, pd, rfl⟩ : ∃ ps pd, ps0 = ps ++ [pd] := ⟨ps0.dropLast, ps0.getLast hne0, (List.dropLast_concat_getLast hne0).symm⟩
  have hP := polOf_parts (l := s.data.toList) (ps := ps.map (fun p : ByteArray => p.data.toList)) (d := pd.data.toList) (by rw [← hps]; simp)
  have HP : Hid (polOf s.data.toList = match allOf ruleOf (ps.map (fun p : ByteArray => p.data.toList)) with
      | none => none
      | some rs => if idxL vN pd.data.toList < 0 then none else some (rs, idxL vN pd.data.toList)) := hP
  have hlenp : (ps ++ [pd]).length = ps.length + 1 := by simp
  rw [hlenp] at hsplit hcount
  have HSp : Hid _ := hsplit
  have HPL : Hid (∀ (j : Nat) (p : ByteArray), ps[j]? = some p → p.size ≤ 4294967280) := fun j p hj => by have := hpl p (by simp [List.mem_of_getElem? hj]); omega
  have HV : Hid (∀ w', Calls Tryz.prog 169 #[.string pd] w' fun e w'' => e = .returned (.tuple #[.int .i64 (idxL vN pd.data.toList), .bool (decide (0 ≤ idxL vN pd.data.toList))]) ∧ Below w'.heap.size w' w'') := fun w' => readVerdict_any pd w'
  have hv0 := idxL_ge vN pd.data.toList
  have hv1 : idxL vN pd.data.toList < 5 := idxL_lt vN _
  generalize hvv : idxL vN pd.data.toList = vd at *
  obtain ⟨n, hn⟩ : ∃ n, n = ps.length := ⟨_, rfl⟩
  have hnH : Hid (ps.length = n) := hn.symm
  rw [← hn] at hcount HSp
  obtain ⟨mc, hmc⟩ : ∃ mc, mc = madeCells #[.slice none 0 0, .int .i64 0] (n * 2) := ⟨_, rfl⟩
  have hmcs : mc.size = n * 2 := by rw [hmc]; exact size_madeCells _ _
  have hmk0 := make_rules n (by omega)
  rw [← hmc] at hmk0
  have hmk : ∀ w, (Instr.makeSlice 22 (.int .i64 n) (.int .i64 n)).run Tryz.prog w = .ok (.slice (some ⟨w.heap.size, 0, none⟩) n n) (w.alloc (.cells mc 79)) := hmk0
  obtain ⟨G, hG⟩ : ∃ G, G = w.heap.size + 2 := ⟨_, rfl⟩
  obtain ⟨W1, hW1⟩ : ∃ W1, W1 = (w.alloc (.cells #[.slice none 0 0, .int .i64 0] 24)).alloc (.cells ((ps ++ [pd]).map Value.string).toArray 9) := ⟨_, rfl⟩
  have hbW1 : Below w.heap.size w W1 := by rw [hW1]; exact (hb1 _).alloc (by simp) _
  have hsW1 : W1.heap.size = w.heap.size + 2 := by rw [hW1]; simp
  have hRb1 : W1.heap[w.heap.size]? = some (.cells #[.slice none 0 0, .int .i64 0] 24 (0, 0)) := by
    rw [hW1, Below.heap_alloc _ _ _ (by simp)]
    exact (MapKept.heap_alloc w _).1
  have hNm1 : NamesAt (w.heap.size + 1) ((ps ++ [pd]).map Value.string).toArray W1 := by
    have := NamesAt.made (w.alloc (.cells #[.slice none 0 0, .int .i64 0] 24)) ((ps ++ [pd]).map Value.string).toArray 9
    rw [World.size_alloc] at this
    rw [hW1]
    exact this
  obtain ⟨W4, hW4⟩ : ∃ W4, W4 = (W1.alloc (.cells mc 79)).alloc (.cells #[.slice (some ⟨w.heap.size + 2, 0, none⟩) n n, .int .i64 0] 24) := ⟨_, rfl⟩
  have hb4 : Below G W1 W4 := by rw [hW4]; exact ((Below.refl _ _).alloc (by omega) _).alloc (by simp; omega) _
  have hs4 : W4.heap.size = G + 2 := by rw [hW4]; simp; omega
  have hrow4 : W4.heap[G]? = some (.cells mc 79 (0, 0)) := by
    rw [hG, ← hsW1, hW4, Below.heap_alloc _ _ _ (by simp)]
    exact (MapKept.heap_alloc W1 _).1
  have hbox4 : W4.heap[G + 1]? = some (.cells #[.slice (some ⟨G, 0, none⟩) n n, .int .i64 0] 24 (0, 0)) := by
    have := (MapKept.heap_alloc (W1.alloc (.cells mc 79)) (.cells #[.slice (some ⟨w.heap.size + 2, 0, none⟩) n n, .int .i64 0] 24)).1
    rw [World.size_alloc, hsW1] at this
    rw [hW4, hG]
    exact this
  have HR4 : Hid (∀ wr, Below G W4 wr → wr.heap[w.heap.size]? = some (.cells #[.slice none 0 0, .int .i64 0] 24 (0, 0)) ∧ (∀ (j : Nat) (p : ByteArray), ps[j]? = some p → wr.cell? ⟨w.heap.size + 1, j, none⟩ = some (.string p)) ∧ wr.cell? ⟨w.heap.size + 1, n, none⟩ = some (.string pd) ∧ Below w.heap.size w wr) := fun wr h => by
    have hh := hb4.trans h
    refine ⟨(hh.block _ (by omega)).trans hRb1, fun j p hj => ?_, ?_, hbW1.trans (hh.mono (by omega))⟩
    · refine (hh.cell (p := ⟨w.heap.size + 1, j, none⟩) (by show w.heap.size + 1 < _; omega)).trans (hNm1 j _ ?_)
      have hjl := (List.getElem?_eq_some_iff.1 hj).1
      rw [List.getElem?_toArray, List.map_append, List.getElem?_append_left (by simpa using hjl)]
      simp [hj]
    · refine (hh.cell (p := ⟨w.heap.size + 1, n, none⟩) (by show w.heap.size + 1 < _; omega)).trans (hNm1 n _ ?_)
      rw [hn]
      simp
  have hwn : IntKind.i64.wrap (n : Int) = (n : Int) := IntWalk.i64_in _ (by omega)
  have hml := maxLen_eq
  have hG2 : w.heap.size + 2 ≤ G := by omega
  clear hvv hP hps hpl hRb1 hNm1 hmk0 hmc hn hne0
  go_enter Tryz.func143, Tryz.ntmps143
  go_wp2_with fail
  go_at_call 121
  refine Calls.mono HSp.out ?_
  rintro e w1 ⟨rfl, hw1⟩
  simp only [World.size_alloc]
  rw [← hW1] at hw1
  subst hw1
  clear hW1 HSp
  go_wp2_with fail
  rw [← hW4, ← hG]
  clear hG hsplit
  clear hW4
  go_loopw [22] (fun iv wr => ∃ (i : Nat) (rs : List RuleT) (cur : Array Value), i ≤ n ∧ iv = .int .i64 i ∧ rs.length = i ∧ Hid (allOf ruleOf ((ps.map (fun p : ByteArray => p.data.toList)).take i) = some rs) ∧ Hid (RowR (G + 2) n wr rs cur) ∧ Hid (wr.heap[G]? = some (.cells cur 79 (0, 0))) ∧ Hid (wr.heap[G + 1]? = some (.cells #[.slice (some ⟨G, 0, none⟩) n n, .int .i64 0] 24 (0, 0))) ∧ Below G W4 wr ∧ G + 2 ≤ wr.heap.size) (fun iv _ => n - (intOf iv).toNat)
  case atStart => exact ⟨0, [], mc, by omega, rfl, rfl, rfl, ⟨hmcs, fun i c h => by simp at h⟩, hrow4, hbox4, Below.refl _ _, by omega⟩
  case round =>
    obtain ⟨i, rs, cur, hi, rfl, hcl, hall, hRC, hrow, hbox, hbr, hsr⟩ := hrel
    obtain ⟨wo, hwo⟩ : ∃ x, x = wr := ⟨_, rfl⟩
    subst hwo
    have i0 : (0 : Int) ≤ (i : Int) := by omega
    obtain ⟨hRb, hNm, hNd, hbw⟩ := HR4.out _ hbr
    by_cases hlt : i < n
    · have i1 : (i : Int) < (n : Int) := by omega
      obtain ⟨p, hp⟩ : ∃ p, ps[i]? = some p := ⟨ps[i]'(by rw [hnH.out]; exact hlt), by simp⟩
      have hc1 := hNm i p hp
      have hps := HPL.out i p hp
      have hpm : Hid ((ps.map (fun p : ByteArray => p.data.toList))[i]? = some p.data.toList) := by unfold Hid; simp [hp]
      obtain ⟨r, ok, hr1, hr2, hr3, hrw⟩ : ∃ (r : RuleT) (ok : Bool), (ruleOf p.data.toList).getD ([], 0) = r ∧ (ruleOf p.data.toList).isSome = ok ∧ (ruleOf p.data.toList = if ok = true then some r else none) ∧ wf r.2 := by
        cases h : ruleOf p.data.toList with
        | none => exact ⟨([], 0), false, rfl, rfl, rfl, by unfold wf; decide⟩
        | some r => exact ⟨r, true, rfl, rfl, rfl, ruleOf_wf h⟩
      have HC : Hid (∀ w', Below w.heap.size w w' → Calls Tryz.prog 168 #[.string p] w' fun e w'' => ∃ cv, e = .returned (.tuple #[.agg #[cv, .int .i64 r.2], .bool ok]) ∧ CondsNew w'.heap.size w'' cv r.1 ∧ Below w'.heap.size w' w'') := fun w' hb => by
        have := readRule_any p hps w' (he.later hb)
        rw [hr1, hr2] at this
        exact this
      have hcoH : Hid _ := hr3
      have hrwH : Hid _ := hrw
      clear hRb hNm hNd hr1 hr2 hr3 hrw hp
      have hcur := hRC.out.1
      obtain ⟨b0, b1, _, _⟩ := cell_of_two hbox.out
      have hn3 : i * 2 + 1 < cur.size := by omega
      obtain ⟨rc, rv⟩ := r
      go_wp2_with fail
      have hne := ButG.ne G wo
      have hDJ : Hid (∀ fs w', JRul G wo cur 79 (i * 2) rv ok rc fs w' → ∃ z : ButG G wo, w' = z.1) := fun fs w' h => ⟨⟨w', h.2.1⟩, rfl⟩
      have q0 : ∀ z : ButG G wo, z.1.cell? ⟨G + 1, 0, none⟩ = some (.slice (some ⟨G, 0, none⟩) n n) := fun z => z.cell b0 (by omega)
      have hia : ∀ w, (Instr.indexAt 22 (.slice (some ⟨G, 0, none⟩) n n) (.int .i64 i)).run Tryz.prog w = .ok (.pointer (some ⟨G, i * 2, none⟩)) w := fun w => index_rules i n G hlt w
      refine wp_region_free [_, _, _, _, _, _, _, _, _, _] _ rfl (fun k => k == 4 || k == 9) (JRul G wo cur 79 (i * 2) rv ok rc) (SRul rv ok) (sRul_some rv ok) (by kernel_rfl) (by kernel_rfl) ⟨(Below.refl _ _).drew, fun _ _ _ => rfl, fun _ => hrow.out, fun _ h => h.elim, fun h => h.elim fun _ h => h.elim⟩ ?_
      iterate 4 (refine wpG_read hDJ.out rfl rfl ?_; go_big_quiet_step (fail); refine wpQuiet_nil ?_)
      refine wpG_call 168 #[.string p] rfl rfl (fun w' => by kernel_rfl) (fun gs w' hJ hdep hno => ?_) (fun v4 hv4 => ?_)
      · have hww := (HR4.out w' (hbr.trans hJ.1)).2.2.2
        refine (HC.out w' hww).mono ?_
        rintro e w2' ⟨cv, rfl, hcn, hb2'⟩
        have hsz : wo.heap.size ≤ w'.heap.size := hJ.1.size
        obtain ⟨a, m, cap, rfl⟩ := hcn.shape
        refine ⟨_, rfl, ⟨a, m, cap, rfl⟩, hJ.1.trans (hb2'.mono (by omega)), fun k hk hne' => (hb2'.block k (by omega)).trans (hJ.2.1 k hk hne'), fun h => (hb2'.block G (by omega)).trans (hJ.2.2.1 fun v hv => h v (.inl hv)), fun v hv => ?_, fun h => ?_⟩
        · rcases hv with hv | ⟨_, rfl⟩
          · exact absurd hv (hno v)
          · exact ⟨a, m, cap, rfl, hcn.mono hsz⟩
        · obtain ⟨v, hv⟩ := h
          rcases hv with hv | ⟨e, _⟩
          · obtain ⟨a', m', cap', h4, _⟩ := hJ.2.2.2.2 ⟨v, hv⟩
            exact absurd h4 (hno _)
          · cases e
      simp only [Act.put, List.setIfInBounds_toArray, List.set_cons_succ, List.set_cons_zero]
      obtain ⟨a4, m4, cap4, rfl⟩ : ∃ a m cap, v4 = .tuple #[.agg #[.slice a m cap, .int .i64 rv], .bool ok] := hv4
      iterate 3 (refine wpG_read hDJ.out rfl rfl ?_; go_big_quiet_step (fail); refine wpQuiet_nil ?_)
      refine wpG_readV (.pointer (some ⟨G, i * 2, none⟩)) rfl rfl (fun w' => run_val (hia w')) ?_
      simp only [Act.put, List.setIfInBounds_toArray, List.set_cons_succ, List.set_cons_zero]
      refine wpG_store rfl rfl (fun gs w' hJ hdep hno => ?_) (fun v9 hv9 => ?_)
      · have hrow' := hJ.2.2.1 hno
        have h4 := hdep 4 _ (.inr ⟨rfl, rfl⟩) (waitsB_spec (by kernel_rfl))
        obtain ⟨⟨u0, k0⟩, f0⟩ := cells_of_row hrow' (i * 2) (by omega)
        obtain ⟨⟨u1, k1⟩, f1⟩ := cells_of_row hrow' (i * 2 + 1) (by omega)
        refine ⟨(w'.setCell ⟨G, i * 2, none⟩ (.slice a4 m4 cap4)).setCell ⟨G, i * 2 + 1, none⟩ (.int .i64 rv), ?_, trivial, ?_⟩
        · clear hJ hdep hno q0 hDJ hne hrow' h4
          go_simp
        · refine ⟨(hJ.1.setCell (p := ⟨G, i * 2, none⟩) (Nat.le_refl _) _).setCell (p := ⟨G, i * 2 + 1, none⟩) (Nat.le_refl _) _, fun k hk hne' => (heap_set2 _ _ _ hne').trans (hJ.2.1 k hk hne'), fun h => absurd (.inr ⟨rfl, rfl⟩) (h undef), fun v hv => ?_, fun _ => ⟨a4, m4, cap4, .inl h4, row_set2 hrow'⟩⟩
          rcases hv with hv | ⟨e, _⟩
          · obtain ⟨a, m, cap, h1, h2⟩ := hJ.2.2.2.1 v hv
            refine ⟨a, m, cap, h1, h2.keep (fun g hg hg2 => heap_set2 _ _ _ (by omega)) (by simp)⟩
          · cases e
      simp only [Act.put, List.setIfInBounds_toArray, List.set_cons_succ, List.set_cons_zero]
      refine wpG_nil ?_
      intro w4 hJ
      obtain ⟨a5, m5, cap5, h45, hrow5⟩ := hJ.2.2.2.2 ⟨v9, .inr ⟨rfl, rfl⟩⟩
      obtain ⟨a6, m6, cap6, e6, hcn6⟩ := hJ.2.2.2.1 _ h45
      simp at e6
      obtain ⟨rfl, rfl, rfl⟩ := e6
      have hrow4' : Hid _ := hrow5
      have hcnH : Hid (CondsNew (G + 2) w4 (.slice a5 m5 cap5) rc) := hcn6.mono hsr
      have hbr4 : Below G W4 w4 := hbr.trans hJ.1
      have hs4' : G + 2 ≤ w4.heap.size := Nat.le_trans hsr hJ.1.size
      have hbox4' : Hid (w4.heap[G + 1]? = some (.cells #[.slice (some ⟨G, 0, none⟩) n n, .int .i64 0] 24 (0, 0))) := (hJ.2.1 (G + 1) (by omega) (by omega)).trans hbox.out
      have hRCk : Hid (RowR (G + 2) n w4 rs cur) := hRC.out.keep (fun g hg hg2 => hJ.2.1 g hg2 (by omega)) hJ.1.size
      clear hJ hDJ q0 hne hia hrow5 hcn6 h45
      cases ok with
      | false =>
        have hN : Hid (polOf s.data.toList = none) := by
          unfold Hid
          rw [HP.out, allOf_none ruleOf _ i _ hpm.out (by have := hcoH.out; simpa using this)]
        obtain ⟨hRb, _, _, hbw4⟩ := HR4.out _ hbr4
        obtain ⟨t0, t1, t2, t3⟩ := cell_of_two hRb
        have hRb' : Hid _ := hRb
        clear hRb
        go_wp2_with fail
        have HRF := two_setCell1 (u := .int .i64 0) (two_setCell (u := .slice none 0 0) hRb'.out)
        obtain ⟨z0, z1, _, _⟩ := cell_of_two HRF
        refine bodyPost_ret (v := .tuple #[.agg #[.slice none 0 0, .int .i64 0], .bool false]) ?_ rfl ⟨_, by rw [hN.out]; rfl, by rw [hN.out]; exact PolN.zero _ _, (hbw4.setCell (p := ⟨w.heap.size, 0, none⟩) (Nat.le_refl _) _).setCell (p := ⟨w.heap.size, 1, none⟩) (Nat.le_refl _) _⟩
        rw [results_cell_tmp rfl]
        go_simp
      | true =>
        have hco : ruleOf p.data.toList = some (rc, rv) := by have := hcoH.out; simpa using this
        have hall' : Hid (allOf ruleOf ((ps.map (fun p : ByteArray => p.data.toList)).take (i + 1)) = some (rs ++ [(rc, rv)])) := allOf_take ruleOf _ i _ hpm.out rs hall.out _ hco
        have hRC' : Hid (RowR (G + 2) n w4 (rs ++ [(rc, rv)]) (set2 cur (i * 2) (.slice a5 m5 cap5) (.int .i64 rv))) := by
          unfold Hid
          rw [← hcl]
          exact hRCk.out.put (by omega) (rc, rv) _ hrwH.out hcnH.out
        go_wp2_with fail
        exact ⟨⟨i + 1, rs ++ [(rc, rv)], _, by omega, by go_num, by simp [hcl], hall', hRC', hrow4', hbox4', hbr4, hs4'⟩, by simp [intOf]; omega⟩
    · obtain rfl : i = n := by omega
      have hall2 : Hid (allOf ruleOf (ps.map (fun p : ByteArray => p.data.toList)) = some rs) := by
        have := hall.out
        rw [List.take_of_length_le (by simp [hnH.out])] at this
        exact this
      clear hRb hNm
      go_wp2_with fail
      go_at_call 169
      refine Calls.mono (HV.out _) ?_
      rintro e w5 ⟨rfl, hb5⟩
      have hbr5 : Below G W4 w5 := hbr.trans (hb5.mono (by omega))
      have hs5 : G + 2 ≤ w5.heap.size := Nat.le_trans hsr hb5.size
      have hbox5 : w5.heap[G + 1]? = some (.cells #[.slice (some ⟨G, 0, none⟩) i i, .int .i64 0] 24 (0, 0)) := (hb5.block (G + 1) (by omega)).trans hbox.out
      have hrow5 : w5.heap[G]? = some (.cells cur 79 (0, 0)) := (hb5.block G (by omega)).trans hrow.out
      have hRC5 : RowR (G + 2) i w5 rs cur := hRC.out.keep (fun g hg hg2 => hb5.block g hg2) hb5.size
      obtain ⟨hRb, _, _, hbw5⟩ := HR4.out _ hbr5
      obtain ⟨t0, t1, t2, t3⟩ := cell_of_two hRb
      obtain ⟨b0, b1, b2, b3⟩ := cell_of_two hbox5
      obtain ⟨w6, hw6⟩ : ∃ w6, w6 = w5.setCell ⟨G + 1, 1, none⟩ (.int .i64 vd) := ⟨_, rfl⟩
      have hbx6 : w6.heap[G + 1]? = some (.cells #[.slice (some ⟨G, 0, none⟩) i i, .int .i64 vd] 24 (0, 0)) := by rw [hw6]; exact two_setCell1 hbox5
      have hoth6 : ∀ k, k ≠ G + 1 → w6.heap[k]? = w5.heap[k]? := fun k hk => by rw [hw6]; exact Below.heap_setCell _ _ _ _ (by show k ≠ G + 1; exact hk)
      have hsz6 : w6.heap.size = w5.heap.size := by rw [hw6]; simp
      have hRb6 : w6.heap[w.heap.size]? = some (.cells #[.slice none 0 0, .int .i64 0] 24 (0, 0)) := (hoth6 _ (by omega)).trans hRb
      have hbw6 : Below w.heap.size w w6 := by rw [hw6]; exact hbw5.setCell (p := ⟨G + 1, 1, none⟩) (by show w.heap.size ≤ G + 1; omega) _
      obtain ⟨c0, c1, c2, c3⟩ := cell_of_two hRb6
      obtain ⟨d0, d1, _, _⟩ := cell_of_two hbx6
      have hRb6' : Hid _ := hRb6
      have HF6 : Hid (∀ u0 u1, PolN w.heap.size ((w6.setCell ⟨w.heap.size, 0, none⟩ u0).setCell ⟨w.heap.size, 1, none⟩ u1) (.agg #[.slice (some ⟨G, 0, none⟩) i i, .int .i64 vd]) (rs, vd)) := by
        intro u0 u1
        have hkk : ∀ k, k ≠ w.heap.size → k ≠ G + 1 → ((w6.setCell ⟨w.heap.size, 0, none⟩ u0).setCell ⟨w.heap.size, 1, none⟩ u1).heap[k]? = w5.heap[k]? := fun k h1 h2 => (heap_set2 0 u0 u1 h1).trans (hoth6 k h2)
        refine ⟨_, rfl, wf_small (by simp only []; omega), some ⟨G, 0, none⟩, i, by simp [hcl], by simp [hcl], by omega, fun j r hj => ?_⟩
        obtain ⟨cv, k0, k1, k2, k3⟩ := hRC5.2 j r hj
        have hGk := hkk G (by omega) (by omega)
        refine ⟨G, 0, rfl, by omega, by simp [hsz6]; omega, cv, ?_, ?_, k2, (k3.keep (w' := (w6.setCell ⟨w.heap.size, 0, none⟩ u0).setCell ⟨w.heap.size, 1, none⟩ u1) (fun g h1 h2 => hkk g (by omega) (by omega)) (by simp [hsz6])).mono (by omega)⟩
        · rw [cell_of_heap hGk, Nat.zero_add]; simp [World.cell?, hrow5, k0]
        · rw [cell_of_heap hGk, Nat.zero_add]; simp [World.cell?, hrow5, k1]
      have hne1 : ¬ (G + 1 = w.heap.size) := by omega
      have hne2 : ¬ (w.heap.size = G + 1) := by omega
      clear hRb hbox5 hrow5 hRC5 hbx6 hoth6 hRb6 hbw5
      by_cases hvn : vd < 0
      · have hdv : decide (0 ≤ vd) = false := decide_eq_false (by omega)
        have hN : Hid (polOf s.data.toList = none) := by unfold Hid; rw [HP.out, hall2.out]; simp [hvn]
        go_wp2_with fail
        rw [← hw6]
        have HRF := two_setCell1 (u := .int .i64 0) (two_setCell (u := .slice none 0 0) hRb6'.out)
        obtain ⟨z0, z1, _, _⟩ := cell_of_two HRF
        refine bodyPost_ret (v := .tuple #[.agg #[.slice none 0 0, .int .i64 0], .bool false]) ?_ rfl ⟨_, by rw [hN.out]; rfl, by rw [hN.out]; exact PolN.zero _ _, (hbw6.setCell (p := ⟨w.heap.size, 0, none⟩) (Nat.le_refl _) _).setCell (p := ⟨w.heap.size, 1, none⟩) (Nat.le_refl _) _⟩
        rw [results_cell_tmp rfl]
        go_simp
      · have hdv : decide (0 ≤ vd) = true := decide_eq_true (by omega)
        have hN : Hid (polOf s.data.toList = some (rs, vd)) := by unfold Hid; rw [HP.out, hall2.out]; simp [hvn]
        go_wp2_with fail
        rw [← hw6]
        have HRF := two_setCell1 (u := .int .i64 vd) (two_setCell (u := .slice (some ⟨G, 0, none⟩) i i) hRb6'.out)
        obtain ⟨z0, z1, _, _⟩ := cell_of_two HRF
        refine bodyPost_ret (v := .tuple #[.agg #[.slice (some ⟨G, 0, none⟩) i i, .int .i64 vd], .bool true]) ?_ rfl ⟨_, by rw [hN.out]; rfl, by rw [hN.out]; exact HF6.out _ _, (hbw6.setCell (p := ⟨w.heap.size, 0, none⟩) (Nat.le_refl _) _).setCell (p := ⟨w.heap.size, 1, none⟩) (Nat.le_refl _) _⟩
        rw [results_cell_tmp rfl]
        go_simp

end Go.Proofs.YtdfcfinjoghipacGreatDoor
end
