/- What the program's own Check says of rules and policies. -/
import Derived.Test.YthpllmhnpbigiaaDoorPol
set_option linter.all false
namespace Go.Proofs.YthpllmhnpbigiaaDoor
open Go.RowKit Go.Maps

theorem condsErr_drop (cs : List CondT) (k : Nat) (c : CondT) (h : cs[k]? = some c) : condsErr (cs.drop k) = if condErr c = 0 then condsErr (cs.drop (k + 1)) else condErr c := by
  obtain ⟨hk, rfl⟩ := List.getElem?_eq_some_iff.1 h
  rw [List.drop_eq_getElem_cons hk]
  rfl
theorem rulesErr_drop (rs : List RuleT) (k : Nat) (r : RuleT) (h : rs[k]? = some r) : rulesErr (rs.drop k) = if ruleErr r = 0 then rulesErr (rs.drop (k + 1)) else ruleErr r := by
  obtain ⟨hk, rfl⟩ := List.getElem?_eq_some_iff.1 h
  rw [List.drop_eq_getElem_cons hk]
  rfl

set_option maxHeartbeats 1000000 in
theorem checkRule_any (B : Nat) (cv : Value) (r : RuleT) (w : World) (hc : CondsAt B w cv r.1) (hB : B ≤ w.heap.size) :
    Calls Tryd.prog 42 #[.agg #[cv, .int .i64 r.2]] w fun e w' => e = .returned (.int .i64 (ruleErr r)) ∧ Below w.heap.size w w' := by
  obtain ⟨cs, vd⟩ := r
  obtain ⟨a, cap, rfl, hlc, hcm, hcs⟩ := hc
  have hb : ∀ x, Below w.heap.size w (w.alloc x) := fun x => (Below.refl _ _).alloc (Nat.le_refl _) _
  have HR : Hid (∀ n, 10 < cs.length → n = 2 → ruleErr (cs, vd) = n) := by intro n h e; subst e; simp [ruleErr, h]
  show Calls Tryd.prog 42 #[.agg #[.slice a cs.length cap, .int .i64 vd]] w _
  simp only [] at hcs hlc
  have hcs' : Hid (∀ (i : Nat) (c : CondT), cs[i]? = some c → ∃ b o, a = some ⟨b, o, none⟩ ∧ b < B ∧ CondAt w b (o + i * 3) c) := hcs
  clear hcs
  generalize hn : cs.length = n at *
  by_cases h0 : 10 < n
  · have h0' : (10 : Int) < (n : Int) := by omega
    go_enter Tryd.func42, Tryd.ntmps42
    go_wp2
    go_ret
    exact ⟨by rw [HR.out 2 h0 rfl]; rfl, hb _⟩
  · by_cases hv : verdictOk vd = false
    · go_enter Tryd.func42, Tryd.ntmps42
      go_wp2_with (first | (go_at_call 41; refine (isVerdict_any _ _).mono ?_; rintro e w' ⟨rfl, rfl⟩))
      go_ret
      exact ⟨by rw [ruleErr, if_neg (by show ¬ 10 < cs.length; omega), if_neg (by show ¬ verdictOk vd = true; simp [hv])]; rfl, hb _⟩
    · have hv' : verdictOk vd = true := by simpa using hv
      have HE : Hid (ruleErr (cs, vd) = condsErr cs) := by unfold Hid; rw [ruleErr, if_neg (by show ¬ 10 < cs.length; omega), if_pos hv']
      clear hv
      go_enter Tryd.func42, Tryd.ntmps42
      go_wp2_with (first | (go_at_call 41; refine (isVerdict_any _ _).mono ?_; rintro e w' ⟨rfl, rfl⟩))
      go_loopw [17] (fun i wr => ∃ k : Nat, k ≤ n ∧ i = .int .i64 k ∧ Hid (condsErr cs = condsErr (cs.drop k)) ∧ Below w.heap.size w wr) (fun i _ => n - (intOf i).toNat)
      case atStart => exact ⟨0, by omega, rfl, rfl, hb _⟩
      case round =>
        obtain ⟨k, hk, rfl, H, hbr⟩ := hrel
        have i0 : (0 : Int) ≤ (k : Int) := by omega
        by_cases hlt : k < n
        · have i1 : (k : Int) < (n : Int) := by omega
          obtain ⟨c, hck⟩ : ∃ c, cs[k]? = some c := ⟨cs[k]'(by omega), by simp⟩
          obtain ⟨b, o, rfl, hbB, hat⟩ := hcs'.out k c hck
          have S : Hid (condsErr (cs.drop k) = if condErr c = 0 then condsErr (cs.drop (k + 1)) else condErr c) := condsErr_drop cs k c hck
          obtain ⟨f, op, v⟩ := c
          obtain ⟨c0, c1, c2, w0, w1, w2⟩ := hat.later hbr (by omega)
          simp only [] at c0 c1 c2 w0 w1 w2
          go_wp2_with (first | (go_at_call 66; refine (checkCond_any _ _ _ _).mono ?_; rintro e w' ⟨rfl, hb2⟩))
          all_goals have hb3 : Below w.heap.size w w' := Below.thenOf (hbr.alloc hbr.size _) hb2 (by simp; have := hbr.size; omega)
          · have hne : condErr (f, op, v) ≠ 0 := by simpa using (by assumption : (condErr (f, op, v) != 0) = true)
            go_ret
            exact ⟨by rw [HE.out, H.out, S.out, if_neg hne]; rfl, hb3⟩
          · have he : condErr (f, op, v) = 0 := by simpa using (by assumption : (condErr (f, op, v) != 0) = false)
            exact ⟨⟨k + 1, by omega, by go_num, by unfold Hid; rw [H.out, S.out, if_pos he], hb3⟩, by simp [intOf]; omega⟩
        · go_wp2
          go_ret
          exact ⟨by rw [HE.out, H.out, List.drop_eq_nil_of_le (by omega)]; rfl, hbr⟩

set_option maxHeartbeats 1000000 in
theorem check_pol (B : Nat) (pv : Value) (p : PolT) (w : World) (hp : PolAt B w pv p) (hB : B ≤ w.heap.size) :
    Calls Tryd.prog 12 #[pv] w fun e w' => e = .returned (.int .i64 (polErr p)) ∧ Below w.heap.size w w' := by
  obtain ⟨rs, d⟩ := p
  obtain ⟨rv, rfl, _, a, cap, rfl, hlc, hcm, hrs⟩ := hp
  have hb : ∀ x, Below w.heap.size w (w.alloc x) := fun x => (Below.refl _ _).alloc (Nat.le_refl _) _
  have HR : Hid (∀ n, 120 < rs.length → n = 2 → polErr (rs, d) = n) := by intro n h e; subst e; simp [polErr, h]
  show Calls Tryd.prog 12 #[.agg #[.slice a rs.length cap, .int .i64 d]] w _
  simp only [] at hrs hlc
  have hrs' : Hid (∀ (i : Nat) (r : RuleT), rs[i]? = some r → ∃ b o, a = some ⟨b, o, none⟩ ∧ b < B ∧ RuleAt B w b (o + i * 2) r) := hrs
  clear hrs
  generalize hn : rs.length = n at *
  by_cases h0 : 120 < n
  · have h0' : (120 : Int) < (n : Int) := by omega
    go_enter Tryd.func12, Tryd.ntmps12
    go_wp2
    go_ret
    exact ⟨by rw [HR.out 2 h0 rfl]; rfl, hb _⟩
  · by_cases hv : verdictOk d = false
    · go_enter Tryd.func12, Tryd.ntmps12
      go_wp2_with (first | (go_at_call 41; refine (isVerdict_any _ _).mono ?_; rintro e w' ⟨rfl, rfl⟩))
      go_ret
      exact ⟨by rw [polErr, if_neg (by show ¬ 120 < rs.length; omega), if_neg (by show ¬ verdictOk d = true; simp [hv])]; rfl, hb _⟩
    · have hv' : verdictOk d = true := by simpa using hv
      have HE : Hid (polErr (rs, d) = rulesErr rs) := by unfold Hid; rw [polErr, if_neg (by show ¬ 120 < rs.length; omega), if_pos hv']
      clear hv
      go_enter Tryd.func12, Tryd.ntmps12
      go_wp2_with (first | (go_at_call 41; refine (isVerdict_any _ _).mono ?_; rintro e w' ⟨rfl, rfl⟩))
      go_loopw [17] (fun i wr => ∃ k : Nat, k ≤ n ∧ i = .int .i64 k ∧ Hid (rulesErr rs = rulesErr (rs.drop k)) ∧ Below w.heap.size w wr) (fun i _ => n - (intOf i).toNat)
      case atStart => exact ⟨0, by omega, rfl, rfl, hb _⟩
      case round =>
        obtain ⟨k, hk, rfl, H, hbr⟩ := hrel
        have i0 : (0 : Int) ≤ (k : Int) := by omega
        by_cases hlt : k < n
        · have i1 : (k : Int) < (n : Int) := by omega
          obtain ⟨c, hck⟩ : ∃ c, rs[k]? = some c := ⟨rs[k]'(by omega), by simp⟩
          obtain ⟨b, o, rfl, hbB, hat⟩ := hrs'.out k c hck
          have S : Hid (rulesErr (rs.drop k) = if ruleErr c = 0 then rulesErr (rs.drop (k + 1)) else ruleErr c) := rulesErr_drop rs k c hck
          obtain ⟨cv, c0, c1, w0, hcon⟩ := hat.later hbr hB hbB
          obtain ⟨a2, m2, cap2, rfl, hcon'⟩ : ∃ a2 m2 cap2, cv = .slice a2 m2 cap2 ∧ Hid (CondsAt B wr cv c.1) := by
            obtain ⟨a2, cap2, e2, hrest⟩ := hcon
            exact ⟨a2, _, cap2, e2, a2, cap2, e2, hrest⟩
          have hsz := hbr.size
          clear hcon hat
          go_wp2_with (first | (go_at_call 42; refine (checkRule_any B _ c _ (hcon'.out.later ((Below.refl wr.heap.size _).alloc (Nat.le_refl _) _) (by omega)) (by simp; omega)).mono ?_; rintro e w' ⟨rfl, hb2⟩))
          all_goals have hb3 : Below w.heap.size w w' := Below.thenOf (hbr.alloc hbr.size _) hb2 (by simp; have := hbr.size; omega)
          · have hne : ruleErr c ≠ 0 := by simpa using (by assumption : (ruleErr c != 0) = true)
            go_ret
            exact ⟨by rw [HE.out, H.out, S.out, if_neg hne]; rfl, hb3⟩
          · have he : ruleErr c = 0 := by simpa using (by assumption : (ruleErr c != 0) = false)
            exact ⟨⟨k + 1, by omega, by go_num, by unfold Hid; rw [H.out, S.out, if_pos he], hb3⟩, by simp [intOf]; omega⟩
        · go_wp2
          go_ret
          exact ⟨by rw [HE.out, H.out, List.drop_eq_nil_of_le (by omega)]; rfl, hbr⟩

end Go.Proofs.YthpllmhnpbigiaaDoor
