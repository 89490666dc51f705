/- Joined: Pol2 Pol3. -/
import Derived.Test.YtbdlojnigflanacGreatDoorKa01
section
/- What the program's own Check says of rules and policies. -/
set_option linter.all false
namespace Go.Proofs.YtbdlojnigflanacGreatDoor
open Go.RowKit Go.Maps

theorem condsErr_drop (cs : List CondT) (k : Nat) (c : CondT) (h : cs[k]? = some c) : condsErr (cs.drop k) = if condErr c = 0 then condsErr (cs.drop (k + 1)) else condErr c := by
  obtain ⟨hk, rfl⟩ := List.getElem?_eq_some_iff.1 h
  rw [List.drop_eq_getElem_cons hk]
  rfl
theorem rulesErr_drop (rs : List RuleT) (k : Nat) (r : RuleT) (h : rs[k]? = some r) : rulesErr (rs.drop k) = if ruleErr r = 0 then rulesErr (rs.drop (k + 1)) else ruleErr r := by
  obtain ⟨hk, rfl⟩ := List.getElem?_eq_some_iff.1 h
  rw [List.drop_eq_getElem_cons hk]
  rfl

set_option maxHeartbeats 1000000 in
theorem checkRule_any (B : Nat) (cv : Value) (r : RuleT) (w : World) (hc : CondsAt B w cv r.1) (hB : B ≤ w.heap.size) :
    Calls Tryz.prog 123 #[.agg #[cv, .int .i64 r.2]] w fun e w' => e = .returned (.int .i64 (ruleErr r)) ∧ Below w.heap.size w w' := by
  obtain ⟨cs, vd⟩ := r
  obtain ⟨a, cap, rfl, hlc, hcm, hcs⟩ := hc
  have hb : ∀ x, Below w.heap.size w (w.alloc x) := fun x => (Below.refl _ _).alloc (Nat.le_refl _) _
  have HR : Hid (∀ n, 10 < cs.length → n = 2 → ruleErr (cs, vd) = n) := by intro n h e; subst e; simp [ruleErr, h]
  show Calls Tryz.prog 123 #[.agg #[.slice a cs.length cap, .int .i64 vd]] w _
  simp only [] at hcs hlc
  have hcs' : Hid (∀ (i : Nat) (c : CondT), cs[i]? = some c → ∃ b o, a = some ⟨b, o, none⟩ ∧ b < B ∧ CondAt w b (o + i * 3) c) := hcs
  clear hcs
  generalize hn : cs.length = n at *
  by_cases h0 : 10 < n
  · have h0' : (10 : Int) < (n : Int) := by omega
    go_enter Tryz.func123, Tryz.ntmps123
    go_wp2
    go_ret
    exact ⟨by rw [HR.out 2 h0 rfl]; rfl, hb _⟩
  · by_cases hv : verdictOk vd = false
    · go_enter Tryz.func123, Tryz.ntmps123
      go_wp2_with (first | (go_at_call 122; refine (isVerdict_any _ _).mono ?_; rintro e w' ⟨rfl, rfl⟩))
      go_ret
      exact ⟨by rw [ruleErr, if_neg (by show ¬ 10 < cs.length; omega), if_neg (by show ¬ verdictOk vd = true; simp [hv])]; rfl, hb _⟩
    · have hv' : verdictOk vd = true := by simpa using hv
      have HE : Hid (ruleErr (cs, vd) = condsErr cs) := by unfold Hid; rw [ruleErr, if_neg (by show ¬ 10 < cs.length; omega), if_pos hv']
      clear hv
      go_enter Tryz.func123, Tryz.ntmps123
      go_wp2_with (first | (go_at_call 122; refine (isVerdict_any _ _).mono ?_; rintro e w' ⟨rfl, rfl⟩))
      go_loopw [17] (fun i wr => ∃ k : Nat, k ≤ n ∧ i = .int .i64 k ∧ Hid (condsErr cs = condsErr (cs.drop k)) ∧ Below w.heap.size w wr) (fun i _ => n - (intOf i).toNat)
      case atStart => exact ⟨0, by omega, rfl, rfl, hb _⟩
      case round =>
        obtain ⟨k, hk, rfl, H, hbr⟩ := hrel
        have i0 : (0 : Int) ≤ (k : Int) := by omega
        by_cases hlt : k < n
        · have i1 : (k : Int) < (n : Int) := by omega
          obtain ⟨c, hck⟩ : ∃ c, cs[k]? = some c := ⟨cs[k]'(by omega), by simp⟩
          obtain ⟨b, o, rfl, hbB, hat⟩ := hcs'.out k c hck
          have S : Hid (condsErr (cs.drop k) = if condErr c = 0 then condsErr (cs.drop (k + 1)) else condErr c) := condsErr_drop cs k c hck
          obtain ⟨f, op, v⟩ := c
          obtain ⟨c0, c1, c2, w0, w1, w2⟩ := hat.later hbr (by omega)
          simp only [] at c0 c1 c2 w0 w1 w2
          go_wp2_with (first | (go_at_call 166; refine (checkCond_any _ _ _ _).mono ?_; rintro e w' ⟨rfl, hb2⟩))
          all_goals have hb3 : Below w.heap.size w w' := Below.thenOf (hbr.alloc hbr.size _) hb2 (by simp; have := hbr.size; omega)
          · have hne : condErr (f, op, v) ≠ 0 := by simpa using (by assumption : (condErr (f, op, v) != 0) = true)
            go_ret
            exact ⟨by rw [HE.out, H.out, S.out, if_neg hne]; rfl, hb3⟩
          · have he : condErr (f, op, v) = 0 := by simpa using (by assumption : (condErr (f, op, v) != 0) = false)
            exact ⟨⟨k + 1, by omega, by go_num, by unfold Hid; rw [H.out, S.out, if_pos he], hb3⟩, by simp [intOf]; omega⟩
        · go_wp2
          go_ret
          exact ⟨by rw [HE.out, H.out, List.drop_eq_nil_of_le (by omega)]; rfl, hbr⟩

set_option maxHeartbeats 1000000 in
theorem check_pol (B : Nat) (pv : Value) (p : PolT) (w : World) (hp : PolAt B w pv p) (hB : B ≤ w.heap.size) :
    Calls Tryz.prog 61 #[pv] w fun e w' => e = .returned (.int .i64 (polErr p)) ∧ Below w.heap.size w w' := by
  obtain ⟨rs, d⟩ := p
  obtain ⟨rv, rfl, _, a, cap, rfl, hlc, hcm, hrs⟩ := hp
  have hb : ∀ x, Below w.heap.size w (w.alloc x) := fun x => (Below.refl _ _).alloc (Nat.le_refl _) _
  have HR : Hid (∀ n, 120 < rs.length → n = 2 → polErr (rs, d) = n) := by intro n h e; subst e; simp [polErr, h]
  show Calls Tryz.prog 61 #[.agg #[.slice a rs.length cap, .int .i64 d]] w _
  simp only [] at hrs hlc
  have hrs' : Hid (∀ (i : Nat) (r : RuleT), rs[i]? = some r → ∃ b o, a = some ⟨b, o, none⟩ ∧ b < B ∧ RuleAt B w b (o + i * 2) r) := hrs
  clear hrs
  generalize hn : rs.length = n at *
  by_cases h0 : 120 < n
  · have h0' : (120 : Int) < (n : Int) := by omega
    go_enter Tryz.func61, Tryz.ntmps61
    go_wp2
    go_ret
    exact ⟨by rw [HR.out 2 h0 rfl]; rfl, hb _⟩
  · by_cases hv : verdictOk d = false
    · go_enter Tryz.func61, Tryz.ntmps61
      go_wp2_with (first | (go_at_call 122; refine (isVerdict_any _ _).mono ?_; rintro e w' ⟨rfl, rfl⟩))
      go_ret
      exact ⟨by rw [polErr, if_neg (by show ¬ 120 < rs.length; omega), if_neg (by show ¬ verdictOk d = true; simp [hv])]; rfl, hb _⟩
    · have hv' : verdictOk d = true := by simpa using hv
      have HE : Hid (polErr (rs, d) = rulesErr rs) := by unfold Hid; rw [polErr, if_neg (by show ¬ 120 < rs.length; omega), if_pos hv']
      clear hv
      go_enter Tryz.func61, Tryz.ntmps61
      go_wp2_with (first | (go_at_call 122; refine (isVerdict_any _ _).mono ?_; rintro e w' ⟨rfl, rfl⟩))
      go_loopw [17] (fun i wr => ∃ k : Nat, k ≤ n ∧ i = .int .i64 k ∧ Hid (rulesErr rs = rulesErr (rs.drop k)) ∧ Below w.heap.size w wr) (fun i _ => n - (intOf i).toNat)
      case atStart => exact ⟨0, by omega, rfl, rfl, hb _⟩
      case round =>
        obtain ⟨k, hk, rfl, H, hbr⟩ := hrel
        have i0 : (0 : Int) ≤ (k : Int) := by omega
        by_cases hlt : k < n
        · have i1 : (k : Int) < (n : Int) := by omega
          obtain ⟨c, hck⟩ : ∃ c, rs[k]? = some c := ⟨rs[k]'(by omega), by simp⟩
          obtain ⟨b, o, rfl, hbB, hat⟩ := hrs'.out k c hck
          have S : Hid (rulesErr (rs.drop k) = if ruleErr c = 0 then rulesErr (rs.drop (k + 1)) else ruleErr c) := rulesErr_drop rs k c hck
          obtain ⟨cv, c0, c1, w0, hcon⟩ := hat.later hbr hB hbB
          obtain ⟨a2, m2, cap2, rfl, hcon'⟩ : ∃ a2 m2 cap2, cv = .slice a2 m2 cap2 ∧ Hid (CondsAt B wr cv c.1) := by
            obtain ⟨a2, cap2, e2, hrest⟩ := hcon
            exact ⟨a2, _, cap2, e2, a2, cap2, e2, hrest⟩
          have hsz := hbr.size
          clear hcon hat
          go_wp2_with (first | (go_at_call 123; refine (checkRule_any B _ c _ (hcon'.out.later ((Below.refl wr.heap.size _).alloc (Nat.le_refl _) _) (by omega)) (by simp; omega)).mono ?_; rintro e w' ⟨rfl, hb2⟩))
          all_goals have hb3 : Below w.heap.size w w' := Below.thenOf (hbr.alloc hbr.size _) hb2 (by simp; have := hbr.size; omega)
          · have hne : ruleErr c ≠ 0 := by simpa using (by assumption : (ruleErr c != 0) = true)
            go_ret
            exact ⟨by rw [HE.out, H.out, S.out, if_neg hne]; rfl, hb3⟩
          · have he : ruleErr c = 0 := by simpa using (by assumption : (ruleErr c != 0) = false)
            exact ⟨⟨k + 1, by omega, by go_num, by unfold Hid; rw [H.out, S.out, if_pos he], hb3⟩, by simp [intOf]; omega⟩
        · go_wp2
          go_ret
          exact ⟨by rw [HE.out, H.out, List.drop_eq_nil_of_le (by omega)]; rfl, hbr⟩

end Go.Proofs.YtbdlojnigflanacGreatDoor
end
section
/- What the counterpart's CheckPolicy says: the same. -/
set_option linter.all false
namespace Go.Proofs.YtbdlojnigflanacGreatDoor
open Go.RowKit Go.Maps

theorem cells3 (f o v : Int) (w : World) (T : TypeId) : (w.alloc (.cells #[.int .i64 f, .int .i64 o, .int .i64 v] T)).cell? ⟨w.heap.size, 0, none⟩ = some (.int .i64 f) ∧ (w.alloc (.cells #[.int .i64 f, .int .i64 o, .int .i64 v] T)).cell? ⟨w.heap.size, 1, none⟩ = some (.int .i64 o) ∧ (w.alloc (.cells #[.int .i64 f, .int .i64 o, .int .i64 v] T)).cell? ⟨w.heap.size, 2, none⟩ = some (.int .i64 v) := by
  refine ⟨?_, ?_, ?_⟩ <;> simp [go_sem]

set_option maxHeartbeats 4000000 in
theorem checkPolicy_any (B : Nat) (pv : Value) (p : PolT) (w : World) (hp : PolAt B w pv p) (hB : B ≤ w.heap.size) :
    Calls Tryz.prog 105 #[pv] w fun e w' => e = .returned (.int .i64 (polErr p)) ∧ Below w.heap.size w w' := by
  obtain ⟨rs, d⟩ := p
  obtain ⟨rv, rfl, _, a, cap, rfl, hlc, hcm, hrs⟩ := hp
  have hb : ∀ x, Below w.heap.size w (w.alloc x) := fun x => (Below.refl _ _).alloc (Nat.le_refl _) _
  have HR : Hid (∀ n, 120 < rs.length → n = 2 → polErr (rs, d) = n) := by intro n h e; subst e; simp [polErr, h]
  show Calls Tryz.prog 105 #[.agg #[.slice a rs.length cap, .int .i64 d]] w _
  simp only [] at hrs hlc
  have hrs' : Hid (∀ (i : Nat) (r : RuleT), rs[i]? = some r → ∃ b o, a = some ⟨b, o, none⟩ ∧ b < B ∧ RuleAt B w b (o + i * 2) r) := hrs
  clear hrs
  generalize hn : rs.length = n at *
  by_cases h0 : 120 < n
  · have h0' : (120 : Int) < (n : Int) := by omega
    go_enter Tryz.func105, Tryz.ntmps105
    go_wp2
    go_ret
    exact ⟨by rw [HR.out 2 h0 rfl]; rfl, hb _⟩
  · by_cases hv : verdictOk d = false
    · unfold verdictOk at hv
      go_enter Tryz.func105, Tryz.ntmps105
      go_wp2_with (first | (go_at_call 139; refine (in_any _ _ _ _).mono ?_; rintro e w' ⟨rfl, rfl⟩))
      go_ret
      exact ⟨by rw [polErr, if_neg (by show ¬ 120 < rs.length; omega), if_neg (by show ¬ verdictOk d = true; rw [verdictOk, hv]; decide)]; rfl, hb _⟩
    · have hv' : verdictOk d = true := by simpa using hv
      have HE : Hid (polErr (rs, d) = rulesErr rs) := by unfold Hid; rw [polErr, if_neg (by show ¬ 120 < rs.length; omega), if_pos hv']
      clear hv
      unfold verdictOk at hv'
      go_enter Tryz.func105, Tryz.ntmps105
      go_wp2_with (first | (go_at_call 139; refine (in_any _ _ _ _).mono ?_; rintro e w' ⟨rfl, rfl⟩))
      go_loopw [18] (fun i wr => ∃ k : Nat, k ≤ n ∧ i = .int .i64 k ∧ Hid (rulesErr rs = rulesErr (rs.drop k)) ∧ Below w.heap.size w wr) (fun i _ => n - (intOf i).toNat)
      case atStart => exact ⟨0, by omega, rfl, rfl, hb _⟩
      case round =>
        obtain ⟨k, hk, rfl, H, hbr⟩ := hrel
        obtain ⟨wo, hwo⟩ : ∃ x, x = wr := ⟨_, rfl⟩
        subst hwo
        have i0 : (0 : Int) ≤ (k : Int) := by omega
        by_cases hlt : k < n
        · have i1 : (k : Int) < (n : Int) := by omega
          obtain ⟨c, hck⟩ : ∃ c, rs[k]? = some c := ⟨rs[k]'(by omega), by simp⟩
          obtain ⟨b, o, rfl, hbB, hat⟩ := hrs'.out k c hck
          have S : Hid (rulesErr (rs.drop k) = if ruleErr c = 0 then rulesErr (rs.drop (k + 1)) else ruleErr c) := rulesErr_drop rs k c hck
          obtain ⟨cv, c0, c1, w0, hcon⟩ := hat.later hbr hB hbB
          obtain ⟨cs, vd⟩ := c
          obtain ⟨a2, cap2, rfl, hlc2, hcm2, hcs⟩ := hcon
          simp only [] at hcs hlc2 c0 c1
          have hcs' : Hid (∀ (i : Nat) (c : CondT), cs[i]? = some c → ∃ b o, a2 = some ⟨b, o, none⟩ ∧ b < B ∧ CondAt wo b (o + i * 3) c) := hcs
          clear hcs hat
          generalize hm : cs.length = m at *
          have hsz := hbr.size
          have hbr' : ∀ x, Below w.heap.size w (wo.alloc x) := fun x => hbr.alloc hbr.size _
          by_cases q0 : 10 < m
          · have q0' : (10 : Int) < (m : Int) := by omega
            have he : ruleErr (cs, vd) = 2 := by rw [ruleErr, if_pos (by show 10 < cs.length; omega)]
            have He : Hid (ruleErr (cs, vd) = 2) := he
            clear he
            go_wp2
            go_ret
            exact ⟨by rw [HE.out, H.out, S.out, He.out]; rfl, hbr' _⟩
          · by_cases qv : verdictOk vd = false
            · have He : Hid (ruleErr (cs, vd) = 3) := by unfold Hid; rw [ruleErr, if_neg (by show ¬ 10 < cs.length; omega), if_neg (by show ¬ verdictOk vd = true; simp [qv])]
              unfold verdictOk at qv
              go_wp2_with (first | (go_at_call 139; refine (in_any _ _ _ _).mono ?_; rintro e w' ⟨rfl, rfl⟩))
              go_ret
              exact ⟨by rw [HE.out, H.out, S.out, He.out]; rfl, hbr' _⟩
            · have qv' : verdictOk vd = true := by simpa using qv
              have He : Hid (ruleErr (cs, vd) = condsErr cs) := by unfold Hid; rw [ruleErr, if_neg (by show ¬ 10 < cs.length; omega), if_pos qv']
              clear qv
              unfold verdictOk at qv'
              go_wp2_with (first | (go_at_call 139; refine (in_any _ _ _ _).mono ?_; rintro e w' ⟨rfl, rfl⟩))
              go_loopw [35] (fun i wi => ∃ j : Nat, j ≤ m ∧ i = .int .i64 j ∧ Hid (condsErr cs = condsErr (cs.drop j)) ∧ Below wo.heap.size wo wi) (fun i _ => m - (intOf i).toNat)
              case atStart => exact ⟨0, by omega, rfl, rfl, (Below.refl _ _).alloc (Nat.le_refl _) _⟩
              case round =>
                obtain ⟨j, hj, rfl, H2, hbi⟩ := hrel
                obtain ⟨wi, hwi⟩ : ∃ x, x = wr := ⟨_, rfl⟩
                subst hwi
                have j0 : (0 : Int) ≤ (j : Int) := by omega
                have hszi := hbi.size
                by_cases hlt2 : j < m
                · have j1 : (j : Int) < (m : Int) := by omega
                  obtain ⟨c, hcj⟩ : ∃ c, cs[j]? = some c := ⟨cs[j]'(by omega), by simp⟩
                  obtain ⟨b2, o2, rfl, hbB2, hat2⟩ := hcs'.out j c hcj
                  have S2 : Hid (condsErr (cs.drop j) = if condErr c = 0 then condsErr (cs.drop (j + 1)) else condErr c) := condsErr_drop cs j c hcj
                  obtain ⟨f, op, v⟩ := c
                  obtain ⟨e0, e1, e2, w0, w1, w2⟩ := hat2.later hbi (by omega)
                  simp only [] at e0 e1 e2 w0 w1 w2
                  have hbw : ∀ x, Below w.heap.size w (wi.alloc x) := fun x => (Below.thenOf hbr hbi hsz).alloc (by omega) _
                  by_cases f0 : f < 0 ∨ 5 ≤ f
                  · have Hc : Hid (condErr (f, op, v) = 5) := by unfold Hid; rw [condErr, if_pos f0]
                    have f0' : (decide (0 ≤ f) && decide (f ≤ 4)) = false := by simp; omega
                    clear f0
                    go_wp2_with (first | (go_at_call 139; refine (in_any _ _ _ _).mono ?_; rintro e w' ⟨rfl, rfl⟩))
                    go_ret
                    exact ⟨by rw [HE.out, H.out, S.out, He.out, H2.out, S2.out, Hc.out]; rfl, hbw _⟩
                  · have f0' : (decide (0 ≤ f) && decide (f ≤ 4)) = true := by simp; omega
                    by_cases o0 : op < 1 ∨ 4 < op
                    · have Hc : Hid (condErr (f, op, v) = 4) := by unfold Hid; rw [condErr, if_neg f0, if_pos o0]
                      have o0' : (decide (1 ≤ op) && decide (op ≤ 4)) = false := by simp; omega
                      clear f0 o0
                      go_wp2_with (first | (go_at_call 139; refine (in_any _ _ _ _).mono ?_; rintro e w' ⟨rfl, rfl⟩))
                      go_ret
                      exact ⟨by rw [HE.out, H.out, S.out, He.out, H2.out, S2.out, Hc.out]; rfl, hbw _⟩
                    · have o0' : (decide (1 ≤ op) && decide (op ≤ 4)) = true := by simp; omega
                      have Hf : Hid (¬ (f < 0 ∨ 5 ≤ f)) := f0
                      have Ho : Hid (¬ (op < 1 ∨ 4 < op)) := o0
                      clear f0 o0
                      go_wp2_with (first | (go_at_call 139; refine (in_any _ _ _ _).mono ?_; rintro e w' ⟨rfl, rfl⟩))
                      have hC := cells3 f op v wi 99
                      have hz : wi.heap.size < (wi.alloc (.cells #[.int .i64 f, .int .i64 op, .int .i64 v] 99)).heap.size := by simp
                      have hbW := hbw (.cells #[.int .i64 f, .int .i64 op, .int .i64 v] 99)
                      have hbI := hbi.alloc hszi (.cells #[.int .i64 f, .int .i64 op, .int .i64 v] 99)
                      generalize wi.alloc (.cells #[.int .i64 f, .int .i64 op, .int .i64 v] 99) = W at *
                      have hne := Later.ne W
                      have c0 : ∀ x : Later W, x.1.cell? ⟨wi.heap.size, 0, none⟩ = some (.int .i64 f) := fun x => x.cell hC.1 hz
                      have c2 : ∀ x : Later W, x.1.cell? ⟨wi.heap.size, 2, none⟩ = some (.int .i64 v) := fun x => x.cell hC.2.2 hz
                      clear hC
                      have wff : (Lit.int .i64 f).wf = true := w0
                      refine wp_region_later (by kernel_rfl) (by kernel_rfl) ?_
                      repeat (go_big_quiet_step (first | (go_at_call 55; exact Calls.later (mostOf_any _ wff _)) | (go_at_call 139; exact Calls.later_same (in_any _ _ _ _))))
                      refine wpQuiet_nil ?_
                      rintro wx ⟨⟨_, hx⟩, rfl⟩
                      have hbX : Below w.heap.size w wx := Below.thenOf hbW hx hbW.size
                      have hbX' : Below wo.heap.size wo wx := Below.thenOf hbI hx hbI.size
                      clear c0 c2 hne hx hbw
                      go_wp2
                      · have hv : v < 0 ∨ most f < v := by
                          have h : (!decide (0 ≤ v)) = true ∨ (!decide (v ≤ most f)) = true := by assumption
                          simp at h; omega
                        go_ret
                        exact ⟨by rw [HE.out, H.out, S.out, He.out, H2.out, S2.out, (by rw [condErr, if_neg Hf.out, if_neg Ho.out, if_pos hv] : condErr (f, op, v) = 3)]; rfl, hbX⟩
                      · have hv : ¬ (v < 0 ∨ most f < v) := by
                          have h : (!decide (0 ≤ v)) = false ∧ (!decide (v ≤ most f)) = false := by assumption
                          simp at h; omega
                        exact ⟨⟨j + 1, by omega, by go_num, by unfold Hid; rw [H2.out, S2.out, (by rw [condErr, if_neg Hf.out, if_neg Ho.out, if_neg hv] : condErr (f, op, v) = 0)]; rfl, hbX'⟩, by simp [intOf]; omega⟩
                · go_wp2
                  exact ⟨⟨k + 1, by omega, by go_num, by unfold Hid; rw [H.out, S.out, He.out, H2.out, List.drop_eq_nil_of_le (by omega : cs.length ≤ j)]; rfl, Below.thenOf hbr hbi hsz⟩, by simp [intOf]; omega⟩
        · go_wp2
          go_ret
          exact ⟨by rw [HE.out, H.out, List.drop_eq_nil_of_le (by omega)]; rfl, hbr⟩

end Go.Proofs.YtbdlojnigflanacGreatDoor
end
