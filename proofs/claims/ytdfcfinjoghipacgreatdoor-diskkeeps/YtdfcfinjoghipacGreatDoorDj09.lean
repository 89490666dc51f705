/- Joined: Same2 Same3 Last. -/
import Derived.Test.YtdfcfinjoghipacGreatDoorDj08
import Derived.Test.YtdfcfinjoghipacGreatDoorDj04
import Derived.Test.YtdfcfinjoghipacGreatDoorDj01
section
/- What Same and its counterpart say of two policies: whether they are alike. -/
set_option linter.all false
namespace Go.Proofs.YtdfcfinjoghipacGreatDoor
open Go.RowKit Go.Maps

theorem CondsAt.shape {B : Nat} {w : World} {v : Value} {cs : List CondT} (h : CondsAt B w v cs) : ∃ a n cap, v = .slice a n cap := by
  obtain ⟨a, cap, e, _⟩ := h
  exact ⟨a, _, cap, e⟩
theorem RulesAt.shape {B : Nat} {w : World} {v : Value} {rs : List RuleT} (h : RulesAt B w v rs) : ∃ a cap, v = .slice a rs.length cap := by
  obtain ⟨a, cap, e, _⟩ := h
  exact ⟨a, cap, e⟩

set_option maxHeartbeats 1000000 in
theorem sameRule_any (B : Nat) (cv dv : Value) (r s : RuleT) (w : World) (hc : CondsAt B w cv r.1) (hd : CondsAt B w dv s.1) (hB : B ≤ w.heap.size) :
    Calls Tryz.prog 114 #[.agg #[cv, .int .i64 r.2], .agg #[dv, .int .i64 s.2]] w fun e w' => e = .returned (.bool (decide (r = s))) ∧ Below w.heap.size w w' := by
  obtain ⟨cs, v1⟩ := r
  obtain ⟨ds, v2⟩ := s
  have hbP : ∀ X Y, Below w.heap.size w ((w.alloc X).alloc Y) := fun X Y => ((Below.refl _ _).alloc (Nat.le_refl _) _).alloc (by simp) _
  have hcall : Hid (∀ X Y, Calls Tryz.prog 115 #[cv, dv] ((w.alloc X).alloc Y) fun e w' => e = .returned (.bool (decide (cs = ds))) ∧ Below ((w.alloc X).alloc Y).heap.size ((w.alloc X).alloc Y) w') := fun X Y => equalConds_any B cv dv cs ds _ (hc.later (hbP X Y) hB) (hd.later (hbP X Y) hB) (by simp; omega)
  obtain ⟨a, n, cap, rfl⟩ := hc.shape
  obtain ⟨a2, n2, cap2, rfl⟩ := hd.shape
  clear hc hd
  simp only []
  by_cases hv : v1 = v2
  · subst hv
    have E : Hid (decide (((cs, v1) : RuleT) = (ds, v1)) = decide (cs = ds)) := by unfold Hid; simp
    generalize decide (cs = ds) = q at *
    go_enter Tryz.func114, Tryz.ntmps114
    go_wp2_with (first | (go_at_call 115; refine (hcall.out _ _).mono ?_; rintro e w' ⟨rfl, hb2⟩))
    go_ret
    exact ⟨by rw [E.out]; rfl, Below.thenOf (hbP _ _) hb2 (by simp; omega)⟩
  · have E : Hid (decide (((cs, v1) : RuleT) = (ds, v2)) = false) := by unfold Hid; simp; intro _; exact hv
    have hv' : (v1 == v2) = false := by simpa using hv
    go_enter Tryz.func114, Tryz.ntmps114
    go_wp2
    go_ret
    exact ⟨by first | rfl | (rw [E.out]; rfl), hbP _ _⟩

set_option maxHeartbeats 1000000 in
theorem equalRules_any (B : Nat) (rv sv : Value) (rs ss : List RuleT) (w : World) (hr : RulesAt B w rv rs) (hs : RulesAt B w sv ss) (hB : B ≤ w.heap.size) :
    Calls Tryz.prog 113 #[rv, sv, .func (.func 114) #[] #[]] w fun e w' => e = .returned (.bool (decide (rs = ss))) ∧ Below w.heap.size w w' := by
  obtain ⟨a, cap, rfl, hlc, hcm, hrs⟩ := hr
  obtain ⟨a2, cap2, rfl, hlc2, hcm2, hss⟩ := hs
  have hrs' : Hid (∀ (i : Nat) (r : RuleT), rs[i]? = some r → ∃ b o, a = some ⟨b, o, none⟩ ∧ b < B ∧ RuleAt B w b (o + i * 2) r) := hrs
  have hss' : Hid (∀ (i : Nat) (r : RuleT), ss[i]? = some r → ∃ b o, a2 = some ⟨b, o, none⟩ ∧ b < B ∧ RuleAt B w b (o + i * 2) r) := hss
  clear hrs hss
  by_cases hne : rs.length = ss.length
  · generalize hn : rs.length = n at *
    have hm : ss.length = n := hne.symm
    clear hne
    rw [hm] at hlc2
    simp only [hm]
    have hml : n ≤ 9223372036854775807 := by have := maxLen_eq; omega
    go_enter Tryz.func113, Tryz.ntmps113
    go_wp2
    go_loopw [17] (fun i wr => ∃ k : Nat, k ≤ n ∧ i = .int .i64 k ∧ Hid (∀ i, i < k → rs[i]? = ss[i]?) ∧ Below w.heap.size w wr) (fun i _ => n - (intOf i).toNat)
    case atStart => exact ⟨0, by omega, rfl, fun i h => absurd h (by omega), Below.refl _ _⟩
    case round =>
      obtain ⟨k, hk, rfl, H, hbr⟩ := hrel
      have i0 : (0 : Int) ≤ (k : Int) := by omega
      by_cases hlt : k < n
      · have i1 : (k : Int) < (n : Int) := by omega
        obtain ⟨r, hrk⟩ : ∃ r, rs[k]? = some r := ⟨rs[k]'(by omega), by simp⟩
        obtain ⟨s, hsk⟩ : ∃ s, ss[k]? = some s := ⟨ss[k]'(by omega), by simp⟩
        obtain ⟨b, o, rfl, hbB, hat⟩ := hrs'.out k r hrk
        obtain ⟨b2, o2, rfl, hbB2, hat2⟩ := hss'.out k s hsk
        have hck' : Hid (rs[k]? = some r) := hrk
        have hdk' : Hid (ss[k]? = some s) := hsk
        clear hrk hsk
        have hsz := hbr.size
        obtain ⟨cv, c0, c1, w0, hcon⟩ := hat.later hbr hB hbB
        obtain ⟨dv, d0, d1, w1, hdon⟩ := hat2.later hbr hB hbB2
        have hbP : ∀ X Y, Below wr.heap.size wr ((wr.alloc X).alloc Y) := fun X Y => ((Below.refl _ _).alloc (Nat.le_refl _) _).alloc (by simp) _
        have hcall : Hid (∀ X Y, Calls Tryz.prog 114 #[.agg #[cv, .int .i64 r.2], .agg #[dv, .int .i64 s.2]] ((wr.alloc X).alloc Y) fun e w' => e = .returned (.bool (decide (r = s))) ∧ Below ((wr.alloc X).alloc Y).heap.size ((wr.alloc X).alloc Y) w') := fun X Y => sameRule_any B cv dv r s _ (hcon.later (hbP X Y) (by omega)) (hdon.later (hbP X Y) (by omega)) (by simp; omega)
        obtain ⟨a3, n3, cap3, rfl⟩ := hcon.shape
        obtain ⟨a4, n4, cap4, rfl⟩ := hdon.shape
        clear hat hat2 hcon hdon
        generalize r.2 = rr2 at *
        generalize s.2 = ss2 at *
        have ha : ∀ X, (wr.alloc X).cell? ⟨b2, o2 + k * 2, none⟩ = some (.slice a4 n4 cap4) := fun X => (((Below.refl wr.heap.size wr).alloc (Nat.le_refl _) X).cell (p := ⟨b2, o2 + k * 2, none⟩) (by show b2 < wr.heap.size; omega)).trans d0
        have ha' : ∀ X, (wr.alloc X).cell? ⟨b2, o2 + k * 2 + 1, none⟩ = some (.int .i64 ss2) := fun X => (((Below.refl wr.heap.size wr).alloc (Nat.le_refl _) X).cell (p := ⟨b2, o2 + k * 2 + 1, none⟩) (by show b2 < wr.heap.size; omega)).trans d1
        generalize hq : decide (r = s) = q at *
        have hq' : Hid (decide (r = s) = q) := hq
        clear hq
        go_wp2_with (first | (go_at_call 114; refine (hcall.out _ _).mono ?_; rintro e w' ⟨rfl, hb2⟩))
        all_goals have hb3 : Below w.heap.size w w' := Below.thenOf (Below.thenOf hbr (hbP _ _) hsz) hb2 (by simp; omega)
        · go_ret
          refine ⟨?_, hb3⟩
          have hne : r ≠ s := by have h := hq'.out; rw [(by simpa using (by assumption : (!q) = true) : q = false)] at h; simpa using h
          have : rs ≠ ss := by
            intro h
            have h1 := hck'.out
            rw [h, hdk'.out] at h1
            exact hne (Option.some.inj h1).symm
          simp [this]
        · have heq : r = s := by have h := hq'.out; rw [(by simpa using (by assumption : (!q) = false) : q = true)] at h; simpa using h
          refine ⟨⟨k + 1, by omega, by go_num, fun i hi => ?_, hb3⟩, by simp [intOf]; omega⟩
          by_cases hik : i = k
          · subst hik; rw [hck'.out, hdk'.out, heq]
          · exact H.out i (by omega)
      · go_wp2
        go_ret
        refine ⟨?_, hbr⟩
        have : rs = ss := by
          refine List.ext_getElem? fun i => ?_
          by_cases hi : i < k
          · exact H.out i hi
          · rw [List.getElem?_eq_none (by omega), List.getElem?_eq_none (by omega)]
        simp [this]
  · have hni : ((rs.length : Int) != (ss.length : Int)) = true := by simp; omega
    have hf : Hid (decide (rs = ss) = false) := by unfold Hid; simp; intro h; rw [h] at hne; exact hne rfl
    generalize rs.length = n at *
    generalize ss.length = m at *
    go_enter Tryz.func113, Tryz.ntmps113
    go_wp2
    go_ret
    exact ⟨by rw [hf.out]; rfl, Below.refl _ _⟩

set_option maxHeartbeats 1000000 in
theorem same_any (B : Nat) (pv qv : Value) (p q : PolT) (w : World) (hp : PolAt B w pv p) (hq : PolAt B w qv q) (hB : B ≤ w.heap.size) :
    Calls Tryz.prog 64 #[pv, qv] w fun e w' => e = .returned (.bool (decide (p = q))) ∧ Below w.heap.size w w' := by
  obtain ⟨rs, d1⟩ := p
  obtain ⟨ss, d2⟩ := q
  obtain ⟨rv, rfl, _, hr⟩ := hp
  obtain ⟨sv, rfl, _, hs⟩ := hq
  have hbP : ∀ X Y, Below w.heap.size w ((w.alloc X).alloc Y) := fun X Y => ((Below.refl _ _).alloc (Nat.le_refl _) _).alloc (by simp) _
  have hcall : Hid (∀ X Y, Calls Tryz.prog 113 #[rv, sv, .func (.func 114) #[] #[]] ((w.alloc X).alloc Y) fun e w' => e = .returned (.bool (decide (rs = ss))) ∧ Below ((w.alloc X).alloc Y).heap.size ((w.alloc X).alloc Y) w') := fun X Y => equalRules_any B rv sv rs ss _ (hr.later (hbP X Y) hB) (hs.later (hbP X Y) hB) (by simp; omega)
  obtain ⟨a, cap, rfl⟩ := hr.shape
  obtain ⟨a2, cap2, rfl⟩ := hs.shape
  clear hr hs
  simp only []
  by_cases hv : d1 = d2
  · subst hv
    have E : Hid (decide (((rs, d1) : PolT) = (ss, d1)) = decide (rs = ss)) := by unfold Hid; simp
    generalize decide (rs = ss) = q at *
    go_enter Tryz.func64, Tryz.ntmps64
    go_wp2_with (first | (go_at_call 113; refine (hcall.out _ _).mono ?_; rintro e w' ⟨rfl, hb2⟩))
    go_ret
    exact ⟨by rw [E.out]; rfl, Below.thenOf (hbP _ _) hb2 (by simp; omega)⟩
  · have E : Hid (decide (((rs, d1) : PolT) = (ss, d2)) = false) := by unfold Hid; simp; intro _; exact hv
    have hv' : (d1 == d2) = false := by simpa using hv
    go_enter Tryz.func64, Tryz.ntmps64
    go_wp2
    go_ret
    exact ⟨by first | rfl | (rw [E.out]; rfl), hbP _ _⟩

end Go.Proofs.YtdfcfinjoghipacGreatDoor
end
section
/- What the counterpart's SamePolicy says of two policies: whether they are alike. -/
set_option linter.all false
namespace Go.Proofs.YtdfcfinjoghipacGreatDoor
open Go.RowKit Go.Maps

set_option maxHeartbeats 2000000 in
theorem samePolicy_any (B : Nat) (pv qv : Value) (p q : PolT) (w : World) (hp : PolAt B w pv p) (hq : PolAt B w qv q) (hB : B ≤ w.heap.size) :
    Calls Tryz.prog 66 #[pv, qv] w fun e w' => e = .returned (.bool (decide (p = q))) ∧ Below w.heap.size w w' := by
  obtain ⟨rs, d1⟩ := p
  obtain ⟨ss, d2⟩ := q
  obtain ⟨rv, rfl, _, a, cap, rfl, hlc, hcm, hrs⟩ := hp
  obtain ⟨sv, rfl, _, a2, cap2, rfl, hlc2, hcm2, hss⟩ := hq
  simp only [] at hrs hss hlc hlc2
  have hrs' : Hid (∀ (i : Nat) (r : RuleT), rs[i]? = some r → ∃ b o, a = some ⟨b, o, none⟩ ∧ b < B ∧ RuleAt B w b (o + i * 2) r) := hrs
  have hss' : Hid (∀ (i : Nat) (r : RuleT), ss[i]? = some r → ∃ b o, a2 = some ⟨b, o, none⟩ ∧ b < B ∧ RuleAt B w b (o + i * 2) r) := hss
  clear hrs hss
  have hbP : ∀ X Y, Below w.heap.size w ((w.alloc X).alloc Y) := fun X Y => ((Below.refl _ _).alloc (Nat.le_refl _) _).alloc (by simp) _
  simp only []
  by_cases hv : d1 = d2
  · subst hv
    have E : Hid (decide (((rs, d1) : PolT) = (ss, d1)) = decide (rs = ss)) := by unfold Hid; simp
    have hd : (d1 != d1) = false := by simp
    by_cases hne : rs.length = ss.length
    · generalize hn : rs.length = n at *
      have hm : ss.length = n := hne.symm
      clear hne
      rw [hm] at hlc2
      simp only [hm]
      have hml : n ≤ 9223372036854775807 := by have := maxLen_eq; omega
      go_enter Tryz.func66, Tryz.ntmps66
      go_wp2
      go_loopw [24] (fun i wr => ∃ k : Nat, k ≤ n ∧ i = .int .i64 k ∧ Hid (∀ i, i < k → rs[i]? = ss[i]?) ∧ Below w.heap.size w wr ∧ Hid (wr.cell? ⟨w.heap.size + 1, 0, none⟩ = some (.slice a2 n cap2)) ∧ w.heap.size + 1 < wr.heap.size) (fun i _ => n - (intOf i).toNat)
      case atStart => exact ⟨0, by omega, rfl, fun i h => absurd h (by omega), hbP _ _, by unfold Hid; simp [go_sem], by simp⟩
      case round =>
        obtain ⟨k, hk, rfl, H, hbr, Hq, hq1⟩ := hrel
        have i0 : (0 : Int) ≤ (k : Int) := by omega
        by_cases hlt : k < n
        · have i1 : (k : Int) < (n : Int) := by omega
          obtain ⟨r, hrk⟩ : ∃ r, rs[k]? = some r := ⟨rs[k]'(by omega), by simp⟩
          obtain ⟨s, hsk⟩ : ∃ s, ss[k]? = some s := ⟨ss[k]'(by omega), by simp⟩
          obtain ⟨b, o, rfl, hbB, hat⟩ := hrs'.out k r hrk
          obtain ⟨b2, o2, rfl, hbB2, hat2⟩ := hss'.out k s hsk
          have hck' : Hid (rs[k]? = some r) := hrk
          have hdk' : Hid (ss[k]? = some s) := hsk
          clear hrk hsk
          have hsz := hbr.size
          obtain ⟨cv, c0, c1, w0, hcon⟩ := hat.later hbr hB hbB
          obtain ⟨dv, d0, d1, w1, hdon⟩ := hat2.later hbr hB hbB2
          obtain ⟨a3, n3, cap3, rfl⟩ := hcon.shape
          obtain ⟨a4, n4, cap4, rfl⟩ := hdon.shape
          have hcon' : Hid (CondsAt B wr (.slice a3 n3 cap3) r.1) := hcon
          have hdon' : Hid (CondsAt B wr (.slice a4 n4 cap4) s.1) := hdon
          clear hat hat2 hcon hdon
          obtain ⟨cs, vr⟩ := r
          obtain ⟨ds, vs⟩ := s
          simp only [] at c1 d1 hcon' hdon'
          go_wp2
          have hC0 : (wr.alloc (.cells #[.slice a3 n3 cap3, .int .i64 vr] 79)).cell? ⟨wr.heap.size, 0, none⟩ = some (.slice a3 n3 cap3) := by simp [go_sem]
          have hC1 : (wr.alloc (.cells #[.slice a3 n3 cap3, .int .i64 vr] 79)).cell? ⟨wr.heap.size, 1, none⟩ = some (.int .i64 vr) := by simp [go_sem]
          have hbW : Below wr.heap.size wr (wr.alloc (.cells #[.slice a3 n3 cap3, .int .i64 vr] 79)) := (Below.refl _ _).alloc (Nat.le_refl _) _
          have hz : (wr.alloc (.cells #[.slice a3 n3 cap3, .int .i64 vr] 79)).heap.size = wr.heap.size + 1 := by simp
          generalize wr.alloc (.cells #[.slice a3 n3 cap3, .int .i64 vr] 79) = W at *
          have hne := Later.ne W
          have f0 : ∀ x : Later W, x.1.cell? ⟨wr.heap.size, 0, none⟩ = some (.slice a3 n3 cap3) := fun x => x.cell hC0 (by omega)
          have f1 : ∀ x : Later W, x.1.cell? ⟨wr.heap.size, 1, none⟩ = some (.int .i64 vr) := fun x => x.cell hC1 (by omega)
          have f2 : ∀ x : Later W, x.1.cell? ⟨w.heap.size + 1, 0, none⟩ = some (.slice (some ⟨b2, o2, none⟩) n cap2) := fun x => x.cell ((hbW.cell (p := ⟨w.heap.size + 1, 0, none⟩) hq1).trans Hq.out) (by omega)
          have f3 : ∀ x : Later W, x.1.cell? ⟨b2, o2 + k * 2, none⟩ = some (.slice a4 n4 cap4) := fun x => x.cell ((hbW.cell (p := ⟨b2, o2 + k * 2, none⟩) (by show b2 < _; omega)).trans d0) (by omega)
          have f4 : ∀ x : Later W, x.1.cell? ⟨b2, o2 + k * 2 + 1, none⟩ = some (.int .i64 vs) := fun x => x.cell ((hbW.cell (p := ⟨b2, o2 + k * 2 + 1, none⟩) (by show b2 < _; omega)).trans d1) (by omega)
          have hcall : Hid (∀ x : Later W, Calls Tryz.prog 115 #[.slice a3 n3 cap3, .slice a4 n4 cap4] x.1 fun e w' => e = .returned (.bool (decide (cs = ds))) ∧ Below x.1.heap.size x.1 w') := fun x => equalConds_any B _ _ cs ds _ (hcon'.out.later (Below.thenOf hbW x.2 hbW.size) (by omega)) (hdon'.out.later (Below.thenOf hbW x.2 hbW.size) (by omega)) (by have := x.2.size; omega)
          have hstep : Hid (∀ wx, Below W.heap.size W wx → Below w.heap.size w wx ∧ wx.cell? ⟨w.heap.size + 1, 0, none⟩ = some (.slice (some ⟨b2, o2, none⟩) n cap2) ∧ w.heap.size + 1 < wx.heap.size) := fun wx hx => ⟨Below.thenOf (Below.thenOf hbr hbW hsz) hx (by omega), f2 ⟨wx, hx⟩, by have := hx.size; omega⟩
          by_cases hvv : vr = vs
          · subst hvv
            have hd2 : (vr != vr) = false := by simp
            generalize hq : decide (cs = ds) = q at *
            have hq' : Hid (decide (cs = ds) = q) := hq
            clear hq
            refine wp_region_later (by kernel_rfl) (by kernel_rfl) ?_
            repeat (go_big_quiet_step (first | (go_at_call 115; exact Calls.later (hcall.out _))))
            refine wpQuiet_nil ?_
            rintro wx ⟨⟨_, hx⟩, rfl⟩
            obtain ⟨g1, g2, g3⟩ := hstep.out wx hx
            clear f0 f1 f2 f3 f4 hne
            go_wp2
            · have hne : ¬ cs = ds := by have h := hq'.out; rw [(by first | assumption | simpa using (by assumption : (!q) = true) : q = false)] at h; simpa using h
              go_ret
              refine ⟨?_, g1⟩
              have : rs ≠ ss := by
                intro h
                have h1 := hck'.out
                rw [h, hdk'.out] at h1
                simp at h1
                exact hne h1.symm
              rw [E.out]
              simp [this]
            · have heq : cs = ds := by have h := hq'.out; rw [(by first | assumption | simpa using (by assumption : (!q) = false) : q = true)] at h; simpa using h
              refine ⟨⟨k + 1, by omega, by go_num, fun i hi => ?_, g1, g2, g3⟩, by simp [intOf]; omega⟩
              by_cases hik : i = k
              · subst hik; rw [hck'.out, hdk'.out, heq]
              · exact H.out i (by omega)
          · have hd2 : (vr != vs) = true := by simpa using hvv
            refine wp_region_later (by kernel_rfl) (by kernel_rfl) ?_
            repeat (go_big_quiet_step (first | (go_at_call 115; exact Calls.later (hcall.out _))))
            refine wpQuiet_nil ?_
            rintro wx ⟨⟨_, hx⟩, rfl⟩
            obtain ⟨g1, g2, g3⟩ := hstep.out wx hx
            clear f0 f1 f2 f3 f4 hne
            go_wp2
            go_ret
            refine ⟨?_, g1⟩
            have : rs ≠ ss := by
              intro h
              have h1 := hck'.out
              rw [h, hdk'.out] at h1
              simp at h1
              exact hvv h1.2.symm
            rw [E.out]
            simp [this]
        · go_wp2
          go_ret
          refine ⟨?_, hbr⟩
          have : rs = ss := by
            refine List.ext_getElem? fun i => ?_
            by_cases hi : i < k
            · exact H.out i hi
            · rw [List.getElem?_eq_none (by omega), List.getElem?_eq_none (by omega)]
          simp [this]
    · have hni : ((rs.length : Int) != (ss.length : Int)) = true := by simp; omega
      have hf : Hid (decide (rs = ss) = false) := by unfold Hid; simp; intro h; rw [h] at hne; exact hne rfl
      generalize rs.length = n at *
      generalize ss.length = m at *
      go_enter Tryz.func66, Tryz.ntmps66
      go_wp2
      go_ret
      exact ⟨by rw [hf.out]; rfl, hbP _ _⟩
  · have E : Hid (decide (((rs, d1) : PolT) = (ss, d2)) = false) := by unfold Hid; simp; intro _; exact hv
    have hv' : (d1 != d2) = true := by simpa using hv
    go_enter Tryz.func66, Tryz.ntmps66
    go_wp2
    go_ret
    exact ⟨by first | rfl | (rw [E.out]; rfl), hbP _ _⟩

end Go.Proofs.YtdfcfinjoghipacGreatDoor
end
section
/- A region that draws its order, whose callees may make memory, and whose last operation, which may write, waits for all: one walk of the text's order serves every order. -/
set_option linter.all false
namespace Go.Proofs.YtdfcfinjoghipacGreatDoor
open Go.RowKit

section
variable {P : Program} {ops : Array Oper} {md : Region.Mode} {C : World → Prop} {n : Nat} {B : Act → Prop} {on : Oper}

def wpAnyL (P : Program) (md : Region.Mode) (ops : Array Oper) (C : World → Prop) (n : Nat) (B : Act → Prop) : Nat → Array Bool → Act → Prop
  | 0, listed, a => Region.ready md ops listed = [n] ∧ Region.ready md ops (listed.setIfInBounds n true) = [] ∧ B a
  | fuel + 1, listed, a => Region.ready md ops listed ≠ [] ∧ ∀ i ∈ Region.ready md ops listed, qOp P ops C i (wpAnyL P md ops C n B fuel (listed.setIfInBounds i true)) a

theorem wpAny_of_L {Q : Exit → Act → World → Prop} (hB : ∀ a w, C w → B a → wpOp P ops Q n (fun a' w' => Q .normal a' w') a w) :
    ∀ (fuel : Nat) (listed : Array Bool) (a : Act) (w : World), C w → wpAnyL P md ops C n B fuel listed a → wpAny P md ops Q (fuel + 1) listed a w
  | 0, listed, a, w, hw, h => by
    obtain ⟨h1, h2, h3⟩ := h
    refine ⟨fun h0 => (by rw [h1] at h0; cases h0), fun i hi => ?_⟩
    rw [h1, List.mem_singleton] at hi
    subst hi
    have := hB a w hw h3
    unfold wpOp at this ⊢
    split at this
    · rename_i ho; simp only [ho]; exact ⟨h2, this⟩
    · rename_i o ho
      simp only [ho]
      split
      · rename_i hwa
        simp only [hwa, if_true] at this
        exact this.imp (Oper.wp_mono fun a' w' hq => ⟨h2, hq⟩) (fun h => h)
      · rename_i hwa
        simp only [hwa] at this
        exact ⟨h2, this⟩
  | fuel + 1, listed, a, w, hw, h =>
    ⟨fun h0 => absurd h0 h.1, fun i hi => wpOp_of_qOp hw (fun a' w' hw' hk => wpAny_of_L hB fuel _ a' w' hw' hk) (h.2 i hi)⟩

theorem wpAnyL_first (hn : ops[n]? = some on) {i : Nat} {oi : Oper} {v : Value} (hi : ops[i]? = some oi) (hni : waitsFor md on i) (hsel : ∀ (j : Nat) (o : Oper) cs b, ops[j]? = some o → o.op ≠ .select cs b) :
    ∀ (fuel : Nat) (listed : Array Bool) (a : Act),
      (∀ j oj, ops[j]? = some oj → j ≠ i → listed.getD j true = false → (∀ e ∈ oj.after, Region.binds md e = true → e.on ≠ i) → oi.apart ops oj = true) →
      i ∈ Region.ready md ops listed → YieldsIn P ops C oi v a →
      wpAnyL P md ops C n B fuel (listed.setIfInBounds i true) (a.put oi.dst v) → wpAnyL P md ops C n B (fuel + 1) listed a := by
  intro fuel
  induction fuel with
  | zero =>
    intro listed a _ hr hy H
    refine ⟨fun h => (by rw [h] at hr; cases hr), fun j hj => ?_⟩
    by_cases hji : j = i
    · subst hji; exact hy.qOp hi H
    · have := ready_mono hj hji
      rw [H.1, List.mem_singleton] at this
      subst this
      exact (not_ready_of_waits hn hni hr hj).elim
  | succ fuel ih =>
    intro listed a hfree hr hy H
    refine ⟨fun h => (by rw [h] at hr; cases hr), fun j hj => ?_⟩
    by_cases hji : j = i
    · subst hji; exact hy.qOp hi H
    · have h1 := H.2 j (ready_mono hj hji)
      obtain ⟨hjun, oj, hoj, hall⟩ := mem_ready.1 hj
      have hnot : ∀ e ∈ oj.after, Region.binds md e = true → e.on ≠ i := fun e he hb heq => not_ready_of_waits hoj ⟨e, he, hb, heq⟩ hr hj
      have h2 := qOp_put hoj (hfree j oj hoj hji hjun hnot) (fun cs b => hsel i oi cs b hi) (fun cs b => hsel j oj cs b hoj) hy h1
      have hfree' : ∀ k ok, ops[k]? = some ok → k ≠ i → (listed.setIfInBounds j true).getD k true = false →
          (∀ e ∈ ok.after, Region.binds md e = true → e.on ≠ i) → oi.apart ops ok = true := fun k ok hk hki hun hno => by
        refine hfree k ok hk hki ?_ hno
        by_cases hjk : j = k
        · subst hjk; exact hjun
        · rw [getD_set_ne true hjk] at hun; exact hun
      refine qOp_mono (fun a' h3 => ih (listed.setIfInBounds j true) a' hfree' (ready_mono hr (Ne.symm hji)) h3.1 ?_) h2
      rw [Array.setIfInBounds_comm _ _ hji]
      exact h3.2

theorem wpAnyL_lex (hn : ops[n]? = some on) (hsz : n = ops.size - 1) (hs : Region.noSelect ops = true) : ∀ (l : List Oper) (k : Nat) (listed : Array Bool) (a : Act), (∀ j, j < l.length → l[j]? = ops[k + j]?) → k + l.length = n →
    lexT md ops (fun _ => false) l.length k listed = true → wpQuiet P ops C B l a → wpAnyL P md ops C n B l.length listed a
  | [], k, listed, a, _, hk, hB, h => by
    simp only [List.length_nil, lexT, Bool.and_eq_true, beq_iff_eq, List.isEmpty_iff] at hB
    simp at hk
    subst hk
    exact ⟨hB.1, hB.2, h⟩
  | o :: l, k, listed, a, hl, hk, hB, h => by
    have h0 : ops[k]? = some o := by simpa using (hl 0 (by simp)).symm
    simp only [List.length_cons, lexT, Bool.and_eq_true] at hB
    obtain ⟨⟨⟨⟨hr, hf⟩, hwb⟩, hlast⟩, hB'⟩ := hB
    rw [← hsz, hn] at hlast
    have hni : waitsFor md on k := waitsB_spec hlast
    have hl' : ∀ j, j < l.length → l[j]? = ops[k + 1 + j]? := fun j hj => by have := hl (j + 1) (by simp; omega); simpa [Nat.add_assoc, Nat.add_comm 1 j] using this
    have hst : qOp P ops C k (wpQuiet P ops C B l) a := by unfold qOp; simp only [h0]; exact h
    obtain ⟨v, hy, hK⟩ := yieldsIn_of_qOp h0 hst
    exact wpAnyL_first hn h0 hni (Region.noSelect_spec hs) l.length listed a (Region.free_spec h0 hf) (by simpa using hr) hy
      (wpAnyL_lex hn hsz hs l (k + 1) _ _ hl' (by simp at hk; omega) hB' hK)

theorem wp_region_quiet_last {id : Nat} {Q : Exit → Act → World → Prop} {a : Act} {w : World} {full : List Oper} (l : List Oper) (last : Oper) (hf : full = l ++ [last]) (C : World → Prop) (hm : P.follows .mixedOrders = true) (hB : stagedB full.toArray (fun _ => false) = true) (hC : C w.drew)
    (h : wpQuiet P full.toArray C (fun a' => ∀ w', C w' → wpList P full.toArray Q [last] a' w') l a) : (Code.region id full.toArray true).wp P Q a w := by
  subst hf
  simp only [stagedB, Bool.and_eq_true] at hB
  have hsz : (l ++ [last]).toArray.size - 1 = l.length := by simp
  have hn : (l ++ [last]).toArray[l.length]? = some last := by simp
  rw [hsz] at hB
  have h1 := wpAnyL_lex (n := l.length) (md := .any) hn hsz.symm hB.1 l 0 (Array.replicate (l ++ [last]).toArray.size false) a (fun j hj => by simp [List.getElem?_append_left hj]) (by simp) hB.2 h
  refine wp_region_any hm ?_
  have h2 := wpAny_of_L (Q := Q) (fun a w hw hb => ?_) l.length _ a { w with drawn := w.drawn + 1 } hC h1
  · simpa using h2
  · have := hb w hw
    unfold wpList at this
    unfold wpOp
    rw [hn]
    simp only []
    split at this
    · rename_i hwa; simp only [hwa, if_true]; exact this.imp (Oper.wp_mono fun a' w' hq => by simpa [wpList] using hq) (fun h => h)
    · rename_i hwa; simp only [hwa]; simpa [wpList] using this

/-- The class of all later worlds; the last operation in whatever later world. -/
theorem wp_region_later_last {id : Nat} {Q : Exit → Act → World → Prop} {a : Act} {w : World} {full : List Oper} (l : List Oper) (last : Oper) (hf : full = l ++ [last]) (hm : P.follows .mixedOrders = true) (hB : stagedB full.toArray (fun _ => false) = true)
    (h : wpQuiet P full.toArray (fun w' => ∃ x : Later w, w' = x.1) (fun a' => ∀ w', (∃ x : Later w, w' = x.1) → wpList P full.toArray Q [last] a' w') l a) : (Code.region id full.toArray true).wp P Q a w :=
  wp_region_quiet_last l last hf _ hm hB ⟨⟨w.drew, (Below.refl _ _).drew⟩, rfl⟩ h
end
end Go.Proofs.YtdfcfinjoghipacGreatDoor
end
