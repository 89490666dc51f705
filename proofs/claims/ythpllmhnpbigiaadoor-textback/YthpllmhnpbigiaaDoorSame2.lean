/- What Same and its counterpart say of two policies: whether they are alike. -/
import Derived.Test.YthpllmhnpbigiaaDoorSame
set_option linter.all false
namespace Go.Proofs.YthpllmhnpbigiaaDoor
open Go.RowKit Go.Maps

theorem CondsAt.shape {B : Nat} {w : World} {v : Value} {cs : List CondT} (h : CondsAt B w v cs) : ∃ a n cap, v = .slice a n cap := by
  obtain ⟨a, cap, e, _⟩ := h
  exact ⟨a, _, cap, e⟩
theorem RulesAt.shape {B : Nat} {w : World} {v : Value} {rs : List RuleT} (h : RulesAt B w v rs) : ∃ a cap, v = .slice a rs.length cap := by
  obtain ⟨a, cap, e, _⟩ := h
  exact ⟨a, cap, e⟩

set_option maxHeartbeats 1000000 in
theorem sameRule_any (B : Nat) (cv dv : Value) (r s : RuleT) (w : World) (hc : CondsAt B w cv r.1) (hd : CondsAt B w dv s.1) (hB : B ≤ w.heap.size) :
    Calls Tryd.prog 44 #[.agg #[cv, .int .i64 r.2], .agg #[dv, .int .i64 s.2]] w fun e w' => e = .returned (.bool (decide (r = s))) ∧ Below w.heap.size w w' := by
  obtain ⟨cs, v1⟩ := r
  obtain ⟨ds, v2⟩ := s
  have hbP : ∀ X Y, Below w.heap.size w ((w.alloc X).alloc Y) := fun X Y => ((Below.refl _ _).alloc (Nat.le_refl _) _).alloc (by simp) _
  have hcall : Hid (∀ X Y, Calls Tryd.prog 45 #[cv, dv] ((w.alloc X).alloc Y) fun e w' => e = .returned (.bool (decide (cs = ds))) ∧ Below ((w.alloc X).alloc Y).heap.size ((w.alloc X).alloc Y) w') := fun X Y => equalConds_any B cv dv cs ds _ (hc.later (hbP X Y) hB) (hd.later (hbP X Y) hB) (by simp; omega)
  obtain ⟨a, n, cap, rfl⟩ := hc.shape
  obtain ⟨a2, n2, cap2, rfl⟩ := hd.shape
  clear hc hd
  simp only []
  by_cases hv : v1 = v2
  · subst hv
    have E : Hid (decide (((cs, v1) : RuleT) = (ds, v1)) = decide (cs = ds)) := by unfold Hid; simp
    generalize decide (cs = ds) = q at *
    go_enter Tryd.func44, Tryd.ntmps44
    go_wp2_with (first | (go_at_call 45; refine (hcall.out _ _).mono ?_; rintro e w' ⟨rfl, hb2⟩))
    go_ret
    exact ⟨by rw [E.out]; rfl, Below.thenOf (hbP _ _) hb2 (by simp; omega)⟩
  · have E : Hid (decide (((cs, v1) : RuleT) = (ds, v2)) = false) := by unfold Hid; simp; intro _; exact hv
    have hv' : (v1 == v2) = false := by simpa using hv
    go_enter Tryd.func44, Tryd.ntmps44
    go_wp2
    go_ret
    exact ⟨by first | rfl | (rw [E.out]; rfl), hbP _ _⟩

set_option maxHeartbeats 1000000 in
theorem equalRules_any (B : Nat) (rv sv : Value) (rs ss : List RuleT) (w : World) (hr : RulesAt B w rv rs) (hs : RulesAt B w sv ss) (hB : B ≤ w.heap.size) :
    Calls Tryd.prog 43 #[rv, sv, .func (.func 44) #[] #[]] w fun e w' => e = .returned (.bool (decide (rs = ss))) ∧ Below w.heap.size w w' := by
  obtain ⟨a, cap, rfl, hlc, hcm, hrs⟩ := hr
  obtain ⟨a2, cap2, rfl, hlc2, hcm2, hss⟩ := hs
  have hrs' : Hid (∀ (i : Nat) (r : RuleT), rs[i]? = some r → ∃ b o, a = some ⟨b, o, none⟩ ∧ b < B ∧ RuleAt B w b (o + i * 2) r) := hrs
  have hss' : Hid (∀ (i : Nat) (r : RuleT), ss[i]? = some r → ∃ b o, a2 = some ⟨b, o, none⟩ ∧ b < B ∧ RuleAt B w b (o + i * 2) r) := hss
  clear hrs hss
  by_cases hne : rs.length = ss.length
  · generalize hn : rs.length = n at *
    have hm : ss.length = n := hne.symm
    clear hne
    rw [hm] at hlc2
    simp only [hm]
    have hml : n ≤ 9223372036854775807 := by have := maxLen_eq; omega
    go_enter Tryd.func43, Tryd.ntmps43
    go_wp2
    go_loopw [17] (fun i wr => ∃ k : Nat, k ≤ n ∧ i = .int .i64 k ∧ Hid (∀ i, i < k → rs[i]? = ss[i]?) ∧ Below w.heap.size w wr) (fun i _ => n - (intOf i).toNat)
    case atStart => exact ⟨0, by omega, rfl, fun i h => absurd h (by omega), Below.refl _ _⟩
    case round =>
      obtain ⟨k, hk, rfl, H, hbr⟩ := hrel
      have i0 : (0 : Int) ≤ (k : Int) := by omega
      by_cases hlt : k < n
      · have i1 : (k : Int) < (n : Int) := by omega
        obtain ⟨r, hrk⟩ : ∃ r, rs[k]? = some r := ⟨rs[k]'(by omega), by simp⟩
        obtain ⟨s, hsk⟩ : ∃ s, ss[k]? = some s := ⟨ss[k]'(by omega), by simp⟩
        obtain ⟨b, o, rfl, hbB, hat⟩ := hrs'.out k r hrk
        obtain ⟨b2, o2, rfl, hbB2, hat2⟩ := hss'.out k s hsk
        have hck' : Hid (rs[k]? = some r) := hrk
        have hdk' : Hid (ss[k]? = some s) := hsk
        clear hrk hsk
        have hsz := hbr.size
        obtain ⟨cv, c0, c1, w0, hcon⟩ := hat.later hbr hB hbB
        obtain ⟨dv, d0, d1, w1, hdon⟩ := hat2.later hbr hB hbB2
        have hbP : ∀ X Y, Below wr.heap.size wr ((wr.alloc X).alloc Y) := fun X Y => ((Below.refl _ _).alloc (Nat.le_refl _) _).alloc (by simp) _
        have hcall : Hid (∀ X Y, Calls Tryd.prog 44 #[.agg #[cv, .int .i64 r.2], .agg #[dv, .int .i64 s.2]] ((wr.alloc X).alloc Y) fun e w' => e = .returned (.bool (decide (r = s))) ∧ Below ((wr.alloc X).alloc Y).heap.size ((wr.alloc X).alloc Y) w') := fun X Y => sameRule_any B cv dv r s _ (hcon.later (hbP X Y) (by omega)) (hdon.later (hbP X Y) (by omega)) (by simp; omega)
        obtain ⟨a3, n3, cap3, rfl⟩ := hcon.shape
        obtain ⟨a4, n4, cap4, rfl⟩ := hdon.shape
        clear hat hat2 hcon hdon
        generalize r.2 = rr2 at *
        generalize s.2 = ss2 at *
        have ha : ∀ X, (wr.alloc X).cell? ⟨b2, o2 + k * 2, none⟩ = some (.slice a4 n4 cap4) := fun X => (((Below.refl wr.heap.size wr).alloc (Nat.le_refl _) X).cell (p := ⟨b2, o2 + k * 2, none⟩) (by show b2 < wr.heap.size; omega)).trans d0
        have ha' : ∀ X, (wr.alloc X).cell? ⟨b2, o2 + k * 2 + 1, none⟩ = some (.int .i64 ss2) := fun X => (((Below.refl wr.heap.size wr).alloc (Nat.le_refl _) X).cell (p := ⟨b2, o2 + k * 2 + 1, none⟩) (by show b2 < wr.heap.size; omega)).trans d1
        generalize hq : decide (r = s) = q at *
        have hq' : Hid (decide (r = s) = q) := hq
        clear hq
        go_wp2_with (first | (go_at_call 44; refine (hcall.out _ _).mono ?_; rintro e w' ⟨rfl, hb2⟩))
        all_goals have hb3 : Below w.heap.size w w' := Below.thenOf (Below.thenOf hbr (hbP _ _) hsz) hb2 (by simp; omega)
        · go_ret
          refine ⟨?_, hb3⟩
          have hne : r ≠ s := by have h := hq'.out; rw [(by simpa using (by assumption : (!q) = true) : q = false)] at h; simpa using h
          have : rs ≠ ss := by
            intro h
            have h1 := hck'.out
            rw [h, hdk'.out] at h1
            exact hne (Option.some.inj h1).symm
          simp [this]
        · have heq : r = s := by have h := hq'.out; rw [(by simpa using (by assumption : (!q) = false) : q = true)] at h; simpa using h
          refine ⟨⟨k + 1, by omega, by go_num, fun i hi => ?_, hb3⟩, by simp [intOf]; omega⟩
          by_cases hik : i = k
          · subst hik; rw [hck'.out, hdk'.out, heq]
          · exact H.out i (by omega)
      · go_wp2
        go_ret
        refine ⟨?_, hbr⟩
        have : rs = ss := by
          refine List.ext_getElem? fun i => ?_
          by_cases hi : i < k
          · exact H.out i hi
          · rw [List.getElem?_eq_none (by omega), List.getElem?_eq_none (by omega)]
        simp [this]
  · have hni : ((rs.length : Int) != (ss.length : Int)) = true := by simp; omega
    have hf : Hid (decide (rs = ss) = false) := by unfold Hid; simp; intro h; rw [h] at hne; exact hne rfl
    generalize rs.length = n at *
    generalize ss.length = m at *
    go_enter Tryd.func43, Tryd.ntmps43
    go_wp2
    go_ret
    exact ⟨by rw [hf.out]; rfl, Below.refl _ _⟩

set_option maxHeartbeats 1000000 in
theorem same_any (B : Nat) (pv qv : Value) (p q : PolT) (w : World) (hp : PolAt B w pv p) (hq : PolAt B w qv q) (hB : B ≤ w.heap.size) :
    Calls Tryd.prog 13 #[pv, qv] w fun e w' => e = .returned (.bool (decide (p = q))) ∧ Below w.heap.size w w' := by
  obtain ⟨rs, d1⟩ := p
  obtain ⟨ss, d2⟩ := q
  obtain ⟨rv, rfl, _, hr⟩ := hp
  obtain ⟨sv, rfl, _, hs⟩ := hq
  have hbP : ∀ X Y, Below w.heap.size w ((w.alloc X).alloc Y) := fun X Y => ((Below.refl _ _).alloc (Nat.le_refl _) _).alloc (by simp) _
  have hcall : Hid (∀ X Y, Calls Tryd.prog 43 #[rv, sv, .func (.func 44) #[] #[]] ((w.alloc X).alloc Y) fun e w' => e = .returned (.bool (decide (rs = ss))) ∧ Below ((w.alloc X).alloc Y).heap.size ((w.alloc X).alloc Y) w') := fun X Y => equalRules_any B rv sv rs ss _ (hr.later (hbP X Y) hB) (hs.later (hbP X Y) hB) (by simp; omega)
  obtain ⟨a, cap, rfl⟩ := hr.shape
  obtain ⟨a2, cap2, rfl⟩ := hs.shape
  clear hr hs
  simp only []
  by_cases hv : d1 = d2
  · subst hv
    have E : Hid (decide (((rs, d1) : PolT) = (ss, d1)) = decide (rs = ss)) := by unfold Hid; simp
    generalize decide (rs = ss) = q at *
    go_enter Tryd.func13, Tryd.ntmps13
    go_wp2_with (first | (go_at_call 43; refine (hcall.out _ _).mono ?_; rintro e w' ⟨rfl, hb2⟩))
    go_ret
    exact ⟨by rw [E.out]; rfl, Below.thenOf (hbP _ _) hb2 (by simp; omega)⟩
  · have E : Hid (decide (((rs, d1) : PolT) = (ss, d2)) = false) := by unfold Hid; simp; intro _; exact hv
    have hv' : (d1 == d2) = false := by simpa using hv
    go_enter Tryd.func13, Tryd.ntmps13
    go_wp2
    go_ret
    exact ⟨by first | rfl | (rw [E.out]; rfl), hbP _ _⟩

end Go.Proofs.YthpllmhnpbigiaaDoor
