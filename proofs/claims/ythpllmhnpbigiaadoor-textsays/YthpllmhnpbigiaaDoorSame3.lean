/- What the counterpart's SamePolicy says of two policies: whether they are alike. -/
import Derived.Test.YthpllmhnpbigiaaDoorSame2
set_option linter.all false
namespace Go.Proofs.YthpllmhnpbigiaaDoor
open Go.RowKit Go.Maps

set_option maxHeartbeats 2000000 in
theorem samePolicy_any (B : Nat) (pv qv : Value) (p q : PolT) (w : World) (hp : PolAt B w pv p) (hq : PolAt B w qv q) (hB : B ≤ w.heap.size) :
    Calls Tryd.prog 14 #[pv, qv] w fun e w' => e = .returned (.bool (decide (p = q))) ∧ Below w.heap.size w w' := by
  obtain ⟨rs, d1⟩ := p
  obtain ⟨ss, d2⟩ := q
  obtain ⟨rv, rfl, _, a, cap, rfl, hlc, hcm, hrs⟩ := hp
  obtain ⟨sv, rfl, _, a2, cap2, rfl, hlc2, hcm2, hss⟩ := hq
  simp only [] at hrs hss hlc hlc2
  have hrs' : Hid (∀ (i : Nat) (r : RuleT), rs[i]? = some r → ∃ b o, a = some ⟨b, o, none⟩ ∧ b < B ∧ RuleAt B w b (o + i * 2) r) := hrs
  have hss' : Hid (∀ (i : Nat) (r : RuleT), ss[i]? = some r → ∃ b o, a2 = some ⟨b, o, none⟩ ∧ b < B ∧ RuleAt B w b (o + i * 2) r) := hss
  clear hrs hss
  have hbP : ∀ X Y, Below w.heap.size w ((w.alloc X).alloc Y) := fun X Y => ((Below.refl _ _).alloc (Nat.le_refl _) _).alloc (by simp) _
  simp only []
  by_cases hv : d1 = d2
  · subst hv
    have E : Hid (decide (((rs, d1) : PolT) = (ss, d1)) = decide (rs = ss)) := by unfold Hid; simp
    have hd : (d1 != d1) = false := by simp
    by_cases hne : rs.length = ss.length
    · generalize hn : rs.length = n at *
      have hm : ss.length = n := hne.symm
      clear hne
      rw [hm] at hlc2
      simp only [hm]
      have hml : n ≤ 9223372036854775807 := by have := maxLen_eq; omega
      go_enter Tryd.func14, Tryd.ntmps14
      go_wp2
      go_loopw [24] (fun i wr => ∃ k : Nat, k ≤ n ∧ i = .int .i64 k ∧ Hid (∀ i, i < k → rs[i]? = ss[i]?) ∧ Below w.heap.size w wr ∧ Hid (wr.cell? ⟨w.heap.size + 1, 0, none⟩ = some (.slice a2 n cap2)) ∧ w.heap.size + 1 < wr.heap.size) (fun i _ => n - (intOf i).toNat)
      case atStart => exact ⟨0, by omega, rfl, fun i h => absurd h (by omega), hbP _ _, by unfold Hid; simp [go_sem], by simp⟩
      case round =>
        obtain ⟨k, hk, rfl, H, hbr, Hq, hq1⟩ := hrel
        have i0 : (0 : Int) ≤ (k : Int) := by omega
        by_cases hlt : k < n
        · have i1 : (k : Int) < (n : Int) := by omega
          obtain ⟨r, hrk⟩ : ∃ r, rs[k]? = some r := ⟨rs[k]'(by omega), by simp⟩
          obtain ⟨s, hsk⟩ : ∃ s, ss[k]? = some s := ⟨ss[k]'(by omega), by simp⟩
          obtain ⟨b, o, rfl, hbB, hat⟩ := hrs'.out k r hrk
          obtain ⟨b2, o2, rfl, hbB2, hat2⟩ := hss'.out k s hsk
          have hck' : Hid (rs[k]? = some r) := hrk
          have hdk' : Hid (ss[k]? = some s) := hsk
          clear hrk hsk
          have hsz := hbr.size
          obtain ⟨cv, c0, c1, w0, hcon⟩ := hat.later hbr hB hbB
          obtain ⟨dv, d0, d1, w1, hdon⟩ := hat2.later hbr hB hbB2
          obtain ⟨a3, n3, cap3, rfl⟩ := hcon.shape
          obtain ⟨a4, n4, cap4, rfl⟩ := hdon.shape
          have hcon' : Hid (CondsAt B wr (.slice a3 n3 cap3) r.1) := hcon
          have hdon' : Hid (CondsAt B wr (.slice a4 n4 cap4) s.1) := hdon
          clear hat hat2 hcon hdon
          obtain ⟨cs, vr⟩ := r
          obtain ⟨ds, vs⟩ := s
          simp only [] at c1 d1 hcon' hdon'
          go_wp2
          have hC0 : (wr.alloc (.cells #[.slice a3 n3 cap3, .int .i64 vr] 41)).cell? ⟨wr.heap.size, 0, none⟩ = some (.slice a3 n3 cap3) := by simp [go_sem]
          have hC1 : (wr.alloc (.cells #[.slice a3 n3 cap3, .int .i64 vr] 41)).cell? ⟨wr.heap.size, 1, none⟩ = some (.int .i64 vr) := by simp [go_sem]
          have hbW : Below wr.heap.size wr (wr.alloc (.cells #[.slice a3 n3 cap3, .int .i64 vr] 41)) := (Below.refl _ _).alloc (Nat.le_refl _) _
          have hz : (wr.alloc (.cells #[.slice a3 n3 cap3, .int .i64 vr] 41)).heap.size = wr.heap.size + 1 := by simp
          generalize wr.alloc (.cells #[.slice a3 n3 cap3, .int .i64 vr] 41) = W at *
          have hne := Later.ne W
          have f0 : ∀ x : Later W, x.1.cell? ⟨wr.heap.size, 0, none⟩ = some (.slice a3 n3 cap3) := fun x => x.cell hC0 (by omega)
          have f1 : ∀ x : Later W, x.1.cell? ⟨wr.heap.size, 1, none⟩ = some (.int .i64 vr) := fun x => x.cell hC1 (by omega)
          have f2 : ∀ x : Later W, x.1.cell? ⟨w.heap.size + 1, 0, none⟩ = some (.slice (some ⟨b2, o2, none⟩) n cap2) := fun x => x.cell ((hbW.cell (p := ⟨w.heap.size + 1, 0, none⟩) hq1).trans Hq.out) (by omega)
          have f3 : ∀ x : Later W, x.1.cell? ⟨b2, o2 + k * 2, none⟩ = some (.slice a4 n4 cap4) := fun x => x.cell ((hbW.cell (p := ⟨b2, o2 + k * 2, none⟩) (by show b2 < _; omega)).trans d0) (by omega)
          have f4 : ∀ x : Later W, x.1.cell? ⟨b2, o2 + k * 2 + 1, none⟩ = some (.int .i64 vs) := fun x => x.cell ((hbW.cell (p := ⟨b2, o2 + k * 2 + 1, none⟩) (by show b2 < _; omega)).trans d1) (by omega)
          have hcall : Hid (∀ x : Later W, Calls Tryd.prog 45 #[.slice a3 n3 cap3, .slice a4 n4 cap4] x.1 fun e w' => e = .returned (.bool (decide (cs = ds))) ∧ Below x.1.heap.size x.1 w') := fun x => equalConds_any B _ _ cs ds _ (hcon'.out.later (Below.thenOf hbW x.2 hbW.size) (by omega)) (hdon'.out.later (Below.thenOf hbW x.2 hbW.size) (by omega)) (by have := x.2.size; omega)
          have hstep : Hid (∀ wx, Below W.heap.size W wx → Below w.heap.size w wx ∧ wx.cell? ⟨w.heap.size + 1, 0, none⟩ = some (.slice (some ⟨b2, o2, none⟩) n cap2) ∧ w.heap.size + 1 < wx.heap.size) := fun wx hx => ⟨Below.thenOf (Below.thenOf hbr hbW hsz) hx (by omega), f2 ⟨wx, hx⟩, by have := hx.size; omega⟩
          by_cases hvv : vr = vs
          · subst hvv
            have hd2 : (vr != vr) = false := by simp
            generalize hq : decide (cs = ds) = q at *
            have hq' : Hid (decide (cs = ds) = q) := hq
            clear hq
            refine wp_region_later (by kernel_rfl) (by kernel_rfl) ?_
            repeat (go_big_quiet_step (first | (go_at_call 45; exact Calls.later (hcall.out _))))
            refine wpQuiet_nil ?_
            rintro wx ⟨⟨_, hx⟩, rfl⟩
            obtain ⟨g1, g2, g3⟩ := hstep.out wx hx
            clear f0 f1 f2 f3 f4 hne
            go_wp2
            · have hne : ¬ cs = ds := by have h := hq'.out; rw [(by first | assumption | simpa using (by assumption : (!q) = true) : q = false)] at h; simpa using h
              go_ret
              refine ⟨?_, g1⟩
              have : rs ≠ ss := by
                intro h
                have h1 := hck'.out
                rw [h, hdk'.out] at h1
                simp at h1
                exact hne h1.symm
              rw [E.out]
              simp [this]
            · have heq : cs = ds := by have h := hq'.out; rw [(by first | assumption | simpa using (by assumption : (!q) = false) : q = true)] at h; simpa using h
              refine ⟨⟨k + 1, by omega, by go_num, fun i hi => ?_, g1, g2, g3⟩, by simp [intOf]; omega⟩
              by_cases hik : i = k
              · subst hik; rw [hck'.out, hdk'.out, heq]
              · exact H.out i (by omega)
          · have hd2 : (vr != vs) = true := by simpa using hvv
            refine wp_region_later (by kernel_rfl) (by kernel_rfl) ?_
            repeat (go_big_quiet_step (first | (go_at_call 45; exact Calls.later (hcall.out _))))
            refine wpQuiet_nil ?_
            rintro wx ⟨⟨_, hx⟩, rfl⟩
            obtain ⟨g1, g2, g3⟩ := hstep.out wx hx
            clear f0 f1 f2 f3 f4 hne
            go_wp2
            go_ret
            refine ⟨?_, g1⟩
            have : rs ≠ ss := by
              intro h
              have h1 := hck'.out
              rw [h, hdk'.out] at h1
              simp at h1
              exact hvv h1.2.symm
            rw [E.out]
            simp [this]
        · go_wp2
          go_ret
          refine ⟨?_, hbr⟩
          have : rs = ss := by
            refine List.ext_getElem? fun i => ?_
            by_cases hi : i < k
            · exact H.out i hi
            · rw [List.getElem?_eq_none (by omega), List.getElem?_eq_none (by omega)]
          simp [this]
    · have hni : ((rs.length : Int) != (ss.length : Int)) = true := by simp; omega
      have hf : Hid (decide (rs = ss) = false) := by unfold Hid; simp; intro h; rw [h] at hne; exact hne rfl
      generalize rs.length = n at *
      generalize ss.length = m at *
      go_enter Tryd.func14, Tryd.ntmps14
      go_wp2
      go_ret
      exact ⟨by rw [hf.out]; rfl, hbP _ _⟩
  · have E : Hid (decide (((rs, d1) : PolT) = (ss, d2)) = false) := by unfold Hid; simp; intro _; exact hv
    have hv' : (d1 != d2) = true := by simpa using hv
    go_enter Tryd.func14, Tryd.ntmps14
    go_wp2
    go_ret
    exact ⟨by first | rfl | (rw [E.out]; rfl), hbP _ _⟩

end Go.Proofs.YthpllmhnpbigiaaDoor
