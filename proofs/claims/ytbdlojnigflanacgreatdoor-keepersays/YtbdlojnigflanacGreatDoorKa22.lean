/- What the counterpart's Both says. -/
import Derived.Test.YtbdlojnigflanacGreatDoorKa21
import Derived.Test.YtbdlojnigflanacGreatDoorKa10
import Derived.Test.YtbdlojnigflanacGreatDoorKa14
import Derived.Laws.ResultCell
set_option linter.all false
set_option maxRecDepth 100000
namespace Go.Proofs.YtbdlojnigflanacGreatDoor
open Go.RowKit Go.Maps

theorem XsN.rules {L : Nat} {w : World} {v : Value} {xs : List Value} {rs : List RuleT} (ho : w.ownsRow L 95 2 v rs.length xs) (hx : XsN L w xs rs) : RulesAt w.heap.size w v rs := by
  obtain ⟨a, cap, rfl, h1, h2, h3⟩ := ownsRow_caps ho
  refine ⟨a, cap, rfl, h1, h2, fun i r hr => ?_⟩
  have hi : i < rs.length := (List.getElem?_eq_some_iff.1 hr).1
  obtain ⟨g, rfl, hg1, hg2⟩ := h3 (by omega)
  obtain ⟨cv, e0, e1, e2, e3, e4⟩ := hx.2.2 i r hr
  exact ⟨g, 0, rfl, hg2, cv, by rw [Nat.zero_add]; exact ownsRow_cell ho _ _ e0, by rw [Nat.zero_add]; exact ownsRow_cell ho _ _ e1, e2, condsAt_own e4 e3⟩
theorem KeepT.setOther {T T' : TypeId} {w : World} {b o : Nat} {cur : Array Value} {fr : Nat × Nat} {u : Value} (h : w.heap[b]? = some (.cells cur T' fr)) (hT : T' ≠ T) : KeepT T w (w.setCell ⟨b, o, none⟩ u) := fun k cur' fr' hk => (Below.heap_setCell _ _ _ _ (by
  show k ≠ b
  intro e
  subst e
  rw [h] at hk
  cases hk
  exact hT rfl)).trans hk
theorem zeroPol (B : Nat) (w : World) : PolAt B w (.agg #[.slice none 0 0, .int .i64 0]) ([], 0) := ⟨_, rfl, by unfold wf; decide, none, 0, rfl, Nat.le_refl _, by rw [maxLen_eq]; omega, fun i r h => by simp at h⟩

set_option maxHeartbeats 16000000 in
theorem both_any (B : Nat) (pv qv : Value) (p q : PolT) (exc : Bool) (w : World) (hp : PolAt B w pv p) (hq : PolAt B w qv q) (hB : B ≤ w.heap.size) :
    Calls Tryz.prog 190 #[pv, qv, .bool exc] w fun e w' => ∃ v, e = .returned (.tuple #[v, .int .i64 (meetE exc p q)]) ∧ PolAt w'.heap.size w' v (meetR exc p q) ∧ Below w.heap.size w w' := by
  obtain ⟨rs, d⟩ := p
  obtain ⟨ss, f⟩ := q
  obtain ⟨rv, e1, hd, hrs⟩ := hp
  obtain ⟨sv, e2, hf, hss⟩ := hq
  have HRS : Hid (∀ w', Below w.heap.size w w' → RulesAt B w' rv rs) := fun w' h => hrs.later h hB
  have HSS : Hid (∀ w', Below w.heap.size w w' → RulesAt B w' sv ss) := fun w' h => hss.later h hB
  obtain ⟨a, cap, e3, hlc, hcm, -⟩ := hrs
  obtain ⟨b, cap2, e4, hlc2, hcm2, -⟩ := hss
  simp only at e1 e2 e3 e4 hd hf
  subst e3 e4 e1 e2
  have hdH : Hid (wf d) := hd
  have hfH : Hid (wf f) := hf
  have hml := maxLen_eq
  clear hd hf
  obtain ⟨n1, hn1⟩ : ∃ n, n = rs.length := ⟨_, rfl⟩
  obtain ⟨n2, hn2⟩ : ∃ n, n = ss.length := ⟨_, rfl⟩
  have hN1 : Hid (rs.length = n1) := hn1.symm
  have hN2 : Hid (ss.length = n2) := hn2.symm
  rw [← hn1] at hlc HRS ⊢
  rw [← hn2] at hlc2 HSS ⊢
  clear hn1 hn2
  obtain ⟨W4, hW4⟩ : ∃ W4, W4 = (((w.alloc (.cells #[.slice a n1 cap, .int .i64 d] 24)).alloc (.cells #[.slice b n2 cap2, .int .i64 f] 24)).alloc (.cells #[.bool exc] 4)).alloc (.cells #[.slice none 0 0, .int .i64 0] 24) := ⟨_, rfl⟩
  have hs4 : W4.heap.size = w.heap.size + 1 + 1 + 1 + 1 := by rw [hW4]; simp
  have hb4 : Below w.heap.size w W4 := by rw [hW4]; exact ((((Below.refl _ _).alloc (Nat.le_refl _) _).alloc (by simp) _).alloc (by simp; omega) _).alloc (by simp; omega) _
  have g0 : W4.heap[w.heap.size]? = some (.cells #[.slice a n1 cap, .int .i64 d] 24 (0, 0)) := by
    rw [hW4]
    exact heap_kept' _ (heap_kept' _ (heap_kept' _ (heap_at _ _ rfl)))
  have g1 : W4.heap[w.heap.size + 1]? = some (.cells #[.slice b n2 cap2, .int .i64 f] 24 (0, 0)) := by
    rw [hW4]
    exact heap_kept' _ (heap_kept' _ (heap_at _ _ (by simp only [World.size_alloc])))
  have g2 : W4.heap[w.heap.size + 1 + 1]? = some (.cells #[.bool exc] 4 (0, 0)) := by
    rw [hW4]
    exact heap_kept' _ (heap_at _ _ (by simp only [World.size_alloc]))
  have g3 : W4.heap[w.heap.size + 1 + 1 + 1]? = some (.cells #[.slice none 0 0, .int .i64 0] 24 (0, 0)) := by
    rw [hW4]
    exact heap_at _ _ (by simp only [World.size_alloc])
  have hPt := pols_two (p := (rs, d)) (q := (ss, f)) (Nat.le_trans hB hb4.size) (HRS.out _ hb4) hdH.out (HSS.out _ hb4) hfH.out 24
  have HCk0 := checkAll_any _ _ _ _ hPt (by simp)
  rw [hs4] at HCk0
  have HCk : Hid _ := HCk0
  clear HCk0
  have hb5 : Below W4.heap.size W4 (W4.alloc (.cells #[.slice a n1 cap, .int .i64 d, .slice b n2 cap2, .int .i64 f] 24)) := (Below.refl _ _).alloc (Nat.le_refl _) _
  have HW : Hid (W4 = _) := hW4
  have HG : Hid (∀ w', Below W4.heap.size W4 w' → w'.heap[w.heap.size]? = some (.cells #[.slice a n1 cap, .int .i64 d] 24 (0, 0)) ∧ w'.heap[w.heap.size + 1]? = some (.cells #[.slice b n2 cap2, .int .i64 f] 24 (0, 0)) ∧ w'.heap[w.heap.size + 1 + 1]? = some (.cells #[.bool exc] 4 (0, 0)) ∧ w'.heap[w.heap.size + 1 + 1 + 1]? = some (.cells #[.slice none 0 0, .int .i64 0] 24 (0, 0))) := fun w' h => ⟨(h.block _ (by omega)).trans g0, (h.block _ (by omega)).trans g1, (h.block _ (by omega)).trans g2, (h.block _ (by omega)).trans g3⟩
  clear hW4 hPt g0 g1 g2 g3
  go_enter Tryz.func190, Tryz.ntmps190
  go_wp2_with fail
  rw [← HW.out]
  go_at_call 222
  refine Calls.mono HCk.out ?_
  rintro e w6 ⟨rfl, hb6⟩
  have hb46 : Below W4.heap.size W4 w6 := Below.thenOf hb5 hb6 (by simp)
  have hbw6 : Below w.heap.size w w6 := Below.thenOf hb4 hb46 (by omega)
  have hs6 := hb46.size
  obtain ⟨g0, g1, g2, g3⟩ := HG.out w6 hb46
  by_cases h0 : polsErr [(rs, d), (ss, f)] = 0
  · obtain ⟨hok1, hok2⟩ := polsErr_two h0
    obtain ⟨hp120, -, hpr⟩ := polErr_ok hok1
    obtain ⟨hq120, -, hqr⟩ := polErr_ok hok2
    have HRk : Hid (∀ r ∈ rs, r.1.length ≤ 10) := fun r hr => (ruleErr_ok (rulesErr_all hpr r hr)).1
    have HSk : Hid (∀ r ∈ ss, r.1.length ≤ 10) := fun r hr => (ruleErr_ok (rulesErr_all hqr r hr)).1
    simp only [] at hp120 hq120
    rw [hN1.out] at hp120
    rw [hN2.out] at hq120
    have HE : Hid (meetE exc (rs, d) (ss, f) = polErr (meetP exc (rs, d) (ss, f))) := by unfold Hid; rw [meetE, if_pos h0]
    rw [h0]
    clear h0 hok1 hok2 hpr hqr
    obtain ⟨W8, hW8⟩ : ∃ W8, W8 = (w6.alloc (.cells #[.func (.func 223) #[] #[.pointer (some ⟨w.heap.size + 1 + 1, 0, none⟩)]] 63)).alloc (.cells #[.slice none 0 0, .int .i64 0] 24) := ⟨_, rfl⟩
    have hs8 : W8.heap.size = w6.heap.size + 1 + 1 := by rw [hW8]; simp
    have hb8 : Below w6.heap.size w6 W8 := by rw [hW8]; exact ((Below.refl _ _).alloc (Nat.le_refl _) _).alloc (by simp) _
    have hS8 : BoS (w6.heap.size + 1) (w6.heap.size + 1) w6.heap.size (w.heap.size + 1 + 1) exc [] W8 := by
      refine ⟨.slice none 0 0, [], (hb8.block _ (by omega)).trans g2, ?_, ?_, ⟨rfl, .inl ⟨rfl, rfl⟩⟩, rfl, fun u hu => by simp at hu, fun i r hr => by simp at hr⟩
      · rw [hW8]; exact heap_kept' _ (heap_at _ _ rfl)
      · rw [hW8]; exact heap_at _ _ (by simp only [World.size_alloc])
    have HW8 : Hid (W8 = _) := hW8
    have HG8 : Hid (∀ v, Below (w6.heap.size + 1) W8 v → v.heap[w.heap.size]? = some (.cells #[.slice a n1 cap, .int .i64 d] 24 (0, 0)) ∧ v.heap[w.heap.size + 1]? = some (.cells #[.slice b n2 cap2, .int .i64 f] 24 (0, 0)) ∧ v.heap[w.heap.size + 1 + 1 + 1]? = some (.cells #[.slice none 0 0, .int .i64 0] 24 (0, 0))) := fun v h => ⟨(h.block _ (by omega)).trans ((hb8.block _ (by omega)).trans g0), (h.block _ (by omega)).trans ((hb8.block _ (by omega)).trans g1), (h.block _ (by omega)).trans ((hb8.block _ (by omega)).trans g3)⟩
    have HBw : Hid (∀ v, Below (w6.heap.size + 1) W8 v → Below w.heap.size w v) := fun v h => (Below.thenOf hbw6 hb8 hbw6.size).trans (h.mono (by omega))
    obtain ⟨J, hJ⟩ : ∃ J : List RuleT → World → Prop, J = fun done v => BoS (w6.heap.size + 1) (w6.heap.size + 1) w6.heap.size (w.heap.size + 1 + 1) exc done v ∧ Below (w6.heap.size + 1) W8 v := ⟨_, rfl⟩
    have HJB : Hid (∀ done v, J done v → Below (w6.heap.size + 1) W8 v) := by rw [hJ]; exact fun _ _ h => h.2
    have HJE : Hid (∀ done v, J done v → BoS (w6.heap.size + 1) (w6.heap.size + 1) w6.heap.size (w.heap.size + 1 + 1) exc done v) := by rw [hJ]; exact fun _ _ h => h.1
    have HJL : Hid (∀ done v v', J done v → Below v.heap.size v v' → J done v') := by rw [hJ]; exact fun _ v v' h hb => ⟨h.1.later hb, Below.thenOf h.2 hb (by have := h.2.size; omega)⟩
    have HJR : Hid (∀ done v X, J done v → RowNot (v.alloc X) (w6.heap.size + 1) v.heap.size) := by
      rw [hJ]
      rintro done v X ⟨⟨u, xs, h1, h2, h3, h4, h5⟩, _⟩ u' d' hu' e
      have h3' : (v.alloc X).heap[w6.heap.size + 1]? = _ := heap_kept' X h3
      rw [h3'] at hu'
      simp at hu'
      rw [← hu'.1] at e
      obtain ⟨cur, hc⟩ := ownsRow_tag h4 _ e
      have := lt_of_block hc
      omega
    have HJS : Hid (∀ done r s rc sc v, J done v → CondsAt B v rc r.1 → wf r.2 → CondsAt B v sc s.1 → wf s.2 → done.length ≤ 20000 → r.1.length ≤ 10 → s.1.length ≤ 10 → Calls Tryz.prog 224 #[.agg #[rc, .int .i64 r.2], .agg #[sc, .int .i64 s.2], .pointer (some ⟨w6.heap.size + 1, 0, none⟩), .pointer (some ⟨w6.heap.size, 0, none⟩)] v fun e v' => e = .returned (.tuple #[]) ∧ J (done ++ [pairR exc r s]) v' ∧ Below (w6.heap.size + 1) v v' ∧ ∀ (b : Nat) (cur : Array Value) (T : TypeId) (fr : Nat × Nat), v.heap[b]? = some (.cells cur T fr) → b ≠ w6.heap.size + 1 → RowNot v (w6.heap.size + 1) b → v'.heap[b]? = some (.cells cur T fr) ∧ RowNot v' (w6.heap.size + 1) b) := by
      rw [hJ]
      intro done r s rc sc v h hr hr2 hs hs2 hd hrl hsl
      refine (both2_any (w6.heap.size + 1) _ _ _ B exc r s rc sc done v h.1 hr hr2 hs hs2 (by omega) (by have := h.2.size; omega) (Nat.le_refl _) hd hrl hsl).mono fun e v' ⟨e1, e2, e3, e4⟩ => ⟨e1, ⟨e2, h.2.trans e3⟩, e3, e4⟩
    have HJ0 : Hid (J (meetI exc (rs, d) (ss, f) 0) W8) := by rw [hJ]; exact ⟨hS8, Below.refl _ _⟩
    have HDl : Hid (∀ i, i ≤ n1 → (meetI exc (rs, d) (ss, f) i).length ≤ 14641) := fun i hi => by
      have h1 := meetI_len exc (rs, d) (ss, f) i
      simp only [] at h1
      rw [hN2.out] at h1
      have h2 : i * (n2 + 1) ≤ 120 * 121 := Nat.mul_le_mul (by omega) (by omega)
      omega
    have HRS8 : Hid (∀ v, Below (w6.heap.size + 1) W8 v → RulesAt B v (.slice a n1 cap) rs) := fun v h => HRS.out v (HBw.out v h)
    have HSS8 : Hid (∀ v, Below (w6.heap.size + 1) W8 v → RulesAt B v (.slice b n2 cap2) ss) := fun v h => HSS.out v (HBw.out v h)
    have hBL : B ≤ w6.heap.size + 1 := by omega
    have z0 := heap_cell g0 0 rfl
    clear hJ hW8 hS8 g0 g1 g2 g3 HRS HSS
    have P0 : W8.cell? ⟨w.heap.size, 0, none⟩ = some (.slice a n1 cap) := heap_cell (HG8.out W8 (Below.refl _ _)).1 0 rfl
    have hlt6 : w.heap.size < w6.heap.size := by omega
    go_wp2_with fail
    rw [← HW8.out]
    clear z0 P0
    go_loopw [32] (fun iv wr => ∃ i : Nat, i ≤ n1 ∧ iv = .int .i64 i ∧ Hid (J (meetI exc (rs, d) (ss, f) i) wr)) (fun iv _ => n1 - (intOf iv).toNat)
    case atStart => exact ⟨0, by omega, rfl, HJ0⟩
    case round =>
      obtain ⟨i, hi, rfl, HS⟩ := hrel
      obtain ⟨wo, hwo⟩ : ∃ x, x = wr := ⟨_, rfl⟩
      subst hwo
      have i0 : (0 : Int) ≤ (i : Int) := by omega
      have hbo := HJB.out _ _ HS.out
      have hos := hbo.size
      obtain ⟨gp, gq, gr⟩ := HG8.out wo hbo
      by_cases hlt : i < n1
      · have i1 : (i : Int) < (n1 : Int) := by omega
        obtain ⟨r, hrk⟩ : ∃ r, rs[i]? = some r := ⟨rs[i]'(by rw [hN1.out]; omega), by simp⟩
        have HP : Hid (meetI exc (rs, d) (ss, f) (i + 1) = meetI exc (rs, d) (ss, f) i ++ ss.map (pairR exc r) ++ [pairR exc r ([], f)]) := meetI_succ exc (rs, d) (ss, f) i r hrk
        have hr10 := HRk.out r (List.mem_of_getElem? hrk)
        obtain ⟨_, _, e1, -, -, hat⟩ := HRS8.out _ hbo
        obtain ⟨b3, o3, e, hbB3, hrc⟩ := hat i r hrk
        simp at e1
        obtain ⟨rfl, -, -⟩ := e1
        subst e
        clear hat hrk
        obtain ⟨cs, vd⟩ := r
        obtain ⟨cv, q0, q1, hwv, hcs⟩ := hrc
        have HCS : Hid (∀ w', Below (w6.heap.size + 1) wo w' → CondsAt B w' cv cs) := fun w' h => hcs.later h hBL
        obtain ⟨a3, c3, ecv, -, -⟩ := hcs.full
        subst ecv
        have Hwv : Hid (wf vd) := hwv
        have Hr10 : Hid (cs.length ≤ 10) := hr10
        clear hcs hwv hr10
        generalize hcl : cs.length = cl at *
        have Hcl : Hid (cs.length = cl) := hcl
        clear hcl
        simp only [] at q0 q1
        have hDl := HDl.out i (by omega)
        obtain ⟨D0, hD0⟩ : ∃ D0, D0 = meetI exc (rs, d) (ss, f) i := ⟨_, rfl⟩
        rw [← hD0] at hDl HS HP
        clear hD0
        have HS0 : Hid (∀ X, J (D0 ++ (ss.take 0).map (pairR exc (cs, vd))) (wo.alloc X)) := fun X => by
          have := HJL.out _ _ _ HS.out ((Below.refl wo.heap.size _).alloc (Nat.le_refl _) X)
          simpa using this
        have HBo : Hid (∀ X, Below (w6.heap.size + 1) wo (wo.alloc X)) := fun X => (Below.refl _ _).alloc (by omega) _
        have HRN : Hid (∀ X, RowNot (wo.alloc X) (w6.heap.size + 1) wo.heap.size) := fun X => HJR.out _ _ X HS.out
        have HRB : Hid (∀ X, (wo.alloc X).heap[wo.heap.size]? = some X) := fun X => heap_made _ _
        have y0 := heap_cell gq 0 rfl
        have hltq : w.heap.size + 1 < wo.heap.size := by omega
        have hne8 : ¬ wo.heap.size = w6.heap.size + 1 := by omega
        go_wp2_with fail
        go_loopw [39] (fun jv wr => ∃ j : Nat, j ≤ n2 ∧ jv = .int .i64 j ∧ Hid (J (D0 ++ (ss.take j).map (pairR exc (cs, vd))) wr) ∧ Hid (wr.heap[wo.heap.size]? = some (.cells #[.slice a3 cl c3, .int .i64 vd] 95 (0, 0))) ∧ Hid (RowNot wr (w6.heap.size + 1) wo.heap.size) ∧ Below (w6.heap.size + 1) wo wr) (fun jv _ => n2 - (intOf jv).toNat)
        case atStart => exact ⟨0, by omega, rfl, HS0.out _, HRB.out _, HRN.out _, HBo.out _⟩
        case round =>
          obtain ⟨j, hj, rfl, HSj, HBj, HNj, hbj⟩ := hrel
          obtain ⟨wj, hwj⟩ : ∃ x, x = wr := ⟨_, rfl⟩
          subst hwj
          have j0 : (0 : Int) ≤ (j : Int) := by omega
          have hbJ := HJB.out _ _ HSj.out
          have hjs := hbJ.size
          have hrlt := lt_of_block HBj.out
          obtain ⟨gp', gq', gr'⟩ := HG8.out wj hbJ
          by_cases hlj : j < n2
          · have j1 : (j : Int) < (n2 : Int) := by omega
            obtain ⟨sr, hsk⟩ : ∃ r, ss[j]? = some r := ⟨ss[j]'(by rw [hN2.out]; omega), by simp⟩
            have HPj : Hid ((ss.take (j + 1)).map (pairR exc (cs, vd)) = (ss.take j).map (pairR exc (cs, vd)) ++ [pairR exc (cs, vd) sr]) := map_take_rule _ ss j sr hsk
            have hs10 := HSk.out sr (List.mem_of_getElem? hsk)
            obtain ⟨_, _, e1, -, -, hat⟩ := HSS8.out _ hbJ
            obtain ⟨b4, o4, e, hbB4, hsc⟩ := hat j sr hsk
            simp at e1
            obtain ⟨rfl, -, -⟩ := e1
            subst e
            clear hat hsk
            obtain ⟨ds, ve⟩ := sr
            obtain ⟨dv, k0, k1, hwe, hds⟩ := hsc
            have HDS : Hid (∀ w', Below (w6.heap.size + 1) wj w' → CondsAt B w' dv ds) := fun w' h => hds.later h hBL
            obtain ⟨a4, c4, edv, -, -⟩ := hds.full
            subst edv
            have Hwe : Hid (wf ve) := hwe
            have Hs10 : Hid (ds.length ≤ 10) := hs10
            clear hds hwe hs10
            generalize hdl : ds.length = dl at *
            have Hdl : Hid (ds.length = dl) := hdl
            clear hdl
            simp only [] at k0 k1
            have HCl : Hid (∀ X, Calls Tryz.prog 224 #[.agg #[.slice a3 cl c3, .int .i64 vd], .agg #[.slice a4 dl c4, .int .i64 ve], .pointer (some ⟨w6.heap.size + 1, 0, none⟩), .pointer (some ⟨w6.heap.size, 0, none⟩)] (wj.alloc X) fun e v' => e = .returned (.tuple #[]) ∧ Hid (J (D0 ++ (ss.take (j + 1)).map (pairR exc (cs, vd))) v') ∧ Below (w6.heap.size + 1) wo v' ∧ Hid (v'.heap[wo.heap.size]? = some (.cells #[.slice a3 cl c3, .int .i64 vd] 95 (0, 0))) ∧ Hid (RowNot v' (w6.heap.size + 1) wo.heap.size)) := by
              intro X
              have hbX : Below wj.heap.size wj (wj.alloc X) := (Below.refl _ _).alloc (Nat.le_refl _) X
              have hbX' : Below (w6.heap.size + 1) wj (wj.alloc X) := hbX.mono (by omega)
              have h1 := HJL.out _ _ _ HSj.out hbX
              refine (HJS.out _ (cs, vd) (ds, ve) _ _ _ h1 (HCS.out _ (hbj.trans hbX')) Hwv.out (HDS.out _ hbX') Hwe.out (by simp; omega) (by show cs.length ≤ 10; rw [Hcl.out]; exact Hr10.out) (by show ds.length ≤ 10; rw [Hdl.out]; exact Hs10.out)).mono fun e v' ⟨e1, e2, e3, e4⟩ => ?_
              obtain ⟨m1, m2⟩ := e4 wo.heap.size _ _ _ ((hbX.block _ hrlt).trans HBj.out) hne8 (HNj.out.later hbX (by omega))
              refine ⟨e1, ?_, hbj.trans (hbX'.trans e3), m1, m2⟩
              rw [HPj.out, ← List.append_assoc]
              exact e2
            have x0 := heap_cell HBj.out 0 rfl
            have x1 := heap_cell HBj.out 1 rfl
            go_wp2_with fail
            go_at_call 224
            refine Calls.mono (HCl.out _) ?_
            rintro e w9 ⟨rfl, m1, m2, m3, m4⟩
            clear x0 x1 k0 k1 gp' gq' gr'
            go_wp2_with fail
            exact ⟨⟨j + 1, by omega, by go_num, m1, m3, m4, m2⟩, by simp [intOf]; omega⟩
          · obtain rfl : j = n2 := by omega
            have HSj' : Hid (J (D0 ++ ss.map (pairR exc (cs, vd))) wj) := by
              have := HSj.out
              rw [List.take_of_length_le (by rw [hN2.out]; omega)] at this
              exact this
            have HCl : Hid (Calls Tryz.prog 224 #[.agg #[.slice a3 cl c3, .int .i64 vd], .agg #[.slice none 0 0, .int .i64 f], .pointer (some ⟨w6.heap.size + 1, 0, none⟩), .pointer (some ⟨w6.heap.size, 0, none⟩)] wj fun e v' => e = .returned (.tuple #[]) ∧ Hid (J (meetI exc (rs, d) (ss, f) (i + 1)) v')) := by
              refine (HJS.out _ (cs, vd) ([], f) _ (.slice none 0 0) _ HSj'.out (HCS.out _ hbj) Hwv.out ⟨none, 0, rfl, Nat.le_refl _, by rw [maxLen_eq]; omega, fun i c h => by simp at h⟩ hfH.out (by simp; rw [hN2.out]; omega) (by show cs.length ≤ 10; rw [Hcl.out]; exact Hr10.out) (by simp)).mono fun e v' ⟨e1, e2, e3, e4⟩ => ⟨e1, ?_⟩
              rw [HP.out]
              exact e2
            have x0 := heap_cell HBj.out 0 rfl
            have x1 := heap_cell HBj.out 1 rfl
            have y1 := heap_cell gq' 1 rfl
            clear gp' gq' gr'
            go_wp2_with fail
            go_at_call 224
            refine Calls.mono HCl.out ?_
            rintro e w9 ⟨rfl, m1⟩
            clear x0 x1 y1
            go_wp2_with fail
            exact ⟨⟨i + 1, by omega, by go_num, m1⟩, by simp [intOf]; omega⟩
      · obtain rfl : i = n1 := by omega
        have hDl := HDl.out i (Nat.le_refl _)
        have HMR : Hid (meetRs exc (rs, d) (ss, f) = meetI exc (rs, d) (ss, f) i ++ ss.map (pairR exc ([], d))) := by
          have := meetI_all exc (rs, d) (ss, f)
          simp only [] at this
          rw [hN1.out] at this
          exact this
        obtain ⟨D1, hD1⟩ : ∃ D1, D1 = meetI exc (rs, d) (ss, f) i := ⟨_, rfl⟩
        rw [← hD1] at hDl HS HMR
        clear hD1
        have HS1 : Hid (J (D1 ++ (ss.take 0).map (pairR exc ([], d))) wo) := by simpa using HS
        have y0 := heap_cell gq 0 rfl
        clear gp gq gr
        go_wp2_with fail
        go_loopw [58] (fun jv wr => ∃ j : Nat, j ≤ n2 ∧ jv = .int .i64 j ∧ Hid (J (D1 ++ (ss.take j).map (pairR exc ([], d))) wr)) (fun jv _ => n2 - (intOf jv).toNat)
        case atStart => exact ⟨0, by omega, rfl, HS1⟩
        case round =>
          obtain ⟨j, hj, rfl, HSj⟩ := hrel
          obtain ⟨wj, hwj⟩ : ∃ x, x = wr := ⟨_, rfl⟩
          subst hwj
          have j0 : (0 : Int) ≤ (j : Int) := by omega
          have hbJ := HJB.out _ _ HSj.out
          have hjs := hbJ.size
          obtain ⟨gp', gq', gr'⟩ := HG8.out wj hbJ
          have u1 := heap_cell gp' 1 rfl
          by_cases hlj : j < n2
          · have j1 : (j : Int) < (n2 : Int) := by omega
            obtain ⟨sr, hsk⟩ : ∃ r, ss[j]? = some r := ⟨ss[j]'(by rw [hN2.out]; omega), by simp⟩
            have HPj : Hid ((ss.take (j + 1)).map (pairR exc ([], d)) = (ss.take j).map (pairR exc ([], d)) ++ [pairR exc ([], d) sr]) := map_take_rule _ ss j sr hsk
            have hs10 := HSk.out sr (List.mem_of_getElem? hsk)
            obtain ⟨_, _, e1, -, -, hat⟩ := HSS8.out _ hbJ
            obtain ⟨b4, o4, e, hbB4, hsc⟩ := hat j sr hsk
            simp at e1
            obtain ⟨rfl, -, -⟩ := e1
            subst e
            clear hat hsk
            obtain ⟨ds, ve⟩ := sr
            obtain ⟨dv, k0, k1, hwe, hds⟩ := hsc
            have HDS : Hid (∀ w', Below (w6.heap.size + 1) wj w' → CondsAt B w' dv ds) := fun w' h => hds.later h hBL
            obtain ⟨a4, c4, edv, -, -⟩ := hds.full
            subst edv
            have Hwe : Hid (wf ve) := hwe
            have Hs10 : Hid (ds.length ≤ 10) := hs10
            clear hds hwe hs10
            generalize hdl : ds.length = dl at *
            have Hdl : Hid (ds.length = dl) := hdl
            clear hdl
            simp only [] at k0 k1
            have HCl : Hid (∀ X, Calls Tryz.prog 224 #[.agg #[.slice none 0 0, .int .i64 d], .agg #[.slice a4 dl c4, .int .i64 ve], .pointer (some ⟨w6.heap.size + 1, 0, none⟩), .pointer (some ⟨w6.heap.size, 0, none⟩)] (wj.alloc X) fun e v' => e = .returned (.tuple #[]) ∧ Hid (J (D1 ++ (ss.take (j + 1)).map (pairR exc ([], d))) v')) := by
              intro X
              have hbX : Below wj.heap.size wj (wj.alloc X) := (Below.refl _ _).alloc (Nat.le_refl _) X
              have hbX' : Below (w6.heap.size + 1) wj (wj.alloc X) := hbX.mono (by omega)
              have h1 := HJL.out _ _ _ HSj.out hbX
              refine (HJS.out _ ([], d) (ds, ve) (.slice none 0 0) _ _ h1 ⟨none, 0, rfl, Nat.le_refl _, by rw [maxLen_eq]; omega, fun i c h => by simp at h⟩ hdH.out (HDS.out _ hbX') Hwe.out (by simp; omega) (by simp) (by show ds.length ≤ 10; rw [Hdl.out]; exact Hs10.out)).mono fun e v' ⟨e1, e2, e3, e4⟩ => ⟨e1, ?_⟩
              rw [HPj.out, ← List.append_assoc]
              exact e2
            have hltp : w.heap.size < wj.heap.size := by omega
            clear gp' gq' gr'
            go_wp2_with fail
            go_at_call 224
            refine Calls.mono (HCl.out _) ?_
            rintro e w9 ⟨rfl, m1⟩
            clear u1 k0 k1
            go_wp2_with fail
            exact ⟨⟨j + 1, by omega, by go_num, m1⟩, by simp [intOf]; omega⟩
          · obtain rfl : j = n2 := by omega
            have HSj' : Hid (J (meetRs exc (rs, d) (ss, f)) wj) := by
              have := HSj.out
              rw [List.take_of_length_le (by rw [hN2.out]; omega), ← HMR.out] at this
              exact this
            obtain ⟨v, xs, b1, b2, b3, b4, b5⟩ := HJE.out _ _ HSj'.out
            obtain ⟨va, vc, ev, -, -, -⟩ := ownsRow_caps b4
            subst ev
            have HMP : Hid (meetP exc (rs, d) (ss, f) = (meetRs exc (rs, d) (ss, f), ofV exc d f)) := rfl
            have HWd : Hid (wf (ofV exc d f)) := ofV_wf hdH.out hfH.out
            generalize hml2 : (meetRs exc (rs, d) (ss, f)).length = ml at *
            have Hml2 : Hid ((meetRs exc (rs, d) (ss, f)).length = ml) := hml2
            clear hml2
            obtain ⟨df, hdf⟩ : ∃ df, df = ofV exc d f := ⟨_, rfl⟩
            have HDf : Hid (ofV exc d f = df) := hdf.symm
            rw [← hdf] at HMP HWd
            clear hdf
            have HPol : Hid (∀ w', KeepT 95 wj w' → KeepT 99 wj w' → PolAt w'.heap.size w' (.agg #[.slice va ml vc, .int .i64 df]) (meetP exc (rs, d) (ss, f))) := by
              intro w' h1 h2
              rw [HMP.out]
              exact ⟨_, rfl, HWd.out, XsN.rules (by rw [Hml2.out]; exact ownsRow_keepT b4 h1) (b5.keep h2)⟩
            have H1C : Hid (Calls Tryz.prog 223 #[.int .i64 d, .int .i64 f, .pointer (some ⟨w.heap.size + 1 + 1, 0, none⟩)] wj fun e w' => e = .returned (.int .i64 df) ∧ w' = wj) := by
              have := both1_any exc d f (w.heap.size + 1 + 1) wj (heap_cell b1 0 rfl)
              rw [HDf.out] at this
              exact this
            have x0 := heap_cell b2 0 rfl
            have x1 := heap_cell gq' 1 rfl
            have x2 := heap_cell b3 0 rfl
            have x3 := heap_cell b3 1 rfl
            have x4 : wj.frozen? ⟨w6.heap.size + 1, 1, none⟩ = false := by simp [World.frozen?, b3]
            obtain ⟨W9, hW9⟩ : ∃ W9, W9 = wj.setCell ⟨w6.heap.size + 1, 1, none⟩ (.int .i64 df) := ⟨_, rfl⟩
            have k9r : KeepT 95 wj W9 := by rw [hW9]; exact KeepT.setOther b3 (by decide)
            have k9c : KeepT 99 wj W9 := by rw [hW9]; exact KeepT.setOther b3 (by decide)
            have hs9 : W9.heap.size = wj.heap.size := by rw [hW9]; simp
            have HC9 : Hid (Calls Tryz.prog 105 #[.agg #[.slice va ml vc, .int .i64 df]] W9 fun e w' => e = .returned (.int .i64 (polErr (meetP exc (rs, d) (ss, f)))) ∧ Below W9.heap.size W9 w') := checkPolicy_any _ _ _ _ (HPol.out W9 k9r k9c) (Nat.le_refl _)
            have o9 : W9.heap[w6.heap.size + 1]? = some (.cells #[.slice va ml vc, .int .i64 df] 24 (0, 0)) := by rw [hW9, row_setCell b3]; rfl
            have r9 : W9.heap[w.heap.size + 1 + 1 + 1]? = some (.cells #[.slice none 0 0, .int .i64 0] 24 (0, 0)) := by rw [hW9, Below.heap_setCell _ _ _ _ (by show w.heap.size + 1 + 1 + 1 ≠ w6.heap.size + 1; omega)]; exact gr'
            have hb9 : Below w.heap.size w W9 := by rw [hW9]; exact (HBw.out wj hbJ).setCell (p := ⟨w6.heap.size + 1, 1, none⟩) (by show w.heap.size ≤ w6.heap.size + 1; omega) _
            have HK9 : Hid (KeepT 95 wj W9 ∧ KeepT 99 wj W9) := ⟨k9r, k9c⟩
            have HB9 : Hid _ := hb9
            have HO9 : Hid _ := o9
            have HR9 : Hid _ := r9
            have HW9 : Hid (W9 = _) := hW9
            clear hW9 k9r k9c o9 r9 hb9 b1 b2 b3 b4 b5 gp' gq' gr'
            go_wp2_with fail
            go_at_call 223
            refine Calls.mono H1C.out ?_
            rintro e w9 ⟨rfl, rfl⟩
            go_wp2_with fail
            rw [← HW9.out]
            go_at_call 105
            refine Calls.mono HC9.out ?_
            rintro e w10 ⟨rfl, hb10⟩
            have o10 : w10.heap[w6.heap.size + 1]? = some (.cells #[.slice va ml vc, .int .i64 df] 24 (0, 0)) := (hb10.block _ (lt_of_block HO9.out)).trans HO9.out
            have r10 : w10.heap[w.heap.size + 1 + 1 + 1]? = some (.cells #[.slice none 0 0, .int .i64 0] 24 (0, 0)) := (hb10.block _ (lt_of_block HR9.out)).trans HR9.out
            have hbw10 : Below w.heap.size w w10 := Below.thenOf HB9.out hb10 HB9.out.size
            have HK10 : Hid (KeepT 95 w9 w10 ∧ KeepT 99 w9 w10) := ⟨HK9.out.1.trans (KeepT.of_below hb10), HK9.out.2.trans (KeepT.of_below hb10)⟩
            have t0 := heap_cell o10 0 rfl
            have t1 := heap_cell o10 1 rfl
            have s0 := heap_cell r10 0 rfl
            have s1 := heap_cell r10 1 rfl
            have sf0 : w10.frozen? ⟨w.heap.size + 1 + 1 + 1, 0, none⟩ = false := by simp [World.frozen?, r10]
            have sf1 : w10.frozen? ⟨w.heap.size + 1 + 1 + 1, 1, none⟩ = false := by simp [World.frozen?, r10]
            have HR10 : Hid _ := r10
            have HB10 : Hid _ := hbw10
            clear o10 r10 hbw10 hb10 x0 x1 x2 x3 x4 u1
            by_cases he : polErr (meetP exc (rs, d) (ss, f)) = 0
            · have HM : Hid (meetE exc (rs, d) (ss, f) = 0 ∧ meetR exc (rs, d) (ss, f) = meetP exc (rs, d) (ss, f)) := by
                have e : meetE exc (rs, d) (ss, f) = 0 := by rw [HE.out, he]
                exact ⟨e, by rw [meetR, if_pos e]⟩
              rw [he]
              clear he
              go_wp2_with fail
              refine bodyPost_ret (v := .tuple #[.agg #[.slice va ml vc, .int .i64 df], .int .i64 0]) ?_ rfl ⟨_, by rw [HM.out.1], ?_, ?_⟩
              · rw [results_cell_tmp rfl]
                go_simp
              · rw [HM.out.2]
                exact HPol.out _ (HK10.out.1.trans ((KeepT.setOther HR10.out (by decide)).trans (KeepT.setOther (row_setCell HR10.out) (by decide)))) (HK10.out.2.trans ((KeepT.setOther HR10.out (by decide)).trans (KeepT.setOther (row_setCell HR10.out) (by decide))))
              · exact (HB10.out.setCell (p := ⟨w.heap.size + 1 + 1 + 1, 0, none⟩) (by show w.heap.size ≤ w.heap.size + 1 + 1 + 1; omega) _).setCell (p := ⟨w.heap.size + 1 + 1 + 1, 1, none⟩) (by show w.heap.size ≤ w.heap.size + 1 + 1 + 1; omega) _
            · have HM : Hid (meetE exc (rs, d) (ss, f) = polErr (meetP exc (rs, d) (ss, f)) ∧ meetR exc (rs, d) (ss, f) = ([], 0)) := by
                have e := HE.out
                exact ⟨e, by rw [meetR, if_neg (by rw [e]; exact he)]⟩
              have hq : (polErr (meetP exc (rs, d) (ss, f)) != 0) = true := by simpa using he
              clear he
              generalize polErr (meetP exc (rs, d) (ss, f)) = pe at *
              go_wp2_with fail
              refine bodyPost_ret (v := .tuple #[.agg #[.slice none 0 0, .int .i64 0], .int .i64 pe]) ?_ rfl ⟨_, by rw [HM.out.1], by rw [HM.out.2]; exact zeroPol _ _, ?_⟩
              · rw [results_cell_tmp rfl]
                go_simp
              · exact (HB10.out.setCell (p := ⟨w.heap.size + 1 + 1 + 1, 0, none⟩) (by show w.heap.size ≤ w.heap.size + 1 + 1 + 1; omega) _).setCell (p := ⟨w.heap.size + 1 + 1 + 1, 1, none⟩) (by show w.heap.size ≤ w.heap.size + 1 + 1 + 1; omega) _
  · have HE : Hid (meetE exc (rs, d) (ss, f) = polsErr [(rs, d), (ss, f)] ∧ meetR exc (rs, d) (ss, f) = ([], 0)) := by
      have e : meetE exc (rs, d) (ss, f) = polsErr [(rs, d), (ss, f)] := by rw [meetE, if_neg h0]
      exact ⟨e, by rw [meetR, if_neg (by rw [e]; exact h0)]⟩
    have hq : (polsErr [(rs, d), (ss, f)] != 0) = true := by simpa using h0
    clear h0
    generalize polsErr [(rs, d), (ss, f)] = pe at *
    have z0 := heap_cell g3 0 rfl
    have z1 := heap_cell g3 1 rfl
    have f0 : w6.frozen? ⟨w.heap.size + 1 + 1 + 1, 0, none⟩ = false := by simp [World.frozen?, g3]
    have f1 : w6.frozen? ⟨w.heap.size + 1 + 1 + 1, 1, none⟩ = false := by simp [World.frozen?, g3]
    clear g0 g1 g2 g3
    go_wp2_with fail
    refine bodyPost_ret (v := .tuple #[.agg #[.slice none 0 0, .int .i64 0], .int .i64 pe]) ?_ rfl ⟨_, by rw [HE.out.1], by rw [HE.out.2]; exact zeroPol _ _, ?_⟩
    · rw [results_cell_tmp rfl]
      go_simp
    · exact (hbw6.setCell (p := ⟨w.heap.size + 1 + 1 + 1, 0, none⟩) (by show w.heap.size ≤ w.heap.size + 1 + 1 + 1; omega) _).setCell (p := ⟨w.heap.size + 1 + 1 + 1, 1, none⟩) (by show w.heap.size ≤ w.heap.size + 1 + 1 + 1; omega) _

end Go.Proofs.YtbdlojnigflanacGreatDoor
