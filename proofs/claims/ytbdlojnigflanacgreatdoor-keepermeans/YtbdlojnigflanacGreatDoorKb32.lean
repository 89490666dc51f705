/- Package meet: Short. -/
import Derived.Test.YtbdlojnigflanacGreatDoorKb28
import Derived.Test.YtbdlojnigflanacGreatDoorKb25
import Derived.Test.YtbdlojnigflanacGreatDoorKb31
import Derived.Test.YtbdlojnigflanacGreatDoorKb13
set_option linter.all false
set_option maxRecDepth 100000
namespace Go.Proofs.YtbdlojnigflanacGreatDoor
open Go.RowKit Go.Maps

theorem kP_range {p : PolT} {x : Nat → Int} (hp : polErr p = 0) : 0 ≤ kP p x ∧ kP p x ≤ 120 := by
  have h120 := (polErr_ok hp).1
  unfold kP judgeP
  rw [if_pos hp]
  split
  · show 0 ≤ (verdictAt p (firstAt (ruleOk x) 0 p.1)).2 ∧ (verdictAt p (firstAt (ruleOk x) 0 p.1)).2 ≤ 120
    unfold verdictAt
    split
    · show (0 : Int) ≤ (p.1.length : Int) ∧ (p.1.length : Int) ≤ 120
      omega
    · rename_i h
      have := firstAt_lt (ruleOk x) p.1 0 (by omega)
      show (0 : Int) ≤ firstAt (ruleOk x) 0 p.1 ∧ firstAt (ruleOk x) 0 p.1 ≤ 120
      omega
  · show (0 : Int) ≤ 0 ∧ (0 : Int) ≤ 120
    omega
theorem keepIdx_cnt {p : PolT} (h : pointsE [p] = 0) (i : Int) : keepIdx p i = decide (0 < cntP p ((pointsL [p]).map asC) i) := by
  have hL : pointsL [p] = pointsP [p] := by rw [pointsL, if_pos h]
  have h1 := cntP_pos p ((pointsL [p]).map asC) i
  have h2 : (((pointsL [p]).map asC).any fun x => kP p (ofC x) == i) = keepIdx p i := by
    unfold keepIdx
    rw [hL, List.any_map]
    rfl
  rw [h2] at h1
  cases hk : keepIdx p i with
  | true => exact (decide_eq_true (h1.2 hk)).symm
  | false =>
    refine (decide_eq_false fun h => ?_).symm
    have := h1.1 h
    rw [hk] at this
    cases this

theorem rulesAt_wide {B B' : Nat} {w : World} {v : Value} {rs : List RuleT} (h : RulesAt B w v rs) (hB : B ≤ B') : RulesAt B' w v rs := by
  obtain ⟨a, cap, h1, h2, h3, h4⟩ := h
  refine ⟨a, cap, h1, h2, h3, fun i r hr => ?_⟩
  obtain ⟨b, o, e, hl, cv, k0, k1, k2, a', cap', q1, q2, q3, q4⟩ := h4 i r hr
  refine ⟨b, o, e, by omega, cv, k0, k1, k2, a', cap', q1, q2, q3, fun i c hc => ?_⟩
  obtain ⟨b', o', e', hl', k'⟩ := q4 i c hc
  exact ⟨b', o', e', by omega, k'⟩

def BelW (W : World) (rb : Nat) : Type := { w' : World // Below rb W w' }
theorem BelW.ne (W : World) (rb : Nat) : Nonempty (BelW W rb) := ⟨⟨W, Below.refl _ _⟩⟩
theorem BelW.cell {W : World} {rb : Nat} (x : BelW W rb) {b o : Nat} {v : Value} (h : W.cell? ⟨b, o, none⟩ = some v) (hb : b < rb) : x.1.cell? ⟨b, o, none⟩ = some v := (x.2.cell (p := ⟨b, o, none⟩) hb).trans h
/-- What stands in Short's last region: operations 3 (the rules cut), 7 (all copied), 8 (stored). -/
structure JSh (W : World) (rb : Nat) (P : PolT) (fs : Nat → Value → Prop) (w : World) : Prop where
  below : Below rb W w
  early : (∀ u, ¬ fs 8 u) → Below W.heap.size W w
  one : ∀ u u', fs 7 u → fs 7 u' → u = u'
  copied : ∀ u, fs 7 u → PolNew W.heap.size w u P
  stored : ∀ u, fs 8 u → ∃ v d, fs 7 (.agg #[v, d]) ∧ w.heap[rb]? = some (.cells #[v, d] 24 (0, 0))
  first : ∀ u, fs 7 u → ∃ u', fs 3 u'
section
variable {W w w' : World} {rb : Nat} {P : PolT} {fs : Nat → Value → Prop}
theorem JSh.start : JSh W rb P (fun _ _ => False) W.drew := ⟨(Below.refl _ _).drew, fun _ => (Below.refl _ _).drew, fun _ _ h => h.elim, fun _ h => h.elim, fun _ h => h.elim, fun _ h => h.elim⟩
theorem JSh.other (h : JSh W rb P fs w) (u : Value) : JSh W rb P (addF fs 3 u) w := by
  refine ⟨h.below, fun hn => h.early fun u hu => hn u (.inl hu), fun u u' hu hu' => h.one u u' (addF_old (by decide) hu) (addF_old (by decide) hu'), fun u hu => h.copied u (addF_old (by decide) hu), fun u1 hu => ?_, fun _ _ => ⟨u, .inr ⟨rfl, rfl⟩⟩⟩
  obtain ⟨v, d, h1, h2⟩ := h.stored u1 (addF_old (by decide) hu)
  exact ⟨v, d, .inl h1, h2⟩
theorem JSh.copy (h : JSh W rb P fs w) (hno : ∀ u, ¬ fs 7 u) {u3 : Value} (h3 : fs 3 u3) (hrb : rb < W.heap.size) (hb : Below w.heap.size w w') (u : Value) (hu : PolNew w.heap.size w' u P) : JSh W rb P (addF fs 7 u) w' := by
  have hn8 : ∀ u, ¬ fs 8 u := fun u h8 => by
    obtain ⟨v, d, h1, _⟩ := h.stored u h8
    exact hno _ h1
  have hW := h.early hn8
  refine ⟨Below.thenOf h.below hb (by have := hW.size; omega), fun _ => Below.thenOf hW hb hW.size, fun u1 u2 h1 h2 => ?_, fun u1 h1 => ?_, fun u1 h1 => absurd (addF_old (by decide) h1) (hn8 u1), fun _ _ => ⟨u3, .inl h3⟩⟩
  · rcases h1 with h1 | ⟨_, rfl⟩
    · exact absurd h1 (hno u1)
    · rcases h2 with h2 | ⟨_, rfl⟩
      · exact absurd h2 (hno u2)
      · rfl
  · rcases h1 with h1 | ⟨_, rfl⟩
    · exact absurd h1 (hno u1)
    · exact hu.keep hW.size (fun _ _ _ => rfl) (Nat.le_refl _)
theorem JSh.store (h : JSh W rb P fs w) (hno : ∀ u, ¬ fs 8 u) (hrb : rb < W.heap.size) (v d u8 : Value) (hu : fs 7 (.agg #[v, d])) {x y : Value} (hbox : W.heap[rb]? = some (.cells #[x, y] 24 (0, 0))) : JSh W rb P (addF fs 8 u8) ((w.setCell ⟨rb, 0, none⟩ v).setCell ⟨rb, 1, none⟩ d) := by
  have hW := h.early hno
  have hb : w.heap[rb]? = some (.cells #[x, y] 24 (0, 0)) := (hW.block rb hrb).trans hbox
  refine ⟨(h.below.setCell (p := ⟨rb, 0, none⟩) (Nat.le_refl _) _).setCell (p := ⟨rb, 1, none⟩) (Nat.le_refl _) _, fun hn => absurd (.inr ⟨rfl, rfl⟩) (hn u8), fun u1 u2 h1 h2 => h.one u1 u2 (addF_old (by decide) h1) (addF_old (by decide) h2), fun u1 h1 => ((h.copied u1 (addF_old (by decide) h1)).put (.inl hrb)).put (.inl hrb), fun u1 h1 => ⟨v, d, .inl hu, ?_⟩, fun u1 h1 => (h.first u1 (addF_old (by decide) h1)).imp fun _ h => .inl h⟩
  have e1 := row_setCell (o := 0) (u := v) hb
  have e2 := row_setCell (o := 1) (u := d) e1
  rw [e2]
  rfl
end
def SSh (cut : Value) (d : Int) (k : Nat) (v : Value) : Prop := if k = 3 then v = cut else if k = 7 then ∃ a n c, v = .agg #[.slice a n c, .int .i64 d] else True
theorem sSh_some (cut : Value) (d : Int) (k : Nat) : ∃ v, SSh cut d k v := by
  unfold SSh
  split
  · exact ⟨_, rfl⟩
  · split
    · exact ⟨_, none, 0, 0, rfl⟩
    · exact ⟨undef, trivial⟩

set_option maxHeartbeats 16000000 in
theorem shortD_new (B : Nat) (pv : Value) (p : PolT) (w : World) (hp : PolAt B w pv p) (hB : B ≤ w.heap.size) :
    Calls Tryz.prog 57 #[pv] w fun e w' => ∃ v, e = .returned (.tuple #[v, .int .i64 (pointsE [p])]) ∧ PolNew w.heap.size w' v (shortR p) ∧ Below w.heap.size w w' := by
  obtain ⟨inf, hi1, hi2, hi3, hi4⟩ := infoRuleS
  have HP : Hid (∀ w', Below w.heap.size w w' → PolAt B w' pv p) := fun w' h => hp.later h hB
  obtain ⟨rs, d⟩ := p
  obtain ⟨rv, e1, hd, hrs⟩ := hp
  have HRS : Hid (∀ w', Below w.heap.size w w' → RulesAt B w' rv rs) := fun w' h => hrs.later h hB
  obtain ⟨a, cap, e3, hlc, hcm, -⟩ := hrs
  simp only at e1 e3 hd
  subst e3 e1
  have hdH : Hid (wf d) := hd
  clear hd
  generalize hn1 : rs.length = n1 at *
  have hnH : Hid (rs.length = n1) := hn1
  clear hn1
  have hml := maxLen_eq
  obtain ⟨W2, hW2⟩ : ∃ W2, W2 = (w.alloc (.cells #[.slice a n1 cap, .int .i64 d] 24)).alloc (.cells #[.slice none 0 0, .int .i64 0] 24) := ⟨_, rfl⟩
  have hs2 : W2.heap.size = w.heap.size + 1 + 1 := by rw [hW2]; simp
  have hb2 : Below w.heap.size w W2 := by rw [hW2]; exact ((Below.refl _ _).alloc (Nat.le_refl _) _).alloc (by simp) _
  have HBx : Hid (∀ w', Below (w.heap.size + 1 + 1) W2 w' → w'.heap[w.heap.size]? = some (.cells #[.slice a n1 cap, .int .i64 d] 24 (0, 0)) ∧ w'.heap[w.heap.size + 1]? = some (.cells #[.slice none 0 0, .int .i64 0] 24 (0, 0)) ∧ Below w.heap.size w w') := by
    intro w' h
    have e0 : W2.heap[w.heap.size]? = some (.cells #[.slice a n1 cap, .int .i64 d] 24 (0, 0)) := by
      rw [hW2]
      exact heap_kept' _ (heap_at _ _ rfl)
    have e1 : W2.heap[w.heap.size + 1]? = some (.cells #[.slice none 0 0, .int .i64 0] 24 (0, 0)) := by
      rw [hW2]
      exact heap_at _ _ (by simp only [World.size_alloc])
    exact ⟨(h.block _ (by omega)).trans e0, (h.block _ (by omega)).trans e1, hb2.trans (h.mono (by omega))⟩
  have hPt := pols_one (p := (rs, d)) (Nat.le_trans hB hb2.size) (HRS.out _ hb2) hdH.out 24
  have HPo := pointsD_any _ _ _ _ hPt (by simp) (by simp)
  rw [hs2] at HPo
  have HPo' : Hid _ := HPo
  have hb4 : Below (w.heap.size + 1 + 1) W2 (W2.alloc (.cells #[.slice a n1 cap, .int .i64 d] 24)) := (Below.refl _ _).alloc (by omega) _
  have hs4 : (W2.alloc (.cells #[.slice a n1 cap, .int .i64 d] 24)).heap.size = w.heap.size + 1 + 1 + 1 := by simp [hs2]
  have HW2 : Hid (W2 = _) := hW2
  clear HPo hPt hW2
  go_enter Tryz.func57, Tryz.ntmps57
  go_wp2_with fail
  rw [← HW2.out]
  go_at_call 68
  refine Calls.mono HPo'.out ?_
  rintro e w5 ⟨v5, rfl, ho5, hb5⟩
  rw [hs4] at hb5
  have hb25 : Below (w.heap.size + 1 + 1) W2 w5 := Below.trans hb4 (hb5.mono (by omega))
  have hs5 := hb5.size
  rw [hs4] at hs5
  obtain ⟨b0, b1, hbw5⟩ := HBx.out _ hb25
  have l5 : w.heap.size < w5.heap.size := by omega
  have l6 : w.heap.size + 1 < w5.heap.size := by omega
  obtain ⟨a5, cap5, e5, hc5, hc5m, -⟩ := id ho5
  subst e5
  have HO5 : Hid (CallsAt w5.heap.size w5 (.slice a5 ((pointsL [(rs, d)]).map asC).length cap5) ((pointsL [(rs, d)]).map asC)) := ho5
  clear ho5 hb4 hs4 HPo' hb5
  by_cases hpe : pointsE [(rs, d)] = 0
  case neg =>
    have HE : Hid (shortR (rs, d) = ([], 0)) := by unfold Hid shortR; rw [if_neg hpe]
    have hq : (pointsE [(rs, d)] != 0) = true := by simpa using hpe
    obtain ⟨pe, hpe'⟩ : ∃ pe, pe = pointsE [(rs, d)] := ⟨_, rfl⟩
    rw [← hpe'] at hq ⊢
    have hpeH : Hid (pointsE [(rs, d)] = pe) := hpe'.symm
    have r0 := heap_cell b1 0 rfl
    have r1 := heap_cell b1 1 rfl
    have f0 : w5.frozen? ⟨w.heap.size + 1, 0, none⟩ = false := by simp [World.frozen?, b1]
    have f1 : w5.frozen? ⟨w.heap.size + 1, 1, none⟩ = false := by simp [World.frozen?, b1]
    have HBw : Hid (Below w.heap.size w w5) := hbw5
    clear hpe hpe' b0 b1 hbw5
    go_wp2_with fail
    refine bodyPost_ret (v := .tuple #[.agg #[.slice none 0 0, .int .i64 0], .int .i64 pe]) ?_ rfl ⟨_, by rw [hpeH.out], by rw [HE.out]; exact zeroNew _ _, ?_⟩
    · rw [results_cell_tmp rfl]
      go_simp
    · repeat (first | exact HBw.out | refine Below.setCell ?_ (by simp) _)
  case pos =>
    have HSR : Hid (shortR (rs, d) = (cutEnd d (keepFrom (rs, d) 0 rs), d)) := by unfold Hid shortR; rw [if_pos hpe]; rfl
    have hok : AllOk [(rs, d)] := (pointsE_ok.1 hpe).1
    have hpp : polErr (rs, d) = 0 := hok _ (by simp)
    have hn120 : n1 ≤ 120 := by rw [← hnH.out]; exact (polErr_ok hpp).1
    have H10 : Hid (∀ r ∈ rs, r.1.length ≤ 10) := fun r hr => (ruleErr_ok (rulesErr_all (polErr_ok hpp).2.2 r hr)).1
    have hPn : ((pointsL [(rs, d)]).map asC).length ≤ 1000 := by
      rw [List.length_map, pointsL, if_pos hpe]
      exact (pointsE_ok.1 hpe).2
    have HKI : Hid (∀ i, keepIdx (rs, d) i = decide (0 < cntP (rs, d) ((pointsL [(rs, d)]).map asC) i)) := keepIdx_cnt hpe
    have HCu : Hid (Calls Tryz.prog 118 #[.agg #[.slice a n1 cap, .int .i64 d], .slice a5 ((pointsL [(rs, d)]).map asC).length cap5] w5 fun e w' => ∃ b, e = .returned (.map (some b)) ∧ ∃ D, w'.ownsMap (H := Unit) Tryz.prog 3 (plainElem Tryz.prog 3) b 1000 D ∧ (∀ i, wf i → D.atKey (.int .i64 i) (.lit (.int .i64 0)) = .lit (.int .i64 (cntP (rs, d) ((pointsL [(rs, d)]).map asC) i))) ∧ Below w5.heap.size w5 w') := countUses_any w5.heap.size _ _ (rs, d) _ w5 (by obtain ⟨rv, h1, h2, h3⟩ := HP.out w5 hbw5; exact ⟨rv, h1, h2, (rulesAt_wide h3 (by omega))⟩) HO5.out (Nat.le_refl _) hPn (fun x _ => by have := kP_range (x := ofC x) hpp; exact WalkArith.wf_i64 (by omega))
    have hpe0 : Hid (pointsE [(rs, d)] = 0) := hpe
    rw [hpe]
    obtain ⟨PL, hPL⟩ : ∃ PL, PL = (pointsL [(rs, d)]).map asC := ⟨_, rfl⟩
    rw [← hPL] at HKI HCu hPn hc5 ⊢
    generalize hPN : PL.length = PN at *
    clear hPL hok hpp hpe HO5
    have p0 := heap_cell b0 0 rfl
    have p1 := heap_cell b0 1 rfl
    go_wp2_with fail
    go_at_call 118
    refine Calls.mono HCu.out ?_
    rintro e w6 ⟨mb, rfl, D, hom, hat, hb6⟩
    have HOM : Hid (w6.ownsMap (H := Unit) Tryz.prog 3 (plainElem Tryz.prog 3) mb 1000 D) := hom
    have HAt : Hid (∀ i : Nat, i < 1000 → D.atKey (.int .i64 i) (.lit (.int .i64 0)) = .lit (.int .i64 (cntP (rs, d) PL i))) := fun i hi => hat i (WalkArith.wf_i64 (by omega))
    have hs6 := hb6.size
    have HB6 : Hid (∀ v, Below w6.heap.size w6 v → Below (w.heap.size + 1 + 1) W2 v) := fun v h => hb25.trans ((Below.thenOf hb6 h hb6.size).mono (by omega))
    have hm6 := hom.lt
    obtain ⟨b0', b1', hbw6⟩ := HBx.out _ (HB6.out w6 (Below.refl _ _))
    have c0 := heap_cell b0' 0 rfl
    clear hom hat hb6 HCu p0 p1 b0 b1 hbw5 b0' b1' hbw6 hb25 hPN
    go_wp2_with fail
    clear c0
    go_loopw [7, 26] (fun rv iv wr => ∃ (i : Nat) (xs : List Value), i ≤ n1 ∧ iv = .int .i64 i ∧ Hid (wr.ownsRow w6.heap.size 95 2 rv (keepFrom (rs, d) 0 (rs.take i)).length xs) ∧ Hid (XsAt B wr xs (keepFrom (rs, d) 0 (rs.take i))) ∧ Hid (Below w6.heap.size w6 wr)) (fun _ iv _ => n1 - (intOf iv).toNat)
    case atStart => exact ⟨0, [], by omega, rfl, ⟨rfl, .inl ⟨rfl, rfl⟩⟩, ⟨rfl, (fun u hu => by cases hu), (fun i r hr => by simp [keepFrom] at hr)⟩, Below.refl _ _⟩
    case round =>
      obtain ⟨i, xs, hi, rfl, HO, HXs, HBr⟩ := hrel
      obtain ⟨wo, hwo⟩ : ∃ x, x = wr := ⟨_, rfl⟩
      subst hwo
      have i0 : (0 : Int) ≤ (i : Int) := by omega
      have hos := HBr.out.size
      obtain ⟨gp, gr, hbwo⟩ := HBx.out _ (HB6.out _ HBr.out)
      have hkl : (keepFrom (rs, d) 0 (rs.take i)).length ≤ n1 := by
        have := keepFrom_len (rs, d) (rs.take i) 0
        rw [List.length_take, hnH.out] at this
        omega
      obtain ⟨va, vc, ev, hvc, hvm, -⟩ := ownsRow_caps HO.out
      subst ev
      by_cases hli : i < n1
      · have i1 : (i : Int) < (n1 : Int) := by omega
        obtain ⟨r, hrk⟩ : ∃ r, rs[i]? = some r := ⟨rs[i]'(by rw [hnH.out]; omega), by simp⟩
        have HTk : Hid (rs.take (i + 1) = rs.take i ++ [r]) := by unfold Hid; rw [List.take_succ, hrk]; rfl
        have hTl : (rs.take i).length = i := by rw [List.length_take, hnH.out]; omega
        have HKS : Hid (keepFrom (rs, d) 0 (rs.take (i + 1)) = keepFrom (rs, d) 0 (rs.take i) ++ if keepIdx (rs, d) (i : Int) then [r] else []) := by
          unfold Hid
          rw [HTk.out, keepFrom_snoc, hTl, Nat.zero_add]
        obtain ⟨_, _, e1, -, -, hat⟩ := HRS.out _ hbwo
        obtain ⟨b, o, e, hbB, cv, k0, k1, hwr, hcv⟩ := hat i r hrk
        simp at e1
        obtain ⟨rfl, -, -⟩ := e1
        subst e
        clear hat hTl hrk
        have HCv : Hid (∀ w', Below w6.heap.size wo w' → CondsAt B w' cv r.1) := fun w' h => hcv.later h (by omega)
        obtain ⟨a9, c9, ecv, -⟩ := hcv
        subst ecv
        have hwrH : Hid (wf r.2) := hwr
        obtain ⟨cs, vd⟩ := r
        simp only [] at k0 k1 HCv hwrH
        obtain ⟨n9, hn9⟩ : ∃ n9, n9 = cs.length := ⟨_, rfl⟩
        rw [← hn9] at k0 HCv
        clear hn9 hwr
        obtain ⟨K, hK⟩ : ∃ K, K = keepFrom (rs, d) 0 (rs.take i) := ⟨_, rfl⟩
        rw [← hK] at HKS HO HXs hkl hvc ⊢
        clear hK
        obtain ⟨N, hN⟩ : ∃ N, N = K.length := ⟨_, rfl⟩
        have HN : Hid (K.length = N) := hN.symm
        rw [← hN] at HO hkl hvc ⊢
        clear hN
        obtain ⟨W7, hW7⟩ : ∃ W7, W7 = wo.alloc (.cells #[.slice a9 n9 c9, .int .i64 vd] 95) := ⟨_, rfl⟩
        have hb7 : Below wo.heap.size wo W7 := by rw [hW7]; exact (Below.refl _ _).alloc (Nat.le_refl _) _
        have HO7 : Hid (W7.ownsRow w6.heap.size 95 2 (.slice va N vc) N xs) := ownsRow_below HO.out hb7
        have HM7 : Hid (W7.ownsMap (H := Unit) Tryz.prog 3 (plainElem Tryz.prog 3) mb 1000 D) := HOM.out.kept (grown_of_below (Below.thenOf HBr.out hb7 hos) none) (by simp)
        have g7 : W7.heap[wo.heap.size]? = some (.cells #[.slice a9 n9 c9, .int .i64 vd] 95 (0, 0)) := by rw [hW7]; exact heap_made _ _
        have y0 := heap_cell g7 0 rfl
        have y1 := heap_cell g7 1 rfl
        have hs7 : W7.heap.size = wo.heap.size + 1 := by rw [hW7]; simp
        have HB7 : Hid (Below w6.heap.size wo W7) := hb7.mono hos
        have HW7 : Hid (W7 = _) := hW7
        obtain ⟨m, hm⟩ : ∃ m, m = cntP (rs, d) PL (i : Int) := ⟨_, rfl⟩
        have HAi : Hid (D.atKey (.int .i64 (i : Int)) (.lit (.int .i64 0)) = .lit (.int .i64 (m : Int))) := by unfold Hid; rw [hm]; exact HAt.out i (by omega)
        have HKi : Hid (keepIdx (rs, d) (i : Int) = decide (0 < m)) := by unfold Hid; rw [hm]; exact HKI.out _
        have hwi : (Lit.int .i64 (i : Int)).wf = true := WalkArith.wf_i64 (by omega)
        have hbA : 6 = 6 := rfl
        clear hm hW7 hb7 g7 gp gr HO
        by_cases hmp : 0 < m
        · have hmp' : (0 : Int) < (m : Int) := by omega
          have HKS' : Hid (keepFrom (rs, d) 0 (rs.take (i + 1)) = K ++ [(cs, vd)]) := by
            unfold Hid
            rw [HKS.out, HKi.out, decide_eq_true hmp]
            rfl
          clear HKS HKi
          go_wp2_with (first
            | (at_lookup; rw [← HW7.out]; go_must (refine wpList_lookup_own_int _ rfl _ _ 150 rfl 3 3 .i64 key3 Tryz.underlying150 Tryz.underlying3 (zero3 _) mb 1000 D rfl HM7.out _ _ rfl (keyOf_int_mk Tryz.underlying3 hwi) ?_; intro cc hat hwc; have hcc := hat.symm.trans HAi.out; simp only [DataW.lit.injEq, Lit.int.injEq, true_and] at hcc; subst hcc; clear hat hwc))
            | (at_builtin; go_must (refine wpList_appG _ rfl _ _ rfl Tryz.underlying22 hi1 hi2 hi3 hi4 rfl (by decide) w6.heap.size _ _ _ rfl _ 1 [.slice a9 n9 c9, .int .i64 vd] rfl W7 rfl (by first | rfl | omega) W7 (Below.refl _ _) HO7.out rfl (by simp [Value.oneCell']) (by omega) (by omega) (by omega) ?_; intro v9 w9 HO9 hb9 hg9; have HB9 : Hid _ := hb9; clear hb9 hg9)))
          have hbF : Below w6.heap.size wo w9 := HB7.out.trans HB9.out
          refine ⟨⟨i + 1, xs ++ [.slice a9 n9 c9, .int .i64 vd], by omega, by go_num, ?_, ?_, HBr.out.trans hbF⟩, by simp [intOf]; omega⟩
          · unfold Hid
            rw [HKS'.out, List.length_append, HN.out]
            exact HO9.out
          · unfold Hid
            rw [HKS'.out]
            exact (HXs.out.later hbF (by omega)).append (xs_one (r := (cs, vd)) (HCv.out _ hbF) hwrH.out)
        · have hm0 : m = 0 := by omega
          have HA0 : Hid (D.atKey (.int .i64 (i : Int)) (.lit (.int .i64 0)) = .lit (.int .i64 0)) := by unfold Hid; rw [HAi.out, hm0]; rfl
          have HKS' : Hid (keepFrom (rs, d) 0 (rs.take (i + 1)) = K) := by
            unfold Hid
            rw [HKS.out, HKi.out, decide_eq_false hmp]
            simp
          clear HKS HKi HAi hm0 hmp
          go_wp2_with (first
            | (at_lookup; rw [← HW7.out]; go_must (refine wpList_lookup_own_int _ rfl _ _ 150 rfl 3 3 .i64 key3 Tryz.underlying150 Tryz.underlying3 (zero3 _) mb 1000 D rfl HM7.out _ _ rfl (keyOf_int_mk Tryz.underlying3 hwi) ?_; intro cc hat hwc; obtain rfl : cc = 0 := (by have hcc := hat.symm.trans HA0.out; simpa using hcc); clear hat hwc)))
          refine ⟨⟨i + 1, xs, by omega, by go_num, ?_, ?_, HBr.out.trans HB7.out⟩, by simp [intOf]; omega⟩
          · unfold Hid
            rw [HKS'.out, HN.out]
            exact HO7.out
          · unfold Hid
            rw [HKS'.out]
            exact HXs.out.later HB7.out (by omega)
      · have e : i = n1 := by omega
        subst e
        have HE : Hid (rs.take i = rs) := by unfold Hid; rw [← hnH.out, List.take_length]
        rw [HE.out] at HO HXs hkl hvc ⊢
        obtain ⟨K, hK⟩ : ∃ K, K = keepFrom (rs, d) 0 rs := ⟨_, rfl⟩
        have HKm : Hid (∀ r ∈ K, r.1.length ≤ 1000) := fun r hr => by
          rw [hK] at hr
          have := H10.out r (keepFrom_mem _ _ _ r hr)
          omega
        rw [← hK] at HO HXs hkl hvc HSR ⊢
        clear hK
        have hR : RulesAt wo.heap.size wo (.slice va K.length vc) K := rulesAtR_own HO.out HXs.out (by omega)
        have HWe : Hid (∀ w', Below wo.heap.size wo w' → Calls Tryz.prog 120 #[.slice va K.length vc, .int .i64 d] w' fun e w'' => e = .returned (.slice va (cutEnd d K).length vc) ∧ w'' = w') := fun w' h => withoutEnd_any wo.heap.size va K.length vc K d w' (hR.later h (Nat.le_refl _)) (by omega)
        have HCo : Hid (∀ w', Below wo.heap.size wo w' → Calls Tryz.prog 119 #[.agg #[.slice va (cutEnd d K).length vc, .int .i64 d]] w' fun e w'' => ∃ v, e = .returned v ∧ PolNew w'.heap.size w'' v (cutEnd d K, d) ∧ Below w'.heap.size w' w'') := fun w' h => by
          have ht := cutEnd_is_take d K
          have hle : (cutEnd d K).length ≤ K.length := by rw [ht, List.length_take]; omega
          refine copyD_any wo.heap.size _ (cutEnd d K, d) w' ⟨_, rfl, hdH.out, ?_⟩ h.size (by show (cutEnd d K).length ≤ 1000; omega) (fun r hr => HKm.out r (by rw [ht] at hr; exact List.mem_of_mem_take hr))
          have := rulesAt_take (hR.later h (Nat.le_refl _)) (cutEnd d K).length hle
          rw [← ht] at this
          exact this
        have i1 : ¬ ((i : Int) < (i : Int)) := by omega
        have HGr : Hid (wo.heap[w.heap.size + 1]? = some (.cells #[.slice none 0 0, .int .i64 0] 24 (0, 0))) := gr
        have HBw : Hid (Below w.heap.size w wo) := hbwo
        have hne := BelW.ne wo (w.heap.size + 1)
        have q1 : ∀ z : BelW wo (w.heap.size + 1), z.1.cell? ⟨w.heap.size, 1, none⟩ = some (.int .i64 d) := fun z => z.cell (heap_cell gp 1 rfl) (Nat.lt_succ_self _)
        have hrb : Hid (w.heap.size + 1 < wo.heap.size) := by unfold Hid; omega
        have hDJ : Hid (∀ fs w', JSh wo (w.heap.size + 1) (cutEnd d K, d) fs w' → ∃ z : BelW wo (w.heap.size + 1), w' = z.1) := fun fs w' h => ⟨⟨w', h.below⟩, rfl⟩
        obtain ⟨KL, hKL⟩ : ∃ KL, KL = K.length := ⟨_, rfl⟩
        obtain ⟨CL, hCL⟩ : ∃ CL, CL = (cutEnd d K).length := ⟨_, rfl⟩
        rw [← hKL] at HWe ⊢
        rw [← hCL] at HWe HCo
        clear hR HO HXs gp gr hbwo hKL hCL hkl hvc hvm
        go_wp2_with fail
        refine wp_region_free [_, _, _, _, _, _, _, _, _] _ rfl (fun k => k == 3 || k == 7 || k == 8) (JSh wo (w.heap.size + 1) (cutEnd d K, d)) (SSh (.slice va CL vc) d) (sSh_some _ _) (by kernel_rfl) (by kernel_rfl) JSh.start ?_
        iterate 3 (refine wpG_read hDJ.out rfl rfl ?_; go_big_quiet_step (fail); refine wpQuiet_nil ?_)
        refine wpG_call 120 #[.slice va KL vc, .int .i64 d] rfl rfl (fun w' => by kernel_rfl) (fun gs w' hJ hdep hno => ?_) (fun v3 hv3 => ?_)
        · have hn7 : ∀ u, ¬ gs 7 u := fun u h7 => by
            obtain ⟨u', h3⟩ := hJ.first u h7
            exact hno _ h3
          have hn8 : ∀ u, ¬ gs 8 u := fun u h8 => by
            obtain ⟨v, d', h1, _⟩ := hJ.stored u h8
            exact hn7 _ h1
          refine (HWe.out w' (hJ.early hn8)).mono ?_
          rintro e w2 ⟨rfl, rfl⟩
          exact ⟨_, rfl, rfl, hJ.other _⟩
        simp only [Act.put, List.setIfInBounds_toArray, List.set_cons_succ, List.set_cons_zero]
        obtain rfl : v3 = .slice va CL vc := hv3
        iterate 2 (refine wpG_read hDJ.out rfl rfl ?_; go_big_quiet_step (fail); refine wpQuiet_nil ?_)
        refine wpG_readV (.agg #[.slice va CL vc, .int .i64 d]) rfl rfl (fun w' => ?_) ?_
        · clear q1 hDJ hne
          go_simp
        simp only [Act.put, List.setIfInBounds_toArray, List.set_cons_succ, List.set_cons_zero]
        refine wpG_call 119 #[.agg #[.slice va CL vc, .int .i64 d]] rfl rfl (fun w' => by kernel_rfl) (fun gs w' hJ hdep hno => ?_) (fun v7 hv7 => ?_)
        · have hn8 : ∀ u, ¬ gs 8 u := fun u h8 => by
            obtain ⟨v, d', h1, _⟩ := hJ.stored u h8
            exact hno _ h1
          refine (HCo.out w' (hJ.early hn8)).mono ?_
          rintro e w2 ⟨v, rfl, hnw, hb⟩
          obtain ⟨vr, ev, hwv, a7, c7, er, -⟩ := hnw.at
          exact ⟨v, rfl, ⟨a7, _, c7, by rw [ev, er]⟩, hJ.copy hno (hdep 3 _ (.inr ⟨rfl, rfl⟩) (waitsB_spec (by kernel_rfl))) hrb.out hb v hnw⟩
        simp only [Act.put, List.setIfInBounds_toArray, List.set_cons_succ, List.set_cons_zero]
        obtain ⟨a7, n7, c7, rfl⟩ : ∃ a n c, v7 = .agg #[.slice a n c, .int .i64 d] := hv7
        refine wpG_store rfl rfl (fun gs w' hJ hdep hno => ⟨(w'.setCell ⟨w.heap.size + 1, 0, none⟩ (.slice a7 n7 c7)).setCell ⟨w.heap.size + 1, 1, none⟩ (.int .i64 d), ?_, trivial, hJ.store hno hrb.out _ _ _ (hdep 7 _ (.inr ⟨rfl, rfl⟩) (waitsB_spec (by kernel_rfl))) HGr.out⟩) (fun v8 hv8 => ?_)
        · have hg : w'.heap[w.heap.size + 1]? = some (.cells #[.slice none 0 0, .int .i64 0] 24 (0, 0)) := ((hJ.early hno).block _ hrb.out).trans HGr.out
          have r0 := heap_cell hg 0 rfl
          have r1 := heap_cell hg 1 rfl
          have f0 : w'.frozen? ⟨w.heap.size + 1, 0, none⟩ = false := by simp [World.frozen?, hg]
          have f1 : w'.frozen? ⟨w.heap.size + 1, 1, none⟩ = false := by simp [World.frozen?, hg]
          clear hJ hdep hno q1 hDJ hne hg
          go_simp
        simp only [Act.put, List.setIfInBounds_toArray, List.set_cons_succ, List.set_cons_zero]
        refine wpG_nil ?_
        intro w9 hJ
        obtain ⟨vv, dd, h71, hg9⟩ := hJ.stored _ (.inr ⟨rfl, rfl⟩)
        have e9 := hJ.one _ _ h71 (.inl (.inr ⟨rfl, rfl⟩))
        simp at e9
        obtain ⟨rfl, rfl⟩ := e9
        have HNw : Hid (PolNew w.heap.size w9 (.agg #[.slice a7 n7 c7, .int .i64 d]) (cutEnd d K, d)) := (hJ.copied _ h71).keep (by have := hrb.out; omega) (fun _ _ _ => rfl) (Nat.le_refl _)
        have HB9 : Hid (Below w.heap.size w w9) := HBw.out.trans (hJ.below.mono (Nat.le_succ _))
        have r0 := heap_cell hg9 0 rfl
        have r1 := heap_cell hg9 1 rfl
        clear hJ hg9 h71 q1 hDJ hne
        go_wp2_with fail
        refine bodyPost_ret (v := .tuple #[.agg #[.slice a7 n7 c7, .int .i64 d], .int .i64 0]) ?_ rfl ⟨_, by rw [hpe0.out], by rw [HSR.out]; exact HNw.out, HB9.out⟩
        rw [results_cell_tmp rfl]
        go_simp
end Go.Proofs.YtbdlojnigflanacGreatDoor
