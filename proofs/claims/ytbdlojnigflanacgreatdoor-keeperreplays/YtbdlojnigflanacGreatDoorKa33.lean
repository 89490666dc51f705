/- Package meet: combine. -/
import Derived.Test.YtbdlojnigflanacGreatDoorKa31
set_option linter.all false
set_option maxRecDepth 100000
namespace Go.Proofs.YtbdlojnigflanacGreatDoor
open Go.RowKit Go.Maps

/-- One side: the rules of a policy with its default behind them, in a row of the call's own. -/
def Side (B L : Nat) (w : World) (v : Value) (p : PolT) : Prop := polErr p = 0 ∧ ∃ xs, w.ownsRow L 95 2 v (p.1.length + 1) xs ∧ XsAt B w xs (p.1 ++ [([], p.2)])
theorem Side.keep {B L B' : Nat} {w w' : World} {v : Value} {p : PolT} (h : Side B L w v p) (hb : Below B' w w') (hB : B ≤ B') (hk : KeepT 95 w w') : Side B L w' v p := by
  obtain ⟨h0, xs, h1, h2⟩ := h
  exact ⟨h0, xs, ownsRow_keepT h1 hk, h2.later hb hB⟩
theorem Side.rules {B L : Nat} {w : World} {v : Value} {p : PolT} (h : Side B L w v p) (hB : B ≤ w.heap.size) : RulesAt w.heap.size w v (p.1 ++ [([], p.2)]) := by
  obtain ⟨h0, xs, h1, h2⟩ := h
  exact rulesAtR_own (by simpa using h1) h2 hB
theorem Side.ten {B L : Nat} {w : World} {v : Value} {p : PolT} (h : Side B L w v p) : p.1.length ≤ 120 ∧ ∀ r ∈ p.1 ++ [(([] : List CondT), p.2)], r.1.length ≤ 10 := by
  obtain ⟨k1, -, k2⟩ := polErr_ok h.1
  refine ⟨k1, fun r hr => ?_⟩
  rcases List.mem_append.1 hr with hr | hr
  · exact (ruleErr_ok (rulesErr_all k2 r hr)).1
  · simp at hr
    subst hr
    exact Nat.zero_le _
theorem Side.shape {B L : Nat} {w : World} {v : Value} {p : PolT} (h : Side B L w v p) : ∃ a cap, v = .slice a (p.1.length + 1) cap := by
  obtain ⟨h0, xs, h1, h2⟩ := h
  obtain ⟨a, cap, e, _⟩ := ownsRow_caps h1
  exact ⟨a, cap, e⟩
/-- What stands while combine fills its two sides. -/
def SdAt (B L sb : Nat) (p q : PolT) (k : Nat) (w : World) : Prop :=
  ∃ s0 s1, w.heap[sb]? = some (.cells #[s0, s1] 201 (0, 0)) ∧ (k = 0 → s0 = .slice none 0 0) ∧ (k ≤ 1 → s1 = .slice none 0 0) ∧ (1 ≤ k → Side B L w s0 p) ∧ (2 ≤ k → Side B L w s1 q)
theorem SdAt.later {B L sb k : Nat} {p q : PolT} {w w' : World} (h : SdAt B L sb p q k w) (hb : Below w.heap.size w w') (hB : B ≤ w.heap.size) : SdAt B L sb p q k w' := by
  obtain ⟨s0, s1, h1, h2, h3, h4, h5⟩ := h
  exact ⟨s0, s1, (hb.block sb (lt_of_block h1)).trans h1, h2, h3, fun h => (h4 h).keep hb hB (KeepT.of_below hb), fun h => (h5 h).keep hb hB (KeepT.of_below hb)⟩
theorem SdAt.first {B L sb : Nat} {p q : PolT} {w : World} {v : Value} (h : SdAt B L sb p q 0 w) (hs : Side B L w v p) (hsb : B ≤ sb) : SdAt B L sb p q 1 (w.setCell ⟨sb, 0, none⟩ v) := by
  obtain ⟨s0, s1, h1, h2, h3, h4, h5⟩ := h
  have hk : KeepT 95 w (w.setCell ⟨sb, 0, none⟩ v) := KeepT.setOther h1 (by decide)
  have hb : Below B w (w.setCell ⟨sb, 0, none⟩ v) := (Below.refl _ _).setCell (p := ⟨sb, 0, none⟩) hsb _
  exact ⟨v, s1, by rw [row_setCell h1]; rfl, fun h => by omega, fun _ => h3 (by omega), fun _ => hs.keep hb (Nat.le_refl _) hk, fun h => by omega⟩
theorem SdAt.second {B L sb : Nat} {p q : PolT} {w : World} {v : Value} (h : SdAt B L sb p q 1 w) (hs : Side B L w v q) (hsb : B ≤ sb) : SdAt B L sb p q 2 (w.setCell ⟨sb, 1, none⟩ v) := by
  obtain ⟨s0, s1, h1, h2, h3, h4, h5⟩ := h
  have hk : KeepT 95 w (w.setCell ⟨sb, 1, none⟩ v) := KeepT.setOther h1 (by decide)
  have hb : Below B w (w.setCell ⟨sb, 1, none⟩ v) := (Below.refl _ _).setCell (p := ⟨sb, 1, none⟩) hsb _
  exact ⟨s0, v, by rw [row_setCell h1]; rfl, fun h => by omega, fun h => by omega, fun _ => (h4 (by omega)).keep hb (Nat.le_refl _) hk, fun _ => hs.keep hb (Nat.le_refl _) hk⟩

/-- What stands in the region that makes the policy: operation 9 makes its box. -/
structure JMk (W : World) (fs : Nat → Value → Prop) (w : World) : Prop where
  later : Below W.heap.size W w
  box : ∀ u, fs 9 u → ∃ g, u = .pointer (some ⟨g, 0, none⟩) ∧ W.heap.size ≤ g ∧ w.heap[g]? = some (.cells #[.slice none 0 0, .int .i64 0] 24 (0, 0))
def SMk (k : Nat) (v : Value) : Prop := if k = 9 then ∃ g : Nat, v = .pointer (some ⟨g, 0, none⟩) else True
theorem sMk_some (k : Nat) : ∃ v, SMk k v := by
  unfold SMk
  split
  · exact ⟨_, 0, rfl⟩
  · exact ⟨undef, trivial⟩
theorem JMk.made {W w : World} {fs : Nat → Value → Prop} (h : JMk W fs w) : JMk W (addF fs 9 (.pointer (some ⟨w.heap.size, 0, none⟩))) (w.alloc (.cells #[.slice none 0 0, .int .i64 0] 24)) := by
  have hb := (Below.refl w.heap.size w).alloc (Nat.le_refl _) (.cells #[.slice none 0 0, .int .i64 0] 24)
  refine ⟨Below.thenOf h.later hb h.later.size, fun u hu => ?_⟩
  rcases hu with hu | ⟨_, rfl⟩
  · obtain ⟨g, e1, e2, e3⟩ := h.box u hu
    exact ⟨g, e1, e2, (hb.block g (lt_of_block e3)).trans e3⟩
  · exact ⟨_, rfl, h.later.size, heap_made _ _⟩

set_option maxHeartbeats 16000000 in
theorem combine_any (exc : Bool) (F : Nat) (hF : ∀ a b w, Calls Tryz.prog F #[.agg #[.int .i64 a, .int .i64 b]] w fun e w' => e = .returned (.int .i64 (ofV exc a b)) ∧ Below w.heap.size w w')
    (hC : ∀ args w', (callFunc F args).run Tryz.prog w' = .ok (.enter F args) w') (B : Nat) (rv sv : Value) (rs ss : List RuleT) (d f : Int) (w : World) (hr : RulesAt B w rv rs) (hs : RulesAt B w sv ss) (hd : wf d) (hf : wf f) (hB : B ≤ w.heap.size) :
    Calls Tryz.prog 116 #[.agg #[rv, .int .i64 d, sv, .int .i64 f], .func (.func F) #[] #[]] w fun e w' => ∃ v, e = .returned (.tuple #[v, .int .i64 (meetE exc (rs, d) (ss, f))]) ∧ PolNew w.heap.size w' v (meetR exc (rs, d) (ss, f)) ∧ Below w.heap.size w w' := by
  have HPr : Hid (∀ B v0 v1 rs ss w, RulesAt B w v0 rs → RulesAt B w v1 ss → B ≤ w.heap.size → rs.length ≤ 121 → ss.length ≤ 121 → (∀ r ∈ rs, r.1.length ≤ 10) → (∀ r ∈ ss, r.1.length ≤ 10) → _) := fun B v0 v1 rs ss w h1 h2 h3 h4 h5 h6 h7 => product_any exc F hF hC B v0 v1 rs ss w h1 h2 h3 h4 h5 h6 h7
  clear hF hC
  have HCp : Hid (∀ w', Below w.heap.size w w' → Calls Tryz.prog 61 #[.agg #[rv, .int .i64 d]] w' fun e w'' => e = .returned (.int .i64 (polErr (rs, d))) ∧ Below w'.heap.size w' w'') := fun w' h => check_pol B _ (rs, d) w' ⟨_, rfl, hd, hr.later h hB⟩ (Nat.le_trans hB h.size)
  have HCq : Hid (∀ w', Below w.heap.size w w' → Calls Tryz.prog 61 #[.agg #[sv, .int .i64 f]] w' fun e w'' => e = .returned (.int .i64 (polErr (ss, f))) ∧ Below w'.heap.size w' w'') := fun w' h => check_pol B _ (ss, f) w' ⟨_, rfl, hf, hs.later h hB⟩ (Nat.le_trans hB h.size)
  have HDp : Hid (polErr (rs, d) = 0 → ∀ w', Below w.heap.size w w' → Calls Tryz.prog 164 #[.agg #[rv, .int .i64 d]] w' fun e w'' => ∃ v, e = .returned v ∧ Side B w'.heap.size w'' v (rs, d) ∧ Below w'.heap.size w' w'') := fun h0 w' h => (withDefault_any B rv rs d w' (hr.later h hB) hd (Nat.le_trans hB h.size) (polErr_ok h0).1).mono fun e w'' ⟨v, e1, xs, e2, e3, e4⟩ => ⟨v, e1, ⟨h0, xs, by simpa using e2, e3⟩, e4⟩
  have HDq : Hid (polErr (ss, f) = 0 → ∀ w', Below w.heap.size w w' → Calls Tryz.prog 164 #[.agg #[sv, .int .i64 f]] w' fun e w'' => ∃ v, e = .returned v ∧ Side B w'.heap.size w'' v (ss, f) ∧ Below w'.heap.size w' w'') := fun h0 w' h => (withDefault_any B sv ss f w' (hs.later h hB) hf (Nat.le_trans hB h.size) (polErr_ok h0).1).mono fun e w'' ⟨v, e1, xs, e2, e3, e4⟩ => ⟨v, e1, ⟨h0, xs, by simpa using e2, e3⟩, e4⟩
  have HWd : Hid (wf (ofV exc d f)) := ofV_wf hd hf
  obtain ⟨a0, c0, e0, -, -, -⟩ := hr
  obtain ⟨a1, c1, e1, -, -, -⟩ := hs
  subst e0 e1
  clear hd hf
  have hml := maxLen_eq
  obtain ⟨p, hp⟩ : ∃ p : PolT, p = (rs, d) := ⟨_, rfl⟩
  obtain ⟨q, hq⟩ : ∃ q : PolT, q = (ss, f) := ⟨_, rfl⟩
  have HPe : Hid (p.1 = rs ∧ p.2 = d ∧ q.1 = ss ∧ q.2 = f) := by rw [hp, hq]; exact ⟨rfl, rfl, rfl, rfl⟩
  rw [← hp] at HCp HDp ⊢
  rw [← hq] at HCq HDq ⊢
  clear hp hq
  obtain ⟨n0, hn0⟩ : ∃ n, n = rs.length := ⟨_, rfl⟩
  obtain ⟨n1, hn1⟩ : ∃ n, n = ss.length := ⟨_, rfl⟩
  have HN0 : Hid (rs.length = n0) := hn0.symm
  have HN1 : Hid (ss.length = n1) := hn1.symm
  rw [← hn0] at HCp HDp ⊢
  rw [← hn1] at HCq HDq ⊢
  clear hn0 hn1
  obtain ⟨W3, hW3⟩ : ∃ W3, W3 = ((w.alloc (.cells #[.slice a0 n0 c0, .int .i64 d, .slice a1 n1 c1, .int .i64 f] 152)).alloc (.cells #[.slice none 0 0, .int .i64 0] 24)).alloc (.cells #[.slice none 0 0, .slice none 0 0] 201) := ⟨_, rfl⟩
  have hs3 : W3.heap.size = w.heap.size + 1 + 1 + 1 := by rw [hW3]; simp
  have hb3 : Below w.heap.size w W3 := by rw [hW3]; exact (((Below.refl _ _).alloc (Nat.le_refl _) _).alloc (by simp) _).alloc (by simp; omega) _
  have g1 : W3.heap[w.heap.size + 1]? = some (.cells #[.slice none 0 0, .int .i64 0] 24 (0, 0)) := by
    rw [hW3]
    exact heap_kept' _ (heap_at _ _ (by simp only [World.size_alloc]))
  have g2 : W3.heap[w.heap.size + 1 + 1]? = some (.cells #[.slice none 0 0, .slice none 0 0] 201 (0, 0)) := by
    rw [hW3]
    exact heap_at _ _ (by simp only [World.size_alloc])
  have HS0 : Hid (SdAt B (w.heap.size + 1 + 1 + 1) (w.heap.size + 1 + 1) p q 0 W3) := ⟨_, _, g2, fun _ => rfl, fun _ => rfl, fun h => by omega, fun h => by omega⟩
  have HRb : Hid (∀ v, Below (w.heap.size + 1 + 1) W3 v → v.heap[w.heap.size + 1]? = some (.cells #[.slice none 0 0, .int .i64 0] 24 (0, 0)) ∧ Below w.heap.size w v) := fun v h => ⟨(h.block _ (by omega)).trans g1, hb3.trans (h.mono (by omega))⟩
  have HW : Hid (W3 = _) := hW3
  clear hW3 g1 g2 hb3
  go_enter Tryz.func116, Tryz.ntmps116
  go_wp2_with fail
  rw [← HW.out]
  go_loopw [15] (fun iv wr => ∃ k : Nat, k ≤ 2 ∧ iv = .int .i64 k ∧ Hid (SdAt B (w.heap.size + 1 + 1 + 1) (w.heap.size + 1 + 1) p q k wr) ∧ Hid (Below (w.heap.size + 1 + 1) W3 wr)) (fun iv _ => 2 - (intOf iv).toNat)
  case atStart => exact ⟨0, by omega, rfl, HS0, Below.refl _ _⟩
  case round =>
    obtain ⟨k, hk, rfl, HS, HBl⟩ := hrel
    obtain ⟨wo, hwo⟩ : ∃ x, x = wr := ⟨_, rfl⟩
    subst hwo
    have hos : w.heap.size + 1 + 1 + 1 ≤ wo.heap.size := by have := HBl.out.size; omega
    have hk' : k = 0 ∨ k = 1 ∨ k = 2 := by omega
    rcases hk' with rfl | rfl | rfl
    · obtain ⟨Wp, hWp⟩ : ∃ Wp, Wp = wo.alloc (.cells #[.slice a0 n0 c0, .int .i64 d] 24) := ⟨_, rfl⟩
      have hbp : Below wo.heap.size wo Wp := by rw [hWp]; exact (Below.refl _ _).alloc (Nat.le_refl _) _
      have hsp : Wp.heap.size = wo.heap.size + 1 := by rw [hWp]; simp
      have gp : Wp.heap[wo.heap.size]? = some (.cells #[.slice a0 n0 c0, .int .i64 d] 24 (0, 0)) := by rw [hWp]; exact heap_made _ _
      have HSp : Hid (SdAt B (w.heap.size + 1 + 1 + 1) (w.heap.size + 1 + 1) p q 0 Wp) := HS.out.later hbp (by omega)
      have HBp : Hid (Below (w.heap.size + 1 + 1) W3 Wp) := Below.thenOf HBl.out hbp (by omega)
      have HWp : Hid (Wp = _) := hWp
      have hix : ∀ w', (Instr.index 152 (.agg #[.slice a0 n0 c0, .int .i64 d, .slice a1 n1 c1, .int .i64 f]) (.int .i64 0)).run Tryz.prog w' = .ok (.agg #[.slice a0 n0 c0, .int .i64 d]) w' := fun w' => by kernel_rfl
      clear hWp hbp HS HBl
      go_wp2_with fail
      rw [← HWp.out]
      clear hix
      go_at_call 61
      refine Calls.mono (HCp.out Wp (HRb.out _ HBp.out).2) ?_
      rintro e w4 ⟨rfl, hb4⟩
      have hs4 := hb4.size
      have g4 : w4.heap[wo.heap.size]? = some (.cells #[.slice a0 n0 c0, .int .i64 d] 24 (0, 0)) := (hb4.block _ (by omega)).trans gp
      have HS4 : Hid (SdAt B (w.heap.size + 1 + 1 + 1) (w.heap.size + 1 + 1) p q 0 w4) := HSp.out.later hb4 (by omega)
      have HB4 : Hid (Below (w.heap.size + 1 + 1) W3 w4) := Below.thenOf HBp.out hb4 (by omega)
      clear gp HSp HBp hb4
      by_cases he : polErr p = 0
      · rw [he]
        have HE : Hid (polErr p = 0) := he
        clear he
        have k0 := heap_cell g4 0 rfl
        have k1 := heap_cell g4 1 rfl
        clear g4
        go_wp2_with fail
        go_at_call 164
        refine Calls.mono (HDp.out HE.out w4 (HRb.out _ HB4.out).2) ?_
        rintro e w5 ⟨v, rfl, hsd, hb5⟩
        have hs5 := hb5.size
        obtain ⟨va, vc, ev⟩ := hsd.shape
        subst ev
        have HS5 : Hid (SdAt B (w.heap.size + 1 + 1 + 1) (w.heap.size + 1 + 1) p q 0 w5) := HS4.out.later hb5 (by omega)
        have HB5 : Hid (Below (w.heap.size + 1 + 1) W3 w5) := Below.thenOf HB4.out hb5 (by omega)
        have HSd : Hid (Side B (w.heap.size + 1 + 1 + 1) w5 (.slice va (p.1.length + 1) vc) p) := by
          obtain ⟨i0, xs, i1, i2⟩ := hsd
          exact ⟨i0, xs, ownsRow_base i1 (by omega), i2⟩
        obtain ⟨s0, s1, hsb, -, -, -, -⟩ := HS5.out
        have y0 : w5.cell? ⟨w.heap.size + 1 + 1, 0, none⟩ = some s0 := heap_cell hsb 0 rfl
        have yf : w5.frozen? ⟨w.heap.size + 1 + 1, 0, none⟩ = false := by simp [World.frozen?, hsb]
        have HNx : Hid (SdAt B (w.heap.size + 1 + 1 + 1) (w.heap.size + 1 + 1) p q 1 (w5.setCell ⟨w.heap.size + 1 + 1, 0, none⟩ (.slice va (p.1.length + 1) vc)) ∧ Below (w.heap.size + 1 + 1) W3 (w5.setCell ⟨w.heap.size + 1 + 1, 0, none⟩ (.slice va (p.1.length + 1) vc))) := ⟨HS5.out.first HSd.out (by omega), HB5.out.setCell (p := ⟨w.heap.size + 1 + 1, 0, none⟩) (Nat.le_refl _) _⟩
        clear hsb hsd hb5 k0 k1 HS4 HB4
        generalize p.1.length + 1 = vn at *
        go_wp2_with fail
        exact ⟨⟨1, by omega, rfl, HNx.out.1, HNx.out.2⟩, by simp [intOf]⟩
      · have HE : Hid (meetE exc p q = polErr p ∧ meetR exc p q = ([], 0)) := by
          have h0 : polsErr [p, q] = polErr p := by unfold polsErr; rw [if_neg he]
          have h1 : meetE exc p q = polErr p := by unfold meetE; rw [if_neg (by rw [h0]; exact he), h0]
          exact ⟨h1, by unfold meetR; rw [if_neg (by rw [h1]; exact he)]⟩
        have hq' : (polErr p != 0) = true := by simpa using he
        obtain ⟨pe, hpe⟩ : ∃ pe, pe = polErr p := ⟨_, rfl⟩
        rw [← hpe] at hq' HE ⊢
        clear he hpe
        obtain ⟨b1, hbw4⟩ := HRb.out _ HB4.out
        have r0 := heap_cell b1 0 rfl
        have r1 := heap_cell b1 1 rfl
        have f0 : w4.frozen? ⟨w.heap.size + 1, 0, none⟩ = false := by simp [World.frozen?, b1]
        have f1 : w4.frozen? ⟨w.heap.size + 1, 1, none⟩ = false := by simp [World.frozen?, b1]
        have HBw : Hid (Below w.heap.size w w4) := hbw4
        clear b1 hbw4 g4 HS4 HB4
        go_wp2_with fail
        refine bodyPost_ret (v := .tuple #[.agg #[.slice none 0 0, .int .i64 0], .int .i64 pe]) ?_ rfl ⟨_, by rw [HE.out.1], by rw [HE.out.2]; exact zeroNew _ _, ?_⟩
        · rw [results_cell_tmp rfl]
          go_simp
        · repeat (first | exact HBw.out | refine Below.setCell ?_ (by simp) _)
    · obtain ⟨Wp, hWp⟩ : ∃ Wp, Wp = wo.alloc (.cells #[.slice a1 n1 c1, .int .i64 f] 24) := ⟨_, rfl⟩
      have hbp : Below wo.heap.size wo Wp := by rw [hWp]; exact (Below.refl _ _).alloc (Nat.le_refl _) _
      have hsp : Wp.heap.size = wo.heap.size + 1 := by rw [hWp]; simp
      have gp : Wp.heap[wo.heap.size]? = some (.cells #[.slice a1 n1 c1, .int .i64 f] 24 (0, 0)) := by rw [hWp]; exact heap_made _ _
      have HSp : Hid (SdAt B (w.heap.size + 1 + 1 + 1) (w.heap.size + 1 + 1) p q 1 Wp) := HS.out.later hbp (by omega)
      have HBp : Hid (Below (w.heap.size + 1 + 1) W3 Wp) := Below.thenOf HBl.out hbp (by omega)
      have HWp : Hid (Wp = _) := hWp
      have hix : ∀ w', (Instr.index 152 (.agg #[.slice a0 n0 c0, .int .i64 d, .slice a1 n1 c1, .int .i64 f]) (.int .i64 1)).run Tryz.prog w' = .ok (.agg #[.slice a1 n1 c1, .int .i64 f]) w' := fun w' => by kernel_rfl
      clear hWp hbp HS HBl
      go_wp2_with fail
      rw [← HWp.out]
      clear hix
      go_at_call 61
      refine Calls.mono (HCq.out Wp (HRb.out _ HBp.out).2) ?_
      rintro e w4 ⟨rfl, hb4⟩
      have hs4 := hb4.size
      have g4 : w4.heap[wo.heap.size]? = some (.cells #[.slice a1 n1 c1, .int .i64 f] 24 (0, 0)) := (hb4.block _ (by omega)).trans gp
      have HS4 : Hid (SdAt B (w.heap.size + 1 + 1 + 1) (w.heap.size + 1 + 1) p q 1 w4) := HSp.out.later hb4 (by omega)
      have HB4 : Hid (Below (w.heap.size + 1 + 1) W3 w4) := Below.thenOf HBp.out hb4 (by omega)
      clear gp HSp HBp hb4
      by_cases he : polErr q = 0
      · rw [he]
        have HE : Hid (polErr q = 0) := he
        clear he
        have k0 := heap_cell g4 0 rfl
        have k1 := heap_cell g4 1 rfl
        clear g4
        go_wp2_with fail
        go_at_call 164
        refine Calls.mono (HDq.out HE.out w4 (HRb.out _ HB4.out).2) ?_
        rintro e w5 ⟨v, rfl, hsd, hb5⟩
        have hs5 := hb5.size
        obtain ⟨va, vc, ev⟩ := hsd.shape
        subst ev
        have HS5 : Hid (SdAt B (w.heap.size + 1 + 1 + 1) (w.heap.size + 1 + 1) p q 1 w5) := HS4.out.later hb5 (by omega)
        have HB5 : Hid (Below (w.heap.size + 1 + 1) W3 w5) := Below.thenOf HB4.out hb5 (by omega)
        have HSd : Hid (Side B (w.heap.size + 1 + 1 + 1) w5 (.slice va (q.1.length + 1) vc) q) := by
          obtain ⟨i0, xs, i1, i2⟩ := hsd
          exact ⟨i0, xs, ownsRow_base i1 (by omega), i2⟩
        obtain ⟨s0, s1, hsb, -, -, -, -⟩ := HS5.out
        have y0 : w5.cell? ⟨w.heap.size + 1 + 1, 1, none⟩ = some s1 := heap_cell hsb 1 rfl
        have yf : w5.frozen? ⟨w.heap.size + 1 + 1, 1, none⟩ = false := by simp [World.frozen?, hsb]
        have HNx : Hid (SdAt B (w.heap.size + 1 + 1 + 1) (w.heap.size + 1 + 1) p q 2 (w5.setCell ⟨w.heap.size + 1 + 1, 1, none⟩ (.slice va (q.1.length + 1) vc)) ∧ Below (w.heap.size + 1 + 1) W3 (w5.setCell ⟨w.heap.size + 1 + 1, 1, none⟩ (.slice va (q.1.length + 1) vc))) := ⟨HS5.out.second HSd.out (by omega), HB5.out.setCell (p := ⟨w.heap.size + 1 + 1, 1, none⟩) (Nat.le_refl _) _⟩
        clear hsb hsd hb5 k0 k1 HS4 HB4
        generalize q.1.length + 1 = vn at *
        go_wp2_with fail
        exact ⟨⟨2, by omega, rfl, HNx.out.1, HNx.out.2⟩, by simp [intOf]⟩
      · have HE : Hid (meetE exc p q = polErr q ∧ meetR exc p q = ([], 0)) := by
          have h0 : polsErr [p, q] = polErr q := by unfold polsErr; rw [if_pos ((show Side B _ _ _ p from (HS4.out.choose_spec.choose_spec.2.2.2.1 (by omega))).1)]; unfold polsErr; rw [if_neg he]
          have h1 : meetE exc p q = polErr q := by unfold meetE; rw [if_neg (by rw [h0]; exact he), h0]
          exact ⟨h1, by unfold meetR; rw [if_neg (by rw [h1]; exact he)]⟩
        have hq' : (polErr q != 0) = true := by simpa using he
        obtain ⟨pe, hpe⟩ : ∃ pe, pe = polErr q := ⟨_, rfl⟩
        rw [← hpe] at hq' HE ⊢
        clear he hpe
        obtain ⟨b1, hbw4⟩ := HRb.out _ HB4.out
        have r0 := heap_cell b1 0 rfl
        have r1 := heap_cell b1 1 rfl
        have f0 : w4.frozen? ⟨w.heap.size + 1, 0, none⟩ = false := by simp [World.frozen?, b1]
        have f1 : w4.frozen? ⟨w.heap.size + 1, 1, none⟩ = false := by simp [World.frozen?, b1]
        have HBw : Hid (Below w.heap.size w w4) := hbw4
        clear b1 hbw4 g4 HS4 HB4
        go_wp2_with fail
        refine bodyPost_ret (v := .tuple #[.agg #[.slice none 0 0, .int .i64 0], .int .i64 pe]) ?_ rfl ⟨_, by rw [HE.out.1], by rw [HE.out.2]; exact zeroNew _ _, ?_⟩
        · rw [results_cell_tmp rfl]
          go_simp
        · repeat (first | exact HBw.out | refine Below.setCell ?_ (by simp) _)
    · obtain ⟨s0, s1, hsb, -, -, hS0, hS1⟩ := HS.out
      have hS0 := hS0 (by omega)
      have hS1 := hS1 (by omega)
      obtain ⟨hl0, ht0⟩ := hS0.ten
      obtain ⟨hl1, ht1⟩ := hS1.ten
      have HP0 : Hid (polsErr [p, q] = 0) := by unfold Hid polsErr; rw [if_pos hS0.1]; unfold polsErr; rw [if_pos hS1.1]; rfl
      have HE : Hid (meetE exc p q = polErr (meetP exc p q)) := by unfold Hid; rw [meetE, if_pos HP0.out]
      obtain ⟨M, hM⟩ : ∃ M, M = (meetRs exc p q).length + 1 := ⟨_, rfl⟩
      obtain ⟨N0, hN0⟩ : ∃ N, N = p.1.length + 1 := ⟨_, rfl⟩
      obtain ⟨N1, hN1⟩ : ∃ N, N = q.1.length + 1 := ⟨_, rfl⟩
      have hMN : M = N0 * N1 := by rw [hM, hN0, hN1]; exact meetRs_len exc p q
      have hMM : (N0 : Int) * (N1 : Int) = (M : Int) := by rw [hMN]; simp
      have hMle : M ≤ 14641 := by rw [hMN]; exact Nat.le_trans (Nat.mul_le_mul (by omega : N0 ≤ 121) (by omega : N1 ≤ 121)) (by decide)
      have HPc : Hid (M ≤ 121 → Calls Tryz.prog 165 #[.agg #[s0, s1], .func (.func F) #[] #[]] wo fun e w' => ∃ v, e = .returned v ∧ ∃ xs, w'.ownsRow wo.heap.size 95 2 v (meetRs exc p q ++ [([], ofV exc p.2 q.2)]).length xs ∧ XsN wo.heap.size w' xs (meetRs exc p q ++ [([], ofV exc p.2 q.2)]) ∧ Below wo.heap.size wo w') := fun _ => by
        have h := HPr.out wo.heap.size s0 s1 _ _ wo (hS0.rules (by omega)) (hS1.rules (by omega)) (Nat.le_refl _) (by simp; omega) (by simp; omega) ht0 ht1
        rw [prodR_meet] at h
        exact h
      obtain ⟨sa0, sc0, es0⟩ := hS0.shape
      obtain ⟨sa1, sc1, es1⟩ := hS1.shape
      rw [← hN0] at es0
      rw [← hN1] at es1
      subst es0 es1
      have y0 := heap_cell hsb 0 rfl
      have y1 := heap_cell hsb 1 rfl
      have HM : Hid (M = (meetRs exc p q).length + 1) := hM
      have hN0' : (N0 : Int) ≤ 121 := by omega
      have hN1' : (N1 : Int) ≤ 121 := by omega
      obtain ⟨b1, hbw⟩ := HRb.out _ HBl.out
      have HBw : Hid (Below w.heap.size w wo) := hbw
      have HBx : Hid (∀ v, Below wo.heap.size wo v → v.heap[w.heap.size + 1]? = some (.cells #[.slice none 0 0, .int .i64 0] 24 (0, 0))) := fun v h => (h.block _ (by omega)).trans b1
      have hwm : wrap64 ((N0 : Int) * (N1 : Int)) = (M : Int) := by rw [hMM]; unfold wrap64; omega
      clear hM hN0 hN1 hMN hMM hS0 hS1 hl0 hl1 ht0 ht1 hbw HS HBl HPr HDp HDq HCp HCq HS0
      by_cases h121 : 121 < M
      · have h121' : (121 : Int) < (M : Int) := by omega
        have HE2 : Hid (meetE exc p q = 2 ∧ meetR exc p q = ([], 0)) := by
          have h1 : meetE exc p q = 2 := by
            rw [HE.out]
            unfold polErr
            rw [if_pos]
            show 120 < (meetRs exc p q).length
            have := HM.out
            omega
          exact ⟨h1, by unfold meetR; rw [if_neg (by rw [h1]; decide)]⟩
        have r0 := heap_cell b1 0 rfl
        have r1 := heap_cell b1 1 rfl
        have f0 : wo.frozen? ⟨w.heap.size + 1, 0, none⟩ = false := by simp [World.frozen?, b1]
        have f1 : wo.frozen? ⟨w.heap.size + 1, 1, none⟩ = false := by simp [World.frozen?, b1]
        clear b1 hsb
        go_wp2_with fail
        refine bodyPost_ret (v := .tuple #[.agg #[.slice none 0 0, .int .i64 0], .int .i64 2]) ?_ rfl ⟨_, by rw [HE2.out.1], by rw [HE2.out.2]; exact zeroNew _ _, ?_⟩
        · rw [results_cell_tmp rfl]
          go_simp
        · repeat (first | exact HBw.out | refine Below.setCell ?_ (by simp) _)
      · have h121' : ¬ ((121 : Int) < (M : Int)) := by omega
        clear b1 hsb
        go_wp2_with fail
        go_at_call 165
        refine Calls.mono (HPc.out (by omega)) ?_
        rintro e w7 ⟨v, rfl, xs, ho, hx, hb7⟩
        obtain ⟨m, hm⟩ : ∃ m, m = (meetRs exc p q).length := ⟨_, rfl⟩
        have hMm : M = m + 1 := by rw [HM.out, hm]
        have hlen : (meetRs exc p q ++ [(([] : List CondT), ofV exc p.2 q.2)]).length = M := by rw [HM.out]; simp
        have ho' : w7.ownsRow wo.heap.size 95 2 v M xs := by rw [← hlen]; exact ho
        obtain ⟨a7, c7, e7, hle7, hcm7, hg7⟩ := ownsRow_caps ho'
        subst e7
        obtain ⟨g, eg, hgL, hgl⟩ := hg7 (by omega)
        subst eg
        obtain ⟨vd, hvd⟩ : ∃ vd, vd = ofV exc p.2 q.2 := ⟨_, rfl⟩
        have hWd : wf vd := by
          have := HWd.out
          obtain ⟨-, e2, -, e4⟩ := HPe.out
          rw [hvd, e2, e4]
          exact this
        have z1 : w7.cell? ⟨g, m * 2 + 1, none⟩ = some (.int .i64 vd) := by
          obtain ⟨cv, -, k1, -⟩ := hx.2.2 m ([], ofV exc p.2 q.2) (by rw [hm]; simp)
          rw [hvd]
          exact ownsRow_cell ho' _ _ k1
        have HNw : Hid (PolNew wo.heap.size w7 (.agg #[.slice (some ⟨g, 0, none⟩) m c7, .int .i64 vd]) (meetP exc p q)) := by
          have h := polNew_own (d := vd) (m := m) ho hx (by rw [hm]; simp) hWd
          rw [hm, List.take_left', ← hm] at h
          · rw [hvd] at h ⊢
            exact h
          · rfl
        have hs7 := hb7.size
        have HBx7 : Hid (∀ v, Below w7.heap.size w7 v → v.heap[w.heap.size + 1]? = some (.cells #[.slice none 0 0, .int .i64 0] 24 (0, 0)) ∧ Below w.heap.size w v) := fun v h => ⟨HBx.out v (Below.thenOf hb7 h hb7.size), Below.thenOf HBw.out (Below.thenOf hb7 h hb7.size) (by omega)⟩
        have hwm1 : wrap64 ((M : Int) - 1) = (m : Int) := by unfold wrap64; omega
        have hMs : (M : Int) - 1 = (m : Int) := by omega
        have hmM : (m : Int) < (M : Int) := by omega
        have hm0 : (0 : Int) ≤ (m : Int) := by omega
        have hmn : m < M := by omega
        rw [hml] at hcm7
        have HLt : Hid (w.heap.size + 1 < wo.heap.size ∧ wo.heap.size ≤ w7.heap.size) := ⟨by omega, hs7⟩
        clear ho hx ho' hlen hm hMm hvd hb7 HPc y0 y1 HM HBx hgL hwm hN0' hN1' hMle
        clear hg7
        go_wp2_with fail
        clear hMs hwm1 h121' h121
        have hne := Later.ne w7
        have q7 : ∀ y : Later w7, y.1.cell? ⟨g, m * 2 + 1, none⟩ = some (.int .i64 vd) := fun y => y.cell z1 hgl
        have hDJ : Hid (∀ fs w', JMk w7 fs w' → ∃ z : Later w7, w' = z.1) := fun fs w' h => ⟨⟨w', h.later⟩, rfl⟩
        clear z1
        refine wp_region_free [_, _, _, _, _, _, _, _, _, _] _ rfl (fun k => k == 9) (JMk w7) SMk sMk_some (by kernel_rfl) (by kernel_rfl) ⟨(Below.refl _ _).drew, fun _ h => h.elim⟩ ?_
        iterate 2 (refine wpG_read hDJ.out rfl rfl ?_; go_big_quiet_step (fail); refine wpQuiet_nil ?_)
        refine wpG_readV (.slice (some ⟨g, 0, none⟩) m c7) rfl rfl (fun w' => ?_) ?_
        · clear q7 hDJ hne
          go_simp
          intro hh
          exfalso
          omega
        simp only [Act.put, List.setIfInBounds_toArray, List.set_cons_succ, List.set_cons_zero]
        iterate 5 (refine wpG_read hDJ.out rfl rfl ?_; go_big_quiet_step (fail); refine wpQuiet_nil ?_)
        refine wpG_readV (.agg #[.slice (some ⟨g, 0, none⟩) m c7, .int .i64 vd]) rfl rfl (fun w' => ?_) ?_
        · clear q7 hDJ hne
          go_simp
        simp only [Act.put, List.setIfInBounds_toArray, List.set_cons_succ, List.set_cons_zero]
        refine wpG_write rfl rfl (fun gs w' hJ hdep hno => ⟨.pointer (some ⟨w'.heap.size, 0, none⟩), w'.alloc (.cells #[.slice none 0 0, .int .i64 0] 24), ?_, ⟨_, rfl⟩, hJ.made⟩) (fun v9 hv9 => ?_)
        · clear hJ hdep hno q7 hDJ hne
          go_simp
        simp only [Act.put, List.setIfInBounds_toArray, List.set_cons_succ, List.set_cons_zero]
        obtain ⟨g9, rfl⟩ : ∃ g : Nat, v9 = .pointer (some ⟨g, 0, none⟩) := hv9
        refine wpG_nil ?_
        intro w9 hJ
        obtain ⟨g9', e9, hg9, hb9⟩ := hJ.box _ (.inr ⟨rfl, rfl⟩)
        simp at e9
        subst e9
        have hl9 := hJ.later
        have y0 := heap_cell hb9 0 rfl
        have y1 := heap_cell hb9 1 rfl
        have f0 : w9.frozen? ⟨g9, 0, none⟩ = false := by simp [World.frozen?, hb9]
        have f1 : w9.frozen? ⟨g9, 1, none⟩ = false := by simp [World.frozen?, hb9]
        obtain ⟨W10, hW10⟩ : ∃ W10, W10 = (w9.setCell ⟨g9, 0, none⟩ (.slice (some ⟨g, 0, none⟩) m c7)).setCell ⟨g9, 1, none⟩ (.int .i64 vd) := ⟨_, rfl⟩
        have hb10 : Below w7.heap.size w7 W10 := by rw [hW10]; exact (hl9.setCell (p := ⟨g9, 0, none⟩) hg9 _).setCell (p := ⟨g9, 1, none⟩) hg9 _
        have hg10 : W10.heap[g9]? = some (.cells #[.slice (some ⟨g, 0, none⟩) m c7, .int .i64 vd] 24 (0, 0)) := by
          have h1 := row_setCell (o := 0) (u := .slice (some ⟨g, 0, none⟩) m c7) hb9
          have h2 := row_setCell (o := 1) (u := .int .i64 vd) h1
          rw [hW10]
          exact h2
        have HW10 : Hid (W10 = _) := hW10
        have HN10 : Hid (PolNew wo.heap.size W10 (.agg #[.slice (some ⟨g, 0, none⟩) m c7, .int .i64 vd]) (meetP exc p q)) := HNw.out.later (Nat.le_refl _) hb10
        have HCk : Hid (Calls Tryz.prog 61 #[.agg #[.slice (some ⟨g, 0, none⟩) m c7, .int .i64 vd]] W10 fun e w'' => e = .returned (.int .i64 (polErr (meetP exc p q))) ∧ Below W10.heap.size W10 w'') := check_pol _ _ _ _ HN10.out.at (Nat.le_refl _)
        clear hW10 hb9 hJ hl9 q7 hDJ hne
        go_wp2_with fail
        rw [← HW10.out]
        go_at_call 61
        refine Calls.mono HCk.out ?_
        rintro e w11 ⟨rfl, hb11⟩
        have hb711 : Below w7.heap.size w7 w11 := Below.thenOf hb10 hb11 hb10.size
        obtain ⟨b1, hbw11⟩ := HBx7.out w11 hb711
        have hg11 := (hb11.block g9 (lt_of_block hg10)).trans hg10
        have HBw11 : Hid (Below w.heap.size w w11) := hbw11
        have HN11 : Hid (PolNew w.heap.size w11 (.agg #[.slice (some ⟨g, 0, none⟩) m c7, .int .i64 vd]) (meetP exc p q)) := HN10.out.later (by have := HLt.out; omega) hb11
        have HN11' : Hid (PolNew (w.heap.size + 1 + 1) w11 (.agg #[.slice (some ⟨g, 0, none⟩) m c7, .int .i64 vd]) (meetP exc p q)) := HN10.out.later (by have := HLt.out; omega) hb11
        have r0 := heap_cell b1 0 rfl
        have r1 := heap_cell b1 1 rfl
        have t0 : w11.frozen? ⟨w.heap.size + 1, 0, none⟩ = false := by simp [World.frozen?, b1]
        have t1 : w11.frozen? ⟨w.heap.size + 1, 1, none⟩ = false := by simp [World.frozen?, b1]
        have k0 := heap_cell hg11 0 rfl
        have k1 := heap_cell hg11 1 rfl
        clear hb711 hbw11 hb11 hb10 hg10 hg11 b1 y0 y1 f0 f1
        by_cases he : polErr (meetP exc p q) = 0
        · have HR : Hid (meetE exc p q = 0 ∧ meetR exc p q = meetP exc p q) := by
            have h1 : meetE exc p q = 0 := by rw [HE.out, he]
            exact ⟨h1, by unfold meetR; rw [if_pos h1]⟩
          rw [he]
          clear he
          go_wp2_with fail
          refine bodyPost_ret (v := .tuple #[.agg #[.slice (some ⟨g, 0, none⟩) m c7, .int .i64 vd], .int .i64 0]) ?_ rfl ⟨_, by rw [HR.out.1], ?_, ?_⟩
          · rw [results_cell_tmp rfl]
            go_simp
          · rw [HR.out.2]
            refine PolNew.keep (L := w.heap.size + 1 + 1) ?_ (by omega) (fun g _ _ => rfl) (Nat.le_refl _)
            repeat (first | exact HN11'.out | refine PolNew.put ?_ (.inl (by simp)))
          · repeat (first | exact HBw11.out | refine Below.setCell ?_ (by simp) _)
        · have HR : Hid (meetE exc p q = polErr (meetP exc p q) ∧ meetR exc p q = ([], 0)) := ⟨HE.out, by unfold meetR; rw [if_neg (by rw [HE.out]; exact he)]⟩
          have hq' : (polErr (meetP exc p q) != 0) = true := by simpa using he
          obtain ⟨pe, hpe⟩ : ∃ pe, pe = polErr (meetP exc p q) := ⟨_, rfl⟩
          rw [← hpe] at hq' HR ⊢
          clear he hpe
          go_wp2_with fail
          refine bodyPost_ret (v := .tuple #[.agg #[.slice none 0 0, .int .i64 0], .int .i64 pe]) ?_ rfl ⟨_, by rw [HR.out.1], by rw [HR.out.2]; exact zeroNew _ _, ?_⟩
          · rw [results_cell_tmp rfl]
            go_simp
          · repeat (first | exact HBw11.out | refine Below.setCell ?_ (by simp) _)
end Go.Proofs.YtbdlojnigflanacGreatDoor
