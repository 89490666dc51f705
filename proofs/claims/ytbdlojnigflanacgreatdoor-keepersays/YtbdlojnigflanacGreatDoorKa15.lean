/- What the counterpart's Shorter says. -/
import Derived.Test.YtbdlojnigflanacGreatDoorKa14
import Derived.Test.YtbdlojnigflanacGreatDoorKa10
set_option linter.all false
set_option maxRecDepth 100000
namespace Go.Proofs.YtbdlojnigflanacGreatDoor
open Go.RowKit Go.Maps

theorem keepFrom_snoc (p : PolT) (r : RuleT) : ∀ (l : List RuleT) (k : Nat), keepFrom p k (l ++ [r]) = keepFrom p k l ++ if keepIdx p ((k + l.length : Nat) : Int) then [r] else []
  | [], k => by
    show keepFrom p k [r] = _
    unfold keepFrom
    simp [keepFrom]
  | s :: l, k => by
    have ih := keepFrom_snoc p r l (k + 1)
    rw [show k + 1 + l.length = k + (s :: l).length by simp; omega] at ih
    show keepFrom p k (s :: (l ++ [r])) = _
    unfold keepFrom
    split
    · rw [ih]; rfl
    · rw [ih]
theorem cutEnd_snoc (d : Int) (r : RuleT) : ∀ l : List RuleT, cutEnd d (l ++ [r]) = if r.2 = d then cutEnd d l else l ++ [r]
  | [] => by
    show (if cutEnd d [] = [] ∧ r.2 = d then [] else r :: cutEnd d []) = _
    by_cases h : r.2 = d <;> simp [h, cutEnd]
  | s :: l => by
    have ih := cutEnd_snoc d r l
    show (if cutEnd d (l ++ [r]) = [] ∧ s.2 = d then [] else s :: cutEnd d (l ++ [r])) = _
    rw [ih]
    by_cases h : r.2 = d
    · rw [if_pos h, if_pos h]
      rfl
    · rw [if_neg h, if_neg h, if_neg (by simp)]
      rfl
theorem cutEnd_is_take (d : Int) (l : List RuleT) : cutEnd d l = l.take (cutEnd d l).length := by
  obtain ⟨n, h⟩ := cutEnd_take d l
  rw [h, List.length_take]
  by_cases hn : n ≤ l.length
  · rw [Nat.min_eq_left hn]
  · rw [Nat.min_eq_right (by omega), List.take_of_length_le (by omega), List.take_length]
theorem infoRuleS : ∃ i, Tryz.prog.info? 95 = some i ∧ i.zero = some (.agg #[.slice none 0 0, .int .i64 0]) ∧ i.size = 2 ∧ i.bytes = 32 := infoOf (by kernel_rfl)
theorem xs_one {B : Nat} {w : World} {a : Option Addr} {n c : Nat} {r : RuleT} (h : CondsAt B w (.slice a n c) r.1) (hw : wf r.2) : XsAt B w [.slice a n c, .int .i64 r.2] [r] := by
  refine ⟨rfl, fun u hu => ?_, fun i s hs => ?_⟩
  · simp at hu
    rcases hu with rfl | rfl <;> rfl
  · match i, hs with
    | 0, hs =>
      simp at hs
      subst hs
      exact ⟨_, rfl, rfl, hw, h⟩
    | i + 1, hs => simp at hs
theorem RulesAt.take {B : Nat} {w : World} {a : Option Addr} {n c : Nat} {rs : List RuleT} (h : RulesAt B w (.slice a n c) rs) (m : Nat) (hm : m ≤ rs.length) : RulesAt B w (.slice a m c) (rs.take m) := by
  obtain ⟨a', c', e, h1, h2, h3⟩ := h
  simp at e
  obtain ⟨rfl, rfl, rfl⟩ := e
  refine ⟨a, c, by rw [List.length_take, Nat.min_eq_left hm], by rw [List.length_take]; omega, h2, fun i r hr => ?_⟩
  rw [List.getElem?_take] at hr
  split at hr
  · exact h3 i r hr
  · cases hr
def shortR (p : PolT) : PolT := if pointsE [p] = 0 then shortP p else ([], 0)
theorem own_lt {w : World} {base size n : Nat} {e : TypeId} {v : Value} {xs : List Value} (h : w.ownsRow base e size v n xs) : ∀ k, v.ownBlock = some k → k < w.heap.size := fun k hk => by
  obtain ⟨cur, hc⟩ := ownsRow_tag h k hk
  exact lt_of_block hc
/-- A policy whose rules, if there are any, lie in a block from L on. -/
def RowFrom (L : Nat) (v : Value) : Prop := ∀ (b o n c : Nat) (d : Value), v = .agg #[.slice (some ⟨b, o, none⟩) n c, d] → L ≤ b

set_option maxHeartbeats 8000000 in
theorem shorter_new (B : Nat) (pv : Value) (p : PolT) (w : World) (hp : PolAt B w pv p) (hB : B ≤ w.heap.size) :
    Calls Tryz.prog 191 #[pv] w fun e w' => ∃ rv, e = .returned (.tuple #[rv, .int .i64 (pointsE [p])]) ∧ PolAt w'.heap.size w' rv (shortR p) ∧ RowFrom w.heap.size rv ∧ Below w.heap.size w w' := by
  obtain ⟨inf, hi1, hi2, hi3, hi4⟩ := infoRuleS
  have HP : Hid (∀ w', Below w.heap.size w w' → PolAt B w' pv p) := fun w' h => hp.later h hB
  obtain ⟨rs, d⟩ := p
  obtain ⟨rv, e1, hd, hrs⟩ := hp
  have HRS : Hid (∀ w', Below w.heap.size w w' → RulesAt B w' rv rs) := fun w' h => hrs.later h hB
  obtain ⟨a, cap, e3, hlc, hcm, -⟩ := hrs
  simp only at e1 e3 hd
  subst e3 e1
  have hdH : Hid (wf d) := hd
  clear hd
  generalize hn1 : rs.length = n1 at *
  have hnH : Hid (rs.length = n1) := hn1
  clear hn1
  have hml := maxLen_eq
  obtain ⟨W2, hW2⟩ : ∃ W2, W2 = (w.alloc (.cells #[.slice a n1 cap, .int .i64 d] 24)).alloc (.cells #[.slice none 0 0, .int .i64 0] 24) := ⟨_, rfl⟩
  have hs2 : W2.heap.size = w.heap.size + 1 + 1 := by rw [hW2]; simp
  have hb2 : Below w.heap.size w W2 := by rw [hW2]; exact ((Below.refl _ _).alloc (Nat.le_refl _) _).alloc (by simp) _
  have HBx : Hid (∀ w', Below (w.heap.size + 2) W2 w' → w'.heap[w.heap.size]? = some (.cells #[.slice a n1 cap, .int .i64 d] 24 (0, 0)) ∧ w'.heap[w.heap.size + 1]? = some (.cells #[.slice none 0 0, .int .i64 0] 24 (0, 0))) := by
    intro w' h
    have e0 : W2.heap[w.heap.size]? = some (.cells #[.slice a n1 cap, .int .i64 d] 24 (0, 0)) := by
      rw [hW2, Below.heap_alloc _ _ _ (by simp)]
      exact heap_made _ _
    have e1 : W2.heap[w.heap.size + 1]? = some (.cells #[.slice none 0 0, .int .i64 0] 24 (0, 0)) := by
      rw [hW2]
      have := heap_made (w.alloc (.cells #[.slice a n1 cap, .int .i64 d] 24)) (.cells #[.slice none 0 0, .int .i64 0] 24)
      rw [World.size_alloc] at this
      exact this
    exact ⟨(h.block _ (by omega)).trans e0, (h.block _ (by omega)).trans e1⟩
  have hPt := pols_one (p := (rs, d)) (Nat.le_trans hB hb2.size) (HRS.out _ hb2) hdH.out 24
  have HPo := pointsOf_any _ _ _ _ hPt (by simp) (by simp)
  rw [hs2] at HPo
  have HPo' : Hid _ := HPo
  have hb4 : Below (w.heap.size + 2) W2 (W2.alloc (.cells #[.slice a n1 cap, .int .i64 d] 24)) := (Below.refl _ _).alloc (by omega) _
  have hs4 : (W2.alloc (.cells #[.slice a n1 cap, .int .i64 d] 24)).heap.size = w.heap.size + 3 := by simp [hs2]
  clear HPo hPt
  go_enter Tryz.func191, Tryz.ntmps191
  go_wp2_with fail
  rw [← hW2]
  clear hW2
  go_at_call 220
  refine Calls.mono HPo'.out ?_
  rintro e w5 ⟨v5, rfl, ho5, hb5⟩
  rw [hs4] at hb5 ho5
  have hb25 : Below (w.heap.size + 2) W2 w5 := Below.trans hb4 (hb5.mono (by omega))
  have hbw5 : Below w.heap.size w w5 := hb2.trans (hb25.mono (by omega))
  have hs5 := hb5.size
  rw [hs4] at hs5
  have l5 : w.heap.size < w5.heap.size := by omega
  have l6 : w.heap.size + 1 < w5.heap.size := by omega
  obtain ⟨a5, cap5, rfl, hc5, hc5m, hsh⟩ := ownsRow_caps ho5
  by_cases hpe : pointsE [(rs, d)] = 0
  case neg =>
    have HE : Hid (shortR (rs, d) = ([], 0)) := by unfold Hid shortR; rw [if_neg hpe]
    have hq : (pointsE [(rs, d)] != 0) = true := by simpa using hpe
    obtain ⟨pe, hpe'⟩ : ∃ pe, pe = pointsE [(rs, d)] := ⟨_, rfl⟩
    rw [← hpe'] at hq ⊢
    have hpeH : Hid (pointsE [(rs, d)] = pe) := hpe'.symm
    clear hpe hpe' ho5 hsh HPo'
    obtain ⟨b0, b1⟩ := HBx.out _ hb25
    have r0 := heap_cell b1 0 rfl
    have r1 := heap_cell b1 1 rfl
    have f0 : w5.frozen? ⟨w.heap.size + 1, 0, none⟩ = false := by simp [World.frozen?, b1]
    have f1 : w5.frozen? ⟨w.heap.size + 1, 1, none⟩ = false := by simp [World.frozen?, b1]
    clear b0 b1
    go_wp2_with fail
    refine bodyPost_ret (v := .tuple #[.agg #[.slice none 0 0, .int .i64 0], .int .i64 pe]) ?_ rfl ⟨_, by rw [hpeH.out], ?_, fun b o n c d h => by simp at h, ?_⟩
    · rw [results_cell_tmp rfl]
      go_simp
    · rw [HE.out]
      exact ⟨_, rfl, WalkArith.wf_i64 (by simp only []; omega), none, 0, rfl, Nat.le_refl _, Nat.zero_le _, fun i r h => by simp at h⟩
    · repeat (first | exact hbw5 | refine Below.setCell ?_ (by simp) _)
  case pos =>
    have HSR : Hid (shortR (rs, d) = (cutEnd d (keepFrom (rs, d) 0 rs), d)) := by unfold Hid shortR; rw [if_pos hpe]; rfl
    have hok : AllOk [(rs, d)] := (pointsE_ok.1 hpe).1
    have hpp : polErr (rs, d) = 0 := hok _ (by simp)
    have hppH : Hid (polErr (rs, d) = 0) := hpp
    have hn120 : n1 ≤ 120 := by rw [← hnH.out]; exact (polErr_ok hpp).1
    have hPL0 : pointsL [(rs, d)] = pointsP [(rs, d)] := by rw [pointsL, if_pos hpe]
    have H5 : Hid (∀ x ∈ pointsL [(rs, d)], ∃ a b c d e, x = [a, b, c, d, e]) := fun x hx => point_five hx
    have HCk : Hid (∀ x ∈ pointsL [(rs, d)], chkx (ofL x) = 0) := by
      intro x hx
      rw [hPL0] at hx
      obtain ⟨y, rfl, hy, _⟩ := point_right hok hx
      have : chkx (ofL (fieldsOf y)) = chkx y := by unfold chkx; rw [ofL_fields y 0 (by omega), ofL_fields y 1 (by omega), ofL_fields y 2 (by omega), ofL_fields y 3 (by omega), ofL_fields y 4 (by omega)]
      rw [this]
      exact hy
    have HKp : Hid (∀ i : Int, keepIdx (rs, d) i = (pointsL [(rs, d)]).any fun x => kP (rs, d) (ofL x) == i) := fun i => by rw [hPL0]; rfl
    have hpe0 : Hid (pointsE [(rs, d)] = 0) := hpe
    rw [hpe]
    obtain ⟨PL, hPL⟩ : ∃ PL, PL = pointsL [(rs, d)] := ⟨_, rfl⟩
    rw [← hPL] at ho5 hc5 hsh H5 HCk HKp ⊢
    clear hPL0 hPL hok hpp hpe
    have HCl : Hid (∀ (i : Nat) (x0 x1 x2 x3 x4 : Int), PL[i]? = some [x0, x1, x2, x3, x4] → ∃ g, a5 = some ⟨g, 0, none⟩ ∧ g < w5.heap.size ∧ w5.cell? ⟨g, i * 5, none⟩ = some (.int .i64 x0) ∧ w5.cell? ⟨g, i * 5 + 1, none⟩ = some (.int .i64 x1) ∧ w5.cell? ⟨g, i * 5 + 2, none⟩ = some (.int .i64 x2) ∧ w5.cell? ⟨g, i * 5 + 3, none⟩ = some (.int .i64 x3) ∧ w5.cell? ⟨g, i * 5 + 4, none⟩ = some (.int .i64 x4)) := by
      intro i x0 x1 x2 x3 x4 hx
      have hi := (List.getElem?_eq_some_iff.1 hx).1
      obtain ⟨g, rfl, _, hg⟩ := hsh (by omega)
      obtain ⟨h0, h1, h2, h3, h4⟩ := callCells_get PL H5.out i x0 x1 x2 x3 x4 hx
      exact ⟨g, rfl, hg, ownsRow_cell ho5 _ _ h0, ownsRow_cell ho5 _ _ h1, ownsRow_cell ho5 _ _ h2, ownsRow_cell ho5 _ _ h3, ownsRow_cell ho5 _ _ h4⟩
    clear ho5 hsh hb5 HPo' hb4 hs4
    generalize hN : PL.length = N at *
    have hNH : Hid (PL.length = N) := hN
    clear hN
    obtain ⟨b0, b1⟩ := HBx.out _ hb25
    have p0 := heap_cell b0 0 rfl
    have p1 := heap_cell b0 1 rfl
    clear b0 b1
    have hO0 : Hid ((w5.alloc (.cells #[.slice none 0 0, .int .i64 d] 24)).heap[w5.heap.size]? = some (.cells #[.slice none 0 0, .int .i64 d] 24 (0, 0))) := heap_made _ _
    have hbO : Hid (∀ X, Below w5.heap.size w5 (w5.alloc X)) := fun X => (Below.refl _ _).alloc (Nat.le_refl _) _
    go_wp2_with fail
    go_loopw [7, 30] (fun nv iv wr => ∃ (i : Nat) (ao : Option Addr) (ko co : Nat) (xs : List Value), i ≤ n1 ∧ iv = .int .i64 i ∧ nv = .int .i64 ((cutEnd d (keepFrom (rs, d) 0 (rs.take i))).length : Int) ∧ Hid (wr.heap[w5.heap.size]? = some (.cells #[.slice ao ko co, .int .i64 d] 24 (0, 0))) ∧ Hid (wr.ownsRow w5.heap.size 95 2 (.slice ao ko co) (keepFrom (rs, d) 0 (rs.take i)).length xs) ∧ Hid (XsAt B wr xs (keepFrom (rs, d) 0 (rs.take i))) ∧ Below w5.heap.size w5 wr) (fun _ iv _ => n1 - (intOf iv).toNat)
    case atStart => exact ⟨0, none, 0, 0, [], by omega, rfl, rfl, hO0, ⟨rfl, .inl ⟨rfl, rfl⟩⟩, ⟨rfl, (fun u hu => by cases hu), (fun i r hr => by simp [keepFrom] at hr)⟩, hbO.out _⟩
    case round =>
      obtain ⟨i, ao, ko, co, xs, hi, rfl, rfl, HO, HOw, HXs, hbr⟩ := hrel
      obtain ⟨wo, hwo⟩ : ∃ x, x = wr := ⟨_, rfl⟩
      subst hwo
      have i0 : (0 : Int) ≤ (i : Int) := by omega
      have hos := hbr.size
      have hOlt := lt_of_block HO.out
      have hb2o : Below (w.heap.size + 2) W2 wo := hb25.trans (hbr.mono (by omega))
      have hbwo : Below w.heap.size w wo := hbw5.trans (hbr.mono (by omega))
      have hkl : (keepFrom (rs, d) 0 (rs.take i)).length ≤ n1 := by
        have := keepFrom_len (rs, d) (rs.take i) 0
        rw [List.length_take, hnH.out] at this
        omega
      by_cases hli : i < n1
      · have i1 : (i : Int) < (n1 : Int) := by omega
        obtain ⟨r, hrk⟩ : ∃ r, rs[i]? = some r := ⟨rs[i]'(by rw [hnH.out]; omega), by simp⟩
        have HTk : Hid (rs.take (i + 1) = rs.take i ++ [r]) := by unfold Hid; rw [List.take_succ, hrk]; rfl
        have hTl : (rs.take i).length = i := by rw [List.length_take, hnH.out]; omega
        have HKS : Hid (keepFrom (rs, d) 0 (rs.take (i + 1)) = keepFrom (rs, d) 0 (rs.take i) ++ if keepIdx (rs, d) (i : Int) then [r] else []) := by
          unfold Hid
          rw [HTk.out, keepFrom_snoc, hTl, Nat.zero_add]
        obtain ⟨_, _, e1, -, -, hat⟩ := HRS.out _ hbwo
        obtain ⟨b, o, e, hbB, cv, k0, k1, hwr, hcv⟩ := hat i r hrk
        simp at e1
        obtain ⟨rfl, -, -⟩ := e1
        subst e
        clear hat hTl hrk
        have HCv : Hid (∀ w', Below w5.heap.size wo w' → CondsAt B w' cv r.1) := fun w' h => hcv.later h (by omega)
        obtain ⟨a9, c9, ecv, -⟩ := hcv
        subst ecv
        have hwrH : Hid (wf r.2) := hwr
        obtain ⟨cs, vd⟩ := r
        simp only [] at k0 k1 HCv hwrH
        obtain ⟨n9, hn9⟩ : ∃ n9, n9 = cs.length := ⟨_, rfl⟩
        rw [← hn9] at k0 HCv
        clear hn9 hwr
        obtain ⟨K, hK⟩ : ∃ K, K = keepFrom (rs, d) 0 (rs.take i) := ⟨_, rfl⟩
        rw [← hK] at HKS HOw HXs hkl ⊢
        clear hK
        obtain ⟨W7, hW7⟩ : ∃ W7, W7 = wo.alloc (.cells #[.slice a9 n9 c9, .int .i64 vd] 95) := ⟨_, rfl⟩
        have hb7 : Below wo.heap.size wo W7 := by rw [hW7]; exact (Below.refl _ _).alloc (Nat.le_refl _) _
        have hR7 : Hid (W7.heap[wo.heap.size]? = some (.cells #[.slice a9 n9 c9, .int .i64 vd] 95 (0, 0))) := by rw [hW7]; exact heap_made _ _
        have hs7 : wo.heap.size < W7.heap.size := lt_of_block hR7.out
        go_wp2_with fail
        rw [← hW7]
        clear hW7
        go_loopw [7, 37] (fun nv jv wr => ∃ j : Nat, j ≤ N ∧ nv = .int .i64 ((cutEnd d K).length : Int) ∧ jv = .int .i64 j ∧ Hid (∀ x ∈ PL.take j, (kP (rs, d) (ofL x) == (i : Int)) = false) ∧ Below W7.heap.size W7 wr) (fun _ jv _ => N - (intOf jv).toNat)
        case atStart => exact ⟨0, by omega, rfl, rfl, fun x hx => by simp at hx, Below.refl _ _⟩
        case round =>
          obtain ⟨j, hj, rfl, rfl, HNo, hbj⟩ := hrel
          obtain ⟨wj, hwj⟩ : ∃ x, x = wr := ⟨_, rfl⟩
          subst hwj
          have j0 : (0 : Int) ≤ (j : Int) := by omega
          have hjs := hbj.size
          have hboj : Below wo.heap.size wo wj := Below.thenOf hb7 hbj hb7.size
          have hb5j : Below w5.heap.size w5 wj := hbr.trans (hboj.mono (by omega))
          by_cases hlj : j < N
          · have j1 : (j : Int) < (N : Int) := by omega
            obtain ⟨x, hx⟩ : ∃ x, PL[j]? = some x := ⟨PL[j]'(by rw [hNH.out]; omega), by simp⟩
            have hxm := List.mem_of_getElem? hx
            obtain ⟨x0, x1, x2, x3, x4, rfl⟩ := H5.out x hxm
            have hck' : chkx (at5 x0 x1 x2 x3 x4) = 0 := HCk.out _ hxm
            obtain ⟨g, rfl, hgl, z0, z1, z2, z3, z4⟩ := HCl.out j x0 x1 x2 x3 x4 hx
            have y0 := (hb5j.cell (p := ⟨g, j * 5, none⟩) hgl).trans z0
            have y1 := (hb5j.cell (p := ⟨g, j * 5 + 1, none⟩) hgl).trans z1
            have y2 := (hb5j.cell (p := ⟨g, j * 5 + 2, none⟩) hgl).trans z2
            have y3 := (hb5j.cell (p := ⟨g, j * 5 + 3, none⟩) hgl).trans z3
            have y4 := (hb5j.cell (p := ⟨g, j * 5 + 4, none⟩) hgl).trans z4
            have hxH : Hid (PL[j]? = some [x0, x1, x2, x3, x4]) := hx
            have hxmH : Hid ([x0, x1, x2, x3, x4] ∈ PL) := hxm
            obtain ⟨ka, hka⟩ : ∃ ka, ka = kP (rs, d) (at5 x0 x1 x2 x3 x4) := ⟨_, rfl⟩
            have hkaH : Hid (kP (rs, d) (ofL [x0, x1, x2, x3, x4]) = ka) := hka.symm
            have HJa : Hid (∀ w', Below w.heap.size w w' → Calls Tryz.prog 221 #[.agg #[.slice (some ⟨b, o, none⟩) n1 cap, .int .i64 d], .agg #[.int .i64 x0, .int .i64 x1, .int .i64 x2, .int .i64 x3, .int .i64 x4]] w' fun e w'' => ∃ v, e = .returned (.tuple #[.int .i64 v, .int .i64 ka]) ∧ Below w'.heap.size w' w'') := by
              intro w' h
              refine (judged_any B _ _ (at5 x0 x1 x2 x3 x4) w' (HP.out w' h) (Nat.le_trans hB h.size) hppH.out).mono ?_
              rintro e w'' ⟨rfl, hb⟩
              refine ⟨(verdictAt (rs, d) (firstAt (ruleOk (at5 x0 x1 x2 x3 x4)) 0 rs)).1, ?_, hb⟩
              rw [hka, kP_ok hppH.out hck']
            have l0 : w.heap.size < wj.heap.size := by omega
            have hbwj : Below w.heap.size w wj := hbw5.trans (hb5j.mono (by omega))
            obtain ⟨b0, _⟩ := HBx.out _ (hb25.trans (hb5j.mono (by omega)))
            have c0 := heap_cell b0 0 rfl
            have c1 := heap_cell b0 1 rfl
            have hBa : ∀ X, Below wj.heap.size wj (wj.alloc X) := fun X => (Below.refl _ _).alloc (Nat.le_refl _) _
            clear b0 z0 z1 z2 z3 z4 hx hxm hka hck' p0 p1
            go_wp2_with fail
            go_at_call 221
            refine Calls.mono (HJa.out _ (Below.thenOf hbwj (hBa _) hbwj.size)) ?_
            rintro e w8 ⟨va, rfl, hb8⟩
            have hb8j : Below wj.heap.size wj w8 := Below.thenOf (hBa _) hb8 (by simp)
            have hb8o : Below wo.heap.size wo w8 := Below.thenOf hboj hb8j hboj.size
            have hb87 : Below W7.heap.size W7 w8 := Below.thenOf hbj hb8j hjs
            have hs8 := hb8j.size
            clear y0 y1 y2 y3 y4 c0 c1 hb8 hBa
            by_cases hke : ka = (i : Int)
            · have hKI : Hid (keepIdx (rs, d) (i : Int) = true) := by
                unfold Hid
                rw [HKp.out, List.any_eq_true]
                exact ⟨_, hxmH.out, by rw [hkaH.out, hke]; simp⟩
              have HKS' : Hid (keepFrom (rs, d) 0 (rs.take (i + 1)) = K ++ [(cs, vd)]) := by
                unfold Hid
                rw [HKS.out, if_pos hKI.out]
              subst hke
              have hO8 := (hb8o.block w5.heap.size hOlt).trans HO.out
              have hR8 := (hb87.block wo.heap.size hs7).trans hR7.out
              have HOw8 : Hid (w8.ownsRow w5.heap.size 95 2 (.slice ao ko co) K.length xs) := ownsRow_below HOw.out hb8o
              have o0 := heap_cell hO8 0 rfl
              have g0 := heap_cell hR8 0 rfl
              have g1 := heap_cell hR8 1 rfl
              have hO8H : Hid _ := hO8
              have hR8H : Hid _ := hR8
              have hOne : w5.heap.size ≠ wo.heap.size := by omega
              clear hO8 hR8
              have hkao : ∀ q, (Value.slice ao ko co).ownBlock = some q → q < wo.heap.size := own_lt HOw.out
              have hkaoH : Hid _ := hkao
              clear hkao
              have hw8 : wo.heap.size < w8.heap.size := by omega
              have hP8 : Hid (w8.heap[w.heap.size]? = _) := (HBx.out _ (hb25.trans ((hbr.trans (hb8o.mono hos)).mono (by omega)))).1
              have hne5 : w.heap.size ≠ w5.heap.size := by omega
              by_cases hvd : vd = d
              · have hqd : (vd != d) = false := by simpa using hvd
                have HVD : Hid (vd = d) := hvd
                clear hvd
                go_wp2_with (first | (at_builtin; go_must (refine wpList_appG _ rfl _ _ rfl Tryz.underlying22 hi1 hi2 hi3 hi4 rfl (by decide) w5.heap.size _ _ _ rfl _ 1 [.slice a9 n9 c9, .int .i64 vd] rfl _ rfl (by simp) w8 (Below.refl _ _) HOw8.out rfl (by simp [Value.oneCell']) (by omega) (by omega) (by omega) ?_; intro v9 w9 HO9 hb9 hg9; obtain ⟨a10, c10, e10, -⟩ := ownsRow_caps HO9.out; subst e10; have hg9' : w8.grownBy w9 (Value.slice ao ko co).ownBlock := hg9.out; have hO9 := (ButT.grown HOw8.out hg9') _ _ _ _ hO8H.out (by decide); have o9 := heap_cell hO9 0 rfl; have f9 : w9.frozen? ⟨w5.heap.size, 0, none⟩ = false := (by simp [World.frozen?, hO9]); have hR9 := (hg9'.block wo.heap.size hw8 (fun h => Nat.lt_irrefl _ (hkaoH.out _ h.symm))).trans hR8H.out; have rr1 := heap_cell hR9 1 rfl; have hP9 := (hb9.block w.heap.size l5).trans hP8.out; have pp1 := heap_cell hP9 1 rfl; have hO9H : Hid _ := hO9; clear hO9 hR9 hP9)))
                have hbF : Below w5.heap.size wo (w9.setCell ⟨w5.heap.size, 0, none⟩ (.slice a10 (K.length + 1) c10)) := ((hb8o.mono hos).trans hb9).setCell (p := ⟨w5.heap.size, 0, none⟩) (Nat.le_refl _) _
                refine ⟨⟨i + 1, a10, K.length + 1, c10, xs ++ [.slice a9 n9 c9, .int .i64 vd], by omega, by go_num, ?_, ?_, ?_, ?_, hbr.trans hbF⟩, by simp [intOf]; omega⟩
                · rw [HKS'.out, cutEnd_snoc, if_pos HVD.out]
                · unfold Hid
                  rw [row_setCell hO9H.out]
                  rfl
                · unfold Hid
                  rw [HKS'.out, List.length_append]
                  exact own_other HO9.out hO9H.out (by decide)
                · unfold Hid
                  rw [HKS'.out]
                  exact (HXs.out.later hbF (by omega)).append (xs_one (r := (cs, vd)) (HCv.out _ hbF) hwrH.out)
              · have hqd : (vd != d) = true := by simpa using hvd
                have HVD : Hid (¬ vd = d) := hvd
                clear hvd
                go_wp2_with (first | (at_builtin; go_must (refine wpList_appG _ rfl _ _ rfl Tryz.underlying22 hi1 hi2 hi3 hi4 rfl (by decide) w5.heap.size _ _ _ rfl _ 1 [.slice a9 n9 c9, .int .i64 vd] rfl _ rfl (by simp) w8 (Below.refl _ _) HOw8.out rfl (by simp [Value.oneCell']) (by omega) (by omega) (by omega) ?_; intro v9 w9 HO9 hb9 hg9; obtain ⟨a10, c10, e10, -⟩ := ownsRow_caps HO9.out; subst e10; have hg9' : w8.grownBy w9 (Value.slice ao ko co).ownBlock := hg9.out; have hO9 := (ButT.grown HOw8.out hg9') _ _ _ _ hO8H.out (by decide); have o9 := heap_cell hO9 0 rfl; have f9 : w9.frozen? ⟨w5.heap.size, 0, none⟩ = false := (by simp [World.frozen?, hO9]); have hR9 := (hg9'.block wo.heap.size hw8 (fun h => Nat.lt_irrefl _ (hkaoH.out _ h.symm))).trans hR8H.out; have rr1 := heap_cell hR9 1 rfl; have hP9 := (hb9.block w.heap.size l5).trans hP8.out; have pp1 := heap_cell hP9 1 rfl; have hO9H : Hid _ := hO9; clear hO9 hR9 hP9)))
                have hbF : Below w5.heap.size wo (w9.setCell ⟨w5.heap.size, 0, none⟩ (.slice a10 (K.length + 1) c10)) := ((hb8o.mono hos).trans hb9).setCell (p := ⟨w5.heap.size, 0, none⟩) (Nat.le_refl _) _
                refine ⟨⟨i + 1, a10, K.length + 1, c10, xs ++ [.slice a9 n9 c9, .int .i64 vd], by omega, by go_num, ?_, ?_, ?_, ?_, hbr.trans hbF⟩, by simp [intOf]; omega⟩
                · rw [HKS'.out, cutEnd_snoc, if_neg HVD.out, List.length_append]; rfl
                · unfold Hid
                  rw [row_setCell hO9H.out]
                  rfl
                · unfold Hid
                  rw [HKS'.out, List.length_append]
                  exact own_other HO9.out hO9H.out (by decide)
                · unfold Hid
                  rw [HKS'.out]
                  exact (HXs.out.later hbF (by omega)).append (xs_one (r := (cs, vd)) (HCv.out _ hbF) hwrH.out)
            · have hq : (ka == (i : Int)) = false := by simpa using hke
              have HN' : Hid (∀ x ∈ PL.take (j + 1), (kP (rs, d) (ofL x) == (i : Int)) = false) := by
                intro x hx
                rw [List.take_succ, hxH.out] at hx
                rcases List.mem_append.1 hx with h | h
                · exact HNo.out x h
                · simp at h
                  subst h
                  rw [hkaH.out]
                  exact hq
              clear hke
              go_wp2_with fail
              exact ⟨⟨j + 1, by omega, by trivial, by go_num, HN', hb87⟩, by simp [intOf]; omega⟩
          · obtain rfl : j = N := by omega
            have hKI : keepIdx (rs, d) (i : Int) = false := by
              rw [HKp.out, Bool.eq_false_iff]
              intro h
              rw [List.any_eq_true] at h
              obtain ⟨x, hx, hk⟩ := h
              have := HNo.out x (by rw [List.take_of_length_le (by rw [hNH.out]; omega)]; exact hx)
              rw [hk] at this
              cases this
            have HKS' : Hid (keepFrom (rs, d) 0 (rs.take (i + 1)) = K) := by
              unfold Hid
              rw [HKS.out, hKI]
              simp
            have HO' : Hid (wj.heap[w5.heap.size]? = _) := (hboj.block w5.heap.size hOlt).trans HO.out
            clear hKI
            go_wp2_with fail
            refine ⟨⟨i + 1, ao, ko, co, xs, by omega, by go_num, by rw [HKS'.out], HO', ?_, ?_, hb5j⟩, by simp [intOf]; omega⟩
            · rw [HKS'.out]
              exact ownsRow_below HOw.out hboj
            · rw [HKS'.out]
              exact HXs.out.later hboj (by omega)
      · obtain rfl : i = n1 := by omega
        have hTk : rs.take i = rs := List.take_of_length_le (by rw [hnH.out]; omega)
        rw [hTk] at HOw HXs hkl ⊢
        obtain ⟨K, hK⟩ : ∃ K, K = keepFrom (rs, d) 0 rs := ⟨_, rfl⟩
        rw [← hK] at HOw HXs hkl HSR ⊢
        clear hK hTk
        have HCt : Hid (cutEnd d K = K.take (cutEnd d K).length) := cutEnd_is_take d K
        have hcl : (cutEnd d K).length ≤ K.length := by
          have := HCt.out
          rw [this, List.length_take]
          omega
        obtain ⟨nd, hnd⟩ : ∃ nd, nd = (cutEnd d K).length := ⟨_, rfl⟩
        rw [← hnd] at HCt hcl ⊢
        clear hnd
        obtain ⟨a', c', e', hkc, hcm', -⟩ := ownsRow_caps HOw.out
        simp at e'
        obtain ⟨rfl, rfl, rfl⟩ := e'
        have HFin : Hid (∀ u0 u1 u2, RulesAt wo.heap.size (((wo.setCell ⟨w5.heap.size, 0, none⟩ u0).setCell ⟨w.heap.size + 1, 0, none⟩ u1).setCell ⟨w.heap.size + 1, 1, none⟩ u2) (.slice ao K.length co) K) := by
          intro u0 u1 u2
          have hb1 := (HBx.out _ hb2o).2
          have k1 := own_other (o := 0) (u := u0) HOw.out HO.out (by decide)
          have m1 : (wo.setCell ⟨w5.heap.size, 0, none⟩ u0).heap[w.heap.size + 1]? = _ := (Below.heap_setCell _ _ _ _ (by show w.heap.size + 1 ≠ w5.heap.size; omega)).trans hb1
          have k2 := own_other (o := 0) (u := u1) k1 m1 (by decide)
          have k3 := own_other (o := 1) (u := u2) k2 (row_setCell m1) (by decide)
          have hbB : Below B wo (((wo.setCell ⟨w5.heap.size, 0, none⟩ u0).setCell ⟨w.heap.size + 1, 0, none⟩ u1).setCell ⟨w.heap.size + 1, 1, none⟩ u2) := (((Below.refl B wo).setCell (p := ⟨w5.heap.size, 0, none⟩) (by show B ≤ w5.heap.size; omega) _).setCell (p := ⟨w.heap.size + 1, 0, none⟩) (by show B ≤ w.heap.size + 1; omega) _).setCell (p := ⟨w.heap.size + 1, 1, none⟩) (by show B ≤ w.heap.size + 1; omega) _
          obtain ⟨g, _, hOR⟩ := ownRules_of k3 (HXs.out.later hbB (Nat.le_refl _))
          have := hOR.rulesAt (by simp; omega)
          simpa using this
        have HNR : Hid (∀ b o : Nat, ao = some ⟨b, o, none⟩ → w.heap.size ≤ b) := fun b o e => by
          have := ownsRow_ge HOw.out b (by rw [e]; rfl)
          omega
        have q0 := heap_cell HO.out 0 rfl
        have q1 := heap_cell HO.out 1 rfl
        have q2 : wo.frozen? ⟨w5.heap.size, 0, none⟩ = false := by simp [World.frozen?, HO.out]
        obtain ⟨b0, b1⟩ := HBx.out _ hb2o
        have r0 := heap_cell b1 0 rfl
        have r1 := heap_cell b1 1 rfl
        have f0 : wo.frozen? ⟨w.heap.size + 1, 0, none⟩ = false := by simp [World.frozen?, b1]
        have f1 : wo.frozen? ⟨w.heap.size + 1, 1, none⟩ = false := by simp [World.frozen?, b1]
        have hne5 : ¬ w.heap.size + 1 = w5.heap.size := by omega
        have hne5' : ¬ w5.heap.size = w.heap.size + 1 := by omega
        clear b0 b1 p0 p1
        have hclH : Hid (nd ≤ K.length) := hcl
        have hKl : Hid (K.length = K.length) := rfl
        generalize hkle : K.length = kl at hcl hkc hkl q0 HO ⊢
        have hkleH : Hid (K.length = kl) := hkle
        clear hkle
        go_wp2_with fail
        refine bodyPost_ret (v := .tuple #[.agg #[.slice ao nd co, .int .i64 d], .int .i64 0]) ?_ rfl ⟨_, by rw [hpe0.out], ?_, fun b o n c d h => HNR.out b o (by simp at h; exact h.1.1), ?_⟩
        · rw [results_cell_tmp rfl]
          go_simp
        · rw [HSR.out]
          have hF := HFin.out (.slice ao nd co) (.slice ao nd co) (.int .i64 d)
          refine ⟨_, rfl, hdH.out, ?_⟩
          have := hF.take nd hclH.out
          rw [HCt.out]
          simpa using this
        · exact ((hbwo.setCell (p := ⟨w5.heap.size, 0, none⟩) (by show w.heap.size ≤ w5.heap.size; omega) _).setCell (p := ⟨w.heap.size + 1, 0, none⟩) (by show w.heap.size ≤ w.heap.size + 1; omega) _).setCell (p := ⟨w.heap.size + 1, 1, none⟩) (by show w.heap.size ≤ w.heap.size + 1; omega) _
end Go.Proofs.YtbdlojnigflanacGreatDoor
