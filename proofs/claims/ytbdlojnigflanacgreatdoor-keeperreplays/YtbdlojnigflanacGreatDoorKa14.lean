/- Joined: PolsN LooR Ord1 Box5 OAl0 RulC. -/
import Derived.Test.YtbdlojnigflanacGreatDoorKa10
import Derived.Test.YtbdlojnigflanacGreatDoorKa13
import Derived.Test.YtbdlojnigflanacGreatDoorKa06
import Derived.Test.YtbdlojnigflanacGreatDoorKa08
import Derived.Test.YtbdlojnigflanacGreatDoorKa01
import Derived.Test.YtbdlojnigflanacGreatDoorKa03
section
/- Lists of one and of two policies, just written. -/
set_option linter.all false
namespace Go.Proofs.YtbdlojnigflanacGreatDoor
open Go.RowKit Go.Maps

theorem CondsAt.mono {B B' : Nat} {w : World} {v : Value} {cs : List CondT} (h : CondsAt B w v cs) (hB : B ≤ B') : CondsAt B' w v cs := by
  obtain ⟨a, cap, h1, h2, h3, h4⟩ := h
  refine ⟨a, cap, h1, h2, h3, fun i c hc => ?_⟩
  obtain ⟨b, o, e, hl, k⟩ := h4 i c hc
  exact ⟨b, o, e, by omega, k⟩
theorem RulesAt.mono {B B' : Nat} {w : World} {v : Value} {rs : List RuleT} (h : RulesAt B w v rs) (hB : B ≤ B') : RulesAt B' w v rs := by
  obtain ⟨a, cap, h1, h2, h3, h4⟩ := h
  refine ⟨a, cap, h1, h2, h3, fun i c hc => ?_⟩
  obtain ⟨b, o, e, hl, cv, k1, k2, k3, k4⟩ := h4 i c hc
  exact ⟨b, o, e, by omega, cv, k1, k2, k3, k4.mono hB⟩
/-- A list of two policies, just written. -/
theorem pols_two {B : Nat} {w : World} {rv sv : Value} {p q : PolT} (hB : B ≤ w.heap.size) (hp : RulesAt B w rv p.1) (hpd : wf p.2) (hq : RulesAt B w sv q.1) (hqd : wf q.2) (T : TypeId) :
    PolsAt (w.heap.size + 1) (w.alloc (.cells #[rv, .int .i64 p.2, sv, .int .i64 q.2] T)) (.slice (some ⟨w.heap.size, 0, none⟩) 2 2) [p, q] := by
  have hb : Below w.heap.size w (w.alloc (.cells #[rv, .int .i64 p.2, sv, .int .i64 q.2] T)) := (Below.refl _ _).alloc (Nat.le_refl _) _
  have hm := heap_made w (.cells #[rv, .int .i64 p.2, sv, .int .i64 q.2] T)
  refine ⟨some ⟨w.heap.size, 0, none⟩, 2, rfl, Nat.le_refl _, by rw [maxLen_eq]; omega, fun i r hr => ⟨w.heap.size, 0, rfl, by omega, ?_⟩⟩
  match i, hr with
  | 0, hr =>
    simp at hr
    subst hr
    exact ⟨rv, heap_cell hm 0 rfl, heap_cell hm 1 rfl, hpd, (hp.later hb hB).mono (by omega)⟩
  | 1, hr =>
    simp at hr
    subst hr
    exact ⟨sv, heap_cell hm 2 rfl, heap_cell hm 3 rfl, hqd, (hq.later hb hB).mono (by omega)⟩
  | i + 2, hr => simp at hr
theorem pols_one {B : Nat} {w : World} {rv : Value} {p : PolT} (hB : B ≤ w.heap.size) (hp : RulesAt B w rv p.1) (hpd : wf p.2) (T : TypeId) :
    PolsAt (w.heap.size + 1) (w.alloc (.cells #[rv, .int .i64 p.2] T)) (.slice (some ⟨w.heap.size, 0, none⟩) 1 1) [p] := by
  have hb : Below w.heap.size w (w.alloc (.cells #[rv, .int .i64 p.2] T)) := (Below.refl _ _).alloc (Nat.le_refl _) _
  have hm := heap_made w (.cells #[rv, .int .i64 p.2] T)
  refine ⟨some ⟨w.heap.size, 0, none⟩, 1, rfl, Nat.le_refl _, by rw [maxLen_eq]; omega, fun i r hr => ⟨w.heap.size, 0, rfl, by omega, ?_⟩⟩
  match i, hr with
  | 0, hr =>
    simp at hr
    subst hr
    exact ⟨rv, heap_cell hm 0 rfl, heap_cell hm 1 rfl, hpd, (hp.later hb hB).mono (by omega)⟩
  | i + 1, hr => simp at hr

end Go.Proofs.YtbdlojnigflanacGreatDoor
end
section
/- What the counterpart's FirstLooser says: the first point at which the first policy says more. -/
set_option linter.all false
set_option maxRecDepth 100000
namespace Go.Proofs.YtbdlojnigflanacGreatDoor
open Go.RowKit Go.Maps

theorem point_five {l : List PolT} {x : List Int} (h : x ∈ pointsL l) : ∃ a b c d e, x = [a, b, c, d, e] := by
  unfold pointsL at h
  split at h
  · have h' := (mem_prodL _ _).1 h
    unfold cuts5 at h'
    match x, h' with
    | [a, b, c, d, e], _ => exact ⟨a, b, c, d, e, rfl⟩
  · cases h
theorem callCells_get : ∀ (l : List (List Int)), (∀ x ∈ l, ∃ a b c d e, x = [a, b, c, d, e]) → ∀ (i : Nat) (a b c d e : Int), l[i]? = some [a, b, c, d, e] →
    (callCells l)[i * 5]? = some (.int .i64 a) ∧ (callCells l)[i * 5 + 1]? = some (.int .i64 b) ∧ (callCells l)[i * 5 + 2]? = some (.int .i64 c) ∧ (callCells l)[i * 5 + 3]? = some (.int .i64 d) ∧ (callCells l)[i * 5 + 4]? = some (.int .i64 e)
  | [], _, _, _, _, _, _, _, h => by simp at h
  | x :: l, hx, 0, a, b, c, d, e, h => by
    simp at h
    subst h
    simp [callCells]
  | x :: l, hx, i + 1, a, b, c, d, e, h => by
    obtain ⟨a', b', c', d', e', rfl⟩ := hx x (by simp)
    have ih := callCells_get l (fun y hy => hx y (by simp [hy])) i a b c d e (by simpa using h)
    have e1 : callCells ([a', b', c', d', e'] :: l) = .int .i64 a' :: .int .i64 b' :: .int .i64 c' :: .int .i64 d' :: .int .i64 e' :: callCells l := rfl
    rw [e1, show (i + 1) * 5 = i * 5 + 5 by omega]
    exact ih
def looserC (p q : PolT) : Nat → Int := match looserP p q with
  | some x => ofL x
  | none => fun _ => 0
theorem find_take {α : Type} (f : α → Bool) (l : List α) (i : Nat) (h : ∀ x ∈ l.take i, f x = false) (x : α) (hx : l[i]? = some x) (hf : f x = true) : l.find? f = some x := by
  have e : l = l.take i ++ x :: l.drop (i + 1) := by
    obtain ⟨hi, rfl⟩ := List.getElem?_eq_some_iff.1 hx
    rw [← List.drop_eq_getElem_cons hi, List.take_append_drop]
  rw [e, List.find?_append, List.find?_eq_none.2 (fun y hy => by simp [h y hy])]
  simp [hf]

set_option maxHeartbeats 8000000 in
theorem firstLooser_any (B : Nat) (pv qv : Value) (p q : PolT) (w : World) (hp : PolAt B w pv p) (hq : PolAt B w qv q) (hB : B ≤ w.heap.size) :
    Calls Tryz.prog 189 #[pv, qv] w fun e w' => e = .returned (.tuple #[.bool (looserP p q).isSome, callV (looserC p q), .int .i64 (pointsE [p, q])]) ∧ Below w.heap.size w w' := by
  have HP : Hid (∀ w', Below w.heap.size w w' → PolAt B w' pv p) := fun w' h => hp.later h hB
  have HQ : Hid (∀ w', Below w.heap.size w w' → PolAt B w' qv q) := fun w' h => hq.later h hB
  obtain ⟨rs, d⟩ := p
  obtain ⟨ss, f⟩ := q
  obtain ⟨rv, e1, hd, hrs⟩ := hp
  obtain ⟨sv, e2, hf, hss⟩ := hq
  have HRS : Hid (∀ w', Below w.heap.size w w' → RulesAt B w' rv rs) := fun w' h => hrs.later h hB
  have HSS : Hid (∀ w', Below w.heap.size w w' → RulesAt B w' sv ss) := fun w' h => hss.later h hB
  obtain ⟨a, cap, e3, hlc, hcm, -⟩ := hrs
  obtain ⟨b, cap2, e4, hlc2, hcm2, -⟩ := hss
  simp only at e1 e2 e3 e4 hd hf
  subst e3 e4 e1 e2
  have hdH : Hid (wf d) := hd
  have hfH : Hid (wf f) := hf
  clear hd hf
  generalize hn1 : rs.length = n1 at *
  generalize hn2 : ss.length = n2 at *
  clear hn1 hn2
  go_enter Tryz.func189, Tryz.ntmps189
  obtain ⟨W3, hW3⟩ : ∃ W3, W3 = ((w.alloc (.cells #[.slice a n1 cap, .int .i64 d] 24)).alloc (.cells #[.slice b n2 cap2, .int .i64 f] 24)).alloc (.cells #[.int .i64 0, .int .i64 0, .int .i64 0, .int .i64 0, .int .i64 0] 26) := ⟨_, rfl⟩
  have hs3 : W3.heap.size = w.heap.size + 1 + 1 + 1 := by rw [hW3]; simp
  have hb3 : Below w.heap.size w W3 := by rw [hW3]; exact (((Below.refl _ _).alloc (Nat.le_refl _) _).alloc (by simp) _).alloc (by simp; omega) _
  have HBx : Hid (∀ w', Below (w.heap.size + 3) W3 w' → w'.heap[w.heap.size]? = some (.cells #[.slice a n1 cap, .int .i64 d] 24 (0, 0)) ∧ w'.heap[w.heap.size + 1]? = some (.cells #[.slice b n2 cap2, .int .i64 f] 24 (0, 0)) ∧ w'.heap[w.heap.size + 1 + 1]? = some (.cells (cellsX fun _ => 0) 26 (0, 0))) := by
    intro w' h
    have e0 : W3.heap[w.heap.size]? = some (.cells #[.slice a n1 cap, .int .i64 d] 24 (0, 0)) := by
      rw [hW3, Below.heap_alloc _ _ _ (by simp; omega), Below.heap_alloc _ _ _ (by simp)]
      exact heap_made _ _
    have e1 : W3.heap[w.heap.size + 1]? = some (.cells #[.slice b n2 cap2, .int .i64 f] 24 (0, 0)) := by
      rw [hW3, Below.heap_alloc _ _ _ (by simp)]
      have := heap_made (w.alloc (.cells #[.slice a n1 cap, .int .i64 d] 24)) (.cells #[.slice b n2 cap2, .int .i64 f] 24)
      rw [World.size_alloc] at this
      exact this
    have e2 : W3.heap[w.heap.size + 1 + 1]? = some (.cells (cellsX fun _ => 0) 26 (0, 0)) := by
      rw [hW3]
      have := heap_made ((w.alloc (.cells #[.slice a n1 cap, .int .i64 d] 24)).alloc (.cells #[.slice b n2 cap2, .int .i64 f] 24)) (.cells (cellsX fun _ => 0) 26)
      rw [World.size_alloc, World.size_alloc] at this
      exact this
    exact ⟨(h.block _ (by omega)).trans e0, (h.block _ (by omega)).trans e1, (h.block _ (by omega)).trans e2⟩
  have hPt := pols_two (p := (rs, d)) (q := (ss, f)) (Nat.le_trans hB hb3.size) (HRS.out _ hb3) hdH.out (HSS.out _ hb3) hfH.out 24
  have HPo := pointsOf_any _ _ _ _ hPt (by simp) (by simp)
  rw [hs3] at HPo
  have HPo' : Hid _ := HPo
  have hb4 : Below (w.heap.size + 3) W3 (W3.alloc (.cells #[.slice a n1 cap, .int .i64 d, .slice b n2 cap2, .int .i64 f] 24)) := (Below.refl _ _).alloc (by omega) _
  have hs4 : (W3.alloc (.cells #[.slice a n1 cap, .int .i64 d, .slice b n2 cap2, .int .i64 f] 24)).heap.size = w.heap.size + 4 := by simp [hs3]
  clear HPo hPt
  go_wp2_with fail
  rw [← hW3]
  clear hW3
  go_at_call 220
  refine Calls.mono HPo'.out ?_
  rintro e w5 ⟨v5, rfl, ho5, hb5⟩
  rw [hs4] at hb5 ho5
  have hb35 : Below (w.heap.size + 3) W3 w5 := Below.trans hb4 (hb5.mono (by omega))
  have hs5 := hb5.size
  rw [hs4] at hs5
  obtain ⟨a5, cap5, rfl, hc5, hc5m, hsh⟩ := ownsRow_caps ho5
  have hPE : Hid (pointsE [(rs, d), (ss, f)] ≠ 0 → pointsL [(rs, d), (ss, f)] = []) := fun h => by rw [pointsL, if_neg h]
  have hPE2 : Hid (∀ x ∈ pointsL [(rs, d), (ss, f)], pointsE [(rs, d), (ss, f)] = 0 ∧ chkx (ofL x) = 0 ∧ polErr (rs, d) = 0 ∧ polErr (ss, f) = 0) := by
    intro x hx
    unfold pointsL at hx
    split at hx
    · rename_i h0
      have hok := (pointsE_ok.1 h0).1
      obtain ⟨y, rfl, hy, _⟩ := point_right hok hx
      refine ⟨h0, ?_, hok _ (by simp), hok _ (by simp)⟩
      have : chkx (ofL (fieldsOf y)) = chkx y := by unfold chkx; rw [ofL_fields y 0 (by omega), ofL_fields y 1 (by omega), ofL_fields y 2 (by omega), ofL_fields y 3 (by omega), ofL_fields y 4 (by omega)]
      rw [this]
      exact hy
    · cases hx
  have H5 : Hid (∀ x ∈ pointsL [(rs, d), (ss, f)], ∃ a b c d e, x = [a, b, c, d, e]) := fun x hx => point_five hx
  have HFd : Hid (looserP (rs, d) (ss, f) = (pointsL [(rs, d), (ss, f)]).find? (loosePt (rs, d) (ss, f))) := rfl
  have HCd : Hid (looserC (rs, d) (ss, f) = match looserP (rs, d) (ss, f) with | some x => ofL x | none => fun _ => 0) := rfl
  obtain ⟨PL, hPL⟩ : ∃ PL, PL = pointsL [(rs, d), (ss, f)] := ⟨_, rfl⟩
  rw [← hPL] at ho5 hc5 hsh hPE hPE2 H5 HFd ⊢
  clear hPL
  have HCl : Hid (∀ (i : Nat) (x0 x1 x2 x3 x4 : Int), PL[i]? = some [x0, x1, x2, x3, x4] → ∃ g, a5 = some ⟨g, 0, none⟩ ∧ g < w5.heap.size ∧ w5.cell? ⟨g, i * 5, none⟩ = some (.int .i64 x0) ∧ w5.cell? ⟨g, i * 5 + 1, none⟩ = some (.int .i64 x1) ∧ w5.cell? ⟨g, i * 5 + 2, none⟩ = some (.int .i64 x2) ∧ w5.cell? ⟨g, i * 5 + 3, none⟩ = some (.int .i64 x3) ∧ w5.cell? ⟨g, i * 5 + 4, none⟩ = some (.int .i64 x4)) := by
    intro i x0 x1 x2 x3 x4 hx
    have hi := (List.getElem?_eq_some_iff.1 hx).1
    obtain ⟨g, rfl, _, hg⟩ := hsh (by omega)
    obtain ⟨h0, h1, h2, h3, h4⟩ := callCells_get PL H5.out i x0 x1 x2 x3 x4 hx
    exact ⟨g, rfl, hg, ownsRow_cell ho5 _ _ h0, ownsRow_cell ho5 _ _ h1, ownsRow_cell ho5 _ _ h2, ownsRow_cell ho5 _ _ h3, ownsRow_cell ho5 _ _ h4⟩
  clear ho5 hsh hb5 HPo' hb4 hs4
  have hml := maxLen_eq
  obtain ⟨pe, hpe⟩ : ∃ pe, pe = pointsE [(rs, d), (ss, f)] := ⟨_, rfl⟩
  have hpeH : Hid (pointsE [(rs, d), (ss, f)] = pe) := hpe.symm
  rw [← hpe] at hPE hPE2 ⊢
  clear hpe
  generalize hN : PL.length = N at *
  have hNH : Hid (PL.length = N) := hN
  clear hN
  go_wp2_with fail
  go_loopw [24] (fun iv wr => ∃ i : Nat, i ≤ N ∧ iv = .int .i64 i ∧ Hid (∀ x ∈ PL.take i, loosePt (rs, d) (ss, f) x = false) ∧ Below w5.heap.size w5 wr) (fun iv _ => N - (intOf iv).toNat)
  case atStart => exact ⟨0, by omega, rfl, fun x hx => by simp at hx, Below.refl _ _⟩
  case round =>
    obtain ⟨i, hi, rfl, HNo, hbr⟩ := hrel
    obtain ⟨wo, hwo⟩ : ∃ x, x = wr := ⟨_, rfl⟩
    subst hwo
    have i0 : (0 : Int) ≤ (i : Int) := by omega
    have hos := hbr.size
    have l0 : w.heap.size < wo.heap.size := by omega
    have l1 : w.heap.size + 1 < wo.heap.size := by omega
    have l2 : w.heap.size + 1 + 1 < wo.heap.size := by omega
    have hb3o : Below (w.heap.size + 3) W3 wo := hb35.trans (hbr.mono (by omega))
    have hbwo : Below w.heap.size w wo := hb3.trans (hb3o.mono (by omega))
    by_cases hli : i < N
    · have i1 : (i : Int) < (N : Int) := by omega
      obtain ⟨x, hx⟩ : ∃ x, PL[i]? = some x := ⟨PL[i]'(by rw [hNH.out]; omega), by simp⟩
      have hxm := List.mem_of_getElem? hx
      obtain ⟨x0, x1, x2, x3, x4, rfl⟩ := H5.out x hxm
      obtain ⟨he0, hck, hpp, hqq⟩ := hPE2.out _ hxm
      have hck' : chkx (at5 x0 x1 x2 x3 x4) = 0 := hck
      obtain ⟨g, rfl, hgl, z0, z1, z2, z3, z4⟩ := HCl.out i x0 x1 x2 x3 x4 hx
      have y0 := (hbr.cell (p := ⟨g, i * 5, none⟩) hgl).trans z0
      have y1 := (hbr.cell (p := ⟨g, i * 5 + 1, none⟩) hgl).trans z1
      have y2 := (hbr.cell (p := ⟨g, i * 5 + 2, none⟩) hgl).trans z2
      have y3 := (hbr.cell (p := ⟨g, i * 5 + 3, none⟩) hgl).trans z3
      have y4 := (hbr.cell (p := ⟨g, i * 5 + 4, none⟩) hgl).trans z4
      obtain ⟨va, hva⟩ : ∃ va, va = vP (rs, d) (at5 x0 x1 x2 x3 x4) := ⟨_, rfl⟩
      obtain ⟨vb, hvb⟩ : ∃ vb, vb = vP (ss, f) (at5 x0 x1 x2 x3 x4) := ⟨_, rfl⟩
      have HLo : Hid (loosePt (rs, d) (ss, f) [x0, x1, x2, x3, x4] = decide (vb < va)) := by unfold Hid; rw [hva, hvb]; rfl
      have HJa : Hid (∀ w', Below w.heap.size w w' → Calls Tryz.prog 221 #[.agg #[.slice a n1 cap, .int .i64 d], .agg #[.int .i64 x0, .int .i64 x1, .int .i64 x2, .int .i64 x3, .int .i64 x4]] w' fun e w'' => ∃ k, e = .returned (.tuple #[.int .i64 va, .int .i64 k]) ∧ Below w'.heap.size w' w'') := by
        intro w' h
        refine (judged_any B _ _ (at5 x0 x1 x2 x3 x4) w' (HP.out w' h) (Nat.le_trans hB h.size) hpp).mono ?_
        rintro e w'' ⟨rfl, hb⟩
        refine ⟨(verdictAt (rs, d) (firstAt (ruleOk (at5 x0 x1 x2 x3 x4)) 0 rs)).2, ?_, hb⟩
        rw [hva, vP, judgeP_ok hpp hck']
      have HJb : Hid (∀ w', Below w.heap.size w w' → Calls Tryz.prog 221 #[.agg #[.slice b n2 cap2, .int .i64 f], .agg #[.int .i64 x0, .int .i64 x1, .int .i64 x2, .int .i64 x3, .int .i64 x4]] w' fun e w'' => ∃ k, e = .returned (.tuple #[.int .i64 vb, .int .i64 k]) ∧ Below w'.heap.size w' w'') := by
        intro w' h
        refine (judged_any B _ _ (at5 x0 x1 x2 x3 x4) w' (HQ.out w' h) (Nat.le_trans hB h.size) hqq).mono ?_
        rintro e w'' ⟨rfl, hb⟩
        refine ⟨(verdictAt (ss, f) (firstAt (ruleOk (at5 x0 x1 x2 x3 x4)) 0 ss)).2, ?_, hb⟩
        rw [hvb, vP, judgeP_ok hqq hck']
      have hxH : Hid (PL[i]? = some [x0, x1, x2, x3, x4]) := hx
      have he0H : Hid (pe = 0) := he0
      clear hva hvb z0 z1 z2 z3 z4 hx hxm he0 hck hck' hpp hqq
      obtain ⟨b0, b1, b2⟩ := HBx.out _ hb3o
      have c0 := heap_cell b0 0 rfl
      have c1 := heap_cell b0 1 rfl
      have hBa : ∀ X, Below wo.heap.size wo (wo.alloc X) := fun X => (Below.refl _ _).alloc (Nat.le_refl _) _
      clear b0 b1 b2
      go_wp2_with fail
      go_at_call 221
      refine Calls.mono (HJa.out _ (Below.thenOf hbwo (hBa _) hbwo.size)) ?_
      rintro e w6 ⟨ka, rfl, hb6⟩
      have hbx6 := (hb6.block wo.heap.size (by simp)).trans (heap_made wo _)
      have hb6o : Below wo.heap.size wo w6 := Below.thenOf (hBa _) hb6 (by simp)
      have hs6 := lt_of_block hbx6
      have m0 := heap_cell hbx6 0 rfl
      have m1 := heap_cell hbx6 1 rfl
      have m2 := heap_cell hbx6 2 rfl
      have m3 := heap_cell hbx6 3 rfl
      have m4 := heap_cell hbx6 4 rfl
      obtain ⟨b0, b1, b2⟩ := HBx.out _ (hb3o.trans (hb6o.mono (by omega)))
      have c2 := heap_cell b1 0 rfl
      have c3 := heap_cell b1 1 rfl
      have hbx6H : Hid _ := hbx6
      clear b0 b1 b2 c0 c1 hb6 hbx6 y0 y1 y2 y3 y4
      go_wp2_with fail
      go_at_call 221
      refine Calls.mono (HJb.out _ (Below.thenOf hbwo hb6o hbwo.size)) ?_
      rintro e w7 ⟨kb, rfl, hb7⟩
      have hbx7 := (hb7.block wo.heap.size hs6).trans hbx6H.out
      have hb7o : Below wo.heap.size wo w7 := Below.thenOf hb6o hb7 hb6o.size
      clear m0 m1 m2 m3 m4 c2 c3 hb7
      by_cases hlo : vb < va
      · have hm0 := heap_cell hbx7 0 rfl
        have hm1 := heap_cell hbx7 1 rfl
        have hm2 := heap_cell hbx7 2 rfl
        have hm3 := heap_cell hbx7 3 rfl
        have hm4 := heap_cell hbx7 4 rfl
        have HFound : Hid (looserP (rs, d) (ss, f) = some [x0, x1, x2, x3, x4]) := by
          unfold Hid
          rw [HFd.out]
          exact find_take _ PL i HNo.out _ hxH.out (by rw [HLo.out]; exact decide_eq_true hlo)
        have HCe : Hid (looserC (rs, d) (ss, f) = at5 x0 x1 x2 x3 x4) := by
          unfold Hid
          rw [HCd.out, HFound.out]
          rfl
        obtain ⟨b0, b1, b2⟩ := HBx.out _ (hb3o.trans (hb7o.mono (by omega)))
        have hZ := (cellsX_at b2).1
        have hZf := (cellsX_at b2).2
        have r0 := hZ 0 (by omega)
        have r1 := hZ 1 (by omega)
        have r2 := hZ 2 (by omega)
        have r3 := hZ 3 (by omega)
        have r4 := hZ 4 (by omega)
        have f0 := hZf 0
        have f1 := hZf 1
        have f2 := hZf 2
        have f3 := hZf 3
        have f4 := hZf 4
        clear hZ hZf b0 b1 b2 hbx7
        go_wp2_with fail
        go_region
        go_wp2_with fail
        refine bodyPost_ret (v := .tuple #[.bool true, .agg #[.int .i64 x0, .int .i64 x1, .int .i64 x2, .int .i64 x3, .int .i64 x4], .int .i64 pe]) ?_ rfl ⟨by rw [HFound.out, HCe.out, hpeH.out]; rfl, ?_⟩
        · simp [results, Tryz.results189, go_sem, r0, r1, r2, r3, r4]
        · have hb7w : Below w.heap.size w w7 := Below.thenOf hbwo hb7o hbwo.size
          refine Below.drew ?_
          repeat (first | exact hb7w | refine Below.setCell ?_ (by simp; omega) _)
      · have HN' : Hid (∀ x ∈ PL.take (i + 1), loosePt (rs, d) (ss, f) x = false) := by
          intro x hx
          rw [List.take_succ, hxH.out] at hx
          rcases List.mem_append.1 hx with h | h
          · exact HNo.out x h
          · simp at h
            subst h
            rw [HLo.out]
            exact decide_eq_false hlo
        clear hbx7
        go_wp2_with fail
        exact ⟨⟨i + 1, by omega, by go_num, HN', Below.thenOf hbr hb7o hos⟩, by simp [intOf]; omega⟩
    · obtain rfl : i = N := by omega
      have HFound : Hid (looserP (rs, d) (ss, f) = none) := by
        unfold Hid
        rw [HFd.out, List.find?_eq_none]
        intro x hx
        have := HNo.out x (by rw [List.take_of_length_le (by rw [hNH.out]; omega)]; exact hx)
        simp [this]
      have HCe : Hid (looserC (rs, d) (ss, f) = fun _ => 0) := by
        unfold Hid
        rw [HCd.out, HFound.out]
      obtain ⟨b0, b1, b2⟩ := HBx.out _ hb3o
      have hZ := (cellsX_at b2).1
      have hZf := (cellsX_at b2).2
      have r0 := hZ 0 (by omega)
      have r1 := hZ 1 (by omega)
      have r2 := hZ 2 (by omega)
      have r3 := hZ 3 (by omega)
      have r4 := hZ 4 (by omega)
      have f0 := hZf 0
      have f1 := hZf 1
      have f2 := hZf 2
      have f3 := hZf 3
      have f4 := hZf 4
      clear hZ hZf b0 b1 b2
      go_wp2_with fail
      refine bodyPost_ret (v := .tuple #[.bool false, .agg #[.int .i64 0, .int .i64 0, .int .i64 0, .int .i64 0, .int .i64 0], .int .i64 pe]) ?_ rfl ⟨by rw [HFound.out, HCe.out, hpeH.out]; rfl, ?_⟩
      · simp [results, Tryz.results189, go_sem, r0, r1, r2, r3, r4]
      · repeat (first | exact hbwo | refine Below.setCell ?_ (by simp; omega) _)
end Go.Proofs.YtbdlojnigflanacGreatDoor
end
section
/- What package order answers: plain facts. -/
set_option linter.all false
namespace Go.Proofs.YtbdlojnigflanacGreatDoor

theorem looser_err {p q : PolT} (h : pointsE [p, q] ≠ 0) : looserP p q = none := by
  unfold looserP pointsL
  rw [if_neg h]
  rfl
end Go.Proofs.YtbdlojnigflanacGreatDoor
end
section
/- A call in five cells, stored anew. -/
set_option linter.all false
namespace Go.Proofs.YtbdlojnigflanacGreatDoor
open Go.RowKit Go.Maps

end Go.Proofs.YtbdlojnigflanacGreatDoor
end
section
/- What OrderAll asks of two policies at a call: plain facts. -/
set_option linter.all false
set_option maxRecDepth 100000
namespace Go.Proofs.YtbdlojnigflanacGreatDoor
open Go.RowKit Go.Maps

end Go.Proofs.YtbdlojnigflanacGreatDoor
end
section
/- Rules as rows of cells. -/
set_option linter.all false
namespace Go.Proofs.YtbdlojnigflanacGreatDoor
open Go.RowKit Go.Maps

/-- The cells of rules, one row: each a slice of conditions and a verdict. -/
def XsAt (B : Nat) (w : World) (xs : List Value) (rs : List RuleT) : Prop :=
  xs.length = rs.length * 2 ∧ (∀ u ∈ xs, u.oneCell' = true) ∧ ∀ i r, rs[i]? = some r → ∃ cv, xs[i * 2]? = some cv ∧ xs[i * 2 + 1]? = some (.int .i64 r.2) ∧ wf r.2 ∧ CondsAt B w cv r.1
theorem XsAt.later {B B' : Nat} {w w' : World} {xs : List Value} {rs : List RuleT} (h : XsAt B w xs rs) (hb : Below B' w w') (hB : B ≤ B') : XsAt B w' xs rs := by
  obtain ⟨h1, h2, h3⟩ := h
  refine ⟨h1, h2, fun i r hr => ?_⟩
  obtain ⟨cv, a, b, c, d⟩ := h3 i r hr
  exact ⟨cv, a, b, c, d.later hb hB⟩

/-- Rules in block g alone, their conditions below B. -/
def OwnRules (B g : Nat) (w : World) (v : Value) (rs : List RuleT) : Prop :=
  ∃ a cap, v = .slice a rs.length cap ∧ rs.length ≤ cap ∧ cap ≤ maxLen ∧ ∀ i r, rs[i]? = some r → a = some ⟨g, 0, none⟩ ∧ ∃ cv, w.cell? ⟨g, i * 2, none⟩ = some cv ∧ w.cell? ⟨g, i * 2 + 1, none⟩ = some (.int .i64 r.2) ∧ wf r.2 ∧ CondsAt B w cv r.1
theorem OwnRules.keep {B g : Nat} {w w' : World} {v : Value} {rs : List RuleT} (h : OwnRules B g w v rs) (hb : Below B w w') (hc : ∀ j u, w.cell? ⟨g, j, none⟩ = some u → w'.cell? ⟨g, j, none⟩ = some u) : OwnRules B g w' v rs := by
  obtain ⟨a, cap, h1, h2, h3, h4⟩ := h
  refine ⟨a, cap, h1, h2, h3, fun i r hr => ?_⟩
  obtain ⟨e, cv, k0, k1, k2, k3⟩ := h4 i r hr
  exact ⟨e, cv, hc _ _ k0, hc _ _ k1, k2, k3.later hb (Nat.le_refl _)⟩
theorem OwnRules.later {B g : Nat} {w w' : World} {v : Value} {rs : List RuleT} (h : OwnRules B g w v rs) (hb : Below w.heap.size w w') (hB : B ≤ w.heap.size) : OwnRules B g w' v rs :=
  h.keep (hb.mono hB) fun j u hu => (hb.cell (p := ⟨g, j, none⟩) (World.block_lt_of_cell? _ _ hu)).trans hu
theorem OwnRules.lt {B g : Nat} {w : World} {v : Value} {rs : List RuleT} (h : OwnRules B g w v rs) (hne : rs ≠ []) : g < w.heap.size := by
  obtain ⟨a, cap, h1, h2, h3, h4⟩ := h
  cases rs with
  | nil => exact absurd rfl hne
  | cons r l =>
    obtain ⟨_, cv, k0, _⟩ := h4 0 r rfl
    exact World.block_lt_of_cell? _ _ k0
theorem OwnRules.rulesAt {B g : Nat} {w : World} {v : Value} {rs : List RuleT} (h : OwnRules B g w v rs) (hB : B ≤ w.heap.size) : RulesAt w.heap.size w v rs := by
  have hh := h
  obtain ⟨a, cap, h1, h2, h3, h4⟩ := h
  refine ⟨a, cap, h1, h2, h3, fun i r hr => ?_⟩
  obtain ⟨e, cv, k0, k1, k2, k3⟩ := h4 i r hr
  refine ⟨g, 0, e, hh.lt (by intro h0; rw [h0] at hr; simp at hr), cv, by rw [Nat.zero_add]; exact k0, by rw [Nat.zero_add]; exact k1, k2, ?_⟩
  obtain ⟨a', cap', q1, q2, q3, q4⟩ := k3
  refine ⟨a', cap', q1, q2, q3, fun i c hc => ?_⟩
  obtain ⟨b, o, e, hl, k⟩ := q4 i c hc
  exact ⟨b, o, e, by omega, k⟩
theorem ownRules_of {B L : Nat} {w : World} {v : Value} {xs : List Value} {rs : List RuleT} (h : w.ownsRow L 95 2 v rs.length xs) (hx : XsAt B w xs rs) : ∃ g, L ≤ g ∧ OwnRules B g w v rs := by
  have hh := h
  rcases h.2 with ⟨h0, hn⟩ | ⟨g, cap, cur, h0, hL, hg, hle, hm, hcs, htk⟩
  · refine ⟨L, Nat.le_refl _, none, 0, by rw [h0, hn], by omega, Nat.zero_le _, fun i r hr => ?_⟩
    have := (List.getElem?_eq_some_iff.1 hr).1
    omega
  · refine ⟨g, hL, some ⟨g, 0, none⟩, cap, h0, hle, hm, fun i r hr => ⟨rfl, ?_⟩⟩
    have hi : i < rs.length := (List.getElem?_eq_some_iff.1 hr).1
    obtain ⟨cv, e0, e1, e2, e3⟩ := hx.2.2 i r hr
    subst h0
    have c := ownsRow_cell hh
    exact ⟨cv, c _ _ e0, c _ _ e1, e2, e3⟩

theorem XsAt.append {B : Nat} {w : World} {xs ys : List Value} {rs ss : List RuleT} (h : XsAt B w xs rs) (k : XsAt B w ys ss) : XsAt B w (xs ++ ys) (rs ++ ss) := by
  obtain ⟨h1, h2, h3⟩ := h
  obtain ⟨k1, k2, k3⟩ := k
  refine ⟨by simp [h1, k1]; omega, fun u hu => ?_, fun i r hr => ?_⟩
  · rcases List.mem_append.1 hu with h | h
    · exact h2 u h
    · exact k2 u h
  · by_cases hi : i < rs.length
    · rw [List.getElem?_append_left hi] at hr
      obtain ⟨cv, e0, e1, e2⟩ := h3 i r hr
      exact ⟨cv, by rw [List.getElem?_append_left (by omega)]; exact e0, by rw [List.getElem?_append_left (by omega)]; exact e1, e2⟩
    · rw [List.getElem?_append_right (by omega)] at hr
      obtain ⟨cv, e0, e1, e2⟩ := k3 _ r hr
      refine ⟨cv, ?_, ?_, e2⟩
      · rw [List.getElem?_append_right (by omega), show i * 2 - xs.length = (i - rs.length) * 2 by omega]; exact e0
      · rw [List.getElem?_append_right (by omega), show i * 2 + 1 - xs.length = (i - rs.length) * 2 + 1 by omega]; exact e1


end Go.Proofs.YtbdlojnigflanacGreatDoor
end
