/- The counterpart's reader at any text: plain facts, its small closure, rows that are a policy. -/
import Derived.Test.YthpllmhnpbigiaaDoorRec0
import Derived.Test.YthpllmhnpbigiaaDoorPRA
import Derived.Test.YthpllmhnpbigiaaDoorReadC
import Derived.Test.YthpllmhnpbigiaaDoorRdrP
import Derived.Laws.ResultCell
set_option linter.all false
set_option maxRecDepth 100000
namespace Go.Proofs.YthpllmhnpbigiaaDoor
open Go.RowKit Go.Maps

theorem parse_none {l : Bs} (hl : l.length ≤ 60000) (h : polOf l = none) : parseR l = (([], 0), 1) := by
  unfold parseR
  rw [if_neg (by omega), h]
theorem parse_some {l : Bs} {p : PolT} (hl : l.length ≤ 60000) (h : polOf l = some p) : parseR l = if polErr p = 0 then (p, 0) else (([], 0), polErr p) := by
  unfold parseR
  rw [if_neg (by omega), h]
theorem pol_badRule {l x : Bs} {i : Nat} (h : (splitL 59 l)[i]? = some x) (hi : i + 1 < (splitL 59 l).length) (hr : ruleOf x = none) : polOf l = none := by
  unfold polOf
  rw [allOf_none ruleOf _ i x (by rw [List.getElem?_dropLast, if_pos (by omega)]; exact h) hr]
theorem pol_last {l x : Bs} {i : Nat} (h : (splitL 59 l)[i]? = some x) (hi : i + 1 = (splitL 59 l).length) : (splitL 59 l).getLast (splitL_ne 59 l) = x := by
  have h1 := List.getLast?_eq_some_getLast (splitL_ne 59 l)
  rw [List.getLast?_eq_getElem?, ← hi, Nat.add_sub_cancel, h] at h1
  exact (Option.some.inj h1).symm
theorem pol_badLast {l x : Bs} {i : Nat} (h : (splitL 59 l)[i]? = some x) (hi : i + 1 = (splitL 59 l).length) (hx : idxL vN x < 0) : polOf l = none := by
  unfold polOf
  rw [pol_last h hi]
  cases allOf ruleOf (splitL 59 l).dropLast with
  | none => rfl
  | some rs => simp only []; rw [if_pos hx]
theorem pol_good {l x : Bs} {i : Nat} {rs : List RuleT} (h : (splitL 59 l)[i]? = some x) (hi : i + 1 = (splitL 59 l).length) (ha : allOf ruleOf ((splitL 59 l).take i) = some rs) (hx : 0 ≤ idxL vN x) : polOf l = some (rs, idxL vN x) := by
  unfold polOf
  rw [pol_last h hi, List.dropLast_eq_take, ← hi, Nat.add_sub_cancel, ha]
  simp only []
  rw [if_neg (by omega)]
theorem rule_bad {x h : Bs} {t : List Bs} (hs : splitL 32 x = h :: t) (hv : idxL vN h < 0) : ruleOf x = none := by
  unfold ruleOf
  rw [hs]
  simp only []
  rw [if_pos hv]
theorem rule_badWord {x h u : Bs} {t : List Bs} {j : Nat} (hs : splitL 32 x = h :: t) (hu : t[j]? = some u) (hc : condOf u = none) : ruleOf x = none := by
  unfold ruleOf
  rw [hs]
  simp only []
  rw [allOf_none condOf t j u hu hc]
  simp
theorem rule_good {x h : Bs} {t : List Bs} {cs : List CondT} (hs : splitL 32 x = h :: t) (hv : 0 ≤ idxL vN h) (ha : allOf condOf t = some cs) : ruleOf x = some (cs, idxL vN h) := by
  unfold ruleOf
  rw [hs]
  simp only []
  rw [if_neg (by omega), ha]
theorem indexAny_free : ∀ (l cs : Bs) (i : Nat), i < l.length → (Lib.indexAny l cs < 0 ∨ (i : Int) < Lib.indexAny l cs) → cs.contains (l.getD i 0) = false
  | [], _, _, h, _ => by simp at h
  | b :: r, cs, i, hi, h => by
    have hge := Lib.indexAny_ge cs r
    unfold Lib.indexAny at h
    by_cases hb : cs.contains b = true
    · rw [if_pos hb] at h; omega
    · rw [if_neg hb] at h
      cases i with
      | zero => simpa using hb
      | succ i =>
        have ih := indexAny_free r cs i (by simpa using hi)
        rw [List.getD_cons_succ]
        refine ih ?_
        by_cases h2 : (Lib.indexAny r cs == -1) = true
        · left
          have : Lib.indexAny r cs = -1 := by simpa using h2
          omega
        · rw [if_neg h2] at h
          have : Lib.indexAny r cs ≠ -1 := by simpa using h2
          omega
/-- Where a condition's sign stands, and what the condition is. -/
theorem opIdx (l : Bs) : ∃ K : Nat, K ≤ l.length ∧ (∀ i, i < K → opNum (l.getD i 0) = 0) ∧ ((K = l.length ∧ condOf l = none) ∨ (K < l.length ∧ opNum (l.getD K 0) ≠ 0 ∧ condOf l = match numOf (l.drop (K + 1)) with
    | none => none
    | some n => if idxL fN (l.take K) < 0 then none else some (idxL fN (l.take K), opNum (l.getD K 0), n))) := by
  have hge := Lib.indexAny_ge opC l
  have hlt := indexAny_lt opC l
  by_cases h : Lib.indexAny l opC < 0
  · refine ⟨l.length, Nat.le_refl _, fun i hi => (opNum_zero _).2 (indexAny_free l opC i hi (.inl h)), .inl ⟨rfl, ?_⟩⟩
    unfold condOf
    rw [if_pos h]
  · obtain ⟨K, hK⟩ : ∃ K : Nat, Lib.indexAny l opC = K := ⟨(Lib.indexAny l opC).toNat, by omega⟩
    have hm := indexAny_mem l opC (by omega)
    rw [hK, Int.toNat_natCast] at hm
    refine ⟨K, by omega, fun i hi => (opNum_zero _).2 (indexAny_free l opC i (by omega) (.inr (by omega))), .inr ⟨by omega, fun e => ?_, ?_⟩⟩
    · rw [(opNum_zero _).1 e] at hm
      cases hm
    · have e : opNum (l.getD K 0) = 1 + Lib.indexByte opC (l.getD K 0) := by unfold opNum; rw [if_pos hm]
      unfold condOf
      rw [hK, if_neg (by omega), Int.toNat_natCast, e]
      rfl
theorem allOf_mem {α : Type} (f : Bs → Option α) : ∀ (l : List Bs) (r : List α), allOf f l = some r → ∀ a ∈ r, ∃ w ∈ l, f w = some a
  | [], r, h, a, ha => by simp [allOf] at h; subst h; cases ha
  | x :: l, r, h, a, ha => by
    rw [allOf] at h
    cases h1 : f x <;> cases h2 : allOf f l <;> rw [h1, h2] at h <;> simp at h
    subst h
    rcases List.mem_cons.1 ha with rfl | ha
    · exact ⟨x, by simp, h1⟩
    · obtain ⟨w, hw, e⟩ := allOf_mem f l _ h2 a ha
      exact ⟨w, by simp [hw], e⟩
def CondWf (c : CondT) : Prop := wf c.1 ∧ wf c.2.1 ∧ wf c.2.2
def RuleWf (r : RuleT) : Prop := wf r.2 ∧ ∀ c ∈ r.1, CondWf c
theorem ruleOf_all {l : Bs} {r : RuleT} (h : ruleOf l = some r) : RuleWf r := by
  refine ⟨ruleOf_wf h, fun c hc => ?_⟩
  unfold ruleOf at h
  split at h
  · cases h
  · split at h
    · cases h
    · split at h
      · cases h
      · rename_i cs ha
        cases h
        obtain ⟨w, _, e⟩ := allOf_mem condOf _ _ ha c hc
        exact condOf_wf e
theorem condsAt_w {B base : Nat} {w : World} {cv : Value} {cs : List CondT} (h : w.ownsRow base 63 3 cv cs.length (condCells cs)) (hok : ∀ c ∈ cs, CondWf c) (hB : w.heap.size ≤ B) : CondsAt B w cv cs := by
  obtain ⟨a, cap, rfl, h1, h2, h3⟩ := ownsRow_caps h
  refine ⟨a, cap, rfl, h1, h2, fun i c hc => ?_⟩
  have hi : i < cs.length := (List.getElem?_eq_some_iff.1 hc).1
  obtain ⟨g, rfl, hg1, hg2⟩ := h3 (by omega)
  obtain ⟨e0, e1, e2⟩ := condCells_get cs i c hc
  obtain ⟨w0, w1, w2⟩ := hok c (List.mem_of_getElem? hc)
  refine ⟨g, 0, rfl, by omega, ?_, ?_, ?_, w0, w1, w2⟩
  · rw [Nat.zero_add]; exact ownsRow_cell h _ _ e0
  · rw [Nat.zero_add]; exact ownsRow_cell h _ _ e1
  · rw [Nat.zero_add]; exact ownsRow_cell h _ _ e2
theorem rulesAt_w {B base : Nat} {w : World} {rv : Value} {rs : List RuleT} {xs : List Value} (h : w.ownsRow base 41 2 rv rs.length xs) (hx : RulesCells base w rs xs) (hok : ∀ r ∈ rs, RuleWf r) (hB : w.heap.size ≤ B) : RulesAt B w rv rs := by
  obtain ⟨a, cap, rfl, h1, h2, h3⟩ := ownsRow_caps h
  refine ⟨a, cap, rfl, h1, h2, fun i r hr => ?_⟩
  have hi : i < rs.length := (List.getElem?_eq_some_iff.1 hr).1
  obtain ⟨g, rfl, hg1, hg2⟩ := h3 (by omega)
  obtain ⟨cv, e0, e1, hc⟩ := RulesCells.get rs xs i r hx hr
  obtain ⟨k2, k3⟩ := hok r (List.mem_of_getElem? hr)
  refine ⟨g, 0, rfl, by omega, cv, ?_, ?_, k2, condsAt_w hc k3 hB⟩
  · rw [Nat.zero_add]; exact ownsRow_cell h _ _ e0
  · rw [Nat.zero_add]; exact ownsRow_cell h _ _ e1
theorem polAt_w {B base : Nat} {w : World} {rv : Value} {rs : List RuleT} {d : Int} {xs : List Value} (h : w.ownsRow base 41 2 rv rs.length xs) (hx : RulesCells base w rs xs) (hok : ∀ r ∈ rs, RuleWf r) (hd : wf d) (hB : w.heap.size ≤ B) : PolAt B w (.agg #[rv, .int .i64 d]) (rs, d) :=
  ⟨rv, rfl, hd, rulesAt_w h hx hok hB⟩

set_option maxHeartbeats 2000000 in
theorem bad_any (e : Int) (w : World) : Calls Tryd.prog 56 #[.int .i64 e] w fun r w' => r = .returned (.tuple #[.agg #[.slice none 0 0, .int .i64 0], .int .i64 e]) ∧ Below w.heap.size w w' := by
  go_enter Tryd.func56, Tryd.ntmps56
  go_wp2_with fail
  have HR := (MapKept.heap_alloc w (.cells #[.slice none 0 0, .int .i64 0] 24)).1
  obtain ⟨z0, z1, _, _⟩ := cell_of_two HR
  refine bodyPost_ret (v := .tuple #[.agg #[.slice none 0 0, .int .i64 0], .int .i64 e]) ?_ rfl ⟨rfl, (Below.refl _ _).alloc (Nat.le_refl _) _⟩
  rw [results_cell_tmp rfl]
  go_simp
theorem bad_exit {w wx : World} {R0 : Nat} (hb : Below R0 w wx) (h : wx.heap[R0]? = some (.cells #[.slice none 0 0, .int .i64 0] 24 (0, 0))) :
    Below R0 w ((wx.setCell ⟨R0, 0, none⟩ (.slice none 0 0)).setCell ⟨R0, 1, none⟩ (.int .i64 0)) ∧
    ((wx.setCell ⟨R0, 0, none⟩ (.slice none 0 0)).setCell ⟨R0, 1, none⟩ (.int .i64 0)).cell? ⟨R0, 0, none⟩ = some (.slice none 0 0) ∧
    ((wx.setCell ⟨R0, 0, none⟩ (.slice none 0 0)).setCell ⟨R0, 1, none⟩ (.int .i64 0)).cell? ⟨R0, 1, none⟩ = some (.int .i64 0) := by
  obtain ⟨z0, z1, _, _⟩ := cell_of_two (two_setCell1 (u := .int .i64 0) (two_setCell (u := .slice none 0 0) h))
  exact ⟨(hb.setCell (p := ⟨R0, 0, none⟩) (Nat.le_refl _) _).setCell (p := ⟨R0, 1, none⟩) (Nat.le_refl _) _, z0, z1⟩

end Go.Proofs.YthpllmhnpbigiaaDoor
