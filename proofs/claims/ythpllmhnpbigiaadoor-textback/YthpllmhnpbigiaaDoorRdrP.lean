/- What the program's own readers of a policy say. -/
import Derived.Test.YthpllmhnpbigiaaDoorRdrR2
set_option linter.all false
set_option maxRecDepth 100000
namespace Go.Proofs.YthpllmhnpbigiaaDoor
open Go.RowKit Go.Maps

/-- Rules in memory of one's own, from block L on. -/
def RulesNew (L : Nat) (w : World) (v : Value) (rs : List RuleT) : Prop :=
  ∃ a cap, v = .slice a rs.length cap ∧ rs.length ≤ cap ∧ cap ≤ maxLen ∧ ∀ i r, rs[i]? = some r → ∃ b o, a = some ⟨b, o, none⟩ ∧ L ≤ b ∧ b < w.heap.size ∧ ∃ cv, w.cell? ⟨b, o + i * 2, none⟩ = some cv ∧ w.cell? ⟨b, o + i * 2 + 1, none⟩ = some (.int .i64 r.2) ∧ wf r.2 ∧ CondsNew L w cv r.1
theorem RulesNew.nil (L : Nat) (w : World) : RulesNew L w (.slice none 0 0) [] := ⟨none, 0, rfl, Nat.le_refl _, Nat.zero_le _, fun i c h => by simp at h⟩
theorem RulesNew.keep {L : Nat} {w w' : World} {v : Value} {rs : List RuleT} (h : RulesNew L w v rs) (hk : ∀ g, L ≤ g → g < w.heap.size → w'.heap[g]? = w.heap[g]?) (hsz : w.heap.size ≤ w'.heap.size) : RulesNew L w' v rs := by
  obtain ⟨a, cap, h1, h2, h3, h4⟩ := h
  refine ⟨a, cap, h1, h2, h3, fun i c hc => ?_⟩
  obtain ⟨b, o, e, hl, hb, cv, k0, k1, k2, k3⟩ := h4 i c hc
  have hh := hk b hl hb
  exact ⟨b, o, e, hl, by omega, cv, by rw [cell_of_heap hh]; exact k0, by rw [cell_of_heap hh]; exact k1, k2, k3.keep hk hsz⟩
theorem RulesNew.at {L : Nat} {w : World} {v : Value} {rs : List RuleT} (h : RulesNew L w v rs) : RulesAt w.heap.size w v rs := by
  obtain ⟨a, cap, h1, h2, h3, h4⟩ := h
  refine ⟨a, cap, h1, h2, h3, fun i c hc => ?_⟩
  obtain ⟨b, o, e, hl, hb, cv, k0, k1, k2, k3⟩ := h4 i c hc
  exact ⟨b, o, e, hb, cv, k0, k1, k2, k3.at⟩
def PolN (L : Nat) (w : World) (v : Value) (p : PolT) : Prop := ∃ rv, v = .agg #[rv, .int .i64 p.2] ∧ wf p.2 ∧ RulesNew L w rv p.1
theorem PolN.keep {L : Nat} {w w' : World} {v : Value} {p : PolT} (h : PolN L w v p) (hk : ∀ g, L ≤ g → g < w.heap.size → w'.heap[g]? = w.heap[g]?) (hsz : w.heap.size ≤ w'.heap.size) : PolN L w' v p := by
  obtain ⟨rv, h1, h2, h3⟩ := h
  exact ⟨rv, h1, h2, h3.keep hk hsz⟩
theorem PolN.at {L : Nat} {w : World} {v : Value} {p : PolT} (h : PolN L w v p) : PolAt w.heap.size w v p := by
  obtain ⟨rv, h1, h2, h3⟩ := h
  exact ⟨rv, h1, h2, h3.at⟩
theorem PolN.zero (L : Nat) (w : World) : PolN L w (.agg #[.slice none 0 0, .int .i64 0]) ([], 0) := ⟨_, rfl, by unfold wf; decide, RulesNew.nil L w⟩
theorem PolN.shape {L : Nat} {w : World} {v : Value} {p : PolT} (h : PolN L w v p) : ∃ a n cap, v = .agg #[.slice a n cap, .int .i64 p.2] := by
  obtain ⟨rv, rfl, _, a, cap, rfl, _⟩ := h
  exact ⟨a, _, cap, rfl⟩
theorem CondsNew.shape {L : Nat} {w : World} {v : Value} {cs : List CondT} (h : CondsNew L w v cs) : ∃ a n cap, v = .slice a n cap := by
  obtain ⟨a, cap, rfl, _⟩ := h
  exact ⟨a, _, cap, rfl⟩

def RowR (L n : Nat) (w : World) (rs : List RuleT) (cur : Array Value) : Prop :=
  cur.size = n * 2 ∧ ∀ i r, rs[i]? = some r → ∃ cv, cur[i * 2]? = some cv ∧ cur[i * 2 + 1]? = some (.int .i64 r.2) ∧ wf r.2 ∧ CondsNew L w cv r.1
def set2 (cur : Array Value) (o : Nat) (x0 x1 : Value) : Array Value := (cur.setIfInBounds o x0).setIfInBounds (o + 1) x1
theorem RowR.keep {L n : Nat} {w w' : World} {rs : List RuleT} {cur : Array Value} (h : RowR L n w rs cur) (hk : ∀ g, L ≤ g → g < w.heap.size → w'.heap[g]? = w.heap[g]?) (hsz : w.heap.size ≤ w'.heap.size) : RowR L n w' rs cur := by
  refine ⟨h.1, fun i r hr => ?_⟩
  obtain ⟨cv, k0, k1, k2, k3⟩ := h.2 i r hr
  exact ⟨cv, k0, k1, k2, k3.keep hk hsz⟩
theorem RowR.put {L n : Nat} {w : World} {rs : List RuleT} {cur : Array Value} (h : RowR L n w rs cur) (hlt : rs.length < n) (r : RuleT) (cv : Value) (hw : wf r.2) (hc : CondsNew L w cv r.1) : RowR L n w (rs ++ [r]) (set2 cur (rs.length * 2) cv (.int .i64 r.2)) := by
  obtain ⟨h1, h2⟩ := h
  refine ⟨by simp [set2, h1], fun i d hd => ?_⟩
  have hi : i < rs.length + 1 := by have := (List.getElem?_eq_some_iff.1 hd).1; simpa using this
  by_cases e : i = rs.length
  · subst e
    rw [List.getElem?_append_right (Nat.le_refl _)] at hd
    simp at hd
    subst hd
    have b0 : rs.length * 2 < cur.size := by omega
    have b1 : rs.length * 2 + 1 < cur.size := by omega
    unfold set2
    simp only [Array.getElem?_setIfInBounds]
    exact ⟨cv, by simp [b0], by simp [b1], hw, hc⟩
  · rw [List.getElem?_append_left (by omega)] at hd
    obtain ⟨cv', k0, k1, k2, k3⟩ := h2 i d hd
    unfold set2
    simp only [Array.getElem?_setIfInBounds]
    refine ⟨cv', ?_, ?_, k2, k3⟩
    · rw [if_neg (by omega), if_neg (by omega)]; exact k0
    · rw [if_neg (by omega), if_neg (by omega)]; exact k1
theorem row_set2 {w : World} {g o : Nat} {cur : Array Value} {x0 x1 : Value} {T : TypeId} (h : w.heap[g]? = some (.cells cur T (0, 0))) : ((w.setCell ⟨g, o, none⟩ x0).setCell ⟨g, o + 1, none⟩ x1).heap[g]? = some (.cells (set2 cur o x0 x1) T (0, 0)) :=
  row_setCell (o := o + 1) (u := x1) (row_setCell (o := o) (u := x0) h)
theorem heap_set2 {w : World} {g k : Nat} (o : Nat) (x0 x1 : Value) (h : k ≠ g) : ((w.setCell ⟨g, o, none⟩ x0).setCell ⟨g, o + 1, none⟩ x1).heap[k]? = w.heap[k]? := by
  rw [Below.heap_setCell _ _ _ _ (by show k ≠ g; exact h), Below.heap_setCell _ _ _ _ (by show k ≠ g; exact h)]

def JRul (G : Nat) (W : World) (cur : Array Value) (T : TypeId) (o : Nat) (vd : Int) (ok : Bool) (cs : List CondT) (fs : Nat → Value → Prop) (w : World) : Prop :=
  Below G W w ∧ (∀ k, k < W.heap.size → k ≠ G → w.heap[k]? = W.heap[k]?) ∧ ((∀ v, ¬ fs 9 v) → w.heap[G]? = some (.cells cur T (0, 0))) ∧ (∀ v, fs 4 v → ∃ a m cap, v = .tuple #[.agg #[.slice a m cap, .int .i64 vd], .bool ok] ∧ CondsNew W.heap.size w (.slice a m cap) cs) ∧
    ((∃ v, fs 9 v) → ∃ a m cap, fs 4 (.tuple #[.agg #[.slice a m cap, .int .i64 vd], .bool ok]) ∧ w.heap[G]? = some (.cells (set2 cur o (.slice a m cap) (.int .i64 vd)) T (0, 0)))
def SRul (vd : Int) (ok : Bool) (k : Nat) (v : Value) : Prop := if k = 4 then ∃ a m cap, v = .tuple #[.agg #[.slice a m cap, .int .i64 vd], .bool ok] else True
theorem sRul_some (vd : Int) (ok : Bool) (k : Nat) : ∃ v, SRul vd ok k v := by
  unfold SRul
  split
  · exact ⟨_, none, 0, 0, rfl⟩
  · exact ⟨undef, trivial⟩

theorem make_rules (n : Nat) (hn : n ≤ 4294967281) (w : World) : (Instr.makeSlice 22 (.int .i64 n) (.int .i64 n)).run Tryd.prog w = .ok (.slice (some ⟨w.heap.size, 0, none⟩) n n) (w.alloc (.cells (madeCells #[.slice none 0 0, .int .i64 0] (n * 2)) 41)) := by
  obtain ⟨inf, hi1, hi2, hi3, hi4⟩ := infoRule
  have := run_make (P := Tryd.prog) w 22 41 inf _ Tryd.underlying22 hi1 hi2 .i64 .i64 n n (by omega) (Int.le_refl _) (by rw [hi4]; omega) (by omega)
  rw [hi3] at this
  simpa [Value.cells] using this
theorem index_rules (i n G : Nat) (h : i < n) (w : World) : (Instr.indexAt 22 (.slice (some ⟨G, 0, none⟩) n n) (.int .i64 i)).run Tryd.prog w = .ok (.pointer (some ⟨G, i * 2, none⟩)) w := by
  have h1 : (i : Int) < (n : Int) := by omega
  have h2 : (0 : Int) ≤ (i : Int) := by omega
  go_simp
theorem ruleOf_wf {l : Bs} {r : RuleT} (h : ruleOf l = some r) : wf r.2 := by
  unfold ruleOf at h
  split at h
  · cases h
  · rename_i hd t _
    split at h
    · cases h
    · split at h
      · cases h
      · cases h
        have := idxL_lt vN hd
        have e : vN.length = 5 := rfl
        rw [e] at this
        exact wf_small (by simp only []; omega)
theorem polOf_parts {l : Bs} {ps : List Bs} {d : Bs} (e : splitL 59 l = ps ++ [d]) : polOf l = match allOf ruleOf ps with
    | none => none
    | some rs => if idxL vN d < 0 then none else some (rs, idxL vN d) := by
  have h1 : (splitL 59 l).dropLast = ps := by rw [e]; simp
  have h2 : (splitL 59 l).getLast (splitL_ne 59 l) = d := by
    have : ∀ (x : List Bs) (hx : x ≠ []), x = ps ++ [d] → x.getLast hx = d := by
      intro x hx hxe
      subst hxe
      simp
    exact this _ _ e
  unfold polOf
  rw [h1, h2]
  rfl

end Go.Proofs.YthpllmhnpbigiaaDoor
