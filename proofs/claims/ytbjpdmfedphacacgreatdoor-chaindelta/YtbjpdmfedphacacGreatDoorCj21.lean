/- Joined: Ref2 InsC Cmp1. -/
import Derived.Test.YtbjpdmfedphacacGreatDoorCj20
import Derived.Test.YtbjpdmfedphacacGreatDoorCj03
import Derived.Test.YtbjpdmfedphacacGreatDoorCj17
import Derived.Test.YtbjpdmfedphacacGreatDoorCj18
import Derived.Test.YtbjpdmfedphacacGreatDoorCj11
section
/- What the counterpart's Ran says of a right filter: the same. -/
set_option linter.all false
set_option maxRecDepth 100000
namespace Go.Proofs.YtbjpdmfedphacacGreatDoor
open Go.RowKit Go.Maps

end Go.Proofs.YtbjpdmfedphacacGreatDoor
end
section
/- Filters in rows of one's own. -/
set_option linter.all false
set_option maxRecDepth 100000
namespace Go.Proofs.YtbjpdmfedphacacGreatDoor
open Go.RowKit Go.Maps

theorem infoIns : ∃ i, Tryz.prog.info? 79 = some i ∧ i.zero = some (.agg #[.int .i64 0, .int .i64 0, .int .i64 0, .int .i64 0]) ∧ i.size = 4 ∧ i.bytes = 32 := infoOf (by kernel_rfl)

def insCells (l : List InsT) : List Value := l.flatMap fun c => [.int .i64 c.1, .int .i64 c.2.1, .int .i64 c.2.2.1, .int .i64 c.2.2.2]
theorem insCells_cons (c : InsT) (l : List InsT) : insCells (c :: l) = .int .i64 c.1 :: .int .i64 c.2.1 :: .int .i64 c.2.2.1 :: .int .i64 c.2.2.2 :: insCells l := rfl
theorem insCells_append (l m : List InsT) : insCells (l ++ m) = insCells l ++ insCells m := by unfold insCells; exact List.flatMap_append
theorem insCells_length : ∀ l : List InsT, (insCells l).length = l.length * 4
  | [] => rfl
  | c :: r => by rw [insCells_cons]; simp [insCells_length r]; omega
theorem insCells_one : ∀ (l : List InsT), ∀ u ∈ insCells l, u.oneCell' = true
  | [], u, h => by cases h
  | c :: r, u, h => by
    rw [insCells_cons] at h
    simp at h
    rcases h with rfl | rfl | rfl | rfl | h
    · rfl
    · rfl
    · rfl
    · rfl
    · exact insCells_one r u h
theorem insCells_get : ∀ (l : List InsT) (i : Nat) (c : InsT), l[i]? = some c → (insCells l)[i * 4]? = some (.int .i64 c.1) ∧ (insCells l)[i * 4 + 1]? = some (.int .i64 c.2.1) ∧ (insCells l)[i * 4 + 2]? = some (.int .i64 c.2.2.1) ∧ (insCells l)[i * 4 + 3]? = some (.int .i64 c.2.2.2)
  | [], _, _, h => by simp at h
  | c' :: r, 0, c, h => by
    simp at h
    subst h
    simp [insCells_cons]
  | c' :: r, i + 1, c, h => by
    have ih := insCells_get r i c (by simpa using h)
    rw [insCells_cons, show (i + 1) * 4 = i * 4 + 4 by omega]
    exact ih
/-- Cells one by one. -/
theorem insCells_cell {w : World} {b o : Nat} : ∀ (l : List InsT) (o : Nat), (∀ i c, l[i]? = some c → InsAt w b (o + i * 4) c) → ∀ j u, (insCells l)[j]? = some u → w.cell? ⟨b, o + j, none⟩ = some u
  | [], _, _, j, u, h => by simp [insCells] at h
  | c :: r, o, hat, j, u, h => by
    obtain ⟨c0, c1, c2, c3, _⟩ := hat 0 c rfl
    simp only [Nat.zero_mul, Nat.add_zero] at c0 c1 c2 c3
    rw [insCells_cons] at h
    match j, h with
    | 0, h => simp at h; subst h; simpa using c0
    | 1, h => simp at h; subst h; exact c1
    | 2, h => simp at h; subst h; exact c2
    | 3, h => simp at h; subst h; exact c3
    | j + 4, h =>
      have := insCells_cell (b := b) (o := o) r (o + 4) (fun i c hc => by
        have := hat (i + 1) c (by simpa using hc)
        rw [show o + (i + 1) * 4 = o + 4 + i * 4 by omega] at this
        exact this) j u (by simpa using h)
      rw [show o + (j + 4) = o + 4 + j by omega]
      exact this
/-- And back: a row of the call's own that holds them. -/
theorem inssAt_own {L : Nat} {w : World} {v : Value} {l : List InsT} (h : w.ownsRow L 79 4 v l.length (insCells l)) (hwf : ∀ c ∈ l, insWf c) : InssAt w.heap.size w v l := by
  obtain ⟨a, cap, rfl, h1, h2, h3⟩ := ownsRow_caps h
  refine ⟨a, cap, rfl, h1, h2, fun i c hc => ?_⟩
  have hi : i < l.length := (List.getElem?_eq_some_iff.1 hc).1
  obtain ⟨g, rfl, hg1, hg2⟩ := h3 (by omega)
  obtain ⟨e0, e1, e2, e3⟩ := insCells_get l i c hc
  refine ⟨g, 0, rfl, hg2, ?_, ?_, ?_, ?_, hwf c (List.mem_of_getElem? hc)⟩
  all_goals rw [Nat.zero_add]
  · exact ownsRow_cell h _ _ e0
  · exact ownsRow_cell h _ _ e1
  · exact ownsRow_cell h _ _ e2
  · exact ownsRow_cell h _ _ e3
theorem InssAt.wf {B : Nat} {w : World} {v : Value} {l : List InsT} (h : InssAt B w v l) : ∀ c ∈ l, insWf c := by
  intro c hc
  obtain ⟨i, hi⟩ := List.mem_iff_getElem?.1 hc
  obtain ⟨_, _, _, _, _, h4⟩ := h
  obtain ⟨_, _, _, _, k⟩ := h4 i c hi
  exact k.2.2.2.2

/-- A filter in memory behind a row of one's own. -/
theorem run_append_inss (B base : Nat) (ty : TypeId) (v sv : Value) (n : Nat) (xs : List Value) (rs : List InsT) (W : World) (hown : W.ownsRow base 79 4 v n xs) (hs : InssAt B W sv rs) (hn : (n + rs.length) * 32 ≤ 140737488355328) (hbase : base ≤ W.heap.size) :
    ∃ v' W', (Builtin.append_ #[40, 40] ty #[v, sv]).run Tryz.prog W = .ok v' W' ∧ W'.ownsRow base 79 4 v' (n + rs.length) (xs ++ insCells rs) ∧ Below base W W' := by
  obtain ⟨inf, hi1, hi2, hi3, hi4⟩ := infoIns
  obtain ⟨a, cap, rfl, hlc, hcm, hrs⟩ := hs
  cases a with
  | none =>
    have h0 : rs = [] := by
      cases rs with
      | nil => rfl
      | cons r l => obtain ⟨b, o, e, _⟩ := hrs 0 r rfl; cases e
    subst h0
    refine ⟨v, W, ?_, by simpa [insCells] using hown, Below.refl _ _⟩
    have hc : v = .slice none 0 0 ∨ ∃ g c, v = .slice (some g) n c ∧ n ≤ c := by
      rcases hown.2 with ⟨h, _⟩ | ⟨g, c, cur, h, _, _, h', _⟩
      · exact .inl h
      · exact .inr ⟨_, c, h, h'⟩
    have hf := run_firstCells_none (P := Tryz.prog) W inf.size 0 0 cap
    rcases hc with rfl | ⟨g, c, rfl, hle⟩
    · simp [Builtin.append_, run_underlying Tryz.underlying40, sizeOf, typeInfo, hi1, Builtin.lenOf, hf]
    · simp [Builtin.append_, run_underlying Tryz.underlying40, sizeOf, typeInfo, hi1, Builtin.lenOf, hf, hle, storeCells]
  | some ad =>
    have hcell : ∀ j u, (insCells rs)[j]? = some u → W.cell? (ad.add j) = some u := by
      cases rs with
      | nil => intro j u hj; simp [insCells] at hj
      | cons r l =>
        obtain ⟨b, o, e, _, _⟩ := hrs 0 r rfl
        cases e
        intro j u hj
        rw [add_at]
        refine insCells_cell (o := o) (r :: l) o (fun i c hc => ?_) j u hj
        obtain ⟨b', o', e, _, k⟩ := hrs i c hc
        cases e
        exact k
    obtain ⟨v', W', h1, h2, h3, h4⟩ := run_append_own (P := Tryz.prog) W base 40 ty 79 inf _ 4 32 Tryz.underlying40 hi1 hi2 hi3 hi4 rfl (by decide) v n xs hown ad rs.length cap (insCells rs) (insCells_length rs) hcell (insCells_one rs) (by rw [maxLen_eq]; omega) hn hbase
    refine ⟨v', W', h1, h2, (Below.refl _ _).grown h3 hbase fun k hk => ?_⟩
    rcases hown.2 with ⟨h, _⟩ | ⟨g, c, cur, h, hg, _⟩
    · rw [h] at hk; simp [Value.ownBlock] at hk
    · rw [h] at hk; simp [Value.ownBlock] at hk; omega

end Go.Proofs.YtbjpdmfedphacacGreatDoor
end
section
/- What the program's own Compile makes of a rule. -/
set_option linter.all false
set_option maxRecDepth 100000
namespace Go.Proofs.YtbjpdmfedphacacGreatDoor
open Go.RowKit Go.Maps

theorem condsI_take : ∀ (cs : List CondT) (k : Nat) (c : CondT), cs[k]? = some c → (condsI cs).take (2 * (k + 1)) = (condsI cs).take (2 * k) ++ [(1, c.1, 0, 0), askI c (2 * ((cs.length : Int) - k - 1) + 1)]
  | [], _, _, h => by simp at h
  | d :: r, 0, c, h => by
    simp at h
    subst h
    rw [condsI]
    simp
  | d :: r, k + 1, c, h => by
    have ih := condsI_take r k c (by simpa using h)
    rw [condsI, show 2 * (k + 1 + 1) = 2 * (k + 1) + 1 + 1 by omega, show 2 * (k + 1) = 2 * k + 1 + 1 by omega, List.take_succ_cons, List.take_succ_cons, List.take_succ_cons, List.take_succ_cons, show 2 * k + 1 + 1 = 2 * (k + 1) by omega, ih]
    have e : (2 * ((r.length : Int) - k - 1) + 1) = (2 * (((d :: r).length : Int) - (k + 1 : Nat) - 1) + 1) := by simp; omega
    rw [e]
    rfl
theorem condsI_all (cs : List CondT) : (condsI cs).take (2 * cs.length) = condsI cs := List.take_of_length_le (by rw [condsI_length]; omega)

set_option maxHeartbeats 1000000 in
theorem give_any (v : Int) (w : World) :
    Calls Tryz.prog 35 #[.int .i64 v] w fun e w' => e = .returned (.agg #[.int .i64 4, .int .i64 v, .int .i64 0, .int .i64 0]) ∧ Below w.heap.size w w' := by
  go_enter Tryz.func35, Tryz.ntmps35
  go_wp2
  refine bodyPost_ret (v := .agg #[.int .i64 4, .int .i64 v, .int .i64 0, .int .i64 0]) ?_ rfl ⟨rfl, ?_⟩
  · rw [results_cell1 rfl]
    go_simp
  · repeat (first | exact Below.refl _ _ | refine Below.setCell ?_ (by simp) _ | refine Below.alloc ?_ (by simp) _)

set_option maxHeartbeats 1000000 in
theorem ask_any (f op v : Int) (left : Int) (w : World) :
    Calls Tryz.prog 51 #[.agg #[.int .i64 f, .int .i64 op, .int .i64 v], .int .i64 left] w fun e w' => e = .returned (insV (askI (f, op, v) left)) ∧ Below w.heap.size w w' := by
  by_cases h1 : op = 1
  · subst h1
    go_enter Tryz.func51, Tryz.ntmps51
    go_wp2
    refine bodyPost_ret (v := .agg #[.int .i64 2, .int .i64 v, .int .i64 0, .int .i64 left]) ?_ rfl ⟨rfl, ?_⟩
    · rw [results_cell1 rfl]
      go_simp
    · repeat (first | exact Below.refl _ _ | refine Below.setCell ?_ (by simp) _ | refine Below.alloc ?_ (by simp) _)
  · by_cases h2 : op = 2
    · subst h2
      clear h1
      go_enter Tryz.func51, Tryz.ntmps51
      go_wp2
      refine bodyPost_ret (v := .agg #[.int .i64 2, .int .i64 v, .int .i64 left, .int .i64 0]) ?_ rfl ⟨rfl, ?_⟩
      · rw [results_cell1 rfl]
        go_simp
      · repeat (first | exact Below.refl _ _ | refine Below.setCell ?_ (by simp) _ | refine Below.alloc ?_ (by simp) _)
    · by_cases h3 : op = 3
      · subst h3
        clear h1 h2
        go_enter Tryz.func51, Tryz.ntmps51
        go_wp2
        refine bodyPost_ret (v := .agg #[.int .i64 3, .int .i64 v, .int .i64 0, .int .i64 left]) ?_ rfl ⟨rfl, ?_⟩
        · rw [results_cell1 rfl]
          go_simp
        · repeat (first | exact Below.refl _ _ | refine Below.setCell ?_ (by simp) _ | refine Below.alloc ?_ (by simp) _)
      · have HE : Hid (askI (f, op, v) left = (3, v, left, 0)) := by unfold Hid askI; simp [h1, h2, h3]
        have q1 : (op == 1) = false := by simpa using h1
        have q2 : (op == 2) = false := by simpa using h2
        have q3 : (op == 3) = false := by simpa using h3
        clear h1 h2 h3
        go_enter Tryz.func51, Tryz.ntmps51
        go_wp2
        refine bodyPost_ret (v := .agg #[.int .i64 3, .int .i64 v, .int .i64 left, .int .i64 0]) ?_ rfl ⟨by rw [HE.out]; rfl, ?_⟩
        · rw [results_cell1 rfl]
          go_simp
        · repeat (first | exact Below.refl _ _ | refine Below.setCell ?_ (by simp) _ | refine Below.alloc ?_ (by simp) _)

end Go.Proofs.YtbjpdmfedphacacGreatDoor
end
