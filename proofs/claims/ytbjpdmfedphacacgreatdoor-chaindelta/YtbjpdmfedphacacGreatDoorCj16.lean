/- What the counterpart's Shorter says. -/
import Derived.Test.YtbjpdmfedphacacGreatDoorCj15
import Derived.Test.YtbjpdmfedphacacGreatDoorCj09
set_option linter.all false
set_option maxRecDepth 100000
namespace Go.Proofs.YtbjpdmfedphacacGreatDoor
open Go.RowKit Go.Maps

theorem keepFrom_snoc (p : PolT) (r : RuleT) : ∀ (l : List RuleT) (k : Nat), keepFrom p k (l ++ [r]) = keepFrom p k l ++ if keepIdx p ((k + l.length : Nat) : Int) then [r] else []
  | [], k => by
    show keepFrom p k [r] = _
    unfold keepFrom
    simp [keepFrom]
  | s :: l, k => by
    have ih := keepFrom_snoc p r l (k + 1)
    rw [show k + 1 + l.length = k + (s :: l).length by simp; omega] at ih
    show keepFrom p k (s :: (l ++ [r])) = _
    unfold keepFrom
    split
    · rw [ih]; rfl
    · rw [ih]
theorem cutEnd_snoc (d : Int) (r : RuleT) : ∀ l : List RuleT, cutEnd d (l ++ [r]) = if r.2 = d then cutEnd d l else l ++ [r]
  | [] => by
    show (if cutEnd d [] = [] ∧ r.2 = d then [] else r :: cutEnd d []) = _
    by_cases h : r.2 = d <;> simp [h, cutEnd]
  | s :: l => by
    have ih := cutEnd_snoc d r l
    show (if cutEnd d (l ++ [r]) = [] ∧ s.2 = d then [] else s :: cutEnd d (l ++ [r])) = _
    rw [ih]
    by_cases h : r.2 = d
    · rw [if_pos h, if_pos h]
      rfl
    · rw [if_neg h, if_neg h, if_neg (by simp)]
      rfl
theorem cutEnd_is_take (d : Int) (l : List RuleT) : cutEnd d l = l.take (cutEnd d l).length := by
  obtain ⟨n, h⟩ := cutEnd_take d l
  rw [h, List.length_take]
  by_cases hn : n ≤ l.length
  · rw [Nat.min_eq_left hn]
  · rw [Nat.min_eq_right (by omega), List.take_of_length_le (by omega), List.take_length]
theorem infoRuleS : ∃ i, Tryz.prog.info? 51 = some i ∧ i.zero = some (.agg #[.slice none 0 0, .int .i64 0]) ∧ i.size = 2 ∧ i.bytes = 32 := infoOf (by kernel_rfl)
theorem xs_one {B : Nat} {w : World} {a : Option Addr} {n c : Nat} {r : RuleT} (h : CondsAt B w (.slice a n c) r.1) (hw : wf r.2) : XsAt B w [.slice a n c, .int .i64 r.2] [r] := by
  refine ⟨rfl, fun u hu => ?_, fun i s hs => ?_⟩
  · simp at hu
    rcases hu with rfl | rfl <;> rfl
  · match i, hs with
    | 0, hs =>
      simp at hs
      subst hs
      exact ⟨_, rfl, rfl, hw, h⟩
    | i + 1, hs => simp at hs
theorem RulesAt.take {B : Nat} {w : World} {a : Option Addr} {n c : Nat} {rs : List RuleT} (h : RulesAt B w (.slice a n c) rs) (m : Nat) (hm : m ≤ rs.length) : RulesAt B w (.slice a m c) (rs.take m) := by
  obtain ⟨a', c', e, h1, h2, h3⟩ := h
  simp at e
  obtain ⟨rfl, rfl, rfl⟩ := e
  refine ⟨a, c, by rw [List.length_take, Nat.min_eq_left hm], by rw [List.length_take]; omega, h2, fun i r hr => ?_⟩
  rw [List.getElem?_take] at hr
  split at hr
  · exact h3 i r hr
  · cases hr
def shortR (p : PolT) : PolT := if pointsE [p] = 0 then shortP p else ([], 0)
theorem own_lt {w : World} {base size n : Nat} {e : TypeId} {v : Value} {xs : List Value} (h : w.ownsRow base e size v n xs) : ∀ k, v.ownBlock = some k → k < w.heap.size := fun k hk => by
  obtain ⟨cur, hc⟩ := ownsRow_tag h k hk
  exact lt_of_block hc
/-- A policy whose rules, if there are any, lie in a block from L on. -/
def RowFrom (L : Nat) (v : Value) : Prop := ∀ (b o n c : Nat) (d : Value), v = .agg #[.slice (some ⟨b, o, none⟩) n c, d] → L ≤ b

end Go.Proofs.YtbjpdmfedphacacGreatDoor
