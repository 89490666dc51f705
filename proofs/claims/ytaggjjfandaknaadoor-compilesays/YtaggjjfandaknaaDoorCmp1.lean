/- What the program's own Compile makes of a rule. -/
import Derived.Test.YtaggjjfandaknaaDoorCmp0
import Derived.Test.YtaggjjfandaknaaDoorInsC
import Derived.Test.YtaggjjfandaknaaDoorGrow
set_option linter.all false
set_option maxRecDepth 100000
namespace Go.Proofs.YtaggjjfandaknaaDoor
open Go.RowKit Go.Maps

theorem condsI_take : ∀ (cs : List CondT) (k : Nat) (c : CondT), cs[k]? = some c → (condsI cs).take (2 * (k + 1)) = (condsI cs).take (2 * k) ++ [(1, c.1, 0, 0), askI c (2 * ((cs.length : Int) - k - 1) + 1)]
  | [], _, _, h => by simp at h
  | d :: r, 0, c, h => by
    simp at h
    subst h
    rw [condsI]
    simp
  | d :: r, k + 1, c, h => by
    have ih := condsI_take r k c (by simpa using h)
    rw [condsI, show 2 * (k + 1 + 1) = 2 * (k + 1) + 1 + 1 by omega, show 2 * (k + 1) = 2 * k + 1 + 1 by omega, List.take_succ_cons, List.take_succ_cons, List.take_succ_cons, List.take_succ_cons, show 2 * k + 1 + 1 = 2 * (k + 1) by omega, ih]
    have e : (2 * ((r.length : Int) - k - 1) + 1) = (2 * (((d :: r).length : Int) - (k + 1 : Nat) - 1) + 1) := by simp; omega
    rw [e]
    rfl
theorem condsI_all (cs : List CondT) : (condsI cs).take (2 * cs.length) = condsI cs := List.take_of_length_le (by rw [condsI_length]; omega)

set_option maxHeartbeats 1000000 in
theorem give_any (v : Int) (w : World) :
    Calls Tryd.prog 61 #[.int .i64 v] w fun e w' => e = .returned (.agg #[.int .i64 4, .int .i64 v, .int .i64 0, .int .i64 0]) ∧ Below w.heap.size w w' := by
  go_enter Tryd.func61, Tryd.ntmps61
  go_wp2
  refine bodyPost_ret (v := .agg #[.int .i64 4, .int .i64 v, .int .i64 0, .int .i64 0]) ?_ rfl ⟨rfl, ?_⟩
  · rw [results_cell1 rfl]
    go_simp
  · repeat (first | exact Below.refl _ _ | refine Below.setCell ?_ (by simp) _ | refine Below.alloc ?_ (by simp) _)

set_option maxHeartbeats 1000000 in
theorem ask_any (f op v : Int) (left : Int) (w : World) :
    Calls Tryd.prog 79 #[.agg #[.int .i64 f, .int .i64 op, .int .i64 v], .int .i64 left] w fun e w' => e = .returned (insV (askI (f, op, v) left)) ∧ Below w.heap.size w w' := by
  by_cases h1 : op = 1
  · subst h1
    go_enter Tryd.func79, Tryd.ntmps79
    go_wp2
    refine bodyPost_ret (v := .agg #[.int .i64 2, .int .i64 v, .int .i64 0, .int .i64 left]) ?_ rfl ⟨rfl, ?_⟩
    · rw [results_cell1 rfl]
      go_simp
    · repeat (first | exact Below.refl _ _ | refine Below.setCell ?_ (by simp) _ | refine Below.alloc ?_ (by simp) _)
  · by_cases h2 : op = 2
    · subst h2
      clear h1
      go_enter Tryd.func79, Tryd.ntmps79
      go_wp2
      refine bodyPost_ret (v := .agg #[.int .i64 2, .int .i64 v, .int .i64 left, .int .i64 0]) ?_ rfl ⟨rfl, ?_⟩
      · rw [results_cell1 rfl]
        go_simp
      · repeat (first | exact Below.refl _ _ | refine Below.setCell ?_ (by simp) _ | refine Below.alloc ?_ (by simp) _)
    · by_cases h3 : op = 3
      · subst h3
        clear h1 h2
        go_enter Tryd.func79, Tryd.ntmps79
        go_wp2
        refine bodyPost_ret (v := .agg #[.int .i64 3, .int .i64 v, .int .i64 0, .int .i64 left]) ?_ rfl ⟨rfl, ?_⟩
        · rw [results_cell1 rfl]
          go_simp
        · repeat (first | exact Below.refl _ _ | refine Below.setCell ?_ (by simp) _ | refine Below.alloc ?_ (by simp) _)
      · have HE : Hid (askI (f, op, v) left = (3, v, left, 0)) := by unfold Hid askI; simp [h1, h2, h3]
        have q1 : (op == 1) = false := by simpa using h1
        have q2 : (op == 2) = false := by simpa using h2
        have q3 : (op == 3) = false := by simpa using h3
        clear h1 h2 h3
        go_enter Tryd.func79, Tryd.ntmps79
        go_wp2
        refine bodyPost_ret (v := .agg #[.int .i64 3, .int .i64 v, .int .i64 left, .int .i64 0]) ?_ rfl ⟨by rw [HE.out]; rfl, ?_⟩
        · rw [results_cell1 rfl]
          go_simp
        · repeat (first | exact Below.refl _ _ | refine Below.setCell ?_ (by simp) _ | refine Below.alloc ?_ (by simp) _)

end Go.Proofs.YtaggjjfandaknaaDoor
