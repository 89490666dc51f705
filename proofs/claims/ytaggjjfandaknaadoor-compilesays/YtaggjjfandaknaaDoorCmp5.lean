/- compiled: the closed fact that every statement on filters of policies asks first. -/
import Derived.Test.YtaggjjfandaknaaDoorMade
import Derived.Test.YtaggjjfandaknaaDoorCmp4
import Derived.Laws.StructEq
set_option linter.all false
set_option maxRecDepth 100000
namespace Go.Proofs.YtaggjjfandaknaaDoor
open Go.RowKit Go.Maps

theorem eqIns (d : Nat) (a b c e a2 b2 c2 e2 : Int) (w : World) : (Op.equalIn (d + 3) 57 (.agg #[.int .i64 a, .int .i64 b, .int .i64 c, .int .i64 e]) (.agg #[.int .i64 a2, .int .i64 b2, .int .i64 c2, .int .i64 e2])).run Tryd.prog w = .ok (decide (((a, b, c, e) : InsT) = (a2, b2, c2, e2))) w := by
  have u3 := Tryd.underlying3
  have a3 := Tryd.isAgg3
  have z3 := Tryd.sizeOf3
  have hS : Tryd.prog.underlying 57 = some (.struct (Tryd.prog.fieldsOf 57)) := by kernel_rfl
  have hp : Tryd.prog.stoodInHeld 57 = false := by kernel_rfl
  rw [run_equalIn_agg w (d + 2) 57 _ _ hS hp]
  simp only [Program.fieldsOf, Tryd.underlying57]
  go_simp
  by_cases h1 : a = a2 <;> by_cases h2 : b = b2 <;> by_cases h3 : c = c2 <;> by_cases h4 : e = e2 <;> simp [h1, h2, h3, h4]
theorem neqIns (a b c e a2 b2 c2 e2 : Int) (w : World) : (binOp .neq 57 (.agg #[.int .i64 a, .int .i64 b, .int .i64 c, .int .i64 e]) (.agg #[.int .i64 a2, .int .i64 b2, .int .i64 c2, .int .i64 e2])).run Tryd.prog w = .ok (.bool (!decide (((a, b, c, e) : InsT) = (a2, b2, c2, e2)))) w := by
  rw [run_neq_struct, show (10000 : Nat) = 9997 + 3 from rfl, eqIns]
  rfl
theorem eqlIns (a b c e a2 b2 c2 e2 : Int) (w : World) : (binOp .eql 57 (.agg #[.int .i64 a, .int .i64 b, .int .i64 c, .int .i64 e]) (.agg #[.int .i64 a2, .int .i64 b2, .int .i64 c2, .int .i64 e2])).run Tryd.prog w = .ok (.bool (decide (((a, b, c, e) : InsT) = (a2, b2, c2, e2)))) w := by
  rw [run_eql_struct, show (10000 : Nat) = 9997 + 3 from rfl, eqIns]
  rfl
theorem guardIns (op : BinOp) (x y : Operand) (xs ys : Array Value) (w : World) : (eqGuard op 57 x y (.agg xs) (.agg ys)).run Tryd.prog w = .ok () w := run_eqGuard_agg _ _ _ _ _ _ _ (by kernel_rfl)
/-- Two instructions compared, in a region that draws its order. -/
theorem wpQuiet_neqIns {ops : Array Oper} {C : World → Prop} {Q : Act → Prop} {a : Act} {o : Oper} {rest : List Oper} (x y : Operand) (t : TypeId) (hop : o.op = .binOp .neq 57 x y t) (hw : Region.wanted o (yielded ops a.tmps) = true)
    (f op v u f2 op2 v2 u2 : Int) (hx : a.eval x = .agg #[.int .i64 f, .int .i64 op, .int .i64 v, .int .i64 u]) (hy : a.eval y = .agg #[.int .i64 f2, .int .i64 op2, .int .i64 v2, .int .i64 u2])
    (q : Bool) (hq : (!decide (((f, op, v, u) : InsT) = (f2, op2, v2, u2))) = q) (h : wpQuiet Tryd.prog ops C Q rest (a.put o.dst (.bool q))) : wpQuiet Tryd.prog ops C Q (o :: rest) a := by
  subst hq
  refine BigFrame.wpQuiet_want hw fun K hK => ⟨_, fun w _ => ?_, hK _ h⟩
  unfold Oper.quietAt execOp
  rw [hop]
  simp only [hx, hy]
  have e : ((do eqGuard .neq 57 x y (.agg #[.int .i64 f, .int .i64 op, .int .i64 v, .int .i64 u]) (.agg #[.int .i64 f2, .int .i64 op2, .int .i64 v2, .int .i64 u2]); binOp .neq 57 (.agg #[.int .i64 f, .int .i64 op, .int .i64 v, .int .i64 u]) (.agg #[.int .i64 f2, .int .i64 op2, .int .i64 v2, .int .i64 u2])) : Sem Value).run Tryd.prog w = .ok (.bool (!decide (((f, op, v, u) : InsT) = (f2, op2, v2, u2)))) w := by
    simp only [Sem.run_bind, guardIns, neqIns, Result.andThen]
  simp only [Sem.run_bind, e, Result.andThen]
  exact ⟨rfl, rfl⟩

theorem compL_made : compL madeP = [(1, 0, 0, 0), (2, 3, 0, 3), (1, 2, 0, 0), (3, 5, 0, 1), (4, 0, 0, 0), (1, 1, 0, 0), (2, 0, 1, 0), (4, 3, 0, 0), (4, 4, 0, 0)] := by decide
theorem compE_made : compE madeP = 0 := by decide

set_option maxHeartbeats 2000000 in
theorem compiled_true (w : World) (he : EnvAt w) :
    Calls Tryd.prog 28 #[] w fun e w' => e = .returned (.bool true) ∧ Below w.heap.size w w' := by
  have he' : Hid (EnvAt w) := he
  clear he
  have e0 : ∀ w, (Op.equalIn 10000 57 (.agg #[.int .i64 1, .int .i64 0, .int .i64 0, .int .i64 0]) (.agg #[.int .i64 1, .int .i64 0, .int .i64 0, .int .i64 0])).run Tryd.prog w = .ok true w := fun w => eqIns 9997 1 0 0 0 1 0 0 0 w
  have e1 : ∀ w, (Op.equalIn 10000 57 (.agg #[.int .i64 2, .int .i64 3, .int .i64 0, .int .i64 3]) (.agg #[.int .i64 2, .int .i64 3, .int .i64 0, .int .i64 3])).run Tryd.prog w = .ok true w := fun w => eqIns 9997 2 3 0 3 2 3 0 3 w
  have e3 : ∀ w, (Op.equalIn 10000 57 (.agg #[.int .i64 3, .int .i64 5, .int .i64 0, .int .i64 1]) (.agg #[.int .i64 3, .int .i64 5, .int .i64 0, .int .i64 1])).run Tryd.prog w = .ok true w := fun w => eqIns 9997 3 5 0 1 3 5 0 1 w
  have e8 : ∀ w, (Op.equalIn 10000 57 (.agg #[.int .i64 4, .int .i64 4, .int .i64 0, .int .i64 0]) (.agg #[.int .i64 4, .int .i64 4, .int .i64 0, .int .i64 0])).run Tryd.prog w = .ok true w := fun w => eqIns 9997 4 4 0 0 4 4 0 0 w
  have g := guardIns
  go_enter Tryd.func28, Tryd.ntmps28
  go_wp2_with fail
  go_at_call 40
  refine Calls.mono (made_any w he'.out) ?_
  rintro e w1 ⟨pv1, rfl, hp1, hb1⟩
  go_wp2_with fail
  go_at_call 26
  refine Calls.mono (compile_any w1.heap.size pv1 madeP w1 hp1.at (Nat.le_refl _)) ?_
  rintro e w2 ⟨lv, rfl, ho, hwf, hb2⟩
  have b2 := Below.thenOf hb1 hb2 hb1.size
  rw [compE_made]
  rw [compL_made] at ho
  replace ho : w2.ownsRow w1.heap.size 57 4 lv 9 (insCells [(1, 0, 0, 0), (2, 3, 0, 3), (1, 2, 0, 0), (3, 5, 0, 1), (4, 0, 0, 0), (1, 1, 0, 0), (2, 0, 1, 0), (4, 3, 0, 0), (4, 4, 0, 0)]) := ho
  obtain ⟨g2, cap, rfl, _⟩ := ownsRow_shape ho (by decide)
  have c := fun q v h => ownsRow_cell ho q v h
  have c00 := c 0 _ rfl
  have c01 := c 1 _ rfl
  have c02 := c 2 _ rfl
  have c03 := c 3 _ rfl
  have c10 := c 4 _ rfl
  have c11 := c 5 _ rfl
  have c12 := c 6 _ rfl
  have c13 := c 7 _ rfl
  have c30 := c 12 _ rfl
  have c31 := c 13 _ rfl
  have c32 := c 14 _ rfl
  have c33 := c 15 _ rfl
  have c80 := c 32 _ rfl
  have c81 := c 33 _ rfl
  have c82 := c 34 _ rfl
  have c83 := c 35 _ rfl
  have hcap : 9 ≤ cap ∧ cap ≤ 9223372036854775807 := by
    obtain ⟨a, cap', e, h1, h2, _⟩ := ownsRow_caps ho
    simp at e
    have := maxLen_eq
    omega
  clear c ho hwf hp1 hb1 hb2
  go_wp2_with fail
  go_ret
  exact ⟨rfl, b2⟩
end Go.Proofs.YtaggjjfandaknaaDoor
