/- Joined: Cmp5 EqI Chn3. -/
import Derived.Test.YtbjpdmfedphacacGreatDoorCj07
import Derived.Test.YtbjpdmfedphacacGreatDoorCj22
import Derived.Laws.StructEq
import Derived.Test.YtbjpdmfedphacacGreatDoorCj18
import Derived.Test.YtbjpdmfedphacacGreatDoorCj21
section
/- compiled: the closed fact that every statement on filters of policies asks first. -/
set_option linter.all false
set_option maxRecDepth 100000
namespace Go.Proofs.YtbjpdmfedphacacGreatDoor
open Go.RowKit Go.Maps

theorem eqIns (d : Nat) (a b c e a2 b2 c2 e2 : Int) (w : World) : (Op.equalIn (d + 3) 79 (.agg #[.int .i64 a, .int .i64 b, .int .i64 c, .int .i64 e]) (.agg #[.int .i64 a2, .int .i64 b2, .int .i64 c2, .int .i64 e2])).run Tryz.prog w = .ok (decide (((a, b, c, e) : InsT) = (a2, b2, c2, e2))) w := by
  have u3 := Tryz.underlying3
  have a3 := Tryz.isAgg3
  have z3 := Tryz.sizeOf3
  have hS : Tryz.prog.underlying 79 = some (.struct (Tryz.prog.fieldsOf 79)) := by kernel_rfl
  have hp : Tryz.prog.stoodInHeld 79 = false := by kernel_rfl
  rw [run_equalIn_agg w (d + 2) 79 _ _ hS hp]
  simp only [Program.fieldsOf, Tryz.underlying79]
  go_simp
  by_cases h1 : a = a2 <;> by_cases h2 : b = b2 <;> by_cases h3 : c = c2 <;> by_cases h4 : e = e2 <;> simp [h1, h2, h3, h4]
theorem neqIns (a b c e a2 b2 c2 e2 : Int) (w : World) : (binOp .neq 79 (.agg #[.int .i64 a, .int .i64 b, .int .i64 c, .int .i64 e]) (.agg #[.int .i64 a2, .int .i64 b2, .int .i64 c2, .int .i64 e2])).run Tryz.prog w = .ok (.bool (!decide (((a, b, c, e) : InsT) = (a2, b2, c2, e2)))) w := by
  rw [run_neq_struct, show (10000 : Nat) = 9997 + 3 from rfl, eqIns]
  rfl
theorem eqlIns (a b c e a2 b2 c2 e2 : Int) (w : World) : (binOp .eql 79 (.agg #[.int .i64 a, .int .i64 b, .int .i64 c, .int .i64 e]) (.agg #[.int .i64 a2, .int .i64 b2, .int .i64 c2, .int .i64 e2])).run Tryz.prog w = .ok (.bool (decide (((a, b, c, e) : InsT) = (a2, b2, c2, e2)))) w := by
  rw [run_eql_struct, show (10000 : Nat) = 9997 + 3 from rfl, eqIns]
  rfl
theorem guardIns (op : BinOp) (x y : Operand) (xs ys : Array Value) (w : World) : (eqGuard op 79 x y (.agg xs) (.agg ys)).run Tryz.prog w = .ok () w := run_eqGuard_agg _ _ _ _ _ _ _ (by kernel_rfl)
/-- Two instructions compared, in a region that draws its order. -/
theorem wpQuiet_neqIns {ops : Array Oper} {C : World → Prop} {Q : Act → Prop} {a : Act} {o : Oper} {rest : List Oper} (x y : Operand) (t : TypeId) (hop : o.op = .binOp .neq 79 x y t) (hw : Region.wanted o (yielded ops a.tmps) = true)
    (f op v u f2 op2 v2 u2 : Int) (hx : a.eval x = .agg #[.int .i64 f, .int .i64 op, .int .i64 v, .int .i64 u]) (hy : a.eval y = .agg #[.int .i64 f2, .int .i64 op2, .int .i64 v2, .int .i64 u2])
    (q : Bool) (hq : (!decide (((f, op, v, u) : InsT) = (f2, op2, v2, u2))) = q) (h : wpQuiet Tryz.prog ops C Q rest (a.put o.dst (.bool q))) : wpQuiet Tryz.prog ops C Q (o :: rest) a := by
  subst hq
  refine BigFrame.wpQuiet_want hw fun K hK => ⟨_, fun w _ => ?_, hK _ h⟩
  unfold Oper.quietAt execOp
  rw [hop]
  simp only [hx, hy]
  have e : ((do eqGuard .neq 79 x y (.agg #[.int .i64 f, .int .i64 op, .int .i64 v, .int .i64 u]) (.agg #[.int .i64 f2, .int .i64 op2, .int .i64 v2, .int .i64 u2]); binOp .neq 79 (.agg #[.int .i64 f, .int .i64 op, .int .i64 v, .int .i64 u]) (.agg #[.int .i64 f2, .int .i64 op2, .int .i64 v2, .int .i64 u2])) : Sem Value).run Tryz.prog w = .ok (.bool (!decide (((f, op, v, u) : InsT) = (f2, op2, v2, u2)))) w := by
    simp only [Sem.run_bind, guardIns, neqIns, Result.andThen]
  simp only [Sem.run_bind, e, Result.andThen]
  exact ⟨rfl, rfl⟩

theorem compL_made : compL madeP = [(1, 0, 0, 0), (2, 3, 0, 3), (1, 2, 0, 0), (3, 5, 0, 1), (4, 0, 0, 0), (1, 1, 0, 0), (2, 0, 1, 0), (4, 3, 0, 0), (4, 4, 0, 0)] := by decide
theorem compE_made : compE madeP = 0 := by decide

end Go.Proofs.YtbjpdmfedphacacGreatDoor
end
section
/- slices.Equal of two filters. -/
set_option linter.all false
set_option maxRecDepth 100000
namespace Go.Proofs.YtbjpdmfedphacacGreatDoor
open Go.RowKit Go.Maps

end Go.Proofs.YtbjpdmfedphacacGreatDoor
end
section
/- The counterpart's own reading of chains: CheckChain, Asked, SameChain. -/
set_option linter.all false
set_option maxRecDepth 100000
namespace Go.Proofs.YtbjpdmfedphacacGreatDoor
open Go.RowKit Go.Maps

theorem askF_step (x : Nat → Int) (ls : ChT) (k : Nat) (f : List InsT) (h : ls[k]? = some f) : askF x 4 (ls.take (k + 1)) = if (runs x 0 0 f).1 < askF x 4 (ls.take k) then (runs x 0 0 f).1 else askF x 4 (ls.take k) := by
  rw [List.take_succ, h]
  exact askF_snoc x 4 _ f

theorem take_eq_step {α : Type} [DecidableEq α] (l m : List α) (k : Nat) (a b : α) (ha : l[k]? = some a) (hb : m[k]? = some b) (h : l.take k = m.take k) : l.take (k + 1) = m.take (k + 1) ↔ a = b := by
  rw [List.take_succ, List.take_succ, ha, hb, h]
  simp

end Go.Proofs.YtbjpdmfedphacacGreatDoor
end
