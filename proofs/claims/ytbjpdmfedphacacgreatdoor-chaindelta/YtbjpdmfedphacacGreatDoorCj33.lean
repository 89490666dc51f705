/- What the counterpart's Filter says of a policy: the same. -/
import Derived.Test.YtbjpdmfedphacacGreatDoorCj22
import Derived.Test.YtbjpdmfedphacacGreatDoorCj02
set_option linter.all false
set_option maxRecDepth 100000
namespace Go.Proofs.YtbjpdmfedphacacGreatDoor
open Go.RowKit Go.Maps

/-- A literal of instructions, appended to a row of one's own. -/
theorem wpList_app {ops : Array Oper} {rest : List Oper} {o : Oper} {a : Act} {Q : Exit → Act → World → Prop} (w : World) (hgd : o.guard = none) (s x : Operand)
    (hop : o.op = .call { callee := .builtin .append, args := #[s, x], argTypes := #[40, 40] })
    (base : Nat) (v : Value) (n : Nat) (xs : List Value) (hs : a.eval s = v) (g : Nat) (rs : List InsT) (hx : a.eval x = .slice (some ⟨g, 0, none⟩) rs.length rs.length)
    (W : World) (hw : w = W.alloc (.cells (insCells rs).toArray 79)) (hg : g = W.heap.size) (wo : World) (hb : Below wo.heap.size wo W) (hown : wo.ownsRow base 79 4 v n xs) (hn : n + rs.length ≤ 4000000) (hbase : base ≤ wo.heap.size)
    (h : ∀ v' w', Hid (w'.ownsRow base 79 4 v' (n + rs.length) (xs ++ insCells rs)) → Below base wo w' → ButT 79 wo w' → wpList Tryz.prog ops Q rest (a.put o.dst v') w') : wpList Tryz.prog ops Q (o :: rest) a w := by
  obtain ⟨inf, hi1, hi2, hi3, hi4⟩ := infoIns
  subst hw
  subst hg
  have hbX : Below wo.heap.size wo (W.alloc (.cells (insCells rs).toArray 79)) := hb.alloc hb.size _
  obtain ⟨v', W', r1, r2, r3, r4⟩ := app_own (P := Tryz.prog) Tryz.underlying40 hi1 hi2 hi3 hi4 rfl (by decide) base o.type v n rs.length W.heap.size xs (insCells rs) _ (ownsRow_below hown hbX) (heap_made _ _) (insCells_length rs) (insCells_one _) (by rw [maxLen_eq]; omega) (by omega) (Nat.le_trans hbase hbX.size) rs.length
  exact Lib.wpList_append_run _ hgd s x _ _ hop _ _ hs hx _ _ r1 (h v' W' r2 ((hbX.mono hbase).trans r3) ((ButT.of_below hbX).trans r4))

end Go.Proofs.YtbjpdmfedphacacGreatDoor
