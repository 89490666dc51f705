/- What the counterpart's Holds says of a right condition: as the program's own. -/
import Derived.Test.YtffhpcfphodamaaGreatDoorJud
set_option linter.all false
namespace Go.Proofs.YtffhpcfphodamaaGreatDoor
open Go.RowKit Go.Maps

def boolR : Value → Option (DataW Unit × List MemPlace)
  | .bool x => some (.lit (.bool x), [])
  | _ => none
theorem boolR_inv {v : Value} {z : DataW Unit × List MemPlace} (h : boolR v = some z) : ∃ x, v = .bool x ∧ z = (.lit (.bool x), []) := by
  unfold boolR at h
  split at h
  · exact ⟨_, rfl, (Option.some.inj h).symm⟩
  · cases h

/-- A look-up in a map of bools that the call has made. -/
theorem wpList_lookup_own_bool {P : Program} (w : World) {ops : Array Oper} {rest : List Oper} {o : Oper} {a : Act} {Q : Exit → Act → World → Prop}
    (hg : o.guard = none) (m x : Operand) (t : TypeId) (hop : o.op = Op.lookup t m x false)
    (k e : TypeId) (K : Keyed P k) (ht : P.underlying t = some (.map k e)) (hz : (zeroValue e).run P w = .ok (.bool false) w) (b n : Nat) (D : DataW Unit)
    (hm : a.eval m = .map (some b)) (hown : w.ownsMap P k boolR b n D) (key : Value) (kl : Lit) (hx : a.eval x = key) (hkey : keyOf P k key = some kl)
    (hK : ∀ c : Bool, D.atKey kl (.lit (.bool false)) = .lit (.bool c) → wpList P ops Q rest (a.put o.dst (.bool c)) w) :
    wpList P ops Q (o :: rest) a w := by
  refine wpList_plain hg fun K' hK' => ?_
  obtain ⟨v, ps, hrun, hv⟩ := hown.lookup K ht hz (zd := .lit (.bool false)) (zp := []) rfl hkey
  obtain ⟨c, rfl, hc⟩ := boolR_inv hv
  simp only [Prod.mk.injEq] at hc
  unfold Oper.wp
  simp [execOp, hop, hm, hx, hrun, Result.andThen]
  exact hK' _ _ (hK c hc.1)

theorem zeroBool (w : World) : (zeroValue 4).run Tryz.prog w = .ok (.bool false) w := by kernel_rfl

def fourMap (b1 b2 b3 b4 : Bool) : DataW Unit := ((((DataW.map []).put (.int .i64 1) (.lit (.bool b1))).put (.int .i64 2) (.lit (.bool b2))).put (.int .i64 3) (.lit (.bool b3))).put (.int .i64 4) (.lit (.bool b4))
theorem fourMap_says (b1 b2 b3 b4 : Bool) : (fourMap b1 b2 b3 b4).atKey (.int .i64 1) (.lit (.bool false)) = .lit (.bool b1) ∧ (fourMap b1 b2 b3 b4).atKey (.int .i64 2) (.lit (.bool false)) = .lit (.bool b2) ∧ (fourMap b1 b2 b3 b4).atKey (.int .i64 3) (.lit (.bool false)) = .lit (.bool b3) ∧ (fourMap b1 b2 b3 b4).atKey (.int .i64 4) (.lit (.bool false)) = .lit (.bool b4) := by
  have hk : ∀ z, WideAt.IsKeyLit (.int .i64 z) := fun z => by simp [WideAt.IsKeyLit]
  unfold fourMap
  refine ⟨?_, ?_, ?_, ?_⟩
  · rw [Maps.atKey_put_other (by simp), Maps.atKey_put_other (by simp), Maps.atKey_put_other (by simp)]
    exact Maps.atKey_put_same Maps.isMap_empty (hk 1) _ _
  · rw [Maps.atKey_put_other (by simp), Maps.atKey_put_other (by simp)]
    exact Maps.atKey_put_same (Maps.isMap_empty.put _ _) (hk 2) _ _
  · rw [Maps.atKey_put_other (by simp)]
    exact Maps.atKey_put_same ((Maps.isMap_empty.put _ _).put _ _) (hk 3) _ _
  · exact Maps.atKey_put_same (((Maps.isMap_empty.put _ _).put _ _).put _ _) (hk 4) _ _

end Go.Proofs.YtffhpcfphodamaaGreatDoor
