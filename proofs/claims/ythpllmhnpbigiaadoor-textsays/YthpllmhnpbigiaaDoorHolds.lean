/- What the counterpart's Holds says of a right condition: as the program's own. -/
import Derived.Test.YthpllmhnpbigiaaDoorJud
set_option linter.all false
namespace Go.Proofs.YthpllmhnpbigiaaDoor
open Go.RowKit Go.Maps

def boolR : Value → Option (DataW Unit × List MemPlace)
  | .bool x => some (.lit (.bool x), [])
  | _ => none
theorem boolR_inv {v : Value} {z : DataW Unit × List MemPlace} (h : boolR v = some z) : ∃ x, v = .bool x ∧ z = (.lit (.bool x), []) := by
  unfold boolR at h
  split at h
  · exact ⟨_, rfl, (Option.some.inj h).symm⟩
  · cases h

/-- A look-up in a map of bools that the call has made. -/
theorem wpList_lookup_own_bool {P : Program} (w : World) {ops : Array Oper} {rest : List Oper} {o : Oper} {a : Act} {Q : Exit → Act → World → Prop}
    (hg : o.guard = none) (m x : Operand) (t : TypeId) (hop : o.op = Op.lookup t m x false)
    (k e : TypeId) (K : Keyed P k) (ht : P.underlying t = some (.map k e)) (hz : (zeroValue e).run P w = .ok (.bool false) w) (b n : Nat) (D : DataW Unit)
    (hm : a.eval m = .map (some b)) (hown : w.ownsMap P k boolR b n D) (key : Value) (kl : Lit) (hx : a.eval x = key) (hkey : keyOf P k key = some kl)
    (hK : ∀ c : Bool, D.atKey kl (.lit (.bool false)) = .lit (.bool c) → wpList P ops Q rest (a.put o.dst (.bool c)) w) :
    wpList P ops Q (o :: rest) a w := by
  refine wpList_plain hg fun K' hK' => ?_
  obtain ⟨v, ps, hrun, hv⟩ := hown.lookup K ht hz (zd := .lit (.bool false)) (zp := []) rfl hkey
  obtain ⟨c, rfl, hc⟩ := boolR_inv hv
  simp only [Prod.mk.injEq] at hc
  unfold Oper.wp
  simp [execOp, hop, hm, hx, hrun, Result.andThen]
  exact hK' _ _ (hK c hc.1)

theorem zeroBool (w : World) : (zeroValue 4).run Tryd.prog w = .ok (.bool false) w := by kernel_rfl

def fourMap (b1 b2 b3 b4 : Bool) : DataW Unit := ((((DataW.map []).put (.int .i64 1) (.lit (.bool b1))).put (.int .i64 2) (.lit (.bool b2))).put (.int .i64 3) (.lit (.bool b3))).put (.int .i64 4) (.lit (.bool b4))
theorem fourMap_says (b1 b2 b3 b4 : Bool) : (fourMap b1 b2 b3 b4).atKey (.int .i64 1) (.lit (.bool false)) = .lit (.bool b1) ∧ (fourMap b1 b2 b3 b4).atKey (.int .i64 2) (.lit (.bool false)) = .lit (.bool b2) ∧ (fourMap b1 b2 b3 b4).atKey (.int .i64 3) (.lit (.bool false)) = .lit (.bool b3) ∧ (fourMap b1 b2 b3 b4).atKey (.int .i64 4) (.lit (.bool false)) = .lit (.bool b4) := by
  have hk : ∀ z, WideAt.IsKeyLit (.int .i64 z) := fun z => by simp [WideAt.IsKeyLit]
  unfold fourMap
  refine ⟨?_, ?_, ?_, ?_⟩
  · rw [Maps.atKey_put_other (by simp), Maps.atKey_put_other (by simp), Maps.atKey_put_other (by simp)]
    exact Maps.atKey_put_same Maps.isMap_empty (hk 1) _ _
  · rw [Maps.atKey_put_other (by simp), Maps.atKey_put_other (by simp)]
    exact Maps.atKey_put_same (Maps.isMap_empty.put _ _) (hk 2) _ _
  · rw [Maps.atKey_put_other (by simp)]
    exact Maps.atKey_put_same ((Maps.isMap_empty.put _ _).put _ _) (hk 3) _ _
  · exact Maps.atKey_put_same (((Maps.isMap_empty.put _ _).put _ _).put _ _) (hk 4) _ _

set_option maxRecDepth 20000 in
set_option maxHeartbeats 1000000 in
theorem holdsR_any (f op v n : Int) (ho : 1 ≤ op ∧ op ≤ 4) (w : World) :
    Calls Tryd.prog 46 #[.agg #[.int .i64 f, .int .i64 op, .int .i64 v], .int .i64 n] w fun e w' => e = .returned (.bool (holdsB op v n)) ∧ Below w.heap.size w w' := by
  have hmm := @run_makeMap Tryd.prog
  have hm0 := World.ownsMap_made (H := Unit) (w.alloc (.cells #[.int .i64 f, .int .i64 op, .int .i64 v] 63)) Tryd.prog 3 boolR
  simp only [World.size_alloc] at hm0
  have hwf : (Lit.int .i64 op).wf = true := WalkArith.wf_i64 (by omega)
  have HC : Hid (∀ w', Below (w.heap.size + 1) (w.alloc (.cells #[.int .i64 f, .int .i64 op, .int .i64 v] 63)) w' → w'.cell? ⟨w.heap.size, 1, none⟩ = some (.int .i64 op) ∧ w'.cell? ⟨w.heap.size, 2, none⟩ = some (.int .i64 v)) := fun w' h => ⟨(h.cell (p := ⟨w.heap.size, 1, none⟩) (by simp)).trans (by simp [go_sem]), (h.cell (p := ⟨w.heap.size, 2, none⟩) (by simp)).trans (by simp [go_sem])⟩
  have hs := fourMap_says (n == v) (n != v) (decide (n < v)) (decide (v ≤ n))
  unfold fourMap at hs
  have HS : Hid _ := hs
  clear hs
  go_enter Tryd.func46, Tryd.ntmps46
  go_wp2_with (first
    | (refine wpList_insert_own _ rfl _ _ _ 112 rfl 3 4 key3 Tryd.underlying112 _ (w.heap.size + 1) 0 _ rfl hm0 (by decide) _ _ _ rfl rfl (keyOf_int_mk Tryd.underlying3 (by decide)) _ [] rfl ?_; intro w1 hown1 hgrow1; clear hm0; have hb1 : Below (w.heap.size + 1) (w.alloc (.cells #[.int .i64 f, .int .i64 op, .int .i64 v] 63)) w1 := ((Below.refl _ _).alloc (by simp) _).grown hgrow1 (by simp) (fun k hk => by cases hk; exact Nat.le_refl _); have f1 := HC.out w1 hb1)
    | (refine wpList_insert_own _ rfl _ _ _ 112 rfl 3 4 key3 Tryd.underlying112 _ (w.heap.size + 1) 1 _ rfl hown1 (by decide) _ _ _ rfl rfl (keyOf_int_mk Tryd.underlying3 (by decide)) _ [] rfl ?_; intro w2 hown2 hgrow2; clear hown1; have hb2 : Below (w.heap.size + 1) (w.alloc (.cells #[.int .i64 f, .int .i64 op, .int .i64 v] 63)) w2 := hb1.grown hgrow2 (by have := hb1.size; simp at this ⊢; omega) (fun k hk => by cases hk; exact Nat.le_refl _); have f2 := HC.out w2 hb2)
    | (refine wpList_insert_own _ rfl _ _ _ 112 rfl 3 4 key3 Tryd.underlying112 _ (w.heap.size + 1) 2 _ rfl hown2 (by decide) _ _ _ rfl rfl (keyOf_int_mk Tryd.underlying3 (by decide)) _ [] rfl ?_; intro w3 hown3 hgrow3; clear hown2; have hb3 : Below (w.heap.size + 1) (w.alloc (.cells #[.int .i64 f, .int .i64 op, .int .i64 v] 63)) w3 := hb2.grown hgrow3 (by have := hb2.size; simp at this ⊢; omega) (fun k hk => by cases hk; exact Nat.le_refl _); have f3 := HC.out w3 hb3)
    | (refine wpList_insert_own _ rfl _ _ _ 112 rfl 3 4 key3 Tryd.underlying112 _ (w.heap.size + 1) 3 _ rfl hown3 (by decide) _ _ _ rfl rfl (keyOf_int_mk Tryd.underlying3 (by decide)) _ [] rfl ?_; intro w4 hown4 hgrow4; clear hown3; have hb4 : Below (w.heap.size + 1) (w.alloc (.cells #[.int .i64 f, .int .i64 op, .int .i64 v] 63)) w4 := hb3.grown hgrow4 (by have := hb3.size; simp at this ⊢; omega) (fun k hk => by cases hk; exact Nat.le_refl _); have f4 := HC.out w4 hb4)
    | (at_lookup; refine wpList_lookup_own_bool _ rfl _ _ 112 rfl 3 4 key3 Tryd.underlying112 (zeroBool _) (w.heap.size + 1) 4 _ rfl hown4 _ _ rfl (keyOf_int_mk Tryd.underlying3 hwf) ?_; intro c hat))
  have hbF : Below w.heap.size w w4 := ((Below.refl w.heap.size w).alloc (Nat.le_refl _) _).trans (hb4.mono (by omega))
  have hv : holdsB op v n = c := by
    have : op = 1 ∨ op = 2 ∨ op = 3 ∨ op = 4 := by omega
    obtain ⟨s1, s2, s3, s4⟩ := HS.out
    rcases this with rfl | rfl | rfl | rfl
    · rw [hat] at s1; simpa [holdsB] using s1.symm
    · rw [hat] at s2; simpa [holdsB] using s2.symm
    · rw [hat] at s3; simpa [holdsB] using s3.symm
    · rw [hat] at s4; simpa [holdsB] using s4.symm
  go_ret
  exact ⟨by rw [hv]; rfl, hbF⟩

end Go.Proofs.YthpllmhnpbigiaaDoor
