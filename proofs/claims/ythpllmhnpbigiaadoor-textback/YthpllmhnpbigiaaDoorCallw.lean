/- What the functions that CallSays calls come to: Most, in. -/
import Derived.Test.YthpllmhnpbigiaaDoorRows
import Derived.WalkKit
import Derived.WalkSpells
import Derived.WalkLawsBesides
import Derived.Deep.QuietTactic
import Derived.BigQuiet
import Derived.Maps.OwnSet
import Derived.Maps.Views
namespace Go.Proofs.YthpllmhnpbigiaaDoor
open Go.RowKit Go.Maps

/-- How great a field may be. -/
def most (n : Int) : Int := if n = 0 then 63 else if n = 1 then 3 else 65535

set_option maxHeartbeats 400000 in
theorem most_any (n : Int) (w : World) :
    Calls Tryd.prog 64 #[.int .i64 n] w fun e w' => e = .returned (.int .i64 (most n)) ∧ w' = w := by
  by_cases h0 : n = 0
  · subst h0
    go_enter Tryd.func64, Tryd.ntmps64
    go_wp2
    go_ret
    exact ⟨rfl, rfl⟩
  · by_cases h1 : n = 1
    · subst h1
      go_enter Tryd.func64, Tryd.ntmps64
      go_wp2
      go_ret
      exact ⟨rfl, rfl⟩
    · have e : most n = 65535 := by simp [most, h0, h1]
      have H : Hid (most n = 65535) := e
      clear e
      have k0 : (n == 0) = false := by simpa using h0
      have k1 : (n == 1) = false := by simpa using h1
      clear h0 h1
      go_enter Tryd.func64, Tryd.ntmps64
      go_wp2
      go_ret
      exact ⟨by rw [H.out]; rfl, rfl⟩

set_option maxHeartbeats 400000 in
theorem in_any (n a b : Int) (w : World) :
    Calls Tryd.prog 38 #[.int .i64 n, .int .i64 a, .int .i64 b] w fun e w' => e = .returned (.bool (decide (a ≤ n) && decide (n ≤ b))) ∧ w' = w := by
  by_cases h0 : a ≤ n
  · go_enter Tryd.func38, Tryd.ntmps38
    go_wp2
    go_ret
    exact ⟨by simp [h0], rfl⟩
  · go_enter Tryd.func38, Tryd.ntmps38
    go_wp2
    go_ret
    exact ⟨by simp; omega, rfl⟩

/-- A map literal's entry, at the operation: as a store into a map that the call has made. -/
theorem wpList_insert_own {H : Type} {P : Program} (w : World) {ops : Array Oper} {rest : List Oper} {o : Oper} {a : Act} {Q : Exit → Act → World → Prop}
    (hg : o.guard = none) (m x v : Operand) (t : TypeId) (hop : o.op = Op.insert t m x v)
    (k e : TypeId) (K : Maps.Keyed P k) (ht : P.underlying t = some (.map k e)) (R : Value → Option (DataW H × List MemPlace)) (b n : Nat) (D : DataW H)
    (hm : a.eval m = .map (some b)) (hown : w.ownsMap P k R b n D) (hn : n < maxLen) (key val : Value) (kl : Lit) (hx : a.eval x = key) (hv : a.eval v = val) (hkey : keyOf P k key = some kl)
    (d : DataW H) (ps : List MemPlace) (hval : R val = some (d, ps))
    (hK : ∀ w', w'.ownsMap P k R b (n + 1) (D.put kl d) → w.grownBy w' (some b) → wpList P ops Q rest (a.put o.dst undef) w') :
    wpList P ops Q (o :: rest) a w := by
  refine wpList_plain hg fun K' hK' => ?_
  obtain ⟨w', hrun, r1, r2⟩ := hown.update K ht hn hkey hval
  unfold Oper.wp
  simp [execOp, hop, hm, hx, hv, hrun, Result.andThen]
  exact hK' _ _ (hK w' r1 r2)

theorem zero3 (w : World) : (zeroValue 3).run Tryd.prog w = .ok (.int .i64 0) w := by kernel_rfl
theorem key3 : Maps.Keyed Tryd.prog 3 := Maps.int_keyed Tryd.underlying3

/-- What the small map of MostOf says. -/
def mostMap : DataW Unit := ((DataW.map []).put (.int .i64 0) (.lit (.int .i64 63))).put (.int .i64 1) (.lit (.int .i64 3))
theorem mostMap_says (n : Int) : (Maps.has mostMap (.int .i64 n) = true ∧ mostMap.atKey (.int .i64 n) (.lit (.int .i64 0)) = .lit (.int .i64 (most n))) ∨ (Maps.has mostMap (.int .i64 n) = false ∧ most n = 65535) := by
  have hk : ∀ z, WideAt.IsKeyLit (.int .i64 z) := fun z => by simp [WideAt.IsKeyLit]
  unfold mostMap
  by_cases h1 : n = 1
  · subst h1
    exact .inl ⟨Maps.has_put_same (Maps.isMap_empty.put _ _) (hk 1) _, Maps.atKey_put_same (Maps.isMap_empty.put _ _) (hk 1) _ _⟩
  · have e1 : Lit.int .i64 n ≠ Lit.int .i64 1 := by simpa using h1
    rw [Maps.has_put_other e1, Maps.atKey_put_other e1]
    by_cases h0 : n = 0
    · subst h0
      exact .inl ⟨Maps.has_put_same Maps.isMap_empty (hk 0) _, Maps.atKey_put_same Maps.isMap_empty (hk 0) _ _⟩
    · have e0 : Lit.int .i64 n ≠ Lit.int .i64 0 := by simpa using h0
      rw [Maps.has_put_other e0]
      exact .inr ⟨rfl, by simp [most, h0, h1]⟩

set_option maxHeartbeats 400000 in
theorem mostOf_any (n : Int) (hn : (Lit.int .i64 n).wf = true) (w : World) :
    Calls Tryd.prog 39 #[.int .i64 n] w fun e w' => e = .returned (.int .i64 (most n)) ∧ Below w.heap.size w w' := by
  have hmm := @run_makeMap Tryd.prog
  have hm0 := World.ownsMap_made (H := Unit) w Tryd.prog 3 (plainElem Tryd.prog 3)
  go_enter Tryd.func39, Tryd.ntmps39
  go_wp2_with (first
    | (refine wpList_insert_own _ rfl _ _ _ 110 rfl 3 3 key3 Tryd.underlying110 _ w.heap.size 0 _ rfl hm0 (by decide) _ _ _ rfl rfl (keyOf_int_mk Tryd.underlying3 (by decide)) _ [] (plainElem_int Tryd.underlying3 (by decide)) ?_; intro w1 hown1 hgrow1; clear hm0)
    | (refine wpList_insert_own _ rfl _ _ _ 110 rfl 3 3 key3 Tryd.underlying110 _ w.heap.size 1 _ rfl hown1 (by decide) _ _ _ rfl rfl (keyOf_int_mk Tryd.underlying3 (by decide)) _ [] (plainElem_int Tryd.underlying3 (by decide)) ?_; intro w2 hown2 hgrow2; clear hown1)
    | (at_lookup; refine wpList_lookup_own_ok_int _ rfl _ _ 110 rfl 3 3 .i64 key3 Tryd.underlying110 Tryd.underlying3 (zero3 _) w.heap.size 2 _ rfl hown2 _ _ rfl (keyOf_int_mk Tryd.underlying3 hn) ?_; intro c hat hwc))
  all_goals
    have hb : Below w.heap.size w w2 := (((Below.refl _ _).alloc (Nat.le_refl _) _).grown hgrow1 (by simp) (fun k hk => by cases hk; exact Nat.le_refl _)).grown hgrow2 (by have := hgrow1.size; simp at this; omega) (fun k hk => by cases hk; exact Nat.le_refl _)
    have hs := mostMap_says n
    unfold mostMap at hs
    go_ret
    refine ⟨?_, hb⟩
  · rcases hs with ⟨_, h2⟩ | ⟨h1, _⟩
    · rw [hat] at h2
      simp at h2
      exact congrArg (fun z => Ending.returned (.int .i64 z)) h2
    · simp_all
  · rcases hs with ⟨h1, _⟩ | ⟨_, h2⟩
    · simp_all
    · exact congrArg (fun z => Ending.returned (.int .i64 z)) h2.symm

end Go.Proofs.YthpllmhnpbigiaaDoor
