/- Joined: Callw Later Chk. -/
import Derived.Test.YthpllmhnpbigiacGreatDoorRows
import Derived.WalkKit
import Derived.WalkSpells
import Derived.WalkLawsBesides
import Derived.Deep.QuietTactic
import Derived.BigQuiet
import Derived.Maps.OwnSet
import Derived.Maps.Views
section
/- What the functions that CallSays calls come to: Most, in. -/
namespace Go.Proofs.YthpllmhnpbigiacGreatDoor
open Go.RowKit Go.Maps

/-- How great a field may be. -/
def most (n : Int) : Int := if n = 0 then 63 else if n = 1 then 3 else 65535

set_option maxHeartbeats 400000 in
theorem most_any (n : Int) (w : World) :
    Calls Tryz.prog 68 #[.int .i64 n] w fun e w' => e = .returned (.int .i64 (most n)) ∧ w' = w := by
  by_cases h0 : n = 0
  · subst h0
    go_enter Tryz.func68, Tryz.ntmps68
    go_wp2
    go_ret
    exact ⟨rfl, rfl⟩
  · by_cases h1 : n = 1
    · subst h1
      go_enter Tryz.func68, Tryz.ntmps68
      go_wp2
      go_ret
      exact ⟨rfl, rfl⟩
    · have e : most n = 65535 := by simp [most, h0, h1]
      have H : Hid (most n = 65535) := e
      clear e
      have k0 : (n == 0) = false := by simpa using h0
      have k1 : (n == 1) = false := by simpa using h1
      clear h0 h1
      go_enter Tryz.func68, Tryz.ntmps68
      go_wp2
      go_ret
      exact ⟨by rw [H.out]; rfl, rfl⟩

set_option maxHeartbeats 400000 in
theorem in_any (n a b : Int) (w : World) :
    Calls Tryz.prog 83 #[.int .i64 n, .int .i64 a, .int .i64 b] w fun e w' => e = .returned (.bool (decide (a ≤ n) && decide (n ≤ b))) ∧ w' = w := by
  by_cases h0 : a ≤ n
  · go_enter Tryz.func83, Tryz.ntmps83
    go_wp2
    go_ret
    exact ⟨by simp [h0], rfl⟩
  · go_enter Tryz.func83, Tryz.ntmps83
    go_wp2
    go_ret
    exact ⟨by simp; omega, rfl⟩

/-- A map literal's entry, at the operation: as a store into a map that the call has made. -/
theorem wpList_insert_own {H : Type} {P : Program} (w : World) {ops : Array Oper} {rest : List Oper} {o : Oper} {a : Act} {Q : Exit → Act → World → Prop}
    (hg : o.guard = none) (m x v : Operand) (t : TypeId) (hop : o.op = Op.insert t m x v)
    (k e : TypeId) (K : Maps.Keyed P k) (ht : P.underlying t = some (.map k e)) (R : Value → Option (DataW H × List MemPlace)) (b n : Nat) (D : DataW H)
    (hm : a.eval m = .map (some b)) (hown : w.ownsMap P k R b n D) (hn : n < maxLen) (key val : Value) (kl : Lit) (hx : a.eval x = key) (hv : a.eval v = val) (hkey : keyOf P k key = some kl)
    (d : DataW H) (ps : List MemPlace) (hval : R val = some (d, ps))
    (hK : ∀ w', w'.ownsMap P k R b (n + 1) (D.put kl d) → w.grownBy w' (some b) → wpList P ops Q rest (a.put o.dst undef) w') :
    wpList P ops Q (o :: rest) a w := by
  refine wpList_plain hg fun K' hK' => ?_
  obtain ⟨w', hrun, r1, r2⟩ := hown.update K ht hn hkey hval
  unfold Oper.wp
  simp [execOp, hop, hm, hx, hv, hrun, Result.andThen]
  exact hK' _ _ (hK w' r1 r2)

theorem zero3 (w : World) : (zeroValue 3).run Tryz.prog w = .ok (.int .i64 0) w := by kernel_rfl
theorem key3 : Maps.Keyed Tryz.prog 3 := Maps.int_keyed Tryz.underlying3

/-- What the small map of MostOf says. -/
def mostMap : DataW Unit := ((DataW.map []).put (.int .i64 0) (.lit (.int .i64 63))).put (.int .i64 1) (.lit (.int .i64 3))
theorem mostMap_says (n : Int) : (Maps.has mostMap (.int .i64 n) = true ∧ mostMap.atKey (.int .i64 n) (.lit (.int .i64 0)) = .lit (.int .i64 (most n))) ∨ (Maps.has mostMap (.int .i64 n) = false ∧ most n = 65535) := by
  have hk : ∀ z, WideAt.IsKeyLit (.int .i64 z) := fun z => by simp [WideAt.IsKeyLit]
  unfold mostMap
  by_cases h1 : n = 1
  · subst h1
    exact .inl ⟨Maps.has_put_same (Maps.isMap_empty.put _ _) (hk 1) _, Maps.atKey_put_same (Maps.isMap_empty.put _ _) (hk 1) _ _⟩
  · have e1 : Lit.int .i64 n ≠ Lit.int .i64 1 := by simpa using h1
    rw [Maps.has_put_other e1, Maps.atKey_put_other e1]
    by_cases h0 : n = 0
    · subst h0
      exact .inl ⟨Maps.has_put_same Maps.isMap_empty (hk 0) _, Maps.atKey_put_same Maps.isMap_empty (hk 0) _ _⟩
    · have e0 : Lit.int .i64 n ≠ Lit.int .i64 0 := by simpa using h0
      rw [Maps.has_put_other e0]
      exact .inr ⟨rfl, by simp [most, h0, h1]⟩

set_option maxHeartbeats 400000 in
theorem mostOf_any (n : Int) (hn : (Lit.int .i64 n).wf = true) (w : World) :
    Calls Tryz.prog 20 #[.int .i64 n] w fun e w' => e = .returned (.int .i64 (most n)) ∧ Below w.heap.size w w' := by
  have hmm := @run_makeMap Tryz.prog
  have hm0 := World.ownsMap_made (H := Unit) w Tryz.prog 3 (plainElem Tryz.prog 3)
  go_enter Tryz.func20, Tryz.ntmps20
  go_wp2_with (first
    | (refine wpList_insert_own _ rfl _ _ _ 91 rfl 3 3 key3 Tryz.underlying91 _ w.heap.size 0 _ rfl hm0 (by decide) _ _ _ rfl rfl (keyOf_int_mk Tryz.underlying3 (by decide)) _ [] (plainElem_int Tryz.underlying3 (by decide)) ?_; intro w1 hown1 hgrow1; clear hm0)
    | (refine wpList_insert_own _ rfl _ _ _ 91 rfl 3 3 key3 Tryz.underlying91 _ w.heap.size 1 _ rfl hown1 (by decide) _ _ _ rfl rfl (keyOf_int_mk Tryz.underlying3 (by decide)) _ [] (plainElem_int Tryz.underlying3 (by decide)) ?_; intro w2 hown2 hgrow2; clear hown1)
    | (at_lookup; refine wpList_lookup_own_ok_int _ rfl _ _ 91 rfl 3 3 .i64 key3 Tryz.underlying91 Tryz.underlying3 (zero3 _) w.heap.size 2 _ rfl hown2 _ _ rfl (keyOf_int_mk Tryz.underlying3 hn) ?_; intro c hat hwc))
  all_goals
    have hb : Below w.heap.size w w2 := (((Below.refl _ _).alloc (Nat.le_refl _) _).grown hgrow1 (by simp) (fun k hk => by cases hk; exact Nat.le_refl _)).grown hgrow2 (by have := hgrow1.size; simp at this; omega) (fun k hk => by cases hk; exact Nat.le_refl _)
    have hs := mostMap_says n
    unfold mostMap at hs
    go_ret
    refine ⟨?_, hb⟩
  · rcases hs with ⟨_, h2⟩ | ⟨h1, _⟩
    · rw [hat] at h2
      simp at h2
      exact congrArg (fun z => Ending.returned (.int .i64 z)) h2
    · simp_all
  · rcases hs with ⟨h1, _⟩ | ⟨_, h2⟩
    · simp_all
    · exact congrArg (fun z => Ending.returned (.int .i64 z)) h2.symm

end Go.Proofs.YthpllmhnpbigiacGreatDoor
end
section
/- A region that draws its order and whose callees may make memory but hand back plain values: one walk of the text's order serves every order, over the class of all later worlds. -/
namespace Go.Proofs.YthpllmhnpbigiacGreatDoor
open Go.RowKit

/-- A world in which all that was there in W is as it was. -/
def Later (W : World) : Type := { w' : World // Below W.heap.size W w' }
theorem Later.ne (W : World) : Nonempty (Later W) := ⟨⟨W, Below.refl _ _⟩⟩

theorem wp_region_later {P : Program} {id : Nat} {Q : Exit → Act → World → Prop} {a : Act} {w : World} {l : List Oper} (hm : P.follows .mixedOrders = true) (hB : Region.lexB .any l.toArray = true)
    (h : wpQuiet P l.toArray (fun w' => ∃ x : Later w, w' = x.1) (fun a' => ∀ w', (∃ x : Later w, w' = x.1) → Q .normal a' w') l a) : (Code.region id l.toArray true).wp P Q a w :=
  wp_region_quiet (C := fun w' => ∃ x : Later w, w' = x.1) hm hB ⟨⟨w.drew, (Below.refl _ _).drew⟩, rfl⟩ (by simpa using h)

/-- A callee that makes memory, at a call in such a region. -/
theorem Calls.later {P : Program} {f : FuncId} {args : Array Value} {W : World} {x : Later W} {v : Value}
    (h : Calls P f args x.1 fun e w' => e = .returned v ∧ Below x.1.heap.size x.1 w') : Calls P f args x.1 fun e w'' => e = .returned v ∧ ∃ y : Later W, w'' = y.1 :=
  h.mono fun _ w' ⟨he, hb⟩ => ⟨he, ⟨w', x.2.trans (hb.mono x.2.size)⟩, rfl⟩
/-- A callee that only reckons. -/
theorem Calls.later_same {P : Program} {f : FuncId} {args : Array Value} {W : World} {x : Later W} {v : Value}
    (h : Calls P f args x.1 fun e w' => e = .returned v ∧ w' = x.1) : Calls P f args x.1 fun e w'' => e = .returned v ∧ ∃ y : Later W, w'' = y.1 :=
  h.mono fun _ _ ⟨he, hb⟩ => ⟨he, x, hb⟩
theorem Later.cell {W : World} (x : Later W) {b o : Nat} {v : Value} (h : W.cell? ⟨b, o, none⟩ = some v) (hb : b < W.heap.size) : x.1.cell? ⟨b, o, none⟩ = some v := by
  rw [x.2.cell (p := ⟨b, o, none⟩) hb]; exact h

end Go.Proofs.YthpllmhnpbigiacGreatDoor
end
section
/- What Check and its counterpart say of any five numbers: the same. -/
namespace Go.Proofs.YthpllmhnpbigiacGreatDoor
open Go.RowKit Go.Maps

def inR (k v : Int) : Bool := decide (0 ≤ v) && decide (v ≤ most k)
def okFrom : Nat → List Int → Bool
  | _, [] => true
  | k, v :: r => inR k v && okFrom (k + 1) r
/-- What is answered: 0, or 3 (ErrRange). -/
def chk (a0 a1 a2 a3 a4 : Int) : Int := if okFrom 0 [a0, a1, a2, a3, a4] then 0 else 3

def at5 (a0 a1 a2 a3 a4 : Int) : Nat → Int
  | 0 => a0 | 1 => a1 | 2 => a2 | 3 => a3 | _ => a4
theorem okFrom_step (a0 a1 a2 a3 a4 : Int) (k : Nat) (h : k < 5) : okFrom k ([a0, a1, a2, a3, a4].drop k) = (inR k (at5 a0 a1 a2 a3 a4 k) && okFrom (k + 1) ([a0, a1, a2, a3, a4].drop (k + 1))) := by
  have : k = 0 ∨ k = 1 ∨ k = 2 ∨ k = 3 ∨ k = 4 := by omega
  rcases this with rfl | rfl | rfl | rfl | rfl <;> rfl
theorem index5_0 (a0 a1 a2 a3 a4 : Int) (w : World) : (Instr.index 26 (.agg #[.int .i64 a0, .int .i64 a1, .int .i64 a2, .int .i64 a3, .int .i64 a4]) (.int .i64 0)).run Tryz.prog w = .ok (.int .i64 a0) w := by kernel_rfl
theorem index5_1 (a0 a1 a2 a3 a4 : Int) (w : World) : (Instr.index 26 (.agg #[.int .i64 a0, .int .i64 a1, .int .i64 a2, .int .i64 a3, .int .i64 a4]) (.int .i64 1)).run Tryz.prog w = .ok (.int .i64 a1) w := by kernel_rfl
theorem index5_2 (a0 a1 a2 a3 a4 : Int) (w : World) : (Instr.index 26 (.agg #[.int .i64 a0, .int .i64 a1, .int .i64 a2, .int .i64 a3, .int .i64 a4]) (.int .i64 2)).run Tryz.prog w = .ok (.int .i64 a2) w := by kernel_rfl
theorem index5_3 (a0 a1 a2 a3 a4 : Int) (w : World) : (Instr.index 26 (.agg #[.int .i64 a0, .int .i64 a1, .int .i64 a2, .int .i64 a3, .int .i64 a4]) (.int .i64 3)).run Tryz.prog w = .ok (.int .i64 a3) w := by kernel_rfl
theorem index5_4 (a0 a1 a2 a3 a4 : Int) (w : World) : (Instr.index 26 (.agg #[.int .i64 a0, .int .i64 a1, .int .i64 a2, .int .i64 a3, .int .i64 a4]) (.int .i64 4)).run Tryz.prog w = .ok (.int .i64 a4) w := by kernel_rfl
theorem index5 (a0 a1 a2 a3 a4 : Int) (k : Nat) (h : k < 5) (w : World) : (Instr.index 26 (.agg #[.int .i64 a0, .int .i64 a1, .int .i64 a2, .int .i64 a3, .int .i64 a4]) (.int .i64 k)).run Tryz.prog w = .ok (.int .i64 (at5 a0 a1 a2 a3 a4 k)) w := by
  have : k = 0 ∨ k = 1 ∨ k = 2 ∨ k = 3 ∨ k = 4 := by omega
  rcases this with rfl | rfl | rfl | rfl | rfl
  · exact index5_0 ..
  · exact index5_1 ..
  · exact index5_2 ..
  · exact index5_3 ..
  · exact index5_4 ..

/-- The counterpart's answer in words: what is wrong at place k is wrong. -/
theorem chk_bad {a0 a1 a2 a3 a4 : Int} {k : Nat} {v : Int} {r : Bool} (H : Hid (okFrom 0 [a0, a1, a2, a3, a4] = okFrom k ([a0, a1, a2, a3, a4].drop k))) (S : Hid (okFrom k ([a0, a1, a2, a3, a4].drop k) = (inR k v && r))) (h : v < 0 ∨ most k < v) : chk a0 a1 a2 a3 a4 = 3 := by
  have : inR k v = false := by
    unfold inR
    rw [Bool.and_eq_false_iff, decide_eq_false_iff_not, decide_eq_false_iff_not]
    omega
  unfold chk
  rw [H.out, S.out, this]
  rfl
theorem chk_next {a0 a1 a2 a3 a4 : Int} {k : Nat} {v : Int} {r : Bool} (H : Hid (okFrom 0 [a0, a1, a2, a3, a4] = okFrom k ([a0, a1, a2, a3, a4].drop k))) (S : Hid (okFrom k ([a0, a1, a2, a3, a4].drop k) = (inR k v && r))) (h : 0 ≤ v ∧ v ≤ most k) : okFrom 0 [a0, a1, a2, a3, a4] = r := by
  have : inR k v = true := by
    unfold inR
    rw [Bool.and_eq_true, decide_eq_true_eq, decide_eq_true_eq]
    omega
  rw [H.out, S.out, this]
  rfl
theorem chk_end {a0 a1 a2 a3 a4 : Int} {k : Nat} (H : Hid (okFrom 0 [a0, a1, a2, a3, a4] = okFrom k ([a0, a1, a2, a3, a4].drop k))) (h : 5 ≤ k) : chk a0 a1 a2 a3 a4 = 0 := by
  unfold chk
  rw [H.out, List.drop_eq_nil_of_le (by simpa using h)]
  rfl

set_option maxHeartbeats 400000 in
theorem check_any (a0 a1 a2 a3 a4 : Int) (w : World) :
    Calls Tryz.prog 29 #[.agg #[.int .i64 a0, .int .i64 a1, .int .i64 a2, .int .i64 a3, .int .i64 a4]] w fun e w' => e = .returned (.int .i64 (chk a0 a1 a2 a3 a4)) ∧ Below w.heap.size w w' := by
  go_enter Tryz.func29, Tryz.ntmps29
  go_wp2
  go_loop [6] (fun i => ∃ k : Nat, k ≤ 5 ∧ i = .int .i64 k ∧ Hid (okFrom 0 [a0, a1, a2, a3, a4] = okFrom k ([a0, a1, a2, a3, a4].drop k))) (fun i => 5 - (intOf i).toNat)
  case atStart => exact ⟨0, by omega, rfl, rfl⟩
  case round =>
    obtain ⟨k, hk, rfl, H⟩ := hrel
    by_cases hlt : k < 5
    · have hix := index5 a0 a1 a2 a3 a4 k hlt
      have S : Hid (okFrom k ([a0, a1, a2, a3, a4].drop k) = (inR k (at5 a0 a1 a2 a3 a4 k) && okFrom (k + 1) ([a0, a1, a2, a3, a4].drop (k + 1)))) := okFrom_step a0 a1 a2 a3 a4 k hlt
      generalize at5 a0 a1 a2 a3 a4 k = v at *
      go_wp2_with (first | (go_at_call 68; refine (most_any _ _).mono ?_; rintro e w' ⟨rfl, rfl⟩))
      · go_ret
        exact ⟨by rw [chk_bad H S ‹_›]; rfl, (Below.refl _ _).alloc (Nat.le_refl _) _⟩
      · exact ⟨⟨k + 1, by omega, by go_num, chk_next H S ‹_›⟩, by simp [intOf]; omega⟩
      · go_ret
        exact ⟨by rw [chk_bad H S (.inl ‹_›)]; rfl, (Below.refl _ _).alloc (Nat.le_refl _) _⟩
    · go_wp2
      go_ret
      exact ⟨by rw [chk_end H (by omega)]; rfl, (Below.refl _ _).alloc (Nat.le_refl _) _⟩

theorem cell5 (a0 a1 a2 a3 a4 : Int) (w : World) (T : TypeId) (k : Nat) (h : k < 5) : (w.alloc (.cells #[.int .i64 a0, .int .i64 a1, .int .i64 a2, .int .i64 a3, .int .i64 a4] T)).cell? ⟨w.heap.size, k, none⟩ = some (.int .i64 (at5 a0 a1 a2 a3 a4 k)) := by
  have : k = 0 ∨ k = 1 ∨ k = 2 ∨ k = 3 ∨ k = 4 := by omega
  rcases this with rfl | rfl | rfl | rfl | rfl <;> simp [go_sem, at5]

end Go.Proofs.YthpllmhnpbigiacGreatDoor
end
