/- Joined: Callw Later Chk Base Pol. -/
import Derived.Test.YtbdlojnigflanacGreatDoorRows
import Derived.WalkKit
import Derived.WalkSpells
import Derived.WalkLawsBesides
import Derived.Deep.QuietTactic
import Derived.BigQuiet
import Derived.Maps.OwnSet
import Derived.Maps.Views
import Derived.ProofKit
import Derived.OpenShut
import Derived.ShutString
import Derived.ChangeOld
import Derived.Below
import Derived.Deep.SlicePairs
import Derived.Deep.Strs
section
/- What the functions that CallSays calls come to: Most, in. -/
namespace Go.Proofs.YtbdlojnigflanacGreatDoor
open Go.RowKit Go.Maps

/-- How great a field may be. -/
def most (n : Int) : Int := if n = 0 then 63 else if n = 1 then 3 else 65535

set_option maxHeartbeats 400000 in
theorem most_any (n : Int) (w : World) :
    Calls Tryz.prog 124 #[.int .i64 n] w fun e w' => e = .returned (.int .i64 (most n)) ∧ w' = w := by
  by_cases h0 : n = 0
  · subst h0
    go_enter Tryz.func124, Tryz.ntmps124
    go_wp2
    go_ret
    exact ⟨rfl, rfl⟩
  · by_cases h1 : n = 1
    · subst h1
      go_enter Tryz.func124, Tryz.ntmps124
      go_wp2
      go_ret
      exact ⟨rfl, rfl⟩
    · have e : most n = 65535 := by simp [most, h0, h1]
      have H : Hid (most n = 65535) := e
      clear e
      have k0 : (n == 0) = false := by simpa using h0
      have k1 : (n == 1) = false := by simpa using h1
      clear h0 h1
      go_enter Tryz.func124, Tryz.ntmps124
      go_wp2
      go_ret
      exact ⟨by rw [H.out]; rfl, rfl⟩

set_option maxHeartbeats 400000 in
theorem in_any (n a b : Int) (w : World) :
    Calls Tryz.prog 139 #[.int .i64 n, .int .i64 a, .int .i64 b] w fun e w' => e = .returned (.bool (decide (a ≤ n) && decide (n ≤ b))) ∧ w' = w := by
  by_cases h0 : a ≤ n
  · go_enter Tryz.func139, Tryz.ntmps139
    go_wp2
    go_ret
    exact ⟨by simp [h0], rfl⟩
  · go_enter Tryz.func139, Tryz.ntmps139
    go_wp2
    go_ret
    exact ⟨by simp; omega, rfl⟩

/-- A map literal's entry, at the operation: as a store into a map that the call has made. -/
theorem wpList_insert_own {H : Type} {P : Program} (w : World) {ops : Array Oper} {rest : List Oper} {o : Oper} {a : Act} {Q : Exit → Act → World → Prop}
    (hg : o.guard = none) (m x v : Operand) (t : TypeId) (hop : o.op = Op.insert t m x v)
    (k e : TypeId) (K : Maps.Keyed P k) (ht : P.underlying t = some (.map k e)) (R : Value → Option (DataW H × List MemPlace)) (b n : Nat) (D : DataW H)
    (hm : a.eval m = .map (some b)) (hown : w.ownsMap P k R b n D) (hn : n < maxLen) (key val : Value) (kl : Lit) (hx : a.eval x = key) (hv : a.eval v = val) (hkey : keyOf P k key = some kl)
    (d : DataW H) (ps : List MemPlace) (hval : R val = some (d, ps))
    (hK : ∀ w', w'.ownsMap P k R b (n + 1) (D.put kl d) → w.grownBy w' (some b) → wpList P ops Q rest (a.put o.dst undef) w') :
    wpList P ops Q (o :: rest) a w := by
  refine wpList_plain hg fun K' hK' => ?_
  obtain ⟨w', hrun, r1, r2⟩ := hown.update K ht hn hkey hval
  unfold Oper.wp
  simp [execOp, hop, hm, hx, hv, hrun, Result.andThen]
  exact hK' _ _ (hK w' r1 r2)

theorem zero3 (w : World) : (zeroValue 3).run Tryz.prog w = .ok (.int .i64 0) w := by kernel_rfl
theorem key3 : Maps.Keyed Tryz.prog 3 := Maps.int_keyed Tryz.underlying3

/-- What the small map of MostOf says. -/
def mostMap : DataW Unit := ((DataW.map []).put (.int .i64 0) (.lit (.int .i64 63))).put (.int .i64 1) (.lit (.int .i64 3))
theorem mostMap_says (n : Int) : (Maps.has mostMap (.int .i64 n) = true ∧ mostMap.atKey (.int .i64 n) (.lit (.int .i64 0)) = .lit (.int .i64 (most n))) ∨ (Maps.has mostMap (.int .i64 n) = false ∧ most n = 65535) := by
  have hk : ∀ z, WideAt.IsKeyLit (.int .i64 z) := fun z => by simp [WideAt.IsKeyLit]
  unfold mostMap
  by_cases h1 : n = 1
  · subst h1
    exact .inl ⟨Maps.has_put_same (Maps.isMap_empty.put _ _) (hk 1) _, Maps.atKey_put_same (Maps.isMap_empty.put _ _) (hk 1) _ _⟩
  · have e1 : Lit.int .i64 n ≠ Lit.int .i64 1 := by simpa using h1
    rw [Maps.has_put_other e1, Maps.atKey_put_other e1]
    by_cases h0 : n = 0
    · subst h0
      exact .inl ⟨Maps.has_put_same Maps.isMap_empty (hk 0) _, Maps.atKey_put_same Maps.isMap_empty (hk 0) _ _⟩
    · have e0 : Lit.int .i64 n ≠ Lit.int .i64 0 := by simpa using h0
      rw [Maps.has_put_other e0]
      exact .inr ⟨rfl, by simp [most, h0, h1]⟩

set_option maxHeartbeats 400000 in
theorem mostOf_any (n : Int) (hn : (Lit.int .i64 n).wf = true) (w : World) :
    Calls Tryz.prog 55 #[.int .i64 n] w fun e w' => e = .returned (.int .i64 (most n)) ∧ Below w.heap.size w w' := by
  have hmm := @run_makeMap Tryz.prog
  have hm0 := World.ownsMap_made (H := Unit) w Tryz.prog 3 (plainElem Tryz.prog 3)
  go_enter Tryz.func55, Tryz.ntmps55
  go_wp2_with (first
    | (refine wpList_insert_own _ rfl _ _ _ 150 rfl 3 3 key3 Tryz.underlying150 _ w.heap.size 0 _ rfl hm0 (by decide) _ _ _ rfl rfl (keyOf_int_mk Tryz.underlying3 (by decide)) _ [] (plainElem_int Tryz.underlying3 (by decide)) ?_; intro w1 hown1 hgrow1; clear hm0)
    | (refine wpList_insert_own _ rfl _ _ _ 150 rfl 3 3 key3 Tryz.underlying150 _ w.heap.size 1 _ rfl hown1 (by decide) _ _ _ rfl rfl (keyOf_int_mk Tryz.underlying3 (by decide)) _ [] (plainElem_int Tryz.underlying3 (by decide)) ?_; intro w2 hown2 hgrow2; clear hown1)
    | (at_lookup; refine wpList_lookup_own_ok_int _ rfl _ _ 150 rfl 3 3 .i64 key3 Tryz.underlying150 Tryz.underlying3 (zero3 _) w.heap.size 2 _ rfl hown2 _ _ rfl (keyOf_int_mk Tryz.underlying3 hn) ?_; intro c hat hwc))
  all_goals
    have hb : Below w.heap.size w w2 := (((Below.refl _ _).alloc (Nat.le_refl _) _).grown hgrow1 (by simp) (fun k hk => by cases hk; exact Nat.le_refl _)).grown hgrow2 (by have := hgrow1.size; simp at this; omega) (fun k hk => by cases hk; exact Nat.le_refl _)
    have hs := mostMap_says n
    unfold mostMap at hs
    go_ret
    refine ⟨?_, hb⟩
  · rcases hs with ⟨_, h2⟩ | ⟨h1, _⟩
    · rw [hat] at h2
      simp at h2
      exact congrArg (fun z => Ending.returned (.int .i64 z)) h2
    · simp_all
  · rcases hs with ⟨h1, _⟩ | ⟨_, h2⟩
    · simp_all
    · exact congrArg (fun z => Ending.returned (.int .i64 z)) h2.symm

end Go.Proofs.YtbdlojnigflanacGreatDoor
end
section
/- A region that draws its order and whose callees may make memory but hand back plain values: one walk of the text's order serves every order, over the class of all later worlds. -/
namespace Go.Proofs.YtbdlojnigflanacGreatDoor
open Go.RowKit

/-- A world in which all that was there in W is as it was. -/
def Later (W : World) : Type := { w' : World // Below W.heap.size W w' }
theorem Later.ne (W : World) : Nonempty (Later W) := ⟨⟨W, Below.refl _ _⟩⟩

theorem wp_region_later {P : Program} {id : Nat} {Q : Exit → Act → World → Prop} {a : Act} {w : World} {l : List Oper} (hm : P.follows .mixedOrders = true) (hB : Region.lexB .any l.toArray = true)
    (h : wpQuiet P l.toArray (fun w' => ∃ x : Later w, w' = x.1) (fun a' => ∀ w', (∃ x : Later w, w' = x.1) → Q .normal a' w') l a) : (Code.region id l.toArray true).wp P Q a w :=
  wp_region_quiet (C := fun w' => ∃ x : Later w, w' = x.1) hm hB ⟨⟨w.drew, (Below.refl _ _).drew⟩, rfl⟩ (by simpa using h)

/-- A callee that makes memory, at a call in such a region. -/
theorem Calls.later {P : Program} {f : FuncId} {args : Array Value} {W : World} {x : Later W} {v : Value}
    (h : Calls P f args x.1 fun e w' => e = .returned v ∧ Below x.1.heap.size x.1 w') : Calls P f args x.1 fun e w'' => e = .returned v ∧ ∃ y : Later W, w'' = y.1 :=
  h.mono fun _ w' ⟨he, hb⟩ => ⟨he, ⟨w', x.2.trans (hb.mono x.2.size)⟩, rfl⟩
/-- A callee that only reckons. -/
theorem Calls.later_same {P : Program} {f : FuncId} {args : Array Value} {W : World} {x : Later W} {v : Value}
    (h : Calls P f args x.1 fun e w' => e = .returned v ∧ w' = x.1) : Calls P f args x.1 fun e w'' => e = .returned v ∧ ∃ y : Later W, w'' = y.1 :=
  h.mono fun _ _ ⟨he, hb⟩ => ⟨he, x, hb⟩
theorem Later.cell {W : World} (x : Later W) {b o : Nat} {v : Value} (h : W.cell? ⟨b, o, none⟩ = some v) (hb : b < W.heap.size) : x.1.cell? ⟨b, o, none⟩ = some v := by
  rw [x.2.cell (p := ⟨b, o, none⟩) hb]; exact h

end Go.Proofs.YtbdlojnigflanacGreatDoor
end
section
/- What Check and its counterpart say of any five numbers: the same. -/
namespace Go.Proofs.YtbdlojnigflanacGreatDoor
open Go.RowKit Go.Maps

def inR (k v : Int) : Bool := decide (0 ≤ v) && decide (v ≤ most k)
def okFrom : Nat → List Int → Bool
  | _, [] => true
  | k, v :: r => inR k v && okFrom (k + 1) r
/-- What is answered: 0, or 3 (ErrRange). -/
def chk (a0 a1 a2 a3 a4 : Int) : Int := if okFrom 0 [a0, a1, a2, a3, a4] then 0 else 3

def at5 (a0 a1 a2 a3 a4 : Int) : Nat → Int
  | 0 => a0 | 1 => a1 | 2 => a2 | 3 => a3 | _ => a4
theorem okFrom_step (a0 a1 a2 a3 a4 : Int) (k : Nat) (h : k < 5) : okFrom k ([a0, a1, a2, a3, a4].drop k) = (inR k (at5 a0 a1 a2 a3 a4 k) && okFrom (k + 1) ([a0, a1, a2, a3, a4].drop (k + 1))) := by
  have : k = 0 ∨ k = 1 ∨ k = 2 ∨ k = 3 ∨ k = 4 := by omega
  rcases this with rfl | rfl | rfl | rfl | rfl <;> rfl
theorem index5_0 (a0 a1 a2 a3 a4 : Int) (w : World) : (Instr.index 26 (.agg #[.int .i64 a0, .int .i64 a1, .int .i64 a2, .int .i64 a3, .int .i64 a4]) (.int .i64 0)).run Tryz.prog w = .ok (.int .i64 a0) w := by kernel_rfl
theorem index5_1 (a0 a1 a2 a3 a4 : Int) (w : World) : (Instr.index 26 (.agg #[.int .i64 a0, .int .i64 a1, .int .i64 a2, .int .i64 a3, .int .i64 a4]) (.int .i64 1)).run Tryz.prog w = .ok (.int .i64 a1) w := by kernel_rfl
theorem index5_2 (a0 a1 a2 a3 a4 : Int) (w : World) : (Instr.index 26 (.agg #[.int .i64 a0, .int .i64 a1, .int .i64 a2, .int .i64 a3, .int .i64 a4]) (.int .i64 2)).run Tryz.prog w = .ok (.int .i64 a2) w := by kernel_rfl
theorem index5_3 (a0 a1 a2 a3 a4 : Int) (w : World) : (Instr.index 26 (.agg #[.int .i64 a0, .int .i64 a1, .int .i64 a2, .int .i64 a3, .int .i64 a4]) (.int .i64 3)).run Tryz.prog w = .ok (.int .i64 a3) w := by kernel_rfl
theorem index5_4 (a0 a1 a2 a3 a4 : Int) (w : World) : (Instr.index 26 (.agg #[.int .i64 a0, .int .i64 a1, .int .i64 a2, .int .i64 a3, .int .i64 a4]) (.int .i64 4)).run Tryz.prog w = .ok (.int .i64 a4) w := by kernel_rfl
theorem index5 (a0 a1 a2 a3 a4 : Int) (k : Nat) (h : k < 5) (w : World) : (Instr.index 26 (.agg #[.int .i64 a0, .int .i64 a1, .int .i64 a2, .int .i64 a3, .int .i64 a4]) (.int .i64 k)).run Tryz.prog w = .ok (.int .i64 (at5 a0 a1 a2 a3 a4 k)) w := by
  have : k = 0 ∨ k = 1 ∨ k = 2 ∨ k = 3 ∨ k = 4 := by omega
  rcases this with rfl | rfl | rfl | rfl | rfl
  · exact index5_0 ..
  · exact index5_1 ..
  · exact index5_2 ..
  · exact index5_3 ..
  · exact index5_4 ..

/-- The counterpart's answer in words: what is wrong at place k is wrong. -/
theorem chk_bad {a0 a1 a2 a3 a4 : Int} {k : Nat} {v : Int} {r : Bool} (H : Hid (okFrom 0 [a0, a1, a2, a3, a4] = okFrom k ([a0, a1, a2, a3, a4].drop k))) (S : Hid (okFrom k ([a0, a1, a2, a3, a4].drop k) = (inR k v && r))) (h : v < 0 ∨ most k < v) : chk a0 a1 a2 a3 a4 = 3 := by
  have : inR k v = false := by
    unfold inR
    rw [Bool.and_eq_false_iff, decide_eq_false_iff_not, decide_eq_false_iff_not]
    omega
  unfold chk
  rw [H.out, S.out, this]
  rfl
theorem chk_next {a0 a1 a2 a3 a4 : Int} {k : Nat} {v : Int} {r : Bool} (H : Hid (okFrom 0 [a0, a1, a2, a3, a4] = okFrom k ([a0, a1, a2, a3, a4].drop k))) (S : Hid (okFrom k ([a0, a1, a2, a3, a4].drop k) = (inR k v && r))) (h : 0 ≤ v ∧ v ≤ most k) : okFrom 0 [a0, a1, a2, a3, a4] = r := by
  have : inR k v = true := by
    unfold inR
    rw [Bool.and_eq_true, decide_eq_true_eq, decide_eq_true_eq]
    omega
  rw [H.out, S.out, this]
  rfl
theorem chk_end {a0 a1 a2 a3 a4 : Int} {k : Nat} (H : Hid (okFrom 0 [a0, a1, a2, a3, a4] = okFrom k ([a0, a1, a2, a3, a4].drop k))) (h : 5 ≤ k) : chk a0 a1 a2 a3 a4 = 0 := by
  unfold chk
  rw [H.out, List.drop_eq_nil_of_le (by simpa using h)]
  rfl

set_option maxHeartbeats 400000 in
theorem check_any (a0 a1 a2 a3 a4 : Int) (w : World) :
    Calls Tryz.prog 62 #[.agg #[.int .i64 a0, .int .i64 a1, .int .i64 a2, .int .i64 a3, .int .i64 a4]] w fun e w' => e = .returned (.int .i64 (chk a0 a1 a2 a3 a4)) ∧ Below w.heap.size w w' := by
  go_enter Tryz.func62, Tryz.ntmps62
  go_wp2
  go_loop [6] (fun i => ∃ k : Nat, k ≤ 5 ∧ i = .int .i64 k ∧ Hid (okFrom 0 [a0, a1, a2, a3, a4] = okFrom k ([a0, a1, a2, a3, a4].drop k))) (fun i => 5 - (intOf i).toNat)
  case atStart => exact ⟨0, by omega, rfl, rfl⟩
  case round =>
    obtain ⟨k, hk, rfl, H⟩ := hrel
    by_cases hlt : k < 5
    · have hix := index5 a0 a1 a2 a3 a4 k hlt
      have S : Hid (okFrom k ([a0, a1, a2, a3, a4].drop k) = (inR k (at5 a0 a1 a2 a3 a4 k) && okFrom (k + 1) ([a0, a1, a2, a3, a4].drop (k + 1)))) := okFrom_step a0 a1 a2 a3 a4 k hlt
      generalize at5 a0 a1 a2 a3 a4 k = v at *
      go_wp2_with (first | (go_at_call 124; refine (most_any _ _).mono ?_; rintro e w' ⟨rfl, rfl⟩))
      · go_ret
        exact ⟨by rw [chk_bad H S ‹_›]; rfl, (Below.refl _ _).alloc (Nat.le_refl _) _⟩
      · exact ⟨⟨k + 1, by omega, by go_num, chk_next H S ‹_›⟩, by simp [intOf]; omega⟩
      · go_ret
        exact ⟨by rw [chk_bad H S (.inl ‹_›)]; rfl, (Below.refl _ _).alloc (Nat.le_refl _) _⟩
    · go_wp2
      go_ret
      exact ⟨by rw [chk_end H (by omega)]; rfl, (Below.refl _ _).alloc (Nat.le_refl _) _⟩

end Go.Proofs.YtbdlojnigflanacGreatDoor
end
section
/- What all proofs share: calls, arguments that came in, what is left behind a call. -/
set_option linter.all false
set_option maxRecDepth 100000
namespace Go.Proofs.YtbdlojnigflanacGreatDoor
open Go.ChangeShapes Go.WideShapes Go.ChangeAt Go.RowKit Go.Deep

theorem maxLen_eq : maxLen = 9223372036854775807 := by decide
def wf (n : Int) : Prop := (Lit.int .i64 n).wf = true
theorem Below.drewN_ {B : Nat} {a w : World} (h : Below B a w) (n : Nat) : Below B a (w.drewN n) := ⟨h.os, h.tape, h.output, h.size, h.block⟩
/-- A callee that turned nothing old, behind whatever turned nothing below n. -/
theorem Below.thenOf {n : Nat} {w v v' : World} (h : Below n w v) (h2 : Below v.heap.size v v') (hn : n ≤ v.heap.size) : Below n w v' := h.trans (h2.mono hn)

def callV (x : Nat → Int) : Value := .agg #[.int .i64 (x 0), .int .i64 (x 1), .int .i64 (x 2), .int .i64 (x 3), .int .i64 (x 4)]
def chkx (x : Nat → Int) : Int := chk (x 0) (x 1) (x 2) (x 3) (x 4)
/-- A call in five cells. -/
def XAt (w : World) (b : Nat) (x : Nat → Int) : Prop := ∀ j, j < 5 → w.cell? ⟨b, j, none⟩ = some (.int .i64 (x j))
theorem XAt.later {B b : Nat} {w w' : World} {x : Nat → Int} (h : XAt w b x) (hb : Below B w w') (hB : b < B) : XAt w' b x := fun j hj => (hb.cell (p := ⟨b, j, none⟩) hB).trans (h j hj)
theorem XAt.made (x : Nat → Int) (w : World) (T : TypeId) : XAt (w.alloc (.cells #[.int .i64 (x 0), .int .i64 (x 1), .int .i64 (x 2), .int .i64 (x 3), .int .i64 (x 4)] T)) w.heap.size x := by
  intro j h
  have : j = 0 ∨ j = 1 ∨ j = 2 ∨ j = 3 ∨ j = 4 := by omega
  rcases this with rfl | rfl | rfl | rfl | rfl <;> simp [go_sem]

theorem results_cell1 {fn : Func} {p : Tmp} {ty : TypeId} (h : fn.results = #[.cell p ty]) (tmps : Array Value) (P : Program) (w : World) :
    (results fn tmps).run P w = ((asAddr (tmps.getD p undef)).run P w).andThen fun a w₁ => (loadVar ty a).run P w₁ := by
  simp only [results, h]
  simp [Sem.run_bind, Result.andThen]

theorem most_le (n : Int) : most n ≤ 65535 := by
  unfold most
  split
  · omega
  · split <;> omega
theorem own : ownKnob Tryz.prog.godebug = none := by kernel_rfl
theorem laidOut : laidOutB Tryz.prog = true := by kernel_rfl

/-- All arguments, behind a call that turned nothing old, read as they did. -/
theorem trodAll_below {H : Type} {enc : TypeId × Value → H} {P : Program} (hl : laidOutB P = true) {W W' : World} (hb : Below W.heap.size W W') :
    ∀ (ts : List TypeId) (vs : List Value) (ds : List (DataW H)) (p : List MemPlace), (∀ t ∈ ts, P.readableRec t = true ∧ t < P.types.size) →
      DataW.TrodAll enc P W 0 (fun _ => true) true ts vs ds p → DataW.TrodAll enc P W' 0 (fun b => decide (b < W.heap.size)) true ts vs ds p
  | [], [], [], _, _, h => h
  | t :: ts, v :: vs, d :: ds, ps, ht, h => by
    obtain ⟨p, q, h1, h2, rfl⟩ := h
    have lt : ∀ x ∈ p, x.block < W.heap.size := by obtain ⟨m, hm⟩ := h1; exact DataW.trod_lt m _ _ _ hm
    exact ⟨p, q, Below.trod hl (ht t (by simp)).1 (ht t (by simp)).2 h1 hb lt, trodAll_below hl hb ts vs ds q (fun t' h' => ht t' (by simp [h'])) h2, rfl⟩
  | [], _ :: _, _, _, _, h => by simp [DataW.TrodAll] at h
  | [], [], _ :: _, _, _, h => by simp [DataW.TrodAll] at h
  | _ :: _, [], _, _, _, h => by simp [DataW.TrodAll] at h
  | _ :: _, _ :: _, [], _, _, h => by simp [DataW.TrodAll] at h

theorem okWide_struct {P : Program} {w : World} {r : Reach} {base : Nat} {t : TypeId} {v : Value} {fs : Array Field} (ht : P.underlying t = some (.struct fs)) (h : Value.okWide P w r base t v) : ∃ cs, v = .agg cs ∧ cs.size = P.cellsOf t := by
  unfold Value.okWide at h
  rw [ht] at h
  obtain ⟨cs, h1, h2, _⟩ := h
  exact ⟨cs, h1, h2⟩

theorem list_of {α : Type} (p : Nat → α → Prop) : ∀ n, (∀ i, i < n → ∃ x, p i x) → ∃ l : List α, l.length = n ∧ ∀ i x, l[i]? = some x → p i x
  | 0, _ => ⟨[], rfl, fun i x h => by simp at h⟩
  | n + 1, h => by
    obtain ⟨l, hl, hp⟩ := list_of p n fun i hi => h i (by omega)
    obtain ⟨x, hx⟩ := h n (by omega)
    refine ⟨l ++ [x], by simp [hl], fun i y hy => ?_⟩
    by_cases hi : i < n
    · rw [List.getElem?_append_left (by omega)] at hy
      exact hp i y hy
    · have hil : i < (l ++ [x]).length := (List.getElem?_eq_some_iff.1 hy).1
      simp [hl] at hil
      obtain rfl : i = n := by omega
      rw [List.getElem?_append_right (by omega)] at hy
      simp [hl] at hy
      subst hy
      exact hx
theorem addr_plain {w : World} {a : Addr} {v : Value} (h : w.cell? (a.add 0) = some v) : a = ⟨a.block, a.off, none⟩ ∧ a.block < w.heap.size := by
  have h0 : a.add 0 = a := by simp [Addr.add]
  rw [h0] at h
  refine ⟨?_, World.block_lt_of_cell? _ _ h⟩
  obtain ⟨b, o, sp⟩ := a
  cases sp with
  | none => rfl
  | some k =>
    exfalso
    unfold World.cell? at h
    split at h <;> simp at h
theorem add_at (b o i : Nat) : (⟨b, o, none⟩ : Addr).add i = ⟨b, o + i, none⟩ := by
  unfold Addr.add
  by_cases h : i = 0 <;> simp [h]


end Go.Proofs.YtbdlojnigflanacGreatDoor
end
section
/- Policies: plain data, how they lie in memory, what Check says of them. -/
set_option linter.all false
namespace Go.Proofs.YtbdlojnigflanacGreatDoor
open Go.RowKit Go.Maps

abbrev CondT := Int × Int × Int
abbrev RuleT := List CondT × Int
abbrev PolT := List RuleT × Int

def condV (c : CondT) : Value := .agg #[.int .i64 c.1, .int .i64 c.2.1, .int .i64 c.2.2]

/-- A condition in three cells. -/
def CondAt (w : World) (b o : Nat) (c : CondT) : Prop :=
  w.cell? ⟨b, o, none⟩ = some (.int .i64 c.1) ∧ w.cell? ⟨b, o + 1, none⟩ = some (.int .i64 c.2.1) ∧ w.cell? ⟨b, o + 2, none⟩ = some (.int .i64 c.2.2) ∧ wf c.1 ∧ wf c.2.1 ∧ wf c.2.2
/-- Conditions in memory, all in blocks below B. -/
def CondsAt (B : Nat) (w : World) (v : Value) (cs : List CondT) : Prop :=
  ∃ a cap, v = .slice a cs.length cap ∧ cs.length ≤ cap ∧ cap ≤ maxLen ∧ ∀ i c, cs[i]? = some c → ∃ b o, a = some ⟨b, o, none⟩ ∧ b < B ∧ CondAt w b (o + i * 3) c
def RuleAt (B : Nat) (w : World) (b o : Nat) (r : RuleT) : Prop :=
  ∃ cv, w.cell? ⟨b, o, none⟩ = some cv ∧ w.cell? ⟨b, o + 1, none⟩ = some (.int .i64 r.2) ∧ wf r.2 ∧ CondsAt B w cv r.1
def RulesAt (B : Nat) (w : World) (v : Value) (rs : List RuleT) : Prop :=
  ∃ a cap, v = .slice a rs.length cap ∧ rs.length ≤ cap ∧ cap ≤ maxLen ∧ ∀ i r, rs[i]? = some r → ∃ b o, a = some ⟨b, o, none⟩ ∧ b < B ∧ RuleAt B w b (o + i * 2) r
def PolAt (B : Nat) (w : World) (v : Value) (p : PolT) : Prop :=
  ∃ rv, v = .agg #[rv, .int .i64 p.2] ∧ wf p.2 ∧ RulesAt B w rv p.1

theorem CondAt.later {B : Nat} {w w' : World} {b o : Nat} {c : CondT} (h : CondAt w b o c) (hb : Below B w w') (hB : b < B) : CondAt w' b o c := by
  unfold CondAt
  rw [hb.cell (p := ⟨b, o, none⟩) hB, hb.cell (p := ⟨b, o + 1, none⟩) hB, hb.cell (p := ⟨b, o + 2, none⟩) hB]
  exact h
theorem CondsAt.later {B B' : Nat} {w w' : World} {v : Value} {cs : List CondT} (h : CondsAt B w v cs) (hb : Below B' w w') (hB : B ≤ B') : CondsAt B w' v cs := by
  obtain ⟨a, cap, h1, h2, h3, h4⟩ := h
  refine ⟨a, cap, h1, h2, h3, fun i c hc => ?_⟩
  obtain ⟨b, o, e, hl, k⟩ := h4 i c hc
  exact ⟨b, o, e, hl, k.later hb (by omega)⟩
theorem RuleAt.later {B B' : Nat} {w w' : World} {b o : Nat} {r : RuleT} (h : RuleAt B w b o r) (hb : Below B' w w') (hB : B ≤ B') (hl : b < B) : RuleAt B w' b o r := by
  obtain ⟨cv, h1, h2, h3, h4⟩ := h
  exact ⟨cv, (hb.cell (p := ⟨b, o, none⟩) (by show b < B'; omega)).trans h1, (hb.cell (p := ⟨b, o + 1, none⟩) (by show b < B'; omega)).trans h2, h3, h4.later hb hB⟩
theorem RulesAt.later {B B' : Nat} {w w' : World} {v : Value} {rs : List RuleT} (h : RulesAt B w v rs) (hb : Below B' w w') (hB : B ≤ B') : RulesAt B w' v rs := by
  obtain ⟨a, cap, h1, h2, h3, h4⟩ := h
  refine ⟨a, cap, h1, h2, h3, fun i c hc => ?_⟩
  obtain ⟨b, o, e, hl, k⟩ := h4 i c hc
  exact ⟨b, o, e, hl, k.later hb hB hl⟩
theorem PolAt.later {B B' : Nat} {w w' : World} {v : Value} {p : PolT} (h : PolAt B w v p) (hb : Below B' w w') (hB : B ≤ B') : PolAt B w' v p := by
  obtain ⟨rv, h1, h2, h3⟩ := h
  exact ⟨rv, h1, h2, h3.later hb hB⟩

/-! What Check says. -/
def verdictOk (v : Int) : Bool := decide (0 ≤ v) && decide (v ≤ 4)
def condErr (c : CondT) : Int := if c.1 < 0 ∨ 5 ≤ c.1 then 5 else if c.2.1 < 1 ∨ 4 < c.2.1 then 4 else if c.2.2 < 0 ∨ most c.1 < c.2.2 then 3 else 0
def condsErr : List CondT → Int
  | [] => 0
  | c :: r => if condErr c = 0 then condsErr r else condErr c
def ruleErr (r : RuleT) : Int := if 10 < r.1.length then 2 else if verdictOk r.2 then condsErr r.1 else 3
def rulesErr : List RuleT → Int
  | [] => 0
  | r :: s => if ruleErr r = 0 then rulesErr s else ruleErr r
def polErr (p : PolT) : Int := if 120 < p.1.length then 2 else if verdictOk p.2 then rulesErr p.1 else 3

set_option maxHeartbeats 400000 in
theorem isVerdict_any (v : Int) (w : World) :
    Calls Tryz.prog 122 #[.int .i64 v] w fun e w' => e = .returned (.bool (verdictOk v)) ∧ w' = w := by
  unfold verdictOk
  by_cases h0 : 0 ≤ v
  · go_enter Tryz.func122, Tryz.ntmps122
    go_wp2
    go_ret
    exact ⟨by simp [h0], rfl⟩
  · go_enter Tryz.func122, Tryz.ntmps122
    go_wp2
    go_ret
    exact ⟨by simp; omega, rfl⟩

set_option maxHeartbeats 400000 in
theorem checkCond_any (f o v : Int) (w : World) :
    Calls Tryz.prog 166 #[.agg #[.int .i64 f, .int .i64 o, .int .i64 v]] w fun e w' => e = .returned (.int .i64 (condErr (f, o, v))) ∧ Below w.heap.size w w' := by
  have hb : ∀ x, Below w.heap.size w (w.alloc x) := fun x => (Below.refl _ _).alloc (Nat.le_refl _) _
  go_enter Tryz.func166, Tryz.ntmps166
  by_cases h0 : f < 0 ∨ 5 ≤ f
  · go_wp2
    all_goals
      go_ret
      exact ⟨by rw [condErr, if_pos h0]; rfl, hb _⟩
  · by_cases h1 : o < 1 ∨ 4 < o
    · go_wp2
      all_goals
        go_ret
        exact ⟨by rw [condErr, if_neg h0, if_pos h1]; rfl, hb _⟩
    · go_wp2
      have hbW := hb (.cells #[.int .i64 f, .int .i64 o, .int .i64 v] 99)
      have hz : w.heap.size < (w.alloc (.cells #[.int .i64 f, .int .i64 o, .int .i64 v] 99)).heap.size := by simp
      have e0 : (w.alloc (.cells #[.int .i64 f, .int .i64 o, .int .i64 v] 99)).cell? ⟨w.heap.size, 0, none⟩ = some (.int .i64 f) := by simp [go_sem]
      have e2 : (w.alloc (.cells #[.int .i64 f, .int .i64 o, .int .i64 v] 99)).cell? ⟨w.heap.size, 2, none⟩ = some (.int .i64 v) := by simp [go_sem]
      generalize w.alloc (.cells #[.int .i64 f, .int .i64 o, .int .i64 v] 99) = W at *
      have hne := Later.ne W
      have c0 : ∀ x : Later W, x.1.cell? ⟨w.heap.size, 0, none⟩ = some (.int .i64 f) := fun x => x.cell e0 hz
      have c2 : ∀ x : Later W, x.1.cell? ⟨w.heap.size, 2, none⟩ = some (.int .i64 v) := fun x => x.cell e2 hz
      clear e0 e2 hb
      by_cases h2 : v < 0
      · have hd : decide (v < 0) = true := by simpa using h2
        refine wp_region_later (by kernel_rfl) (by kernel_rfl) ?_
        repeat (go_big_quiet_step (first | (go_at_call 124; exact Calls.later_same (most_any _ _))))
        refine wpQuiet_nil ?_
        rintro wx ⟨⟨_, hx⟩, rfl⟩
        go_wp2
        go_ret
        exact ⟨by rw [condErr, if_neg h0, if_neg h1, if_pos (.inl h2)]; rfl, hbW.trans (hx.mono hbW.size)⟩
      · have hd : decide (v < 0) = false := by simpa using h2
        refine wp_region_later (by kernel_rfl) (by kernel_rfl) ?_
        repeat (go_big_quiet_step (first | (go_at_call 124; exact Calls.later_same (most_any _ _))))
        refine wpQuiet_nil ?_
        rintro wx ⟨⟨_, hx⟩, rfl⟩
        go_wp2
        · go_ret
          exact ⟨by rw [condErr, if_neg h0, if_neg h1, if_pos (.inr ‹_›)]; rfl, hbW.trans (hx.mono hbW.size)⟩
        · go_ret
          exact ⟨by rw [condErr, if_neg h0, if_neg h1, if_neg (by show ¬ (v < 0 ∨ most f < v); omega)]; rfl, hbW.trans (hx.mono hbW.size)⟩

end Go.Proofs.YtbdlojnigflanacGreatDoor
end
