/- Joined: Open Rec0 Same Same2. -/
import Derived.Test.YtbdlojnigflanacGreatDoorRows
import Derived.Test.YtbdlojnigflanacGreatDoorKa06
import Derived.ProofKit
import Derived.OpenShut
import Derived.ShutString
import Derived.ChangeOld
import Derived.Below
import Derived.Deep.SlicePairs
import Derived.Deep.Strs
import Derived.Test.YtbdlojnigflanacGreatDoorKa02
import Derived.Laws.StructEq
section
/- Policies and calls that came in, as plain data; all arguments behind a call that turned nothing old. -/
set_option linter.all false
set_option maxRecDepth 100000
namespace Go.Proofs.YtbdlojnigflanacGreatDoor
open Go.ChangeShapes Go.WideShapes Go.ChangeAt Go.RowKit Go.Deep

section
variable {H : Type} {enc : TypeId × Value → H} {W : World} {base : Nat} {sp : Nat → Bool} {held : Bool}

theorem open_conds {fuel : Nat} {cv : Value} {x : DataW H × List MemPlace} (h : DataW.trod enc Tryz.prog W base sp held fuel 93 [cv] = some x) : ∃ cs, CondsAt W.heap.size W cv cs := by
  rcases open_slice Tryz.underlying93 h with ⟨h0, _⟩ | ⟨a, len, cap, m, n, D, Pl, h0, _, hl, hm, hmm, _, hx⟩
  · simp at h0
    subst h0
    exact ⟨[], none, 0, rfl, Nat.le_refl _, Nat.zero_le _, fun i c hc => by simp at hc⟩
  · simp at h0
    subst h0
    have h3 : Tryz.prog.cellsOf 99 = 3 := by kernel_rfl
    have h1 : Tryz.prog.cellsOf 3 = 1 := by kernel_rfl
    rw [h3] at hx
    have hlm : len ≤ m := by rw [hmm]; split <;> omega
    have each : ∀ i, i < len → ∃ c : CondT, a = ⟨a.block, a.off, none⟩ ∧ a.block < W.heap.size ∧ CondAt W a.block (a.off + i * 3) c := by
      intro i hi
      have h00 : W.cell? (a.add 0) ≠ none := by
        obtain ⟨cs', g1, _⟩ := hx 0 (by omega)
        obtain ⟨_, hlen, hcell⟩ := World.cells?_some g1
        have := hcell 0 (by omega)
        rw [add_add] at this
        simp at this
        match cs', hlen with
        | [v0, v1, v2], _ => simp at this ⊢; rw [this]; simp
      obtain ⟨v, hv⟩ := Option.ne_none_iff_exists'.1 h00
      obtain ⟨ha, hb⟩ := addr_plain hv
      obtain ⟨cs', g1, g2⟩ := hx i (by omega)
      obtain ⟨_, hlen, hcell⟩ := World.cells?_some g1
      obtain ⟨y0, y1, y2, k, _, _, e0, e1, e2⟩ := trod_struct3 Tryz.underlying99 g2
      match cs', hlen with
      | [v0, v1, v2], _ =>
        simp [h1] at e0 e1 e2
        obtain ⟨f, q0, _, w0⟩ := DataW.trod_int Tryz.underlying3 e0
        obtain ⟨o, q1, _, w1⟩ := DataW.trod_int Tryz.underlying3 e1
        obtain ⟨u, q2, _, w2⟩ := DataW.trod_int Tryz.underlying3 e2
        simp at q0 q1 q2
        subst q0 q1 q2
        have c0 := hcell 0 (by omega)
        have c1 := hcell 1 (by omega)
        have c2 := hcell 2 (by omega)
        rw [add_add, ha, add_at] at c0 c1 c2
        exact ⟨(f, o, u), ha, hb, by simpa using c0, by simpa [Nat.add_assoc] using c1, by simpa [Nat.add_assoc] using c2, w0, w1, w2⟩
    obtain ⟨cs, hcl, hcp⟩ := list_of _ len each
    refine ⟨cs, some a, cap, by rw [hcl], by omega, hm, fun i c hc => ?_⟩
    obtain ⟨ha, hb, hat⟩ := hcp i c hc
    exact ⟨a.block, a.off, by rw [← ha], hb, hat⟩

theorem open_rules {fuel : Nat} {rv : Value} {x : DataW H × List MemPlace} (h : DataW.trod enc Tryz.prog W base sp held fuel 22 [rv] = some x) : ∃ rs, RulesAt W.heap.size W rv rs := by
  rcases open_slice_pairs Tryz.underlying22 Tryz.underlying95 (by kernel_rfl) rfl rfl (by kernel_rfl) (by kernel_rfl) h with ⟨h0, _⟩ | ⟨a, len, cap, m, n, V0, V1, _, _, _, _, h0, _, hl, hm, hmm, _, hx⟩
  · simp at h0
    subst h0
    exact ⟨[], none, 0, rfl, Nat.le_refl _, Nat.zero_le _, fun i c hc => by simp at hc⟩
  · simp at h0
    subst h0
    have hlm : len ≤ m := by rw [hmm]; split <;> omega
    have each : ∀ i, i < len → ∃ r : RuleT, a = ⟨a.block, a.off, none⟩ ∧ a.block < W.heap.size ∧ RuleAt W.heap.size W a.block (a.off + i * 2) r := by
      intro i hi
      obtain ⟨ha, hb⟩ := addr_plain (hx 0 (by omega)).1
      obtain ⟨c0, c1, t0, t1⟩ := hx i (by omega)
      obtain ⟨cs, hcs⟩ := open_conds t0
      obtain ⟨v, q1, _, w1⟩ := DataW.trod_int Tryz.underlying3 t1
      simp at q1
      rw [q1] at c1
      rw [ha, add_at] at c0 c1
      exact ⟨(cs, v), ha, hb, V0 i, c0, by simpa [Nat.add_assoc] using c1, w1, hcs⟩
    obtain ⟨rs, hrl, hrp⟩ := list_of _ len each
    refine ⟨rs, some a, cap, by rw [hrl], by omega, hm, fun i r hr => ?_⟩
    obtain ⟨ha, hb, hat⟩ := hrp i r hr
    exact ⟨a.block, a.off, by rw [← ha], hb, hat⟩
end

/-- What every row's first world gives. -/
theorem env_of_shaped {W : World} (h : W.ShapedOpen Tryz.prog) : EnvAt W := Tryz.laysM145.s1_3 W h

end Go.Proofs.YtbdlojnigflanacGreatDoor
end
section
/- Records: plain data, and when one is right. -/
set_option linter.all false
namespace Go.Proofs.YtbdlojnigflanacGreatDoor

abbrev RecT := Int × Int × Int × PolT
def decPol : DecidableEq PolT := fun p q => inferInstance
instance decRec : DecidableEq RecT := @instDecidableEqProd _ _ inferInstance (@instDecidableEqProd _ _ inferInstance (@instDecidableEqProd _ _ inferInstance decPol))
def recErr (r : RecT) : Int :=
  if r.1 < 1 ∨ 4 < r.1 then 4
  else if (r.2.1 < 0 ∨ 3 < r.2.1) ∨ (r.2.2.1 < 0 ∨ 3 < r.2.2.1) then 3
  else if (0 < r.2.2.1 ∧ r.1 ≠ 3) ∨ (¬ (r.1 = 1 ∨ r.1 = 2) ∧ ¬ (r.2.2.2.2 = 0 ∧ r.2.2.2.1 = [])) then 4
  else if r.1 = 1 ∨ r.1 = 2 then polErr r.2.2.2 else 0
theorem recErr_ok {r : RecT} (h : recErr r = 0) : (1 ≤ r.1 ∧ r.1 ≤ 4) ∧ (0 ≤ r.2.1 ∧ r.2.1 ≤ 3) ∧ (0 ≤ r.2.2.1 ∧ r.2.2.1 ≤ 3) ∧ (r.1 = 3 ∨ r.2.2.1 = 0) ∧ ((r.1 = 1 ∨ r.1 = 2) ∧ polErr r.2.2.2 = 0 ∨ (r.1 = 3 ∨ r.1 = 4) ∧ r.2.2.2 = ([], 0)) := by
  unfold recErr at h
  split at h
  · cases h
  · rename_i h1
    split at h
    · cases h
    · rename_i h2
      split at h
      · cases h
      · rename_i h3
        have hk : r.1 = 1 ∨ r.1 = 2 ∨ r.1 = 3 ∨ r.1 = 4 := by omega
        have h3' : ¬ (0 < r.2.2.1 ∧ r.1 ≠ 3) := fun e => h3 (.inl e)
        refine ⟨by omega, by omega, by omega, by omega, ?_⟩
        by_cases hp : r.1 = 1 ∨ r.1 = 2
        · rw [if_pos hp] at h
          exact .inl ⟨hp, h⟩
        · refine .inr ⟨by omega, ?_⟩
          have hz : r.2.2.2.2 = 0 ∧ r.2.2.2.1 = [] := by
            apply Classical.byContradiction
            intro e
            exact h3 (.inr ⟨hp, e⟩)
          obtain ⟨k, c, f, rs, d⟩ := r
          simp only at hz
          rw [hz.1, hz.2]
theorem polAt_zero (B : Nat) (w : World) : PolAt B w (.agg #[.slice none 0 0, .int .i64 0]) ([], 0) :=
  ⟨_, rfl, by unfold wf; decide, none, 0, rfl, Nat.le_refl _, Nat.zero_le _, fun i r h => by simp at h⟩
end Go.Proofs.YtbdlojnigflanacGreatDoor
end
section
/- What Same and its counterpart say of two policies: whether they are alike. -/
set_option linter.all false
namespace Go.Proofs.YtbdlojnigflanacGreatDoor
open Go.RowKit Go.Maps

theorem eqCond (d : Nat) (f op v f2 op2 v2 : Int) (w : World) : (Op.equalIn (d + 3) 99 (.agg #[.int .i64 f, .int .i64 op, .int .i64 v]) (.agg #[.int .i64 f2, .int .i64 op2, .int .i64 v2])).run Tryz.prog w = .ok (decide (((f, op, v) : CondT) = (f2, op2, v2))) w := by
  have u3 := Tryz.underlying3
  have a3 := Tryz.isAgg3
  have z3 := Tryz.sizeOf3
  have hS : Tryz.prog.underlying 99 = some (.struct (Tryz.prog.fieldsOf 99)) := by kernel_rfl
  have hp : Tryz.prog.stoodInHeld 99 = false := by kernel_rfl
  rw [run_equalIn_agg w (d + 2) 99 _ _ hS hp]
  simp only [Program.fieldsOf, Tryz.underlying99]
  go_simp
  by_cases h1 : f = f2 <;> by_cases h2 : op = op2 <;> by_cases h3 : v = v2 <;> simp [h1, h2, h3]
theorem neqCond (f op v f2 op2 v2 : Int) (w : World) : (binOp .neq 99 (.agg #[.int .i64 f, .int .i64 op, .int .i64 v]) (.agg #[.int .i64 f2, .int .i64 op2, .int .i64 v2])).run Tryz.prog w = .ok (.bool (!decide (((f, op, v) : CondT) = (f2, op2, v2)))) w := by
  rw [run_neq_struct, show (10000 : Nat) = 9997 + 3 from rfl, eqCond]
  rfl
theorem guardCond (op : BinOp) (x y : Operand) (xs ys : Array Value) (w : World) : (eqGuard op 99 x y (.agg xs) (.agg ys)).run Tryz.prog w = .ok () w := run_eqGuard_agg _ _ _ _ _ _ _ (by kernel_rfl)
/-- Two conditions compared, in a region that draws its order. -/
theorem wpQuiet_neqCond {ops : Array Oper} {C : World → Prop} {Q : Act → Prop} {a : Act} {o : Oper} {rest : List Oper} (x y : Operand) (t : TypeId) (hop : o.op = .binOp .neq 99 x y t) (hw : Region.wanted o (yielded ops a.tmps) = true)
    (f op v f2 op2 v2 : Int) (hx : a.eval x = .agg #[.int .i64 f, .int .i64 op, .int .i64 v]) (hy : a.eval y = .agg #[.int .i64 f2, .int .i64 op2, .int .i64 v2])
    (q : Bool) (hq : (!decide (((f, op, v) : CondT) = (f2, op2, v2))) = q) (h : wpQuiet Tryz.prog ops C Q rest (a.put o.dst (.bool q))) : wpQuiet Tryz.prog ops C Q (o :: rest) a := by
  subst hq
  refine BigFrame.wpQuiet_want hw fun K hK => ⟨_, fun w _ => ?_, hK _ h⟩
  unfold Oper.quietAt execOp
  rw [hop]
  simp only [hx, hy]
  have e : ((do eqGuard .neq 99 x y (.agg #[.int .i64 f, .int .i64 op, .int .i64 v]) (.agg #[.int .i64 f2, .int .i64 op2, .int .i64 v2]); binOp .neq 99 (.agg #[.int .i64 f, .int .i64 op, .int .i64 v]) (.agg #[.int .i64 f2, .int .i64 op2, .int .i64 v2])) : Sem Value).run Tryz.prog w = .ok (.bool (!decide (((f, op, v) : CondT) = (f2, op2, v2)))) w := by
    simp only [Sem.run_bind, guardCond, neqCond, Result.andThen]
  simp only [Sem.run_bind, e, Result.andThen]
  exact ⟨rfl, rfl⟩

set_option maxHeartbeats 1000000 in
theorem equalConds_any (B : Nat) (cv dv : Value) (cs ds : List CondT) (w : World) (hc : CondsAt B w cv cs) (hd : CondsAt B w dv ds) (hB : B ≤ w.heap.size) :
    Calls Tryz.prog 143 #[cv, dv] w fun e w' => e = .returned (.bool (decide (cs = ds))) ∧ Below w.heap.size w w' := by
  obtain ⟨a, cap, rfl, hlc, hcm, hcs⟩ := hc
  obtain ⟨a2, cap2, rfl, hlc2, hcm2, hds⟩ := hd
  have hcs' : Hid (∀ (i : Nat) (c : CondT), cs[i]? = some c → ∃ b o, a = some ⟨b, o, none⟩ ∧ b < B ∧ CondAt w b (o + i * 3) c) := hcs
  have hds' : Hid (∀ (i : Nat) (c : CondT), ds[i]? = some c → ∃ b o, a2 = some ⟨b, o, none⟩ ∧ b < B ∧ CondAt w b (o + i * 3) c) := hds
  clear hcs hds
  by_cases hne : cs.length = ds.length
  · generalize hn : cs.length = n at *
    have hm : ds.length = n := hne.symm
    clear hne
    rw [hm] at hlc2
    simp only [hm]
    have hml : n ≤ 9223372036854775807 := by have := maxLen_eq; omega
    go_enter Tryz.func143, Tryz.ntmps143
    go_wp2
    go_loopw [13] (fun i wr => ∃ k : Nat, k ≤ n ∧ i = .int .i64 k ∧ Hid (∀ i, i < k → cs[i]? = ds[i]?) ∧ Below w.heap.size w wr) (fun i _ => n - (intOf i).toNat)
    case atStart => exact ⟨0, by omega, rfl, fun i h => absurd h (by omega), Below.refl _ _⟩
    case round =>
      obtain ⟨k, hk, rfl, H, hbr⟩ := hrel
      have i0 : (0 : Int) ≤ (k : Int) := by omega
      by_cases hlt : k < n
      · have i1 : (k : Int) < (n : Int) := by omega
        obtain ⟨c, hck⟩ : ∃ c, cs[k]? = some c := ⟨cs[k]'(by omega), by simp⟩
        obtain ⟨d, hdk⟩ : ∃ d, ds[k]? = some d := ⟨ds[k]'(by omega), by simp⟩
        obtain ⟨b, o, rfl, hbB, hat⟩ := hcs'.out k c hck
        obtain ⟨b2, o2, rfl, hbB2, hat2⟩ := hds'.out k d hdk
        have hck' : Hid (cs[k]? = some c) := hck
        have hdk' : Hid (ds[k]? = some d) := hdk
        clear hck hdk
        obtain ⟨c0, c1, c2, w0, w1, w2⟩ := hat.later hbr (by omega)
        obtain ⟨d0, d1, d2, _, _, _⟩ := hat2.later hbr (by omega)
        obtain ⟨f, op, v⟩ := c
        obtain ⟨f2, op2, v2⟩ := d
        simp only [] at c0 c1 c2 d0 d1 d2
        clear hat hat2
        go_wp2
        have hsz := hbr.size
        have hne := Later.ne wr
        have c0' : ∀ x : Later wr, x.1.cell? ⟨b, o + k * 3, none⟩ = some (.int .i64 f) := fun x => x.cell c0 (by omega)
        have c1' : ∀ x : Later wr, x.1.cell? ⟨b, o + k * 3 + 1, none⟩ = some (.int .i64 op) := fun x => x.cell c1 (by omega)
        have c2' : ∀ x : Later wr, x.1.cell? ⟨b, o + k * 3 + 2, none⟩ = some (.int .i64 v) := fun x => x.cell c2 (by omega)
        have d0' : ∀ x : Later wr, x.1.cell? ⟨b2, o2 + k * 3, none⟩ = some (.int .i64 f2) := fun x => x.cell d0 (by omega)
        have d1' : ∀ x : Later wr, x.1.cell? ⟨b2, o2 + k * 3 + 1, none⟩ = some (.int .i64 op2) := fun x => x.cell d1 (by omega)
        have d2' : ∀ x : Later wr, x.1.cell? ⟨b2, o2 + k * 3 + 2, none⟩ = some (.int .i64 v2) := fun x => x.cell d2 (by omega)
        by_cases heq : ((f, op, v) : CondT) = (f2, op2, v2)
        · have Heq : Hid (((f, op, v) : CondT) = (f2, op2, v2)) := heq
          have hd : Hid ((!decide (((f, op, v) : CondT) = (f2, op2, v2))) = false) := by unfold Hid; simp [heq]
          clear heq
          refine wp_region_later (by kernel_rfl) (by kernel_rfl) ?_
          repeat (go_big_quiet_step (fail))
          refine wpQuiet_neqCond _ _ _ rfl rfl f op v f2 op2 v2 rfl rfl _ hd.out ?_
          refine wpQuiet_nil ?_
          rintro wx ⟨⟨_, hx⟩, rfl⟩
          have hbx := Below.thenOf hbr hx hbr.size
          go_wp2
          refine ⟨⟨k + 1, by omega, by go_num, fun i hi => ?_, hbx⟩, by simp [intOf]; omega⟩
          by_cases hik : i = k
          · subst hik; rw [hck'.out, hdk'.out, Heq.out]
          · exact H.out i (by omega)
        · have Heq : Hid (¬ ((f, op, v) : CondT) = (f2, op2, v2)) := heq
          have hd : Hid ((!decide (((f, op, v) : CondT) = (f2, op2, v2))) = true) := by unfold Hid; rw [decide_eq_false heq]; rfl
          clear heq
          refine wp_region_later (by kernel_rfl) (by kernel_rfl) ?_
          repeat (go_big_quiet_step (fail))
          refine wpQuiet_neqCond _ _ _ rfl rfl f op v f2 op2 v2 rfl rfl _ hd.out ?_
          refine wpQuiet_nil ?_
          rintro wx ⟨⟨_, hx⟩, rfl⟩
          have hbx := Below.thenOf hbr hx hbr.size
          go_wp2
          go_ret
          refine ⟨?_, hbx⟩
          have : cs ≠ ds := by
            intro h
            have h1 := hck'.out
            rw [h, hdk'.out] at h1
            exact Heq.out (Option.some.inj h1).symm
          simp [this]
      · go_wp2
        go_ret
        refine ⟨?_, hbr⟩
        have : cs = ds := by
          refine List.ext_getElem? fun i => ?_
          by_cases hi : i < k
          · exact H.out i hi
          · rw [List.getElem?_eq_none (by omega), List.getElem?_eq_none (by omega)]
        simp [this]
  · have hni : ((cs.length : Int) != (ds.length : Int)) = true := by simp; omega
    have hf : Hid (decide (cs = ds) = false) := by unfold Hid; simp; intro h; rw [h] at hne; exact hne rfl
    generalize cs.length = n at *
    generalize ds.length = m at *
    go_enter Tryz.func143, Tryz.ntmps143
    go_wp2
    go_ret
    exact ⟨by rw [hf.out]; rfl, Below.refl _ _⟩

end Go.Proofs.YtbdlojnigflanacGreatDoor
end
section
/- What Same and its counterpart say of two policies: whether they are alike. -/
set_option linter.all false
namespace Go.Proofs.YtbdlojnigflanacGreatDoor
open Go.RowKit Go.Maps

theorem CondsAt.shape {B : Nat} {w : World} {v : Value} {cs : List CondT} (h : CondsAt B w v cs) : ∃ a n cap, v = .slice a n cap := by
  obtain ⟨a, cap, e, _⟩ := h
  exact ⟨a, _, cap, e⟩
theorem RulesAt.shape {B : Nat} {w : World} {v : Value} {rs : List RuleT} (h : RulesAt B w v rs) : ∃ a cap, v = .slice a rs.length cap := by
  obtain ⟨a, cap, e, _⟩ := h
  exact ⟨a, cap, e⟩

set_option maxHeartbeats 1000000 in
theorem sameRule_any (B : Nat) (cv dv : Value) (r s : RuleT) (w : World) (hc : CondsAt B w cv r.1) (hd : CondsAt B w dv s.1) (hB : B ≤ w.heap.size) :
    Calls Tryz.prog 142 #[.agg #[cv, .int .i64 r.2], .agg #[dv, .int .i64 s.2]] w fun e w' => e = .returned (.bool (decide (r = s))) ∧ Below w.heap.size w w' := by
  obtain ⟨cs, v1⟩ := r
  obtain ⟨ds, v2⟩ := s
  have hbP : ∀ X Y, Below w.heap.size w ((w.alloc X).alloc Y) := fun X Y => ((Below.refl _ _).alloc (Nat.le_refl _) _).alloc (by simp) _
  have hcall : Hid (∀ X Y, Calls Tryz.prog 143 #[cv, dv] ((w.alloc X).alloc Y) fun e w' => e = .returned (.bool (decide (cs = ds))) ∧ Below ((w.alloc X).alloc Y).heap.size ((w.alloc X).alloc Y) w') := fun X Y => equalConds_any B cv dv cs ds _ (hc.later (hbP X Y) hB) (hd.later (hbP X Y) hB) (by simp; omega)
  obtain ⟨a, n, cap, rfl⟩ := hc.shape
  obtain ⟨a2, n2, cap2, rfl⟩ := hd.shape
  clear hc hd
  simp only []
  by_cases hv : v1 = v2
  · subst hv
    have E : Hid (decide (((cs, v1) : RuleT) = (ds, v1)) = decide (cs = ds)) := by unfold Hid; simp
    generalize decide (cs = ds) = q at *
    go_enter Tryz.func142, Tryz.ntmps142
    go_wp2_with (first | (go_at_call 143; refine (hcall.out _ _).mono ?_; rintro e w' ⟨rfl, hb2⟩))
    go_ret
    exact ⟨by rw [E.out]; rfl, Below.thenOf (hbP _ _) hb2 (by simp; omega)⟩
  · have E : Hid (decide (((cs, v1) : RuleT) = (ds, v2)) = false) := by unfold Hid; simp; intro _; exact hv
    have hv' : (v1 == v2) = false := by simpa using hv
    go_enter Tryz.func142, Tryz.ntmps142
    go_wp2
    go_ret
    exact ⟨by first | rfl | (rw [E.out]; rfl), hbP _ _⟩

set_option maxHeartbeats 1000000 in
theorem equalRules_any (B : Nat) (rv sv : Value) (rs ss : List RuleT) (w : World) (hr : RulesAt B w rv rs) (hs : RulesAt B w sv ss) (hB : B ≤ w.heap.size) :
    Calls Tryz.prog 141 #[rv, sv, .func (.func 142) #[] #[]] w fun e w' => e = .returned (.bool (decide (rs = ss))) ∧ Below w.heap.size w w' := by
  obtain ⟨a, cap, rfl, hlc, hcm, hrs⟩ := hr
  obtain ⟨a2, cap2, rfl, hlc2, hcm2, hss⟩ := hs
  have hrs' : Hid (∀ (i : Nat) (r : RuleT), rs[i]? = some r → ∃ b o, a = some ⟨b, o, none⟩ ∧ b < B ∧ RuleAt B w b (o + i * 2) r) := hrs
  have hss' : Hid (∀ (i : Nat) (r : RuleT), ss[i]? = some r → ∃ b o, a2 = some ⟨b, o, none⟩ ∧ b < B ∧ RuleAt B w b (o + i * 2) r) := hss
  clear hrs hss
  by_cases hne : rs.length = ss.length
  · generalize hn : rs.length = n at *
    have hm : ss.length = n := hne.symm
    clear hne
    rw [hm] at hlc2
    simp only [hm]
    have hml : n ≤ 9223372036854775807 := by have := maxLen_eq; omega
    go_enter Tryz.func141, Tryz.ntmps141
    go_wp2
    go_loopw [17] (fun i wr => ∃ k : Nat, k ≤ n ∧ i = .int .i64 k ∧ Hid (∀ i, i < k → rs[i]? = ss[i]?) ∧ Below w.heap.size w wr) (fun i _ => n - (intOf i).toNat)
    case atStart => exact ⟨0, by omega, rfl, fun i h => absurd h (by omega), Below.refl _ _⟩
    case round =>
      obtain ⟨k, hk, rfl, H, hbr⟩ := hrel
      have i0 : (0 : Int) ≤ (k : Int) := by omega
      by_cases hlt : k < n
      · have i1 : (k : Int) < (n : Int) := by omega
        obtain ⟨r, hrk⟩ : ∃ r, rs[k]? = some r := ⟨rs[k]'(by omega), by simp⟩
        obtain ⟨s, hsk⟩ : ∃ s, ss[k]? = some s := ⟨ss[k]'(by omega), by simp⟩
        obtain ⟨b, o, rfl, hbB, hat⟩ := hrs'.out k r hrk
        obtain ⟨b2, o2, rfl, hbB2, hat2⟩ := hss'.out k s hsk
        have hck' : Hid (rs[k]? = some r) := hrk
        have hdk' : Hid (ss[k]? = some s) := hsk
        clear hrk hsk
        have hsz := hbr.size
        obtain ⟨cv, c0, c1, w0, hcon⟩ := hat.later hbr hB hbB
        obtain ⟨dv, d0, d1, w1, hdon⟩ := hat2.later hbr hB hbB2
        have hbP : ∀ X Y, Below wr.heap.size wr ((wr.alloc X).alloc Y) := fun X Y => ((Below.refl _ _).alloc (Nat.le_refl _) _).alloc (by simp) _
        have hcall : Hid (∀ X Y, Calls Tryz.prog 142 #[.agg #[cv, .int .i64 r.2], .agg #[dv, .int .i64 s.2]] ((wr.alloc X).alloc Y) fun e w' => e = .returned (.bool (decide (r = s))) ∧ Below ((wr.alloc X).alloc Y).heap.size ((wr.alloc X).alloc Y) w') := fun X Y => sameRule_any B cv dv r s _ (hcon.later (hbP X Y) (by omega)) (hdon.later (hbP X Y) (by omega)) (by simp; omega)
        obtain ⟨a3, n3, cap3, rfl⟩ := hcon.shape
        obtain ⟨a4, n4, cap4, rfl⟩ := hdon.shape
        clear hat hat2 hcon hdon
        generalize r.2 = rr2 at *
        generalize s.2 = ss2 at *
        have ha : ∀ X, (wr.alloc X).cell? ⟨b2, o2 + k * 2, none⟩ = some (.slice a4 n4 cap4) := fun X => (((Below.refl wr.heap.size wr).alloc (Nat.le_refl _) X).cell (p := ⟨b2, o2 + k * 2, none⟩) (by show b2 < wr.heap.size; omega)).trans d0
        have ha' : ∀ X, (wr.alloc X).cell? ⟨b2, o2 + k * 2 + 1, none⟩ = some (.int .i64 ss2) := fun X => (((Below.refl wr.heap.size wr).alloc (Nat.le_refl _) X).cell (p := ⟨b2, o2 + k * 2 + 1, none⟩) (by show b2 < wr.heap.size; omega)).trans d1
        generalize hq : decide (r = s) = q at *
        have hq' : Hid (decide (r = s) = q) := hq
        clear hq
        go_wp2_with (first | (go_at_call 142; refine (hcall.out _ _).mono ?_; rintro e w' ⟨rfl, hb2⟩))
        all_goals have hb3 : Below w.heap.size w w' := Below.thenOf (Below.thenOf hbr (hbP _ _) hsz) hb2 (by simp; omega)
        · go_ret
          refine ⟨?_, hb3⟩
          have hne : r ≠ s := by have h := hq'.out; rw [(by simpa using (by assumption : (!q) = true) : q = false)] at h; simpa using h
          have : rs ≠ ss := by
            intro h
            have h1 := hck'.out
            rw [h, hdk'.out] at h1
            exact hne (Option.some.inj h1).symm
          simp [this]
        · have heq : r = s := by have h := hq'.out; rw [(by simpa using (by assumption : (!q) = false) : q = true)] at h; simpa using h
          refine ⟨⟨k + 1, by omega, by go_num, fun i hi => ?_, hb3⟩, by simp [intOf]; omega⟩
          by_cases hik : i = k
          · subst hik; rw [hck'.out, hdk'.out, heq]
          · exact H.out i (by omega)
      · go_wp2
        go_ret
        refine ⟨?_, hbr⟩
        have : rs = ss := by
          refine List.ext_getElem? fun i => ?_
          by_cases hi : i < k
          · exact H.out i hi
          · rw [List.getElem?_eq_none (by omega), List.getElem?_eq_none (by omega)]
        simp [this]
  · have hni : ((rs.length : Int) != (ss.length : Int)) = true := by simp; omega
    have hf : Hid (decide (rs = ss) = false) := by unfold Hid; simp; intro h; rw [h] at hne; exact hne rfl
    generalize rs.length = n at *
    generalize ss.length = m at *
    go_enter Tryz.func141, Tryz.ntmps141
    go_wp2
    go_ret
    exact ⟨by rw [hf.out]; rfl, Below.refl _ _⟩

set_option maxHeartbeats 1000000 in
theorem same_any (B : Nat) (pv qv : Value) (p q : PolT) (w : World) (hp : PolAt B w pv p) (hq : PolAt B w qv q) (hB : B ≤ w.heap.size) :
    Calls Tryz.prog 80 #[pv, qv] w fun e w' => e = .returned (.bool (decide (p = q))) ∧ Below w.heap.size w w' := by
  obtain ⟨rs, d1⟩ := p
  obtain ⟨ss, d2⟩ := q
  obtain ⟨rv, rfl, _, hr⟩ := hp
  obtain ⟨sv, rfl, _, hs⟩ := hq
  have hbP : ∀ X Y, Below w.heap.size w ((w.alloc X).alloc Y) := fun X Y => ((Below.refl _ _).alloc (Nat.le_refl _) _).alloc (by simp) _
  have hcall : Hid (∀ X Y, Calls Tryz.prog 141 #[rv, sv, .func (.func 142) #[] #[]] ((w.alloc X).alloc Y) fun e w' => e = .returned (.bool (decide (rs = ss))) ∧ Below ((w.alloc X).alloc Y).heap.size ((w.alloc X).alloc Y) w') := fun X Y => equalRules_any B rv sv rs ss _ (hr.later (hbP X Y) hB) (hs.later (hbP X Y) hB) (by simp; omega)
  obtain ⟨a, cap, rfl⟩ := hr.shape
  obtain ⟨a2, cap2, rfl⟩ := hs.shape
  clear hr hs
  simp only []
  by_cases hv : d1 = d2
  · subst hv
    have E : Hid (decide (((rs, d1) : PolT) = (ss, d1)) = decide (rs = ss)) := by unfold Hid; simp
    generalize decide (rs = ss) = q at *
    go_enter Tryz.func80, Tryz.ntmps80
    go_wp2_with (first | (go_at_call 141; refine (hcall.out _ _).mono ?_; rintro e w' ⟨rfl, hb2⟩))
    go_ret
    exact ⟨by rw [E.out]; rfl, Below.thenOf (hbP _ _) hb2 (by simp; omega)⟩
  · have E : Hid (decide (((rs, d1) : PolT) = (ss, d2)) = false) := by unfold Hid; simp; intro _; exact hv
    have hv' : (d1 == d2) = false := by simpa using hv
    go_enter Tryz.func80, Tryz.ntmps80
    go_wp2
    go_ret
    exact ⟨by first | rfl | (rw [E.out]; rfl), hbP _ _⟩

end Go.Proofs.YtbdlojnigflanacGreatDoor
end
