/- What Same and its counterpart say of two policies: whether they are alike. -/
import Derived.Test.YthpllmhnpbigiaaDoorPol3
import Derived.Laws.StructEq
set_option linter.all false
namespace Go.Proofs.YthpllmhnpbigiaaDoor
open Go.RowKit Go.Maps

theorem eqCond (d : Nat) (f op v f2 op2 v2 : Int) (w : World) : (Op.equalIn (d + 3) 63 (.agg #[.int .i64 f, .int .i64 op, .int .i64 v]) (.agg #[.int .i64 f2, .int .i64 op2, .int .i64 v2])).run Tryd.prog w = .ok (decide (((f, op, v) : CondT) = (f2, op2, v2))) w := by
  have u3 := Tryd.underlying3
  have a3 := Tryd.isAgg3
  have z3 := Tryd.sizeOf3
  have hS : Tryd.prog.underlying 63 = some (.struct (Tryd.prog.fieldsOf 63)) := by kernel_rfl
  have hp : Tryd.prog.stoodInHeld 63 = false := by kernel_rfl
  rw [run_equalIn_agg w (d + 2) 63 _ _ hS hp]
  simp only [Program.fieldsOf, Tryd.underlying63]
  go_simp
  by_cases h1 : f = f2 <;> by_cases h2 : op = op2 <;> by_cases h3 : v = v2 <;> simp [h1, h2, h3]
theorem neqCond (f op v f2 op2 v2 : Int) (w : World) : (binOp .neq 63 (.agg #[.int .i64 f, .int .i64 op, .int .i64 v]) (.agg #[.int .i64 f2, .int .i64 op2, .int .i64 v2])).run Tryd.prog w = .ok (.bool (!decide (((f, op, v) : CondT) = (f2, op2, v2)))) w := by
  rw [run_neq_struct, show (10000 : Nat) = 9997 + 3 from rfl, eqCond]
  rfl
theorem guardCond (op : BinOp) (x y : Operand) (xs ys : Array Value) (w : World) : (eqGuard op 63 x y (.agg xs) (.agg ys)).run Tryd.prog w = .ok () w := run_eqGuard_agg _ _ _ _ _ _ _ (by kernel_rfl)
/-- Two conditions compared, in a region that draws its order. -/
theorem wpQuiet_neqCond {ops : Array Oper} {C : World → Prop} {Q : Act → Prop} {a : Act} {o : Oper} {rest : List Oper} (x y : Operand) (t : TypeId) (hop : o.op = .binOp .neq 63 x y t) (hw : Region.wanted o (yielded ops a.tmps) = true)
    (f op v f2 op2 v2 : Int) (hx : a.eval x = .agg #[.int .i64 f, .int .i64 op, .int .i64 v]) (hy : a.eval y = .agg #[.int .i64 f2, .int .i64 op2, .int .i64 v2])
    (q : Bool) (hq : (!decide (((f, op, v) : CondT) = (f2, op2, v2))) = q) (h : wpQuiet Tryd.prog ops C Q rest (a.put o.dst (.bool q))) : wpQuiet Tryd.prog ops C Q (o :: rest) a := by
  subst hq
  refine BigFrame.wpQuiet_want hw fun K hK => ⟨_, fun w _ => ?_, hK _ h⟩
  unfold Oper.quietAt execOp
  rw [hop]
  simp only [hx, hy]
  have e : ((do eqGuard .neq 63 x y (.agg #[.int .i64 f, .int .i64 op, .int .i64 v]) (.agg #[.int .i64 f2, .int .i64 op2, .int .i64 v2]); binOp .neq 63 (.agg #[.int .i64 f, .int .i64 op, .int .i64 v]) (.agg #[.int .i64 f2, .int .i64 op2, .int .i64 v2])) : Sem Value).run Tryd.prog w = .ok (.bool (!decide (((f, op, v) : CondT) = (f2, op2, v2)))) w := by
    simp only [Sem.run_bind, guardCond, neqCond, Result.andThen]
  simp only [Sem.run_bind, e, Result.andThen]
  exact ⟨rfl, rfl⟩

set_option maxHeartbeats 1000000 in
theorem equalConds_any (B : Nat) (cv dv : Value) (cs ds : List CondT) (w : World) (hc : CondsAt B w cv cs) (hd : CondsAt B w dv ds) (hB : B ≤ w.heap.size) :
    Calls Tryd.prog 45 #[cv, dv] w fun e w' => e = .returned (.bool (decide (cs = ds))) ∧ Below w.heap.size w w' := by
  obtain ⟨a, cap, rfl, hlc, hcm, hcs⟩ := hc
  obtain ⟨a2, cap2, rfl, hlc2, hcm2, hds⟩ := hd
  have hcs' : Hid (∀ (i : Nat) (c : CondT), cs[i]? = some c → ∃ b o, a = some ⟨b, o, none⟩ ∧ b < B ∧ CondAt w b (o + i * 3) c) := hcs
  have hds' : Hid (∀ (i : Nat) (c : CondT), ds[i]? = some c → ∃ b o, a2 = some ⟨b, o, none⟩ ∧ b < B ∧ CondAt w b (o + i * 3) c) := hds
  clear hcs hds
  by_cases hne : cs.length = ds.length
  · generalize hn : cs.length = n at *
    have hm : ds.length = n := hne.symm
    clear hne
    rw [hm] at hlc2
    simp only [hm]
    have hml : n ≤ 9223372036854775807 := by have := maxLen_eq; omega
    go_enter Tryd.func45, Tryd.ntmps45
    go_wp2
    go_loopw [13] (fun i wr => ∃ k : Nat, k ≤ n ∧ i = .int .i64 k ∧ Hid (∀ i, i < k → cs[i]? = ds[i]?) ∧ Below w.heap.size w wr) (fun i _ => n - (intOf i).toNat)
    case atStart => exact ⟨0, by omega, rfl, fun i h => absurd h (by omega), Below.refl _ _⟩
    case round =>
      obtain ⟨k, hk, rfl, H, hbr⟩ := hrel
      have i0 : (0 : Int) ≤ (k : Int) := by omega
      by_cases hlt : k < n
      · have i1 : (k : Int) < (n : Int) := by omega
        obtain ⟨c, hck⟩ : ∃ c, cs[k]? = some c := ⟨cs[k]'(by omega), by simp⟩
        obtain ⟨d, hdk⟩ : ∃ d, ds[k]? = some d := ⟨ds[k]'(by omega), by simp⟩
        obtain ⟨b, o, rfl, hbB, hat⟩ := hcs'.out k c hck
        obtain ⟨b2, o2, rfl, hbB2, hat2⟩ := hds'.out k d hdk
        have hck' : Hid (cs[k]? = some c) := hck
        have hdk' : Hid (ds[k]? = some d) := hdk
        clear hck hdk
        obtain ⟨c0, c1, c2, w0, w1, w2⟩ := hat.later hbr (by omega)
        obtain ⟨d0, d1, d2, _, _, _⟩ := hat2.later hbr (by omega)
        obtain ⟨f, op, v⟩ := c
        obtain ⟨f2, op2, v2⟩ := d
        simp only [] at c0 c1 c2 d0 d1 d2
        clear hat hat2
        go_wp2
        have hsz := hbr.size
        have hne := Later.ne wr
        have c0' : ∀ x : Later wr, x.1.cell? ⟨b, o + k * 3, none⟩ = some (.int .i64 f) := fun x => x.cell c0 (by omega)
        have c1' : ∀ x : Later wr, x.1.cell? ⟨b, o + k * 3 + 1, none⟩ = some (.int .i64 op) := fun x => x.cell c1 (by omega)
        have c2' : ∀ x : Later wr, x.1.cell? ⟨b, o + k * 3 + 2, none⟩ = some (.int .i64 v) := fun x => x.cell c2 (by omega)
        have d0' : ∀ x : Later wr, x.1.cell? ⟨b2, o2 + k * 3, none⟩ = some (.int .i64 f2) := fun x => x.cell d0 (by omega)
        have d1' : ∀ x : Later wr, x.1.cell? ⟨b2, o2 + k * 3 + 1, none⟩ = some (.int .i64 op2) := fun x => x.cell d1 (by omega)
        have d2' : ∀ x : Later wr, x.1.cell? ⟨b2, o2 + k * 3 + 2, none⟩ = some (.int .i64 v2) := fun x => x.cell d2 (by omega)
        by_cases heq : ((f, op, v) : CondT) = (f2, op2, v2)
        · have Heq : Hid (((f, op, v) : CondT) = (f2, op2, v2)) := heq
          have hd : Hid ((!decide (((f, op, v) : CondT) = (f2, op2, v2))) = false) := by unfold Hid; simp [heq]
          clear heq
          refine wp_region_later (by kernel_rfl) (by kernel_rfl) ?_
          repeat (go_big_quiet_step (fail))
          refine wpQuiet_neqCond _ _ _ rfl rfl f op v f2 op2 v2 rfl rfl _ hd.out ?_
          refine wpQuiet_nil ?_
          rintro wx ⟨⟨_, hx⟩, rfl⟩
          have hbx := Below.thenOf hbr hx hbr.size
          go_wp2
          refine ⟨⟨k + 1, by omega, by go_num, fun i hi => ?_, hbx⟩, by simp [intOf]; omega⟩
          by_cases hik : i = k
          · subst hik; rw [hck'.out, hdk'.out, Heq.out]
          · exact H.out i (by omega)
        · have Heq : Hid (¬ ((f, op, v) : CondT) = (f2, op2, v2)) := heq
          have hd : Hid ((!decide (((f, op, v) : CondT) = (f2, op2, v2))) = true) := by unfold Hid; rw [decide_eq_false heq]; rfl
          clear heq
          refine wp_region_later (by kernel_rfl) (by kernel_rfl) ?_
          repeat (go_big_quiet_step (fail))
          refine wpQuiet_neqCond _ _ _ rfl rfl f op v f2 op2 v2 rfl rfl _ hd.out ?_
          refine wpQuiet_nil ?_
          rintro wx ⟨⟨_, hx⟩, rfl⟩
          have hbx := Below.thenOf hbr hx hbr.size
          go_wp2
          go_ret
          refine ⟨?_, hbx⟩
          have : cs ≠ ds := by
            intro h
            have h1 := hck'.out
            rw [h, hdk'.out] at h1
            exact Heq.out (Option.some.inj h1).symm
          simp [this]
      · go_wp2
        go_ret
        refine ⟨?_, hbr⟩
        have : cs = ds := by
          refine List.ext_getElem? fun i => ?_
          by_cases hi : i < k
          · exact H.out i hi
          · rw [List.getElem?_eq_none (by omega), List.getElem?_eq_none (by omega)]
        simp [this]
  · have hni : ((cs.length : Int) != (ds.length : Int)) = true := by simp; omega
    have hf : Hid (decide (cs = ds) = false) := by unfold Hid; simp; intro h; rw [h] at hne; exact hne rfl
    generalize cs.length = n at *
    generalize ds.length = m at *
    go_enter Tryd.func45, Tryd.ntmps45
    go_wp2
    go_ret
    exact ⟨by rw [hf.out]; rfl, Below.refl _ _⟩

end Go.Proofs.YthpllmhnpbigiaaDoor
