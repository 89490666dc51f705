/- Joined: Cmp5 EqI Chn3. -/
import Derived.Test.YtbdlojnigflanacGreatDoorKa06
import Derived.Test.YtbdlojnigflanacGreatDoorKa18
import Derived.Laws.StructEq
import Derived.Test.YtbdlojnigflanacGreatDoorKa17
section
/- compiled: the closed fact that every statement on filters of policies asks first. -/
set_option linter.all false
set_option maxRecDepth 100000
namespace Go.Proofs.YtbdlojnigflanacGreatDoor
open Go.RowKit Go.Maps

theorem eqIns (d : Nat) (a b c e a2 b2 c2 e2 : Int) (w : World) : (Op.equalIn (d + 3) 86 (.agg #[.int .i64 a, .int .i64 b, .int .i64 c, .int .i64 e]) (.agg #[.int .i64 a2, .int .i64 b2, .int .i64 c2, .int .i64 e2])).run Tryz.prog w = .ok (decide (((a, b, c, e) : InsT) = (a2, b2, c2, e2))) w := by
  have u3 := Tryz.underlying3
  have a3 := Tryz.isAgg3
  have z3 := Tryz.sizeOf3
  have hS : Tryz.prog.underlying 86 = some (.struct (Tryz.prog.fieldsOf 86)) := by kernel_rfl
  have hp : Tryz.prog.stoodInHeld 86 = false := by kernel_rfl
  rw [run_equalIn_agg w (d + 2) 86 _ _ hS hp]
  simp only [Program.fieldsOf, Tryz.underlying86]
  go_simp
  by_cases h1 : a = a2 <;> by_cases h2 : b = b2 <;> by_cases h3 : c = c2 <;> by_cases h4 : e = e2 <;> simp [h1, h2, h3, h4]
theorem neqIns (a b c e a2 b2 c2 e2 : Int) (w : World) : (binOp .neq 86 (.agg #[.int .i64 a, .int .i64 b, .int .i64 c, .int .i64 e]) (.agg #[.int .i64 a2, .int .i64 b2, .int .i64 c2, .int .i64 e2])).run Tryz.prog w = .ok (.bool (!decide (((a, b, c, e) : InsT) = (a2, b2, c2, e2)))) w := by
  rw [run_neq_struct, show (10000 : Nat) = 9997 + 3 from rfl, eqIns]
  rfl
theorem guardIns (op : BinOp) (x y : Operand) (xs ys : Array Value) (w : World) : (eqGuard op 86 x y (.agg xs) (.agg ys)).run Tryz.prog w = .ok () w := run_eqGuard_agg _ _ _ _ _ _ _ (by kernel_rfl)
/-- Two instructions compared, in a region that draws its order. -/
theorem wpQuiet_neqIns {ops : Array Oper} {C : World → Prop} {Q : Act → Prop} {a : Act} {o : Oper} {rest : List Oper} (x y : Operand) (t : TypeId) (hop : o.op = .binOp .neq 86 x y t) (hw : Region.wanted o (yielded ops a.tmps) = true)
    (f op v u f2 op2 v2 u2 : Int) (hx : a.eval x = .agg #[.int .i64 f, .int .i64 op, .int .i64 v, .int .i64 u]) (hy : a.eval y = .agg #[.int .i64 f2, .int .i64 op2, .int .i64 v2, .int .i64 u2])
    (q : Bool) (hq : (!decide (((f, op, v, u) : InsT) = (f2, op2, v2, u2))) = q) (h : wpQuiet Tryz.prog ops C Q rest (a.put o.dst (.bool q))) : wpQuiet Tryz.prog ops C Q (o :: rest) a := by
  subst hq
  refine BigFrame.wpQuiet_want hw fun K hK => ⟨_, fun w _ => ?_, hK _ h⟩
  unfold Oper.quietAt execOp
  rw [hop]
  simp only [hx, hy]
  have e : ((do eqGuard .neq 86 x y (.agg #[.int .i64 f, .int .i64 op, .int .i64 v, .int .i64 u]) (.agg #[.int .i64 f2, .int .i64 op2, .int .i64 v2, .int .i64 u2]); binOp .neq 86 (.agg #[.int .i64 f, .int .i64 op, .int .i64 v, .int .i64 u]) (.agg #[.int .i64 f2, .int .i64 op2, .int .i64 v2, .int .i64 u2])) : Sem Value).run Tryz.prog w = .ok (.bool (!decide (((f, op, v, u) : InsT) = (f2, op2, v2, u2)))) w := by
    simp only [Sem.run_bind, guardIns, neqIns, Result.andThen]
  simp only [Sem.run_bind, e, Result.andThen]
  exact ⟨rfl, rfl⟩

end Go.Proofs.YtbdlojnigflanacGreatDoor
end
section
/- slices.Equal of two filters. -/
set_option linter.all false
set_option maxRecDepth 100000
namespace Go.Proofs.YtbdlojnigflanacGreatDoor
open Go.RowKit Go.Maps

set_option maxHeartbeats 1000000 in
theorem equalInss_any (B : Nat) (cv dv : Value) (cs ds : List InsT) (w : World) (hc : InssAt B w cv cs) (hd : InssAt B w dv ds) (hB : B ≤ w.heap.size) :
    Calls Tryz.prog 54 #[cv, dv] w fun e w' => e = .returned (.bool (decide (cs = ds))) ∧ Below w.heap.size w w' := by
  obtain ⟨a, cap, rfl, hlc, hcm, hcs⟩ := hc
  obtain ⟨a2, cap2, rfl, hlc2, hcm2, hds⟩ := hd
  have hcs' : Hid (∀ (i : Nat) (c : InsT), cs[i]? = some c → ∃ b o, a = some ⟨b, o, none⟩ ∧ b < B ∧ InsAt w b (o + i * 4) c) := hcs
  have hds' : Hid (∀ (i : Nat) (c : InsT), ds[i]? = some c → ∃ b o, a2 = some ⟨b, o, none⟩ ∧ b < B ∧ InsAt w b (o + i * 4) c) := hds
  clear hcs hds
  by_cases hne : cs.length = ds.length
  · generalize hn : cs.length = n at *
    have hm : ds.length = n := hne.symm
    clear hne
    rw [hm] at hlc2
    simp only [hm]
    have hml : n ≤ 9223372036854775807 := by have := maxLen_eq; omega
    go_enter Tryz.func54, Tryz.ntmps54
    go_wp2
    go_loopw [13] (fun i wr => ∃ k : Nat, k ≤ n ∧ i = .int .i64 k ∧ Hid (∀ i, i < k → cs[i]? = ds[i]?) ∧ Below w.heap.size w wr) (fun i _ => n - (intOf i).toNat)
    case atStart => exact ⟨0, by omega, rfl, fun i h => absurd h (by omega), Below.refl _ _⟩
    case round =>
      obtain ⟨k, hk, rfl, H, hbr⟩ := hrel
      have i0 : (0 : Int) ≤ (k : Int) := by omega
      by_cases hlt : k < n
      · have i1 : (k : Int) < (n : Int) := by omega
        obtain ⟨c, hck⟩ : ∃ c, cs[k]? = some c := ⟨cs[k]'(by omega), by simp⟩
        obtain ⟨d, hdk⟩ : ∃ d, ds[k]? = some d := ⟨ds[k]'(by omega), by simp⟩
        obtain ⟨b, o, rfl, hbB, hat⟩ := hcs'.out k c hck
        obtain ⟨b2, o2, rfl, hbB2, hat2⟩ := hds'.out k d hdk
        have hck' : Hid (cs[k]? = some c) := hck
        have hdk' : Hid (ds[k]? = some d) := hdk
        clear hck hdk
        obtain ⟨c0, c1, c2, c3, _⟩ := hat.later hbr (by omega)
        obtain ⟨d0, d1, d2, d3, _⟩ := hat2.later hbr (by omega)
        obtain ⟨f, op, v, u⟩ := c
        obtain ⟨f2, op2, v2, u2⟩ := d
        simp only [] at c0 c1 c2 c3 d0 d1 d2 d3
        clear hat hat2
        go_wp2
        have hsz := hbr.size
        have hne := Later.ne wr
        have c0' : ∀ x : Later wr, x.1.cell? ⟨b, o + k * 4, none⟩ = some (.int .i64 f) := fun x => x.cell c0 (by omega)
        have c1' : ∀ x : Later wr, x.1.cell? ⟨b, o + k * 4 + 1, none⟩ = some (.int .i64 op) := fun x => x.cell c1 (by omega)
        have c2' : ∀ x : Later wr, x.1.cell? ⟨b, o + k * 4 + 2, none⟩ = some (.int .i64 v) := fun x => x.cell c2 (by omega)
        have c3' : ∀ x : Later wr, x.1.cell? ⟨b, o + k * 4 + 3, none⟩ = some (.int .i64 u) := fun x => x.cell c3 (by omega)
        have d3' : ∀ x : Later wr, x.1.cell? ⟨b2, o2 + k * 4 + 3, none⟩ = some (.int .i64 u2) := fun x => x.cell d3 (by omega)
        have d0' : ∀ x : Later wr, x.1.cell? ⟨b2, o2 + k * 4, none⟩ = some (.int .i64 f2) := fun x => x.cell d0 (by omega)
        have d1' : ∀ x : Later wr, x.1.cell? ⟨b2, o2 + k * 4 + 1, none⟩ = some (.int .i64 op2) := fun x => x.cell d1 (by omega)
        have d2' : ∀ x : Later wr, x.1.cell? ⟨b2, o2 + k * 4 + 2, none⟩ = some (.int .i64 v2) := fun x => x.cell d2 (by omega)
        by_cases heq : ((f, op, v, u) : InsT) = (f2, op2, v2, u2)
        · have Heq : Hid (((f, op, v, u) : InsT) = (f2, op2, v2, u2)) := heq
          have hd : Hid ((!decide (((f, op, v, u) : InsT) = (f2, op2, v2, u2))) = false) := by unfold Hid; simp [heq]
          clear heq
          refine wp_region_later (by kernel_rfl) (by kernel_rfl) ?_
          repeat (go_big_quiet_step (fail))
          refine wpQuiet_neqIns _ _ _ rfl rfl f op v u f2 op2 v2 u2 rfl rfl _ hd.out ?_
          refine wpQuiet_nil ?_
          rintro wx ⟨⟨_, hx⟩, rfl⟩
          have hbx := Below.thenOf hbr hx hbr.size
          go_wp2
          refine ⟨⟨k + 1, by omega, by go_num, fun i hi => ?_, hbx⟩, by simp [intOf]; omega⟩
          by_cases hik : i = k
          · subst hik; rw [hck'.out, hdk'.out, Heq.out]
          · exact H.out i (by omega)
        · have Heq : Hid (¬ ((f, op, v, u) : InsT) = (f2, op2, v2, u2)) := heq
          have hd : Hid ((!decide (((f, op, v, u) : InsT) = (f2, op2, v2, u2))) = true) := by unfold Hid; rw [decide_eq_false heq]; rfl
          clear heq
          refine wp_region_later (by kernel_rfl) (by kernel_rfl) ?_
          repeat (go_big_quiet_step (fail))
          refine wpQuiet_neqIns _ _ _ rfl rfl f op v u f2 op2 v2 u2 rfl rfl _ hd.out ?_
          refine wpQuiet_nil ?_
          rintro wx ⟨⟨_, hx⟩, rfl⟩
          have hbx := Below.thenOf hbr hx hbr.size
          go_wp2
          go_ret
          refine ⟨?_, hbx⟩
          have : cs ≠ ds := by
            intro h
            have h1 := hck'.out
            rw [h, hdk'.out] at h1
            exact Heq.out (Option.some.inj h1).symm
          simp [this]
      · go_wp2
        go_ret
        refine ⟨?_, hbr⟩
        have : cs = ds := by
          refine List.ext_getElem? fun i => ?_
          by_cases hi : i < k
          · exact H.out i hi
          · rw [List.getElem?_eq_none (by omega), List.getElem?_eq_none (by omega)]
        simp [this]
  · have hni : ((cs.length : Int) != (ds.length : Int)) = true := by simp; omega
    have hf : Hid (decide (cs = ds) = false) := by unfold Hid; simp; intro h; rw [h] at hne; exact hne rfl
    generalize cs.length = n at *
    generalize ds.length = m at *
    go_enter Tryz.func54, Tryz.ntmps54
    go_wp2
    go_ret
    exact ⟨by rw [hf.out]; rfl, Below.refl _ _⟩

end Go.Proofs.YtbdlojnigflanacGreatDoor
end
section
/- The counterpart's own reading of chains: CheckChain, Asked, SameChain. -/
set_option linter.all false
set_option maxRecDepth 100000
namespace Go.Proofs.YtbdlojnigflanacGreatDoor
open Go.RowKit Go.Maps

set_option maxHeartbeats 2000000 in
theorem checkChain_any (B : Nat) (lv : Value) (ls : ChT) (w : World) (hl : ChsAt B w lv ls) (hB : B ≤ w.heap.size) :
    Calls Tryz.prog 104 #[lv] w fun e w' => e = .returned (.int .i64 (chainErr ls)) ∧ Below w.heap.size w w' := by
  have HL : Hid (∀ w', Below w.heap.size w w' → ChsAt B w' lv ls) := fun w' h => hl.later h hB
  obtain ⟨a, cap, rfl, hlc, hcm, -⟩ := hl
  have hml := maxLen_eq
  have HE : Hid (chainErr ls = if 6 < ls.length then 2 else filtsErr ls) := rfl
  generalize hlen : ls.length = len at *
  have hlenH : Hid (ls.length = len) := hlen
  clear hlen
  by_cases h6 : 6 < len
  · have h6' : (6 : Int) < (len : Int) := by omega
    have HE' : Hid (chainErr ls = 2) := by unfold Hid; rw [HE.out, if_pos h6]
    go_enter Tryz.func104, Tryz.ntmps104
    go_wp2
    go_ret
    exact ⟨by rw [HE'.out]; rfl, Below.refl _ _⟩
  · have h6' : ¬ (6 : Int) < (len : Int) := by omega
    have HE' : Hid (chainErr ls = filtsErr ls) := by unfold Hid; rw [HE.out, if_neg h6]
    clear HE
    go_enter Tryz.func104, Tryz.ntmps104
    go_wp2
    go_loopw [11] (fun iv wr => ∃ k : Nat, k ≤ len ∧ iv = .int .i64 k ∧ Hid (filtsErr ls = filtsErr (ls.drop k)) ∧ Below w.heap.size w wr) (fun iv _ => len - (intOf iv).toNat)
    case atStart => exact ⟨0, by omega, rfl, rfl, Below.refl _ _⟩
    case round =>
      obtain ⟨k, hk, rfl, H, hbr⟩ := hrel
      obtain ⟨wo, hwo⟩ : ∃ x, x = wr := ⟨_, rfl⟩
      subst hwo
      have i0 : (0 : Int) ≤ (k : Int) := by omega
      have hos := hbr.size
      by_cases hlt : k < len
      · have i1 : (k : Int) < (len : Int) := by omega
        obtain ⟨f, hf⟩ : ∃ f, ls[k]? = some f := ⟨ls[k]'(by rw [hlenH.out]; omega), by simp⟩
        have S : Hid (filtsErr (ls.drop k) = if codeErr f = 0 then filtsErr (ls.drop (k + 1)) else codeErr f) := filtsErr_drop ls k f hf
        obtain ⟨_, _, e1, -, -, hat⟩ := HL.out _ hbr
        obtain ⟨b, o, fv, e, hbB, hc, hi⟩ := hat k f hf
        simp at e1
        obtain ⟨rfl, -, -⟩ := e1
        subst e
        clear hat
        have HPA : Hid (∀ w', Below wo.heap.size wo w' → Calls Tryz.prog 157 #[fv] w' fun e w'' => e = .returned (.int .i64 (codeErr f)) ∧ Below w'.heap.size w' w'') := fun w' h => checkCode_any B fv f w' (hi.later h (Nat.le_trans hB hos)) (Nat.le_trans hB (Nat.le_trans hos h.size))
        obtain ⟨a2, c2, rfl, -, -⟩ := hi.shape
        clear hi hf
        generalize f.length = n2 at *
        by_cases he : codeErr f = 0
        · rw [he] at HPA
          have S' : Hid (filtsErr ls = filtsErr (ls.drop (k + 1))) := by unfold Hid; rw [H.out, S.out, if_pos he]
          clear he S
          go_wp2_with (first | (go_at_call 157; go_must (refine Calls.mono (HPA.out _ (Below.refl _ _)) ?_; rintro e w2 ⟨rfl, hb2⟩)))
          exact ⟨⟨k + 1, by omega, by go_num, S', Below.thenOf hbr hb2 hos⟩, by simp [intOf]; omega⟩
        · have S' : Hid (filtsErr ls = codeErr f) := by unfold Hid; rw [H.out, S.out, if_neg he]
          have hq : (codeErr f != 0) = true := by simpa using he
          clear he S
          generalize codeErr f = pe at *
          go_wp2_with (first | (go_at_call 157; go_must (refine Calls.mono (HPA.out _ (Below.refl _ _)) ?_; rintro e w2 ⟨rfl, hb2⟩)))
          go_ret
          exact ⟨by rw [HE'.out, S'.out]; rfl, Below.thenOf hbr hb2 hos⟩
      · go_wp2
        go_ret
        exact ⟨by rw [HE'.out, H.out, List.drop_eq_nil_of_le (by rw [hlenH.out]; omega)]; rfl, hbr⟩

theorem take_eq_step {α : Type} [DecidableEq α] (l m : List α) (k : Nat) (a b : α) (ha : l[k]? = some a) (hb : m[k]? = some b) (h : l.take k = m.take k) : l.take (k + 1) = m.take (k + 1) ↔ a = b := by
  rw [List.take_succ, List.take_succ, ha, hb, h]
  simp

set_option maxHeartbeats 2000000 in
theorem sameFilter_any (B : Nat) (cv dv : Value) (cs ds : List InsT) (w : World) (hc : InssAt B w cv cs) (hd : InssAt B w dv ds) (hB : B ≤ w.heap.size) :
    Calls Tryz.prog 160 #[cv, dv] w fun e w' => e = .returned (.bool (decide (cs = ds))) ∧ Below w.heap.size w w' := by
  have HC : Hid (Calls Tryz.prog 54 #[cv, dv] w fun e w' => e = .returned (.bool (decide (cs = ds))) ∧ Below w.heap.size w w') := equalInss_any B cv dv cs ds w hc hd hB
  obtain ⟨a, c, rfl, -, -⟩ := hc.shape
  obtain ⟨a2, c2, rfl, -, -⟩ := hd.shape
  clear hc hd
  generalize decide (cs = ds) = eq at *
  generalize cs.length = n at *
  generalize ds.length = n2 at *
  go_enter Tryz.func160, Tryz.ntmps160
  go_wp2_with (first | (go_at_call 54; go_must (refine Calls.mono HC.out ?_; rintro e w2 ⟨rfl, hb2⟩)))
  go_ret
  exact ⟨rfl, hb2⟩

set_option maxHeartbeats 4000000 in
theorem equalFunc_any (B : Nat) (lv mv : Value) (ls ms : ChT) (w : World) (hl : ChsAt B w lv ls) (hm : ChsAt B w mv ms) (hB : B ≤ w.heap.size) :
    Calls Tryz.prog 159 #[lv, mv, .func (.func 160) #[] #[]] w fun e w' => e = .returned (.bool (decide (ls = ms))) ∧ Below w.heap.size w w' := by
  have HL : Hid (∀ w', Below w.heap.size w w' → ChsAt B w' lv ls) := fun w' h => hl.later h hB
  have HM : Hid (∀ w', Below w.heap.size w w' → ChsAt B w' mv ms) := fun w' h => hm.later h hB
  obtain ⟨a, cap, rfl, hlc, hcm, -⟩ := hl
  obtain ⟨a', cap', rfl, hlc', hcm', -⟩ := hm
  have hml := maxLen_eq
  have HD : Hid (ls.length ≠ ms.length → decide (ls = ms) = false) := fun h => decide_eq_false fun e => h (by rw [e])
  generalize hlen : ls.length = n at *
  generalize hlen' : ms.length = m at *
  have hlenH : Hid (ls.length = n) := hlen
  have hlenH' : Hid (ms.length = m) := hlen'
  clear hlen hlen'
  by_cases hnm : n = m
  · subst hnm
    clear HD
    go_enter Tryz.func159, Tryz.ntmps159
    go_wp2
    go_loopw [17] (fun iv wr => ∃ k : Nat, k ≤ n ∧ iv = .int .i64 k ∧ Hid (ls.take k = ms.take k) ∧ Below w.heap.size w wr) (fun iv _ => n - (intOf iv).toNat)
    case atStart => exact ⟨0, by omega, rfl, by unfold Hid; simp, Below.refl _ _⟩
    case round =>
      obtain ⟨k, hk, rfl, H, hbr⟩ := hrel
      obtain ⟨wo, hwo⟩ : ∃ x, x = wr := ⟨_, rfl⟩
      subst hwo
      have i0 : (0 : Int) ≤ (k : Int) := by omega
      have hos := hbr.size
      by_cases hlt : k < n
      · have i1 : (k : Int) < (n : Int) := by omega
        obtain ⟨f, hf⟩ : ∃ f, ls[k]? = some f := ⟨ls[k]'(by rw [hlenH.out]; omega), by simp⟩
        obtain ⟨g, hg⟩ : ∃ g, ms[k]? = some g := ⟨ms[k]'(by rw [hlenH'.out]; omega), by simp⟩
        have S : Hid (ls.take (k + 1) = ms.take (k + 1) ↔ f = g) := take_eq_step ls ms k f g hf hg H.out
        have S2 : Hid (f ≠ g → decide (ls = ms) = false) := fun h => decide_eq_false fun e => h (by rw [e, hg] at hf; simpa using hf.symm)
        obtain ⟨_, _, e1, -, -, hat⟩ := HL.out _ hbr
        obtain ⟨b, o, fv, e, hbB, hc, hi⟩ := hat k f hf
        simp at e1
        obtain ⟨rfl, -, -⟩ := e1
        subst e
        obtain ⟨_, _, e1, -, -, hat'⟩ := HM.out _ hbr
        obtain ⟨b', o', gv, e, hbB', hc', hi'⟩ := hat' k g hg
        simp at e1
        obtain ⟨rfl, -, -⟩ := e1
        subst e
        clear hat hat'
        have HPA : Hid (Calls Tryz.prog 160 #[fv, gv] wo fun e w'' => e = .returned (.bool (decide (f = g))) ∧ Below wo.heap.size wo w'') := sameFilter_any B fv gv f g wo hi hi' (Nat.le_trans hB hos)
        obtain ⟨a2, c2, rfl, -, -⟩ := hi.shape
        obtain ⟨a3, c3, rfl, -, -⟩ := hi'.shape
        clear hi hi' hf hg
        generalize f.length = n2 at *
        generalize g.length = n3 at *
        by_cases he : f = g
        · have S' : Hid (ls.take (k + 1) = ms.take (k + 1)) := S.out.2 he
          rw [decide_eq_true he] at HPA
          clear he S S2
          go_wp2_with (first | (go_at_call 160; go_must (refine Calls.mono HPA.out ?_; rintro e w2 ⟨rfl, hb2⟩)))
          exact ⟨⟨k + 1, by omega, by go_num, S', Below.thenOf hbr hb2 hos⟩, by simp [intOf]; omega⟩
        · have S' : Hid (decide (ls = ms) = false) := S2.out he
          rw [decide_eq_false he] at HPA
          clear he S S2
          go_wp2_with (first | (go_at_call 160; go_must (refine Calls.mono HPA.out ?_; rintro e w2 ⟨rfl, hb2⟩)))
          go_ret
          exact ⟨by rw [S'.out]; rfl, Below.thenOf hbr hb2 hos⟩
      · have S' : Hid (decide (ls = ms) = true) := by
          apply decide_eq_true
          have := H.out
          rw [List.take_of_length_le (by rw [hlenH.out]; omega), List.take_of_length_le (by rw [hlenH'.out]; omega)] at this
          exact this
        go_wp2
        go_ret
        exact ⟨by rw [S'.out]; rfl, hbr⟩
  · have hnm' : ¬ (n : Int) = (m : Int) := by omega
    have S' : Hid (decide (ls = ms) = false) := HD.out hnm
    have hq : ((n : Int) != (m : Int)) = true := by simpa using hnm'
    go_enter Tryz.func159, Tryz.ntmps159
    go_wp2
    go_ret
    exact ⟨by rw [S'.out]; rfl, Below.refl _ _⟩

set_option maxHeartbeats 2000000 in
theorem sameChain_any (B : Nat) (lv mv : Value) (ls ms : ChT) (w : World) (hl : ChsAt B w lv ls) (hm : ChsAt B w mv ms) (hB : B ≤ w.heap.size) :
    Calls Tryz.prog 109 #[lv, mv] w fun e w' => e = .returned (.bool (decide (ls = ms))) ∧ Below w.heap.size w w' := by
  have HC : Hid (Calls Tryz.prog 159 #[lv, mv, .func (.func 160) #[] #[]] w fun e w' => e = .returned (.bool (decide (ls = ms))) ∧ Below w.heap.size w w') := equalFunc_any B lv mv ls ms w hl hm hB
  obtain ⟨a, c, rfl, -, -⟩ := hl.shape
  obtain ⟨a2, c2, rfl, -, -⟩ := hm.shape
  clear hl hm
  generalize decide (ls = ms) = eq at *
  generalize ls.length = n at *
  generalize ms.length = n2 at *
  go_enter Tryz.func109, Tryz.ntmps109
  go_wp2_with (first | (go_at_call 159; go_must (refine Calls.mono HC.out ?_; rintro e w2 ⟨rfl, hb2⟩)))
  go_ret
  exact ⟨rfl, hb2⟩

end Go.Proofs.YtbdlojnigflanacGreatDoor
end
