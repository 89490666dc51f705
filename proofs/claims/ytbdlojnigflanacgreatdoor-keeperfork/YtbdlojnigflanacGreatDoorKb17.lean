/- Joined: Cmp3 Cmp4 Cmp5 EqI Chn3. -/
import Derived.Test.YtbdlojnigflanacGreatDoorKb16
import Derived.Test.YtbdlojnigflanacGreatDoorKb14
import Derived.Test.YtbdlojnigflanacGreatDoorKb07
import Derived.Laws.StructEq
section
/- What the program's own Compile says of a policy. -/
set_option linter.all false
set_option maxRecDepth 100000
namespace Go.Proofs.YtbdlojnigflanacGreatDoor
open Go.RowKit Go.Maps

theorem wf_of {n : Int} (h : -9223372036854775808 ≤ n ∧ n ≤ 9223372036854775807) : wf n := WalkArith.wf_i64 h
theorem rulesI_take (rs : List RuleT) (k : Nat) (r : RuleT) (h : rs[k]? = some r) : rulesI (rs.take (k + 1)) = rulesI (rs.take k) ++ ruleI r := by
  rw [List.take_succ, h]
  simp [rulesI]
theorem condsI_wf : ∀ (cs : List CondT), cs.length ≤ 10 → (∀ c ∈ cs, condErr c = 0) → ∀ i ∈ condsI cs, insWf i
  | [], _, _, i, h => by simp [condsI] at h
  | c :: r, hl, hc, i, h => by
    obtain ⟨h1, h2, h3⟩ := condErr_ok (hc c (by simp))
    have hm := most_le c.1
    have hl' : r.length + 1 ≤ 10 := by simpa using hl
    rw [condsI] at h
    rcases List.mem_cons.1 h with rfl | h
    · exact ⟨wf_of (by simp only []; omega), wf_of (by simp only []; omega), wf_of (by simp only []; omega), wf_of (by simp only []; omega)⟩
    · rcases List.mem_cons.1 h with rfl | h
      · unfold askI
        split
        · exact ⟨wf_of (by simp only []; omega), wf_of (by simp only []; omega), wf_of (by simp only []; omega), wf_of (by simp only []; omega)⟩
        · split
          · exact ⟨wf_of (by simp only []; omega), wf_of (by simp only []; omega), wf_of (by simp only []; omega), wf_of (by simp only []; omega)⟩
          · split
            · exact ⟨wf_of (by simp only []; omega), wf_of (by simp only []; omega), wf_of (by simp only []; omega), wf_of (by simp only []; omega)⟩
            · exact ⟨wf_of (by simp only []; omega), wf_of (by simp only []; omega), wf_of (by simp only []; omega), wf_of (by simp only []; omega)⟩
      · exact condsI_wf r (by omega) (fun d hd => hc d (by simp [hd])) i h
theorem retI_wf {v : Int} (h : verdictOk v = true) : insWf (4, v, 0, 0) := by
  have := verdictOk_ok h
  exact ⟨wf_of (by simp only []; omega), wf_of (by simp only []; omega), wf_of (by simp only []; omega), wf_of (by simp only []; omega)⟩
theorem polI_wf {p : PolT} (h : polErr p = 0) : ∀ i ∈ polI p, insWf i := by
  obtain ⟨_, hv, hr⟩ := polErr_ok h
  intro i hi
  unfold polI at hi
  rcases List.mem_append.1 hi with hi | hi
  · unfold rulesI at hi
    obtain ⟨r, hr1, hi⟩ := List.mem_flatMap.1 hi
    obtain ⟨h1, h2, h3⟩ := ruleErr_ok (rulesErr_all hr r hr1)
    unfold ruleI at hi
    rcases List.mem_append.1 hi with hi | hi
    · exact condsI_wf r.1 h1 (condsErr_all h3) i hi
    · rw [List.mem_singleton] at hi
      subst hi
      exact retI_wf h2
  · rw [List.mem_singleton] at hi
    subst hi
    exact retI_wf hv
theorem rulesI_len : ∀ (rs : List RuleT), (∀ r ∈ rs, ruleErr r = 0) → (rulesI rs).length ≤ rs.length * 21
  | [], _ => by simp [rulesI]
  | r :: s, h => by
    obtain ⟨h1, _, _⟩ := ruleErr_ok (h r (by simp))
    have := rulesI_len s fun d hd => h d (by simp [hd])
    rw [rulesI_cons, List.length_append, ruleI_length, List.length_cons]
    omega
end Go.Proofs.YtbdlojnigflanacGreatDoor
end
section
/- What the program's own Compile says of a policy: the walk. -/
set_option linter.all false
set_option maxRecDepth 100000
namespace Go.Proofs.YtbdlojnigflanacGreatDoor
open Go.RowKit Go.Maps

set_option maxHeartbeats 4000000 in
theorem compile_any (B : Nat) (pv : Value) (p : PolT) (w : World) (hp : PolAt B w pv p) (hB : B ≤ w.heap.size) :
    Calls Tryz.prog 53 #[pv] w fun e w' => ∃ lv, e = .returned (.tuple #[lv, .int .i64 (compE p)]) ∧ w'.ownsRow w.heap.size 86 4 lv (compL p).length (insCells (compL p)) ∧ (∀ i ∈ compL p, insWf i) ∧ Below w.heap.size w w' := by
  obtain ⟨inf, hi1, hi2, hi3, hi4⟩ := infoIns
  have HP : Hid (∀ w', Below w.heap.size w w' → PolAt B w' pv p) := fun w' h => hp.later h hB
  have HCk : Hid (∀ w', Below w.heap.size w w' → Calls Tryz.prog 61 #[pv] w' fun e w'' => e = .returned (.int .i64 (polErr p)) ∧ Below w'.heap.size w' w'') := fun w' h => check_pol B pv p w' (hp.later h hB) (Nat.le_trans hB h.size)
  obtain ⟨rs, d⟩ := p
  obtain ⟨rv, epv, hd, a, cap, erv, hlc, hcm, hrest⟩ := hp
  clear hrest
  simp only at epv erv hlc hd
  subst erv
  subst epv
  have hml := maxLen_eq
  have hb1 : ∀ X, Below w.heap.size w (w.alloc X) := fun X => (Below.refl _ _).alloc (Nat.le_refl _) _
  by_cases h0 : polErr (rs, d) = 0
  case neg =>
    have HE : Hid (compE (rs, d) = polErr (rs, d) ∧ compL (rs, d) = []) := by
      have e : compE (rs, d) = polErr (rs, d) := by rw [compE, if_neg h0]
      refine ⟨e, ?_⟩
      rw [compL, if_neg (by rw [e]; exact h0)]
    have hq : (polErr (rs, d) != 0) = true := by simpa using h0
    clear h0
    generalize polErr (rs, d) = pe at *
    go_enter Tryz.func53, Tryz.ntmps53
    go_wp2_with (first | (go_at_call 61; go_must (refine Calls.mono (HCk.out _ (hb1 _)) ?_; rintro e w1 ⟨rfl, hbb⟩)))
    go_ret2
    rw [HE.out.1, HE.out.2]
    exact ⟨_, rfl, ⟨rfl, .inl ⟨rfl, rfl⟩⟩, (fun i h => by cases h), Below.thenOf (hb1 _) hbb (by simp)⟩
  case pos =>
    obtain ⟨hn120, hvd, hre⟩ := polErr_ok h0
    simp only [] at hn120 hvd hre
    have HR : Hid (∀ r ∈ rs, ruleErr r = 0) := rulesErr_all hre
    have HW : Hid (∀ i ∈ polI (rs, d), insWf i) := polI_wf h0
    have HCE : Hid (codeErr (polI (rs, d)) = if 1500 < (polI (rs, d)).length then 2 else 0) := codeErr_pol h0
    have HE : Hid (compE (rs, d) = if 1500 < (polI (rs, d)).length then 2 else 0) := by unfold Hid; rw [compE, if_pos h0]
    have HL : Hid ((rulesI rs).length ≤ 2520) := by have := rulesI_len rs HR.out; unfold Hid; omega
    have HLk : Hid (∀ k, k ≤ rs.length → (rulesI (rs.take k)).length ≤ 2520) := fun k hk => by
      have := rulesI_len (rs.take k) fun r hr => HR.out r (List.mem_of_mem_take hr)
      rw [List.length_take] at this
      omega
    rw [h0] at HCk
    clear h0 hre
    generalize hlen : rs.length = len at *
    have hlenH : Hid (rs.length = len) := hlen
    clear hlen
    go_enter Tryz.func53, Tryz.ntmps53
    go_wp2_with (first | (go_at_call 61; go_must (refine Calls.mono (HCk.out _ (hb1 _)) ?_; rintro e w1 ⟨rfl, hbb⟩; have hPb := (hbb.block w.heap.size (by simp)).trans (heap_made w _); have p0 := heap_cell hPb 0 rfl; have p1 := heap_cell hPb 1 rfl)))
    have hB1 : Below w.heap.size w w1 := Below.thenOf (hb1 _) hbb (by simp)
    have hs1 : w.heap.size < w1.heap.size := lt_of_block hPb
    clear p0 p1 hbb
    go_loopw [5, 17] (fun nv iv wr => ∃ k : Nat, k ≤ len ∧ iv = .int .i64 k ∧ Hid (wr.ownsRow w.heap.size 86 4 nv (rulesI (rs.take k)).length (insCells (rulesI (rs.take k)))) ∧ Below w.heap.size w wr ∧ Hid (ButT 86 w1 wr) ∧ w.heap.size < wr.heap.size) (fun _ iv _ => len - (intOf iv).toNat)
    case atStart => exact ⟨0, by omega, rfl, ⟨rfl, .inl ⟨rfl, rfl⟩⟩, hB1, ButT.refl _ _, hs1⟩
    case round =>
      obtain ⟨k, hk, rfl, HOr, hbr, hbt, hsr⟩ := hrel
      obtain ⟨wo, hwo⟩ : ∃ x, x = wr := ⟨_, rfl⟩
      subst hwo
      have i0 : (0 : Int) ≤ (k : Int) := by omega
      have hPbo := hbt.out _ _ _ _ hPb (by decide)
      have hos := hbr.size
      have hlk := HLk.out k hk
      by_cases hlt : k < len
      · have i1 : (k : Int) < (len : Int) := by omega
        obtain ⟨r, hrk⟩ : ∃ r, rs[k]? = some r := ⟨rs[k]'(by rw [hlenH.out]; omega), by simp⟩
        have hr10 := (ruleErr_ok (HR.out r (List.mem_of_getElem? hrk))).1
        obtain ⟨_, e0, -, _, _, e1, -, -, hat⟩ := HP.out _ hbr
        obtain ⟨b, o, e, hbB, cv, hc0, hc1, _, hcv⟩ := hat k r hrk
        simp at e0
        subst e0
        simp at e1
        obtain ⟨rfl, -, -⟩ := e1
        subst e
        clear hat
        have HT : Hid (rulesI (rs.take (k + 1)) = rulesI (rs.take k) ++ ruleI r) := rulesI_take rs k r hrk
        obtain ⟨W2, hW2⟩ : ∃ W2, W2 = wo.alloc (.cells #[cv, .int .i64 r.2] 95) := ⟨_, rfl⟩
        have hb2 : Below wo.heap.size wo W2 := by rw [hW2]; exact (Below.refl _ _).alloc (Nat.le_refl _) _
        have HB2 : Below w.heap.size w W2 := Below.thenOf hbr hb2 hos
        have HAR : Hid (Calls Tryz.prog 113 #[u5, .agg #[cv, .int .i64 r.2]] W2 fun e w' => ∃ v', e = .returned v' ∧ w'.ownsRow w.heap.size 86 4 v' ((rulesI (rs.take k)).length + (ruleI r).length) (insCells (rulesI (rs.take k)) ++ insCells (ruleI r)) ∧ Below w.heap.size W2 w' ∧ ButT 86 W2 w') := appendRule_any B w.heap.size u5 cv _ _ r W2 (ownsRow_below HOr.out hb2) (hcv.later hb2 (Nat.le_trans hB hos)) hB HB2.size (by omega) hr10
        have HBB : Hid (Below w.heap.size w W2) := HB2
        have HT2 : Hid (ButT 86 w1 W2) := hbt.out.trans (ButT.of_below hb2)
        have hs2 := hb2.size
        obtain ⟨a2, c2, ecv, _⟩ := hcv
        subst ecv
        obtain ⟨m2, hm2⟩ : ∃ m2, m2 = r.1.length := ⟨_, rfl⟩
        rw [← hm2] at HAR hc0 hW2
        clear hm2 hPbo HB2 hb2
        go_wp2_with fail
        rw [← hW2]
        clear hW2
        go_at_call 113
        refine Calls.mono HAR.out ?_
        rintro e w3 ⟨v', rfl, ho3, hb3, ht3⟩
        have HO3 : Hid (w3.ownsRow w.heap.size 86 4 v' (rulesI (rs.take (k + 1))).length (insCells (rulesI (rs.take (k + 1))))) := by
          unfold Hid
          rw [HT.out, insCells_append, List.length_append]
          exact ho3
        have hb3' : Below w.heap.size w w3 := HBB.out.trans hb3
        have ht3' : Hid (ButT 86 w1 w3) := HT2.out.trans ht3
        have hs3 := hb3.size
        clear ho3 hb3 ht3
        go_wp2_with fail
        exact ⟨⟨k + 1, by omega, by go_num, HO3, hb3', ht3', by omega⟩, by simp [intOf]; omega⟩
      · obtain rfl : k = len := by omega
        have p1 := heap_cell hPbo 1 rfl
        have HAp : Hid (∀ W X, X = W.alloc (.cells #[.int .i64 4, .int .i64 d, .int .i64 0, .int .i64 0] 86) → Below wo.heap.size wo W → ∃ v' W', (Builtin.append_ #[81, 81] 81 #[u5, .slice (some ⟨W.heap.size, 0, none⟩) 1 1]).run Tryz.prog X = .ok v' W' ∧ Hid (W'.ownsRow w.heap.size 86 4 v' (polI (rs, d)).length (insCells (polI (rs, d)))) ∧ Below w.heap.size w W') := by
          intro W X hX hW
          have hbX : Below wo.heap.size wo X := by rw [hX]; exact hW.alloc hW.size _
          have hg : X.heap[W.heap.size]? = some (.cells (insCells [(4, d, 0, 0)]).toArray 86 (0, 0)) := by rw [hX]; exact heap_made _ _
          obtain ⟨v', W', r1, r2, r3, r4⟩ := app_own (P := Tryz.prog) Tryz.underlying81 hi1 hi2 hi3 hi4 rfl (by decide) w.heap.size 81 u5 _ 1 W.heap.size _ (insCells [(4, d, 0, 0)]) X (ownsRow_below HOr.out hbX) hg rfl (insCells_one _) (by omega) (by omega) (Nat.le_trans hos hbX.size) 1
          refine ⟨v', W', r1, ?_, (Below.thenOf hbr hbX hos).trans r3⟩
          unfold Hid
          have e : rs.take k = rs := List.take_of_length_le (by rw [hlenH.out]; omega)
          rw [e, ← insCells_append] at r2
          unfold polI
          rw [List.length_append]
          exact r2
        clear hPbo
        go_wp2_with (first | (go_at_call 114; go_must (refine Calls.mono (give_any _ _) ?_; rintro e w2 ⟨rfl, hb2⟩)) | (at_builtin; go_must (obtain ⟨v', W', hrun, q1, q2⟩ := HAp.out _ _ rfl hb2; refine Lib.wpList_append_run _ rfl _ _ _ _ rfl _ _ rfl rfl _ _ hrun ?_)))
        go_at_call 115
        have hcc := check_code W'.heap.size v' (polI (rs, d)) W' (inssAt_own q1.out HW.out) (Nat.le_refl _)
        rw [HCE.out] at hcc
        by_cases hl : 1500 < (polI (rs, d)).length
        · rw [if_pos hl] at hcc
          have HEE : Hid (compE (rs, d) = 2 ∧ compL (rs, d) = []) := by
            have e : compE (rs, d) = 2 := by rw [HE.out, if_pos hl]
            exact ⟨e, by rw [compL, if_neg (by rw [e]; decide)]⟩
          refine Calls.mono hcc ?_
          rintro e w5 ⟨rfl, hb5⟩
          clear hcc hl
          go_wp2_with fail
          go_ret2
          rw [HEE.out.1, HEE.out.2]
          exact ⟨_, rfl, ⟨rfl, .inl ⟨rfl, rfl⟩⟩, (fun i h => by cases h), Below.thenOf q2 hb5 q2.size⟩
        · rw [if_neg hl] at hcc
          have HEE : Hid (compE (rs, d) = 0 ∧ compL (rs, d) = polI (rs, d)) := by
            have e : compE (rs, d) = 0 := by rw [HE.out, if_neg hl]
            exact ⟨e, by rw [compL, if_pos e]⟩
          refine Calls.mono hcc ?_
          rintro e w5 ⟨rfl, hb5⟩
          clear hcc hl
          go_wp2_with fail
          go_ret2
          rw [HEE.out.1, HEE.out.2]
          exact ⟨_, rfl, ownsRow_below q1.out hb5, HW.out, Below.thenOf q2 hb5 q2.size⟩
end Go.Proofs.YtbdlojnigflanacGreatDoor
end
section
/- compiled: the closed fact that every statement on filters of policies asks first. -/
set_option linter.all false
set_option maxRecDepth 100000
namespace Go.Proofs.YtbdlojnigflanacGreatDoor
open Go.RowKit Go.Maps

theorem eqIns (d : Nat) (a b c e a2 b2 c2 e2 : Int) (w : World) : (Op.equalIn (d + 3) 86 (.agg #[.int .i64 a, .int .i64 b, .int .i64 c, .int .i64 e]) (.agg #[.int .i64 a2, .int .i64 b2, .int .i64 c2, .int .i64 e2])).run Tryz.prog w = .ok (decide (((a, b, c, e) : InsT) = (a2, b2, c2, e2))) w := by
  have u3 := Tryz.underlying3
  have a3 := Tryz.isAgg3
  have z3 := Tryz.sizeOf3
  have hS : Tryz.prog.underlying 86 = some (.struct (Tryz.prog.fieldsOf 86)) := by kernel_rfl
  have hp : Tryz.prog.stoodInHeld 86 = false := by kernel_rfl
  rw [run_equalIn_agg w (d + 2) 86 _ _ hS hp]
  simp only [Program.fieldsOf, Tryz.underlying86]
  go_simp
  by_cases h1 : a = a2 <;> by_cases h2 : b = b2 <;> by_cases h3 : c = c2 <;> by_cases h4 : e = e2 <;> simp [h1, h2, h3, h4]
theorem neqIns (a b c e a2 b2 c2 e2 : Int) (w : World) : (binOp .neq 86 (.agg #[.int .i64 a, .int .i64 b, .int .i64 c, .int .i64 e]) (.agg #[.int .i64 a2, .int .i64 b2, .int .i64 c2, .int .i64 e2])).run Tryz.prog w = .ok (.bool (!decide (((a, b, c, e) : InsT) = (a2, b2, c2, e2)))) w := by
  rw [run_neq_struct, show (10000 : Nat) = 9997 + 3 from rfl, eqIns]
  rfl
theorem guardIns (op : BinOp) (x y : Operand) (xs ys : Array Value) (w : World) : (eqGuard op 86 x y (.agg xs) (.agg ys)).run Tryz.prog w = .ok () w := run_eqGuard_agg _ _ _ _ _ _ _ (by kernel_rfl)
/-- Two instructions compared, in a region that draws its order. -/
theorem wpQuiet_neqIns {ops : Array Oper} {C : World → Prop} {Q : Act → Prop} {a : Act} {o : Oper} {rest : List Oper} (x y : Operand) (t : TypeId) (hop : o.op = .binOp .neq 86 x y t) (hw : Region.wanted o (yielded ops a.tmps) = true)
    (f op v u f2 op2 v2 u2 : Int) (hx : a.eval x = .agg #[.int .i64 f, .int .i64 op, .int .i64 v, .int .i64 u]) (hy : a.eval y = .agg #[.int .i64 f2, .int .i64 op2, .int .i64 v2, .int .i64 u2])
    (q : Bool) (hq : (!decide (((f, op, v, u) : InsT) = (f2, op2, v2, u2))) = q) (h : wpQuiet Tryz.prog ops C Q rest (a.put o.dst (.bool q))) : wpQuiet Tryz.prog ops C Q (o :: rest) a := by
  subst hq
  refine BigFrame.wpQuiet_want hw fun K hK => ⟨_, fun w _ => ?_, hK _ h⟩
  unfold Oper.quietAt execOp
  rw [hop]
  simp only [hx, hy]
  have e : ((do eqGuard .neq 86 x y (.agg #[.int .i64 f, .int .i64 op, .int .i64 v, .int .i64 u]) (.agg #[.int .i64 f2, .int .i64 op2, .int .i64 v2, .int .i64 u2]); binOp .neq 86 (.agg #[.int .i64 f, .int .i64 op, .int .i64 v, .int .i64 u]) (.agg #[.int .i64 f2, .int .i64 op2, .int .i64 v2, .int .i64 u2])) : Sem Value).run Tryz.prog w = .ok (.bool (!decide (((f, op, v, u) : InsT) = (f2, op2, v2, u2)))) w := by
    simp only [Sem.run_bind, guardIns, neqIns, Result.andThen]
  simp only [Sem.run_bind, e, Result.andThen]
  exact ⟨rfl, rfl⟩

end Go.Proofs.YtbdlojnigflanacGreatDoor
end
section
/- slices.Equal of two filters. -/
set_option linter.all false
set_option maxRecDepth 100000
namespace Go.Proofs.YtbdlojnigflanacGreatDoor
open Go.RowKit Go.Maps

set_option maxHeartbeats 1000000 in
theorem equalInss_any (B : Nat) (cv dv : Value) (cs ds : List InsT) (w : World) (hc : InssAt B w cv cs) (hd : InssAt B w dv ds) (hB : B ≤ w.heap.size) :
    Calls Tryz.prog 54 #[cv, dv] w fun e w' => e = .returned (.bool (decide (cs = ds))) ∧ Below w.heap.size w w' := by
  obtain ⟨a, cap, rfl, hlc, hcm, hcs⟩ := hc
  obtain ⟨a2, cap2, rfl, hlc2, hcm2, hds⟩ := hd
  have hcs' : Hid (∀ (i : Nat) (c : InsT), cs[i]? = some c → ∃ b o, a = some ⟨b, o, none⟩ ∧ b < B ∧ InsAt w b (o + i * 4) c) := hcs
  have hds' : Hid (∀ (i : Nat) (c : InsT), ds[i]? = some c → ∃ b o, a2 = some ⟨b, o, none⟩ ∧ b < B ∧ InsAt w b (o + i * 4) c) := hds
  clear hcs hds
  by_cases hne : cs.length = ds.length
  · generalize hn : cs.length = n at *
    have hm : ds.length = n := hne.symm
    clear hne
    rw [hm] at hlc2
    simp only [hm]
    have hml : n ≤ 9223372036854775807 := by have := maxLen_eq; omega
    go_enter Tryz.func54, Tryz.ntmps54
    go_wp2
    go_loopw [13] (fun i wr => ∃ k : Nat, k ≤ n ∧ i = .int .i64 k ∧ Hid (∀ i, i < k → cs[i]? = ds[i]?) ∧ Below w.heap.size w wr) (fun i _ => n - (intOf i).toNat)
    case atStart => exact ⟨0, by omega, rfl, fun i h => absurd h (by omega), Below.refl _ _⟩
    case round =>
      obtain ⟨k, hk, rfl, H, hbr⟩ := hrel
      have i0 : (0 : Int) ≤ (k : Int) := by omega
      by_cases hlt : k < n
      · have i1 : (k : Int) < (n : Int) := by omega
        obtain ⟨c, hck⟩ : ∃ c, cs[k]? = some c := ⟨cs[k]'(by omega), by simp⟩
        obtain ⟨d, hdk⟩ : ∃ d, ds[k]? = some d := ⟨ds[k]'(by omega), by simp⟩
        obtain ⟨b, o, rfl, hbB, hat⟩ := hcs'.out k c hck
        obtain ⟨b2, o2, rfl, hbB2, hat2⟩ := hds'.out k d hdk
        have hck' : Hid (cs[k]? = some c) := hck
        have hdk' : Hid (ds[k]? = some d) := hdk
        clear hck hdk
        obtain ⟨c0, c1, c2, c3, _⟩ := hat.later hbr (by omega)
        obtain ⟨d0, d1, d2, d3, _⟩ := hat2.later hbr (by omega)
        obtain ⟨f, op, v, u⟩ := c
        obtain ⟨f2, op2, v2, u2⟩ := d
        simp only [] at c0 c1 c2 c3 d0 d1 d2 d3
        clear hat hat2
        go_wp2
        have hsz := hbr.size
        have hne := Later.ne wr
        have c0' : ∀ x : Later wr, x.1.cell? ⟨b, o + k * 4, none⟩ = some (.int .i64 f) := fun x => x.cell c0 (by omega)
        have c1' : ∀ x : Later wr, x.1.cell? ⟨b, o + k * 4 + 1, none⟩ = some (.int .i64 op) := fun x => x.cell c1 (by omega)
        have c2' : ∀ x : Later wr, x.1.cell? ⟨b, o + k * 4 + 2, none⟩ = some (.int .i64 v) := fun x => x.cell c2 (by omega)
        have c3' : ∀ x : Later wr, x.1.cell? ⟨b, o + k * 4 + 3, none⟩ = some (.int .i64 u) := fun x => x.cell c3 (by omega)
        have d3' : ∀ x : Later wr, x.1.cell? ⟨b2, o2 + k * 4 + 3, none⟩ = some (.int .i64 u2) := fun x => x.cell d3 (by omega)
        have d0' : ∀ x : Later wr, x.1.cell? ⟨b2, o2 + k * 4, none⟩ = some (.int .i64 f2) := fun x => x.cell d0 (by omega)
        have d1' : ∀ x : Later wr, x.1.cell? ⟨b2, o2 + k * 4 + 1, none⟩ = some (.int .i64 op2) := fun x => x.cell d1 (by omega)
        have d2' : ∀ x : Later wr, x.1.cell? ⟨b2, o2 + k * 4 + 2, none⟩ = some (.int .i64 v2) := fun x => x.cell d2 (by omega)
        by_cases heq : ((f, op, v, u) : InsT) = (f2, op2, v2, u2)
        · have Heq : Hid (((f, op, v, u) : InsT) = (f2, op2, v2, u2)) := heq
          have hd : Hid ((!decide (((f, op, v, u) : InsT) = (f2, op2, v2, u2))) = false) := by unfold Hid; simp [heq]
          clear heq
          refine wp_region_later (by kernel_rfl) (by kernel_rfl) ?_
          repeat (go_big_quiet_step (fail))
          refine wpQuiet_neqIns _ _ _ rfl rfl f op v u f2 op2 v2 u2 rfl rfl _ hd.out ?_
          refine wpQuiet_nil ?_
          rintro wx ⟨⟨_, hx⟩, rfl⟩
          have hbx := Below.thenOf hbr hx hbr.size
          go_wp2
          refine ⟨⟨k + 1, by omega, by go_num, fun i hi => ?_, hbx⟩, by simp [intOf]; omega⟩
          by_cases hik : i = k
          · subst hik; rw [hck'.out, hdk'.out, Heq.out]
          · exact H.out i (by omega)
        · have Heq : Hid (¬ ((f, op, v, u) : InsT) = (f2, op2, v2, u2)) := heq
          have hd : Hid ((!decide (((f, op, v, u) : InsT) = (f2, op2, v2, u2))) = true) := by unfold Hid; rw [decide_eq_false heq]; rfl
          clear heq
          refine wp_region_later (by kernel_rfl) (by kernel_rfl) ?_
          repeat (go_big_quiet_step (fail))
          refine wpQuiet_neqIns _ _ _ rfl rfl f op v u f2 op2 v2 u2 rfl rfl _ hd.out ?_
          refine wpQuiet_nil ?_
          rintro wx ⟨⟨_, hx⟩, rfl⟩
          have hbx := Below.thenOf hbr hx hbr.size
          go_wp2
          go_ret
          refine ⟨?_, hbx⟩
          have : cs ≠ ds := by
            intro h
            have h1 := hck'.out
            rw [h, hdk'.out] at h1
            exact Heq.out (Option.some.inj h1).symm
          simp [this]
      · go_wp2
        go_ret
        refine ⟨?_, hbr⟩
        have : cs = ds := by
          refine List.ext_getElem? fun i => ?_
          by_cases hi : i < k
          · exact H.out i hi
          · rw [List.getElem?_eq_none (by omega), List.getElem?_eq_none (by omega)]
        simp [this]
  · have hni : ((cs.length : Int) != (ds.length : Int)) = true := by simp; omega
    have hf : Hid (decide (cs = ds) = false) := by unfold Hid; simp; intro h; rw [h] at hne; exact hne rfl
    generalize cs.length = n at *
    generalize ds.length = m at *
    go_enter Tryz.func54, Tryz.ntmps54
    go_wp2
    go_ret
    exact ⟨by rw [hf.out]; rfl, Below.refl _ _⟩

end Go.Proofs.YtbdlojnigflanacGreatDoor
end
section
/- The counterpart's own reading of chains: CheckChain, Asked, SameChain. -/
set_option linter.all false
set_option maxRecDepth 100000
namespace Go.Proofs.YtbdlojnigflanacGreatDoor
open Go.RowKit Go.Maps

theorem askF_step (x : Nat → Int) (ls : ChT) (k : Nat) (f : List InsT) (h : ls[k]? = some f) : askF x 4 (ls.take (k + 1)) = if (runs x 0 0 f).1 < askF x 4 (ls.take k) then (runs x 0 0 f).1 else askF x 4 (ls.take k) := by
  rw [List.take_succ, h]
  exact askF_snoc x 4 _ f

theorem take_eq_step {α : Type} [DecidableEq α] (l m : List α) (k : Nat) (a b : α) (ha : l[k]? = some a) (hb : m[k]? = some b) (h : l.take k = m.take k) : l.take (k + 1) = m.take (k + 1) ↔ a = b := by
  rw [List.take_succ, List.take_succ, ha, hb, h]
  simp

end Go.Proofs.YtbdlojnigflanacGreatDoor
end
