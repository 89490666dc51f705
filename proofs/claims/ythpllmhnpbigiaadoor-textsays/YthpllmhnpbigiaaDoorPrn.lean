/- What the program's own Print says of any policy. -/
import Derived.Test.YthpllmhnpbigiaaDoorPrt2
set_option linter.all false
set_option maxRecDepth 100000
namespace Go.Proofs.YthpllmhnpbigiaaDoor
open Go.RowKit Go.Maps

def printR (p : PolT) : Bs × Int := if polErr p = 0 then (polText p, 0) else ([], polErr p)

set_option maxHeartbeats 8000000 in
theorem print_any (B0 : Nat) (pv : Value) (p : PolT) (w : World) (he : EnvT w) (hp : PolAt B0 w pv p) (hB0 : B0 ≤ w.heap.size) :
    Calls Tryd.prog 21 #[pv] w fun e w' => e = .returned (.tuple #[.string (bsB (printR p).1), .int .i64 (printR p).2]) ∧ Below w.heap.size w w' := by
  have hb1 : ∀ X, Below w.heap.size w (w.alloc X) := fun X => (Below.refl _ _).alloc (Nat.le_refl _) _
  have HC : Hid (∀ w', Below w.heap.size w w' → Calls Tryd.prog 12 #[pv] w' fun e w'' => e = .returned (.int .i64 (polErr p)) ∧ Below w'.heap.size w' w'') := fun w' h => check_pol B0 pv p w' (hp.later h hB0) (Nat.le_trans hB0 h.size)
  obtain ⟨rs, d⟩ := p
  obtain ⟨rv, rfl, hdw, a, cap, rfl, hlc, hcm, hrs⟩ := hp
  simp only [] at hlc hrs
  have hrs' : Hid (∀ (i : Nat) (r : RuleT), rs[i]? = some r → ∃ b o, a = some ⟨b, o, none⟩ ∧ b < B0 ∧ RuleAt B0 w b (o + i * 2) r) := hrs
  have hRn : Hid (∀ e : Int, polErr (rs, d) = e → e ≠ 0 → printR (rs, d) = ([], e)) := by
    intro e h1 h2
    unfold printR
    rw [h1, if_neg h2]
  have hRo : Hid (polErr (rs, d) = 0 → printR (rs, d) = (polText (rs, d), 0)) := by
    intro h
    unfold printR
    rw [if_pos h]
  have hOk : Hid (polErr (rs, d) = 0 → rs.length ≤ 120 ∧ (0 ≤ d ∧ d ≤ 4) ∧ ∀ r ∈ rs, ruleErr r = 0) := fun h => polErr_all h
  clear hrs hdw
  show Calls Tryd.prog 21 #[.agg #[.slice a rs.length cap, .int .i64 d]] w _
  have HC' : Hid (∀ w', Below w.heap.size w w' → Calls Tryd.prog 12 #[.agg #[.slice a rs.length cap, .int .i64 d]] w' fun e w'' => e = .returned (.int .i64 (polErr (rs, d))) ∧ Below w'.heap.size w' w'') := HC.out
  clear HC
  generalize hn : rs.length = n at *
  have hnH : Hid (rs.length = n) := hn
  clear hn
  generalize hpe : polErr (rs, d) = pe at *
  clear hpe
  have hml := maxLen_eq
  by_cases h0 : pe = 0
  · subst h0
    obtain ⟨hn120, hd, hra⟩ := hOk.out rfl
    have hraH : Hid _ := hra
    have hRo' : Hid (printR (rs, d) = (polText (rs, d), 0)) := hRo.out rfl
    have hPT : Hid (polText (rs, d) = rs.flatMap ruleText ++ vName d) := rfl
    have HTL : Hid (∀ i : Nat, ((rs.take i).flatMap ruleText).length ≤ 96000000) := by
      intro i
      have h1 := rulesText_len (rs.take i) fun c hc => hra c (List.mem_of_mem_take hc)
      have h2 : (rs.take i).length ≤ 120 := by rw [List.length_take, hnH.out]; omega
      exact Nat.le_trans h1 (Nat.mul_le_mul_right 800000 h2)
    obtain ⟨di, rfl⟩ : ∃ i : Nat, d = i := ⟨d.toNat, by omega⟩
    have hdi : di < 5 := by omega
    have hdN : Hid (vName (di : Int) = vN.getD di []) := by unfold Hid vName; simp
    have hdl := vName_len (di : Int)
    have hdne : Hid (vName (di : Int) ≠ []) := by
      unfold Hid
      rw [hdN.out]
      have : di = 0 ∨ di = 1 ∨ di = 2 ∨ di = 3 ∨ di = 4 := by omega
      rcases this with rfl | rfl | rfl | rfl | rfl <;> decide
    clear hra hRo hRn hOk
    go_enter Tryd.func21, Tryd.ntmps21
    go_wp2_with fail
    go_at_call 12
    refine Calls.mono (HC'.out _ (hb1 _)) ?_
    rintro e w2 ⟨rfl, hb2⟩
    have hP2 : w2.heap[w.heap.size]? = some (.cells #[.slice a n cap, .int .i64 di] 24 (0, 0)) := (hb2.block _ (by simp)).trans (MapKept.heap_alloc w _).1
    have hbw2 : Below w.heap.size w w2 := Below.thenOf (hb1 _) hb2 (by simp)
    have hs2 : w.heap.size + 1 ≤ w2.heap.size := by have := hb2.size; simpa using this
    clear hb2
    obtain ⟨W3, hW3⟩ : ∃ W3, W3 = w2.alloc (.cells #[.pointer none, .slice none 0 0] 84) := ⟨_, rfl⟩
    have hb3 : Below w2.heap.size w2 W3 := by rw [hW3]; exact (Below.refl _ _).alloc (Nat.le_refl _) _
    have hs3 : W3.heap.size = w2.heap.size + 1 := by rw [hW3]; simp
    have hbd3 : IsBld w2.heap.size w2.heap.size (Lib.byteCells []) W3 := .inl ⟨Nat.le_refl _, .slice none 0 0, by rw [hW3]; exact (MapKept.heap_alloc w2 _).1, ⟨rfl, .inl ⟨rfl, rfl⟩⟩, by simp [Value.ownBlock]⟩
    have hP3 : W3.heap[w.heap.size]? = some (.cells #[.slice a n cap, .int .i64 di] 24 (0, 0)) := (hb3.block _ (by omega)).trans hP2
    obtain ⟨b, hbe⟩ : ∃ b, b = w2.heap.size := ⟨_, rfl⟩
    rw [← hbe] at hbd3 hb3 hs3
    have hbge : w.heap.size + 1 ≤ b := by omega
    have hbw3 : Below w.heap.size w W3 := hbw2.trans (hb3.mono (by omega))
    obtain ⟨p0, p1, _, _⟩ := cell_of_two hP3
    have p0' : ∀ X, X = .cells #[.pointer none, .slice none 0 0] 84 → (w2.alloc X).cell? ⟨w.heap.size, 0, none⟩ = some (.slice a n cap) := fun X hX => by rw [hX, ← hW3]; exact p0
    have p0'' := p0' _ rfl
    clear p0'
    go_wp2_with fail
    rw [← hW3, ← hbe]
    clear hW3 hbe p0''
    have hbd3H : Hid _ := hbd3
    clear hbd3
    go_loopw [16] (fun iv wr => ∃ i : Nat, i ≤ n ∧ iv = .int .i64 i ∧ Hid (IsBld b b (Lib.byteCells ((rs.take i).flatMap ruleText)) wr) ∧ Below b W3 wr ∧ b + 1 ≤ wr.heap.size) (fun iv _ => n - (intOf iv).toNat)
    case atStart => exact ⟨0, by omega, rfl, hbd3H, Below.refl _ _, by omega⟩
    case round =>
      obtain ⟨i, hi, rfl, hbdr, hbr, hsr⟩ := hrel
      obtain ⟨wo, hwo⟩ : ∃ x, x = wr := ⟨_, rfl⟩
      subst hwo
      have i0 : (0 : Int) ≤ (i : Int) := by omega
      have hlen1 := HTL.out i
      have hbw : Below w.heap.size w wo := hbw3.trans (hbr.mono (by omega))
      by_cases hlt : i < n
      · have i1 : (i : Int) < (n : Int) := by omega
        obtain ⟨r, hri⟩ : ∃ r, rs[i]? = some r := ⟨rs[i]'(by rw [hnH.out]; exact hlt), by simp⟩
        obtain ⟨br, or, rfl, hbr0, hat⟩ := hrs'.out i r hri
        obtain ⟨cv, c0, c1, w0, hcon⟩ := hat.later hbw hB0 hbr0
        have hTake : Hid ((rs.take (i + 1)).flatMap ruleText = (rs.take i).flatMap ruleText ++ ruleText r) := by
          unfold Hid
          rw [List.take_add_one, hri]
          simp
        have hrok := hraH.out r (List.mem_of_getElem? hri)
        obtain ⟨a2, m2, cap2, rfl⟩ : ∃ a2 m2 cap2, cv = .slice a2 m2 cap2 := by
          obtain ⟨a2, cap2, e2, _⟩ := hcon
          exact ⟨a2, _, cap2, e2⟩
        have HPR : Hid (∀ w', Below wo.heap.size wo w' → Calls Tryd.prog 49 #[.pointer (some ⟨b, 0, none⟩), .agg #[.slice a2 m2 cap2, .int .i64 r.2]] w' fun e w'' => e = .returned (.tuple #[]) ∧ IsBld b b (Lib.byteCells ((rs.take i).flatMap ruleText ++ ruleText r)) w'' ∧ Below b w' w'') := fun w' h =>
          printRule_any B0 b b _ _ r w' (fun w'' h2 => he.later (hbw.trans ((h.mono (by omega)).trans (h2.mono (by omega))))) (hcon.later h (by omega)) (by omega) (IsBld.later hbdr.out h) (by omega) (by have := h.size; omega) hrok
        clear hat hcon w0
        have hbA : ∀ X, Below wo.heap.size wo (wo.alloc X) := fun X => (Below.refl _ _).alloc (Nat.le_refl _) _
        go_wp2_with fail
        go_at_call 49
        refine Calls.mono (HPR.out _ (hbA _)) ?_
        rintro e w4 ⟨rfl, hbd4, hb4⟩
        have hbd4H : Hid (IsBld b b (Lib.byteCells ((rs.take (i + 1)).flatMap ruleText)) w4) := by
          unfold Hid
          rw [hTake.out]
          exact hbd4
        have hbr4 : Below b W3 w4 := hbr.trans (((hbA _).mono (by omega)).trans hb4)
        have hs4 : b + 1 ≤ w4.heap.size := by have := hb4.size; simp at this; omega
        clear hbd4 hbA
        go_wp2_with fail
        exact ⟨⟨i + 1, by omega, by go_num, hbd4H, hbr4, hs4⟩, by simp [intOf]; omega⟩
      · obtain rfl : i = n := by omega
        have hT : Hid ((rs.take i).flatMap ruleText = rs.flatMap ruleText) := by
          unfold Hid
          rw [List.take_of_length_le (by rw [hnH.out]; exact Nat.le_refl _)]
        obtain ⟨L0, hL0⟩ : ∃ L0, L0 = (rs.take i).flatMap ruleText := ⟨_, rfl⟩
        rw [← hL0] at hbdr hlen1
        have hL0H : Hid _ := hL0
        clear hL0
        have hPo : wo.heap[w.heap.size]? = some (.cells #[.slice a i cap, .int .i64 di] 24 (0, 0)) := (hbr.block _ (by omega)).trans hP3
        have hO : ∀ cur fr, Obj.cells #[.slice a i cap, .int .i64 di] 24 (0, 0) ≠ .cells cur 5 fr := fun cur fr e => by simp at e
        go_wp2_with fail
        have hne : Nonempty (KeepO w.heap.size (.cells #[.slice a i cap, .int .i64 di] 24 (0, 0))) := ⟨⟨wo, hPo⟩⟩
        have hDJ : Hid (∀ fs w', JWr b b vC 0 3 5 di w.heap.size (.cells #[.slice a i cap, .int .i64 di] 24 (0, 0)) L0 (vName di) wo fs w' → ∃ z : KeepO w.heap.size (.cells #[.slice a i cap, .int .i64 di] 24 (0, 0)), w' = z.1) := fun fs w' h => ⟨⟨w', h.1⟩, rfl⟩
        have q1 : ∀ z : KeepO w.heap.size (.cells #[.slice a i cap, .int .i64 di] 24 (0, 0)), z.1.cell? ⟨w.heap.size, 1, none⟩ = some (.int .i64 di) := fun z => (cell_of_two z.2).2.1
        refine wp_region_all (fun k => k == 0 || k == 3 || k == 4 || k == 5) (JWr b b vC 0 3 5 di w.heap.size (.cells #[.slice a i cap, .int .i64 di] 24 (0, 0)) L0 (vName di) wo) (SWr 0 3 4 di (vName di)) (sWr_some _ _ _ _ _) (by kernel_rfl) (by kernel_rfl) (JWr.start hPo) ?_
        refine wpG_call 51 #[] rfl rfl (fun w' => by kernel_rfl) (fun gs w' hJ hdep hno => ?_) (fun v1 hv1 => ?_)
        · refine (verdictNames_any w').mono ?_
          rintro e w2 ⟨rfl, rfl⟩
          exact ⟨_, rfl, ⟨_, rfl⟩, hJ.call (by decide) (by decide) (by omega) (by omega)⟩
        simp only [Act.put, List.setIfInBounds_toArray, List.set_cons_succ, List.set_cons_zero]
        obtain ⟨b1, rfl⟩ : ∃ b : Nat, v1 = .slice (some ⟨b, 0, none⟩) 5 5 := hv1
        iterate 2 (refine wpG_read hDJ.out rfl rfl ?_; go_big_quiet_step (fail); refine wpQuiet_nil ?_)
        refine wpG_write rfl rfl (fun gs w' hJ hdep hno => ⟨.pointer (some ⟨b1, di, none⟩), w', run_val (index_name di b1 hdi w'), ⟨b1, rfl⟩, hJ.idx (by decide) (by decide) (hdep 0 _ (.inr ⟨rfl, rfl⟩) (waitsB_spec (by kernel_rfl)))⟩) (fun v4 hv4 => ?_)
        simp only [Act.put, List.setIfInBounds_toArray, List.set_cons_succ, List.set_cons_zero]
        obtain ⟨b4, rfl⟩ : ∃ b : Nat, v4 = .pointer (some ⟨b, di, none⟩) := hv4
        refine wpG_write rfl rfl (fun gs w' hJ hdep hno => ⟨.string (bsB (vName di)), w', ?_, rfl, hJ.other (by decide) (by decide) (by decide)⟩) (fun v5 hv5 => ?_)
        · have hcell := hJ.name (hdep 3 _ (.inr ⟨rfl, rfl⟩) (waitsB_spec (by kernel_rfl))) (vC_at hdi)
          rw [← hdN.out] at hcell
          clear hJ hdep hno q1 hDJ hne hO
          go_simp
        simp only [Act.put, List.setIfInBounds_toArray, List.set_cons_succ, List.set_cons_zero]
        obtain rfl : v5 = .string (bsB (vName di)) := hv5
        refine wpG_call 50 #[.pointer (some ⟨b, 0, none⟩), .string (bsB (vName di))] rfl rfl (fun w' => by kernel_rfl) (fun gs w' hJ hdep hno => hJ.write (by decide) (by decide) hno hbdr.out hO (by omega) (by omega) (by omega)) (fun v6 hv6 => ?_)
        simp only [Act.put, List.setIfInBounds_toArray, List.set_cons_succ, List.set_cons_zero]
        refine wpG_nil ?_
        intro w6 hJ6
        obtain ⟨hbd6, hbb6, hs46⟩ := hJ6.2.2.2.2 ⟨v6, .inr ⟨rfl, rfl⟩⟩
        have hbd6H : Hid _ := hbd6
        have hbw6 : Below w.heap.size w w6 := hbw.trans (hbb6.mono (by omega))
        clear hJ6 q1 hDJ hne hbd6
        go_wp2_with fail
        go_at_call 52
        refine Calls.mono (Tryd.Builder_String b b (L0 ++ vName di) w6 hbd6H.out (fun e => hdne.out (List.append_eq_nil_iff.1 e).2)) ?_
        rintro e w7 ⟨rfl, hb7⟩
        have hbw7 : Below w.heap.size w w7 := hbw6.trans (hb7.mono (by omega))
        have hfin : Hid (L0 ++ vName di = polText (rs, (di : Int))) := by unfold Hid; rw [hPT.out, hL0H.out, hT.out]
        go_wp2_with fail
        go_ret2
        exact ⟨by rw [hRo'.out, ← hfin.out]; rfl, hbw7⟩
  · have hR' : Hid (printR (rs, d) = ([], pe)) := hRn.out pe rfl h0
    have hq : (pe != 0) = true := by simpa using h0
    clear hRn hRo hOk h0
    go_enter Tryd.func21, Tryd.ntmps21
    go_wp2_with fail
    go_at_call 12
    refine Calls.mono (HC'.out _ (hb1 _)) ?_
    rintro e w2 ⟨rfl, hb2⟩
    have hbw2 : Below w.heap.size w w2 := Below.thenOf (hb1 _) hb2 (by simp)
    go_wp2_with fail
    go_ret2
    exact ⟨by rw [hR'.out]; rfl, hbw2⟩

end Go.Proofs.YthpllmhnpbigiaaDoor
