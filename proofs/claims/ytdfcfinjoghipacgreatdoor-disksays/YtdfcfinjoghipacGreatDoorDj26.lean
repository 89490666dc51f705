/- What the program's own printer of a rule writes: the walk. -/
import Derived.Test.YtdfcfinjoghipacGreatDoorDj25
import Derived.Test.YtdfcfinjoghipacGreatDoorDj03
set_option linter.all false
set_option maxRecDepth 100000
namespace Go.Proofs.YtdfcfinjoghipacGreatDoor
open Go.RowKit Go.Maps

theorem three_kept {b k : Nat} {w w' : World} {cs : Array Value} {T : TypeId} (h : BKept b w w') (hk : k ≠ b) (hT : T ≠ 5) (hh : w.heap[k]? = some (.cells cs T (0, 0))) : w'.heap[k]? = some (.cells cs T (0, 0)) :=
  h.2 k _ hk hh (fun cur fr e => by simp at e; exact hT e.2.1)
theorem index_op (o : Int) (h : 1 ≤ o ∧ o ≤ 4) (w : World) : (Instr.index 9 (.string ⟨#[61, 33, 60, 62]⟩) (.int .i64 (o - 1))).run Tryz.prog w = .ok (.int .u8 (opSign o).toNat) w := by
  have : o = 1 ∨ o = 2 ∨ o = 3 ∨ o = 4 := by omega
  rcases this with rfl | rfl | rfl | rfl
  · exact index_str opB 0 (by decide) w
  · exact index_str opB 1 (by decide) w
  · exact index_str opB 2 (by decide) w
  · exact index_str opB 3 (by decide) w

set_option maxHeartbeats 8000000 in
theorem printRule_any (Bc B b : Nat) (l : Bs) (cv : Value) (r : RuleT) (w : World) (HE0 : ∀ w', Below B w w' → EnvT w') (hc : CondsAt Bc w cv r.1) (hBc : Bc ≤ B) (hbld : IsBld B b (Lib.byteCells l) w) (hl : l.length ≤ 1000000000) (hB : B ≤ w.heap.size) (hok : ruleErr r = 0) :
    Calls Tryz.prog 100 #[.pointer (some ⟨b, 0, none⟩), .agg #[cv, .int .i64 r.2]] w fun e w' => e = .returned (.tuple #[]) ∧ IsBld B b (Lib.byteCells (l ++ ruleText r)) w' ∧ Below B w w' := by
  obtain ⟨cs, v⟩ := r
  obtain ⟨hcl, hv, hca⟩ := ruleErr_all hok
  simp only [] at hcl hv hca
  obtain ⟨a, cap, rfl, hlc, hcm, hcs⟩ := hc
  simp only [] at hlc hcs
  have HE : Hid (∀ w', Below B w w' → EnvT w') := HE0
  have hcs' : Hid (∀ (i : Nat) (c : CondT), cs[i]? = some c → ∃ b o, a = some ⟨b, o, none⟩ ∧ b < Bc ∧ CondAt w b (o + i * 3) c) := hcs
  have hcaH : Hid (∀ c ∈ cs, condErr c = 0) := hca
  have hT : Hid (ruleText (cs, v) = vName v ++ cs.flatMap condText ++ [59]) := rfl
  obtain ⟨vi, rfl⟩ : ∃ i : Nat, v = i := ⟨v.toNat, by omega⟩
  have hvi : vi < 5 := by omega
  have hvN : Hid (vName (vi : Int) = vN.getD vi []) := by unfold Hid vName; simp
  have hvl := vName_len (vi : Int)
  have HTL : Hid (∀ i : Nat, ((cs.take i).flatMap condText).length ≤ 700000) := by
    intro i
    have h1 := condsText_len (cs.take i) fun c hc => hca c (List.mem_of_mem_take hc)
    have h2 : (cs.take i).length ≤ 10 := by rw [List.length_take]; omega
    exact Nat.le_trans h1 (Nat.mul_le_mul_right 70000 h2)
  have hblt : b < w.heap.size := by
    rcases hbld with h | h
    · exact h.lt
    · exact h.lt
  have hBb : B ≤ b := by
    rcases hbld with h | h
    · exact h.1
    · exact h.1
  have hbldH : Hid _ := hbld
  clear hcs hca hok HE0 hbld
  show Calls Tryz.prog 100 #[.pointer (some ⟨b, 0, none⟩), .agg #[.slice a cs.length cap, .int .i64 vi]] w _
  generalize hn : cs.length = n at *
  have hnH : Hid (cs.length = n) := hn
  clear hn
  have hml := maxLen_eq
  obtain ⟨W0, hW0⟩ : ∃ W0, W0 = w.alloc (.cells #[.slice a n cap, .int .i64 vi] 79) := ⟨_, rfl⟩
  have hb0 : Below w.heap.size w W0 := by rw [hW0]; exact (Below.refl _ _).alloc (Nat.le_refl _) _
  have hs0 : W0.heap.size = w.heap.size + 1 := by rw [hW0]; simp
  have hR0 : W0.heap[w.heap.size]? = some (.cells #[.slice a n cap, .int .i64 vi] 79 (0, 0)) := by rw [hW0]; exact (MapKept.heap_alloc w _).1
  have r1 : W0.cell? ⟨w.heap.size, 1, none⟩ = some (.int .i64 vi) := (cell_of_two hR0).2.1
  go_enter Tryz.func100, Tryz.ntmps100
  go_wp2_with fail
  rw [← hW0]
  clear hW0
  have hO : ∀ cur fr, Obj.cells #[.slice a n cap, .int .i64 vi] 79 (0, 0) ≠ .cells cur 5 fr := fun cur fr e => by simp at e
  have hne : Nonempty (KeepO w.heap.size (.cells #[.slice a n cap, .int .i64 vi] 79 (0, 0))) := ⟨⟨W0, hR0⟩⟩
  have hDJ : Hid (∀ fs w', JWr B b vC 1 4 6 vi w.heap.size (.cells #[.slice a n cap, .int .i64 vi] 79 (0, 0)) l (vName vi) W0 fs w' → ∃ z : KeepO w.heap.size (.cells #[.slice a n cap, .int .i64 vi] 79 (0, 0)), w' = z.1) := fun fs w' h => ⟨⟨w', h.1⟩, rfl⟩
  have q1 : ∀ z : KeepO w.heap.size (.cells #[.slice a n cap, .int .i64 vi] 79 (0, 0)), z.1.cell? ⟨w.heap.size, 1, none⟩ = some (.int .i64 vi) := fun z => (cell_of_two z.2).2.1
  have hbldW0 : Hid (IsBld B b (Lib.byteCells l) W0) := IsBld.later hbldH.out hb0
  refine wp_region_all (fun k => k == 1 || k == 4 || k == 5 || k == 6) (JWr B b vC 1 4 6 vi w.heap.size (.cells #[.slice a n cap, .int .i64 vi] 79 (0, 0)) l (vName vi) W0) (SWr 1 4 5 vi (vName vi)) (sWr_some _ _ _ _ _) (by kernel_rfl) (by kernel_rfl) (JWr.start hR0) ?_
  refine wpG_read hDJ.out rfl rfl ?_; go_big_quiet_step (fail); refine wpQuiet_nil ?_
  refine wpG_call 102 #[] rfl rfl (fun w' => by kernel_rfl) (fun gs w' hJ hdep hno => ?_) (fun v1 hv1 => ?_)
  · refine (verdictNames_any w').mono ?_
    rintro e w2 ⟨rfl, rfl⟩
    exact ⟨_, rfl, ⟨_, rfl⟩, hJ.call (by decide) (by decide) (by omega) (by omega)⟩
  simp only [Act.put, List.setIfInBounds_toArray, List.set_cons_succ, List.set_cons_zero]
  obtain ⟨b1, rfl⟩ : ∃ b : Nat, v1 = .slice (some ⟨b, 0, none⟩) 5 5 := hv1
  iterate 2 (refine wpG_read hDJ.out rfl rfl ?_; go_big_quiet_step (fail); refine wpQuiet_nil ?_)
  refine wpG_write rfl rfl (fun gs w' hJ hdep hno => ⟨.pointer (some ⟨b1, vi, none⟩), w', run_val (index_name vi b1 hvi w'), ⟨b1, rfl⟩, hJ.idx (by decide) (by decide) (hdep 1 _ (.inr ⟨rfl, rfl⟩) (waitsB_spec (by kernel_rfl)))⟩) (fun v4 hv4 => ?_)
  simp only [Act.put, List.setIfInBounds_toArray, List.set_cons_succ, List.set_cons_zero]
  obtain ⟨b4, rfl⟩ : ∃ b : Nat, v4 = .pointer (some ⟨b, vi, none⟩) := hv4
  refine wpG_write rfl rfl (fun gs w' hJ hdep hno => ⟨.string (bsB (vName vi)), w', ?_, rfl, hJ.other (by decide) (by decide) (by decide)⟩) (fun v5 hv5 => ?_)
  · have hcell := hJ.name (hdep 4 _ (.inr ⟨rfl, rfl⟩) (waitsB_spec (by kernel_rfl))) (vC_at hvi)
    rw [← hvN.out] at hcell
    clear hJ hdep hno q1 hDJ hne hO
    go_simp
  simp only [Act.put, List.setIfInBounds_toArray, List.set_cons_succ, List.set_cons_zero]
  obtain rfl : v5 = .string (bsB (vName vi)) := hv5
  refine wpG_call 101 #[.pointer (some ⟨b, 0, none⟩), .string (bsB (vName vi))] rfl rfl (fun w' => by kernel_rfl) (fun gs w' hJ hdep hno => hJ.write (by decide) (by decide) hno hbldW0.out hO (by omega) (by omega) (by omega)) (fun v6 hv6 => ?_)
  simp only [Act.put, List.setIfInBounds_toArray, List.set_cons_succ, List.set_cons_zero]
  refine wpG_nil ?_
  intro w2 hJ2
  obtain ⟨hbd2, hbb2, hs02⟩ := hJ2.2.2.2.2 ⟨v6, .inr ⟨rfl, rfl⟩⟩
  have hR2 := hJ2.1
  have hbw2 : Below B w w2 := (hb0.mono hB).trans hbb2
  clear hJ2 q1 hDJ hne
  have hs2 : w.heap.size ≤ w2.heap.size := by omega
  obtain ⟨x0, x1, _, _⟩ := cell_of_two hR2
  have hbd2H : Hid _ := hbd2
  clear hbd2 hR2 r1 hR0
  go_wp2_with fail
  go_loopw [16] (fun iv wr => ∃ i : Nat, i ≤ n ∧ iv = .int .i64 i ∧ Hid (IsBld B b (Lib.byteCells (l ++ vName vi ++ (cs.take i).flatMap condText)) wr) ∧ Below B w wr ∧ w.heap.size ≤ wr.heap.size) (fun iv _ => n - (intOf iv).toNat)
  case atStart => exact ⟨0, by omega, rfl, by unfold Hid; show IsBld B b (Lib.byteCells (l ++ vName vi ++ [])) w2; rw [List.append_nil]; exact hbd2H.out, hbw2, by omega⟩
  case round =>
    obtain ⟨i, hi, rfl, hbdr, hbr, hsr⟩ := hrel
    obtain ⟨wo, hwo⟩ : ∃ x, x = wr := ⟨_, rfl⟩
    subst hwo
    have i0 : (0 : Int) ≤ (i : Int) := by omega
    have hlen1 := HTL.out i
    by_cases hlt : i < n
    · have i1 : (i : Int) < (n : Int) := by omega
      obtain ⟨c, hci⟩ : ∃ c, cs[i]? = some c := ⟨cs[i]'(by rw [hnH.out]; exact hlt), by simp⟩
      obtain ⟨bc, oc, rfl, hbc, hat⟩ := hcs'.out i c hci
      obtain ⟨hf, ho, hnn⟩ := condErr_num (hcaH.out c (List.mem_of_getElem? hci))
      have hTake : Hid ((cs.take (i + 1)).flatMap condText = (cs.take i).flatMap condText ++ condText c) := by
        unfold Hid
        rw [List.take_add_one, hci]
        simp
      obtain ⟨f, o, num⟩ := c
      obtain ⟨c0, c1, c2, _⟩ := hat.later hbr (by omega)
      simp only [] at c0 c1 c2 hf ho hnn
      obtain ⟨fi, rfl⟩ : ∃ k : Nat, f = k := ⟨f.toNat, by omega⟩
      have hfi : fi < 5 := by omega
      have hfN : Hid (fName (fi : Int) = fN.getD fi []) := by unfold Hid fName; simp
      have hfl := fName_len (fi : Int)
      have hwo1 : IntKind.i64.wrap (o - 1) = o - 1 := IntWalk.i64_in _ (by omega)
      have hixo := index_op o ho
      have hcT : Hid (condText ((fi : Int), o, num) = 32 :: (fName fi ++ (opSign o :: Lib.itoa num))) := rfl
      have hitl : (Lib.itoa num).length ≤ 65536 := by
        unfold Lib.itoa
        rw [if_neg (by omega)]
        have := decDigits_len num.toNat
        omega
      obtain ⟨W3, hW3⟩ : ∃ W3, W3 = wo.alloc (.cells #[.int .i64 fi, .int .i64 o, .int .i64 num] 83) := ⟨_, rfl⟩
      have hb3 : Below wo.heap.size wo W3 := by rw [hW3]; exact (Below.refl _ _).alloc (Nat.le_refl _) _
      have hs3 : W3.heap.size = wo.heap.size + 1 := by rw [hW3]; simp
      have hC3 : W3.heap[wo.heap.size]? = some (.cells #[.int .i64 fi, .int .i64 o, .int .i64 num] 83 (0, 0)) := by rw [hW3]; exact (MapKept.heap_alloc wo _).1
      have hbd3 : Hid (IsBld B b (Lib.byteCells (l ++ vName vi ++ (cs.take i).flatMap condText)) W3) := IsBld.later hbdr.out hb3
      have hbw3 : Below B w W3 := hbr.trans (hb3.mono (by omega))
      obtain ⟨L0, hL0⟩ : ∃ L0, L0 = l ++ vName vi ++ (cs.take i).flatMap condText := ⟨_, rfl⟩
      have hL0l : L0.length ≤ 1000000000 + 5 + 700000 := by rw [hL0]; simp only [List.length_append]; omega
      rw [← hL0] at hbd3
      have hL0H : Hid _ := hL0
      clear hL0 hlen1
      have hcb : wo.heap.size ≠ b := by omega
      go_wp2_with fail
      rw [← hW3]
      clear hW3
      go_at_call 137
      refine Calls.mono (bld_sign B b L0 32 W3 hbd3.out (by omega) (by omega)) ?_
      rintro e w4 ⟨rfl, hbd4, hbb4, hk4⟩
      have hC4 := three_kept hk4 hcb (by decide) hC3
      have hs4 := hk4.1
      have hbw4 := hbw3.trans hbb4
      have hbd4H : Hid _ := hbd4
      obtain ⟨⟨y0, y1, y2⟩, _⟩ := three_cells hC4
      clear hbd4 hC3
      go_wp2_with fail
      have hO : ∀ cur fr, Obj.cells #[.int .i64 fi, .int .i64 o, .int .i64 num] 83 (0, 0) ≠ .cells cur 5 fr := fun cur fr e => by simp at e
      have hne : Nonempty (KeepO wo.heap.size (.cells #[.int .i64 fi, .int .i64 o, .int .i64 num] 83 (0, 0))) := ⟨⟨w4, hC4⟩⟩
      have hDJ : Hid (∀ fs w', JWr B b fC 1 4 6 fi wo.heap.size (.cells #[.int .i64 fi, .int .i64 o, .int .i64 num] 83 (0, 0)) (L0 ++ [32]) (fName fi) w4 fs w' → ∃ z : KeepO wo.heap.size (.cells #[.int .i64 fi, .int .i64 o, .int .i64 num] 83 (0, 0)), w' = z.1) := fun fs w' h => ⟨⟨w', h.1⟩, rfl⟩
      have q1 : ∀ z : KeepO wo.heap.size (.cells #[.int .i64 fi, .int .i64 o, .int .i64 num] 83 (0, 0)), z.1.cell? ⟨wo.heap.size, 0, none⟩ = some (.int .i64 fi) := fun z => (three_cells z.2).1.1
      refine wp_region_all (fun k => k == 1 || k == 4 || k == 5 || k == 6) (JWr B b fC 1 4 6 fi wo.heap.size (.cells #[.int .i64 fi, .int .i64 o, .int .i64 num] 83 (0, 0)) (L0 ++ [32]) (fName fi) w4) (SWr 1 4 5 fi (fName fi)) (sWr_some _ _ _ _ _) (by kernel_rfl) (by kernel_rfl) (JWr.start hC4) ?_
      refine wpG_read hDJ.out rfl rfl ?_; go_big_quiet_step (fail); refine wpQuiet_nil ?_
      refine wpG_call 138 #[] rfl rfl (fun w' => by kernel_rfl) (fun gs w' hJ hdep hno => ?_) (fun v1 hv1 => ?_)
      · refine (fieldNames_any w').mono ?_
        rintro e w2 ⟨rfl, rfl⟩
        exact ⟨_, rfl, ⟨_, rfl⟩, hJ.call (by decide) (by decide) (by omega) (by omega)⟩
      simp only [Act.put, List.setIfInBounds_toArray, List.set_cons_succ, List.set_cons_zero]
      obtain ⟨b1, rfl⟩ : ∃ b : Nat, v1 = .slice (some ⟨b, 0, none⟩) 5 5 := hv1
      iterate 2 (refine wpG_read hDJ.out rfl rfl ?_; go_big_quiet_step (fail); refine wpQuiet_nil ?_)
      refine wpG_write rfl rfl (fun gs w' hJ hdep hno => ⟨.pointer (some ⟨b1, fi, none⟩), w', run_val (index_name fi b1 hfi w'), ⟨b1, rfl⟩, hJ.idx (by decide) (by decide) (hdep 1 _ (.inr ⟨rfl, rfl⟩) (waitsB_spec (by kernel_rfl)))⟩) (fun v4 hv4 => ?_)
      simp only [Act.put, List.setIfInBounds_toArray, List.set_cons_succ, List.set_cons_zero]
      obtain ⟨b4, rfl⟩ : ∃ b : Nat, v4 = .pointer (some ⟨b, fi, none⟩) := hv4
      refine wpG_write rfl rfl (fun gs w' hJ hdep hno => ⟨.string (bsB (fName fi)), w', ?_, rfl, hJ.other (by decide) (by decide) (by decide)⟩) (fun v5 hv5 => ?_)
      · have hcell := hJ.name (hdep 4 _ (.inr ⟨rfl, rfl⟩) (waitsB_spec (by kernel_rfl))) (fC_at hfi)
        rw [← hfN.out] at hcell
        clear hJ hdep hno q1 hDJ hne hO
        go_simp
      simp only [Act.put, List.setIfInBounds_toArray, List.set_cons_succ, List.set_cons_zero]
      obtain rfl : v5 = .string (bsB (fName fi)) := hv5
      refine wpG_call 101 #[.pointer (some ⟨b, 0, none⟩), .string (bsB (fName fi))] rfl rfl (fun w' => by kernel_rfl) (fun gs w' hJ hdep hno => hJ.write (by decide) (by decide) hno hbd4H.out hO hcb (by simp; omega) (by omega)) (fun v6 hv6 => ?_)
      simp only [Act.put, List.setIfInBounds_toArray, List.set_cons_succ, List.set_cons_zero]
      refine wpG_nil ?_
      intro w6 hJ6
      obtain ⟨hbd6, hbb6, hs46⟩ := hJ6.2.2.2.2 ⟨v6, .inr ⟨rfl, rfl⟩⟩
      have hC6 := hJ6.1
      clear hJ6 q1 hDJ hne hC4 y0 y1 y2
      have hs6 : wo.heap.size ≤ w6.heap.size := by omega
      have hbw6 := hbw4.trans hbb6
      have hbd6H : Hid _ := hbd6
      obtain ⟨⟨z0, z1, z2⟩, _⟩ := three_cells hC6
      clear hbd6
      go_wp2_with fail
      go_at_call 137
      refine Calls.mono (bld_sign B b (L0 ++ [32] ++ fName fi) (opSign o) w6 hbd6H.out (by simp; omega) (by omega)) ?_
      rintro e w7 ⟨rfl, hbd7, hbb7, hk7⟩
      have hC7 := three_kept hk7 hcb (by decide) hC6
      have hs7 := hk7.1
      have hbw7 := hbw6.trans hbb7
      have hbd7H : Hid _ := hbd7
      obtain ⟨⟨u0, u1, u2⟩, _⟩ := three_cells hC7
      clear hbd7 hC6 z0 z1 z2
      go_wp2_with fail
      go_at_call 57
      refine Calls.mono (Tryz.strconv_Itoa num (by omega) (by omega) w7 (HE.out _ hbw7).2.2.2) ?_
      rintro e w8 ⟨rfl, k8, os8, hw8⟩
      have hb8 : Below w7.heap.size w7 w8 := by rw [hw8]; exact Lib.below_grow _ _ (Nat.le_refl _) _ _
      have hs8 := hb8.size
      have hbd8 : Hid (IsBld B b (Lib.byteCells (L0 ++ [32] ++ fName fi ++ [opSign o])) w8) := IsBld.later hbd7H.out hb8
      have hbw8 : Below B w w8 := hbw7.trans (hb8.mono (by omega))
      clear hw8
      go_wp2_with fail
      go_at_call 101
      refine Calls.mono (bld_bytes B b (L0 ++ [32] ++ fName fi ++ [opSign o]) (Lib.itoa num) w8 hbd8.out (by simp; omega) (by omega)) ?_
      rintro e w9 ⟨⟨n9, rfl⟩, hbd9, hbb9, hk9⟩
      have hs9 := hk9.1
      have hbw9 := hbw8.trans hbb9
      have hbd9H : Hid (IsBld B b (Lib.byteCells (l ++ vName vi ++ (cs.take (i + 1)).flatMap condText)) w9) := by
        unfold Hid
        rw [hTake.out, hcT.out, ← List.append_assoc, ← hL0H.out]
        have e : L0 ++ (32 :: (fName ↑fi ++ (opSign o :: Lib.itoa num))) = L0 ++ [32] ++ fName ↑fi ++ [opSign o] ++ Lib.itoa num := by simp
        rw [e]
        exact hbd9
      clear hbd9
      go_wp2_with fail
      exact ⟨⟨i + 1, by omega, by go_num, hbd9H, hbw9, by omega⟩, by simp [intOf]; omega⟩
    · obtain rfl : i = n := by omega
      have hbdr2 : IsBld B b (Lib.byteCells (l ++ vName vi ++ cs.flatMap condText)) wo := by
        have := hbdr.out
        rw [List.take_of_length_le (by rw [hnH.out]; exact Nat.le_refl _)] at this
        exact this
      have hfl2 : (cs.flatMap condText).length ≤ 700000 := by
        have := hlen1
        rw [List.take_of_length_le (by rw [hnH.out]; exact Nat.le_refl _)] at this
        omega
      go_wp2_with fail
      go_at_call 137
      refine Calls.mono (bld_sign B b (l ++ vName vi ++ cs.flatMap condText) 59 wo hbdr2 (by simp only [List.length_append]; omega) (by omega)) ?_
      rintro e w4 ⟨rfl, hbd4, hbb4, hk4⟩
      have hfin : IsBld B b (Lib.byteCells (l ++ ruleText (cs, (vi : Int)))) w4 := by
        rw [hT.out]
        have e : l ++ (vName ↑vi ++ cs.flatMap condText ++ [59]) = l ++ vName ↑vi ++ cs.flatMap condText ++ [59] := by simp
        rw [e]
        exact hbd4
      have hfinH : Hid _ := hfin
      clear hfin hbd4 hbdr2
      go_wp2_with fail
      go_end0
      exact ⟨rfl, hfinH.out, hbr.trans hbb4⟩

end Go.Proofs.YtdfcfinjoghipacGreatDoor
