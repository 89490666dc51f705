/- What the program's own reader of a rule says: the walk. -/
import Derived.Test.YtdfcfinjoghipacGreatDoorDj14
import Derived.Test.YtdfcfinjoghipacGreatDoorDj03
set_option linter.all false
set_option maxRecDepth 100000
namespace Go.Proofs.YtdfcfinjoghipacGreatDoor
open Go.RowKit Go.Maps

theorem make_conds (n : Nat) (hn : n ≤ 4294967281) (w : World) : (Instr.makeSlice 77 (.int .i64 n) (.int .i64 n)).run Tryz.prog w = .ok (.slice (some ⟨w.heap.size, 0, none⟩) n n) (w.alloc (.cells (madeCells #[.int .i64 0, .int .i64 0, .int .i64 0] (n * 3)) 83)) := by
  obtain ⟨inf, hi1, hi2, hi3, hi4⟩ := infoCond
  have := run_make (P := Tryz.prog) w 77 83 inf _ Tryz.underlying77 hi1 hi2 .i64 .i64 n n (by omega) (Int.le_refl _) (by rw [hi4]; omega) (by omega)
  rw [hi3] at this
  simpa [Value.cells] using this

theorem ruleOf_cons {l h : Bs} {t : List Bs} (e : splitL 32 l = h :: t) : ruleOf l = if idxL vN h < 0 then none else match allOf condOf t with
    | none => none
    | some cs => some (cs, idxL vN h) := by
  unfold ruleOf
  rw [e]
  rfl

theorem index_row (i n G : Nat) (h : i < n) (w : World) : (Instr.indexAt 77 (.slice (some ⟨G, 0, none⟩) n n) (.int .i64 i)).run Tryz.prog w = .ok (.pointer (some ⟨G, i * 3, none⟩)) w := by
  have h1 : (i : Int) < (n : Int) := by omega
  have h2 : (0 : Int) ≤ (i : Int) := by omega
  go_simp

set_option maxHeartbeats 8000000 in
theorem readRule_any (s : ByteArray) (hs : s.size ≤ 4294967280) (w : World) (he : EnvT w) :
    Calls Tryz.prog 168 #[.string s] w fun e w' => ∃ cv, e = .returned (.tuple #[.agg #[cv, .int .i64 ((ruleOf s.data.toList).getD ([], 0)).2], .bool (ruleOf s.data.toList).isSome]) ∧ CondsNew w.heap.size w' cv ((ruleOf s.data.toList).getD ([], 0)).1 ∧ Below w.heap.size w w' := by
  have hb1 : ∀ X, Below w.heap.size w (w.alloc X) := fun X => (Below.refl _ _).alloc (Nat.le_refl _) _
  obtain ⟨ps, hps, hsplit⟩ := split_any 32 s hs (w.alloc (.cells #[.slice none 0 0, .int .i64 0] 79)) (he.later (hb1 _)).1
  have hpl : ∀ p ∈ ps, p.size ≤ 4294967280 := by
    intro p hp
    have := splitL_len 32 s.data.toList p.data.toList (by rw [← hps]; exact List.mem_map.2 ⟨p, hp, rfl⟩)
    rw [← Lib.size_eq, ← Lib.size_eq] at this
    omega
  have hcount : ps.length ≤ s.size + 1 := by
    have h1 : ps.length = (splitL 32 s.data.toList).length := by rw [← hps]; simp
    rw [h1, ← split_splitL]
    unfold Lib.split
    have : ∀ k (l : Bs), (Lib.splitK [32] 0 k l).length ≤ k + 1 := by
      intro k
      induction k with
      | zero => intro l; simp [Lib.splitK]
      | succ k ih => intro l; unfold Lib.splitK; split
                     · simp
                     · simp; exact ih _
    have h2 := this (Lib.count s.data.toList [32]) s.data.toList
    rw [Lib.count_one] at h2
    have h3 := List.count_le_length (a := (32 : UInt8)) (l := s.data.toList)
    rw [← Lib.size_eq] at h3
    rw [Lib.count_one]
    omega
  cases ps with
  | nil => exact absurd hps.symm (splitL_ne 32 _)
  | cons p0 pt =>
    have hR := ruleOf_cons (l := s.data.toList) (h := p0.data.toList) (t := pt.map (fun p : ByteArray => p.data.toList)) hps.symm
    have HR : Hid (ruleOf s.data.toList = if idxL vN p0.data.toList < 0 then none else match allOf condOf (pt.map (fun p : ByteArray => p.data.toList)) with
      | none => none
      | some cs => some (cs, idxL vN p0.data.toList)) := hR
    have hlenp : (p0 :: pt).length = pt.length + 1 := rfl
    rw [hlenp] at hsplit hcount
    have HSp : Hid _ := hsplit
    have HPL : Hid (∀ (j : Nat) (p : ByteArray), pt[j]? = some p → p.size ≤ 4294967280) := fun j p hj => hpl p (by simp [List.mem_of_getElem? hj])
    have HV : Hid (∀ w', Calls Tryz.prog 169 #[.string p0] w' fun e w'' => e = .returned (.tuple #[.int .i64 (idxL vN p0.data.toList), .bool (decide (0 ≤ idxL vN p0.data.toList))]) ∧ Below w'.heap.size w' w'') := fun w' => readVerdict_any p0 w'
    have hv0 := idxL_ge vN p0.data.toList
    have hv1 : idxL vN p0.data.toList < 5 := idxL_lt vN _
    obtain ⟨W1, hW1⟩ : ∃ W1, W1 = (w.alloc (.cells #[.slice none 0 0, .int .i64 0] 79)).alloc (.cells ((p0 :: pt).map Value.string).toArray 9) := ⟨_, rfl⟩
    have hbW1 : Below w.heap.size w W1 := by rw [hW1]; exact (hb1 _).alloc (by simp) _
    have hsW1 : W1.heap.size = w.heap.size + 2 := by rw [hW1]; simp
    have hRb : W1.heap[w.heap.size]? = some (.cells #[.slice none 0 0, .int .i64 0] 79 (0, 0)) := by
      rw [hW1, Below.heap_alloc _ _ _ (by simp)]
      exact (MapKept.heap_alloc w _).1
    have hNm : NamesAt (w.heap.size + 1) ((p0 :: pt).map Value.string).toArray W1 := by
      have := NamesAt.made (w.alloc (.cells #[.slice none 0 0, .int .i64 0] 79)) ((p0 :: pt).map Value.string).toArray 9
      rw [World.size_alloc] at this
      rw [hW1]
      exact this
    have hc0 : W1.cell? ⟨w.heap.size + 1, 0, none⟩ = some (.string p0) := hNm 0 _ (by simp)
    have HW : Hid (∀ w', Below (w.heap.size + 2) W1 w' → w'.heap[w.heap.size]? = some (.cells #[.slice none 0 0, .int .i64 0] 79 (0, 0)) ∧ (∀ (j : Nat) (p : ByteArray), pt[j]? = some p → w'.cell? ⟨w.heap.size + 1, j + 1, none⟩ = some (.string p)) ∧ Below w.heap.size w w') := fun w' h =>
      ⟨(h.block _ (by omega)).trans hRb, fun j p hj => (h.cell (p := ⟨w.heap.size + 1, j + 1, none⟩) (by show w.heap.size + 1 < _; omega)).trans (hNm (j + 1) _ (by simp [hj])), hbW1.trans (h.mono (by omega))⟩
    generalize hvv : idxL vN p0.data.toList = vd at *
    clear hvv hR hps hpl hRb hNm
    have hmk0 := make_conds pt.length (by omega)
    generalize hnn : pt.length = n at *
    have hnH : Hid (pt.length = n) := hnn
    clear hnn
    have hwn : IntKind.i64.wrap (n : Int) = (n : Int) := IntWalk.i64_in _ (by omega)
    have hml := maxLen_eq
    obtain ⟨mc, hmc⟩ : ∃ mc, mc = madeCells #[.int .i64 0, .int .i64 0, .int .i64 0] (n * 3) := ⟨_, rfl⟩
    have hmcs : mc.size = n * 3 := by rw [hmc]; exact size_madeCells _ _
    rw [← hmc] at hmk0
    have hmk : ∀ w, (Instr.makeSlice 77 (.int .i64 n) (.int .i64 n)).run Tryz.prog w = .ok (.slice (some ⟨w.heap.size, 0, none⟩) n n) (w.alloc (.cells mc 83)) := hmk0
    clear hmk0 hmc
    go_enter Tryz.func168, Tryz.ntmps168
    go_wp2_with fail
    go_at_call 121
    refine Calls.mono HSp.out ?_
    rintro e w1 ⟨rfl, hw1⟩
    simp only [World.size_alloc]
    rw [← hW1] at hw1
    subst hw1
    clear hW1 HSp
    go_wp2_with fail
    go_at_call 169
    refine Calls.mono (HV.out _) ?_
    rintro e w2 ⟨rfl, hb2⟩
    rw [hsW1] at hb2
    have hs2 : w.heap.size + 2 ≤ w2.heap.size := by have := hb2.size; omega
    obtain ⟨hRb, hNm, hbw2⟩ := HW.out _ hb2
    by_cases hvn : vd < 0
    · have hN : Hid (ruleOf s.data.toList = none) := by unfold Hid; rw [HR.out, if_pos hvn]
      have hdv : decide (0 ≤ vd) = false := decide_eq_false (by omega)
      obtain ⟨t0, t1, t2, t3⟩ := cell_of_two hRb
      have hRb' : Hid _ := hRb
      clear hRb hNm hmk
      go_wp2_with fail
      have HRF := two_setCell1 (u := .int .i64 0) (two_setCell (u := .slice none 0 0) hRb'.out)
      obtain ⟨z0, z1, _, _⟩ := cell_of_two HRF
      refine bodyPost_ret (v := .tuple #[.agg #[.slice none 0 0, .int .i64 0], .bool false]) ?_ rfl ⟨.slice none 0 0, by rw [hN.out]; rfl, by rw [hN.out]; exact CondsNew.nil _ _, (hbw2.setCell (p := ⟨w.heap.size, 0, none⟩) (Nat.le_refl _) _).setCell (p := ⟨w.heap.size, 1, none⟩) (Nat.le_refl _) _⟩
      rw [results_cell_tmp rfl]
      go_simp
    · have hdv : decide (0 ≤ vd) = true := decide_eq_true (by omega)
      have hwfv : Hid (wf vd) := wf_small (by omega)
      have HR2 : Hid (ruleOf s.data.toList = match allOf condOf (pt.map (fun p : ByteArray => p.data.toList)) with
        | none => none
        | some cs => some (cs, vd)) := by unfold Hid; rw [HR.out, if_neg hvn]
      clear HR hRb hNm hvn
      -- the world ahead of the loop
      obtain ⟨G, hG⟩ : ∃ G, G = w2.heap.size := ⟨_, rfl⟩
      obtain ⟨W4, hW4⟩ : ∃ W4, W4 = (w2.alloc (.cells mc 83)).alloc (.cells #[.slice (some ⟨w2.heap.size, 0, none⟩) n n, .int .i64 vd] 79) := ⟨_, rfl⟩
      have hb4 : Below G w2 W4 := by rw [hG, hW4]; exact ((Below.refl _ _).alloc (Nat.le_refl _) _).alloc (by simp) _
      have hs4 : W4.heap.size = G + 2 := by rw [hG, hW4]; simp
      have hG2 : w.heap.size + 2 ≤ G := by omega
      have hrow4 : W4.heap[G]? = some (.cells mc 83 (0, 0)) := by
        rw [hG, hW4, Below.heap_alloc _ _ _ (by simp)]
        exact (MapKept.heap_alloc w2 _).1
      have hbox4 : W4.heap[G + 1]? = some (.cells #[.slice (some ⟨G, 0, none⟩) n n, .int .i64 vd] 79 (0, 0)) := by
        have := (MapKept.heap_alloc (w2.alloc (.cells mc 83)) (.cells #[.slice (some ⟨w2.heap.size, 0, none⟩) n n, .int .i64 vd] 79)).1
        rw [World.size_alloc] at this
        rw [hW4, hG]
        exact this
      -- the end: the rule is handed back
      have HEnd : Hid (∀ (wr : World) (cur : Array Value) (cs : List CondT), Below G W4 wr → wr.heap[G]? = some (.cells cur 83 (0, 0)) → RowC n cs cur → cs.length = n → (∀ c ∈ cs, wf c.1 ∧ wf c.2.1 ∧ wf c.2.2) → allOf condOf (pt.map (fun p : ByteArray => p.data.toList)) = some cs →
          ∃ cv, (.tuple #[.agg #[.slice (some ⟨G, 0, none⟩) n n, .int .i64 vd], .bool true] : Value) = (.tuple #[.agg #[cv, .int .i64 ((ruleOf s.data.toList).getD ([], 0)).2], .bool (ruleOf s.data.toList).isSome]) ∧ CondsNew w.heap.size ((wr.setCell ⟨w.heap.size, 0, none⟩ (.slice (some ⟨G, 0, none⟩) n n)).setCell ⟨w.heap.size, 1, none⟩ (.int .i64 vd)) cv ((ruleOf s.data.toList).getD ([], 0)).1 ∧ Below w.heap.size w ((wr.setCell ⟨w.heap.size, 0, none⟩ (.slice (some ⟨G, 0, none⟩) n n)).setCell ⟨w.heap.size, 1, none⟩ (.int .i64 vd))) := by
        intro wr cur cs hbr hrow hRC hcl hcw hall
        have hr : ruleOf s.data.toList = some (cs, vd) := by rw [HR2.out, hall]
        rw [hr]
        refine ⟨.slice (some ⟨G, 0, none⟩) n n, rfl, ⟨some ⟨G, 0, none⟩, n, by simp [hcl], by simp [hcl], by omega, fun i c hc => ⟨G, 0, rfl, by omega, ?_, ?_⟩⟩, ?_⟩
        · have := lt_of_block hrow
          simp
          exact this
        · have hi : i < n := by have := (List.getElem?_eq_some_iff.1 hc).1; simp at this; omega
          obtain ⟨k0, k1, k2⟩ := hRC.2 i c hc
          have hcell : ∀ o u, cur[o]? = some u → ((wr.setCell ⟨w.heap.size, 0, none⟩ (.slice (some ⟨G, 0, none⟩) n n)).setCell ⟨w.heap.size, 1, none⟩ (.int .i64 vd)).cell? ⟨G, o, none⟩ = some u := by
            intro o u hu
            rw [World.cell?_setCell_other _ _ _ _ (by intro e; cases e; omega), World.cell?_setCell_other _ _ _ _ (by intro e; cases e; omega)]
            simp [World.cell?, hrow, hu]
          rw [Nat.zero_add]
          exact ⟨hcell _ _ k0, hcell _ _ k1, hcell _ _ k2, hcw c (List.mem_of_getElem? hc)⟩
        · exact ((((HW.out w2 hb2).2.2.trans (hb4.mono (by omega))).trans (hbr.mono (by omega))).setCell (p := ⟨w.heap.size, 0, none⟩) (Nat.le_refl _) _).setCell (p := ⟨w.heap.size, 1, none⟩) (Nat.le_refl _) _
      have HR4 : Hid (∀ wr, Below G W4 wr → wr.heap[w.heap.size]? = some (.cells #[.slice none 0 0, .int .i64 0] 79 (0, 0)) ∧ (∀ (j : Nat) (p : ByteArray), pt[j]? = some p → wr.cell? ⟨w.heap.size + 1, j + 1, none⟩ = some (.string p)) ∧ Below w.heap.size w wr) := fun wr h => HW.out wr (hb2.trans ((hb4.trans h).mono (by omega)))
      by_cases hn0 : n = 0
      · subst hn0
        have hpt : pt = [] := List.length_eq_zero_iff.1 hnH.out
        have hmk2 : ∀ w, (Instr.makeSlice 77 (.int .i64 0) (.int .i64 0)).run Tryz.prog w = .ok (.slice (some ⟨w.heap.size, 0, none⟩) 0 0) (w.alloc (.cells mc 83)) := hmk
        go_wp2_with fail
        rw [← hW4, ← hG]
        clear hW4 hG
        go_loop [31] (fun i => i = .int .i64 0) (fun _ => 0)
        case atStart => rfl
        case round =>
          subst hrel
          obtain ⟨hRb, _, _⟩ := HR4.out _ (Below.refl _ _)
          obtain ⟨t0, t1, t2, t3⟩ := cell_of_two hRb
          obtain ⟨b0, b1, _, _⟩ := cell_of_two hbox4
          have hRb' : Hid _ := hRb
          have hE := HEnd.out W4 mc [] (Below.refl _ _) hrow4 ⟨hmcs, fun i c h => by simp at h⟩ rfl (fun c h => by cases h) (by rw [hpt]; rfl)
          have hE' : Hid _ := hE
          clear hRb hE hbox4 hrow4
          have hne1 : ¬ (G + 1 = w.heap.size) := by omega
          have hne2 : ¬ (w.heap.size = G + 1) := by omega
          go_wp2_with fail
          have HRF := two_setCell1 (u := .int .i64 vd) (two_setCell (u := .slice (some ⟨G, 0, none⟩) 0 0) hRb'.out)
          obtain ⟨z0, z1, _, _⟩ := cell_of_two HRF
          obtain ⟨cv, e1, e2, e3⟩ := hE'.out
          refine bodyPost_ret (v := .tuple #[.agg #[.slice (some ⟨G, 0, none⟩) 0 0, .int .i64 vd], .bool true]) ?_ rfl ⟨cv, by rw [e1], e2, e3⟩
          rw [results_cell_tmp rfl]
          go_simp
      · go_wp2_with fail
        rw [← hW4, ← hG]
        clear hW4 hG
        go_loopw [31] (fun iv wr => ∃ (i : Nat) (cs : List CondT) (cur : Array Value), i ≤ n ∧ iv = .int .i64 i ∧ cs.length = i ∧ Hid (allOf condOf ((pt.map (fun p : ByteArray => p.data.toList)).take i) = some cs) ∧ Hid (RowC n cs cur) ∧ Hid (∀ c ∈ cs, wf c.1 ∧ wf c.2.1 ∧ wf c.2.2) ∧ Hid (wr.heap[G]? = some (.cells cur 83 (0, 0))) ∧ Hid (wr.heap[G + 1]? = some (.cells #[.slice (some ⟨G, 0, none⟩) n n, .int .i64 vd] 79 (0, 0))) ∧ Below G W4 wr ∧ G + 2 ≤ wr.heap.size) (fun iv _ => n - (intOf iv).toNat)
        case atStart => exact ⟨0, [], mc, by omega, rfl, rfl, rfl, ⟨hmcs, fun i c h => by simp at h⟩, (show ∀ c ∈ ([] : List CondT), wf c.1 ∧ wf c.2.1 ∧ wf c.2.2 by intro c h; cases h), hrow4, hbox4, Below.refl _ _, by omega⟩
        case round =>
          obtain ⟨i, cs, cur, hi, rfl, hcl, hall, hRC, hcw, hrow, hbox, hbr, hsr⟩ := hrel
          obtain ⟨wo, hwo⟩ : ∃ x, x = wr := ⟨_, rfl⟩
          subst hwo
          have i0 : (0 : Int) ≤ (i : Int) := by omega
          obtain ⟨hRb, hNm, hbw⟩ := HR4.out _ hbr
          by_cases hlt : i < n
          · have i1 : (i : Int) < (n : Int) := by omega
            obtain ⟨p, hp⟩ : ∃ p, pt[i]? = some p := ⟨pt[i]'(by rw [hnH.out]; exact hlt), by simp⟩
            have hc1 : wo.cell? ⟨w.heap.size + 1, 1 + i, none⟩ = some (.string p) := by rw [Nat.add_comm 1 i]; exact hNm i p hp
            have hps := HPL.out i p hp
            have hpm : Hid ((pt.map (fun p : ByteArray => p.data.toList))[i]? = some p.data.toList) := by unfold Hid; simp [hp]
            obtain ⟨c, ok, hcv, hok, hco⟩ : ∃ (c : CondT) (ok : Bool), condVal (condOf p.data.toList) = .agg #[.int .i64 c.1, .int .i64 c.2.1, .int .i64 c.2.2] ∧ (condOf p.data.toList).isSome = ok ∧ condOf p.data.toList = if ok = true then some c else none := by
              cases h : condOf p.data.toList with
              | none => exact ⟨(0, 0, 0), false, rfl, rfl, rfl⟩
              | some c => exact ⟨c, true, rfl, rfl, rfl⟩
            have HC : Hid (∀ w', Below w.heap.size w w' → Calls Tryz.prog 198 #[.string p] w' fun e w'' => e = .returned (.tuple #[.agg #[.int .i64 c.1, .int .i64 c.2.1, .int .i64 c.2.2], .bool ok]) ∧ Below w'.heap.size w' w'') := fun w' hb => by
              have := readCond_any p hps w' (he.later hb)
              rw [hcv, hok] at this
              exact this
            have hcoH : Hid _ := hco
            clear hRb hNm hcv hok hco hp
            have hcur := hRC.out.1
            obtain ⟨b0, b1, _, _⟩ := cell_of_two hbox.out
            have hn3 : i * 3 + 2 < cur.size := by omega
            go_wp2_with fail
            have hne := ButG.ne G wo
            obtain ⟨cur', hcur'⟩ : ∃ cur', cur' = set3 cur (i * 3) (.int .i64 c.1) (.int .i64 c.2.1) (.int .i64 c.2.2) := ⟨_, rfl⟩
            have HC' : Hid (cur' = set3 cur (i * 3) (.int .i64 c.1) (.int .i64 c.2.1) (.int .i64 c.2.2)) := hcur'
            clear hcur'
            have hDJ : Hid (∀ fs w', JRow G wo cur cur' 83 fs w' → ∃ z : ButG G wo, w' = z.1) := fun fs w' h => ⟨⟨w', h.2.1⟩, rfl⟩
            have q0 : ∀ z : ButG G wo, z.1.cell? ⟨G + 1, 0, none⟩ = some (.slice (some ⟨G, 0, none⟩) n n) := fun z => z.cell b0 (by omega)
            have hia : ∀ w, (Instr.indexAt 77 (.slice (some ⟨G, 0, none⟩) n n) (.int .i64 i)).run Tryz.prog w = .ok (.pointer (some ⟨G, i * 3, none⟩)) w := fun w => index_row i n G hlt w
            refine wp_region_free [_, _, _, _, _, _, _, _, _, _] _ rfl (fun k => k == 4 || k == 9) (JRow G wo cur cur' 83) (SRow (.tuple #[.agg #[.int .i64 c.1, .int .i64 c.2.1, .int .i64 c.2.2], .bool ok])) (sRow_some _) (by kernel_rfl) (by kernel_rfl) ⟨(Below.refl _ _).drew, fun _ _ _ => rfl, fun _ => hrow.out, fun h => h.elim fun _ h => h.elim⟩ ?_
            iterate 4 (refine wpG_read hDJ.out rfl rfl ?_; go_big_quiet_step (fail); refine wpQuiet_nil ?_)
            refine wpG_call 198 #[.string p] rfl rfl (fun w' => by kernel_rfl) (fun gs w' hJ hdep hno => ?_) (fun v4 hv4 => ?_)
            · have hww := (HR4.out w' (hbr.trans hJ.1)).2.2
              refine (HC.out w' hww).mono ?_
              rintro e w2' ⟨rfl, hb2'⟩
              have hsz : wo.heap.size ≤ w'.heap.size := hJ.1.size
              exact ⟨_, rfl, rfl, hJ.1.trans (hb2'.mono (by omega)), fun k hk hne' => (hb2'.block k (by omega)).trans (hJ.2.1 k hk hne'), fun h => (hb2'.block G (by omega)).trans (hJ.2.2.1 fun v hv => h v (.inl hv)), fun h => (hb2'.block G (by omega)).trans (hJ.2.2.2 (by obtain ⟨v, hv⟩ := h; rcases hv with hv | ⟨e, _⟩; exact ⟨v, hv⟩; cases e))⟩
            simp only [Act.put, List.setIfInBounds_toArray, List.set_cons_succ, List.set_cons_zero]
            obtain rfl : v4 = .tuple #[.agg #[.int .i64 c.1, .int .i64 c.2.1, .int .i64 c.2.2], .bool ok] := hv4
            iterate 3 (refine wpG_read hDJ.out rfl rfl ?_; go_big_quiet_step (fail); refine wpQuiet_nil ?_)
            refine wpG_readV (.pointer (some ⟨G, i * 3, none⟩)) rfl rfl (fun w' => run_val (hia w')) ?_
            simp only [Act.put, List.setIfInBounds_toArray, List.set_cons_succ, List.set_cons_zero]
            refine wpG_store rfl rfl (fun gs w' hJ hdep hno => ?_) (fun v9 hv9 => ?_)
            · have hrow' := hJ.2.2.1 hno
              obtain ⟨⟨u0, k0⟩, f0⟩ := cells_of_row hrow' (i * 3) (by omega)
              obtain ⟨⟨u1, k1⟩, f1⟩ := cells_of_row hrow' (i * 3 + 1) (by omega)
              obtain ⟨⟨u2, k2⟩, f2⟩ := cells_of_row hrow' (i * 3 + 2) (by omega)
              refine ⟨((w'.setCell ⟨G, i * 3, none⟩ (.int .i64 c.1)).setCell ⟨G, i * 3 + 1, none⟩ (.int .i64 c.2.1)).setCell ⟨G, i * 3 + 2, none⟩ (.int .i64 c.2.2), ?_, trivial, ?_⟩
              · clear hJ hdep hno q0 hDJ hne hrow'
                go_simp
              · refine ⟨((hJ.1.setCell (p := ⟨G, i * 3, none⟩) (Nat.le_refl _) _).setCell (p := ⟨G, i * 3 + 1, none⟩) (Nat.le_refl _) _).setCell (p := ⟨G, i * 3 + 2, none⟩) (Nat.le_refl _) _, fun k hk hne' => (heap_set3 _ _ _ _ hne').trans (hJ.2.1 k hk hne'), fun h => absurd (.inr ⟨rfl, rfl⟩) (h undef), fun _ => ?_⟩
                rw [HC'.out]
                exact row_set3 hrow'
            simp only [Act.put, List.setIfInBounds_toArray, List.set_cons_succ, List.set_cons_zero]
            refine wpG_nil ?_
            intro w4 hJ
            have hrow4' : Hid (w4.heap[G]? = some (.cells cur' 83 (0, 0))) := hJ.2.2.2 ⟨v9, .inr ⟨rfl, rfl⟩⟩
            have hbr4 : Below G W4 w4 := hbr.trans hJ.1
            have hs4' : G + 2 ≤ w4.heap.size := Nat.le_trans hsr hJ.1.size
            have hbox4' : Hid (w4.heap[G + 1]? = some (.cells #[.slice (some ⟨G, 0, none⟩) n n, .int .i64 vd] 79 (0, 0))) := (hJ.2.1 (G + 1) (by omega) (by omega)).trans hbox.out
            clear hJ hDJ q0 hne hia
            cases ok with
            | false =>
              have hN : Hid (ruleOf s.data.toList = none) := by
                unfold Hid
                rw [HR2.out, allOf_none condOf _ i _ hpm.out (by have := hcoH.out; simpa using this)]
              obtain ⟨hRb, _, hbw4⟩ := HR4.out _ hbr4
              obtain ⟨t0, t1, t2, t3⟩ := cell_of_two hRb
              have hRb' : Hid _ := hRb
              clear hRb
              go_wp2_with fail
              have HRF := two_setCell1 (u := .int .i64 0) (two_setCell (u := .slice none 0 0) hRb'.out)
              obtain ⟨z0, z1, _, _⟩ := cell_of_two HRF
              refine bodyPost_ret (v := .tuple #[.agg #[.slice none 0 0, .int .i64 0], .bool false]) ?_ rfl ⟨.slice none 0 0, by rw [hN.out]; rfl, by rw [hN.out]; exact CondsNew.nil _ _, (hbw4.setCell (p := ⟨w.heap.size, 0, none⟩) (Nat.le_refl _) _).setCell (p := ⟨w.heap.size, 1, none⟩) (Nat.le_refl _) _⟩
              rw [results_cell_tmp rfl]
              go_simp
            | true =>
              have hco : condOf p.data.toList = some c := by have := hcoH.out; simpa using this
              have hall' : Hid (allOf condOf ((pt.map (fun p : ByteArray => p.data.toList)).take (i + 1)) = some (cs ++ [c])) := allOf_take condOf _ i _ hpm.out cs hall.out c hco
              have hRC' : Hid (RowC n (cs ++ [c]) cur') := by
                unfold Hid
                rw [HC'.out, ← hcl]
                exact hRC.out.put (by omega) c
              have hcw' : Hid (∀ d ∈ cs ++ [c], wf d.1 ∧ wf d.2.1 ∧ wf d.2.2) := by
                intro d hd
                rcases List.mem_append.1 hd with h | h
                · exact hcw.out d h
                · simp at h
                  subst h
                  exact condOf_wf hco
              go_wp2_with fail
              exact ⟨⟨i + 1, cs ++ [c], cur', by omega, by go_num, by simp [hcl], hall', hRC', hcw', hrow4', hbox4', hbr4, hs4'⟩, by simp [intOf]; omega⟩
          · obtain rfl : i = n := by omega
            have hall2 : allOf condOf (pt.map (fun p : ByteArray => p.data.toList)) = some cs := by
              have := hall.out
              rw [List.take_of_length_le (by simp [hnH.out])] at this
              exact this
            have hE := HEnd.out wo cur cs hbr hrow.out hRC.out hcl hcw.out hall2
            have hE' : Hid _ := hE
            obtain ⟨t0, t1, t2, t3⟩ := cell_of_two hRb
            obtain ⟨b0, b1, _, _⟩ := cell_of_two hbox.out
            have hRb' : Hid _ := hRb
            clear hRb hE hNm
            have hne1 : ¬ (G + 1 = w.heap.size) := by omega
            have hne2 : ¬ (w.heap.size = G + 1) := by omega
            go_wp2_with fail
            have HRF := two_setCell1 (u := .int .i64 vd) (two_setCell (u := .slice (some ⟨G, 0, none⟩) i i) hRb'.out)
            obtain ⟨z0, z1, _, _⟩ := cell_of_two HRF
            obtain ⟨cv, e1, e2, e3⟩ := hE'.out
            refine bodyPost_ret (v := .tuple #[.agg #[.slice (some ⟨G, 0, none⟩) i i, .int .i64 vd], .bool true]) ?_ rfl ⟨cv, by rw [e1], e2, e3⟩
            rw [results_cell_tmp rfl]
            go_simp

end Go.Proofs.YtdfcfinjoghipacGreatDoor
