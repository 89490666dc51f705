/- What the program's own reader of a policy says: the walk. -/
import Derived.Test.YthpllmhnpbigiacGreatDoorNj19
set_option linter.all false
set_option maxRecDepth 100000
namespace Go.Proofs.YthpllmhnpbigiacGreatDoor
open Go.RowKit Go.Maps

theorem split_count (c : UInt8) (s : ByteArray) (ps : List ByteArray) (hps : ps.map (fun p : ByteArray => p.data.toList) = splitL c s.data.toList) : ps.length ≤ s.size + 1 ∧ ∀ p ∈ ps, p.size ≤ s.size := by
  refine ⟨?_, fun p hp => ?_⟩
  · have h1 : ps.length = (splitL c s.data.toList).length := by rw [← hps]; simp
    rw [h1, ← split_splitL]
    unfold Lib.split
    have : ∀ k (l : Bs), (Lib.splitK [c] 0 k l).length ≤ k + 1 := by
      intro k
      induction k with
      | zero => intro l; simp [Lib.splitK]
      | succ k ih => intro l; unfold Lib.splitK; split
                     · simp
                     · simp; exact ih _
    have h2 := this (Lib.count s.data.toList [c]) s.data.toList
    rw [Lib.count_one] at h2
    have h3 := List.count_le_length (a := c) (l := s.data.toList)
    rw [← Lib.size_eq] at h3
    rw [Lib.count_one]
    omega
  · have := splitL_len c s.data.toList p.data.toList (by rw [← hps]; exact List.mem_map.2 ⟨p, hp, rfl⟩)
    rw [← Lib.size_eq, ← Lib.size_eq] at this
    exact this

set_option maxHeartbeats 8000000 in
theorem readPolicy_any (s : ByteArray) (hs : s.size ≤ 4294967279) (w : World) (he : EnvT w) :
    Calls Tryz.prog 113 #[.string s] w fun e w' => ∃ pv, e = .returned (.tuple #[pv, .bool (polOf s.data.toList).isSome]) ∧ PolN w.heap.size w' pv ((polOf s.data.toList).getD ([], 0)) ∧ Below w.heap.size w w' := by
  have hb1 : ∀ X, Below w.heap.size w (w.alloc X) := fun X => (Below.refl _ _).alloc (Nat.le_refl _) _
  obtain ⟨ps0, hps, hsplit⟩ := split_any 59 s (by omega) (w.alloc (.cells #[.slice none 0 0, .int .i64 0] 24)) (he.later (hb1 _)).1
  obtain ⟨hcount, hpl⟩ := split_count 59 s ps0 hps
  have hne0 : ps0 ≠ [] := by intro e; subst e; exact splitL_ne 59 _ hps.symm
  obtain ⟨ps, pd, rfl⟩ : ∃ ps pd, ps0 = ps ++ [pd] := ⟨ps0.dropLast, ps0.getLast hne0, (List.dropLast_concat_getLast hne0).symm⟩
  have hP := polOf_parts (l := s.data.toList) (ps := ps.map (fun p : ByteArray => p.data.toList)) (d := pd.data.toList) (by rw [← hps]; simp)
  have HP : Hid (polOf s.data.toList = match allOf ruleOf (ps.map (fun p : ByteArray => p.data.toList)) with
      | none => none
      | some rs => if idxL vN pd.data.toList < 0 then none else some (rs, idxL vN pd.data.toList)) := hP
  have hlenp : (ps ++ [pd]).length = ps.length + 1 := by simp
  rw [hlenp] at hsplit hcount
  have HSp : Hid _ := hsplit
  have HPL : Hid (∀ (j : Nat) (p : ByteArray), ps[j]? = some p → p.size ≤ 4294967280) := fun j p hj => by have := hpl p (by simp [List.mem_of_getElem? hj]); omega
  have HV : Hid (∀ w', Calls Tryz.prog 137 #[.string pd] w' fun e w'' => e = .returned (.tuple #[.int .i64 (idxL vN pd.data.toList), .bool (decide (0 ≤ idxL vN pd.data.toList))]) ∧ Below w'.heap.size w' w'') := fun w' => readVerdict_any pd w'
  have hv0 := idxL_ge vN pd.data.toList
  have hv1 : idxL vN pd.data.toList < 5 := idxL_lt vN _
  generalize hvv : idxL vN pd.data.toList = vd at *
  obtain ⟨n, hn⟩ : ∃ n, n = ps.length := ⟨_, rfl⟩
  have hnH : Hid (ps.length = n) := hn.symm
  rw [← hn] at hcount HSp
  obtain ⟨mc, hmc⟩ : ∃ mc, mc = madeCells #[.slice none 0 0, .int .i64 0] (n * 2) := ⟨_, rfl⟩
  have hmcs : mc.size = n * 2 := by rw [hmc]; exact size_madeCells _ _
  have hmk0 := make_rules n (by omega)
  rw [← hmc] at hmk0
  have hmk : ∀ w, (Instr.makeSlice 22 (.int .i64 n) (.int .i64 n)).run Tryz.prog w = .ok (.slice (some ⟨w.heap.size, 0, none⟩) n n) (w.alloc (.cells mc 60)) := hmk0
  obtain ⟨G, hG⟩ : ∃ G, G = w.heap.size + 2 := ⟨_, rfl⟩
  obtain ⟨W1, hW1⟩ : ∃ W1, W1 = (w.alloc (.cells #[.slice none 0 0, .int .i64 0] 24)).alloc (.cells ((ps ++ [pd]).map Value.string).toArray 9) := ⟨_, rfl⟩
  have hbW1 : Below w.heap.size w W1 := by rw [hW1]; exact (hb1 _).alloc (by simp) _
  have hsW1 : W1.heap.size = w.heap.size + 2 := by rw [hW1]; simp
  have hRb1 : W1.heap[w.heap.size]? = some (.cells #[.slice none 0 0, .int .i64 0] 24 (0, 0)) := by
    rw [hW1, Below.heap_alloc _ _ _ (by simp)]
    exact (MapKept.heap_alloc w _).1
  have hNm1 : NamesAt (w.heap.size + 1) ((ps ++ [pd]).map Value.string).toArray W1 := by
    have := NamesAt.made (w.alloc (.cells #[.slice none 0 0, .int .i64 0] 24)) ((ps ++ [pd]).map Value.string).toArray 9
    rw [World.size_alloc] at this
    rw [hW1]
    exact this
  obtain ⟨W4, hW4⟩ : ∃ W4, W4 = (W1.alloc (.cells mc 60)).alloc (.cells #[.slice (some ⟨w.heap.size + 2, 0, none⟩) n n, .int .i64 0] 24) := ⟨_, rfl⟩
  have hb4 : Below G W1 W4 := by rw [hW4]; exact ((Below.refl _ _).alloc (by omega) _).alloc (by simp; omega) _
  have hs4 : W4.heap.size = G + 2 := by rw [hW4]; simp; omega
  have hrow4 : W4.heap[G]? = some (.cells mc 60 (0, 0)) := by
    rw [hG, ← hsW1, hW4, Below.heap_alloc _ _ _ (by simp)]
    exact (MapKept.heap_alloc W1 _).1
  have hbox4 : W4.heap[G + 1]? = some (.cells #[.slice (some ⟨G, 0, none⟩) n n, .int .i64 0] 24 (0, 0)) := by
    have := (MapKept.heap_alloc (W1.alloc (.cells mc 60)) (.cells #[.slice (some ⟨w.heap.size + 2, 0, none⟩) n n, .int .i64 0] 24)).1
    rw [World.size_alloc, hsW1] at this
    rw [hW4, hG]
    exact this
  have HR4 : Hid (∀ wr, Below G W4 wr → wr.heap[w.heap.size]? = some (.cells #[.slice none 0 0, .int .i64 0] 24 (0, 0)) ∧ (∀ (j : Nat) (p : ByteArray), ps[j]? = some p → wr.cell? ⟨w.heap.size + 1, j, none⟩ = some (.string p)) ∧ wr.cell? ⟨w.heap.size + 1, n, none⟩ = some (.string pd) ∧ Below w.heap.size w wr) := fun wr h => by
    have hh := hb4.trans h
    refine ⟨(hh.block _ (by omega)).trans hRb1, fun j p hj => ?_, ?_, hbW1.trans (hh.mono (by omega))⟩
    · refine (hh.cell (p := ⟨w.heap.size + 1, j, none⟩) (by show w.heap.size + 1 < _; omega)).trans (hNm1 j _ ?_)
      have hjl := (List.getElem?_eq_some_iff.1 hj).1
      rw [List.getElem?_toArray, List.map_append, List.getElem?_append_left (by simpa using hjl)]
      simp [hj]
    · refine (hh.cell (p := ⟨w.heap.size + 1, n, none⟩) (by show w.heap.size + 1 < _; omega)).trans (hNm1 n _ ?_)
      rw [hn]
      simp
  have hwn : IntKind.i64.wrap (n : Int) = (n : Int) := IntWalk.i64_in _ (by omega)
  have hml := maxLen_eq
  have hG2 : w.heap.size + 2 ≤ G := by omega
  clear hvv hP hps hpl hRb1 hNm1 hmk0 hmc hn hne0
  go_enter Tryz.func113, Tryz.ntmps113
  go_wp2_with fail
  go_at_call 95
  refine Calls.mono HSp.out ?_
  rintro e w1 ⟨rfl, hw1⟩
  simp only [World.size_alloc]
  rw [← hW1] at hw1
  subst hw1
  clear hW1 HSp
  go_wp2_with fail
  rw [← hW4, ← hG]
  clear hG hsplit
  clear hW4
  go_loopw [22] (fun iv wr => ∃ (i : Nat) (rs : List RuleT) (cur : Array Value), i ≤ n ∧ iv = .int .i64 i ∧ rs.length = i ∧ Hid (allOf ruleOf ((ps.map (fun p : ByteArray => p.data.toList)).take i) = some rs) ∧ Hid (RowR (G + 2) n wr rs cur) ∧ Hid (wr.heap[G]? = some (.cells cur 60 (0, 0))) ∧ Hid (wr.heap[G + 1]? = some (.cells #[.slice (some ⟨G, 0, none⟩) n n, .int .i64 0] 24 (0, 0))) ∧ Below G W4 wr ∧ G + 2 ≤ wr.heap.size) (fun iv _ => n - (intOf iv).toNat)
  case atStart => exact ⟨0, [], mc, by omega, rfl, rfl, rfl, ⟨hmcs, fun i c h => by simp at h⟩, hrow4, hbox4, Below.refl _ _, by omega⟩
  case round =>
    obtain ⟨i, rs, cur, hi, rfl, hcl, hall, hRC, hrow, hbox, hbr, hsr⟩ := hrel
    obtain ⟨wo, hwo⟩ : ∃ x, x = wr := ⟨_, rfl⟩
    subst hwo
    have i0 : (0 : Int) ≤ (i : Int) := by omega
    obtain ⟨hRb, hNm, hNd, hbw⟩ := HR4.out _ hbr
    by_cases hlt : i < n
    · have i1 : (i : Int) < (n : Int) := by omega
      obtain ⟨p, hp⟩ : ∃ p, ps[i]? = some p := ⟨ps[i]'(by rw [hnH.out]; exact hlt), by simp⟩
      have hc1 := hNm i p hp
      have hps := HPL.out i p hp
      have hpm : Hid ((ps.map (fun p : ByteArray => p.data.toList))[i]? = some p.data.toList) := by unfold Hid; simp [hp]
      obtain ⟨r, ok, hr1, hr2, hr3, hrw⟩ : ∃ (r : RuleT) (ok : Bool), (ruleOf p.data.toList).getD ([], 0) = r ∧ (ruleOf p.data.toList).isSome = ok ∧ (ruleOf p.data.toList = if ok = true then some r else none) ∧ wf r.2 := by
        cases h : ruleOf p.data.toList with
        | none => exact ⟨([], 0), false, rfl, rfl, rfl, by unfold wf; decide⟩
        | some r => exact ⟨r, true, rfl, rfl, rfl, ruleOf_wf h⟩
      have HC : Hid (∀ w', Below w.heap.size w w' → Calls Tryz.prog 136 #[.string p] w' fun e w'' => ∃ cv, e = .returned (.tuple #[.agg #[cv, .int .i64 r.2], .bool ok]) ∧ CondsNew w'.heap.size w'' cv r.1 ∧ Below w'.heap.size w' w'') := fun w' hb => by
        have := readRule_any p hps w' (he.later hb)
        rw [hr1, hr2] at this
        exact this
      have hcoH : Hid _ := hr3
      have hrwH : Hid _ := hrw
      clear hRb hNm hNd hr1 hr2 hr3 hrw hp
      have hcur := hRC.out.1
      obtain ⟨b0, b1, _, _⟩ := cell_of_two hbox.out
      have hn3 : i * 2 + 1 < cur.size := by omega
      obtain ⟨rc, rv⟩ := r
      go_wp2_with fail
      have hne := ButG.ne G wo
      have hDJ : Hid (∀ fs w', JRul G wo cur 60 (i * 2) rv ok rc fs w' → ∃ z : ButG G wo, w' = z.1) := fun fs w' h => ⟨⟨w', h.2.1⟩, rfl⟩
      have q0 : ∀ z : ButG G wo, z.1.cell? ⟨G + 1, 0, none⟩ = some (.slice (some ⟨G, 0, none⟩) n n) := fun z => z.cell b0 (by omega)
      have hia : ∀ w, (Instr.indexAt 22 (.slice (some ⟨G, 0, none⟩) n n) (.int .i64 i)).run Tryz.prog w = .ok (.pointer (some ⟨G, i * 2, none⟩)) w := fun w => index_rules i n G hlt w
      refine wp_region_free [_, _, _, _, _, _, _, _, _, _] _ rfl (fun k => k == 4 || k == 9) (JRul G wo cur 60 (i * 2) rv ok rc) (SRul rv ok) (sRul_some rv ok) (by kernel_rfl) (by kernel_rfl) ⟨(Below.refl _ _).drew, fun _ _ _ => rfl, fun _ => hrow.out, fun _ h => h.elim, fun h => h.elim fun _ h => h.elim⟩ ?_
      iterate 4 (refine wpG_read hDJ.out rfl rfl ?_; go_big_quiet_step (fail); refine wpQuiet_nil ?_)
      refine wpG_call 136 #[.string p] rfl rfl (fun w' => by kernel_rfl) (fun gs w' hJ hdep hno => ?_) (fun v4 hv4 => ?_)
      · have hww := (HR4.out w' (hbr.trans hJ.1)).2.2.2
        refine (HC.out w' hww).mono ?_
        rintro e w2' ⟨cv, rfl, hcn, hb2'⟩
        have hsz : wo.heap.size ≤ w'.heap.size := hJ.1.size
        obtain ⟨a, m, cap, rfl⟩ := hcn.shape
        refine ⟨_, rfl, ⟨a, m, cap, rfl⟩, hJ.1.trans (hb2'.mono (by omega)), fun k hk hne' => (hb2'.block k (by omega)).trans (hJ.2.1 k hk hne'), fun h => (hb2'.block G (by omega)).trans (hJ.2.2.1 fun v hv => h v (.inl hv)), fun v hv => ?_, fun h => ?_⟩
        · rcases hv with hv | ⟨_, rfl⟩
          · exact absurd hv (hno v)
          · exact ⟨a, m, cap, rfl, hcn.mono hsz⟩
        · obtain ⟨v, hv⟩ := h
          rcases hv with hv | ⟨e, _⟩
          · obtain ⟨a', m', cap', h4, _⟩ := hJ.2.2.2.2 ⟨v, hv⟩
            exact absurd h4 (hno _)
          · cases e
      simp only [Act.put, List.setIfInBounds_toArray, List.set_cons_succ, List.set_cons_zero]
      obtain ⟨a4, m4, cap4, rfl⟩ : ∃ a m cap, v4 = .tuple #[.agg #[.slice a m cap, .int .i64 rv], .bool ok] := hv4
      iterate 3 (refine wpG_read hDJ.out rfl rfl ?_; go_big_quiet_step (fail); refine wpQuiet_nil ?_)
      refine wpG_readV (.pointer (some ⟨G, i * 2, none⟩)) rfl rfl (fun w' => run_val (hia w')) ?_
      simp only [Act.put, List.setIfInBounds_toArray, List.set_cons_succ, List.set_cons_zero]
      refine wpG_store rfl rfl (fun gs w' hJ hdep hno => ?_) (fun v9 hv9 => ?_)
      · have hrow' := hJ.2.2.1 hno
        have h4 := hdep 4 _ (.inr ⟨rfl, rfl⟩) (waitsB_spec (by kernel_rfl))
        obtain ⟨⟨u0, k0⟩, f0⟩ := cells_of_row hrow' (i * 2) (by omega)
        obtain ⟨⟨u1, k1⟩, f1⟩ := cells_of_row hrow' (i * 2 + 1) (by omega)
        refine ⟨(w'.setCell ⟨G, i * 2, none⟩ (.slice a4 m4 cap4)).setCell ⟨G, i * 2 + 1, none⟩ (.int .i64 rv), ?_, trivial, ?_⟩
        · clear hJ hdep hno q0 hDJ hne hrow' h4
          go_simp
        · refine ⟨(hJ.1.setCell (p := ⟨G, i * 2, none⟩) (Nat.le_refl _) _).setCell (p := ⟨G, i * 2 + 1, none⟩) (Nat.le_refl _) _, fun k hk hne' => (heap_set2 _ _ _ hne').trans (hJ.2.1 k hk hne'), fun h => absurd (.inr ⟨rfl, rfl⟩) (h undef), fun v hv => ?_, fun _ => ⟨a4, m4, cap4, .inl h4, row_set2 hrow'⟩⟩
          rcases hv with hv | ⟨e, _⟩
          · obtain ⟨a, m, cap, h1, h2⟩ := hJ.2.2.2.1 v hv
            refine ⟨a, m, cap, h1, h2.keep (fun g hg hg2 => heap_set2 _ _ _ (by omega)) (by simp)⟩
          · cases e
      simp only [Act.put, List.setIfInBounds_toArray, List.set_cons_succ, List.set_cons_zero]
      refine wpG_nil ?_
      intro w4 hJ
      obtain ⟨a5, m5, cap5, h45, hrow5⟩ := hJ.2.2.2.2 ⟨v9, .inr ⟨rfl, rfl⟩⟩
      obtain ⟨a6, m6, cap6, e6, hcn6⟩ := hJ.2.2.2.1 _ h45
      simp at e6
      obtain ⟨rfl, rfl, rfl⟩ := e6
      have hrow4' : Hid _ := hrow5
      have hcnH : Hid (CondsNew (G + 2) w4 (.slice a5 m5 cap5) rc) := hcn6.mono hsr
      have hbr4 : Below G W4 w4 := hbr.trans hJ.1
      have hs4' : G + 2 ≤ w4.heap.size := Nat.le_trans hsr hJ.1.size
      have hbox4' : Hid (w4.heap[G + 1]? = some (.cells #[.slice (some ⟨G, 0, none⟩) n n, .int .i64 0] 24 (0, 0))) := (hJ.2.1 (G + 1) (by omega) (by omega)).trans hbox.out
      have hRCk : Hid (RowR (G + 2) n w4 rs cur) := hRC.out.keep (fun g hg hg2 => hJ.2.1 g hg2 (by omega)) hJ.1.size
      clear hJ hDJ q0 hne hia hrow5 hcn6 h45
      cases ok with
      | false =>
        have hN : Hid (polOf s.data.toList = none) := by
          unfold Hid
          rw [HP.out, allOf_none ruleOf _ i _ hpm.out (by have := hcoH.out; simpa using this)]
        obtain ⟨hRb, _, _, hbw4⟩ := HR4.out _ hbr4
        obtain ⟨t0, t1, t2, t3⟩ := cell_of_two hRb
        have hRb' : Hid _ := hRb
        clear hRb
        go_wp2_with fail
        have HRF := two_setCell1 (u := .int .i64 0) (two_setCell (u := .slice none 0 0) hRb'.out)
        obtain ⟨z0, z1, _, _⟩ := cell_of_two HRF
        refine bodyPost_ret (v := .tuple #[.agg #[.slice none 0 0, .int .i64 0], .bool false]) ?_ rfl ⟨_, by rw [hN.out]; rfl, by rw [hN.out]; exact PolN.zero _ _, (hbw4.setCell (p := ⟨w.heap.size, 0, none⟩) (Nat.le_refl _) _).setCell (p := ⟨w.heap.size, 1, none⟩) (Nat.le_refl _) _⟩
        rw [results_cell_tmp rfl]
        go_simp
      | true =>
        have hco : ruleOf p.data.toList = some (rc, rv) := by have := hcoH.out; simpa using this
        have hall' : Hid (allOf ruleOf ((ps.map (fun p : ByteArray => p.data.toList)).take (i + 1)) = some (rs ++ [(rc, rv)])) := allOf_take ruleOf _ i _ hpm.out rs hall.out _ hco
        have hRC' : Hid (RowR (G + 2) n w4 (rs ++ [(rc, rv)]) (set2 cur (i * 2) (.slice a5 m5 cap5) (.int .i64 rv))) := by
          unfold Hid
          rw [← hcl]
          exact hRCk.out.put (by omega) (rc, rv) _ hrwH.out hcnH.out
        go_wp2_with fail
        exact ⟨⟨i + 1, rs ++ [(rc, rv)], _, by omega, by go_num, by simp [hcl], hall', hRC', hrow4', hbox4', hbr4, hs4'⟩, by simp [intOf]; omega⟩
    · obtain rfl : i = n := by omega
      have hall2 : Hid (allOf ruleOf (ps.map (fun p : ByteArray => p.data.toList)) = some rs) := by
        have := hall.out
        rw [List.take_of_length_le (by simp [hnH.out])] at this
        exact this
      clear hRb hNm
      go_wp2_with fail
      go_at_call 137
      refine Calls.mono (HV.out _) ?_
      rintro e w5 ⟨rfl, hb5⟩
      have hbr5 : Below G W4 w5 := hbr.trans (hb5.mono (by omega))
      have hs5 : G + 2 ≤ w5.heap.size := Nat.le_trans hsr hb5.size
      have hbox5 : w5.heap[G + 1]? = some (.cells #[.slice (some ⟨G, 0, none⟩) i i, .int .i64 0] 24 (0, 0)) := (hb5.block (G + 1) (by omega)).trans hbox.out
      have hrow5 : w5.heap[G]? = some (.cells cur 60 (0, 0)) := (hb5.block G (by omega)).trans hrow.out
      have hRC5 : RowR (G + 2) i w5 rs cur := hRC.out.keep (fun g hg hg2 => hb5.block g hg2) hb5.size
      obtain ⟨hRb, _, _, hbw5⟩ := HR4.out _ hbr5
      obtain ⟨t0, t1, t2, t3⟩ := cell_of_two hRb
      obtain ⟨b0, b1, b2, b3⟩ := cell_of_two hbox5
      obtain ⟨w6, hw6⟩ : ∃ w6, w6 = w5.setCell ⟨G + 1, 1, none⟩ (.int .i64 vd) := ⟨_, rfl⟩
      have hbx6 : w6.heap[G + 1]? = some (.cells #[.slice (some ⟨G, 0, none⟩) i i, .int .i64 vd] 24 (0, 0)) := by rw [hw6]; exact two_setCell1 hbox5
      have hoth6 : ∀ k, k ≠ G + 1 → w6.heap[k]? = w5.heap[k]? := fun k hk => by rw [hw6]; exact Below.heap_setCell _ _ _ _ (by show k ≠ G + 1; exact hk)
      have hsz6 : w6.heap.size = w5.heap.size := by rw [hw6]; simp
      have hRb6 : w6.heap[w.heap.size]? = some (.cells #[.slice none 0 0, .int .i64 0] 24 (0, 0)) := (hoth6 _ (by omega)).trans hRb
      have hbw6 : Below w.heap.size w w6 := by rw [hw6]; exact hbw5.setCell (p := ⟨G + 1, 1, none⟩) (by show w.heap.size ≤ G + 1; omega) _
      obtain ⟨c0, c1, c2, c3⟩ := cell_of_two hRb6
      obtain ⟨d0, d1, _, _⟩ := cell_of_two hbx6
      have hRb6' : Hid _ := hRb6
      have HF6 : Hid (∀ u0 u1, PolN w.heap.size ((w6.setCell ⟨w.heap.size, 0, none⟩ u0).setCell ⟨w.heap.size, 1, none⟩ u1) (.agg #[.slice (some ⟨G, 0, none⟩) i i, .int .i64 vd]) (rs, vd)) := by
        intro u0 u1
        have hkk : ∀ k, k ≠ w.heap.size → k ≠ G + 1 → ((w6.setCell ⟨w.heap.size, 0, none⟩ u0).setCell ⟨w.heap.size, 1, none⟩ u1).heap[k]? = w5.heap[k]? := fun k h1 h2 => (heap_set2 0 u0 u1 h1).trans (hoth6 k h2)
        refine ⟨_, rfl, wf_small (by simp only []; omega), some ⟨G, 0, none⟩, i, by simp [hcl], by simp [hcl], by omega, fun j r hj => ?_⟩
        obtain ⟨cv, k0, k1, k2, k3⟩ := hRC5.2 j r hj
        have hGk := hkk G (by omega) (by omega)
        refine ⟨G, 0, rfl, by omega, by simp [hsz6]; omega, cv, ?_, ?_, k2, (k3.keep (w' := (w6.setCell ⟨w.heap.size, 0, none⟩ u0).setCell ⟨w.heap.size, 1, none⟩ u1) (fun g h1 h2 => hkk g (by omega) (by omega)) (by simp [hsz6])).mono (by omega)⟩
        · rw [cell_of_heap hGk, Nat.zero_add]; simp [World.cell?, hrow5, k0]
        · rw [cell_of_heap hGk, Nat.zero_add]; simp [World.cell?, hrow5, k1]
      have hne1 : ¬ (G + 1 = w.heap.size) := by omega
      have hne2 : ¬ (w.heap.size = G + 1) := by omega
      clear hRb hbox5 hrow5 hRC5 hbx6 hoth6 hRb6 hbw5
      by_cases hvn : vd < 0
      · have hdv : decide (0 ≤ vd) = false := decide_eq_false (by omega)
        have hN : Hid (polOf s.data.toList = none) := by unfold Hid; rw [HP.out, hall2.out]; simp [hvn]
        go_wp2_with fail
        rw [← hw6]
        have HRF := two_setCell1 (u := .int .i64 0) (two_setCell (u := .slice none 0 0) hRb6'.out)
        obtain ⟨z0, z1, _, _⟩ := cell_of_two HRF
        refine bodyPost_ret (v := .tuple #[.agg #[.slice none 0 0, .int .i64 0], .bool false]) ?_ rfl ⟨_, by rw [hN.out]; rfl, by rw [hN.out]; exact PolN.zero _ _, (hbw6.setCell (p := ⟨w.heap.size, 0, none⟩) (Nat.le_refl _) _).setCell (p := ⟨w.heap.size, 1, none⟩) (Nat.le_refl _) _⟩
        rw [results_cell_tmp rfl]
        go_simp
      · have hdv : decide (0 ≤ vd) = true := decide_eq_true (by omega)
        have hN : Hid (polOf s.data.toList = some (rs, vd)) := by unfold Hid; rw [HP.out, hall2.out]; simp [hvn]
        go_wp2_with fail
        rw [← hw6]
        have HRF := two_setCell1 (u := .int .i64 vd) (two_setCell (u := .slice (some ⟨G, 0, none⟩) i i) hRb6'.out)
        obtain ⟨z0, z1, _, _⟩ := cell_of_two HRF
        refine bodyPost_ret (v := .tuple #[.agg #[.slice (some ⟨G, 0, none⟩) i i, .int .i64 vd], .bool true]) ?_ rfl ⟨_, by rw [hN.out]; rfl, by rw [hN.out]; exact HF6.out _ _, (hbw6.setCell (p := ⟨w.heap.size, 0, none⟩) (Nat.le_refl _) _).setCell (p := ⟨w.heap.size, 1, none⟩) (Nat.le_refl _) _⟩
        rw [results_cell_tmp rfl]
        go_simp

end Go.Proofs.YthpllmhnpbigiacGreatDoor
