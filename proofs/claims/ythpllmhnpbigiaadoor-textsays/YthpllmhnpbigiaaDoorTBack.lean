/- TextBack: true, whatever the policies and the text. -/
import Derived.Test.YthpllmhnpbigiaaDoorWrd
set_option linter.all false
set_option maxRecDepth 100000
namespace Go.Proofs.YthpllmhnpbigiaaDoor
open Go.RowKit Go.Maps

theorem bsB_self (s : ByteArray) : bsB s.data.toList = s := by cases s; simp [bsB]
theorem bsB_eq (l m : Bs) : ((bsB l).toList == (bsB m).toList) = decide (l = m) := by
  rw [Lib.toList_data, Lib.toList_data]
  simp [bsB]
  exact Bool.eq_iff_iff.2 (by simp)
/-- What is read again: the policy itself. -/
theorem parse_back {p : PolT} (h : polErr p = 0) (hl : (polText p).length ≤ 60000) : parseR (polText p) = (p, 0) := by
  unfold parseR
  rw [if_neg (by omega), pol_read h]
  simp only []
  rw [if_pos h]
/-- What was read is printed as it was. -/
theorem print_back {s : Bs} (h : (parseR s).2 = 0) : printR (parseR s).1 = (s, 0) := by
  unfold parseR at h ⊢
  by_cases h0 : 60000 < s.length
  · rw [if_pos h0] at h; cases h
  · rw [if_neg h0] at h ⊢
    cases hp : polOf s with
    | none => rw [hp] at h; cases h
    | some p =>
      rw [hp] at h
      simp only [] at h ⊢
      by_cases h1 : polErr p = 0
      · rw [if_pos h1]
        unfold printR
        simp only []
        rw [if_pos h1, pol_back hp]
      · rw [if_neg h1] at h
        exact absurd h h1
theorem text_inj {p q : PolT} (hp : polErr p = 0) (hq : polErr q = 0) : (decide (polText p = polText q)) = decide (p = q) := by
  refine Bool.eq_iff_iff.2 ?_
  simp only [decide_eq_true_eq]
  constructor
  · intro h
    have h1 := pol_read hp
    rw [h, pol_read hq] at h1
    exact (Option.some.inj h1).symm
  · intro h; rw [h]

set_option maxHeartbeats 8000000 in
theorem textBack_any (B : Nat) (pv qv : Value) (p q : PolT) (s : ByteArray) (w : World) (he : EnvT w) (hp : PolAt B w pv p) (hq : PolAt B w qv q) (hB : B ≤ w.heap.size) :
    Calls Tryd.prog 6 #[pv, qv, .string s] w fun e w' => e = .returned (.bool true) ∧ Below w.heap.size w w' := by
  have hb2 : ∀ X Y, Below w.heap.size w ((w.alloc X).alloc Y) := fun X Y => ((Below.refl _ _).alloc (Nat.le_refl _) _).alloc (by simp) _
  have HPp : Hid (∀ w', Below w.heap.size w w' → PolAt B w' pv p) := fun w' h => hp.later h hB
  have HPq : Hid (∀ w', Below w.heap.size w w' → PolAt B w' qv q) := fun w' h => hq.later h hB
  have HTp : Hid (∀ w', Below w.heap.size w w' → Calls Tryd.prog 21 #[pv] w' fun e w'' => e = .returned (.tuple #[.string (bsB (printR p).1), .int .i64 (printR p).2]) ∧ Below w'.heap.size w' w'') := fun w' h => print_any B pv p w' (he.later h) (HPp.out w' h) (Nat.le_trans hB h.size)
  have HTq : Hid (∀ w', Below w.heap.size w w' → Calls Tryd.prog 21 #[qv] w' fun e w'' => e = .returned (.tuple #[.string (bsB (printR q).1), .int .i64 (printR q).2]) ∧ Below w'.heap.size w' w'') := fun w' h => print_any B qv q w' (he.later h) (HPq.out w' h) (Nat.le_trans hB h.size)
  have HE : Hid (∀ w', Below w.heap.size w w' → EnvT w') := fun w' h => he.later h
  have HS : Hid (∀ w', Below w.heap.size w w' → Calls Tryd.prog 13 #[pv, qv] w' fun e w'' => e = .returned (.bool (decide (p = q))) ∧ Below w'.heap.size w' w'') := fun w' h => same_any B pv qv p q w' (HPp.out w' h) (HPq.out w' h) (Nat.le_trans hB h.size)
  obtain ⟨ap, capp, rfl⟩ := hp.shape
  obtain ⟨aq, capq, rfl⟩ := hq.shape
  clear hp hq he
  generalize hnp : p.1.length = np at *
  generalize hnq : q.1.length = nq at *
  generalize hdp : p.2 = dp at *
  generalize hdq : q.2 = dq at *
  have hml := maxLen_eq
  obtain ⟨W0, hW0⟩ : ∃ W0, W0 = (w.alloc (.cells #[.slice ap np capp, .int .i64 dp] 24)).alloc (.cells #[.slice aq nq capq, .int .i64 dq] 24) := ⟨_, rfl⟩
  have hbW0 : Below w.heap.size w W0 := by rw [hW0]; exact hb2 _ _
  have hs0 : W0.heap.size = w.heap.size + 2 := by rw [hW0]; simp
  have hA0 : W0.heap[w.heap.size]? = some (.cells #[.slice ap np capp, .int .i64 dp] 24 (0, 0)) := by
    rw [hW0, Below.heap_alloc _ _ _ (by simp)]
    exact (MapKept.heap_alloc w _).1
  have hB0 : W0.heap[w.heap.size + 1]? = some (.cells #[.slice aq nq capq, .int .i64 dq] 24 (0, 0)) := by
    have := (MapKept.heap_alloc (w.alloc (.cells #[.slice ap np capp, .int .i64 dp] 24)) (.cells #[.slice aq nq capq, .int .i64 dq] 24)).1
    rw [World.size_alloc] at this
    rw [hW0]
    exact this
  have HW : Hid (∀ w', Below (w.heap.size + 2) W0 w' → ((w'.cell? ⟨w.heap.size, 0, none⟩ = some (.slice ap np capp) ∧ w'.cell? ⟨w.heap.size, 1, none⟩ = some (.int .i64 dp)) ∧ w'.cell? ⟨w.heap.size + 1, 0, none⟩ = some (.slice aq nq capq) ∧ w'.cell? ⟨w.heap.size + 1, 1, none⟩ = some (.int .i64 dq)) ∧ Below w.heap.size w w') := fun w' h => by
    obtain ⟨c0, c1, _, _⟩ := cell_of_two ((h.block w.heap.size (by omega)).trans hA0)
    obtain ⟨d0, d1, _, _⟩ := cell_of_two ((h.block (w.heap.size + 1) (by omega)).trans hB0)
    exact ⟨⟨⟨c0, c1⟩, d0, d1⟩, hbW0.trans (h.mono (by omega))⟩
  obtain ⟨⟨⟨c0, c1⟩, d0, d1⟩, _⟩ := HW.out W0 (Below.refl _ _)
  have HPs : Hid (∀ w', Below w.heap.size w w' → Calls Tryd.prog 22 #[.string s] w' fun e w'' => ∃ xv, e = .returned (.tuple #[xv, .int .i64 (parseR s.data.toList).2]) ∧ PolN w'.heap.size w'' xv (parseR s.data.toList).1 ∧ Below w'.heap.size w' w'') := fun w' h => parse_any s w' (HE.out w' h)
  have HPb : Hid ((parseR s.data.toList).2 = 0 → printR (parseR s.data.toList).1 = (s.data.toList, 0)) := print_back
  generalize hpr : parseR s.data.toList = pr at *
  obtain ⟨px, ge⟩ := pr
  simp only [] at HPs HPb
  clear hpr hA0 hB0
  have HPp' : Hid (∀ w', Below w.heap.size w w' → PolAt B w' (.agg #[.slice ap np capp, .int .i64 dp]) p) := HPp.out
  clear HPp
  go_enter Tryd.func6, Tryd.ntmps6
  go_wp2_with fail
  rw [← hW0]
  clear hW0
  go_at_call 21
  refine Calls.mono (HTp.out _ hbW0) ?_
  rintro e w1 ⟨rfl, hb1⟩
  rw [hs0] at hb1
  have hs1 : w.heap.size + 2 ≤ w1.heap.size := by have := hb1.size; omega
  clear c0 c1 d0 d1
  obtain ⟨⟨⟨c0, c1⟩, d0, d1⟩, hbw1⟩ := HW.out _ hb1
  go_wp2_with fail
  go_at_call 21
  refine Calls.mono (HTq.out _ hbw1) ?_
  rintro e w2 ⟨rfl, hb2'⟩
  have hb2w := Below.thenOf hb1 hb2' hs1
  have hs2 := Nat.le_trans hs1 hb2'.size
  clear c0 c1 d0 d1 hb2'
  obtain ⟨⟨⟨c0, c1⟩, d0, d1⟩, hbw2⟩ := HW.out _ hb2w
  have hPe : Hid (printR p = if polErr p = 0 then (polText p, 0) else ([], polErr p)) := rfl
  have hQe : Hid (printR q = if polErr q = 0 then (polText q, 0) else ([], polErr q)) := rfl
  clear HTp HTq
  go_wp2_with fail
  go_at_call 24
  refine Calls.mono (worded_true _ (HE.out _ hbw2)) ?_
  rintro e w3 ⟨rfl, hb3'⟩
  have hb3 := Below.thenOf hb2w hb3' hs2
  have hs3 := Nat.le_trans hs2 hb3'.size
  clear c0 c1 d0 d1 hb3'
  obtain ⟨⟨⟨c0, c1⟩, d0, d1⟩, hbw3⟩ := HW.out _ hb3
  by_cases hpe : polErr p = 0
  · have hP1 : printR p = (polText p, 0) := by rw [hPe.out, if_pos hpe]
    rw [hP1]
    by_cases hqe : polErr q = 0
    · have hQ1 : printR q = (polText q, 0) := by rw [hQe.out, if_pos hqe]
      rw [hQ1]
      have hinj := text_inj hpe hqe
      have heq := bsB_eq (polText p) (polText q)
      rw [hinj] at heq
      have hqt : ((polText p).toArray.toList == (polText q).toArray.toList) = decide (p = q) := by rw [← heq, Lib.toList_data, Lib.toList_data]; rfl
      have hsimp : (polText p == polText q) = decide (p = q) := by simpa using hqt
      clear hinj hqt
      generalize hdd : decide (p = q) = dd at *
      go_wp2_with fail
      go_at_call 13
      refine Calls.mono (HS.out _ hbw3) ?_
      rintro e w4 ⟨rfl, hb4'⟩
      have hb4 := Below.thenOf hb3 hb4' hs3
      have hs4 := Nat.le_trans hs3 hb4'.size
      clear c0 c1 d0 d1 hb4'
      obtain ⟨⟨⟨c0, c1⟩, d0, d1⟩, hbw4⟩ := HW.out _ hb4
      have hddn : (dd != dd) = false := by simp
      clear hdd
      have hlenB : (bsB (polText p)).size = (polText p).length := bsB_size _
      by_cases hlen : (polText p).length ≤ 60000
      · have hli : ((polText p).length : Int) ≤ 60000 := by omega
        have HPt : Hid (∀ w', Below w.heap.size w w' → Calls Tryd.prog 22 #[.string (bsB (polText p))] w' fun e w'' => ∃ xv, e = .returned (.tuple #[xv, .int .i64 0]) ∧ PolN w'.heap.size w'' xv p ∧ Below w'.heap.size w' w'') := fun w' h => by
          have := parse_any (bsB (polText p)) w' (HE.out w' h)
          rw [show (bsB (polText p)).data.toList = polText p by simp [bsB], parse_back hpe hlen] at this
          exact this
        go_wp2_with fail
        go_at_call 22
        refine Calls.mono (HPt.out _ hbw4) ?_
        rintro e w5 ⟨yv, rfl, hyn, hb5'⟩
        obtain ⟨ay, ny, capy, rfl⟩ := hyn.shape
        have hb5 := Below.thenOf hb4 hb5' hs4
        have hs5 := Nat.le_trans hs4 hb5'.size
        have hynH : Hid (PolN w4.heap.size w5 (.agg #[.slice ay ny capy, .int .i64 p.2]) p) := hyn
        clear hyn
        obtain ⟨W6, hW6⟩ : ∃ W6, W6 = w5.alloc (.cells #[.slice ay ny capy, .int .i64 p.2] 24) := ⟨_, rfl⟩
        have hb56 : Below w5.heap.size w5 W6 := by rw [hW6]; exact (Below.refl _ _).alloc (Nat.le_refl _) _
        have hbx6 : W6.heap[w5.heap.size]? = some (.cells #[.slice ay ny capy, .int .i64 p.2] 24 (0, 0)) := by rw [hW6]; exact (MapKept.heap_alloc w5 _).1
        have hb6 := Below.thenOf hb5 hb56 hs5
        have hs6 := Nat.le_trans hs5 hb56.size
        obtain ⟨y0, y1, _, _⟩ := cell_of_two hbx6
        obtain ⟨⟨⟨e0, e1⟩, _, _⟩, hbw6⟩ := HW.out _ hb6
        have HSx : Hid (Calls Tryd.prog 13 #[.agg #[.slice ay ny capy, .int .i64 p.2], .agg #[.slice ap np capp, .int .i64 dp]] W6 fun e w'' => e = .returned (.bool true) ∧ Below W6.heap.size W6 w'') := by
          have h1 := (hynH.out.keep (fun g h1 h2 => hb56.block g h2) hb56.size).at
          have := same_any W6.heap.size _ _ p p W6 h1 (polAt_mono (HPp'.out _ hbw6) (by have := hbw6.size; omega)) (Nat.le_refl _)
          unfold Hid
          simpa using this
        have hneq1 : ¬ (w5.heap.size = w.heap.size) := by omega
        rw [hdp] at hW6 HSx y1 ⊢
        clear c0 c1 d0 d1 hbx6
        have hW6' : w5.alloc (.cells #[.slice ay ny capy, .int .i64 dp] 24) = W6 := hW6.symm
        have HW6' : Hid _ := hW6'
        rw [← hW6'] at y0 y1 e0 e1
        clear hW6 hW6'
        go_wp2_with fail
        rw [HW6'.out]
        go_at_call 13
        refine Calls.mono HSx.out ?_
        rintro e w6' ⟨rfl, hb66⟩
        have hbw6' : Below w.heap.size w w6' := Below.thenOf hbw6 hb66 hbw6.size
        go_wp2_with fail
        go_at_call 22
        refine Calls.mono (HPs.out _ hbw6') ?_
        rintro e w7 ⟨xv, rfl, hxn, hb7'⟩
        obtain ⟨ax, nx, capx, rfl⟩ := hxn.shape
        have hbw7 : Below w.heap.size w w7 := Below.thenOf hbw6' hb7' hbw6'.size
        have hxnH : Hid (PolN w6'.heap.size w7 (.agg #[.slice ax nx capx, .int .i64 px.2]) px) := hxn
        clear hxn
        have hbA : ∀ X, Below w7.heap.size w7 (w7.alloc X) := fun X => (Below.refl _ _).alloc (Nat.le_refl _) _
        by_cases hg : ge = 0
        · subst hg
          have hxp := HPb.out rfl
          have HTx : Hid (∀ w', Below w7.heap.size w7 w' → Calls Tryd.prog 21 #[.agg #[.slice ax nx capx, .int .i64 px.2]] w' fun e w'' => e = .returned (.tuple #[.string s, .int .i64 0]) ∧ Below w'.heap.size w' w'') := fun w' h => by
            have := print_any w'.heap.size _ px w' (HE.out _ (Below.thenOf hbw7 h hbw7.size)) (hxnH.out.keep (fun g h1 h2 => h.block g h2) h.size).at (Nat.le_refl _)
            rw [hxp] at this
            simp only [bsB_self] at this
            exact this
          generalize px.2 = xd at *
          clear hxp
          go_wp2_with fail
          go_at_call 21
          refine Calls.mono (HTx.out _ (hbA _)) ?_
          rintro e w8 ⟨rfl, hb8'⟩
          have hbw8 : Below w.heap.size w w8 := Below.thenOf (Below.thenOf hbw7 (hbA _) hbw7.size) hb8' (Nat.le_trans hbw7.size (hbA _).size)
          go_wp2_with fail
          go_ret
          exact ⟨rfl, hbw8⟩
        · have hgq : (ge != 0) = true := by simpa using hg
          clear hg
          go_wp2_with fail
          go_ret
          exact ⟨rfl, Below.thenOf hbw7 (hbA _) hbw7.size⟩
      · have hli : ¬ ((polText p).length : Int) ≤ 60000 := by omega
        go_wp2_with fail
        go_at_call 22
        refine Calls.mono (HPs.out _ hbw4) ?_
        rintro e w7 ⟨xv, rfl, hxn, hb7'⟩
        obtain ⟨ax, nx, capx, rfl⟩ := hxn.shape
        have hbw7 : Below w.heap.size w w7 := Below.thenOf hbw4 hb7' hbw4.size
        have hxnH : Hid (PolN w4.heap.size w7 (.agg #[.slice ax nx capx, .int .i64 px.2]) px) := hxn
        clear hxn
        have hbA : ∀ X, Below w7.heap.size w7 (w7.alloc X) := fun X => (Below.refl _ _).alloc (Nat.le_refl _) _
        by_cases hg : ge = 0
        · subst hg
          have hxp := HPb.out rfl
          have HTx : Hid (∀ w', Below w7.heap.size w7 w' → Calls Tryd.prog 21 #[.agg #[.slice ax nx capx, .int .i64 px.2]] w' fun e w'' => e = .returned (.tuple #[.string s, .int .i64 0]) ∧ Below w'.heap.size w' w'') := fun w' h => by
            have := print_any w'.heap.size _ px w' (HE.out _ (Below.thenOf hbw7 h hbw7.size)) (hxnH.out.keep (fun g h1 h2 => h.block g h2) h.size).at (Nat.le_refl _)
            rw [hxp] at this
            simp only [bsB_self] at this
            exact this
          generalize px.2 = xd at *
          clear hxp
          go_wp2_with fail
          go_at_call 21
          refine Calls.mono (HTx.out _ (hbA _)) ?_
          rintro e w8 ⟨rfl, hb8'⟩
          have hbw8 : Below w.heap.size w w8 := Below.thenOf (Below.thenOf hbw7 (hbA _) hbw7.size) hb8' (Nat.le_trans hbw7.size (hbA _).size)
          go_wp2_with fail
          go_ret
          exact ⟨rfl, hbw8⟩
        · have hgq : (ge != 0) = true := by simpa using hg
          clear hg
          go_wp2_with fail
          go_ret
          exact ⟨rfl, Below.thenOf hbw7 (hbA _) hbw7.size⟩
    · have hQ1 : printR q = ([], polErr q) := by rw [hQe.out, if_neg hqe]
      rw [hQ1]
      have hqq : (polErr q == 0) = false := by simpa using hqe
      generalize polErr q = qe at *
      clear hqe
      have hlenB : (bsB (polText p)).size = (polText p).length := bsB_size _
      by_cases hlen : (polText p).length ≤ 60000
      · have hli : ((polText p).length : Int) ≤ 60000 := by omega
        have HPt : Hid (∀ w', Below w.heap.size w w' → Calls Tryd.prog 22 #[.string (bsB (polText p))] w' fun e w'' => ∃ xv, e = .returned (.tuple #[xv, .int .i64 0]) ∧ PolN w'.heap.size w'' xv p ∧ Below w'.heap.size w' w'') := fun w' h => by
          have := parse_any (bsB (polText p)) w' (HE.out w' h)
          rw [show (bsB (polText p)).data.toList = polText p by simp [bsB], parse_back hpe hlen] at this
          exact this
        go_wp2_with fail
        go_at_call 22
        refine Calls.mono (HPt.out _ hbw3) ?_
        rintro e w5 ⟨yv, rfl, hyn, hb5'⟩
        obtain ⟨ay, ny, capy, rfl⟩ := hyn.shape
        have hb5 := Below.thenOf hb3 hb5' hs3
        have hs5 := Nat.le_trans hs3 hb5'.size
        have hynH : Hid (PolN w3.heap.size w5 (.agg #[.slice ay ny capy, .int .i64 p.2]) p) := hyn
        clear hyn
        obtain ⟨W6, hW6⟩ : ∃ W6, W6 = w5.alloc (.cells #[.slice ay ny capy, .int .i64 p.2] 24) := ⟨_, rfl⟩
        have hb56 : Below w5.heap.size w5 W6 := by rw [hW6]; exact (Below.refl _ _).alloc (Nat.le_refl _) _
        have hbx6 : W6.heap[w5.heap.size]? = some (.cells #[.slice ay ny capy, .int .i64 p.2] 24 (0, 0)) := by rw [hW6]; exact (MapKept.heap_alloc w5 _).1
        have hb6 := Below.thenOf hb5 hb56 hs5
        have hs6 := Nat.le_trans hs5 hb56.size
        obtain ⟨y0, y1, _, _⟩ := cell_of_two hbx6
        obtain ⟨⟨⟨e0, e1⟩, _, _⟩, hbw6⟩ := HW.out _ hb6
        have HSx : Hid (Calls Tryd.prog 13 #[.agg #[.slice ay ny capy, .int .i64 p.2], .agg #[.slice ap np capp, .int .i64 dp]] W6 fun e w'' => e = .returned (.bool true) ∧ Below W6.heap.size W6 w'') := by
          have h1 := (hynH.out.keep (fun g h1 h2 => hb56.block g h2) hb56.size).at
          have := same_any W6.heap.size _ _ p p W6 h1 (polAt_mono (HPp'.out _ hbw6) (by have := hbw6.size; omega)) (Nat.le_refl _)
          unfold Hid
          simpa using this
        have hneq1 : ¬ (w5.heap.size = w.heap.size) := by omega
        rw [hdp] at hW6 HSx y1 ⊢
        clear c0 c1 d0 d1 hbx6
        have hW6' : w5.alloc (.cells #[.slice ay ny capy, .int .i64 dp] 24) = W6 := hW6.symm
        have HW6' : Hid _ := hW6'
        rw [← hW6'] at y0 y1 e0 e1
        clear hW6 hW6'
        go_wp2_with fail
        rw [HW6'.out]
        go_at_call 13
        refine Calls.mono HSx.out ?_
        rintro e w6' ⟨rfl, hb66⟩
        have hbw6' : Below w.heap.size w w6' := Below.thenOf hbw6 hb66 hbw6.size
        go_wp2_with fail
        go_at_call 22
        refine Calls.mono (HPs.out _ hbw6') ?_
        rintro e w7 ⟨xv, rfl, hxn, hb7'⟩
        obtain ⟨ax, nx, capx, rfl⟩ := hxn.shape
        have hbw7 : Below w.heap.size w w7 := Below.thenOf hbw6' hb7' hbw6'.size
        have hxnH : Hid (PolN w6'.heap.size w7 (.agg #[.slice ax nx capx, .int .i64 px.2]) px) := hxn
        clear hxn
        have hbA : ∀ X, Below w7.heap.size w7 (w7.alloc X) := fun X => (Below.refl _ _).alloc (Nat.le_refl _) _
        by_cases hg : ge = 0
        · subst hg
          have hxp := HPb.out rfl
          have HTx : Hid (∀ w', Below w7.heap.size w7 w' → Calls Tryd.prog 21 #[.agg #[.slice ax nx capx, .int .i64 px.2]] w' fun e w'' => e = .returned (.tuple #[.string s, .int .i64 0]) ∧ Below w'.heap.size w' w'') := fun w' h => by
            have := print_any w'.heap.size _ px w' (HE.out _ (Below.thenOf hbw7 h hbw7.size)) (hxnH.out.keep (fun g h1 h2 => h.block g h2) h.size).at (Nat.le_refl _)
            rw [hxp] at this
            simp only [bsB_self] at this
            exact this
          generalize px.2 = xd at *
          clear hxp
          go_wp2_with fail
          go_at_call 21
          refine Calls.mono (HTx.out _ (hbA _)) ?_
          rintro e w8 ⟨rfl, hb8'⟩
          have hbw8 : Below w.heap.size w w8 := Below.thenOf (Below.thenOf hbw7 (hbA _) hbw7.size) hb8' (Nat.le_trans hbw7.size (hbA _).size)
          go_wp2_with fail
          go_ret
          exact ⟨rfl, hbw8⟩
        · have hgq : (ge != 0) = true := by simpa using hg
          clear hg
          go_wp2_with fail
          go_ret
          exact ⟨rfl, Below.thenOf hbw7 (hbA _) hbw7.size⟩
      · have hli : ¬ ((polText p).length : Int) ≤ 60000 := by omega
        go_wp2_with fail
        go_at_call 22
        refine Calls.mono (HPs.out _ hbw3) ?_
        rintro e w7 ⟨xv, rfl, hxn, hb7'⟩
        obtain ⟨ax, nx, capx, rfl⟩ := hxn.shape
        have hbw7 : Below w.heap.size w w7 := Below.thenOf hbw3 hb7' hbw3.size
        have hxnH : Hid (PolN w3.heap.size w7 (.agg #[.slice ax nx capx, .int .i64 px.2]) px) := hxn
        clear hxn
        have hbA : ∀ X, Below w7.heap.size w7 (w7.alloc X) := fun X => (Below.refl _ _).alloc (Nat.le_refl _) _
        by_cases hg : ge = 0
        · subst hg
          have hxp := HPb.out rfl
          have HTx : Hid (∀ w', Below w7.heap.size w7 w' → Calls Tryd.prog 21 #[.agg #[.slice ax nx capx, .int .i64 px.2]] w' fun e w'' => e = .returned (.tuple #[.string s, .int .i64 0]) ∧ Below w'.heap.size w' w'') := fun w' h => by
            have := print_any w'.heap.size _ px w' (HE.out _ (Below.thenOf hbw7 h hbw7.size)) (hxnH.out.keep (fun g h1 h2 => h.block g h2) h.size).at (Nat.le_refl _)
            rw [hxp] at this
            simp only [bsB_self] at this
            exact this
          generalize px.2 = xd at *
          clear hxp
          go_wp2_with fail
          go_at_call 21
          refine Calls.mono (HTx.out _ (hbA _)) ?_
          rintro e w8 ⟨rfl, hb8'⟩
          have hbw8 : Below w.heap.size w w8 := Below.thenOf (Below.thenOf hbw7 (hbA _) hbw7.size) hb8' (Nat.le_trans hbw7.size (hbA _).size)
          go_wp2_with fail
          go_ret
          exact ⟨rfl, hbw8⟩
        · have hgq : (ge != 0) = true := by simpa using hg
          clear hg
          go_wp2_with fail
          go_ret
          exact ⟨rfl, Below.thenOf hbw7 (hbA _) hbw7.size⟩
  · have hP1 : printR p = ([], polErr p) := by rw [hPe.out, if_neg hpe]
    rw [hP1]
    have hqq : (polErr p == 0) = false := by simpa using hpe
    generalize polErr p = pe at *
    generalize printR q = rq at *
    clear hpe
    go_wp2_with fail
    go_at_call 22
    refine Calls.mono (HPs.out _ hbw3) ?_
    rintro e w7 ⟨xv, rfl, hxn, hb7'⟩
    obtain ⟨ax, nx, capx, rfl⟩ := hxn.shape
    have hbw7 : Below w.heap.size w w7 := Below.thenOf hbw3 hb7' hbw3.size
    have hxnH : Hid (PolN w3.heap.size w7 (.agg #[.slice ax nx capx, .int .i64 px.2]) px) := hxn
    clear hxn
    have hbA : ∀ X, Below w7.heap.size w7 (w7.alloc X) := fun X => (Below.refl _ _).alloc (Nat.le_refl _) _
    by_cases hg : ge = 0
    · subst hg
      have hxp := HPb.out rfl
      have HTx : Hid (∀ w', Below w7.heap.size w7 w' → Calls Tryd.prog 21 #[.agg #[.slice ax nx capx, .int .i64 px.2]] w' fun e w'' => e = .returned (.tuple #[.string s, .int .i64 0]) ∧ Below w'.heap.size w' w'') := fun w' h => by
        have := print_any w'.heap.size _ px w' (HE.out _ (Below.thenOf hbw7 h hbw7.size)) (hxnH.out.keep (fun g h1 h2 => h.block g h2) h.size).at (Nat.le_refl _)
        rw [hxp] at this
        simp only [bsB_self] at this
        exact this
      generalize px.2 = xd at *
      clear hxp
      go_wp2_with fail
      go_at_call 21
      refine Calls.mono (HTx.out _ (hbA _)) ?_
      rintro e w8 ⟨rfl, hb8'⟩
      have hbw8 : Below w.heap.size w w8 := Below.thenOf (Below.thenOf hbw7 (hbA _) hbw7.size) hb8' (Nat.le_trans hbw7.size (hbA _).size)
      go_wp2_with fail
      go_ret
      exact ⟨rfl, hbw8⟩
    · have hgq : (ge != 0) = true := by simpa using hg
      clear hg
      go_wp2_with fail
      go_ret
      exact ⟨rfl, Below.thenOf hbw7 (hbA _) hbw7.size⟩

end Go.Proofs.YthpllmhnpbigiaaDoor
