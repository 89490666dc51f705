/- Package chain: Delta and Tighten. -/
import Derived.Test.YtbdlojnigflanacGreatDoorKb21
import Derived.Test.YtbdlojnigflanacGreatDoorKb26
import Derived.Test.YtbdlojnigflanacGreatDoorKb19
import Derived.Test.YtbdlojnigflanacGreatDoorKb13
import Derived.Test.YtbdlojnigflanacGreatDoorKb32
import Derived.Test.YtbdlojnigflanacGreatDoorKb33
import Derived.Test.YtbdlojnigflanacGreatDoorKb17
set_option linter.all false
set_option maxRecDepth 100000
namespace Go.Proofs.YtbdlojnigflanacGreatDoor
open Go.RowKit Go.Maps

set_option maxHeartbeats 8000000 in
theorem deltaD_new (B : Nat) (pv qv : Value) (p q : PolT) (w : World) (hp : PolAt B w pv p) (hq : PolAt B w qv q) (hB : B ≤ w.heap.size) :
    Calls Tryz.prog 14 #[pv, qv] w fun e w' => ∃ v, e = .returned (.tuple #[v, .int .i64 (deltaE p q)]) ∧ PolNew w.heap.size w' v (deltaR p q) ∧ Below w.heap.size w w' := by
  have HF : Hid (∀ w', Below w.heap.size w w' → Calls Tryz.prog 17 #[qv, pv] w' fun e w'' => e = .returned (.tuple #[.bool (looserP q p).isSome, .agg #[.int .i64 (looserC q p 0), .int .i64 (looserC q p 1), .int .i64 (looserC q p 2), .int .i64 (looserC q p 3), .int .i64 (looserC q p 4)], .int .i64 (pointsE [q, p])]) ∧ Below w'.heap.size w' w'') := fun w' h => looserD_any B qv pv q p w' (hq.later h hB) (hp.later h hB) (Nat.le_trans hB h.size)
  have HBo : Hid (∀ w', Below w.heap.size w w' → Calls Tryz.prog 56 #[qv, pv] w' fun e w'' => ∃ v, e = .returned (.tuple #[v, .int .i64 (meetE true q p)]) ∧ PolNew w'.heap.size w'' v (meetR true q p) ∧ Below w'.heap.size w' w'') := fun w' h => exceptD_any B qv pv q p w' (hq.later h hB) (hp.later h hB) (Nat.le_trans hB h.size)
  have HDE : Hid (deltaE p q = if pointsE [q, p] = 0 then (if (looserP q p).isSome then 7 else if meetE true q p = 0 then pointsE [meetR true q p] else meetE true q p) else pointsE [q, p]) := rfl
  have HDR : Hid (deltaR p q = if deltaE p q = 0 then shortP (meetR true q p) else ([], 0)) := rfl
  obtain ⟨rs, d⟩ := p
  obtain ⟨ss, f⟩ := q
  obtain ⟨rv, rfl, -, a, cap, rfl, -⟩ := hp
  obtain ⟨sv, rfl, -, b, cap2, rfl, -⟩ := hq
  simp only at HF HBo
  generalize looserC (ss, f) (rs, d) = c1 at *
  generalize (looserP (ss, f) (rs, d)).isSome = lo at *
  generalize pointsE [(ss, f), (rs, d)] = pe at *
  generalize meetE true (ss, f) (rs, d) = me at *
  generalize meetR true (ss, f) (rs, d) = mr at *
  generalize deltaE (rs, d) (ss, f) = de at *
  generalize deltaR (rs, d) (ss, f) = dr at *
  generalize rs.length = n1 at *
  generalize ss.length = n2 at *
  clear hB
  obtain ⟨W3, hW3⟩ : ∃ W3, W3 = ((w.alloc (.cells #[.slice a n1 cap, .int .i64 d] 24)).alloc (.cells #[.slice b n2 cap2, .int .i64 f] 24)).alloc (.cells #[.slice none 0 0, .int .i64 0] 24) := ⟨_, rfl⟩
  have hs3 : W3.heap.size = w.heap.size + 1 + 1 + 1 := by rw [hW3]; simp
  have hb3 : Below w.heap.size w W3 := by rw [hW3]; exact (((Below.refl _ _).alloc (Nat.le_refl _) _).alloc (by simp) _).alloc (by simp; omega) _
  have g0 : W3.heap[w.heap.size]? = some (.cells #[.slice a n1 cap, .int .i64 d] 24 (0, 0)) := by
    rw [hW3]
    exact heap_kept' _ (heap_kept' _ (heap_at _ _ rfl))
  have g1 : W3.heap[w.heap.size + 1]? = some (.cells #[.slice b n2 cap2, .int .i64 f] 24 (0, 0)) := by
    rw [hW3]
    exact heap_kept' _ (heap_at _ _ (by simp only [World.size_alloc]))
  have g2 : W3.heap[w.heap.size + 1 + 1]? = some (.cells #[.slice none 0 0, .int .i64 0] 24 (0, 0)) := by
    rw [hW3]
    exact heap_at _ _ (by simp only [World.size_alloc])
  have HG : Hid (∀ w', Below W3.heap.size W3 w' → w'.heap[w.heap.size]? = some (.cells #[.slice a n1 cap, .int .i64 d] 24 (0, 0)) ∧ w'.heap[w.heap.size + 1]? = some (.cells #[.slice b n2 cap2, .int .i64 f] 24 (0, 0)) ∧ w'.heap[w.heap.size + 1 + 1]? = some (.cells #[.slice none 0 0, .int .i64 0] 24 (0, 0))) := fun w' h => ⟨(h.block _ (by omega)).trans g0, (h.block _ (by omega)).trans g1, (h.block _ (by omega)).trans g2⟩
  have HW : Hid (W3 = _) := hW3
  clear hW3 g0 g1 g2
  go_enter Tryz.func14, Tryz.ntmps14
  go_wp2_with fail
  rw [← HW.out]
  go_at_call 17
  refine Calls.mono (HF.out _ hb3) ?_
  rintro e w4 ⟨rfl, hb4⟩
  have hs4 := hb4.size
  have hb4w : Below w.heap.size w w4 := Below.thenOf hb3 hb4 hb3.size
  obtain ⟨g0, g1, g2⟩ := HG.out w4 hb4
  have l2 : w.heap.size + 1 + 1 < w4.heap.size := by omega
  have z0 := heap_cell g2 0 rfl
  have z1 := heap_cell g2 1 rfl
  have zf0 : w4.frozen? ⟨w.heap.size + 1 + 1, 0, none⟩ = false := by simp [World.frozen?, g2]
  have zf1 : w4.frozen? ⟨w.heap.size + 1 + 1, 1, none⟩ = false := by simp [World.frozen?, g2]
  have y0 := heap_cell g0 0 rfl
  have y1 := heap_cell g0 1 rfl
  have x0 := heap_cell g1 0 rfl
  have x1 := heap_cell g1 1 rfl
  have l0 : w.heap.size < w4.heap.size := by omega
  have l1 : w.heap.size + 1 < w4.heap.size := by omega
  have hb4a : ∀ X, Below w.heap.size w (w4.alloc X) := fun X => hb4w.alloc hb4w.size X
  have hb4W : ∀ X, Below W3.heap.size W3 (w4.alloc X) := fun X => hb4.alloc hs4 X
  have HB4 : Hid _ := hb4a
  have HB4w : Hid (Below w.heap.size w w4) := hb4w
  have HB4W : Hid _ := hb4W
  clear g0 g1 g2 HF hb4a hb4W hb4 hb4w hs4
  by_cases hz : pe = 0
  · subst hz
    cases lo with
    | true =>
      have HR : Hid (de = 7 ∧ dr = ([], 0)) := by
        have e : de = 7 := by rw [HDE.out]; rfl
        exact ⟨e, by rw [HDR.out, if_neg (by rw [e]; decide)]⟩
      clear HDE HDR HBo
      go_wp2_with fail
      refine bodyPost_ret (v := .tuple #[.agg #[.slice none 0 0, .int .i64 0], .int .i64 7]) ?_ rfl ⟨_, by rw [HR.out.1], by rw [HR.out.2]; exact zeroNew _ _, ?_⟩
      · rw [results_cell_tmp rfl]
        go_simp
      · repeat (first | exact HB4w.out | refine Below.setCell ?_ (by show w.heap.size ≤ w.heap.size + 1 + 1; omega) _ | refine Below.alloc ?_ (by simp; omega) _)
    | false =>
      have HDE' : Hid (de = if me = 0 then pointsE [mr] else me) := by unfold Hid; rw [HDE.out]; rfl
      clear HDE
      go_wp2_with fail
      go_at_call 56
      refine Calls.mono (HBo.out _ (HB4.out _)) ?_
      rintro e w5 ⟨dv, rfl, hpd, hb5⟩
      have hs5 := hb5.size
      rw [World.size_alloc] at hs5
      have hb5w : Below w.heap.size w w5 := Below.thenOf (HB4.out _) hb5 (HB4.out _).size
      obtain ⟨-, -, g2⟩ := HG.out w5 (Below.thenOf (HB4W.out _) hb5 (HB4W.out _).size)
      have hb5a : ∀ X, Below w5.heap.size w5 (w5.alloc X) := fun X => (Below.refl _ _).alloc (Nat.le_refl _) X
      have HSh : Hid (∀ X, Calls Tryz.prog 57 #[dv] (w5.alloc X) fun e w' => ∃ rv, e = .returned (.tuple #[rv, .int .i64 (pointsE [mr])]) ∧ PolNew (w5.alloc X).heap.size w' rv (shortR mr) ∧ Below (w5.alloc X).heap.size (w5.alloc X) w') := fun X => shortD_new w5.heap.size dv mr (w5.alloc X) (hpd.at.later (hb5a X) (Nat.le_refl _)) (hb5a X).size
      have HSR : Hid (shortR mr = if pointsE [mr] = 0 then shortP mr else ([], 0)) := rfl
      obtain ⟨ms, md⟩ := mr
      obtain ⟨rv, rfl, -, a5, c5, rfl, -⟩ := hpd.at
      simp only at HSh
      generalize ms.length = n5 at *
      generalize pointsE [(ms, md)] = pm at *
      generalize hsr : shortR (ms, md) = sr at *
      have hsrH : Hid (shortR (ms, md) = sr) := hsr
      clear hsr
      have z0 := heap_cell g2 0 rfl
      have z1 := heap_cell g2 1 rfl
      have zf0 : w5.frozen? ⟨w.heap.size + 1 + 1, 0, none⟩ = false := by simp [World.frozen?, g2]
      have zf1 : w5.frozen? ⟨w.heap.size + 1 + 1, 1, none⟩ = false := by simp [World.frozen?, g2]
      have l2 : w.heap.size + 1 + 1 < w5.heap.size := by omega
      have HB5 : Hid _ := hb5w
      have HG2 : Hid _ := g2
      clear HB4 HB4W hb5 hb5w g2 HBo hpd
      by_cases hm : me = 0
      · subst hm
        have HR : Hid (de = pm ∧ dr = sr) := by
          have e : de = pm := by rw [HDE'.out]; rfl
          refine ⟨e, ?_⟩
          rw [HDR.out, e, HSR.out]
        clear HDE' HDR HSR
        go_wp2_with fail
        go_at_call 57
        refine Calls.mono (HSh.out _) ?_
        rintro e w6 ⟨sv, rfl, hps, hb6⟩
        have hs6 := hb6.size
        rw [World.size_alloc] at hs6 hps
        have b6 : w6.heap[w.heap.size + 1 + 1]? = some (.cells #[.slice none 0 0, .int .i64 0] 24 (0, 0)) := (hb6.block _ (by simp; omega)).trans ((Below.heap_alloc _ _ _ (by omega)).trans HG2.out)
        have hb6w : Below w.heap.size w w6 := Below.thenOf (HB5.out.alloc HB5.out.size _) hb6 (by simp; omega)
        have q0 := heap_cell b6 0 rfl
        have q1 := heap_cell b6 1 rfl
        have qf0 : w6.frozen? ⟨w.heap.size + 1 + 1, 0, none⟩ = false := by simp [World.frozen?, b6]
        have qf1 : w6.frozen? ⟨w.heap.size + 1 + 1, 1, none⟩ = false := by simp [World.frozen?, b6]
        have HPs : Hid _ := hps
        obtain ⟨ts, td⟩ := sr
        obtain ⟨rv, e1, -, a6, c6, e2, -⟩ := hps.at
        subst e2 e1
        simp only at HPs
        generalize ts.length = n6 at *
        have HB6 : Hid _ := hb6w
        clear hps hb6 hb6w b6 HSh z0 z1 zf0 zf1
        go_wp2_with fail
        refine bodyPost_ret (v := .tuple #[.agg #[.slice a6 n6 c6, .int .i64 td], .int .i64 pm]) ?_ rfl ⟨_, by rw [HR.out.1], ?_, ?_⟩
        · rw [results_cell_tmp rfl]
          go_simp
        · rw [HR.out.2]
          refine PolNew.keep (L := w5.heap.size + 1) ?_ (by omega) (fun g _ _ => rfl) (Nat.le_refl _)
          repeat (first | exact HPs.out | refine PolNew.put ?_ (.inl (by omega)))
        · exact (HB6.out.setCell (p := ⟨w.heap.size + 1 + 1, 0, none⟩) (by show w.heap.size ≤ w.heap.size + 1 + 1; omega) _).setCell (p := ⟨w.heap.size + 1 + 1, 1, none⟩) (by show w.heap.size ≤ w.heap.size + 1 + 1; omega) _
      · have HR : Hid (de = me ∧ dr = ([], 0)) := by
          have e : de = me := by rw [HDE'.out, if_neg hm]
          exact ⟨e, by rw [HDR.out, if_neg (by rw [e]; exact hm)]⟩
        have hq : (me != 0) = true := by simpa using hm
        clear HDE' HDR HSR hm HSh
        go_wp2_with fail
        refine bodyPost_ret (v := .tuple #[.agg #[.slice none 0 0, .int .i64 0], .int .i64 me]) ?_ rfl ⟨_, by rw [HR.out.1], by rw [HR.out.2]; exact zeroNew _ _, ?_⟩
        · rw [results_cell_tmp rfl]
          go_simp
        · repeat (first | exact HB5.out | refine Below.setCell ?_ (by show w.heap.size ≤ w.heap.size + 1 + 1; omega) _ | refine Below.alloc ?_ (by simp; omega) _)
  · have HR : Hid (de = pe ∧ dr = ([], 0)) := by
      have e : de = pe := by rw [HDE.out, if_neg hz]
      exact ⟨e, by rw [HDR.out, if_neg (by rw [e]; exact hz)]⟩
    have hq : (pe != 0) = true := by simpa using hz
    have hq2 : (pe == 0) = false := by simpa using hz
    clear HDE HDR HBo hz
    go_wp2_with fail
    refine bodyPost_ret (v := .tuple #[.agg #[.slice none 0 0, .int .i64 0], .int .i64 pe]) ?_ rfl ⟨_, by rw [HR.out.1], by rw [HR.out.2]; exact zeroNew _ _, ?_⟩
    · rw [results_cell_tmp rfl]
      go_simp
    · repeat (first | exact HB4w.out | refine Below.setCell ?_ (by show w.heap.size ≤ w.heap.size + 1 + 1; omega) _ | refine Below.alloc ?_ (by simp; omega) _)
theorem deltaD_any (B : Nat) (pv qv : Value) (p q : PolT) (w : World) (hp : PolAt B w pv p) (hq : PolAt B w qv q) (hB : B ≤ w.heap.size) :
    Calls Tryz.prog 14 #[pv, qv] w fun e w' => ∃ v, e = .returned (.tuple #[v, .int .i64 (deltaE p q)]) ∧ PolAt w'.heap.size w' v (deltaR p q) ∧ Below w.heap.size w w' :=
  (deltaD_new B pv qv p q w hp hq hB).mono fun _ _ ⟨v, h1, h2, h3⟩ => ⟨v, h1, h2.at, h3⟩

set_option maxHeartbeats 8000000 in
theorem tightenD_new (B : Nat) (lv pv qv : Value) (ls : ChT) (p q : PolT) (w : World) (hl : ChsAt B w lv ls) (hp : PolAt B w pv p) (hq : PolAt B w qv q) (hB : B ≤ w.heap.size) :
    Calls Tryz.prog 60 #[lv, pv, qv] w fun e w' => ∃ v, e = .returned (.tuple #[v, .int .i64 (tightE ls p q)]) ∧ ChsNew w.heap.size w' v (tightR ls p q) ∧ Below w.heap.size w w' := by
  have HL : Hid (∀ w', Below w.heap.size w w' → ChsAt B w' lv ls) := fun w' h => hl.later h hB
  have HC : Hid (∀ w', Below w.heap.size w w' → Calls Tryz.prog 110 #[lv] w' fun e w'' => e = .returned (.int .i64 (chainErr ls)) ∧ Below w'.heap.size w' w'') := fun w' h => checkD_any B lv ls w' (hl.later h hB) (Nat.le_trans hB h.size)
  have HD : Hid (∀ w', Below w.heap.size w w' → Calls Tryz.prog 14 #[pv, qv] w' fun e w'' => ∃ v, e = .returned (.tuple #[v, .int .i64 (deltaE p q)]) ∧ PolAt w''.heap.size w'' v (deltaR p q) ∧ Below w'.heap.size w' w'') := fun w' h => deltaD_any B pv qv p q w' (hp.later h hB) (hq.later h hB) (Nat.le_trans hB h.size)
  have HTE : Hid (tightE ls p q = if chainErr ls = 0 then (if deltaE p q = 0 then (if ls.length = 6 then 2 else compE (deltaR p q)) else deltaE p q) else chainErr ls) := rfl
  have HTR : Hid (tightR ls p q = if tightE ls p q = 0 then ls ++ [polI (deltaR p q)] else []) := rfl
  have HCl : Hid (chainErr ls = 0 → ls.length ≤ 6 ∧ ∀ f ∈ ls, f.length ≤ 100000) := fun h => ⟨(chainErr_ok.1 h).1, fun f hf => Nat.le_trans (codeErr_ok ((chainErr_ok.1 h).2 f hf)).2.1 (by decide)⟩
  have HCp : Hid (∀ w', Below w.heap.size w w' → ls.length ≤ 1000 → (∀ f ∈ ls, f.length ≤ 100000) → Calls Tryz.prog 121 #[lv] w' fun e w'' => ∃ v, e = .returned v ∧ ∃ xs, w''.ownsRow w'.heap.size 81 1 v ls.length xs ∧ FvsN w'.heap.size w'' xs ls ∧ Below w'.heap.size w' w'') := fun w' h h1 h2 => copyCh_any B lv ls w' (hl.later h hB) (Nat.le_trans hB h.size) h1 h2
  obtain ⟨la, lcap, rfl, hlc, hlm, -⟩ := hl
  obtain ⟨rs, d⟩ := p
  obtain ⟨ss, f⟩ := q
  obtain ⟨rv, rfl, -, a, cap, rfl, -⟩ := hp
  obtain ⟨sv, rfl, -, b, cap2, rfl, -⟩ := hq
  simp only at HC HD
  have hml := maxLen_eq
  obtain ⟨ln, hln⟩ : ∃ n, n = ls.length := ⟨_, rfl⟩
  have hlnH : Hid (ls.length = ln) := hln.symm
  rw [← hln] at HL HC HTE HCl HCp hlc ⊢
  clear hln
  generalize chainErr ls = ce at *
  generalize deltaE (rs, d) (ss, f) = de at *
  generalize deltaR (rs, d) (ss, f) = dr at *
  generalize tightE ls (rs, d) (ss, f) = te at *
  generalize tightR ls (rs, d) (ss, f) = tr at *
  generalize rs.length = n1 at *
  generalize ss.length = n2 at *
  obtain ⟨W2, hW2⟩ : ∃ W2, W2 = (w.alloc (.cells #[.slice a n1 cap, .int .i64 d] 24)).alloc (.cells #[.slice b n2 cap2, .int .i64 f] 24) := ⟨_, rfl⟩
  have hs2 : W2.heap.size = w.heap.size + 1 + 1 := by rw [hW2]; simp
  have hb2 : Below w.heap.size w W2 := by rw [hW2]; exact ((Below.refl _ _).alloc (Nat.le_refl _) _).alloc (by simp) _
  have g0 : W2.heap[w.heap.size]? = some (.cells #[.slice a n1 cap, .int .i64 d] 24 (0, 0)) := by
    rw [hW2]
    exact heap_kept' _ (heap_at _ _ rfl)
  have g1 : W2.heap[w.heap.size + 1]? = some (.cells #[.slice b n2 cap2, .int .i64 f] 24 (0, 0)) := by
    rw [hW2]
    exact heap_at _ _ (by simp only [World.size_alloc])
  have HG : Hid (∀ w', Below W2.heap.size W2 w' → w'.heap[w.heap.size]? = some (.cells #[.slice a n1 cap, .int .i64 d] 24 (0, 0)) ∧ w'.heap[w.heap.size + 1]? = some (.cells #[.slice b n2 cap2, .int .i64 f] 24 (0, 0))) := fun w' h => ⟨(h.block _ (by omega)).trans g0, (h.block _ (by omega)).trans g1⟩
  have HW : Hid (W2 = _) := hW2
  clear hW2 g0 g1
  go_enter Tryz.func60, Tryz.ntmps60
  go_wp2_with fail
  rw [← HW.out]
  go_at_call 110
  refine Calls.mono (HC.out _ hb2) ?_
  rintro e w3 ⟨rfl, hb3⟩
  have hs3 := hb3.size
  have hb3w : Below w.heap.size w w3 := Below.thenOf hb2 hb3 hb2.size
  clear HC
  by_cases hc : ce = 0
  · subst hc
    have hl6 := (HCl.out rfl).1
    have HF10 : Hid (∀ f ∈ ls, f.length ≤ 100000) := (HCl.out rfl).2
    obtain ⟨g0, g1⟩ := HG.out w3 hb3
    have y0 := heap_cell g0 0 rfl
    have y1 := heap_cell g0 1 rfl
    have x0 := heap_cell g1 0 rfl
    have x1 := heap_cell g1 1 rfl
    have HTE' : Hid (te = if de = 0 then (if ln = 6 then 2 else compE dr) else de) := by unfold Hid; rw [HTE.out, if_pos rfl]
    clear g0 g1 HTE HCl
    go_wp2_with fail
    go_at_call 14
    refine Calls.mono (HD.out _ hb3w) ?_
    rintro e w4 ⟨dv, rfl, hpd, hb4⟩
    have hb4w : Below w.heap.size w w4 := Below.thenOf hb3w hb4 hb3w.size
    have hb4a : ∀ X, Below w4.heap.size w4 (w4.alloc X) := fun X => (Below.refl _ _).alloc (Nat.le_refl _) X
    have HFi : Hid (∀ X, Calls Tryz.prog 53 #[dv] (w4.alloc X) fun e w' => ∃ fv, e = .returned (.tuple #[fv, .int .i64 (compE dr)]) ∧ w'.ownsRow (w4.alloc X).heap.size 86 4 fv (compL dr).length (insCells (compL dr)) ∧ (∀ i ∈ compL dr, insWf i) ∧ Below (w4.alloc X).heap.size (w4.alloc X) w') := fun X => compile_any w4.heap.size dv dr (w4.alloc X) (hpd.later (hb4a X) (Nat.le_refl _)) (hb4a X).size
    have HCL : Hid (compE dr = 0 → compL dr = polI dr) := fun h => by rw [compL, if_pos h]
    obtain ⟨ms, md⟩ := dr
    obtain ⟨rv, rfl, -, a4, c4, rfl, -⟩ := hpd
    simp only at HFi
    generalize ms.length = n4 at *
    have HB4 : Hid _ := hb4w
    clear hb4 hb4w hb3w hb3 y0 y1 x0 x1 HD
    by_cases hd : de = 0
    · subst hd
      by_cases h6 : ln = 6
      · subst h6
        have HR : Hid (te = 2 ∧ tr = []) := by
          have e : te = 2 := by rw [HTE'.out]; rfl
          exact ⟨e, by rw [HTR.out, if_neg (by rw [e]; decide)]⟩
        clear HTE' HTR HFi
        go_wp2_with fail
        go_ret2
        exact ⟨_, by rw [HR.out.1]; rfl, by rw [HR.out.2]; exact chsNew_nil _ _, HB4.out.alloc HB4.out.size _⟩
      · have h6' : ¬ (ln : Int) = 6 := by omega
        have hq6 : ((ln : Int) == 6) = false := by simpa using h6'
        have HTE2 : Hid (te = compE (ms, md)) := by unfold Hid; rw [HTE'.out, if_pos rfl, if_neg h6]
        clear HTE' h6
        go_wp2_with fail
        go_at_call 53
        refine Calls.mono (HFi.out _) ?_
        rintro e w5 ⟨fv, rfl, hof, hwf, hb5⟩
        by_cases hcp : compE (ms, md) = 0
        · have HR : Hid (te = 0 ∧ tr = ls ++ [polI (ms, md)]) := by
            have e : te = 0 := by rw [HTE2.out, hcp]
            exact ⟨e, by rw [HTR.out, if_pos e]⟩
          rw [HCL.out hcp] at hof hwf
          rw [hcp]
          clear hcp HTE2 HTR HCL HFi
          obtain ⟨fa, fc, efv, -, -⟩ := ownsRow_caps hof
          subst efv
          have hb5w : Below w.heap.size w w5 := Below.thenOf (HB4.out.alloc HB4.out.size _) hb5 (by simp; have := HB4.out.size; omega)
          have hs5 := hb5w.size
          have HOf : Hid (w5.ownsRow w.heap.size 86 4 (.slice fa (polI (ms, md)).length fc) (polI (ms, md)).length (insCells (polI (ms, md))) ∧ ∀ i ∈ polI (ms, md), insWf i) := ⟨ownsRow_base hof (by have := HB4.out.size; simp; omega), hwf⟩
          have HCp' : Hid (Calls Tryz.prog 121 #[.slice la ln lcap] w5 fun e w'' => ∃ v, e = .returned v ∧ ∃ xs, w''.ownsRow w5.heap.size 81 1 v ln xs ∧ FvsN w5.heap.size w'' xs ls ∧ Below w5.heap.size w5 w'') := HCp.out w5 hb5w (by omega) HF10.out
          have HBw5 : Hid _ := hb5w
          obtain ⟨inf, hi1, hi2, hi3, hi4⟩ := infoFil
          clear hof hwf hb5 hb5w HCp HF10
          generalize hfl : (polI (ms, md)).length = fl at *
          have hflH : Hid ((polI (ms, md)).length = fl) := hfl
          clear hfl
          go_wp2_with fail
          go_at_call 121
          refine Calls.mono HCp'.out ?_
          rintro e w6 ⟨v6, rfl, xs, hox, hfx, hb6⟩
          have hs6 := hb6.size
          have HO6 : Hid (w6.ownsRow w5.heap.size 81 1 v6 ln xs) := hox
          have HFx : Hid (FvsN w5.heap.size w6 xs ls) := hfx
          have HB6 : Hid (Below w5.heap.size w5 w6) := hb6
          obtain ⟨va, vc, ev, -⟩ := ownsRow_caps hox
          subst ev
          have hn7 : (ln + 1) * 24 ≤ 140737488355328 := by omega
          have hm7 : ln + 1 ≤ maxLen := by omega
          clear hox hfx hb6 HCp'
          go_wp2_with (first | (at_builtin; go_must (refine wpList_appG _ rfl _ _ rfl Tryz.underlying75 hi1 hi2 hi3 hi4 rfl (by decide) w5.heap.size _ _ _ rfl _ 1 [.slice fa fl fc] rfl _ rfl (by simp) w6 (Below.refl _ _) HO6.out rfl (by intro u hu; simp at hu; subst hu; rfl) hm7 hn7 hs6 ?_; intro v8 w8 ho8 hb8 hg8)))
          have hk8 : KeepT 86 w6 w8 := fun k cur fr hk => (hg8.out.block k (lt_of_block hk) (fun e => by
            obtain ⟨cur', hc⟩ := ownsRow_tag HO6.out k e.symm
            rw [hk] at hc
            cases hc)).trans hk
          have hk58 : KeepT 86 w5 w8 := (KeepT.of_below HB6.out).trans hk8
          have e8 : (ls ++ [polI (ms, md)]).length = ln + 1 := by simp [hlnH.out]
          have hch : ChsNew w.heap.size w8 v8 (ls ++ [polI (ms, md)]) := by
            refine chsNew_own (xs := xs ++ [.slice fa fl fc]) (by rw [e8]; exact ownsRow_base ho8.out hs5) ?_
            have h2 : w8.ownsRow w.heap.size 86 4 (.slice fa fl fc) (polI (ms, md)).length (insCells (polI (ms, md))) := by
              have := ownsRow_keepT HOf.out.1 hk58
              rw [hflH.out]
              exact this
            exact (((HFx.out.keep hk8).base hs5).snoc h2 HOf.out.2)
          have hbw8 : Below w.heap.size w w8 := Below.thenOf HBw5.out (HB6.out.trans hb8) HBw5.out.size
          go_ret2
          exact ⟨_, by rw [HR.out.1]; rfl, by rw [HR.out.2]; exact hch, hbw8⟩
        · have HR : Hid (te = compE (ms, md) ∧ tr = []) := by
            have e : te = compE (ms, md) := HTE2.out
            exact ⟨e, by rw [HTR.out, if_neg (by rw [e]; exact hcp)]⟩
          have hq : (compE (ms, md) != 0) = true := by simpa using hcp
          clear hcp HTE2 HTR HCL HFi
          generalize compE (ms, md) = cp at *
          have hb5w : Below w.heap.size w w5 := Below.thenOf (HB4.out.alloc HB4.out.size _) hb5 (by simp; have := HB4.out.size; omega)
          obtain ⟨fa, fc, efv, -⟩ := ownsRow_caps hof
          subst efv
          have HB5 : Hid _ := hb5w
          clear hof hwf hb5 hb5w
          generalize (compL (ms, md)).length = fl at *
          go_wp2_with fail
          go_ret2
          exact ⟨_, by rw [HR.out.1]; rfl, by rw [HR.out.2]; exact chsNew_nil _ _, HB5.out⟩
    · have HR : Hid (te = de ∧ tr = []) := by
        have e : te = de := by rw [HTE'.out, if_neg hd]
        exact ⟨e, by rw [HTR.out, if_neg (by rw [e]; exact hd)]⟩
      have hq : (de != 0) = true := by simpa using hd
      have hq2 : (de == 0) = false := by simpa using hd
      clear HTE' HTR HFi hd
      go_wp2_with fail
      go_ret2
      exact ⟨_, by rw [HR.out.1]; rfl, by rw [HR.out.2]; exact chsNew_nil _ _, HB4.out.alloc HB4.out.size _⟩
  · have HR : Hid (te = ce ∧ tr = []) := by
      have e : te = ce := by rw [HTE.out, if_neg hc]
      exact ⟨e, by rw [HTR.out, if_neg (by rw [e]; exact hc)]⟩
    have hq : (ce != 0) = true := by simpa using hc
    clear HTE HTR hc HD HCl
    go_wp2_with fail
    go_ret2
    exact ⟨_, by rw [HR.out.1]; rfl, by rw [HR.out.2]; exact chsNew_nil _ _, hb3w⟩
end Go.Proofs.YtbdlojnigflanacGreatDoor
