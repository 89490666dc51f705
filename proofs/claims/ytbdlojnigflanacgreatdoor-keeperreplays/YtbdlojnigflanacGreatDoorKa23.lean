/- Joined: Chn4 Filt. -/
import Derived.Test.YtbdlojnigflanacGreatDoorKa19
import Derived.Test.YtbdlojnigflanacGreatDoorKa22
import Derived.Test.YtbdlojnigflanacGreatDoorKa18
import Derived.Test.YtbdlojnigflanacGreatDoorKa02
section
/- The counterpart's DeltaOf: the policy of what changes. -/
set_option linter.all false
set_option maxRecDepth 100000
namespace Go.Proofs.YtbdlojnigflanacGreatDoor
open Go.RowKit Go.Maps

/-- A box of two cells that holds none of its rules can be written: conditions take three. -/
theorem PolAt.setBox {B k j : Nat} {w : World} {v u u0 u1 : Value} {p : PolT} {T : TypeId} {fr : Nat × Nat} (h : PolAt B w v p) (hk : w.heap[k]? = some (.cells #[u0, u1] T fr)) (hr : ∀ (b o n c : Nat) (d : Value), v = .agg #[.slice (some ⟨b, o, none⟩) n c, d] → b ≠ k) : PolAt B (w.setCell ⟨k, j, none⟩ u) v p := by
  obtain ⟨rs, d⟩ := p
  obtain ⟨rv, rfl, hd, a, cap, rfl, h1, h2, h3⟩ := h
  refine ⟨_, rfl, hd, a, cap, rfl, h1, h2, fun i r hi => ?_⟩
  obtain ⟨b, o, rfl, hb, cv, c0, c1, hw, hc⟩ := h3 i r hi
  have hbk : b ≠ k := hr b o _ _ _ rfl
  have keep : ∀ q, (w.setCell ⟨k, j, none⟩ u).cell? ⟨b, q, none⟩ = w.cell? ⟨b, q, none⟩ := fun q => by
    unfold World.cell?
    rw [Below.heap_setCell _ _ _ _ hbk]
  refine ⟨b, o, rfl, hb, cv, (keep _).trans c0, (keep _).trans c1, hw, ?_⟩
  obtain ⟨a', cap', e, g1, g2, g3⟩ := hc
  refine ⟨a', cap', e, g1, g2, fun i' c hi' => ?_⟩
  obtain ⟨b', o', e', hb', hat⟩ := g3 i' c hi'
  refine ⟨b', o', e', hb', ?_⟩
  by_cases hb2 : b' = k
  · exfalso
    subst hb2
    have := hat.2.2.1
    simp [World.cell?, hk] at this
  · have keep' : ∀ q, (w.setCell ⟨k, j, none⟩ u).cell? ⟨b', q, none⟩ = w.cell? ⟨b', q, none⟩ := fun q => by
      unfold World.cell?
      rw [Below.heap_setCell _ _ _ _ hb2]
    exact ⟨(keep' _).trans hat.1, (keep' _).trans hat.2.1, (keep' _).trans hat.2.2.1, hat.2.2.2⟩

set_option maxHeartbeats 8000000 in
theorem deltaOf_any (B : Nat) (pv qv : Value) (p q : PolT) (w : World) (hp : PolAt B w pv p) (hq : PolAt B w qv q) (hB : B ≤ w.heap.size) :
    Calls Tryz.prog 156 #[pv, qv] w fun e w' => ∃ v, e = .returned (.tuple #[v, .int .i64 (deltaE p q)]) ∧ PolAt w'.heap.size w' v (deltaR p q) ∧ Below w.heap.size w w' := by
  have HF : Hid (∀ w', Below w.heap.size w w' → Calls Tryz.prog 189 #[qv, pv] w' fun e w'' => e = .returned (.tuple #[.bool (looserP q p).isSome, .agg #[.int .i64 (looserC q p 0), .int .i64 (looserC q p 1), .int .i64 (looserC q p 2), .int .i64 (looserC q p 3), .int .i64 (looserC q p 4)], .int .i64 (pointsE [q, p])]) ∧ Below w'.heap.size w' w'') := fun w' h => firstLooser_any B qv pv q p w' (hq.later h hB) (hp.later h hB) (Nat.le_trans hB h.size)
  have HBo : Hid (∀ w', Below w.heap.size w w' → Calls Tryz.prog 190 #[qv, pv, .bool true] w' fun e w'' => ∃ v, e = .returned (.tuple #[v, .int .i64 (meetE true q p)]) ∧ PolAt w''.heap.size w'' v (meetR true q p) ∧ Below w'.heap.size w' w'') := fun w' h => both_any B qv pv q p true w' (hq.later h hB) (hp.later h hB) (Nat.le_trans hB h.size)
  have HDE : Hid (deltaE p q = if pointsE [q, p] = 0 then (if (looserP q p).isSome then 7 else if meetE true q p = 0 then pointsE [meetR true q p] else meetE true q p) else pointsE [q, p]) := rfl
  have HDR : Hid (deltaR p q = if deltaE p q = 0 then shortP (meetR true q p) else ([], 0)) := rfl
  obtain ⟨rs, d⟩ := p
  obtain ⟨ss, f⟩ := q
  obtain ⟨rv, rfl, -, a, cap, rfl, -⟩ := hp
  obtain ⟨sv, rfl, -, b, cap2, rfl, -⟩ := hq
  simp only at HF HBo
  generalize looserC (ss, f) (rs, d) = c1 at *
  generalize (looserP (ss, f) (rs, d)).isSome = lo at *
  generalize pointsE [(ss, f), (rs, d)] = pe at *
  generalize meetE true (ss, f) (rs, d) = me at *
  generalize meetR true (ss, f) (rs, d) = mr at *
  generalize deltaE (rs, d) (ss, f) = de at *
  generalize deltaR (rs, d) (ss, f) = dr at *
  generalize rs.length = n1 at *
  generalize ss.length = n2 at *
  clear hB
  obtain ⟨W3, hW3⟩ : ∃ W3, W3 = ((w.alloc (.cells #[.slice a n1 cap, .int .i64 d] 24)).alloc (.cells #[.slice b n2 cap2, .int .i64 f] 24)).alloc (.cells #[.slice none 0 0, .int .i64 0] 24) := ⟨_, rfl⟩
  have hs3 : W3.heap.size = w.heap.size + 1 + 1 + 1 := by rw [hW3]; simp
  have hb3 : Below w.heap.size w W3 := by rw [hW3]; exact (((Below.refl _ _).alloc (Nat.le_refl _) _).alloc (by simp) _).alloc (by simp; omega) _
  have g0 : W3.heap[w.heap.size]? = some (.cells #[.slice a n1 cap, .int .i64 d] 24 (0, 0)) := by
    rw [hW3]
    exact heap_kept' _ (heap_kept' _ (heap_at _ _ rfl))
  have g1 : W3.heap[w.heap.size + 1]? = some (.cells #[.slice b n2 cap2, .int .i64 f] 24 (0, 0)) := by
    rw [hW3]
    exact heap_kept' _ (heap_at _ _ (by simp only [World.size_alloc]))
  have g2 : W3.heap[w.heap.size + 1 + 1]? = some (.cells #[.slice none 0 0, .int .i64 0] 24 (0, 0)) := by
    rw [hW3]
    exact heap_at _ _ (by simp only [World.size_alloc])
  have HG : Hid (∀ w', Below W3.heap.size W3 w' → w'.heap[w.heap.size]? = some (.cells #[.slice a n1 cap, .int .i64 d] 24 (0, 0)) ∧ w'.heap[w.heap.size + 1]? = some (.cells #[.slice b n2 cap2, .int .i64 f] 24 (0, 0)) ∧ w'.heap[w.heap.size + 1 + 1]? = some (.cells #[.slice none 0 0, .int .i64 0] 24 (0, 0))) := fun w' h => ⟨(h.block _ (by omega)).trans g0, (h.block _ (by omega)).trans g1, (h.block _ (by omega)).trans g2⟩
  have HW : Hid (W3 = _) := hW3
  clear hW3 g0 g1 g2
  go_enter Tryz.func156, Tryz.ntmps156
  go_wp2_with fail
  rw [← HW.out]
  go_at_call 189
  refine Calls.mono (HF.out _ hb3) ?_
  rintro e w4 ⟨rfl, hb4⟩
  have hs4 := hb4.size
  have hb4w : Below w.heap.size w w4 := Below.thenOf hb3 hb4 hb3.size
  obtain ⟨g0, g1, g2⟩ := HG.out w4 hb4
  have l2 : w.heap.size + 1 + 1 < w4.heap.size := by omega
  have z0 := heap_cell g2 0 rfl
  have z1 := heap_cell g2 1 rfl
  have zf0 : w4.frozen? ⟨w.heap.size + 1 + 1, 0, none⟩ = false := by simp [World.frozen?, g2]
  have zf1 : w4.frozen? ⟨w.heap.size + 1 + 1, 1, none⟩ = false := by simp [World.frozen?, g2]
  have y0 := heap_cell g0 0 rfl
  have y1 := heap_cell g0 1 rfl
  have x0 := heap_cell g1 0 rfl
  have x1 := heap_cell g1 1 rfl
  have l0 : w.heap.size < w4.heap.size := by omega
  have l1 : w.heap.size + 1 < w4.heap.size := by omega
  have hb4a : ∀ X, Below w.heap.size w (w4.alloc X) := fun X => hb4w.alloc hb4w.size X
  have hb4W : ∀ X, Below W3.heap.size W3 (w4.alloc X) := fun X => hb4.alloc hs4 X
  have HB4 : Hid _ := hb4a
  have HB4w : Hid (Below w.heap.size w w4) := hb4w
  have HB4W : Hid _ := hb4W
  clear g0 g1 g2 HF hb4a hb4W hb4 hb4w hs4
  by_cases hz : pe = 0
  · subst hz
    cases lo with
    | true =>
      have HR : Hid (de = 7 ∧ dr = ([], 0)) := by
        have e : de = 7 := by rw [HDE.out]; rfl
        exact ⟨e, by rw [HDR.out, if_neg (by rw [e]; decide)]⟩
      clear HDE HDR HBo
      go_wp2_with fail
      refine bodyPost_ret (v := .tuple #[.agg #[.slice none 0 0, .int .i64 0], .int .i64 7]) ?_ rfl ⟨_, by rw [HR.out.1], by rw [HR.out.2]; exact zeroPol _ _, ?_⟩
      · rw [results_cell_tmp rfl]
        go_simp
      · repeat (first | exact HB4w.out | refine Below.setCell ?_ (by show w.heap.size ≤ w.heap.size + 1 + 1; omega) _ | refine Below.alloc ?_ (by simp; omega) _)
    | false =>
      have HDE' : Hid (de = if me = 0 then pointsE [mr] else me) := by unfold Hid; rw [HDE.out]; rfl
      clear HDE
      go_wp2_with fail
      go_at_call 190
      refine Calls.mono (HBo.out _ (HB4.out _)) ?_
      rintro e w5 ⟨dv, rfl, hpd, hb5⟩
      have hs5 := hb5.size
      rw [World.size_alloc] at hs5
      have hb5w : Below w.heap.size w w5 := Below.thenOf (HB4.out _) hb5 (HB4.out _).size
      obtain ⟨-, -, g2⟩ := HG.out w5 (Below.thenOf (HB4W.out _) hb5 (HB4W.out _).size)
      have hb5a : ∀ X, Below w5.heap.size w5 (w5.alloc X) := fun X => (Below.refl _ _).alloc (Nat.le_refl _) X
      have HSh : Hid (∀ X, Calls Tryz.prog 191 #[dv] (w5.alloc X) fun e w' => ∃ rv, e = .returned (.tuple #[rv, .int .i64 (pointsE [mr])]) ∧ PolAt w'.heap.size w' rv (shortR mr) ∧ RowFrom (w5.alloc X).heap.size rv ∧ Below (w5.alloc X).heap.size (w5.alloc X) w') := fun X => shorter_new w5.heap.size dv mr (w5.alloc X) (hpd.later (hb5a X) (Nat.le_refl _)) (hb5a X).size
      have HSR : Hid (shortR mr = if pointsE [mr] = 0 then shortP mr else ([], 0)) := rfl
      obtain ⟨ms, md⟩ := mr
      obtain ⟨rv, rfl, -, a5, c5, rfl, -⟩ := hpd
      simp only at HSh
      generalize ms.length = n5 at *
      generalize pointsE [(ms, md)] = pm at *
      generalize hsr : shortR (ms, md) = sr at *
      have hsrH : Hid (shortR (ms, md) = sr) := hsr
      clear hsr
      have z0 := heap_cell g2 0 rfl
      have z1 := heap_cell g2 1 rfl
      have zf0 : w5.frozen? ⟨w.heap.size + 1 + 1, 0, none⟩ = false := by simp [World.frozen?, g2]
      have zf1 : w5.frozen? ⟨w.heap.size + 1 + 1, 1, none⟩ = false := by simp [World.frozen?, g2]
      have l2 : w.heap.size + 1 + 1 < w5.heap.size := by omega
      have HB5 : Hid _ := hb5w
      have HG2 : Hid _ := g2
      clear HB4 HB4W hb5 hb5w g2 HBo
      by_cases hm : me = 0
      · subst hm
        have HR : Hid (de = pm ∧ dr = sr) := by
          have e : de = pm := by rw [HDE'.out]; rfl
          refine ⟨e, ?_⟩
          rw [HDR.out, e, HSR.out]
        clear HDE' HDR HSR
        go_wp2_with fail
        go_at_call 191
        refine Calls.mono (HSh.out _) ?_
        rintro e w6 ⟨sv, rfl, hps, hrow, hb6⟩
        have hs6 := hb6.size
        rw [World.size_alloc] at hs6 hrow
        have b6 : w6.heap[w.heap.size + 1 + 1]? = some (.cells #[.slice none 0 0, .int .i64 0] 24 (0, 0)) := (hb6.block _ (by simp; omega)).trans ((Below.heap_alloc _ _ _ (by omega)).trans HG2.out)
        have hb6w : Below w.heap.size w w6 := Below.thenOf (HB5.out.alloc HB5.out.size _) hb6 (by simp; omega)
        have q0 := heap_cell b6 0 rfl
        have q1 := heap_cell b6 1 rfl
        have qf0 : w6.frozen? ⟨w.heap.size + 1 + 1, 0, none⟩ = false := by simp [World.frozen?, b6]
        have qf1 : w6.frozen? ⟨w.heap.size + 1 + 1, 1, none⟩ = false := by simp [World.frozen?, b6]
        have HPs : Hid _ := hps
        obtain ⟨ts, td⟩ := sr
        obtain ⟨rv, e1, -, a6, c6, e2, -⟩ := hps
        subst e2 e1
        simp only at HPs hrow
        generalize ts.length = n6 at *
        have HRow : Hid (∀ (b o n c : Nat) (d : Value), Value.agg #[.slice a6 n6 c6, .int .i64 td] = .agg #[.slice (some ⟨b, o, none⟩) n c, d] → b ≠ w.heap.size + 1 + 1) := fun b o n c d h => by
          have := hrow b o n c d h
          omega
        have HB6 : Hid _ := hb6w
        have Hb6 : Hid _ := b6
        clear hrow hb6 hb6w b6 HSh z0 z1 zf0 zf1
        go_wp2_with fail
        refine bodyPost_ret (v := .tuple #[.agg #[.slice a6 n6 c6, .int .i64 td], .int .i64 pm]) ?_ rfl ⟨_, by rw [HR.out.1], ?_, ?_⟩
        · rw [results_cell_tmp rfl]
          go_simp
        · rw [HR.out.2]
          have h0 : PolAt w6.heap.size w6 (.agg #[.slice a6 n6 c6, .int .i64 td]) (ts, td) := HPs.out
          have h := (h0.setBox (j := 0) (u := .slice a6 n6 c6) Hb6.out HRow.out).setBox (j := 1) (u := .int .i64 td) (row_setCell Hb6.out) HRow.out
          simpa using h
        · exact (HB6.out.setCell (p := ⟨w.heap.size + 1 + 1, 0, none⟩) (by show w.heap.size ≤ w.heap.size + 1 + 1; omega) _).setCell (p := ⟨w.heap.size + 1 + 1, 1, none⟩) (by show w.heap.size ≤ w.heap.size + 1 + 1; omega) _
      · have HR : Hid (de = me ∧ dr = ([], 0)) := by
          have e : de = me := by rw [HDE'.out, if_neg hm]
          exact ⟨e, by rw [HDR.out, if_neg (by rw [e]; exact hm)]⟩
        have hq : (me != 0) = true := by simpa using hm
        clear HDE' HDR HSR hm HSh
        go_wp2_with fail
        refine bodyPost_ret (v := .tuple #[.agg #[.slice none 0 0, .int .i64 0], .int .i64 me]) ?_ rfl ⟨_, by rw [HR.out.1], by rw [HR.out.2]; exact zeroPol _ _, ?_⟩
        · rw [results_cell_tmp rfl]
          go_simp
        · repeat (first | exact HB5.out | refine Below.setCell ?_ (by show w.heap.size ≤ w.heap.size + 1 + 1; omega) _ | refine Below.alloc ?_ (by simp; omega) _)
  · have HR : Hid (de = pe ∧ dr = ([], 0)) := by
      have e : de = pe := by rw [HDE.out, if_neg hz]
      exact ⟨e, by rw [HDR.out, if_neg (by rw [e]; exact hz)]⟩
    have hq : (pe != 0) = true := by simpa using hz
    have hq2 : (pe == 0) = false := by simpa using hz
    clear HDE HDR HBo hz
    go_wp2_with fail
    refine bodyPost_ret (v := .tuple #[.agg #[.slice none 0 0, .int .i64 0], .int .i64 pe]) ?_ rfl ⟨_, by rw [HR.out.1], by rw [HR.out.2]; exact zeroPol _ _, ?_⟩
    · rw [results_cell_tmp rfl]
      go_simp
    · repeat (first | exact HB4w.out | refine Below.setCell ?_ (by show w.heap.size ≤ w.heap.size + 1 + 1; omega) _ | refine Below.alloc ?_ (by simp; omega) _)

end Go.Proofs.YtbdlojnigflanacGreatDoor
end
section
/- What the counterpart's Filter says of a policy: the same. -/
set_option linter.all false
set_option maxRecDepth 100000
namespace Go.Proofs.YtbdlojnigflanacGreatDoor
open Go.RowKit Go.Maps

/-- A literal of instructions, appended to a row of one's own. -/
theorem wpList_app {ops : Array Oper} {rest : List Oper} {o : Oper} {a : Act} {Q : Exit → Act → World → Prop} (w : World) (hgd : o.guard = none) (s x : Operand)
    (hop : o.op = .call { callee := .builtin .append, args := #[s, x], argTypes := #[81, 81] })
    (base : Nat) (v : Value) (n : Nat) (xs : List Value) (hs : a.eval s = v) (g : Nat) (rs : List InsT) (hx : a.eval x = .slice (some ⟨g, 0, none⟩) rs.length rs.length)
    (W : World) (hw : w = W.alloc (.cells (insCells rs).toArray 86)) (hg : g = W.heap.size) (wo : World) (hb : Below wo.heap.size wo W) (hown : wo.ownsRow base 86 4 v n xs) (hn : n + rs.length ≤ 4000000) (hbase : base ≤ wo.heap.size)
    (h : ∀ v' w', Hid (w'.ownsRow base 86 4 v' (n + rs.length) (xs ++ insCells rs)) → Below base wo w' → ButT 86 wo w' → wpList Tryz.prog ops Q rest (a.put o.dst v') w') : wpList Tryz.prog ops Q (o :: rest) a w := by
  obtain ⟨inf, hi1, hi2, hi3, hi4⟩ := infoIns
  subst hw
  subst hg
  have hbX : Below wo.heap.size wo (W.alloc (.cells (insCells rs).toArray 86)) := hb.alloc hb.size _
  obtain ⟨v', W', r1, r2, r3, r4⟩ := app_own (P := Tryz.prog) Tryz.underlying81 hi1 hi2 hi3 hi4 rfl (by decide) base o.type v n rs.length W.heap.size xs (insCells rs) _ (ownsRow_below hown hbX) (heap_made _ _) (insCells_length rs) (insCells_one _) (by rw [maxLen_eq]; omega) (by omega) (Nat.le_trans hbase hbX.size) rs.length
  exact Lib.wpList_append_run _ hgd s x _ _ hop _ _ hs hx _ _ r1 (h v' W' r2 ((hbX.mono hbase).trans r3) ((ButT.of_below hbX).trans r4))

set_option maxHeartbeats 8000000 in
theorem filter_any (B : Nat) (pv : Value) (p : PolT) (w : World) (hp : PolAt B w pv p) (hB : B ≤ w.heap.size) :
    Calls Tryz.prog 100 #[pv] w fun e w' => ∃ lv, e = .returned (.tuple #[lv, .int .i64 (compE p)]) ∧ w'.ownsRow w.heap.size 86 4 lv (compL p).length (insCells (compL p)) ∧ (∀ i ∈ compL p, insWf i) ∧ Below w.heap.size w w' := by
  have HP : Hid (∀ w', Below w.heap.size w w' → PolAt B w' pv p) := fun w' h => hp.later h hB
  have HCk : Hid (∀ w', Below w.heap.size w w' → Calls Tryz.prog 105 #[pv] w' fun e w'' => e = .returned (.int .i64 (polErr p)) ∧ Below w'.heap.size w' w'') := fun w' h => checkPolicy_any B pv p w' (hp.later h hB) (Nat.le_trans hB h.size)
  obtain ⟨rs, d⟩ := p
  obtain ⟨rv, epv, hd, a, cap, erv, hlc, hcm, hrest⟩ := hp
  clear hrest
  simp only at epv erv hlc hd
  subst erv
  subst epv
  have hml := maxLen_eq
  have hb1 : ∀ X, Below w.heap.size w (w.alloc X) := fun X => (Below.refl _ _).alloc (Nat.le_refl _) _
  by_cases h0 : polErr (rs, d) = 0
  case neg =>
    have HE : Hid (compE (rs, d) = polErr (rs, d) ∧ compL (rs, d) = []) := by
      have e : compE (rs, d) = polErr (rs, d) := by rw [compE, if_neg h0]
      refine ⟨e, ?_⟩
      rw [compL, if_neg (by rw [e]; exact h0)]
    have hq : (polErr (rs, d) != 0) = true := by simpa using h0
    clear h0
    generalize polErr (rs, d) = pe at *
    go_enter Tryz.func100, Tryz.ntmps100
    go_wp2_with (first | (go_at_call 105; go_must (refine Calls.mono (HCk.out _ (hb1 _)) ?_; rintro e w1 ⟨rfl, hbb⟩)))
    go_ret2
    rw [HE.out.1, HE.out.2]
    exact ⟨_, rfl, ⟨rfl, .inl ⟨rfl, rfl⟩⟩, (fun i h => by cases h), Below.thenOf (hb1 _) hbb (by simp)⟩
  case pos =>
    obtain ⟨hn120, hvd, hre⟩ := polErr_ok h0
    simp only [] at hn120 hvd hre
    have HR : Hid (∀ r ∈ rs, ruleErr r = 0) := rulesErr_all hre
    have HW : Hid (∀ i ∈ polI (rs, d), insWf i) := polI_wf h0
    have HE : Hid (compE (rs, d) = if 1500 < (polI (rs, d)).length then 2 else 0) := by unfold Hid; rw [compE, if_pos h0]
    have HLk : Hid (∀ k, k ≤ rs.length → (rulesI (rs.take k)).length ≤ 2520) := fun k hk => by
      have := rulesI_len (rs.take k) fun r hr => HR.out r (List.mem_of_mem_take hr)
      rw [List.length_take] at this
      omega
    rw [h0] at HCk
    clear h0 hre hvd hd
    generalize hlen : rs.length = len at *
    have hlenH : Hid (rs.length = len) := hlen
    clear hlen
    go_enter Tryz.func100, Tryz.ntmps100
    go_wp2_with (first | (go_at_call 105; go_must (refine Calls.mono (HCk.out _ (hb1 _)) ?_; rintro e w1 ⟨rfl, hbb⟩; have hPb := (hbb.block w.heap.size (by simp)).trans (heap_made w _); have p0 := heap_cell hPb 0 rfl; have p1 := heap_cell hPb 1 rfl)))
    have hB1 : Below w.heap.size w w1 := Below.thenOf (hb1 _) hbb (by simp)
    have hs1 : w.heap.size < w1.heap.size := lt_of_block hPb
    clear p0 p1 hbb
    go_loopw [5, 21] (fun nv iv wr => ∃ k : Nat, k ≤ len ∧ iv = .int .i64 k ∧ Hid (wr.ownsRow w.heap.size 86 4 nv (rulesI (rs.take k)).length (insCells (rulesI (rs.take k)))) ∧ Below w.heap.size w wr ∧ Hid (ButT 86 w1 wr) ∧ w.heap.size < wr.heap.size) (fun _ iv _ => len - (intOf iv).toNat)
    case atStart => exact ⟨0, by omega, rfl, ⟨rfl, .inl ⟨rfl, rfl⟩⟩, hB1, ButT.refl _ _, hs1⟩
    case round =>
      obtain ⟨k, hk, rfl, HOr, hbr, hbt, hsr⟩ := hrel
      obtain ⟨wo, hwo⟩ : ∃ x, x = wr := ⟨_, rfl⟩
      subst hwo
      have i0 : (0 : Int) ≤ (k : Int) := by omega
      have hPbo := hbt.out _ _ _ _ hPb (by decide)
      have hos := hbr.size
      have hlk := HLk.out k hk
      by_cases hlt : k < len
      · have i1 : (k : Int) < (len : Int) := by omega
        obtain ⟨r, hrk⟩ : ∃ r, rs[k]? = some r := ⟨rs[k]'(by rw [hlenH.out]; omega), by simp⟩
        have hrok := ruleErr_ok (HR.out r (List.mem_of_getElem? hrk))
        have hr10 := hrok.1
        have HCs : Hid (∀ c ∈ r.1, condErr c = 0) := condsErr_all hrok.2.2
        clear hrok
        obtain ⟨_, e0, -, _, _, e1, -, -, hat⟩ := HP.out _ hbr
        obtain ⟨b, o, e, hbB, cv, hc0, hc1, _, hcv⟩ := hat k r hrk
        simp at e0
        subst e0
        simp at e1
        obtain ⟨rfl, -, -⟩ := e1
        subst e
        clear hat
        have HT : Hid (rulesI (rs.take (k + 1)) = rulesI (rs.take k) ++ ruleI r) := rulesI_take rs k r hrk
        have HCv : Hid (∀ w', Below w.heap.size wo w' → CondsAt B w' cv r.1) := fun w' h => hcv.later h hB
        obtain ⟨a2, c2, ecv, hm2c, hc2m, -⟩ := hcv
        subst ecv
        obtain ⟨cs, vd⟩ := r
        simp only [] at hr10 hc0 hc1 hm2c HCs HCv
        obtain ⟨m2, hm2⟩ : ∃ m2, m2 = cs.length := ⟨_, rfl⟩
        have hm2H : Hid (cs.length = m2) := hm2.symm
        rw [← hm2] at hc0 hm2c hr10 HCv
        clear hm2
        obtain ⟨W2, hW2⟩ : ∃ W2, W2 = wo.alloc (.cells #[.slice a2 m2 c2, .int .i64 vd] 95) := ⟨_, rfl⟩
        have hb2 : Below wo.heap.size wo W2 := by rw [hW2]; exact (Below.refl _ _).alloc (Nat.le_refl _) _
        have hRb : W2.heap[wo.heap.size]? = some (.cells #[.slice a2 m2 c2, .int .i64 vd] 95 (0, 0)) := by rw [hW2]; exact heap_made _ _
        have HB2 : Hid (Below w.heap.size wo W2) := hb2.mono hos
        have HT2 : Hid (ButT 86 w1 W2) := hbt.out.trans (ButT.of_below hb2)
        have HO2 : Hid (W2.ownsRow w.heap.size 86 4 u5 ((rulesI (rs.take k)).length + 2 * 0) (insCells (rulesI (rs.take k)) ++ insCells ((condsI cs).take (2 * 0)))) := by
          have := ownsRow_below HOr.out hb2
          unfold Hid
          simpa [insCells] using this
        have hs2 := lt_of_block hRb
        obtain ⟨n0, hn0⟩ : ∃ n0, n0 = (rulesI (rs.take k)).length := ⟨_, rfl⟩
        obtain ⟨ys, hys⟩ : ∃ ys, ys = insCells (rulesI (rs.take k)) := ⟨_, rfl⟩
        have hn0H : Hid (n0 = (rulesI (rs.take k)).length) := hn0
        have hysH : Hid (ys = insCells (rulesI (rs.take k))) := hys
        rw [← hn0, ← hys] at HO2
        rw [← hn0] at hlk
        clear hn0 hys
        clear hPbo hb2
        go_wp2_with fail
        rw [← hW2]
        clear hW2
        go_loopw [5, 33] (fun nv jv wr => ∃ j : Nat, j ≤ m2 ∧ jv = .int .i64 j ∧ Hid (wr.ownsRow w.heap.size 86 4 nv (n0 + 2 * j) (ys ++ insCells ((condsI cs).take (2 * j)))) ∧ Below w.heap.size wo wr ∧ Hid (ButT 86 W2 wr) ∧ wo.heap.size < wr.heap.size) (fun _ jv _ => m2 - (intOf jv).toNat)
        case atStart => exact ⟨0, by omega, rfl, HO2, HB2.out, ButT.refl _ _, hs2⟩
        case round =>
          obtain ⟨j, hj, rfl, HOi, hbi, hti, hsi⟩ := hrel
          obtain ⟨wi, hwi⟩ : ∃ x, x = wr := ⟨_, rfl⟩
          subst hwi
          have j0 : (0 : Int) ≤ (j : Int) := by omega
          have hRbi := hti.out _ _ _ _ hRb (by decide)
          have hbwi : w.heap.size ≤ wi.heap.size := by omega
          by_cases hlj : j < m2
          · have j1 : (j : Int) < (m2 : Int) := by omega
            obtain ⟨c, hck⟩ : ∃ c, cs[j]? = some c := ⟨cs[j]'(by rw [hm2H.out]; omega), by simp⟩
            have hcok := condErr_ok (HCs.out c (List.mem_of_getElem? hck))
            have hcop := hcok.2.1
            clear hcok
            obtain ⟨_, _, e1, -, -, hat⟩ := HCv.out _ hbi
            obtain ⟨b3, o3, e, hbB3, k0, k1, k2, _⟩ := hat j c hck
            simp at e1
            obtain ⟨rfl, -, -⟩ := e1
            subst e
            clear hat
            obtain ⟨lf, hlf⟩ : ∃ lf : Int, lf = 2 * ((m2 : Int) - j - 1) + 1 := ⟨_, rfl⟩
            have hlf' : 2 * (m2 : Int) + 1 - 2 * (j : Int) - 2 = lf := by omega
            have hlw : IntKind.i64.wrap (2 * (m2 : Int) + 1 - 2 * (j : Int) - 2) = lf := by rw [hlf']; exact IntWalk.i64_in _ (by omega)
            have HTj : Hid ((condsI cs).take (2 * (j + 1)) = (condsI cs).take (2 * j) ++ [(1, c.1, 0, 0), askI c lf]) := by
              have := condsI_take cs j c hck
              rw [hm2H.out, ← hlf] at this
              exact this
            clear hlf
            obtain ⟨f, op, v⟩ := c
            simp only [] at k0 k1 k2 hcop HTj
            have hop4 : op = 1 ∨ op = 2 ∨ op = 3 ∨ op = 4 := by omega
            clear hcop hRbi hck
            rcases hop4 with rfl | rfl | rfl | rfl
            · go_wp2_with (first | (at_builtin; go_must (refine wpList_app _ rfl _ _ rfl w.heap.size _ _ _ rfl _ [(1, f, 0, 0), (2, v, 0, lf)] rfl _ rfl (by simp) wi (by repeat (first | exact Below.refl _ _ | refine Below.setCell ?_ (by simp) _ | refine Below.alloc ?_ (by simp) _)) HOi.out (by simp; omega) hbwi ?_; intro v9 w9 HO9 hb9 ht9)))
              have hs9 := hb9.size
              refine ⟨⟨j + 1, by omega, by go_num, ?_, hbi.trans hb9, hti.out.trans ht9, by omega⟩, by simp [intOf]; omega⟩
              unfold Hid
              rw [HTj.out, insCells_append, ← List.append_assoc]
              exact HO9.out
            · go_wp2_with (first | (at_builtin; go_must (refine wpList_app _ rfl _ _ rfl w.heap.size _ _ _ rfl _ [(1, f, 0, 0), (2, v, lf, 0)] rfl _ rfl (by simp) wi (by repeat (first | exact Below.refl _ _ | refine Below.setCell ?_ (by simp) _ | refine Below.alloc ?_ (by simp) _)) HOi.out (by simp; omega) hbwi ?_; intro v9 w9 HO9 hb9 ht9)))
              have hs9 := hb9.size
              refine ⟨⟨j + 1, by omega, by go_num, ?_, hbi.trans hb9, hti.out.trans ht9, by omega⟩, by simp [intOf]; omega⟩
              unfold Hid
              rw [HTj.out, insCells_append, ← List.append_assoc]
              exact HO9.out
            · go_wp2_with (first | (at_builtin; go_must (refine wpList_app _ rfl _ _ rfl w.heap.size _ _ _ rfl _ [(1, f, 0, 0), (3, v, 0, lf)] rfl _ rfl (by simp) wi (by repeat (first | exact Below.refl _ _ | refine Below.setCell ?_ (by simp) _ | refine Below.alloc ?_ (by simp) _)) HOi.out (by simp; omega) hbwi ?_; intro v9 w9 HO9 hb9 ht9)))
              have hs9 := hb9.size
              refine ⟨⟨j + 1, by omega, by go_num, ?_, hbi.trans hb9, hti.out.trans ht9, by omega⟩, by simp [intOf]; omega⟩
              unfold Hid
              rw [HTj.out, insCells_append, ← List.append_assoc]
              exact HO9.out
            · go_wp2_with (first | (at_builtin; go_must (refine wpList_app _ rfl _ _ rfl w.heap.size _ _ _ rfl _ [(1, f, 0, 0), (3, v, lf, 0)] rfl _ rfl (by simp) wi (by repeat (first | exact Below.refl _ _ | refine Below.setCell ?_ (by simp) _ | refine Below.alloc ?_ (by simp) _)) HOi.out (by simp; omega) hbwi ?_; intro v9 w9 HO9 hb9 ht9)))
              have hs9 := hb9.size
              refine ⟨⟨j + 1, by omega, by go_num, ?_, hbi.trans hb9, hti.out.trans ht9, by omega⟩, by simp [intOf]; omega⟩
              unfold Hid
              rw [HTj.out, insCells_append, ← List.append_assoc]
              exact HO9.out
          · obtain rfl : j = m2 := by omega
            have t1 := heap_cell hRbi 1 rfl
            clear hRbi
            go_wp2_with (first | (at_builtin; go_must (refine wpList_app _ rfl _ _ rfl w.heap.size _ _ _ rfl _ [(4, vd, 0, 0)] rfl _ rfl (by simp) wi (by repeat (first | exact Below.refl _ _ | refine Below.setCell ?_ (by simp) _ | refine Below.alloc ?_ (by simp) _)) HOi.out (by simp; omega) hbwi ?_; intro v9 w9 HO9 hb9 ht9)))
            have hs9 := hb9.size
            refine ⟨⟨k + 1, by omega, by go_num, ?_, hbr.trans (hbi.trans hb9), HT2.out.trans (hti.out.trans ht9), by omega⟩, by simp [intOf]; omega⟩
            unfold Hid
            have h9 := HO9.out
            have e : (condsI cs).take (2 * j) = condsI cs := by rw [← hm2H.out]; exact condsI_all cs
            rw [HT.out, List.length_append, ruleI_length, ← hn0H.out, insCells_append, ← hysH.out]
            rw [e, List.append_assoc, ← insCells_append] at h9
            unfold ruleI
            simp only []
            rw [hm2H.out]
            exact h9
      · obtain rfl : k = len := by omega
        have p1 := heap_cell hPbo 1 rfl
        clear hPbo
        go_wp2_with (first | (at_builtin; go_must (refine wpList_app _ rfl _ _ rfl w.heap.size _ _ _ rfl _ [(4, d, 0, 0)] rfl _ rfl (by simp) wo (by repeat (first | exact Below.refl _ _ | refine Below.setCell ?_ (by simp) _ | refine Below.alloc ?_ (by simp) _)) HOr.out (by simp; omega) hos ?_; intro v9 w9 HO9 hb9 ht9; obtain ⟨a9, cap9, e9, h9c, h9m, -⟩ := ownsRow_caps HO9.out; subst e9)))
        all_goals
          have e : rs.take k = rs := List.take_of_length_le (by rw [hlenH.out]; omega)
          have hpl : (polI (rs, d)).length = (rulesI (rs.take k)).length + 1 := by rw [e]; unfold polI; simp
        · have hl : 1500 < (polI (rs, d)).length := by omega
          have HEE : compE (rs, d) = 2 ∧ compL (rs, d) = [] := by
            have e : compE (rs, d) = 2 := by rw [HE.out, if_pos hl]
            exact ⟨e, by rw [compL, if_neg (by rw [e]; decide)]⟩
          go_ret2
          rw [HEE.1, HEE.2]
          exact ⟨_, rfl, ⟨rfl, .inl ⟨rfl, rfl⟩⟩, (fun i h => by cases h), hbr.trans hb9⟩
        · have hl : ¬ 1500 < (polI (rs, d)).length := by omega
          have HEE : compE (rs, d) = 0 ∧ compL (rs, d) = polI (rs, d) := by
            have e : compE (rs, d) = 0 := by rw [HE.out, if_neg hl]
            exact ⟨e, by rw [compL, if_pos e]⟩
          go_ret2
          rw [HEE.1, HEE.2]
          refine ⟨_, rfl, ?_, HW.out, hbr.trans hb9⟩
          have h9 := HO9.out
          rw [← insCells_append] at h9
          rw [hpl]
          unfold polI
          simp only []
          rw [e] at h9 ⊢
          exact h9
end Go.Proofs.YtbdlojnigflanacGreatDoor
end
