/- What the program's own Compile says of a policy: the walk. -/
import Derived.Test.YtaggjjfandaknaaDoorCmp3
set_option linter.all false
set_option maxRecDepth 100000
namespace Go.Proofs.YtaggjjfandaknaaDoor
open Go.RowKit Go.Maps

set_option maxHeartbeats 4000000 in
theorem compile_any (B : Nat) (pv : Value) (p : PolT) (w : World) (hp : PolAt B w pv p) (hB : B ≤ w.heap.size) :
    Calls Tryd.prog 26 #[pv] w fun e w' => ∃ lv, e = .returned (.tuple #[lv, .int .i64 (compE p)]) ∧ w'.ownsRow w.heap.size 57 4 lv (compL p).length (insCells (compL p)) ∧ (∀ i ∈ compL p, insWf i) ∧ Below w.heap.size w w' := by
  obtain ⟨inf, hi1, hi2, hi3, hi4⟩ := infoIns
  have HP : Hid (∀ w', Below w.heap.size w w' → PolAt B w' pv p) := fun w' h => hp.later h hB
  have HCk : Hid (∀ w', Below w.heap.size w w' → Calls Tryd.prog 12 #[pv] w' fun e w'' => e = .returned (.int .i64 (polErr p)) ∧ Below w'.heap.size w' w'') := fun w' h => check_pol B pv p w' (hp.later h hB) (Nat.le_trans hB h.size)
  obtain ⟨rs, d⟩ := p
  obtain ⟨rv, epv, hd, a, cap, erv, hlc, hcm, hrest⟩ := hp
  clear hrest
  simp only at epv erv hlc hd
  subst erv
  subst epv
  have hml := maxLen_eq
  have hb1 : ∀ X, Below w.heap.size w (w.alloc X) := fun X => (Below.refl _ _).alloc (Nat.le_refl _) _
  by_cases h0 : polErr (rs, d) = 0
  case neg =>
    have HE : Hid (compE (rs, d) = polErr (rs, d) ∧ compL (rs, d) = []) := by
      have e : compE (rs, d) = polErr (rs, d) := by rw [compE, if_neg h0]
      refine ⟨e, ?_⟩
      rw [compL, if_neg (by rw [e]; exact h0)]
    have hq : (polErr (rs, d) != 0) = true := by simpa using h0
    clear h0
    generalize polErr (rs, d) = pe at *
    go_enter Tryd.func26, Tryd.ntmps26
    go_wp2_with (first | (go_at_call 12; go_must (refine Calls.mono (HCk.out _ (hb1 _)) ?_; rintro e w1 ⟨rfl, hbb⟩)))
    go_ret2
    rw [HE.out.1, HE.out.2]
    exact ⟨_, rfl, ⟨rfl, .inl ⟨rfl, rfl⟩⟩, (fun i h => by cases h), Below.thenOf (hb1 _) hbb (by simp)⟩
  case pos =>
    obtain ⟨hn120, hvd, hre⟩ := polErr_ok h0
    simp only [] at hn120 hvd hre
    have HR : Hid (∀ r ∈ rs, ruleErr r = 0) := rulesErr_all hre
    have HW : Hid (∀ i ∈ polI (rs, d), insWf i) := polI_wf h0
    have HCE : Hid (codeErr (polI (rs, d)) = if 1500 < (polI (rs, d)).length then 2 else 0) := codeErr_pol h0
    have HE : Hid (compE (rs, d) = if 1500 < (polI (rs, d)).length then 2 else 0) := by unfold Hid; rw [compE, if_pos h0]
    have HL : Hid ((rulesI rs).length ≤ 2520) := by have := rulesI_len rs HR.out; unfold Hid; omega
    have HLk : Hid (∀ k, k ≤ rs.length → (rulesI (rs.take k)).length ≤ 2520) := fun k hk => by
      have := rulesI_len (rs.take k) fun r hr => HR.out r (List.mem_of_mem_take hr)
      rw [List.length_take] at this
      omega
    rw [h0] at HCk
    clear h0 hre
    generalize hlen : rs.length = len at *
    have hlenH : Hid (rs.length = len) := hlen
    clear hlen
    go_enter Tryd.func26, Tryd.ntmps26
    go_wp2_with (first | (go_at_call 12; go_must (refine Calls.mono (HCk.out _ (hb1 _)) ?_; rintro e w1 ⟨rfl, hbb⟩; have hPb := (hbb.block w.heap.size (by simp)).trans (heap_made w _); have p0 := heap_cell hPb 0 rfl; have p1 := heap_cell hPb 1 rfl)))
    have hB1 : Below w.heap.size w w1 := Below.thenOf (hb1 _) hbb (by simp)
    have hs1 : w.heap.size < w1.heap.size := lt_of_block hPb
    clear p0 p1 hbb
    go_loopw [5, 17] (fun nv iv wr => ∃ k : Nat, k ≤ len ∧ iv = .int .i64 k ∧ Hid (wr.ownsRow w.heap.size 57 4 nv (rulesI (rs.take k)).length (insCells (rulesI (rs.take k)))) ∧ Below w.heap.size w wr ∧ Hid (ButT 57 w1 wr) ∧ w.heap.size < wr.heap.size) (fun _ iv _ => len - (intOf iv).toNat)
    case atStart => exact ⟨0, by omega, rfl, ⟨rfl, .inl ⟨rfl, rfl⟩⟩, hB1, ButT.refl _ _, hs1⟩
    case round =>
      obtain ⟨k, hk, rfl, HOr, hbr, hbt, hsr⟩ := hrel
      obtain ⟨wo, hwo⟩ : ∃ x, x = wr := ⟨_, rfl⟩
      subst hwo
      have i0 : (0 : Int) ≤ (k : Int) := by omega
      have hPbo := hbt.out _ _ _ _ hPb (by decide)
      have hos := hbr.size
      have hlk := HLk.out k hk
      by_cases hlt : k < len
      · have i1 : (k : Int) < (len : Int) := by omega
        obtain ⟨r, hrk⟩ : ∃ r, rs[k]? = some r := ⟨rs[k]'(by rw [hlenH.out]; omega), by simp⟩
        have hr10 := (ruleErr_ok (HR.out r (List.mem_of_getElem? hrk))).1
        obtain ⟨_, e0, -, _, _, e1, -, -, hat⟩ := HP.out _ hbr
        obtain ⟨b, o, e, hbB, cv, hc0, hc1, _, hcv⟩ := hat k r hrk
        simp at e0
        subst e0
        simp at e1
        obtain ⟨rfl, -, -⟩ := e1
        subst e
        clear hat
        have HT : Hid (rulesI (rs.take (k + 1)) = rulesI (rs.take k) ++ ruleI r) := rulesI_take rs k r hrk
        obtain ⟨W2, hW2⟩ : ∃ W2, W2 = wo.alloc (.cells #[cv, .int .i64 r.2] 41) := ⟨_, rfl⟩
        have hb2 : Below wo.heap.size wo W2 := by rw [hW2]; exact (Below.refl _ _).alloc (Nat.le_refl _) _
        have HB2 : Below w.heap.size w W2 := Below.thenOf hbr hb2 hos
        have HAR : Hid (Calls Tryd.prog 60 #[u5, .agg #[cv, .int .i64 r.2]] W2 fun e w' => ∃ v', e = .returned v' ∧ w'.ownsRow w.heap.size 57 4 v' ((rulesI (rs.take k)).length + (ruleI r).length) (insCells (rulesI (rs.take k)) ++ insCells (ruleI r)) ∧ Below w.heap.size W2 w' ∧ ButT 57 W2 w') := appendRule_any B w.heap.size u5 cv _ _ r W2 (ownsRow_below HOr.out hb2) (hcv.later hb2 (Nat.le_trans hB hos)) hB HB2.size (by omega) hr10
        have HBB : Hid (Below w.heap.size w W2) := HB2
        have HT2 : Hid (ButT 57 w1 W2) := hbt.out.trans (ButT.of_below hb2)
        have hs2 := hb2.size
        obtain ⟨a2, c2, ecv, _⟩ := hcv
        subst ecv
        obtain ⟨m2, hm2⟩ : ∃ m2, m2 = r.1.length := ⟨_, rfl⟩
        rw [← hm2] at HAR hc0 hW2
        clear hm2 hPbo HB2 hb2
        go_wp2_with fail
        rw [← hW2]
        clear hW2
        go_at_call 60
        refine Calls.mono HAR.out ?_
        rintro e w3 ⟨v', rfl, ho3, hb3, ht3⟩
        have HO3 : Hid (w3.ownsRow w.heap.size 57 4 v' (rulesI (rs.take (k + 1))).length (insCells (rulesI (rs.take (k + 1))))) := by
          unfold Hid
          rw [HT.out, insCells_append, List.length_append]
          exact ho3
        have hb3' : Below w.heap.size w w3 := HBB.out.trans hb3
        have ht3' : Hid (ButT 57 w1 w3) := HT2.out.trans ht3
        have hs3 := hb3.size
        clear ho3 hb3 ht3
        go_wp2_with fail
        exact ⟨⟨k + 1, by omega, by go_num, HO3, hb3', ht3', by omega⟩, by simp [intOf]; omega⟩
      · obtain rfl : k = len := by omega
        have p1 := heap_cell hPbo 1 rfl
        have HAp : Hid (∀ W X, X = W.alloc (.cells #[.int .i64 4, .int .i64 d, .int .i64 0, .int .i64 0] 57) → Below wo.heap.size wo W → ∃ v' W', (Builtin.append_ #[52, 52] 52 #[u5, .slice (some ⟨W.heap.size, 0, none⟩) 1 1]).run Tryd.prog X = .ok v' W' ∧ Hid (W'.ownsRow w.heap.size 57 4 v' (polI (rs, d)).length (insCells (polI (rs, d)))) ∧ Below w.heap.size w W') := by
          intro W X hX hW
          have hbX : Below wo.heap.size wo X := by rw [hX]; exact hW.alloc hW.size _
          have hg : X.heap[W.heap.size]? = some (.cells (insCells [(4, d, 0, 0)]).toArray 57 (0, 0)) := by rw [hX]; exact heap_made _ _
          obtain ⟨v', W', r1, r2, r3, r4⟩ := app_own (P := Tryd.prog) Tryd.underlying52 hi1 hi2 hi3 hi4 rfl (by decide) w.heap.size 52 u5 _ 1 W.heap.size _ (insCells [(4, d, 0, 0)]) X (ownsRow_below HOr.out hbX) hg rfl (insCells_one _) (by omega) (by omega) (Nat.le_trans hos hbX.size) 1
          refine ⟨v', W', r1, ?_, (Below.thenOf hbr hbX hos).trans r3⟩
          unfold Hid
          have e : rs.take k = rs := List.take_of_length_le (by rw [hlenH.out]; omega)
          rw [e, ← insCells_append] at r2
          unfold polI
          rw [List.length_append]
          exact r2
        clear hPbo
        go_wp2_with (first | (go_at_call 61; go_must (refine Calls.mono (give_any _ _) ?_; rintro e w2 ⟨rfl, hb2⟩)) | (at_builtin; go_must (obtain ⟨v', W', hrun, q1, q2⟩ := HAp.out _ _ rfl hb2; refine Lib.wpList_append_run _ rfl _ _ _ _ rfl _ _ rfl rfl _ _ hrun ?_)))
        go_at_call 31
        have hcc := check_code W'.heap.size v' (polI (rs, d)) W' (inssAt_own q1.out HW.out) (Nat.le_refl _)
        rw [HCE.out] at hcc
        by_cases hl : 1500 < (polI (rs, d)).length
        · rw [if_pos hl] at hcc
          have HEE : Hid (compE (rs, d) = 2 ∧ compL (rs, d) = []) := by
            have e : compE (rs, d) = 2 := by rw [HE.out, if_pos hl]
            exact ⟨e, by rw [compL, if_neg (by rw [e]; decide)]⟩
          refine Calls.mono hcc ?_
          rintro e w5 ⟨rfl, hb5⟩
          clear hcc hl
          go_wp2_with fail
          go_ret2
          rw [HEE.out.1, HEE.out.2]
          exact ⟨_, rfl, ⟨rfl, .inl ⟨rfl, rfl⟩⟩, (fun i h => by cases h), Below.thenOf q2 hb5 q2.size⟩
        · rw [if_neg hl] at hcc
          have HEE : Hid (compE (rs, d) = 0 ∧ compL (rs, d) = polI (rs, d)) := by
            have e : compE (rs, d) = 0 := by rw [HE.out, if_neg hl]
            exact ⟨e, by rw [compL, if_pos e]⟩
          refine Calls.mono hcc ?_
          rintro e w5 ⟨rfl, hb5⟩
          clear hcc hl
          go_wp2_with fail
          go_ret2
          rw [HEE.out.1, HEE.out.2]
          exact ⟨_, rfl, ownsRow_below q1.out hb5, HW.out, Below.thenOf q2 hb5 q2.size⟩
end Go.Proofs.YtaggjjfandaknaaDoor
