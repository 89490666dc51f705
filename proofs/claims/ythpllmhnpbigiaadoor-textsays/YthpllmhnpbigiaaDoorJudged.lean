/- What the counterpart's Judged says of a right policy: as the program's own Judge. -/
import Derived.Test.YthpllmhnpbigiaaDoorJud3
import Derived.Test.YthpllmhnpbigiaaDoorHolds
set_option linter.all false
namespace Go.Proofs.YthpllmhnpbigiaaDoor
open Go.RowKit Go.Maps

def backAt (p : PolT) (x : Nat → Int) (m : Nat) : Int × Int := verdictAt p (firstAt (ruleOk x) m (p.1.drop m))
theorem backAt_end (p : PolT) (x : Nat → Int) : backAt p x p.1.length = (p.2, (p.1.length : Int)) := by
  unfold backAt
  rw [List.drop_eq_nil_of_le (Nat.le_refl _)]
  rfl
theorem backAt_step (p : PolT) (x : Nat → Int) (m : Nat) (r : RuleT) (h : p.1[m]? = some r) : backAt p x m = if ruleOk x r = true then (r.2, (m : Int)) else backAt p x (m + 1) := by
  unfold backAt
  rw [firstAt_step _ _ _ _ h]
  split
  · rw [verdictAt, if_neg (by omega)]
    simp [List.getD, h]
  · rfl
theorem all_take (f : CondT → Bool) (cs : List CondT) (j : Nat) (c : CondT) (h : cs[j]? = some c) : (cs.take (j + 1)).all f = ((cs.take j).all f && f c) := by
  rw [List.take_add_one, h, List.all_append]
  simp

set_option maxRecDepth 20000 in
set_option maxHeartbeats 4000000 in
theorem judged_any (B : Nat) (pv : Value) (p : PolT) (x : Nat → Int) (w : World) (hp : PolAt B w pv p) (hB : B ≤ w.heap.size) (hok : polErr p = 0) :
    Calls Tryd.prog 16 #[pv, callV x] w fun e w' => e = .returned (.tuple #[.int .i64 (verdictAt p (firstAt (ruleOk x) 0 p.1)).1, .int .i64 (verdictAt p (firstAt (ruleOk x) 0 p.1)).2]) ∧ Below w.heap.size w w' := by
  have hfin : Hid (verdictAt p (firstAt (ruleOk x) 0 p.1) = backAt p x 0) := rfl
  have hro : ∀ r ∈ p.1, ruleErr r = 0 := rulesErr_all (polErr_ok hok).2.2
  have hn120 := (polErr_ok hok).1
  obtain ⟨rs, d⟩ := p
  obtain ⟨rv, rfl, _, a, cap, rfl, hlc, hcm, hrs⟩ := hp
  simp only [] at hrs hlc hro hn120
  have hrs' : Hid (∀ (i : Nat) (r : RuleT), rs[i]? = some r → ∃ b o, a = some ⟨b, o, none⟩ ∧ b < B ∧ RuleAt B w b (o + i * 2) r) := hrs
  clear hrs
  have Hend : Hid (backAt (rs, d) x rs.length = (d, (rs.length : Int))) := backAt_end (rs, d) x
  have Hstep : Hid (∀ (m : Nat) r, rs[m]? = some r → backAt (rs, d) x m = if ruleOk x r = true then (r.2, (m : Int)) else backAt (rs, d) x (m + 1)) := fun m r h => backAt_step (rs, d) x m r h
  show Calls Tryd.prog 16 #[.agg #[.slice a rs.length cap, .int .i64 d], .agg #[.int .i64 (x 0), .int .i64 (x 1), .int .i64 (x 2), .int .i64 (x 3), .int .i64 (x 4)]] w _
  have HW : Hid (∀ w', Below (w.heap.size + 2) ((w.alloc (.cells #[.slice a rs.length cap, .int .i64 d] 24)).alloc (.cells #[.int .i64 (x 0), .int .i64 (x 1), .int .i64 (x 2), .int .i64 (x 3), .int .i64 (x 4)] 26)) w' → w'.cell? ⟨w.heap.size, 0, none⟩ = some (.slice a rs.length cap) ∧ XAt w' (w.heap.size + 1) x ∧ Below w.heap.size w w') := by
    intro w' h
    refine ⟨(h.cell (p := ⟨w.heap.size, 0, none⟩) (by simp)).trans (by simp [go_sem]), ?_, ?_⟩
    · have := (XAt.made x (w.alloc (.cells #[.slice a rs.length cap, .int .i64 d] 24)) 26)
      rw [World.size_alloc] at this
      exact this.later h (by omega)
    · exact (((Below.refl _ _).alloc (Nat.le_refl _) _).alloc (by simp) _).trans (h.mono (by omega))
  have HW0 : Below (w.heap.size + 2) ((w.alloc (.cells #[.slice a rs.length cap, .int .i64 d] 24)).alloc (.cells #[.int .i64 (x 0), .int .i64 (x 1), .int .i64 (x 2), .int .i64 (x 3), .int .i64 (x 4)] 26)) ((w.alloc (.cells #[.slice a rs.length cap, .int .i64 d] 24)).alloc (.cells #[.int .i64 (x 0), .int .i64 (x 1), .int .i64 (x 2), .int .i64 (x 3), .int .i64 (x 4)] 26)) := Below.refl _ _
  have HWs : w.heap.size + 2 ≤ ((w.alloc (.cells #[.slice a rs.length cap, .int .i64 d] 24)).alloc (.cells #[.int .i64 (x 0), .int .i64 (x 1), .int .i64 (x 2), .int .i64 (x 3), .int .i64 (x 4)] 26)).heap.size := by simp
  generalize hn : rs.length = n at *
  go_enter Tryd.func16, Tryd.ntmps16
  go_wp2
  go_quiet (fail)
  go_wp2
  go_loopw [8, 6, 7] (fun i vv kk wr => ∃ m : Nat, m ≤ n ∧ i = .int .i64 ((m : Int) - 1) ∧ vv = .int .i64 (backAt (rs, d) x m).1 ∧ kk = .int .i64 (backAt (rs, d) x m).2 ∧ Below (w.heap.size + 2) ((w.alloc (.cells #[.slice a n cap, .int .i64 d] 24)).alloc (.cells #[.int .i64 (x 0), .int .i64 (x 1), .int .i64 (x 2), .int .i64 (x 3), .int .i64 (x 4)] 26)) wr) (fun i _ _ _ => (intOf i + 1).toNat)
  case atStart =>
    refine ⟨n, by omega, by go_num, by rw [Hend.out], by rw [Hend.out], Below.drewN_ HW0 _⟩
  case round =>
    obtain ⟨m, hm, rfl, rfl, rfl, hbr⟩ := hrel
    obtain ⟨wo, hwo⟩ : ∃ x, x = wr := ⟨_, rfl⟩
    subst hwo
    obtain ⟨p0, hX, hbw⟩ := HW.out _ hbr
    have hX' : Hid (XAt wo (w.heap.size + 1) x) := hX
    clear hX
    by_cases hm0 : m = 0
    · subst hm0
      go_wp2
      go_ret2
      exact ⟨by rw [hfin.out]; rfl, hbw⟩
    · obtain ⟨k, rfl⟩ : ∃ k, m = k + 1 := ⟨m - 1, by omega⟩
      have e1 : ((k + 1 : Nat) : Int) - 1 = (k : Int) := by omega
      rw [e1]
      have i0 : (0 : Int) ≤ (k : Int) := by omega
      have i1 : (k : Int) < (n : Int) := by omega
      obtain ⟨r, hrk⟩ : ∃ r, rs[k]? = some r := ⟨rs[k]'(by omega), by simp⟩
      have hre := hro r (List.mem_of_getElem? hrk)
      have S := Hstep.out k r hrk
      have S' : Hid _ := S
      clear S
      obtain ⟨b, o, rfl, hbB, hat⟩ := hrs'.out k r hrk
      have hsz := hbw.size
      have hszo := hbr.size
      have hz2 : w.heap.size + 2 ≤ wo.heap.size := Nat.le_trans HWs hszo
      obtain ⟨cv, c0, c1, w0, hcon⟩ := hat.later hbw hB hbB
      obtain ⟨cs, vd⟩ := r
      obtain ⟨a2, cap2, rfl, hlc2, hcm2, hcs⟩ := hcon
      simp only [] at hcs hlc2 c0 c1
      have hce : ∀ c ∈ cs, condErr c = 0 := condsErr_all (ruleErr_ok hre).2.2
      have hcl : cs.length ≤ 10 := (ruleErr_ok hre).1
      have hcs' : Hid (∀ (i : Nat) (c : CondT), cs[i]? = some c → ∃ b o, a2 = some ⟨b, o, none⟩ ∧ b < B ∧ CondAt wo b (o + i * 3) c) := hcs
      clear hcs hat hrk
      have HA : Hid (ruleOk x (cs, vd) = (cs.take cs.length).all (condOk x)) := by unfold Hid ruleOk; simp
      generalize hmm : cs.length = m2 at *
      go_wp2
      go_loopw [32, 9] (fun i al wi => ∃ j : Nat, j ≤ m2 ∧ i = .int .i64 j ∧ al = .bool ((cs.take j).all (condOk x)) ∧ Below wo.heap.size wo wi) (fun i _ _ => m2 - (intOf i).toNat)
      case atStart => exact ⟨0, by omega, rfl, by simp, Below.refl _ _⟩
      case round =>
        obtain ⟨j, hj, rfl, rfl, hbi⟩ := hrel
        obtain ⟨wi, hwi⟩ : ∃ x, x = wr := ⟨_, rfl⟩
        subst hwi
        have j0 : (0 : Int) ≤ (j : Int) := by omega
        have hszi := hbi.size
        by_cases hlt : j < m2
        · have j1 : (j : Int) < (m2 : Int) := by omega
          obtain ⟨c, hcj⟩ : ∃ c, cs[j]? = some c := ⟨cs[j]'(by omega), by simp⟩
          have T := all_take (condOk x) cs j c hcj
          have T' : Hid _ := T
          clear T
          have hc0 := condErr_ok (hce c (List.mem_of_getElem? hcj))
          obtain ⟨b2, o2, rfl, hbB2, hat2⟩ := hcs'.out j c hcj
          clear hcj
          obtain ⟨f, op, v⟩ := c
          simp only [] at hc0
          obtain ⟨e0, e1, e2, w0, w1, w2⟩ := hat2.later hbi (by omega)
          simp only [] at e0 e1 e2
          clear hat2
          obtain ⟨kf, rfl⟩ : ∃ kf : Nat, f = kf := ⟨f.toNat, by omega⟩
          have f0 : (0 : Int) ≤ (kf : Int) := by omega
          have f1 : (kf : Int) < 5 := by omega
          have hop := hc0.2.1
          go_wp2
          have hC := cells3 (kf : Int) op v wi 63
          have hbW : Below wi.heap.size wi (wi.alloc (.cells #[.int .i64 (kf : Int), .int .i64 op, .int .i64 v] 63)) := (Below.refl _ _).alloc (Nat.le_refl _) _
          have hz : (wi.alloc (.cells #[.int .i64 (kf : Int), .int .i64 op, .int .i64 v] 63)).heap.size = wi.heap.size + 1 := by simp
          generalize wi.alloc (.cells #[.int .i64 (kf : Int), .int .i64 op, .int .i64 v] 63) = W at *
          have hne := Later.ne W
          have q0 : ∀ y : Later W, y.1.cell? ⟨wi.heap.size, 0, none⟩ = some (.int .i64 (kf : Int)) := fun y => y.cell hC.1 (by omega)
          have q1 : ∀ y : Later W, y.1.cell? ⟨wi.heap.size, 1, none⟩ = some (.int .i64 op) := fun y => y.cell hC.2.1 (by omega)
          have q2 : ∀ y : Later W, y.1.cell? ⟨wi.heap.size, 2, none⟩ = some (.int .i64 v) := fun y => y.cell hC.2.2 (by omega)
          have hXi : XAt W (w.heap.size + 1) x := (hX'.out.later hbi (by omega)).later hbW (by omega)
          have q3 : ∀ y : Later W, y.1.cell? ⟨w.heap.size + 1, kf, none⟩ = some (.int .i64 (x kf)) := fun y => y.cell (hXi kf (by omega)) (by omega)
          have hst : Hid (∀ wx, Below W.heap.size W wx → Below wo.heap.size wo wx) := fun wx hx => Below.thenOf (Below.thenOf hbi hbW hszi) hx (by omega)
          have hcO : Hid (condOk x ((kf : Int), op, v) = holdsB op v (x kf)) := by unfold Hid condOk; simp
          clear hC hXi
          by_cases hal : (cs.take j).all (condOk x) = true
          · rw [hal]
            refine wp_region_later (by kernel_rfl) (by kernel_rfl) ?_
            repeat (go_big_quiet_step (first | (go_at_call 46; exact Calls.later (holdsR_any _ _ _ _ hop _))))
            refine wpQuiet_nil ?_
            rintro wx ⟨⟨_, hx⟩, rfl⟩
            have g1 := hst.out wx hx
            clear q0 q1 q2 q3 hne
            go_wp2
            exact ⟨⟨j + 1, by omega, by go_num, by rw [T'.out, hal, hcO.out]; simp, g1⟩, by simp [intOf]; omega⟩
          · have hal' : (cs.take j).all (condOk x) = false := by simpa using hal
            rw [hal']
            clear hal
            refine wp_region_later (by kernel_rfl) (by kernel_rfl) ?_
            repeat (go_big_quiet_step (first | (go_at_call 46; exact Calls.later (holdsR_any _ _ _ _ hop _))))
            refine wpQuiet_nil ?_
            rintro wx ⟨⟨_, hx⟩, rfl⟩
            have g1 := hst.out wx hx
            clear q0 q1 q2 q3 hne
            go_wp2
            exact ⟨⟨j + 1, by omega, by go_num, by rw [T'.out, hal']; simp, g1⟩, by simp [intOf]; omega⟩
        · obtain rfl : j = m2 := by omega
          have hbwi := Below.thenOf hbr hbi hz2
          obtain ⟨p1, _, _⟩ := HW.out _ hbwi
          have d1 : wi.cell? ⟨b, o + k * 2 + 1, none⟩ = some (.int .i64 vd) := (hbi.cell (p := ⟨b, o + k * 2 + 1, none⟩) (by show b < _; omega)).trans c1
          by_cases hal : (cs.take j).all (condOk x) = true
          · have hS : Hid (backAt (rs, d) x k = (vd, (k : Int))) := by unfold Hid; rw [S'.out, if_pos (by rw [HA.out]; exact hal)]
            rw [hal]
            go_wp2
            exact ⟨⟨k, by omega, by go_num, by rw [hS.out], by rw [hS.out], hbwi⟩, by simp [intOf]⟩
          · have hal' : (cs.take j).all (condOk x) = false := by simpa using hal
            have hS : Hid (backAt (rs, d) x k = backAt (rs, d) x (k + 1)) := by unfold Hid; rw [S'.out, if_neg (by rw [HA.out]; exact hal)]
            rw [hal']
            clear hal
            go_wp2
            exact ⟨⟨k, by omega, by go_num, by rw [hS.out], by rw [hS.out], hbwi⟩, by simp [intOf]⟩

end Go.Proofs.YthpllmhnpbigiaaDoor
