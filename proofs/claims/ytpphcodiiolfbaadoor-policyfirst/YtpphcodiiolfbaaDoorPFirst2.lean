/- PolicyFirst: the walk. -/
import Derived.Test.YtpphcodiiolfbaaDoorPFirst
import Derived.Test.YtpphcodiiolfbaaDoorJudd
set_option linter.all false
set_option maxRecDepth 100000
namespace Go.Proofs.YtpphcodiiolfbaaDoor
open Go.RowKit Go.Maps

theorem few {k n nm : Nat} (h : k < n) (h2 : n ≤ 120) (h3 : (120 + nm) * 32 ≤ 140737488355328) : (min (k + 1) n + nm) * 32 ≤ 140737488355328 := by omega
def SCat (k : Nat) (v : Value) : Prop := if k = 11 then ∃ b : Nat, v = .pointer (some ⟨b, 0, none⟩) else if k = 10 then ∃ b : Nat, v = .pointer (some ⟨b, 0, none⟩) else ∃ a n cap, v = .slice a n cap
theorem sCat_some (k : Nat) : ∃ v, SCat k v := by
  unfold SCat
  split
  · exact ⟨_, 0, rfl⟩
  · split
    · exact ⟨_, 0, rfl⟩
    · exact ⟨_, none, 0, 0, rfl⟩
theorem ownsRow_slice {w : World} {base : Nat} {e : TypeId} {size n : Nat} {v : Value} {xs : List Value} (h : w.ownsRow base e size v n xs) : ∃ a n cap, v = .slice a n cap := by
  rcases h.2 with ⟨h, _⟩ | ⟨g, c, cur, h, _⟩
  · exact ⟨_, _, _, h⟩
  · exact ⟨_, _, _, h⟩

set_option maxHeartbeats 1600000 in
theorem policyFirst_any (B : Nat) (pv mv : Value) (p : PolT) (ms : List RuleT) (x : Nat → Int) (w : World) (he : EnvAt w) (hp : PolAt B w pv p) (hm : RulesAt B w mv ms) (hB : B ≤ w.heap.size) (hmn : (120 + ms.length) * 32 ≤ 140737488355328) :
    Calls Tryd.prog 4 #[pv, callV x, mv] w fun e w' => e = .returned (.bool true) ∧ Below w.heap.size w w' := by
  have HE : Hid (∀ w', Below w.heap.size w w' → Calls Tryd.prog 9 #[] w' fun e w'' => e = .returned (.bool true) ∧ Below w'.heap.size w' w'') := fun w' h => judged_true w' (he.later h)
  have HR : Hid (∀ w', Calls Tryd.prog 15 #[callV x] w' fun e w'' => e = .returned (callV (rx x)) ∧ Below w'.heap.size w' w'') := fun w' => right_any x w'
  have HJ : Hid (∀ B' qv (q : PolT) w', PolAt B' w' qv q → B' ≤ w'.heap.size → Calls Tryd.prog 7 #[qv, callV (rx x)] w' fun e w'' => e = .returned (.tuple #[.int .i64 (judgeP q (rx x)).1, .int .i64 (judgeP q (rx x)).2.1, .int .i64 (judgeP q (rx x)).2.2]) ∧ Below w'.heap.size w' w'') := fun B' qv q w' h hB' => judge_any B' qv q (rx x) w' h hB'
  have HP : Hid (∀ w', Below w.heap.size w w' → PolAt B w' pv p) := fun w' h => hp.later h hB
  have HM : Hid (∀ w', Below w.heap.size w w' → RulesAt B w' mv ms) := fun w' h => hm.later h hB
  obtain ⟨rs, d⟩ := p
  obtain ⟨rv, epv, hd, a, cap, erv, hlc, hcm, hrest⟩ := hp
  clear hrest
  simp only at epv erv hlc hd
  subst erv
  subst epv
  obtain ⟨am, capm, emv, hlm⟩ := hm.shapeC
  subst emv
  have hdH : Hid (wf d) := hd
  have hx0 := right_ok x
  have hx : Hid (chkx (rx x) = 0) := hx0
  clear hx0 hd hm he
  unfold callV at HR HJ ⊢
  generalize rx x = y at *
  generalize hn : rs.length = n at *
  generalize hnm : ms.length = nm at *
  have hnH : Hid (rs.length = n) := hn
  have hnmH : Hid (ms.length = nm) := hnm
  clear hn hnm
  have hb2 : ∀ X Y, Below w.heap.size w ((w.alloc X).alloc Y) := fun X Y => ((Below.refl _ _).alloc (Nat.le_refl _) _).alloc (by simp) _
  go_enter Tryd.func4, Tryd.ntmps4
  go_wp2_with fail
  go_at_call 15
  refine Calls.mono (HR.out _) ?_
  rintro e w1 ⟨rfl, hb1⟩
  have hs1 : w.heap.size + 2 ≤ w1.heap.size := by have := hb1.size; simp at this; omega
  have hw1 : Below w.heap.size w w1 := Below.thenOf (hb2 _ _) hb1 (by simp; omega)
  have X1 : w1.heap[w.heap.size + 1]? = some (.cells (cellsX x) 26 (0, 0)) := by
    rw [hb1.block (w.heap.size + 1) (by simp)]
    have := (MapKept.heap_alloc (w.alloc (.cells #[.slice a n cap, .int .i64 d] 24)) (.cells (cellsX x) 26)).1
    rw [World.size_alloc] at this
    exact this
  have P0 : w1.cell? ⟨w.heap.size, 0, none⟩ = some (.slice a n cap) := (hb1.cell (p := ⟨w.heap.size, 0, none⟩) (by simp; omega)).trans (by simp [go_sem])
  have P1 : w1.cell? ⟨w.heap.size, 1, none⟩ = some (.int .i64 d) := (hb1.cell (p := ⟨w.heap.size, 1, none⟩) (by simp; omega)).trans (by simp [go_sem])
  clear hb1 hb2
  have Z := (cellsX_at X1).1
  have Zf := (cellsX_at X1).2
  have z0 := Z 0 (by omega)
  have z1 := Z 1 (by omega)
  have z2 := Z 2 (by omega)
  have z3 := Z 3 (by omega)
  have z4 := Z 4 (by omega)
  have f0 := Zf 0
  have f1 := Zf 1
  have f2 := Zf 2
  have f3 := Zf 3
  have f4 := Zf 4
  have X1' : Hid _ := X1
  clear Z Zf X1
  go_wp2_with fail
  obtain ⟨W, hW⟩ : ∃ W, W = ((((w1.setCell ⟨w.heap.size + 1, 0, none⟩ (.int .i64 (y 0))).setCell ⟨w.heap.size + 1, 1, none⟩ (.int .i64 (y 1))).setCell ⟨w.heap.size + 1, 2, none⟩ (.int .i64 (y 2))).setCell ⟨w.heap.size + 1, 3, none⟩ (.int .i64 (y 3))).setCell ⟨w.heap.size + 1, 4, none⟩ (.int .i64 (y 4)) := ⟨_, rfl⟩
  have HXr : W.heap[w.heap.size + 1]? = some (.cells (cellsX y) 26 (0, 0)) := by
    rw [hW]
    exact row_setCell (o := 4) (u := .int .i64 (y 4)) (row_setCell (o := 3) (u := .int .i64 (y 3)) (row_setCell (o := 2) (u := .int .i64 (y 2)) (row_setCell (o := 1) (u := .int .i64 (y 1)) (row_setCell (o := 0) (u := .int .i64 (y 0)) X1'.out))))
  have hwW : Below w.heap.size w W := by
    rw [hW]
    exact ((((hw1.setCell (p := ⟨w.heap.size + 1, 0, none⟩) (Nat.le_succ _) _).setCell (p := ⟨w.heap.size + 1, 1, none⟩) (Nat.le_succ _) _).setCell (p := ⟨w.heap.size + 1, 2, none⟩) (Nat.le_succ _) _).setCell (p := ⟨w.heap.size + 1, 3, none⟩) (Nat.le_succ _) _).setCell (p := ⟨w.heap.size + 1, 4, none⟩) (Nat.le_succ _) _
  have hsW : w.heap.size + 2 ≤ W.heap.size := by rw [hW]; simpa using hs1
  have Q0 : W.cell? ⟨w.heap.size, 0, none⟩ = some (.slice a n cap) := by rw [hW]; simp [go_sem, P0]
  have Q1 : W.cell? ⟨w.heap.size, 1, none⟩ = some (.int .i64 d) := by rw [hW]; simp [go_sem, P1]
  have C0 : Hid (∀ w', Below (w.heap.size + 2) W w' → (w'.cell? ⟨w.heap.size, 0, none⟩ = some (.slice a n cap) ∧ w'.cell? ⟨w.heap.size, 1, none⟩ = some (.int .i64 d)) ∧ XAt w' (w.heap.size + 1) y ∧ Below w.heap.size w w') := fun w' h =>
    ⟨⟨(h.cell (p := ⟨w.heap.size, 0, none⟩) (by show w.heap.size < w.heap.size + 2; omega)).trans Q0, (h.cell (p := ⟨w.heap.size, 1, none⟩) (by show w.heap.size < w.heap.size + 2; omega)).trans Q1⟩, (cellsX_at ((h.block (w.heap.size + 1) (by omega)).trans HXr)).1, hwW.trans (h.mono (by omega))⟩
  clear P0 P1 z0 z1 z2 z3 z4 f0 f1 f2 f3 f4 X1' hs1 hw1 HXr Q0 Q1 hlm
  rw [← hW]
  clear hW w1
  go_at_call 7
  by_cases hpe : polErr (rs, d) = 0
  · obtain ⟨v, k, hj, hk, hfront, hout⟩ := judge_facts (rs, d) y hpe hx.out
    have J0 := HJ.out B _ (rs, d) W (HP.out _ hwW) (Nat.le_trans hB hwW.size)
    rw [hj] at J0
    refine Calls.mono J0 ?_
    rintro e w2 ⟨rfl, hb2⟩
    have hW2 := hb2.mono hsW
    have hs2 := Nat.le_trans hsW hb2.size
    have hfrontH : Hid (k < (rs, d).1.length → ∀ more, polErr ((rs, d).1.take (k + 1) ++ more, (rs, d).2) = 0 → judgeP ((rs, d).1.take (k + 1) ++ more, (rs, d).2) y = (v, (k : Int), 0)) := hfront
    have houtH : Hid (∀ i, i < k → judgeP ((rs, d).1.eraseIdx i, (rs, d).2) y = (v, (k : Int) - 1, 0)) := hout
    have hkn : k ≤ n := by rw [← hnH.out]; exact hk
    have hn120 : n ≤ 120 := by rw [← hnH.out]; exact (polErr_ok hpe).1
    clear hfront hout J0 hj hk hb2
    obtain ⟨⟨c0, c1⟩, hX2, hw2⟩ := C0.out _ hW2
    go_wp2_with fail
    go_at_call 9
    refine Calls.mono (HE.out _ hw2) ?_
    rintro e w3 ⟨rfl, hb3⟩
    have hW3 := Below.thenOf hW2 hb3 hs2
    have hs3 := Nat.le_trans hs2 hb3.size
    clear c0 c1 hX2 hw2 hW2 hs2 hb3
    obtain ⟨⟨c0, c1⟩, hX3, hw3⟩ := C0.out _ hW3
    obtain ⟨m, hmd⟩ : ∃ m : Nat, m = min k 12 := ⟨_, rfl⟩
    have hmk : m ≤ k := by omega
    have hmi : min (k : Int) 12 = (m : Int) := by omega
    have hmd' : Hid (m = min k 12) := hmd
    clear hmd
    have HRl : Hid (∀ w', Below w.heap.size w w' → RulesAt B w' (.slice a n cap) rs) := fun w' hww => by
      obtain ⟨rv', e1, _, h3⟩ := HP.out _ hww
      simp at e1
      rw [← e1] at h3
      exact h3
    by_cases hlt : k < n
    case' neg =>
      have hlti : ¬ ((k : Int) < (n : Int)) := by omega
      go_wp2_with fail
      clear hlti
    case' pos =>
      have hlti : (k : Int) < (n : Int) := by omega
      obtain ⟨ab, ao, ha⟩ : ∃ ab ao, a = some ⟨ab, ao, none⟩ := by
        obtain ⟨_, e1, _, a', _, e2, _, _, h4⟩ := HP.out _ hw3
        simp at e1
        subst e1
        simp at e2
        obtain ⟨b, o, e, _⟩ := h4 0 (rs[0]'(by rw [hnH.out]; omega)) (by simp)
        exact ⟨b, o, by rw [e2.1, e]⟩
      subst ha
      have hrt : Hid (∀ w', Below w.heap.size w w' → RulesAt B w' (.slice (some ⟨ab, ao, none⟩) (k + 1) cap) (rs.take (k + 1))) := fun w' h => by
        obtain ⟨_, e1, _, a', cap', e2, q1, q2, h4⟩ := HP.out _ h
        simp at e1
        subst e1
        simp at e2
        have hl : (rs.take (k + 1)).length = k + 1 := by rw [List.length_take, hnH.out]; omega
        refine ⟨some ⟨ab, ao, none⟩, cap, by rw [hl], by rw [hl]; omega, hcm, fun i r hr => ?_⟩
        have hi : i < k + 1 := by have := (List.getElem?_eq_some_iff.1 hr).1; omega
        rw [List.getElem?_take_of_lt hi] at hr
        rw [e2.1]
        exact h4 i r hr
      have hk1 : k + 1 ≤ cap := by omega
      have hk1i : (0 : Int) ≤ (k : Int) + 1 := by omega
      have hwk : IntKind.i64.wrap ((k : Int) + 1) = (k : Int) + 1 := by rw [IntKind.wrap_i64]; omega
      have hwrk : wrap64 ((k : Int) + 1) = (k : Int) + 1 := by unfold wrap64; omega
      have hml := maxLen_eq
      go_wp2_with fail
      have hne := Later.ne w3
      have HL : Hid (∀ z : Later w3, Below (w.heap.size + 2) W z.1) := fun z => Below.thenOf hW3 z.2 hs3
      have q0 : ∀ z : Later w3, z.1.cell? ⟨w.heap.size, 0, none⟩ = some (.slice (some ⟨ab, ao, none⟩) n cap) := fun z => (C0.out _ (HL.out z)).1.1
      have q1 : ∀ z : Later w3, z.1.cell? ⟨w.heap.size, 1, none⟩ = some (.int .i64 d) := fun z => (C0.out _ (HL.out z)).1.2
      have hDJ : Hid (∀ fs w', JCat B w3 (.slice (some ⟨ab, ao, none⟩) (k + 1) cap) (.slice am nm capm) (rs.take (k + 1) ++ ms) fs w' → ∃ z : Later w3, w' = z.1) := fun fs w' h => ⟨⟨w', h.1⟩, rfl⟩
      have hB3 : B ≤ w3.heap.size := Nat.le_trans hB hw3.size
      refine wp_region_free [_, _, _, _, _, _, _, _, _, _, _, _] _ rfl (fun k => k == 6 || k == 7 || k == 11) (JCat B w3 (.slice (some ⟨ab, ao, none⟩) (k + 1) cap) (.slice am nm capm) (rs.take (k + 1) ++ ms)) SCat sCat_some (by kernel_rfl) (by kernel_rfl) ⟨(Below.refl _ _).drew, fun _ h => h.elim, fun _ h => h.elim, fun _ h => h.elim⟩ ?_
      iterate 3 (refine wpG_read hDJ.out rfl rfl ?_; go_big_quiet_step (fail); refine wpQuiet_nil ?_)
      refine wpG_readV (.int .i64 ((k : Int) + 1)) rfl rfl (fun w' => ?_) ?_
      · clear q0 q1 hne hml hcm hk1 hk1i hlti hlt hkn hn120 hlc
        go_simp
      simp only [Act.put, List.setIfInBounds_toArray, List.set_cons_succ, List.set_cons_zero]
      refine wpG_readV (.slice (some ⟨ab, ao, none⟩) (k + 1) cap) rfl rfl (fun w' => ?_) ?_
      · clear q0 q1 hne hml hcm hlti hlt hkn hn120 hlc hwrk
        go_simp
        intro h
        omega
      simp only [Act.put, List.setIfInBounds_toArray, List.set_cons_succ, List.set_cons_zero]
      repeat (refine wpG_read hDJ.out rfl rfl ?_; go_big_quiet_step (fail); refine wpQuiet_nil ?_)
      refine wpG_write rfl rfl (fun gs w' hJ hdep hno => ⟨.slice (some ⟨w'.heap.size, 0, none⟩) 2 2, w'.alloc (.cells #[.slice (some ⟨ab, ao, none⟩) (k + 1) cap, .slice am nm capm] 22), ?_, ⟨_, _, _, rfl⟩, hJ.lit hB3 _⟩) (fun v6 hv6 => ?_)
      · clear hJ hdep hno q0 q1 hDJ hne
        go_simp
      simp only [Act.put, List.setIfInBounds_toArray, List.set_cons_succ, List.set_cons_zero]
      refine wpG_call 16 #[v6] rfl rfl (fun w' => ?_) (fun gs w' hJ hdep hno => ?_) (fun v7 hv7 => ?_)
      · clear q0 q1 hDJ hne
        go_simp
      · obtain ⟨b, rfl, hbl, e0, e1⟩ := hJ.2.1 v6 (hdep 6 v6 (.inr ⟨rfl, rfl⟩) (waitsB_spec (by kernel_rfl)))
        have hww : Below w.heap.size w w' := Below.thenOf hw3 hJ.1 hw3.size
        refine (concat_any B _ _ (rs.take (k + 1)) ms b w' (hrt.out _ hww) (HM.out _ hww) (Nat.le_trans hB hww.size) hbl e0 e1 ?_).mono ?_
        · rw [List.length_take, hnH.out, hnmH.out]; exact few hlt hn120 hmn
        · rintro e w'' ⟨v, xs, rfl, ho, hx, hbel⟩
          exact ⟨v, rfl, ownsRow_slice ho, hJ.cat hB3 ho hx hbel hno⟩
      obtain ⟨a7, n7, cap7, e7⟩ : ∃ a n cap, v7 = .slice a n cap := hv7
      subst e7
      simp only [Act.put, List.setIfInBounds_toArray, List.set_cons_succ, List.set_cons_zero]
      repeat (refine wpG_read hDJ.out rfl rfl ?_; go_big_quiet_step (fail); refine wpQuiet_nil ?_)
      refine wpG_write rfl rfl (fun gs w' hJ hdep hno => ⟨.pointer (some ⟨w'.heap.size, 0, none⟩), w'.alloc (.cells #[.slice none 0 0, .int .i64 0] 24), ?_, ⟨_, rfl⟩, hJ.box hB3⟩) (fun u hu => ?_)
      · clear hJ hdep hno q0 q1 hDJ hne
        go_simp
      simp only [Act.put, List.setIfInBounds_toArray, List.set_cons_succ, List.set_cons_zero]
      refine wpG_nil ?_
      intro w4 hJ
      obtain ⟨g, ho, hug⟩ := hJ.2.2.1 _ (.inl (.inr ⟨rfl, rfl⟩))
      obtain ⟨b, eu, hWb, hbox⟩ := hJ.2.2.2 u (.inr ⟨rfl, rfl⟩)
      have hne7 : (rs.take (k + 1) ++ ms) ≠ [] → b ≠ g := fun h0 e => hug h0 u (.inr ⟨rfl, rfl⟩) (by rw [eu, e])
      subst eu
      obtain ⟨s0, s1, s2, s3, hbF, g0, g1, hsF, hPF⟩ := box_fill hJ.1 hB3 hWb hbox ho hne7 hdH.out
      have hW4 := Below.thenOf hW3 hbF hs3
      have hw4 := hJ.1
      have hX4 := (C0.out _ (Below.thenOf hW3 hw4 hs3)).2.1
      have x0 := hX4 0 (by omega)
      have x1 := hX4 1 (by omega)
      have x2 := hX4 2 (by omega)
      have x3 := hX4 3 (by omega)
      have x4 := hX4 4 (by omega)
      have hbx : ¬ b = w.heap.size + 1 := by omega
      have hbx' : ¬ w.heap.size + 1 = b := by omega
      have hsF' := Nat.le_trans hs3 hbF.size
      have J1 := HJ.out _ _ _ _ hPF (by rw [hsF]; exact Nat.le_refl _)
      have J1' : Hid _ := J1
      have HW4 : Hid _ := hW4
      have HSF : Hid _ := hsF'
      clear hDJ q0 q1 hne hJ ho hug hbox hne7 hPF hX4 hw4 g0 g1 hsF J1 hW4 hsF' hbF
      by_cases hpe2 : polErr (rs.take (k + 1) ++ ms, d) = 0
      case' neg =>
        have hj2 := judgeP_bad hx.out hpe2
        rw [hj2] at J1'
        generalize polErr (rs.take (k + 1) ++ ms, d) = pe at *
        have hpe3 : (pe == 0) = false := by simpa using hpe2
        go_wp2_with fail
        go_at_call 7
        refine Calls.mono J1'.out ?_
        rintro e w5 ⟨rfl, hb5⟩
        have hW5 := Below.thenOf HW4.out hb5 HSF.out
        have hs5 := Nat.le_trans HSF.out hb5.size
        clear hb5 x0 x1 x2 x3 x4 s0 s1 s2 s3
        go_wp2_with fail
        clear hlti hpe2 hpe3 hrt hwk hwrk hk1 hk1i hml hbx hbx' J1' HL hj2
        generalize (some ⟨ab, ao, none⟩ : Option Addr) = a at *
      case' pos =>
        have hj2 : judgeP (rs.take (k + 1) ++ ms, d) y = (v, (k : Int), 0) := hfrontH.out (by show k < rs.length; rw [hnH.out]; exact hlt) ms hpe2
        rw [hj2] at J1'
        go_wp2_with fail
        go_at_call 7
        refine Calls.mono J1'.out ?_
        rintro e w5 ⟨rfl, hb5⟩
        have hW5 := Below.thenOf HW4.out hb5 HSF.out
        have hs5 := Nat.le_trans HSF.out hb5.size
        clear hb5 x0 x1 x2 x3 x4 s0 s1 s2 s3
        go_wp2_with fail
        clear hlti hpe2 hrt hwk hwrk hk1 hk1i hml hbx hbx' J1' HL hj2
        generalize (some ⟨ab, ao, none⟩ : Option Addr) = a at *
    all_goals
      go_loopw [72] (fun i wr => ∃ j : Nat, j ≤ m ∧ i = .int .i64 j ∧ Below (w.heap.size + 2) W wr ∧ w.heap.size + 2 ≤ wr.heap.size) (fun i _ => m - (intOf i).toNat)
      case atStart => exact ⟨0, Nat.zero_le _, rfl, by assumption, by assumption⟩
      case round =>
        obtain ⟨j, hj, rfl, hWr, hsr⟩ := hrel
        obtain ⟨wo, hwo⟩ : ∃ z, z = wr := ⟨_, rfl⟩
        subst hwo
        obtain ⟨⟨c0', c1'⟩, hXr, hwr⟩ := C0.out _ hWr
        by_cases hjm : j < m
        · have hjmi : (j : Int) < (m : Int) := by omega
          have hwkj : IntKind.i64.wrap ((j : Int) + 1) = (j : Int) + 1 := by rw [IntKind.wrap_i64]; omega
          have hBo : B ≤ wo.heap.size := Nat.le_trans hB hwr.size
          have hrne : rs ≠ [] := fun h0 => by have := hnH.out; rw [h0] at this; simp at this; omega
          have Hrne : Hid (rs ≠ []) := hrne
          clear hrne
          go_wp2_with fail
          have hne := Later.ne wo
          have HL : Hid (∀ z : Later wo, Below (w.heap.size + 2) W z.1) := fun z => Below.thenOf hWr z.2 hsr
          have q0 : ∀ z : Later wo, z.1.cell? ⟨w.heap.size, 0, none⟩ = some (.slice a n cap) := fun z => (C0.out _ (HL.out z)).1.1
          have q1 : ∀ z : Later wo, z.1.cell? ⟨w.heap.size, 1, none⟩ = some (.int .i64 d) := fun z => (C0.out _ (HL.out z)).1.2
          have hDJ : Hid (∀ fs w', JDel B wo j rs fs w' → ∃ z : Later wo, w' = z.1) := fun fs w' h => ⟨⟨w', h.1⟩, rfl⟩
          refine wp_region_free [_, _, _, _, _, _, _, _, _, _, _] _ rfl (fun k => k == 2 || k == 6 || k == 10) (JDel B wo j rs) SCat sCat_some (by kernel_rfl) (by kernel_rfl) ⟨(Below.refl _ _).drew, fun _ h => h.elim, fun _ h => h.elim, fun _ h => h.elim⟩ ?_
          iterate 2 (refine wpG_read hDJ.out rfl rfl ?_; go_big_quiet_step (fail); refine wpQuiet_nil ?_)
          refine wpG_call 18 #[.slice a n cap] rfl rfl (fun w' => ?_) (fun gs w' hJ hdep hno => ?_) (fun v2 hv2 => ?_)
          · clear q0 q1 hne
            go_simp
          · have hww : Below w.heap.size w w' := Below.thenOf hwr hJ.1 hwr.size
            refine (clone_any B _ rs w' (HRl.out _ hww) (Nat.le_trans hB hww.size) (by rw [hnH.out]; omega)).mono ?_
            rintro e w'' ⟨v, xs, rfl, ho, hx, hbel⟩
            exact ⟨v, rfl, ownsRow_slice ho, hJ.clone hBo Hrne.out ho hx hbel hno⟩
          obtain ⟨a2, n2, cap2, e2⟩ : ∃ a n cap, v2 = .slice a n cap := hv2
          simp only [Act.put, List.setIfInBounds_toArray, List.set_cons_succ, List.set_cons_zero]
          iterate 2 (refine wpG_read hDJ.out rfl rfl ?_; go_big_quiet_step (fail); refine wpQuiet_nil ?_)
          refine wpG_readV (.int .i64 ((j : Int) + 1)) rfl rfl (fun w' => ?_) ?_
          · clear q0 q1 hne hcm hlc hjmi hkn hn120
            go_simp
          simp only [Act.put, List.setIfInBounds_toArray, List.set_cons_succ, List.set_cons_zero]
          refine wpG_call 17 #[v2, .int .i64 j, .int .i64 ((j : Int) + 1)] rfl rfl (fun w' => ?_) (fun gs w' hJ hdep hno => ?_) (fun v6 hv6 => ?_)
          · clear q0 q1 hne
            go_simp
          · obtain ⟨g, cap2, cur, rfl, hg, hcur, hle, hm2, hcs, hxs, hu⟩ := hJ.2.1 v2 (hdep 2 v2 (.inr ⟨rfl, rfl⟩) (waitsB_spec (by kernel_rfl))) hno
            obtain ⟨m', hm'⟩ : ∃ m', rs.length = m' + 1 := ⟨rs.length - 1, by rw [hnH.out]; omega⟩
            rw [hm'] at hle hxs ⊢
            have hcall := delete_any B g m' cap2 j cur rs w' hcur hm' hle (by rw [← maxLen_eq]; exact hm2) hcs hxs (Nat.le_trans hBo hg) (by rw [hnH.out] at hm'; omega)
            rw [show ((j + 1 : Nat) : Int) = (j : Int) + 1 by omega] at hcall
            refine hcall.mono ?_
            rintro e w'' ⟨rfl, ho, hbo⟩
            exact ⟨_, rfl, ⟨_, _, _, rfl⟩, hJ.del hBo hg (lt_of_block hcur) hu ho hbo hno⟩
          obtain ⟨a6, n6, cap6, e6⟩ : ∃ a n cap, v6 = .slice a n cap := hv6
          subst e6
          simp only [Act.put, List.setIfInBounds_toArray, List.set_cons_succ, List.set_cons_zero]
          iterate 3 (refine wpG_read hDJ.out rfl rfl ?_; go_big_quiet_step (fail); refine wpQuiet_nil ?_)
          refine wpG_write rfl rfl (fun gs w' hJ hdep hno => ⟨.pointer (some ⟨w'.heap.size, 0, none⟩), w'.alloc (.cells #[.slice none 0 0, .int .i64 0] 24), ?_, ⟨_, rfl⟩, hJ.box hBo⟩) (fun u hu => ?_)
          · clear hJ hdep hno q0 q1 hne
            go_simp
          simp only [Act.put, List.setIfInBounds_toArray, List.set_cons_succ, List.set_cons_zero]
          refine wpG_nil ?_
          intro w4 hJ
          obtain ⟨g, ho, _, hug⟩ := hJ.2.2.1 _ (.inl (.inr ⟨rfl, rfl⟩))
          obtain ⟨b, eu, hWb, hbox⟩ := hJ.2.2.2 u (.inr ⟨rfl, rfl⟩)
          have hne7 : rs.eraseIdx j ≠ [] → b ≠ g := fun _ e => hug u (.inr ⟨rfl, rfl⟩) (by rw [eu, e])
          subst eu
          subst e2
          obtain ⟨s0, s1, s2, s3, hbF, g0, g1, hsF, hPF⟩ := box_fill hJ.1 hBo hWb hbox ho hne7 hdH.out
          have hW4 := Below.thenOf hWr hbF hsr
          have hw4 := hJ.1
          have hX4 := (C0.out _ (Below.thenOf hWr hw4 hsr)).2.1
          have x0 := hX4 0 (by omega)
          have x1 := hX4 1 (by omega)
          have x2 := hX4 2 (by omega)
          have x3 := hX4 3 (by omega)
          have x4 := hX4 4 (by omega)
          have hbx : ¬ b = w.heap.size + 1 := by omega
          have hbx' : ¬ w.heap.size + 1 = b := by omega
          have hsF' := Nat.le_trans hsr hbF.size
          have J1 := HJ.out _ _ _ _ hPF (by rw [hsF]; exact Nat.le_refl _)
          have hj2 : judgeP (rs.eraseIdx j, d) y = (v, (k : Int) - 1, 0) := houtH.out j (by omega)
          rw [hj2] at J1
          have J1' : Hid _ := J1
          have HW4 : Hid _ := hW4
          have HSF : Hid _ := hsF'
          have hwkm : IntKind.i64.wrap ((k : Int) - 1) = (k : Int) - 1 := by rw [IntKind.wrap_i64]; omega
          clear hDJ q0 q1 hne hJ ho hug hbox hne7 hPF hX4 hw4 g0 g1 hsF J1 hW4 hsF' hbF hj2
          go_wp2_with fail
          go_at_call 7
          refine Calls.mono J1'.out ?_
          rintro e w5 ⟨rfl, hb5⟩
          have hW5 := Below.thenOf HW4.out hb5 HSF.out
          have hs5 := Nat.le_trans HSF.out hb5.size
          clear hb5 x0 x1 x2 x3 x4 s0 s1 s2 s3
          go_wp2
          exact ⟨⟨j + 1, by omega, by go_num, hW5, hs5⟩, by simp [intOf]; omega⟩
        · have hjmi : ¬ ((j : Int) < (m : Int)) := by omega
          go_wp2
          go_ret
          exact ⟨rfl, hwr⟩
  · have J0 := HJ.out B _ (rs, d) W (HP.out _ hwW) (Nat.le_trans hB hwW.size)
    rw [judgeP_bad hx.out hpe] at J0
    generalize polErr (rs, d) = pe at *
    have hpe' : (pe != 0) = true := by simpa using hpe
    refine Calls.mono J0 ?_
    rintro e w2 ⟨rfl, hb2⟩
    have hW2 := hb2.mono hsW
    have hs2 := Nat.le_trans hsW hb2.size
    obtain ⟨_, _, hw2⟩ := C0.out _ hW2
    clear J0 hb2
    go_wp2_with fail
    go_at_call 9
    refine Calls.mono (HE.out _ hw2) ?_
    rintro e w3 ⟨rfl, hb3⟩
    have hw3 := Below.thenOf hw2 hb3 hw2.size
    go_wp2_with fail
    go_at_call 9
    refine Calls.mono (HE.out _ hw3) ?_
    rintro e w4 ⟨rfl, hb4⟩
    have hw4 := Below.thenOf hw3 hb4 hw3.size
    go_wp2
    go_ret
    exact ⟨rfl, hw4⟩
end Go.Proofs.YtpphcodiiolfbaaDoor
