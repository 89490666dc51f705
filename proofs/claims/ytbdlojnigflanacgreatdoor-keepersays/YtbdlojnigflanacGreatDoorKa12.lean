/- What the counterpart's CutsOf says: the walk. -/
import Derived.Test.YtbdlojnigflanacGreatDoorKa11
import Derived.Test.YtbdlojnigflanacGreatDoorShelf
import Derived.Sort.OwnSortedInts
import Derived.Lib.AppendZerosOnto
import Derived.Lib.AppendZeros
set_option linter.all false
set_option maxRecDepth 100000
namespace Go.Proofs.YtbdlojnigflanacGreatDoor
open Go.RowKit Go.Maps Go.Sort

set_option maxHeartbeats 8000000 in
theorem cutsOf_any (B : Nat) (lv : Value) (ps : List PolT) (f : Int) (hf : wf f) (w : World) (hl : PolsAt B w lv ps) (hok : AllOk ps) (hB : B ≤ w.heap.size) (hn : ps.length ≤ 5000000000) :
    Calls Tryz.prog 254 #[lv, .int .i64 f] w fun e w' => ∃ v, e = .returned v ∧ w'.ownsRow w.heap.size 3 1 v (cutsP ps f).length ((cutsP ps f).map (.int .i64)) ∧ Below w.heap.size w w' := by
  obtain ⟨inf, hi1, hi2, hi3, hi4⟩ := infoInt
  have HL : Hid (∀ w', Below w.heap.size w w' → PolsAt B w' lv ps) := fun w' h => hl.later h hB
  have HOK : Hid (AllOk ps) := hok
  have HCL : Hid (∀ i, (polsConds (ps.take i)).length ≤ ps.length * 1200) := fun i => by
    have := polsConds_len (ps.take i) fun p hp => hok p (List.mem_of_mem_take hp)
    rw [List.length_take] at this
    have h2 : min i ps.length * 1200 ≤ ps.length * 1200 := Nat.mul_le_mul_right _ (by omega)
    exact Nat.le_trans this h2
  obtain ⟨a, cap, rfl, hlc, hcm, -⟩ := hl
  have hml := maxLen_eq
  generalize hlen : ps.length = len at *
  have hlenH : Hid (ps.length = len) := hlen
  clear hlen hok
  have hmm := @run_makeMap Tryz.prog
  have hm0 : Hid _ := World.ownsMap_made (H := Unit) w Tryz.prog 3 boolR
  have hb1 : ∀ X, Below w.heap.size w (w.alloc X) := fun X => (Below.refl _ _).alloc (Nat.le_refl _) _
  go_enter Tryz.func254, Tryz.ntmps254
  go_wp2_with (first
    | (refine wpList_insert_own _ rfl _ _ _ 309 rfl 3 4 key3 Tryz.underlying309 _ w.heap.size 0 _ rfl hm0.out (by decide) _ _ _ rfl rfl (keyOf_int_mk Tryz.underlying3 (by decide)) _ [] rfl ?_; intro w1 hown1 hg1))
  have hb1' : Below w.heap.size w w1 := (hb1 _).grown hg1 (by simp) (fun k hk => by cases hk; exact Nat.le_refl _)
  have hSt : Hid (CutSt w w1 w.heap.size f (polsConds (ps.take 0))) := by
    refine ⟨hb1', _, hown1, fun n hn => ?_⟩
    by_cases e : n = 0
    · subst e
      rw [Maps.atKey_put_same Maps.isMap_empty (isKeyI 0)]
      simp [atB, polsConds]
    · rw [Maps.atKey_put_other (by simpa using e)]
      simp [atB, polsConds, e]
      rfl
  clear hown1 hg1 hm0 hmm
  go_loopw [19] (fun iv wr => ∃ i : Nat, i ≤ len ∧ iv = .int .i64 i ∧ Hid (CutSt w wr w.heap.size f (polsConds (ps.take i)))) (fun iv _ => len - (intOf iv).toNat)
  case atStart => exact ⟨0, by omega, rfl, hSt⟩
  case round =>
    obtain ⟨i, hi, rfl, HS⟩ := hrel
    obtain ⟨wo, hwo⟩ : ∃ x, x = wr := ⟨_, rfl⟩
    subst hwo
    have i0 : (0 : Int) ≤ (i : Int) := by omega
    have hbo := HS.out.1
    have hos := hbo.size
    by_cases hlt : i < len
    · have i1 : (i : Int) < (len : Int) := by omega
      obtain ⟨p, hpk⟩ : ∃ p, ps[i]? = some p := ⟨ps[i]'(by rw [hlenH.out]; omega), by simp⟩
      have HP : Hid (polsConds (ps.take (i + 1)) = polsConds (ps.take i) ++ polConds p) := polsConds_take ps i p hpk
      obtain ⟨hp120, _, hpr⟩ := polErr_ok (HOK.out p (List.mem_of_getElem? hpk))
      have HRk : Hid (∀ r ∈ p.1, ruleErr r = 0) := rulesErr_all hpr
      clear hpr
      obtain ⟨_, _, e1, -, -, hat⟩ := HL.out _ hbo
      obtain ⟨b, o, e, hbB, hpc⟩ := hat i p hpk
      simp at e1
      obtain ⟨rfl, -, -⟩ := e1
      subst e
      clear hat
      obtain ⟨rs, d⟩ := p
      obtain ⟨rv, k0, k1, -, hrs⟩ := hpc
      have HRS : Hid (∀ w', Below w.heap.size wo w' → RulesAt B w' rv rs) := fun w' h => hrs.later h hB
      obtain ⟨a2, c2, erv, hr2c, hc2m, -⟩ := hrs
      subst erv
      simp only [] at hp120 HRk k0 k1 hr2c
      obtain ⟨m, hm⟩ : ∃ m, m = rs.length := ⟨_, rfl⟩
      have hmH : Hid (rs.length = m) := hm.symm
      rw [← hm] at k0 hr2c hp120
      simp only [← hm] at HRS
      clear hm
      have hCL := HCL.out i
      obtain ⟨D0, hD0⟩ : ∃ D0, D0 = polsConds (ps.take i) := ⟨_, rfl⟩
      rw [← hD0] at hCL HS HP
      clear hD0
      have HS0 : Hid (∀ X, CutSt w (wo.alloc X) w.heap.size f (D0 ++ (rs.take 0).flatMap (·.1))) := fun X => by
        have := HS.out.later ((Below.refl wo.heap.size _).alloc (Nat.le_refl _) X)
        simpa using this
      have HBo : Hid (∀ X, Below w.heap.size wo (wo.alloc X)) := fun X => (Below.refl _ _).alloc hos _
      have HRL : Hid (∀ j, ((rs.take j).flatMap (·.1)).length ≤ 1200) := fun j => by
        have := rulesConds_len (rs.take j) fun r hr => HRk.out r (List.mem_of_mem_take hr)
        rw [List.length_take, hmH.out] at this
        omega
      go_wp2
      go_loopw [26] (fun jv wr => ∃ j : Nat, j ≤ m ∧ jv = .int .i64 j ∧ Hid (CutSt w wr w.heap.size f (D0 ++ (rs.take j).flatMap (·.1))) ∧ Below w.heap.size wo wr) (fun jv _ => m - (intOf jv).toNat)
      case atStart => exact ⟨0, by omega, rfl, HS0.out _, HBo.out _⟩
      case round =>
        obtain ⟨j, hj, rfl, HSj, hbj⟩ := hrel
        obtain ⟨wj, hwj⟩ : ∃ x, x = wr := ⟨_, rfl⟩
        subst hwj
        have j0 : (0 : Int) ≤ (j : Int) := by omega
        have hjs := hbj.size
        have hws := HSj.out.1.size
        by_cases hlj : j < m
        · have j1 : (j : Int) < (m : Int) := by omega
          obtain ⟨r, hrk⟩ : ∃ r, rs[j]? = some r := ⟨rs[j]'(by rw [hmH.out]; omega), by simp⟩
          have HPj : Hid ((rs.take (j + 1)).flatMap (·.1) = (rs.take j).flatMap (·.1) ++ r.1) := rulesConds_take rs j r hrk
          obtain ⟨hr10, _, hrc⟩ := ruleErr_ok (HRk.out r (List.mem_of_getElem? hrk))
          have HCk : Hid (∀ c ∈ r.1, condErr c = 0) := condsErr_all hrc
          clear hrc
          obtain ⟨_, _, e1, -, -, hat⟩ := HRS.out _ hbj
          obtain ⟨b3, o3, e, hbB3, hrc⟩ := hat j r hrk
          simp at e1
          obtain ⟨rfl, -, -⟩ := e1
          subst e
          clear hat
          obtain ⟨cs, vd⟩ := r
          obtain ⟨cv, q0, q1, -, hcs⟩ := hrc
          have HCS : Hid (∀ w', Below w.heap.size wj w' → CondsAt B w' cv cs) := fun w' h => hcs.later h hB
          obtain ⟨a3, c3, ecv, hc3c, hc3m, -⟩ := hcs
          subst ecv
          simp only [] at hr10 HCk q0 q1 hc3c HPj
          obtain ⟨n3, hn3⟩ : ∃ n3, n3 = cs.length := ⟨_, rfl⟩
          have hn3H : Hid (cs.length = n3) := hn3.symm
          rw [← hn3] at q0 hc3c hr10
          simp only [← hn3] at HCS
          clear hn3
          have hRL := HRL.out j
          obtain ⟨D1, hD1⟩ : ∃ D1, D1 = D0 ++ (rs.take j).flatMap (·.1) := ⟨_, rfl⟩
          have hD1l : D1.length ≤ len * 1200 + 1200 := by rw [hD1, List.length_append]; omega
          rw [← hD1] at HSj
          have HP1 : Hid (D0 ++ (rs.take (j + 1)).flatMap (·.1) = D1 ++ cs) := by unfold Hid; rw [HPj.out, hD1, List.append_assoc]
          clear hD1 HPj hRL
          have HS1 : Hid (∀ X, CutSt w (wj.alloc X) w.heap.size f (D1 ++ cs.take 0)) := fun X => by
            have := HSj.out.later ((Below.refl wj.heap.size _).alloc (Nat.le_refl _) X)
            simpa using this
          have HBj : Hid (∀ X, Below w.heap.size wj (wj.alloc X)) := fun X => (Below.refl _ _).alloc hws _
          go_wp2
          go_loopw [33] (fun kv wr => ∃ k : Nat, k ≤ n3 ∧ kv = .int .i64 k ∧ Hid (CutSt w wr w.heap.size f (D1 ++ cs.take k)) ∧ Below w.heap.size wj wr) (fun kv _ => n3 - (intOf kv).toNat)
          case atStart => exact ⟨0, by omega, rfl, HS1.out _, HBj.out _⟩
          case round =>
            obtain ⟨k, hk, rfl, HSk, hbk⟩ := hrel
            obtain ⟨wk, hwk⟩ : ∃ x, x = wr := ⟨_, rfl⟩
            subst hwk
            have k0' : (0 : Int) ≤ (k : Int) := by omega
            have hks := hbk.size
            have hwks := HSk.out.1.size
            by_cases hlk : k < n3
            · have k1' : (k : Int) < (n3 : Int) := by omega
              obtain ⟨c, hck⟩ : ∃ c, cs[k]? = some c := ⟨cs[k]'(by rw [hn3H.out]; omega), by simp⟩
              have HPk : Hid (cs.take (k + 1) = cs.take k ++ [c]) := conds_take cs k c hck
              obtain ⟨⟨f0, f5⟩, ⟨o1, o4⟩, ⟨v0, vm⟩⟩ := condErr_ok (HCk.out c (List.mem_of_getElem? hck))
              have vm' := most_le c.1
              obtain ⟨_, _, e1, -, -, hat⟩ := HCS.out _ hbk
              obtain ⟨b4, o4', e, hbB4, z0, z1, z2, -⟩ := hat k c hck
              simp at e1
              obtain ⟨rfl, -, -⟩ := e1
              subst e
              clear hat
              obtain ⟨D2, hD2⟩ : ∃ D2, D2 = D1 ++ cs.take k := ⟨_, rfl⟩
              have hD2l : D2.length ≤ len * 1200 + 1300 := by rw [hD2, List.length_append, List.length_take]; omega
              rw [← hD2] at HSk
              have HP2 : Hid (D1 ++ cs.take (k + 1) = D2 ++ [c]) := by unfold Hid; rw [HPk.out, hD2, List.append_assoc]
              clear hD2 HPk
              obtain ⟨fc, op, v⟩ := c
              simp only [] at z0 z1 z2 f0 f5 o1 o4 v0 vm vm'
              obtain ⟨W5, hW5⟩ : ∃ W5, W5 = wk.alloc (.cells #[.int .i64 fc, .int .i64 op, .int .i64 v] 99) := ⟨_, rfl⟩
              have hb5 : Below wk.heap.size wk W5 := by rw [hW5]; exact (Below.refl _ _).alloc (Nat.le_refl _) _
              have hC5 : W5.heap[wk.heap.size]? = some (.cells #[.int .i64 fc, .int .i64 op, .int .i64 v] 99 (0, 0)) := by rw [hW5]; exact heap_made _ _
              have HS5 := HSk.out.later hb5
              by_cases hfc : fc = f
              · have hq : (fc == f) = true := by simpa using hfc
                subst hW5
                have hC5 : Hid _ := hC5
                have hb5 : Hid _ := hb5
                obtain ⟨x1', D, x2', x3⟩ := HS5
                have x1 : Hid (Below w.heap.size w wk) := HSk.out.1
                have x2 : Hid _ := x2'
                clear x2' x1'
                have hIM : IsMap D := World.ownsMap.isMap x2.out
                have hneM : some wk.heap.size ≠ some w.heap.size := by
                  have := HSk.out.2
                  obtain ⟨D', q, _⟩ := this
                  have := q.lt
                  simp
                  omega
                have hwv : wf v := WalkArith.wf_i64 (by omega)
                have hwv1 : wf (v + 1) := WalkArith.wf_i64 (by omega)
                have hlt1 : 2 * D2.length + 1 < maxLen := by omega
                have hlt2 : 2 * D2.length + 1 + 1 < maxLen := by omega
                have HX3 := x3.put hIM v true
                obtain ⟨gv, hgv⟩ : ∃ gv, gv = atB f D2 (v + 1) := ⟨_, rfl⟩
                have hgl : Hid ((D.put (.int .i64 v) (.lit (.bool true))).atKey (.int .i64 (v + 1)) (.lit (.bool false)) = .lit (.bool gv)) := by
                  have := HX3 (v + 1) hwv1
                  simp only [show ¬ v + 1 = v by omega, if_false, ← hgv] at this
                  exact this
                have HFin : Hid (∀ w7 n7, w7.ownsMap Tryz.prog 3 boolR w.heap.size n7 ((D.put (.int .i64 v) (.lit (.bool true))).put (.int .i64 (v + 1)) (.lit (.bool (gv || (decide (op = 1) || decide (op = 2)))))) → n7 = 2 * D2.length + 1 + 1 + 1 → Below w.heap.size w w7 → Hid (CutSt w w7 w.heap.size f (D1 ++ cs.take (k + 1)))) := by
                  intro w7 n7 h7 hn7 hb7
                  rw [HP2.out]
                  refine ⟨hb7, _, h7.mono (by simp; omega), (HX3.put (hIM.put _ _) (v + 1) _).congr fun n _ => ?_⟩
                  have := step_at (f := f) (done := D2) (c := (fc, op, v)) hfc n
                  simp only [] at this
                  rw [← this, hgv]
                  simp only [show ¬ v + 1 = v by omega, if_false]
                have HBt : Hid (Below w.heap.size wj wk) := hbk
                have tok1 : True := trivial
                clear HX3 hIM x3 hfc hgv
                cases gv with
                | true =>
                  have hE : (true || (decide (op = 1) || decide (op = 2))) = true := rfl
                  have HEq : Hid _ := hE
                  clear hE
                  go_wp2_with (first
                    | (at_mapUpdate; have _t := tok1; go_must (refine wpList_mapUpdate_own _ rfl _ _ _ 309 rfl 3 4 key3 Tryz.underlying309 boolR w.heap.size (2 * D2.length + 1) D rfl x2.out hlt1 _ _ _ rfl rfl (keyOf_int_mk Tryz.underlying3 hwv) _ [] rfl ?_; intro w6 ho6 hg6; clear tok1; have hC6 := (hg6.block wk.heap.size (by simp) hneM).trans hC5.out; have y1 := heap_cell hC6 1 rfl; have y2 := heap_cell hC6 2 rfl; have hO6 : Hid _ := ho6; clear ho6))
                    | (at_lookup; go_must (refine wpList_lookup_own_bool _ rfl _ _ 309 rfl 3 4 key3 Tryz.underlying309 (zeroBool _) w.heap.size _ _ rfl hO6.out _ _ rfl (keyOf_int_mk Tryz.underlying3 hwv1) ?_; intro cc hat; have hcc := hat.symm.trans hgl.out; simp only [DataW.lit.injEq, Lit.bool.injEq] at hcc; subst hcc; clear hat))
                    | (at_mapUpdate; go_must (refine wpList_mapUpdate_own _ rfl _ _ _ 309 rfl 3 4 key3 Tryz.underlying309 boolR w.heap.size (2 * D2.length + 1 + 1) _ rfl hO6.out hlt2 _ _ _ rfl rfl (keyOf_int_mk Tryz.underlying3 hwv1) _ [] rfl ?_; intro w7 ho7 hg7)))
                  have hb7 : Below w.heap.size wk w7 := ((((Below.refl w.heap.size wk).alloc hwks _).grown hg6 (by simp; omega) (fun q hq => by cases hq; exact Nat.le_refl _)).grown hg7 (by have := hg6.size; simp at this; omega) (fun q hq => by cases hq; exact Nat.le_refl _))
                  rw [← HEq.out] at ho7
                  exact ⟨⟨k + 1, by omega, by go_num, HFin.out w7 _ ho7 rfl (x1.out.trans hb7), HBt.out.trans hb7⟩, by simp [intOf]; omega⟩
                | false =>
                  by_cases hop1 : op = 1
                  · subst hop1
                    have HEq : Hid ((false || (decide ((1 : Int) = 1) || decide ((1 : Int) = 2))) = true) := rfl
                    go_wp2_with (first
                      | (at_mapUpdate; have _t := tok1; go_must (refine wpList_mapUpdate_own _ rfl _ _ _ 309 rfl 3 4 key3 Tryz.underlying309 boolR w.heap.size (2 * D2.length + 1) D rfl x2.out hlt1 _ _ _ rfl rfl (keyOf_int_mk Tryz.underlying3 hwv) _ [] rfl ?_; intro w6 ho6 hg6; clear tok1; have hC6 := (hg6.block wk.heap.size (by simp) hneM).trans hC5.out; have y1 := heap_cell hC6 1 rfl; have y2 := heap_cell hC6 2 rfl; have hO6 : Hid _ := ho6; clear ho6))
                      | (at_lookup; go_must (refine wpList_lookup_own_bool _ rfl _ _ 309 rfl 3 4 key3 Tryz.underlying309 (zeroBool _) w.heap.size _ _ rfl hO6.out _ _ rfl (keyOf_int_mk Tryz.underlying3 hwv1) ?_; intro cc hat; have hcc := hat.symm.trans hgl.out; simp only [DataW.lit.injEq, Lit.bool.injEq] at hcc; subst hcc; clear hat))
                      | (at_mapUpdate; go_must (refine wpList_mapUpdate_own _ rfl _ _ _ 309 rfl 3 4 key3 Tryz.underlying309 boolR w.heap.size (2 * D2.length + 1 + 1) _ rfl hO6.out hlt2 _ _ _ rfl rfl (keyOf_int_mk Tryz.underlying3 hwv1) _ [] rfl ?_; intro w7 ho7 hg7)))
                    have hb7 : Below w.heap.size wk w7 := ((((Below.refl w.heap.size wk).alloc hwks _).grown hg6 (by simp; omega) (fun q hq => by cases hq; exact Nat.le_refl _)).grown hg7 (by have := hg6.size; simp at this; omega) (fun q hq => by cases hq; exact Nat.le_refl _))
                    rw [← HEq.out] at ho7
                    exact ⟨⟨k + 1, by omega, by go_num, HFin.out w7 _ ho7 rfl (x1.out.trans hb7), HBt.out.trans hb7⟩, by simp [intOf]; omega⟩
                  · have hq1 : (op == 1) = false := by simpa using hop1
                    by_cases hop2 : op = 2
                    · subst hop2
                      have HEq : Hid ((false || (decide ((2 : Int) = 1) || decide ((2 : Int) = 2))) = true) := rfl
                      go_wp2_with (first
                        | (at_mapUpdate; have _t := tok1; go_must (refine wpList_mapUpdate_own _ rfl _ _ _ 309 rfl 3 4 key3 Tryz.underlying309 boolR w.heap.size (2 * D2.length + 1) D rfl x2.out hlt1 _ _ _ rfl rfl (keyOf_int_mk Tryz.underlying3 hwv) _ [] rfl ?_; intro w6 ho6 hg6; clear tok1; have hC6 := (hg6.block wk.heap.size (by simp) hneM).trans hC5.out; have y1 := heap_cell hC6 1 rfl; have y2 := heap_cell hC6 2 rfl; have hO6 : Hid _ := ho6; clear ho6))
                        | (at_lookup; go_must (refine wpList_lookup_own_bool _ rfl _ _ 309 rfl 3 4 key3 Tryz.underlying309 (zeroBool _) w.heap.size _ _ rfl hO6.out _ _ rfl (keyOf_int_mk Tryz.underlying3 hwv1) ?_; intro cc hat; have hcc := hat.symm.trans hgl.out; simp only [DataW.lit.injEq, Lit.bool.injEq] at hcc; subst hcc; clear hat))
                        | (at_mapUpdate; go_must (refine wpList_mapUpdate_own _ rfl _ _ _ 309 rfl 3 4 key3 Tryz.underlying309 boolR w.heap.size (2 * D2.length + 1 + 1) _ rfl hO6.out hlt2 _ _ _ rfl rfl (keyOf_int_mk Tryz.underlying3 hwv1) _ [] rfl ?_; intro w7 ho7 hg7)))
                      have hb7 : Below w.heap.size wk w7 := ((((Below.refl w.heap.size wk).alloc hwks _).grown hg6 (by simp; omega) (fun q hq => by cases hq; exact Nat.le_refl _)).grown hg7 (by have := hg6.size; simp at this; omega) (fun q hq => by cases hq; exact Nat.le_refl _))
                      rw [← HEq.out] at ho7
                      exact ⟨⟨k + 1, by omega, by go_num, HFin.out w7 _ ho7 rfl (x1.out.trans hb7), HBt.out.trans hb7⟩, by simp [intOf]; omega⟩
                    · have hq2 : (op == 2) = false := by simpa using hop2
                      have HEq : Hid ((false || (decide (op = 1) || decide (op = 2))) = false) := by unfold Hid; simp [hop1, hop2]
                      go_wp2_with (first
                        | (at_mapUpdate; have _t := tok1; go_must (refine wpList_mapUpdate_own _ rfl _ _ _ 309 rfl 3 4 key3 Tryz.underlying309 boolR w.heap.size (2 * D2.length + 1) D rfl x2.out hlt1 _ _ _ rfl rfl (keyOf_int_mk Tryz.underlying3 hwv) _ [] rfl ?_; intro w6 ho6 hg6; clear tok1; have hC6 := (hg6.block wk.heap.size (by simp) hneM).trans hC5.out; have y1 := heap_cell hC6 1 rfl; have y2 := heap_cell hC6 2 rfl; have hO6 : Hid _ := ho6; clear ho6))
                        | (at_lookup; go_must (refine wpList_lookup_own_bool _ rfl _ _ 309 rfl 3 4 key3 Tryz.underlying309 (zeroBool _) w.heap.size _ _ rfl hO6.out _ _ rfl (keyOf_int_mk Tryz.underlying3 hwv1) ?_; intro cc hat; have hcc := hat.symm.trans hgl.out; simp only [DataW.lit.injEq, Lit.bool.injEq] at hcc; subst hcc; clear hat))
                        | (at_mapUpdate; go_must (refine wpList_mapUpdate_own _ rfl _ _ _ 309 rfl 3 4 key3 Tryz.underlying309 boolR w.heap.size (2 * D2.length + 1 + 1) _ rfl hO6.out hlt2 _ _ _ rfl rfl (keyOf_int_mk Tryz.underlying3 hwv1) _ [] rfl ?_; intro w7 ho7 hg7)))
                      have hb7 : Below w.heap.size wk w7 := ((((Below.refl w.heap.size wk).alloc hwks _).grown hg6 (by simp; omega) (fun q hq => by cases hq; exact Nat.le_refl _)).grown hg7 (by have := hg6.size; simp at this; omega) (fun q hq => by cases hq; exact Nat.le_refl _))
                      rw [← HEq.out] at ho7
                      exact ⟨⟨k + 1, by omega, by go_num, HFin.out w7 _ ho7 rfl (x1.out.trans hb7), HBt.out.trans hb7⟩, by simp [intOf]; omega⟩
              · have hq : (fc == f) = false := by simpa using hfc
                have HS6 : Hid (CutSt w W5 w.heap.size f (D1 ++ cs.take (k + 1))) := by
                  rw [HP2.out]
                  obtain ⟨x1, D, x2, x3⟩ := HS5
                  refine ⟨x1, D, x2.mono (by simp; omega), x3.congr fun n _ => (atB_other (c := (fc, op, v)) hfc n).symm⟩
                have hb6 : Below w.heap.size wj W5 := Below.thenOf hbk hb5 (by omega)
                clear HS5 hfc
                go_wp2
                rw [← hW5]
                exact ⟨⟨k + 1, by omega, by go_num, HS6, hb6⟩, by simp [intOf]; omega⟩
            · obtain rfl : k = n3 := by omega
              have HS6 : Hid (CutSt w wk w.heap.size f (D0 ++ (rs.take (j + 1)).flatMap (·.1))) := by
                have := HSk.out
                rw [List.take_of_length_le (by rw [hn3H.out]; omega), ← HP1.out] at this
                exact this
              have hb6 : Below w.heap.size wo wk := hbj.trans hbk
              go_wp2
              exact ⟨⟨j + 1, by omega, by go_num, HS6, hb6⟩, by simp [intOf]; omega⟩
        · obtain rfl : j = m := by omega
          have HS6 : Hid (CutSt w wj w.heap.size f (polsConds (ps.take (i + 1)))) := by
            have := HSj.out
            rw [List.take_of_length_le (by rw [hmH.out]; omega)] at this
            rw [HP.out]
            exact this
          go_wp2
          exact ⟨⟨i + 1, by omega, by go_num, HS6⟩, by simp [intOf]; omega⟩
    · obtain rfl : i = len := by omega
      obtain ⟨hbw, D, hM, hMB⟩ := HS.out
      rw [List.take_of_length_le (by rw [hlenH.out]; omega)] at hM hMB
      have HM : Hid _ := hM
      have HMB : Hid _ := hMB
      obtain ⟨nc, hnc⟩ : ∃ nc, nc = 2 * (polsConds ps).length + 1 := ⟨_, rfl⟩
      rw [← hnc] at HM
      clear hM hMB hnc HS
      go_wp2_with (first | (at_range; go_must (refine wpList_range_own _ rfl _ 309 rfl 3 4 key3 Tryz.underlying309 _ w.heap.size nc D rfl HM.out ?_; intro w3 hrg3 hg3 hs3)))
      have hb3 : Below w.heap.size w w3 := hbw.grown hg3 hos (fun k hk => by cases hk)
      have HG3 : Hid _ := hrg3
      clear hrg3 hg3 HM
      go_frame
      go_loopw [12] (fun ov wr => ∃ (left : Lit → Bool) (cnt : Nat) (xs : List Int), Hid (wr.ranges Tryz.prog 3 boolR w.heap.size wo.heap.size nc D left cnt) ∧ Hid (wr.ownsRow w.heap.size 3 1 ov xs.length (intCells xs)) ∧ Hid (Gath D (atB f (polsConds ps)) (most f) left xs) ∧ Below w.heap.size w wr) (fun _ wr => wr.rangeLeft w.heap.size wo.heap.size)
      case atStart => exact ⟨_, _, [], HG3, ⟨rfl, .inl ⟨rfl, rfl⟩⟩, Gath.start, hb3⟩
      case round =>
        obtain ⟨left, cnt, xs, HRg, HOw, HGa, hbr⟩ := hrel
        obtain ⟨wi, hwi⟩ : ∃ x, x = wr := ⟨_, rfl⟩
        subst hwi
        have hfew := HGa.out.few HOK.out
        have hwis := hbr.size
        go_wp2_with (first
          | (at_next; go_must (refine wpList_next_b _ rfl _ rfl 3 key3 Tryz.underlying3 w.heap.size wo.heap.size nc D left cnt rfl HRg.out (fun hc0 hl0 => ?_) (fun x c w4 cnt4 hH4 hlt4 hs4 hen4 => ?_)))
          | (go_at_call 55; go_must (refine Calls.mono (mostOf_any _ hf _) ?_; rintro e w5 ⟨rfl, hb5⟩; have hb45 := hb5; have hO5 : Hid (w5.ownsRow w.heap.size 3 1 u12 xs.length (intCells xs)) := ownsRow_below (own_next HRg.out HOw.out hH4.out.2.2.2.2.2) hb5))
          | (at_builtin; go_must (refine wpList_appG _ rfl _ _ rfl Tryz.underlying162 hi1 hi2 hi3 hi4 rfl (by decide) w.heap.size _ _ _ rfl _ 1 [.int .i64 x] rfl _ rfl (by simp) w5 (by repeat (first | exact Below.refl _ _ | refine Below.setCell ?_ (by simp) _ | refine Below.alloc ?_ (by simp) _)) hO5.out rfl (by simp [Value.oneCell']) (by omega) (by omega) (by have := hb45.size; omega) ?_; intro v6 w6 hO6 hb6 hg6)))
        · go_at_call 169
          have hdone := HGa.out.done HMB.out HOK.out hl0.out
          have hsort := gathered HGa.out.1 hdone
          have h0 : (0 : Int) ∈ xs := (hdone 0).2 ⟨atB_iff.2 (.inl rfl), most_nn f⟩
          have hpos : 0 < xs.length := List.length_pos_of_mem h0
          have hown := HOw.out
          rcases hown.2 with ⟨_, hz⟩ | ⟨g, cap5, cur, rfl, hgb, hgc, hncap, hcapm, hcsz, htk⟩
          · omega
          have hH := holds_of_blockI (ss := xs) hgc (by simpa [intCells] using htk)
          have hlen5 : (cutsP ps f).length = xs.length := by rw [← hsort]; exact List.length_mergeSort _
          refine Calls.mono (Tryz.slices_Sort_int g 0 cap5 xs wi hH (lt_of_block hgc) (by omega)) ?_
          rintro e w5 ⟨rfl, n5, os5, hw5⟩
          rw [hsort] at hw5
          have hO5 : Hid (w5.ownsRow w.heap.size 3 1 (.slice (some ⟨g, 0, none⟩) xs.length cap5) (cutsP ps f).length ((cutsP ps f).map (.int .i64))) := by
            rw [hw5]
            unfold Hid
            have := ownsRow_sortedI (n := n5) (os := os5) (ts := cutsP ps f) hlen5 hgb hgc hncap hcapm hcsz
            rw [hlen5]
            exact this
          have hB5 : Below w.heap.size w w5 := by
            rw [hw5]
            exact hbr.grown (grownBy_sortedI _) hwis (fun k hk => by cases hk; exact hgb)
          clear hw5 hH hgc hcsz htk hdone hsort hown
          go_wp2_with fail
          go_ret
          exact ⟨_, rfl, hO5.out, hB5⟩
        all_goals
          obtain ⟨hwx, hlx, hhx, hat, hrg4, hg4⟩ := hH4.out
          have hcg : c = atB f (polsConds ps) x := by
            have h1 := HMB.out x hwx
            rw [hat] at h1
            simpa using h1
          have hb4 : Below w.heap.size w w4 := hbr.grown hg4 hwis (fun k hk => by cases hk; exact hos)
          have hs4' := hb4.size
        · have hct : c = true := by assumption
          have hxm : x ≤ most f := by assumption
          have hg6' : w5.grownBy w6 u12.ownBlock := hg6.out
          have hrg6 := ranges_own (ranges_below hrg4 hb5) hO5.out hg6'
          have hb56 := Below.thenOf hb4 hb5 hs4'
          refine ⟨⟨_, cnt4, xs ++ [x], hrg6, ?_, HGa.out.take hlx hhx hwx (by rw [← hcg]; exact hct) hxm, hb56.trans hb6⟩, ?_⟩
          · have := hO6.out
            unfold Hid
            simpa [intCells] using this
          · rw [World.ranges.left_eq hrg6, World.ranges.left_eq HRg.out]
            exact hlt4
        · have hxm : most f < x := by assumption
          have hrg6 := ranges_below hrg4 hb5
          refine ⟨⟨_, cnt4, xs, hrg6, hO5, HGa.out.skip (fun h => by omega), Below.thenOf hb4 hb5 hs4'⟩, ?_⟩
          rw [World.ranges.left_eq hrg6, World.ranges.left_eq HRg.out]
          exact hlt4
        · have hcf : ¬ c = true := by assumption
          refine ⟨⟨_, cnt4, xs, hrg4, own_next HRg.out HOw.out hg4, HGa.out.skip (fun h => hcf (by rw [hcg]; exact h.1)), hb4⟩, ?_⟩
          rw [World.ranges.left_eq hrg4, World.ranges.left_eq HRg.out]
          exact hlt4
end Go.Proofs.YtbdlojnigflanacGreatDoor
