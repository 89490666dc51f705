/- Package point: all conditions of all policies, one by one. -/
import Derived.Test.YtclehchkmienoabGreatDoorOj25
set_option linter.all false
set_option maxRecDepth 100000
namespace Go.Proofs.YtclehchkmienoabGreatDoor
open Go.RowKit Go.Maps

set_option maxHeartbeats 8000000 in
theorem eachCond_any (B B0 bf bc bm : Nat) (lv : Value) (ps : List PolT) (f : Int) (w : World) (hl : PolsAt B w lv ps) (hok : AllOk ps) (hB : B ≤ B0) (hB0 : B0 ≤ w.heap.size) (hn : ps.length ≤ 5000000000) (hbc : B0 ≤ bc) (hG : GaS B0 bf bc bm f (gathD f []) w) :
    Calls Tryz.prog 42 #[lv, .func (.func 43) #[] #[.pointer (some ⟨bf, 0, none⟩), .pointer (some ⟨bc, 0, none⟩), .pointer (some ⟨bm, 0, none⟩)]] w fun e w' => e = .returned (.tuple #[]) ∧ GaS B0 bf bc bm f (gathD f (polsConds ps)) w' ∧ Below B0 w w' := by
  obtain ⟨J, hJ⟩ : ∃ J : List CondT → World → Prop, J = fun done v => GaS B0 bf bc bm f (gathD f done) v ∧ Below B0 w v := ⟨_, rfl⟩
  have HJB : Hid (∀ done v, J done v → Below B0 w v) := by rw [hJ]; exact fun _ _ h => h.2
  have HJE : Hid (∀ done v, J done v → GaS B0 bf bc bm f (gathD f done) v) := by rw [hJ]; exact fun _ _ h => h.1
  have HJL : Hid (∀ done v v', J done v → Below v.heap.size v v' → J done v') := by rw [hJ]; exact fun _ v v' h hb => ⟨h.1.later hb, Below.thenOf h.2 hb (Nat.le_trans hB0 h.2.size)⟩
  have HJS : Hid (∀ done c v, J done v → condErr c = 0 → done.length ≤ 6000000002500 → Calls Tryz.prog 43 #[.agg #[.int .i64 c.1, .int .i64 c.2.1, .int .i64 c.2.2], .pointer (some ⟨bf, 0, none⟩), .pointer (some ⟨bc, 0, none⟩), .pointer (some ⟨bm, 0, none⟩)] v fun e v' => e = .returned (.tuple #[]) ∧ J (done ++ [c]) v' ∧ Below B0 v v') := by
    rw [hJ]
    intro done c v h hc hd
    have hlen := gathD_len f done
    refine (gather_any B0 bf bc bm f c (gathD f done) v h.1 hc hbc (Nat.le_trans hB0 h.2.size) (by omega)).mono fun e v' ⟨e1, e2, e3⟩ => ⟨e1, ⟨?_, h.2.trans e3⟩, e3⟩
    rw [gathD_snoc]
    exact e2
  have HJ0 : Hid (J (polsConds (ps.take 0)) w) := by rw [hJ]; exact ⟨hG, Below.refl _ _⟩
  clear hJ hG
  have HL : Hid (∀ w', Below B0 w w' → PolsAt B w' lv ps) := fun w' h => hl.later h hB
  have HOK : Hid (AllOk ps) := hok
  have HCL : Hid (∀ i, (polsConds (ps.take i)).length ≤ ps.length * 1200) := fun i => by
    have := polsConds_len (ps.take i) fun p hp => hok p (List.mem_of_mem_take hp)
    rw [List.length_take] at this
    have h2 : min i ps.length * 1200 ≤ ps.length * 1200 := Nat.mul_le_mul_right _ (by omega)
    exact Nat.le_trans this h2
  obtain ⟨a, cap, rfl, hlc, hcm, -⟩ := hl
  have hml := maxLen_eq
  generalize hlen : ps.length = len at *
  have hlenH : Hid (ps.length = len) := hlen
  clear hlen hok
  go_enter Tryz.func42, Tryz.ntmps42
  go_wp2
  go_loopw [12] (fun iv wr => ∃ i : Nat, i ≤ len ∧ iv = .int .i64 i ∧ Hid (J (polsConds (ps.take i)) wr)) (fun iv _ => len - (intOf iv).toNat)
  case atStart => exact ⟨0, by omega, rfl, HJ0⟩
  case round =>
    obtain ⟨i, hi, rfl, HS⟩ := hrel
    obtain ⟨wo, hwo⟩ : ∃ x, x = wr := ⟨_, rfl⟩
    subst hwo
    have i0 : (0 : Int) ≤ (i : Int) := by omega
    have hbo := HJB.out _ _ HS.out
    have hos := hbo.size
    by_cases hlt : i < len
    · have i1 : (i : Int) < (len : Int) := by omega
      obtain ⟨p, hpk⟩ : ∃ p, ps[i]? = some p := ⟨ps[i]'(by rw [hlenH.out]; omega), by simp⟩
      have HP : Hid (polsConds (ps.take (i + 1)) = polsConds (ps.take i) ++ polConds p) := polsConds_take ps i p hpk
      obtain ⟨hp120, _, hpr⟩ := polErr_ok (HOK.out p (List.mem_of_getElem? hpk))
      have HRk : Hid (∀ r ∈ p.1, ruleErr r = 0) := rulesErr_all hpr
      clear hpr
      obtain ⟨_, _, e1, -, -, hat⟩ := HL.out _ hbo
      obtain ⟨b, o, e, hbB, hpc⟩ := hat i p hpk
      simp at e1
      obtain ⟨rfl, -, -⟩ := e1
      subst e
      clear hat
      obtain ⟨rs, d⟩ := p
      obtain ⟨rv, k0, k1, -, hrs⟩ := hpc
      have HRS : Hid (∀ w', Below B0 wo w' → RulesAt B w' rv rs) := fun w' h => hrs.later h hB
      obtain ⟨a2, c2, erv, hr2c, hc2m, -⟩ := hrs
      subst erv
      simp only [] at hp120 HRk k0 k1 hr2c
      obtain ⟨m, hm⟩ : ∃ m, m = rs.length := ⟨_, rfl⟩
      have hmH : Hid (rs.length = m) := hm.symm
      rw [← hm] at k0 hr2c hp120
      simp only [← hm] at HRS
      clear hm
      have hCL := HCL.out i
      obtain ⟨D0, hD0⟩ : ∃ D0, D0 = polsConds (ps.take i) := ⟨_, rfl⟩
      rw [← hD0] at hCL HS HP
      clear hD0
      have HS0 : Hid (∀ X, J (D0 ++ (rs.take 0).flatMap (·.1)) (wo.alloc X)) := fun X => by
        have := HJL.out _ _ _ HS.out ((Below.refl wo.heap.size _).alloc (Nat.le_refl _) X)
        simpa using this
      have HBo : Hid (∀ X, Below B0 wo (wo.alloc X)) := fun X => (Below.refl _ _).alloc (by omega) _
      have HRL : Hid (∀ j, ((rs.take j).flatMap (·.1)).length ≤ 1200) := fun j => by
        have := rulesConds_len (rs.take j) fun r hr => HRk.out r (List.mem_of_mem_take hr)
        rw [List.length_take, hmH.out] at this
        omega
      go_wp2
      go_loopw [19] (fun jv wr => ∃ j : Nat, j ≤ m ∧ jv = .int .i64 j ∧ Hid (J (D0 ++ (rs.take j).flatMap (·.1)) wr) ∧ Below B0 wo wr) (fun jv _ => m - (intOf jv).toNat)
      case atStart => exact ⟨0, by omega, rfl, HS0.out _, HBo.out _⟩
      case round =>
        obtain ⟨j, hj, rfl, HSj, hbj⟩ := hrel
        obtain ⟨wj, hwj⟩ : ∃ x, x = wr := ⟨_, rfl⟩
        subst hwj
        have j0 : (0 : Int) ≤ (j : Int) := by omega
        have hjs := hbj.size
        have hws := (HJB.out _ _ HSj.out).size
        by_cases hlj : j < m
        · have j1 : (j : Int) < (m : Int) := by omega
          obtain ⟨r, hrk⟩ : ∃ r, rs[j]? = some r := ⟨rs[j]'(by rw [hmH.out]; omega), by simp⟩
          have HPj : Hid ((rs.take (j + 1)).flatMap (·.1) = (rs.take j).flatMap (·.1) ++ r.1) := rulesConds_take rs j r hrk
          obtain ⟨hr10, _, hrc⟩ := ruleErr_ok (HRk.out r (List.mem_of_getElem? hrk))
          have HCk : Hid (∀ c ∈ r.1, condErr c = 0) := condsErr_all hrc
          clear hrc
          obtain ⟨_, _, e1, -, -, hat⟩ := HRS.out _ hbj
          obtain ⟨b3, o3, e, hbB3, hrc⟩ := hat j r hrk
          simp at e1
          obtain ⟨rfl, -, -⟩ := e1
          subst e
          clear hat
          obtain ⟨cs, vd⟩ := r
          obtain ⟨cv, q0, q1, -, hcs⟩ := hrc
          have HCS : Hid (∀ w', Below B0 wj w' → CondsAt B w' cv cs) := fun w' h => hcs.later h hB
          obtain ⟨a3, c3, ecv, hc3c, hc3m, -⟩ := hcs
          subst ecv
          simp only [] at hr10 HCk q0 q1 hc3c HPj
          obtain ⟨n3, hn3⟩ : ∃ n3, n3 = cs.length := ⟨_, rfl⟩
          have hn3H : Hid (cs.length = n3) := hn3.symm
          rw [← hn3] at q0 hc3c hr10
          simp only [← hn3] at HCS
          clear hn3
          have hRL := HRL.out j
          obtain ⟨D1, hD1⟩ : ∃ D1, D1 = D0 ++ (rs.take j).flatMap (·.1) := ⟨_, rfl⟩
          have hD1l : D1.length ≤ len * 1200 + 1200 := by rw [hD1, List.length_append]; omega
          rw [← hD1] at HSj
          have HP1 : Hid (D0 ++ (rs.take (j + 1)).flatMap (·.1) = D1 ++ cs) := by unfold Hid; rw [HPj.out, hD1, List.append_assoc]
          clear hD1 HPj hRL
          have HS1 : Hid (∀ X, J (D1 ++ cs.take 0) (wj.alloc X)) := fun X => by
            have := HJL.out _ _ _ HSj.out ((Below.refl wj.heap.size _).alloc (Nat.le_refl _) X)
            simpa using this
          have HBj : Hid (∀ X, Below B0 wj (wj.alloc X)) := fun X => (Below.refl _ _).alloc (by omega) _
          go_wp2
          go_loopw [26] (fun kv wr => ∃ k : Nat, k ≤ n3 ∧ kv = .int .i64 k ∧ Hid (J (D1 ++ cs.take k) wr) ∧ Below B0 wj wr) (fun kv _ => n3 - (intOf kv).toNat)
          case atStart => exact ⟨0, by omega, rfl, HS1.out _, HBj.out _⟩
          case round =>
            obtain ⟨k, hk, rfl, HSk, hbk⟩ := hrel
            obtain ⟨wk, hwk⟩ : ∃ x, x = wr := ⟨_, rfl⟩
            subst hwk
            have k0' : (0 : Int) ≤ (k : Int) := by omega
            have hks := hbk.size
            have hwks := (HJB.out _ _ HSk.out).size
            by_cases hlk : k < n3
            · have k1' : (k : Int) < (n3 : Int) := by omega
              obtain ⟨c, hck⟩ : ∃ c, cs[k]? = some c := ⟨cs[k]'(by rw [hn3H.out]; omega), by simp⟩
              have HPk : Hid (cs.take (k + 1) = cs.take k ++ [c]) := conds_take cs k c hck
              have hce := HCk.out c (List.mem_of_getElem? hck)
              obtain ⟨_, _, e1, -, -, hat⟩ := HCS.out _ hbk
              obtain ⟨b4, o4', e, hbB4, z0, z1, z2, -⟩ := hat k c hck
              simp at e1
              obtain ⟨rfl, -, -⟩ := e1
              subst e
              clear hat
              obtain ⟨D2, hD2⟩ : ∃ D2, D2 = D1 ++ cs.take k := ⟨_, rfl⟩
              have hD2l : D2.length ≤ len * 1200 + 1300 := by rw [hD2, List.length_append, List.length_take]; omega
              rw [← hD2] at HSk
              have HP2 : Hid (D1 ++ cs.take (k + 1) = D2 ++ [c]) := by unfold Hid; rw [HPk.out, hD2, List.append_assoc]
              clear hD2 HPk
              have HCl : Hid (∀ X, Calls Tryz.prog 43 #[.agg #[.int .i64 c.1, .int .i64 c.2.1, .int .i64 c.2.2], .pointer (some ⟨bf, 0, none⟩), .pointer (some ⟨bc, 0, none⟩), .pointer (some ⟨bm, 0, none⟩)] (wk.alloc X) fun e v' => e = .returned (.tuple #[]) ∧ J (D2 ++ [c]) v' ∧ Below B0 wk v') := by
                intro X
                have h1 := HJL.out _ _ _ HSk.out ((Below.refl wk.heap.size _).alloc (Nat.le_refl _) X)
                refine (HJS.out D2 c _ h1 hce (by omega)).mono fun e v' ⟨e1, e2, e3⟩ => ⟨e1, e2, ((Below.refl B0 wk).alloc (by omega) X).trans e3⟩
              clear hce
              obtain ⟨fc, op, v⟩ := c
              simp only [] at z0 z1 z2 HCl
              go_wp2_with (first | (go_at_call 43; go_must (refine Calls.mono (HCl.out _) ?_; rintro e w2 ⟨rfl, hJ2, hb2⟩)))
              have HJ2 : Hid (J (D1 ++ cs.take (k + 1)) w2) := by rw [HP2.out]; exact hJ2
              exact ⟨⟨k + 1, by omega, by go_num, HJ2, hbk.trans hb2⟩, by simp [intOf]; omega⟩
            · obtain rfl : k = n3 := by omega
              have HS6 : Hid (J (D0 ++ (rs.take (j + 1)).flatMap (·.1)) wk) := by
                have := HSk.out
                rw [List.take_of_length_le (by rw [hn3H.out]; omega), ← HP1.out] at this
                exact this
              have hb6 : Below B0 wo wk := hbj.trans hbk
              go_wp2
              exact ⟨⟨j + 1, by omega, by go_num, HS6, hb6⟩, by simp [intOf]; omega⟩
        · obtain rfl : j = m := by omega
          have HS6 : Hid (J (polsConds (ps.take (i + 1))) wj) := by
            have := HSj.out
            rw [List.take_of_length_le (by rw [hmH.out]; omega)] at this
            rw [HP.out]
            exact this
          go_wp2
          exact ⟨⟨i + 1, by omega, by go_num, HS6⟩, by simp [intOf]; omega⟩
    · obtain rfl : i = len := by omega
      have HS6 := HS.out
      rw [List.take_of_length_le (by rw [hlenH.out]; omega)] at HS6
      have HE := HJE.out _ _ HS6
      go_wp2
      go_end0
      exact ⟨rfl, HE, hbo⟩

end Go.Proofs.YtclehchkmienoabGreatDoor
