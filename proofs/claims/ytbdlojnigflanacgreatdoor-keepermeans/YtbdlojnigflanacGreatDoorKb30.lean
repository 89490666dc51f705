/- Joined: PtD3 PtD4. -/
import Derived.Test.YtbdlojnigflanacGreatDoorKb29
section
/- Package point: all conditions of all policies, one by one. -/
set_option linter.all false
set_option maxRecDepth 100000
namespace Go.Proofs.YtbdlojnigflanacGreatDoor
open Go.RowKit Go.Maps

set_option maxHeartbeats 8000000 in
theorem eachCond_any (B B0 bf bc bm : Nat) (lv : Value) (ps : List PolT) (f : Int) (w : World) (hl : PolsAt B w lv ps) (hok : AllOk ps) (hB : B ≤ B0) (hB0 : B0 ≤ w.heap.size) (hn : ps.length ≤ 5000000000) (hbc : B0 ≤ bc) (hG : GaS B0 bf bc bm f (gathD f []) w) :
    Calls Tryz.prog 167 #[lv, .func (.func 168) #[] #[.pointer (some ⟨bf, 0, none⟩), .pointer (some ⟨bc, 0, none⟩), .pointer (some ⟨bm, 0, none⟩)]] w fun e w' => e = .returned (.tuple #[]) ∧ GaS B0 bf bc bm f (gathD f (polsConds ps)) w' ∧ Below B0 w w' := by
  obtain ⟨J, hJ⟩ : ∃ J : List CondT → World → Prop, J = fun done v => GaS B0 bf bc bm f (gathD f done) v ∧ Below B0 w v := ⟨_, rfl⟩
  have HJB : Hid (∀ done v, J done v → Below B0 w v) := by rw [hJ]; exact fun _ _ h => h.2
  have HJE : Hid (∀ done v, J done v → GaS B0 bf bc bm f (gathD f done) v) := by rw [hJ]; exact fun _ _ h => h.1
  have HJL : Hid (∀ done v v', J done v → Below v.heap.size v v' → J done v') := by rw [hJ]; exact fun _ v v' h hb => ⟨h.1.later hb, Below.thenOf h.2 hb (Nat.le_trans hB0 h.2.size)⟩
  have HJS : Hid (∀ done c v, J done v → condErr c = 0 → done.length ≤ 6000000002500 → Calls Tryz.prog 168 #[.agg #[.int .i64 c.1, .int .i64 c.2.1, .int .i64 c.2.2], .pointer (some ⟨bf, 0, none⟩), .pointer (some ⟨bc, 0, none⟩), .pointer (some ⟨bm, 0, none⟩)] v fun e v' => e = .returned (.tuple #[]) ∧ J (done ++ [c]) v' ∧ Below B0 v v') := by
    rw [hJ]
    intro done c v h hc hd
    have hlen := gathD_len f done
    refine (gather_any B0 bf bc bm f c (gathD f done) v h.1 hc hbc (Nat.le_trans hB0 h.2.size) (by omega)).mono fun e v' ⟨e1, e2, e3⟩ => ⟨e1, ⟨?_, h.2.trans e3⟩, e3⟩
    rw [gathD_snoc]
    exact e2
  have HJ0 : Hid (J (polsConds (ps.take 0)) w) := by rw [hJ]; exact ⟨hG, Below.refl _ _⟩
  clear hJ hG
  have HL : Hid (∀ w', Below B0 w w' → PolsAt B w' lv ps) := fun w' h => hl.later h hB
  have HOK : Hid (AllOk ps) := hok
  have HCL : Hid (∀ i, (polsConds (ps.take i)).length ≤ ps.length * 1200) := fun i => by
    have := polsConds_len (ps.take i) fun p hp => hok p (List.mem_of_mem_take hp)
    rw [List.length_take] at this
    have h2 : min i ps.length * 1200 ≤ ps.length * 1200 := Nat.mul_le_mul_right _ (by omega)
    exact Nat.le_trans this h2
  obtain ⟨a, cap, rfl, hlc, hcm, -⟩ := hl
  have hml := maxLen_eq
  generalize hlen : ps.length = len at *
  have hlenH : Hid (ps.length = len) := hlen
  clear hlen hok
  go_enter Tryz.func167, Tryz.ntmps167
  go_wp2
  go_loopw [12] (fun iv wr => ∃ i : Nat, i ≤ len ∧ iv = .int .i64 i ∧ Hid (J (polsConds (ps.take i)) wr)) (fun iv _ => len - (intOf iv).toNat)
  case atStart => exact ⟨0, by omega, rfl, HJ0⟩
  case round =>
    obtain ⟨i, hi, rfl, HS⟩ := hrel
    obtain ⟨wo, hwo⟩ : ∃ x, x = wr := ⟨_, rfl⟩
    subst hwo
    have i0 : (0 : Int) ≤ (i : Int) := by omega
    have hbo := HJB.out _ _ HS.out
    have hos := hbo.size
    by_cases hlt : i < len
    · have i1 : (i : Int) < (len : Int) := by omega
      obtain ⟨p, hpk⟩ : ∃ p, ps[i]? = some p := ⟨ps[i]'(by rw [hlenH.out]; omega), by simp⟩
      have HP : Hid (polsConds (ps.take (i + 1)) = polsConds (ps.take i) ++ polConds p) := polsConds_take ps i p hpk
      obtain ⟨hp120, _, hpr⟩ := polErr_ok (HOK.out p (List.mem_of_getElem? hpk))
      have HRk : Hid (∀ r ∈ p.1, ruleErr r = 0) := rulesErr_all hpr
      clear hpr
      obtain ⟨_, _, e1, -, -, hat⟩ := HL.out _ hbo
      obtain ⟨b, o, e, hbB, hpc⟩ := hat i p hpk
      simp at e1
      obtain ⟨rfl, -, -⟩ := e1
      subst e
      clear hat
      obtain ⟨rs, d⟩ := p
      obtain ⟨rv, k0, k1, -, hrs⟩ := hpc
      have HRS : Hid (∀ w', Below B0 wo w' → RulesAt B w' rv rs) := fun w' h => hrs.later h hB
      obtain ⟨a2, c2, erv, hr2c, hc2m, -⟩ := hrs
      subst erv
      simp only [] at hp120 HRk k0 k1 hr2c
      obtain ⟨m, hm⟩ : ∃ m, m = rs.length := ⟨_, rfl⟩
      have hmH : Hid (rs.length = m) := hm.symm
      rw [← hm] at k0 hr2c hp120
      simp only [← hm] at HRS
      clear hm
      have hCL := HCL.out i
      obtain ⟨D0, hD0⟩ : ∃ D0, D0 = polsConds (ps.take i) := ⟨_, rfl⟩
      rw [← hD0] at hCL HS HP
      clear hD0
      have HS0 : Hid (∀ X, J (D0 ++ (rs.take 0).flatMap (·.1)) (wo.alloc X)) := fun X => by
        have := HJL.out _ _ _ HS.out ((Below.refl wo.heap.size _).alloc (Nat.le_refl _) X)
        simpa using this
      have HBo : Hid (∀ X, Below B0 wo (wo.alloc X)) := fun X => (Below.refl _ _).alloc (by omega) _
      have HRL : Hid (∀ j, ((rs.take j).flatMap (·.1)).length ≤ 1200) := fun j => by
        have := rulesConds_len (rs.take j) fun r hr => HRk.out r (List.mem_of_mem_take hr)
        rw [List.length_take, hmH.out] at this
        omega
      go_wp2
      go_loopw [19] (fun jv wr => ∃ j : Nat, j ≤ m ∧ jv = .int .i64 j ∧ Hid (J (D0 ++ (rs.take j).flatMap (·.1)) wr) ∧ Below B0 wo wr) (fun jv _ => m - (intOf jv).toNat)
      case atStart => exact ⟨0, by omega, rfl, HS0.out _, HBo.out _⟩
      case round =>
        obtain ⟨j, hj, rfl, HSj, hbj⟩ := hrel
        obtain ⟨wj, hwj⟩ : ∃ x, x = wr := ⟨_, rfl⟩
        subst hwj
        have j0 : (0 : Int) ≤ (j : Int) := by omega
        have hjs := hbj.size
        have hws := (HJB.out _ _ HSj.out).size
        by_cases hlj : j < m
        · have j1 : (j : Int) < (m : Int) := by omega
          obtain ⟨r, hrk⟩ : ∃ r, rs[j]? = some r := ⟨rs[j]'(by rw [hmH.out]; omega), by simp⟩
          have HPj : Hid ((rs.take (j + 1)).flatMap (·.1) = (rs.take j).flatMap (·.1) ++ r.1) := rulesConds_take rs j r hrk
          obtain ⟨hr10, _, hrc⟩ := ruleErr_ok (HRk.out r (List.mem_of_getElem? hrk))
          have HCk : Hid (∀ c ∈ r.1, condErr c = 0) := condsErr_all hrc
          clear hrc
          obtain ⟨_, _, e1, -, -, hat⟩ := HRS.out _ hbj
          obtain ⟨b3, o3, e, hbB3, hrc⟩ := hat j r hrk
          simp at e1
          obtain ⟨rfl, -, -⟩ := e1
          subst e
          clear hat
          obtain ⟨cs, vd⟩ := r
          obtain ⟨cv, q0, q1, -, hcs⟩ := hrc
          have HCS : Hid (∀ w', Below B0 wj w' → CondsAt B w' cv cs) := fun w' h => hcs.later h hB
          obtain ⟨a3, c3, ecv, hc3c, hc3m, -⟩ := hcs
          subst ecv
          simp only [] at hr10 HCk q0 q1 hc3c HPj
          obtain ⟨n3, hn3⟩ : ∃ n3, n3 = cs.length := ⟨_, rfl⟩
          have hn3H : Hid (cs.length = n3) := hn3.symm
          rw [← hn3] at q0 hc3c hr10
          simp only [← hn3] at HCS
          clear hn3
          have hRL := HRL.out j
          obtain ⟨D1, hD1⟩ : ∃ D1, D1 = D0 ++ (rs.take j).flatMap (·.1) := ⟨_, rfl⟩
          have hD1l : D1.length ≤ len * 1200 + 1200 := by rw [hD1, List.length_append]; omega
          rw [← hD1] at HSj
          have HP1 : Hid (D0 ++ (rs.take (j + 1)).flatMap (·.1) = D1 ++ cs) := by unfold Hid; rw [HPj.out, hD1, List.append_assoc]
          clear hD1 HPj hRL
          have HS1 : Hid (∀ X, J (D1 ++ cs.take 0) (wj.alloc X)) := fun X => by
            have := HJL.out _ _ _ HSj.out ((Below.refl wj.heap.size _).alloc (Nat.le_refl _) X)
            simpa using this
          have HBj : Hid (∀ X, Below B0 wj (wj.alloc X)) := fun X => (Below.refl _ _).alloc (by omega) _
          go_wp2
          go_loopw [26] (fun kv wr => ∃ k : Nat, k ≤ n3 ∧ kv = .int .i64 k ∧ Hid (J (D1 ++ cs.take k) wr) ∧ Below B0 wj wr) (fun kv _ => n3 - (intOf kv).toNat)
          case atStart => exact ⟨0, by omega, rfl, HS1.out _, HBj.out _⟩
          case round =>
            obtain ⟨k, hk, rfl, HSk, hbk⟩ := hrel
            obtain ⟨wk, hwk⟩ : ∃ x, x = wr := ⟨_, rfl⟩
            subst hwk
            have k0' : (0 : Int) ≤ (k : Int) := by omega
            have hks := hbk.size
            have hwks := (HJB.out _ _ HSk.out).size
            by_cases hlk : k < n3
            · have k1' : (k : Int) < (n3 : Int) := by omega
              obtain ⟨c, hck⟩ : ∃ c, cs[k]? = some c := ⟨cs[k]'(by rw [hn3H.out]; omega), by simp⟩
              have HPk : Hid (cs.take (k + 1) = cs.take k ++ [c]) := conds_take cs k c hck
              have hce := HCk.out c (List.mem_of_getElem? hck)
              obtain ⟨_, _, e1, -, -, hat⟩ := HCS.out _ hbk
              obtain ⟨b4, o4', e, hbB4, z0, z1, z2, -⟩ := hat k c hck
              simp at e1
              obtain ⟨rfl, -, -⟩ := e1
              subst e
              clear hat
              obtain ⟨D2, hD2⟩ : ∃ D2, D2 = D1 ++ cs.take k := ⟨_, rfl⟩
              have hD2l : D2.length ≤ len * 1200 + 1300 := by rw [hD2, List.length_append, List.length_take]; omega
              rw [← hD2] at HSk
              have HP2 : Hid (D1 ++ cs.take (k + 1) = D2 ++ [c]) := by unfold Hid; rw [HPk.out, hD2, List.append_assoc]
              clear hD2 HPk
              have HCl : Hid (∀ X, Calls Tryz.prog 168 #[.agg #[.int .i64 c.1, .int .i64 c.2.1, .int .i64 c.2.2], .pointer (some ⟨bf, 0, none⟩), .pointer (some ⟨bc, 0, none⟩), .pointer (some ⟨bm, 0, none⟩)] (wk.alloc X) fun e v' => e = .returned (.tuple #[]) ∧ J (D2 ++ [c]) v' ∧ Below B0 wk v') := by
                intro X
                have h1 := HJL.out _ _ _ HSk.out ((Below.refl wk.heap.size _).alloc (Nat.le_refl _) X)
                refine (HJS.out D2 c _ h1 hce (by omega)).mono fun e v' ⟨e1, e2, e3⟩ => ⟨e1, e2, ((Below.refl B0 wk).alloc (by omega) X).trans e3⟩
              clear hce
              obtain ⟨fc, op, v⟩ := c
              simp only [] at z0 z1 z2 HCl
              go_wp2_with (first | (go_at_call 168; go_must (refine Calls.mono (HCl.out _) ?_; rintro e w2 ⟨rfl, hJ2, hb2⟩)))
              have HJ2 : Hid (J (D1 ++ cs.take (k + 1)) w2) := by rw [HP2.out]; exact hJ2
              exact ⟨⟨k + 1, by omega, by go_num, HJ2, hbk.trans hb2⟩, by simp [intOf]; omega⟩
            · obtain rfl : k = n3 := by omega
              have HS6 : Hid (J (D0 ++ (rs.take (j + 1)).flatMap (·.1)) wk) := by
                have := HSk.out
                rw [List.take_of_length_le (by rw [hn3H.out]; omega), ← HP1.out] at this
                exact this
              have hb6 : Below B0 wo wk := hbj.trans hbk
              go_wp2
              exact ⟨⟨j + 1, by omega, by go_num, HS6, hb6⟩, by simp [intOf]; omega⟩
        · obtain rfl : j = m := by omega
          have HS6 : Hid (J (polsConds (ps.take (i + 1))) wj) := by
            have := HSj.out
            rw [List.take_of_length_le (by rw [hmH.out]; omega)] at this
            rw [HP.out]
            exact this
          go_wp2
          exact ⟨⟨i + 1, by omega, by go_num, HS6⟩, by simp [intOf]; omega⟩
    · obtain rfl : i = len := by omega
      have HS6 := HS.out
      rw [List.take_of_length_le (by rw [hlenH.out]; omega)] at HS6
      have HE := HJE.out _ _ HS6
      go_wp2
      go_end0
      exact ⟨rfl, HE, hbo⟩

end Go.Proofs.YtbdlojnigflanacGreatDoor
end
section
/- Package point: the cuts; points spread over one more field. -/
set_option linter.all false
set_option maxRecDepth 100000
namespace Go.Proofs.YtbdlojnigflanacGreatDoor
open Go.RowKit Go.Maps Go.Shelf Go.Sort

/-- Behind sort and compact. -/
theorem left_cuts {B : Nat} {w w1 : World} {g cap n nn q : Nat} {os : Array Obj} {ss : List Int} (hown : w1.ownsRow B 3 1 (.slice (some ⟨g, 0, none⟩) n cap) n (ss.map (.int .i64))) (hbel : Below B w w1) (hB : B ≤ w1.heap.size) (hbg : B ≤ g) (hlen : ss.length = n) :
    (putRow (Value.int .i64) (Sort.ahead (grow (putRow (Value.int .i64) (Sort.ahead w1 nn) g 0 (ss.mergeSort fun x y => decide (x ≤ y)).toArray) os) q) g 0 (Lib.compact (ss.mergeSort fun x y => decide (x ≤ y)) ++ List.replicate (n - (Lib.compact (ss.mergeSort fun x y => decide (x ≤ y))).length) 0).toArray).ownsRow B 3 1 (.slice (some ⟨g, 0, none⟩) (Lib.compact (ss.mergeSort fun x y => decide (x ≤ y))).length cap) (Lib.compact (ss.mergeSort fun x y => decide (x ≤ y))).length ((Lib.compact (ss.mergeSort fun x y => decide (x ≤ y))).map (.int .i64)) ∧
    Below B w (putRow (Value.int .i64) (Sort.ahead (grow (putRow (Value.int .i64) (Sort.ahead w1 nn) g 0 (ss.mergeSort fun x y => decide (x ≤ y)).toArray) os) q) g 0 (Lib.compact (ss.mergeSort fun x y => decide (x ≤ y)) ++ List.replicate (n - (Lib.compact (ss.mergeSort fun x y => decide (x ≤ y))).length) 0).toArray) := by
  have hl2 : (ss.mergeSort fun x y => decide (x ≤ y)).length = ss.length := List.length_mergeSort ss
  have hle := Lib.compact_length_le (ss.mergeSort fun x y => decide (x ≤ y))
  subst hlen
  rcases hown.2 with ⟨h0, _⟩ | ⟨g', cap', cur, hv, hbase, hb, h1, h2, h3, h4⟩
  · cases h0
  cases hv
  have hs := ownsRow_sortedI (n := nn) (os := os) (ts := ss.mergeSort fun x y => decide (x ≤ y)) hl2 hbase hb h1 h2 h3
  have hc := Lib.ownsRow_putRow (q := q) (k := (Lib.compact (ss.mergeSort fun x y => decide (x ≤ y))).length) (ys := Lib.compact (ss.mergeSort fun x y => decide (x ≤ y)) ++ List.replicate (ss.length - (Lib.compact (ss.mergeSort fun x y => decide (x ≤ y))).length) 0) hs (by simp; omega) (by omega)
  rw [List.take_left] at hc
  exact ⟨hc, Lib.below_putRow (hbel.grown (grownBy_sortedI _) hB (fun j hj => by cases hj; exact hbase)) hbg⟩

theorem heap_made_at (w : World) (o : Obj) {n : Nat} (h : n = w.heap.size) : (w.alloc o).heap[n]? = some o := by subst h; exact heap_made _ _
theorem heap_kept {w : World} (o : Obj) {n : Nat} {x : Obj} (h : w.heap[n]? = some x) : (w.alloc o).heap[n]? = some x := (Below.block ((Below.refl w.heap.size w).alloc (Nat.le_refl _) o) n (Array.getElem?_eq_some_iff.1 h).1).trans h
theorem start_gav (f : Int) (w : World) : GaV w.heap.size w.heap.size (w.heap.size + 1 + 1) (w.heap.size + 1 + 1 + 1) f (gathD f []) (.slice (some ⟨w.heap.size + 1, 0, none⟩) 1 1)
    ((((w.alloc (.cells #[.int .i64 f] 3)).alloc (.cells #[.int .i64 0] 3)).alloc (.cells #[.slice (some ⟨w.heap.size + 1, 0, none⟩) 1 1] 162)).alloc (.cells #[.int .i64 (most f)] 3)) := by
  refine ⟨heap_kept _ (heap_kept _ (heap_kept _ (heap_made_at _ _ rfl))), heap_made_at _ _ (by simp only [World.size_alloc]), heap_kept _ (heap_made_at _ _ (by simp only [World.size_alloc])), ?_, ?_, ?_⟩
  · exact ⟨rfl, .inr ⟨w.heap.size + 1, 1, #[.int .i64 0], rfl, by omega, heap_kept _ (heap_kept _ (heap_made_at _ _ (by simp only [World.size_alloc]))), Nat.le_refl _, by rw [maxLen_eq]; omega, rfl, rfl⟩⟩
  · intro h
    have : w.heap.size + 1 = w.heap.size := Option.some.inj h
    omega
  · intro h
    have : w.heap.size + 1 = w.heap.size + 1 + 1 + 1 := Option.some.inj h
    omega

set_option maxHeartbeats 8000000 in
theorem cutsOfD_any (B : Nat) (lv : Value) (ps : List PolT) (f : Int) (w : World) (hl : PolsAt B w lv ps) (hok : AllOk ps) (hB : B ≤ w.heap.size) (hn : ps.length ≤ 5000000000) :
    Calls Tryz.prog 127 #[lv, .int .i64 f] w fun e w' => ∃ v, e = .returned v ∧ w'.ownsRow w.heap.size 3 1 v (cutsP ps f).length ((cutsP ps f).map (.int .i64)) ∧ Below w.heap.size w w' := by
  have HE : Hid (∀ w', Below w.heap.size w w' → GaS w.heap.size w.heap.size (w.heap.size + 1 + 1) (w.heap.size + 1 + 1 + 1) f (gathD f []) w' → Calls Tryz.prog 167 #[lv, .func (.func 168) #[] #[.pointer (some ⟨w.heap.size, 0, none⟩), .pointer (some ⟨w.heap.size + 1 + 1, 0, none⟩), .pointer (some ⟨w.heap.size + 1 + 1 + 1, 0, none⟩)]] w' fun e w'' => e = .returned (.tuple #[]) ∧ GaS w.heap.size w.heap.size (w.heap.size + 1 + 1) (w.heap.size + 1 + 1 + 1) f (gathD f (polsConds ps)) w'' ∧ Below w.heap.size w' w'') :=
    fun w' hb hG => eachCond_any B w.heap.size _ _ _ lv ps f w' (hl.later hb hB) hok hB hb.size hn (by omega) hG
  have HC : Hid (Lib.compact ((gathD f (polsConds ps)).mergeSort fun x y => decide (x ≤ y)) = cutsP ps f) := gathered_cuts hok f
  have HGL : (gathD f (polsConds ps)).length ≤ 13000000000000 := by
    have h1 := gathD_len f (polsConds ps)
    have h2 := polsConds_len ps hok
    omega
  have HGP : 0 < (gathD f (polsConds ps)).length := by simp [gathD]
  obtain ⟨xs, hxs⟩ : ∃ xs, xs = gathD f (polsConds ps) := ⟨_, rfl⟩
  rw [← hxs] at HC HGL HGP
  simp only [← hxs] at HE
  clear hxs
  have HSG : Hid _ := start_gav f w
  have hb4 : Hid (∀ X Y Z U, Below w.heap.size w ((((w.alloc X).alloc Y).alloc Z).alloc U)) := fun X Y Z U => ((((Below.refl _ _).alloc (Nat.le_refl _) _).alloc (by simp) _).alloc (by simp; omega) _).alloc (by simp; omega) _
  obtain ⟨a, cap, rfl, hlc, hcm, -⟩ := hl
  generalize ps.length = len at *
  clear hok
  go_enter Tryz.func127, Tryz.ntmps127
  go_wp2_with (first
    | (go_at_call 124; go_must (refine Calls.mono (most_any f _) ?_; rintro e w1 ⟨rfl, rfl⟩)))
  refine Calls.mono (HE.out _ (hb4.out _ _ _ _) ⟨_, HSG.out⟩) ?_
  rintro e w5 ⟨rfl, ⟨vs, hG5⟩, hb5⟩
  have hbw5 : Below w.heap.size w w5 := (hb4.out _ _ _ _).trans hb5
  clear HE HSG hb4 hb5
  have hown := hG5.2.2.2.1
  rcases hown.2 with ⟨_, hz⟩ | ⟨g, cap5, cur, rfl, hgb, hgc, hncap, hcapm, hcsz, htk⟩
  · omega
  have hH := holds_of_blockI (ss := xs) hgc (by simpa [intCells] using htk)
  have hgl := lt_of_block hgc
  have hs5 := hbw5.size
  have hbox := hG5.2.2.1
  have z0 := heap_cell hbox 0 rfl
  have HOw : Hid (w5.ownsRow w.heap.size 3 1 (.slice (some ⟨g, 0, none⟩) xs.length cap5) xs.length (xs.map (.int .i64))) := hown
  have hSl : (xs.mergeSort fun x y => decide (x ≤ y)).length = xs.length := List.length_mergeSort _
  have HSrt : Hid (Calls Tryz.prog 169 #[.slice (some ⟨g, 0, none⟩) xs.length cap5] w5 fun e w' => e = .returned (.tuple #[]) ∧ ∃ n os, w' = grow (putRow (Value.int .i64) (Sort.ahead w5 n) g 0 (xs.mergeSort fun x y => decide (x ≤ y)).toArray) os) := Tryz.slices_Sort_int g 0 cap5 xs w5 hH hgl (by omega)
  have HB2 : Hid (∀ n os, Holds (Value.int .i64) (grow (putRow (Value.int .i64) (Sort.ahead w5 n) g 0 (xs.mergeSort fun x y => decide (x ≤ y)).toArray) os) g 0 (xs.mergeSort fun x y => decide (x ≤ y)).toArray ∧ (grow (putRow (Value.int .i64) (Sort.ahead w5 n) g 0 (xs.mergeSort fun x y => decide (x ≤ y)).toArray) os).cell? ⟨w.heap.size + 1 + 1, 0, none⟩ = some (.slice (some ⟨g, 0, none⟩) xs.length cap5)) := by
    intro n os
    refine ⟨holds_grow (Value.int .i64) _ os g 0 _ (by simpa [putRow, mapBlock, Sort.ahead] using hgl) (holds_putRow (Value.int .i64) _ g 0 _ _ (holds_ahead (Value.int .i64) w5 n g 0 _ hH) (by simp [hSl])), ?_⟩
    have hgr := grownBy_sortedI (w := w5) (g := g) (n := n) (os := os) (xs.mergeSort fun x y => decide (x ≤ y)).toArray
    refine heap_cell ((hgr.block (w.heap.size + 1 + 1) (lt_of_block hbox) fun e => ?_).trans hbox) 0 rfl
    have e' := Option.some.inj e
    rw [← e'] at hgc
    rw [hbox] at hgc
    cases hgc
  have HCo : Hid (∀ w6, Holds (Value.int .i64) w6 g 0 (xs.mergeSort fun x y => decide (x ≤ y)).toArray → Calls Tryz.prog 170 #[.slice (some ⟨g, 0, none⟩) xs.length cap5] w6 fun e w' => e = .returned (.slice (some ⟨g, 0, none⟩) (Lib.compact (xs.mergeSort fun x y => decide (x ≤ y))).length cap5) ∧ ∃ q, w' = putRow (Value.int .i64) (Sort.ahead w6 q) g 0 (Lib.compact (xs.mergeSort fun x y => decide (x ≤ y)) ++ List.replicate (xs.length - (Lib.compact (xs.mergeSort fun x y => decide (x ≤ y))).length) 0).toArray) := by
    intro w6 h6
    have := Tryz.slices_Compact_int g 0 cap5 (xs.mergeSort fun x y => decide (x ≤ y)) w6 h6 (by omega) (by omega)
    rw [hSl] at this
    exact this
  have HL : Hid (∀ n os q, (putRow (Value.int .i64) (Sort.ahead (grow (putRow (Value.int .i64) (Sort.ahead w5 n) g 0 (xs.mergeSort fun x y => decide (x ≤ y)).toArray) os) q) g 0 (Lib.compact (xs.mergeSort fun x y => decide (x ≤ y)) ++ List.replicate (xs.length - (Lib.compact (xs.mergeSort fun x y => decide (x ≤ y))).length) 0).toArray).ownsRow w.heap.size 3 1 (.slice (some ⟨g, 0, none⟩) (cutsP ps f).length cap5) (cutsP ps f).length ((cutsP ps f).map (.int .i64)) ∧
    Below w.heap.size w (putRow (Value.int .i64) (Sort.ahead (grow (putRow (Value.int .i64) (Sort.ahead w5 n) g 0 (xs.mergeSort fun x y => decide (x ≤ y)).toArray) os) q) g 0 (Lib.compact (xs.mergeSort fun x y => decide (x ≤ y)) ++ List.replicate (xs.length - (Lib.compact (xs.mergeSort fun x y => decide (x ≤ y))).length) 0).toArray)) := by
    intro n os q
    have := left_cuts (nn := n) (q := q) (os := os) HOw.out hbw5 hs5 hgb rfl
    rw [← HC.out]
    exact this
  have HC' : Hid ((Lib.compact (xs.mergeSort fun x y => decide (x ≤ y))).length = (cutsP ps f).length) := by unfold Hid; rw [HC.out]
  rw [HC'.out] at HCo
  clear hown hgc hcsz htk hH hG5 hbox hSl HC
  go_wp2_with fail
  go_at_call 169
  refine Calls.mono HSrt.out ?_
  rintro e w6 ⟨rfl, n6, os6, hw6⟩
  obtain ⟨hH6, z6⟩ := HB2.out n6 os6
  have HL6 : Hid _ := HL.out n6 os6
  rw [← hw6] at hH6 z6
  simp only [← hw6] at HL6
  have HH6 : Hid _ := hH6
  clear hw6 HL HB2 HSrt z0 hH6
  go_wp2_with fail
  go_at_call 170
  refine Calls.mono (HCo.out w6 HH6.out) ?_
  rintro e w7 ⟨rfl, q7, hw7⟩
  have hL7 := HL6.out q7
  rw [HC'.out] at hL7
  rw [← hw7] at hL7
  have HL7 : Hid _ := hL7
  clear hw7 HL6 hL7 HCo z6
  go_wp2_with fail
  go_ret
  exact ⟨_, rfl, HL7.out.1, HL7.out.2⟩

end Go.Proofs.YtbdlojnigflanacGreatDoor
end
