/- Joined: PtD3 PtD4 PtD5 PtD. -/
import Derived.Test.YtbdlojnigflanacGreatDoorKa35
import Derived.Deep.DeepAppendRoom
import Derived.Laws.MakeOwn
import Derived.OneCell
import Derived.Laws.ResultCell
section
/- Package point: all conditions of all policies, one by one. -/
set_option linter.all false
set_option maxRecDepth 100000
namespace Go.Proofs.YtbdlojnigflanacGreatDoor
open Go.RowKit Go.Maps

set_option maxHeartbeats 8000000 in
theorem eachCond_any (B B0 bf bc bm : Nat) (lv : Value) (ps : List PolT) (f : Int) (w : World) (hl : PolsAt B w lv ps) (hok : AllOk ps) (hB : B ≤ B0) (hB0 : B0 ≤ w.heap.size) (hn : ps.length ≤ 5000000000) (hbc : B0 ≤ bc) (hG : GaS B0 bf bc bm f (gathD f []) w) :
    Calls Tryz.prog 167 #[lv, .func (.func 168) #[] #[.pointer (some ⟨bf, 0, none⟩), .pointer (some ⟨bc, 0, none⟩), .pointer (some ⟨bm, 0, none⟩)]] w fun e w' => e = .returned (.tuple #[]) ∧ GaS B0 bf bc bm f (gathD f (polsConds ps)) w' ∧ Below B0 w w' := by
  obtain ⟨J, hJ⟩ : ∃ J : List CondT → World → Prop, J = fun done v => GaS B0 bf bc bm f (gathD f done) v ∧ Below B0 w v := ⟨_, rfl⟩
  have HJB : Hid (∀ done v, J done v → Below B0 w v) := by rw [hJ]; exact fun _ _ h => h.2
  have HJE : Hid (∀ done v, J done v → GaS B0 bf bc bm f (gathD f done) v) := by rw [hJ]; exact fun _ _ h => h.1
  have HJL : Hid (∀ done v v', J done v → Below v.heap.size v v' → J done v') := by rw [hJ]; exact fun _ v v' h hb => ⟨h.1.later hb, Below.thenOf h.2 hb (Nat.le_trans hB0 h.2.size)⟩
  have HJS : Hid (∀ done c v, J done v → condErr c = 0 → done.length ≤ 6000000002500 → Calls Tryz.prog 168 #[.agg #[.int .i64 c.1, .int .i64 c.2.1, .int .i64 c.2.2], .pointer (some ⟨bf, 0, none⟩), .pointer (some ⟨bc, 0, none⟩), .pointer (some ⟨bm, 0, none⟩)] v fun e v' => e = .returned (.tuple #[]) ∧ J (done ++ [c]) v' ∧ Below B0 v v') := by
    rw [hJ]
    intro done c v h hc hd
    have hlen := gathD_len f done
    refine (gather_any B0 bf bc bm f c (gathD f done) v h.1 hc hbc (Nat.le_trans hB0 h.2.size) (by omega)).mono fun e v' ⟨e1, e2, e3⟩ => ⟨e1, ⟨?_, h.2.trans e3⟩, e3⟩
    rw [gathD_snoc]
    exact e2
  have HJ0 : Hid (J (polsConds (ps.take 0)) w) := by rw [hJ]; exact ⟨hG, Below.refl _ _⟩
  clear hJ hG
  have HL : Hid (∀ w', Below B0 w w' → PolsAt B w' lv ps) := fun w' h => hl.later h hB
  have HOK : Hid (AllOk ps) := hok
  have HCL : Hid (∀ i, (polsConds (ps.take i)).length ≤ ps.length * 1200) := fun i => by
    have := polsConds_len (ps.take i) fun p hp => hok p (List.mem_of_mem_take hp)
    rw [List.length_take] at this
    have h2 : min i ps.length * 1200 ≤ ps.length * 1200 := Nat.mul_le_mul_right _ (by omega)
    exact Nat.le_trans this h2
  obtain ⟨a, cap, rfl, hlc, hcm, -⟩ := hl
  have hml := maxLen_eq
  generalize hlen : ps.length = len at *
  have hlenH : Hid (ps.length = len) := hlen
  clear hlen hok
  go_enter Tryz.func167, Tryz.ntmps167
  go_wp2
  go_loopw [12] (fun iv wr => ∃ i : Nat, i ≤ len ∧ iv = .int .i64 i ∧ Hid (J (polsConds (ps.take i)) wr)) (fun iv _ => len - (intOf iv).toNat)
  case atStart => exact ⟨0, by omega, rfl, HJ0⟩
  case round =>
    obtain ⟨i, hi, rfl, HS⟩ := hrel
    obtain ⟨wo, hwo⟩ : ∃ x, x = wr := ⟨_, rfl⟩
    subst hwo
    have i0 : (0 : Int) ≤ (i : Int) := by omega
    have hbo := HJB.out _ _ HS.out
    have hos := hbo.size
    by_cases hlt : i < len
    · have i1 : (i : Int) < (len : Int) := by omega
      obtain ⟨p, hpk⟩ : ∃ p, ps[i]? = some p := ⟨ps[i]'(by rw [hlenH.out]; omega), by simp⟩
      have HP : Hid (polsConds (ps.take (i + 1)) = polsConds (ps.take i) ++ polConds p) := polsConds_take ps i p hpk
      obtain ⟨hp120, _, hpr⟩ := polErr_ok (HOK.out p (List.mem_of_getElem? hpk))
      have HRk : Hid (∀ r ∈ p.1, ruleErr r = 0) := rulesErr_all hpr
      clear hpr
      obtain ⟨_, _, e1, -, -, hat⟩ := HL.out _ hbo
      obtain ⟨b, o, e, hbB, hpc⟩ := hat i p hpk
      simp at e1
      obtain ⟨rfl, -, -⟩ := e1
      subst e
      clear hat
      obtain ⟨rs, d⟩ := p
      obtain ⟨rv, k0, k1, -, hrs⟩ := hpc
      have HRS : Hid (∀ w', Below B0 wo w' → RulesAt B w' rv rs) := fun w' h => hrs.later h hB
      obtain ⟨a2, c2, erv, hr2c, hc2m, -⟩ := hrs
      subst erv
      simp only [] at hp120 HRk k0 k1 hr2c
      obtain ⟨m, hm⟩ : ∃ m, m = rs.length := ⟨_, rfl⟩
      have hmH : Hid (rs.length = m) := hm.symm
      rw [← hm] at k0 hr2c hp120
      simp only [← hm] at HRS
      clear hm
      have hCL := HCL.out i
      obtain ⟨D0, hD0⟩ : ∃ D0, D0 = polsConds (ps.take i) := ⟨_, rfl⟩
      rw [← hD0] at hCL HS HP
      clear hD0
      have HS0 : Hid (∀ X, J (D0 ++ (rs.take 0).flatMap (·.1)) (wo.alloc X)) := fun X => by
        have := HJL.out _ _ _ HS.out ((Below.refl wo.heap.size _).alloc (Nat.le_refl _) X)
        simpa using this
      have HBo : Hid (∀ X, Below B0 wo (wo.alloc X)) := fun X => (Below.refl _ _).alloc (by omega) _
      have HRL : Hid (∀ j, ((rs.take j).flatMap (·.1)).length ≤ 1200) := fun j => by
        have := rulesConds_len (rs.take j) fun r hr => HRk.out r (List.mem_of_mem_take hr)
        rw [List.length_take, hmH.out] at this
        omega
      go_wp2
      go_loopw [19] (fun jv wr => ∃ j : Nat, j ≤ m ∧ jv = .int .i64 j ∧ Hid (J (D0 ++ (rs.take j).flatMap (·.1)) wr) ∧ Below B0 wo wr) (fun jv _ => m - (intOf jv).toNat)
      case atStart => exact ⟨0, by omega, rfl, HS0.out _, HBo.out _⟩
      case round =>
        obtain ⟨j, hj, rfl, HSj, hbj⟩ := hrel
        obtain ⟨wj, hwj⟩ : ∃ x, x = wr := ⟨_, rfl⟩
        subst hwj
        have j0 : (0 : Int) ≤ (j : Int) := by omega
        have hjs := hbj.size
        have hws := (HJB.out _ _ HSj.out).size
        by_cases hlj : j < m
        · have j1 : (j : Int) < (m : Int) := by omega
          obtain ⟨r, hrk⟩ : ∃ r, rs[j]? = some r := ⟨rs[j]'(by rw [hmH.out]; omega), by simp⟩
          have HPj : Hid ((rs.take (j + 1)).flatMap (·.1) = (rs.take j).flatMap (·.1) ++ r.1) := rulesConds_take rs j r hrk
          obtain ⟨hr10, _, hrc⟩ := ruleErr_ok (HRk.out r (List.mem_of_getElem? hrk))
          have HCk : Hid (∀ c ∈ r.1, condErr c = 0) := condsErr_all hrc
          clear hrc
          obtain ⟨_, _, e1, -, -, hat⟩ := HRS.out _ hbj
          obtain ⟨b3, o3, e, hbB3, hrc⟩ := hat j r hrk
          simp at e1
          obtain ⟨rfl, -, -⟩ := e1
          subst e
          clear hat
          obtain ⟨cs, vd⟩ := r
          obtain ⟨cv, q0, q1, -, hcs⟩ := hrc
          have HCS : Hid (∀ w', Below B0 wj w' → CondsAt B w' cv cs) := fun w' h => hcs.later h hB
          obtain ⟨a3, c3, ecv, hc3c, hc3m, -⟩ := hcs
          subst ecv
          simp only [] at hr10 HCk q0 q1 hc3c HPj
          obtain ⟨n3, hn3⟩ : ∃ n3, n3 = cs.length := ⟨_, rfl⟩
          have hn3H : Hid (cs.length = n3) := hn3.symm
          rw [← hn3] at q0 hc3c hr10
          simp only [← hn3] at HCS
          clear hn3
          have hRL := HRL.out j
          obtain ⟨D1, hD1⟩ : ∃ D1, D1 = D0 ++ (rs.take j).flatMap (·.1) := ⟨_, rfl⟩
          have hD1l : D1.length ≤ len * 1200 + 1200 := by rw [hD1, List.length_append]; omega
          rw [← hD1] at HSj
          have HP1 : Hid (D0 ++ (rs.take (j + 1)).flatMap (·.1) = D1 ++ cs) := by unfold Hid; rw [HPj.out, hD1, List.append_assoc]
          clear hD1 HPj hRL
          have HS1 : Hid (∀ X, J (D1 ++ cs.take 0) (wj.alloc X)) := fun X => by
            have := HJL.out _ _ _ HSj.out ((Below.refl wj.heap.size _).alloc (Nat.le_refl _) X)
            simpa using this
          have HBj : Hid (∀ X, Below B0 wj (wj.alloc X)) := fun X => (Below.refl _ _).alloc (by omega) _
          go_wp2
          go_loopw [26] (fun kv wr => ∃ k : Nat, k ≤ n3 ∧ kv = .int .i64 k ∧ Hid (J (D1 ++ cs.take k) wr) ∧ Below B0 wj wr) (fun kv _ => n3 - (intOf kv).toNat)
          case atStart => exact ⟨0, by omega, rfl, HS1.out _, HBj.out _⟩
          case round =>
            obtain ⟨k, hk, rfl, HSk, hbk⟩ := hrel
            obtain ⟨wk, hwk⟩ : ∃ x, x = wr := ⟨_, rfl⟩
            subst hwk
            have k0' : (0 : Int) ≤ (k : Int) := by omega
            have hks := hbk.size
            have hwks := (HJB.out _ _ HSk.out).size
            by_cases hlk : k < n3
            · have k1' : (k : Int) < (n3 : Int) := by omega
              obtain ⟨c, hck⟩ : ∃ c, cs[k]? = some c := ⟨cs[k]'(by rw [hn3H.out]; omega), by simp⟩
              have HPk : Hid (cs.take (k + 1) = cs.take k ++ [c]) := conds_take cs k c hck
              have hce := HCk.out c (List.mem_of_getElem? hck)
              obtain ⟨_, _, e1, -, -, hat⟩ := HCS.out _ hbk
              obtain ⟨b4, o4', e, hbB4, z0, z1, z2, -⟩ := hat k c hck
              simp at e1
              obtain ⟨rfl, -, -⟩ := e1
              subst e
              clear hat
              obtain ⟨D2, hD2⟩ : ∃ D2, D2 = D1 ++ cs.take k := ⟨_, rfl⟩
              have hD2l : D2.length ≤ len * 1200 + 1300 := by rw [hD2, List.length_append, List.length_take]; omega
              rw [← hD2] at HSk
              have HP2 : Hid (D1 ++ cs.take (k + 1) = D2 ++ [c]) := by unfold Hid; rw [HPk.out, hD2, List.append_assoc]
              clear hD2 HPk
              have HCl : Hid (∀ X, Calls Tryz.prog 168 #[.agg #[.int .i64 c.1, .int .i64 c.2.1, .int .i64 c.2.2], .pointer (some ⟨bf, 0, none⟩), .pointer (some ⟨bc, 0, none⟩), .pointer (some ⟨bm, 0, none⟩)] (wk.alloc X) fun e v' => e = .returned (.tuple #[]) ∧ J (D2 ++ [c]) v' ∧ Below B0 wk v') := by
                intro X
                have h1 := HJL.out _ _ _ HSk.out ((Below.refl wk.heap.size _).alloc (Nat.le_refl _) X)
                refine (HJS.out D2 c _ h1 hce (by omega)).mono fun e v' ⟨e1, e2, e3⟩ => ⟨e1, e2, ((Below.refl B0 wk).alloc (by omega) X).trans e3⟩
              clear hce
              obtain ⟨fc, op, v⟩ := c
              simp only [] at z0 z1 z2 HCl
              go_wp2_with (first | (go_at_call 168; go_must (refine Calls.mono (HCl.out _) ?_; rintro e w2 ⟨rfl, hJ2, hb2⟩)))
              have HJ2 : Hid (J (D1 ++ cs.take (k + 1)) w2) := by rw [HP2.out]; exact hJ2
              exact ⟨⟨k + 1, by omega, by go_num, HJ2, hbk.trans hb2⟩, by simp [intOf]; omega⟩
            · obtain rfl : k = n3 := by omega
              have HS6 : Hid (J (D0 ++ (rs.take (j + 1)).flatMap (·.1)) wk) := by
                have := HSk.out
                rw [List.take_of_length_le (by rw [hn3H.out]; omega), ← HP1.out] at this
                exact this
              have hb6 : Below B0 wo wk := hbj.trans hbk
              go_wp2
              exact ⟨⟨j + 1, by omega, by go_num, HS6, hb6⟩, by simp [intOf]; omega⟩
        · obtain rfl : j = m := by omega
          have HS6 : Hid (J (polsConds (ps.take (i + 1))) wj) := by
            have := HSj.out
            rw [List.take_of_length_le (by rw [hmH.out]; omega)] at this
            rw [HP.out]
            exact this
          go_wp2
          exact ⟨⟨i + 1, by omega, by go_num, HS6⟩, by simp [intOf]; omega⟩
    · obtain rfl : i = len := by omega
      have HS6 := HS.out
      rw [List.take_of_length_le (by rw [hlenH.out]; omega)] at HS6
      have HE := HJE.out _ _ HS6
      go_wp2
      go_end0
      exact ⟨rfl, HE, hbo⟩

end Go.Proofs.YtbdlojnigflanacGreatDoor
end
section
/- Package point: the cuts; points spread over one more field. -/
set_option linter.all false
set_option maxRecDepth 100000
namespace Go.Proofs.YtbdlojnigflanacGreatDoor
open Go.RowKit Go.Maps Go.Shelf Go.Sort

/-- Behind sort and compact. -/
theorem left_cuts {B : Nat} {w w1 : World} {g cap n nn q : Nat} {os : Array Obj} {ss : List Int} (hown : w1.ownsRow B 3 1 (.slice (some ⟨g, 0, none⟩) n cap) n (ss.map (.int .i64))) (hbel : Below B w w1) (hB : B ≤ w1.heap.size) (hbg : B ≤ g) (hlen : ss.length = n) :
    (putRow (Value.int .i64) (Sort.ahead (grow (putRow (Value.int .i64) (Sort.ahead w1 nn) g 0 (ss.mergeSort fun x y => decide (x ≤ y)).toArray) os) q) g 0 (Lib.compact (ss.mergeSort fun x y => decide (x ≤ y)) ++ List.replicate (n - (Lib.compact (ss.mergeSort fun x y => decide (x ≤ y))).length) 0).toArray).ownsRow B 3 1 (.slice (some ⟨g, 0, none⟩) (Lib.compact (ss.mergeSort fun x y => decide (x ≤ y))).length cap) (Lib.compact (ss.mergeSort fun x y => decide (x ≤ y))).length ((Lib.compact (ss.mergeSort fun x y => decide (x ≤ y))).map (.int .i64)) ∧
    Below B w (putRow (Value.int .i64) (Sort.ahead (grow (putRow (Value.int .i64) (Sort.ahead w1 nn) g 0 (ss.mergeSort fun x y => decide (x ≤ y)).toArray) os) q) g 0 (Lib.compact (ss.mergeSort fun x y => decide (x ≤ y)) ++ List.replicate (n - (Lib.compact (ss.mergeSort fun x y => decide (x ≤ y))).length) 0).toArray) := by
  have hl2 : (ss.mergeSort fun x y => decide (x ≤ y)).length = ss.length := List.length_mergeSort ss
  have hle := Lib.compact_length_le (ss.mergeSort fun x y => decide (x ≤ y))
  subst hlen
  rcases hown.2 with ⟨h0, _⟩ | ⟨g', cap', cur, hv, hbase, hb, h1, h2, h3, h4⟩
  · cases h0
  cases hv
  have hs := ownsRow_sortedI (n := nn) (os := os) (ts := ss.mergeSort fun x y => decide (x ≤ y)) hl2 hbase hb h1 h2 h3
  have hc := Lib.ownsRow_putRow (q := q) (k := (Lib.compact (ss.mergeSort fun x y => decide (x ≤ y))).length) (ys := Lib.compact (ss.mergeSort fun x y => decide (x ≤ y)) ++ List.replicate (ss.length - (Lib.compact (ss.mergeSort fun x y => decide (x ≤ y))).length) 0) hs (by simp; omega) (by omega)
  rw [List.take_left] at hc
  exact ⟨hc, Lib.below_putRow (hbel.grown (grownBy_sortedI _) hB (fun j hj => by cases hj; exact hbase)) hbg⟩

theorem heap_made_at (w : World) (o : Obj) {n : Nat} (h : n = w.heap.size) : (w.alloc o).heap[n]? = some o := by subst h; exact heap_made _ _
theorem heap_kept {w : World} (o : Obj) {n : Nat} {x : Obj} (h : w.heap[n]? = some x) : (w.alloc o).heap[n]? = some x := (Below.block ((Below.refl w.heap.size w).alloc (Nat.le_refl _) o) n (Array.getElem?_eq_some_iff.1 h).1).trans h
theorem start_gav (f : Int) (w : World) : GaV w.heap.size w.heap.size (w.heap.size + 1 + 1) (w.heap.size + 1 + 1 + 1) f (gathD f []) (.slice (some ⟨w.heap.size + 1, 0, none⟩) 1 1)
    ((((w.alloc (.cells #[.int .i64 f] 3)).alloc (.cells #[.int .i64 0] 3)).alloc (.cells #[.slice (some ⟨w.heap.size + 1, 0, none⟩) 1 1] 162)).alloc (.cells #[.int .i64 (most f)] 3)) := by
  refine ⟨heap_kept _ (heap_kept _ (heap_kept _ (heap_made_at _ _ rfl))), heap_made_at _ _ (by simp only [World.size_alloc]), heap_kept _ (heap_made_at _ _ (by simp only [World.size_alloc])), ?_, ?_, ?_⟩
  · exact ⟨rfl, .inr ⟨w.heap.size + 1, 1, #[.int .i64 0], rfl, by omega, heap_kept _ (heap_kept _ (heap_made_at _ _ (by simp only [World.size_alloc]))), Nat.le_refl _, by rw [maxLen_eq]; omega, rfl, rfl⟩⟩
  · intro h
    have : w.heap.size + 1 = w.heap.size := Option.some.inj h
    omega
  · intro h
    have : w.heap.size + 1 = w.heap.size + 1 + 1 + 1 := Option.some.inj h
    omega

set_option maxHeartbeats 8000000 in
theorem cutsOfD_any (B : Nat) (lv : Value) (ps : List PolT) (f : Int) (w : World) (hl : PolsAt B w lv ps) (hok : AllOk ps) (hB : B ≤ w.heap.size) (hn : ps.length ≤ 5000000000) :
    Calls Tryz.prog 127 #[lv, .int .i64 f] w fun e w' => ∃ v, e = .returned v ∧ w'.ownsRow w.heap.size 3 1 v (cutsP ps f).length ((cutsP ps f).map (.int .i64)) ∧ Below w.heap.size w w' := by
  have HE : Hid (∀ w', Below w.heap.size w w' → GaS w.heap.size w.heap.size (w.heap.size + 1 + 1) (w.heap.size + 1 + 1 + 1) f (gathD f []) w' → Calls Tryz.prog 167 #[lv, .func (.func 168) #[] #[.pointer (some ⟨w.heap.size, 0, none⟩), .pointer (some ⟨w.heap.size + 1 + 1, 0, none⟩), .pointer (some ⟨w.heap.size + 1 + 1 + 1, 0, none⟩)]] w' fun e w'' => e = .returned (.tuple #[]) ∧ GaS w.heap.size w.heap.size (w.heap.size + 1 + 1) (w.heap.size + 1 + 1 + 1) f (gathD f (polsConds ps)) w'' ∧ Below w.heap.size w' w'') :=
    fun w' hb hG => eachCond_any B w.heap.size _ _ _ lv ps f w' (hl.later hb hB) hok hB hb.size hn (by omega) hG
  have HC : Hid (Lib.compact ((gathD f (polsConds ps)).mergeSort fun x y => decide (x ≤ y)) = cutsP ps f) := gathered_cuts hok f
  have HGL : (gathD f (polsConds ps)).length ≤ 13000000000000 := by
    have h1 := gathD_len f (polsConds ps)
    have h2 := polsConds_len ps hok
    omega
  have HGP : 0 < (gathD f (polsConds ps)).length := by simp [gathD]
  obtain ⟨xs, hxs⟩ : ∃ xs, xs = gathD f (polsConds ps) := ⟨_, rfl⟩
  rw [← hxs] at HC HGL HGP
  simp only [← hxs] at HE
  clear hxs
  have HSG : Hid _ := start_gav f w
  have hb4 : Hid (∀ X Y Z U, Below w.heap.size w ((((w.alloc X).alloc Y).alloc Z).alloc U)) := fun X Y Z U => ((((Below.refl _ _).alloc (Nat.le_refl _) _).alloc (by simp) _).alloc (by simp; omega) _).alloc (by simp; omega) _
  obtain ⟨a, cap, rfl, hlc, hcm, -⟩ := hl
  generalize ps.length = len at *
  clear hok
  go_enter Tryz.func127, Tryz.ntmps127
  go_wp2_with (first
    | (go_at_call 124; go_must (refine Calls.mono (most_any f _) ?_; rintro e w1 ⟨rfl, rfl⟩)))
  refine Calls.mono (HE.out _ (hb4.out _ _ _ _) ⟨_, HSG.out⟩) ?_
  rintro e w5 ⟨rfl, ⟨vs, hG5⟩, hb5⟩
  have hbw5 : Below w.heap.size w w5 := (hb4.out _ _ _ _).trans hb5
  clear HE HSG hb4 hb5
  have hown := hG5.2.2.2.1
  rcases hown.2 with ⟨_, hz⟩ | ⟨g, cap5, cur, rfl, hgb, hgc, hncap, hcapm, hcsz, htk⟩
  · omega
  have hH := holds_of_blockI (ss := xs) hgc (by simpa [intCells] using htk)
  have hgl := lt_of_block hgc
  have hs5 := hbw5.size
  have hbox := hG5.2.2.1
  have z0 := heap_cell hbox 0 rfl
  have HOw : Hid (w5.ownsRow w.heap.size 3 1 (.slice (some ⟨g, 0, none⟩) xs.length cap5) xs.length (xs.map (.int .i64))) := hown
  have hSl : (xs.mergeSort fun x y => decide (x ≤ y)).length = xs.length := List.length_mergeSort _
  have HSrt : Hid (Calls Tryz.prog 169 #[.slice (some ⟨g, 0, none⟩) xs.length cap5] w5 fun e w' => e = .returned (.tuple #[]) ∧ ∃ n os, w' = grow (putRow (Value.int .i64) (Sort.ahead w5 n) g 0 (xs.mergeSort fun x y => decide (x ≤ y)).toArray) os) := Tryz.slices_Sort_int g 0 cap5 xs w5 hH hgl (by omega)
  have HB2 : Hid (∀ n os, Holds (Value.int .i64) (grow (putRow (Value.int .i64) (Sort.ahead w5 n) g 0 (xs.mergeSort fun x y => decide (x ≤ y)).toArray) os) g 0 (xs.mergeSort fun x y => decide (x ≤ y)).toArray ∧ (grow (putRow (Value.int .i64) (Sort.ahead w5 n) g 0 (xs.mergeSort fun x y => decide (x ≤ y)).toArray) os).cell? ⟨w.heap.size + 1 + 1, 0, none⟩ = some (.slice (some ⟨g, 0, none⟩) xs.length cap5)) := by
    intro n os
    refine ⟨holds_grow (Value.int .i64) _ os g 0 _ (by simpa [putRow, mapBlock, Sort.ahead] using hgl) (holds_putRow (Value.int .i64) _ g 0 _ _ (holds_ahead (Value.int .i64) w5 n g 0 _ hH) (by simp [hSl])), ?_⟩
    have hgr := grownBy_sortedI (w := w5) (g := g) (n := n) (os := os) (xs.mergeSort fun x y => decide (x ≤ y)).toArray
    refine heap_cell ((hgr.block (w.heap.size + 1 + 1) (lt_of_block hbox) fun e => ?_).trans hbox) 0 rfl
    have e' := Option.some.inj e
    rw [← e'] at hgc
    rw [hbox] at hgc
    cases hgc
  have HCo : Hid (∀ w6, Holds (Value.int .i64) w6 g 0 (xs.mergeSort fun x y => decide (x ≤ y)).toArray → Calls Tryz.prog 170 #[.slice (some ⟨g, 0, none⟩) xs.length cap5] w6 fun e w' => e = .returned (.slice (some ⟨g, 0, none⟩) (Lib.compact (xs.mergeSort fun x y => decide (x ≤ y))).length cap5) ∧ ∃ q, w' = putRow (Value.int .i64) (Sort.ahead w6 q) g 0 (Lib.compact (xs.mergeSort fun x y => decide (x ≤ y)) ++ List.replicate (xs.length - (Lib.compact (xs.mergeSort fun x y => decide (x ≤ y))).length) 0).toArray) := by
    intro w6 h6
    have := Tryz.slices_Compact_int g 0 cap5 (xs.mergeSort fun x y => decide (x ≤ y)) w6 h6 (by omega) (by omega)
    rw [hSl] at this
    exact this
  have HL : Hid (∀ n os q, (putRow (Value.int .i64) (Sort.ahead (grow (putRow (Value.int .i64) (Sort.ahead w5 n) g 0 (xs.mergeSort fun x y => decide (x ≤ y)).toArray) os) q) g 0 (Lib.compact (xs.mergeSort fun x y => decide (x ≤ y)) ++ List.replicate (xs.length - (Lib.compact (xs.mergeSort fun x y => decide (x ≤ y))).length) 0).toArray).ownsRow w.heap.size 3 1 (.slice (some ⟨g, 0, none⟩) (cutsP ps f).length cap5) (cutsP ps f).length ((cutsP ps f).map (.int .i64)) ∧
    Below w.heap.size w (putRow (Value.int .i64) (Sort.ahead (grow (putRow (Value.int .i64) (Sort.ahead w5 n) g 0 (xs.mergeSort fun x y => decide (x ≤ y)).toArray) os) q) g 0 (Lib.compact (xs.mergeSort fun x y => decide (x ≤ y)) ++ List.replicate (xs.length - (Lib.compact (xs.mergeSort fun x y => decide (x ≤ y))).length) 0).toArray)) := by
    intro n os q
    have := left_cuts (nn := n) (q := q) (os := os) HOw.out hbw5 hs5 hgb rfl
    rw [← HC.out]
    exact this
  have HC' : Hid ((Lib.compact (xs.mergeSort fun x y => decide (x ≤ y))).length = (cutsP ps f).length) := by unfold Hid; rw [HC.out]
  rw [HC'.out] at HCo
  clear hown hgc hcsz htk hH hG5 hbox hSl HC
  go_wp2_with fail
  go_at_call 169
  refine Calls.mono HSrt.out ?_
  rintro e w6 ⟨rfl, n6, os6, hw6⟩
  obtain ⟨hH6, z6⟩ := HB2.out n6 os6
  have HL6 : Hid _ := HL.out n6 os6
  rw [← hw6] at hH6 z6
  simp only [← hw6] at HL6
  have HH6 : Hid _ := hH6
  clear hw6 HL HB2 HSrt z0 hH6
  go_wp2_with fail
  go_at_call 170
  refine Calls.mono (HCo.out w6 HH6.out) ?_
  rintro e w7 ⟨rfl, q7, hw7⟩
  have hL7 := HL6.out q7
  rw [HC'.out] at hL7
  rw [← hw7] at hL7
  have HL7 : Hid _ := hL7
  clear hw7 HL6 hL7 HCo z6
  go_wp2_with fail
  go_ret
  exact ⟨_, rfl, HL7.out.1, HL7.out.2⟩

end Go.Proofs.YtbdlojnigflanacGreatDoor
end
section
/- Package point: points spread over one more field. -/
set_option linter.all false
set_option maxRecDepth 100000
namespace Go.Proofs.YtbdlojnigflanacGreatDoor
open Go.RowKit Go.Maps

/-- A literal, appended to a row of one's own that has room. -/
theorem wpList_appS {P : Program} {t e : TypeId} {inf : TypeInfo} {size : Nat} {ops : Array Oper} {rest : List Oper} {o : Oper} {a : Act} {Q : Exit → Act → World → Prop} (w : World) (hgd : o.guard = none) (s x : Operand)
    (hop : o.op = .call { callee := .builtin .append, args := #[s, x], argTypes := #[t, t] })
    (ht : P.underlying t = some (.slice e)) (hi : P.info? e = some inf) (hsize : inf.size = size)
    (base g n cap : Nat) (xs : List Value) (hs : a.eval s = .slice (some ⟨g, 0, none⟩) n cap) (g2 m : Nat) (news : List Value) (hx : a.eval x = .slice (some ⟨g2, 0, none⟩) m m)
    (W : World) {T0 : TypeId} (hw : w = W.alloc (.cells news.toArray T0)) (hg : g2 = W.heap.size) (hown : W.ownsRow base e size (.slice (some ⟨g, 0, none⟩) n cap) n xs) (hl : news.length = m * size) (h1 : ∀ u ∈ news, u.oneCell' = true) (hroom : n + m ≤ cap)
    (h : ∀ w', Hid (w'.ownsRow base e size (.slice (some ⟨g, 0, none⟩) (n + m) cap) (n + m) (xs ++ news)) → Hid (W.grownBy w' (some g)) → wpList P ops Q rest (a.put o.dst (.slice (some ⟨g, 0, none⟩) (n + m) cap)) w') : wpList P ops Q (o :: rest) a w := by
  subst hw
  subst hg
  have hbX : Below W.heap.size W (W.alloc (.cells news.toArray T0)) := (Below.refl _ _).alloc (Nat.le_refl _) _
  obtain ⟨W', r1, r2, r3⟩ := run_append_own_spare (P := P) (W.alloc (.cells news.toArray T0)) base t o.type e inf size ht hi hsize g n cap xs (ownsRow_below hown hbX) ⟨W.heap.size, 0, none⟩ m m news hl (fun j u hj => by rw [add_at, Nat.zero_add]; exact heap_cell (heap_made W _) j (by simpa using hj)) h1 hroom
  have hG : W.grownBy W' (some g) := World.grownBy.andThen (grown_of_below hbX (some g)) r3 fun j hj => .inr hj
  exact Lib.wpList_append_run _ hgd s x _ _ hop _ _ hs hx _ _ r1 (h W' r2 hG)

def setX (y : Nat → Int) (k : Nat) (c : Int) (j : Nat) : Int := if j = k then c else y j
theorem five_of {x : List Int} (h : x.length = 5) : ∃ a b c d e, x = [a, b, c, d, e] := by
  match x, h with
  | [a, b, c, d, e], _ => exact ⟨a, b, c, d, e, rfl⟩
theorem setX_self (y : Nat → Int) (k : Nat) : setX y k (y k) = y := by
  funext j
  unfold setX
  split
  · rename_i h; subst h; rfl
  · rfl
theorem cellsX_setX (y : Nat → Int) (k : Nat) (hk : k < 5) (b c : Int) : (cellsX (setX y k b)).setIfInBounds k (.int .i64 c) = cellsX (setX y k c) := by
  have : k = 0 ∨ k = 1 ∨ k = 2 ∨ k = 3 ∨ k = 4 := by omega
  rcases this with rfl | rfl | rfl | rfl | rfl <;> simp [cellsX, setX]
theorem spread_take (xs : List (List Int)) (g : List Int → List (List Int)) (i : Nat) (x : List Int) (h : xs[i]? = some x) : (xs.take (i + 1)).flatMap g = (xs.take i).flatMap g ++ g x := by
  rw [List.take_succ, h]
  simp
theorem map_take_snoc (cs : List Int) (g : Int → List Int) (j : Nat) (c : Int) (h : cs[j]? = some c) : (cs.take (j + 1)).map g = (cs.take j).map g ++ [g c] := by
  rw [List.take_succ, h]
  simp

set_option maxHeartbeats 16000000 in
theorem spread_at (B k : Nat) (kk : Int) (hk : (k = 0 ∧ kk = 0) ∨ (k = 1 ∧ kk = 1) ∨ (k = 2 ∧ kk = 2) ∨ (k = 3 ∧ kk = 3) ∨ (k = 4 ∧ kk = 4)) (pv cv : Value) (xs : List (List Int)) (cs : List Int) (w : World) (hp : CallsAt B w pv (xs.map asC)) (hc : IntsAt B w cv cs) (hB : B ≤ w.heap.size) (h5 : ∀ x ∈ xs, x.length = 5) (hN : xs.length * cs.length ≤ 1000) (hx1 : xs.length ≤ 1000) (hc1 : cs.length ≤ 65536) :
    Calls Tryz.prog 128 #[pv, .int .i64 kk, cv] w fun e w' => ∃ v, e = .returned v ∧ w'.ownsRow w.heap.size 26 5 v (xs.length * cs.length) (callCells (xs.flatMap fun x => cs.map fun c => x.set k c)) ∧ Below w.heap.size w w' := by
  obtain ⟨inf, hi1, hi2, hi3, hi4⟩ := infoCall
  have HP : Hid (∀ w', Below w.heap.size w w' → CallsAt B w' pv (xs.map asC)) := fun w' h => hp.later h hB
  have HCs : Hid (∀ w', Below w.heap.size w w' → IntsAt B w' cv cs) := fun w' h => hc.later h hB
  have H5 : Hid (∀ x ∈ xs, x.length = 5) := h5
  obtain ⟨pa, pcap, rfl, hpc, hpm, -⟩ := hp
  obtain ⟨ca, ccap, rfl, hcc, hcm, -⟩ := hc
  rw [List.length_map] at hpc HP ⊢
  have hml := maxLen_eq
  obtain ⟨n, hn⟩ : ∃ n, n = xs.length := ⟨_, rfl⟩
  obtain ⟨m, hm⟩ : ∃ m, m = cs.length := ⟨_, rfl⟩
  have hnH : Hid (xs.length = n) := hn.symm
  have hmH : Hid (cs.length = m) := hm.symm
  rw [← hn] at hpc HP hN hx1 ⊢
  rw [← hm] at hcc HCs hN hc1 ⊢
  obtain ⟨N, hNe⟩ : ∃ N, N = n * m := ⟨_, rfl⟩
  have hNi : (N : Int) = (n : Int) * (m : Int) := by rw [hNe]; simp
  rw [← hNe] at hN ⊢
  have hmul : IntKind.i64.wrap ((n : Int) * (m : Int)) = (N : Int) := by rw [← hNi]; exact IntWalk.i64_in _ (by omega)
  have HNe : Hid (N = n * m) := hNe
  clear hn hm hNe hNi h5
  obtain ⟨w1, hmk, hown1, hg1⟩ := run_makeSlice_owned (P := Tryz.prog) w w.heap.size 105 26 inf _ 5 Tryz.underlying105 hi1 hi2 hi3 .i64 .i64 N (by omega) (by rw [hi4]; omega) (by omega) (Nat.le_refl _)
  have hb1 : Below w.heap.size w w1 := (Below.refl _ _).grown hg1 (Nat.le_refl _) (fun k hk => by cases hk)
  have hlt1 : w.heap.size < w1.heap.size := by
    rcases hown1.2 with ⟨h0, _⟩ | ⟨g', c', cur, hv, _, hg, _⟩
    · cases h0
    · cases hv; exact lt_of_block hg
  have HO1 : Hid (w1.ownsRow w.heap.size 26 5 (.slice (some ⟨w.heap.size, 0, none⟩) (0 * m) N) (0 * m) (callCells ((xs.take 0).flatMap fun x => cs.map fun c => x.set k c))) := by
    unfold Hid
    rw [Nat.zero_mul]
    exact hown1
  clear hown1 hg1
  have hk5 : k < 5 := by omega
  rcases hk with ⟨hk, rfl⟩ | ⟨hk, rfl⟩ | ⟨hk, rfl⟩ | ⟨hk, rfl⟩ | ⟨hk, rfl⟩
  all_goals
    have HK : Hid _ := hk
    clear hk
    go_enter Tryz.func128, Tryz.ntmps128
    go_wp2_with fail
    clear hmk
    go_loopw [7, 20] (fun wv iv wr => ∃ i : Nat, i ≤ n ∧ iv = .int .i64 i ∧ wv = .slice (some ⟨w.heap.size, 0, none⟩) (i * m) N ∧ Hid (wr.ownsRow w.heap.size 26 5 (.slice (some ⟨w.heap.size, 0, none⟩) (i * m) N) (i * m) (callCells ((xs.take i).flatMap fun x => cs.map fun c => x.set k c))) ∧ Below w.heap.size w wr ∧ w.heap.size < wr.heap.size) (fun _ iv _ => n - (intOf iv).toNat)
    case atStart => exact ⟨0, by omega, rfl, by rw [Nat.zero_mul], HO1, hb1, hlt1⟩
    case round =>
      obtain ⟨i, hi, rfl, rfl, HO, hbr, hltr⟩ := hrel
      obtain ⟨wo, hwo⟩ : ∃ x, x = wr := ⟨_, rfl⟩
      subst hwo
      have i0 : (0 : Int) ≤ (i : Int) := by omega
      by_cases hlt : i < n
      · have i1 : (i : Int) < (n : Int) := by omega
        obtain ⟨x, hx⟩ : ∃ x, xs[i]? = some x := ⟨xs[i]'(by rw [hnH.out]; omega), by simp⟩
        obtain ⟨a0, a1, a2, a3, a4, rfl⟩ := five_of (H5.out x (List.mem_of_getElem? hx))
        obtain ⟨_, _, e1, -, -, hat⟩ := HP.out _ hbr
        obtain ⟨b, o, e, hbB, z0, z1, z2, z3, z4⟩ := hat i (a0, a1, a2, a3, a4) (by simp [hx, asC])
        simp at e1
        obtain ⟨rfl, -, -⟩ := e1
        subst e
        clear hat
        simp only [] at z0 z1 z2 z3 z4
        have HTk : Hid ((xs.take (i + 1)).flatMap (fun x => cs.map fun c => x.set k c) = (xs.take i).flatMap (fun x => cs.map fun c => x.set k c) ++ cs.map fun c => [a0, a1, a2, a3, a4].set k c) := spread_take xs (fun x => cs.map fun c => x.set k c) i _ hx
        clear hx
        have hroom : i * m + m ≤ N := by
          have h1 : (i + 1) * m ≤ n * m := Nat.mul_le_mul_right _ (by omega)
          rw [Nat.add_mul, Nat.one_mul] at h1
          rw [HNe.out]
          exact h1
        have HI : Hid ((i + 1) * m = i * m + m) := by unfold Hid; rw [Nat.add_mul, Nat.one_mul]
        obtain ⟨q, hq⟩ : ∃ q, q = i * m := ⟨_, rfl⟩
        rw [← hq] at hroom HI HO ⊢
        clear hq
        obtain ⟨acc, hacc⟩ : ∃ acc, acc = (xs.take i).flatMap (fun x => cs.map fun c => x.set k c) := ⟨_, rfl⟩
        rw [← hacc] at HO HTk
        clear hacc
        have HX0 : Hid ((wo.alloc (.cells #[.int .i64 a0, .int .i64 a1, .int .i64 a2, .int .i64 a3, .int .i64 a4] 26)).heap[wo.heap.size]? = some (.cells (cellsX (setX (ofC (a0, a1, a2, a3, a4)) k (ofC (a0, a1, a2, a3, a4) k))) 26 (0, 0))) := by
          unfold Hid
          rw [setX_self]
          exact heap_made _ _
        have HO0 : Hid (∀ X, (wo.alloc X).ownsRow w.heap.size 26 5 (.slice (some ⟨w.heap.size, 0, none⟩) (q + 0) N) (q + 0) (callCells (acc ++ (cs.take 0).map fun c => [a0, a1, a2, a3, a4].set k c))) := fun X => by
          have := ownsRow_below HO.out ((Below.refl wo.heap.size wo).alloc (Nat.le_refl _) X)
          simpa using this
        have HB0 : Hid (∀ X, Below w.heap.size w (wo.alloc X)) := fun X => hbr.alloc (by omega) _
        have hbne : ¬ w.heap.size = wo.heap.size := by omega
        clear HO HP
        go_wp2_with fail
        go_loopw [7, 26] (fun wv jv wr => ∃ (j : Nat) (b : Int), j ≤ m ∧ jv = .int .i64 j ∧ wv = .slice (some ⟨w.heap.size, 0, none⟩) (q + j) N ∧ Hid (wr.heap[wo.heap.size]? = some (.cells (cellsX (setX (ofC (a0, a1, a2, a3, a4)) k b)) 26 (0, 0))) ∧ Hid (wr.ownsRow w.heap.size 26 5 (.slice (some ⟨w.heap.size, 0, none⟩) (q + j) N) (q + j) (callCells (acc ++ (cs.take j).map fun c => [a0, a1, a2, a3, a4].set k c))) ∧ Below w.heap.size w wr) (fun _ jv _ => m - (intOf jv).toNat)
        case atStart => exact ⟨0, _, by omega, rfl, rfl, HX0, HO0.out _, HB0.out _⟩
        case round =>
          obtain ⟨j, bb, hj, rfl, rfl, HX, HO, hbj⟩ := hrel
          obtain ⟨wi, hwi⟩ : ∃ x, x = wr := ⟨_, rfl⟩
          subst hwi
          have j0 : (0 : Int) ≤ (j : Int) := by omega
          have hxlt := lt_of_block HX.out
          by_cases hlj : j < m
          · have j1 : (j : Int) < (m : Int) := by omega
            obtain ⟨c, hcj⟩ : ∃ c, cs[j]? = some c := ⟨cs[j]'(by rw [hmH.out]; omega), by simp⟩
            obtain ⟨_, _, e1, -, -, hat⟩ := HCs.out _ hbj
            obtain ⟨b3, o3, e, hbB3, q0⟩ := hat j c hcj
            simp at e1
            obtain ⟨rfl, -, -⟩ := e1
            subst e
            clear hat
            have HTj : Hid ((cs.take (j + 1)).map (fun c => [a0, a1, a2, a3, a4].set k c) = (cs.take j).map (fun c => [a0, a1, a2, a3, a4].set k c) ++ [[a0, a1, a2, a3, a4].set k c]) := map_take_snoc cs _ j c hcj
            clear hcj
            have hXf := (cellsX_at HX.out).2
            have hXc := (cellsX_at HX.out).1
            have t0 := hXc 0 (by omega)
            have t1 := hXc 1 (by omega)
            have t2 := hXc 2 (by omega)
            have t3 := hXc 3 (by omega)
            have t4 := hXc 4 (by omega)
            rw [HK.out] at t0 t1 t2 t3 t4
            simp [setX, ofC, at5] at t0 t1 t2 t3 t4
            have hbs : B ≤ wi.heap.size := by have := hbj.size; omega
            have hb3 : ¬ b3 = wo.heap.size := by omega
            have hob : ∀ o5, (Value.slice (some ⟨w.heap.size, 0, none⟩) (q + j) N).ownBlock ≠ some (⟨wo.heap.size, o5, none⟩ : Addr).block := fun o5 h => hbne (Option.some.inj h)
            have Hob : Hid _ := hob
            clear hXc hob
            go_wp2_with (first
              | (at_builtin; go_must (refine wpList_appS _ rfl _ _ rfl Tryz.underlying105 hi1 hi3 w.heap.size w.heap.size (q + j) N _ rfl _ 1 _ rfl _ rfl (by simp) (ownsRow_setCell_other HO.out (Hob.out _) _) rfl (by simp [Value.oneCell']) (by omega) ?_; intro w9 hO9 hg9)))
            have hbs9 : Below w.heap.size w w9 := (hbj.setCell (p := ⟨wo.heap.size, _, none⟩) (by show w.heap.size ≤ wo.heap.size; omega) _).grown hg9.out (by have := hbj.size; simpa using this) (fun k hk => by cases hk; exact Nat.le_refl _)
            have hX9 := (hg9.out.block wo.heap.size (by simpa using hxlt) (fun e => hbne (Option.some.inj e).symm)).trans (row_setCell HX.out)
            have hO9' := hO9.out
            have hTj := HTj.out
            have hkk := HK.out
            subst hkk
            refine ⟨⟨j + 1, c, by omega, by go_num, rfl, ?_, ?_, hbs9⟩, by simp [intOf]; omega⟩
            · unfold Hid
              rw [cellsX_setX _ _ hk5] at hX9
              exact hX9
            · unfold Hid
              rw [hTj, ← List.append_assoc, callCells_append]
              exact hO9'
          · obtain rfl : j = m := by omega
            have HO' : Hid (wi.ownsRow w.heap.size 26 5 (.slice (some ⟨w.heap.size, 0, none⟩) ((i + 1) * j) N) ((i + 1) * j) (callCells ((xs.take (i + 1)).flatMap fun x => cs.map fun c => x.set k c))) := by
              have := HO.out
              rw [List.take_of_length_le (by rw [hmH.out]; omega)] at this
              unfold Hid
              rw [HI.out, HTk.out]
              exact this
            have hlw : w.heap.size < wi.heap.size := by omega
            have HI' : Hid _ := HI.out
            go_wp2
            exact ⟨⟨i + 1, by omega, by go_num, by rw [HI'.out], HO', hbj, hlw⟩, by simp [intOf]; omega⟩
      · obtain rfl : i = n := by omega
        go_wp2
        go_ret
        refine ⟨_, rfl, ?_, hbr⟩
        have := HO.out
        rw [List.take_of_length_le (by rw [hnH.out]; omega), ← HNe.out] at this
        rw [← HNe.out]
        exact this

end Go.Proofs.YtbdlojnigflanacGreatDoor
end
section
/- What package point answers, walked. -/
set_option linter.all false
set_option maxRecDepth 100000
namespace Go.Proofs.YtbdlojnigflanacGreatDoor
open Go.RowKit Go.Maps

theorem callsAt_none (B : Nat) (w : World) : CallsAt B w (.slice none 0 0) [] := ⟨none, 0, rfl, Nat.le_refl _, by rw [maxLen_eq]; omega, fun i c h => by simp at h⟩

set_option maxHeartbeats 8000000 in
theorem pointsD_any (B : Nat) (lv : Value) (ps : List PolT) (w : World) (hl : PolsAt B w lv ps) (hB : B ≤ w.heap.size) (hn : ps.length ≤ 5000000000) :
    Calls Tryz.prog 68 #[lv] w fun e w' => ∃ v, e = .returned (.tuple #[v, .int .i64 (pointsE ps)]) ∧ CallsAt w'.heap.size w' v ((pointsL ps).map asC) ∧ Below w.heap.size w w' := by
  have HK : Hid (Calls Tryz.prog 126 #[lv] w fun e w' => e = .returned (.int .i64 (polsErr ps)) ∧ Below w.heap.size w w') := checkAllD_any B lv ps w hl hB
  by_cases h0 : polsErr ps = 0
  case neg =>
    have HE : Hid (pointsE ps = polsErr ps ∧ pointsL ps = []) := by
      have e : pointsE ps = polsErr ps := by rw [pointsE, if_neg h0]
      exact ⟨e, by rw [pointsL, if_neg (by rw [e]; exact h0)]⟩
    have hq : (polsErr ps != 0) = true := by simpa using h0
    obtain ⟨a, cap, rfl, -⟩ := hl
    clear h0
    generalize polsErr ps = pe at *
    generalize ps.length = len at *
    go_enter Tryz.func68, Tryz.ntmps68
    go_wp2_with (first | (go_at_call 126; go_must (refine Calls.mono HK.out ?_; rintro e w1 ⟨rfl, hb1⟩)))
    go_ret2
    rw [HE.out.1, HE.out.2]
    exact ⟨_, rfl, callsAt_none _ _, hb1⟩
  case pos =>
    have hok : AllOk ps := polsErr_ok.1 h0
    have HC : Hid (∀ (k : Nat) w', Below w.heap.size w w' → Calls Tryz.prog 127 #[lv, .int .i64 k] w' fun e w'' => ∃ v, e = .returned v ∧ w''.ownsRow w'.heap.size 3 1 v (cutsP ps k).length ((cutsP ps k).map (.int .i64)) ∧ Below w'.heap.size w' w'') := fun k w' h => cutsOfD_any B lv ps k w' (hl.later h hB) hok (Nat.le_trans hB h.size) hn
    have HF : Hid (∀ k : Nat, 0 < (cutsP ps k).length ∧ (cutsP ps k).length ≤ 65536) := fun k => ⟨cut_pos ps k, cuts_few hok k⟩
    have HE : Hid (pointsE ps = if 1000 < (pointsP ps).length then 2 else 0) := by unfold Hid; rw [pointsE, if_pos h0]
    rw [h0] at HK
    obtain ⟨a, cap, rfl, hlc, hcm, -⟩ := hl
    generalize ps.length = len at *
    clear h0 hok
    go_enter Tryz.func68, Tryz.ntmps68
    go_wp2_with (first | (go_at_call 126; go_must (refine Calls.mono HK.out ?_; rintro e w1 ⟨rfl, hb1⟩)))
    have hs1 := hb1.size
    have HS0 : Hid (∀ X, X = Obj.cells #[.int .i64 0, .int .i64 0, .int .i64 0, .int .i64 0, .int .i64 0] 26 (0, 0) → (w1.alloc X).ownsRow w.heap.size 26 5 (.slice (some ⟨w1.heap.size, 0, none⟩) 1 1) (ptsK ps 0).length (callCells (ptsK ps 0))) := by
      intro X hX
      subst hX
      rw [ptsK_zero]
      exact ⟨rfl, .inr ⟨w1.heap.size, 1, _, rfl, hs1, heap_made _ _, Nat.le_refl _, by rw [maxLen_eq]; omega, rfl, rfl⟩⟩
    have HB0 : Hid (∀ X, Below w.heap.size w (w1.alloc X)) := fun X => hb1.alloc hs1 _
    go_loopw [5, 15] (fun pv kv wr => ∃ k : Nat, k ≤ 5 ∧ kv = .int .i64 k ∧ lenP ps k ≤ 1000 ∧ Hid (wr.ownsRow w.heap.size 26 5 pv (ptsK ps k).length (callCells (ptsK ps k))) ∧ Below w.heap.size w wr) (fun _ kv _ => 5 - (intOf kv).toNat)
    case atStart => exact ⟨0, by omega, rfl, by simp [lenP], HS0.out _ rfl, HB0.out _⟩
    case round =>
      obtain ⟨k, hk, rfl, hle, HO, hbr⟩ := hrel
      obtain ⟨wo, hwo⟩ : ∃ x, x = wr := ⟨_, rfl⟩
      subst hwo
      have k0 : (0 : Int) ≤ (k : Int) := by omega
      have hos := hbr.size
      obtain ⟨pa, pcap, rfl, -, -, -⟩ := ownsRow_caps HO.out
      by_cases hlt : k < 5
      · have k1 : (k : Int) < 5 := by omega
        obtain ⟨hF0, hF1⟩ := HF.out k
        have HCk : Hid _ := HC.out k wo hbr
        have HLn : Hid (lenP ps (k + 1) = lenP ps k * (cutsP ps k).length) := rfl
        have HLe : Hid (lenP ps (k + 1) ≤ (pointsP ps).length) := lenP_le ps (k + 1) (by omega)
        have HPl : Hid ((ptsK ps k).length = lenP ps k) := ptsK_length ps k (by omega)
        have HPl' : Hid ((ptsK ps (k + 1)).length = lenP ps (k + 1)) := ptsK_length ps (k + 1) (by omega)
        have HPs : Hid (ptsK ps (k + 1) = (ptsK ps k).flatMap fun x => (cutsP ps k).map fun c => x.set k c) := ptsK_succ ps k hlt
        have H5 : Hid (∀ x ∈ ptsK ps k, x.length = 5) := ptsK_len5 ps k hk
        have hkk : (k = 0 ∧ (k : Int) = 0) ∨ (k = 1 ∧ (k : Int) = 1) ∨ (k = 2 ∧ (k : Int) = 2) ∨ (k = 3 ∧ (k : Int) = 3) ∨ (k = 4 ∧ (k : Int) = 4) := by omega
        have HKK : Hid _ := hkk
        clear hkk
        rw [HPl.out] at HO ⊢
        obtain ⟨q, hq⟩ : ∃ q, q = lenP ps k := ⟨_, rfl⟩
        rw [← hq] at hle HLn HPl HO ⊢
        obtain ⟨m, hm⟩ : ∃ m, m = (cutsP ps k).length := ⟨_, rfl⟩
        rw [← hm] at hF0 hF1 HLn
        simp only [← hm] at HCk
        have HM : Hid ((cutsP ps k).length = m) := hm.symm
        clear hq hm
        obtain ⟨qm, hqm⟩ : ∃ qm, qm = q * m := ⟨_, rfl⟩
        have hqmi : (qm : Int) = (q : Int) * (m : Int) := by rw [hqm]; simp
        have hqml : qm ≤ 65536000 := by rw [hqm]; exact Nat.mul_le_mul hle hF1
        have hmul : IntKind.i64.wrap ((q : Int) * (m : Int)) = (qm : Int) := by rw [← hqmi]; exact IntWalk.i64_in _ (by omega)
        rw [← hqm] at HLn
        have HQM : Hid (qm = q * m) := hqm
        clear hqm hqmi
        go_wp2_with fail
        go_at_call 127
        refine Calls.mono HCk.out ?_
        rintro e w3 ⟨v3, rfl, ho3, hb3⟩
        obtain ⟨a3, cap3, rfl, -, -, -⟩ := ownsRow_caps ho3
        have hbw3 : Below w.heap.size w w3 := Below.thenOf hbr hb3 hos
        have hs3 := hbw3.size
        have HSp : Hid (qm ≤ 1000 → Calls Tryz.prog 128 #[.slice pa q pcap, .int .i64 k, .slice a3 m cap3] w3 fun e w' => ∃ v, e = .returned v ∧ w'.ownsRow w3.heap.size 26 5 v qm (callCells (ptsK ps (k + 1))) ∧ Below w3.heap.size w3 w') := by
          intro hsm
          have h1 : CallsAt w3.heap.size w3 (.slice pa q pcap) ((ptsK ps k).map asC) := callsAt_own (fun x hx => five_of (H5.out x hx)) (by rw [HPl.out]; exact ownsRow_below HO.out hb3)
          have h2 : IntsAt w3.heap.size w3 (.slice a3 m cap3) (cutsP ps k) := intsAt_own (by rw [HM.out]; exact ho3)
          have h3 := spread_at w3.heap.size k k HKK.out _ _ (ptsK ps k) (cutsP ps k) w3 h1 h2 (Nat.le_refl _) H5.out (by rw [HPl.out, HM.out, ← HQM.out]; exact hsm) (by rw [HPl.out]; exact hle) (by rw [HM.out]; exact hF1)
          rw [HPl.out, HM.out, ← HQM.out, ← HPs.out] at h3
          exact h3
        clear ho3
        by_cases hbig : 1000 < qm
        · have hbig' : (1000 : Int) < (qm : Int) := by omega
          have HEE : Hid (pointsE ps = 2 ∧ pointsL ps = []) := by
            have hL := HLe.out
            rw [HLn.out] at hL
            have e : pointsE ps = 2 := by rw [HE.out, if_pos (by omega)]
            exact ⟨e, by rw [pointsL, if_neg (by rw [e]; decide)]⟩
          go_wp2_with fail
          go_ret2
          rw [HEE.out.1, HEE.out.2]
          exact ⟨_, rfl, callsAt_none _ _, hbw3⟩
        · have hbig' : ¬ (1000 : Int) < (qm : Int) := by omega
          have HSp' : Hid _ := HSp.out (by omega)
          go_wp2_with fail
          go_at_call 128
          refine Calls.mono HSp'.out ?_
          rintro e w4 ⟨v4, rfl, ho4, hb4⟩
          have HO4 : Hid (w4.ownsRow w.heap.size 26 5 v4 (ptsK ps (k + 1)).length (callCells (ptsK ps (k + 1)))) := by
            unfold Hid
            rw [HPl'.out, HLn.out]
            exact ownsRow_base ho4 hs3
          have hbw4 := Below.thenOf hbw3 hb4 hs3
          have HLq : Hid (lenP ps (k + 1) ≤ 1000) := by unfold Hid; rw [HLn.out]; omega
          clear ho4
          go_wp2_with fail
          exact ⟨⟨k + 1, by omega, by go_num, HLq.out, HO4, hbw4⟩, by simp [intOf]; omega⟩
      · obtain rfl : k = 5 := by omega
        have HEE : Hid (pointsE ps = 0 ∧ pointsL ps = pointsP ps) := by
          rw [lenP_five] at hle
          have e : pointsE ps = 0 := by rw [HE.out, if_neg (by omega)]
          exact ⟨e, by rw [pointsL, if_pos e]⟩
        have HCa : Hid (CallsAt wo.heap.size wo (.slice pa (ptsK ps 5).length pcap) ((pointsL ps).map asC)) := by
          unfold Hid
          rw [HEE.out.2, ← ptsK_five]
          exact callsAt_own (fun x hx => five_of (ptsK_len5 ps 5 (Nat.le_refl _) x hx)) HO.out
        generalize (ptsK ps 5).length = L5 at *
        go_wp2_with fail
        go_ret2
        rw [HEE.out.1]
        exact ⟨_, rfl, HCa.out, hbr⟩

end Go.Proofs.YtbdlojnigflanacGreatDoor
end
