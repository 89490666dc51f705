/- Joined: Ord1 OrD1 OrD2. -/
import Derived.Test.YtclehchkmienoabGreatDoorOj30
import Derived.Test.YtclehchkmienoabGreatDoorOj11
import Derived.Test.YtclehchkmienoabGreatDoorOj09
import Derived.Test.YtclehchkmienoabGreatDoorOj14
import Derived.Test.YtclehchkmienoabGreatDoorOj17
import Derived.Test.YtclehchkmienoabGreatDoorOj22
section
/- What package order answers: plain facts. -/
set_option linter.all false
namespace Go.Proofs.YtclehchkmienoabGreatDoor

def alikeB (p q : PolT) : Bool := if pointsE [p, q] = 0 then !(looserP p q).isSome && !(looserP q p).isSome else false
theorem pointsE_swap {p q : PolT} (h : pointsE [p, q] = 0) : pointsE [q, p] = 0 := by
  obtain ⟨h1, h2⟩ := pointsE_ok.1 h
  have hs : ∀ r ∈ [q, p], r ∈ [p, q] := fun r hr => by simp at hr ⊢; exact hr.symm
  have hc := points_count hs
  exact pointsE_ok.2 ⟨fun r hr => h1 r (hs r hr), by omega⟩
theorem looser_err {p q : PolT} (h : pointsE [p, q] ≠ 0) : looserP p q = none := by
  unfold looserP pointsL
  rw [if_neg h]
  rfl
theorem looser_self {p : PolT} (h : pointsE [p, p] = 0) : looserP p p = none := by
  cases hl : looserP p p with
  | none => rfl
  | some y =>
    obtain ⟨x, _, _, hv⟩ := looser_some h hl
    omega
theorem looser_chain {p q r : PolT} (h1 : pointsE [p, q] = 0) (h2 : pointsE [q, r] = 0) (h3 : pointsE [p, r] = 0) (a : looserP p q = none) (b : looserP q r = none) : looserP p r = none := by
  cases hl : looserP p r with
  | none => rfl
  | some y =>
    obtain ⟨x, _, hx, hv⟩ := looser_some h3 hl
    have k1 := looser_none h1 a hx
    have k2 := looser_none h2 b hx
    omega
theorem chain_true {p q r : PolT} : (decide (pointsE [p, q] ≠ 0) || decide (pointsE [q, r] ≠ 0) || decide (pointsE [p, r] ≠ 0) || (looserP p q).isSome || (looserP q r).isSome || !(looserP p r).isSome) = true := by
  by_cases h1 : pointsE [p, q] = 0
  · by_cases h2 : pointsE [q, r] = 0
    · by_cases h3 : pointsE [p, r] = 0
      · cases ha : looserP p q with
        | some _ => simp
        | none =>
          cases hb : looserP q r with
          | some _ => simp
          | none => simp [looser_chain h1 h2 h3 ha hb]
      · simp [h3]
    · simp [h2]
  · simp [h1]
end Go.Proofs.YtclehchkmienoabGreatDoor
end
section
/- Package order: what a policy says of a call, and the first of some points at which one says more. -/
set_option linter.all false
set_option maxRecDepth 100000
namespace Go.Proofs.YtclehchkmienoabGreatDoor
open Go.RowKit Go.Maps

set_option maxHeartbeats 2000000 in
theorem saysD_any (B : Nat) (pv : Value) (p : PolT) (x : Nat → Int) (w : World) (hp : PolAt B w pv p) (hB : B ≤ w.heap.size) :
    Calls Tryz.prog 31 #[pv, callV x] w fun e w' => e = .returned (.int .i64 (vP p x)) ∧ Below w.heap.size w w' := by
  have HJ : Hid (∀ w', Below w.heap.size w w' → Calls Tryz.prog 18 #[pv, callV x] w' fun e w'' => e = .returned (.tuple #[.int .i64 (vP p x), .int .i64 (judgeP p x).2.1, .int .i64 (judgeP p x).2.2]) ∧ Below w'.heap.size w' w'') := fun w' h => judge_any B pv p x w' (hp.later h hB) (Nat.le_trans hB h.size)
  generalize vP p x = v1 at *
  generalize (judgeP p x).2.1 = v2 at *
  generalize (judgeP p x).2.2 = v3 at *
  obtain ⟨rs, d⟩ := p
  obtain ⟨rv, rfl, -, a, cap, rfl, -, -, -⟩ := hp
  simp only at HJ
  show Calls Tryz.prog 31 #[.agg #[.slice a rs.length cap, .int .i64 d], .agg #[.int .i64 (x 0), .int .i64 (x 1), .int .i64 (x 2), .int .i64 (x 3), .int .i64 (x 4)]] w _
  have HJ' : Hid (∀ w', Below w.heap.size w w' → Calls Tryz.prog 18 #[.agg #[.slice a rs.length cap, .int .i64 d], .agg #[.int .i64 (x 0), .int .i64 (x 1), .int .i64 (x 2), .int .i64 (x 3), .int .i64 (x 4)]] w' fun e w'' => e = .returned (.tuple #[.int .i64 v1, .int .i64 v2, .int .i64 v3]) ∧ Below w'.heap.size w' w'') := HJ
  clear HJ
  generalize rs.length = n at *
  have hb : ∀ X Y, Below w.heap.size w ((w.alloc X).alloc Y) := fun X Y => ((Below.refl _ _).alloc (Nat.le_refl _) _).alloc (by simp) _
  go_enter Tryz.func31, Tryz.ntmps31
  go_wp2_with (first | (go_at_call 18; go_must (refine Calls.mono (HJ'.out _ (hb _ _)) ?_; rintro e w2 ⟨rfl, hb2⟩)))
  go_ret
  exact ⟨rfl, Below.thenOf (hb _ _) hb2 (by simp; omega)⟩

set_option maxHeartbeats 400000 in
/-- Whether one policy says more than another one, at a call. -/
theorem looserFn_any (B bp bq : Nat) (a b : Option Addr) (n cap n2 cap2 : Nat) (d f : Int) (p q : PolT) (x0 x1 x2 x3 x4 : Int) (w : World) (hp : PolAt B w (.agg #[.slice a n cap, .int .i64 d]) p) (hq : PolAt B w (.agg #[.slice b n2 cap2, .int .i64 f]) q) (hB : B ≤ w.heap.size)
    (h0 : w.cell? ⟨bp, 0, none⟩ = some (.slice a n cap)) (h1 : w.cell? ⟨bp, 1, none⟩ = some (.int .i64 d)) (h2 : w.cell? ⟨bq, 0, none⟩ = some (.slice b n2 cap2)) (h3 : w.cell? ⟨bq, 1, none⟩ = some (.int .i64 f)) (hbp : bp < w.heap.size) (hbq : bq < w.heap.size) :
    Calls Tryz.prog 30 #[.agg #[.int .i64 x0, .int .i64 x1, .int .i64 x2, .int .i64 x3, .int .i64 x4], .pointer (some ⟨bp, 0, none⟩), .pointer (some ⟨bq, 0, none⟩)] w fun e w' => e = .returned (.bool (loosePt p q [x0, x1, x2, x3, x4])) ∧ Below w.heap.size w w' := by
  obtain ⟨va, hva⟩ : ∃ va, va = vP p (at5 x0 x1 x2 x3 x4) := ⟨_, rfl⟩
  obtain ⟨vb, hvb⟩ : ∃ vb, vb = vP q (at5 x0 x1 x2 x3 x4) := ⟨_, rfl⟩
  have HLo : Hid (loosePt p q [x0, x1, x2, x3, x4] = decide (vb < va)) := by unfold Hid; rw [hva, hvb]; rfl
  have HA : Hid (∀ w', Below w.heap.size w w' → Calls Tryz.prog 31 #[.agg #[.slice a n cap, .int .i64 d], .agg #[.int .i64 x0, .int .i64 x1, .int .i64 x2, .int .i64 x3, .int .i64 x4]] w' fun e w'' => e = .returned (.int .i64 va) ∧ Below w'.heap.size w' w'') := fun w' h => by
    rw [hva]
    exact saysD_any B _ p (at5 x0 x1 x2 x3 x4) w' (hp.later h hB) (Nat.le_trans hB h.size)
  have HB : Hid (∀ w', Below w.heap.size w w' → Calls Tryz.prog 31 #[.agg #[.slice b n2 cap2, .int .i64 f], .agg #[.int .i64 x0, .int .i64 x1, .int .i64 x2, .int .i64 x3, .int .i64 x4]] w' fun e w'' => e = .returned (.int .i64 vb) ∧ Below w'.heap.size w' w'') := fun w' h => by
    rw [hvb]
    exact saysD_any B _ q (at5 x0 x1 x2 x3 x4) w' (hq.later h hB) (Nat.le_trans hB h.size)
  clear hva hvb hp hq
  obtain ⟨W0, hW0⟩ : ∃ W0, W0 = w.alloc (.cells #[.int .i64 x0, .int .i64 x1, .int .i64 x2, .int .i64 x3, .int .i64 x4] 29) := ⟨_, rfl⟩
  have hb0 : Below w.heap.size w W0 := by rw [hW0]; exact (Below.refl _ _).alloc (Nat.le_refl _) _
  have hs0 : W0.heap.size = w.heap.size + 1 := by rw [hW0]; simp
  have hm : W0.heap[w.heap.size]? = some (.cells #[.int .i64 x0, .int .i64 x1, .int .i64 x2, .int .i64 x3, .int .i64 x4] 29 (0, 0)) := by rw [hW0]; exact (MapKept.heap_alloc w _).1
  have HW : Hid _ := hW0
  clear hW0
  have hne := Later.ne W0
  have y0 : ∀ y : Later W0, y.1.cell? ⟨w.heap.size, 0, none⟩ = some (.int .i64 x0) := fun y => y.cell (heap_cell hm 0 rfl) (by omega)
  have y1 : ∀ y : Later W0, y.1.cell? ⟨w.heap.size, 1, none⟩ = some (.int .i64 x1) := fun y => y.cell (heap_cell hm 1 rfl) (by omega)
  have y2 : ∀ y : Later W0, y.1.cell? ⟨w.heap.size, 2, none⟩ = some (.int .i64 x2) := fun y => y.cell (heap_cell hm 2 rfl) (by omega)
  have y3 : ∀ y : Later W0, y.1.cell? ⟨w.heap.size, 3, none⟩ = some (.int .i64 x3) := fun y => y.cell (heap_cell hm 3 rfl) (by omega)
  have y4 : ∀ y : Later W0, y.1.cell? ⟨w.heap.size, 4, none⟩ = some (.int .i64 x4) := fun y => y.cell (heap_cell hm 4 rfl) (by omega)
  have z0 : ∀ y : Later W0, y.1.cell? ⟨bp, 0, none⟩ = some (.slice a n cap) := fun y => y.cell ((hb0.cell (p := ⟨bp, 0, none⟩) hbp).trans h0) (by omega)
  have z1 : ∀ y : Later W0, y.1.cell? ⟨bp, 1, none⟩ = some (.int .i64 d) := fun y => y.cell ((hb0.cell (p := ⟨bp, 1, none⟩) hbp).trans h1) (by omega)
  have z2 : ∀ y : Later W0, y.1.cell? ⟨bq, 0, none⟩ = some (.slice b n2 cap2) := fun y => y.cell ((hb0.cell (p := ⟨bq, 0, none⟩) hbq).trans h2) (by omega)
  have z3 : ∀ y : Later W0, y.1.cell? ⟨bq, 1, none⟩ = some (.int .i64 f) := fun y => y.cell ((hb0.cell (p := ⟨bq, 1, none⟩) hbq).trans h3) (by omega)
  have HA' : Hid (∀ y : Later W0, Calls Tryz.prog 31 #[.agg #[.slice a n cap, .int .i64 d], .agg #[.int .i64 x0, .int .i64 x1, .int .i64 x2, .int .i64 x3, .int .i64 x4]] y.1 fun e w'' => e = .returned (.int .i64 va) ∧ Below y.1.heap.size y.1 w'') := fun y => HA.out _ (Below.thenOf hb0 y.2 hb0.size)
  have HB' : Hid (∀ y : Later W0, Calls Tryz.prog 31 #[.agg #[.slice b n2 cap2, .int .i64 f], .agg #[.int .i64 x0, .int .i64 x1, .int .i64 x2, .int .i64 x3, .int .i64 x4]] y.1 fun e w'' => e = .returned (.int .i64 vb) ∧ Below y.1.heap.size y.1 w'') := fun y => HB.out _ (Below.thenOf hb0 y.2 hb0.size)
  clear h0 h1 h2 h3 hm HA HB hB hbp hbq hs0
  go_enter Tryz.func30, Tryz.ntmps30
  go_wp2_with fail
  rw [← HW.out]
  refine wp_region_later (by kernel_rfl) (by kernel_rfl) ?_
  go_big_quiet_step (fail)
  go_big_quiet_step (fail)
  go_big_quiet_step (first | (go_at_call 31; exact Calls.later (HA'.out _)))
  go_big_quiet_step (fail)
  go_big_quiet_step (fail)
  go_big_quiet_step (first | (go_at_call 31; exact Calls.later (HB'.out _)))
  go_big_quiet_step (fail)
  go_big_quiet_step (fail)
  refine wpQuiet_nil ?_
  rintro wx ⟨⟨_, hx⟩, rfl⟩
  go_wp2
  go_ret
  exact ⟨by rw [HLo.out]; simp, Below.thenOf hb0 hx hb0.size⟩

end Go.Proofs.YtclehchkmienoabGreatDoor
end
section
/- Package order: slices.IndexFunc of points, for the first at which one policy says more. -/
set_option linter.all false
set_option maxRecDepth 100000
namespace Go.Proofs.YtclehchkmienoabGreatDoor
open Go.RowKit Go.Maps

def ofFive (c : CallT) : List Int := [c.1, c.2.1, c.2.2.1, c.2.2.2.1, c.2.2.2.2]

set_option maxHeartbeats 4000000 in
theorem indexCalls_any (B L bp bq : Nat) (a b : Option Addr) (n cap n2 cap2 : Nat) (d f : Int) (p q : PolT) (lv : Value) (cs : List CallT) (w : World) (hl : CallsAt L w lv cs) (hL : L ≤ w.heap.size) (hp : PolAt B w (.agg #[.slice a n cap, .int .i64 d]) p) (hq : PolAt B w (.agg #[.slice b n2 cap2, .int .i64 f]) q) (hB : B ≤ w.heap.size)
    (h0 : w.cell? ⟨bp, 0, none⟩ = some (.slice a n cap)) (h1 : w.cell? ⟨bp, 1, none⟩ = some (.int .i64 d)) (h2 : w.cell? ⟨bq, 0, none⟩ = some (.slice b n2 cap2)) (h3 : w.cell? ⟨bq, 1, none⟩ = some (.int .i64 f)) (hbp : bp < w.heap.size) (hbq : bq < w.heap.size) :
    Calls Tryz.prog 29 #[lv, .func (.func 30) #[] #[.pointer (some ⟨bp, 0, none⟩), .pointer (some ⟨bq, 0, none⟩)]] w fun e w' => e = .returned (.int .i64 (firstAt (fun c => loosePt p q (ofFive c)) 0 cs)) ∧ Below w.heap.size w w' := by
  have HC : Hid (∀ x0 x1 x2 x3 x4 w', Below w.heap.size w w' → Calls Tryz.prog 30 #[.agg #[.int .i64 x0, .int .i64 x1, .int .i64 x2, .int .i64 x3, .int .i64 x4], .pointer (some ⟨bp, 0, none⟩), .pointer (some ⟨bq, 0, none⟩)] w' fun e w'' => e = .returned (.bool (loosePt p q [x0, x1, x2, x3, x4])) ∧ Below w'.heap.size w' w'') := fun x0 x1 x2 x3 x4 w' h =>
    looserFn_any B bp bq a b n cap n2 cap2 d f p q x0 x1 x2 x3 x4 w' (hp.later h hB) (hq.later h hB) (Nat.le_trans hB h.size) ((h.cell (p := ⟨bp, 0, none⟩) hbp).trans h0) ((h.cell (p := ⟨bp, 1, none⟩) hbp).trans h1) ((h.cell (p := ⟨bq, 0, none⟩) hbq).trans h2) ((h.cell (p := ⟨bq, 1, none⟩) hbq).trans h3) (Nat.lt_of_lt_of_le hbp h.size) (Nat.lt_of_lt_of_le hbq h.size)
  obtain ⟨g, lcap, rfl, hlc, hcm, hcs⟩ := hl
  have HCs : Hid (∀ (i : Nat) c, cs[i]? = some c → ∃ b o, g = some ⟨b, o, none⟩ ∧ b < L ∧ CallAt w b (o + i * 5) c) := hcs
  clear hcs hp hq h0 h1 h2 h3 hbp hbq
  have hml := maxLen_eq
  generalize hN : cs.length = N at *
  have hNH : Hid (cs.length = N) := hN
  clear hN
  go_enter Tryz.func29, Tryz.ntmps29
  go_wp2
  go_loopw [8] (fun i wr => ∃ k : Nat, k ≤ N ∧ i = .int .i64 k ∧ Hid (firstAt (fun c => loosePt p q (ofFive c)) 0 cs = firstAt (fun c => loosePt p q (ofFive c)) k (cs.drop k)) ∧ Below w.heap.size w wr) (fun i _ => N - (intOf i).toNat)
  case atStart => exact ⟨0, by omega, rfl, rfl, Below.refl _ _⟩
  case round =>
    obtain ⟨k, hk, rfl, H, hbr⟩ := hrel
    obtain ⟨wo, hwo⟩ : ∃ x, x = wr := ⟨_, rfl⟩
    subst hwo
    have i0 : (0 : Int) ≤ (k : Int) := by omega
    have hos := hbr.size
    by_cases hlt : k < N
    · have i1 : (k : Int) < (N : Int) := by omega
      obtain ⟨c, hck⟩ : ∃ c, cs[k]? = some c := ⟨cs[k]'(by rw [hNH.out]; omega), by simp⟩
      obtain ⟨gb, go, rfl, hbL, hat⟩ := HCs.out k c hck
      have S : Hid (firstAt (fun c => loosePt p q (ofFive c)) k (cs.drop k) = if loosePt p q (ofFive c) = true then (k : Int) else firstAt (fun c => loosePt p q (ofFive c)) (k + 1) (cs.drop (k + 1))) := firstAt_step (fun c => loosePt p q (ofFive c)) cs k c hck
      obtain ⟨c0, c1, c2, c3, c4⟩ := hat.later hbr (by omega)
      have hcall := HC.out c.1 c.2.1 c.2.2.1 c.2.2.2.1 c.2.2.2.2 wo hbr
      have HF : Hid (loosePt p q (ofFive c) = loosePt p q [c.1, c.2.1, c.2.2.1, c.2.2.2.1, c.2.2.2.2]) := rfl
      generalize loosePt p q [c.1, c.2.1, c.2.2.1, c.2.2.2.1, c.2.2.2.2] = lo at *
      have hcall' : Hid _ := hcall
      clear hcall hat hck
      generalize c.1 = x0 at *
      generalize c.2.1 = x1 at *
      generalize c.2.2.1 = x2 at *
      generalize c.2.2.2.1 = x3 at *
      generalize c.2.2.2.2 = x4 at *
      go_wp2_with (first | (go_at_call 30; go_must (refine Calls.mono hcall'.out ?_; rintro e w2 ⟨rfl, hb2⟩)))
      all_goals have hb3 : Below w.heap.size w w2 := Below.thenOf hbr hb2 hbr.size
      · have hy : loosePt p q (ofFive c) = true := by rw [HF.out]; assumption
        go_ret
        exact ⟨by rw [H.out, S.out, if_pos hy]; rfl, hb3⟩
      · have hy : ¬ loosePt p q (ofFive c) = true := by rw [HF.out]; simp_all
        exact ⟨⟨k + 1, by omega, by go_num, by unfold Hid; rw [H.out, S.out, if_neg hy], hb3⟩, by simp [intOf]; omega⟩
    · go_wp2
      go_ret
      exact ⟨by rw [H.out, List.drop_eq_nil_of_le (by rw [hNH.out]; omega)]; rfl, hbr⟩

end Go.Proofs.YtclehchkmienoabGreatDoor
end
