/- Joined: OrD1 OrD2 OrD. -/
import Derived.Test.YtbdlojnigflanacGreatDoorKb06
import Derived.Test.YtbdlojnigflanacGreatDoorKb11
import Derived.Test.YtbdlojnigflanacGreatDoorKb12
import Derived.Test.YtbdlojnigflanacGreatDoorKb28
import Derived.Test.YtbdlojnigflanacGreatDoorKb31
section
/- Package order: what a policy says of a call, and the first of some points at which one says more. -/
set_option linter.all false
set_option maxRecDepth 100000
namespace Go.Proofs.YtbdlojnigflanacGreatDoor
open Go.RowKit Go.Maps

set_option maxHeartbeats 2000000 in
theorem saysD_any (B : Nat) (pv : Value) (p : PolT) (x : Nat → Int) (w : World) (hp : PolAt B w pv p) (hB : B ≤ w.heap.size) :
    Calls Tryz.prog 71 #[pv, callV x] w fun e w' => e = .returned (.int .i64 (vP p x)) ∧ Below w.heap.size w w' := by
  have HJ : Hid (∀ w', Below w.heap.size w w' → Calls Tryz.prog 16 #[pv, callV x] w' fun e w'' => e = .returned (.tuple #[.int .i64 (vP p x), .int .i64 (judgeP p x).2.1, .int .i64 (judgeP p x).2.2]) ∧ Below w'.heap.size w' w'') := fun w' h => judge_any B pv p x w' (hp.later h hB) (Nat.le_trans hB h.size)
  generalize vP p x = v1 at *
  generalize (judgeP p x).2.1 = v2 at *
  generalize (judgeP p x).2.2 = v3 at *
  obtain ⟨rs, d⟩ := p
  obtain ⟨rv, rfl, -, a, cap, rfl, -, -, -⟩ := hp
  simp only at HJ
  show Calls Tryz.prog 71 #[.agg #[.slice a rs.length cap, .int .i64 d], .agg #[.int .i64 (x 0), .int .i64 (x 1), .int .i64 (x 2), .int .i64 (x 3), .int .i64 (x 4)]] w _
  have HJ' : Hid (∀ w', Below w.heap.size w w' → Calls Tryz.prog 16 #[.agg #[.slice a rs.length cap, .int .i64 d], .agg #[.int .i64 (x 0), .int .i64 (x 1), .int .i64 (x 2), .int .i64 (x 3), .int .i64 (x 4)]] w' fun e w'' => e = .returned (.tuple #[.int .i64 v1, .int .i64 v2, .int .i64 v3]) ∧ Below w'.heap.size w' w'') := HJ
  clear HJ
  generalize rs.length = n at *
  have hb : ∀ X Y, Below w.heap.size w ((w.alloc X).alloc Y) := fun X Y => ((Below.refl _ _).alloc (Nat.le_refl _) _).alloc (by simp) _
  go_enter Tryz.func71, Tryz.ntmps71
  go_wp2_with (first | (go_at_call 16; go_must (refine Calls.mono (HJ'.out _ (hb _ _)) ?_; rintro e w2 ⟨rfl, hb2⟩)))
  go_ret
  exact ⟨rfl, Below.thenOf (hb _ _) hb2 (by simp; omega)⟩

set_option maxHeartbeats 400000 in
/-- Whether one policy says more than another one, at a call. -/
theorem looserFn_any (B bp bq : Nat) (a b : Option Addr) (n cap n2 cap2 : Nat) (d f : Int) (p q : PolT) (x0 x1 x2 x3 x4 : Int) (w : World) (hp : PolAt B w (.agg #[.slice a n cap, .int .i64 d]) p) (hq : PolAt B w (.agg #[.slice b n2 cap2, .int .i64 f]) q) (hB : B ≤ w.heap.size)
    (h0 : w.cell? ⟨bp, 0, none⟩ = some (.slice a n cap)) (h1 : w.cell? ⟨bp, 1, none⟩ = some (.int .i64 d)) (h2 : w.cell? ⟨bq, 0, none⟩ = some (.slice b n2 cap2)) (h3 : w.cell? ⟨bq, 1, none⟩ = some (.int .i64 f)) (hbp : bp < w.heap.size) (hbq : bq < w.heap.size) :
    Calls Tryz.prog 70 #[.agg #[.int .i64 x0, .int .i64 x1, .int .i64 x2, .int .i64 x3, .int .i64 x4], .pointer (some ⟨bp, 0, none⟩), .pointer (some ⟨bq, 0, none⟩)] w fun e w' => e = .returned (.bool (loosePt p q [x0, x1, x2, x3, x4])) ∧ Below w.heap.size w w' := by
  obtain ⟨va, hva⟩ : ∃ va, va = vP p (at5 x0 x1 x2 x3 x4) := ⟨_, rfl⟩
  obtain ⟨vb, hvb⟩ : ∃ vb, vb = vP q (at5 x0 x1 x2 x3 x4) := ⟨_, rfl⟩
  have HLo : Hid (loosePt p q [x0, x1, x2, x3, x4] = decide (vb < va)) := by unfold Hid; rw [hva, hvb]; rfl
  have HA : Hid (∀ w', Below w.heap.size w w' → Calls Tryz.prog 71 #[.agg #[.slice a n cap, .int .i64 d], .agg #[.int .i64 x0, .int .i64 x1, .int .i64 x2, .int .i64 x3, .int .i64 x4]] w' fun e w'' => e = .returned (.int .i64 va) ∧ Below w'.heap.size w' w'') := fun w' h => by
    rw [hva]
    exact saysD_any B _ p (at5 x0 x1 x2 x3 x4) w' (hp.later h hB) (Nat.le_trans hB h.size)
  have HB : Hid (∀ w', Below w.heap.size w w' → Calls Tryz.prog 71 #[.agg #[.slice b n2 cap2, .int .i64 f], .agg #[.int .i64 x0, .int .i64 x1, .int .i64 x2, .int .i64 x3, .int .i64 x4]] w' fun e w'' => e = .returned (.int .i64 vb) ∧ Below w'.heap.size w' w'') := fun w' h => by
    rw [hvb]
    exact saysD_any B _ q (at5 x0 x1 x2 x3 x4) w' (hq.later h hB) (Nat.le_trans hB h.size)
  clear hva hvb hp hq
  obtain ⟨W0, hW0⟩ : ∃ W0, W0 = w.alloc (.cells #[.int .i64 x0, .int .i64 x1, .int .i64 x2, .int .i64 x3, .int .i64 x4] 26) := ⟨_, rfl⟩
  have hb0 : Below w.heap.size w W0 := by rw [hW0]; exact (Below.refl _ _).alloc (Nat.le_refl _) _
  have hs0 : W0.heap.size = w.heap.size + 1 := by rw [hW0]; simp
  have hm : W0.heap[w.heap.size]? = some (.cells #[.int .i64 x0, .int .i64 x1, .int .i64 x2, .int .i64 x3, .int .i64 x4] 26 (0, 0)) := by rw [hW0]; exact (MapKept.heap_alloc w _).1
  have HW : Hid _ := hW0
  clear hW0
  have hne := Later.ne W0
  have y0 : ∀ y : Later W0, y.1.cell? ⟨w.heap.size, 0, none⟩ = some (.int .i64 x0) := fun y => y.cell (heap_cell hm 0 rfl) (by omega)
  have y1 : ∀ y : Later W0, y.1.cell? ⟨w.heap.size, 1, none⟩ = some (.int .i64 x1) := fun y => y.cell (heap_cell hm 1 rfl) (by omega)
  have y2 : ∀ y : Later W0, y.1.cell? ⟨w.heap.size, 2, none⟩ = some (.int .i64 x2) := fun y => y.cell (heap_cell hm 2 rfl) (by omega)
  have y3 : ∀ y : Later W0, y.1.cell? ⟨w.heap.size, 3, none⟩ = some (.int .i64 x3) := fun y => y.cell (heap_cell hm 3 rfl) (by omega)
  have y4 : ∀ y : Later W0, y.1.cell? ⟨w.heap.size, 4, none⟩ = some (.int .i64 x4) := fun y => y.cell (heap_cell hm 4 rfl) (by omega)
  have z0 : ∀ y : Later W0, y.1.cell? ⟨bp, 0, none⟩ = some (.slice a n cap) := fun y => y.cell ((hb0.cell (p := ⟨bp, 0, none⟩) hbp).trans h0) (by omega)
  have z1 : ∀ y : Later W0, y.1.cell? ⟨bp, 1, none⟩ = some (.int .i64 d) := fun y => y.cell ((hb0.cell (p := ⟨bp, 1, none⟩) hbp).trans h1) (by omega)
  have z2 : ∀ y : Later W0, y.1.cell? ⟨bq, 0, none⟩ = some (.slice b n2 cap2) := fun y => y.cell ((hb0.cell (p := ⟨bq, 0, none⟩) hbq).trans h2) (by omega)
  have z3 : ∀ y : Later W0, y.1.cell? ⟨bq, 1, none⟩ = some (.int .i64 f) := fun y => y.cell ((hb0.cell (p := ⟨bq, 1, none⟩) hbq).trans h3) (by omega)
  have HA' : Hid (∀ y : Later W0, Calls Tryz.prog 71 #[.agg #[.slice a n cap, .int .i64 d], .agg #[.int .i64 x0, .int .i64 x1, .int .i64 x2, .int .i64 x3, .int .i64 x4]] y.1 fun e w'' => e = .returned (.int .i64 va) ∧ Below y.1.heap.size y.1 w'') := fun y => HA.out _ (Below.thenOf hb0 y.2 hb0.size)
  have HB' : Hid (∀ y : Later W0, Calls Tryz.prog 71 #[.agg #[.slice b n2 cap2, .int .i64 f], .agg #[.int .i64 x0, .int .i64 x1, .int .i64 x2, .int .i64 x3, .int .i64 x4]] y.1 fun e w'' => e = .returned (.int .i64 vb) ∧ Below y.1.heap.size y.1 w'') := fun y => HB.out _ (Below.thenOf hb0 y.2 hb0.size)
  clear h0 h1 h2 h3 hm HA HB hB hbp hbq hs0
  go_enter Tryz.func70, Tryz.ntmps70
  go_wp2_with fail
  rw [← HW.out]
  refine wp_region_later (by kernel_rfl) (by kernel_rfl) ?_
  go_big_quiet_step (fail)
  go_big_quiet_step (fail)
  go_big_quiet_step (first | (go_at_call 71; exact Calls.later (HA'.out _)))
  go_big_quiet_step (fail)
  go_big_quiet_step (fail)
  go_big_quiet_step (first | (go_at_call 71; exact Calls.later (HB'.out _)))
  go_big_quiet_step (fail)
  go_big_quiet_step (fail)
  refine wpQuiet_nil ?_
  rintro wx ⟨⟨_, hx⟩, rfl⟩
  go_wp2
  go_ret
  exact ⟨by rw [HLo.out]; simp, Below.thenOf hb0 hx hb0.size⟩

end Go.Proofs.YtbdlojnigflanacGreatDoor
end
section
/- Package order: slices.IndexFunc of points, for the first at which one policy says more. -/
set_option linter.all false
set_option maxRecDepth 100000
namespace Go.Proofs.YtbdlojnigflanacGreatDoor
open Go.RowKit Go.Maps

def ofFive (c : CallT) : List Int := [c.1, c.2.1, c.2.2.1, c.2.2.2.1, c.2.2.2.2]

set_option maxHeartbeats 4000000 in
theorem indexCalls_any (B L bp bq : Nat) (a b : Option Addr) (n cap n2 cap2 : Nat) (d f : Int) (p q : PolT) (lv : Value) (cs : List CallT) (w : World) (hl : CallsAt L w lv cs) (hL : L ≤ w.heap.size) (hp : PolAt B w (.agg #[.slice a n cap, .int .i64 d]) p) (hq : PolAt B w (.agg #[.slice b n2 cap2, .int .i64 f]) q) (hB : B ≤ w.heap.size)
    (h0 : w.cell? ⟨bp, 0, none⟩ = some (.slice a n cap)) (h1 : w.cell? ⟨bp, 1, none⟩ = some (.int .i64 d)) (h2 : w.cell? ⟨bq, 0, none⟩ = some (.slice b n2 cap2)) (h3 : w.cell? ⟨bq, 1, none⟩ = some (.int .i64 f)) (hbp : bp < w.heap.size) (hbq : bq < w.heap.size) :
    Calls Tryz.prog 69 #[lv, .func (.func 70) #[] #[.pointer (some ⟨bp, 0, none⟩), .pointer (some ⟨bq, 0, none⟩)]] w fun e w' => e = .returned (.int .i64 (firstAt (fun c => loosePt p q (ofFive c)) 0 cs)) ∧ Below w.heap.size w w' := by
  have HC : Hid (∀ x0 x1 x2 x3 x4 w', Below w.heap.size w w' → Calls Tryz.prog 70 #[.agg #[.int .i64 x0, .int .i64 x1, .int .i64 x2, .int .i64 x3, .int .i64 x4], .pointer (some ⟨bp, 0, none⟩), .pointer (some ⟨bq, 0, none⟩)] w' fun e w'' => e = .returned (.bool (loosePt p q [x0, x1, x2, x3, x4])) ∧ Below w'.heap.size w' w'') := fun x0 x1 x2 x3 x4 w' h =>
    looserFn_any B bp bq a b n cap n2 cap2 d f p q x0 x1 x2 x3 x4 w' (hp.later h hB) (hq.later h hB) (Nat.le_trans hB h.size) ((h.cell (p := ⟨bp, 0, none⟩) hbp).trans h0) ((h.cell (p := ⟨bp, 1, none⟩) hbp).trans h1) ((h.cell (p := ⟨bq, 0, none⟩) hbq).trans h2) ((h.cell (p := ⟨bq, 1, none⟩) hbq).trans h3) (Nat.lt_of_lt_of_le hbp h.size) (Nat.lt_of_lt_of_le hbq h.size)
  obtain ⟨g, lcap, rfl, hlc, hcm, hcs⟩ := hl
  have HCs : Hid (∀ (i : Nat) c, cs[i]? = some c → ∃ b o, g = some ⟨b, o, none⟩ ∧ b < L ∧ CallAt w b (o + i * 5) c) := hcs
  clear hcs hp hq h0 h1 h2 h3 hbp hbq
  have hml := maxLen_eq
  generalize hN : cs.length = N at *
  have hNH : Hid (cs.length = N) := hN
  clear hN
  go_enter Tryz.func69, Tryz.ntmps69
  go_wp2
  go_loopw [8] (fun i wr => ∃ k : Nat, k ≤ N ∧ i = .int .i64 k ∧ Hid (firstAt (fun c => loosePt p q (ofFive c)) 0 cs = firstAt (fun c => loosePt p q (ofFive c)) k (cs.drop k)) ∧ Below w.heap.size w wr) (fun i _ => N - (intOf i).toNat)
  case atStart => exact ⟨0, by omega, rfl, rfl, Below.refl _ _⟩
  case round =>
    obtain ⟨k, hk, rfl, H, hbr⟩ := hrel
    obtain ⟨wo, hwo⟩ : ∃ x, x = wr := ⟨_, rfl⟩
    subst hwo
    have i0 : (0 : Int) ≤ (k : Int) := by omega
    have hos := hbr.size
    by_cases hlt : k < N
    · have i1 : (k : Int) < (N : Int) := by omega
      obtain ⟨c, hck⟩ : ∃ c, cs[k]? = some c := ⟨cs[k]'(by rw [hNH.out]; omega), by simp⟩
      obtain ⟨gb, go, rfl, hbL, hat⟩ := HCs.out k c hck
      have S : Hid (firstAt (fun c => loosePt p q (ofFive c)) k (cs.drop k) = if loosePt p q (ofFive c) = true then (k : Int) else firstAt (fun c => loosePt p q (ofFive c)) (k + 1) (cs.drop (k + 1))) := firstAt_step (fun c => loosePt p q (ofFive c)) cs k c hck
      obtain ⟨c0, c1, c2, c3, c4⟩ := hat.later hbr (by omega)
      have hcall := HC.out c.1 c.2.1 c.2.2.1 c.2.2.2.1 c.2.2.2.2 wo hbr
      have HF : Hid (loosePt p q (ofFive c) = loosePt p q [c.1, c.2.1, c.2.2.1, c.2.2.2.1, c.2.2.2.2]) := rfl
      generalize loosePt p q [c.1, c.2.1, c.2.2.1, c.2.2.2.1, c.2.2.2.2] = lo at *
      have hcall' : Hid _ := hcall
      clear hcall hat hck
      generalize c.1 = x0 at *
      generalize c.2.1 = x1 at *
      generalize c.2.2.1 = x2 at *
      generalize c.2.2.2.1 = x3 at *
      generalize c.2.2.2.2 = x4 at *
      go_wp2_with (first | (go_at_call 70; go_must (refine Calls.mono hcall'.out ?_; rintro e w2 ⟨rfl, hb2⟩)))
      all_goals have hb3 : Below w.heap.size w w2 := Below.thenOf hbr hb2 hbr.size
      · have hy : loosePt p q (ofFive c) = true := by rw [HF.out]; assumption
        go_ret
        exact ⟨by rw [H.out, S.out, if_pos hy]; rfl, hb3⟩
      · have hy : ¬ loosePt p q (ofFive c) = true := by rw [HF.out]; simp_all
        exact ⟨⟨k + 1, by omega, by go_num, by unfold Hid; rw [H.out, S.out, if_neg hy], hb3⟩, by simp [intOf]; omega⟩
    · go_wp2
      go_ret
      exact ⟨by rw [H.out, List.drop_eq_nil_of_le (by rw [hNH.out]; omega)]; rfl, hbr⟩

end Go.Proofs.YtbdlojnigflanacGreatDoor
end
section
/- What package order answers, walked. -/
set_option linter.all false
set_option maxRecDepth 100000
namespace Go.Proofs.YtbdlojnigflanacGreatDoor
open Go.RowKit Go.Maps

theorem five_asC {x : List Int} (h : ∃ a b c d e, x = [a, b, c, d, e]) : ofFive (asC x) = x := by
  obtain ⟨a, b, c, d, e, rfl⟩ := h
  rfl
/-- Where the first looser point stands. -/
theorem looser_at (p q : PolT) : (firstAt (fun c => loosePt p q (ofFive c)) 0 ((pointsL [p, q]).map asC) = -1 ∧ looserP p q = none) ∨ ∃ (j : Nat) (c : CallT), firstAt (fun c => loosePt p q (ofFive c)) 0 ((pointsL [p, q]).map asC) = (j : Int) ∧ ((pointsL [p, q]).map asC)[j]? = some c ∧ looserP p q = some (ofFive c) := by
  have h5 : ∀ x ∈ pointsL [p, q], ofFive (asC x) = x := fun x hx => five_asC (point_five hx)
  rcases firstAt_inv (fun c => loosePt p q (ofFive c)) ((pointsL [p, q]).map asC) 0 with ⟨h1, h2⟩ | ⟨j, c, h1, h2, h3, h4⟩
  · refine .inl ⟨h1, ?_⟩
    unfold looserP
    rw [List.find?_eq_none]
    intro x hx
    have := h2 (asC x) (List.mem_map_of_mem hx)
    simp only [h5 x hx] at this
    simp [this]
  · refine .inr ⟨j, c, by rw [h1]; simp, h2, ?_⟩
    rw [List.getElem?_map] at h2
    obtain ⟨x, hx, rfl⟩ := Option.map_eq_some_iff.1 h2
    have hxm := List.mem_of_getElem? hx
    simp only [h5 x hxm] at h3
    rw [h5 x hxm]
    refine find_take _ _ j (fun y hy => ?_) _ hx h3
    obtain ⟨i, hi, rfl⟩ := List.getElem_of_mem hy
    have hi' : i < j := by simp at hi; omega
    have hil : i < (pointsL [p, q]).length := by simp at hi; omega
    have hg : (pointsL [p, q])[i]? = some (pointsL [p, q])[i] := by simp [hil]
    have := h4 i hi' (asC (pointsL [p, q])[i]) (by rw [List.getElem?_map, hg]; rfl)
    simp only [h5 _ (List.mem_of_getElem? hg)] at this
    simpa using this

set_option maxHeartbeats 8000000 in
theorem looserD_any (B : Nat) (pv qv : Value) (p q : PolT) (w : World) (hp : PolAt B w pv p) (hq : PolAt B w qv q) (hB : B ≤ w.heap.size) :
    Calls Tryz.prog 17 #[pv, qv] w fun e w' => e = .returned (.tuple #[.bool (looserP p q).isSome, callV (looserC p q), .int .i64 (pointsE [p, q])]) ∧ Below w.heap.size w w' := by
  have HP : Hid (∀ w', Below w.heap.size w w' → PolAt B w' pv p) := fun w' h => hp.later h hB
  have HQ : Hid (∀ w', Below w.heap.size w w' → PolAt B w' qv q) := fun w' h => hq.later h hB
  obtain ⟨rs, d⟩ := p
  obtain ⟨ss, f⟩ := q
  obtain ⟨rv, e1, hd, hrs⟩ := hp
  obtain ⟨sv, e2, hf, hss⟩ := hq
  have HRS : Hid (∀ w', Below w.heap.size w w' → RulesAt B w' rv rs) := fun w' h => hrs.later h hB
  have HSS : Hid (∀ w', Below w.heap.size w w' → RulesAt B w' sv ss) := fun w' h => hss.later h hB
  obtain ⟨a, cap, e3, hlc, hcm, -⟩ := hrs
  obtain ⟨b, cap2, e4, hlc2, hcm2, -⟩ := hss
  simp only at e1 e2 e3 e4 hd hf
  subst e3 e4 e1 e2
  have hdH : Hid (wf d) := hd
  have hfH : Hid (wf f) := hf
  clear hd hf
  generalize hn1 : rs.length = n1 at *
  generalize hn2 : ss.length = n2 at *
  clear hn1 hn2
  go_enter Tryz.func17, Tryz.ntmps17
  obtain ⟨W3, hW3⟩ : ∃ W3, W3 = ((w.alloc (.cells #[.slice a n1 cap, .int .i64 d] 24)).alloc (.cells #[.slice b n2 cap2, .int .i64 f] 24)).alloc (.cells #[.int .i64 0, .int .i64 0, .int .i64 0, .int .i64 0, .int .i64 0] 26) := ⟨_, rfl⟩
  have hs3 : W3.heap.size = w.heap.size + 1 + 1 + 1 := by rw [hW3]; simp
  have hb3 : Below w.heap.size w W3 := by rw [hW3]; exact (((Below.refl _ _).alloc (Nat.le_refl _) _).alloc (by simp) _).alloc (by simp; omega) _
  have HBx : Hid (∀ w', Below (w.heap.size + 3) W3 w' → w'.heap[w.heap.size]? = some (.cells #[.slice a n1 cap, .int .i64 d] 24 (0, 0)) ∧ w'.heap[w.heap.size + 1]? = some (.cells #[.slice b n2 cap2, .int .i64 f] 24 (0, 0)) ∧ w'.heap[w.heap.size + 1 + 1]? = some (.cells (cellsX fun _ => 0) 26 (0, 0))) := by
    intro w' h
    have e0 : W3.heap[w.heap.size]? = some (.cells #[.slice a n1 cap, .int .i64 d] 24 (0, 0)) := by
      rw [hW3, Below.heap_alloc _ _ _ (by simp; omega), Below.heap_alloc _ _ _ (by simp)]
      exact heap_made _ _
    have e1 : W3.heap[w.heap.size + 1]? = some (.cells #[.slice b n2 cap2, .int .i64 f] 24 (0, 0)) := by
      rw [hW3, Below.heap_alloc _ _ _ (by simp)]
      have := heap_made (w.alloc (.cells #[.slice a n1 cap, .int .i64 d] 24)) (.cells #[.slice b n2 cap2, .int .i64 f] 24)
      rw [World.size_alloc] at this
      exact this
    have e2 : W3.heap[w.heap.size + 1 + 1]? = some (.cells (cellsX fun _ => 0) 26 (0, 0)) := by
      rw [hW3]
      have := heap_made ((w.alloc (.cells #[.slice a n1 cap, .int .i64 d] 24)).alloc (.cells #[.slice b n2 cap2, .int .i64 f] 24)) (.cells (cellsX fun _ => 0) 26)
      rw [World.size_alloc, World.size_alloc] at this
      exact this
    exact ⟨(h.block _ (by omega)).trans e0, (h.block _ (by omega)).trans e1, (h.block _ (by omega)).trans e2⟩
  have hPt := pols_two (p := (rs, d)) (q := (ss, f)) (Nat.le_trans hB hb3.size) (HRS.out _ hb3) hdH.out (HSS.out _ hb3) hfH.out 24
  have HPo := pointsD_any _ _ _ _ hPt (by simp) (by simp)
  rw [hs3] at HPo
  have HPo' : Hid _ := HPo
  have hb4 : Below (w.heap.size + 3) W3 (W3.alloc (.cells #[.slice a n1 cap, .int .i64 d, .slice b n2 cap2, .int .i64 f] 24)) := (Below.refl _ _).alloc (by omega) _
  have hs4 : (W3.alloc (.cells #[.slice a n1 cap, .int .i64 d, .slice b n2 cap2, .int .i64 f] 24)).heap.size = w.heap.size + 4 := by simp [hs3]
  clear HPo hPt
  go_wp2_with fail
  rw [← hW3]
  clear hW3
  go_at_call 68
  refine Calls.mono HPo'.out ?_
  rintro e w5 ⟨v5, rfl, ho5, hb5⟩
  rw [hs4] at hb5
  have hb35 : Below (w.heap.size + 3) W3 w5 := Below.trans hb4 (hb5.mono (by omega))
  have hs5 := hb5.size
  rw [hs4] at hs5
  have hb5w : Below w.heap.size w w5 := hb3.trans (hb35.mono (by omega))
  have HLa := looser_at (rs, d) (ss, f)
  have HLe : Hid (pointsE [(rs, d), (ss, f)] ≠ 0 → looserP (rs, d) (ss, f) = none) := looser_err
  have HCd : Hid (looserC (rs, d) (ss, f) = match looserP (rs, d) (ss, f) with | some x => ofL x | none => fun _ => 0) := rfl
  obtain ⟨b0, b1, -⟩ := HBx.out _ hb35
  have HIx : Hid (Calls Tryz.prog 69 #[v5, .func (.func 70) #[] #[.pointer (some ⟨w.heap.size, 0, none⟩), .pointer (some ⟨w.heap.size + 1, 0, none⟩)]] w5 fun e w' => e = .returned (.int .i64 (firstAt (fun c => loosePt (rs, d) (ss, f) (ofFive c)) 0 ((pointsL [(rs, d), (ss, f)]).map asC))) ∧ Below w5.heap.size w5 w') :=
    indexCalls_any B w5.heap.size w.heap.size (w.heap.size + 1) a b n1 cap n2 cap2 d f (rs, d) (ss, f) v5 _ w5 ho5 (Nat.le_refl _) (HP.out _ hb5w) (HQ.out _ hb5w) (Nat.le_trans hB hb5w.size) (heap_cell b0 0 rfl) (heap_cell b0 1 rfl) (heap_cell b1 0 rfl) (heap_cell b1 1 rfl) (by omega) (by omega)
  obtain ⟨g5, cap5, rfl, hlc5, hcm5, hcs5⟩ := ho5
  have HCs : Hid (∀ (i : Nat) c, ((pointsL [(rs, d), (ss, f)]).map asC)[i]? = some c → ∃ b o, g5 = some ⟨b, o, none⟩ ∧ b < w5.heap.size ∧ CallAt w5 b (o + i * 5) c) := hcs5
  have HLa' : Hid _ := HLa
  have HBw : Hid _ := hb5w
  have hml := maxLen_eq
  clear hcs5 HPo' hb4 hs4 b0 b1 HLa HP HQ hb5w
  generalize firstAt (fun c => loosePt (rs, d) (ss, f) (ofFive c)) 0 ((pointsL [(rs, d), (ss, f)]).map asC) = z at *
  obtain ⟨cs, hcs⟩ : ∃ cs, cs = (pointsL [(rs, d), (ss, f)]).map asC := ⟨_, rfl⟩
  rw [← hcs] at HIx HCs HLa' hlc5 ⊢
  clear hcs
  obtain ⟨pe, hpe⟩ : ∃ pe, pe = pointsE [(rs, d), (ss, f)] := ⟨_, rfl⟩
  have hpeH : Hid (pointsE [(rs, d), (ss, f)] = pe) := hpe.symm
  rw [← hpe] at HLe ⊢
  clear hpe
  generalize hN : cs.length = N at *
  have hNH : Hid (cs.length = N) := hN
  clear hN
  have l2 : w.heap.size + 1 + 1 < w5.heap.size := by omega
  by_cases hz : pe = 0
  · have HZ : Hid (pe = 0) := hz
    rcases HLa'.out with ⟨rfl, hno⟩ | ⟨j, c, rfl, hj, hsome⟩
    · have HCe : Hid (looserP (rs, d) (ss, f) = none ∧ looserC (rs, d) (ss, f) = fun _ => 0) := ⟨hno, by rw [HCd.out, hno]⟩
      subst hz
      clear hno HLa' HCd HLe HCs
      go_wp2_with fail
      go_at_call 69
      refine Calls.mono HIx.out ?_
      rintro e w6 ⟨rfl, hb6⟩
      obtain ⟨-, -, b2⟩ := HBx.out _ (hb35.trans (hb6.mono (by omega)))
      have hZ := (cellsX_at b2).1
      have hZf := (cellsX_at b2).2
      have r0 := hZ 0 (by omega)
      have r1 := hZ 1 (by omega)
      have r2 := hZ 2 (by omega)
      have r3 := hZ 3 (by omega)
      have r4 := hZ 4 (by omega)
      have f0 := hZf 0
      have f1 := hZf 1
      have f2 := hZf 2
      have f3 := hZf 3
      have f4 := hZf 4
      have hb6w : Below w.heap.size w w6 := Below.thenOf HBw.out hb6 HBw.out.size
      clear hZ hZf b2 hb6
      go_wp2_with fail
      refine bodyPost_ret (v := .tuple #[.bool false, .agg #[.int .i64 0, .int .i64 0, .int .i64 0, .int .i64 0, .int .i64 0], .int .i64 0]) ?_ rfl ⟨by rw [HCe.out.1, HCe.out.2, hpeH.out]; rfl, ?_⟩
      · simp [results, Tryz.results17, go_sem, r0, r1, r2, r3, r4]
      · repeat (first | exact hb6w | refine Below.setCell ?_ (by simp; omega) _)
    · have HCe : Hid (looserP (rs, d) (ss, f) = some (ofFive c) ∧ looserC (rs, d) (ss, f) = ofL (ofFive c)) := ⟨hsome, by rw [HCd.out, hsome]⟩
      have hjN : j < N := by rw [← hNH.out]; exact (List.getElem?_eq_some_iff.1 hj).1
      obtain ⟨gb, go, rfl, hgl, hca⟩ := HCs.out j c hj
      subst hz
      have j0 : (0 : Int) ≤ (j : Int) := by omega
      have j1 : (j : Int) < (N : Int) := by omega
      clear hsome HLa' HCd HLe HCs hj
      go_wp2_with fail
      go_at_call 69
      refine Calls.mono HIx.out ?_
      rintro e w6 ⟨rfl, hb6⟩
      obtain ⟨-, -, b2⟩ := HBx.out _ (hb35.trans (hb6.mono (by omega)))
      obtain ⟨k0, k1, k2, k3, k4⟩ := hca.later hb6 hgl
      have hgl6 : gb < w6.heap.size := Nat.lt_of_lt_of_le hgl hb6.size
      have hZ := (cellsX_at b2).1
      have hZf := (cellsX_at b2).2
      have r0 := hZ 0 (by omega)
      have r1 := hZ 1 (by omega)
      have r2 := hZ 2 (by omega)
      have r3 := hZ 3 (by omega)
      have r4 := hZ 4 (by omega)
      have f0 := hZf 0
      have f1 := hZf 1
      have f2 := hZf 2
      have f3 := hZf 3
      have f4 := hZf 4
      have hb6w : Below w.heap.size w w6 := Below.thenOf HBw.out hb6 HBw.out.size
      have HCe' : Hid (callV (looserC (rs, d) (ss, f)) = .agg #[.int .i64 c.1, .int .i64 c.2.1, .int .i64 c.2.2.1, .int .i64 c.2.2.2.1, .int .i64 c.2.2.2.2]) := by unfold Hid; rw [HCe.out.2]; rfl
      clear hZ hZf b2 hb6 hca
      generalize c.1 = x0 at *
      generalize c.2.1 = x1 at *
      generalize c.2.2.1 = x2 at *
      generalize c.2.2.2.1 = x3 at *
      generalize c.2.2.2.2 = x4 at *
      go_wp2_with fail
      go_region
      go_wp2_with fail
      refine bodyPost_ret (v := .tuple #[.bool true, .agg #[.int .i64 x0, .int .i64 x1, .int .i64 x2, .int .i64 x3, .int .i64 x4], .int .i64 0]) ?_ rfl ⟨by rw [HCe.out.1, HCe'.out, hpeH.out]; rfl, ?_⟩
      · simp [results, Tryz.results17, go_sem, r0, r1, r2, r3, r4]
      · refine Below.drew ?_
        repeat (first | exact hb6w | refine Below.setCell ?_ (by simp; omega) _)
  · have HCe : Hid (looserP (rs, d) (ss, f) = none ∧ looserC (rs, d) (ss, f) = fun _ => 0) := ⟨HLe.out hz, by rw [HCd.out, HLe.out hz]⟩
    have hq : (pe != 0) = true := by simpa using hz
    obtain ⟨-, -, b2⟩ := HBx.out _ hb35
    have hZ := (cellsX_at b2).1
    have hZf := (cellsX_at b2).2
    have r0 := hZ 0 (by omega)
    have r1 := hZ 1 (by omega)
    have r2 := hZ 2 (by omega)
    have r3 := hZ 3 (by omega)
    have r4 := hZ 4 (by omega)
    have f0 := hZf 0
    have f1 := hZf 1
    have f2 := hZf 2
    have f3 := hZf 3
    have f4 := hZf 4
    clear hZ hZf b2 hz HLa' HCd HLe HCs HIx
    go_wp2_with fail
    refine bodyPost_ret (v := .tuple #[.bool false, .agg #[.int .i64 0, .int .i64 0, .int .i64 0, .int .i64 0, .int .i64 0], .int .i64 pe]) ?_ rfl ⟨by rw [HCe.out.1, HCe.out.2, hpeH.out]; rfl, ?_⟩
    · simp [results, Tryz.results17, go_sem, r0, r1, r2, r3, r4]
    · repeat (first | exact HBw.out | refine Below.setCell ?_ (by simp; omega) _)

end Go.Proofs.YtbdlojnigflanacGreatDoor
end
