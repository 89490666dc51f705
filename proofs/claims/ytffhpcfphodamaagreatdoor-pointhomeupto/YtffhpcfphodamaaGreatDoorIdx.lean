/- slices.Index and slices.Contains of calls; slices.Compare of numbers. -/
import Derived.Test.YtffhpcfphodamaaGreatDoorPtC
set_option linter.all false
set_option maxRecDepth 100000
namespace Go.Proofs.YtffhpcfphodamaaGreatDoor
open Go.RowKit Go.Maps

set_option maxHeartbeats 2000000 in
theorem indexCalls_any (B : Nat) (cv : Value) (cs : List CallT) (x : CallT) (w : World) (hc : CallsAt B w cv cs) (hB : B ≤ w.heap.size) :
    Calls Tryz.prog 36 #[cv, .agg #[.int .i64 x.1, .int .i64 x.2.1, .int .i64 x.2.2.1, .int .i64 x.2.2.2.1, .int .i64 x.2.2.2.2]] w fun e w' => e = .returned (.int .i64 (firstAt (fun c => decide (x = c)) 0 cs)) ∧ Below w.heap.size w w' := by
  obtain ⟨x0, x1, x2, x3, x4⟩ := x
  simp only []
  obtain ⟨a, cap, rfl, hlc, hcm, hcs⟩ := hc
  have hcs' : Hid (∀ (i : Nat) (c : CallT), cs[i]? = some c → ∃ b o, a = some ⟨b, o, none⟩ ∧ b < B ∧ CallAt w b (o + i * 5) c) := hcs
  clear hcs
  have hml := maxLen_eq
  generalize hn : cs.length = n at *
  have hnH : Hid (cs.length = n) := hn
  clear hn
  obtain ⟨W1, hW1⟩ : ∃ W1, W1 = w.alloc (.cells #[.int .i64 x0, .int .i64 x1, .int .i64 x2, .int .i64 x3, .int .i64 x4] 24) := ⟨_, rfl⟩
  have hb1 : Below w.heap.size w W1 := by rw [hW1]; exact (Below.refl _ _).alloc (Nat.le_refl _) _
  have hX1 : Hid (W1.heap[w.heap.size]? = some (.cells #[.int .i64 x0, .int .i64 x1, .int .i64 x2, .int .i64 x3, .int .i64 x4] 24 (0, 0))) := by rw [hW1]; exact heap_made _ _
  have hs1 := lt_of_block hX1.out
  go_enter Tryz.func36, Tryz.ntmps36
  go_wp2
  rw [← hW1]
  clear hW1
  go_loopw [8] (fun iv wr => ∃ k : Nat, k ≤ n ∧ iv = .int .i64 k ∧ Hid (firstAt (fun c => decide (((x0, x1, x2, x3, x4) : CallT) = c)) 0 cs = firstAt (fun c => decide (((x0, x1, x2, x3, x4) : CallT) = c)) k (cs.drop k)) ∧ Below W1.heap.size W1 wr) (fun iv _ => n - (intOf iv).toNat)
  case atStart => exact ⟨0, by omega, rfl, rfl, Below.refl _ _⟩
  case round =>
    obtain ⟨k, hk, rfl, H, hbr⟩ := hrel
    obtain ⟨wo, hwo⟩ : ∃ x, x = wr := ⟨_, rfl⟩
    subst hwo
    have i0 : (0 : Int) ≤ (k : Int) := by omega
    have hos := hbr.size
    have hbwo : Below w.heap.size w wo := Below.thenOf hb1 hbr hb1.size
    by_cases hlt : k < n
    · have i1 : (k : Int) < (n : Int) := by omega
      obtain ⟨c, hck⟩ : ∃ c, cs[k]? = some c := ⟨cs[k]'(by rw [hnH.out]; omega), by simp⟩
      have S : Hid (firstAt (fun c => decide (((x0, x1, x2, x3, x4) : CallT) = c)) k (cs.drop k) = if decide (((x0, x1, x2, x3, x4) : CallT) = c) then (k : Int) else firstAt (fun c => decide (((x0, x1, x2, x3, x4) : CallT) = c)) (k + 1) (cs.drop (k + 1))) := firstAt_step _ cs k c hck
      obtain ⟨b, o, rfl, hbB, hat⟩ := hcs'.out k c hck
      obtain ⟨c0, c1, c2, c3, c4⟩ := c
      obtain ⟨d0, d1, d2, d3, d4⟩ := hat.later hbwo (by omega)
      simp only [] at d0 d1 d2 d3 d4
      have hXo := (hbr.block w.heap.size hs1).trans hX1.out
      have e0 := heap_cell hXo 0 rfl
      have e1 := heap_cell hXo 1 rfl
      have e2 := heap_cell hXo 2 rfl
      have e3 := heap_cell hXo 3 rfl
      have e4 := heap_cell hXo 4 rfl
      clear hat hck hXo
      go_wp2
      have hne := Later.ne wo
      have l0 : w.heap.size < wo.heap.size := by omega
      have lb : b < wo.heap.size := by omega
      have q0 : ∀ z : Later wo, z.1.cell? ⟨w.heap.size, 0, none⟩ = some (.int .i64 x0) := fun z => z.cell e0 l0
      have q1 : ∀ z : Later wo, z.1.cell? ⟨w.heap.size, 1, none⟩ = some (.int .i64 x1) := fun z => z.cell e1 l0
      have q2 : ∀ z : Later wo, z.1.cell? ⟨w.heap.size, 2, none⟩ = some (.int .i64 x2) := fun z => z.cell e2 l0
      have q3 : ∀ z : Later wo, z.1.cell? ⟨w.heap.size, 3, none⟩ = some (.int .i64 x3) := fun z => z.cell e3 l0
      have q4 : ∀ z : Later wo, z.1.cell? ⟨w.heap.size, 4, none⟩ = some (.int .i64 x4) := fun z => z.cell e4 l0
      have p0 : ∀ z : Later wo, z.1.cell? ⟨b, o + k * 5, none⟩ = some (.int .i64 c0) := fun z => z.cell d0 lb
      have p1 : ∀ z : Later wo, z.1.cell? ⟨b, o + k * 5 + 1, none⟩ = some (.int .i64 c1) := fun z => z.cell d1 lb
      have p2 : ∀ z : Later wo, z.1.cell? ⟨b, o + k * 5 + 2, none⟩ = some (.int .i64 c2) := fun z => z.cell d2 lb
      have p3 : ∀ z : Later wo, z.1.cell? ⟨b, o + k * 5 + 3, none⟩ = some (.int .i64 c3) := fun z => z.cell d3 lb
      have p4 : ∀ z : Later wo, z.1.cell? ⟨b, o + k * 5 + 4, none⟩ = some (.int .i64 c4) := fun z => z.cell d4 lb
      clear e0 e1 e2 e3 e4 d0 d1 d2 d3 d4
      by_cases heq : ((x0, x1, x2, x3, x4) : CallT) = (c0, c1, c2, c3, c4)
      · have hd : Hid ((decide (((x0, x1, x2, x3, x4) : CallT) = (c0, c1, c2, c3, c4))) = true) := decide_eq_true heq
        have HF : Hid (firstAt (fun c => decide (((x0, x1, x2, x3, x4) : CallT) = c)) 0 cs = (k : Int)) := by unfold Hid; rw [H.out, S.out, hd.out]; rfl
        clear heq
        refine wp_region_later (by kernel_rfl) (by kernel_rfl) ?_
        repeat (first | go_big_quiet_step (fail) | (refine wpQuiet_eqlCall _ _ _ rfl rfl _ _ _ _ _ _ _ _ _ _ rfl rfl true hd.out ?_; simp only [Act.put, List.setIfInBounds_toArray, List.set_cons_succ, List.set_cons_zero]))
        refine wpQuiet_nil ?_
        rintro wx ⟨⟨_, hx⟩, rfl⟩
        have hbx := Below.thenOf hbwo hx hbwo.size
        clear q0 q1 q2 q3 q4 p0 p1 p2 p3 p4 hne
        go_wp2
        go_ret
        exact ⟨by rw [HF.out]; rfl, hbx⟩
      · have hd : Hid ((decide (((x0, x1, x2, x3, x4) : CallT) = (c0, c1, c2, c3, c4))) = false) := decide_eq_false heq
        have HF : Hid (firstAt (fun c => decide (((x0, x1, x2, x3, x4) : CallT) = c)) 0 cs = firstAt (fun c => decide (((x0, x1, x2, x3, x4) : CallT) = c)) (k + 1) (cs.drop (k + 1))) := by unfold Hid; rw [H.out, S.out, hd.out]; rfl
        clear heq
        refine wp_region_later (by kernel_rfl) (by kernel_rfl) ?_
        repeat (first | go_big_quiet_step (fail) | (refine wpQuiet_eqlCall _ _ _ rfl rfl _ _ _ _ _ _ _ _ _ _ rfl rfl false hd.out ?_; simp only [Act.put, List.setIfInBounds_toArray, List.set_cons_succ, List.set_cons_zero]))
        refine wpQuiet_nil ?_
        rintro wx ⟨⟨_, hx⟩, rfl⟩
        have hbx := Below.thenOf hbr hx hos
        clear q0 q1 q2 q3 q4 p0 p1 p2 p3 p4 hne
        go_wp2
        exact ⟨⟨k + 1, by omega, by go_num, HF, hbx⟩, by simp [intOf]; omega⟩
    · go_wp2
      go_ret
      exact ⟨by rw [H.out, List.drop_eq_nil_of_le (by rw [hnH.out]; omega)]; rfl, hbwo⟩

set_option maxHeartbeats 1000000 in
theorem containsCalls_any (B : Nat) (cv : Value) (cs : List CallT) (x : CallT) (w : World) (hc : CallsAt B w cv cs) (hB : B ≤ w.heap.size) :
    Calls Tryz.prog 18 #[cv, .agg #[.int .i64 x.1, .int .i64 x.2.1, .int .i64 x.2.2.1, .int .i64 x.2.2.2.1, .int .i64 x.2.2.2.2]] w fun e w' => e = .returned (.bool (decide (x ∈ cs))) ∧ Below w.heap.size w w' := by
  have HI : Hid (∀ w', Below w.heap.size w w' → Calls Tryz.prog 36 #[cv, .agg #[.int .i64 x.1, .int .i64 x.2.1, .int .i64 x.2.2.1, .int .i64 x.2.2.2.1, .int .i64 x.2.2.2.2]] w' fun e w'' => e = .returned (.int .i64 (firstAt (fun c => decide (x = c)) 0 cs)) ∧ Below w'.heap.size w' w'') := fun w' h => indexCalls_any B cv cs x w' (hc.later h hB) (Nat.le_trans hB h.size)
  have HF : Hid (decide (0 ≤ firstAt (fun c => decide (x = c)) 0 cs) = decide (x ∈ cs)) := by
    unfold Hid
    rw [firstAt_none, Bool.eq_iff_iff, List.any_eq_true, decide_eq_true_eq]
    constructor
    · rintro ⟨c, hc, h⟩
      rw [decide_eq_true_eq] at h
      rw [h]
      exact hc
    · intro h
      exact ⟨x, h, decide_eq_true rfl⟩
  obtain ⟨a, cap, rfl, -⟩ := hc
  generalize firstAt (fun c => decide (x = c)) 0 cs = z at *
  generalize cs.length = n at *
  have hb1 : ∀ X, Below w.heap.size w (w.alloc X) := fun X => (Below.refl _ _).alloc (Nat.le_refl _) _
  obtain ⟨x0, x1, x2, x3, x4⟩ := x
  simp only [] at HI HF ⊢
  go_enter Tryz.func18, Tryz.ntmps18
  go_wp2_with (first | (go_at_call 36; go_must (refine Calls.mono (HI.out _ (hb1 _)) ?_; rintro e w1 ⟨rfl, hb⟩)))
  go_ret
  exact ⟨by rw [← HF.out]; rfl, Below.thenOf (hb1 _) hb (by simp)⟩
end Go.Proofs.YtffhpcfphodamaaGreatDoor
