/- Joined: Nte9 NtD Ntd. -/
import Derived.Test.YthpllmhnpbigiacGreatDoorNj36
import Derived.Test.YthpllmhnpbigiacGreatDoorNj37
import Derived.Test.YthpllmhnpbigiacGreatDoorNj38
import Derived.Test.YthpllmhnpbigiacGreatDoorNk29
import Derived.Test.YthpllmhnpbigiacGreatDoorNj35
import Derived.Test.YthpllmhnpbigiacGreatDoorNj09
import Derived.Test.YthpllmhnpbigiacGreatDoorNj23
import Derived.Test.YthpllmhnpbigiacGreatDoorNj10
section
/- The counterpart's RecRead, at any text. -/
set_option linter.all false
namespace Go.Proofs.YthpllmhnpbigiacGreatDoor
open Go.RowKit Go.Maps

theorem recRead_new (s : ByteArray) (hs60 : s.size ≤ 60000) (w : World) (he : EnvT w) :
    Calls Tryz.prog 18 #[.string s] w fun e w' => ∃ v, e = .returned (.tuple #[v, .int .i64 (recOf s.data.toList).2]) ∧ RecNew w.heap.size w' v (recOf s.data.toList).1 ∧ Below w.heap.size w w' := by
  by_cases hbad : idxL kN ((split3 s.data.toList).getD 0 []) < 0 ∨ (idxL kN ((split3 s.data.toList).getD 0 []) = 3 ∧ (split3 s.data.toList).length ≠ 2) ∨ (idxL kN ((split3 s.data.toList).getD 0 []) < 3 ∧ (split3 s.data.toList).length ≠ 3)
  · have h : recOf s.data.toList = (zeroRec, 1) := by unfold recOf; rw [if_pos hbad]
    refine (recRead_bad s hs60 w he hbad).mono fun e w' ⟨h1, h2⟩ => ⟨.agg #[.int .i64 0, .int .i64 0, .int .i64 0, .slice none 0 0, .int .i64 0], by rw [h1, h], by rw [h]; exact recNew_zero _ _, h2⟩
  · have hk2 := idxL_lt kN ((split3 s.data.toList).getD 0 [])
    have hk3 : kN.length = 4 := rfl
    rw [hk3] at hk2
    have hc : (idxL kN ((split3 s.data.toList).getD 0 []) = 0 ∧ (split3 s.data.toList).length = 3) ∨ (idxL kN ((split3 s.data.toList).getD 0 []) = 1 ∧ (split3 s.data.toList).length = 3) ∨ (idxL kN ((split3 s.data.toList).getD 0 []) = 2 ∧ (split3 s.data.toList).length = 3) ∨ (idxL kN ((split3 s.data.toList).getD 0 []) = 3 ∧ (split3 s.data.toList).length = 2) := by omega
    rcases hc with ⟨a, b⟩ | ⟨a, b⟩ | ⟨a, b⟩ | ⟨a, b⟩
    · exact recRead_pol1 s hs60 w he a b
    · exact recRead_pol2 s hs60 w he a b
    · exact recRead_fork s hs60 w he a b
    · exact recRead_shut s hs60 w he a b
theorem recRead_any (s : ByteArray) (hs60 : s.size ≤ 60000) (w : World) (he : EnvT w) :
    Calls Tryz.prog 18 #[.string s] w fun e w' => ∃ v, e = .returned (.tuple #[v, .int .i64 (recOf s.data.toList).2]) ∧ RecAt w'.heap.size w' v (recOf s.data.toList).1 ∧ Below w.heap.size w w' := (recRead_new s hs60 w he).mono fun e w' ⟨v, h1, h2, h3⟩ => ⟨v, h1, h2.at, h3⟩
end Go.Proofs.YthpllmhnpbigiacGreatDoor
end
section
/- What the program's own note.Parse says of any text. -/
set_option linter.all false
set_option maxRecDepth 100000
namespace Go.Proofs.YthpllmhnpbigiacGreatDoor
open Go.RowKit Go.Maps

set_option maxHeartbeats 4000000 in
theorem parseN_any (s : ByteArray) (w : World) (he : EnvT w) :
    Calls Tryz.prog 12 #[.string s] w fun e w' => ∃ v, e = .returned (.tuple #[v, .int .i64 (recParse s.data.toList).2]) ∧ RecAt w'.heap.size w' v (recParse s.data.toList).1 ∧ Below w.heap.size w w' := by
  have hsz := Lib.size_eq s
  obtain ⟨W0, hW0⟩ : ∃ W0, W0 = w.alloc (.cells #[.int .i64 0, .int .i64 0, .int .i64 0, .slice none 0 0, .int .i64 0] 38) := ⟨_, rfl⟩
  have g0 : W0.heap[w.heap.size]? = some (.cells #[.int .i64 0, .int .i64 0, .int .i64 0, .slice none 0 0, .int .i64 0] 38 (0, 0)) := by rw [hW0]; exact heap_made _ _
  have bw0 : Below w.heap.size w W0 := by rw [hW0]; exact (Below.refl _ _).alloc (Nat.le_refl _) _
  have HG : Hid (∀ w', Below W0.heap.size W0 w' → w'.heap[w.heap.size]? = some (.cells #[.int .i64 0, .int .i64 0, .int .i64 0, .slice none 0 0, .int .i64 0] 38 (0, 0)) ∧ Below w.heap.size w w') := fun w' h => ⟨(h.block _ (lt_of_block g0)).trans g0, Below.thenOf bw0 h bw0.size⟩
  have HW : Hid (W0 = _) := hW0
  by_cases hlong : 60000 < s.size
  · have HRes : Hid (recParse s.data.toList = (zeroRec, 2)) := by unfold Hid recParse; rw [if_pos (by omega)]
    have hl : (60000 : Int) < (s.size : Int) := by omega
    have hbW : Below w.heap.size w (w.alloc (.cells #[.int .i64 0, .int .i64 0, .int .i64 0, .slice none 0 0, .int .i64 0] 38)) := (Below.refl _ _).alloc (Nat.le_refl _) _
    have gW := heap_made w (.cells #[.int .i64 0, .int .i64 0, .int .i64 0, .slice none 0 0, .int .i64 0] 38)
    obtain ⟨z0, z1, z2, z3, z4⟩ := rec_box gW
    clear hsz hlong he hW0 g0 bw0 HW HG gW
    go_enter Tryz.func12, Tryz.ntmps12
    go_wp2
    refine bodyPost_ret (v := .tuple #[.agg #[.int .i64 0, .int .i64 0, .int .i64 0, .slice none 0 0, .int .i64 0], .int .i64 2]) ?_ rfl ⟨_, by rw [HRes.out], by rw [HRes.out]; exact recAt_zero _ _, ?_⟩
    · rw [results_cell_tmp rfl]
      go_simp
    · exact hbW
  · have hl : ¬ ((60000 : Int) < (s.size : Int)) := by omega
    have HRd := readN_any s (by omega) W0 (he.later bw0)
    have HRd' : Hid _ := HRd
    have HRec : Hid (recParse s.data.toList = if (readP s.data.toList).2 = 0 then finRec (readP s.data.toList).1 else (zeroRec, (readP s.data.toList).2)) := by
      unfold Hid recParse
      rw [if_neg (by omega)]
      exact readP_of _
    clear hsz hlong he hW0 g0 bw0 HRd
    go_enter Tryz.func12, Tryz.ntmps12
    go_wp2_with fail
    rw [← HW.out]
    go_at_call 44
    refine Calls.mono HRd'.out ?_
    rintro e w1 ⟨v, rfl, hnew, b01⟩
    obtain ⟨RR, hRR⟩ : ∃ RR, RR = (readP s.data.toList).1 := ⟨_, rfl⟩
    obtain ⟨RE, hRE⟩ : ∃ RE, RE = (readP s.data.toList).2 := ⟨_, rfl⟩
    rw [← hRR] at hnew
    rw [← hRE] at ⊢
    rw [← hRR, ← hRE] at HRec
    clear hRR hRE HRd'
    have HNw : Hid (RecNew W0.heap.size w1 v RR) := hnew
    obtain ⟨a, c, rfl, -⟩ := hnew.at.shape
    obtain ⟨k, ce, fr, rs, d⟩ := RR
    simp only [] at *
    have HL : Hid (w.heap.size < W0.heap.size) := lt_of_block (HG.out W0 (Below.refl _ _)).1
    obtain ⟨n, hn⟩ : ∃ n, n = rs.length := ⟨_, rfl⟩
    rw [← hn] at HNw ⊢
    clear hn hnew
    obtain ⟨W2, hW2⟩ : ∃ W2, W2 = w1.alloc (.cells #[.int .i64 k, .int .i64 ce, .int .i64 fr, .slice a n c, .int .i64 d] 38) := ⟨_, rfl⟩
    have b12 : Below w1.heap.size w1 W2 := by rw [hW2]; exact (Below.refl _ _).alloc (Nat.le_refl _) _
    have g2 : W2.heap[w1.heap.size]? = some (.cells #[.int .i64 k, .int .i64 ce, .int .i64 fr, .slice a n c, .int .i64 d] 38 (0, 0)) := by rw [hW2]; exact heap_made _ _
    have b02 := Below.thenOf b01 b12 b01.size
    have HR2 : Hid (∀ w', Below W2.heap.size W2 w' → w'.heap[w1.heap.size]? = some (.cells #[.int .i64 k, .int .i64 ce, .int .i64 fr, .slice a n c, .int .i64 d] 38 (0, 0)) ∧ Below W0.heap.size W0 w' ∧ Below w1.heap.size w1 w') := fun w' h => ⟨(h.block _ (lt_of_block g2)).trans g2, Below.thenOf b02 h b02.size, Below.thenOf b12 h b12.size⟩
    have hne : ¬ w.heap.size = w1.heap.size := by have := lt_of_block (HG.out w1 b01).1; omega
    have HRA : Hid (∀ wF, (∀ g, W0.heap.size ≤ g → g < w1.heap.size → wF.heap[g]? = w1.heap[g]?) → w1.heap.size ≤ wF.heap.size → RecAt wF.heap.size wF (.agg #[.int .i64 k, .int .i64 ce, .int .i64 fr, .slice a n c, .int .i64 d]) (k, ce, fr, rs, d)) := HNw.out
    have HCk : Hid (Calls Tryz.prog 15 #[.agg #[.int .i64 k, .int .i64 ce, .int .i64 fr, .slice a n c, .int .i64 d]] W2 fun e w' => e = .returned (.int .i64 (recErr (k, ce, fr, rs, d))) ∧ Below W2.heap.size W2 w') := checkN_any _ _ (k, ce, fr, rs, d) W2 (HRA.out W2 (fun g _ hl => b12.block g hl) b12.size) (Nat.le_refl _)
    have HW2 : Hid (W2 = _) := hW2
    have HFin : Hid (finRec (k, ce, fr, rs, d) = if recErr (k, ce, fr, rs, d) = 0 then ((k, ce, fr, rs, d), 0) else (zeroRec, recErr (k, ce, fr, rs, d))) := rfl
    obtain ⟨q0, q1, q2, q3, q4⟩ := rec_box g2
    have l2 := lt_of_block g2
    generalize recErr (k, ce, fr, rs, d) = E at *
    by_cases hE0 : RE = 0
    · have HRes : Hid (recParse s.data.toList = if E = 0 then ((k, ce, fr, rs, d), 0) else (zeroRec, E)) := by unfold Hid; rw [HRec.out, if_pos hE0, HFin.out]
      subst hE0
      clear hW2 b12 g2 b01 b02 HRec HFin
      go_wp2_with fail
      rw [← HW2.out]
      go_at_call 15
      refine Calls.mono HCk.out ?_
      rintro e w3 ⟨rfl, b23⟩
      obtain ⟨g3, b0b, b13⟩ := HR2.out w3 b23
      obtain ⟨r0, r1, r2, r3, r4⟩ := rec_box g3
      have l3 := lt_of_block g3
      have B13 : Hid (Below w1.heap.size w1 w3) := b13
      obtain ⟨gb, bwb⟩ := HG.out w3 b0b
      have lb := lt_of_block gb
      obtain ⟨z0, z1, z2, z3, z4⟩ := rec_box gb
      have f0 : w3.frozen? ⟨w.heap.size, 0, none⟩ = false := by simp [World.frozen?, gb]
      have f1 : w3.frozen? ⟨w.heap.size, 1, none⟩ = false := by simp [World.frozen?, gb]
      have f2 : w3.frozen? ⟨w.heap.size, 2, none⟩ = false := by simp [World.frozen?, gb]
      have f3 : w3.frozen? ⟨w.heap.size, 3, none⟩ = false := by simp [World.frozen?, gb]
      have f4 : w3.frozen? ⟨w.heap.size, 4, none⟩ = false := by simp [World.frozen?, gb]
      have Bwb : Hid (Below w.heap.size w w3) := bwb
      clear gb bwb b0b g3 b13 b23 HW2 HCk HR2 q0 q1 q2 q3 q4 l2
      by_cases hz : E = 0
      · have HR : Hid (recParse s.data.toList = ((k, ce, fr, rs, d), 0)) := by unfold Hid; rw [HRes.out, if_pos hz]
        subst hz
        go_wp2_with fail
        refine bodyPost_ret (v := .tuple #[.agg #[.int .i64 k, .int .i64 ce, .int .i64 fr, .slice a n c, .int .i64 d], .int .i64 0]) ?_ rfl ⟨_, by rw [HR.out], by rw [HR.out]; have hL := HL.out; exact HRA.out _ (fun g h1 h2 => ((((Below.heap_setCell _ _ _ _ (by show g ≠ w.heap.size; omega)).trans (Below.heap_setCell _ _ _ _ (by show g ≠ w.heap.size; omega))).trans (Below.heap_setCell _ _ _ _ (by show g ≠ w.heap.size; omega))).trans (Below.heap_setCell _ _ _ _ (by show g ≠ w.heap.size; omega))).trans ((Below.heap_setCell _ _ _ _ (by show g ≠ w.heap.size; omega)).trans (B13.out.block g h2))) (by simp; exact B13.out.size), ?_⟩
        · rw [results_cell_tmp rfl]
          go_simp
        · exact ((((Bwb.out.setCell (p := ⟨w.heap.size, 0, none⟩) (Nat.le_refl _) _).setCell (p := ⟨w.heap.size, 1, none⟩) (Nat.le_refl _) _).setCell (p := ⟨w.heap.size, 2, none⟩) (Nat.le_refl _) _).setCell (p := ⟨w.heap.size, 3, none⟩) (Nat.le_refl _) _).setCell (p := ⟨w.heap.size, 4, none⟩) (Nat.le_refl _) _
      · have HR : Hid (recParse s.data.toList = (zeroRec, E)) := by unfold Hid; rw [HRes.out, if_neg hz]
        have hq : (E != 0) = true := by simpa using hz
        clear hz
        go_wp2_with fail
        refine bodyPost_ret (v := .tuple #[.agg #[.int .i64 0, .int .i64 0, .int .i64 0, .slice none 0 0, .int .i64 0], .int .i64 E]) ?_ rfl ⟨_, by rw [HR.out], by rw [HR.out]; exact recAt_zero _ _, ?_⟩
        · rw [results_cell_tmp rfl]
          go_simp
        · exact ((((Bwb.out.setCell (p := ⟨w.heap.size, 0, none⟩) (Nat.le_refl _) _).setCell (p := ⟨w.heap.size, 1, none⟩) (Nat.le_refl _) _).setCell (p := ⟨w.heap.size, 2, none⟩) (Nat.le_refl _) _).setCell (p := ⟨w.heap.size, 3, none⟩) (Nat.le_refl _) _).setCell (p := ⟨w.heap.size, 4, none⟩) (Nat.le_refl _) _
    · have HRes : Hid (recParse s.data.toList = (zeroRec, RE)) := by unfold Hid; rw [HRec.out, if_neg hE0]
      have hq : (RE != 0) = true := by simpa using hE0
      have hq2 : (RE == 0) = false := by simpa using hE0
      obtain ⟨gb, bwb⟩ := HG.out w1 b01
      have lb := lt_of_block gb
      obtain ⟨z0, z1, z2, z3, z4⟩ := rec_box gb
      have f0 : w1.frozen? ⟨w.heap.size, 0, none⟩ = false := by simp [World.frozen?, gb]
      have f1 : w1.frozen? ⟨w.heap.size, 1, none⟩ = false := by simp [World.frozen?, gb]
      have f2 : w1.frozen? ⟨w.heap.size, 2, none⟩ = false := by simp [World.frozen?, gb]
      have f3 : w1.frozen? ⟨w.heap.size, 3, none⟩ = false := by simp [World.frozen?, gb]
      have f4 : w1.frozen? ⟨w.heap.size, 4, none⟩ = false := by simp [World.frozen?, gb]
      have Bwb : Hid (Below w.heap.size w w1) := bwb
      clear hW2 b12 g2 b01 b02 HRec HFin gb bwb HR2 HCk HRA hE0 q0 q1 q2 q3 q4 l2
      go_wp2_with fail
      refine bodyPost_ret (v := .tuple #[.agg #[.int .i64 0, .int .i64 0, .int .i64 0, .slice none 0 0, .int .i64 0], .int .i64 RE]) ?_ rfl ⟨_, by rw [HRes.out], by rw [HRes.out]; exact recAt_zero _ _, ?_⟩
      · rw [results_cell_tmp rfl]
        go_simp
      · exact (((((Bwb.out.setCell (p := ⟨w.heap.size, 0, none⟩) (Nat.le_refl _) _).setCell (p := ⟨w.heap.size, 1, none⟩) (Nat.le_refl _) _).setCell (p := ⟨w.heap.size, 2, none⟩) (Nat.le_refl _) _).setCell (p := ⟨w.heap.size, 3, none⟩) (Nat.le_refl _) _).setCell (p := ⟨w.heap.size, 4, none⟩) (Nat.le_refl _) _).alloc (by simp; exact Bwb.out.size) _


end Go.Proofs.YthpllmhnpbigiacGreatDoor
end
section
/- The closed fact: noted() is true. -/
set_option linter.all false
set_option maxRecDepth 100000
namespace Go.Proofs.YthpllmhnpbigiacGreatDoor
open Go.RowKit Go.Maps

def tightS : ByteArray := ⟨#[116, 105, 103, 104, 116, 32, 50, 32, 107, 105, 108, 108, 32, 110, 114, 61, 51, 32, 97, 60, 53, 59, 108, 111, 103, 32, 107, 105, 110, 100, 33, 48, 59, 97, 108, 108, 111, 119]⟩
theorem tight_ok : recErr (2, 2, 0, madeP) = 0 := by decide +kernel
theorem tight_text : bsB (recText (2, 2, 0, madeP)) = tightS := by decide +kernel
theorem tight_print : bsB (printT (2, 2, 0, madeP)) = tightS := by unfold printT; rw [if_pos tight_ok]; exact tight_text
theorem tight_list : tightS.data.toList = recText (2, 2, 0, madeP) := by rw [← tight_text]; simp [bsB]
theorem tight_parse : recParse tightS.data.toList = ((2, 2, 0, madeP), 0) := by
  rw [tight_list]
  exact recParse_text tight_ok (by rw [← tight_list]; decide)
theorem fork_ok : recErr (3, 1, 2, [], 0) = 0 := by decide
theorem fork_print : bsB (printT (3, 1, 2, [], 0)) = ⟨#[102, 111, 114, 107, 32, 49, 32, 50]⟩ := by decide +kernel
theorem polAt_wide {B B' : Nat} {w : World} {v : Value} {p : PolT} (h : PolAt B w v p) (hB : B ≤ B') : PolAt B' w v p := by
  obtain ⟨rv, h1, h2, a, cap, h3, h4, h5, h6⟩ := h
  refine ⟨rv, h1, h2, a, cap, h3, h4, h5, fun i r hr => ?_⟩
  obtain ⟨b, o, k1, k2, cv, k3, k4, k5, a', cap', k6, k7, k8, k9⟩ := h6 i r hr
  refine ⟨b, o, k1, by omega, cv, k3, k4, k5, a', cap', k6, k7, k8, fun j c hc => ?_⟩
  obtain ⟨b', o', m1, m2, m3⟩ := k9 j c hc
  exact ⟨b', o', m1, by omega, m3⟩

def JNd (W : World) (fs : Nat → Value → Prop) (w : World) : Prop := Below W.heap.size W w ∧ ∀ v, fs 26 v → PolAt w.heap.size w v madeP
def SNd (k : Nat) (v : Value) : Prop := if k = 26 then ∃ a cap, v = .agg #[.slice a 2 cap, .int .i64 4] else v = .bool true
theorem sNd_some (k : Nat) : ∃ v, SNd k v := by
  unfold SNd
  split
  · exact ⟨_, none, 0, rfl⟩
  · exact ⟨_, rfl⟩

set_option maxHeartbeats 8000000 in
theorem noted_true (w : World) (he : EnvT w) : Calls Tryz.prog 14 #[] w fun e w' => e = .returned (.bool true) ∧ Below w.heap.size w w' := by
  have HM : Hid (∀ w', Below w.heap.size w w' → Calls Tryz.prog 24 #[] w' fun e w'' => ∃ a cap, e = .returned (.agg #[.slice a 2 cap, .int .i64 4]) ∧ PolAt w''.heap.size w'' (.agg #[.slice a 2 cap, .int .i64 4]) madeP ∧ Below w'.heap.size w' w'') := fun w' h => (made_any w' (he.later h).1).mono fun e w'' ⟨pv, h1, h2, h3⟩ => by
    have h4 := h2.at
    obtain ⟨rv, e1, hd, a, cap, e2, hr⟩ := id h4
    refine ⟨a, cap, ?_, ?_, h3⟩
    · rw [h1, e1, e2]; rfl
    · rw [e1, e2] at h4; exact h4
  have HP1 : Hid (∀ w' a cap, Below w.heap.size w w' → PolAt w'.heap.size w' (.agg #[.slice a 2 cap, .int .i64 4]) madeP → Calls Tryz.prog 11 #[.agg #[.int .i64 2, .int .i64 2, .int .i64 0, .slice a 2 cap, .int .i64 4]] w' fun e w'' => e = .returned (.tuple #[.string ⟨#[116, 105, 103, 104, 116, 32, 50, 32, 107, 105, 108, 108, 32, 110, 114, 61, 51, 32, 97, 60, 53, 59, 108, 111, 103, 32, 107, 105, 110, 100, 33, 48, 59, 97, 108, 108, 111, 119]⟩, .int .i64 0]) ∧ Below w'.heap.size w' w'') := fun w' a cap h hp => by
    have := printN_any w'.heap.size _ (2, 2, 0, madeP) w' (he.later h) ⟨_, rfl, (by unfold wf; decide), (by unfold wf; decide), (by unfold wf; decide), hp⟩ (Nat.le_refl _)
    rw [tight_print, tight_ok] at this
    exact this
  have HP2 : Hid (∀ w', Below w.heap.size w w' → Calls Tryz.prog 11 #[.agg #[.int .i64 3, .int .i64 1, .int .i64 2, .slice none 0 0, .int .i64 0]] w' fun e w'' => e = .returned (.tuple #[.string ⟨#[102, 111, 114, 107, 32, 49, 32, 50]⟩, .int .i64 0]) ∧ Below w'.heap.size w' w'') := fun w' h => by
    have := printN_any w'.heap.size _ (3, 1, 2, [], 0) w' (he.later h) ⟨_, rfl, (by unfold wf; decide), (by unfold wf; decide), (by unfold wf; decide), polAt_zero _ _⟩ (Nat.le_refl _)
    rw [fork_print, fork_ok] at this
    exact this
  have HPa : Hid (∀ w', Below w.heap.size w w' → Calls Tryz.prog 12 #[.string ⟨#[116, 105, 103, 104, 116, 32, 50, 32, 107, 105, 108, 108, 32, 110, 114, 61, 51, 32, 97, 60, 53, 59, 108, 111, 103, 32, 107, 105, 110, 100, 33, 48, 59, 97, 108, 108, 111, 119]⟩] w' fun e w'' => ∃ a cap, e = .returned (.tuple #[.agg #[.int .i64 2, .int .i64 2, .int .i64 0, .slice a 2 cap, .int .i64 4], .int .i64 0]) ∧ PolAt w''.heap.size w'' (.agg #[.slice a 2 cap, .int .i64 4]) madeP ∧ Below w'.heap.size w' w'') := fun w' h => by
    have := parseN_any tightS w' (he.later h)
    rw [tight_parse] at this
    refine this.mono fun e w'' ⟨v, h1, h2, h3⟩ => ?_
    obtain ⟨a, c, e1, hp⟩ := h2.shape
    exact ⟨a, c, by rw [h1, e1]; rfl, hp, h3⟩
  have HS : Hid (∀ w' pv qv, PolAt w'.heap.size w' pv madeP → PolAt w'.heap.size w' qv madeP → Calls Tryz.prog 47 #[pv, qv] w' fun e w'' => e = .returned (.bool true) ∧ Below w'.heap.size w' w'') := fun w' pv qv h1 h2 => by
    have := same_any w'.heap.size pv qv madeP madeP w' h1 h2 (Nat.le_refl _)
    simpa using this
  clear he
  go_enter Tryz.func14, Tryz.ntmps14
  go_wp2_with fail
  go_at_call 24
  refine Calls.mono (HM.out w (Below.refl _ _)) ?_
  rintro e w1 ⟨a1, c1, rfl, hp1, hb1⟩
  have HPl1 : Hid _ := hp1
  clear hp1
  go_wp2_with fail
  go_at_call 11
  refine Calls.mono (HP1.out w1 a1 c1 hb1 HPl1.out) ?_
  rintro e w2 ⟨rfl, hb2⟩
  have hbw2 : Below w.heap.size w w2 := Below.thenOf hb1 hb2 hb1.size
  go_wp2_with fail
  go_at_call 11
  refine Calls.mono (HP2.out w2 hbw2) ?_
  rintro e w3 ⟨rfl, hb3⟩
  have hbw3 : Below w.heap.size w w3 := Below.thenOf hbw2 hb3 hbw2.size
  go_wp2_with fail
  go_at_call 12
  refine Calls.mono (HPa.out w3 hbw3) ?_
  rintro e w4 ⟨a4, c4, rfl, hp4, hb4⟩
  have hbw4 : Below w.heap.size w w4 := Below.thenOf hbw3 hb4 hbw3.size
  obtain ⟨W5, hW5⟩ : ∃ W5, W5 = w4.alloc (.cells #[.int .i64 2, .int .i64 2, .int .i64 0, .slice a4 2 c4, .int .i64 4] 38) := ⟨_, rfl⟩
  have hb5 : Below w4.heap.size w4 W5 := by rw [hW5]; exact (Below.refl _ _).alloc (Nat.le_refl _) _
  have g5 : W5.heap[w4.heap.size]? = some (.cells #[.int .i64 2, .int .i64 2, .int .i64 0, .slice a4 2 c4, .int .i64 4] 38 (0, 0)) := by rw [hW5]; exact heap_made _ _
  have hbw5 : Below w.heap.size w W5 := Below.thenOf hbw4 hb5 hbw4.size
  have HP5 : Hid (∀ w', Below W5.heap.size W5 w' → PolAt w'.heap.size w' (.agg #[.slice a4 2 c4, .int .i64 4]) madeP) := fun w' h => polAt_wide (hp4.later (Below.thenOf hb5 h hb5.size) (Nat.le_refl _)) (Nat.le_trans hb5.size h.size)
  have HW5 : Hid (W5 = _) := hW5
  have HBw5 : Hid (Below w.heap.size w W5) := hbw5
  have hne := Later.ne W5
  have hDJ : Hid (∀ fs w', JNd W5 fs w' → ∃ z : Later W5, w' = z.1) := fun fs w' h => ⟨⟨w', h.1⟩, rfl⟩
  have q1 : ∀ z : Later W5, z.1.cell? ⟨w4.heap.size, 1, none⟩ = some (.int .i64 2) := fun z => z.cell (heap_cell g5 1 rfl) (lt_of_block g5)
  have q3 : ∀ z : Later W5, z.1.cell? ⟨w4.heap.size, 3, none⟩ = some (.slice a4 2 c4) := fun z => z.cell (heap_cell g5 3 rfl) (lt_of_block g5)
  have q4 : ∀ z : Later W5, z.1.cell? ⟨w4.heap.size, 4, none⟩ = some (.int .i64 4) := fun z => z.cell (heap_cell g5 4 rfl) (lt_of_block g5)
  clear hW5 hb5 g5 hbw5 hp4 hb1 hb2 hb3 hb4 hbw2 hbw3 hbw4 HP1 HP2 HPa
  go_wp2_with fail
  rw [← HW5.out]
  refine wp_region_all (fun k => k == 26 || k == 27) (JNd W5) SNd sNd_some (by kernel_rfl) (by kernel_rfl) ⟨(Below.refl _ _).drew, fun _ h => h.elim⟩ ?_
  iterate 26 (refine wpG_read hDJ.out rfl rfl ?_; go_big_quiet_step (fail); refine wpQuiet_nil ?_)
  refine wpG_call 24 #[] rfl rfl (fun w' => by kernel_rfl) (fun gs w' hJ hdep hno => ?_) (fun v1 hv1 => ?_)
  · refine (HM.out w' (Below.thenOf HBw5.out hJ.1 HBw5.out.size)).mono ?_
    rintro e w7 ⟨a7, c7, rfl, hq7, hb7⟩
    refine ⟨_, rfl, ⟨a7, c7, rfl⟩, Below.thenOf hJ.1 hb7 hJ.1.size, fun v hv => ?_⟩
    rcases hv with hv | ⟨_, rfl⟩
    · exact absurd hv (hno v)
    · exact hq7
  simp only [Act.put, List.setIfInBounds_toArray, List.set_cons_succ, List.set_cons_zero]
  obtain ⟨a7, cap7, rfl⟩ : ∃ a cap, v1 = .agg #[.slice a 2 cap, .int .i64 4] := hv1
  refine wpG_call 47 #[.agg #[.slice a4 2 c4, .int .i64 4], .agg #[.slice a7 2 cap7, .int .i64 4]] rfl rfl (fun w' => by kernel_rfl) (fun gs w' hJ hdep hno => ?_) (fun v2 hv2 => ?_)
  · refine (HS.out w' _ _ (HP5.out w' hJ.1) (hJ.2 _ (hdep 26 _ (.inr ⟨rfl, rfl⟩) (waitsB_spec (by kernel_rfl))))).mono ?_
    rintro e w8 ⟨rfl, hb8⟩
    refine ⟨_, rfl, rfl, Below.thenOf hJ.1 hb8 hJ.1.size, fun v hv => ?_⟩
    rcases hv with hv | ⟨e, _⟩
    · exact polAt_wide ((hJ.2 v hv).later hb8 (Nat.le_refl _)) hb8.size
    · cases e
  simp only [Act.put, List.setIfInBounds_toArray, List.set_cons_succ, List.set_cons_zero]
  obtain rfl : v2 = .bool true := hv2
  iterate 2 (refine wpG_read hDJ.out rfl rfl ?_; go_big_quiet_step (fail); refine wpQuiet_nil ?_)
  refine wpG_nil ?_
  intro w9 hJ9
  have hbw9 : Below w.heap.size w w9 := Below.thenOf HBw5.out hJ9.1 HBw5.out.size
  clear hJ9 q1 q3 q4 hDJ hne
  go_wp2_with fail
  go_ret
  exact ⟨rfl, hbw9⟩

end Go.Proofs.YthpllmhnpbigiacGreatDoor
end
