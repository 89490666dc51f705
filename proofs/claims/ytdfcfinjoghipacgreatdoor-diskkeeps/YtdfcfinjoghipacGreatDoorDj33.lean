/- Joined: NtD4 NtD Dsk4. -/
import Derived.Test.YtdfcfinjoghipacGreatDoorDj31
import Derived.Test.YtdfcfinjoghipacGreatDoorDj32
import Derived.Test.YtdfcfinjoghipacGreatDoorDj30
import Derived.Test.YtdfcfinjoghipacGreatDoorDj23
import Derived.Test.YtdfcfinjoghipacGreatDoorDj24
section
/- What the program's own note.read says of any text. -/
set_option linter.all false
set_option maxRecDepth 100000
namespace Go.Proofs.YtdfcfinjoghipacGreatDoor
open Go.RowKit Go.Maps

theorem readN_any (s : ByteArray) (hs60 : s.size ≤ 60000) (w : World) (he : EnvT w) : ReadSays s w := by
  by_cases hbad : idxL kN ((split3 s.data.toList).getD 0 []) < 0 ∨ (idxL kN ((split3 s.data.toList).getD 0 []) = 3 ∧ (split3 s.data.toList).length ≠ 2) ∨ (idxL kN ((split3 s.data.toList).getD 0 []) < 3 ∧ (split3 s.data.toList).length ≠ 3)
  · exact readN_bad s hs60 w he hbad
  · have hlt := idx_lt ((split3 s.data.toList).getD 0 [])
    by_cases h3 : idxL kN ((split3 s.data.toList).getD 0 []) = 3
    · exact readN_shut s hs60 w he h3 (by omega)
    · by_cases h2 : idxL kN ((split3 s.data.toList).getD 0 []) = 2
      · exact readN_fork s hs60 w he h2 (by omega)
      · by_cases h1 : idxL kN ((split3 s.data.toList).getD 0 []) = 1
        · exact readN_pol2 s hs60 w he h1 (by omega)
        · exact readN_pol1 s hs60 w he (by omega) (by omega)

end Go.Proofs.YtdfcfinjoghipacGreatDoor
end
section
/- What the program's own note.Parse says of any text. -/
set_option linter.all false
set_option maxRecDepth 100000
namespace Go.Proofs.YtdfcfinjoghipacGreatDoor
open Go.RowKit Go.Maps

set_option maxHeartbeats 4000000 in
theorem parseN_new (s : ByteArray) (w : World) (he : EnvT w) :
    Calls Tryz.prog 14 #[.string s] w fun e w' => ∃ v, e = .returned (.tuple #[v, .int .i64 (recParse s.data.toList).2]) ∧ RecNew w.heap.size w' v (recParse s.data.toList).1 ∧ Below w.heap.size w w' := by
  have hsz := Lib.size_eq s
  obtain ⟨W0, hW0⟩ : ∃ W0, W0 = w.alloc (.cells #[.int .i64 0, .int .i64 0, .int .i64 0, .slice none 0 0, .int .i64 0] 38) := ⟨_, rfl⟩
  have g0 : W0.heap[w.heap.size]? = some (.cells #[.int .i64 0, .int .i64 0, .int .i64 0, .slice none 0 0, .int .i64 0] 38 (0, 0)) := by rw [hW0]; exact heap_made _ _
  have bw0 : Below w.heap.size w W0 := by rw [hW0]; exact (Below.refl _ _).alloc (Nat.le_refl _) _
  have HG : Hid (∀ w', Below W0.heap.size W0 w' → w'.heap[w.heap.size]? = some (.cells #[.int .i64 0, .int .i64 0, .int .i64 0, .slice none 0 0, .int .i64 0] 38 (0, 0)) ∧ Below w.heap.size w w') := fun w' h => ⟨(h.block _ (lt_of_block g0)).trans g0, Below.thenOf bw0 h bw0.size⟩
  have HW : Hid (W0 = _) := hW0
  by_cases hlong : 60000 < s.size
  · have HRes : Hid (recParse s.data.toList = (zeroRec, 2)) := by unfold Hid recParse; rw [if_pos (by omega)]
    have hl : (60000 : Int) < (s.size : Int) := by omega
    have hbW : Below w.heap.size w (w.alloc (.cells #[.int .i64 0, .int .i64 0, .int .i64 0, .slice none 0 0, .int .i64 0] 38)) := (Below.refl _ _).alloc (Nat.le_refl _) _
    have gW := heap_made w (.cells #[.int .i64 0, .int .i64 0, .int .i64 0, .slice none 0 0, .int .i64 0] 38)
    obtain ⟨z0, z1, z2, z3, z4⟩ := rec_box gW
    clear hsz hlong he hW0 g0 bw0 HW HG gW
    go_enter Tryz.func14, Tryz.ntmps14
    go_wp2
    refine bodyPost_ret (v := .tuple #[.agg #[.int .i64 0, .int .i64 0, .int .i64 0, .slice none 0 0, .int .i64 0], .int .i64 2]) ?_ rfl ⟨_, by rw [HRes.out], by rw [HRes.out]; exact recNew_zero _ _, ?_⟩
    · rw [results_cell_tmp rfl]
      go_simp
    · exact hbW
  · have hl : ¬ ((60000 : Int) < (s.size : Int)) := by omega
    have HRd := readN_any s (by omega) W0 (he.later bw0)
    have HRd' : Hid _ := HRd
    have HRec : Hid (recParse s.data.toList = if (readP s.data.toList).2 = 0 then finRec (readP s.data.toList).1 else (zeroRec, (readP s.data.toList).2)) := by
      unfold Hid recParse
      rw [if_neg (by omega)]
      exact readP_of _
    clear hsz hlong he hW0 g0 bw0 HRd
    go_enter Tryz.func14, Tryz.ntmps14
    go_wp2_with fail
    rw [← HW.out]
    go_at_call 61
    refine Calls.mono HRd'.out ?_
    rintro e w1 ⟨v, rfl, hnew, b01⟩
    obtain ⟨RR, hRR⟩ : ∃ RR, RR = (readP s.data.toList).1 := ⟨_, rfl⟩
    obtain ⟨RE, hRE⟩ : ∃ RE, RE = (readP s.data.toList).2 := ⟨_, rfl⟩
    rw [← hRR] at hnew
    rw [← hRE] at ⊢
    rw [← hRR, ← hRE] at HRec
    clear hRR hRE HRd'
    have HNw : Hid (RecNew W0.heap.size w1 v RR) := hnew
    obtain ⟨a, c, rfl, -⟩ := hnew.at.shape
    obtain ⟨k, ce, fr, rs, d⟩ := RR
    simp only [] at *
    have HL : Hid (w.heap.size < W0.heap.size) := lt_of_block (HG.out W0 (Below.refl _ _)).1
    obtain ⟨n, hn⟩ : ∃ n, n = rs.length := ⟨_, rfl⟩
    rw [← hn] at HNw ⊢
    clear hn hnew
    obtain ⟨W2, hW2⟩ : ∃ W2, W2 = w1.alloc (.cells #[.int .i64 k, .int .i64 ce, .int .i64 fr, .slice a n c, .int .i64 d] 38) := ⟨_, rfl⟩
    have b12 : Below w1.heap.size w1 W2 := by rw [hW2]; exact (Below.refl _ _).alloc (Nat.le_refl _) _
    have g2 : W2.heap[w1.heap.size]? = some (.cells #[.int .i64 k, .int .i64 ce, .int .i64 fr, .slice a n c, .int .i64 d] 38 (0, 0)) := by rw [hW2]; exact heap_made _ _
    have b02 := Below.thenOf b01 b12 b01.size
    have HR2 : Hid (∀ w', Below W2.heap.size W2 w' → w'.heap[w1.heap.size]? = some (.cells #[.int .i64 k, .int .i64 ce, .int .i64 fr, .slice a n c, .int .i64 d] 38 (0, 0)) ∧ Below W0.heap.size W0 w' ∧ Below w1.heap.size w1 w') := fun w' h => ⟨(h.block _ (lt_of_block g2)).trans g2, Below.thenOf b02 h b02.size, Below.thenOf b12 h b12.size⟩
    have hne : ¬ w.heap.size = w1.heap.size := by have := lt_of_block (HG.out w1 b01).1; omega
    have HRA : Hid (∀ wF, (∀ g, W0.heap.size ≤ g → g < w1.heap.size → wF.heap[g]? = w1.heap[g]?) → w1.heap.size ≤ wF.heap.size → RecAt wF.heap.size wF (.agg #[.int .i64 k, .int .i64 ce, .int .i64 fr, .slice a n c, .int .i64 d]) (k, ce, fr, rs, d)) := HNw.out
    have HCk : Hid (Calls Tryz.prog 17 #[.agg #[.int .i64 k, .int .i64 ce, .int .i64 fr, .slice a n c, .int .i64 d]] W2 fun e w' => e = .returned (.int .i64 (recErr (k, ce, fr, rs, d))) ∧ Below W2.heap.size W2 w') := checkN_any _ _ (k, ce, fr, rs, d) W2 (HRA.out W2 (fun g _ hl => b12.block g hl) b12.size) (Nat.le_refl _)
    have HW2 : Hid (W2 = _) := hW2
    have HFin : Hid (finRec (k, ce, fr, rs, d) = if recErr (k, ce, fr, rs, d) = 0 then ((k, ce, fr, rs, d), 0) else (zeroRec, recErr (k, ce, fr, rs, d))) := rfl
    obtain ⟨q0, q1, q2, q3, q4⟩ := rec_box g2
    have l2 := lt_of_block g2
    generalize recErr (k, ce, fr, rs, d) = E at *
    by_cases hE0 : RE = 0
    · have HRes : Hid (recParse s.data.toList = if E = 0 then ((k, ce, fr, rs, d), 0) else (zeroRec, E)) := by unfold Hid; rw [HRec.out, if_pos hE0, HFin.out]
      subst hE0
      clear hW2 b12 g2 b01 b02 HRec HFin
      go_wp2_with fail
      rw [← HW2.out]
      go_at_call 17
      refine Calls.mono HCk.out ?_
      rintro e w3 ⟨rfl, b23⟩
      obtain ⟨g3, b0b, b13⟩ := HR2.out w3 b23
      obtain ⟨r0, r1, r2, r3, r4⟩ := rec_box g3
      have l3 := lt_of_block g3
      have B13 : Hid (Below w1.heap.size w1 w3) := b13
      obtain ⟨gb, bwb⟩ := HG.out w3 b0b
      have lb := lt_of_block gb
      obtain ⟨z0, z1, z2, z3, z4⟩ := rec_box gb
      have f0 : w3.frozen? ⟨w.heap.size, 0, none⟩ = false := by simp [World.frozen?, gb]
      have f1 : w3.frozen? ⟨w.heap.size, 1, none⟩ = false := by simp [World.frozen?, gb]
      have f2 : w3.frozen? ⟨w.heap.size, 2, none⟩ = false := by simp [World.frozen?, gb]
      have f3 : w3.frozen? ⟨w.heap.size, 3, none⟩ = false := by simp [World.frozen?, gb]
      have f4 : w3.frozen? ⟨w.heap.size, 4, none⟩ = false := by simp [World.frozen?, gb]
      have Bwb : Hid (Below w.heap.size w w3) := bwb
      clear gb bwb b0b g3 b13 b23 HW2 HCk HR2 q0 q1 q2 q3 q4 l2
      by_cases hz : E = 0
      · have HR : Hid (recParse s.data.toList = ((k, ce, fr, rs, d), 0)) := by unfold Hid; rw [HRes.out, if_pos hz]
        subst hz
        go_wp2_with fail
        refine bodyPost_ret (v := .tuple #[.agg #[.int .i64 k, .int .i64 ce, .int .i64 fr, .slice a n c, .int .i64 d], .int .i64 0]) ?_ rfl ⟨_, by rw [HR.out], by rw [HR.out]; have hL := HL.out; exact fun wF k1 k2 => HRA.out wF (fun g h1 h2 => (k1 g (by omega) (by simp; exact Nat.lt_of_lt_of_le h2 B13.out.size)).trans <| ((((Below.heap_setCell _ _ _ _ (by show g ≠ w.heap.size; omega)).trans (Below.heap_setCell _ _ _ _ (by show g ≠ w.heap.size; omega))).trans (Below.heap_setCell _ _ _ _ (by show g ≠ w.heap.size; omega))).trans (Below.heap_setCell _ _ _ _ (by show g ≠ w.heap.size; omega))).trans ((Below.heap_setCell _ _ _ _ (by show g ≠ w.heap.size; omega)).trans (B13.out.block g h2))) (Nat.le_trans (by simp; exact B13.out.size) k2), ?_⟩
        · rw [results_cell_tmp rfl]
          go_simp
        · exact ((((Bwb.out.setCell (p := ⟨w.heap.size, 0, none⟩) (Nat.le_refl _) _).setCell (p := ⟨w.heap.size, 1, none⟩) (Nat.le_refl _) _).setCell (p := ⟨w.heap.size, 2, none⟩) (Nat.le_refl _) _).setCell (p := ⟨w.heap.size, 3, none⟩) (Nat.le_refl _) _).setCell (p := ⟨w.heap.size, 4, none⟩) (Nat.le_refl _) _
      · have HR : Hid (recParse s.data.toList = (zeroRec, E)) := by unfold Hid; rw [HRes.out, if_neg hz]
        have hq : (E != 0) = true := by simpa using hz
        clear hz
        go_wp2_with fail
        refine bodyPost_ret (v := .tuple #[.agg #[.int .i64 0, .int .i64 0, .int .i64 0, .slice none 0 0, .int .i64 0], .int .i64 E]) ?_ rfl ⟨_, by rw [HR.out], by rw [HR.out]; exact recNew_zero _ _, ?_⟩
        · rw [results_cell_tmp rfl]
          go_simp
        · exact ((((Bwb.out.setCell (p := ⟨w.heap.size, 0, none⟩) (Nat.le_refl _) _).setCell (p := ⟨w.heap.size, 1, none⟩) (Nat.le_refl _) _).setCell (p := ⟨w.heap.size, 2, none⟩) (Nat.le_refl _) _).setCell (p := ⟨w.heap.size, 3, none⟩) (Nat.le_refl _) _).setCell (p := ⟨w.heap.size, 4, none⟩) (Nat.le_refl _) _
    · have HRes : Hid (recParse s.data.toList = (zeroRec, RE)) := by unfold Hid; rw [HRec.out, if_neg hE0]
      have hq : (RE != 0) = true := by simpa using hE0
      have hq2 : (RE == 0) = false := by simpa using hE0
      obtain ⟨gb, bwb⟩ := HG.out w1 b01
      have lb := lt_of_block gb
      obtain ⟨z0, z1, z2, z3, z4⟩ := rec_box gb
      have f0 : w1.frozen? ⟨w.heap.size, 0, none⟩ = false := by simp [World.frozen?, gb]
      have f1 : w1.frozen? ⟨w.heap.size, 1, none⟩ = false := by simp [World.frozen?, gb]
      have f2 : w1.frozen? ⟨w.heap.size, 2, none⟩ = false := by simp [World.frozen?, gb]
      have f3 : w1.frozen? ⟨w.heap.size, 3, none⟩ = false := by simp [World.frozen?, gb]
      have f4 : w1.frozen? ⟨w.heap.size, 4, none⟩ = false := by simp [World.frozen?, gb]
      have Bwb : Hid (Below w.heap.size w w1) := bwb
      clear hW2 b12 g2 b01 b02 HRec HFin gb bwb HR2 HCk HRA hE0 q0 q1 q2 q3 q4 l2
      go_wp2_with fail
      refine bodyPost_ret (v := .tuple #[.agg #[.int .i64 0, .int .i64 0, .int .i64 0, .slice none 0 0, .int .i64 0], .int .i64 RE]) ?_ rfl ⟨_, by rw [HRes.out], by rw [HRes.out]; exact recNew_zero _ _, ?_⟩
      · rw [results_cell_tmp rfl]
        go_simp
      · exact (((((Bwb.out.setCell (p := ⟨w.heap.size, 0, none⟩) (Nat.le_refl _) _).setCell (p := ⟨w.heap.size, 1, none⟩) (Nat.le_refl _) _).setCell (p := ⟨w.heap.size, 2, none⟩) (Nat.le_refl _) _).setCell (p := ⟨w.heap.size, 3, none⟩) (Nat.le_refl _) _).setCell (p := ⟨w.heap.size, 4, none⟩) (Nat.le_refl _) _).alloc (by simp; exact Bwb.out.size) _
theorem parseN_any (s : ByteArray) (w : World) (he : EnvT w) :
    Calls Tryz.prog 14 #[.string s] w fun e w' => ∃ v, e = .returned (.tuple #[v, .int .i64 (recParse s.data.toList).2]) ∧ RecAt w'.heap.size w' v (recParse s.data.toList).1 ∧ Below w.heap.size w w' := (parseN_new s w he).mono fun e w' ⟨v, h1, h2, h3⟩ => ⟨v, h1, h2.at, h3⟩
end Go.Proofs.YtdfcfinjoghipacGreatDoor
end
section
/- slices.Equal of bytes; the counterpart's SameDisk. -/
set_option linter.all false
set_option maxRecDepth 100000
namespace Go.Proofs.YtdfcfinjoghipacGreatDoor
open Go.RowKit Go.Maps

set_option maxHeartbeats 1000000 in
theorem equalBytes_any (B : Nat) (cv dv : Value) (cs ds : Bs) (w : World) (hc : BytesAt B w cv cs) (hd : BytesAt B w dv ds) (hB : B ≤ w.heap.size) :
    Calls Tryz.prog 77 #[cv, dv] w fun e w' => e = .returned (.bool (decide (cs = ds))) ∧ Below w.heap.size w w' := by
  obtain ⟨a, cap, rfl, hlc, hcm, hcs⟩ := hc
  obtain ⟨a2, cap2, rfl, hlc2, hcm2, hds⟩ := hd
  have hcs' : Hid (∀ (i : Nat) (c : UInt8), cs[i]? = some c → ∃ b o, a = some ⟨b, o, none⟩ ∧ b < B ∧ w.cell? ⟨b, o + i, none⟩ = some (.int .u8 (c.toNat : Int))) := hcs
  have hds' : Hid (∀ (i : Nat) (c : UInt8), ds[i]? = some c → ∃ b o, a2 = some ⟨b, o, none⟩ ∧ b < B ∧ w.cell? ⟨b, o + i, none⟩ = some (.int .u8 (c.toNat : Int))) := hds
  clear hcs hds
  by_cases hne : cs.length = ds.length
  · generalize hn : cs.length = n at *
    have hm : ds.length = n := hne.symm
    clear hne
    rw [hm] at hlc2
    simp only [hm]
    have hml : n ≤ 9223372036854775807 := by have := maxLen_eq; omega
    go_enter Tryz.func77, Tryz.ntmps77
    go_wp2
    go_loopw [13] (fun i wr => ∃ k : Nat, k ≤ n ∧ i = .int .i64 k ∧ Hid (∀ i, i < k → cs[i]? = ds[i]?) ∧ Below w.heap.size w wr) (fun i _ => n - (intOf i).toNat)
    case atStart => exact ⟨0, by omega, rfl, fun i h => absurd h (by omega), Below.refl _ _⟩
    case round =>
      obtain ⟨k, hk, rfl, H, hbr⟩ := hrel
      have i0 : (0 : Int) ≤ (k : Int) := by omega
      by_cases hlt : k < n
      · have i1 : (k : Int) < (n : Int) := by omega
        obtain ⟨c, hck⟩ : ∃ c, cs[k]? = some c := ⟨cs[k]'(by omega), by simp⟩
        obtain ⟨d, hdk⟩ : ∃ d, ds[k]? = some d := ⟨ds[k]'(by omega), by simp⟩
        obtain ⟨b, o, rfl, hbB, hat⟩ := hcs'.out k c hck
        obtain ⟨b2, o2, rfl, hbB2, hat2⟩ := hds'.out k d hdk
        have hck' : Hid (cs[k]? = some c) := hck
        have hdk' : Hid (ds[k]? = some d) := hdk
        clear hck hdk
        have c0 := (hbr.cell (p := ⟨b, o + k, none⟩) (by show b < _; omega)).trans hat
        have d0 := (hbr.cell (p := ⟨b2, o2 + k, none⟩) (by show b2 < _; omega)).trans hat2
        clear hat hat2
        go_wp2
        have hsz := hbr.size
        have hne := Later.ne wr
        have c0' : ∀ x : Later wr, x.1.cell? ⟨b, o + k, none⟩ = some (.int .u8 (c.toNat : Int)) := fun x => x.cell c0 (by omega)
        have d0' : ∀ x : Later wr, x.1.cell? ⟨b2, o2 + k, none⟩ = some (.int .u8 (d.toNat : Int)) := fun x => x.cell d0 (by omega)
        by_cases heq : c = d
        · have Heq : Hid (c = d) := heq
          have hd : ((c.toNat : Int) != (d.toNat : Int)) = false := by simp [heq]
          clear heq
          refine wp_region_later (by kernel_rfl) (by kernel_rfl) ?_
          repeat (go_big_quiet_step (fail))
          refine wpQuiet_nil ?_
          rintro wx ⟨⟨_, hx⟩, rfl⟩
          have hbx := Below.thenOf hbr hx hbr.size
          go_wp2
          refine ⟨⟨k + 1, by omega, by go_num, fun i hi => ?_, hbx⟩, by simp [intOf]; omega⟩
          by_cases hik : i = k
          · subst hik; rw [hck'.out, hdk'.out, Heq.out]
          · exact H.out i (by omega)
        · have Heq : Hid (¬ c = d) := heq
          have hd : ((c.toNat : Int) != (d.toNat : Int)) = true := by
            refine bne_iff_ne.2 fun e => heq (UInt8.toNat_inj.1 (by omega))
          clear heq
          refine wp_region_later (by kernel_rfl) (by kernel_rfl) ?_
          repeat (go_big_quiet_step (fail))
          refine wpQuiet_nil ?_
          rintro wx ⟨⟨_, hx⟩, rfl⟩
          have hbx := Below.thenOf hbr hx hbr.size
          go_wp2
          go_ret
          refine ⟨?_, hbx⟩
          have : cs ≠ ds := by
            intro h
            have h1 := hck'.out
            rw [h, hdk'.out] at h1
            exact Heq.out (Option.some.inj h1).symm
          simp [this]
      · go_wp2
        go_ret
        refine ⟨?_, hbr⟩
        have : cs = ds := by
          refine List.ext_getElem? fun i => ?_
          by_cases hi : i < k
          · exact H.out i hi
          · rw [List.getElem?_eq_none (by omega), List.getElem?_eq_none (by omega)]
        simp [this]
  · have hni : ((cs.length : Int) != (ds.length : Int)) = true := by simp; omega
    have hf : Hid (decide (cs = ds) = false) := by unfold Hid; simp; intro h; rw [h] at hne; exact hne rfl
    generalize cs.length = n at *
    generalize ds.length = m at *
    go_enter Tryz.func77, Tryz.ntmps77
    go_wp2
    go_ret
    exact ⟨by rw [hf.out]; rfl, Below.refl _ _⟩

set_option maxHeartbeats 2000000 in
theorem sameDisk_any (B : Nat) (v u : Value) (d e : DiskT) (w : World) (hd : DiskAt B w v d) (he : DiskAt B w u e) (hB : B ≤ w.heap.size) :
    Calls Tryz.prog 29 #[v, u] w fun r w' => r = .returned (.bool (decide (d = e))) ∧ Below w.heap.size w w' := by
  obtain ⟨s, t⟩ := d
  obtain ⟨s2, t2⟩ := e
  obtain ⟨sv, tv, rfl, hs, ht⟩ := hd
  obtain ⟨sv2, tv2, rfl, hs2, ht2⟩ := he
  simp only [] at hs ht hs2 ht2
  have H1 : Hid (∀ w', Below w.heap.size w w' → Calls Tryz.prog 77 #[sv, sv2] w' fun e w'' => e = .returned (.bool (decide (s = s2))) ∧ Below w'.heap.size w' w'') := fun w' h => equalBytes_any B sv sv2 s s2 w' (hs.later h hB) (hs2.later h hB) (Nat.le_trans hB h.size)
  have H2 : Hid (∀ w', Below w.heap.size w w' → Calls Tryz.prog 77 #[tv, tv2] w' fun e w'' => e = .returned (.bool (decide (t = t2))) ∧ Below w'.heap.size w' w'') := fun w' h => equalBytes_any B tv tv2 t t2 w' (ht.later h hB) (ht2.later h hB) (Nat.le_trans hB h.size)
  obtain ⟨a, c, e1, -⟩ := hs
  obtain ⟨a2, c2, e2, -⟩ := ht
  obtain ⟨a3, c3, e3, -⟩ := hs2
  obtain ⟨a4, c4, e4, -⟩ := ht2
  subst e1 e2 e3 e4
  have HD : Hid (decide (((s, t) : DiskT) = (s2, t2)) = (decide (s = s2) && decide (t = t2))) := by unfold Hid; simp
  obtain ⟨b1, hb1⟩ : ∃ b1, b1 = decide (s = s2) := ⟨_, rfl⟩
  obtain ⟨b2, hb2⟩ : ∃ b2, b2 = decide (t = t2) := ⟨_, rfl⟩
  rw [← hb1] at H1 HD
  rw [← hb2] at H2 HD
  clear hb1 hb2
  generalize s.length = n1 at *
  generalize t.length = n2 at *
  generalize s2.length = n3 at *
  generalize t2.length = n4 at *
  obtain ⟨W2, hW2⟩ : ∃ W2, W2 = (w.alloc (.cells #[.slice a n1 c, .slice a2 n2 c2] 48)).alloc (.cells #[.slice a3 n3 c3, .slice a4 n4 c4] 48) := ⟨_, rfl⟩
  have hbW : Below w.heap.size w W2 := by rw [hW2]; exact ((Below.refl _ _).alloc (Nat.le_refl _) _).alloc (by simp) _
  have hs2 : W2.heap.size = w.heap.size + 1 + 1 := by rw [hW2]; simp
  have g0 : W2.heap[w.heap.size]? = some (.cells #[.slice a n1 c, .slice a2 n2 c2] 48 (0, 0)) := by rw [hW2]; exact (Below.heap_alloc _ _ _ (by simp)).trans (heap_made _ _)
  have g1 : W2.heap[w.heap.size + 1]? = some (.cells #[.slice a3 n3 c3, .slice a4 n4 c4] 48 (0, 0)) := by
    have := heap_made (w.alloc (.cells #[.slice a n1 c, .slice a2 n2 c2] 48)) (.cells #[.slice a3 n3 c3, .slice a4 n4 c4] 48)
    rw [World.size_alloc] at this
    rw [hW2]
    exact this
  have HW2 : Hid (W2 = _) := hW2
  have HBW : Hid (Below w.heap.size w W2) := hbW
  clear hW2 hbW
  go_enter Tryz.func29, Tryz.ntmps29
  go_wp2_with fail
  rw [← HW2.out]
  go_at_call 77
  refine Calls.mono (H1.out W2 HBW.out) ?_
  rintro e w3 ⟨rfl, hb3⟩
  have k0 := heap_cell ((hb3.block w.heap.size (by omega)).trans g0) 1 rfl
  have k1 := heap_cell ((hb3.block (w.heap.size + 1) (by omega)).trans g1) 1 rfl
  have HB3 : Hid (Below w.heap.size w w3) := Below.thenOf HBW.out hb3 HBW.out.size
  clear hb3 g0 g1
  cases b1 with
  | false =>
    have HD' : Hid (decide (((s, t) : DiskT) = (s2, t2)) = false) := by unfold Hid; rw [HD.out]; rfl
    clear HD
    go_wp2_with fail
    go_ret
    exact ⟨by rw [HD'.out]; rfl, HB3.out⟩
  | true =>
    have HD' : Hid (decide (((s, t) : DiskT) = (s2, t2)) = b2) := by unfold Hid; rw [HD.out]; rfl
    clear HD
    go_wp2_with fail
    go_at_call 77
    refine Calls.mono (H2.out w3 HB3.out) ?_
    rintro e w4 ⟨rfl, hb4⟩
    go_wp2_with fail
    go_ret
    exact ⟨by rw [HD'.out]; rfl, Below.thenOf HB3.out hb4 HB3.out.size⟩

end Go.Proofs.YtdfcfinjoghipacGreatDoor
end
