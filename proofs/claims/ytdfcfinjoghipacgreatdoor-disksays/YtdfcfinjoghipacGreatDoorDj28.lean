/- The counterpart's RecText: a right record's text. -/
import Derived.Test.YtdfcfinjoghipacGreatDoorDj11
import Derived.Test.YtdfcfinjoghipacGreatDoorDj18
import Derived.Test.YtdfcfinjoghipacGreatDoorDj27
set_option linter.all false
set_option maxRecDepth 100000
namespace Go.Proofs.YtdfcfinjoghipacGreatDoor
open Go.RowKit Go.Maps

/-- What stands in the region that takes a kind's word out of a literal of four (0, 4, 5) and prints a number (8). -/
def JRt (W : World) (nm : Bs) (i : Nat) (fs : Nat → Value → Prop) (w : World) : Prop :=
  Below W.heap.size W w ∧ (∀ u, fs 0 u → ∃ g : Nat, u = .slice (some ⟨g, 0, none⟩) 4 4 ∧ g < w.heap.size ∧ w.cell? ⟨g, i, none⟩ = some (.string (bsB nm))) ∧ ∀ u, fs 4 u → ∃ g : Nat, u = .pointer (some ⟨g, i, none⟩) ∧ g < w.heap.size ∧ w.cell? ⟨g, i, none⟩ = some (.string (bsB nm))
def SRt (nm num : Bs) (i : Nat) (k : Nat) (v : Value) : Prop := if k = 0 then ∃ g : Nat, v = .slice (some ⟨g, 0, none⟩) 4 4 else if k = 4 then ∃ g : Nat, v = .pointer (some ⟨g, i, none⟩) else if k = 5 then v = .string (bsB nm) else if k = 8 then v = .string (bsB num) else True
theorem sRt_some (nm num : Bs) (i k : Nat) : ∃ v, SRt nm num i k v := by
  unfold SRt
  split
  · exact ⟨_, 0, rfl⟩
  · split
    · exact ⟨_, 0, rfl⟩
    · split
      · exact ⟨_, rfl⟩
      · split
        · exact ⟨_, rfl⟩
        · exact ⟨undef, trivial⟩
theorem JRt.later {W w w' : World} {nm : Bs} {i : Nat} {fs : Nat → Value → Prop} (h : JRt W nm i fs w) (hb : Below w.heap.size w w') : JRt W nm i fs w' := by
  refine ⟨Below.thenOf h.1 hb h.1.size, fun u hu => ?_, fun u hu => ?_⟩
  · obtain ⟨g, e, hg, hc⟩ := h.2.1 u hu
    exact ⟨g, e, Nat.lt_of_lt_of_le hg hb.size, (hb.cell (p := ⟨g, i, none⟩) hg).trans hc⟩
  · obtain ⟨g, e, hg, hc⟩ := h.2.2 u hu
    exact ⟨g, e, Nat.lt_of_lt_of_le hg hb.size, (hb.cell (p := ⟨g, i, none⟩) hg).trans hc⟩
theorem JRt.lit {W w : World} {nm : Bs} {i : Nat} {fs : Nat → Value → Prop} (h : JRt W nm i fs w) (cs : Array Value) (T : TypeId) (hc : cs[i]? = some (.string (bsB nm))) : JRt W nm i (addF fs 0 (.slice (some ⟨w.heap.size, 0, none⟩) 4 4)) (w.alloc (.cells cs T)) := by
  have h' := h.later ((Below.refl w.heap.size w).alloc (Nat.le_refl _) (.cells cs T))
  refine ⟨h'.1, fun u hu => ?_, fun u hu => ?_⟩
  · rcases hu with hu | ⟨_, rfl⟩
    · exact h'.2.1 u hu
    · exact ⟨w.heap.size, rfl, by simp, heap_cell (heap_made w _) i hc⟩
  · rcases hu with hu | ⟨h, _⟩
    · exact h'.2.2 u hu
    · cases h
theorem JRt.addr {W w : World} {nm : Bs} {i g : Nat} {fs : Nat → Value → Prop} (h : JRt W nm i fs w) (hg : fs 0 (.slice (some ⟨g, 0, none⟩) 4 4)) : JRt W nm i (addF fs 4 (.pointer (some ⟨g, i, none⟩))) w := by
  refine ⟨h.1, fun u hu => ?_, fun u hu => ?_⟩
  · rcases hu with hu | ⟨h, _⟩
    · exact h.2.1 u hu
    · cases h
  · rcases hu with hu | ⟨_, rfl⟩
    · exact h.2.2 u hu
    · obtain ⟨g', e, hl, hc⟩ := h.2.1 _ hg
      simp at e
      subst e
      exact ⟨g, rfl, hl, hc⟩
theorem JRt.other {W w w' : World} {nm : Bs} {i k : Nat} {fs : Nat → Value → Prop} (h : JRt W nm i fs w) (hb : Below w.heap.size w w') (v : Value) (h0 : 0 ≠ k) (h4 : 4 ≠ k) : JRt W nm i (addF fs k v) w' := by
  have h' := h.later hb
  refine ⟨h'.1, fun u hu => ?_, fun u hu => ?_⟩
  · rcases hu with hu | ⟨e, _⟩
    · exact h'.2.1 u hu
    · exact absurd e h0
  · rcases hu with hu | ⟨e, _⟩
    · exact h'.2.2 u hu
    · exact absurd e h4
theorem itoa_short {n : Int} (h0 : 0 ≤ n) (h3 : n ≤ 3) : (Lib.itoa n).length ≤ 1 := by
  have : n = 0 ∨ n = 1 ∨ n = 2 ∨ n = 3 := by omega
  rcases this with rfl | rfl | rfl | rfl <;> decide +kernel

set_option maxHeartbeats 8000000 in
theorem recText_any (B : Nat) (v : Value) (r : RecT) (w : World) (he : EnvT w) (hsp : Lib.TabIs Tryz.prog w "strings.asciiSpace" .u8 Lib.asciiSpaceTab) (hr : RecAt B w v r) (hB : B ≤ w.heap.size) :
    Calls Tryz.prog 15 #[v] w fun e w' => e = .returned (.tuple #[.string (bsB (printT r)), .int .i64 (recErr r)]) ∧ Below w.heap.size w w' := by
  have HC : Hid (∀ w', Below w.heap.size w w' → Calls Tryz.prog 62 #[v] w' fun e w'' => e = .returned (.int .i64 (recErr r)) ∧ Below w'.heap.size w' w'') := fun w' h => checkRec_any B v r w' (hr.later h hB) (Nat.le_trans hB h.size)
  have HEn : Hid (∀ w', Below w.heap.size w w' → EnvT w' ∧ Lib.TabIs Tryz.prog w' "strings.asciiSpace" .u8 Lib.asciiSpaceTab) := fun w' h => ⟨he.later h, tab_later hsp h⟩
  have HP : Hid (printT r = if recErr r = 0 then recText r else []) := rfl
  obtain ⟨a, c, rfl, hp⟩ := hr.shape
  have HPol : Hid (∀ w', Below w.heap.size w w' → PolAt B w' (.agg #[.slice a r.2.2.2.1.length c, .int .i64 r.2.2.2.2]) r.2.2.2 ∧ B ≤ w'.heap.size) := fun w' h => ⟨hp.later h hB, Nat.le_trans hB h.size⟩
  clear hr hp he hsp
  obtain ⟨k, ce, fr, rs, d⟩ := r
  simp only at *
  have hb : ∀ X, Below w.heap.size w (w.alloc X) := fun X => (Below.refl _ _).alloc (Nat.le_refl _) _
  obtain ⟨E, hE⟩ : ∃ E, E = recErr (k, ce, fr, rs, d) := ⟨_, rfl⟩
  have HE : Hid (E = recErr (k, ce, fr, rs, d)) := hE
  rw [← hE] at HC HP ⊢
  clear hE
  obtain ⟨n, hn⟩ : ∃ n, n = rs.length := ⟨_, rfl⟩
  have HN : Hid (n = rs.length) := hn
  rw [← hn] at HC HPol ⊢
  clear hn
  obtain ⟨W0, hW0⟩ : ∃ W0, W0 = w.alloc (.cells #[.int .i64 k, .int .i64 ce, .int .i64 fr, .slice a n c, .int .i64 d] 38) := ⟨_, rfl⟩
  have g0 : W0.heap[w.heap.size]? = some (.cells #[.int .i64 k, .int .i64 ce, .int .i64 fr, .slice a n c, .int .i64 d] 38 (0, 0)) := by rw [hW0]; exact heap_made _ _
  have bw0 : Below w.heap.size w W0 := by rw [hW0]; exact hb _
  have HG : Hid (∀ w', Below W0.heap.size W0 w' → w'.heap[w.heap.size]? = some (.cells #[.int .i64 k, .int .i64 ce, .int .i64 fr, .slice a n c, .int .i64 d] 38 (0, 0)) ∧ Below w.heap.size w w') := fun w' h => ⟨(h.block _ (lt_of_block g0)).trans g0, Below.thenOf bw0 h bw0.size⟩
  have HW : Hid (W0 = _) := hW0
  clear hW0 g0
  go_enter Tryz.func15, Tryz.ntmps15
  go_wp2_with fail
  rw [← HW.out]
  go_at_call 62
  refine Calls.mono (HC.out _ bw0) ?_
  rintro e w1 ⟨rfl, b01⟩
  obtain ⟨g1, bw1⟩ := HG.out w1 b01
  have B1 : Hid (Below W0.heap.size W0 w1 ∧ Below w.heap.size w w1) := ⟨b01, bw1⟩
  have l1 := lt_of_block g1
  obtain ⟨q0, q1, q2, q3, q4⟩ := rec_box g1
  clear g1 bw1 b01 bw0 hb HC HW
  by_cases h0 : E = 0
  · obtain ⟨hk, hc, hf, -, -⟩ := recErr_ok (HE.out.symm.trans h0)
    have HPT : Hid (printT (k, ce, fr, rs, d) = recText (k, ce, fr, rs, d)) := by unfold Hid; rw [HP.out, if_pos h0]
    subst h0
    obtain ⟨i, hi4, hki⟩ : ∃ i : Nat, i < 4 ∧ k = (i : Int) + 1 := ⟨(k - 1).toNat, by omega, by omega⟩
    have i0 : (0 : Int) ≤ (i : Int) := by omega
    have i1 : (i : Int) < 4 := by omega
    have hwr : IntKind.i64.wrap (k - 1) = (i : Int) := by rw [show k - 1 = (i : Int) by omega]; exact IntWalk.i64_in _ (by omega)
    obtain ⟨nm, hnm⟩ : ∃ nm, nm = kN.getD i [] ++ [32] := ⟨_, rfl⟩
    have HNm : Hid (nm = kN.getD i [] ++ [32] ∧ nm.length ≤ 10 ∧ (#[Value.string ⟨#[111, 112, 101, 110, 32]⟩, .string ⟨#[116, 105, 103, 104, 116, 32]⟩, .string ⟨#[102, 111, 114, 107, 32]⟩, .string ⟨#[115, 104, 117, 116, 32]⟩][i]? = some (.string (bsB nm)))) := by
      refine ⟨hnm, ?_, ?_⟩
      · have : i = 0 ∨ i = 1 ∨ i = 2 ∨ i = 3 := by omega
        rw [hnm]
        rcases this with rfl | rfl | rfl | rfl <;> decide +kernel
      · have : i = 0 ∨ i = 1 ∨ i = 2 ∨ i = 3 := by omega
        rw [hnm]
        rcases this with rfl | rfl | rfl | rfl <;> rfl
    have HIt : Hid ((Lib.itoa ce).length ≤ 1 ∧ (Lib.itoa fr).length ≤ 1) := ⟨itoa_short hc.1 hc.2, itoa_short hf.1 hf.2⟩
    have HNum : Hid ((-9223372036854775808 ≤ ce ∧ ce ≤ 9223372036854775807) ∧ (-9223372036854775808 ≤ fr ∧ fr ≤ 9223372036854775807)) := ⟨⟨Int.le_trans (by decide) hc.1, Int.le_trans hc.2 (by decide)⟩, Int.le_trans (by decide) hf.1, Int.le_trans hf.2 (by decide)⟩
    have Hki : Hid (k = (i : Int) + 1 ∧ i < 4) := ⟨hki, hi4⟩
    have c0 : ∀ z : Later w1, z.1.cell? ⟨w.heap.size, 0, none⟩ = some (.int .i64 k) := fun z => z.cell q0 l1
    have c1 : ∀ z : Later w1, z.1.cell? ⟨w.heap.size, 1, none⟩ = some (.int .i64 ce) := fun z => z.cell q1 l1
    clear hnm hki hk hc hf
    go_wp2_with fail
    have hne := Later.ne w1
    have hDJ : Hid (∀ fs w', JRt w1 nm i fs w' → ∃ z : Later w1, w' = z.1) := fun fs w' h => ⟨⟨w', h.1⟩, rfl⟩
    refine wp_region_free [_, _, _, _, _, _, _, _, _, _] _ rfl (fun k => k == 0 || k == 4 || k == 5 || k == 8) (JRt w1 nm i) (SRt nm (Lib.itoa ce) i) (sRt_some _ _ _) (by kernel_rfl) (by kernel_rfl) ⟨(Below.refl _ _).drew, fun _ h => h.elim, fun _ h => h.elim⟩ ?_
    refine wpG_write rfl rfl (fun gs w' hJ hdep hno => ⟨.slice (some ⟨w'.heap.size, 0, none⟩) 4 4, w'.alloc (.cells #[.string ⟨#[111, 112, 101, 110, 32]⟩, .string ⟨#[116, 105, 103, 104, 116, 32]⟩, .string ⟨#[102, 111, 114, 107, 32]⟩, .string ⟨#[115, 104, 117, 116, 32]⟩] 9), ?_, ⟨_, rfl⟩, hJ.lit _ _ HNm.out.2.2⟩) (fun v0 hv0 => ?_)
    · clear hJ hdep hno hDJ hne c0 c1
      go_simp
    simp only [Act.put, List.setIfInBounds_toArray, List.set_cons_succ, List.set_cons_zero]
    obtain ⟨g, rfl⟩ : ∃ g : Nat, v0 = .slice (some ⟨g, 0, none⟩) 4 4 := hv0
    iterate 3 (refine wpG_read hDJ.out rfl rfl ?_; go_big_quiet_step (fail); refine wpQuiet_nil ?_)
    refine wpG_write rfl rfl (fun gs w' hJ hdep hno => ⟨.pointer (some ⟨g, i, none⟩), w', ?_, ⟨_, rfl⟩, hJ.addr (hdep 0 _ (.inr ⟨rfl, rfl⟩) (waitsB_spec (by kernel_rfl)))⟩) (fun v4 hv4 => ?_)
    · clear hJ hdep hno hDJ hne c0 c1
      go_simp
    simp only [Act.put, List.setIfInBounds_toArray, List.set_cons_succ, List.set_cons_zero]
    obtain ⟨g4, rfl⟩ : ∃ g : Nat, v4 = .pointer (some ⟨g, i, none⟩) := hv4
    refine wpG_write rfl rfl (fun gs w' hJ hdep hno => ⟨.string (bsB nm), w', ?_, rfl, hJ.other (Below.refl _ _) _ (by decide) (by decide)⟩) (fun v5 hv5 => ?_)
    · obtain ⟨g', e, hl, hc⟩ := hJ.2.2 _ (hdep 4 _ (.inr ⟨rfl, rfl⟩) (waitsB_spec (by kernel_rfl)))
      simp at e
      subst e
      clear hJ hdep hno hDJ hne c0 c1
      go_simp
    simp only [Act.put, List.setIfInBounds_toArray, List.set_cons_succ, List.set_cons_zero]
    obtain rfl : v5 = .string (bsB nm) := hv5
    iterate 2 (refine wpG_read hDJ.out rfl rfl ?_; go_big_quiet_step (fail); refine wpQuiet_nil ?_)
    refine wpG_call 57 #[.int .i64 ce] rfl rfl (fun w' => by kernel_rfl) (fun gs w' hJ hdep hno => ?_) (fun v8 hv8 => ?_)
    · refine (Tryz.strconv_Itoa ce HNum.out.1.1 HNum.out.1.2 w' (HEn.out w' (Below.thenOf B1.out.2 hJ.1 B1.out.2.size)).1.2.2.2).mono ?_
      rintro e w2 ⟨rfl, k8, os8, rfl⟩
      exact ⟨_, rfl, rfl, hJ.other (Lib.below_grow _ _ (Nat.le_refl _) _ _) _ (by decide) (by decide)⟩
    simp only [Act.put, List.setIfInBounds_toArray, List.set_cons_succ, List.set_cons_zero]
    obtain rfl : v8 = .string (bsB (Lib.itoa ce)) := hv8
    refine wpG_readV (.string (bsB (nm ++ Lib.itoa ce))) rfl rfl (fun w' => exec_add _ _ rfl rfl rfl (by have := HNm.out.2.1; have := HIt.out.1; omega) w') ?_
    simp only [Act.put, List.setIfInBounds_toArray, List.set_cons_succ, List.set_cons_zero]
    refine wpG_nil ?_
    intro w2 hJ2
    have b12 := hJ2.1
    obtain ⟨g2, bw2⟩ := HG.out w2 (Below.thenOf B1.out.1 b12 B1.out.1.size)
    have B2 : Hid (Below W0.heap.size W0 w2 ∧ Below w.heap.size w w2) := ⟨Below.thenOf B1.out.1 b12 B1.out.1.size, bw2⟩
    have l2 := lt_of_block g2
    obtain ⟨r0, r1, r2, r3, r4⟩ := rec_box g2
    clear hJ2 b12 g2 bw2 hne hDJ c0 c1 q0 q1 q2 q3 q4 l1 hwr
    obtain ⟨M, hM⟩ : ∃ M, M = nm ++ Lib.itoa ce := ⟨_, rfl⟩
    have HM : Hid (M = nm ++ Lib.itoa ce ∧ M.length ≤ 20) := ⟨hM, by rw [hM, List.length_append]; have := HNm.out.2.1; have := HIt.out.1; omega⟩
    rw [← hM]
    clear hM
    obtain ⟨hki, hi4⟩ := Hki.out
    by_cases h3 : k = 3
    · have HT : Hid (recText (k, ce, fr, rs, d) = M ++ 32 :: Lib.itoa fr) := by
        unfold Hid
        rw [HM.out.1, HNm.out.1]
        unfold recText
        simp only [if_pos h3]
        rw [show (k - 1).toNat = i by omega]
        simp
      subst h3
      have hadd : ∀ W, (Op.stringOp .add (bsB M) ⟨#[32]⟩).run Tryz.prog W = .ok (.string (bsB (M ++ [32]))) W := fun W => add_run M [32] (by have := HM.out.2; simp; omega) W
      have hadd2 : ∀ W, (Op.stringOp .add (bsB (M ++ [32])) (bsB (Lib.itoa fr))).run Tryz.prog W = .ok (.string (bsB (M ++ [32] ++ Lib.itoa fr))) W := fun W => add_run (M ++ [32]) (Lib.itoa fr) (by have := HM.out.2; have := HIt.out.2; simp; omega) W
      have HI : Hid (Calls Tryz.prog 57 #[.int .i64 fr] w2 fun e w' => e = .returned (.string (bsB (Lib.itoa fr))) ∧ Below w2.heap.size w2 w') := by
        refine (Tryz.strconv_Itoa fr HNum.out.2.1 HNum.out.2.2 w2 (HEn.out w2 B2.out.2).1.2.2.2).mono ?_
        rintro e w3 ⟨rfl, k8, os8, rfl⟩
        exact ⟨rfl, Lib.below_grow _ _ (Nat.le_refl _) _ _⟩
      clear hki
      generalize Lib.itoa fr = fT at *
      go_wp2_with fail
      go_at_call 57
      refine Calls.mono HI.out ?_
      rintro e w3 ⟨rfl, hb3⟩
      have bw3 : Below w.heap.size w w3 := Below.thenOf B2.out.2 hb3 B2.out.2.size
      go_wp2_with fail
      go_ret2
      exact ⟨by rw [HPT.out, HT.out]; rfl, bw3⟩
    · by_cases h4 : k = 4
      · have HT : Hid (recText (k, ce, fr, rs, d) = M) := by
          unfold Hid
          rw [HM.out.1, HNm.out.1]
          unfold recText
          simp only [if_neg h3, if_pos h4]
          rw [show (k - 1).toNat = i by omega]
          simp
        subst h4
        clear hki
        go_wp2_with fail
        go_ret2
        exact ⟨by rw [HPT.out, HT.out]; rfl, B2.out.2⟩
      · have HT : Hid (recText (k, ce, fr, rs, d) = M ++ 32 :: polText (rs, d)) := by
          unfold Hid
          rw [HM.out.1, HNm.out.1]
          unfold recText
          simp only [if_neg h3, if_neg h4]
          rw [show (k - 1).toNat = i by omega]
          simp
        have h3' : (k == 3) = false := by simpa using h3
        have h4' : (k == 4) = false := by simpa using h4
        have hok : polErr (rs, d) = 0 := by
          obtain ⟨-, -, -, -, h⟩ := recErr_ok HE.out.symm
          rcases h with ⟨-, h⟩ | ⟨h, -⟩
          · exact h
          · exact absurd h (by rintro (h | h) <;> first | exact h3 h | exact h4 h)
        have HPl : Hid ((polText (rs, d)).length ≤ 97000000) := by
          obtain ⟨hrl, hd, hra⟩ := polErr_all hok
          have h1 := take_len rs hra hrl rs.length
          rw [List.take_length] at h1
          have h2 : (vName d).length ≤ 1000 := by
            have hv : 0 ≤ d ∧ d ≤ 4 := hd
            have : d = 0 ∨ d = 1 ∨ d = 2 ∨ d = 3 ∨ d = 4 := by omega
            rcases this with rfl | rfl | rfl | rfl | rfl <;> decide
          have h1' : (List.flatMap ruleText rs).length ≤ 96000000 := h1
          show (List.flatMap ruleText rs ++ vName d).length ≤ 97000000
          rw [List.length_append]
          omega
        have hadd : ∀ W, (Op.stringOp .add (bsB M) ⟨#[32]⟩).run Tryz.prog W = .ok (.string (bsB (M ++ [32]))) W := fun W => add_run M [32] (by have := HM.out.2; simp; omega) W
        have hadd2 : ∀ W, (Op.stringOp .add (bsB (M ++ [32])) (bsB (polText (rs, d)))).run Tryz.prog W = .ok (.string (bsB (M ++ [32] ++ polText (rs, d)))) W := fun W => add_run (M ++ [32]) (polText (rs, d)) (by have := HM.out.2; have := HPl.out; simp; omega) W
        have HI : Hid (Calls Tryz.prog 63 #[.agg #[.slice a n c, .int .i64 d]] w2 fun e w' => e = .returned (.string (bsB (polText (rs, d)))) ∧ Below w2.heap.size w2 w') := policyText_any B _ (rs, d) w2 (HEn.out w2 B2.out.2).1 (HEn.out w2 B2.out.2).2 (HPol.out w2 B2.out.2).1 (HPol.out w2 B2.out.2).2 hok
        clear hki hok
        generalize polText (rs, d) = pT at *
        go_wp2_with fail
        go_at_call 63
        refine Calls.mono HI.out ?_
        rintro e w3 ⟨rfl, hb3⟩
        have bw3 : Below w.heap.size w w3 := Below.thenOf B2.out.2 hb3 B2.out.2.size
        go_wp2_with fail
        go_ret2
        exact ⟨by rw [HPT.out, HT.out]; rfl, bw3⟩
  · have HPT : Hid (printT (k, ce, fr, rs, d) = []) := by unfold Hid; rw [HP.out, if_neg h0]
    have hq : (E != 0) = true := by simpa using h0
    clear h0
    go_wp2_with fail
    go_ret2
    exact ⟨by rw [HPT.out]; rfl, B1.out.2⟩

end Go.Proofs.YtdfcfinjoghipacGreatDoor
