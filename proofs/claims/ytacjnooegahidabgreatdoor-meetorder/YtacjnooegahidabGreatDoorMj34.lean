/- met is true. -/
import Derived.Test.YtacjnooegahidabGreatDoorMj33
set_option linter.all false
set_option maxRecDepth 100000
namespace Go.Proofs.YtacjnooegahidabGreatDoor
open Go.RowKit Go.Maps

def trapS : ByteArray := ⟨#[116, 114, 97, 112, 32, 97, 60, 57, 59, 97, 108, 108, 111, 119]⟩
def trapRs : List RuleT := [([(2, 3, 9)], 1)]
def trapP : PolT := (trapRs, 4)
theorem d1_trap : Maps.has D1 (.string [116, 114, 97, 112]) = true ∧ D1.atKey (.string [116, 114, 97, 112]) zed = .lit (.int .i64 1) := by
  unfold D1 zed
  rw [Maps.has_put_other (strNe (by decide)), Maps.has_put_other (strNe (by decide)), Maps.has_put_other (strNe (by decide)), Maps.atKey_put_other (strNe (by decide)), Maps.atKey_put_other (strNe (by decide)), Maps.atKey_put_other (strNe (by decide))]
  exact ⟨Maps.has_put_same (Maps.isMap_empty.put _ _) (isKeyS _) _, Maps.atKey_put_same (Maps.isMap_empty.put _ _) (isKeyS _) _ _⟩
theorem goodA9 : GoodWord ⟨#[97, 60, 57]⟩ (2, 3, 9) := by
  refine ⟨1, 9, by decide, by decide, fun i hi => ?_, d3_below, by decide, d2_a.1, d2_a.2, rfl, by decide, by decide, by decide +kernel⟩
  obtain rfl : i = 0 := by omega
  exact d3_other _ (by decide)
theorem goodTrapR : GoodRule ⟨#[116, 114, 97, 112, 32, 97, 60, 57]⟩ ([(2, 3, 9)], 1) := by
  refine ⟨⟨#[116, 114, 97, 112]⟩, [⟨#[97, 60, 57]⟩], by decide +kernel, by decide +kernel, by decide, d1_trap.1, d1_trap.2, by decide, rfl, by decide, fun j u c hu hc => ?_⟩
  match j, hu, hc with
  | 0, hu, hc => simp at hu hc; subst hu hc; exact goodA9
  | j + 1, hu, hc => simp at hu
theorem goodTrap : GoodText 4 trapRs trapS := by
  refine ⟨⟨#[116, 114, 97, 112, 32, 97, 60, 57]⟩, ⟨#[97, 108, 108, 111, 119]⟩, by decide, by decide +kernel, by decide, goodTrapR, ?_⟩
  exact ⟨by decide, by decide +kernel, by decide +kernel, by decide +kernel, d1_allow.1, d1_allow.2⟩
theorem trapOk : polErr trapP = 0 := by decide

def twoP : PolT := ([([], 0), ([], 3)], 4)
theorem met_meet : meetE false madeP trapP = 0 ∧ meetR false madeP trapP = meetP false madeP trapP ∧ (meetP false madeP trapP).2 = 4 ∧ polErr (meetP false madeP trapP) = 0 ∧ bsB (polText (meetP false madeP trapP)) = ⟨([107, 105, 108, 108, 32, 110, 114, 61, 51, 32, 97, 60, 53, 32, 97, 60, 57, 59, 107, 105, 108, 108, 32, 110, 114, 61, 51, 32, 97, 60, 53, 59, 116, 114, 97, 112].append [32, 107, 105, 110, 100, 33, 48, 32, 97, 60, 57, 59, 108, 111, 103, 32, 107, 105, 110, 100, 33, 48, 59, 116, 114, 97, 112, 32, 97, 60, 57, 59, 97, 108, 108, 111, 119]).toArray⟩ := by decide +kernel
theorem met_short : pointsE [twoP] = 0 ∧ shortR twoP = ([([], 0)], 4) ∧ polErr ([([], 0)], 4) = 0 ∧ bsB (polText ([([], 0)], 4)) = ⟨#[107, 105, 108, 108, 59, 97, 108, 108, 111, 119]⟩ := by decide +kernel
theorem met_except : meetE true trapP madeP = 0 ∧ meetR true trapP madeP = meetP true trapP madeP ∧ (meetP true trapP madeP).2 = 4 ∧ polErr (meetP true trapP madeP) = 0 ∧ bsB (polText (meetP true trapP madeP)) = ⟨([97, 108, 108, 111, 119, 32, 97, 60, 57, 32, 110, 114, 61, 51, 32, 97, 60, 53, 59, 116, 114, 97, 112, 32, 97, 60, 57, 32, 107, 105, 110, 100, 33, 48, 59, 116, 114, 97].append [112, 32, 97, 60, 57, 59, 97, 108, 108, 111, 119, 32, 110, 114, 61, 51, 32, 97, 60, 53, 59, 97, 108, 108, 111, 119, 32, 107, 105, 110, 100, 33, 48, 59, 97, 108, 108, 111, 119]).toArray⟩ := by decide +kernel

theorem pol_shape {B : Nat} {w : World} {v : Value} {p : PolT} {d : Int} (h : PolAt B w v p) (hd : p.2 = d) : ∃ a n c, v = .agg #[.slice a n c, .int .i64 d] := by
  obtain ⟨rv, rfl, _, a, c, rfl, _⟩ := h
  exact ⟨a, _, c, by rw [hd]⟩
theorem PolAt.wide {B B' : Nat} {w : World} {v : Value} {p : PolT} (h : PolAt B w v p) (hB : B ≤ B') : PolAt B' w v p := by
  obtain ⟨rv, h1, h2, a, cap, h3, h4, h5, h6⟩ := h
  refine ⟨rv, h1, h2, a, cap, h3, h4, h5, fun i r hr => ?_⟩
  obtain ⟨b, o, e, hl, cv, k1, k2, k3, a', cap', m1, m2, m3, m4⟩ := h6 i r hr
  refine ⟨b, o, e, by omega, cv, k1, k2, k3, a', cap', m1, m2, m3, fun j c hc => ?_⟩
  obtain ⟨b', o', e', hl', k⟩ := m4 j c hc
  exact ⟨b', o', e', by omega, k⟩
theorem two_pol (w : World) (T : TypeId) : PolAt (w.heap.size + 1) (w.alloc (.cells #[.slice none 0 0, .int .i64 0, .slice none 0 0, .int .i64 3] T)) (.agg #[.slice (some ⟨w.heap.size, 0, none⟩) 2 2, .int .i64 4]) twoP := by
  have hm := heap_made w (.cells #[.slice none 0 0, .int .i64 0, .slice none 0 0, .int .i64 3] T)
  have hc : ∀ (W : World), CondsAt (w.heap.size + 1) W (.slice none 0 0) [] := fun W => ⟨none, 0, rfl, Nat.le_refl _, by rw [maxLen_eq]; omega, fun i c h => by simp at h⟩
  refine ⟨_, rfl, by unfold wf; decide, some ⟨w.heap.size, 0, none⟩, 2, rfl, Nat.le_refl _, by rw [maxLen_eq]; omega, fun i r hr => ⟨w.heap.size, 0, rfl, by omega, ?_⟩⟩
  match i, hr with
  | 0, hr =>
    cases hr
    exact ⟨_, heap_cell hm 0 rfl, heap_cell hm 1 rfl, by unfold wf; decide, hc _⟩
  | 1, hr =>
    cases hr
    exact ⟨_, heap_cell hm 2 rfl, heap_cell hm 3 rfl, by unfold wf; decide, hc _⟩
  | i + 2, hr => simp [twoP] at hr

set_option maxHeartbeats 16000000 in
theorem met_true (w : World) (he : EnvT w) (hsp : Lib.TabIs Tryz.prog w "strings.asciiSpace" .u8 Lib.asciiSpaceTab) :
    Calls Tryz.prog 29 #[] w fun e w' => e = .returned (.bool true) ∧ Below w.heap.size w w' := by
  have HEn : Hid (∀ w', Below w.heap.size w w' → EnvT w' ∧ Lib.TabIs Tryz.prog w' "strings.asciiSpace" .u8 Lib.asciiSpaceTab) := fun w' h => ⟨he.later h, tab_later hsp h⟩
  have HRd : Hid (Calls Tryz.prog 66 #[.string ⟨#[116, 114, 97, 112, 32, 97, 60, 57, 59, 97, 108, 108, 111, 119]⟩] w fun e w' => ∃ pv, e = .returned (.tuple #[pv, .int .i64 0]) ∧ PolNew w.heap.size w' pv trapP ∧ Below w.heap.size w w') := by
    obtain ⟨mm, hm⟩ := he.1
    exact policyRead_good trapS trapRs 4 goodTrap (verdictWf (by decide)) trapOk mm w hm
  clear he hsp
  go_enter Tryz.func29, Tryz.ntmps29
  go_wp2_with fail
  go_at_call 66
  refine Calls.mono HRd.out ?_
  rintro e w1 ⟨pv1, rfl, hp1, hb1⟩
  obtain ⟨a1, n1, c1, rfl⟩ := pol_shape (d := 4) hp1.at rfl
  have HTr : Hid (∀ w', Below w1.heap.size w1 w' → PolAt w'.heap.size w' (.agg #[.slice a1 n1 c1, .int .i64 4]) trapP) := fun w' h => hp1 w' (fun g _ hg => h.block g hg) h.size
  obtain ⟨W2, hW2⟩ : ∃ W2, W2 = w1.alloc (.cells #[.slice a1 n1 c1, .int .i64 4] 38) := ⟨_, rfl⟩
  have hb2 : Below w1.heap.size w1 W2 := by rw [hW2]; exact (Below.refl _ _).alloc (Nat.le_refl _) _
  have hbx2 : W2.heap[w1.heap.size]? = some (.cells #[.slice a1 n1 c1, .int .i64 4] 38 (0, 0)) := by rw [hW2]; exact heap_made _ _
  have HBx : Hid (∀ w', Below W2.heap.size W2 w' → w'.cell? ⟨w1.heap.size, 0, none⟩ = some (.slice a1 n1 c1) ∧ w'.cell? ⟨w1.heap.size, 1, none⟩ = some (.int .i64 4)) := fun w' h => ⟨heap_cell ((h.block _ (lt_of_block hbx2)).trans hbx2) 0 rfl, heap_cell ((h.block _ (lt_of_block hbx2)).trans hbx2) 1 rfl⟩
  have HB2 : Hid (Below w.heap.size w W2) := Below.thenOf hb1 hb2 hb1.size
  have HT2 : Hid (∀ w', Below W2.heap.size W2 w' → Below w1.heap.size w1 w') := fun w' h => Below.thenOf hb2 h hb2.size
  have HW2 : Hid (W2 = _) := hW2
  clear hW2 hb2 hbx2 hp1 hb1 HRd
  go_wp2_with fail
  rw [← HW2.out]
  have hne := Later.ne W2
  have q0 : ∀ z : Later W2, z.1.cell? ⟨w1.heap.size, 0, none⟩ = some (.slice a1 n1 c1) := fun z => (HBx.out z.1 z.2).1
  have q1 : ∀ z : Later W2, z.1.cell? ⟨w1.heap.size, 1, none⟩ = some (.int .i64 4) := fun z => (HBx.out z.1 z.2).2
  have hDJ : Hid (∀ fs w', JMe 0 W2 4 (meetP false madeP trapP) fs w' → ∃ z : Later W2, w' = z.1) := fun fs w' h => ⟨⟨w', h.bel⟩, rfl⟩
  refine wp_region_free [_, _, _, _, _, _, _, _] _ rfl (fun k => k == 0 || k == 2 || k == 3 || k == 4 || k == 6 || k == 7) (JMe 0 W2 4 (meetP false madeP trapP)) (SMe 0 4) (sMe_some _ _) (by kernel_rfl) (by kernel_rfl) (JMe.start _ _ _ _) ?_
  refine wpG_call 36 #[] rfl rfl (fun w' => by kernel_rfl) (fun gs w' hJ hdep hno => ?_) (fun v1 hv1 => ?_)
  · refine (made_any w' (HEn.out _ (Below.thenOf HB2.out hJ.bel HB2.out.size)).1.1).mono ?_
    rintro e w9 ⟨pv, rfl, hpn, hb⟩
    obtain ⟨a, n, c, rfl⟩ := pol_shape (d := 4) hpn.at rfl
    exact ⟨_, rfl, ⟨a, n, c, rfl⟩, hJ.made (by decide) hb _ hpn.at⟩
  simp only [Act.put, List.setIfInBounds_toArray, List.set_cons_succ, List.set_cons_zero]
  obtain ⟨am3, nm3, cm3, rfl⟩ : ∃ a n c, v1 = .agg #[.slice a n c, .int .i64 4] := hv1
  refine wpG_read hDJ.out rfl rfl ?_; go_big_quiet_step (fail); refine wpQuiet_nil ?_
  refine wpG_call 24 #[.agg #[.slice am3 nm3 cm3, .int .i64 4], .agg #[.slice a1 n1 c1, .int .i64 4]] rfl rfl (fun w' => by kernel_rfl) (fun gs w' hJ hdep hno => ?_) (fun v2 hv2 => ?_)
  · obtain ⟨Bq, hq, hp⟩ := hJ.pol _ (hdep 0 _ (.inr ⟨rfl, rfl⟩) (waitsB_spec (by kernel_rfl))) (hJ.none7 hno)
    have htr := HTr.out w' (HT2.out w' hJ.bel)
    have hmd := PolAt.wide hp hq
    refine (meetD_any w'.heap.size _ _ madeP trapP w' hmd htr (Nat.le_refl _)).mono ?_
    rintro e w9 ⟨v, rfl, hpn, hb⟩
    rw [met_meet.2.1] at hpn
    rw [met_meet.1]
    obtain ⟨a, n, c, rfl⟩ := pol_shape (d := 4) hpn.at met_meet.2.2.1
    exact ⟨_, rfl, ⟨a, n, c, rfl⟩, hJ.meets (by decide) hno hb _ hpn⟩
  simp only [Act.put, List.setIfInBounds_toArray, List.set_cons_succ, List.set_cons_zero]
  obtain ⟨ar3, nr3, cr3, rfl⟩ : ∃ a n c, v2 = .tuple #[.agg #[.slice a n c, .int .i64 4], .int .i64 0] := hv2
  refine wpG_write rfl rfl (fun gs w' hJ hdep hno => ⟨.tuple #[.agg #[.slice ar3 nr3 cr3, .int .i64 4], .int .i64 0], w', ?_, ⟨_, _, _, rfl⟩, hJ.on3 (by decide) _ (hdep 2 _ (.inr ⟨rfl, rfl⟩) (waitsB_spec (by kernel_rfl)))⟩) (fun v3 hv3 => ?_)
  · clear hJ hdep hno q0 q1 hDJ hne
    go_simp
  simp only [Act.put, List.setIfInBounds_toArray, List.set_cons_succ, List.set_cons_zero]
  obtain ⟨as3, ns3, cs3, rfl⟩ : ∃ a n c, v3 = .tuple #[.agg #[.slice a n c, .int .i64 4], .int .i64 0] := hv3
  refine wpG_write rfl rfl (fun gs w' hJ hdep hno => ⟨.agg #[.slice as3 ns3 cs3, .int .i64 4], w', ?_, ⟨_, _, _, rfl⟩, hJ.on4 (by decide) _ (hdep 3 _ (.inr ⟨rfl, rfl⟩) (waitsB_spec (by kernel_rfl)))⟩) (fun v4 hv4 => ?_)
  · clear hJ hdep hno q0 q1 hDJ hne
    go_simp
  simp only [Act.put, List.setIfInBounds_toArray, List.set_cons_succ, List.set_cons_zero]
  obtain ⟨at3, nt3, ct3, rfl⟩ : ∃ a n c, v4 = .agg #[.slice a n c, .int .i64 4] := hv4
  refine wpG_read hDJ.out rfl rfl ?_; go_big_quiet_step (fail); refine wpQuiet_nil ?_
  refine wpG_write rfl rfl (fun gs w' hJ hdep hno => ⟨.pointer (some ⟨w'.heap.size, 0, none⟩), w'.alloc (.cells #[.slice none 0 0, .int .i64 0] 38), ?_, ⟨_, rfl⟩, hJ.boxed (by decide) hno⟩) (fun v6 hv6 => ?_)
  · clear hJ hdep hno q0 q1 hDJ hne
    go_simp
  simp only [Act.put, List.setIfInBounds_toArray, List.set_cons_succ, List.set_cons_zero]
  obtain ⟨b3, rfl⟩ : ∃ b : Nat, v6 = .pointer (some ⟨b, 0, none⟩) := hv6
  refine wpG_store rfl rfl (fun gs w' hJ hdep hno => ?_) (fun v7 hv7 => ?_)
  · have h6 := hdep 6 _ (.inr ⟨rfl, rfl⟩) (waitsB_spec (by kernel_rfl))
    have h4 := hdep 4 _ (.inl (.inr ⟨rfl, rfl⟩)) (waitsB_spec (by kernel_rfl))
    obtain ⟨b', x0, x1, e', hWb, hbx, -⟩ := hJ.box _ h6
    simp at e'
    subst e'
    have z0 := heap_cell hbx 0 rfl
    have z1 := heap_cell hbx 1 rfl
    have f0 : w'.frozen? ⟨b3, 0, none⟩ = false := by simp [World.frozen?, hbx]
    have f1 : w'.frozen? ⟨b3, 1, none⟩ = false := by simp [World.frozen?, hbx]
    refine ⟨(w'.setCell ⟨b3, 0, none⟩ (.slice at3 nt3 ct3)).setCell ⟨b3, 1, none⟩ (.int .i64 4), ?_, by simp [SMe], hJ.put (by decide) h4 h6 hbx hWb⟩
    clear hJ hdep hno q0 q1 hDJ hne h4 h6 hWb hbx
    go_simp
  simp only [Act.put, List.setIfInBounds_toArray, List.set_cons_succ, List.set_cons_zero]
  refine wpG_nil ?_
  intro wR3 hJR
  obtain ⟨b', x0, x1, e', hWb3, hbx3, hcon⟩ := hJR.box _ (.inl (.inr ⟨rfl, rfl⟩))
  simp at e'
  subst e'
  obtain ⟨rfl, ⟨ax3, nx3, cx3, rfl⟩, h4x⟩ := hcon ⟨_, .inr ⟨rfl, rfl⟩⟩
  obtain ⟨Lx, sx, vx, ex, hPx, hsx, -⟩ := hJR.res _ (hJR.c3 _ (hJR.c4 _ h4x))
  have evx : vx = .agg #[.slice ax3 nx3 cx3, .int .i64 4] := by simpa using ex.symm
  subst evx
  have hbR := hJR.bel
  have HB3 : Hid (Below w.heap.size w wR3) := Below.thenOf HB2.out hbR HB2.out.size
  have HTB3 : Hid (∀ w', Below wR3.heap.size wR3 w' → Below W2.heap.size W2 w') := fun w' h => id (Below.thenOf hbR h hbR.size)
  have HPx3 : Hid (∀ w', Below wR3.heap.size wR3 w' → PolAt w'.heap.size w' (.agg #[.slice ax3 nx3 cx3, .int .i64 4]) (meetP false madeP trapP) ∧ w'.cell? ⟨b3, 0, none⟩ = some (.slice ax3 nx3 cx3) ∧ w'.cell? ⟨b3, 1, none⟩ = some (.int .i64 4)) := fun w' h => ⟨hPx w' (fun g _ hg => h.block g (by omega)) (Nat.le_trans hsx h.size), heap_cell ((h.block _ (lt_of_block hbx3)).trans hbx3) 0 rfl, heap_cell ((h.block _ (lt_of_block hbx3)).trans hbx3) 1 rfl⟩
  clear hJR hbx3 hWb3 hcon h4x hPx hsx ex hbR q0 q1 hDJ hne
  go_wp2_with fail
  go_at_call 26
  refine Calls.mono (shortD_any _ _ twoP _ (two_pol wR3 73) (by simp)) ?_
  rintro e w4 ⟨v4, rfl, hp4, hb4⟩
  rw [met_short.2.1] at hp4
  rw [met_short.1]
  obtain ⟨a4, n4, c4, rfl⟩ := pol_shape (d := 4) hp4 rfl
  have hb34 : Below wR3.heap.size wR3 w4 := Below.thenOf ((Below.refl _ _).alloc (Nat.le_refl _) _) hb4 (by simp)
  obtain ⟨W5, hW5⟩ : ∃ W5, W5 = w4.alloc (.cells #[.slice a4 n4 c4, .int .i64 4] 38) := ⟨_, rfl⟩
  have hb45 : Below w4.heap.size w4 W5 := by rw [hW5]; exact (Below.refl _ _).alloc (Nat.le_refl _) _
  have hb35 : Below wR3.heap.size wR3 W5 := Below.thenOf hb34 hb45 hb34.size
  have hbx5 : W5.heap[w4.heap.size]? = some (.cells #[.slice a4 n4 c4, .int .i64 4] 38 (0, 0)) := by rw [hW5]; exact heap_made _ _
  have HSh : Hid (∀ w', Below W5.heap.size W5 w' → PolAt w'.heap.size w' (.agg #[.slice a4 n4 c4, .int .i64 4]) ([([], 0)], 4) ∧ w'.cell? ⟨w4.heap.size, 0, none⟩ = some (.slice a4 n4 c4) ∧ w'.cell? ⟨w4.heap.size, 1, none⟩ = some (.int .i64 4)) := fun w' h => ⟨PolAt.wide (hp4.later (Below.thenOf hb45 h hb45.size) (Nat.le_refl _)) (Nat.le_trans hb45.size h.size), heap_cell ((h.block _ (lt_of_block hbx5)).trans hbx5) 0 rfl, heap_cell ((h.block _ (lt_of_block hbx5)).trans hbx5) 1 rfl⟩
  have HB5 : Hid (Below w.heap.size w W5) := Below.thenOf HB3.out hb35 HB3.out.size
  have HT35 : Hid (∀ w', Below W5.heap.size W5 w' → Below wR3.heap.size wR3 w') := fun w' h => Below.thenOf hb35 h hb35.size
  have HT5 : Hid (∀ w', Below W5.heap.size W5 w' → Below W2.heap.size W2 w') := fun w' h => HTB3.out w' (HT35.out w' h)
  have HW5 : Hid (W5 = _) := hW5
  clear hW5 hb45 hbx5 hp4 hb4 hb34 hb35
  go_wp2_with fail
  rw [← HW5.out]
  have hne := Later.ne W5
  have q0 : ∀ z : Later W5, z.1.cell? ⟨w1.heap.size, 0, none⟩ = some (.slice a1 n1 c1) := fun z => (HBx.out z.1 (HT5.out z.1 z.2)).1
  have q1 : ∀ z : Later W5, z.1.cell? ⟨w1.heap.size, 1, none⟩ = some (.int .i64 4) := fun z => (HBx.out z.1 (HT5.out z.1 z.2)).2
  have hDJ : Hid (∀ fs w', JMe 1 W5 4 (meetP true trapP madeP) fs w' → ∃ z : Later W5, w' = z.1) := fun fs w' h => ⟨⟨w', h.bel⟩, rfl⟩
  refine wp_region_free [_, _, _, _, _, _, _, _] _ rfl (fun k => k == 1 || k == 2 || k == 3 || k == 4 || k == 6 || k == 7) (JMe 1 W5 4 (meetP true trapP madeP)) (SMe 1 4) (sMe_some _ _) (by kernel_rfl) (by kernel_rfl) (JMe.start _ _ _ _) ?_
  refine wpG_read hDJ.out rfl rfl ?_; go_big_quiet_step (fail); refine wpQuiet_nil ?_
  refine wpG_call 36 #[] rfl rfl (fun w' => by kernel_rfl) (fun gs w' hJ hdep hno => ?_) (fun v1 hv1 => ?_)
  · refine (made_any w' (HEn.out _ (Below.thenOf HB5.out hJ.bel HB5.out.size)).1.1).mono ?_
    rintro e w9 ⟨pv, rfl, hpn, hb⟩
    obtain ⟨a, n, c, rfl⟩ := pol_shape (d := 4) hpn.at rfl
    exact ⟨_, rfl, ⟨a, n, c, rfl⟩, hJ.made (by decide) hb _ hpn.at⟩
  simp only [Act.put, List.setIfInBounds_toArray, List.set_cons_succ, List.set_cons_zero]
  obtain ⟨am6, nm6, cm6, rfl⟩ : ∃ a n c, v1 = .agg #[.slice a n c, .int .i64 4] := hv1
  refine wpG_call 25 #[.agg #[.slice a1 n1 c1, .int .i64 4], .agg #[.slice am6 nm6 cm6, .int .i64 4]] rfl rfl (fun w' => by kernel_rfl) (fun gs w' hJ hdep hno => ?_) (fun v2 hv2 => ?_)
  · obtain ⟨Bq, hq, hp⟩ := hJ.pol _ (hdep 1 _ (.inr ⟨rfl, rfl⟩) (waitsB_spec (by kernel_rfl))) (hJ.none7 hno)
    have htr := HTr.out w' (HT2.out w' (HT5.out w' hJ.bel))
    have hmd := PolAt.wide hp hq
    refine (exceptD_any w'.heap.size _ _ trapP madeP w' htr hmd (Nat.le_refl _)).mono ?_
    rintro e w9 ⟨v, rfl, hpn, hb⟩
    rw [met_except.2.1] at hpn
    rw [met_except.1]
    obtain ⟨a, n, c, rfl⟩ := pol_shape (d := 4) hpn.at met_except.2.2.1
    exact ⟨_, rfl, ⟨a, n, c, rfl⟩, hJ.meets (by decide) hno hb _ hpn⟩
  simp only [Act.put, List.setIfInBounds_toArray, List.set_cons_succ, List.set_cons_zero]
  obtain ⟨ar6, nr6, cr6, rfl⟩ : ∃ a n c, v2 = .tuple #[.agg #[.slice a n c, .int .i64 4], .int .i64 0] := hv2
  refine wpG_write rfl rfl (fun gs w' hJ hdep hno => ⟨.tuple #[.agg #[.slice ar6 nr6 cr6, .int .i64 4], .int .i64 0], w', ?_, ⟨_, _, _, rfl⟩, hJ.on3 (by decide) _ (hdep 2 _ (.inr ⟨rfl, rfl⟩) (waitsB_spec (by kernel_rfl)))⟩) (fun v3 hv3 => ?_)
  · clear hJ hdep hno q0 q1 hDJ hne
    go_simp
  simp only [Act.put, List.setIfInBounds_toArray, List.set_cons_succ, List.set_cons_zero]
  obtain ⟨as6, ns6, cs6, rfl⟩ : ∃ a n c, v3 = .tuple #[.agg #[.slice a n c, .int .i64 4], .int .i64 0] := hv3
  refine wpG_write rfl rfl (fun gs w' hJ hdep hno => ⟨.agg #[.slice as6 ns6 cs6, .int .i64 4], w', ?_, ⟨_, _, _, rfl⟩, hJ.on4 (by decide) _ (hdep 3 _ (.inr ⟨rfl, rfl⟩) (waitsB_spec (by kernel_rfl)))⟩) (fun v4 hv4 => ?_)
  · clear hJ hdep hno q0 q1 hDJ hne
    go_simp
  simp only [Act.put, List.setIfInBounds_toArray, List.set_cons_succ, List.set_cons_zero]
  obtain ⟨at6, nt6, ct6, rfl⟩ : ∃ a n c, v4 = .agg #[.slice a n c, .int .i64 4] := hv4
  refine wpG_read hDJ.out rfl rfl ?_; go_big_quiet_step (fail); refine wpQuiet_nil ?_
  refine wpG_write rfl rfl (fun gs w' hJ hdep hno => ⟨.pointer (some ⟨w'.heap.size, 0, none⟩), w'.alloc (.cells #[.slice none 0 0, .int .i64 0] 38), ?_, ⟨_, rfl⟩, hJ.boxed (by decide) hno⟩) (fun v6 hv6 => ?_)
  · clear hJ hdep hno q0 q1 hDJ hne
    go_simp
  simp only [Act.put, List.setIfInBounds_toArray, List.set_cons_succ, List.set_cons_zero]
  obtain ⟨b6, rfl⟩ : ∃ b : Nat, v6 = .pointer (some ⟨b, 0, none⟩) := hv6
  refine wpG_store rfl rfl (fun gs w' hJ hdep hno => ?_) (fun v7 hv7 => ?_)
  · have h6 := hdep 6 _ (.inr ⟨rfl, rfl⟩) (waitsB_spec (by kernel_rfl))
    have h4 := hdep 4 _ (.inl (.inr ⟨rfl, rfl⟩)) (waitsB_spec (by kernel_rfl))
    obtain ⟨b', x0, x1, e', hWb, hbx, -⟩ := hJ.box _ h6
    simp at e'
    subst e'
    have z0 := heap_cell hbx 0 rfl
    have z1 := heap_cell hbx 1 rfl
    have f0 : w'.frozen? ⟨b6, 0, none⟩ = false := by simp [World.frozen?, hbx]
    have f1 : w'.frozen? ⟨b6, 1, none⟩ = false := by simp [World.frozen?, hbx]
    refine ⟨(w'.setCell ⟨b6, 0, none⟩ (.slice at6 nt6 ct6)).setCell ⟨b6, 1, none⟩ (.int .i64 4), ?_, by simp [SMe], hJ.put (by decide) h4 h6 hbx hWb⟩
    clear hJ hdep hno q0 q1 hDJ hne h4 h6 hWb hbx
    go_simp
  simp only [Act.put, List.setIfInBounds_toArray, List.set_cons_succ, List.set_cons_zero]
  refine wpG_nil ?_
  intro wR6 hJR
  obtain ⟨b', x0, x1, e', hWb6, hbx6, hcon⟩ := hJR.box _ (.inl (.inr ⟨rfl, rfl⟩))
  simp at e'
  subst e'
  obtain ⟨rfl, ⟨ax6, nx6, cx6, rfl⟩, h4x⟩ := hcon ⟨_, .inr ⟨rfl, rfl⟩⟩
  obtain ⟨Lx, sx, vx, ex, hPx, hsx, -⟩ := hJR.res _ (hJR.c3 _ (hJR.c4 _ h4x))
  have evx : vx = .agg #[.slice ax6 nx6 cx6, .int .i64 4] := by simpa using ex.symm
  subst evx
  have hbR := hJR.bel
  have HB6 : Hid (Below w.heap.size w wR6) := Below.thenOf HB5.out hbR HB5.out.size
  have HTB6 : Hid (∀ w', Below wR6.heap.size wR6 w' → Below W2.heap.size W2 w') := fun w' h => HT5.out w' (Below.thenOf hbR h hbR.size)
  have HPx6 : Hid (∀ w', Below wR6.heap.size wR6 w' → PolAt w'.heap.size w' (.agg #[.slice ax6 nx6 cx6, .int .i64 4]) (meetP true trapP madeP) ∧ w'.cell? ⟨b6, 0, none⟩ = some (.slice ax6 nx6 cx6) ∧ w'.cell? ⟨b6, 1, none⟩ = some (.int .i64 4)) := fun w' h => ⟨hPx w' (fun g _ hg => h.block g (by omega)) (Nat.le_trans hsx h.size), heap_cell ((h.block _ (lt_of_block hbx6)).trans hbx6) 0 rfl, heap_cell ((h.block _ (lt_of_block hbx6)).trans hbx6) 1 rfl⟩
  have HR56 : Hid (∀ w', Below wR6.heap.size wR6 w' → Below W5.heap.size W5 w') := fun w' h => Below.thenOf hbR h hbR.size
  clear hJR hbx6 hWb6 hcon h4x hPx hsx ex hbR q0 q1 hDJ hne
  have HTx : Hid (∀ w' v p, Below w.heap.size w w' → PolAt w'.heap.size w' v p → polErr p = 0 → Calls Tryz.prog 67 #[v] w' fun e w'' => e = .returned (.string (bsB (polText p))) ∧ Below w'.heap.size w' w'') := fun w' v p h hp hok => policyText_any _ v p w' (HEn.out w' h).1 (HEn.out w' h).2 hp (Nat.le_refl _) hok
  obtain ⟨hP3, x0, x1⟩ := HPx3.out wR6 (HT35.out wR6 (HR56.out wR6 (Below.refl _ _)))
  have HT1 : Hid _ := HTx.out wR6 _ _ HB6.out hP3 met_meet.2.2.2.1
  rw [met_meet.2.2.2.2] at HT1
  clear hP3
  go_wp2_with fail
  go_at_call 67
  refine Calls.mono HT1.out ?_
  rintro e w7 ⟨rfl, hb7⟩
  obtain ⟨hP4, y0, y1⟩ := HSh.out w7 (HR56.out w7 hb7)
  have HB7 : Hid (Below w.heap.size w w7) := Below.thenOf HB6.out hb7 HB6.out.size
  have HT2' : Hid _ := HTx.out w7 _ _ HB7.out hP4 met_short.2.2.1
  rw [met_short.2.2.2] at HT2'
  have HR7 : Hid (∀ w', Below w7.heap.size w7 w' → Below wR6.heap.size wR6 w') := fun w' h => Below.thenOf hb7 h hb7.size
  clear hP4 x0 x1 hb7 HT1
  go_wp2_with fail
  go_at_call 67
  refine Calls.mono HT2'.out ?_
  rintro e w8 ⟨rfl, hb8⟩
  obtain ⟨hP6, u0, u1⟩ := HPx6.out w8 (HR7.out w8 hb8)
  have HB8 : Hid (Below w.heap.size w w8) := Below.thenOf HB7.out hb8 HB7.out.size
  have HT3 : Hid _ := HTx.out w8 _ _ HB8.out hP6 met_except.2.2.2.1
  rw [met_except.2.2.2.2] at HT3
  clear hP6 y0 y1 hb8 HT2'
  go_wp2_with fail
  go_at_call 67
  refine Calls.mono HT3.out ?_
  rintro e w9 ⟨rfl, hb9⟩
  have HB9 : Hid (Below w.heap.size w w9) := Below.thenOf HB8.out hb9 HB8.out.size
  clear u0 u1 hb9 HT3
  go_wp2_with fail
  go_ret
  exact ⟨rfl, HB9.out⟩

end Go.Proofs.YtacjnooegahidabGreatDoor
