/- The closed fact: worded() is true. -/
import Derived.Test.YthpllmhnpbigiaaDoorPrs
import Derived.Test.YthpllmhnpbigiaaDoorPrn
import Derived.Test.YthpllmhnpbigiaaDoorRT
import Derived.Test.YthpllmhnpbigiaaDoorMade
import Derived.Test.YthpllmhnpbigiaaDoorSame2
set_option linter.all false
set_option maxRecDepth 100000
namespace Go.Proofs.YthpllmhnpbigiaaDoor
open Go.RowKit Go.Maps

theorem polText_made : bsB (polText madeP) = writtenS := by decide +kernel
theorem polText_made_list : polText madeP = writtenS.data.toList := by
  rw [← polText_made]
  simp [bsB]
theorem parse_made : parseR writtenS.data.toList = (madeP, 0) := by
  unfold parseR
  rw [if_neg (by decide), ← polText_made_list, pol_read madeOk]
  simp only []
  rw [if_pos madeOk]
theorem parse_half : parseR (⟨#[107, 105, 108, 108, 32, 110, 114, 61, 51]⟩ : ByteArray).data.toList = (([], 0), 1) := by rfl
theorem print_made : printR madeP = (polText madeP, 0) := by
  unfold printR
  rw [if_pos madeOk]
theorem PolAt.shape {B : Nat} {w : World} {v : Value} {p : PolT} (h : PolAt B w v p) : ∃ a cap, v = .agg #[.slice a p.1.length cap, .int .i64 p.2] := by
  obtain ⟨rv, rfl, _, a, cap, rfl, _⟩ := h
  exact ⟨a, cap, rfl⟩

theorem polAt_mono {B B' : Nat} {w : World} {v : Value} {p : PolT} (h : PolAt B w v p) (hB : B ≤ B') : PolAt B' w v p := by
  obtain ⟨rv, h1, h2, a, cap, h3, h4, h5, h6⟩ := h
  refine ⟨rv, h1, h2, a, cap, h3, h4, h5, fun i r hr => ?_⟩
  obtain ⟨b, o, k1, k2, cv, k3, k4, k5, a', cap', k6, k7, k8, k9⟩ := h6 i r hr
  refine ⟨b, o, k1, by omega, cv, k3, k4, k5, a', cap', k6, k7, k8, fun j c hc => ?_⟩
  obtain ⟨b', o', m1, m2, m3⟩ := k9 j c hc
  exact ⟨b', o', m1, by omega, m3⟩

def JMade (W : World) (fs : Nat → Value → Prop) (w : World) : Prop := Below W.heap.size W w ∧ ∀ v, fs 16 v → PolAt w.heap.size w v madeP
def SMade (k : Nat) (v : Value) : Prop := if k = 16 then ∃ a cap, v = .agg #[.slice a 2 cap, .int .i64 4] else v = .bool true
theorem sMade_some (k : Nat) : ∃ v, SMade k v := by
  unfold SMade
  split
  · exact ⟨_, none, 0, rfl⟩
  · exact ⟨_, rfl⟩

set_option maxHeartbeats 8000000 in
theorem worded_true (w : World) (he : EnvT w) : Calls Tryd.prog 24 #[] w fun e w' => e = .returned (.bool true) ∧ Below w.heap.size w w' := by
  have HP : Hid (Calls Tryd.prog 22 #[.string writtenS] w fun e w' => ∃ pv, e = .returned (.tuple #[pv, .int .i64 0]) ∧ PolN w.heap.size w' pv madeP ∧ Below w.heap.size w w') := by
    have := parse_any writtenS w he
    rw [parse_made] at this
    exact this
  have HQ : Hid (∀ w', Below w.heap.size w w' → Calls Tryd.prog 22 #[.string ⟨#[107, 105, 108, 108, 32, 110, 114, 61, 51]⟩] w' fun e w'' => ∃ pv, e = .returned (.tuple #[pv, .int .i64 1]) ∧ PolN w'.heap.size w'' pv ([], 0) ∧ Below w'.heap.size w' w'') := fun w' h => by
    have := parse_any ⟨#[107, 105, 108, 108, 32, 110, 114, 61, 51]⟩ w' (he.later h)
    rw [parse_half] at this
    exact this
  have HM : Hid (∀ w', Below w.heap.size w w' → Calls Tryd.prog 40 #[] w' fun e w'' => ∃ pv, e = .returned pv ∧ PolAt w''.heap.size w'' pv madeP ∧ Below w'.heap.size w' w'') := fun w' h => (made_any w' (he.later h).1).mono fun e w'' ⟨pv, h1, h2, h3⟩ => ⟨pv, h1, h2.at, h3⟩
  have HR : Hid (∀ w' pv, Below w.heap.size w w' → PolAt w'.heap.size w' pv madeP → Calls Tryd.prog 21 #[pv] w' fun e w'' => e = .returned (.tuple #[.string ⟨#[107, 105, 108, 108, 32, 110, 114, 61, 51, 32, 97, 60, 53, 59, 108, 111, 103, 32, 107, 105, 110, 100, 33, 48, 59, 97, 108, 108, 111, 119]⟩, .int .i64 0]) ∧ Below w'.heap.size w' w'') := fun w' pv h hp => by
    have := print_any w'.heap.size pv madeP w' (he.later h) hp (Nat.le_refl _)
    rw [print_made] at this
    simp only [polText_made] at this
    exact this
  have HS : Hid (∀ w' pv qv, PolAt w'.heap.size w' pv madeP → PolAt w'.heap.size w' qv madeP → Calls Tryd.prog 13 #[pv, qv] w' fun e w'' => e = .returned (.bool true) ∧ Below w'.heap.size w' w'') := fun w' pv qv h1 h2 => by
    have := same_any w'.heap.size pv qv madeP madeP w' h1 h2 (Nat.le_refl _)
    simpa using this
  have hl2 : madeP.1.length = 2 := rfl
  have hd4 : madeP.2 = 4 := rfl
  go_enter Tryd.func24, Tryd.ntmps24
  go_wp2_with fail
  go_at_call 22
  refine Calls.mono HP.out ?_
  rintro e w1 ⟨pv, rfl, hpn, hb1⟩
  obtain ⟨a1, cap1, rfl⟩ := hpn.at.shape
  rw [hl2, hd4] at hpn ⊢
  have hpnH : Hid (PolN w.heap.size w1 (.agg #[.slice a1 2 cap1, .int .i64 4]) madeP) := hpn
  clear hpn
  obtain ⟨W2, hW2⟩ : ∃ W2, W2 = w1.alloc (.cells #[.slice a1 2 cap1, .int .i64 4] 24) := ⟨_, rfl⟩
  have hb2 : Below w1.heap.size w1 W2 := by rw [hW2]; exact (Below.refl _ _).alloc (Nat.le_refl _) _
  have hbx2 : W2.heap[w1.heap.size]? = some (.cells #[.slice a1 2 cap1, .int .i64 4] 24 (0, 0)) := by rw [hW2]; exact (MapKept.heap_alloc w1 _).1
  have hs2 : W2.heap.size = w1.heap.size + 1 := by rw [hW2]; simp
  have hbw2 : Below w.heap.size w W2 := Below.thenOf hb1 hb2 hb1.size
  go_wp2_with fail
  rw [← hW2]
  clear hW2
  go_at_call 40
  refine Calls.mono (HM.out _ hbw2) ?_
  rintro e w3 ⟨qv, rfl, hq3, hb3⟩
  obtain ⟨a3, cap3, rfl⟩ := hq3.shape
  rw [hl2, hd4] at hq3 ⊢
  have hbw3 : Below w.heap.size w w3 := Below.thenOf hbw2 hb3 hbw2.size
  have hq3H : Hid _ := hq3
  clear hq3
  go_wp2_with fail
  go_at_call 21
  refine Calls.mono (HR.out _ _ hbw3 hq3H.out) ?_
  rintro e w4 ⟨rfl, hb4⟩
  have hbw4 : Below w.heap.size w w4 := Below.thenOf hbw3 hb4 hbw3.size
  go_wp2_with fail
  go_at_call 22
  refine Calls.mono (HQ.out _ hbw4) ?_
  rintro e w5 ⟨zv, rfl, hz5, hb5⟩
  obtain ⟨a5, cap5, rfl⟩ := hz5.at.shape
  have hbw5 : Below w.heap.size w w5 := Below.thenOf hbw4 hb5 hbw4.size
  simp only [List.length_nil] at hz5 ⊢
  obtain ⟨W6, hW6⟩ : ∃ W6, W6 = w5.alloc (.cells #[.slice a5 0 cap5, .int .i64 0] 24) := ⟨_, rfl⟩
  have hb6 : Below w5.heap.size w5 W6 := by rw [hW6]; exact (Below.refl _ _).alloc (Nat.le_refl _) _
  have hb26 : Below W2.heap.size W2 W6 := Below.thenOf (Below.thenOf (Below.thenOf hb3 hb4 hb3.size) hb5 (Nat.le_trans hb3.size hb4.size)) hb6 (Nat.le_trans (Nat.le_trans hb3.size hb4.size) hb5.size)
  have hbw6 : Below w.heap.size w W6 := Below.thenOf hbw5 hb6 hbw5.size
  have hbx6 : W6.heap[w1.heap.size]? = some (.cells #[.slice a1 2 cap1, .int .i64 4] 24 (0, 0)) := (hb26.block _ (by omega)).trans hbx2
  have hp6 : Hid (∀ w', Below W6.heap.size W6 w' → PolAt w'.heap.size w' (.agg #[.slice a1 2 cap1, .int .i64 4]) madeP) := fun w' h => by
    have hb12 : Below w1.heap.size w1 w' := Below.thenOf (Below.thenOf hb2 hb26 hb2.size) h (Nat.le_trans hb2.size hb26.size)
    exact (hpnH.out.keep (fun g h1 h2 => hb12.block g h2) hb12.size).at
  obtain ⟨c0, c1, _, _⟩ := cell_of_two hbx6
  have hs6 := hb26.size
  clear hz5 hbx2 hbx6 hb3 hb4 hb5
  go_wp2_with fail
  rw [← hW6]
  clear hW6
  have hne := Later.ne W6
  have hDJ : Hid (∀ fs w', JMade W6 fs w' → ∃ z : Later W6, w' = z.1) := fun fs w' h => ⟨⟨w', h.1⟩, rfl⟩
  have q0 : ∀ z : Later W6, z.1.cell? ⟨w1.heap.size, 0, none⟩ = some (.slice a1 2 cap1) := fun z => z.cell c0 (by omega)
  have q1 : ∀ z : Later W6, z.1.cell? ⟨w1.heap.size, 1, none⟩ = some (.int .i64 4) := fun z => z.cell c1 (by omega)
  refine wp_region_all (fun k => k == 16 || k == 17) (JMade W6) SMade sMade_some (by kernel_rfl) (by kernel_rfl) ⟨(Below.refl _ _).drew, fun _ h => h.elim⟩ ?_
  iterate 16 (refine wpG_read hDJ.out rfl rfl ?_; go_big_quiet_step (fail); refine wpQuiet_nil ?_)
  refine wpG_call 40 #[] rfl rfl (fun w' => by kernel_rfl) (fun gs w' hJ hdep hno => ?_) (fun v1 hv1 => ?_)
  · refine (HM.out w' (Below.thenOf hbw6 hJ.1 hbw6.size)).mono ?_
    rintro e w7 ⟨qv, rfl, hq7, hb7⟩
    obtain ⟨a7, cap7, rfl⟩ := hq7.shape
    refine ⟨_, rfl, ⟨a7, cap7, rfl⟩, Below.thenOf hJ.1 hb7 hJ.1.size, fun v hv => ?_⟩
    rcases hv with hv | ⟨_, rfl⟩
    · exact absurd hv (hno v)
    · exact hq7
  simp only [Act.put, List.setIfInBounds_toArray, List.set_cons_succ, List.set_cons_zero]
  obtain ⟨a7, cap7, rfl⟩ : ∃ a cap, v1 = .agg #[.slice a 2 cap, .int .i64 4] := hv1
  refine wpG_call 13 #[.agg #[.slice a1 2 cap1, .int .i64 4], .agg #[.slice a7 2 cap7, .int .i64 4]] rfl rfl (fun w' => by kernel_rfl) (fun gs w' hJ hdep hno => ?_) (fun v2 hv2 => ?_)
  · refine (HS.out w' _ _ (hp6.out w' hJ.1) (hJ.2 _ (hdep 16 _ (.inr ⟨rfl, rfl⟩) (waitsB_spec (by kernel_rfl))))).mono ?_
    rintro e w8 ⟨rfl, hb8⟩
    refine ⟨_, rfl, rfl, Below.thenOf hJ.1 hb8 hJ.1.size, fun v hv => ?_⟩
    rcases hv with hv | ⟨e, _⟩
    · exact polAt_mono ((hJ.2 v hv).later hb8 (Nat.le_refl _)) hb8.size
    · cases e
  simp only [Act.put, List.setIfInBounds_toArray, List.set_cons_succ, List.set_cons_zero]
  obtain rfl : v2 = .bool true := hv2
  iterate 4 (refine wpG_read hDJ.out rfl rfl ?_; go_big_quiet_step (fail); refine wpQuiet_nil ?_)
  refine wpG_readV (.int .i64 2) rfl rfl (fun w' => by kernel_rfl) ?_
  simp only [Act.put, List.setIfInBounds_toArray, List.set_cons_succ, List.set_cons_zero]
  iterate 3 (refine wpG_read hDJ.out rfl rfl ?_; go_big_quiet_step (fail); refine wpQuiet_nil ?_)
  refine wpG_nil ?_
  intro w9 hJ9
  have hbw9 : Below w.heap.size w w9 := Below.thenOf hbw6 hJ9.1 hbw6.size
  clear hJ9 q0 q1 hDJ hne
  go_wp2_with fail
  go_ret
  exact ⟨rfl, hbw9⟩

end Go.Proofs.YthpllmhnpbigiaaDoor
