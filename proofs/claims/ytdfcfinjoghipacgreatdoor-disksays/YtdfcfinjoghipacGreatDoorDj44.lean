/- Joined: DkD Fld DskC. -/
import Derived.Test.YtdfcfinjoghipacGreatDoorDj41
import Derived.Test.YtdfcfinjoghipacGreatDoorDj42
import Derived.Test.YtdfcfinjoghipacGreatDoorDj43
import Derived.Test.YtdfcfinjoghipacGreatDoorDj37
section
/- What the program's own package disk says of any disk. -/
set_option linter.all false
namespace Go.Proofs.YtdfcfinjoghipacGreatDoor
open Go.RowKit Go.Maps

theorem putK_any (B : Nat) (v rv : Value) (d : DiskT) (r : RecT) (w : World) (he : EnvT w) (hd : DiskAt B w v d) (hr : RecAt B w rv r) (hB : B ≤ w.heap.size) (hsm : DSm d) :
    Calls Tryz.prog 21 #[v, rv] w fun e w' => ∃ v', e = .returned (.tuple #[v', .int .i64 (dPutE d r)]) ∧ DiskAt w'.heap.size w' v' (dPutR d r) ∧ Below w.heap.size w w' := (putK_new B v rv d r w he hd hr hB hsm).mono fun e w' ⟨v', h1, h2, h3⟩ => ⟨v', h1, h2.at, h3⟩
theorem syncK_any (B : Nat) (v : Value) (d : DiskT) (w : World) (he : EnvT w) (hd : DiskAt B w v d) (hB : B ≤ w.heap.size) (hsm : DSm d) :
    Calls Tryz.prog 22 #[v] w fun e w' => ∃ v', e = .returned (.tuple #[v', .int .i64 (dSyncE d)]) ∧ DiskAt w'.heap.size w' v' (dSyncR d) ∧ Below w.heap.size w w' := (syncK_new B v d w he hd hB hsm).mono fun e w' ⟨v', h1, h2, h3⟩ => ⟨v', h1, h2.at, h3⟩
theorem crashK_any (B : Nat) (v : Value) (d : DiskT) (n : Int) (w : World) (he : EnvT w) (hn : wf n) (hd : DiskAt B w v d) (hB : B ≤ w.heap.size) (hsm : DSm d) :
    Calls Tryz.prog 23 #[v, .int .i64 n] w fun e w' => ∃ v', e = .returned (.tuple #[v', .int .i64 (dCrashE d n)]) ∧ DiskAt w'.heap.size w' v' (dCrashR d n) ∧ Below w.heap.size w w' := (crashK_new B v d n w he hn hd hB hsm).mono fun e w' ⟨v', h1, h2, h3⟩ => ⟨v', h1, h2.at, h3⟩
theorem recoverK_any (B : Nat) (v : Value) (d : DiskT) (w : World) (he : EnvT w) (hd : DiskAt B w v d) (hB : B ≤ w.heap.size) (hsm : DSm d) :
    Calls Tryz.prog 24 #[v] w fun e w' => ∃ v' lv, e = .returned (.tuple #[v', lv, .int .i64 (diskErr d)]) ∧ DiskAt w'.heap.size w' v' (dRecR d) ∧ RecsAt w'.heap.size w' lv (dRecL d) ∧ Below w.heap.size w w' := (recoverK_new B v d w he hd hB hsm).mono fun e w' ⟨v', lv, h1, h2, h3, h4⟩ => ⟨v', lv, h1, h2.at, h3, h4⟩
end Go.Proofs.YtdfcfinjoghipacGreatDoor
end
section
/- The closed fact about disks is true. -/
set_option linter.all false
set_option maxRecDepth 100000
namespace Go.Proofs.YtdfcfinjoghipacGreatDoor
open Go.RowKit Go.Maps

theorem DiskAt.shape {B : Nat} {w : World} {v : Value} {d : DiskT} (h : DiskAt B w v d) : ∃ a c b k, v = .agg #[.slice a d.1.length c, .slice b d.2.length k] := by
  obtain ⟨sv, tv, rfl, ⟨a, c, rfl, _⟩, ⟨b, k, rfl, _⟩⟩ := h
  exact ⟨a, c, b, k, rfl⟩
theorem shAt (B : Nat) (w : World) (k : Int) (hk : wf k) : RecAt B w (.agg #[.int .i64 4, .int .i64 k, .int .i64 0, .slice none 0 0, .int .i64 0]) (shR k) :=
  ⟨_, rfl, (by show wf (4 : Int); unfold wf; decide), hk, (by show wf (0 : Int); unfold wf; decide), polAt_zero B w⟩

/-- A disk's box is written anew. -/
theorem diskBox {w : World} {k : Nat} {a b a' b' : Option Addr} {n c m d n' c' m' d' : Nat} {T : TypeId} {x : DiskT} (hk : w.heap[k]? = some (.cells #[.slice a n c, .slice b m d] T (0, 0))) (hd : DiskAt w.heap.size w (.agg #[.slice a' n' c', .slice b' m' d']) x) : ∃ W, W = (w.setCell ⟨k, 0, none⟩ (.slice a' n' c')).setCell ⟨k, 1, none⟩ (.slice b' m' d') ∧ W.heap[k]? = some (.cells #[.slice a' n' c', .slice b' m' d'] T (0, 0)) ∧ W.heap.size = w.heap.size ∧ DiskAt W.heap.size W (.agg #[.slice a' n' c', .slice b' m' d']) x ∧ KeepX k w W ∧ ∀ L, L ≤ k → Below L w W := by
  obtain ⟨k0, k1, k2⟩ := box_put (u := .slice a' n' c') (v := .slice b' m' d') hk
  refine ⟨_, rfl, k0, k2, ?_, k1, fun L hL => ((Below.refl L w).setCell (p := ⟨k, 0, none⟩) hL _).setCell (p := ⟨k, 1, none⟩) hL _⟩
  rw [k2]
  obtain ⟨sv, tv, e, h1, h2⟩ := hd
  exact ⟨sv, tv, e, h1.box k1 (NoInts.of hk), h2.box k1 (NoInts.of hk)⟩

set_option maxHeartbeats 8000000 in
theorem filed_true (w : World) (he : EnvT w) : Calls Tryz.prog 26 #[] w fun e w' => e = .returned (.bool true) ∧ Below w.heap.size w w' := by
  have HP1 : Hid (∀ w', Below w.heap.size w w' → Calls Tryz.prog 21 #[.agg #[.slice none 0 0, .slice none 0 0], .agg #[.int .i64 4, .int .i64 2, .int .i64 0, .slice none 0 0, .int .i64 0]] w' fun e w'' => ∃ a c b k, e = .returned (.tuple #[.agg #[.slice a 0 c, .slice b 7 k], .int .i64 0]) ∧ DiskAt w''.heap.size w'' (.agg #[.slice a 0 c, .slice b 7 k]) ([], shT 2 ++ [10]) ∧ Below w'.heap.size w' w'') := fun w' h => by
    have := putK_any w'.heap.size _ _ ([], []) (shR 2) w' (he.later h) (diskAt_zero _ _) (shAt _ _ 2 (by unfold wf; decide)) (Nat.le_refl _) (dSm_ok fd1)
    rw [fd_put1.1, fd_put1.2] at this
    refine this.mono fun e w'' ⟨v, h1, h2, h3⟩ => ?_
    obtain ⟨a, c, b, k, ev⟩ := h2.shape
    subst ev
    exact ⟨a, c, b, k, h1, h2, h3⟩
  have HSy : Hid (∀ w' v, Below w.heap.size w w' → DiskAt w'.heap.size w' v ([], shT 2 ++ [10]) → Calls Tryz.prog 22 #[v] w' fun e w'' => ∃ a c b k, e = .returned (.tuple #[.agg #[.slice a 7 c, .slice b 0 k], .int .i64 0]) ∧ DiskAt w''.heap.size w'' (.agg #[.slice a 7 c, .slice b 0 k]) (shT 2 ++ [10], []) ∧ Below w'.heap.size w' w'') := fun w' v h hv => by
    have := syncK_any w'.heap.size _ _ w' (he.later h) hv (Nat.le_refl _) (dSm_ok fd2)
    rw [fd_sync.1, fd_sync.2] at this
    refine this.mono fun e w'' ⟨v, h1, h2, h3⟩ => ?_
    obtain ⟨a, c, b, k, ev⟩ := h2.shape
    subst ev
    exact ⟨a, c, b, k, h1, h2, h3⟩
  have HP2 : Hid (∀ w' v, Below w.heap.size w w' → DiskAt w'.heap.size w' v (shT 2 ++ [10], []) → Calls Tryz.prog 21 #[v, .agg #[.int .i64 4, .int .i64 3, .int .i64 0, .slice none 0 0, .int .i64 0]] w' fun e w'' => ∃ a c b k, e = .returned (.tuple #[.agg #[.slice a 7 c, .slice b 7 k], .int .i64 0]) ∧ DiskAt w''.heap.size w'' (.agg #[.slice a 7 c, .slice b 7 k]) (shT 2 ++ [10], shT 3 ++ [10]) ∧ Below w'.heap.size w' w'') := fun w' v h hv => by
    have := putK_any w'.heap.size _ _ _ (shR 3) w' (he.later h) hv (shAt _ _ 3 (by unfold wf; decide)) (Nat.le_refl _) (dSm_ok fd3)
    rw [fd_put2.1, fd_put2.2] at this
    refine this.mono fun e w'' ⟨v, h1, h2, h3⟩ => ?_
    obtain ⟨a, c, b, k, ev⟩ := h2.shape
    subst ev
    exact ⟨a, c, b, k, h1, h2, h3⟩
  have HCr : Hid (∀ w' v, Below w.heap.size w w' → DiskAt w'.heap.size w' v (shT 2 ++ [10], shT 3 ++ [10]) → Calls Tryz.prog 23 #[v, .int .i64 4] w' fun e w'' => ∃ a c b k, e = .returned (.tuple #[.agg #[.slice a 7 c, .slice b 4 k], .int .i64 0]) ∧ DiskAt w''.heap.size w'' (.agg #[.slice a 7 c, .slice b 4 k]) (shT 2 ++ [10], [115, 104, 117, 116]) ∧ Below w'.heap.size w' w'') := fun w' v h hv => by
    have := crashK_any w'.heap.size _ _ 4 w' (he.later h) (by unfold wf; decide) hv (Nat.le_refl _) (dSm_ok fd4)
    rw [fd_crash.1, fd_crash.2] at this
    refine this.mono fun e w'' ⟨v, h1, h2, h3⟩ => ?_
    obtain ⟨a, c, b, k, ev⟩ := h2.shape
    subst ev
    exact ⟨a, c, b, k, h1, h2, h3⟩
  have HRe : Hid (∀ w' v, Below w.heap.size w w' → DiskAt w'.heap.size w' v (shT 2 ++ [10], [115, 104, 117, 116]) → Calls Tryz.prog 24 #[v] w' fun e w'' => ∃ a c b k g o m, e = .returned (.tuple #[.agg #[.slice a 7 c, .slice b 0 k], .slice (some ⟨g, o, none⟩) 1 m, .int .i64 0]) ∧ DiskAt w''.heap.size w'' (.agg #[.slice a 7 c, .slice b 0 k]) (shT 2 ++ [10], []) ∧ w''.cell? ⟨g, o + 1, none⟩ = some (.int .i64 2) ∧ g < w''.heap.size ∧ 1 ≤ m ∧ m ≤ maxLen ∧ Below w'.heap.size w' w'') := fun w' v h hv => by
    have := recoverK_any w'.heap.size _ _ w' (he.later h) hv (Nat.le_refl _) (dSm_ok fd5)
    rw [fd5, fd_rec.1, fd_rec.2] at this
    refine this.mono fun e w'' ⟨v, lv, h1, h2, h4, h3⟩ => ?_
    obtain ⟨a, c, b, k, ev⟩ := h2.shape
    subst ev
    obtain ⟨la, m, el, hm1, hm2, hr⟩ := h4
    obtain ⟨g, o, eg, hl, rv, c0, c1, -⟩ := hr 0 (shR 2) rfl
    subst el eg
    exact ⟨a, c, b, k, g, o, m, h1, h2, by have := c1; simp only [Nat.zero_mul, Nat.add_zero] at this; exact this, hl, hm1, hm2, h3⟩
  clear he
  go_enter Tryz.func26, Tryz.ntmps26
  go_wp2_with fail
  refine Calls.mono (HP1.out w (Below.refl _ _)) ?_
  rintro e w1 ⟨a1, c1, b1, k1, rfl, hd1, hb1⟩
  obtain ⟨W1, hW1⟩ : ∃ W1, W1 = w1.alloc (.cells #[.slice a1 0 c1, .slice b1 7 k1] 48) := ⟨_, rfl⟩
  have HW1 : Hid (W1 = _) := hW1
  have g1 : W1.heap[w1.heap.size]? = some (.cells #[.slice a1 0 c1, .slice b1 7 k1] 48 (0, 0)) := by rw [hW1]; exact heap_made _ _
  have bb1 : Below w1.heap.size w1 W1 := by rw [hW1]; exact (Below.refl _ _).alloc (Nat.le_refl _) _
  have bw1 : Below w.heap.size w W1 := Below.thenOf hb1 bb1 hb1.size
  have HD1 : Hid (DiskAt W1.heap.size W1 (.agg #[.slice a1 0 c1, .slice b1 7 k1]) ([], shT 2 ++ [10])) := by
    obtain ⟨sv, tv, e, h1, h2⟩ := hd1.later bb1 (Nat.le_refl _)
    exact ⟨sv, tv, e, h1.wide bb1.size, h2.wide bb1.size⟩
  have hL : w.heap.size ≤ w1.heap.size := hb1.size
  have HG1 : Hid (W1.heap[w1.heap.size]? = some (.cells #[.slice a1 0 c1, .slice b1 7 k1] 48 (0, 0))) := g1
  have hs1 : w1.heap.size < W1.heap.size := lt_of_block g1
  have HBw1 : Hid (Below w.heap.size w W1) := bw1
  clear hW1 hd1 bb1 bw1 g1 hb1
  go_wp2_with fail
  rw [← HW1.out]
  refine Calls.mono (HSy.out W1 _ HBw1.out HD1.out) ?_
  rintro e w2 ⟨a2, c2, b2, k2, rfl, hd2, hb2⟩
  have g2 : w2.heap[w1.heap.size]? = some (.cells #[.slice a1 0 c1, .slice b1 7 k1] 48 (0, 0)) := (hb2.block _ hs1).trans HG1.out
  obtain ⟨yy0, yy1, ff0, ff1⟩ := box_free g2
  obtain ⟨W2, hW2, gg2, ss2, dd2, -, bb2⟩ := diskBox g2 hd2
  have HW2 : Hid (W2 = _) := hW2
  have HG2 : Hid (W2.heap[w1.heap.size]? = some (.cells #[.slice a2 7 c2, .slice b2 0 k2] 48 (0, 0))) := gg2
  have HD2 : Hid (DiskAt W2.heap.size W2 (.agg #[.slice a2 7 c2, .slice b2 0 k2]) (shT 2 ++ [10], [])) := dd2
  have hs2 : w1.heap.size < W2.heap.size := lt_of_block gg2
  have HBw2 : Hid (Below w.heap.size w W2) := Below.trans (Below.thenOf HBw1.out hb2 HBw1.out.size) (bb2 _ hL)
  clear g2 hW2 gg2 ss2 dd2 bb2 hd2 hb2 HG1 HD1 HW1 HBw1 hs1
  go_wp2_with fail
  rw [← HW2.out]
  clear yy0 yy1 ff0 ff1
  refine Calls.mono (HP2.out W2 _ HBw2.out HD2.out) ?_
  rintro e w3 ⟨a3, c3, b3, k3, rfl, hd3, hb3⟩
  have g3 : w3.heap[w1.heap.size]? = some (.cells #[.slice a2 7 c2, .slice b2 0 k2] 48 (0, 0)) := (hb3.block _ hs2).trans HG2.out
  obtain ⟨yy0, yy1, ff0, ff1⟩ := box_free g3
  obtain ⟨W3, hW3, gg3, ss3, dd3, -, bb3⟩ := diskBox g3 hd3
  have HW3 : Hid (W3 = _) := hW3
  have HG3 : Hid (W3.heap[w1.heap.size]? = some (.cells #[.slice a3 7 c3, .slice b3 7 k3] 48 (0, 0))) := gg3
  have HD3 : Hid (DiskAt W3.heap.size W3 (.agg #[.slice a3 7 c3, .slice b3 7 k3]) (shT 2 ++ [10], shT 3 ++ [10])) := dd3
  have hs3 : w1.heap.size < W3.heap.size := lt_of_block gg3
  have HBw3 : Hid (Below w.heap.size w W3) := Below.trans (Below.thenOf HBw2.out hb3 HBw2.out.size) (bb3 _ hL)
  clear g3 hW3 gg3 ss3 dd3 bb3 hd3 hb3 HG2 HD2 HW2 HBw2 hs2
  go_wp2_with fail
  rw [← HW3.out]
  clear yy0 yy1 ff0 ff1
  refine Calls.mono (HCr.out W3 _ HBw3.out HD3.out) ?_
  rintro e w4 ⟨a4, c4, b4, k4, rfl, hd4, hb4⟩
  have g4 : w4.heap[w1.heap.size]? = some (.cells #[.slice a3 7 c3, .slice b3 7 k3] 48 (0, 0)) := (hb4.block _ hs3).trans HG3.out
  obtain ⟨yy0, yy1, ff0, ff1⟩ := box_free g4
  obtain ⟨W4, hW4, gg4, ss4, dd4, -, bb4⟩ := diskBox g4 hd4
  have HW4 : Hid (W4 = _) := hW4
  have HG4 : Hid (W4.heap[w1.heap.size]? = some (.cells #[.slice a4 7 c4, .slice b4 4 k4] 48 (0, 0))) := gg4
  have HD4 : Hid (DiskAt W4.heap.size W4 (.agg #[.slice a4 7 c4, .slice b4 4 k4]) (shT 2 ++ [10], [115, 104, 117, 116])) := dd4
  have hs4 : w1.heap.size < W4.heap.size := lt_of_block gg4
  have HBw4 : Hid (Below w.heap.size w W4) := Below.trans (Below.thenOf HBw3.out hb4 HBw3.out.size) (bb4 _ hL)
  clear g4 hW4 gg4 ss4 dd4 bb4 hd4 hb4 HG3 HD3 HW3 HBw3 hs3
  go_wp2_with fail
  rw [← HW4.out]
  clear yy0 yy1 ff0 ff1
  refine Calls.mono (HRe.out W4 _ HBw4.out HD4.out) ?_
  rintro e w5 ⟨a5, c5, b5, k5, g, o, m, rfl, hd5, hcell, hgl, hm1, hm2, hb5⟩
  have g5 : w5.heap[w1.heap.size]? = some (.cells #[.slice a4 7 c4, .slice b4 4 k4] 48 (0, 0)) := (hb5.block _ hs4).trans HG4.out
  obtain ⟨yy0, yy1, ff0, ff1⟩ := box_free g5
  obtain ⟨W5, hW5, gg5, ss5, dd5, kk5, bb5⟩ := diskBox g5 hd5
  have HW5 : Hid (W5 = _) := hW5
  obtain ⟨v0, v1, -, -⟩ := box_free gg5
  have hcl5 : W5.cell? ⟨g, o + 1, none⟩ = some (.int .i64 2) := kk5.cell (NoInts.of g5) hcell
  have HCv : Hid ((convert 46 9 (.slice a5 7 c5)).run Tryz.prog W5 = .ok (.string ⟨#[115, 104, 117, 116, 32, 50, 10]⟩) W5) := by
    obtain ⟨sv, tv, e, h1, h2⟩ := dd5
    simp at e
    rw [← e.1] at h1
    exact bytes_string h1
  have HBw5 : Hid (Below w.heap.size w W5) := Below.trans (Below.thenOf HBw4.out hb5 HBw4.out.size) (bb5 _ hL)
  clear g5 hW5 gg5 ss5 dd5 bb5 hd5 hb5 HG4 HD4 HW4 HBw4 hs4 kk5 HP1 HSy HP2 HCr HRe
  go_wp2_with fail
  rw [← HW5.out, HCv.out]
  clear HW5 HCv yy0 yy1 ff0 ff1 hcell
  go_wp2_with fail
  go_ret
  exact ⟨rfl, HBw5.out⟩
end Go.Proofs.YtdfcfinjoghipacGreatDoor
end
section
/- slices.EqualFunc of records. -/
set_option linter.all false
set_option maxRecDepth 100000
namespace Go.Proofs.YtdfcfinjoghipacGreatDoor
open Go.RowKit Go.Maps

set_option maxHeartbeats 4000000 in
theorem equalRecs_any (B : Nat) (F : FuncId) (hC : ∀ args w', (callFunc F args).run Tryz.prog w' = .ok (.enter F args) w') (HF : Hid (∀ (w' : World) (u v : Value) (r q : RecT), RecAt w'.heap.size w' u r → RecAt w'.heap.size w' v q → Calls Tryz.prog F #[u, v] w' fun e w'' => e = .returned (.bool (decide (r = q))) ∧ Below w'.heap.size w' w'')) (cv dv : Value) (cs ds : List RecT) (w : World) (hc : RecsAt B w cv cs) (hd : RecsAt B w dv ds) (hB : B ≤ w.heap.size) :
    Calls Tryz.prog 33 #[cv, dv, .func (.func F) #[] #[]] w fun e w' => e = .returned (.bool (decide (cs = ds))) ∧ Below w.heap.size w w' := by
  have HK : Hid (∀ args w', (callFunc F args).run Tryz.prog w' = .ok (.enter F args) w') := hC
  clear hC
  have HC : Hid (∀ w', Below w.heap.size w w' → RecsAt B w' cv cs ∧ RecsAt B w' dv ds) := fun w' h => ⟨hc.later h hB, hd.later h hB⟩
  obtain ⟨a, cap, rfl, hlc, hcm, -⟩ := id hc
  obtain ⟨a2, cap2, rfl, hlc2, hcm2, -⟩ := id hd
  clear hc hd
  by_cases hne : cs.length = ds.length
  · obtain ⟨n, hn⟩ : ∃ n, n = cs.length := ⟨_, rfl⟩
    have hm : ds.length = n := by omega
    rw [← hn] at hlc HC ⊢
    rw [hm] at hlc2 HC ⊢
    have hml : n ≤ 9223372036854775807 := by have := maxLen_eq; omega
    have HN : Hid (cs.length = n ∧ ds.length = n) := ⟨hn.symm, hm⟩
    clear hn hm hne
    go_enter Tryz.func33, Tryz.ntmps33
    go_wp2_with fail
    go_loopw [17] (fun i wr => ∃ k : Nat, k ≤ n ∧ i = .int .i64 k ∧ Hid (∀ i, i < k → cs[i]? = ds[i]?) ∧ Hid (Below w.heap.size w wr)) (fun i _ => n - (intOf i).toNat)
    case atStart => exact ⟨0, by omega, rfl, fun i h => absurd h (by omega), Below.refl _ _⟩
    case round =>
      obtain ⟨k, hk, rfl, H, Hbr⟩ := hrel
      have i0 : (0 : Int) ≤ (k : Int) := by omega
      by_cases hlt : k < n
      · have i1 : (k : Int) < (n : Int) := by omega
        obtain ⟨c, hck⟩ : ∃ c, cs[k]? = some c := ⟨cs[k]'(by have := HN.out.1; omega), by simp⟩
        obtain ⟨d, hdk⟩ : ∃ d, ds[k]? = some d := ⟨ds[k]'(by have := HN.out.2; omega), by simp⟩
        obtain ⟨hc1, hd1⟩ := HC.out wr Hbr.out
        obtain ⟨a', cap', e', -, -, hc2⟩ := hc1
        obtain ⟨b, o, eb, hbB, rv, c0, c1, c2, c3, c4, hcr⟩ := hc2 k c hck
        obtain ⟨a'', cap'', e'', -, -, hd2⟩ := hd1
        obtain ⟨b2, o2, eb2, hbB2, rv2, d0, d1, d2, d3, d4, hdr⟩ := hd2 k d hdk
        simp at e' e''
        obtain ⟨ea, -, -⟩ := e'
        obtain ⟨ea2, -, -⟩ := e''
        rw [eb] at ea
        rw [eb2] at ea2
        subst ea ea2
        clear eb eb2 hc2 hd2
        obtain ⟨ra, rc, er, -⟩ := hcr.shape
        obtain ⟨ra2, rc2, er2, -⟩ := hdr.shape
        simp at er er2
        subst er er2
        generalize c.2.2.2.1.length = rl at *
        generalize d.2.2.2.1.length = rl2 at *
        have hsz := Hbr.out.size
        have hbl : b < wr.heap.size := by omega
        have hbl2 : b2 < wr.heap.size := by omega
        have HCR : Hid (∀ w', Below wr.heap.size wr w' → RecAt w'.heap.size w' (.agg #[.int .i64 c.1, .int .i64 c.2.1, .int .i64 c.2.2.1, .slice ra rl rc, .int .i64 c.2.2.2.2]) c ∧ RecAt w'.heap.size w' (.agg #[.int .i64 d.1, .int .i64 d.2.1, .int .i64 d.2.2.1, .slice ra2 rl2 rc2, .int .i64 d.2.2.2.2]) d) := fun w' h => ⟨recAt_more (hcr.later h (by omega)) (by have := h.size; omega), recAt_more (hdr.later h (by omega)) (by have := h.size; omega)⟩
        have HIn : Hid (cs[k]? = some c ∧ ds[k]? = some d) := ⟨hck, hdk⟩
        obtain ⟨dq, hdq⟩ : ∃ dq, dq = decide (c = d) := ⟨_, rfl⟩
        have HDq : Hid (dq = decide (c = d)) := hdq
        obtain ⟨x1, x2, x3, x4, x5⟩ := c
        obtain ⟨y1, y2, y3, y4, y5⟩ := d
        simp only [] at c0 c1 c2 c3 c4 d0 d1 d2 d3 d4 HCR
        clear hck hdk hcr hdr hdq
        go_wp2_with fail
        obtain ⟨W1, hW1⟩ : ∃ W1, W1 = (wr.alloc (.cells #[.int .i64 x1, .int .i64 x2, .int .i64 x3, .slice ra rl rc, .int .i64 x5] 38)).alloc (.cells #[.int .i64 y1, .int .i64 y2, .int .i64 y3, .slice ra2 rl2 rc2, .int .i64 y5] 38) := ⟨_, rfl⟩
        have hbW : Below wr.heap.size wr W1 := by rw [hW1]; exact ((Below.refl _ _).alloc (Nat.le_refl _) _).alloc (by simp) _
        rw [← hW1, HK.out]
        obtain ⟨z1, z2⟩ := HCR.out W1 hbW
        have HCall : Hid _ := HF.out W1 _ _ _ _ z1 z2
        have HbW : Hid (Below w.heap.size w W1) := Below.thenOf Hbr.out hbW Hbr.out.size
        rw [← HDq.out] at HCall
        clear hW1 z1 z2 hbW
        go_wp2_with fail
        refine Calls.mono HCall.out ?_
        rintro e w2 ⟨rfl, hb2⟩
        have Hb2 : Hid (Below w.heap.size w w2) := Below.thenOf HbW.out hb2 HbW.out.size
        clear hb2 HCall
        cases dq with
        | true =>
          have heq := of_decide_eq_true HDq.out.symm
          have Heq : Hid _ := heq
          clear heq
          go_wp2_with fail
          refine ⟨⟨k + 1, by omega, by go_num, fun i hi => ?_, Hb2.out⟩, by simp [intOf]; omega⟩
          by_cases hik : i = k
          · subst hik; rw [HIn.out.1, HIn.out.2, Heq.out]
          · exact H.out i (by omega)
        | false =>
          have heq := of_decide_eq_false HDq.out.symm
          have Heq : Hid _ := heq
          clear heq
          go_wp2_with fail
          go_ret
          refine ⟨?_, Hb2.out⟩
          have : cs ≠ ds := by
            intro h
            have h1 := HIn.out.1
            rw [h, HIn.out.2] at h1
            exact Heq.out (Option.some.inj h1).symm
          simp [this]
      · go_wp2
        go_ret
        refine ⟨?_, Hbr.out⟩
        have : cs = ds := by
          refine List.ext_getElem? fun i => ?_
          by_cases hi : i < k
          · exact H.out i hi
          · rw [List.getElem?_eq_none (by have := HN.out.1; omega), List.getElem?_eq_none (by have := HN.out.2; omega)]
        simp [this]
  · have hni : ((cs.length : Int) != (ds.length : Int)) = true := by simp; omega
    have hf : Hid (decide (cs = ds) = false) := by unfold Hid; simp; intro h; rw [h] at hne; exact hne rfl
    clear HC HF
    generalize cs.length = n at *
    generalize ds.length = m at *
    go_enter Tryz.func33, Tryz.ntmps33
    go_wp2
    go_ret
    exact ⟨by rw [hf.out]; rfl, Below.refl _ _⟩
end Go.Proofs.YtdfcfinjoghipacGreatDoor
end
