/- DiskKeeps returns true, whatever the records and the number, in whatever memory. -/
import Derived.Test.YtdfcfinjoghipacGreatDoorDKp0
set_option linter.all false
set_option maxRecDepth 100000
namespace Go.Proofs.YtdfcfinjoghipacGreatDoor
open Go.RowKit Go.Maps

theorem diskAt_shapeK {B : Nat} {w : World} {v : Value} {d : DiskT} (h : DiskAt B w v d) : ∃ a n c b m k, v = .agg #[.slice a n c, .slice b m k] ∧ n = d.1.length ∧ m = d.2.length := by
  obtain ⟨sv, tv, rfl, ⟨a, c, rfl, _⟩, ⟨b, k, rfl, _⟩⟩ := h
  exact ⟨a, _, c, b, _, k, rfl, rfl, rfl⟩

/-- A disk and no error, handed back. -/
def TupD (w : World) (u : Value) (d : DiskT) : Prop := ∃ a n c b m k, u = .tuple #[.agg #[.slice a n c, .slice b m k], .int .i64 0] ∧ DiskAt w.heap.size w (.agg #[.slice a n c, .slice b m k]) d
theorem TupD.later {w w' : World} {u : Value} {d : DiskT} (h : TupD w u d) (hb : Below w.heap.size w w') : TupD w' u d := by
  obtain ⟨a, n, c, b, m, k, e, hd⟩ := h
  exact ⟨a, n, c, b, m, k, e, diskAt_wideK (hd.later hb (Nat.le_refl _)) hb.size⟩
/-- What stands in the region that crashes a disk: operations 0, 3 (its box, read), 6 (a number), 7 (the call), 11 (stored). -/
structure ACr (W : World) (d : DiskT) (fs : Nat → Value → Prop) (w : World) : Prop where
  below : Below W.heap.size W w
  tup : ∀ u, fs 7 u → TupD w u d
  one : ∀ u u', fs 7 u → fs 7 u' → u = u'
def JCr (bd : Nat) (W : World) (d : DiskT) (fs : Nat → Value → Prop) (w : World) : Prop :=
  ((∀ u, ¬ fs 11 u) ∧ ACr W d fs w) ∨ ((∃ u, fs 11 u) ∧ (∃ u, fs 0 u) ∧ (∃ u, fs 3 u) ∧ (∃ u, fs 6 u) ∧ ∃ w0 a n c b m k, fs 7 (.tuple #[.agg #[.slice a n c, .slice b m k], .int .i64 0]) ∧ w = (w0.setCell ⟨bd, 0, none⟩ (.slice a n c)).setCell ⟨bd, 1, none⟩ (.slice b m k) ∧ ACr W d fs w0)
section
variable {bd : Nat} {W w w' : World} {d : DiskT} {fs : Nat → Value → Prop}
theorem JCr.start : JCr bd W d (fun _ _ => False) W.drew := .inl ⟨fun _ h => h, ⟨(Below.refl _ _).drew, fun _ h => h.elim, fun _ _ h => h.elim⟩⟩
theorem JCr.ahead (h : JCr bd W d fs w) {k : Nat} (hk : k = 0 ∨ k = 3 ∨ k = 6 ∨ k = 7 ∨ k = 11) (hno : ∀ v, ¬ fs k v) : (∀ u, ¬ fs 11 u) ∧ ACr W d fs w := by
  rcases h with h | ⟨⟨a, ha⟩, ⟨b, hb⟩, ⟨c, hc⟩, ⟨e, he⟩, _, _, _, _, _, _, _, h7, _⟩
  · exact h
  · rcases hk with rfl | rfl | rfl | rfl | rfl
    · exact absurd hb (hno _)
    · exact absurd hc (hno _)
    · exact absurd he (hno _)
    · exact absurd h7 (hno _)
    · exact absurd ha (hno _)
theorem JCr.read (h : JCr bd W d fs w) {k : Nat} (hk : k = 0 ∨ k = 3 ∨ k = 6) (hno : ∀ v, ¬ fs k v) (v : Value) : JCr bd W d (addF fs k v) w := by
  obtain ⟨h11, hA⟩ := h.ahead (by omega) hno
  have n7 : 7 ≠ k := by omega
  have n11 : 11 ≠ k := by omega
  exact .inl ⟨fun u hu => h11 u (addF_ne hu n11), ⟨hA.below, fun u hu => hA.tup u (addF_ne hu n7), fun u u' hu hu' => hA.one u u' (addF_ne hu n7) (addF_ne hu' n7)⟩⟩
theorem JCr.call (h : JCr bd W d fs w) (hno : ∀ v, ¬ fs 7 v) (hb : Below w.heap.size w w') (v : Value) (hv : TupD w' v d) : JCr bd W d (addF fs 7 v) w' := by
  obtain ⟨h11, hA⟩ := h.ahead (by omega) hno
  refine .inl ⟨fun u hu => h11 u (addF_ne hu (by decide)), ⟨Below.thenOf hA.below hb hA.below.size, fun u hu => ?_, fun u u' hu hu' => ?_⟩⟩
  · rcases hu with hu | ⟨_, rfl⟩
    · exact absurd hu (hno u)
    · exact hv
  · rcases hu with hu | ⟨_, rfl⟩
    · exact absurd hu (hno u)
    · rcases hu' with hu' | ⟨_, rfl⟩
      · exact absurd hu' (hno u')
      · rfl
theorem JCr.store (h : JCr bd W d fs w) (hno : ∀ v, ¬ fs 11 v) {u0 u3 u6 : Value} (h0 : fs 0 u0) (h3 : fs 3 u3) (h6 : fs 6 u6) {a b : Option Addr} {n c m k : Nat} (h7 : fs 7 (.tuple #[.agg #[.slice a n c, .slice b m k], .int .i64 0])) : Below W.heap.size W w ∧ JCr bd W d (addF fs 11 undef) ((w.setCell ⟨bd, 0, none⟩ (.slice a n c)).setCell ⟨bd, 1, none⟩ (.slice b m k)) := by
  obtain ⟨_, hA⟩ := h.ahead (by omega) hno
  exact ⟨hA.below, .inr ⟨⟨_, .inr ⟨rfl, rfl⟩⟩, ⟨_, .inl h0⟩, ⟨_, .inl h3⟩, ⟨_, .inl h6⟩, w, a, n, c, b, m, k, .inl h7, rfl, ⟨hA.below, fun u hu => hA.tup u (addF_ne hu (by decide)), fun u u' hu hu' => hA.one u u' (addF_ne hu (by decide)) (addF_ne hu' (by decide))⟩⟩⟩
theorem JCr.done (h : JCr bd W d fs w) {u11 : Value} (h11 : fs 11 u11) {a b : Option Addr} {n c m k : Nat} (h7 : fs 7 (.tuple #[.agg #[.slice a n c, .slice b m k], .int .i64 0])) : ∃ w0, w = (w0.setCell ⟨bd, 0, none⟩ (.slice a n c)).setCell ⟨bd, 1, none⟩ (.slice b m k) ∧ Below W.heap.size W w0 ∧ DiskAt w0.heap.size w0 (.agg #[.slice a n c, .slice b m k]) d := by
  rcases h with ⟨h, _⟩ | ⟨_, _, _, _, w0, a', n', c', b', m', k', g7, e, hA⟩
  · exact absurd h11 (h _)
  · have e1 := hA.one _ _ h7 g7
    simp at e1
    obtain ⟨⟨rfl, rfl, rfl⟩, rfl, rfl, rfl⟩ := e1
    obtain ⟨_, _, _, _, _, _, e2, hd⟩ := hA.tup _ h7
    simp at e2
    obtain ⟨⟨rfl, rfl, rfl⟩, rfl, rfl, rfl⟩ := e2
    exact ⟨w0, e, hA.below, hd⟩
end
def SCr (v0 v3 v6 : Value) (k : Nat) (v : Value) : Prop := if k = 0 then v = v0 else if k = 3 then v = v3 else if k = 6 then v = v6 else if k = 7 then ∃ a n c b m l, v = .tuple #[.agg #[.slice a n c, .slice b m l], .int .i64 0] else True
theorem sCr_some (v0 v3 v6 : Value) (k : Nat) : ∃ v, SCr v0 v3 v6 k v := by
  unfold SCr
  repeat (split; exact ⟨_, rfl⟩)
  split
  · exact ⟨_, none, 0, 0, none, 0, 0, rfl⟩
  · exact ⟨undef, trivial⟩
theorem RecsAt.take {B : Nat} {w : World} {a : Option Addr} {n c : Nat} {rs : List RecT} (h : RecsAt B w (.slice a n c) rs) (m : Nat) (hm : m ≤ rs.length) : RecsAt B w (.slice a m c) (rs.take m) := by
  obtain ⟨a', cap, h1, h2, h3, h4⟩ := h
  simp at h1
  obtain ⟨rfl, rfl, rfl⟩ := h1
  refine ⟨a, c, by simp; omega, by simp; omega, h3, fun i r hr => ?_⟩
  rw [List.getElem?_take] at hr
  split at hr
  · exact h4 i r hr
  · cases hr
def AnyW : Type := { w' : World // w' = w' }

set_option maxHeartbeats 16000000 in
theorem diskKeeps_any (B : Nat) (sv mv : Value) (ra rb : List RecT) (n : Int) (w : World) (he : EnvT w) (hs : RecsAt B w sv ra) (hm : RecsAt B w mv rb) (hn : wf n) (hB : B ≤ w.heap.size) :
    Calls Tryz.prog 7 #[sv, mv, .int .i64 n] w fun e w' => e = .returned (.bool true) ∧ Below w.heap.size w w' := by
  have HPut : Hid (∀ (w' : World) (v rv : Value) (d : DiskT) (r : RecT), Below w.heap.size w w' → DSm d → DiskAt w'.heap.size w' v d → RecAt w'.heap.size w' rv r → Calls Tryz.prog 21 #[v, rv] w' fun e w'' => ∃ a n c b m k, e = .returned (.tuple #[.agg #[.slice a n c, .slice b m k], .int .i64 (dPutE d r)]) ∧ DiskNew w'.heap.size w'' (.agg #[.slice a n c, .slice b m k]) (dPutR d r) ∧ Below w'.heap.size w' w'') := fun w' v rv d r h h0 h1 h2 => (putK_new w'.heap.size v rv d r w' (he.later h) h1 h2 (Nat.le_refl _) h0).mono fun e w'' ⟨dv, g1, g2, g3⟩ => by
    obtain ⟨a, n1, c, b, m1, k, ev, -, -⟩ := diskAt_shapeK g2.at
    subst ev
    exact ⟨a, n1, c, b, m1, k, g1, g2, g3⟩
  have HFl : Hid (Calls Tryz.prog 26 #[] w fun e w' => e = .returned (.bool true) ∧ Below w.heap.size w w') := filed_true w he
  have HS : Hid (∀ w', Below w.heap.size w w' → RecsAt B w' sv ra ∧ RecsAt B w' mv rb) := fun w' h => ⟨hs.later h hB, hm.later h hB⟩
  obtain ⟨a, b, e1, e2, e3, e4, e6, e5⟩ := keeps_plain (ra.take 15) (rb.take 15) (by simp; omega) (by simp; omega)
  have HE : Hid (∀ w', Below w.heap.size w w' → EnvT w') := fun w' h => he.later h
  have HSy : Hid (∀ w' v, Below w.heap.size w w' → DiskAt w'.heap.size w' v ([], textsT a) → Calls Tryz.prog 22 #[v] w' fun e w'' => ∃ aa n1 c bb m1 k, e = .returned (.tuple #[.agg #[.slice aa n1 c, .slice bb m1 k], .int .i64 0]) ∧ DiskAt w''.heap.size w'' (.agg #[.slice aa n1 c, .slice bb m1 k]) (textsT a, []) ∧ Below w'.heap.size w' w'') := fun w' v h h1 => by
    have := syncK_any w'.heap.size v _ w' (he.later h) h1 (Nat.le_refl _) (dSm_ok (dSyncE_ok e2))
    rw [e2, e3] at this
    refine this.mono fun e w'' ⟨dv, g1, g2, g3⟩ => ?_
    obtain ⟨a, n1, c, b, m1, k, ev, -, -⟩ := diskAt_shapeK g2
    subst ev
    exact ⟨a, n1, c, b, m1, k, g1, g2, g3⟩
  have HE1 : Hid (putsF ([], []) (ra.take 15) = (([], textsT a), a)) := e1
  have HSm5 : Hid (DSm (textsT a, [])) := by
    have := dSm_ok (dSyncE_ok e2)
    unfold Hid DSm at *
    simpa using this
  have HE4 : Hid (putsF (textsT a, []) (rb.take 15) = ((textsT a, textsT b), b)) := e4
  have HE5 : Hid _ := e5
  have HE6 : Hid ((textsT b).length ≤ 60000 ∧ a.length ≤ 15 ∧ b.length ≤ 15) := e6
  obtain ⟨sa, sc, esv, -, -, -⟩ := id hs
  obtain ⟨ma, mc, emv, -, -, -⟩ := id hm
  subst esv emv
  generalize ra.length = sn at *
  generalize rb.length = mn at *
  clear hs hm e1 e2 e3 e4 e5 e6
  go_enter Tryz.func7, Tryz.ntmps7
  go_wp2_with fail
  go_at_call 26
  refine Calls.mono HFl.out ?_
  rintro e w1 ⟨rfl, hb1⟩
  obtain ⟨W2, hW2⟩ : ∃ W2, W2 = w1.alloc (.cells #[.slice none 0 0, .slice none 0 0] 48) := ⟨_, rfl⟩
  have hb2 : Below w1.heap.size w1 W2 := by rw [hW2]; exact (Below.refl _ _).alloc (Nat.le_refl _) _
  have hs2 : W2.heap.size = w1.heap.size + 1 := by rw [hW2]; simp
  have g2 : W2.heap[w1.heap.size]? = some (.cells #[.slice none 0 0, .slice none 0 0] 48 (0, 0)) := by rw [hW2]; exact heap_made _ _
  have hb2w : Below w.heap.size w W2 := Below.thenOf hb1 hb2 hb1.size
  have HP2 : Hid _ := putFn_any w.heap.size B w1.heap.size _ ra ([], []) none none 0 0 0 0 W2 (fun w' v rv d r h h0 h1 h2 => HPut.out w' v rv d r (hb2w.trans h) h0 h1 h2) (dSm_ok fd1) (HS.out _ hb2w).1 hB hb1.size g2 (diskAt_zero _ _)
  have HP2' : Hid (Calls Tryz.prog 34 #[.slice sa sn sc, .pointer (some ⟨w1.heap.size, 0, none⟩)] W2 fun e w' => ∃ ov, e = .returned ov ∧ RecsAt w'.heap.size w' ov a ∧ Below w.heap.size W2 w' ∧ KpX w1.heap.size W2 w' ∧ ∃ a1 n1 c1 b1 m1 k1, w'.heap[w1.heap.size]? = some (.cells #[.slice a1 n1 c1, .slice b1 m1 k1] 48 (0, 0)) ∧ DiskAt w'.heap.size w' (.agg #[.slice a1 n1 c1, .slice b1 m1 k1]) ([], textsT a)) := by
    have := HP2.out
    rw [HE1.out] at this
    exact this
  have HW2 : Hid (W2 = _) := hW2
  clear HP2 hW2 HFl HE1
  go_wp2_with fail
  rw [← HW2.out]
  go_at_call 34
  refine Calls.mono HP2'.out ?_
  rintro e w3 ⟨av, rfl, hra, hb3, hk3, a1, n1, c1, b1, m1, k1, g3, hd3⟩
  have hb3w : Below w.heap.size w w3 := hb2w.trans hb3
  have hbd3 : w1.heap.size < w3.heap.size := lt_of_block g3
  obtain ⟨x0, x1, f0, f1⟩ := box_free g3
  have HSy3 : Hid _ := HSy.out w3 _ hb3w hd3
  obtain ⟨aa, ac, eav, -, -, -⟩ := id hra
  subst eav
  have HRa : Hid (RecsAt w3.heap.size w3 (.slice aa a.length ac) a) := hra
  have Hg3 : Hid (w3.heap[w1.heap.size]? = some (.cells #[.slice a1 n1 c1, .slice b1 m1 k1] 48 (0, 0))) := g3
  clear hra hb3 hk3 g3 hd3 HP2' HSy
  go_wp2_with fail
  go_at_call 22
  refine Calls.mono HSy3.out ?_
  rintro e w4 ⟨a2, n2, c2, b2, m2, k2, rfl, hd4, hb4⟩
  have g4 := (hb4.block _ hbd3).trans Hg3.out
  have hb4w : Below w.heap.size w w4 := Below.thenOf hb3w hb4 hb3w.size
  obtain ⟨z0, z1, zf0, zf1⟩ := box_free g4
  obtain ⟨W5, hW5, g5, hs5, hd5, hk5, hb5⟩ := diskBox g4 hd4
  have hb5w : Below w.heap.size w W5 := hb4w.trans (hb5 _ hb1.size)
  have HRa5 : Hid (RecsAt w3.heap.size W5 (.slice aa a.length ac) a) := (HRa.out.later hb4 (Nat.le_refl _)).box hk5 (NoInts.of g4)
  have hs4 := hb4.size
  have HP5 : Hid _ := putFn_any w.heap.size B w1.heap.size _ rb (textsT a, []) a2 b2 n2 c2 m2 k2 W5 (fun w' v rv d r h h0 h1 h2 => HPut.out w' v rv d r (hb5w.trans h) h0 h1 h2) HSm5.out (HS.out _ hb5w).2 hB hb1.size g5 hd5
  have HP5' : Hid (Calls Tryz.prog 34 #[.slice ma mn mc, .pointer (some ⟨w1.heap.size, 0, none⟩)] W5 fun e w' => ∃ ov, e = .returned ov ∧ RecsAt w'.heap.size w' ov b ∧ Below w.heap.size W5 w' ∧ KpX w1.heap.size W5 w' ∧ ∃ a1 n1 c1 b1 m1 k1, w'.heap[w1.heap.size]? = some (.cells #[.slice a1 n1 c1, .slice b1 m1 k1] 48 (0, 0)) ∧ DiskAt w'.heap.size w' (.agg #[.slice a1 n1 c1, .slice b1 m1 k1]) (textsT a, textsT b)) := by
    have := HP5.out
    rw [HE4.out] at this
    exact this
  have HNi5 : Hid (NoInts W5 w1.heap.size) := NoInts.of g5
  have HW5 : Hid (W5 = _) := hW5
  clear HP5 hW5 HE4 hd4 hb4 g4 g5 hd5 hk5 hb5 HRa Hg3 x0 x1 f0 f1 HSy3 hb4w
  go_wp2_with fail
  rw [← HW5.out]
  go_at_call 34
  refine Calls.mono HP5'.out ?_
  rintro e w6 ⟨bv, rfl, hrb, hb6, hk6, a3, n3, c3, b3, m3, k3, g6, hd6⟩
  have hb6w : Below w.heap.size w w6 := hb5w.trans hb6
  have HRa6 : Hid (RecsAt w3.heap.size w6 (.slice aa a.length ac) a) := HRa5.out.kpx hk6 HNi5.out (by omega)
  have hs6 := hk6.2
  have hbd6 : w1.heap.size < w6.heap.size := lt_of_block g6
  obtain ⟨ba, bc, ebv, -, -, -⟩ := id hrb
  subst ebv
  have HRb6 : Hid (RecsAt w6.heap.size w6 (.slice ba b.length bc) b) := hrb
  have Hg6 : Hid (w6.heap[w1.heap.size]? = some (.cells #[.slice a3 n3 c3, .slice b3 m3 k3] 48 (0, 0))) := g6
  have HD6 : Hid (DiskAt w6.heap.size w6 (.agg #[.slice a3 n3 c3, .slice b3 m3 k3]) (textsT a, textsT b)) := hd6
  have hm3 : m3 = (textsT b).length := by
    obtain ⟨_, _, _, _, _, _, e, -, e2⟩ := diskAt_shapeK hd6
    simp at e
    rw [e.2.2.1]
    exact e2
  obtain ⟨x0, x1, f0, f1⟩ := box_free g6
  have HM3 : Hid (m3 = (textsT b).length) := hm3
  clear hrb hb6 hk6 g6 hd6 HP5' HRa5 HNi5 z0 z1 zf0 zf1 hm3 hb5w
  obtain ⟨M, hM⟩ : ∃ M : Nat, (M : Int) = n % ((m3 : Int) + 1) := ⟨(n % ((m3 : Int) + 1)).toNat, by have := Int.emod_nonneg n (show ((m3 : Int) + 1) ≠ 0 by omega); omega⟩
  have hMl : M ≤ m3 := by have := Int.emod_lt_of_pos n (show (0 : Int) < (m3 : Int) + 1 by omega); omega
  have hm60 : m3 ≤ 60000 := by rw [HM3.out]; exact HE6.out.1
  have HAt : Hid (∀ w', Calls Tryz.prog 35 #[.int .i64 n, .int .i64 ((m3 : Int) + 1)] w' fun e w'' => e = .returned (.int .i64 M) ∧ w'' = w') := fun w' => by
    have := at_any n ((m3 : Int) + 1) (by omega) w'
    rw [← hM] at this
    exact this
  obtain ⟨hc1, dC, hc2, hc3, hc4, hc5, hc6, hc7, hc8, hc9, hc10⟩ := HE5.out M (by rw [← HM3.out]; exact hMl)
  have HCr : Hid (∀ w', Below w6.heap.size w6 w' → Calls Tryz.prog 23 #[.agg #[.slice a3 n3 c3, .slice b3 m3 k3], .int .i64 M] w' fun e w'' => ∃ u, e = .returned u ∧ TupD w'' u dC ∧ Below w'.heap.size w' w'') := fun w' h => by
    have := crashK_any w'.heap.size _ _ (M : Int) w' (HE.out _ (Below.thenOf hb6w h hb6w.size)) (WalkArith.wf_i64 (by omega)) (diskAt_wideK (HD6.out.later h (Nat.le_refl _)) h.size) (Nat.le_refl _) (dSm_ok (dCrashE_ok hc1))
    rw [hc1, hc2] at this
    refine this.mono fun e w'' ⟨dv, g1, g2, g3⟩ => ?_
    obtain ⟨a, n1, c, b, m1, k, ev, -, -⟩ := diskAt_shapeK g2
    subst ev
    exact ⟨_, g1, ⟨_, _, _, _, _, _, rfl, g2⟩, g3⟩
  have HC : Hid (diskErr dC = 0 ∧ a.length ≤ (dRecL dC).length ∧ (dRecL dC).length ≤ a.length + b.length ∧ dRecL dC = (a ++ b).take (dRecL dC).length ∧ (dRecR dC).2 = [] ∧ diskErr (dRecR dC) = 0 ∧ dRecR (dRecR dC) = dRecR dC ∧ dRecL (dRecR dC) = dRecL dC) := ⟨hc3, hc4, hc5, hc6, hc7, hc8, hc9, hc10⟩
  have hwr : IntKind.i64.wrap ((m3 : Int) + 1) = (m3 : Int) + 1 := by rw [IntKind.wrap_i64]; omega
  clear hc1 hc2 hc3 hc4 hc5 hc6 hc7 hc8 hc9 hc10 HE5 hM HD6
  go_wp2_with fail
  have hne : Nonempty AnyW := ⟨⟨w6, rfl⟩⟩
  have hDJ : Hid (∀ fs w', JCr w1.heap.size w6 dC fs w' → ∃ z : AnyW, w' = z.1) := fun fs w' _ => ⟨⟨w', rfl⟩, rfl⟩
  refine wp_region_free [_, _, _, _, _, _, _, _, _, _, _, _] _ rfl (fun k => k == 0 || k == 3 || k == 6 || k == 7 || k == 11) (JCr w1.heap.size w6 dC) (SCr (.agg #[.slice a3 n3 c3, .slice b3 m3 k3]) (.slice b3 m3 k3) (.int .i64 M)) (sCr_some _ _ _) (by kernel_rfl) (by kernel_rfl) JCr.start ?_
  refine wpG_write rfl rfl (fun gs w' hJ hdep hno => ⟨.agg #[.slice a3 n3 c3, .slice b3 m3 k3], w', ?_, rfl, hJ.read (.inl rfl) hno _⟩) (fun v0 hv0 => ?_)
  · have hx := ((hJ.ahead (.inl rfl) hno).2.below.block _ hbd6).trans Hg6.out
    obtain ⟨y0, y1, -, -⟩ := box_free hx
    clear hJ hdep hno hDJ hne x0 x1 hx
    go_simp
  simp only [Act.put, List.setIfInBounds_toArray, List.set_cons_succ, List.set_cons_zero]
  obtain rfl : v0 = .agg #[.slice a3 n3 c3, .slice b3 m3 k3] := hv0
  iterate 2 (refine wpG_read hDJ.out rfl rfl ?_; go_big_quiet_step (fail); refine wpQuiet_nil ?_)
  refine wpG_write rfl rfl (fun gs w' hJ hdep hno => ⟨.slice b3 m3 k3, w', ?_, rfl, hJ.read (.inr (.inl rfl)) hno _⟩) (fun v3 hv3 => ?_)
  · have hx := ((hJ.ahead (.inr (.inl rfl)) hno).2.below.block _ hbd6).trans Hg6.out
    obtain ⟨y0, y1, -, -⟩ := box_free hx
    clear hJ hdep hno hDJ hne x0 x1 hx
    go_simp
  simp only [Act.put, List.setIfInBounds_toArray, List.set_cons_succ, List.set_cons_zero]
  obtain rfl : v3 = .slice b3 m3 k3 := hv3
  refine wpG_readV (.int .i64 m3) rfl rfl (fun w' => ?_) ?_
  · clear hDJ hne x0 x1
    go_simp
  simp only [Act.put, List.setIfInBounds_toArray, List.set_cons_succ, List.set_cons_zero]
  refine wpG_readV (.int .i64 ((m3 : Int) + 1)) rfl rfl (fun w' => ?_) ?_
  · clear hDJ hne x0 x1
    go_simp
  simp only [Act.put, List.setIfInBounds_toArray, List.set_cons_succ, List.set_cons_zero]
  refine wpG_call 35 #[.int .i64 n, .int .i64 ((m3 : Int) + 1)] rfl rfl (fun w' => by kernel_rfl) (fun gs w' hJ hdep hno => ?_) (fun v6 hv6 => ?_)
  · refine (HAt.out w').mono ?_
    rintro e w2 ⟨rfl, rfl⟩
    exact ⟨_, rfl, rfl, hJ.read (.inr (.inr rfl)) hno _⟩
  simp only [Act.put, List.setIfInBounds_toArray, List.set_cons_succ, List.set_cons_zero]
  obtain rfl : v6 = .int .i64 M := hv6
  refine wpG_call 23 #[.agg #[.slice a3 n3 c3, .slice b3 m3 k3], .int .i64 M] rfl rfl (fun w' => by kernel_rfl) (fun gs w' hJ hdep hno => ?_) (fun v7 hv7 => ?_)
  · refine (HCr.out w' (hJ.ahead (by omega) hno).2.below).mono ?_
    rintro e w2 ⟨u, rfl, hu, hb⟩
    refine ⟨_, rfl, ?_, hJ.call hno hb _ hu⟩
    obtain ⟨a', n', c', b', m', k', e, -⟩ := hu
    exact ⟨a', n', c', b', m', k', e⟩
  simp only [Act.put, List.setIfInBounds_toArray, List.set_cons_succ, List.set_cons_zero]
  obtain ⟨a7, n7, c7, b7, m7, k7, rfl⟩ : ∃ a n c b m l, v7 = .tuple #[.agg #[.slice a n c, .slice b m l], .int .i64 0] := hv7
  iterate 3 (refine wpG_read hDJ.out rfl rfl ?_; go_big_quiet_step (fail); refine wpQuiet_nil ?_)
  refine wpG_store rfl rfl (fun gs w' hJ hdep hno => ?_) (fun v11 hv11 => ?_)
  · have h0 := hdep 0 _ (.inl (.inl (.inl (.inr ⟨rfl, rfl⟩)))) (waitsB_spec (by kernel_rfl))
    have h3 := hdep 3 _ (.inl (.inl (.inr ⟨rfl, rfl⟩))) (waitsB_spec (by kernel_rfl))
    have h6 := hdep 6 _ (.inl (.inr ⟨rfl, rfl⟩)) (waitsB_spec (by kernel_rfl))
    have h7 := hdep 7 _ (.inr ⟨rfl, rfl⟩) (waitsB_spec (by kernel_rfl))
    obtain ⟨hbe, hst⟩ := hJ.store hno h0 h3 h6 h7
    have hbx := (hbe.block _ hbd6).trans Hg6.out
    obtain ⟨z0, z1, f0, f1⟩ := box_free hbx
    refine ⟨(w'.setCell ⟨w1.heap.size, 0, none⟩ (.slice a7 n7 c7)).setCell ⟨w1.heap.size, 1, none⟩ (.slice b7 m7 k7), ?_, by simp [SCr], hst⟩
    clear hJ hdep hno hDJ hne h0 h3 h6 h7 hbe hst hbx x0 x1
    go_simp
  simp only [Act.put, List.setIfInBounds_toArray, List.set_cons_succ, List.set_cons_zero]
  refine wpG_nil ?_
  intro w7 hJ
  obtain ⟨w0, e7, hb0, hd0⟩ := hJ.done (.inr ⟨rfl, rfl⟩) (.inl (.inr ⟨rfl, rfl⟩))
  have g0 := (hb0.block _ hbd6).trans Hg6.out
  obtain ⟨W7, hW7, g7, hs7, hd7, hk7, hb7⟩ := diskBox g0 hd0
  obtain rfl : w7 = W7 := by rw [e7, hW7]
  have hs0 := hb0.size
  have hb7w : Below w.heap.size w w7 := (Below.thenOf hb6w hb0 hb6w.size).trans (hb7 _ hb1.size)
  have HRa7 : Hid (RecsAt w7.heap.size w7 (.slice aa a.length ac) a) := ((HRa6.out.later hb0 (by omega)).box hk7 (NoInts.of g0)).wide (by omega)
  have HRb7 : Hid (RecsAt w7.heap.size w7 (.slice ba b.length bc) b) := ((HRb6.out.later hb0 (Nat.le_refl _)).box hk7 (NoInts.of g0)).wide (by omega)
  obtain ⟨x0, x1, -, -⟩ := box_free g7
  have HRe : Hid (∀ w' v d, diskErr d = 0 → Below w.heap.size w w' → DiskAt w'.heap.size w' v d → Calls Tryz.prog 24 #[v] w' fun e w'' => ∃ aa n1 c bb m1 k la ll lc, e = .returned (.tuple #[.agg #[.slice aa n1 c, .slice bb m1 k], .slice la ll lc, .int .i64 (diskErr d)]) ∧ DiskAt w''.heap.size w'' (.agg #[.slice aa n1 c, .slice bb m1 k]) (dRecR d) ∧ m1 = (dRecR d).2.length ∧ RecsAt w''.heap.size w'' (.slice la ll lc) (dRecL d) ∧ ll = (dRecL d).length ∧ Below w'.heap.size w' w'') := fun w' v d h0 h h1 => by
    refine (recoverK_any w'.heap.size v d w' (HE.out _ h) h1 (Nat.le_refl _) (dSm_ok h0)).mono fun e w'' ⟨dv, lv, g1, g2, g3, g4⟩ => ?_
    obtain ⟨a, n1, c, b, m1, k, ev, -, em⟩ := diskAt_shapeK g2
    obtain ⟨la, lc, el, -⟩ := id g3
    subst ev el
    exact ⟨a, n1, c, b, m1, k, la, _, lc, g1, g2, em, g3, rfl, g4⟩
  have HRe7 : Hid _ := HRe.out w7 _ dC HC.out.1 hb7w hd7
  have hbd7 : w1.heap.size < w7.heap.size := lt_of_block g7
  clear hJ e7 hb0 hd0 g0 hW7 g7 hd7 hk7 hb7 HRa6 HRb6 Hg6 HCr HAt hDJ hne hwr f0 f1
  rw [HC.out.1] at HRe7
  go_wp2_with fail
  go_at_call 24
  refine Calls.mono HRe7.out ?_
  rintro e w8 ⟨a8, n8, c8, b8, m8, k8, la, ll, lc, rfl, hd8, hm8, hl8, hll, hb8⟩
  have hb8w : Below w.heap.size w w8 := Below.thenOf hb7w hb8 hb7w.size
  have HRa8 : Hid (RecsAt w8.heap.size w8 (.slice aa a.length ac) a) := (HRa7.out.later hb8 (Nat.le_refl _)).wide hb8.size
  have HRb8 : Hid (RecsAt w8.heap.size w8 (.slice ba b.length bc) b) := (HRb7.out.later hb8 (Nat.le_refl _)).wide hb8.size
  have HL8 : Hid (RecsAt w8.heap.size w8 (.slice la ll lc) (dRecL dC)) := hl8
  have HD8 : Hid (DiskAt w8.heap.size w8 (.agg #[.slice a8 n8 c8, .slice b8 m8 k8]) (dRecR dC)) := hd8
  have hll1 : a.length ≤ ll := by rw [hll]; exact HC.out.2.1
  have hll2 : ll ≤ a.length + b.length := by rw [hll]; exact HC.out.2.2.1
  have HTk : Hid (dRecL dC = (a ++ b).take ll) := by rw [hll]; exact HC.out.2.2.2.1
  have hm80 : m8 = 0 := by rw [hm8, HC.out.2.2.2.2.1]; rfl
  subst hm80
  have h15a := HE6.out.2.1
  have h15b := HE6.out.2.2
  obtain ⟨an, han⟩ : ∃ an, an = a.length := ⟨_, rfl⟩
  obtain ⟨bn, hbn⟩ : ∃ bn, bn = b.length := ⟨_, rfl⟩
  have HAn : Hid (a.length = an ∧ b.length = bn) := ⟨han.symm, hbn.symm⟩
  rw [← han] at HRa8 hll1 hll2 h15a ⊢
  rw [← hbn] at HRb8 hll2 h15b ⊢
  have i1 : ¬ ((ll : Int) < (an : Int)) := by omega
  have i2 : ¬ ((an : Int) + (bn : Int) < (ll : Int)) := by omega
  have i3 : IntKind.i64.wrap ((an : Int) + (bn : Int)) = (an : Int) + (bn : Int) := by rw [IntKind.wrap_i64]; omega
  clear han hbn hll hl8 hd8 hm8 HRe7 x0 x1 HRa7 HRb7
  obtain ⟨W9, hW9⟩ : ∃ W9, W9 = (w8.alloc (.cells #[.slice a8 n8 c8, .slice b8 0 k8] 48)).alloc (.cells #[.slice aa an ac, .slice ba bn bc] 53) := ⟨_, rfl⟩
  have hb9 : Below w8.heap.size w8 W9 := by rw [hW9]; exact ((Below.refl _ _).alloc (Nat.le_refl _) _).alloc (by simp) _
  have hs9 : W9.heap.size = w8.heap.size + 1 + 1 := by rw [hW9]; simp
  have g9 : W9.heap[w8.heap.size]? = some (.cells #[.slice a8 n8 c8, .slice b8 0 k8] 48 (0, 0)) := by rw [hW9]; exact (Below.heap_alloc _ _ _ (by simp)).trans (heap_made _ _)
  have g9l : W9.heap[w8.heap.size + 1]? = some (.cells #[.slice aa an ac, .slice ba bn bc] 53 (0, 0)) := by
    have := heap_made (w8.alloc (.cells #[.slice a8 n8 c8, .slice b8 0 k8] 48)) (.cells #[.slice aa an ac, .slice ba bn bc] 53)
    rw [World.size_alloc, ← hW9] at this
    exact this
  have HCq : Hid _ := concatQ_any w8.heap.size _ _ a b (w8.heap.size + 1) W9 (HRa8.out.later hb9 (Nat.le_refl _)).conds (HRb8.out.later hb9 (Nat.le_refl _)).conds hb9.size (by omega) (heap_cell g9l 0 rfl) (heap_cell g9l 1 rfl) (by have := HAn.out; omega)
  have HEq : Hid (∀ w' u v (r q : List RecT), RecsAt w'.heap.size w' u r → RecsAt w'.heap.size w' v q → Calls Tryz.prog 33 #[u, v, .func (.func 18) #[] #[]] w' fun e w'' => e = .returned (.bool (decide (r = q))) ∧ Below w'.heap.size w' w'') := fun w' u v r q h1 h2 => equalRecs_any w'.heap.size 18 (fun args w' => by kernel_rfl) (fun w'' x y c d g1 g2 => sameN_any w''.heap.size x y c d w'' g1 g2 (Nat.le_refl _)) u v r q w' h1 h2 (Nat.le_refl _)
  have HB9 : Hid (Below w8.heap.size w8 W9) := hb9
  have HG9 : Hid (W9.heap[w8.heap.size]? = some (.cells #[.slice a8 n8 c8, .slice b8 0 k8] 48 (0, 0))) := g9
  have HW9 : Hid (W9 = _) := hW9
  clear hW9 hb9 g9 g9l
  go_wp2_with fail
  rw [← HW9.out]
  go_at_call 36
  refine Calls.mono HCq.out ?_
  rintro e w10 ⟨v10, rfl, xs10, ho10, hx10, hb10⟩
  have hs10 := hb10.size
  have hR10 : RecsAt w10.heap.size w10 v10 (a ++ b) := recsAtQ_own ho10 hx10 (by omega)
  obtain ⟨va, vc, ev, hvc, hvm, -⟩ := id hR10
  have hlab : (a ++ b).length = an + bn := by rw [List.length_append, HAn.out.1, HAn.out.2]
  rw [hlab] at ev hvc
  subst ev
  have hRt : RecsAt w10.heap.size w10 (.slice va ll vc) ((a ++ b).take ll) := hR10.take ll (by omega)
  have hb8t : Below w8.heap.size w8 w10 := Below.thenOf HB9.out hb10 HB9.out.size
  have HE10 : Hid (Calls Tryz.prog 33 #[.slice la ll lc, .slice va ll vc, .func (.func 18) #[] #[]] w10 fun e w'' => e = .returned (.bool true) ∧ Below w10.heap.size w10 w'') := by
    have := HEq.out w10 _ _ _ _ ((HL8.out.later hb8t (Nat.le_refl _)).wide hb8t.size) hRt
    rw [decide_eq_true HTk.out] at this
    exact this
  have HB10 : Hid (Below w8.heap.size w8 w10) := hb8t
  have HG10 : Hid (w10.heap[w8.heap.size]? = some (.cells #[.slice a8 n8 c8, .slice b8 0 k8] 48 (0, 0))) := (hb10.block _ (by omega)).trans HG9.out
  clear ho10 hx10 hb10 hR10 hRt hb8t HCq HG9 hlab
  have i4 : (0 : Int) ≤ (ll : Int) := by omega
  have i5 : (ll : Int) ≤ (vc : Int) := by omega
  go_wp2_with fail
  go_at_call 33
  refine Calls.mono HE10.out ?_
  rintro e w11 ⟨rfl, hb11⟩
  have hb8e : Below w8.heap.size w8 w11 := Below.thenOf HB10.out hb11 HB10.out.size
  have hs8e := hb8e.size
  have g11 : w11.heap[w8.heap.size]? = some (.cells #[.slice a8 n8 c8, .slice b8 0 k8] 48 (0, 0)) := (hb11.block _ (lt_of_block HG10.out)).trans HG10.out
  have hl11 : w8.heap.size < w11.heap.size := lt_of_block g11
  obtain ⟨x0, x1, -, -⟩ := box_free g11
  have hb11w : Below w.heap.size w w11 := Below.thenOf hb8w hb8e hb8w.size
  have HRe11 : Hid _ := HRe.out w11 _ (dRecR dC) HC.out.2.2.2.2.2.1 hb11w (diskAt_wideK (HD8.out.later hb8e (Nat.le_refl _)) hb8e.size)
  rw [HC.out.2.2.2.2.2.1, HC.out.2.2.2.2.2.2.1, HC.out.2.2.2.2.2.2.2] at HRe11
  have HG11 : Hid (w11.heap[w8.heap.size]? = some (.cells #[.slice a8 n8 c8, .slice b8 0 k8] 48 (0, 0))) := g11
  have HB11 : Hid (Below w8.heap.size w8 w11) := hb8e
  clear hb8e g11 hb11 HE10 HB10 HG10 HB9
  go_wp2_with fail
  go_at_call 24
  refine Calls.mono HRe11.out ?_
  rintro e w12 ⟨a9, n9, c9, b9, m9, k9, qa, ql, qc, rfl, hd12, hm12, hl12, hql, hb12⟩
  have hs12 := hb12.size
  have g12 : w12.heap[w8.heap.size]? = some (.cells #[.slice a8 n8 c8, .slice b8 0 k8] 48 (0, 0)) := (hb12.block _ hl11).trans HG11.out
  have hb8f : Below w8.heap.size w8 w12 := Below.thenOf HB11.out hb12 HB11.out.size
  obtain ⟨y0, y1, -, -⟩ := box_free g12
  have hl12' : w8.heap.size < w12.heap.size := lt_of_block g12
  have HX12 : Hid (∀ w', Below w12.heap.size w12 w' → Calls Tryz.prog 28 #[.agg #[.slice a9 n9 c9, .slice b9 m9 k9], .agg #[.slice a8 n8 c8, .slice b8 0 k8]] w' fun e w'' => e = .returned (.bool true) ∧ Below w'.heap.size w' w'') := fun w' h => by
    have := sameK_any w'.heap.size _ _ (dRecR dC) (dRecR dC) w' (diskAt_wideK (hd12.later h (Nat.le_refl _)) h.size) (diskAt_wideK (HD8.out.later (Below.thenOf hb8f h hb8f.size) (Nat.le_refl _)) (Nat.le_trans hb8f.size h.size)) (Nat.le_refl _)
    rw [decide_eq_true rfl] at this
    exact this
  have HX13 : Hid (∀ w', Below w12.heap.size w12 w' → Calls Tryz.prog 33 #[.slice qa ql qc, .slice la ll lc, .func (.func 18) #[] #[]] w' fun e w'' => e = .returned (.bool true) ∧ Below w'.heap.size w' w'') := fun w' h => by
    have := HEq.out w' _ _ _ _ ((hl12.later h (Nat.le_refl _)).wide h.size) ((HL8.out.later (Below.thenOf hb8f h hb8f.size) (Nat.le_refl _)).wide (Nat.le_trans hb8f.size h.size))
    rw [decide_eq_true rfl] at this
    exact this
  have HG12 : Hid (∀ w', Below w12.heap.size w12 w' → w'.cell? ⟨w8.heap.size, 0, none⟩ = some (.slice a8 n8 c8) ∧ w'.cell? ⟨w8.heap.size, 1, none⟩ = some (.slice b8 0 k8) ∧ Below w.heap.size w w' ∧ w8.heap.size < w'.heap.size) := fun w' h => by
    have g := (h.block _ hl12').trans g12
    exact ⟨heap_cell g 0 rfl, heap_cell g 1 rfl, Below.thenOf hb8w (Below.thenOf hb8f h hb8f.size) hb8w.size, lt_of_block g⟩
  clear hd12 hm12 hl12 hql hb12 g12 hb8f HRe11 HG11 x0 x1 HEq HD8
  have hba : ∀ X, Below w12.heap.size w12 (w12.alloc X) := fun X => (Below.refl _ _).alloc (Nat.le_refl _) _
  go_wp2_with fail
  go_at_call 28
  refine Calls.mono (HX12.out _ (hba _)) ?_
  rintro e w13 ⟨rfl, hb13⟩
  have hb13' : Below w12.heap.size w12 w13 := Below.thenOf (hba _) hb13 (hba _).size
  obtain ⟨y0, y1, -, y3⟩ := HG12.out _ hb13'
  clear hb13
  go_wp2_with fail
  go_at_call 33
  refine Calls.mono (HX13.out _ hb13') ?_
  rintro e w14 ⟨rfl, hb14⟩
  have hb14' : Below w12.heap.size w12 w14 := Below.thenOf hb13' hb14 hb13'.size
  obtain ⟨z0, z1, z2, z3⟩ := HG12.out _ hb14'
  have HZ : Hid (Below w.heap.size w w14) := z2
  clear hb13' hb14 hb14' z2
  go_wp2_with fail
  go_ret
  exact ⟨rfl, HZ.out⟩
end Go.Proofs.YtdfcfinjoghipacGreatDoor
