/- Package disk: Recover. -/
import Derived.Test.YtdfcfinjoghipacGreatDoorDj41
set_option linter.all false
set_option maxRecDepth 100000
namespace Go.Proofs.YtdfcfinjoghipacGreatDoor
open Go.RowKit Go.Maps

/-- What stands in Recover's last region: 6 bytes are joined, 10 records are appended to a row (block lb, from L1 on), 11 the disk is stored. -/
structure AV (L1 : Nat) (W : World) (lb : Option Nat) (X : Bs) (G10 : World → Value → Prop) (fs : Nat → Value → Prop) (w : World) : Prop where
  below : Below L1 W w
  grown : W.grownBy w lb
  still : (∀ u, ¬ fs 10 u) → Below W.heap.size W w
  row6 : ∀ u, fs 6 u → BytesNew W.heap.size w u X
  row10 : ∀ u, fs 10 u → G10 w u
  need : ∀ u, fs 10 u → ∃ u', fs 6 u'
def JV (bo L1 : Nat) (W : World) (lb : Option Nat) (X : Bs) (G10 : World → Value → Prop) (fs : Nat → Value → Prop) (w : World) : Prop :=
  ((∀ u, ¬ fs 11 u) ∧ AV L1 W lb X G10 fs w) ∨ ((∃ u, fs 11 u) ∧ (∃ u, fs 6 u) ∧ (∃ u, fs 10 u) ∧ ∃ w0 p, w = (w0.setCell ⟨bo, 0, none⟩ p).setCell ⟨bo, 1, none⟩ (.slice none 0 0) ∧ BytesNew W.heap.size w0 p X ∧ AV L1 W lb X G10 (fun k u => k ≠ 11 ∧ fs k u) w0)
section
variable {bo L1 : Nat} {W w w' : World} {lb : Option Nat} {X : Bs} {G10 : World → Value → Prop} {fs : Nat → Value → Prop}
theorem JV.start (bo L1 : Nat) (W : World) (lb : Option Nat) (X : Bs) (G10 : World → Value → Prop) : JV bo L1 W lb X G10 (fun _ _ => False) W.drew :=
  .inl ⟨fun _ h => h, (Below.refl _ _).drew, ⟨rfl, rfl, rfl, Nat.le_refl _, fun _ _ _ => rfl⟩, fun _ => (Below.refl _ _).drew, fun _ h => h.elim, fun _ h => h.elim, fun _ h => h.elim⟩
theorem JV.ahead (h : JV bo L1 W lb X G10 fs w) {k : Nat} (hk : k = 6 ∨ k = 10 ∨ k = 11) (hno : ∀ v, ¬ fs k v) : (∀ u, ¬ fs 11 u) ∧ AV L1 W lb X G10 fs w := by
  rcases h with h | ⟨⟨a, ha⟩, ⟨b, hb⟩, ⟨c, hc⟩, _⟩
  · exact h
  · rcases hk with rfl | rfl | rfl
    · exact absurd hb (hno _)
    · exact absurd hc (hno _)
    · exact absurd ha (hno _)
theorem JV.box (h : JV bo L1 W lb X G10 fs w) {b : Nat} {o : Obj} (hb : W.heap[b]? = some o) (hne : b ≠ bo) (hl : b < L1) : w.heap[b]? = some o := by
  rcases h with ⟨_, h⟩ | ⟨_, _, _, w0, p, rfl, _, h⟩
  · exact (h.below.block b hl).trans hb
  · exact ((Below.heap_setCell _ _ _ _ hne).trans (Below.heap_setCell _ _ _ _ hne)).trans ((h.below.block b hl).trans hb)
theorem JV.put6 (h : JV bo L1 W lb X G10 fs w) (hno : ∀ v, ¬ fs 6 v) (hL : L1 ≤ W.heap.size) (hb : Below w.heap.size w w') {v : Value} (hv : BytesNew W.heap.size w' v X) : JV bo L1 W lb X G10 (addF fs 6 v) w' := by
  obtain ⟨h11, h⟩ := h.ahead (.inl rfl) hno
  have hn10 : ∀ v, ¬ fs 10 v := fun v hv => by
    obtain ⟨u, hu⟩ := h.need v hv
    exact hno u hu
  have hs := h.still hn10
  have hbw : Below W.heap.size W w' := Below.thenOf hs hb hs.size
  refine .inl ⟨fun u hu => ?_, hbw.mono hL, grownN_of_below hbw lb, fun _ => hbw, fun u hu => ?_, fun u hu => ?_, fun u hu => ⟨v, .inr ⟨rfl, rfl⟩⟩⟩
  · rcases hu with hu | ⟨e, _⟩
    · exact h11 u hu
    · cases e
  · rcases hu with hu | ⟨_, rfl⟩
    · exact absurd hu (hno _)
    · exact hv
  · rcases hu with hu | ⟨e, _⟩
    · exact absurd hu (hn10 _)
    · cases e
theorem JV.put10 (h : JV bo L1 W lb X G10 fs w) (hno : ∀ v, ¬ fs 10 v) {u6 : Value} (h6 : fs 6 u6) (hL : L1 ≤ W.heap.size) (hlb : ∀ k, lb = some k → k < W.heap.size ∧ L1 ≤ k) (hg : w.grownBy w' lb) {v : Value} (hv : G10 w' v) : JV bo L1 W lb X G10 (addF fs 10 v) w' := by
  obtain ⟨h11, h⟩ := h.ahead (.inr (.inl rfl)) hno
  refine .inl ⟨fun u hu => ?_, h.below.grown hg (Nat.le_trans hL h.grown.size) fun k hk => (hlb k hk).2, World.grownBy.andThen h.grown hg fun j hj => .inr hj, fun hno' => absurd (.inr ⟨rfl, rfl⟩) (hno' v), fun u hu => ?_, fun u hu => ?_, fun u hu => ⟨u6, .inl h6⟩⟩
  · rcases hu with hu | ⟨e, _⟩
    · exact h11 u hu
    · cases e
  · rcases hu with hu | ⟨e, _⟩
    · exact fun wF k1 k2 => h.row6 u hu wF (fun g hg1 hg2 => (k1 g hg1 (Nat.lt_of_lt_of_le hg2 hg.size)).trans (hg.block g hg2 fun e => by have := (hlb g e.symm).1; omega)) (Nat.le_trans hg.size k2)
    · cases e
  · rcases hu with hu | ⟨_, rfl⟩
    · exact absurd hu (hno _)
    · exact hv
theorem JV.store (h : JV bo L1 W lb X G10 fs w) (hno : ∀ v, ¬ fs 11 v) {p u10 : Value} (h6 : fs 6 p) (h10 : fs 10 u10) : JV bo L1 W lb X G10 (addF fs 11 undef) ((w.setCell ⟨bo, 0, none⟩ p).setCell ⟨bo, 1, none⟩ (.slice none 0 0)) := by
  obtain ⟨h11, h⟩ := h.ahead (.inr (.inr rfl)) hno
  refine .inr ⟨⟨undef, .inr ⟨rfl, rfl⟩⟩, ⟨p, .inl h6⟩, ⟨u10, .inl h10⟩, w, p, rfl, h.row6 p h6, h.below, h.grown, fun hn => absurd ⟨by decide, .inl h10⟩ (hn u10), fun u hu => ?_, fun u hu => ?_, fun u hu => ⟨p, by decide, .inl h6⟩⟩
  · rcases hu.2 with hu | ⟨e, _⟩
    · exact h.row6 u hu
    · cases e
  · rcases hu.2 with hu | ⟨e, _⟩
    · exact h.row10 u hu
    · cases e
theorem JV.done (h : JV bo L1 W lb X G10 fs w) {u u10 : Value} (hu : fs 11 u) (h10 : fs 10 u10) : ∃ w0 p, w = (w0.setCell ⟨bo, 0, none⟩ p).setCell ⟨bo, 1, none⟩ (.slice none 0 0) ∧ BytesNew W.heap.size w0 p X ∧ Below L1 W w0 ∧ W.grownBy w0 lb ∧ G10 w0 u10 := by
  rcases h with ⟨h1, _⟩ | ⟨_, _, _, w0, p, e, hp, h⟩
  · exact absurd hu (h1 _)
  · exact ⟨w0, p, e, hp, h.below, h.grown, h.row10 u10 ⟨by decide, h10⟩⟩
end
set_option maxHeartbeats 4000000 in
theorem recoverK_new (B : Nat) (v : Value) (d : DiskT) (w : World) (he : EnvT w) (hd : DiskAt B w v d) (hB : B ≤ w.heap.size) (hsm : DSm d) :
    Calls Tryz.prog 24 #[v] w fun e w' => ∃ v' lv, e = .returned (.tuple #[v', lv, .int .i64 (diskErr d)]) ∧ DiskNew w.heap.size w' v' (dRecR d) ∧ RecsAt w'.heap.size w' lv (dRecL d) ∧ Below w.heap.size w w' := by
  obtain ⟨sv, tv, rfl, hs, ht⟩ := id hd
  obtain ⟨s, t⟩ := d
  simp only [] at hs ht
  obtain ⟨a, c, e1, -, -, -⟩ := id hs
  obtain ⟨b, c2, e2, h21, h22, -⟩ := id ht
  subst e1 e2
  obtain ⟨W, hW⟩ : ∃ W, W = (w.alloc (.cells #[.slice a s.length c, .slice b t.length c2] 48)).alloc (.cells #[.slice none 0 0, .slice none 0 0] 48) := ⟨_, rfl⟩
  have hb0 : Below w.heap.size w W := by rw [hW]; exact ((Below.refl _ _).alloc (Nat.le_refl _) _).alloc (by simp) _
  have g0 : W.heap[w.heap.size]? = some (.cells #[.slice a s.length c, .slice b t.length c2] 48 (0, 0)) := by
    rw [hW]
    exact heapK_kept _ (heapK_at _ _ rfl)
  have g1 : W.heap[w.heap.size + 1]? = some (.cells #[.slice none 0 0, .slice none 0 0] 48 (0, 0)) := by
    rw [hW]
    exact heapK_at _ _ (by simp only [World.size_alloc])
  have hsW : W.heap.size = w.heap.size + 1 + 1 := by rw [hW]; simp
  have HCk : Hid _ := checkK_any B _ (s, t) W (he.later hb0) (hd.later hb0 hB) (by omega) hsm
  obtain ⟨y0, y1, -, -⟩ := box_free g0
  have HW : Hid (W = _) := hW
  have Hb0 : Hid (Below w.heap.size w W) := hb0
  generalize hDE : diskErr (s, t) = DE at *
  have HDE : Hid (diskErr (s, t) = DE) := hDE
  obtain ⟨N, hN⟩ : ∃ n, n = s.length := ⟨_, rfl⟩
  obtain ⟨m, hm⟩ : ∃ m, m = t.length := ⟨_, rfl⟩
  rw [← hN] at HW HCk y0 g0 ⊢
  rw [← hm] at HW HCk y1 g0 ⊢
  have HN : Hid (N = s.length) := hN
  have HM : Hid (m = t.length) := hm
  clear hW hDE hN hm
  go_enter Tryz.func24, Tryz.ntmps24
  go_wp2_with fail
  rw [← HW.out]
  go_at_call 27
  refine Calls.mono HCk.out ?_
  rintro e w1 ⟨rfl, hb1⟩
  have G0 := (hb1.block _ (lt_of_block g0)).trans g0
  have G1 := (hb1.block _ (lt_of_block g1)).trans g1
  have hbw1 : Below w.heap.size w w1 := Below.thenOf hb0 hb1 hb0.size
  have hl1 : w.heap.size + 1 < w1.heap.size := lt_of_block G1
  obtain ⟨z0, z1, f0, f1⟩ := box_free G1
  obtain ⟨x0, x1, -, -⟩ := box_free G0
  clear y0 y1 HCk g0 g1 hsW hb1 HW
  by_cases hE : DE = 0
  · subst hE
    have hm := HM.out
    have hN := HN.out
    obtain ⟨hl6, hl7, hl8, hl9⟩ := diskErr_ok HDE.out
    simp only [] at hl6 hl7 hl8 hl9
    have HRR : Hid (dRecR (s, t) = (recovB (s, t), []) ∧ dRecL (s, t) = recovL (s, t)) := ⟨by unfold dRecR; rw [if_pos HDE.out], by unfold dRecL; rw [if_pos HDE.out]⟩
    have Hbw : Hid (Below w.heap.size w w1) := hbw1
    have HG0 : Hid (w1.heap[w.heap.size]? = some (.cells #[.slice a N c, .slice b m c2] 48 (0, 0))) := G0
    have HG1 : Hid (w1.heap[w.heap.size + 1]? = some (.cells #[.slice none 0 0, .slice none 0 0] 48 (0, 0))) := G1
    have HL1 : Hid (∀ w', Below w.heap.size w w' → Calls Tryz.prog 74 #[.slice a N c, .int .i64 40] w' fun e w'' => ∃ lv xs, e = .returned (.tuple #[lv, .int .i64 (linesP 40 s).2.1, .int .i64 (linesP 40 s).2.2]) ∧ w''.ownsRow w'.heap.size 38 5 lv (linesP 40 s).1.length xs ∧ XsL (RecKL w'.heap.size lv.ownBlock w'') xs (linesP 40 s).1 ∧ Below w'.heap.size w' w'') := fun w' hb => by
      rw [hN]
      exact readLines_any B _ s hl6 40 (by omega) w' (he.later hb) (hs.later hb hB) (Nat.le_trans hB hb.size)
    have HL2 : Hid (∀ w' most, most ≤ 40 → Below w.heap.size w w' → Calls Tryz.prog 74 #[.slice b m c2, .int .i64 (most : Nat)] w' fun e w'' => ∃ lv xs, e = .returned (.tuple #[lv, .int .i64 (linesP most t).2.1, .int .i64 (linesP most t).2.2]) ∧ w''.ownsRow w'.heap.size 38 5 lv (linesP most t).1.length xs ∧ XsL (RecKL w'.heap.size lv.ownBlock w'') xs (linesP most t).1 ∧ Below w'.heap.size w' w'') := fun w' most h40 hb => by
      rw [hm]
      exact readLines_any B _ t hl7 most h40 w' (he.later hb) (ht.later hb hB) (Nat.le_trans hB hb.size)
    clear G0 G1 hbw1 hd HDE hsm h21 h22 hb0 hN hm
    go_wp2_with fail
    go_at_call 74
    refine Calls.mono (HL1.out w1 Hbw.out) ?_
    obtain ⟨⟨L, k1, e1⟩, hLL⟩ : ∃ LL, LL = linesP 40 s := ⟨_, rfl⟩
    have hLn : L.length ≤ 40 := by have := linesP_len 40 s; rw [← hLL] at this; exact this
    obtain ⟨⟨M, k2, e2⟩, hMM⟩ : ∃ MM, MM = linesP (40 - L.length) t := ⟨_, rfl⟩
    have hMn : M.length ≤ 40 - L.length := by have := linesP_len (40 - L.length) t; rw [← hMM] at this; exact this
    have hk2 : k2 ≤ t.length := by have := linesP_bytes (40 - L.length) t; rw [← hMM] at this; exact this
    have HRes : Hid (dRecR (s, t) = (s ++ t.take k2, []) ∧ dRecL (s, t) = L ++ M) := by
      have e : recovM (s, t) = (M, k2, e2) := by unfold recovM; simp only []; rw [← hLL, hMM]
      rw [HRR.out.1, HRR.out.2]
      unfold Hid recovB recovL
      rw [e]
      simp only []
      rw [← hLL]
      refine ⟨?_, ?_⟩ <;> first | trivial | rfl
    have HL2' : Hid (∀ w', Below w.heap.size w w' → Calls Tryz.prog 74 #[.slice b m c2, .int .i64 ((40 - L.length : Nat) : Int)] w' fun e w'' => ∃ lv xs, e = .returned (.tuple #[lv, .int .i64 k2, .int .i64 e2]) ∧ w''.ownsRow w'.heap.size 38 5 lv M.length xs ∧ XsL (RecKL w'.heap.size lv.ownBlock w'') xs M ∧ Below w'.heap.size w' w'') := fun w' hb => by
      have := HL2.out w' (40 - L.length) (by omega) hb
      rw [← hMM] at this
      exact this
    rw [← hLL]
    simp only []
    clear hLL hMM HRR HL1 HL2 hl9
    rintro e w2 ⟨lv, xs, rfl, ho1, hx1, hb2⟩
    obtain ⟨la, lc, el, hlc, hlm, -⟩ := ownsRow_caps ho1
    subst el
    obtain ⟨ln, hln⟩ : ∃ n, n = L.length := ⟨_, rfl⟩
    have HLn : Hid (L.length = ln) := hln.symm
    rw [← hln] at ho1 hx1 hLn hMn HL2' hlc ⊢
    have hsub : (40 : Int) - (ln : Int) = ((40 - ln : Nat) : Int) := by omega
    have hbw2 : Below w.heap.size w w2 := Below.thenOf Hbw.out hb2 Hbw.out.size
    have P0 := (hb2.block _ (lt_of_block HG0.out)).trans HG0.out
    have P1 := (hb2.block _ (lt_of_block HG1.out)).trans HG1.out
    have hl2 : w.heap.size + 1 < w2.heap.size := lt_of_block P1
    have hs12 := hb2.size
    clear z0 z1 f0 f1 x0 x1 hln
    obtain ⟨x0, x1, -, -⟩ := box_free P0
    have Hbw2 : Hid (Below w.heap.size w w2) := hbw2
    have HP0 : Hid (w2.heap[w.heap.size]? = some (.cells #[.slice a N c, .slice b m c2] 48 (0, 0))) := P0
    have HP1 : Hid (w2.heap[w.heap.size + 1]? = some (.cells #[.slice none 0 0, .slice none 0 0] 48 (0, 0))) := P1
    have HO1 : Hid (w2.ownsRow w1.heap.size 38 5 (.slice la ln lc) ln xs) := ho1
    have HX1 : Hid (XsL (RecKL w1.heap.size (Value.slice la ln lc).ownBlock w2) xs L) := hx1
    have hl4 : ¬ (40 < ln) := by omega
    clear P0 P1 ho1 hx1 hbw2 HG0 HG1 hb2
    go_wp2_with fail
    go_at_call 74
    refine Calls.mono (HL2'.out w2 Hbw2.out) ?_
    rintro e w3 ⟨mv, ys, rfl, ho2, hx2, hb3⟩
    obtain ⟨ma, mc, em, hmc, hmm', -⟩ := ownsRow_caps ho2
    subst em
    obtain ⟨mn, hmn⟩ : ∃ n, n = M.length := ⟨_, rfl⟩
    have HMn : Hid (M.length = mn) := hmn.symm
    rw [← hmn] at ho2 hx2 hMn hmc ⊢
    have hbw3 : Below w.heap.size w w3 := Below.thenOf Hbw2.out hb3 Hbw2.out.size
    have P0 := (hb3.block _ (lt_of_block HP0.out)).trans HP0.out
    have P1 := (hb3.block _ (lt_of_block HP1.out)).trans HP1.out
    have hl3 : w.heap.size + 1 < w3.heap.size := lt_of_block P1
    have hs23 := hb3.size
    clear x0 x1 hmn
    obtain ⟨x0, x1, -, -⟩ := box_free P0
    have Hbw3 : Hid (Below w.heap.size w w3) := hbw3
    have HQ0 : Hid (w3.heap[w.heap.size]? = some (.cells #[.slice a N c, .slice b m c2] 48 (0, 0))) := P0
    have HQ1 : Hid (w3.heap[w.heap.size + 1]? = some (.cells #[.slice none 0 0, .slice none 0 0] 48 (0, 0))) := P1
    have HO1' : Hid (w3.ownsRow w1.heap.size 38 5 (.slice la ln lc) ln xs) := ownsRow_below HO1.out hb3
    have HX1' : Hid (XsL (RecKL w1.heap.size (Value.slice la ln lc).ownBlock w3) xs L) := HX1.out.imp fun _ _ h => h.grown (grownN_of_below hb3 _) (.inl rfl)
    have HO2 : Hid (w3.ownsRow w2.heap.size 38 5 (.slice ma mn mc) mn ys) := ho2
    have HX2 : Hid (XsL (RecKL w2.heap.size (Value.slice ma mn mc).ownBlock w3) ys M) := hx2
    have HlB : Hid (∀ k, (Value.slice la ln lc).ownBlock = some k → k < w2.heap.size ∧ w1.heap.size ≤ k) := fun k hk => by
      obtain ⟨cur, hc⟩ := ownsRow_tag HO1.out k hk
      exact ⟨lt_of_block hc, ownsRow_ge HO1.out k hk⟩
    have HmB : Hid (∀ k, (Value.slice ma mn mc).ownBlock = some k → k < w3.heap.size ∧ w2.heap.size ≤ k) := fun k hk => by
      obtain ⟨cur, hc⟩ := ownsRow_tag ho2 k hk
      exact ⟨lt_of_block hc, ownsRow_ge ho2 k hk⟩
    obtain ⟨a', hsl, hta⟩ := slice_to ht k2 hk2
    have hm0 := HM.out
    have hN0 := HN.out
    rw [← hm0] at hsl hk2
    have HJn : Hid (∀ w', Below w.heap.size w w' → Calls Tryz.prog 72 #[.slice a N c, .slice a' k2 c2] w' fun e w'' => ∃ v, e = .returned v ∧ BytesNew w'.heap.size w'' v (s ++ t.take k2) ∧ Below w'.heap.size w' w'') := fun w' hb => by
      rw [hN0]
      exact (joinK_any B _ _ s (t.take k2) w' (hs.later hb hB) (hta.later hb hB) (Nat.le_trans hB hb.size) (by rw [List.length_take]; omega)).mono fun e w'' ⟨v, h1, _, h3, h4⟩ => ⟨v, h1, h3, h4⟩
    have hkc : (k2 : Int) ≤ (c2 : Int) := by
      obtain ⟨_, _, e, h, _⟩ := ht
      simp at e
      omega
    have HNum : Hid ((ln + mn) * 56 ≤ 140737488355328 ∧ w1.heap.size ≤ w2.heap.size ∧ w2.heap.size ≤ w3.heap.size ∧ w.heap.size + 1 < w1.heap.size) := ⟨by omega, by omega, by omega, hl1⟩
    clear P0 P1 ho2 hx2 hbw3 HP0 HP1 hb3 HO1 HX1 HL2' hm0 hN0 hta hs ht
    obtain ⟨X, hX⟩ : ∃ X, X = s ++ t.take k2 := ⟨_, rfl⟩
    rw [← hX] at HJn HRes
    obtain ⟨lb, hlb⟩ : ∃ lb, lb = (Value.slice la ln lc).ownBlock := ⟨_, rfl⟩
    obtain ⟨G, hG⟩ : ∃ G : World → Value → Prop, G = fun w' u => w'.ownsRow w1.heap.size 38 5 u (ln + mn) (xs ++ ys) ∧ (u.ownBlock = lb ∨ ∃ k, u.ownBlock = some k ∧ w3.heap.size ≤ k) := ⟨_, rfl⟩
    have HG : Hid (∀ w' u, G w' u ↔ (w'.ownsRow w1.heap.size 38 5 u (ln + mn) (xs ++ ys) ∧ (u.ownBlock = lb ∨ ∃ k, u.ownBlock = some k ∧ w3.heap.size ≤ k))) := fun w' u => by rw [hG]
    have HApp : Hid (∀ w', Below w3.heap.size w3 w' → ∃ u w'', (Builtin.append_ #[53, 53] 53 #[.slice la ln lc, .slice ma mn mc]).run Tryz.prog w' = .ok u w'' ∧ G w'' u ∧ w'.grownBy w'' lb ∧ ∃ a c, u = .slice a (ln + mn) c) := fun w' hb => by
      obtain ⟨u, w'', r1, r2, r3, r4⟩ := run_append_rows w1.heap.size w2.heap.size _ _ ln mn xs ys w' (ownsRow_below HO1'.out hb) (ownsRow_below HO2.out hb) HX2.out.2.1 HNum.out.1 (by have := HNum.out; have := hb.size; omega)
      obtain ⟨ua, uc, eu, -⟩ := ownsRow_caps r2
      refine ⟨u, w'', r1, (HG.out _ _).2 ⟨r2, ?_⟩, by rw [hlb]; exact r3, ua, uc, eu⟩
      rcases r4 with e | ⟨k, e, hk⟩
      · exact .inl (by rw [hlb]; exact e)
      · exact .inr ⟨k, e, Nat.le_trans hb.size hk⟩
    have HlB' : Hid (∀ k, lb = some k → k < w3.heap.size ∧ w1.heap.size ≤ k) := fun k hk => by
      have := HlB.out k (by rw [← hlb]; exact hk)
      have := HNum.out
      omega
    have HFin : Hid (∀ w' u, w3.grownBy w' lb → G w' u → XsL (RecKL w1.heap.size u.ownBlock w') (xs ++ ys) (L ++ M) ∧ w'.ownsRow w1.heap.size 38 5 u (L ++ M).length (xs ++ ys)) := fun w' u hgr hGu => by
      obtain ⟨g1, g2⟩ := (HG.out _ _).1 hGu
      have hnum := HNum.out
      refine ⟨(HX1'.out.imp fun _ _ h => ?_).append (HX2.out.imp fun _ _ h => ?_), by rw [List.length_append, HLn.out, HMn.out]; exact g1⟩
      · rw [← hlb] at h
        exact h.grown hgr g2
      · refine (h.beside hgr (fun k hk => ?_) g2).mono (by omega)
        have := (HlB.out k (by rw [← hlb]; exact hk)).1
        omega
    obtain ⟨S, hS⟩ : ∃ S : Nat → Value → Prop, S = fun j v => (j = 6 → ∃ a n c, v = .slice a n c) ∧ (j = 10 → ∃ a c, v = .slice a (ln + mn) c) := ⟨_, rfl⟩
    have HS6 : Hid (∀ v, S 6 v ↔ ∃ a n c, v = .slice a n c) := fun v => by rw [hS]; simp
    have HS10 : Hid (∀ v, S 10 v ↔ ∃ a c, v = .slice a (ln + mn) c) := fun v => by rw [hS]; simp
    have HS11 : Hid (S 11 undef) := by unfold Hid; rw [hS]; exact ⟨fun e => (by cases e), fun e => (by cases e)⟩
    have HSs : Hid (∀ j, ∃ v, S j v) := fun j => ⟨.slice none (ln + mn) 0, by rw [hS]; exact ⟨fun _ => ⟨_, _, _, rfl⟩, fun _ => ⟨_, _, rfl⟩⟩⟩
    clear hG hS hX hlb
    have q0 : ∀ z : RdW w.heap.size (.slice a N c) (.slice b m c2), z.1.cell? ⟨w.heap.size, 0, none⟩ = some (.slice a N c) := fun z => z.2.1
    have q1 : ∀ z : RdW w.heap.size (.slice a N c) (.slice b m c2), z.1.cell? ⟨w.heap.size, 1, none⟩ = some (.slice b m c2) := fun z => z.2.2
    have hne : Nonempty (RdW w.heap.size (.slice a N c) (.slice b m c2)) := ⟨⟨w3, x0, x1⟩⟩
    have hDJ : Hid (∀ fs w', JV (w.heap.size + 1) w1.heap.size w3 lb X G fs w' → ∃ z : RdW w.heap.size (.slice a N c) (.slice b m c2), w' = z.1) := fun fs w' h => ⟨⟨w', heap_cell (h.box HQ0.out (by omega) (by omega)) 0 rfl, heap_cell (h.box HQ0.out (by omega) (by omega)) 1 rfl⟩, rfl⟩
    have HL13 : Hid (w1.heap.size ≤ w3.heap.size) := by have := HNum.out; unfold Hid; omega
    go_wp2_with fail
    refine wp_region_free [_, _, _, _, _, _, _, _, _, _, _, _, _] _ rfl (fun k => k == 6 || k == 10 || k == 11) (JV (w.heap.size + 1) w1.heap.size w3 lb X G) S HSs.out (by kernel_rfl) (by kernel_rfl) (JV.start _ _ _ _ _ _) ?_
    iterate 6 (refine wpG_read hDJ.out rfl rfl ?_; go_big_quiet_step (fail); refine wpQuiet_nil ?_)
    refine wpG_call 72 #[.slice a N c, .slice a' k2 c2] rfl rfl (fun w' => by kernel_rfl) (fun gs w' hJ hdep hno => ?_) (fun v6 hv6 => ?_)
    · obtain ⟨-, hA⟩ := hJ.ahead (.inl rfl) hno
      have hL13 := HL13.out
      refine (HJn.out w' (Hbw3.out.trans (hA.below.mono (by have := HNum.out; omega)))).mono ?_
      rintro e w4 ⟨u, rfl, hnew, hb⟩
      obtain ⟨ua, uc, eu⟩ := hnew.shape
      exact ⟨_, rfl, (HS6.out _).2 ⟨_, _, _, eu⟩, hJ.put6 hno hL13 hb (hnew.mono hA.grown.size)⟩
    simp only [Act.put, List.setIfInBounds_toArray, List.set_cons_succ, List.set_cons_zero]
    obtain ⟨a6, n6, c6, rfl⟩ := (HS6.out _).1 hv6
    iterate 3 (refine wpG_read hDJ.out rfl rfl ?_; go_big_quiet_step (fail); refine wpQuiet_nil ?_)
    refine wpG_write rfl rfl (fun gs w' hJ hdep hno => ?_) (fun v10 hv10 => ?_)
    · have h6 := hdep 6 _ (.inr ⟨rfl, rfl⟩) (waitsB_spec (by kernel_rfl))
      obtain ⟨-, hA⟩ := hJ.ahead (.inr (.inl rfl)) hno
      obtain ⟨u, w'', r1, r2, r3, r4⟩ := HApp.out w' (hA.still hno)
      refine ⟨u, w'', ?_, (HS10.out _).2 r4, hJ.put10 hno h6 HL13.out HlB'.out r3 r2⟩
      unfold execOp
      simp only [resolve, invoke, builtin, Sem.run_bind, Sem.run_pure, Result.andThen_ok, List.map_toArray, List.map_cons, List.map_nil]
      exact (congrArg (fun r => Result.andThen r fun v w => .ok (Next.value v) w) r1)
    simp only [Act.put, List.setIfInBounds_toArray, List.set_cons_succ, List.set_cons_zero]
    obtain ⟨a10, c10, rfl⟩ := (HS10.out _).1 hv10
    refine wpG_store rfl rfl (fun gs w' hJ hdep hno => ?_) (fun v11 hv11 => ?_)
    · have h6 := hdep 6 _ (.inl (.inr ⟨rfl, rfl⟩)) (waitsB_spec (by kernel_rfl))
      have h10 := hdep 10 _ (.inr ⟨rfl, rfl⟩) (waitsB_spec (by kernel_rfl))
      obtain ⟨-, hA⟩ := hJ.ahead (.inr (.inr rfl)) hno
      have hbx := (hA.below.block _ hl1).trans HQ1.out
      obtain ⟨z0', z1', f0', f1'⟩ := box_free hbx
      refine ⟨(w'.setCell ⟨w.heap.size + 1, 0, none⟩ (.slice a6 n6 c6)).setCell ⟨w.heap.size + 1, 1, none⟩ (.slice none 0 0), ?_, HS11.out, hJ.store hno h6 h10⟩
      clear hJ hdep hno q0 q1 hDJ hne h6 h10 hA hbx
      go_simp
    simp only [Act.put, List.setIfInBounds_toArray, List.set_cons_succ, List.set_cons_zero]
    refine wpG_read hDJ.out rfl rfl ?_; go_big_quiet_step (fail); refine wpQuiet_nil ?_
    refine wpG_nil ?_
    intro w4 hJ
    obtain ⟨w0, p, e4, hp, hbe, hgr, hG10⟩ := hJ.done (.inr ⟨rfl, rfl⟩) (.inl (.inr ⟨rfl, rfl⟩))
    obtain ⟨hxl, hrow⟩ := HFin.out _ _ hgr hG10
    have hbx := (hbe.block _ hl1).trans HQ1.out
    obtain ⟨j0, j1, j2⟩ := box_put (u := p) (v := .slice none 0 0) hbx
    rw [← e4] at j0 j1 j2
    obtain ⟨ea, ec, ee⟩ := hp.shape
    subst ee
    obtain ⟨y0, y1, -, -⟩ := box_free j0
    have hL13 := HL13.out
    have HE : Hid (DiskNew w.heap.size w4 (.agg #[.slice ea X.length ec, .slice none 0 0]) (X, []) ∧ RecsAt w4.heap.size w4 (.slice a10 (ln + mn) c10) (L ++ M) ∧ Below w.heap.size w w4) := by
      refine ⟨diskNew_of ((hp.keep j1 (by omega) j2).mono Hbw3.out.size) (nilNew _ _), ?_, ?_⟩
      · refine recsAt_own (L := w1.heap.size) (xs := xs ++ ys) ?_ (hxl.imp fun _ _ h => (h.keep j1 hl1 j2).kept).toR
        exact ownsRow_block hrow fun g cur hge hc => j1 g (by omega)
      · rw [e4]
        exact below_disk (Hbw3.out.trans (hbe.mono (by omega))) (by omega) _ _
    generalize X.length = n1 at *
    clear hJ e4 hbe hgr hG10 hxl hrow hp hbx j0 j1 j2 q0 q1 hDJ hne
    go_wp2_with fail
    refine bodyPost_ret (v := .tuple #[.agg #[.slice ea n1 ec, .slice none 0 0], .slice a10 (ln + mn) c10, .int .i64 0]) ?_ rfl ⟨_, _, rfl, by rw [HRes.out.1]; exact HE.out.1, by rw [HRes.out.2]; exact HE.out.2.1, HE.out.2.2⟩
    rw [results_cell_tmps rfl]
    go_simp
  · have hq : (DE != 0) = true := by simpa using hE
    have HS : Hid (dRecR (s, t) = ([], []) ∧ dRecL (s, t) = []) := ⟨by unfold dRecR; rw [if_neg (by rw [HDE.out]; exact hE)], by unfold dRecL; rw [if_neg (by rw [HDE.out]; exact hE)]⟩
    have HF : Hid (∀ x y, Below w.heap.size w ((w1.setCell ⟨w.heap.size + 1, 0, none⟩ x).setCell ⟨w.heap.size + 1, 1, none⟩ y)) := fun x y => below_disk hbw1 (by omega) x y
    clear G0 G1 hbw1 hs ht hd HDE hB hsm h21 h22 hb0 hE
    go_wp2_with fail
    refine bodyPost_ret (v := .tuple #[.agg #[.slice none 0 0, .slice none 0 0], .slice none 0 0, .int .i64 DE]) ?_ rfl ⟨_, _, rfl, by rw [HS.out.1]; exact diskNew_zero _ _, by rw [HS.out.2]; exact ⟨none, 0, rfl, Nat.le_refl _, Nat.zero_le _, fun i b hb => by simp at hb⟩, HF.out _ _⟩
    rw [results_cell_tmps rfl]
    go_simp
end Go.Proofs.YtdfcfinjoghipacGreatDoor
