/- OrderChain returns true, whatever the policies, in whatever memory. -/
import Derived.Test.YtclehchkmienoabGreatDoorOj34
import Derived.Test.YtclehchkmienoabGreatDoorOj19
import Derived.Test.YtclehchkmienoabGreatDoorOj22
set_option linter.all false
set_option maxRecDepth 100000
namespace Go.Proofs.YtclehchkmienoabGreatDoor
open Go.RowKit Go.Maps

theorem PolAt.shape {B : Nat} {w : World} {pv : Value} {p : PolT} (h : PolAt B w pv p) : ∃ a n c d, pv = .agg #[.slice a n c, .int .i64 d] := by
  obtain ⟨rv, rfl, _, hr⟩ := h
  obtain ⟨a, c, rfl, _⟩ := hr
  exact ⟨_, _, _, _, rfl⟩

set_option maxHeartbeats 16000000 in
theorem orderChain_any (B : Nat) (pv qv rv : Value) (p q r : PolT) (w : World) (he : EnvAt w) (hp : PolAt B w pv p) (hq : PolAt B w qv q) (hr : PolAt B w rv r) (hB : B ≤ w.heap.size) :
    Calls Tryz.prog 6 #[pv, qv, rv] w fun e w' => e = .returned (.bool true) ∧ Below w.heap.size w w' := by
  have HO : Hid (∀ w', Below w.heap.size w w' → Calls Tryz.prog 16 #[] w' fun e w'' => e = .returned (.bool true) ∧ Below w'.heap.size w' w'') := fun w' h => ordered_true w' (he.later h)
  have HLo : ∀ (sv tv : Value) (s t : PolT), PolAt B w sv s → PolAt B w tv t → Hid (∀ w', Below w.heap.size w w' → Calls Tryz.prog 13 #[sv, tv] w' fun e w'' => e = .returned (.tuple #[.bool (looserP s t).isSome, .agg #[.int .i64 (looserC s t 0), .int .i64 (looserC s t 1), .int .i64 (looserC s t 2), .int .i64 (looserC s t 3), .int .i64 (looserC s t 4)], .int .i64 (pointsE [s, t])]) ∧ Below w'.heap.size w' w'') := fun sv tv s t hs ht w' h => looserD_any B sv tv s t w' (hs.later h hB) (ht.later h hB) (Nat.le_trans hB h.size)
  have Hpp := HLo _ _ _ _ hp hp
  have Hpq := HLo _ _ _ _ hp hq
  have Hqr := HLo _ _ _ _ hq hr
  have Hpr := HLo _ _ _ _ hp hr
  clear HLo
  have hA : Hid (∀ (W : World) X, Below W.heap.size W (W.alloc X)) := fun W X => (Below.refl _ _).alloc (Nat.le_refl _) _
  have HC := chain_true (p := p) (q := q) (r := r)
  have HS : Hid (pointsE [p, p] = 0 → (looserP p p).isSome = false) := fun h => by rw [looser_self h]; rfl
  obtain ⟨a1, n1, c1, d1, rfl⟩ := hp.shape
  obtain ⟨a2, n2, c2, d2, rfl⟩ := hq.shape
  obtain ⟨a3, n3, c3, d3, rfl⟩ := hr.shape
  clear hp hq hr he
  generalize (looserP p p).isSome = lpp at *
  generalize (looserP p q).isSome = lpq at *
  generalize (looserP q r).isSome = lqr at *
  generalize (looserP p r).isSome = lpr at *
  generalize pointsE [p, p] = epp at *
  generalize pointsE [p, q] = epq at *
  generalize pointsE [q, r] = eqr at *
  generalize pointsE [p, r] = epr at *
  generalize looserC p p = xpp at *
  generalize looserC p q = xpq at *
  generalize looserC q r = xqr at *
  generalize looserC p r = xpr at *
  have HC' : Hid ((decide (epq ≠ 0) || decide (eqr ≠ 0) || decide (epr ≠ 0) || lpq || lqr || !lpr) = true) := HC
  clear HC
  go_enter Tryz.func6, Tryz.ntmps6
  go_wp2_with fail
  obtain ⟨W0, hW0⟩ : ∃ W0, W0 = ((w.alloc (.cells #[.slice a1 n1 c1, .int .i64 d1] 38)).alloc (.cells #[.slice a2 n2 c2, .int .i64 d2] 38)).alloc (.cells #[.slice a3 n3 c3, .int .i64 d3] 38) := ⟨_, rfl⟩
  have s0 : W0.heap.size = w.heap.size + 3 := by rw [hW0]; simp
  have bw0 : Below w.heap.size w W0 := by rw [hW0]; exact (((Below.refl _ _).alloc (Nat.le_refl _) _).alloc (by simp) _).alloc (by simp; omega) _
  have hp0 : W0.heap[w.heap.size]? = some (.cells #[.slice a1 n1 c1, .int .i64 d1] 38 (0, 0)) := by
    rw [hW0]
    exact ((hA.out _ _).block _ (by simp; omega)).trans (((hA.out _ _).block _ (by simp)).trans (heap_made w _))
  have hq0 : W0.heap[w.heap.size + 1]? = some (.cells #[.slice a2 n2 c2, .int .i64 d2] 38 (0, 0)) := by
    rw [hW0]
    refine ((hA.out _ _).block _ (by simp)).trans ?_
    have := heap_made (w.alloc (.cells #[.slice a1 n1 c1, .int .i64 d1] 38)) (.cells #[.slice a2 n2 c2, .int .i64 d2] 38)
    simpa using this
  have hr0 : W0.heap[w.heap.size + 2]? = some (.cells #[.slice a3 n3 c3, .int .i64 d3] 38 (0, 0)) := by
    rw [hW0]
    have := heap_made ((w.alloc (.cells #[.slice a1 n1 c1, .int .i64 d1] 38)).alloc (.cells #[.slice a2 n2 c2, .int .i64 d2] 38)) (.cells #[.slice a3 n3 c3, .int .i64 d3] 38)
    simpa using this
  have HBx : Hid (∀ w', Below W0.heap.size W0 w' → (w'.cell? ⟨w.heap.size, 0, none⟩ = some (.slice a1 n1 c1) ∧ w'.cell? ⟨w.heap.size, 1, none⟩ = some (.int .i64 d1)) ∧ (w'.cell? ⟨w.heap.size + 1, 0, none⟩ = some (.slice a2 n2 c2) ∧ w'.cell? ⟨w.heap.size + 1, 1, none⟩ = some (.int .i64 d2)) ∧ (w'.cell? ⟨w.heap.size + 2, 0, none⟩ = some (.slice a3 n3 c3) ∧ w'.cell? ⟨w.heap.size + 2, 1, none⟩ = some (.int .i64 d3)) ∧ w.heap.size < w'.heap.size ∧ w.heap.size + 1 < w'.heap.size ∧ w.heap.size + 2 < w'.heap.size ∧ Below w.heap.size w w') := fun w' hb => by
    have k1 := (hb.block w.heap.size (by omega)).trans hp0
    have k2 := (hb.block (w.heap.size + 1) (by omega)).trans hq0
    have k3 := (hb.block (w.heap.size + 2) (by omega)).trans hr0
    have := hb.size
    exact ⟨⟨heap_cell k1 0 rfl, heap_cell k1 1 rfl⟩, ⟨heap_cell k2 0 rfl, heap_cell k2 1 rfl⟩, ⟨heap_cell k3 0 rfl, heap_cell k3 1 rfl⟩, by omega, by omega, by omega, Below.thenOf bw0 hb bw0.size⟩
  rw [← hW0]
  clear hW0 hp0 hq0 hr0 s0
  go_at_call 13
  refine Calls.mono (Hpp.out _ bw0) ?_
  rintro e w1 ⟨rfl, b01⟩
  go_wp2_with fail
  obtain ⟨W2, hW2⟩ : ∃ W2, W2 = w1.alloc (.cells #[.int .i64 (xpp 0), .int .i64 (xpp 1), .int .i64 (xpp 2), .int .i64 (xpp 3), .int .i64 (xpp 4)] 29) := ⟨_, rfl⟩
  have b12 : Below w1.heap.size w1 W2 := by rw [hW2]; exact hA.out _ _
  have b02 := Below.thenOf b01 b12 b01.size
  have bw2 := (HBx.out W2 b02).2.2.2.2.2.2
  rw [← hW2]
  clear hW2
  go_at_call 16
  refine Calls.mono (HO.out _ bw2) ?_
  rintro e w3 ⟨rfl, b23⟩
  have b03 := Below.thenOf b02 b23 b02.size
  obtain ⟨⟨p0, p1⟩, ⟨q0, q1⟩, -, l0, l1, l2, bw3⟩ := HBx.out w3 b03
  by_cases h0 : epp = 0
  · have hl := HS.out h0
    subst h0
    subst hl
    clear HS
    go_wp2_with fail
    clear p0 p1 q0 q1 l0 l1 l2
    go_at_call 13
    refine Calls.mono (Hpq.out _ bw3) ?_
    rintro e w4 ⟨rfl, b34⟩
    have b04 := Below.thenOf b03 b34 b03.size
    obtain ⟨⟨p0, p1⟩, ⟨q0, q1⟩, ⟨r0, r1⟩, l0, l1, l2, bw4⟩ := HBx.out w4 b04
    go_wp2_with fail
    obtain ⟨W5, hW5⟩ : ∃ W5, W5 = w4.alloc (.cells #[.int .i64 (xpq 0), .int .i64 (xpq 1), .int .i64 (xpq 2), .int .i64 (xpq 3), .int .i64 (xpq 4)] 29) := ⟨_, rfl⟩
    have b45 : Below w4.heap.size w4 W5 := by rw [hW5]; exact hA.out _ _
    have b05 := Below.thenOf b04 b45 b04.size
    have bw5 := (HBx.out W5 b05).2.2.2.2.2.2
    rw [← hW5]
    clear hW5 p0 p1 q0 q1 r0 r1 l0 l1 l2
    go_at_call 13
    refine Calls.mono (Hqr.out _ bw5) ?_
    rintro e w6 ⟨rfl, b56⟩
    have b06 := Below.thenOf b05 b56 b05.size
    obtain ⟨⟨p0, p1⟩, ⟨q0, q1⟩, ⟨r0, r1⟩, l0, l1, l2, bw6⟩ := HBx.out w6 b06
    go_wp2_with fail
    obtain ⟨W7, hW7⟩ : ∃ W7, W7 = w6.alloc (.cells #[.int .i64 (xqr 0), .int .i64 (xqr 1), .int .i64 (xqr 2), .int .i64 (xqr 3), .int .i64 (xqr 4)] 29) := ⟨_, rfl⟩
    have b67 : Below w6.heap.size w6 W7 := by rw [hW7]; exact hA.out _ _
    have b07 := Below.thenOf b06 b67 b06.size
    have bw7 := (HBx.out W7 b07).2.2.2.2.2.2
    rw [← hW7]
    clear hW7 p0 p1 q0 q1 r0 r1 l0 l1 l2
    go_at_call 13
    refine Calls.mono (Hpr.out _ bw7) ?_
    rintro e w8 ⟨rfl, b78⟩
    have b08 := Below.thenOf b07 b78 b07.size
    have b09 := Below.thenOf b08 (hA.out w8 (.cells #[.int .i64 (xpr 0), .int .i64 (xpr 1), .int .i64 (xpr 2), .int .i64 (xpr 3), .int .i64 (xpr 4)] 29)) b08.size
    have bw9 := (HBx.out _ b09).2.2.2.2.2.2
    clear b09 b08 b78 b07 b67 b06 b56 b05 b45 b04 b34 b03 b23 b02 b12 b01 bw0 bw2 bw3 bw4 bw5 bw6 bw7 HBx Hpp Hpq Hqr Hpr HO
    by_cases k1 : epq = 0
    · subst k1
      by_cases k2 : eqr = 0
      · subst k2
        by_cases k3 : epr = 0
        · subst k3
          have hc := HC'.out
          clear HC'
          cases lpq
          · cases lqr
            · cases lpr
              · go_wp2_with fail
                go_ret
                exact ⟨rfl, bw9⟩
              · simp at hc
            · clear hc
              go_wp2_with fail
              go_ret
              exact ⟨rfl, bw9⟩
          · clear hc
            go_wp2_with fail
            go_ret
            exact ⟨rfl, bw9⟩
        · have hq : (epr != 0) = true := by simpa using k3
          clear HC' k3
          go_wp2_with fail
          go_ret
          exact ⟨rfl, bw9⟩
      · have hq : (eqr != 0) = true := by simpa using k2
        clear HC' k2
        go_wp2_with fail
        go_ret
        exact ⟨rfl, bw9⟩
    · have hq : (epq != 0) = true := by simpa using k1
      clear HC' k1
      go_wp2_with fail
      go_ret
      exact ⟨rfl, bw9⟩
  · have hq : (epp != 0) = true := by simpa using h0
    clear HS h0
    go_wp2_with fail
    go_at_call 16
    refine Calls.mono (HO.out _ bw3) ?_
    rintro e w4 ⟨rfl, b34⟩
    have bw4 := Below.thenOf bw3 b34 bw3.size
    go_wp2_with fail
    go_ret
    exact ⟨rfl, bw4⟩
end Go.Proofs.YtclehchkmienoabGreatDoor
