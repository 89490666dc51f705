/- Package point: policies checked, the greatest cut that isn't above searched. -/
import Derived.Test.YtclehchkmienoabGreatDoorOj23
import Derived.Test.YtclehchkmienoabGreatDoorOj03
set_option linter.all false
set_option maxRecDepth 100000
namespace Go.Proofs.YtclehchkmienoabGreatDoor
open Go.RowKit Go.Maps

set_option maxHeartbeats 2000000 in
theorem checkAllD_any (B : Nat) (lv : Value) (ps : List PolT) (w : World) (hl : PolsAt B w lv ps) (hB : B ≤ w.heap.size) :
    Calls Tryz.prog 19 #[lv] w fun e w' => e = .returned (.int .i64 (polsErr ps)) ∧ Below w.heap.size w w' := by
  have HL : Hid (∀ w', Below w.heap.size w w' → PolsAt B w' lv ps) := fun w' h => hl.later h hB
  obtain ⟨a, cap, rfl, hlc, hcm, -⟩ := hl
  have hml := maxLen_eq
  generalize hlen : ps.length = len at *
  have hlenH : Hid (ps.length = len) := hlen
  clear hlen
  go_enter Tryz.func19, Tryz.ntmps19
  go_wp2
  go_loopw [8] (fun iv wr => ∃ k : Nat, k ≤ len ∧ iv = .int .i64 k ∧ Hid (polsErr ps = polsErr (ps.drop k)) ∧ Below w.heap.size w wr) (fun iv _ => len - (intOf iv).toNat)
  case atStart => exact ⟨0, by omega, rfl, rfl, Below.refl _ _⟩
  case round =>
    obtain ⟨k, hk, rfl, H, hbr⟩ := hrel
    obtain ⟨wo, hwo⟩ : ∃ x, x = wr := ⟨_, rfl⟩
    subst hwo
    have i0 : (0 : Int) ≤ (k : Int) := by omega
    have hos := hbr.size
    by_cases hlt : k < len
    · have i1 : (k : Int) < (len : Int) := by omega
      obtain ⟨p, hpk⟩ : ∃ p, ps[k]? = some p := ⟨ps[k]'(by rw [hlenH.out]; omega), by simp⟩
      have S : Hid (polsErr (ps.drop k) = if polErr p = 0 then polsErr (ps.drop (k + 1)) else polErr p) := polsErr_drop ps k p hpk
      obtain ⟨_, _, e1, -, -, hat⟩ := HL.out _ hbr
      obtain ⟨b, o, e, hbB, hpc⟩ := hat k p hpk
      simp at e1
      obtain ⟨rfl, -, -⟩ := e1
      subst e
      clear hat
      obtain ⟨a2, n2, c2, k0, k1, hpa⟩ := hpc.pol
      have HPA : Hid (∀ w', Below wo.heap.size wo w' → Calls Tryz.prog 36 #[.agg #[.slice a2 n2 c2, .int .i64 p.2]] w' fun e w'' => e = .returned (.int .i64 (polErr p)) ∧ Below w'.heap.size w' w'') := fun w' h => check_pol B _ p w' (hpa.later h (Nat.le_trans hB hos)) (Nat.le_trans hB (Nat.le_trans hos h.size))
      clear hpc hpa
      by_cases he : polErr p = 0
      · rw [he] at HPA
        have S' : Hid (polsErr ps = polsErr (ps.drop (k + 1))) := by unfold Hid; rw [H.out, S.out, if_pos he]
        clear he S
        go_wp2_with (first | (go_at_call 36; go_must (refine Calls.mono (HPA.out _ ((Below.refl _ _).alloc (Nat.le_refl _) _)) ?_; rintro e w2 ⟨rfl, hb2⟩)))
        exact ⟨⟨k + 1, by omega, by go_num, S', Below.thenOf (hbr.alloc hos _) hb2 (by simp; omega)⟩, by simp [intOf]; omega⟩
      · have S' : Hid (polsErr ps = polErr p) := by unfold Hid; rw [H.out, S.out, if_neg he]
        have hq : (polErr p != 0) = true := by simpa using he
        clear he S
        generalize polErr p = pe at *
        go_wp2_with (first | (go_at_call 36; go_must (refine Calls.mono (HPA.out _ ((Below.refl _ _).alloc (Nat.le_refl _) _)) ?_; rintro e w2 ⟨rfl, hb2⟩)))
        go_ret
        exact ⟨by rw [S'.out]; rfl, Below.thenOf (hbr.alloc hos _) hb2 (by simp; omega)⟩
    · go_wp2
      go_ret
      exact ⟨by rw [H.out, List.drop_eq_nil_of_le (by rw [hlenH.out]; omega)]; rfl, hbr⟩

set_option maxHeartbeats 2000000 in
/-- What cutBelow asks of a place. -/
theorem above_any (bc bv g cap n i : Nat) (v q : Int) (w : World) (hi : i < n) (h1 : w.cell? ⟨bc, 0, none⟩ = some (.slice (some ⟨g, 0, none⟩) n cap)) (h2 : w.cell? ⟨bv, 0, none⟩ = some (.int .i64 v)) (h3 : w.cell? ⟨g, i, none⟩ = some (.int .i64 q)) (hbc : bc < w.heap.size) (hbv : bv < w.heap.size) (hg : g < w.heap.size) :
    Calls Tryz.prog 63 #[.int .i64 i, .pointer (some ⟨bc, 0, none⟩), .pointer (some ⟨bv, 0, none⟩)] w fun e w' => e = .returned (.bool (decide (v < q))) ∧ Below w.heap.size w w' := by
  have i0 : (0 : Int) ≤ (i : Int) := by omega
  have i1 : (i : Int) < (n : Int) := by omega
  have hne := Later.ne w
  have c1 : ∀ x : Later w, x.1.cell? ⟨bc, 0, none⟩ = some (.slice (some ⟨g, 0, none⟩) n cap) := fun x => x.cell h1 hbc
  have c2 : ∀ x : Later w, x.1.cell? ⟨bv, 0, none⟩ = some (.int .i64 v) := fun x => x.cell h2 hbv
  have c3 : ∀ x : Later w, x.1.cell? ⟨g, i, none⟩ = some (.int .i64 q) := fun x => x.cell h3 hg
  clear h1 h2 h3
  go_enter Tryz.func63, Tryz.ntmps63
  go_wp2
  refine wp_region_later (by kernel_rfl) (by kernel_rfl) ?_
  repeat (go_big_quiet_step (fail))
  refine wpQuiet_nil ?_
  rintro wx ⟨⟨_, hx⟩, rfl⟩
  go_wp2
  go_ret
  exact ⟨by simp, hx⟩

set_option maxHeartbeats 4000000 in
/-- sort.Search, of rising numbers, for the first one above. -/
theorem search_any (bc bv g cap : Nat) (L : List Int) (v : Int) (w : World) (hr : Rising L) (hn : L.length ≤ 65536) (h1 : w.cell? ⟨bc, 0, none⟩ = some (.slice (some ⟨g, 0, none⟩) L.length cap)) (h2 : w.cell? ⟨bv, 0, none⟩ = some (.int .i64 v)) (h3 : ∀ (i : Nat) q, L[i]? = some q → w.cell? ⟨g, i, none⟩ = some (.int .i64 q)) (hbc : bc < w.heap.size) (hbv : bv < w.heap.size) (hg : g < w.heap.size) :
    Calls Tryz.prog 62 #[.int .i64 L.length, .func (.func 63) #[] #[.pointer (some ⟨bc, 0, none⟩), .pointer (some ⟨bv, 0, none⟩)]] w fun e w' => ∃ k : Nat, e = .returned (.int .i64 k) ∧ k ≤ L.length ∧ (∀ (t : Nat) n, t < k → L[t]? = some n → n ≤ v) ∧ (∀ (t : Nat) n, k ≤ t → L[t]? = some n → v < n) ∧ Below w.heap.size w w' := by
  have HR : Hid (Rising L) := hr
  obtain ⟨n, hn'⟩ : ∃ n, n = L.length := ⟨_, rfl⟩
  have hnH : Hid (L.length = n) := hn'.symm
  rw [← hn'] at h1 hn
  rw [← hn']
  clear hn' hr
  have HC : Hid (∀ (i : Nat) q w', L[i]? = some q → Below w.heap.size w w' → Calls Tryz.prog 63 #[.int .i64 i, .pointer (some ⟨bc, 0, none⟩), .pointer (some ⟨bv, 0, none⟩)] w' fun e w'' => e = .returned (.bool (decide (v < q))) ∧ Below w'.heap.size w' w'') := by
    intro i q w' hq hb
    have hi := (List.getElem?_eq_some_iff.1 hq).1
    have hs := hb.size
    exact above_any bc bv g cap n i v q w' (by rw [hnH.out] at hi; exact hi) ((hb.cell (p := ⟨bc, 0, none⟩) hbc).trans h1) ((hb.cell (p := ⟨bv, 0, none⟩) hbv).trans h2) ((hb.cell (p := ⟨g, i, none⟩) hg).trans (h3 i q hq)) (by omega) (by omega) (by omega)
  clear h1 h2 h3 hbc hbv hg
  go_enter Tryz.func62, Tryz.ntmps62
  go_wp2
  go_loopw [5, 6] (fun lv hv wr => ∃ lo hi : Nat, lv = .int .i64 lo ∧ hv = .int .i64 hi ∧ lo ≤ hi ∧ hi ≤ n ∧ Hid (∀ (t : Nat) q, t < lo → L[t]? = some q → q ≤ v) ∧ Hid (∀ (t : Nat) q, hi ≤ t → L[t]? = some q → v < q) ∧ Below w.heap.size w wr) (fun lv hv _ => (intOf hv).toNat - (intOf lv).toNat)
  case atStart =>
    refine ⟨0, n, rfl, rfl, by omega, Nat.le_refl _, fun t q ht _ => absurd ht (by omega), fun t q ht hq => ?_, Below.refl _ _⟩
    have hi := (List.getElem?_eq_some_iff.1 hq).1
    rw [hnH.out] at hi
    omega
  case round =>
    obtain ⟨lo, hi, rfl, rfl, hlh, hin, HLo, HHi, hbr⟩ := hrel
    obtain ⟨wo, hwo⟩ : ∃ x, x = wr := ⟨_, rfl⟩
    subst hwo
    by_cases hlt : lo < hi
    · have i1 : (lo : Int) < (hi : Int) := by omega
      obtain ⟨m, hm⟩ : ∃ m, m = (lo + hi) / 2 := ⟨_, rfl⟩
      obtain ⟨q, hq⟩ : ∃ q, L[m]? = some q := ⟨L[m]'(by rw [hnH.out]; omega), by simp⟩
      have hc := HC.out m q wo hq hbr
      have hm' : ((lo : Int) + (hi : Int)) / 2 = (m : Int) := by omega
      have HM : Hid (lo ≤ m ∧ m < hi) := ⟨by omega, by omega⟩
      rw [← hm'] at hc
      have hc' : Hid _ := hc
      have HQ : Hid (L[m]? = some q) := hq
      have Hm' : Hid (((lo : Int) + (hi : Int)) / 2 = (m : Int)) := hm'
      clear hc hm hm' hq
      by_cases hvq : v < q
      · have hd : decide (v < q) = true := decide_eq_true hvq
        have HV : Hid (v < q) := hvq
        have HH' : Hid (∀ (t : Nat) q, m ≤ t → L[t]? = some q → v < q) := by
          intro t r ht hr'
          have := rising_le HR.out ht HQ.out hr'
          omega
        rw [hd] at hc'
        clear hd hvq
        go_wp2_with (first | (go_at_call 63; go_must (refine Calls.mono hc'.out ?_; rintro e w2 ⟨rfl, hb2⟩)))
        have hM := HM.out
        refine ⟨⟨lo, m, rfl, by rw [Hm'.out], by omega, by omega, HLo, HH', Below.thenOf hbr hb2 hbr.size⟩, ?_⟩
        rw [Hm'.out]
        simp [intOf]
        omega
      · have hd : decide (v < q) = false := decide_eq_false hvq
        have HL' : Hid (∀ (t : Nat) q, t < m + 1 → L[t]? = some q → q ≤ v) := by
          intro t r ht hr'
          have := rising_le HR.out (show t ≤ m by omega) hr' HQ.out
          omega
        rw [hd] at hc'
        clear hd hvq
        go_wp2_with (first | (go_at_call 63; go_must (refine Calls.mono hc'.out ?_; rintro e w2 ⟨rfl, hb2⟩)))
        have hM := HM.out
        refine ⟨⟨m + 1, hi, by rw [Hm'.out]; go_num, rfl, by omega, hin, HL', HHi, Below.thenOf hbr hb2 hbr.size⟩, ?_⟩
        rw [Hm'.out]
        simp [intOf]
        omega
    · obtain rfl : lo = hi := by omega
      go_wp2
      go_ret
      exact ⟨lo, rfl, hin, HLo.out, HHi.out, hbr⟩

set_option maxHeartbeats 4000000 in
theorem cutBelow_any (g cap : Nat) (L : List Int) (v : Int) (w : World) (hr : Rising L) (h0 : L[0]? = some 0) (hv : 0 ≤ v) (hn : L.length ≤ 65536) (hcap : L.length ≤ cap) (h3 : ∀ (i : Nat) q, L[i]? = some q → w.cell? ⟨g, i, none⟩ = some (.int .i64 q)) (hg : g < w.heap.size) :
    Calls Tryz.prog 47 #[.slice (some ⟨g, 0, none⟩) L.length cap, .int .i64 v] w fun e w' => e = .returned (.int .i64 (lastLe v 0 L)) ∧ Below w.heap.size w w' := by
  obtain ⟨W0, hW0⟩ : ∃ W0, W0 = (w.alloc (.cells #[.slice (some ⟨g, 0, none⟩) L.length cap] 32)).alloc (.cells #[.int .i64 v] 3) := ⟨_, rfl⟩
  have hbW : Below w.heap.size w W0 := by rw [hW0]; exact ((Below.refl _ _).alloc (Nat.le_refl _) _).alloc (by simp) _
  have hs0 : W0.heap.size = w.heap.size + 1 + 1 := by rw [hW0]; simp
  have hc0 : W0.heap[w.heap.size]? = some (.cells #[.slice (some ⟨g, 0, none⟩) L.length cap] 32 (0, 0)) := by
    rw [hW0, Below.heap_alloc _ _ _ (by simp)]
    exact (MapKept.heap_alloc w _).1
  have hc1 : W0.heap[w.heap.size + 1]? = some (.cells #[.int .i64 v] 3 (0, 0)) := by
    have := (MapKept.heap_alloc (w.alloc (.cells #[.slice (some ⟨g, 0, none⟩) L.length cap] 32)) (.cells #[.int .i64 v] 3)).1
    rw [World.size_alloc] at this
    rw [hW0]
    exact this
  have HS : Hid (Calls Tryz.prog 62 #[.int .i64 L.length, .func (.func 63) #[] #[.pointer (some ⟨w.heap.size, 0, none⟩), .pointer (some ⟨w.heap.size + 1, 0, none⟩)]] W0 fun e w' => ∃ k : Nat, e = .returned (.int .i64 k) ∧ k ≤ L.length ∧ (∀ (t : Nat) n, t < k → L[t]? = some n → n ≤ v) ∧ (∀ (t : Nat) n, k ≤ t → L[t]? = some n → v < n) ∧ Below W0.heap.size W0 w') :=
    search_any w.heap.size (w.heap.size + 1) g cap L v W0 hr hn (heap_cell hc0 0 rfl) (heap_cell hc1 0 rfl) (fun i q hq => (hbW.cell (p := ⟨g, i, none⟩) hg).trans (h3 i q hq)) (by omega) (by omega) (by omega)
  have HL : Hid (∀ (i : Nat) q, L[i]? = some q → W0.cell? ⟨g, i, none⟩ = some (.int .i64 q)) := fun i q hq => (hbW.cell (p := ⟨g, i, none⟩) hg).trans (h3 i q hq)
  have H0 : Hid (L[0]? = some 0) := h0
  obtain ⟨n, hn'⟩ : ∃ n, n = L.length := ⟨_, rfl⟩
  have hnH : Hid (L.length = n) := hn'.symm
  rw [← hn'] at hn hcap hW0 hc0 HS
  rw [← hn']
  have x0 := heap_cell hc0 0 rfl
  clear hn' h0 h3 hr hc1
  have HW : Hid _ := hW0
  clear hW0
  go_enter Tryz.func47, Tryz.ntmps47
  go_wp2_with fail
  go_at_call 62
  rw [← HW.out]
  refine Calls.mono HS.out ?_
  rintro e w2 ⟨k, rfl, hk, hlo, hhi, hb2⟩
  have hk0 : 0 < k := by
    rcases Nat.eq_zero_or_pos k with e | e
    · subst e
      have := hhi 0 0 (Nat.le_refl _) H0.out
      omega
    · exact e
  have hf := lastLe_found v L k hk0 (by rw [hnH.out]; exact hk) hlo hhi
  have y1 : w2.cell? ⟨g, k - 1, none⟩ = some (.int .i64 (lastLe v 0 L)) := (hb2.cell (p := ⟨g, k - 1, none⟩) (by show g < _; omega)).trans (HL.out _ _ hf)
  have y0 : w2.cell? ⟨w.heap.size, 0, none⟩ = some (.slice (some ⟨g, 0, none⟩) n cap) := (hb2.cell (p := ⟨w.heap.size, 0, none⟩) (by show w.heap.size < _; omega)).trans x0
  clear hlo hhi hf x0
  generalize hr : lastLe v 0 L = r at *
  have HRr : Hid (lastLe v 0 L = r) := hr
  clear hr
  obtain ⟨j, rfl⟩ : ∃ j, k = j + 1 := ⟨k - 1, by omega⟩
  rw [show j + 1 - 1 = j by omega] at y1
  have j0 : (0 : Int) ≤ (j : Int) := by omega
  have j1 : (j : Int) < (n : Int) := by omega
  have e1 : IntKind.i64.wrap (((j + 1 : Nat) : Int) - 1) = (j : Int) := by rw [show ((j + 1 : Nat) : Int) - 1 = (j : Int) by omega]; exact IntWalk.i64_in _ (by omega)
  go_wp2
  go_ret
  exact ⟨by rw [HRr.out]; rfl, Below.thenOf hbW hb2 (by omega)⟩

end Go.Proofs.YtclehchkmienoabGreatDoor
