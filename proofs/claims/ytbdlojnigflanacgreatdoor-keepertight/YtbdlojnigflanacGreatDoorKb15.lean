/- What the program's own Run says of a right filter: what it says, and behind how many instructions. -/
import Derived.Test.YtbdlojnigflanacGreatDoorKb14
set_option linter.all false
set_option maxRecDepth 100000
namespace Go.Proofs.YtbdlojnigflanacGreatDoor
open Go.RowKit Go.Maps

def incs (m : Int) (p : Int × Int) : Int × Int := (p.1, p.2 + m)
theorem incs_inc (m : Int) (p : Int × Int) : incs m (inc p) = incs (m + 1) p := by unfold incs inc; simp; omega
theorem next_lt {l : List InsT} (h : lastKind l = 4) {k : Nat} {c : InsT} (hc : l[k]? = some c) (h4 : c.1 ≠ 4) : k + 1 < l.length := by
  have hk := (List.getElem?_eq_some_iff.1 hc).1
  by_cases e : k = l.length - 1
  · exfalso
    rw [e] at hc
    exact h4 ((lastKind_at l c hc).symm.trans h)
  · omega
theorem runs_at (x : Nat → Int) {l : List InsT} {k : Nat} {c : InsT} (h : l[k]? = some c) (n : Int) :
    runs x n 0 (l.drop k) = if c.1 = 1 then inc (runs x (x c.2.1.toNat) 0 (l.drop (k + 1))) else if c.1 = 2 ∨ c.1 = 3 then inc (runs x n 0 (l.drop (k + 1 + hop n c))) else (c.2.1, 1) := by
  obtain ⟨hk, rfl⟩ := List.getElem?_eq_some_iff.1 h
  rw [List.drop_eq_getElem_cons hk, runs, runs_skip x _ n (hop n _), List.drop_drop]

set_option maxHeartbeats 4000000 in
theorem follow_any (B : Nat) (cv : Value) (l : List InsT) (x : Nat → Int) (w : World) (hc : InssAt B w cv l) (hB : B ≤ w.heap.size) (hok : codeErr l = 0) :
    Calls Tryz.prog 161 #[cv, callV x] w fun e w' => e = .returned (.tuple #[.int .i64 (runs x 0 0 l).1, .int .i64 (runs x 0 0 l).2]) ∧ Below w.heap.size w w' := by
  obtain ⟨a, cap, rfl, hlc, hcm, hcs⟩ := hc
  obtain ⟨hl1, hl2, hie, hlk⟩ := codeErr_ok hok
  have hcs' : Hid (∀ (i : Nat) (c : InsT), l[i]? = some c → ∃ b o, a = some ⟨b, o, none⟩ ∧ b < B ∧ InsAt w b (o + i * 4) c) := hcs
  have HG : Hid (∀ (k : Nat) (c : InsT), l[k]? = some c → insErr c ((l.length : Int) - 1 - k) = 0) := fun k c h => inssErr_all l k c hie h
  have HL : Hid (∀ (k : Nat) (c : InsT), l[k]? = some c → c.1 ≠ 4 → k + 1 < l.length) := fun k c h h4 => next_lt hlk h h4
  have HX : Hid (∀ T w', Below (w.heap.size + 1) (w.alloc (.cells #[.int .i64 (x 0), .int .i64 (x 1), .int .i64 (x 2), .int .i64 (x 3), .int .i64 (x 4)] T)) w' → XAt w' w.heap.size x) := fun T w' h => (XAt.made x w T).later h (by omega)
  clear hcs hok hie hlk
  generalize hn : l.length = len at *
  have hml := maxLen_eq
  show Calls Tryz.prog 161 #[.slice a len cap, .agg #[.int .i64 (x 0), .int .i64 (x 1), .int .i64 (x 2), .int .i64 (x 3), .int .i64 (x 4)]] w _
  go_enter Tryz.func161, Tryz.ntmps161
  go_wp2
  go_loopw [6, 7, 8] (fun ld at' dn wr => ∃ (n : Int) (k m : Nat), ld = .int .i64 n ∧ at' = .int .i64 k ∧ dn = .int .i64 ((m : Int) + 1) ∧ k < len ∧ m ≤ k ∧ Hid (runs x 0 0 l = incs m (runs x n 0 (l.drop k))) ∧ Below w.heap.size w wr ∧ Hid (XAt wr w.heap.size x) ∧ w.heap.size < wr.heap.size) (fun _ at' _ _ => len - (intOf at').toNat)
  case atStart => exact ⟨0, 0, 0, rfl, rfl, rfl, by omega, by omega, by unfold Hid incs; simp, (Below.refl _ _).alloc (Nat.le_refl _) _, HX.out _ _ (Below.refl _ _), by simp⟩
  case round =>
    obtain ⟨n, k, m, rfl, rfl, rfl, hk, hm, H, hbr, hX, hz⟩ := hrel
    have i0 : (0 : Int) ≤ (k : Int) := by omega
    have i4 : (k : Int) < (len : Int) := by omega
    have i5 : IntKind.i64.wrap ((k : Int) + 1) = (k : Int) + 1 := IntWalk.i64_in _ (by omega)
    have i6 : IntKind.i64.wrap ((m : Int) + 1 + 1) = (m : Int) + 1 + 1 := IntWalk.i64_in _ (by omega)
    obtain ⟨c, hck⟩ : ∃ c, l[k]? = some c := ⟨l[k]'(by omega), by simp⟩
    obtain ⟨b, o, rfl, hbB, hat⟩ := hcs'.out k c hck
    have hg := insErr_step (HG.out k c hck)
    have hln := HL.out k c hck
    have S := runs_at x hck n
    obtain ⟨kd, ca, cb, cc⟩ := c
    obtain ⟨c0, c1, c2, c3, _⟩ := hat.later hbr (by omega)
    simp only [] at c0 c1 c2 c3 hg hln S
    have hsz := hbr.size
    have hbA : ∀ X w', Below (wr.alloc X).heap.size (wr.alloc X) w' → Hid (Below w.heap.size w w' ∧ XAt w' w.heap.size x ∧ w.heap.size < w'.heap.size) := fun X w' h => ⟨Below.thenOf (hbr.alloc hsz _) h (by simp; omega), (hX.out.later ((Below.refl wr.heap.size _).alloc (Nat.le_refl _) X) (by omega)).later h (by simp; omega), by have := h.size; simp at this; omega⟩
    by_cases k1 : kd = 1
    · subst k1
      obtain ⟨j, rfl⟩ : ∃ j : Nat, ca = j := ⟨ca.toNat, by omega⟩
      have hj : j < 5 := by omega
      have hl' := hln (by omega)
      have S' : Hid (runs x 0 0 l = incs ((m + 1 : Nat) : Int) (runs x (x j) 0 (l.drop (k + 1)))) := by
        unfold Hid; rw [H.out, S, if_pos rfl, incs_inc]; simp
      have hxc : ∀ X, (wr.alloc X).cell? ⟨w.heap.size, j, none⟩ = some (.int .i64 (x j)) := fun X => ((hbA X _ (Below.refl _ _)).out.2.1) j hj
      have j0 : (0 : Int) ≤ (j : Int) := by omega
      have j1 : (j : Int) < 5 := by omega
      clear S hg hln
      generalize x j = xj at *
      go_wp2
      obtain ⟨y1, y2, y3⟩ := (hbA _ _ (Below.refl _ _)).out
      exact ⟨⟨xj, k + 1, m + 1, rfl, by simp, by simp, by omega, by omega, S', y1, y2, y3⟩, by simp [intOf]; omega⟩
    · by_cases k23 : kd = 2 ∨ kd = 3
      · have hl' := hln (by omega)
        obtain ⟨hb0, hb1, hc0, hc1⟩ : 0 ≤ cb ∧ cb < (len : Int) - 1 - k ∧ 0 ≤ cc ∧ cc < (len : Int) - 1 - k := by
          rcases hg with ⟨h, _⟩ | ⟨_, h⟩
          · omega
          · exact h
        obtain ⟨jb, rfl⟩ : ∃ j : Nat, cb = j := ⟨cb.toNat, by omega⟩
        obtain ⟨jc, rfl⟩ : ∃ j : Nat, cc = j := ⟨cc.toNat, by omega⟩
        have wb : IntKind.i64.wrap ((k : Int) + 1 + jb) = (k : Int) + 1 + jb := IntWalk.i64_in _ (by omega)
        have wc : IntKind.i64.wrap ((k : Int) + 1 + jc) = (k : Int) + 1 + jc := IntWalk.i64_in _ (by omega)
        have S' : Hid (runs x 0 0 l = incs ((m + 1 : Nat) : Int) (runs x n 0 (l.drop (k + 1 + hop n (kd, ca, jb, jc))))) := by
          unfold Hid; rw [H.out, S, if_neg k1, if_pos k23, incs_inc]; simp
        clear S hg hln
        rcases k23 with rfl | rfl
        · by_cases hh : n = ca
          · have hop' : hop n (2, ca, jb, jc) = jb := by unfold hop; simp [hh]
            rw [hop'] at S'
            clear hop'
            subst hh
            go_wp2_with (first | (go_at_call 193; go_must (refine (leftOut_any _ _ _ _ _ _).mono ?_; rintro e w' ⟨rfl, hb2⟩; obtain ⟨y1, y2, y3⟩ := (hbA _ _ hb2).out)))
            exact ⟨⟨n, k + 1 + jb, m + 1, rfl, by simp, by simp, by omega, by omega, S', y1, y2, y3⟩, by simp [intOf]; omega⟩
          · have hop' : hop n (2, ca, jb, jc) = jc := by unfold hop; simp [hh]
            rw [hop'] at S'
            have hq : (n == ca) = false := by simpa using hh
            clear hop'
            go_wp2_with (first | (go_at_call 193; go_must (refine (leftOut_any _ _ _ _ _ _).mono ?_; rintro e w' ⟨rfl, hb2⟩; obtain ⟨y1, y2, y3⟩ := (hbA _ _ hb2).out)))
            exact ⟨⟨n, k + 1 + jc, m + 1, rfl, by simp, by simp, by omega, by omega, S', y1, y2, y3⟩, by simp [intOf]; omega⟩
        · by_cases hh : n < ca
          · have hop' : hop n (3, ca, jb, jc) = jb := by unfold hop; simp [hh]
            rw [hop'] at S'
            have hq : decide (n < ca) = true := by simpa using hh
            clear hop'
            go_wp2_with (first | (go_at_call 193; go_must (refine (leftOut_any _ _ _ _ _ _).mono ?_; rintro e w' ⟨rfl, hb2⟩; obtain ⟨y1, y2, y3⟩ := (hbA _ _ hb2).out)))
            exact ⟨⟨n, k + 1 + jb, m + 1, rfl, by simp, by simp, by omega, by omega, S', y1, y2, y3⟩, by simp [intOf]; omega⟩
          · have hop' : hop n (3, ca, jb, jc) = jc := by unfold hop; simp [hh]
            rw [hop'] at S'
            have hq : decide (n < ca) = false := by simpa using hh
            clear hop'
            go_wp2_with (first | (go_at_call 193; go_must (refine (leftOut_any _ _ _ _ _ _).mono ?_; rintro e w' ⟨rfl, hb2⟩; obtain ⟨y1, y2, y3⟩ := (hbA _ _ hb2).out)))
            exact ⟨⟨n, k + 1 + jc, m + 1, rfl, by simp, by simp, by omega, by omega, S', y1, y2, y3⟩, by simp [intOf]; omega⟩
      · have S' : Hid (runs x 0 0 l = (ca, (m : Int) + 1)) := by
          unfold Hid; rw [H.out, S, if_neg k1, if_neg k23]; unfold incs; simp; omega
        have q1 : (kd == 1) = false := by simp; omega
        have q2 : (kd == 2) = false := by simp; omega
        have q3 : (kd == 3) = false := by simp; omega
        clear S hg hln k23 k1
        go_wp2
        go_ret2
        exact ⟨by rw [S'.out]; rfl, (hbA _ _ (Below.refl _ _)).out.1⟩

/-- Run: the verdict, how many, the error. -/
def ranE (l : List InsT) (x : Nat → Int) : Int := if codeErr l = 0 then chkx x else codeErr l
def ranV (l : List InsT) (x : Nat → Int) : Int × Int := if ranE l x = 0 then runs x 0 0 l else (0, 0)

set_option maxHeartbeats 2000000 in
theorem run_any (B : Nat) (cv : Value) (l : List InsT) (x : Nat → Int) (w : World) (hc : InssAt B w cv l) (hB : B ≤ w.heap.size) :
    Calls Tryz.prog 112 #[cv, callV x] w fun e w' => e = .returned (.tuple #[.int .i64 (ranV l x).1, .int .i64 (ranV l x).2, .int .i64 (ranE l x)]) ∧ Below w.heap.size w w' := by
  have HC : Hid (∀ w', Below w.heap.size w w' → Calls Tryz.prog 115 #[cv] w' fun e w'' => e = .returned (.int .i64 (codeErr l)) ∧ Below w'.heap.size w' w'') := fun w' h => check_code B cv l w' (hc.later h hB) (Nat.le_trans hB h.size)
  have HF : Hid (codeErr l = 0 → ∀ w', Below w.heap.size w w' → Calls Tryz.prog 161 #[cv, .agg #[.int .i64 (x 0), .int .i64 (x 1), .int .i64 (x 2), .int .i64 (x 3), .int .i64 (x 4)]] w' fun e w'' => e = .returned (.tuple #[.int .i64 (runs x 0 0 l).1, .int .i64 (runs x 0 0 l).2]) ∧ Below w'.heap.size w' w'') := fun h0 w' h => follow_any B cv l x w' (hc.later h hB) (Nat.le_trans hB h.size) h0
  have HX : Hid (∀ T w', Below (w.heap.size + 1) (w.alloc (.cells #[.int .i64 (x 0), .int .i64 (x 1), .int .i64 (x 2), .int .i64 (x 3), .int .i64 (x 4)] T)) w' → XAt w' w.heap.size x) := fun T w' h => (XAt.made x w T).later h (by omega)
  obtain ⟨a, cap, rfl, _, _⟩ := hc.shape
  clear hc
  have hbl : ∀ X, Below w.heap.size w (w.alloc X) := fun X => (Below.refl _ _).alloc (Nat.le_refl _) _
  generalize l.length = len at *
  show Calls Tryz.prog 112 #[.slice a len cap, .agg #[.int .i64 (x 0), .int .i64 (x 1), .int .i64 (x 2), .int .i64 (x 3), .int .i64 (x 4)]] w _
  by_cases h0 : codeErr l = 0
  · have hK : Hid (codeErr l = 0) := h0
    have HF' : Hid (∀ w', Below w.heap.size w w' → Calls Tryz.prog 161 #[.slice a len cap, .agg #[.int .i64 (x 0), .int .i64 (x 1), .int .i64 (x 2), .int .i64 (x 3), .int .i64 (x 4)]] w' fun e w'' => e = .returned (.tuple #[.int .i64 (runs x 0 0 l).1, .int .i64 (runs x 0 0 l).2]) ∧ Below w'.heap.size w' w'') := HF.out h0
    have HC' : Hid (∀ w', Below w.heap.size w w' → Calls Tryz.prog 115 #[.slice a len cap] w' fun e w'' => e = .returned (.int .i64 0) ∧ Below w'.heap.size w' w'') := by
      have := HC.out; rw [h0] at this; exact this
    by_cases h1 : chkx x = 0
    · have hE : ranE l x = 0 := by rw [ranE, if_pos h0, h1]
      have hV : ranV l x = runs x 0 0 l := by rw [ranV, if_pos hE]
      have HE : Hid (ranE l x = 0 ∧ ranV l x = runs x 0 0 l) := ⟨hE, hV⟩
      have H1 : Hid (∀ w', Calls Tryz.prog 62 #[.agg #[.int .i64 (x 0), .int .i64 (x 1), .int .i64 (x 2), .int .i64 (x 3), .int .i64 (x 4)]] w' fun e w'' => e = .returned (.int .i64 0) ∧ Below w'.heap.size w' w'') := fun w' => by
        have := check_any (x 0) (x 1) (x 2) (x 3) (x 4) w'
        rw [show chk (x 0) (x 1) (x 2) (x 3) (x 4) = 0 from h1] at this
        exact this
      clear hE hV h1 h0 HC HF
      generalize hr : runs x 0 0 l = r at *
      go_enter Tryz.func112, Tryz.ntmps112
      go_wp2_with fail
      go_at_call 115
      refine Calls.mono (HC'.out _ (hbl _)) ?_
      rintro e w1 ⟨rfl, hb1⟩
      have X1 := HX.out _ w1 (by simpa using hb1)
      have x0 := X1 0 (by omega)
      have x1 := X1 1 (by omega)
      have x2 := X1 2 (by omega)
      have x3 := X1 3 (by omega)
      have x4 := X1 4 (by omega)
      clear X1
      have hz1 := hb1.size
      simp at hz1
      have hbw1 : Below w.heap.size w w1 := Below.thenOf (hbl _) hb1 (by simp)
      go_wp2_with fail
      go_at_call 62
      refine Calls.mono (H1.out _) ?_
      rintro e w2 ⟨rfl, hb2⟩
      have y0 := (hb2.cell (p := ⟨w.heap.size, 0, none⟩) (by show w.heap.size < _; omega)).trans x0
      have y1 := (hb2.cell (p := ⟨w.heap.size, 1, none⟩) (by show w.heap.size < _; omega)).trans x1
      have y2 := (hb2.cell (p := ⟨w.heap.size, 2, none⟩) (by show w.heap.size < _; omega)).trans x2
      have y3 := (hb2.cell (p := ⟨w.heap.size, 3, none⟩) (by show w.heap.size < _; omega)).trans x3
      have y4 := (hb2.cell (p := ⟨w.heap.size, 4, none⟩) (by show w.heap.size < _; omega)).trans x4
      have hbw2 : Below w.heap.size w w2 := Below.thenOf hbw1 hb2 (by omega)
      clear x0 x1 x2 x3 x4
      go_wp2_with fail
      go_at_call 161
      refine Calls.mono (HF'.out _ hbw2) ?_
      rintro e w3 ⟨rfl, hb3⟩
      have hbw3 : Below w.heap.size w w3 := Below.thenOf hbw2 hb3 hbw2.size
      go_wp2_with fail
      go_ret3
      exact ⟨by rw [HE.out.1, HE.out.2]; rfl, hbw3⟩
    · have hE : ranE l x = chkx x := by rw [ranE, if_pos h0]
      have hV : ranV l x = (0, 0) := by rw [ranV, if_neg (by rw [hE]; exact h1)]
      have HE : Hid (ranE l x = chkx x ∧ ranV l x = (0, 0)) := ⟨hE, hV⟩
      have H1 : Hid (∀ w', Calls Tryz.prog 62 #[.agg #[.int .i64 (x 0), .int .i64 (x 1), .int .i64 (x 2), .int .i64 (x 3), .int .i64 (x 4)]] w' fun e w'' => e = .returned (.int .i64 (chkx x)) ∧ Below w'.heap.size w' w'') := fun w' => check_any (x 0) (x 1) (x 2) (x 3) (x 4) w'
      have hq : (chkx x != 0) = true := by simpa using h1
      clear hE hV h1 h0 HC HF HF'
      generalize hr : chkx x = r at *
      go_enter Tryz.func112, Tryz.ntmps112
      go_wp2_with fail
      go_at_call 115
      refine Calls.mono (HC'.out _ (hbl _)) ?_
      rintro e w1 ⟨rfl, hb1⟩
      have X1 := HX.out _ w1 (by simpa using hb1)
      have x0 := X1 0 (by omega)
      have x1 := X1 1 (by omega)
      have x2 := X1 2 (by omega)
      have x3 := X1 3 (by omega)
      have x4 := X1 4 (by omega)
      clear X1
      have hbw1 : Below w.heap.size w w1 := Below.thenOf (hbl _) hb1 (by simp)
      go_wp2_with fail
      go_at_call 62
      refine Calls.mono (H1.out _) ?_
      rintro e w2 ⟨rfl, hb2⟩
      have hbw2 : Below w.heap.size w w2 := Below.thenOf hbw1 hb2 hbw1.size
      go_wp2_with fail
      go_ret3
      exact ⟨by rw [HE.out.1, HE.out.2]; rfl, hbw2⟩
  · have hE : ranE l x = codeErr l := by rw [ranE, if_neg h0]
    have hV : ranV l x = (0, 0) := by rw [ranV, if_neg (by rw [hE]; exact h0)]
    have HE : Hid (ranE l x = codeErr l ∧ ranV l x = (0, 0)) := ⟨hE, hV⟩
    have hq : (codeErr l != 0) = true := by simpa using h0
    clear hE hV h0 HF
    generalize hr : codeErr l = r at *
    go_enter Tryz.func112, Tryz.ntmps112
    go_wp2_with fail
    go_at_call 115
    refine Calls.mono (HC.out _ (hbl _)) ?_
    rintro e w1 ⟨rfl, hb1⟩
    have hbw1 : Below w.heap.size w w1 := Below.thenOf (hbl _) hb1 (by simp)
    go_wp2_with fail
    go_ret3
    exact ⟨by rw [HE.out.1, HE.out.2]; rfl, hbw1⟩

end Go.Proofs.YtbdlojnigflanacGreatDoor
