/- What the counterpart's Ran says of a right filter: the same. -/
import Derived.Test.YtkgecncalndigaaRef
set_option linter.all false
set_option maxRecDepth 100000
namespace Go.Proofs.Ytkgecncalndigaa
open Go.RowKit Go.Maps

set_option maxHeartbeats 4000000 in
theorem ranRef_any (B : Nat) (cv : Value) (l : List InsT) (x : Nat → Int) (w : World) (hc : InssAt B w cv l) (hB : B ≤ w.heap.size) (hok : codeErr l = 0) :
    Calls Try.prog 16 #[cv, callV x] w fun e w' => e = .returned (.tuple #[.int .i64 (runs x 0 0 l).1, .int .i64 (runs x 0 0 l).2]) ∧ Below w.heap.size w w' := by
  obtain ⟨a, cap, rfl, hlc, hcm, hcs⟩ := hc
  obtain ⟨hl1, hl2, hie, hlk⟩ := codeErr_ok hok
  obtain ⟨b, o, rfl, hbB⟩ : ∃ b o, a = some ⟨b, o, none⟩ ∧ b < B := by
    obtain ⟨c, hck⟩ : ∃ c, l[0]? = some c := ⟨l[0]'(by omega), by simp⟩
    obtain ⟨b, o, h1, h2, _⟩ := hcs 0 c hck
    exact ⟨b, o, h1, h2⟩
  have hcs' : Hid (∀ (i : Nat) (c : InsT), l[i]? = some c → InsAt w b (o + i * 4) c) := fun i c h => by
    obtain ⟨b', o', e, _, hat⟩ := hcs i c h
    simp at e
    obtain ⟨rfl, rfl⟩ := e
    exact hat
  have HG : Hid (∀ (k : Nat) (c : InsT), l[k]? = some c → insErr c ((l.length : Int) - 1 - k) = 0) := fun k c h => inssErr_all l k c hie h
  have HL : Hid (∀ (k : Nat) (c : InsT), l[k]? = some c → c.1 ≠ 4 → k + 1 < l.length) := fun k c h h4 => next_lt hlk h h4
  have HX : Hid (∀ T w', Below (w.heap.size + 1) (w.alloc (.cells #[.int .i64 (x 0), .int .i64 (x 1), .int .i64 (x 2), .int .i64 (x 3), .int .i64 (x 4)] T)) w' → XAt w' w.heap.size x) := fun T w' h => (XAt.made x w T).later h (by omega)
  clear hcs hok hie hlk
  generalize hn : l.length = len at *
  have hml := maxLen_eq
  show Calls Try.prog 16 #[.slice (some ⟨b, o, none⟩) len cap, .agg #[.int .i64 (x 0), .int .i64 (x 1), .int .i64 (x 2), .int .i64 (x 3), .int .i64 (x 4)]] w _
  go_enter Try.func16, Try.ntmps16
  go_wp2
  go_loopw [0, 6, 7] (fun lv ld dn wr => ∃ (n : Int) (k m q p o' : Nat), lv = .slice (some ⟨b, o', none⟩) (q + 1) (p + 1) ∧ q + 1 + k = len ∧ q ≤ p ∧ p + 1 + k = cap ∧ Hid (o' = o + k * 4) ∧ ld = .int .i64 n ∧ dn = .int .i64 ((m : Int) + 1) ∧ m ≤ k ∧ Hid (runs x 0 0 l = incs m (runs x n 0 (l.drop k))) ∧ Below w.heap.size w wr ∧ Hid (XAt wr w.heap.size x) ∧ w.heap.size < wr.heap.size) (fun lv _ _ _ => match lv with | .slice _ n _ => n | _ => 0)
  case atStart => exact ⟨0, 0, 0, len - 1, cap - 1, o, by rw [Nat.sub_add_cancel (by omega), Nat.sub_add_cancel (by omega)], by omega, by omega, by omega, by unfold Hid; omega, rfl, rfl, by omega, by unfold Hid incs; simp, (Below.refl _ _).alloc (Nat.le_refl _) _, HX.out _ _ (Below.refl _ _), by simp⟩
  case round =>
    obtain ⟨n, k, m, q, p, o', rfl, hqk, hqp, hpc, ho', rfl, rfl, hm, H, hbr, hX, hz⟩ := hrel
    have i6 : IntKind.i64.wrap ((m : Int) + 1 + 1) = (m : Int) + 1 + 1 := IntWalk.i64_in _ (by omega)
    obtain ⟨c, hck⟩ : ∃ c, l[k]? = some c := ⟨l[k]'(by omega), by simp⟩
    have hat := hcs'.out k c hck
    rw [← ho'.out] at hat
    have hg := insErr_step (HG.out k c hck)
    have hln := HL.out k c hck
    have S := runs_at x hck n
    obtain ⟨kd, ca, cb, cc⟩ := c
    obtain ⟨c0, c1, c2, c3, _⟩ := hat.later hbr (by omega)
    simp only [] at c0 c1 c2 c3 hg hln S
    have hsz := hbr.size
    have hbA : ∀ X, Hid (Below w.heap.size w (wr.alloc X) ∧ XAt (wr.alloc X) w.heap.size x ∧ w.heap.size < (wr.alloc X).heap.size) := fun X => ⟨hbr.alloc hsz _, hX.out.later ((Below.refl wr.heap.size _).alloc (Nat.le_refl _) X) (by omega), by simp; omega⟩
    have f1 : (1 : Int) ≤ ((q + 1 : Nat) : Int) := by omega
    by_cases k4 : kd = 4
    · subst k4
      have S' : Hid (runs x 0 0 l = (ca, (m : Int) + 1)) := by
        unfold Hid; rw [H.out, S, if_neg (by omega), if_neg (by omega)]; unfold incs; simp; omega
      clear S hg hln
      by_cases hp : p = 0
      · subst hp
        obtain rfl : q = 0 := by omega
        go_wp2
        go_ret2
        exact ⟨by rw [S'.out]; rfl, (hbA _).out.1⟩
      · have hp' : ¬ (p + 1 = 1) := by omega
        go_wp2
        go_ret2
        exact ⟨by rw [S'.out]; rfl, (hbA _).out.1⟩
    · have hl' := hln k4
      obtain ⟨q, rfl⟩ : ∃ q', q = q' + 1 := ⟨q - 1, by omega⟩
      obtain ⟨p, rfl⟩ : ∃ p', p = p' + 1 := ⟨p - 1, by omega⟩
      have hp' : ¬ (p + 1 + 1 = 1) := by omega
      by_cases k1 : kd = 1
      · subst k1
        obtain ⟨j, rfl⟩ : ∃ j : Nat, ca = j := ⟨ca.toNat, by omega⟩
        have hj : j < 5 := by omega
        have S' : Hid (runs x 0 0 l = incs ((m + 1 : Nat) : Int) (runs x (x j) 0 (l.drop (k + 1)))) := by
          unfold Hid; rw [H.out, S, if_pos rfl, incs_inc]; simp
        have hxc : ∀ X, (wr.alloc X).cell? ⟨w.heap.size, j, none⟩ = some (.int .i64 (x j)) := fun X => ((hbA X).out.2.1) j hj
        have j0 : (0 : Int) ≤ (j : Int) := by omega
        have j1 : (j : Int) < 5 := by omega
        clear S hg hln
        generalize x j = xj at *
        go_wp2
        obtain ⟨y1, y2, y3⟩ := (hbA _).out
        exact ⟨⟨xj, k + 1, m + 1, q, p, o' + 4, rfl, by omega, by omega, by omega, by unfold Hid; rw [ho'.out]; omega, rfl, by simp, by omega, S', y1, y2, y3⟩, by simp⟩
      · have k23 : kd = 2 ∨ kd = 3 := by omega
        obtain ⟨hb0, hb1, hc0, hc1⟩ : 0 ≤ cb ∧ cb < (len : Int) - 1 - k ∧ 0 ≤ cc ∧ cc < (len : Int) - 1 - k := by
          rcases hg with ⟨h, _⟩ | ⟨_, h⟩
          · omega
          · exact h
        obtain ⟨jb, rfl⟩ : ∃ j : Nat, cb = j := ⟨cb.toNat, by omega⟩
        obtain ⟨jc, rfl⟩ : ∃ j : Nat, cc = j := ⟨cc.toNat, by omega⟩
        have ub : jb ≤ q := by omega
        have uc : jc ≤ q := by omega
        have ub1 : (jb : Int) ≤ ((q + 1 : Nat) : Int) := by omega
        have uc1 : (jc : Int) ≤ ((q + 1 : Nat) : Int) := by omega
        have ub2 : ¬ (p + 1 = jb) := by omega
        have uc2 : ¬ (p + 1 = jc) := by omega
        have vb0 : (0 : Int) ≤ (jb : Int) := by omega
        have vc0 : (0 : Int) ≤ (jc : Int) := by omega
        have S' : Hid (runs x 0 0 l = incs ((m + 1 : Nat) : Int) (runs x n 0 (l.drop (k + 1 + hop n (kd, ca, jb, jc))))) := by
          unfold Hid; rw [H.out, S, if_neg k1, if_pos k23, incs_inc]; simp
        have fb : q + 1 - jb = (q - jb) + 1 ∧ p + 1 - jb = (p - jb) + 1 := by omega
        have fc : q + 1 - jc = (q - jc) + 1 ∧ p + 1 - jc = (p - jc) + 1 := by omega
        have FB : Hid (q + 1 - jb = (q - jb) + 1 ∧ p + 1 - jb = (p - jb) + 1) := fb
        have FC : Hid (q + 1 - jc = (q - jc) + 1 ∧ p + 1 - jc = (p - jc) + 1) := fc
        clear S hg hln fb fc
        rcases k23 with rfl | rfl
        · by_cases hh : n = ca
          · have hop' : hop n (2, ca, jb, jc) = jb := by unfold hop; simp [hh]
            rw [hop'] at S'
            clear hop'
            subst hh
            go_wp2
            obtain ⟨y1, y2, y3⟩ := (hbA _).out
            exact ⟨⟨n, k + 1 + jb, m + 1, q - jb, p - jb, o' + 4 + jb * 4, by rw [FB.out.1, FB.out.2], by omega, by omega, by omega, by unfold Hid; rw [ho'.out]; omega, rfl, by simp, by omega, S', y1, y2, y3⟩, by simp; omega⟩
          · have hop' : hop n (2, ca, jb, jc) = jc := by unfold hop; simp [hh]
            rw [hop'] at S'
            have hq : (n == ca) = false := by simpa using hh
            clear hop'
            go_wp2
            obtain ⟨y1, y2, y3⟩ := (hbA _).out
            exact ⟨⟨n, k + 1 + jc, m + 1, q - jc, p - jc, o' + 4 + jc * 4, by rw [FC.out.1, FC.out.2], by omega, by omega, by omega, by unfold Hid; rw [ho'.out]; omega, rfl, by simp, by omega, S', y1, y2, y3⟩, by simp; omega⟩
        · by_cases hh : n < ca
          · have hop' : hop n (3, ca, jb, jc) = jb := by unfold hop; simp [hh]
            rw [hop'] at S'
            have hq : decide (n < ca) = true := by simpa using hh
            clear hop'
            go_wp2
            obtain ⟨y1, y2, y3⟩ := (hbA _).out
            exact ⟨⟨n, k + 1 + jb, m + 1, q - jb, p - jb, o' + 4 + jb * 4, by rw [FB.out.1, FB.out.2], by omega, by omega, by omega, by unfold Hid; rw [ho'.out]; omega, rfl, by simp, by omega, S', y1, y2, y3⟩, by simp; omega⟩
          · have hop' : hop n (3, ca, jb, jc) = jc := by unfold hop; simp [hh]
            rw [hop'] at S'
            have hq : decide (n < ca) = false := by simpa using hh
            clear hop'
            go_wp2
            obtain ⟨y1, y2, y3⟩ := (hbA _).out
            exact ⟨⟨n, k + 1 + jc, m + 1, q - jc, p - jc, o' + 4 + jc * 4, by rw [FC.out.1, FC.out.2], by omega, by omega, by omega, by unfold Hid; rw [ho'.out]; omega, rfl, by simp, by omega, S', y1, y2, y3⟩, by simp; omega⟩

end Go.Proofs.Ytkgecncalndigaa
