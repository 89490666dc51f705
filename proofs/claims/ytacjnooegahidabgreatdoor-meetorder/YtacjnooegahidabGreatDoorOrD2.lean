/- Package order: slices.IndexFunc of points, for the first at which one policy says more. -/
import Derived.Test.YtacjnooegahidabGreatDoorOrD1
import Derived.Test.YtacjnooegahidabGreatDoorMj21
set_option linter.all false
set_option maxRecDepth 100000
namespace Go.Proofs.YtacjnooegahidabGreatDoor
open Go.RowKit Go.Maps

def ofFive (c : CallT) : List Int := [c.1, c.2.1, c.2.2.1, c.2.2.2.1, c.2.2.2.2]

set_option maxHeartbeats 4000000 in
theorem indexCalls_any (B L bp bq : Nat) (a b : Option Addr) (n cap n2 cap2 : Nat) (d f : Int) (p q : PolT) (lv : Value) (cs : List CallT) (w : World) (hl : CallsAt L w lv cs) (hL : L ≤ w.heap.size) (hp : PolAt B w (.agg #[.slice a n cap, .int .i64 d]) p) (hq : PolAt B w (.agg #[.slice b n2 cap2, .int .i64 f]) q) (hB : B ≤ w.heap.size)
    (h0 : w.cell? ⟨bp, 0, none⟩ = some (.slice a n cap)) (h1 : w.cell? ⟨bp, 1, none⟩ = some (.int .i64 d)) (h2 : w.cell? ⟨bq, 0, none⟩ = some (.slice b n2 cap2)) (h3 : w.cell? ⟨bq, 1, none⟩ = some (.int .i64 f)) (hbp : bp < w.heap.size) (hbq : bq < w.heap.size) :
    Calls Tryz.prog 42 #[lv, .func (.func 43) #[] #[.pointer (some ⟨bp, 0, none⟩), .pointer (some ⟨bq, 0, none⟩)]] w fun e w' => e = .returned (.int .i64 (firstAt (fun c => loosePt p q (ofFive c)) 0 cs)) ∧ Below w.heap.size w w' := by
  have HC : Hid (∀ x0 x1 x2 x3 x4 w', Below w.heap.size w w' → Calls Tryz.prog 43 #[.agg #[.int .i64 x0, .int .i64 x1, .int .i64 x2, .int .i64 x3, .int .i64 x4], .pointer (some ⟨bp, 0, none⟩), .pointer (some ⟨bq, 0, none⟩)] w' fun e w'' => e = .returned (.bool (loosePt p q [x0, x1, x2, x3, x4])) ∧ Below w'.heap.size w' w'') := fun x0 x1 x2 x3 x4 w' h =>
    looserFn_any B bp bq a b n cap n2 cap2 d f p q x0 x1 x2 x3 x4 w' (hp.later h hB) (hq.later h hB) (Nat.le_trans hB h.size) ((h.cell (p := ⟨bp, 0, none⟩) hbp).trans h0) ((h.cell (p := ⟨bp, 1, none⟩) hbp).trans h1) ((h.cell (p := ⟨bq, 0, none⟩) hbq).trans h2) ((h.cell (p := ⟨bq, 1, none⟩) hbq).trans h3) (Nat.lt_of_lt_of_le hbp h.size) (Nat.lt_of_lt_of_le hbq h.size)
  obtain ⟨g, lcap, rfl, hlc, hcm, hcs⟩ := hl
  have HCs : Hid (∀ (i : Nat) c, cs[i]? = some c → ∃ b o, g = some ⟨b, o, none⟩ ∧ b < L ∧ CallAt w b (o + i * 5) c) := hcs
  clear hcs hp hq h0 h1 h2 h3 hbp hbq
  have hml := maxLen_eq
  generalize hN : cs.length = N at *
  have hNH : Hid (cs.length = N) := hN
  clear hN
  go_enter Tryz.func42, Tryz.ntmps42
  go_wp2
  go_loopw [8] (fun i wr => ∃ k : Nat, k ≤ N ∧ i = .int .i64 k ∧ Hid (firstAt (fun c => loosePt p q (ofFive c)) 0 cs = firstAt (fun c => loosePt p q (ofFive c)) k (cs.drop k)) ∧ Below w.heap.size w wr) (fun i _ => N - (intOf i).toNat)
  case atStart => exact ⟨0, by omega, rfl, rfl, Below.refl _ _⟩
  case round =>
    obtain ⟨k, hk, rfl, H, hbr⟩ := hrel
    obtain ⟨wo, hwo⟩ : ∃ x, x = wr := ⟨_, rfl⟩
    subst hwo
    have i0 : (0 : Int) ≤ (k : Int) := by omega
    have hos := hbr.size
    by_cases hlt : k < N
    · have i1 : (k : Int) < (N : Int) := by omega
      obtain ⟨c, hck⟩ : ∃ c, cs[k]? = some c := ⟨cs[k]'(by rw [hNH.out]; omega), by simp⟩
      obtain ⟨gb, go, rfl, hbL, hat⟩ := HCs.out k c hck
      have S : Hid (firstAt (fun c => loosePt p q (ofFive c)) k (cs.drop k) = if loosePt p q (ofFive c) = true then (k : Int) else firstAt (fun c => loosePt p q (ofFive c)) (k + 1) (cs.drop (k + 1))) := firstAt_step (fun c => loosePt p q (ofFive c)) cs k c hck
      obtain ⟨c0, c1, c2, c3, c4⟩ := hat.later hbr (by omega)
      have hcall := HC.out c.1 c.2.1 c.2.2.1 c.2.2.2.1 c.2.2.2.2 wo hbr
      have HF : Hid (loosePt p q (ofFive c) = loosePt p q [c.1, c.2.1, c.2.2.1, c.2.2.2.1, c.2.2.2.2]) := rfl
      generalize loosePt p q [c.1, c.2.1, c.2.2.1, c.2.2.2.1, c.2.2.2.2] = lo at *
      have hcall' : Hid _ := hcall
      clear hcall hat hck
      generalize c.1 = x0 at *
      generalize c.2.1 = x1 at *
      generalize c.2.2.1 = x2 at *
      generalize c.2.2.2.1 = x3 at *
      generalize c.2.2.2.2 = x4 at *
      go_wp2_with (first | (go_at_call 43; go_must (refine Calls.mono hcall'.out ?_; rintro e w2 ⟨rfl, hb2⟩)))
      all_goals have hb3 : Below w.heap.size w w2 := Below.thenOf hbr hb2 hbr.size
      · have hy : loosePt p q (ofFive c) = true := by rw [HF.out]; assumption
        go_ret
        exact ⟨by rw [H.out, S.out, if_pos hy]; rfl, hb3⟩
      · have hy : ¬ loosePt p q (ofFive c) = true := by rw [HF.out]; simp_all
        exact ⟨⟨k + 1, by omega, by go_num, by unfold Hid; rw [H.out, S.out, if_neg hy], hb3⟩, by simp [intOf]; omega⟩
    · go_wp2
      go_ret
      exact ⟨by rw [H.out, List.drop_eq_nil_of_le (by rw [hNH.out]; omega)]; rfl, hbr⟩

end Go.Proofs.YtacjnooegahidabGreatDoor
