/- cmp.Compare at int, and slices.Compare at []int where the first is the smaller. -/
import Derived.Test.YtffhpcfphodamabGreatDoorPtD0
set_option linter.all false
set_option maxRecDepth 100000
namespace Go.Proofs.YtffhpcfphodamabGreatDoor
open Go.RowKit Go.Maps

def cmpZ (x y : Int) : Int := if x < y then -1 else if y < x then 1 else 0
theorem isNaN_any (x : Int) (w : World) : Calls Tryz.prog 27 #[.int .i64 x] w fun e w' => e = .returned (.bool false) ∧ Below w.heap.size w w' := by
  go_enter Tryz.func27, Tryz.ntmps27
  go_wp2
  go_ret
  exact ⟨by simp, Below.refl _ _⟩
theorem cmpInt_any (x y : Int) (w : World) : Calls Tryz.prog 18 #[.int .i64 x, .int .i64 y] w fun e w' => e = .returned (.int .i64 (cmpZ x y)) ∧ Below w.heap.size w w' := by
  go_enter Tryz.func18, Tryz.ntmps18
  go_wp2_with fail
  go_at_call 27
  refine Calls.mono (isNaN_any x _) ?_
  rintro e w1 ⟨rfl, h1⟩
  go_wp2_with fail
  go_at_call 27
  refine Calls.mono (isNaN_any y _) ?_
  rintro e w2 ⟨rfl, h2⟩
  have h3 := Below.thenOf h1 h2 h1.size
  clear h1 h2
  go_wp2_with fail
  all_goals (go_ret; refine ⟨?_, h3⟩; unfold cmpZ; (repeat' split) <;> first | rfl | (exfalso; omega))

/-- Where two rows first differ, the first has the smaller number. -/
def LessAt (l m : List Int) (d : Nat) : Prop := (∀ i, i < d → ∃ n, l[i]? = some n ∧ m[i]? = some n) ∧ ∃ a b, l[d]? = some a ∧ m[d]? = some b ∧ a < b
theorem lex_at : ∀ (l m : List Int), lexLt l m → ∃ d, LessAt l m d
  | [], _, h => by cases h
  | _ :: _, [], h => by cases h
  | a :: x, b :: y, h => by
    rcases h with h | ⟨rfl, h⟩
    · exact ⟨0, fun i hi => absurd hi (by omega), a, b, rfl, rfl, h⟩
    · obtain ⟨d, h1, p, q, h2, h3, h4⟩ := lex_at x y h
      refine ⟨d + 1, fun i hi => ?_, p, q, by simpa using h2, by simpa using h3, h4⟩
      cases i with
      | zero => exact ⟨a, rfl, rfl⟩
      | succ i => simpa using h1 i (by omega)

set_option maxHeartbeats 4000000 in
theorem compareInts_less (B : Nat) (cv dv : Value) (cs ds : List Int) (w : World) (hc : IntsAt B w cv cs) (hd : IntsAt B w dv ds) (hB : B ≤ w.heap.size) (hx : lexLt cs ds) :
    Calls Tryz.prog 7 #[cv, dv] w fun e w' => e = .returned (.int .i64 (-1)) ∧ Below w.heap.size w w' := by
  obtain ⟨D, h1, A, Z, hA, hZ, hlt⟩ := lex_at cs ds hx
  have hD1 : D < cs.length := (List.getElem?_eq_some_iff.1 hA).1
  have hD2 : D < ds.length := (List.getElem?_eq_some_iff.1 hZ).1
  have H1 : Hid (∀ i, i < D → ∃ n, cs[i]? = some n ∧ ds[i]? = some n) := h1
  have H2 : Hid (cs[D]? = some A ∧ ds[D]? = some Z ∧ A < Z) := ⟨hA, hZ, hlt⟩
  clear h1 hA hZ hlt hx
  obtain ⟨a, cap, rfl, hlc, hcm, hcs⟩ := hc
  obtain ⟨a2, cap2, rfl, hlc2, hcm2, hds⟩ := hd
  have hcs' : Hid (∀ (i : Nat) (c : Int), cs[i]? = some c → ∃ b o, a = some ⟨b, o, none⟩ ∧ b < B ∧ w.cell? ⟨b, o + i, none⟩ = some (.int .i64 c)) := hcs
  have hds' : Hid (∀ (i : Nat) (c : Int), ds[i]? = some c → ∃ b o, a2 = some ⟨b, o, none⟩ ∧ b < B ∧ w.cell? ⟨b, o + i, none⟩ = some (.int .i64 c)) := hds
  clear hcs hds
  have hmax := maxLen_eq
  generalize cs.length = n at *
  generalize ds.length = m at *
  have hml : n ≤ 9223372036854775807 := by omega
  have hml2 : m ≤ 9223372036854775807 := by omega
  go_enter Tryz.func7, Tryz.ntmps7
  go_wp2
  go_loopw [11] (fun i wr => ∃ k : Nat, k ≤ D ∧ i = .int .i64 k ∧ Below w.heap.size w wr) (fun i _ => D - (intOf i).toNat)
  case atStart => exact ⟨0, by omega, rfl, Below.refl _ _⟩
  case round =>
    obtain ⟨k, hk, rfl, hbr⟩ := hrel
    obtain ⟨wo, hwo⟩ : ∃ x, x = wr := ⟨_, rfl⟩
    subst hwo
    have i0 : (0 : Int) ≤ (k : Int) := by omega
    have i1 : (k : Int) < (n : Int) := by omega
    have i2 : (k : Int) < (m : Int) := by omega
    by_cases hlt : k < D
    · obtain ⟨c, hck, hdk⟩ := H1.out k hlt
      obtain ⟨b, o, rfl, hbB, hat⟩ := hcs'.out k c hck
      obtain ⟨b2, o2, rfl, hbB2, hat2⟩ := hds'.out k c hdk
      clear hck hdk
      have c0 := (hbr.cell (p := ⟨b, o + k, none⟩) (by show b < _; omega)).trans hat
      have d0 := (hbr.cell (p := ⟨b2, o2 + k, none⟩) (by show b2 < _; omega)).trans hat2
      clear hat hat2
      go_wp2_with fail
      go_at_call 18
      refine Calls.mono (cmpInt_any c c _) ?_
      rw [show cmpZ c c = 0 by unfold cmpZ; simp]
      rintro e w1 ⟨rfl, hb1⟩
      have hb2 := Below.thenOf hbr hb1 hbr.size
      clear c0 d0
      go_wp2_with fail
      exact ⟨⟨k + 1, by omega, by go_num, hb2⟩, by simp [intOf]; omega⟩
    · obtain rfl : k = D := by omega
      obtain ⟨hck, hdk, hl⟩ := H2.out
      obtain ⟨b, o, rfl, hbB, hat⟩ := hcs'.out k A hck
      obtain ⟨b2, o2, rfl, hbB2, hat2⟩ := hds'.out k Z hdk
      clear hck hdk
      have c0 := (hbr.cell (p := ⟨b, o + k, none⟩) (by show b < _; omega)).trans hat
      have d0 := (hbr.cell (p := ⟨b2, o2 + k, none⟩) (by show b2 < _; omega)).trans hat2
      clear hat hat2
      go_wp2_with fail
      go_at_call 18
      refine Calls.mono (cmpInt_any A Z _) ?_
      rw [show cmpZ A Z = -1 by unfold cmpZ; rw [if_pos hl]]
      rintro e w1 ⟨rfl, hb1⟩
      have hb2 := Below.thenOf hbr hb1 hbr.size
      clear c0 d0 hl
      go_wp2_with fail
      go_ret
      exact ⟨rfl, hb2⟩
end Go.Proofs.YtffhpcfphodamabGreatDoor
