/- slices.Reverse of a chain in a row of one's own. -/
import Derived.Test.YtbjpdmfedphacabGreatDoorChL
import Derived.Test.YtbjpdmfedphacabGreatDoorCj13
set_option linter.all false
set_option maxRecDepth 100000
namespace Go.Proofs.YtbjpdmfedphacabGreatDoor
open Go.RowKit Go.Maps

def swapL (ys : List Value) (i j : Nat) : List Value := (ys.set i (ys.getD j undef)).set j (ys.getD i undef)
def revK : Nat → List Value → List Value
  | 0, xs => xs
  | k + 1, xs => swapL (revK k xs) k (xs.length - 1 - k)
theorem revK_len : ∀ (k : Nat) (xs : List Value), (revK k xs).length = xs.length
  | 0, xs => rfl
  | k + 1, xs => by
    unfold revK swapL
    rw [List.length_set, List.length_set]
    exact revK_len k xs
theorem revK_all : ∀ (xs : List Value), xs.length ≤ 6 → revK (xs.length / 2) xs = xs.reverse
  | [], _ => rfl
  | [a], _ => by simp [revK]
  | [a, b], _ => by simp [revK, swapL]
  | [a, b, c], _ => by simp [revK, swapL]
  | [a, b, c, d], _ => by simp [revK, swapL]
  | [a, b, c, d, e], _ => by simp [revK, swapL]
  | [a, b, c, d, e, f], _ => by simp [revK, swapL]
  | _ :: _ :: _ :: _ :: _ :: _ :: _ :: _, h => by simp at h
theorem ownsRow_set {w : World} {base n cap g t : Nat} {e : TypeId} {ys : List Value} {u : Value} (h : w.ownsRow base e 1 (.slice (some ⟨g, 0, none⟩) n cap) n ys) (ht : t < n) : (w.setCell ⟨g, t, none⟩ u).ownsRow base e 1 (.slice (some ⟨g, 0, none⟩) n cap) n (ys.set t u) := by
  obtain ⟨hl, ⟨h0, _⟩ | ⟨g', cap', cur, h1, h2, h3, h4, h5, h6, h7⟩⟩ := h
  · cases h0
  · simp at h1
    obtain ⟨rfl, rfl⟩ := h1
    refine ⟨by rw [List.length_set]; exact hl, .inr ⟨g, cap, cur.setIfInBounds t u, rfl, h2, row_setCell h3, h4, h5, by rw [Array.size_setIfInBounds]; exact h6, ?_⟩⟩
    rw [← h7, Array.toList_setIfInBounds, Nat.mul_one, List.take_set]

set_option maxHeartbeats 4000000 in
theorem reverseL_any (base n cap g : Nat) (xs : List Value) (w : World) (hown : w.ownsRow base 63 1 (.slice (some ⟨g, 0, none⟩) n cap) n xs) (hn : n ≤ 6) (hsl : ∀ u ∈ xs, ∃ a m c, u = .slice a m c) :
    Calls Tryz.prog 49 #[.slice (some ⟨g, 0, none⟩) n cap] w fun e w' => e = .returned (.tuple #[]) ∧ w'.ownsRow base 63 1 (.slice (some ⟨g, 0, none⟩) n cap) n xs.reverse ∧ Below base w w' := by
  have hml := maxLen_eq
  have hxl : xs.length = n := by have := hown.1; omega
  have HXL : Hid (xs.length = n) := hxl
  have HO : Hid (w.ownsRow base 63 1 (.slice (some ⟨g, 0, none⟩) n cap) n (revK 0 xs)) := hown
  have hbg : base ≤ g := ownsRow_ge hown g rfl
  have HSl : Hid (∀ u ∈ xs, ∃ a m c, u = .slice a m c) := hsl
  clear hown hxl hsl
  go_enter Tryz.func49, Tryz.ntmps49
  go_wp2
  go_loopw [2, 3] (fun iv jv wr => ∃ k : Nat, 2 * k ≤ n ∧ iv = .int .i64 k ∧ jv = .int .i64 ((n : Int) - 1 - k) ∧ Hid (wr.ownsRow base 63 1 (.slice (some ⟨g, 0, none⟩) n cap) n (revK k xs)) ∧ Hid (∀ u ∈ revK k xs, u ∈ xs) ∧ Below base w wr) (fun iv _ _ => n - (intOf iv).toNat)
  case atStart => exact ⟨0, by omega, rfl, by simp, HO, fun u hu => hu, Below.refl _ _⟩
  case round =>
    obtain ⟨k, hk, rfl, rfl, HR, HM, hbr⟩ := hrel
    obtain ⟨wo, hwo⟩ : ∃ x, x = wr := ⟨_, rfl⟩
    subst hwo
    by_cases hlt : 2 * k + 1 < n
    · obtain ⟨j, hj⟩ : ∃ j, j = n - 1 - k := ⟨_, rfl⟩
      have hjI : (n : Int) - 1 - k = (j : Int) := by omega
      have hkj : (k : Int) < (j : Int) := by omega
      have hkj' : k ≠ j := by omega
      have i0 : (0 : Int) ≤ (k : Int) := by omega
      have i1 : (k : Int) < (n : Int) := by omega
      have j0 : (0 : Int) ≤ (j : Int) := by omega
      have j1 : (j : Int) < (n : Int) := by omega
      have hlen := revK_len k xs
      rw [HXL.out] at hlen
      obtain ⟨a, ha⟩ : ∃ a, (revK k xs)[k]? = some a := ⟨(revK k xs)[k]'(by omega), by simp⟩
      obtain ⟨b, hb⟩ : ∃ b, (revK k xs)[j]? = some b := ⟨(revK k xs)[j]'(by omega), by simp⟩
      have ca := ownsRow_cell HR.out k a ha
      have cb := ownsRow_cell HR.out j b hb
      have S : Hid (revK (k + 1) xs = ((revK k xs).set k b).set j a) := by
        unfold Hid
        rw [revK, swapL, HXL.out, ← hj]
        simp [List.getD_eq_getElem?_getD, ha, hb]
      have fa : ∀ t, wo.frozen? ⟨g, t, none⟩ = false := by
        intro t
        rcases HR.out.2 with ⟨h, _⟩ | ⟨g', c', cur, h, _, h3, _⟩
        · cases h
        · simp at h
          obtain ⟨rfl, _⟩ := h
          simp [World.frozen?, h3]
      have f0 := fa k
      have f1 := fa j
      have HM' : Hid (∀ u ∈ revK (k + 1) xs, u ∈ xs) := by
        intro u hu
        rw [S.out] at hu
        rcases List.mem_or_eq_of_mem_set hu with hu | rfl
        · rcases List.mem_or_eq_of_mem_set hu with hu | rfl
          · exact HM.out u hu
          · exact HM.out _ (List.mem_of_getElem? hb)
        · exact HM.out _ (List.mem_of_getElem? ha)
      obtain ⟨aa, am, ac, rfl⟩ := HSl.out a (HM.out a (List.mem_of_getElem? ha))
      obtain ⟨ba, bm, bc, rfl⟩ := HSl.out b (HM.out b (List.mem_of_getElem? hb))
      rw [hjI]
      have HJ : Hid (j = n - 1 - k) := hj
      have HB : Hid _ := hbr
      have w1 : IntKind.i64.wrap ((k : Int) + 1) = (k : Int) + 1 := IntWalk.i64_in _ (by omega)
      have w2 : IntKind.i64.wrap ((j : Int) - 1) = (j : Int) - 1 := IntWalk.i64_in _ (by omega)
      clear ha hb hlen fa hj hjI hbr
      go_wp2_with fail
      go_region
      go_wp2_with fail
      have hr := ownsRow_set (t := j) (u := .slice aa am ac) (ownsRow_set (t := k) (u := .slice ba bm bc) HR.out (by omega)) (by omega)
      rw [← S.out] at hr
      have hb' : Below base w ((wo.setCell ⟨g, k, none⟩ (.slice ba bm bc)).setCell ⟨g, j, none⟩ (.slice aa am ac)) := (HB.out.setCell (p := ⟨g, k, none⟩) hbg _).setCell (p := ⟨g, j, none⟩) hbg _
      have hj2 := HJ.out
      exact ⟨⟨k + 1, by omega, by go_num, by congr 1; omega, hr, HM', hb'.drew⟩, by simp [intOf]; omega⟩
    · have hk2 : k = n / 2 := by omega
      have hnl : ¬ (k : Int) < (n : Int) - 1 - k := by omega
      have hfin : revK k xs = xs.reverse := by
        have := revK_all xs (by rw [HXL.out]; exact hn)
        rw [HXL.out, ← hk2] at this
        exact this
      have hr := HR.out
      rw [hfin] at hr
      have HR' : Hid _ := hr
      clear hr HR hfin
      go_wp2_with fail
      go_end0
      exact ⟨rfl, HR'.out, hbr⟩

set_option maxHeartbeats 1000000 in
theorem reverseL_nil (w : World) :
    Calls Tryz.prog 49 #[.slice none 0 0] w fun e w' => e = .returned (.tuple #[]) ∧ w' = w := by
  go_enter Tryz.func49, Tryz.ntmps49
  go_wp2
  go_loopw [2, 3] (fun iv jv wr => iv = .int .i64 0 ∧ jv = .int .i64 (-1) ∧ wr = w) (fun _ _ _ => 0)
  case atStart => exact ⟨rfl, rfl, rfl⟩
  case round =>
    obtain ⟨rfl, rfl, rfl⟩ := hrel
    go_wp2_with fail
    go_end0
    exact ⟨rfl, rfl⟩
/-- A chain cloned and turned: the same filters, from behind. -/
theorem reverse_chain {B L : Nat} {v : Value} {xs : List Value} {ls : ChT} (w : World) (ho : w.ownsRow L 63 1 v ls.length xs) (hx : FvsAt B w xs ls) (hB : B ≤ L) (hL : L ≤ w.heap.size) (hn : ls.length ≤ 6) :
    Calls Tryz.prog 49 #[v] w fun e w' => e = .returned (.tuple #[]) ∧ ChsAt w'.heap.size w' v ls.reverse ∧ Below L w w' := by
  have hsh : ∀ u ∈ xs, ∃ a m c, u = .slice a m c := by
    intro u hu
    obtain ⟨i, hi⟩ := List.getElem?_of_mem hu
    have hil : i < ls.length := by rw [← hx.1]; exact (List.getElem?_eq_some_iff.1 hi).1
    obtain ⟨a, c, rfl, -⟩ := (hx.2 i u ls[i] hi (by simp)).shape
    exact ⟨_, _, _, rfl⟩
  rcases ho.2 with ⟨rfl, h0⟩ | ⟨g, cap, cur, rfl, hg, hc, hnc, hcm, -, -⟩
  · obtain rfl : ls = [] := List.length_eq_zero_iff.1 h0
    refine (reverseL_nil w).mono ?_
    rintro e w' ⟨rfl, rfl⟩
    exact ⟨rfl, chsAt_nil _ _, Below.refl _ _⟩
  · refine (reverseL_any L ls.length cap g xs w ho hn hsh).mono ?_
    rintro e w' ⟨rfl, ho', hb⟩
    refine ⟨rfl, ?_, hb⟩
    refine chsAt_own (L := L) (xs := xs.reverse) (by rw [List.length_reverse]; exact ho') ?_
    have h2 := (hx.later hb hB).mono (Nat.le_trans hB (Nat.le_trans hL hb.size))
    refine ⟨by simp [h2.1], fun i x f hxi hfi => ?_⟩
    have hi : i < xs.length := by have := (List.getElem?_eq_some_iff.1 hxi).1; simpa using this
    rw [List.getElem?_reverse hi] at hxi
    rw [List.getElem?_reverse (by rw [← h2.1]; exact hi), ← h2.1] at hfi
    exact h2.2 _ x f hxi hfi

end Go.Proofs.YtbjpdmfedphacabGreatDoor
