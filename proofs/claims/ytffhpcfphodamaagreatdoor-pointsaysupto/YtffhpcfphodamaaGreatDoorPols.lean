/- Several policies in memory; what the counterpart's CheckAll says of them. -/
import Derived.Test.YtffhpcfphodamaaGreatDoorOrd0
import Derived.Test.YtffhpcfphodamaaGreatDoorGrow
set_option linter.all false
set_option maxRecDepth 100000
namespace Go.Proofs.YtffhpcfphodamaaGreatDoor
open Go.RowKit Go.Maps

/-- A policy in two cells. -/
def PolC (B : Nat) (w : World) (b o : Nat) (p : PolT) : Prop := ∃ rv, w.cell? ⟨b, o, none⟩ = some rv ∧ w.cell? ⟨b, o + 1, none⟩ = some (.int .i64 p.2) ∧ wf p.2 ∧ RulesAt B w rv p.1
def PolsAt (B : Nat) (w : World) (v : Value) (ps : List PolT) : Prop :=
  ∃ a cap, v = .slice a ps.length cap ∧ ps.length ≤ cap ∧ cap ≤ maxLen ∧ ∀ (i : Nat) p, ps[i]? = some p → ∃ b o, a = some ⟨b, o, none⟩ ∧ b < B ∧ PolC B w b (o + i * 2) p
theorem PolC.later {B B' : Nat} {w w' : World} {b o : Nat} {p : PolT} (h : PolC B w b o p) (hb : Below B' w w') (hB : B ≤ B') (hl : b < B) : PolC B w' b o p := by
  obtain ⟨rv, h1, h2, h3, h4⟩ := h
  exact ⟨rv, (hb.cell (p := ⟨b, o, none⟩) (by show b < B'; omega)).trans h1, (hb.cell (p := ⟨b, o + 1, none⟩) (by show b < B'; omega)).trans h2, h3, h4.later hb hB⟩
theorem PolsAt.later {B B' : Nat} {w w' : World} {v : Value} {ps : List PolT} (h : PolsAt B w v ps) (hb : Below B' w w') (hB : B ≤ B') : PolsAt B w' v ps := by
  obtain ⟨a, cap, h1, h2, h3, h4⟩ := h
  refine ⟨a, cap, h1, h2, h3, fun i c hc => ?_⟩
  obtain ⟨b, o, e, hl, k⟩ := h4 i c hc
  exact ⟨b, o, e, hl, k.later hb hB hl⟩
theorem PolC.pol {B : Nat} {w : World} {b o : Nat} {p : PolT} (h : PolC B w b o p) : ∃ a n cap, w.cell? ⟨b, o, none⟩ = some (.slice a n cap) ∧ w.cell? ⟨b, o + 1, none⟩ = some (.int .i64 p.2) ∧ PolAt B w (.agg #[.slice a n cap, .int .i64 p.2]) p := by
  obtain ⟨rv, h1, h2, h3, h4⟩ := h
  obtain ⟨a, cap, rfl, h5⟩ := h4
  exact ⟨a, _, cap, h1, h2, _, rfl, h3, a, cap, rfl, h5⟩

theorem polsErr_drop (ps : List PolT) (k : Nat) (p : PolT) (h : ps[k]? = some p) : polsErr (ps.drop k) = if polErr p = 0 then polsErr (ps.drop (k + 1)) else polErr p := by
  obtain ⟨hk, rfl⟩ := List.getElem?_eq_some_iff.1 h
  rw [List.drop_eq_getElem_cons hk]
  rfl

set_option maxHeartbeats 2000000 in
theorem checkAll_any (B : Nat) (lv : Value) (ps : List PolT) (w : World) (hl : PolsAt B w lv ps) (hB : B ≤ w.heap.size) :
    Calls Tryz.prog 9 #[lv] w fun e w' => e = .returned (.int .i64 (polsErr ps)) ∧ Below w.heap.size w w' := by
  have HL : Hid (∀ w', Below w.heap.size w w' → PolsAt B w' lv ps) := fun w' h => hl.later h hB
  obtain ⟨a, cap, rfl, hlc, hcm, -⟩ := hl
  have hml := maxLen_eq
  generalize hlen : ps.length = len at *
  have hlenH : Hid (ps.length = len) := hlen
  clear hlen
  go_enter Tryz.func9, Tryz.ntmps9
  go_wp2
  go_loopw [8] (fun iv wr => ∃ k : Nat, k ≤ len ∧ iv = .int .i64 k ∧ Hid (polsErr ps = polsErr (ps.drop k)) ∧ Below w.heap.size w wr) (fun iv _ => len - (intOf iv).toNat)
  case atStart => exact ⟨0, by omega, rfl, rfl, Below.refl _ _⟩
  case round =>
    obtain ⟨k, hk, rfl, H, hbr⟩ := hrel
    obtain ⟨wo, hwo⟩ : ∃ x, x = wr := ⟨_, rfl⟩
    subst hwo
    have i0 : (0 : Int) ≤ (k : Int) := by omega
    have hos := hbr.size
    by_cases hlt : k < len
    · have i1 : (k : Int) < (len : Int) := by omega
      obtain ⟨p, hpk⟩ : ∃ p, ps[k]? = some p := ⟨ps[k]'(by rw [hlenH.out]; omega), by simp⟩
      have S : Hid (polsErr (ps.drop k) = if polErr p = 0 then polsErr (ps.drop (k + 1)) else polErr p) := polsErr_drop ps k p hpk
      obtain ⟨_, _, e1, -, -, hat⟩ := HL.out _ hbr
      obtain ⟨b, o, e, hbB, hpc⟩ := hat k p hpk
      simp at e1
      obtain ⟨rfl, -, -⟩ := e1
      subst e
      clear hat
      obtain ⟨a2, n2, c2, k0, k1, hpa⟩ := hpc.pol
      have HPA : Hid (∀ w', Below wo.heap.size wo w' → Calls Tryz.prog 24 #[.agg #[.slice a2 n2 c2, .int .i64 p.2]] w' fun e w'' => e = .returned (.int .i64 (polErr p)) ∧ Below w'.heap.size w' w'') := fun w' h => checkPolicy_any B _ p w' (hpa.later h (Nat.le_trans hB hos)) (Nat.le_trans hB (Nat.le_trans hos h.size))
      clear hpc hpa
      by_cases he : polErr p = 0
      · rw [he] at HPA
        have S' : Hid (polsErr ps = polsErr (ps.drop (k + 1))) := by unfold Hid; rw [H.out, S.out, if_pos he]
        clear he S
        go_wp2_with (first | (go_at_call 24; go_must (refine Calls.mono (HPA.out _ ((Below.refl _ _).alloc (Nat.le_refl _) _)) ?_; rintro e w2 ⟨rfl, hb2⟩)))
        exact ⟨⟨k + 1, by omega, by go_num, S', Below.thenOf (hbr.alloc hos _) hb2 (by simp; omega)⟩, by simp [intOf]; omega⟩
      · have S' : Hid (polsErr ps = polErr p) := by unfold Hid; rw [H.out, S.out, if_neg he]
        have hq : (polErr p != 0) = true := by simpa using he
        clear he S
        generalize polErr p = pe at *
        go_wp2_with (first | (go_at_call 24; go_must (refine Calls.mono (HPA.out _ ((Below.refl _ _).alloc (Nat.le_refl _) _)) ?_; rintro e w2 ⟨rfl, hb2⟩)))
        go_ret
        exact ⟨by rw [S'.out]; rfl, Below.thenOf (hbr.alloc hos _) hb2 (by simp; omega)⟩
    · go_wp2
      go_ret
      exact ⟨by rw [H.out, List.drop_eq_nil_of_le (by rw [hlenH.out]; omega)]; rfl, hbr⟩

end Go.Proofs.YtffhpcfphodamaaGreatDoor
