/- What OrderAll asks of two policies at a call: plain facts. -/
import Derived.Test.YtacjnooegahidabGreatDoorOrd1
import Derived.Test.YtacjnooegahidabGreatDoorBox5
set_option linter.all false
set_option maxRecDepth 100000
namespace Go.Proofs.YtacjnooegahidabGreatDoor
open Go.RowKit Go.Maps

theorem judge_zero {ps : List PolT} (hok : AllOk ps) {p : PolT} (hp : p ∈ ps) {x : Nat → Int} (hx : chkx x = 0) : judgeP p x = (vP p x, (judgeP p x).2.1, 0) := by
  have : (judgeP p x).2.2 = 0 := by rw [judgeP_ok (hok p hp) hx]
  rw [← this]
  rfl
theorem tight_at {p q : PolT} (he : pointsE [p, q] = 0) (hl : (looserP p q).isSome = false) {x : Nat → Int} (hx : chkx x = 0) : ∃ a b k k', judgeP p x = (a, k, 0) ∧ judgeP q x = (b, k', 0) ∧ a ≤ b := by
  obtain ⟨hok, _⟩ := pointsE_ok.1 he
  have hn : looserP p q = none := by simpa using hl
  exact ⟨_, _, _, _, judge_zero hok (by simp) hx, judge_zero hok (by simp) hx, looser_none he hn hx⟩
theorem loose_at {p q : PolT} (he : pointsE [p, q] = 0) (hl : (looserP p q).isSome = true) : ∃ a b k k', judgeP p (looserC p q) = (a, k, 0) ∧ judgeP q (looserC p q) = (b, k', 0) ∧ b < a := by
  obtain ⟨hok, _⟩ := pointsE_ok.1 he
  obtain ⟨y, hy⟩ := Option.isSome_iff_exists.1 hl
  obtain ⟨x, rfl, hx, hv⟩ := looser_some he hy
  have hc : looserC p q = ofL (fieldsOf x) := by unfold looserC; rw [hy]
  have e1 : judgeP p (looserC p q) = judgeP p x := by rw [hc, judge_fields (ofL_fields x)]
  have e2 : judgeP q (looserC p q) = judgeP q x := by rw [hc, judge_fields (ofL_fields x)]
  exact ⟨_, _, _, _, e1.trans (judge_zero hok (by simp) hx), e2.trans (judge_zero hok (by simp) hx), hv⟩
end Go.Proofs.YtacjnooegahidabGreatDoor
