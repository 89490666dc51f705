/- judged: the closed fact that every statement on policies asks first. -/
import Derived.Test.YtpphcodiiolfbaaDoorMade
set_option linter.all false
namespace Go.Proofs.YtpphcodiiolfbaaDoor
open Go.RowKit Go.Maps

theorem call3 (a b c d e : Int) : ∃ x : Nat → Int, callV x = .agg #[.int .i64 a, .int .i64 b, .int .i64 c, .int .i64 d, .int .i64 e] ∧ x 0 = a ∧ x 1 = b ∧ x 2 = c ∧ x 3 = d ∧ x 4 = e :=
  ⟨at5 a b c d e, rfl, rfl, rfl, rfl, rfl, rfl⟩
theorem judge314 : judgeP madeP (at5 3 1 4 0 0) = (0, 0, 0) := by decide
theorem judge315 : judgeP madeP (at5 3 1 5 0 0) = (3, 1, 0) := by decide
theorem judge4 : judgeP madeP (at5 4 0 0 0 0) = (4, 2, 0) := by decide
/-- Judge of the written policy. -/
theorem judge_made (L : Nat) (pv : Value) (a b c d e : Int) (r : Int × Int × Int) (h : judgeP madeP (at5 a b c d e) = r) (w : World) (hp : PolNew L w pv madeP) :
    Calls Tryd.prog 7 #[pv, .agg #[.int .i64 a, .int .i64 b, .int .i64 c, .int .i64 d, .int .i64 e]] w fun e w' => e = .returned (.tuple #[.int .i64 r.1, .int .i64 r.2.1, .int .i64 r.2.2]) ∧ Below w.heap.size w w' := by
  subst h
  exact judge_any w.heap.size pv madeP (at5 a b c d e) w hp.at (Nat.le_refl _)

set_option maxRecDepth 20000 in
set_option maxHeartbeats 2000000 in
theorem judged_true (w : World) (he : EnvAt w) :
    Calls Tryd.prog 9 #[] w fun e w' => e = .returned (.bool true) ∧ Below w.heap.size w w' := by
  have he' : Hid (EnvAt w) := he
  clear he
  have j1 : Hid (∀ L pv w, PolNew L w pv madeP → _) := fun L pv w h => judge_made L pv 3 1 4 0 0 (0, 0, 0) judge314 w h
  have j2 : Hid (∀ L pv w, PolNew L w pv madeP → _) := fun L pv w h => judge_made L pv 3 1 5 0 0 (3, 1, 0) judge315 w h
  have j3 : Hid (∀ L pv w, PolNew L w pv madeP → _) := fun L pv w h => judge_made L pv 4 0 0 0 0 (4, 2, 0) judge4 w h
  go_enter Tryd.func9, Tryd.ntmps9
  go_wp2_with fail
  go_at_call 32
  refine Calls.mono (made_any w he'.out) ?_
  rintro e w1 ⟨pv1, rfl, hp1, hb1⟩
  go_wp2_with fail
  go_at_call 7
  refine Calls.mono (j1.out _ _ _ hp1) ?_
  rintro e w2 ⟨rfl, hb2⟩
  have b2 := Below.thenOf hb1 hb2 hb1.size
  clear hb1 hb2 hp1
  go_wp2_with fail
  go_at_call 32
  refine Calls.mono (made_any w2 (he'.out.later b2)) ?_
  rintro e w3 ⟨pv3, rfl, hp3, hb3⟩
  go_wp2_with fail
  go_at_call 7
  refine Calls.mono (j2.out _ _ _ hp3) ?_
  rintro e w4 ⟨rfl, hb4⟩
  have b4 := Below.thenOf (Below.thenOf b2 hb3 b2.size) hb4 (by have := b2.size; have := hb3.size; omega)
  clear hb3 hb4 hp3
  go_wp2_with fail
  go_at_call 32
  refine Calls.mono (made_any w4 (he'.out.later b4)) ?_
  rintro e w5 ⟨pv5, rfl, hp5, hb5⟩
  go_wp2_with fail
  go_at_call 7
  refine Calls.mono (j3.out _ _ _ hp5) ?_
  rintro e w6 ⟨rfl, hb6⟩
  have b6 := Below.thenOf (Below.thenOf b4 hb5 b4.size) hb6 (by have := b4.size; have := hb5.size; omega)
  clear hb5 hb6 hp5
  go_wp2
  go_ret
  exact ⟨rfl, b6⟩

end Go.Proofs.YtpphcodiiolfbaaDoor
