/- CallSays returns true for every call and every field, in whatever memory: no condition. -/
import Derived.Test.YtehomgobcfadnaaChk
namespace Go.Proofs.Ytehomgobcfadnaa
open Go.RowKit Go.Maps

set_option maxHeartbeats 1000000 in
theorem callSays_any (a0 a1 a2 a3 a4 n : Int) (hn : (Lit.int .i64 n).wf = true) (w : World) :
    Calls Try.prog 4 #[.agg #[.int .i64 a0, .int .i64 a1, .int .i64 a2, .int .i64 a3, .int .i64 a4], .int .i64 n] w fun e w' => e = .returned (.bool true) ∧ Below w.heap.size w w' := by
  go_enter Try.func4, Try.ntmps4
  go_wp2
  have hC := cell5 a0 a1 a2 a3 a4 w 28
  have hb : Below w.heap.size w (w.alloc (.cells #[.int .i64 a0, .int .i64 a1, .int .i64 a2, .int .i64 a3, .int .i64 a4] 28)) := (Below.refl _ _).alloc (Nat.le_refl _) _
  have hz : w.heap.size < (w.alloc (.cells #[.int .i64 a0, .int .i64 a1, .int .i64 a2, .int .i64 a3, .int .i64 a4] 28)).heap.size := by simp
  generalize w.alloc (.cells #[.int .i64 a0, .int .i64 a1, .int .i64 a2, .int .i64 a3, .int .i64 a4] 28) = W at *
  have hne := Later.ne W
  have c0 : ∀ x : Later W, x.1.cell? ⟨w.heap.size, 0, none⟩ = some (.int .i64 a0) := fun x => x.cell (hC 0 (by omega)) hz
  have c1 : ∀ x : Later W, x.1.cell? ⟨w.heap.size, 1, none⟩ = some (.int .i64 a1) := fun x => x.cell (hC 1 (by omega)) hz
  have c2 : ∀ x : Later W, x.1.cell? ⟨w.heap.size, 2, none⟩ = some (.int .i64 a2) := fun x => x.cell (hC 2 (by omega)) hz
  have c3 : ∀ x : Later W, x.1.cell? ⟨w.heap.size, 3, none⟩ = some (.int .i64 a3) := fun x => x.cell (hC 3 (by omega)) hz
  have c4 : ∀ x : Later W, x.1.cell? ⟨w.heap.size, 4, none⟩ = some (.int .i64 a4) := fun x => x.cell (hC 4 (by omega)) hz
  clear hC
  have m0 : (most 0 == 63) = true := by decide
  have m1 : (most 1 == 3) = true := by decide
  have k0 : (chk 64 0 0 0 0 == 3) = true := by decide
  refine wp_region_later (by kernel_rfl) (by kernel_rfl) ?_
  repeat (go_big_quiet_step (first | (go_at_call 9; exact Calls.later (mostOf_any _ hn _)) | (go_at_call 8; exact Calls.later_same (most_any _ _)) | (go_at_call 6; exact Calls.later (check_any _ _ _ _ _ _)) | (go_at_call 7; exact Calls.later (checkCall_any _ _ _ _ _ _))))
  refine wpQuiet_nil ?_
  rintro wx ⟨⟨_, hx⟩, rfl⟩
  have hb' : Below w.heap.size w wx := hb.trans (hx.mono hb.size)
  go_wp2
  go_ret
  exact ⟨rfl, hb'⟩

end Go.Proofs.Ytehomgobcfadnaa
