/- CompileSays returns true, whatever the policy, in whatever memory. -/
import Derived.Test.YtaggjjfandaknaaDoorEqI
import Derived.Test.YtaggjjfandaknaaDoorFilt
set_option linter.all false
set_option maxRecDepth 100000
namespace Go.Proofs.YtaggjjfandaknaaDoor
open Go.RowKit Go.Maps

set_option maxHeartbeats 2000000 in
theorem compileSays_any (B : Nat) (pv : Value) (p : PolT) (w : World) (he : EnvAt w) (hp : PolAt B w pv p) (hB : B ≤ w.heap.size) :
    Calls Tryd.prog 7 #[pv] w fun e w' => e = .returned (.bool true) ∧ Below w.heap.size w w' := by
  have HE : Hid (∀ w', Below w.heap.size w w' → Calls Tryd.prog 28 #[] w' fun e w'' => e = .returned (.bool true) ∧ Below w'.heap.size w' w'') := fun w' h => compiled_true w' (he.later h)
  have HCo : Hid (∀ w', Below w.heap.size w w' → Calls Tryd.prog 26 #[pv] w' fun e w'' => ∃ lv, e = .returned (.tuple #[lv, .int .i64 (compE p)]) ∧ w''.ownsRow w'.heap.size 57 4 lv (compL p).length (insCells (compL p)) ∧ (∀ i ∈ compL p, insWf i) ∧ Below w'.heap.size w' w'') := fun w' h => compile_any B pv p w' (hp.later h hB) (Nat.le_trans hB h.size)
  have HFi : Hid (∀ w', Below w.heap.size w w' → Calls Tryd.prog 27 #[pv] w' fun e w'' => ∃ lv, e = .returned (.tuple #[lv, .int .i64 (compE p)]) ∧ w''.ownsRow w'.heap.size 57 4 lv (compL p).length (insCells (compL p)) ∧ (∀ i ∈ compL p, insWf i) ∧ Below w'.heap.size w' w'') := fun w' h => filter_any B pv p w' (hp.later h hB) (Nat.le_trans hB h.size)
  obtain ⟨rs, d⟩ := p
  obtain ⟨rv, epv, hd, a, cap, erv, hlc, hcm, hrest⟩ := hp
  clear hrest
  simp only at epv erv hlc hd
  subst erv
  subst epv
  generalize compE (rs, d) = ce at *
  generalize compL (rs, d) = cl at *
  generalize hn : rs.length = n at *
  clear hn hd
  have hb1 : ∀ X, Below w.heap.size w (w.alloc X) := fun X => (Below.refl _ _).alloc (Nat.le_refl _) _
  go_enter Tryd.func7, Tryd.ntmps7
  go_wp2_with fail
  go_at_call 26
  refine Calls.mono (HCo.out _ (hb1 _)) ?_
  rintro e w1 ⟨l1, rfl, ho1, hwf, hbb⟩
  have hPb := (hbb.block w.heap.size (by simp)).trans (heap_made w _)
  have p0 := heap_cell hPb 0 rfl
  have p1 := heap_cell hPb 1 rfl
  have hw1 : Below w.heap.size w w1 := Below.thenOf (hb1 _) hbb (by simp)
  have HO1 : Hid (∀ w', Below w1.heap.size w1 w' → InssAt w'.heap.size w' l1 cl) := fun w' h => inssAt_own (ownsRow_below ho1 h) hwf
  have HWf : Hid (∀ i ∈ cl, insWf i) := hwf
  clear ho1 hwf hbb hPb
  go_wp2_with fail
  go_at_call 27
  refine Calls.mono (HFi.out _ hw1) ?_
  rintro e w2 ⟨l2, rfl, ho2, _, hb2⟩
  have hw2 := Below.thenOf hw1 hb2 hw1.size
  have HO2 : Hid (∀ w', Below w2.heap.size w2 w' → InssAt w'.heap.size w' l2 cl) := fun w' h => inssAt_own (ownsRow_below ho2 h) HWf.out
  clear ho2 p0 p1
  go_wp2_with fail
  go_at_call 28
  refine Calls.mono (HE.out _ hw2) ?_
  rintro e w3 ⟨rfl, hb3⟩
  have hw3 := Below.thenOf hw2 hb3 hw2.size
  have hb13 := Below.thenOf hb2 hb3 hb2.size
  have he3 := equalInss_any w3.heap.size l1 l2 cl cl w3 (HO1.out _ hb13) (HO2.out _ hb3) (Nat.le_refl _)
  have he3' : Hid _ := he3
  clear he3
  go_wp2_with fail
  go_at_call 29
  refine Calls.mono he3'.out ?_
  rintro e w4 ⟨rfl, hb4⟩
  have hw4 := Below.thenOf hw3 hb4 hw3.size
  go_wp2_with fail
  go_ret
  exact ⟨rfl, hw4⟩
end Go.Proofs.YtaggjjfandaknaaDoor
