/- PolicyFirst, the given card: for every policy, every call and whatever other rules, in whatever memory in which the listed library variables hold what the program's text lays, the law returns true, and all three arguments read as they did. No other condition. -/
import Derived.Test.YtpphcodiiolfbaaDoorCards
import Derived.Test.YtpphcodiiolfbaaDoorTie
import Derived.Test.YtpphcodiiolfbaaDoorOpen
import Derived.Test.YtpphcodiiolfbaaDoorPFirst2
import Derived.SizedLaws
import Derived.Deep.DeepHandedRow
import Derived.LaidMore
set_option linter.all false
set_option maxRecDepth 100000
namespace Go.Proofs.YtpphcodiiolfbaaDoor
open Go.ChangeShapes Go.WideShapes Go.ChangeAt Go.RowKit Go.Deep

theorem open_more {H : Type} {enc : TypeId × Value → H} {W : World} {r : Reach} {b0 base : Nat} {sp : Nat → Bool} {held : Bool} {v : Value} {d : DataW H} {p : List MemPlace}
    (hv : Value.okWide Tryd.prog W r b0 22 v) (h : DataW.Trod enc Tryd.prog W base sp held 22 v d p) : ∃ rs, RulesAt W.heap.size W v rs ∧ (rs = [] ∨ ∃ elems spare, d = .slice elems spare ∧ rs.length = elems.length) := by
  obtain ⟨a, len, cap, rfl⟩ := okWide_slice Tryd.underlying22 hv
  obtain ⟨fuel, hf⟩ := h
  have hf' : DataW.trod enc Tryd.prog W base sp held fuel 22 [.slice a len cap] = some (d, p) := hf
  obtain ⟨rs, hrs⟩ := open_rules hf'
  refine ⟨rs, hrs, ?_⟩
  obtain ⟨a', cap', e, _⟩ := hrs
  simp at e
  rcases open_slice Tryd.underlying22 hf' with ⟨h0, _⟩ | ⟨a2, len2, cap2, m, n, D, Pl, h0, _, _, _, _, hx, _⟩
  · simp at h0
    exact .inl (List.length_eq_zero_iff.1 (by omega))
  · simp at h0 hx
    exact .inr ⟨_, _, hx.1, by simp; omega⟩

theorem pf_contract (H : Type) (enc : TypeId × Value → H) (W : World) (base : Nat) (args : Array Value) (ds gs : List (DataW H)) (before : List MemPlace)
    (hval : ∀ (j : Nat) t v, Tryd.f4.params[j]? = some t → args[j]? = some v → Value.okWide Tryd.prog W .any base t v)
    (hW : DataW.Whole enc Tryd.prog Tryd.f4.params.toList Rows.policyFirstSpec.vars false W args.toList ds gs before) (hsz : (DataW.weightsEach Tryd.prog (Tryd.f4.params.toList ++ (OpenSpec.ofChange Rows.policyFirstSpec).bare.plain.varTypes Tryd.prog) (ds ++ gs)).all (· ≤ reachBytes) = true) (hsh : W.ShapedOpen Tryd.prog) :
    Calls Tryd.prog 4 args W fun e W' => ∃ v, e = .returned v ∧ Rows.policyFirstSpec.post enc Tryd.prog Tryd.f4 false true false false W args v W' := by
  have hW' := hW
  obtain ⟨p, q, hA0, hV, rfl, hfz, hnd⟩ := hW
  have hA : DataW.TrodAll enc Tryd.prog W 0 (fun _ => true) true Tryd.f4.params.toList args.toList ds p := hA0
  rw [Tryd.params4] at hA hval hsz
  have hAk := hA
  obtain ⟨v0, vs0, d0, ds0, p0, q0, hargs, rfl, rfl, h0, r0⟩ := trodAll_cons hA
  obtain ⟨v1, vs1, d1, ds1, p1, q1, rfl, rfl, rfl, h1, r1⟩ := trodAll_cons r0
  obtain ⟨v2, vs2, d2, ds2, p2, q2, rfl, rfl, rfl, h2, r2⟩ := trodAll_cons r1
  obtain ⟨rfl, rfl, rfl⟩ := trodAll_nil r2
  obtain rfl : args = #[v0, v1, v2] := by cases args; simp_all
  obtain ⟨rfl, rfl⟩ := trodVars_none hV
  obtain ⟨pp, hpp⟩ := open_pol (hval 0 24 v0 rfl rfl) h0
  obtain ⟨x, rfl⟩ := open_call (hval 1 26 v1 rfl rfl) h1
  obtain ⟨ms, hms, hlen⟩ := open_more (hval 2 22 v2 rfl rfl) h2
  have hbytes : (120 + ms.length) * 32 ≤ 140737488355328 := by
    have hr : reachBytes = 140737488351232 := by decide
    rcases hlen with h0 | ⟨elems, spare, h0, h1⟩
    · rw [h0]; decide
    · have := sized_slice (j := 2) (t := 22) (e := 41) hsz rfl (by rw [h0]; rfl) Tryd.underlying22
      rw [show Tryd.prog.bytesOf 41 = 32 by kernel_rfl, hr] at this
      rw [h1]
      omega
  clear hA0
  refine (policyFirst_any W.heap.size v0 v2 pp ms x W (env_of_shaped hsh) hpp hms (Nat.le_refl _) hbytes).mono fun e W' ⟨he, bel⟩ => ?_
  subst he
  exact ⟨_, rfl, _, _, _, [], _, [], hW', trodAll_mk1 (shut_bool Tryd.underlying4 _), trodAll_below laidOut bel _ _ _ _ (by intro t ht; simp at ht; rcases ht with rfl | rfl | rfl <;> exact ⟨by kernel_rfl, of_decide_eq_true (by kernel_rfl)⟩) hAk, rfl, bel.frame _, fun h => by cases h⟩

def layFirst (h : Array Obj) : Array Obj := h.modify 6 fun o => match o with
  | .cells _ t frozen => .cells (Go.Pinned.utf8FirstZ.map fun n => Value.int .u8 (Int.ofNat n)).toArray t frozen
  | o => o
def clearPtr (o : Obj) : Obj := match o with
  | .cells _ t frozen => .cells #[.pointer none] t frozen
  | o => o
def clearWs (h : Array Obj) : Array Obj := (h.modify 1 clearPtr).modify 10 clearPtr

theorem pf_lifted (os : Os) (started : os.Started) (H : Type) (enc : TypeId × Value → H) (F : Stop.Interp) :
    ReturnsInHanded {} Tryd.checked os 4 .any ((OpenSpec.ofChange Rows.policyFirstSpec).preRow enc Tryd.prog Tryd.f4 Rows.policyFirstRow.domain false Rows.policyFirstRow.laid) (((OpenSpec.ofChange Rows.policyFirstSpec).at F).post enc Tryd.prog Tryd.f4 false true false false) := by
  obtain ⟨w0, hw0⟩ : ∃ w0 : World, w0 = { World.doorLaid Tryd.prog 3000 os with heap := clearWs (layFirst (World.doorLaid Tryd.prog 3000 os).heap) } := ⟨_, rfl⟩
  have hx : ∃ places, DataW.whole enc Tryd.prog (w0.forCall (fun _ _ => 0) ⟨#[], #[.agg #[.slice none 0 0, .int .i64 0], .agg #[.int .i64 0, .int .i64 0, .int .i64 0, .int .i64 0, .int .i64 0], .slice none 0 0], []⟩).memory Tryd.f4.params.toList Rows.policyFirstSpec.vars false [Value.agg #[.slice none 0 0, .int .i64 0], .agg #[.int .i64 0, .int .i64 0, .int .i64 0, .int .i64 0, .int .i64 0], .slice none 0 0] 8 = some ([.agg [.nil, .lit (.int .i64 0)], .agg [.lit (.int .i64 0), .lit (.int .i64 0), .lit (.int .i64 0), .lit (.int .i64 0), .lit (.int .i64 0)], .nil], [], places) := ⟨[], by rw [hw0]; kernel_rfl⟩
  have hl : laidMetH Tryd.prog Rows.policyFirstRow.laid (w0.forCall (fun _ _ => 0) ⟨#[], #[.agg #[.slice none 0 0, .int .i64 0], .agg #[.int .i64 0, .int .i64 0, .int .i64 0, .int .i64 0, .int .i64 0], .slice none 0 0], []⟩).memory := by
    rw [hw0]
    exact laidMetH_of_parts3 (fuel := 8) (laidMet_of_run' 8 (by kernel_rfl) (by kernel_rfl)) (by kernel_rfl) (by kernel_rfl)
  obtain ⟨places, hx⟩ := hx
  refine returnsInHanded_of_row (C := Tryd.checked) (s := OpenSpec.ofChange Rows.policyFirstSpec) own started (by kernel_rfl) Tryd.func4
    (witness_row_at (enc := enc) (C := Tryd.checked) false w0 #[.agg #[.slice none 0 0, .int .i64 0], .agg #[.int .i64 0, .int .i64 0, .int .i64 0, .int .i64 0, .int .i64 0], .slice none 0 0] (by rw [hw0]; rfl) (by rw [hw0]; kernel_rfl) (by rw [hw0]; kernel_rfl) (by rw [hw0]; kernel_rfl)
      (OpenSpec.preRow_of_cond 8 hx (by kernel_rfl) (fun k hk => by cases hk) (by kernel_rfl) hl)) ?_
  intro W base args ds gs before hval hW _ _ hsz _ hsh _
  exact pf_contract H enc W base args ds gs before hval hW hsz hsh

theorem policyFirst_said : Rows.PolicyFirstSaid :=
  OpenClaim.holds_of_cond 4 Tryd.f4 rfl rfl rfl rfl rfl rfl rfl ⟨rfl, rfl, rfl, rfl, rfl⟩ rfl rfl rfl rfl rfl (by kernel_rfl) Tryd.func4 (by kernel_rfl)
    (of_decide_eq_true (by kernel_rfl)) (by unfold Func.isWrapper; first | (rw [if_pos (by decide +kernel)]; kernel_rfl) | (rw [if_neg (by decide +kernel)]; exact ⟨rfl, rfl⟩))
    (fun os started H enc _ F => by rw [OpenClaim.pre_eq_preRow]; exact pf_lifted os started H enc F)

theorem pf_plain (f : FuncId) (fn : Func) (hf : Tryd.pinned.checked.prog.funcNamed Rows.policyFirstRow.func = some f) (hfn : Tryd.pinned.checked.prog.funcs[f]? = some fn) :
    true = Tryd.pinned.checked.prog.looks [] ∧ ∀ (j : Nat) t, fn.params[j]? = some t → Tryd.pinned.checked.prog.wantsStandIn t = false := by
  obtain rfl : f = 4 := Option.some.inj ((show Tryd.prog.funcNamed Rows.policyFirstRow.func = some 4 by kernel_rfl).symm.trans hf) |>.symm
  obtain rfl : fn = Tryd.f4 := (Option.some.inj (Tryd.func4.symm.trans hfn)).symm
  refine ⟨by kernel_rfl, fun j t ht => ?_⟩
  rw [Tryd.params4] at ht
  have := Array.mem_of_getElem? ht
  simp at this
  rcases this with rfl | rfl | rfl
  · exact (show Tryd.prog.wantsStandIn 24 = false by kernel_rfl)
  · exact (show Tryd.prog.wantsStandIn 26 = false by kernel_rfl)
  · exact (show Tryd.prog.wantsStandIn 22 = false by kernel_rfl)

/-- The card. -/
theorem policyFirst_holds : Rows.PolicyFirstCardSaid :=
  Claim7.holds_tied_plain_at .later [] _ _ _ _ policyFirst_said (fun _ h => by cases h) (by kernel_rfl) (fun _ h => by cases h) policyFirst_row_tie rfl ⟨rfl, rfl⟩ (by kernel_rfl) rfl pf_plain (by kernel_rfl)
#print axioms policyFirst_holds
end Go.Proofs.YtpphcodiiolfbaaDoor
