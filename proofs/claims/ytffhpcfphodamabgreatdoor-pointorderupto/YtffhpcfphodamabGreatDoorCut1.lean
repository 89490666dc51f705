/- What the counterpart's CutsOf says: the map that it fills. -/
import Derived.Test.YtffhpcfphodamabGreatDoorPols
import Derived.Test.YtffhpcfphodamabGreatDoorPnt1
import Derived.Test.YtffhpcfphodamabGreatDoorHolds
import Derived.Maps.RangeWalk
set_option linter.all false
set_option maxRecDepth 100000
namespace Go.Proofs.YtffhpcfphodamabGreatDoor
open Go.RowKit Go.Maps

/-- What a map of bools says. -/
def MapB (D : DataW Unit) (g : Int → Bool) : Prop := ∀ n, wf n → D.atKey (.int .i64 n) (.lit (.bool false)) = .lit (.bool (g n))
theorem isKeyI (n : Int) : WideAt.IsKeyLit (.int .i64 n) := by simp [WideAt.IsKeyLit]
theorem MapB.put {D : DataW Unit} {g : Int → Bool} (h : MapB D g) (hm : IsMap D) (a : Int) (b : Bool) : MapB (D.put (.int .i64 a) (.lit (.bool b))) (fun n => if n = a then b else g n) := by
  intro n hn
  by_cases e : n = a
  · subst e
    rw [Maps.atKey_put_same hm (isKeyI n)]
    simp
  · rw [Maps.atKey_put_other (by simpa using e), h n hn]
    simp [e]
theorem MapB.congr {D : DataW Unit} {g g' : Int → Bool} (h : MapB D g) (hg : ∀ n, wf n → g n = g' n) : MapB D g' := fun n hn => by rw [h n hn, hg n hn]
/-- The map behind the conditions done. -/
def CutSt (w wr : World) (M : Nat) (f : Int) (done : List CondT) : Prop := Below w.heap.size w wr ∧ ∃ D, wr.ownsMap Tryz.prog 3 boolR M (2 * done.length + 1) D ∧ MapB D (atB f done)
theorem CutSt.later {w wr wr' : World} {M : Nat} {f : Int} {done : List CondT} (h : CutSt w wr M f done) (hb : Below wr.heap.size wr wr') : CutSt w wr' M f done := by
  obtain ⟨h1, D, h2, h3⟩ := h
  refine ⟨Below.thenOf h1 hb h1.size, D, ?_, h3⟩
  exact h2.kept (row := none) ⟨hb.os, hb.tape, hb.output, hb.size, fun k hk _ => hb.block k hk⟩ (by simp)
theorem step_at {f : Int} {done : List CondT} {c : CondT} (hf : c.1 = f) (n : Int) : (if n = c.2.2 + 1 then ((if c.2.2 + 1 = c.2.2 then true else atB f done (c.2.2 + 1)) || (decide (c.2.1 = 1) || decide (c.2.1 = 2))) else if n = c.2.2 then true else atB f done n) = atB f (done ++ [c]) n := by
  rw [atB_same hf]
  by_cases h1 : n = c.2.2 + 1
  · have h2 : ¬ c.2.2 + 1 = c.2.2 := by omega
    have h3 : ¬ c.2.2 = n := by omega
    rw [if_pos h1, if_neg h2, ← h1]
    simp [h3]
  · have h1' : ¬ c.2.2 + 1 = n := fun e => h1 e.symm
    rw [if_neg h1]
    by_cases h2 : n = c.2.2
    · simp [h2]
    · have h2' : ¬ c.2.2 = n := fun e => h2 e.symm
      rw [if_neg h2]
      simp [h1', h2']
theorem polsConds_take (ps : List PolT) (i : Nat) (p : PolT) (h : ps[i]? = some p) : polsConds (ps.take (i + 1)) = polsConds (ps.take i) ++ polConds p := by
  rw [List.take_succ, h]
  simp [polsConds]
theorem rulesConds_take (rs : List RuleT) (i : Nat) (r : RuleT) (h : rs[i]? = some r) : (rs.take (i + 1)).flatMap (·.1) = (rs.take i).flatMap (·.1) ++ r.1 := by
  rw [List.take_succ, h]
  simp
theorem conds_take (cs : List CondT) (i : Nat) (c : CondT) (h : cs[i]? = some c) : cs.take (i + 1) = cs.take i ++ [c] := by
  rw [List.take_succ, h]
  rfl
theorem rulesConds_len : ∀ (rs : List RuleT), (∀ r ∈ rs, ruleErr r = 0) → (rs.flatMap (·.1)).length ≤ rs.length * 10
  | [], _ => by simp
  | r :: s, h => by
    have h1 := (ruleErr_ok (h r (by simp))).1
    have h2 := rulesConds_len s fun d hd => h d (by simp [hd])
    rw [List.flatMap_cons, List.length_append, List.length_cons]
    omega
theorem polsConds_len : ∀ (ps : List PolT), AllOk ps → (polsConds ps).length ≤ ps.length * 1200
  | [], _ => by simp [polsConds]
  | p :: s, h => by
    obtain ⟨h1, _, h3⟩ := polErr_ok (h p (by simp))
    have h2 := polsConds_len s fun d hd => h d (by simp [hd])
    have h4 := rulesConds_len p.1 (rulesErr_all h3)
    unfold polsConds at h2 ⊢
    rw [List.flatMap_cons, List.length_append, List.length_cons]
    unfold polConds at h2 ⊢
    omega

end Go.Proofs.YtffhpcfphodamabGreatDoor
