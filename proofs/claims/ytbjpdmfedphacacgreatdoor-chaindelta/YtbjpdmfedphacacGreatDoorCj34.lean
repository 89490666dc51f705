/- Joined: Chn5 Chn1. -/
import Derived.Test.YtbjpdmfedphacacGreatDoorCj32
import Derived.Test.YtbjpdmfedphacacGreatDoorCj33
import Derived.Test.YtbjpdmfedphacacGreatDoorCj25
import Derived.Test.YtbjpdmfedphacacGreatDoorCj18
section
/- The counterpart's Tightened: one filter more, behind all. -/
set_option linter.all false
set_option maxRecDepth 100000
namespace Go.Proofs.YtbjpdmfedphacacGreatDoor
open Go.RowKit Go.Maps

end Go.Proofs.YtbjpdmfedphacacGreatDoor
end
section
/- What ChainTight, ChainOrder and ChainDelta ask: plain facts. -/
set_option linter.all false
namespace Go.Proofs.YtbjpdmfedphacacGreatDoor

theorem condErr_small (c : CondT) : condErr c ≤ 5 := by
  unfold condErr
  split
  · omega
  · split
    · omega
    · split <;> omega
theorem condsErr_small : ∀ l : List CondT, condsErr l ≤ 5
  | [] => by simp [condsErr]
  | c :: r => by
    unfold condsErr
    have := condErr_small c
    have := condsErr_small r
    split <;> omega
theorem ruleErr_small (r : RuleT) : ruleErr r ≤ 5 := by
  have := condsErr_small r.1
  unfold ruleErr
  repeat (first | omega | split)
theorem rulesErr_small : ∀ l : List RuleT, rulesErr l ≤ 5
  | [] => by simp [rulesErr]
  | c :: r => by
    unfold rulesErr
    have := ruleErr_small c
    have := rulesErr_small r
    split <;> omega
theorem polErr_small (p : PolT) : polErr p ≤ 5 := by
  have := rulesErr_small p.1
  unfold polErr
  repeat (first | omega | split)
theorem polsErr_small : ∀ l : List PolT, polsErr l ≤ 5
  | [] => by simp [polsErr]
  | p :: r => by
    unfold polsErr
    have := polErr_small p
    have := polsErr_small r
    split <;> omega
theorem pointsE_small (l : List PolT) : pointsE l ≤ 5 := by
  have := polsErr_small l
  unfold pointsE
  repeat (first | omega | split)
theorem meetE_small (b : Bool) (p q : PolT) : meetE b p q ≤ 5 := by
  have h1 := polsErr_small [p, q]
  have h2 := polErr_small (meetP b p q)
  unfold meetE
  split <;> omega
/-- Where the points can be asked, ErrLoose is told just where one is looser. -/
theorem delta_loose {p q : PolT} (h : pointsE [q, p] = 0) : (looserP q p).isSome = decide (deltaE p q = 7) := by
  unfold deltaE
  rw [if_pos h]
  cases hl : (looserP q p).isSome with
  | true => simp
  | false =>
    have h1 := meetE_small true q p
    have h2 := pointsE_small [meetR true q p]
    simp only [Bool.false_eq_true, if_false]
    symm
    apply decide_eq_false
    split <;> omega
theorem delta_self (p : PolT) : deltaE p p ≠ 7 := by
  unfold deltaE
  have h0 := pointsE_small [p, p]
  have h1 := meetE_small true p p
  have h2 := pointsE_small [meetR true p p]
  by_cases h : pointsE [p, p] = 0
  · rw [if_pos h, looser_self h]
    simp only [Option.isSome_none, Bool.false_eq_true, if_false]
    split <;> omega
  · rw [if_neg h]
    omega
theorem cutEnd_all (d : Int) : ∀ l : List RuleT, (∀ r ∈ l, r.2 = d) → cutEnd d l = []
  | [], _ => rfl
  | r :: s, h => by
    unfold cutEnd
    rw [if_pos ⟨cutEnd_all d s fun t ht => h t (by simp [ht]), h r (by simp)⟩]
/-- From a policy to itself nothing changes. -/
theorem delta_none {p : PolT} (h : deltaE p p = 0) : deltaR p p = ([], 4) := by
  obtain ⟨h1, h2, h3, h4, h5, hp, -, hm, hd⟩ := delta_ok h
  have e : meetR true p p = meetP true p p := by rw [meetR, if_pos h3]
  have hd4 : (meetR true p p).2 = 4 := by
    rw [e]
    show ofV true p.2 p.2 = 4
    simp [ofV]
  rw [h5]
  unfold shortP
  rw [hd4, cutEnd_all]
  intro r hr
  obtain ⟨i, hi⟩ := List.getElem?_of_mem hr
  obtain ⟨j, hj, hk, -⟩ := keepFrom_get (meetR true p p) (meetR true p p).1 0 i r hi
  rw [Nat.zero_add] at hk
  obtain ⟨x, hx, hrx, hno⟩ := keep_point hm hj hk
  have hv : vP (meetR true p p) x = r.2 := by
    have hf : firstAt (ruleOk x) 0 (meetR true p p).1 = ((0 + j : Nat) : Int) := firstAt_eq (ruleOk x) _ 0 j r hj hrx (fun i hi c hc => hno i c hi hc)
    rw [vP, judgeP_ok hm hx, verdictAt, hf]
    rw [if_neg (by omega)]
    simp only [Int.toNat_natCast, Nat.zero_add, List.getD_eq_getElem?_getD, hj, Option.getD_some]
  rw [← hv, e, vP_meet true hp hp (by rw [← e]; exact hm) hx]
  simp [ofV]

/-- A chain's own filter, and that of the delta: each call is told what the stricter policy says. -/
theorem tight_one {p q : PolT} (hc : compE p = 0) (h : tightE [polI p] p q = 0) {x : Nat → Int} (hx : chkx x = 0) : tightR [polI p] p q = [polI p, polI (deltaR p q)] ∧ askE (tightR [polI p] p q) x = 0 ∧ askV (tightR [polI p] p q) x = vP q x ∧ judgeP q x = (vP q x, (judgeP q x).2.1, 0) := by
  have hr : tightR [polI p] p q = [polI p, polI (deltaR p q)] := by rw [tightR, if_pos h]; rfl
  unfold tightE at h
  split at h
  · rename_i h1
    split at h
    · rename_i h2
      split at h
      · cases h
      · obtain ⟨-, -, -, -, -, hp, hq, -, hd⟩ := delta_ok h2
        obtain ⟨hle, hsay⟩ := delta_says h2 hx
        have hcd : codeErr (polI (deltaR p q)) = 0 := by
          rw [codeErr_pol hd]
          unfold compE at h
          rw [if_pos hd] at h
          exact h
        have hcp : codeErr (polI p) = 0 := (chainErr_ok.1 h1).2 _ (by simp)
        have hch : chainErr (tightR [polI p] p q) = 0 := by
          rw [hr]
          refine chainErr_ok.2 ⟨by simp, fun f hf => ?_⟩
          simp at hf
          rcases hf with rfl | rfl
          · exact hcp
          · exact hcd
        have hae : askE (tightR [polI p] p q) x = 0 := by rw [askE, if_pos hch]; exact hx
        refine ⟨hr, hae, ?_, judge_right hq hx⟩
        rw [askV, if_pos hae, hr]
        show (if (runs x 0 0 (polI (deltaR p q))).1 < (if (runs x 0 0 (polI p)).1 < 4 then (runs x 0 0 (polI p)).1 else 4) then (runs x 0 0 (polI (deltaR p q))).1 else (if (runs x 0 0 (polI p)).1 < 4 then (runs x 0 0 (polI p)).1 else 4)) = vP q x
        rw [runs_pol hp hx, runs_pol hd hx]
        have e1 : (judgeP p x).1 = vP p x := rfl
        have e2 : (judgeP (deltaR p q) x).1 = vP (deltaR p q) x := rfl
        have := vP_le hp hx
        have := vP_le hq hx
        rw [e1, e2, hsay]
        repeat (first | omega | split)
    · rename_i h2
      exact absurd h h2
  · rename_i h1
    exact absurd h h1
/-- Of any chain: tightened it is no looser, and begins as it was. -/
theorem tight_any {ls : ChT} {p q : PolT} (h : tightE ls p q = 0) {x : Nat → Int} (hx : chkx x = 0) : tightR ls p q = ls ++ [polI (deltaR p q)] ∧ askE ls x = 0 ∧ askE (tightR ls p q) x = 0 ∧ askV (tightR ls p q) x ≤ askV ls x := by
  have hr : tightR ls p q = ls ++ [polI (deltaR p q)] := by rw [tightR, if_pos h]
  unfold tightE at h
  split at h
  · rename_i h1
    split at h
    · rename_i h2
      split at h
      · cases h
      · rename_i h6
        obtain ⟨-, -, -, -, -, hp, hq, -, hd⟩ := delta_ok h2
        have hcd : codeErr (polI (deltaR p q)) = 0 := by
          rw [codeErr_pol hd]
          unfold compE at h
          rw [if_pos hd] at h
          exact h
        have hch : chainErr (ls ++ [polI (deltaR p q)]) = 0 := by
          obtain ⟨hl, hall⟩ := chainErr_ok.1 h1
          refine chainErr_ok.2 ⟨by simp; omega, fun f hf => ?_⟩
          rcases List.mem_append.1 hf with hf | hf
          · exact hall f hf
          · simp at hf
            rw [hf]
            exact hcd
        have ha1 : askE ls x = 0 := by rw [askE, if_pos h1]; exact hx
        have ha2 : askE (ls ++ [polI (deltaR p q)]) x = 0 := by rw [askE, if_pos hch]; exact hx
        rw [hr]
        refine ⟨rfl, ha1, ha2, ?_⟩
        rw [askV, if_pos ha2, askV, if_pos ha1, askF_both]
        omega
    · rename_i h2
      exact absurd h h2
  · rename_i h1
    exact absurd h h1
theorem askE_reverse {ls : ChT} {x : Nat → Int} (h : askE ls x = 0) : askE ls.reverse x = 0 ∧ askV ls.reverse x = askV ls x := by
  have hc : chainErr ls = 0 ∧ chkx x = 0 := by
    unfold askE at h
    split at h
    · rename_i h1; exact ⟨h1, h⟩
    · rename_i h1; exact absurd h h1
  obtain ⟨hl, hall⟩ := chainErr_ok.1 hc.1
  have hc' : chainErr ls.reverse = 0 := chainErr_ok.2 ⟨by simpa using hl, fun f hf => hall f (by simpa using hf)⟩
  have he : askE ls.reverse x = 0 := by rw [askE, if_pos hc']; exact hc.2
  exact ⟨he, by rw [askV, if_pos he, askV, if_pos h]; exact askF_members x (by simp) (by simp) 4⟩
theorem askE_double {ls : ChT} {x : Nat → Int} (h : askE ls x = 0) (hl : ls.length ≤ 3) : askE (ls ++ ls) x = 0 ∧ askV (ls ++ ls) x = askV ls x := by
  have hc : chainErr ls = 0 ∧ chkx x = 0 := by
    unfold askE at h
    split at h
    · rename_i h1; exact ⟨h1, h⟩
    · rename_i h1; exact absurd h h1
  obtain ⟨-, hall⟩ := chainErr_ok.1 hc.1
  have hc' : chainErr (ls ++ ls) = 0 := chainErr_ok.2 ⟨by simp; omega, fun f hf => hall f (by simpa using hf)⟩
  have he : askE (ls ++ ls) x = 0 := by rw [askE, if_pos hc']; exact hc.2
  exact ⟨he, by rw [askV, if_pos he, askV, if_pos h]; exact askF_members x (by simp) (fun f hf => by simp [hf]) 4⟩
theorem askV_both {l m : ChT} {x : Nat → Int} (h1 : askE l x = 0) (h2 : askE m x = 0) (h3 : askE (l ++ m) x = 0) : askV (l ++ m) x = min (askV l x) (askV m x) := by
  rw [askV, if_pos h3, askV, if_pos h1, askV, if_pos h2]
  exact askF_both x l m 4

end Go.Proofs.YtbjpdmfedphacacGreatDoor
end
