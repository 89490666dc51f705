/- What KeeperFork asks, plain. -/
import Derived.Test.YtbdlojnigflanacGreatDoorKb14
set_option linter.all false
set_option maxRecDepth 100000
namespace Go.Proofs.YtbdlojnigflanacGreatDoor

theorem compE_few {p : PolT} (h : polErr p = 0) : compE p = 0 ∨ compE p = 2 := by
  unfold compE
  rw [if_pos h]
  split
  · exact .inr rfl
  · exact .inl rfl
theorem cellAt_nat {l : List CellT} {k : Nat} {c : CellT} (h : l[k]? = some c) : cellAt l (k : Int) = c := by
  unfold cellAt
  rw [Int.toNat_natCast, List.getD_eq_getElem?_getD, h]
  rfl
theorem fork_right {ti fi : Nat} (ht : ti < 4) (hf : fi < 4) : recErr (3, (ti : Int), (fi : Int), [], 0) = 0 := by
  unfold recErr
  simp only
  rw [if_neg (by omega), if_neg (by omega), if_neg (by simp), if_neg (by omega)]
theorem shut_right {fi : Nat} (hf : fi < 4) : recErr (4, (fi : Int), 0, [], 0) = 0 := by
  unfold recErr
  simp only
  rw [if_neg (by omega), if_neg (by omega), if_neg (by simp), if_neg (by omega)]
/-- A fork of sessions that are right: late, without one to begin as, or by its policy's filter. -/
theorem fork_err {l : List CellT} (hg : Good l) {ti fi : Nat} {cT cF : CellT} (ht : l[ti]? = some cT) (hf : l[fi]? = some cF) :
    nextE l (3, (ti : Int), (fi : Int), [], 0) = if cT.1 = true then 6 else if cF.1 = true then compE cF.2.2 else 5 := by
  have h4 := hg.1
  have hti : ti < 4 := by have := (List.getElem?_eq_some_iff.1 ht).1; omega
  have hfi : fi < 4 := by have := (List.getElem?_eq_some_iff.1 hf).1; omega
  unfold nextE
  rw [if_pos hg.err, if_pos (fork_right hti hfi)]
  simp only
  rw [cellAt_nat ht]
  cases hT : cT.1 with
  | true => rw [if_pos (by simp), if_pos rfl]
  | false =>
    rw [if_neg (by simp), if_neg (by simp)]
    unfold nextC
    rw [if_pos rfl]
    simp only
    rw [cellAt_nat hf]
    cases hF : cF.1 with
    | true =>
      rw [if_pos rfl, if_pos rfl]
      unfold openC
      split
      · rename_i h; exact h.symm
      · rfl
    | false => rw [if_neg (by simp), if_neg (by simp)]
/-- What a fork that is no error leaves. -/
theorem fork_ok {l : List CellT} (hg : Good l) {ti fi : Nat} {cT cF : CellT} (ht : l[ti]? = some cT) (hf : l[fi]? = some cF) (h : nextE l (3, (ti : Int), (fi : Int), [], 0) = 0) :
    cT.1 = false ∧ cF.1 = true ∧ compE cF.2.2 = 0 ∧ ti ≠ fi ∧ nextR l (3, (ti : Int), (fi : Int), [], 0) = l.set ti (true, [polI cF.2.2], cF.2.2) ∧ Good (l.set ti (true, [polI cF.2.2], cF.2.2)) ∧
      (l.set ti (true, [polI cF.2.2], cF.2.2))[fi]? = some cF ∧ (l.set ti (true, [polI cF.2.2], cF.2.2))[ti]? = some (true, [polI cF.2.2], cF.2.2) ∧
      nextE (l.set ti (true, [polI cF.2.2], cF.2.2)) (4, (fi : Int), 0, [], 0) = 0 ∧ (nextR (l.set ti (true, [polI cF.2.2], cF.2.2)) (4, (fi : Int), 0, [], 0))[ti]? = some (true, [polI cF.2.2], cF.2.2) ∧ (nextR (l.set ti (true, [polI cF.2.2], cF.2.2)) (4, (fi : Int), 0, [], 0)).length = 4 := by
  have he := fork_err hg ht hf
  rw [h] at he
  have h4 := hg.1
  have hti : ti < 4 := by have := (List.getElem?_eq_some_iff.1 ht).1; omega
  have hfi : fi < 4 := by have := (List.getElem?_eq_some_iff.1 hf).1; omega
  cases hT : cT.1 with
  | true => rw [hT, if_pos rfl] at he; cases he
  | false =>
    rw [hT, if_neg (by simp)] at he
    cases hF : cF.1 with
    | false => rw [hF, if_neg (by simp)] at he; cases he
    | true =>
      rw [hF, if_pos rfl] at he
      have hne : ti ≠ fi := fun e => by
        subst e
        rw [ht] at hf
        cases hf
        rw [hT] at hF
        cases hF
      have hnr : nextR l (3, (ti : Int), (fi : Int), [], 0) = l.set ti (true, [polI cF.2.2], cF.2.2) := by
        rw [next_set h]
        unfold nextC
        rw [if_pos rfl]
        simp only
        rw [cellAt_nat hf, if_pos hF]
        unfold openC
        rw [if_pos he.symm, Int.toNat_natCast]
      have hg2 := hg.next h
      rw [hnr] at hg2
      have hF2 : (l.set ti (true, [polI cF.2.2], cF.2.2))[fi]? = some cF := by rw [List.getElem?_set_ne hne]; exact hf
      have hT2 : (l.set ti (true, [polI cF.2.2], cF.2.2))[ti]? = some (true, [polI cF.2.2], cF.2.2) := List.getElem?_set_self (by omega)
      have hs : nextE (l.set ti (true, [polI cF.2.2], cF.2.2)) (4, (fi : Int), 0, [], 0) = 0 := by
        unfold nextE
        rw [if_pos hg2.err, if_pos (shut_right hfi)]
        simp only
        rw [cellAt_nat hF2, hF, if_neg (by simp)]
        unfold nextC
        rw [if_neg (by simp), if_neg (by simp), if_neg (by simp)]
      refine ⟨rfl, rfl, he.symm, hne, hnr, hg2, hF2, hT2, hs, ?_, (hg2.next hs).1⟩
      rw [next_same hs (by show (ti : Int) ≠ (fi : Int); omega)]
      exact hT2
end Go.Proofs.YtbdlojnigflanacGreatDoor
