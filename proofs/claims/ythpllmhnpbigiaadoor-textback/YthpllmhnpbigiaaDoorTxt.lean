/- Texts of policies: plain data. -/
import Derived.Test.YthpllmhnpbigiaaDoorPol
import Derived.Lib.Split
import Derived.Lib.SplitLaws
import Derived.Lib.IndexAny
import Derived.Lib.ItoaNum
import Derived.Lib.AtoiAll
import Derived.Lib.SlicesS
set_option linter.all false
namespace Go.Proofs.YthpllmhnpbigiaaDoor
open Go.RowKit Go.Maps

abbrev Bs := List UInt8
/-- What stands between the signs c. -/
def splitL (c : UInt8) : Bs → List Bs
  | [] => [[]]
  | b :: l => if b = c then [] :: splitL c l else match splitL c l with
    | [] => [[b]]
    | h :: t => (b :: h) :: t
theorem splitL_ne (c : UInt8) : ∀ l, splitL c l ≠ []
  | [] => by simp [splitL]
  | b :: l => by
    unfold splitL
    split
    · simp
    · split <;> simp
theorem split_splitL (c : UInt8) : ∀ l : Bs, Lib.split l [c] = splitL c l
  | [] => by simp [Lib.split, Lib.count_one, splitL, Lib.splitK]
  | b :: l => by
    have ih := split_splitL c l
    unfold Lib.split at ih ⊢
    by_cases h : b = c
    · subst h
      rw [Lib.count_cons_eq, Nat.add_comm, Lib.splitK]
      have hix : Lib.index (b :: l) [b] = 0 := by rw [Lib.index]; simp [List.isPrefixOf]
      rw [hix]
      simp [ih, splitL]
    · rw [Lib.count_cons_ne b c l h]
      have hp : ([c] : Bs).isPrefixOf (b :: l) = false := by simp [List.isPrefixOf, Ne.symm h]
      have hix : Lib.index (b :: l) [c] = if Lib.index l [c] == -1 then -1 else Lib.index l [c] + 1 := by rw [Lib.index, hp]; simp
      rw [splitL, if_neg h, ← ih]
      by_cases hm : Lib.index l [c] = -1
      · rw [Lib.count_miss hm]
        simp [Lib.splitK]
      · have hge := Lib.index_ge l [c]
        obtain ⟨j, hj⟩ : ∃ j : Nat, Lib.index l [c] = j := ⟨(Lib.index l [c]).toNat, by omega⟩
        have hix' : Lib.index (b :: l) [c] = ((j + 1 : Nat) : Int) := by rw [hix, if_neg (fun e => hm (beq_iff_eq.1 e)), hj]; omega
        rw [Lib.count_hit (by simp) hj, Nat.add_comm, Lib.splitK, Lib.splitK, hix', hj]
        have e1 : (((j + 1 : Nat) : Int) == -1) = false := beq_eq_false_iff_ne.2 (by omega)
        have e2 : (((j : Nat) : Int) == -1) = false := beq_eq_false_iff_ne.2 (by omega)
        rw [e1, e2]
        simp

def idxL : List Bs → Bs → Int
  | [], _ => -1
  | n :: r, x => if n = x then 0 else if idxL r x = -1 then -1 else idxL r x + 1
theorem idxL_ge : ∀ (l : List Bs) (x : Bs), -1 ≤ idxL l x
  | [], _ => by simp [idxL]
  | n :: r, x => by
    have := idxL_ge r x
    unfold idxL
    split
    · omega
    · split <;> omega
theorem idxL_lt : ∀ (l : List Bs) (x : Bs), idxL l x < l.length
  | [], _ => by simp [idxL]
  | n :: r, x => by
    have := idxL_lt r x
    unfold idxL
    rw [List.length_cons]
    split
    · omega
    · split <;> omega

def vN : List Bs := [[107, 105, 108, 108], [116, 114, 97, 112], [102, 97, 105, 108], [108, 111, 103], [97, 108, 108, 111, 119]]
def fN : List Bs := [[110, 114], [107, 105, 110, 100], [97], [98], [99]]
def opC : Bs := [61, 33, 60, 62]
def numOf (w : Bs) : Option Int := match Lib.atoiAll w with
  | .ok v => if Lib.itoa v = w then some v else none
  | _ => none
def condOf (w : Bs) : Option CondT :=
  if Lib.indexAny w opC < 0 then none else
    match numOf (w.drop ((Lib.indexAny w opC).toNat + 1)) with
    | none => none
    | some n => if idxL fN (w.take (Lib.indexAny w opC).toNat) < 0 then none else some (idxL fN (w.take (Lib.indexAny w opC).toNat), 1 + Lib.indexByte opC (w.getD (Lib.indexAny w opC).toNat 0), n)
def allOf {α : Type} (f : Bs → Option α) : List Bs → Option (List α)
  | [] => some []
  | w :: r => match f w, allOf f r with
    | some a, some l => some (a :: l)
    | _, _ => none
def ruleOf (w : Bs) : Option RuleT := match splitL 32 w with
  | [] => none
  | h :: t => if idxL vN h < 0 then none else match allOf condOf t with
    | none => none
    | some cs => some (cs, idxL vN h)
def polOf (s : Bs) : Option PolT := match allOf ruleOf (splitL 59 s).dropLast with
  | none => none
  | some rs => if idxL vN ((splitL 59 s).getLast (splitL_ne 59 s)) < 0 then none else some (rs, idxL vN ((splitL 59 s).getLast (splitL_ne 59 s)))
/-- What Parse answers: the policy (nothing where it is refused), the error. -/
def parseR (s : Bs) : PolT × Int := if 60000 < s.length then (([], 0), 2) else match polOf s with
  | none => (([], 0), 1)
  | some p => if polErr p = 0 then (p, 0) else (([], 0), polErr p)

theorem allOf_snoc {α : Type} (f : Bs → Option α) : ∀ (l : List Bs) (w : Bs), allOf f (l ++ [w]) = match allOf f l, f w with
    | some r, some a => some (r ++ [a])
    | _, _ => none
  | [], w => by
    simp only [List.nil_append, allOf]
    cases f w <;> rfl
  | x :: r, w => by
    rw [List.cons_append, allOf, allOf_snoc f r w, allOf]
    cases f x <;> cases allOf f r <;> cases f w <;> rfl
theorem allOf_length {α : Type} (f : Bs → Option α) : ∀ (l : List Bs) (r : List α), allOf f l = some r → r.length = l.length
  | [], r, h => by simp [allOf] at h; subst h; rfl
  | x :: l, r, h => by
    rw [allOf] at h
    cases h1 : f x <;> cases h2 : allOf f l <;> rw [h1, h2] at h <;> simp at h
    subst h
    simp [allOf_length f l _ h2]
theorem allOf_take {α : Type} (f : Bs → Option α) (l : List Bs) (k : Nat) (w : Bs) (h : l[k]? = some w) (r : List α) (hr : allOf f (l.take k) = some r) (a : α) (ha : f w = some a) : allOf f (l.take (k + 1)) = some (r ++ [a]) := by
  rw [List.take_add_one, h]
  simp only [Option.toList]
  rw [allOf_snoc, hr, ha]
theorem allOf_none {α : Type} (f : Bs → Option α) : ∀ (l : List Bs) (k : Nat) (w : Bs), l[k]? = some w → f w = none → allOf f l = none
  | [], _, _, h, _ => by simp at h
  | x :: r, 0, w, h, hw => by
    simp at h
    subst h
    rw [allOf, hw]
  | x :: r, k + 1, w, h, hw => by
    rw [allOf, allOf_none f r k w (by simpa using h) hw]
    cases f x <;> rfl

end Go.Proofs.YthpllmhnpbigiaaDoor
