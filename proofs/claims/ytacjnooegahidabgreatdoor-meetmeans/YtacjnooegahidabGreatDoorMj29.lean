/- Joined: Bld Txt TxtO. -/
import Derived.Test.YtacjnooegahidabGreatDoorShelf
import Derived.Test.YtacjnooegahidabGreatDoorMj03
import Derived.Lib.Builder
import Derived.Lib.AppendStr
import Derived.Lib.Walk
import Derived.Laws.Externs
import Derived.Laws.IdiomCopy
import Derived.Test.YtacjnooegahidabGreatDoorMj01
import Derived.Lib.Split
import Derived.Lib.SplitLaws
import Derived.Lib.IndexAny
import Derived.Lib.ItoaNum
import Derived.Lib.AtoiAll
import Derived.Lib.SlicesS
import Derived.Test.YtacjnooegahidabGreatDoorMj02
section
/- strings.Builder, as this program's text has it (its copyCheck's last row is not laid): what its writers do. -/
set_option linter.all false
set_option maxRecDepth 100000
namespace Go.Proofs.YtacjnooegahidabGreatDoor
open Go.RowKit Go.Maps

theorem infoU8 : ∃ i, Tryz.prog.info? 5 = some i ∧ i.zero = some (.int .u8 0) ∧ i.size = 1 ∧ i.bytes = 1 := infoOf (by kernel_rfl)
/-- Whatever is no row of bytes, and not the builder itself, is as it was. -/
def BKept (b : Nat) (w w' : World) : Prop := w.heap.size ≤ w'.heap.size ∧ ∀ k o, k ≠ b → w.heap[k]? = some o → (∀ cur fr, o ≠ .cells cur 5 fr) → w'.heap[k]? = some o
theorem BKept.refl (b : Nat) (w : World) : BKept b w w := ⟨Nat.le_refl _, fun _ _ _ h _ => h⟩
theorem BKept.trans {b : Nat} {w w' w'' : World} (h : BKept b w w') (k : BKept b w' w'') : BKept b w w'' := ⟨Nat.le_trans h.1 k.1, fun j o hj ho hn => k.2 j o hj (h.2 j o hj ho hn) hn⟩
theorem BKept.of_below {b : Nat} {w w' : World} (h : Below w.heap.size w w') : BKept b w w' := ⟨h.size, fun k o _ ho _ => (h.block k (lt_of_block ho)).trans ho⟩
end Go.Proofs.YtacjnooegahidabGreatDoor
end
section
/- Texts of policies: plain data. -/
set_option linter.all false
namespace Go.Proofs.YtacjnooegahidabGreatDoor
open Go.RowKit Go.Maps

abbrev Bs := List UInt8
/-- What stands between the signs c. -/
def splitL (c : UInt8) : Bs → List Bs
  | [] => [[]]
  | b :: l => if b = c then [] :: splitL c l else match splitL c l with
    | [] => [[b]]
    | h :: t => (b :: h) :: t
theorem splitL_ne (c : UInt8) : ∀ l, splitL c l ≠ []
  | [] => by simp [splitL]
  | b :: l => by
    unfold splitL
    split
    · simp
    · split <;> simp
theorem split_splitL (c : UInt8) : ∀ l : Bs, Lib.split l [c] = splitL c l
  | [] => by simp [Lib.split, Lib.count_one, splitL, Lib.splitK]
  | b :: l => by
    have ih := split_splitL c l
    unfold Lib.split at ih ⊢
    by_cases h : b = c
    · subst h
      rw [Lib.count_cons_eq, Nat.add_comm, Lib.splitK]
      have hix : Lib.index (b :: l) [b] = 0 := by rw [Lib.index]; simp [List.isPrefixOf]
      rw [hix]
      simp [ih, splitL]
    · rw [Lib.count_cons_ne b c l h]
      have hp : ([c] : Bs).isPrefixOf (b :: l) = false := by simp [List.isPrefixOf, Ne.symm h]
      have hix : Lib.index (b :: l) [c] = if Lib.index l [c] == -1 then -1 else Lib.index l [c] + 1 := by rw [Lib.index, hp]; simp
      rw [splitL, if_neg h, ← ih]
      by_cases hm : Lib.index l [c] = -1
      · rw [Lib.count_miss hm]
        simp [Lib.splitK]
      · have hge := Lib.index_ge l [c]
        obtain ⟨j, hj⟩ : ∃ j : Nat, Lib.index l [c] = j := ⟨(Lib.index l [c]).toNat, by omega⟩
        have hix' : Lib.index (b :: l) [c] = ((j + 1 : Nat) : Int) := by rw [hix, if_neg (fun e => hm (beq_iff_eq.1 e)), hj]; omega
        rw [Lib.count_hit (by simp) hj, Nat.add_comm, Lib.splitK, Lib.splitK, hix', hj]
        have e1 : (((j + 1 : Nat) : Int) == -1) = false := beq_eq_false_iff_ne.2 (by omega)
        have e2 : (((j : Nat) : Int) == -1) = false := beq_eq_false_iff_ne.2 (by omega)
        rw [e1, e2]
        simp

def idxL : List Bs → Bs → Int
  | [], _ => -1
  | n :: r, x => if n = x then 0 else if idxL r x = -1 then -1 else idxL r x + 1
theorem idxL_ge : ∀ (l : List Bs) (x : Bs), -1 ≤ idxL l x
  | [], _ => by simp [idxL]
  | n :: r, x => by
    have := idxL_ge r x
    unfold idxL
    split
    · omega
    · split <;> omega
theorem idxL_lt : ∀ (l : List Bs) (x : Bs), idxL l x < l.length
  | [], _ => by simp [idxL]
  | n :: r, x => by
    have := idxL_lt r x
    unfold idxL
    rw [List.length_cons]
    split
    · omega
    · split <;> omega

def vN : List Bs := [[107, 105, 108, 108], [116, 114, 97, 112], [102, 97, 105, 108], [108, 111, 103], [97, 108, 108, 111, 119]]
def fN : List Bs := [[110, 114], [107, 105, 110, 100], [97], [98], [99]]
def opC : Bs := [61, 33, 60, 62]
def numOf (w : Bs) : Option Int := match Lib.atoiAll w with
  | .ok v => if Lib.itoa v = w then some v else none
  | _ => none
def condOf (w : Bs) : Option CondT :=
  if Lib.indexAny w opC < 0 then none else
    match numOf (w.drop ((Lib.indexAny w opC).toNat + 1)) with
    | none => none
    | some n => if idxL fN (w.take (Lib.indexAny w opC).toNat) < 0 then none else some (idxL fN (w.take (Lib.indexAny w opC).toNat), 1 + Lib.indexByte opC (w.getD (Lib.indexAny w opC).toNat 0), n)
def allOf {α : Type} (f : Bs → Option α) : List Bs → Option (List α)
  | [] => some []
  | w :: r => match f w, allOf f r with
    | some a, some l => some (a :: l)
    | _, _ => none
def ruleOf (w : Bs) : Option RuleT := match splitL 32 w with
  | [] => none
  | h :: t => if idxL vN h < 0 then none else match allOf condOf t with
    | none => none
    | some cs => some (cs, idxL vN h)
def polOf (s : Bs) : Option PolT := match allOf ruleOf (splitL 59 s).dropLast with
  | none => none
  | some rs => if idxL vN ((splitL 59 s).getLast (splitL_ne 59 s)) < 0 then none else some (rs, idxL vN ((splitL 59 s).getLast (splitL_ne 59 s)))
/-- What Parse answers: the policy (nothing where it is refused), the error. -/
def parseR (s : Bs) : PolT × Int := if 60000 < s.length then (([], 0), 2) else match polOf s with
  | none => (([], 0), 1)
  | some p => if polErr p = 0 then (p, 0) else (([], 0), polErr p)

theorem allOf_snoc {α : Type} (f : Bs → Option α) : ∀ (l : List Bs) (w : Bs), allOf f (l ++ [w]) = match allOf f l, f w with
    | some r, some a => some (r ++ [a])
    | _, _ => none
  | [], w => by
    simp only [List.nil_append, allOf]
    cases f w <;> rfl
  | x :: r, w => by
    rw [List.cons_append, allOf, allOf_snoc f r w, allOf]
    cases f x <;> cases allOf f r <;> cases f w <;> rfl
theorem allOf_length {α : Type} (f : Bs → Option α) : ∀ (l : List Bs) (r : List α), allOf f l = some r → r.length = l.length
  | [], r, h => by simp [allOf] at h; subst h; rfl
  | x :: l, r, h => by
    rw [allOf] at h
    cases h1 : f x <;> cases h2 : allOf f l <;> rw [h1, h2] at h <;> simp at h
    subst h
    simp [allOf_length f l _ h2]
theorem allOf_take {α : Type} (f : Bs → Option α) (l : List Bs) (k : Nat) (w : Bs) (h : l[k]? = some w) (r : List α) (hr : allOf f (l.take k) = some r) (a : α) (ha : f w = some a) : allOf f (l.take (k + 1)) = some (r ++ [a]) := by
  rw [List.take_add_one, h]
  simp only [Option.toList]
  rw [allOf_snoc, hr, ha]
theorem allOf_none {α : Type} (f : Bs → Option α) : ∀ (l : List Bs) (k : Nat) (w : Bs), l[k]? = some w → f w = none → allOf f l = none
  | [], _, _, h, _ => by simp at h
  | x :: r, 0, w, h, hw => by
    simp at h
    subst h
    rw [allOf, hw]
  | x :: r, k + 1, w, h, hw => by
    rw [allOf, allOf_none f r k w (by simpa using h) hw]
    cases f x <;> rfl

end Go.Proofs.YtacjnooegahidabGreatDoor
end
section
/- What is printed: plain data. -/
set_option linter.all false
namespace Go.Proofs.YtacjnooegahidabGreatDoor
open Go.RowKit Go.Maps

def vName (v : Int) : Bs := vN.getD v.toNat []
def fName (f : Int) : Bs := fN.getD f.toNat []
def opSign (o : Int) : UInt8 := opC.getD (o - 1).toNat 0
def condText (c : CondT) : Bs := 32 :: (fName c.1 ++ (opSign c.2.1 :: Lib.itoa c.2.2))
def ruleText (r : RuleT) : Bs := vName r.2 ++ r.1.flatMap condText ++ [59]
def polText (p : PolT) : Bs := p.1.flatMap ruleText ++ vName p.2

theorem decDigits_len : ∀ u : Nat, (Lib.decDigits u).length ≤ u + 1 := by
  intro u
  induction u using Nat.strongRecOn with
  | _ u ih =>
    rw [Lib.decDigits]
    split
    · simp
    · rename_i h
      have := ih (u / 10) (by omega)
      simp
      omega
theorem vName_len (v : Int) : (vName v).length ≤ 5 := by
  unfold vName
  generalize v.toNat = k
  match k with
  | 0 => decide
  | 1 => decide
  | 2 => decide
  | 3 => decide
  | 4 => decide
  | k + 5 => simp [vN]
theorem fName_len (v : Int) : (fName v).length ≤ 4 := by
  unfold fName
  generalize v.toNat = k
  match k with
  | 0 => decide
  | 1 => decide
  | 2 => decide
  | 3 => decide
  | 4 => decide
  | k + 5 => simp [fN]
theorem condErr_num {c : CondT} (h : condErr c = 0) : (0 ≤ c.1 ∧ c.1 < 5) ∧ (1 ≤ c.2.1 ∧ c.2.1 ≤ 4) ∧ (0 ≤ c.2.2 ∧ c.2.2 ≤ 65535) := by
  unfold condErr at h
  split at h
  · cases h
  · split at h
    · cases h
    · split at h
      · cases h
      · have := most_le c.1
        omega
theorem condText_len {c : CondT} (h : condErr c = 0) : (condText c).length ≤ 70000 := by
  obtain ⟨_, _, h3⟩ := condErr_num h
  have h1 := fName_len c.1
  have h2 : (Lib.itoa c.2.2).length ≤ 65536 := by
    unfold Lib.itoa
    rw [if_neg (by omega)]
    have := decDigits_len c.2.2.toNat
    omega
  unfold condText
  simp
  omega
theorem condsText_len : ∀ (cs : List CondT), (∀ c ∈ cs, condErr c = 0) → (cs.flatMap condText).length ≤ cs.length * 70000
  | [], _ => by simp
  | c :: r, h => by
    have := condsText_len r fun d hd => h d (by simp [hd])
    have := condText_len (h c (by simp))
    simp only [List.flatMap_cons, List.length_append, List.length_cons]
    omega
theorem condsErr_each : ∀ (cs : List CondT), condsErr cs = 0 → ∀ c ∈ cs, condErr c = 0
  | [], _, c, h => by cases h
  | d :: r, h, c, hc => by
    unfold condsErr at h
    by_cases h0 : condErr d = 0
    · rw [if_pos h0] at h
      rcases List.mem_cons.1 hc with rfl | hc
      · exact h0
      · exact condsErr_each r h c hc
    · rw [if_neg h0] at h
      exact absurd h h0
theorem ruleErr_all {r : RuleT} (h : ruleErr r = 0) : r.1.length ≤ 10 ∧ (0 ≤ r.2 ∧ r.2 ≤ 4) ∧ ∀ c ∈ r.1, condErr c = 0 := by
  unfold ruleErr at h
  split at h
  · cases h
  · split at h
    · rename_i hv
      unfold verdictOk at hv
      simp at hv
      exact ⟨by omega, hv, condsErr_each _ h⟩
    · cases h
theorem rulesErr_each : ∀ (rs : List RuleT), rulesErr rs = 0 → ∀ r ∈ rs, ruleErr r = 0
  | [], _, c, h => by cases h
  | d :: r, h, c, hc => by
    unfold rulesErr at h
    by_cases h0 : ruleErr d = 0
    · rw [if_pos h0] at h
      rcases List.mem_cons.1 hc with rfl | hc
      · exact h0
      · exact rulesErr_each r h c hc
    · rw [if_neg h0] at h
      exact absurd h h0
theorem polErr_all {p : PolT} (h : polErr p = 0) : p.1.length ≤ 120 ∧ (0 ≤ p.2 ∧ p.2 ≤ 4) ∧ ∀ r ∈ p.1, ruleErr r = 0 := by
  unfold polErr at h
  split at h
  · cases h
  · split at h
    · rename_i hv
      unfold verdictOk at hv
      simp at hv
      exact ⟨by omega, hv, rulesErr_each _ h⟩
    · cases h
theorem ruleText_len {r : RuleT} (h : ruleErr r = 0) : (ruleText r).length ≤ 800000 := by
  obtain ⟨h1, _, h3⟩ := ruleErr_all h
  have := condsText_len r.1 h3
  have := vName_len r.2
  unfold ruleText
  simp only [List.length_append, List.length_cons, List.length_nil]
  omega
theorem rulesText_len : ∀ (rs : List RuleT), (∀ r ∈ rs, ruleErr r = 0) → (rs.flatMap ruleText).length ≤ rs.length * 800000
  | [], _ => by simp
  | c :: r, h => by
    have := rulesText_len r fun d hd => h d (by simp [hd])
    have := ruleText_len (h c (by simp))
    simp only [List.flatMap_cons, List.length_append, List.length_cons]
    omega

end Go.Proofs.YtacjnooegahidabGreatDoor
end
