/- Joined: OpenR Rec1 OpenQ Txt TxtO. -/
import Derived.Test.YtdfcfinjoghipacGreatDoorDj08
import Derived.Test.YtdfcfinjoghipacGreatDoorDj11
import Derived.Lib.SmallJoins
import Derived.Test.YtdfcfinjoghipacGreatDoorDj01
import Derived.Lib.Split
import Derived.Lib.SplitLaws
import Derived.Lib.IndexAny
import Derived.Lib.ItoaNum
import Derived.Lib.AtoiAll
import Derived.Lib.SlicesS
import Derived.Test.YtdfcfinjoghipacGreatDoorDj02
section
/- A record that came in. -/
set_option linter.all false
set_option maxRecDepth 100000
namespace Go.Proofs.YtdfcfinjoghipacGreatDoor
open Go.ChangeShapes Go.WideShapes Go.ChangeAt Go.RowKit Go.Deep Go.Maps

theorem polOf_cells {H : Type} {enc : TypeId × Value → H} {W : World} {base fuel : Nat} {sp : Nat → Bool} {held : Bool} {c0 c1 : Value} {x : DataW H × List MemPlace}
    (hf : DataW.trod enc Tryz.prog W base sp held fuel 24 [c0, c1] = some x) : ∃ pp, PolAt W.heap.size W (.agg #[c0, c1]) pp := by
  obtain ⟨y0, y1, n, _, _, t0, t1⟩ := trod_struct2 Tryz.underlying24 hf
  have hr1 : Tryz.prog.cellsOf 22 = 1 := by kernel_rfl
  have hi1 : Tryz.prog.cellsOf 3 = 1 := by kernel_rfl
  simp [hr1, hi1] at t0 t1
  obtain ⟨rs, hrs⟩ := open_rules t0
  obtain ⟨dd, q1, _, w1⟩ := DataW.trod_int Tryz.underlying3 t1
  simp at q1
  subst q1
  exact ⟨(rs, dd), c0, rfl, w1, hrs⟩
theorem open_rec {H : Type} {enc : TypeId × Value → H} {W : World} {r : Reach} {b0 base : Nat} {sp : Nat → Bool} {held : Bool} {v : Value} {d : DataW H} {p : List MemPlace}
    (hv : Value.okWide Tryz.prog W r b0 38 v) (h : DataW.Trod enc Tryz.prog W base sp held 38 v d p) : ∃ x, RecAt W.heap.size W v x := by
  obtain ⟨cs, rfl, hsz⟩ := okWide_struct Tryz.underlying38 hv
  obtain ⟨fuel, hf⟩ := h
  obtain ⟨y0, y1, y2, y3, n, _, _, t0, t1, t2, t3⟩ := Go.Joins.trod_struct4 Tryz.underlying38 hf
  have h5 : Tryz.prog.cellsOf 38 = 5 := by kernel_rfl
  have hp2 : Tryz.prog.cellsOf 24 = 2 := by kernel_rfl
  have hi1 : Tryz.prog.cellsOf 3 = 1 := by kernel_rfl
  rw [h5] at hsz
  obtain ⟨l⟩ := cs
  match l, hsz with
  | [c0, c1, c2, c3, c4], _ =>
    simp [Value.cells, hp2, hi1] at t0 t1 t2 t3
    obtain ⟨k0, q0, _, w0⟩ := DataW.trod_int Tryz.underlying3 t0
    obtain ⟨k1, q1, _, w1⟩ := DataW.trod_int Tryz.underlying3 t1
    obtain ⟨k2, q2, _, w2⟩ := DataW.trod_int Tryz.underlying3 t2
    simp at q0 q1 q2
    subst q0 q1 q2
    obtain ⟨pp, hpp⟩ := polOf_cells t3
    obtain ⟨rv, e, hd, hrs⟩ := id hpp
    simp at e
    obtain ⟨rfl, rfl⟩ := e
    exact ⟨(k0, k1, k2, pp), c3, rfl, w0, w1, w2, hpp⟩

end Go.Proofs.YtdfcfinjoghipacGreatDoor
end
section
/- Records in memory, in a row. -/
set_option linter.all false
set_option maxRecDepth 100000
namespace Go.Proofs.YtdfcfinjoghipacGreatDoor
open Go.RowKit Go.Maps

/-- Records in memory: five cells each. -/
def RecIn (B : Nat) (w : World) (b o : Nat) (r : RecT) : Prop :=
  ∃ rv, w.cell? ⟨b, o, none⟩ = some (.int .i64 r.1) ∧ w.cell? ⟨b, o + 1, none⟩ = some (.int .i64 r.2.1) ∧ w.cell? ⟨b, o + 2, none⟩ = some (.int .i64 r.2.2.1) ∧ w.cell? ⟨b, o + 3, none⟩ = some rv ∧ w.cell? ⟨b, o + 4, none⟩ = some (.int .i64 r.2.2.2.2) ∧
    RecAt B w (.agg #[.int .i64 r.1, .int .i64 r.2.1, .int .i64 r.2.2.1, rv, .int .i64 r.2.2.2.2]) r
def RecsAt (B : Nat) (w : World) (v : Value) (rs : List RecT) : Prop :=
  ∃ a cap, v = .slice a rs.length cap ∧ rs.length ≤ cap ∧ cap ≤ maxLen ∧ ∀ i r, rs[i]? = some r → ∃ b o, a = some ⟨b, o, none⟩ ∧ b < B ∧ RecIn B w b (o + i * 5) r
theorem RecIn.later {B B' : Nat} {w w' : World} {b o : Nat} {r : RecT} (h : RecIn B w b o r) (hb : Below B' w w') (hB : B ≤ B') (hl : b < B) : RecIn B w' b o r := by
  obtain ⟨rv, h0, h1, h2, h3, h4, h5⟩ := h
  have hl' : b < B' := by omega
  exact ⟨rv, (hb.cell (p := ⟨b, o, none⟩) hl').trans h0, (hb.cell (p := ⟨b, o + 1, none⟩) hl').trans h1, (hb.cell (p := ⟨b, o + 2, none⟩) hl').trans h2, (hb.cell (p := ⟨b, o + 3, none⟩) hl').trans h3, (hb.cell (p := ⟨b, o + 4, none⟩) hl').trans h4, h5.later hb hB⟩
theorem RecsAt.later {B B' : Nat} {w w' : World} {v : Value} {rs : List RecT} (h : RecsAt B w v rs) (hb : Below B' w w') (hB : B ≤ B') : RecsAt B w' v rs := by
  obtain ⟨a, cap, h1, h2, h3, h4⟩ := h
  refine ⟨a, cap, h1, h2, h3, fun i c hc => ?_⟩
  obtain ⟨b, o, e, hl, k⟩ := h4 i c hc
  exact ⟨b, o, e, hl, k.later hb hB hl⟩
theorem recAt_more {B B' : Nat} {w : World} {v : Value} {r : RecT} (h : RecAt B w v r) (hB : B ≤ B') : RecAt B' w v r := by
  obtain ⟨rv, h1, h2, h3, h4, rv', e, hd, a, cap, k3, k4, k5, k6⟩ := h
  refine ⟨rv, h1, h2, h3, h4, rv', e, hd, a, cap, k3, k4, k5, fun i r hr => ?_⟩
  obtain ⟨b, o, m1, m2, cv, m3, m4, m5, a', cap', m6, m7, m8, m9⟩ := k6 i r hr
  refine ⟨b, o, m1, by omega, cv, m3, m4, m5, a', cap', m6, m7, m8, fun j c hc => ?_⟩
  obtain ⟨b', o', q1, q2, q3⟩ := m9 j c hc
  exact ⟨b', o', q1, by omega, q3⟩
theorem RecsAt.wide {B B' : Nat} {w : World} {v : Value} {rs : List RecT} (h : RecsAt B w v rs) (hB : B ≤ B') : RecsAt B' w v rs := by
  obtain ⟨a, cap, h1, h2, h3, h4⟩ := h
  refine ⟨a, cap, h1, h2, h3, fun i r hr => ?_⟩
  obtain ⟨b, o, e, hl, rv, k0, k1, k2, k3, k4, k5⟩ := h4 i r hr
  exact ⟨b, o, e, Nat.lt_of_lt_of_le hl hB, rv, k0, k1, k2, k3, k4, recAt_more k5 hB⟩

end Go.Proofs.YtdfcfinjoghipacGreatDoor
end
section
/- Records that came in, in a row. -/
set_option linter.all false
set_option maxRecDepth 100000
namespace Go.Proofs.YtdfcfinjoghipacGreatDoor
open Go.ChangeShapes Go.WideShapes Go.ChangeAt Go.RowKit Go.Deep Go.Maps

theorem open_recs0 {H : Type} {enc : TypeId × Value → H} {W : World} {base : Nat} {sp : Nat → Bool} {held : Bool} {fuel : Nat} {cv : Value} {x : DataW H × List MemPlace} (h : DataW.trod enc Tryz.prog W base sp held fuel 53 [cv] = some x) : ∃ rs, RecsAt W.heap.size W cv rs := by
  rcases open_slice Tryz.underlying53 h with ⟨h0, _⟩ | ⟨a, len, cap, m, n, D, Pl, h0, _, hl, hm, hmm, _, hx⟩
  · simp at h0
    subst h0
    exact ⟨[], none, 0, rfl, Nat.le_refl _, Nat.zero_le _, fun i c hc => by simp at hc⟩
  · simp at h0
    subst h0
    have h5 : Tryz.prog.cellsOf 38 = 5 := by kernel_rfl
    have hp2 : Tryz.prog.cellsOf 24 = 2 := by kernel_rfl
    have hi1 : Tryz.prog.cellsOf 3 = 1 := by kernel_rfl
    rw [h5] at hx
    have hlm : len ≤ m := by rw [hmm]; split <;> omega
    have each : ∀ i, i < len → ∃ r : RecT, a = ⟨a.block, a.off, none⟩ ∧ a.block < W.heap.size ∧ RecIn W.heap.size W a.block (a.off + i * 5) r := by
      intro i hi
      have h00 : W.cell? (a.add 0) ≠ none := by
        obtain ⟨cs', g1, _⟩ := hx 0 (by omega)
        obtain ⟨_, hlen, hcell⟩ := World.cells?_some g1
        have := hcell 0 (by omega)
        rw [add_add] at this
        simp at this
        match cs', hlen with
        | [v0, v1, v2, v3, v4], _ => simp at this ⊢; rw [this]; simp
      obtain ⟨v, hv⟩ := Option.ne_none_iff_exists'.1 h00
      obtain ⟨ha, hb⟩ := addr_plain hv
      obtain ⟨cs', g1, g2⟩ := hx i (by omega)
      obtain ⟨_, hlen, hcell⟩ := World.cells?_some g1
      obtain ⟨y0, y1, y2, y3, k, _, _, e0, e1, e2, e3⟩ := Go.Joins.trod_struct4 Tryz.underlying38 g2
      match cs', hlen with
      | [v0, v1, v2, v3, v4], _ =>
        simp [hp2, hi1] at e0 e1 e2 e3
        obtain ⟨k0, q0, _, w0⟩ := DataW.trod_int Tryz.underlying3 e0
        obtain ⟨k1, q1, _, w1⟩ := DataW.trod_int Tryz.underlying3 e1
        obtain ⟨k2, q2, _, w2⟩ := DataW.trod_int Tryz.underlying3 e2
        simp at q0 q1 q2
        subst q0 q1 q2
        obtain ⟨pp, hpp⟩ := polOf_cells e3
        obtain ⟨rv, e, hd, hrs⟩ := id hpp
        simp at e
        obtain ⟨rfl, rfl⟩ := e
        have c0 := hcell 0 (by omega)
        have c1 := hcell 1 (by omega)
        have c2 := hcell 2 (by omega)
        have c3 := hcell 3 (by omega)
        have c4 := hcell 4 (by omega)
        rw [add_add, ha, add_at] at c0 c1 c2 c3 c4
        exact ⟨(k0, k1, k2, pp), ha, hb, v3, by simpa using c0, by simpa [Nat.add_assoc] using c1, by simpa [Nat.add_assoc] using c2, by simpa [Nat.add_assoc] using c3, by simpa [Nat.add_assoc] using c4, v3, rfl, w0, w1, w2, hpp⟩
    obtain ⟨rs, hcl, hcp⟩ := list_of _ len each
    refine ⟨rs, some a, cap, by rw [hcl], by omega, hm, fun i c hc => ?_⟩
    obtain ⟨ha, hb, hat⟩ := hcp i c hc
    exact ⟨a.block, a.off, by rw [← ha], hb, hat⟩
theorem open_recs {H : Type} {enc : TypeId × Value → H} {W : World} {r : Reach} {b0 base : Nat} {sp : Nat → Bool} {held : Bool} {v : Value} {d : DataW H} {p : List MemPlace}
    (hv : Value.okWide Tryz.prog W r b0 53 v) (h : DataW.Trod enc Tryz.prog W base sp held 53 v d p) : ∃ rs, RecsAt W.heap.size W v rs := by
  obtain ⟨a, len, cap, rfl⟩ := okWide_slice Tryz.underlying53 hv
  obtain ⟨fuel, hf⟩ := h
  have hf' : DataW.trod enc Tryz.prog W base sp held fuel 53 [.slice a len cap] = some (d, p) := hf
  exact open_recs0 hf'
end Go.Proofs.YtdfcfinjoghipacGreatDoor
end
section
/- Texts of policies: plain data. -/
set_option linter.all false
namespace Go.Proofs.YtdfcfinjoghipacGreatDoor
open Go.RowKit Go.Maps

abbrev Bs := List UInt8
/-- What stands between the signs c. -/
def splitL (c : UInt8) : Bs → List Bs
  | [] => [[]]
  | b :: l => if b = c then [] :: splitL c l else match splitL c l with
    | [] => [[b]]
    | h :: t => (b :: h) :: t
theorem splitL_ne (c : UInt8) : ∀ l, splitL c l ≠ []
  | [] => by simp [splitL]
  | b :: l => by
    unfold splitL
    split
    · simp
    · split <;> simp
theorem split_splitL (c : UInt8) : ∀ l : Bs, Lib.split l [c] = splitL c l
  | [] => by simp [Lib.split, Lib.count_one, splitL, Lib.splitK]
  | b :: l => by
    have ih := split_splitL c l
    unfold Lib.split at ih ⊢
    by_cases h : b = c
    · subst h
      rw [Lib.count_cons_eq, Nat.add_comm, Lib.splitK]
      have hix : Lib.index (b :: l) [b] = 0 := by rw [Lib.index]; simp [List.isPrefixOf]
      rw [hix]
      simp [ih, splitL]
    · rw [Lib.count_cons_ne b c l h]
      have hp : ([c] : Bs).isPrefixOf (b :: l) = false := by simp [List.isPrefixOf, Ne.symm h]
      have hix : Lib.index (b :: l) [c] = if Lib.index l [c] == -1 then -1 else Lib.index l [c] + 1 := by rw [Lib.index, hp]; simp
      rw [splitL, if_neg h, ← ih]
      by_cases hm : Lib.index l [c] = -1
      · rw [Lib.count_miss hm]
        simp [Lib.splitK]
      · have hge := Lib.index_ge l [c]
        obtain ⟨j, hj⟩ : ∃ j : Nat, Lib.index l [c] = j := ⟨(Lib.index l [c]).toNat, by omega⟩
        have hix' : Lib.index (b :: l) [c] = ((j + 1 : Nat) : Int) := by rw [hix, if_neg (fun e => hm (beq_iff_eq.1 e)), hj]; omega
        rw [Lib.count_hit (by simp) hj, Nat.add_comm, Lib.splitK, Lib.splitK, hix', hj]
        have e1 : (((j + 1 : Nat) : Int) == -1) = false := beq_eq_false_iff_ne.2 (by omega)
        have e2 : (((j : Nat) : Int) == -1) = false := beq_eq_false_iff_ne.2 (by omega)
        rw [e1, e2]
        simp

def idxL : List Bs → Bs → Int
  | [], _ => -1
  | n :: r, x => if n = x then 0 else if idxL r x = -1 then -1 else idxL r x + 1
theorem idxL_ge : ∀ (l : List Bs) (x : Bs), -1 ≤ idxL l x
  | [], _ => by simp [idxL]
  | n :: r, x => by
    have := idxL_ge r x
    unfold idxL
    split
    · omega
    · split <;> omega
theorem idxL_lt : ∀ (l : List Bs) (x : Bs), idxL l x < l.length
  | [], _ => by simp [idxL]
  | n :: r, x => by
    have := idxL_lt r x
    unfold idxL
    rw [List.length_cons]
    split
    · omega
    · split <;> omega

def vN : List Bs := [[107, 105, 108, 108], [116, 114, 97, 112], [102, 97, 105, 108], [108, 111, 103], [97, 108, 108, 111, 119]]
def fN : List Bs := [[110, 114], [107, 105, 110, 100], [97], [98], [99]]
def opC : Bs := [61, 33, 60, 62]
def numOf (w : Bs) : Option Int := match Lib.atoiAll w with
  | .ok v => if Lib.itoa v = w then some v else none
  | _ => none
def condOf (w : Bs) : Option CondT :=
  if Lib.indexAny w opC < 0 then none else
    match numOf (w.drop ((Lib.indexAny w opC).toNat + 1)) with
    | none => none
    | some n => if idxL fN (w.take (Lib.indexAny w opC).toNat) < 0 then none else some (idxL fN (w.take (Lib.indexAny w opC).toNat), 1 + Lib.indexByte opC (w.getD (Lib.indexAny w opC).toNat 0), n)
def allOf {α : Type} (f : Bs → Option α) : List Bs → Option (List α)
  | [] => some []
  | w :: r => match f w, allOf f r with
    | some a, some l => some (a :: l)
    | _, _ => none
def ruleOf (w : Bs) : Option RuleT := match splitL 32 w with
  | [] => none
  | h :: t => if idxL vN h < 0 then none else match allOf condOf t with
    | none => none
    | some cs => some (cs, idxL vN h)
def polOf (s : Bs) : Option PolT := match allOf ruleOf (splitL 59 s).dropLast with
  | none => none
  | some rs => if idxL vN ((splitL 59 s).getLast (splitL_ne 59 s)) < 0 then none else some (rs, idxL vN ((splitL 59 s).getLast (splitL_ne 59 s)))
/-- What Parse answers: the policy (nothing where it is refused), the error. -/
def parseR (s : Bs) : PolT × Int := if 60000 < s.length then (([], 0), 2) else match polOf s with
  | none => (([], 0), 1)
  | some p => if polErr p = 0 then (p, 0) else (([], 0), polErr p)

theorem allOf_snoc {α : Type} (f : Bs → Option α) : ∀ (l : List Bs) (w : Bs), allOf f (l ++ [w]) = match allOf f l, f w with
    | some r, some a => some (r ++ [a])
    | _, _ => none
  | [], w => by
    simp only [List.nil_append, allOf]
    cases f w <;> rfl
  | x :: r, w => by
    rw [List.cons_append, allOf, allOf_snoc f r w, allOf]
    cases f x <;> cases allOf f r <;> cases f w <;> rfl
theorem allOf_length {α : Type} (f : Bs → Option α) : ∀ (l : List Bs) (r : List α), allOf f l = some r → r.length = l.length
  | [], r, h => by simp [allOf] at h; subst h; rfl
  | x :: l, r, h => by
    rw [allOf] at h
    cases h1 : f x <;> cases h2 : allOf f l <;> rw [h1, h2] at h <;> simp at h
    subst h
    simp [allOf_length f l _ h2]
theorem allOf_take {α : Type} (f : Bs → Option α) (l : List Bs) (k : Nat) (w : Bs) (h : l[k]? = some w) (r : List α) (hr : allOf f (l.take k) = some r) (a : α) (ha : f w = some a) : allOf f (l.take (k + 1)) = some (r ++ [a]) := by
  rw [List.take_add_one, h]
  simp only [Option.toList]
  rw [allOf_snoc, hr, ha]
theorem allOf_none {α : Type} (f : Bs → Option α) : ∀ (l : List Bs) (k : Nat) (w : Bs), l[k]? = some w → f w = none → allOf f l = none
  | [], _, _, h, _ => by simp at h
  | x :: r, 0, w, h, hw => by
    simp at h
    subst h
    rw [allOf, hw]
  | x :: r, k + 1, w, h, hw => by
    rw [allOf, allOf_none f r k w (by simpa using h) hw]
    cases f x <;> rfl

end Go.Proofs.YtdfcfinjoghipacGreatDoor
end
section
/- What is printed: plain data. -/
set_option linter.all false
namespace Go.Proofs.YtdfcfinjoghipacGreatDoor
open Go.RowKit Go.Maps

def vName (v : Int) : Bs := vN.getD v.toNat []
def fName (f : Int) : Bs := fN.getD f.toNat []
def opSign (o : Int) : UInt8 := opC.getD (o - 1).toNat 0
def condText (c : CondT) : Bs := 32 :: (fName c.1 ++ (opSign c.2.1 :: Lib.itoa c.2.2))
def ruleText (r : RuleT) : Bs := vName r.2 ++ r.1.flatMap condText ++ [59]
def polText (p : PolT) : Bs := p.1.flatMap ruleText ++ vName p.2

theorem decDigits_len : ∀ u : Nat, (Lib.decDigits u).length ≤ u + 1 := by
  intro u
  induction u using Nat.strongRecOn with
  | _ u ih =>
    rw [Lib.decDigits]
    split
    · simp
    · rename_i h
      have := ih (u / 10) (by omega)
      simp
      omega
theorem vName_len (v : Int) : (vName v).length ≤ 5 := by
  unfold vName
  generalize v.toNat = k
  match k with
  | 0 => decide
  | 1 => decide
  | 2 => decide
  | 3 => decide
  | 4 => decide
  | k + 5 => simp [vN]
theorem fName_len (v : Int) : (fName v).length ≤ 4 := by
  unfold fName
  generalize v.toNat = k
  match k with
  | 0 => decide
  | 1 => decide
  | 2 => decide
  | 3 => decide
  | 4 => decide
  | k + 5 => simp [fN]
theorem condErr_num {c : CondT} (h : condErr c = 0) : (0 ≤ c.1 ∧ c.1 < 5) ∧ (1 ≤ c.2.1 ∧ c.2.1 ≤ 4) ∧ (0 ≤ c.2.2 ∧ c.2.2 ≤ 65535) := by
  unfold condErr at h
  split at h
  · cases h
  · split at h
    · cases h
    · split at h
      · cases h
      · have := most_le c.1
        omega
theorem condText_len {c : CondT} (h : condErr c = 0) : (condText c).length ≤ 70000 := by
  obtain ⟨_, _, h3⟩ := condErr_num h
  have h1 := fName_len c.1
  have h2 : (Lib.itoa c.2.2).length ≤ 65536 := by
    unfold Lib.itoa
    rw [if_neg (by omega)]
    have := decDigits_len c.2.2.toNat
    omega
  unfold condText
  simp
  omega
theorem condsText_len : ∀ (cs : List CondT), (∀ c ∈ cs, condErr c = 0) → (cs.flatMap condText).length ≤ cs.length * 70000
  | [], _ => by simp
  | c :: r, h => by
    have := condsText_len r fun d hd => h d (by simp [hd])
    have := condText_len (h c (by simp))
    simp only [List.flatMap_cons, List.length_append, List.length_cons]
    omega
theorem condsErr_each : ∀ (cs : List CondT), condsErr cs = 0 → ∀ c ∈ cs, condErr c = 0
  | [], _, c, h => by cases h
  | d :: r, h, c, hc => by
    unfold condsErr at h
    by_cases h0 : condErr d = 0
    · rw [if_pos h0] at h
      rcases List.mem_cons.1 hc with rfl | hc
      · exact h0
      · exact condsErr_each r h c hc
    · rw [if_neg h0] at h
      exact absurd h h0
theorem ruleErr_all {r : RuleT} (h : ruleErr r = 0) : r.1.length ≤ 10 ∧ (0 ≤ r.2 ∧ r.2 ≤ 4) ∧ ∀ c ∈ r.1, condErr c = 0 := by
  unfold ruleErr at h
  split at h
  · cases h
  · split at h
    · rename_i hv
      unfold verdictOk at hv
      simp at hv
      exact ⟨by omega, hv, condsErr_each _ h⟩
    · cases h
theorem rulesErr_each : ∀ (rs : List RuleT), rulesErr rs = 0 → ∀ r ∈ rs, ruleErr r = 0
  | [], _, c, h => by cases h
  | d :: r, h, c, hc => by
    unfold rulesErr at h
    by_cases h0 : ruleErr d = 0
    · rw [if_pos h0] at h
      rcases List.mem_cons.1 hc with rfl | hc
      · exact h0
      · exact rulesErr_each r h c hc
    · rw [if_neg h0] at h
      exact absurd h h0
theorem polErr_all {p : PolT} (h : polErr p = 0) : p.1.length ≤ 120 ∧ (0 ≤ p.2 ∧ p.2 ≤ 4) ∧ ∀ r ∈ p.1, ruleErr r = 0 := by
  unfold polErr at h
  split at h
  · cases h
  · split at h
    · rename_i hv
      unfold verdictOk at hv
      simp at hv
      exact ⟨by omega, hv, rulesErr_each _ h⟩
    · cases h
theorem ruleText_len {r : RuleT} (h : ruleErr r = 0) : (ruleText r).length ≤ 800000 := by
  obtain ⟨h1, _, h3⟩ := ruleErr_all h
  have := condsText_len r.1 h3
  have := vName_len r.2
  unfold ruleText
  simp only [List.length_append, List.length_cons, List.length_nil]
  omega
theorem rulesText_len : ∀ (rs : List RuleT), (∀ r ∈ rs, ruleErr r = 0) → (rs.flatMap ruleText).length ≤ rs.length * 800000
  | [], _ => by simp
  | c :: r, h => by
    have := rulesText_len r fun d hd => h d (by simp [hd])
    have := ruleText_len (h c (by simp))
    simp only [List.flatMap_cons, List.length_append, List.length_cons]
    omega

end Go.Proofs.YtdfcfinjoghipacGreatDoor
end
