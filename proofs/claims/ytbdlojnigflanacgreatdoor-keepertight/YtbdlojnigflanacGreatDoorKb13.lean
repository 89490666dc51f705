/- Joined: RulC ShtR Met1 Ins Cmp0 Chn0 Chn1. -/
import Derived.Test.YtbdlojnigflanacGreatDoorKb01
import Derived.Test.YtbdlojnigflanacGreatDoorKb03
import Derived.Test.YtbdlojnigflanacGreatDoorKb12
import Derived.Test.YtbdlojnigflanacGreatDoorKb11
import Derived.Test.YtbdlojnigflanacGreatDoorKb10
section
/- Rules as rows of cells. -/
set_option linter.all false
namespace Go.Proofs.YtbdlojnigflanacGreatDoor
open Go.RowKit Go.Maps

/-- The cells of rules, one row: each a slice of conditions and a verdict. -/
def XsAt (B : Nat) (w : World) (xs : List Value) (rs : List RuleT) : Prop :=
  xs.length = rs.length * 2 ∧ (∀ u ∈ xs, u.oneCell' = true) ∧ ∀ i r, rs[i]? = some r → ∃ cv, xs[i * 2]? = some cv ∧ xs[i * 2 + 1]? = some (.int .i64 r.2) ∧ wf r.2 ∧ CondsAt B w cv r.1
theorem XsAt.later {B B' : Nat} {w w' : World} {xs : List Value} {rs : List RuleT} (h : XsAt B w xs rs) (hb : Below B' w w') (hB : B ≤ B') : XsAt B w' xs rs := by
  obtain ⟨h1, h2, h3⟩ := h
  refine ⟨h1, h2, fun i r hr => ?_⟩
  obtain ⟨cv, a, b, c, d⟩ := h3 i r hr
  exact ⟨cv, a, b, c, d.later hb hB⟩

/-- Rules in block g alone, their conditions below B. -/
def OwnRules (B g : Nat) (w : World) (v : Value) (rs : List RuleT) : Prop :=
  ∃ a cap, v = .slice a rs.length cap ∧ rs.length ≤ cap ∧ cap ≤ maxLen ∧ ∀ i r, rs[i]? = some r → a = some ⟨g, 0, none⟩ ∧ ∃ cv, w.cell? ⟨g, i * 2, none⟩ = some cv ∧ w.cell? ⟨g, i * 2 + 1, none⟩ = some (.int .i64 r.2) ∧ wf r.2 ∧ CondsAt B w cv r.1
theorem OwnRules.keep {B g : Nat} {w w' : World} {v : Value} {rs : List RuleT} (h : OwnRules B g w v rs) (hb : Below B w w') (hc : ∀ j u, w.cell? ⟨g, j, none⟩ = some u → w'.cell? ⟨g, j, none⟩ = some u) : OwnRules B g w' v rs := by
  obtain ⟨a, cap, h1, h2, h3, h4⟩ := h
  refine ⟨a, cap, h1, h2, h3, fun i r hr => ?_⟩
  obtain ⟨e, cv, k0, k1, k2, k3⟩ := h4 i r hr
  exact ⟨e, cv, hc _ _ k0, hc _ _ k1, k2, k3.later hb (Nat.le_refl _)⟩
theorem OwnRules.later {B g : Nat} {w w' : World} {v : Value} {rs : List RuleT} (h : OwnRules B g w v rs) (hb : Below w.heap.size w w') (hB : B ≤ w.heap.size) : OwnRules B g w' v rs :=
  h.keep (hb.mono hB) fun j u hu => (hb.cell (p := ⟨g, j, none⟩) (World.block_lt_of_cell? _ _ hu)).trans hu
theorem OwnRules.lt {B g : Nat} {w : World} {v : Value} {rs : List RuleT} (h : OwnRules B g w v rs) (hne : rs ≠ []) : g < w.heap.size := by
  obtain ⟨a, cap, h1, h2, h3, h4⟩ := h
  cases rs with
  | nil => exact absurd rfl hne
  | cons r l =>
    obtain ⟨_, cv, k0, _⟩ := h4 0 r rfl
    exact World.block_lt_of_cell? _ _ k0
theorem XsAt.append {B : Nat} {w : World} {xs ys : List Value} {rs ss : List RuleT} (h : XsAt B w xs rs) (k : XsAt B w ys ss) : XsAt B w (xs ++ ys) (rs ++ ss) := by
  obtain ⟨h1, h2, h3⟩ := h
  obtain ⟨k1, k2, k3⟩ := k
  refine ⟨by simp [h1, k1]; omega, fun u hu => ?_, fun i r hr => ?_⟩
  · rcases List.mem_append.1 hu with h | h
    · exact h2 u h
    · exact k2 u h
  · by_cases hi : i < rs.length
    · rw [List.getElem?_append_left hi] at hr
      obtain ⟨cv, e0, e1, e2⟩ := h3 i r hr
      exact ⟨cv, by rw [List.getElem?_append_left (by omega)]; exact e0, by rw [List.getElem?_append_left (by omega)]; exact e1, e2⟩
    · rw [List.getElem?_append_right (by omega)] at hr
      obtain ⟨cv, e0, e1, e2⟩ := k3 _ r hr
      refine ⟨cv, ?_, ?_, e2⟩
      · rw [List.getElem?_append_right (by omega), show i * 2 - xs.length = (i - rs.length) * 2 by omega]; exact e0
      · rw [List.getElem?_append_right (by omega), show i * 2 + 1 - xs.length = (i - rs.length) * 2 + 1 by omega]; exact e1


end Go.Proofs.YtbdlojnigflanacGreatDoor
end
section
/- What the counterpart's Shorter says. -/
set_option linter.all false
set_option maxRecDepth 100000
namespace Go.Proofs.YtbdlojnigflanacGreatDoor
open Go.RowKit Go.Maps

theorem keepFrom_snoc (p : PolT) (r : RuleT) : ∀ (l : List RuleT) (k : Nat), keepFrom p k (l ++ [r]) = keepFrom p k l ++ if keepIdx p ((k + l.length : Nat) : Int) then [r] else []
  | [], k => by
    show keepFrom p k [r] = _
    unfold keepFrom
    simp [keepFrom]
  | s :: l, k => by
    have ih := keepFrom_snoc p r l (k + 1)
    rw [show k + 1 + l.length = k + (s :: l).length by simp; omega] at ih
    show keepFrom p k (s :: (l ++ [r])) = _
    unfold keepFrom
    split
    · rw [ih]; rfl
    · rw [ih]
theorem cutEnd_is_take (d : Int) (l : List RuleT) : cutEnd d l = l.take (cutEnd d l).length := by
  obtain ⟨n, h⟩ := cutEnd_take d l
  rw [h, List.length_take]
  by_cases hn : n ≤ l.length
  · rw [Nat.min_eq_left hn]
  · rw [Nat.min_eq_right (by omega), List.take_of_length_le (by omega), List.take_length]
theorem infoRuleS : ∃ i, Tryz.prog.info? 95 = some i ∧ i.zero = some (.agg #[.slice none 0 0, .int .i64 0]) ∧ i.size = 2 ∧ i.bytes = 32 := infoOf (by kernel_rfl)
theorem xs_one {B : Nat} {w : World} {a : Option Addr} {n c : Nat} {r : RuleT} (h : CondsAt B w (.slice a n c) r.1) (hw : wf r.2) : XsAt B w [.slice a n c, .int .i64 r.2] [r] := by
  refine ⟨rfl, fun u hu => ?_, fun i s hs => ?_⟩
  · simp at hu
    rcases hu with rfl | rfl <;> rfl
  · match i, hs with
    | 0, hs =>
      simp at hs
      subst hs
      exact ⟨_, rfl, rfl, hw, h⟩
    | i + 1, hs => simp at hs
theorem RulesAt.take {B : Nat} {w : World} {a : Option Addr} {n c : Nat} {rs : List RuleT} (h : RulesAt B w (.slice a n c) rs) (m : Nat) (hm : m ≤ rs.length) : RulesAt B w (.slice a m c) (rs.take m) := by
  obtain ⟨a', c', e, h1, h2, h3⟩ := h
  simp at e
  obtain ⟨rfl, rfl, rfl⟩ := e
  refine ⟨a, c, by rw [List.length_take, Nat.min_eq_left hm], by rw [List.length_take]; omega, h2, fun i r hr => ?_⟩
  rw [List.getElem?_take] at hr
  split at hr
  · exact h3 i r hr
  · cases hr
def shortR (p : PolT) : PolT := if pointsE [p] = 0 then shortP p else ([], 0)
end Go.Proofs.YtbdlojnigflanacGreatDoor
end
section
/- Meetings: plain facts for the statements on them. -/
set_option linter.all false
namespace Go.Proofs.YtbdlojnigflanacGreatDoor

theorem meetE_ok {exc : Bool} {p q : PolT} (h : meetE exc p q = 0) : polErr p = 0 ∧ polErr q = 0 ∧ polErr (meetP exc p q) = 0 := by
  unfold meetE at h
  split at h
  · rename_i h0
    exact ⟨(polsErr_two h0).1, (polsErr_two h0).2, h⟩
  · rename_i h0
    exact absurd h h0
theorem judge_right {p : PolT} (hp : polErr p = 0) {x : Nat → Int} (hx : chkx x = 0) : judgeP p x = (vP p x, (judgeP p x).2.1, 0) := judge_zero (ps := [p]) (fun q hq => by simp at hq; subst hq; exact hp) (by simp) hx
end Go.Proofs.YtbdlojnigflanacGreatDoor
end
section
/- Filters: plain data, how they lie in memory, what Check says of them, what they say of a call. -/
set_option linter.all false
set_option maxRecDepth 100000
namespace Go.Proofs.YtbdlojnigflanacGreatDoor
open Go.ChangeShapes Go.WideShapes Go.ChangeAt Go.RowKit Go.Deep

/-- Kind, A, B, C. -/
abbrev InsT := Int × Int × Int × Int
def insV (c : InsT) : Value := .agg #[.int .i64 c.1, .int .i64 c.2.1, .int .i64 c.2.2.1, .int .i64 c.2.2.2]
def insWf (c : InsT) : Prop := wf c.1 ∧ wf c.2.1 ∧ wf c.2.2.1 ∧ wf c.2.2.2

/-- An instruction in four cells. -/
def InsAt (w : World) (b o : Nat) (c : InsT) : Prop :=
  w.cell? ⟨b, o, none⟩ = some (.int .i64 c.1) ∧ w.cell? ⟨b, o + 1, none⟩ = some (.int .i64 c.2.1) ∧ w.cell? ⟨b, o + 2, none⟩ = some (.int .i64 c.2.2.1) ∧ w.cell? ⟨b, o + 3, none⟩ = some (.int .i64 c.2.2.2) ∧ insWf c
/-- Instructions in memory, all in blocks below B. -/
def InssAt (B : Nat) (w : World) (v : Value) (cs : List InsT) : Prop :=
  ∃ a cap, v = .slice a cs.length cap ∧ cs.length ≤ cap ∧ cap ≤ maxLen ∧ ∀ i c, cs[i]? = some c → ∃ b o, a = some ⟨b, o, none⟩ ∧ b < B ∧ InsAt w b (o + i * 4) c
theorem InsAt.later {B : Nat} {w w' : World} {b o : Nat} {c : InsT} (h : InsAt w b o c) (hb : Below B w w') (hB : b < B) : InsAt w' b o c := by
  unfold InsAt
  rw [hb.cell (p := ⟨b, o, none⟩) hB, hb.cell (p := ⟨b, o + 1, none⟩) hB, hb.cell (p := ⟨b, o + 2, none⟩) hB, hb.cell (p := ⟨b, o + 3, none⟩) hB]
  exact h
theorem InssAt.later {B B' : Nat} {w w' : World} {v : Value} {cs : List InsT} (h : InssAt B w v cs) (hb : Below B' w w') (hB : B ≤ B') : InssAt B w' v cs := by
  obtain ⟨a, cap, h1, h2, h3, h4⟩ := h
  refine ⟨a, cap, h1, h2, h3, fun i c hc => ?_⟩
  obtain ⟨b, o, e, hl, k⟩ := h4 i c hc
  exact ⟨b, o, e, hl, k.later hb (by omega)⟩
theorem InssAt.mono {B B' : Nat} {w : World} {v : Value} {cs : List InsT} (h : InssAt B w v cs) (hB : B ≤ B') : InssAt B' w v cs := by
  obtain ⟨a, cap, h1, h2, h3, h4⟩ := h
  refine ⟨a, cap, h1, h2, h3, fun i c hc => ?_⟩
  obtain ⟨b, o, e, hl, k⟩ := h4 i c hc
  exact ⟨b, o, e, by omega, k⟩
theorem InssAt.shape {B : Nat} {w : World} {v : Value} {cs : List InsT} (h : InssAt B w v cs) : ∃ a cap, v = .slice a cs.length cap ∧ cs.length ≤ cap ∧ cap ≤ maxLen := by
  obtain ⟨a, cap, rfl, h, h', _⟩ := h
  exact ⟨a, cap, rfl, h, h'⟩

/-! What Check says. -/
def insErr (c : InsT) (behind : Int) : Int :=
  if c.1 = 1 ∨ c.1 = 4 then (if c.2.2.1 ≠ 0 ∨ c.2.2.2 ≠ 0 then 4 else if c.2.1 < 0 ∨ 4 < c.2.1 then 3 else 0)
  else if c.1 = 2 ∨ c.1 = 3 then (if c.2.1 < 0 ∨ 65535 < c.2.1 then 3 else if c.2.2.1 < 0 ∨ behind ≤ c.2.2.1 ∨ c.2.2.2 < 0 ∨ behind ≤ c.2.2.2 then 5 else 0)
  else 4
def inssErr : List InsT → Int
  | [] => 0
  | c :: r => if insErr c r.length = 0 then inssErr r else insErr c r.length
def lastKind : List InsT → Int
  | [] => 0
  | [c] => c.1
  | _ :: c :: r => lastKind (c :: r)
def codeErr (l : List InsT) : Int := if l.length < 1 ∨ 1500 < l.length then 2 else if inssErr l = 0 then (if lastKind l = 4 then 0 else 4) else inssErr l

theorem inssErr_drop (l : List InsT) (k : Nat) (c : InsT) (h : l[k]? = some c) : inssErr (l.drop k) = if insErr c ((l.length : Int) - 1 - k) = 0 then inssErr (l.drop (k + 1)) else insErr c ((l.length : Int) - 1 - k) := by
  obtain ⟨hk, rfl⟩ := List.getElem?_eq_some_iff.1 h
  rw [List.drop_eq_getElem_cons hk, inssErr, show (((l.drop (k + 1)).length : Nat) : Int) = (l.length : Int) - 1 - k by rw [List.length_drop]; omega]
theorem lastKind_at : ∀ (l : List InsT) (c : InsT), l[l.length - 1]? = some c → lastKind l = c.1
  | [], _, h => by simp at h
  | [d], c, h => by simp at h; subst h; rfl
  | _ :: d :: r, c, h => by
    rw [lastKind]
    exact lastKind_at (d :: r) c (by simpa using h)
theorem inssErr_all : ∀ (l : List InsT) (k : Nat) (c : InsT), inssErr l = 0 → l[k]? = some c → insErr c ((l.length : Int) - 1 - k) = 0
  | [], _, _, _, h => by simp at h
  | d :: r, k, c, h, hc => by
    rw [inssErr] at h
    by_cases h0 : insErr d r.length = 0
    · rw [if_pos h0] at h
      cases k with
      | zero =>
        simp at hc
        subst hc
        rw [show (((d :: r).length : Nat) : Int) - 1 - ((0 : Nat) : Int) = r.length by simp]
        exact h0
      | succ k =>
        have := inssErr_all r k c h (by simpa using hc)
        rw [show (((d :: r).length : Nat) : Int) - 1 - ((k + 1 : Nat) : Int) = (r.length : Int) - 1 - k by simp; omega]
        exact this
    · rw [if_neg h0] at h
      exact absurd h h0

/-- What is asked of a right filter. -/
theorem codeErr_ok {l : List InsT} (h : codeErr l = 0) : 1 ≤ l.length ∧ l.length ≤ 1500 ∧ inssErr l = 0 ∧ lastKind l = 4 := by
  unfold codeErr at h
  by_cases h0 : l.length < 1 ∨ 1500 < l.length
  · rw [if_pos h0] at h; cases h
  · rw [if_neg h0] at h
    by_cases h1 : inssErr l = 0
    · rw [if_pos h1] at h
      by_cases h2 : lastKind l = 4
      · exact ⟨by omega, by omega, h1, h2⟩
      · rw [if_neg h2] at h; cases h
    · rw [if_neg h1] at h; exact absurd h h1
theorem insErr_step {c : InsT} {n : Int} (h : insErr c n = 0) : (c.1 = 1 ∨ c.1 = 4) ∧ (0 ≤ c.2.1 ∧ c.2.1 ≤ 4) ∨ (c.1 = 2 ∨ c.1 = 3) ∧ (0 ≤ c.2.2.1 ∧ c.2.2.1 < n ∧ 0 ≤ c.2.2.2 ∧ c.2.2.2 < n) := by
  unfold insErr at h
  by_cases h0 : c.1 = 1 ∨ c.1 = 4
  · rw [if_pos h0] at h
    split at h
    · cases h
    · split at h
      · cases h
      · exact .inl ⟨h0, by omega⟩
  · rw [if_neg h0] at h
    by_cases h1 : c.1 = 2 ∨ c.1 = 3
    · rw [if_pos h1] at h
      split at h
      · cases h
      · split at h
        · cases h
        · exact .inr ⟨h1, by omega⟩
    · rw [if_neg h1] at h
      cases h

/-! What a filter says: the verdict, and how many instructions were done. -/
def inc (p : Int × Int) : Int × Int := (p.1, p.2 + 1)
def hop (n : Int) (c : InsT) : Nat := (if (if c.1 = 2 then n = c.2.1 else n < c.2.1) then c.2.2.1 else c.2.2.2).toNat
def runs (x : Nat → Int) : Int → Nat → List InsT → Int × Int
  | _, _, [] => (0, 0)
  | n, k + 1, _ :: r => runs x n k r
  | n, 0, c :: r => if c.1 = 1 then inc (runs x (x c.2.1.toNat) 0 r) else if c.1 = 2 ∨ c.1 = 3 then inc (runs x n (hop n c) r) else (c.2.1, 1)
theorem runs_skip (x : Nat → Int) : ∀ (l : List InsT) (n : Int) (k : Nat), runs x n k l = runs x n 0 (l.drop k)
  | [], n, k => by cases k <;> simp [runs]
  | c :: r, n, 0 => by simp
  | c :: r, n, k + 1 => by rw [List.drop_succ_cons, runs]; exact runs_skip x r n k

end Go.Proofs.YtbdlojnigflanacGreatDoor
end
section
/- Compile: the filter of a policy as plain data; a right policy's filter is right but for its length, and says of each call what the policy says. -/
set_option linter.all false
namespace Go.Proofs.YtbdlojnigflanacGreatDoor

def askI (c : CondT) (left : Int) : InsT := if c.2.1 = 1 then (2, c.2.2, 0, left) else if c.2.1 = 2 then (2, c.2.2, left, 0) else if c.2.1 = 3 then (3, c.2.2, 0, left) else (3, c.2.2, left, 0)
def condsI : List CondT → List InsT
  | [] => []
  | c :: r => (1, c.1, 0, 0) :: askI c (2 * (r.length : Int) + 1) :: condsI r
def ruleI (r : RuleT) : List InsT := condsI r.1 ++ [(4, r.2, 0, 0)]
def rulesI (rs : List RuleT) : List InsT := rs.flatMap ruleI
def polI (p : PolT) : List InsT := rulesI p.1 ++ [(4, p.2, 0, 0)]

theorem condsI_length : ∀ cs : List CondT, (condsI cs).length = 2 * cs.length
  | [] => rfl
  | c :: r => by rw [condsI]; simp [condsI_length r]; omega
theorem ruleI_length (r : RuleT) : (ruleI r).length = 2 * r.1.length + 1 := by rw [ruleI]; simp [condsI_length]
theorem rulesI_cons (r : RuleT) (s : List RuleT) : rulesI (r :: s) = ruleI r ++ rulesI s := by simp [rulesI]
theorem polI_ne (p : PolT) : polI p ≠ [] := by unfold polI; simp

theorem lastKind_snoc : ∀ (l : List InsT) (c : InsT), lastKind (l ++ [c]) = c.1
  | [], c => rfl
  | [d], c => rfl
  | d :: e :: r, c => by
    show lastKind (d :: e :: (r ++ [c])) = c.1
    rw [lastKind]
    exact lastKind_snoc (e :: r) c

theorem insErr_ret0 {v n : Int} (h0 : 0 ≤ v) (h1 : v ≤ 4) : insErr (4, v, 0, 0) n = 0 := by
  simp [insErr]
  omega
theorem insErr_ld0 {v n : Int} (h0 : 0 ≤ v) (h1 : v < 5) : insErr (1, v, 0, 0) n = 0 := by
  simp [insErr]
  omega
theorem insErr_jmp0 {k v b c n : Int} (hk : k = 2 ∨ k = 3) (h0 : 0 ≤ v) (h1 : v ≤ 65535) (hb : 0 ≤ b) (hb' : b < n) (hc : 0 ≤ c) (hc' : c < n) : insErr (k, v, b, c) n = 0 := by
  unfold insErr
  simp only []
  rw [if_neg (by omega), if_pos hk, if_neg (by omega), if_neg (by omega)]
theorem insErr_ask {c : CondT} {left n : Int} (hc : condErr c = 0) (hl : 0 ≤ left) (hn : left < n) : insErr (askI c left) n = 0 := by
  obtain ⟨_, _, h3, h4⟩ := condErr_ok hc
  have := most_le c.1
  unfold askI
  split
  · exact insErr_jmp0 (.inl rfl) h3 (by omega) (by omega) (by omega) hl hn
  · split
    · exact insErr_jmp0 (.inl rfl) h3 (by omega) hl hn (by omega) (by omega)
    · split
      · exact insErr_jmp0 (.inr rfl) h3 (by omega) (by omega) (by omega) hl hn
      · exact insErr_jmp0 (.inr rfl) h3 (by omega) hl hn (by omega) (by omega)
theorem verdictOk_ok {v : Int} (h : verdictOk v = true) : 0 ≤ v ∧ v ≤ 4 := by
  unfold verdictOk at h
  simpa using h

theorem inssErr_rule (v : Int) (hv : 0 ≤ v ∧ v ≤ 4) (rest : List InsT) (hr : rest ≠ []) : ∀ cs : List CondT, (∀ c ∈ cs, condErr c = 0) → inssErr (condsI cs ++ (4, v, 0, 0) :: rest) = inssErr rest
  | [], _ => by
    show inssErr ((4, v, 0, 0) :: rest) = _
    rw [inssErr, if_pos (insErr_ret0 hv.1 hv.2)]
  | c :: r, h => by
    have hp : 0 < rest.length := List.length_pos_iff.2 hr
    have hc := condErr_ok (h c (by simp))
    rw [condsI]
    show inssErr ((1, c.1, 0, 0) :: askI c (2 * (r.length : Int) + 1) :: (condsI r ++ (4, v, 0, 0) :: rest)) = _
    rw [inssErr, if_pos (insErr_ld0 hc.1.1 hc.1.2), inssErr, if_pos (insErr_ask (h c (by simp)) (by omega) (by
      rw [List.length_append, condsI_length, List.length_cons]
      omega))]
    exact inssErr_rule v hv rest hr r fun d hd => h d (by simp [hd])
theorem inssErr_rules (tail : List InsT) (ht : tail ≠ []) : ∀ rs : List RuleT, (∀ r ∈ rs, ruleErr r = 0) → inssErr (rulesI rs ++ tail) = inssErr tail
  | [], _ => rfl
  | r :: s, h => by
    obtain ⟨_, hv, hc⟩ := ruleErr_ok (h r (by simp))
    rw [rulesI_cons, ruleI, List.append_assoc, List.append_assoc]
    show inssErr (condsI r.1 ++ (4, r.2, 0, 0) :: (rulesI s ++ tail)) = _
    rw [inssErr_rule r.2 (verdictOk_ok hv) _ (by simp [ht]) r.1 (condsErr_all hc)]
    exact inssErr_rules tail ht s fun d hd => h d (by simp [hd])

/-- A right policy's filter is right, unless it is too long. -/
theorem codeErr_pol {p : PolT} (h : polErr p = 0) : codeErr (polI p) = if 1500 < (polI p).length then 2 else 0 := by
  obtain ⟨_, hv, hr⟩ := polErr_ok h
  have hv := verdictOk_ok hv
  have h1 : 0 < (polI p).length := List.length_pos_iff.2 (polI_ne p)
  have h2 : inssErr (polI p) = 0 := by
    unfold polI
    rw [inssErr_rules _ (by simp) p.1 (rulesErr_all hr), inssErr, if_pos (insErr_ret0 hv.1 hv.2)]
    rfl
  have h3 : lastKind (polI p) = 4 := by unfold polI; rw [lastKind_snoc]
  unfold codeErr
  by_cases hl : 1500 < (polI p).length
  · rw [if_pos (.inr hl), if_pos hl]
  · rw [if_neg (by omega), if_pos h2, if_pos h3, if_neg hl]

/-! What the filter says. -/
def verd (x : Nat → Int) (d : Int) : List RuleT → Int
  | [] => d
  | r :: s => if ruleOk x r then r.2 else verd x d s
theorem hop_ask (n : Int) (c : CondT) (left : Int) : hop n (askI c left) = if holdsB c.2.1 c.2.2 n then 0 else left.toNat := by
  unfold askI holdsB hop
  by_cases h1 : c.2.1 = 1
  · simp only [if_pos h1]
    by_cases e : n = c.2.2 <;> simp [e]
  · simp only [if_neg h1]
    by_cases h2 : c.2.1 = 2
    · simp only [if_pos h2]
      by_cases e : n = c.2.2 <;> simp [e]
    · simp only [if_neg h2]
      by_cases h3 : c.2.1 = 3
      · simp only [if_pos h3]
        by_cases e : n < c.2.2 <;> simp [e]
      · simp only [if_neg h3]
        by_cases e : n < c.2.2
        · have e' : ¬ c.2.2 ≤ n := by omega
          simp [e, e']
        · have e' : c.2.2 ≤ n := by omega
          simp [e, e']
theorem askI_kind (c : CondT) (left : Int) : (askI c left).1 = 2 ∨ (askI c left).1 = 3 := by
  unfold askI
  split
  · exact .inl rfl
  · split
    · exact .inl rfl
    · split <;> exact .inr rfl
theorem runs_rule (x : Nat → Int) (v : Int) (rest : List InsT) : ∀ (cs : List CondT) (n : Int), ∃ n', (runs x n 0 (condsI cs ++ (4, v, 0, 0) :: rest)).1 = if cs.all (condOk x) then v else (runs x n' 0 rest).1
  | [], n => ⟨n, by
    show (runs x n 0 ((4, v, 0, 0) :: rest)).1 = _
    rw [runs, if_neg (by simp), if_neg (by simp)]
    rfl⟩
  | c :: r, n => by
    rw [condsI]
    show ∃ n', (runs x n 0 ((1, c.1, 0, 0) :: askI c (2 * (r.length : Int) + 1) :: (condsI r ++ (4, v, 0, 0) :: rest))).1 = _
    have ha := askI_kind c (2 * (r.length : Int) + 1)
    rw [runs, if_pos rfl, runs, if_neg (by omega), if_pos ha, hop_ask]
    by_cases h : condOk x c = true
    · have h' : holdsB c.2.1 c.2.2 (x c.1.toNat) = true := h
      obtain ⟨n', e⟩ := runs_rule x v rest r (x c.1.toNat)
      refine ⟨n', ?_⟩
      simp only []
      rw [if_pos h']
      show (runs x (x c.1.toNat) 0 (condsI r ++ (4, v, 0, 0) :: rest)).1 = _
      rw [e, List.all_cons, h, Bool.true_and]
    · have h' : ¬ holdsB c.2.1 c.2.2 (x c.1.toNat) = true := h
      refine ⟨x c.1.toNat, ?_⟩
      simp only []
      rw [if_neg h']
      show (runs x (x c.1.toNat) (2 * (r.length : Int) + 1).toNat (condsI r ++ (4, v, 0, 0) :: rest)).1 = _
      have hd : (condsI r ++ (4, v, 0, 0) :: rest).drop (2 * (r.length : Int) + 1).toNat = rest := by
        rw [show (2 * (r.length : Int) + 1).toNat = (condsI r).length + 1 by rw [condsI_length]; omega, ← List.drop_drop, List.drop_left]
        rfl
      rw [runs_skip, hd, List.all_cons]
      simp [h]
theorem runs_rules (x : Nat → Int) (d : Int) : ∀ (rs : List RuleT) (n : Int), (runs x n 0 (rulesI rs ++ [(4, d, 0, 0)])).1 = verd x d rs
  | [], n => by
    show (runs x n 0 [(4, d, 0, 0)]).1 = _
    rw [runs, if_neg (by simp), if_neg (by simp)]
    rfl
  | r :: s, n => by
    rw [rulesI_cons, ruleI, List.append_assoc, List.append_assoc]
    show (runs x n 0 (condsI r.1 ++ (4, r.2, 0, 0) :: (rulesI s ++ [(4, d, 0, 0)]))).1 = _
    obtain ⟨n', e⟩ := runs_rule x r.2 (rulesI s ++ [(4, d, 0, 0)]) r.1 n
    rw [e, runs_rules x d s n', verd]
    rfl
theorem verd_first (x : Nat → Int) (d : Int) (rs0 : List RuleT) : ∀ (rs : List RuleT) (k : Nat), rs0.drop k = rs → verd x d rs = (verdictAt (rs0, d) (firstAt (ruleOk x) k rs)).1
  | [], k, _ => by simp [verd, firstAt, verdictAt]
  | r :: s, k, h => by
    have hk : rs0[k]? = some r := by
      have : (rs0.drop k)[0]? = some r := by rw [h]; rfl
      simpa using this
    rw [verd, firstAt]
    by_cases hr : ruleOk x r = true
    · rw [if_pos hr, if_pos hr, verdictAt, if_neg (by omega)]
      simp [hk]
    · rw [if_neg hr, if_neg hr]
      refine verd_first x d rs0 s (k + 1) ?_
      rw [← List.drop_drop, h]
      rfl

/-- A filter says of each call what its policy says. -/
theorem runs_pol {p : PolT} {x : Nat → Int} (hp : polErr p = 0) (hx : chkx x = 0) : (runs x 0 0 (polI p)).1 = (judgeP p x).1 := by
  rw [judgeP_ok hp hx, polI, runs_rules]
  exact verd_first x p.2 p.1 p.1 0 rfl

/-- What Compile answers. -/
def compE (p : PolT) : Int := if polErr p = 0 then (if 1500 < (polI p).length then 2 else 0) else polErr p
def compL (p : PolT) : List InsT := if compE p = 0 then polI p else []

end Go.Proofs.YtbdlojnigflanacGreatDoor
end
section
/- Chains of filters: plain data; what a chain says, and the policy of what changes. -/
set_option linter.all false
namespace Go.Proofs.YtbdlojnigflanacGreatDoor

abbrev ChT := List (List InsT)
def filtsErr : ChT → Int
  | [] => 0
  | f :: r => if codeErr f = 0 then filtsErr r else codeErr f
def chainErr (ls : ChT) : Int := if 6 < ls.length then 2 else filtsErr ls
theorem filtsErr_ok : ∀ {ls : ChT}, filtsErr ls = 0 ↔ ∀ f ∈ ls, codeErr f = 0
  | [] => by simp [filtsErr]
  | f :: r => by
    unfold filtsErr
    by_cases h : codeErr f = 0
    · rw [if_pos h, filtsErr_ok]
      simp [h]
    · rw [if_neg h]
      constructor
      · intro h'
        exact absurd h' h
      · intro h'
        exact absurd (h' f (by simp)) h
theorem filtsErr_drop (ls : ChT) (k : Nat) (f : List InsT) (h : ls[k]? = some f) : filtsErr (ls.drop k) = if codeErr f = 0 then filtsErr (ls.drop (k + 1)) else codeErr f := by
  obtain ⟨hk, rfl⟩ := List.getElem?_eq_some_iff.1 h
  rw [List.drop_eq_getElem_cons hk]
  rfl
theorem chainErr_ok {ls : ChT} : chainErr ls = 0 ↔ ls.length ≤ 6 ∧ ∀ f ∈ ls, codeErr f = 0 := by
  unfold chainErr
  by_cases h : 6 < ls.length
  · rw [if_pos h]
    constructor
    · intro h'
      omega
    · intro h'
      omega
  · rw [if_neg h, filtsErr_ok]
    constructor
    · intro h'
      exact ⟨by omega, h'⟩
    · exact fun h' => h'.2
/-- The strictest of what all say. -/
def askF (x : Nat → Int) (v : Int) (ls : ChT) : Int := ls.foldl (fun v f => if (runs x 0 0 f).1 < v then (runs x 0 0 f).1 else v) v
theorem askF_snoc (x : Nat → Int) (v : Int) (ls : ChT) (f : List InsT) : askF x v (ls ++ [f]) = if (runs x 0 0 f).1 < askF x v ls then (runs x 0 0 f).1 else askF x v ls := by
  unfold askF
  rw [List.foldl_append]
  rfl
theorem askF_least (x : Nat → Int) : ∀ (ls : ChT) (v : Int), askF x v ls ≤ v ∧ (∀ f ∈ ls, askF x v ls ≤ (runs x 0 0 f).1) ∧ (askF x v ls = v ∨ ∃ f ∈ ls, askF x v ls = (runs x 0 0 f).1)
  | [], v => ⟨Int.le_refl _, by simp, .inl rfl⟩
  | f :: r, v => by
    have e : askF x v (f :: r) = askF x (if (runs x 0 0 f).1 < v then (runs x 0 0 f).1 else v) r := rfl
    have ih := askF_least x r (if (runs x 0 0 f).1 < v then (runs x 0 0 f).1 else v)
    rw [e]
    obtain ⟨h1, h2, h3⟩ := ih
    split at h1
    · rename_i hlt
      rw [if_pos hlt] at h2 h3 ⊢
      refine ⟨by omega, ?_, ?_⟩
      · intro g hg
        rcases List.mem_cons.1 hg with rfl | hg
        · exact h1
        · exact h2 g hg
      · rcases h3 with h3 | ⟨g, hg, h3⟩
        · exact .inr ⟨f, by simp, h3⟩
        · exact .inr ⟨g, by simp [hg], h3⟩
    · rename_i hlt
      rw [if_neg hlt] at h2 h3 ⊢
      refine ⟨h1, ?_, ?_⟩
      · intro g hg
        rcases List.mem_cons.1 hg with rfl | hg
        · omega
        · exact h2 g hg
      · rcases h3 with h3 | ⟨g, hg, h3⟩
        · exact .inl h3
        · exact .inr ⟨g, by simp [hg], h3⟩
theorem askF_both (x : Nat → Int) (l m : ChT) (v : Int) : askF x v (l ++ m) = min (askF x v l) (askF x v m) := by
  obtain ⟨a1, a2, a3⟩ := askF_least x l v
  obtain ⟨b1, b2, b3⟩ := askF_least x m v
  obtain ⟨c1, c2, c3⟩ := askF_least x (l ++ m) v
  have h1 : askF x v (l ++ m) ≤ askF x v l := by
    rcases a3 with a3 | ⟨f, hf, a3⟩
    · omega
    · rw [a3]; exact c2 f (by simp [hf])
  have h2 : askF x v (l ++ m) ≤ askF x v m := by
    rcases b3 with b3 | ⟨f, hf, b3⟩
    · omega
    · rw [b3]; exact c2 f (by simp [hf])
  have h3 : min (askF x v l) (askF x v m) ≤ askF x v (l ++ m) := by
    rcases c3 with c3 | ⟨f, hf, c3⟩
    · omega
    · rcases List.mem_append.1 hf with h | h
      · have := a2 f h; omega
      · have := b2 f h; omega
  omega

def askE (ls : ChT) (x : Nat → Int) : Int := if chainErr ls = 0 then chkx x else chainErr ls
def askV (ls : ChT) (x : Nat → Int) : Int := if askE ls x = 0 then askF x 4 ls else 0

/-- The policy of what changes from one policy to a stricter one. -/
def deltaE (p q : PolT) : Int := if pointsE [q, p] = 0 then (if (looserP q p).isSome then 7 else if meetE true q p = 0 then pointsE [meetR true q p] else meetE true q p) else pointsE [q, p]
def deltaR (p q : PolT) : PolT := if deltaE p q = 0 then shortP (meetR true q p) else ([], 0)
def tightE (ls : ChT) (p q : PolT) : Int := if chainErr ls = 0 then (if deltaE p q = 0 then (if ls.length = 6 then 2 else compE (deltaR p q)) else deltaE p q) else chainErr ls
def tightR (ls : ChT) (p q : PolT) : ChT := if tightE ls p q = 0 then ls ++ [polI (deltaR p q)] else []

/-- Of a delta that is told: all is right, nothing is looser. -/
theorem delta_ok {p q : PolT} (h : deltaE p q = 0) : pointsE [q, p] = 0 ∧ looserP q p = none ∧ meetE true q p = 0 ∧ pointsE [meetR true q p] = 0 ∧ deltaR p q = shortP (meetR true q p) ∧ polErr p = 0 ∧ polErr q = 0 ∧ polErr (meetR true q p) = 0 ∧ polErr (deltaR p q) = 0 := by
  have hr : deltaR p q = shortP (meetR true q p) := by rw [deltaR, if_pos h]
  unfold deltaE at h
  split at h
  · rename_i h1
    split at h
    · cases h
    · rename_i h2
      split at h
      · rename_i h3
        have hn : looserP q p = none := by
          cases hl : looserP q p with
          | none => rfl
          | some y => rw [hl] at h2; simp at h2
        obtain ⟨hq, hp, hm⟩ := meetE_ok h3
        have hm' : polErr (meetR true q p) = 0 := by rw [meetR, if_pos h3]; exact hm
        exact ⟨h1, hn, h3, h, hr, hp, hq, hm', by rw [hr]; exact shortP_ok hm'⟩
      · rename_i h3
        exact absurd h h3
  · rename_i h1
    exact absurd h h1
/-- What a delta says of a call. -/
theorem delta_says {p q : PolT} (h : deltaE p q = 0) {x : Nat → Int} (hx : chkx x = 0) : vP q x ≤ vP p x ∧ vP (deltaR p q) x = if vP q x < vP p x then vP q x else 4 := by
  obtain ⟨h1, h2, h3, h4, h5, hp, hq, hm, hd⟩ := delta_ok h
  refine ⟨looser_none h1 h2 hx, ?_⟩
  have e : meetR true q p = meetP true q p := by rw [meetR, if_pos h3]
  rw [h5, vP_short hm hx, e, vP_meet true hq hp (by rw [← e]; exact hm) hx]
  rfl
theorem vP_le {p : PolT} (hp : polErr p = 0) {x : Nat → Int} (hx : chkx x = 0) : 0 ≤ vP p x ∧ vP p x ≤ 4 := by
  have := runs_pol hp hx
  have hv : vP p x = (runs x 0 0 (polI p)).1 := this.symm
  have hw : ∀ (d : Int) (rs : List RuleT), (0 ≤ d ∧ d ≤ 4) → (∀ r ∈ rs, ruleErr r = 0) → 0 ≤ verd x d rs ∧ verd x d rs ≤ 4 := by
    intro d rs hd hrs
    induction rs with
    | nil => exact hd
    | cons r s ih =>
      unfold verd
      split
      · exact verdictOk_ok (ruleErr_ok (hrs r (by simp))).2.1
      · exact ih fun t ht => hrs t (by simp [ht])
  rw [hv]
  unfold polI
  rw [runs_rules]
  exact hw _ _ (verdictOk_ok (polErr_ok hp).2.1) (rulesErr_all (polErr_ok hp).2.2)

end Go.Proofs.YtbdlojnigflanacGreatDoor
end
section
/- What ChainTight, ChainOrder and ChainDelta ask: plain facts. -/
set_option linter.all false
namespace Go.Proofs.YtbdlojnigflanacGreatDoor

/-- Of any chain: tightened it is no looser, and begins as it was. -/
theorem tight_any {ls : ChT} {p q : PolT} (h : tightE ls p q = 0) {x : Nat → Int} (hx : chkx x = 0) : tightR ls p q = ls ++ [polI (deltaR p q)] ∧ askE ls x = 0 ∧ askE (tightR ls p q) x = 0 ∧ askV (tightR ls p q) x ≤ askV ls x := by
  have hr : tightR ls p q = ls ++ [polI (deltaR p q)] := by rw [tightR, if_pos h]
  unfold tightE at h
  split at h
  · rename_i h1
    split at h
    · rename_i h2
      split at h
      · cases h
      · rename_i h6
        obtain ⟨-, -, -, -, -, hp, hq, -, hd⟩ := delta_ok h2
        have hcd : codeErr (polI (deltaR p q)) = 0 := by
          rw [codeErr_pol hd]
          unfold compE at h
          rw [if_pos hd] at h
          exact h
        have hch : chainErr (ls ++ [polI (deltaR p q)]) = 0 := by
          obtain ⟨hl, hall⟩ := chainErr_ok.1 h1
          refine chainErr_ok.2 ⟨by simp; omega, fun f hf => ?_⟩
          rcases List.mem_append.1 hf with hf | hf
          · exact hall f hf
          · simp at hf
            rw [hf]
            exact hcd
        have ha1 : askE ls x = 0 := by rw [askE, if_pos h1]; exact hx
        have ha2 : askE (ls ++ [polI (deltaR p q)]) x = 0 := by rw [askE, if_pos hch]; exact hx
        rw [hr]
        refine ⟨rfl, ha1, ha2, ?_⟩
        rw [askV, if_pos ha2, askV, if_pos ha1, askF_both]
        omega
    · rename_i h2
      exact absurd h h2
  · rename_i h1
    exact absurd h h1
end Go.Proofs.YtbdlojnigflanacGreatDoor
end
