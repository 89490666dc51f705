/- Joined: Cut1 Cut1b Cut2 HomeR Pts0 PtsR PolsN LooR Ord1 Box5 OAl0. -/
import Derived.Test.YtbdlojnigflanacGreatDoorKb11
import Derived.Test.YtbdlojnigflanacGreatDoorKb03
import Derived.Maps.RangeWalk
import Derived.Lib.AppendZerosOnto
import Derived.Lib.AppendZeros
import Derived.Test.YtbdlojnigflanacGreatDoorShelf
import Derived.Sort.OwnSortedInts
import Derived.Test.YtbdlojnigflanacGreatDoorKb08
import Derived.Test.YtbdlojnigflanacGreatDoorKb07
section
/- What the counterpart's CutsOf says: the map that it fills. -/
set_option linter.all false
set_option maxRecDepth 100000
namespace Go.Proofs.YtbdlojnigflanacGreatDoor
open Go.RowKit Go.Maps

/-- What a map of bools says. -/
def MapB (D : DataW Unit) (g : Int → Bool) : Prop := ∀ n, wf n → D.atKey (.int .i64 n) (.lit (.bool false)) = .lit (.bool (g n))
theorem isKeyI (n : Int) : WideAt.IsKeyLit (.int .i64 n) := by simp [WideAt.IsKeyLit]
theorem MapB.put {D : DataW Unit} {g : Int → Bool} (h : MapB D g) (hm : IsMap D) (a : Int) (b : Bool) : MapB (D.put (.int .i64 a) (.lit (.bool b))) (fun n => if n = a then b else g n) := by
  intro n hn
  by_cases e : n = a
  · subst e
    rw [Maps.atKey_put_same hm (isKeyI n)]
    simp
  · rw [Maps.atKey_put_other (by simpa using e), h n hn]
    simp [e]
theorem MapB.congr {D : DataW Unit} {g g' : Int → Bool} (h : MapB D g) (hg : ∀ n, wf n → g n = g' n) : MapB D g' := fun n hn => by rw [h n hn, hg n hn]
/-- The map behind the conditions done. -/
def CutSt (w wr : World) (M : Nat) (f : Int) (done : List CondT) : Prop := Below w.heap.size w wr ∧ ∃ D, wr.ownsMap Tryz.prog 3 boolR M (2 * done.length + 1) D ∧ MapB D (atB f done)
theorem CutSt.later {w wr wr' : World} {M : Nat} {f : Int} {done : List CondT} (h : CutSt w wr M f done) (hb : Below wr.heap.size wr wr') : CutSt w wr' M f done := by
  obtain ⟨h1, D, h2, h3⟩ := h
  refine ⟨Below.thenOf h1 hb h1.size, D, ?_, h3⟩
  exact h2.kept (row := none) ⟨hb.os, hb.tape, hb.output, hb.size, fun k hk _ => hb.block k hk⟩ (by simp)
theorem polsConds_take (ps : List PolT) (i : Nat) (p : PolT) (h : ps[i]? = some p) : polsConds (ps.take (i + 1)) = polsConds (ps.take i) ++ polConds p := by
  rw [List.take_succ, h]
  simp [polsConds]
theorem rulesConds_take (rs : List RuleT) (i : Nat) (r : RuleT) (h : rs[i]? = some r) : (rs.take (i + 1)).flatMap (·.1) = (rs.take i).flatMap (·.1) ++ r.1 := by
  rw [List.take_succ, h]
  simp
theorem conds_take (cs : List CondT) (i : Nat) (c : CondT) (h : cs[i]? = some c) : cs.take (i + 1) = cs.take i ++ [c] := by
  rw [List.take_succ, h]
  rfl
theorem rulesConds_len : ∀ (rs : List RuleT), (∀ r ∈ rs, ruleErr r = 0) → (rs.flatMap (·.1)).length ≤ rs.length * 10
  | [], _ => by simp
  | r :: s, h => by
    have h1 := (ruleErr_ok (h r (by simp))).1
    have h2 := rulesConds_len s fun d hd => h d (by simp [hd])
    rw [List.flatMap_cons, List.length_append, List.length_cons]
    omega
theorem polsConds_len : ∀ (ps : List PolT), AllOk ps → (polsConds ps).length ≤ ps.length * 1200
  | [], _ => by simp [polsConds]
  | p :: s, h => by
    obtain ⟨h1, _, h3⟩ := polErr_ok (h p (by simp))
    have h2 := polsConds_len s fun d hd => h d (by simp [hd])
    have h4 := rulesConds_len p.1 (rulesErr_all h3)
    unfold polsConds at h2 ⊢
    rw [List.flatMap_cons, List.length_append, List.length_cons]
    unfold polConds at h2 ⊢
    omega

end Go.Proofs.YtbdlojnigflanacGreatDoor
end
section
/- What the counterpart's CutsOf says: what it gathers out of the map. -/
set_option linter.all false
set_option maxRecDepth 100000
namespace Go.Proofs.YtbdlojnigflanacGreatDoor
open Go.RowKit Go.Maps

theorem grown_of_below {w w' : World} (hb : Below w.heap.size w w') (row : Option Nat) : w.grownBy w' row := ⟨hb.os, hb.tape, hb.output, hb.size, fun k hk _ => hb.block k hk⟩
section
variable {P : Program} {k : TypeId} {R : Value → Option (DataW Unit × List MemPlace)} {w w' : World} {b r n : Nat} {D : DataW Unit} {left : Lit → Bool} {cnt : Nat}
end

/-- A literal, appended to a row of one's own. -/
theorem wpList_appG {P : Program} {t e : TypeId} {inf : TypeInfo} {z : Value} {size bytes : Nat} {ops : Array Oper} {rest : List Oper} {o : Oper} {a : Act} {Q : Exit → Act → World → Prop} (w : World) (hgd : o.guard = none) (s x : Operand)
    (hop : o.op = .call { callee := .builtin .append, args := #[s, x], argTypes := #[t, t] })
    (ht : P.underlying t = some (.slice e)) (hi : P.info? e = some inf) (hz : inf.zero = some z) (hsize : inf.size = size) (hby : inf.bytes = bytes) (hzs : z.cells.size = size) (hsz : 0 < size)
    (base : Nat) (v : Value) (n : Nat) (xs : List Value) (hs : a.eval s = v) (g m : Nat) (news : List Value) (hx : a.eval x = .slice (some ⟨g, 0, none⟩) m m)
    (W : World) {T0 : TypeId} (hw : w = W.alloc (.cells news.toArray T0)) (hg : g = W.heap.size) (wo : World) (hb : Below wo.heap.size wo W) (hown : wo.ownsRow base e size v n xs) (hl : news.length = m * size) (h1 : ∀ u ∈ news, u.oneCell' = true) (hm : n + m ≤ maxLen) (hn : (n + m) * bytes ≤ 140737488355328) (hbase : base ≤ wo.heap.size)
    (h : ∀ v' w', Hid (w'.ownsRow base e size v' (n + m) (xs ++ news)) → Below base wo w' → Hid (wo.grownBy w' v.ownBlock) → wpList P ops Q rest (a.put o.dst v') w') : wpList P ops Q (o :: rest) a w := by
  subst hw
  subst hg
  have hbX : Below wo.heap.size wo (W.alloc (.cells news.toArray T0)) := hb.alloc hb.size _
  obtain ⟨v', W', r1, r2, r3, _⟩ := run_append_own (P := P) (W.alloc (.cells news.toArray T0)) base t o.type e inf z size bytes ht hi hz hsize hby hzs hsz v n xs (ownsRow_below hown hbX) ⟨W.heap.size, 0, none⟩ m m news hl (fun j u hj => by rw [add_at, Nat.zero_add]; exact heap_cell (heap_made W _) j (by simpa using hj)) h1 hm hn (Nat.le_trans hbase hbX.size)
  have hG : wo.grownBy W' v.ownBlock := World.grownBy.andThen (grown_of_below hbX v.ownBlock) r3 fun j hj => .inr hj
  exact Lib.wpList_append_run _ hgd s x _ _ hop _ _ hs hx _ _ r1 (h v' W' r2 ((Below.refl _ _).grown hG hbase fun k hk => ownsRow_ge hown k hk) hG)
def leftI (left : Lit → Bool) (n : Int) : Bool := left (.int .i64 n)
/-- Gathered so far. -/
def Gath (D : DataW Unit) (g : Int → Bool) (m : Int) (left : Lit → Bool) (xs : List Int) : Prop := xs.Nodup ∧ ∀ n, n ∈ xs ↔ Maps.has D (.int .i64 n) = true ∧ leftI left n = false ∧ (wf n ∧ g n = true) ∧ n ≤ m
theorem leftI_step (left : Lit → Bool) (x n : Int) : leftI (fun z => left z && !z.sameKey (.int .i64 x)) n = (leftI left n && !decide (n = x)) := by
  unfold leftI
  by_cases h : n = x
  · subst h
    simp [Lit.sameKey]
  · simp [Lit.sameKey, h]
theorem Gath.start {D : DataW Unit} {g : Int → Bool} {m : Int} : Gath D g m (Maps.has D) [] := by
  refine ⟨List.nodup_nil, fun n => ?_⟩
  unfold leftI
  constructor
  · intro h; cases h
  · rintro ⟨h1, h2, _⟩
    rw [h1] at h2
    cases h2
theorem Gath.skip {D : DataW Unit} {g : Int → Bool} {m : Int} {left : Lit → Bool} {xs : List Int} (h : Gath D g m left xs) {x : Int} (hx : ¬ (g x = true ∧ x ≤ m)) : Gath D g m (fun z => left z && !z.sameKey (.int .i64 x)) xs := by
  refine ⟨h.1, fun n => ?_⟩
  rw [h.2 n, leftI_step]
  by_cases e : n = x
  · subst e
    constructor
    · rintro ⟨_, _, ⟨_, h1⟩, h2⟩; exact absurd ⟨h1, h2⟩ hx
    · rintro ⟨_, _, ⟨_, h1⟩, h2⟩; exact absurd ⟨h1, h2⟩ hx
  · simp [e]
theorem Gath.take {D : DataW Unit} {g : Int → Bool} {m : Int} {left : Lit → Bool} {xs : List Int} (h : Gath D g m left xs) {x : Int} (hl : leftI left x = true) (hh : Maps.has D (.int .i64 x) = true) (hw : wf x) (hg : g x = true) (hm : x ≤ m) : Gath D g m (fun z => left z && !z.sameKey (.int .i64 x)) (xs ++ [x]) := by
  have hnot : x ∉ xs := fun hx => by
    have := ((h.2 x).1 hx).2.1
    rw [hl] at this
    cases this
  refine ⟨List.nodup_append.2 ⟨h.1, by simp, fun a ha b hb => ?_⟩, fun n => ?_⟩
  · rw [List.mem_singleton] at hb
    subst hb
    intro e
    subst e
    exact hnot ha
  · rw [List.mem_append, List.mem_singleton, h.2 n, leftI_step]
    by_cases e : n = x
    · subst e
      simp [hh, hw, hg, hm]
    · simp [e]
theorem Gath.done {D : DataW Unit} {f : Int} {ps : List PolT} {left : Lit → Bool} {xs : List Int} (h : Gath D (atB f (polsConds ps)) (most f) left xs) (hM : MapB D (atB f (polsConds ps))) (hok : AllOk ps) (hl : ∀ kl, left kl = false) : ∀ n, n ∈ xs ↔ atB f (polsConds ps) n = true ∧ n ≤ most f := by
  intro n
  rw [h.2 n]
  constructor
  · rintro ⟨_, _, ⟨_, h1⟩, h2⟩; exact ⟨h1, h2⟩
  · rintro ⟨h1, h2⟩
    have hw : wf n := by
      have := cut_range hok (mem_cuts_at.2 ⟨h1, h2⟩)
      have := most_le f
      exact WalkArith.wf_i64 (by omega)
    refine ⟨?_, hl _, ⟨hw, h1⟩, h2⟩
    cases hh : Maps.has D (.int .i64 n) with
    | true => rfl
    | false =>
      have := hM n hw
      rw [Maps.atKey_of_not_has hh, h1] at this
      simp at this
theorem Gath.few {D : DataW Unit} {f : Int} {ps : List PolT} {left : Lit → Bool} {xs : List Int} (h : Gath D (atB f (polsConds ps)) (most f) left xs) (hok : AllOk ps) : xs.length ≤ 65536 := by
  refine nodup_few h.1 fun x hx => ?_
  obtain ⟨_, _, ⟨_, h1⟩, h2⟩ := (h.2 x).1 hx
  have := cut_range hok (mem_cuts_at.2 ⟨h1, h2⟩)
  have := most_le f
  omega
theorem infoInt : ∃ i, Tryz.prog.info? 3 = some i ∧ i.zero = some (.int .i64 0) ∧ i.size = 1 ∧ i.bytes = 8 := infoOf (by kernel_rfl)
def intCells (l : List Int) : List Value := l.map (.int .i64)
end Go.Proofs.YtbdlojnigflanacGreatDoor
end
section
/- What the counterpart's CutsOf says: the walk. -/
set_option linter.all false
set_option maxRecDepth 100000
namespace Go.Proofs.YtbdlojnigflanacGreatDoor
open Go.RowKit Go.Maps Go.Sort

end Go.Proofs.YtbdlojnigflanacGreatDoor
end
section
/- What the counterpart's HomeOf says: the home. -/
set_option linter.all false
set_option maxRecDepth 100000
namespace Go.Proofs.YtbdlojnigflanacGreatDoor
open Go.RowKit Go.Maps

end Go.Proofs.YtbdlojnigflanacGreatDoor
end
section
/- Points by number: plain facts. -/
set_option linter.all false
namespace Go.Proofs.YtbdlojnigflanacGreatDoor

def lenP (ps : List PolT) : Nat → Nat
  | 0 => 1
  | k + 1 => lenP ps k * (cutsP ps k).length
def tailP (ps : List PolT) (k : Nat) : Nat := (prodL ((cuts5 ps).drop k)).length
theorem cuts5_get (ps : List PolT) (k : Nat) (hk : k < 5) : (cuts5 ps)[k]? = some (cutsP ps k) := by
  have : k = 0 ∨ k = 1 ∨ k = 2 ∨ k = 3 ∨ k = 4 := by omega
  rcases this with rfl | rfl | rfl | rfl | rfl <;> rfl
theorem tailP_step (ps : List PolT) (k : Nat) (hk : k < 5) : tailP ps k = (cutsP ps k).length * tailP ps (k + 1) := by
  unfold tailP
  have h := cuts5_get ps k hk
  obtain ⟨hlt, e⟩ := List.getElem?_eq_some_iff.1 h
  rw [List.drop_eq_getElem_cons hlt, e, prodL_length]
theorem tailP_five (ps : List PolT) : tailP ps 5 = 1 := rfl
theorem cut_pos (ps : List PolT) (k : Int) : 0 < (cutsP ps k).length := List.length_pos_iff.2 (cutsP_ne ps k)
theorem tailP_pos (ps : List PolT) : ∀ m k : Nat, k + m = 5 → 0 < tailP ps k
  | 0, k, h => by
    obtain rfl : k = 5 := by omega
    exact Nat.one_pos
  | m + 1, k, h => by
    rw [tailP_step ps k (by omega)]
    exact Nat.mul_pos (cut_pos ps k) (tailP_pos ps m (k + 1) (by omega))
theorem lenP_tail (ps : List PolT) : ∀ k, k ≤ 5 → lenP ps k * tailP ps k = (pointsP ps).length
  | 0, _ => by
    show 1 * tailP ps 0 = _
    rw [Nat.one_mul]
    rfl
  | k + 1, h => by
    rw [← lenP_tail ps k (by omega), tailP_step ps k (by omega), lenP, Nat.mul_assoc]
theorem lenP_le (ps : List PolT) (k : Nat) (hk : k ≤ 5) : lenP ps k ≤ (pointsP ps).length := by
  rw [← lenP_tail ps k hk]
  exact Nat.le_mul_of_pos_right _ (tailP_pos ps (5 - k) k (by omega))
theorem lenP_five (ps : List PolT) : lenP ps 5 = (pointsP ps).length := by
  rw [← lenP_tail ps 5 (by omega), tailP_five, Nat.mul_one]
def callCells (l : List (List Int)) : List Value := l.flatMap fun x => x.map (.int .i64)
theorem callCells_append (l m : List (List Int)) : callCells (l ++ m) = callCells l ++ callCells m := by unfold callCells; exact List.flatMap_append

end Go.Proofs.YtbdlojnigflanacGreatDoor
end
section
/- What the counterpart's PointsOf says: all points, by number. -/
set_option linter.all false
set_option maxRecDepth 100000
namespace Go.Proofs.YtbdlojnigflanacGreatDoor
open Go.RowKit Go.Maps

theorem infoCall : ∃ i, Tryz.prog.info? 26 = some i ∧ i.zero = some (.agg #[.int .i64 0, .int .i64 0, .int .i64 0, .int .i64 0, .int .i64 0]) ∧ i.size = 5 ∧ i.bytes = 40 := infoOf (by kernel_rfl)
end Go.Proofs.YtbdlojnigflanacGreatDoor
end
section
/- Lists of one and of two policies, just written. -/
set_option linter.all false
namespace Go.Proofs.YtbdlojnigflanacGreatDoor
open Go.RowKit Go.Maps

theorem CondsAt.mono {B B' : Nat} {w : World} {v : Value} {cs : List CondT} (h : CondsAt B w v cs) (hB : B ≤ B') : CondsAt B' w v cs := by
  obtain ⟨a, cap, h1, h2, h3, h4⟩ := h
  refine ⟨a, cap, h1, h2, h3, fun i c hc => ?_⟩
  obtain ⟨b, o, e, hl, k⟩ := h4 i c hc
  exact ⟨b, o, e, by omega, k⟩
theorem RulesAt.mono {B B' : Nat} {w : World} {v : Value} {rs : List RuleT} (h : RulesAt B w v rs) (hB : B ≤ B') : RulesAt B' w v rs := by
  obtain ⟨a, cap, h1, h2, h3, h4⟩ := h
  refine ⟨a, cap, h1, h2, h3, fun i c hc => ?_⟩
  obtain ⟨b, o, e, hl, cv, k1, k2, k3, k4⟩ := h4 i c hc
  exact ⟨b, o, e, by omega, cv, k1, k2, k3, k4.mono hB⟩
/-- A list of two policies, just written. -/
theorem pols_two {B : Nat} {w : World} {rv sv : Value} {p q : PolT} (hB : B ≤ w.heap.size) (hp : RulesAt B w rv p.1) (hpd : wf p.2) (hq : RulesAt B w sv q.1) (hqd : wf q.2) (T : TypeId) :
    PolsAt (w.heap.size + 1) (w.alloc (.cells #[rv, .int .i64 p.2, sv, .int .i64 q.2] T)) (.slice (some ⟨w.heap.size, 0, none⟩) 2 2) [p, q] := by
  have hb : Below w.heap.size w (w.alloc (.cells #[rv, .int .i64 p.2, sv, .int .i64 q.2] T)) := (Below.refl _ _).alloc (Nat.le_refl _) _
  have hm := heap_made w (.cells #[rv, .int .i64 p.2, sv, .int .i64 q.2] T)
  refine ⟨some ⟨w.heap.size, 0, none⟩, 2, rfl, Nat.le_refl _, by rw [maxLen_eq]; omega, fun i r hr => ⟨w.heap.size, 0, rfl, by omega, ?_⟩⟩
  match i, hr with
  | 0, hr =>
    simp at hr
    subst hr
    exact ⟨rv, heap_cell hm 0 rfl, heap_cell hm 1 rfl, hpd, (hp.later hb hB).mono (by omega)⟩
  | 1, hr =>
    simp at hr
    subst hr
    exact ⟨sv, heap_cell hm 2 rfl, heap_cell hm 3 rfl, hqd, (hq.later hb hB).mono (by omega)⟩
  | i + 2, hr => simp at hr
theorem pols_one {B : Nat} {w : World} {rv : Value} {p : PolT} (hB : B ≤ w.heap.size) (hp : RulesAt B w rv p.1) (hpd : wf p.2) (T : TypeId) :
    PolsAt (w.heap.size + 1) (w.alloc (.cells #[rv, .int .i64 p.2] T)) (.slice (some ⟨w.heap.size, 0, none⟩) 1 1) [p] := by
  have hb : Below w.heap.size w (w.alloc (.cells #[rv, .int .i64 p.2] T)) := (Below.refl _ _).alloc (Nat.le_refl _) _
  have hm := heap_made w (.cells #[rv, .int .i64 p.2] T)
  refine ⟨some ⟨w.heap.size, 0, none⟩, 1, rfl, Nat.le_refl _, by rw [maxLen_eq]; omega, fun i r hr => ⟨w.heap.size, 0, rfl, by omega, ?_⟩⟩
  match i, hr with
  | 0, hr =>
    simp at hr
    subst hr
    exact ⟨rv, heap_cell hm 0 rfl, heap_cell hm 1 rfl, hpd, (hp.later hb hB).mono (by omega)⟩
  | i + 1, hr => simp at hr

end Go.Proofs.YtbdlojnigflanacGreatDoor
end
section
/- What the counterpart's FirstLooser says: the first point at which the first policy says more. -/
set_option linter.all false
set_option maxRecDepth 100000
namespace Go.Proofs.YtbdlojnigflanacGreatDoor
open Go.RowKit Go.Maps

theorem point_five {l : List PolT} {x : List Int} (h : x ∈ pointsL l) : ∃ a b c d e, x = [a, b, c, d, e] := by
  unfold pointsL at h
  split at h
  · have h' := (mem_prodL _ _).1 h
    unfold cuts5 at h'
    match x, h' with
    | [a, b, c, d, e], _ => exact ⟨a, b, c, d, e, rfl⟩
  · cases h
def looserC (p q : PolT) : Nat → Int := match looserP p q with
  | some x => ofL x
  | none => fun _ => 0
theorem find_take {α : Type} (f : α → Bool) (l : List α) (i : Nat) (h : ∀ x ∈ l.take i, f x = false) (x : α) (hx : l[i]? = some x) (hf : f x = true) : l.find? f = some x := by
  have e : l = l.take i ++ x :: l.drop (i + 1) := by
    obtain ⟨hi, rfl⟩ := List.getElem?_eq_some_iff.1 hx
    rw [← List.drop_eq_getElem_cons hi, List.take_append_drop]
  rw [e, List.find?_append, List.find?_eq_none.2 (fun y hy => by simp [h y hy])]
  simp [hf]

end Go.Proofs.YtbdlojnigflanacGreatDoor
end
section
/- What package order answers: plain facts. -/
set_option linter.all false
namespace Go.Proofs.YtbdlojnigflanacGreatDoor

theorem looser_err {p q : PolT} (h : pointsE [p, q] ≠ 0) : looserP p q = none := by
  unfold looserP pointsL
  rw [if_neg h]
  rfl
end Go.Proofs.YtbdlojnigflanacGreatDoor
end
section
/- A call in five cells, stored anew. -/
set_option linter.all false
namespace Go.Proofs.YtbdlojnigflanacGreatDoor
open Go.RowKit Go.Maps

theorem callBox {w : World} {b : Nat} {x y : Nat → Int} {T : TypeId} (h : w.heap[b]? = some (.cells (cellsX x) T (0, 0))) :
    (((((w.setCell ⟨b, 0, none⟩ (.int .i64 (y 0))).setCell ⟨b, 1, none⟩ (.int .i64 (y 1))).setCell ⟨b, 2, none⟩ (.int .i64 (y 2))).setCell ⟨b, 3, none⟩ (.int .i64 (y 3))).setCell ⟨b, 4, none⟩ (.int .i64 (y 4))).heap[b]? = some (.cells (cellsX y) T (0, 0)) :=
  row_setCell (o := 4) (u := .int .i64 (y 4)) (row_setCell (o := 3) (u := .int .i64 (y 3)) (row_setCell (o := 2) (u := .int .i64 (y 2)) (row_setCell (o := 1) (u := .int .i64 (y 1)) (row_setCell (o := 0) (u := .int .i64 (y 0)) h))))
theorem callBox_below {B : Nat} {w0 w : World} {b : Nat} {y : Nat → Int} (h : Below B w0 w) (hb : B ≤ b) : Below B w0 (((((w.setCell ⟨b, 0, none⟩ (.int .i64 (y 0))).setCell ⟨b, 1, none⟩ (.int .i64 (y 1))).setCell ⟨b, 2, none⟩ (.int .i64 (y 2))).setCell ⟨b, 3, none⟩ (.int .i64 (y 3))).setCell ⟨b, 4, none⟩ (.int .i64 (y 4))) :=
  ((((h.setCell (p := ⟨b, 0, none⟩) hb _).setCell (p := ⟨b, 1, none⟩) hb _).setCell (p := ⟨b, 2, none⟩) hb _).setCell (p := ⟨b, 3, none⟩) hb _).setCell (p := ⟨b, 4, none⟩) hb _
end Go.Proofs.YtbdlojnigflanacGreatDoor
end
section
/- What OrderAll asks of two policies at a call: plain facts. -/
set_option linter.all false
set_option maxRecDepth 100000
namespace Go.Proofs.YtbdlojnigflanacGreatDoor
open Go.RowKit Go.Maps

theorem judge_zero {ps : List PolT} (hok : AllOk ps) {p : PolT} (hp : p ∈ ps) {x : Nat → Int} (hx : chkx x = 0) : judgeP p x = (vP p x, (judgeP p x).2.1, 0) := by
  have : (judgeP p x).2.2 = 0 := by rw [judgeP_ok (hok p hp) hx]
  rw [← this]
  rfl
end Go.Proofs.YtbdlojnigflanacGreatDoor
end
