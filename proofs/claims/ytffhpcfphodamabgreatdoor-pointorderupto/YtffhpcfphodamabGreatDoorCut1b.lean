/- What the counterpart's CutsOf says: what it gathers out of the map. -/
import Derived.Test.YtffhpcfphodamabGreatDoorCut1
import Derived.Lib.AppendZerosOnto
import Derived.Lib.AppendZeros
set_option linter.all false
set_option maxRecDepth 100000
namespace Go.Proofs.YtffhpcfphodamabGreatDoor
open Go.RowKit Go.Maps

theorem own_ne_map {w : World} {base size n b : Nat} {e : TypeId} {v : Value} {xs : List Value} (h : w.ownsRow base e size v n xs) {es : Array MapEntry} {clock : Nat} (hb : w.heap[b]? = some (.map es clock)) : some b ≠ v.ownBlock := by
  intro hk
  obtain ⟨cur, hc⟩ := ownsRow_tag h b hk.symm
  rw [hb] at hc
  cases hc
theorem own_ne_iter {w : World} {base size n b : Nat} {e : TypeId} {v : Value} {xs : List Value} (h : w.ownsRow base e size v n xs) {m : Option Nat} {since : Nat} {seen : Array Nat} {c0 : Nat} (hb : w.heap[b]? = some (.mapIter m since seen c0)) : some b ≠ v.ownBlock := by
  intro hk
  obtain ⟨cur, hc⟩ := ownsRow_tag h b hk.symm
  rw [hb] at hc
  cases hc
theorem grown_of_below {w w' : World} (hb : Below w.heap.size w w') (row : Option Nat) : w.grownBy w' row := ⟨hb.os, hb.tape, hb.output, hb.size, fun k hk _ => hb.block k hk⟩
section
variable {P : Program} {k : TypeId} {R : Value → Option (DataW Unit × List MemPlace)} {w w' : World} {b r n : Nat} {D : DataW Unit} {left : Lit → Bool} {cnt : Nat}
theorem ranges_below (h : w.ranges P k R b r n D left cnt) (hb : Below w.heap.size w w') : w'.ranges P k R b r n D left cnt := h.kept (grown_of_below hb none) (by simp) (by simp)
theorem ranges_own (h : w.ranges P k R b r n D left cnt) {base size m : Nat} {e : TypeId} {v : Value} {xs : List Value} (ho : w.ownsRow base e size v m xs) (hg : w.grownBy w' v.ownBlock) : w'.ranges P k R b r n D left cnt := by
  have h' := h
  obtain ⟨es, clock, since, seen, c0, hb, _, _, _, hr, _⟩ := h'
  exact h.kept hg (own_ne_map ho hb) (own_ne_iter ho hr)
theorem own_next (h : w.ranges P k R b r n D left cnt) {base size m : Nat} {e : TypeId} {v : Value} {xs : List Value} (ho : w.ownsRow base e size v m xs) (hg : w.grownBy w' (some r)) : w'.ownsRow base e size v m xs := by
  obtain ⟨es, clock, since, seen, c0, hb, _, _, _, hr, _⟩ := h
  exact ho.kept hg (.inr fun h => own_ne_iter ho hr h.symm)
end

/-- A literal, appended to a row of one's own. -/
theorem wpList_appG {P : Program} {t e : TypeId} {inf : TypeInfo} {z : Value} {size bytes : Nat} {ops : Array Oper} {rest : List Oper} {o : Oper} {a : Act} {Q : Exit → Act → World → Prop} (w : World) (hgd : o.guard = none) (s x : Operand)
    (hop : o.op = .call { callee := .builtin .append, args := #[s, x], argTypes := #[t, t] })
    (ht : P.underlying t = some (.slice e)) (hi : P.info? e = some inf) (hz : inf.zero = some z) (hsize : inf.size = size) (hby : inf.bytes = bytes) (hzs : z.cells.size = size) (hsz : 0 < size)
    (base : Nat) (v : Value) (n : Nat) (xs : List Value) (hs : a.eval s = v) (g m : Nat) (news : List Value) (hx : a.eval x = .slice (some ⟨g, 0, none⟩) m m)
    (W : World) {T0 : TypeId} (hw : w = W.alloc (.cells news.toArray T0)) (hg : g = W.heap.size) (wo : World) (hb : Below wo.heap.size wo W) (hown : wo.ownsRow base e size v n xs) (hl : news.length = m * size) (h1 : ∀ u ∈ news, u.oneCell' = true) (hm : n + m ≤ maxLen) (hn : (n + m) * bytes ≤ 140737488355328) (hbase : base ≤ wo.heap.size)
    (h : ∀ v' w', Hid (w'.ownsRow base e size v' (n + m) (xs ++ news)) → Below base wo w' → Hid (wo.grownBy w' v.ownBlock) → wpList P ops Q rest (a.put o.dst v') w') : wpList P ops Q (o :: rest) a w := by
  subst hw
  subst hg
  have hbX : Below wo.heap.size wo (W.alloc (.cells news.toArray T0)) := hb.alloc hb.size _
  obtain ⟨v', W', r1, r2, r3, _⟩ := run_append_own (P := P) (W.alloc (.cells news.toArray T0)) base t o.type e inf z size bytes ht hi hz hsize hby hzs hsz v n xs (ownsRow_below hown hbX) ⟨W.heap.size, 0, none⟩ m m news hl (fun j u hj => by rw [add_at, Nat.zero_add]; exact heap_cell (heap_made W _) j (by simpa using hj)) h1 hm hn (Nat.le_trans hbase hbX.size)
  have hG : wo.grownBy W' v.ownBlock := World.grownBy.andThen (grown_of_below hbX v.ownBlock) r3 fun j hj => .inr hj
  exact Lib.wpList_append_run _ hgd s x _ _ hop _ _ hs hx _ _ r1 (h v' W' r2 ((Below.refl _ _).grown hG hbase fun k hk => ownsRow_ge hown k hk) hG)
/-- A round of a range over a map of bools. -/
theorem wpList_next_b {P : Program} (w : World) {ops : Array Oper} {rest : List Oper} {o : Oper} {a : Act} {Q : Exit → Act → World → Prop} (hg : o.guard = none) (it : Operand) (hop : o.op = Op.next it false) (k : TypeId) (K : Maps.Keyed P k) (hk : P.underlying k = some (.int .i64))
    (b r n : Nat) (D : DataW Unit) (left : Lit → Bool) (cnt : Nat) (hit : a.eval it = .pointer (some ⟨r, 0, none⟩)) (h : w.ranges P k boolR b r n D left cnt)
    (hDone : cnt = 0 → Hid (∀ kl, left kl = false) → wpList P ops Q rest (a.put o.dst (.tuple #[.bool false])) w)
    (hMore : ∀ (x : Int) (c : Bool) (w' : World) (cnt' : Nat), Hid (wf x ∧ left (.int .i64 x) = true ∧ Maps.has D (.int .i64 x) = true ∧ (∀ zd, D.atKey (.int .i64 x) zd = .lit (.bool c)) ∧ w'.ranges P k boolR b r n D (fun z => left z && !z.sameKey (.int .i64 x)) cnt' ∧ w.grownBy w' (some r)) → cnt' < cnt → w'.heap.size = w.heap.size →
      (Instr.entry (.pointer (some ⟨r, 0, none⟩))).run P w' = .ok (.tuple #[.int .i64 x, .bool c]) w' → wpList P ops Q rest (a.put o.dst (.tuple #[.bool true, .int .i64 x, .bool c])) w') :
    wpList P ops Q (o :: rest) a w := by
  refine wpList_next_ranges w hg it hop k K boolR (Value.int .i64) Value.bool (fun key kl hkey => by obtain ⟨x, rfl, _⟩ := Maps.keyOf_int_inv hk hkey; exact ⟨x, rfl⟩) (fun v y hv => by obtain ⟨c, rfl, _⟩ := boolR_inv hv; exact ⟨c, rfl⟩) b r n D left cnt hit h (fun h0 hl => hDone h0 hl) fun x c kl y w' cnt' hkey hlk hv hat hrg hlt hgr hsz hen => ?_
  obtain ⟨x', ex, ekl, hw⟩ := Maps.keyOf_int_inv hk hkey
  cases ex
  subst ekl
  obtain ⟨c', ec, ey⟩ := boolR_inv hv
  cases ec
  subst ey
  exact hMore x c w' cnt' ⟨hw, hlk, Maps.has_true_of_atKey hat, hat, hrg, hgr⟩ hlt hsz hen

def leftI (left : Lit → Bool) (n : Int) : Bool := left (.int .i64 n)
/-- Gathered so far. -/
def Gath (D : DataW Unit) (g : Int → Bool) (m : Int) (left : Lit → Bool) (xs : List Int) : Prop := xs.Nodup ∧ ∀ n, n ∈ xs ↔ Maps.has D (.int .i64 n) = true ∧ leftI left n = false ∧ (wf n ∧ g n = true) ∧ n ≤ m
theorem leftI_step (left : Lit → Bool) (x n : Int) : leftI (fun z => left z && !z.sameKey (.int .i64 x)) n = (leftI left n && !decide (n = x)) := by
  unfold leftI
  by_cases h : n = x
  · subst h
    simp [Lit.sameKey]
  · simp [Lit.sameKey, h]
theorem Gath.start {D : DataW Unit} {g : Int → Bool} {m : Int} : Gath D g m (Maps.has D) [] := by
  refine ⟨List.nodup_nil, fun n => ?_⟩
  unfold leftI
  constructor
  · intro h; cases h
  · rintro ⟨h1, h2, _⟩
    rw [h1] at h2
    cases h2
theorem Gath.skip {D : DataW Unit} {g : Int → Bool} {m : Int} {left : Lit → Bool} {xs : List Int} (h : Gath D g m left xs) {x : Int} (hx : ¬ (g x = true ∧ x ≤ m)) : Gath D g m (fun z => left z && !z.sameKey (.int .i64 x)) xs := by
  refine ⟨h.1, fun n => ?_⟩
  rw [h.2 n, leftI_step]
  by_cases e : n = x
  · subst e
    constructor
    · rintro ⟨_, _, ⟨_, h1⟩, h2⟩; exact absurd ⟨h1, h2⟩ hx
    · rintro ⟨_, _, ⟨_, h1⟩, h2⟩; exact absurd ⟨h1, h2⟩ hx
  · simp [e]
theorem Gath.take {D : DataW Unit} {g : Int → Bool} {m : Int} {left : Lit → Bool} {xs : List Int} (h : Gath D g m left xs) {x : Int} (hl : leftI left x = true) (hh : Maps.has D (.int .i64 x) = true) (hw : wf x) (hg : g x = true) (hm : x ≤ m) : Gath D g m (fun z => left z && !z.sameKey (.int .i64 x)) (xs ++ [x]) := by
  have hnot : x ∉ xs := fun hx => by
    have := ((h.2 x).1 hx).2.1
    rw [hl] at this
    cases this
  refine ⟨List.nodup_append.2 ⟨h.1, by simp, fun a ha b hb => ?_⟩, fun n => ?_⟩
  · rw [List.mem_singleton] at hb
    subst hb
    intro e
    subst e
    exact hnot ha
  · rw [List.mem_append, List.mem_singleton, h.2 n, leftI_step]
    by_cases e : n = x
    · subst e
      simp [hh, hw, hg, hm]
    · simp [e]
theorem Gath.done {D : DataW Unit} {f : Int} {ps : List PolT} {left : Lit → Bool} {xs : List Int} (h : Gath D (atB f (polsConds ps)) (most f) left xs) (hM : MapB D (atB f (polsConds ps))) (hok : AllOk ps) (hl : ∀ kl, left kl = false) : ∀ n, n ∈ xs ↔ atB f (polsConds ps) n = true ∧ n ≤ most f := by
  intro n
  rw [h.2 n]
  constructor
  · rintro ⟨_, _, ⟨_, h1⟩, h2⟩; exact ⟨h1, h2⟩
  · rintro ⟨h1, h2⟩
    have hw : wf n := by
      have := cut_range hok (mem_cuts_at.2 ⟨h1, h2⟩)
      have := most_le f
      exact WalkArith.wf_i64 (by omega)
    refine ⟨?_, hl _, ⟨hw, h1⟩, h2⟩
    cases hh : Maps.has D (.int .i64 n) with
    | true => rfl
    | false =>
      have := hM n hw
      rw [Maps.atKey_of_not_has hh, h1] at this
      simp at this
theorem Gath.few {D : DataW Unit} {f : Int} {ps : List PolT} {left : Lit → Bool} {xs : List Int} (h : Gath D (atB f (polsConds ps)) (most f) left xs) (hok : AllOk ps) : xs.length ≤ 65536 := by
  refine nodup_few h.1 fun x hx => ?_
  obtain ⟨_, _, ⟨_, h1⟩, h2⟩ := (h.2 x).1 hx
  have := cut_range hok (mem_cuts_at.2 ⟨h1, h2⟩)
  have := most_le f
  omega
theorem infoInt : ∃ i, Tryz.prog.info? 3 = some i ∧ i.zero = some (.int .i64 0) ∧ i.size = 1 ∧ i.bytes = 8 := infoOf (by kernel_rfl)
def intCells (l : List Int) : List Value := l.map (.int .i64)
theorem intCells_one (l : List Int) : ∀ u ∈ intCells l, u.oneCell' = true := by
  intro u hu
  obtain ⟨x, _, rfl⟩ := List.mem_map.1 hu
  rfl

end Go.Proofs.YtffhpcfphodamabGreatDoor
