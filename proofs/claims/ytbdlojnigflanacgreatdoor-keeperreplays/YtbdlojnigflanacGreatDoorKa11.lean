/- Joined: Pnt1 Cut1 Cut1b. -/
import Derived.Test.YtbdlojnigflanacGreatDoorKa10
import Derived.Test.YtbdlojnigflanacGreatDoorKa03
import Derived.Maps.RangeWalk
import Derived.Lib.AppendZerosOnto
import Derived.Lib.AppendZeros
section
/- Cuts as the counterpart gathers them: plain facts. -/
set_option linter.all false
namespace Go.Proofs.YtbdlojnigflanacGreatDoor

/-- What stands in the map behind the conditions cs. -/
def atB (f : Int) (cs : List CondT) (n : Int) : Bool := decide (n = 0) || cs.any fun c => decide (c.1 = f) && (decide (c.2.2 = n) || decide (c.2.2 + 1 = n) && (decide (c.2.1 = 1) || decide (c.2.1 = 2)))
theorem atB_iff {f : Int} {cs : List CondT} {n : Int} : atB f cs n = true ↔ n = 0 ∨ ∃ c ∈ cs, c.1 = f ∧ (c.2.2 = n ∨ c.2.2 + 1 = n ∧ (c.2.1 = 1 ∨ c.2.1 = 2)) := by
  unfold atB
  simp only [Bool.or_eq_true, decide_eq_true_eq, List.any_eq_true, Bool.and_eq_true]
theorem mem_cuts_at {l : List PolT} {f n : Int} : n ∈ cutsP l f ↔ atB f (polsConds l) n = true ∧ n ≤ most f := by
  rw [mem_cutsP, atB_iff]
theorem atB_other {f : Int} {cs : List CondT} {c : CondT} (h : c.1 ≠ f) (n : Int) : atB f (cs ++ [c]) n = atB f cs n := by
  unfold atB
  rw [List.any_append]
  simp [h]
theorem atB_same {f : Int} {cs : List CondT} {c : CondT} (h : c.1 = f) (n : Int) : atB f (cs ++ [c]) n = (atB f cs n || decide (c.2.2 = n) || decide (c.2.2 + 1 = n) && (decide (c.2.1 = 1) || decide (c.2.1 = 2))) := by
  unfold atB
  rw [List.any_append]
  simp only [List.any_cons, List.any_nil, h, decide_true, Bool.true_and, Bool.or_false, Bool.or_assoc]

theorem insS_length (n : Int) : ∀ l : List Int, n ∉ l → (insS n l).length = l.length + 1
  | [], _ => rfl
  | m :: r, h => by
    have h1 : n ≠ m := fun e => h (by simp [e])
    have h2 : n ∉ r := fun e => h (by simp [e])
    unfold insS
    split
    · rfl
    · rw [List.length_cons, insS_length n r h2, List.length_cons]
theorem sortS_length : ∀ l : List Int, l.Nodup → (sortS l).length = l.length
  | [], _ => rfl
  | n :: l, h => by
    have h' := List.nodup_cons.1 h
    show (insS n (sortS l)).length = _
    rw [insS_length n _ (fun e => h'.1 ((mem_sortS n l).1 e)), sortS_length l h'.2, List.length_cons]
def upTo (N : Nat) : List Int := (List.range N).map fun i : Nat => (i : Int)
theorem upTo_rising (N : Nat) : Rising (upTo N) := by
  unfold upTo Rising
  rw [List.pairwise_map]
  exact List.pairwise_lt_range.imp fun h => by omega
theorem mem_upTo {N : Nat} {x : Int} (h0 : 0 ≤ x) (h1 : x < N) : x ∈ upTo N := List.mem_map.2 ⟨x.toNat, List.mem_range.2 (by omega), by omega⟩
/-- Unlike numbers below N are N at most. -/
theorem nodup_few {l : List Int} (h : l.Nodup) {N : Nat} (hr : ∀ x ∈ l, 0 ≤ x ∧ x < N) : l.length ≤ N := by
  have := rising_sub (sortS l) (upTo N) (sortS_rising l) (upTo_rising N) fun x hx => mem_upTo (hr x ((mem_sortS x l).1 hx)).1 (hr x ((mem_sortS x l).1 hx)).2
  rw [sortS_length l h] at this
  simpa [upTo] using this
theorem rising_few {l : List Int} (h : Rising l) {N : Nat} (hr : ∀ x ∈ l, 0 ≤ x ∧ x < N) : l.length ≤ N := by
  have := rising_sub l (upTo N) h (upTo_rising N) fun x hx => mem_upTo (hr x hx).1 (hr x hx).2
  simpa [upTo] using this
theorem sort_rising (xs : List Int) (h : xs.Nodup) : Rising (xs.mergeSort fun x y => decide (x ≤ y)) := by
  have h1 : (xs.mergeSort fun x y => decide (x ≤ y)).Pairwise fun a b => decide (a ≤ b) = true := List.pairwise_mergeSort (fun a b c => by simp only [decide_eq_true_eq]; omega) (fun a b => by simp only [Bool.or_eq_true, decide_eq_true_eq]; omega) xs
  have h2 : (xs.mergeSort fun x y => decide (x ≤ y)).Nodup := (List.mergeSort_perm xs _).nodup_iff.2 h
  exact (h1.and h2).imp fun ⟨a, b⟩ => by
    rw [decide_eq_true_eq] at a
    omega
/-- What was gathered, sorted, are the cuts. -/
theorem gathered {l : List PolT} {f : Int} {xs : List Int} (h : xs.Nodup) (hm : ∀ n, n ∈ xs ↔ atB f (polsConds l) n = true ∧ n ≤ most f) : (xs.mergeSort fun x y => decide (x ≤ y)) = cutsP l f :=
  rising_ext _ _ (sort_rising xs h) (cutsP_rising l f) fun x => by rw [List.mem_mergeSort, hm, mem_cuts_at]
theorem cuts_few {l : List PolT} (h : AllOk l) (f : Int) : (cutsP l f).length ≤ 65536 := rising_few (cutsP_rising l f) fun x hx => by
  have h1 := cut_range h hx
  have h2 : most f ≤ 65535 := by
    unfold most
    split
    · omega
    · split <;> omega
  omega

/-! The place of a point, by dividing. -/
def digit (L : List Int) (i : Nat) : Int := L.getD (i % L.length) 0
theorem prodL_digits : ∀ (Ls : List (List Int)) (i : Nat), (∀ L ∈ Ls, L ≠ []) → i < (prodL Ls).length → ∃ x, (prodL Ls)[i]? = some x ∧ x.length = Ls.length ∧ ∀ k L, Ls[k]? = some L → x[k]? = some (digit L (i / (prodL (Ls.drop (k + 1))).length))
  | [], i, _, h => by
    have : i = 0 := by have : (prodL []).length = 1 := rfl; omega
    subst this
    exact ⟨[], rfl, rfl, fun k L h => by simp at h⟩
  | L :: Ls, i, hne, h => by
    rw [prodL_length] at h
    have hL : 0 < L.length := List.length_pos_iff.2 (hne L (by simp))
    have hp : 0 < (prodL Ls).length := by
      rcases Nat.eq_zero_or_pos (prodL Ls).length with e | e
      · rw [e, Nat.mul_zero] at h; omega
      · exact e
    obtain ⟨x, h1, h2, h3⟩ := prodL_digits Ls (i % (prodL Ls).length) (fun M hM => hne M (by simp [hM])) (Nat.mod_lt _ hp)
    have hd : i / (prodL Ls).length < L.length := by
      rw [Nat.div_lt_iff_lt_mul hp]
      exact h
    obtain ⟨a, ha⟩ : ∃ a, L[i / (prodL Ls).length]? = some a := ⟨L[i / (prodL Ls).length], by simp [hd]⟩
    refine ⟨a :: x, prodL_get L Ls i a x ha h1, by simp [h2], fun k M hM => ?_⟩
    cases k with
    | zero =>
      simp at hM
      subst hM
      simp only [List.getElem?_cons_zero, List.drop_succ_cons, List.drop_zero, digit, Nat.mod_eq_of_lt hd]
      rw [List.getD_eq_getElem?_getD, ha]
      rfl
    | succ k =>
      have hM' : Ls[k]? = some M := by simpa using hM
      rw [List.getElem?_cons_succ, h3 k M hM', List.drop_succ_cons]
      congr 1
      -- the digits of the rest hang on the rest alone
      have hdvd : (prodL (Ls.drop (k + 1))).length * M.length ∣ (prodL Ls).length := by
        have e : Ls.drop k = M :: Ls.drop (k + 1) := by
          obtain ⟨hk, rfl⟩ := List.getElem?_eq_some_iff.1 hM'
          exact List.drop_eq_getElem_cons hk
        have h4 : (prodL (Ls.drop k)).length = M.length * (prodL (Ls.drop (k + 1))).length := by rw [e, prodL_length]
        have h5 : ∀ (n : Nat) (As : List (List Int)), (prodL (As.drop n)).length ∣ (prodL As).length := by
          intro n
          induction n with
          | zero => intro As; simp
          | succ n ih =>
            intro As
            cases As with
            | nil => simp
            | cons A As =>
              rw [List.drop_succ_cons, prodL_length]
              exact Nat.dvd_trans (ih As) (Nat.dvd_mul_left _ _)
        have := h5 k Ls
        rw [h4, Nat.mul_comm] at this
        exact this
      unfold digit
      congr 1
      obtain ⟨q, hq⟩ := hdvd
      rw [hq, Nat.mul_assoc, Nat.mod_mul_right_div_self, Nat.mod_mul_right_mod]

end Go.Proofs.YtbdlojnigflanacGreatDoor
end
section
/- What the counterpart's CutsOf says: the map that it fills. -/
set_option linter.all false
set_option maxRecDepth 100000
namespace Go.Proofs.YtbdlojnigflanacGreatDoor
open Go.RowKit Go.Maps

/-- What a map of bools says. -/
def MapB (D : DataW Unit) (g : Int → Bool) : Prop := ∀ n, wf n → D.atKey (.int .i64 n) (.lit (.bool false)) = .lit (.bool (g n))
theorem isKeyI (n : Int) : WideAt.IsKeyLit (.int .i64 n) := by simp [WideAt.IsKeyLit]
theorem MapB.put {D : DataW Unit} {g : Int → Bool} (h : MapB D g) (hm : IsMap D) (a : Int) (b : Bool) : MapB (D.put (.int .i64 a) (.lit (.bool b))) (fun n => if n = a then b else g n) := by
  intro n hn
  by_cases e : n = a
  · subst e
    rw [Maps.atKey_put_same hm (isKeyI n)]
    simp
  · rw [Maps.atKey_put_other (by simpa using e), h n hn]
    simp [e]
theorem MapB.congr {D : DataW Unit} {g g' : Int → Bool} (h : MapB D g) (hg : ∀ n, wf n → g n = g' n) : MapB D g' := fun n hn => by rw [h n hn, hg n hn]
/-- The map behind the conditions done. -/
def CutSt (w wr : World) (M : Nat) (f : Int) (done : List CondT) : Prop := Below w.heap.size w wr ∧ ∃ D, wr.ownsMap Tryz.prog 3 boolR M (2 * done.length + 1) D ∧ MapB D (atB f done)
theorem CutSt.later {w wr wr' : World} {M : Nat} {f : Int} {done : List CondT} (h : CutSt w wr M f done) (hb : Below wr.heap.size wr wr') : CutSt w wr' M f done := by
  obtain ⟨h1, D, h2, h3⟩ := h
  refine ⟨Below.thenOf h1 hb h1.size, D, ?_, h3⟩
  exact h2.kept (row := none) ⟨hb.os, hb.tape, hb.output, hb.size, fun k hk _ => hb.block k hk⟩ (by simp)
theorem step_at {f : Int} {done : List CondT} {c : CondT} (hf : c.1 = f) (n : Int) : (if n = c.2.2 + 1 then ((if c.2.2 + 1 = c.2.2 then true else atB f done (c.2.2 + 1)) || (decide (c.2.1 = 1) || decide (c.2.1 = 2))) else if n = c.2.2 then true else atB f done n) = atB f (done ++ [c]) n := by
  rw [atB_same hf]
  by_cases h1 : n = c.2.2 + 1
  · have h2 : ¬ c.2.2 + 1 = c.2.2 := by omega
    have h3 : ¬ c.2.2 = n := by omega
    rw [if_pos h1, if_neg h2, ← h1]
    simp [h3]
  · have h1' : ¬ c.2.2 + 1 = n := fun e => h1 e.symm
    rw [if_neg h1]
    by_cases h2 : n = c.2.2
    · simp [h2]
    · have h2' : ¬ c.2.2 = n := fun e => h2 e.symm
      rw [if_neg h2]
      simp [h1', h2']
theorem polsConds_take (ps : List PolT) (i : Nat) (p : PolT) (h : ps[i]? = some p) : polsConds (ps.take (i + 1)) = polsConds (ps.take i) ++ polConds p := by
  rw [List.take_succ, h]
  simp [polsConds]
theorem rulesConds_take (rs : List RuleT) (i : Nat) (r : RuleT) (h : rs[i]? = some r) : (rs.take (i + 1)).flatMap (·.1) = (rs.take i).flatMap (·.1) ++ r.1 := by
  rw [List.take_succ, h]
  simp
theorem conds_take (cs : List CondT) (i : Nat) (c : CondT) (h : cs[i]? = some c) : cs.take (i + 1) = cs.take i ++ [c] := by
  rw [List.take_succ, h]
  rfl
theorem rulesConds_len : ∀ (rs : List RuleT), (∀ r ∈ rs, ruleErr r = 0) → (rs.flatMap (·.1)).length ≤ rs.length * 10
  | [], _ => by simp
  | r :: s, h => by
    have h1 := (ruleErr_ok (h r (by simp))).1
    have h2 := rulesConds_len s fun d hd => h d (by simp [hd])
    rw [List.flatMap_cons, List.length_append, List.length_cons]
    omega
theorem polsConds_len : ∀ (ps : List PolT), AllOk ps → (polsConds ps).length ≤ ps.length * 1200
  | [], _ => by simp [polsConds]
  | p :: s, h => by
    obtain ⟨h1, _, h3⟩ := polErr_ok (h p (by simp))
    have h2 := polsConds_len s fun d hd => h d (by simp [hd])
    have h4 := rulesConds_len p.1 (rulesErr_all h3)
    unfold polsConds at h2 ⊢
    rw [List.flatMap_cons, List.length_append, List.length_cons]
    unfold polConds at h2 ⊢
    omega

end Go.Proofs.YtbdlojnigflanacGreatDoor
end
section
/- What the counterpart's CutsOf says: what it gathers out of the map. -/
set_option linter.all false
set_option maxRecDepth 100000
namespace Go.Proofs.YtbdlojnigflanacGreatDoor
open Go.RowKit Go.Maps

theorem own_ne_map {w : World} {base size n b : Nat} {e : TypeId} {v : Value} {xs : List Value} (h : w.ownsRow base e size v n xs) {es : Array MapEntry} {clock : Nat} (hb : w.heap[b]? = some (.map es clock)) : some b ≠ v.ownBlock := by
  intro hk
  obtain ⟨cur, hc⟩ := ownsRow_tag h b hk.symm
  rw [hb] at hc
  cases hc
theorem own_ne_iter {w : World} {base size n b : Nat} {e : TypeId} {v : Value} {xs : List Value} (h : w.ownsRow base e size v n xs) {m : Option Nat} {since : Nat} {seen : Array Nat} {c0 : Nat} (hb : w.heap[b]? = some (.mapIter m since seen c0)) : some b ≠ v.ownBlock := by
  intro hk
  obtain ⟨cur, hc⟩ := ownsRow_tag h b hk.symm
  rw [hb] at hc
  cases hc
theorem grown_of_below {w w' : World} (hb : Below w.heap.size w w') (row : Option Nat) : w.grownBy w' row := ⟨hb.os, hb.tape, hb.output, hb.size, fun k hk _ => hb.block k hk⟩
section
variable {P : Program} {k : TypeId} {R : Value → Option (DataW Unit × List MemPlace)} {w w' : World} {b r n : Nat} {D : DataW Unit} {left : Lit → Bool} {cnt : Nat}
theorem ranges_below (h : w.ranges P k R b r n D left cnt) (hb : Below w.heap.size w w') : w'.ranges P k R b r n D left cnt := h.kept (grown_of_below hb none) (by simp) (by simp)
theorem ranges_own (h : w.ranges P k R b r n D left cnt) {base size m : Nat} {e : TypeId} {v : Value} {xs : List Value} (ho : w.ownsRow base e size v m xs) (hg : w.grownBy w' v.ownBlock) : w'.ranges P k R b r n D left cnt := by
  have h' := h
  obtain ⟨es, clock, since, seen, c0, hb, _, _, _, hr, _⟩ := h'
  exact h.kept hg (own_ne_map ho hb) (own_ne_iter ho hr)
theorem own_next (h : w.ranges P k R b r n D left cnt) {base size m : Nat} {e : TypeId} {v : Value} {xs : List Value} (ho : w.ownsRow base e size v m xs) (hg : w.grownBy w' (some r)) : w'.ownsRow base e size v m xs := by
  obtain ⟨es, clock, since, seen, c0, hb, _, _, _, hr, _⟩ := h
  exact ho.kept hg (.inr fun h => own_ne_iter ho hr h.symm)
end

/-- A literal, appended to a row of one's own. -/
theorem wpList_appG {P : Program} {t e : TypeId} {inf : TypeInfo} {z : Value} {size bytes : Nat} {ops : Array Oper} {rest : List Oper} {o : Oper} {a : Act} {Q : Exit → Act → World → Prop} (w : World) (hgd : o.guard = none) (s x : Operand)
    (hop : o.op = .call { callee := .builtin .append, args := #[s, x], argTypes := #[t, t] })
    (ht : P.underlying t = some (.slice e)) (hi : P.info? e = some inf) (hz : inf.zero = some z) (hsize : inf.size = size) (hby : inf.bytes = bytes) (hzs : z.cells.size = size) (hsz : 0 < size)
    (base : Nat) (v : Value) (n : Nat) (xs : List Value) (hs : a.eval s = v) (g m : Nat) (news : List Value) (hx : a.eval x = .slice (some ⟨g, 0, none⟩) m m)
    (W : World) {T0 : TypeId} (hw : w = W.alloc (.cells news.toArray T0)) (hg : g = W.heap.size) (wo : World) (hb : Below wo.heap.size wo W) (hown : wo.ownsRow base e size v n xs) (hl : news.length = m * size) (h1 : ∀ u ∈ news, u.oneCell' = true) (hm : n + m ≤ maxLen) (hn : (n + m) * bytes ≤ 140737488355328) (hbase : base ≤ wo.heap.size)
    (h : ∀ v' w', Hid (w'.ownsRow base e size v' (n + m) (xs ++ news)) → Below base wo w' → Hid (wo.grownBy w' v.ownBlock) → wpList P ops Q rest (a.put o.dst v') w') : wpList P ops Q (o :: rest) a w := by
  subst hw
  subst hg
  have hbX : Below wo.heap.size wo (W.alloc (.cells news.toArray T0)) := hb.alloc hb.size _
  obtain ⟨v', W', r1, r2, r3, _⟩ := run_append_own (P := P) (W.alloc (.cells news.toArray T0)) base t o.type e inf z size bytes ht hi hz hsize hby hzs hsz v n xs (ownsRow_below hown hbX) ⟨W.heap.size, 0, none⟩ m m news hl (fun j u hj => by rw [add_at, Nat.zero_add]; exact heap_cell (heap_made W _) j (by simpa using hj)) h1 hm hn (Nat.le_trans hbase hbX.size)
  have hG : wo.grownBy W' v.ownBlock := World.grownBy.andThen (grown_of_below hbX v.ownBlock) r3 fun j hj => .inr hj
  exact Lib.wpList_append_run _ hgd s x _ _ hop _ _ hs hx _ _ r1 (h v' W' r2 ((Below.refl _ _).grown hG hbase fun k hk => ownsRow_ge hown k hk) hG)
/-- A round of a range over a map of bools. -/
theorem wpList_next_b {P : Program} (w : World) {ops : Array Oper} {rest : List Oper} {o : Oper} {a : Act} {Q : Exit → Act → World → Prop} (hg : o.guard = none) (it : Operand) (hop : o.op = Op.next it false) (k : TypeId) (K : Maps.Keyed P k) (hk : P.underlying k = some (.int .i64))
    (b r n : Nat) (D : DataW Unit) (left : Lit → Bool) (cnt : Nat) (hit : a.eval it = .pointer (some ⟨r, 0, none⟩)) (h : w.ranges P k boolR b r n D left cnt)
    (hDone : cnt = 0 → Hid (∀ kl, left kl = false) → wpList P ops Q rest (a.put o.dst (.tuple #[.bool false])) w)
    (hMore : ∀ (x : Int) (c : Bool) (w' : World) (cnt' : Nat), Hid (wf x ∧ left (.int .i64 x) = true ∧ Maps.has D (.int .i64 x) = true ∧ (∀ zd, D.atKey (.int .i64 x) zd = .lit (.bool c)) ∧ w'.ranges P k boolR b r n D (fun z => left z && !z.sameKey (.int .i64 x)) cnt' ∧ w.grownBy w' (some r)) → cnt' < cnt → w'.heap.size = w.heap.size →
      (Instr.entry (.pointer (some ⟨r, 0, none⟩))).run P w' = .ok (.tuple #[.int .i64 x, .bool c]) w' → wpList P ops Q rest (a.put o.dst (.tuple #[.bool true, .int .i64 x, .bool c])) w') :
    wpList P ops Q (o :: rest) a w := by
  refine wpList_next_ranges w hg it hop k K boolR (Value.int .i64) Value.bool (fun key kl hkey => by obtain ⟨x, rfl, _⟩ := Maps.keyOf_int_inv hk hkey; exact ⟨x, rfl⟩) (fun v y hv => by obtain ⟨c, rfl, _⟩ := boolR_inv hv; exact ⟨c, rfl⟩) b r n D left cnt hit h (fun h0 hl => hDone h0 hl) fun x c kl y w' cnt' hkey hlk hv hat hrg hlt hgr hsz hen => ?_
  obtain ⟨x', ex, ekl, hw⟩ := Maps.keyOf_int_inv hk hkey
  cases ex
  subst ekl
  obtain ⟨c', ec, ey⟩ := boolR_inv hv
  cases ec
  subst ey
  exact hMore x c w' cnt' ⟨hw, hlk, Maps.has_true_of_atKey hat, hat, hrg, hgr⟩ hlt hsz hen

def leftI (left : Lit → Bool) (n : Int) : Bool := left (.int .i64 n)
/-- Gathered so far. -/
def Gath (D : DataW Unit) (g : Int → Bool) (m : Int) (left : Lit → Bool) (xs : List Int) : Prop := xs.Nodup ∧ ∀ n, n ∈ xs ↔ Maps.has D (.int .i64 n) = true ∧ leftI left n = false ∧ (wf n ∧ g n = true) ∧ n ≤ m
theorem leftI_step (left : Lit → Bool) (x n : Int) : leftI (fun z => left z && !z.sameKey (.int .i64 x)) n = (leftI left n && !decide (n = x)) := by
  unfold leftI
  by_cases h : n = x
  · subst h
    simp [Lit.sameKey]
  · simp [Lit.sameKey, h]
theorem Gath.start {D : DataW Unit} {g : Int → Bool} {m : Int} : Gath D g m (Maps.has D) [] := by
  refine ⟨List.nodup_nil, fun n => ?_⟩
  unfold leftI
  constructor
  · intro h; cases h
  · rintro ⟨h1, h2, _⟩
    rw [h1] at h2
    cases h2
theorem Gath.skip {D : DataW Unit} {g : Int → Bool} {m : Int} {left : Lit → Bool} {xs : List Int} (h : Gath D g m left xs) {x : Int} (hx : ¬ (g x = true ∧ x ≤ m)) : Gath D g m (fun z => left z && !z.sameKey (.int .i64 x)) xs := by
  refine ⟨h.1, fun n => ?_⟩
  rw [h.2 n, leftI_step]
  by_cases e : n = x
  · subst e
    constructor
    · rintro ⟨_, _, ⟨_, h1⟩, h2⟩; exact absurd ⟨h1, h2⟩ hx
    · rintro ⟨_, _, ⟨_, h1⟩, h2⟩; exact absurd ⟨h1, h2⟩ hx
  · simp [e]
theorem Gath.take {D : DataW Unit} {g : Int → Bool} {m : Int} {left : Lit → Bool} {xs : List Int} (h : Gath D g m left xs) {x : Int} (hl : leftI left x = true) (hh : Maps.has D (.int .i64 x) = true) (hw : wf x) (hg : g x = true) (hm : x ≤ m) : Gath D g m (fun z => left z && !z.sameKey (.int .i64 x)) (xs ++ [x]) := by
  have hnot : x ∉ xs := fun hx => by
    have := ((h.2 x).1 hx).2.1
    rw [hl] at this
    cases this
  refine ⟨List.nodup_append.2 ⟨h.1, by simp, fun a ha b hb => ?_⟩, fun n => ?_⟩
  · rw [List.mem_singleton] at hb
    subst hb
    intro e
    subst e
    exact hnot ha
  · rw [List.mem_append, List.mem_singleton, h.2 n, leftI_step]
    by_cases e : n = x
    · subst e
      simp [hh, hw, hg, hm]
    · simp [e]
theorem Gath.done {D : DataW Unit} {f : Int} {ps : List PolT} {left : Lit → Bool} {xs : List Int} (h : Gath D (atB f (polsConds ps)) (most f) left xs) (hM : MapB D (atB f (polsConds ps))) (hok : AllOk ps) (hl : ∀ kl, left kl = false) : ∀ n, n ∈ xs ↔ atB f (polsConds ps) n = true ∧ n ≤ most f := by
  intro n
  rw [h.2 n]
  constructor
  · rintro ⟨_, _, ⟨_, h1⟩, h2⟩; exact ⟨h1, h2⟩
  · rintro ⟨h1, h2⟩
    have hw : wf n := by
      have := cut_range hok (mem_cuts_at.2 ⟨h1, h2⟩)
      have := most_le f
      exact WalkArith.wf_i64 (by omega)
    refine ⟨?_, hl _, ⟨hw, h1⟩, h2⟩
    cases hh : Maps.has D (.int .i64 n) with
    | true => rfl
    | false =>
      have := hM n hw
      rw [Maps.atKey_of_not_has hh, h1] at this
      simp at this
theorem Gath.few {D : DataW Unit} {f : Int} {ps : List PolT} {left : Lit → Bool} {xs : List Int} (h : Gath D (atB f (polsConds ps)) (most f) left xs) (hok : AllOk ps) : xs.length ≤ 65536 := by
  refine nodup_few h.1 fun x hx => ?_
  obtain ⟨_, _, ⟨_, h1⟩, h2⟩ := (h.2 x).1 hx
  have := cut_range hok (mem_cuts_at.2 ⟨h1, h2⟩)
  have := most_le f
  omega
theorem infoInt : ∃ i, Tryz.prog.info? 3 = some i ∧ i.zero = some (.int .i64 0) ∧ i.size = 1 ∧ i.bytes = 8 := infoOf (by kernel_rfl)
def intCells (l : List Int) : List Value := l.map (.int .i64)
end Go.Proofs.YtbdlojnigflanacGreatDoor
end
