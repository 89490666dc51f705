/- Joined: RdrP RT. -/
import Derived.Test.YtdfcfinjoghipacGreatDoorDj15
import Derived.Test.YtdfcfinjoghipacGreatDoorDj12
section
/- What the program's own readers of a policy say. -/
set_option linter.all false
set_option maxRecDepth 100000
namespace Go.Proofs.YtdfcfinjoghipacGreatDoor
open Go.RowKit Go.Maps

/-- Rules in memory of one's own, from block L on. -/
def RulesNew (L : Nat) (w : World) (v : Value) (rs : List RuleT) : Prop :=
  ∃ a cap, v = .slice a rs.length cap ∧ rs.length ≤ cap ∧ cap ≤ maxLen ∧ ∀ i r, rs[i]? = some r → ∃ b o, a = some ⟨b, o, none⟩ ∧ L ≤ b ∧ b < w.heap.size ∧ ∃ cv, w.cell? ⟨b, o + i * 2, none⟩ = some cv ∧ w.cell? ⟨b, o + i * 2 + 1, none⟩ = some (.int .i64 r.2) ∧ wf r.2 ∧ CondsNew L w cv r.1
theorem RulesNew.nil (L : Nat) (w : World) : RulesNew L w (.slice none 0 0) [] := ⟨none, 0, rfl, Nat.le_refl _, Nat.zero_le _, fun i c h => by simp at h⟩
theorem RulesNew.keep {L : Nat} {w w' : World} {v : Value} {rs : List RuleT} (h : RulesNew L w v rs) (hk : ∀ g, L ≤ g → g < w.heap.size → w'.heap[g]? = w.heap[g]?) (hsz : w.heap.size ≤ w'.heap.size) : RulesNew L w' v rs := by
  obtain ⟨a, cap, h1, h2, h3, h4⟩ := h
  refine ⟨a, cap, h1, h2, h3, fun i c hc => ?_⟩
  obtain ⟨b, o, e, hl, hb, cv, k0, k1, k2, k3⟩ := h4 i c hc
  have hh := hk b hl hb
  exact ⟨b, o, e, hl, by omega, cv, by rw [cell_of_heap hh]; exact k0, by rw [cell_of_heap hh]; exact k1, k2, k3.keep hk hsz⟩
theorem RulesNew.at {L : Nat} {w : World} {v : Value} {rs : List RuleT} (h : RulesNew L w v rs) : RulesAt w.heap.size w v rs := by
  obtain ⟨a, cap, h1, h2, h3, h4⟩ := h
  refine ⟨a, cap, h1, h2, h3, fun i c hc => ?_⟩
  obtain ⟨b, o, e, hl, hb, cv, k0, k1, k2, k3⟩ := h4 i c hc
  exact ⟨b, o, e, hb, cv, k0, k1, k2, k3.at⟩
def PolN (L : Nat) (w : World) (v : Value) (p : PolT) : Prop := ∃ rv, v = .agg #[rv, .int .i64 p.2] ∧ wf p.2 ∧ RulesNew L w rv p.1
theorem PolN.keep {L : Nat} {w w' : World} {v : Value} {p : PolT} (h : PolN L w v p) (hk : ∀ g, L ≤ g → g < w.heap.size → w'.heap[g]? = w.heap[g]?) (hsz : w.heap.size ≤ w'.heap.size) : PolN L w' v p := by
  obtain ⟨rv, h1, h2, h3⟩ := h
  exact ⟨rv, h1, h2, h3.keep hk hsz⟩
theorem PolN.at {L : Nat} {w : World} {v : Value} {p : PolT} (h : PolN L w v p) : PolAt w.heap.size w v p := by
  obtain ⟨rv, h1, h2, h3⟩ := h
  exact ⟨rv, h1, h2, h3.at⟩
theorem PolN.zero (L : Nat) (w : World) : PolN L w (.agg #[.slice none 0 0, .int .i64 0]) ([], 0) := ⟨_, rfl, by unfold wf; decide, RulesNew.nil L w⟩
theorem PolN.shape {L : Nat} {w : World} {v : Value} {p : PolT} (h : PolN L w v p) : ∃ a n cap, v = .agg #[.slice a n cap, .int .i64 p.2] := by
  obtain ⟨rv, rfl, _, a, cap, rfl, _⟩ := h
  exact ⟨a, _, cap, rfl⟩
theorem CondsNew.shape {L : Nat} {w : World} {v : Value} {cs : List CondT} (h : CondsNew L w v cs) : ∃ a n cap, v = .slice a n cap := by
  obtain ⟨a, cap, rfl, _⟩ := h
  exact ⟨a, _, cap, rfl⟩

def RowR (L n : Nat) (w : World) (rs : List RuleT) (cur : Array Value) : Prop :=
  cur.size = n * 2 ∧ ∀ i r, rs[i]? = some r → ∃ cv, cur[i * 2]? = some cv ∧ cur[i * 2 + 1]? = some (.int .i64 r.2) ∧ wf r.2 ∧ CondsNew L w cv r.1
def set2 (cur : Array Value) (o : Nat) (x0 x1 : Value) : Array Value := (cur.setIfInBounds o x0).setIfInBounds (o + 1) x1
theorem RowR.keep {L n : Nat} {w w' : World} {rs : List RuleT} {cur : Array Value} (h : RowR L n w rs cur) (hk : ∀ g, L ≤ g → g < w.heap.size → w'.heap[g]? = w.heap[g]?) (hsz : w.heap.size ≤ w'.heap.size) : RowR L n w' rs cur := by
  refine ⟨h.1, fun i r hr => ?_⟩
  obtain ⟨cv, k0, k1, k2, k3⟩ := h.2 i r hr
  exact ⟨cv, k0, k1, k2, k3.keep hk hsz⟩
theorem RowR.put {L n : Nat} {w : World} {rs : List RuleT} {cur : Array Value} (h : RowR L n w rs cur) (hlt : rs.length < n) (r : RuleT) (cv : Value) (hw : wf r.2) (hc : CondsNew L w cv r.1) : RowR L n w (rs ++ [r]) (set2 cur (rs.length * 2) cv (.int .i64 r.2)) := by
  obtain ⟨h1, h2⟩ := h
  refine ⟨by simp [set2, h1], fun i d hd => ?_⟩
  have hi : i < rs.length + 1 := by have := (List.getElem?_eq_some_iff.1 hd).1; simpa using this
  by_cases e : i = rs.length
  · subst e
    rw [List.getElem?_append_right (Nat.le_refl _)] at hd
    simp at hd
    subst hd
    have b0 : rs.length * 2 < cur.size := by omega
    have b1 : rs.length * 2 + 1 < cur.size := by omega
    unfold set2
    simp only [Array.getElem?_setIfInBounds]
    exact ⟨cv, by simp [b0], by simp [b1], hw, hc⟩
  · rw [List.getElem?_append_left (by omega)] at hd
    obtain ⟨cv', k0, k1, k2, k3⟩ := h2 i d hd
    unfold set2
    simp only [Array.getElem?_setIfInBounds]
    refine ⟨cv', ?_, ?_, k2, k3⟩
    · rw [if_neg (by omega), if_neg (by omega)]; exact k0
    · rw [if_neg (by omega), if_neg (by omega)]; exact k1
theorem row_set2 {w : World} {g o : Nat} {cur : Array Value} {x0 x1 : Value} {T : TypeId} (h : w.heap[g]? = some (.cells cur T (0, 0))) : ((w.setCell ⟨g, o, none⟩ x0).setCell ⟨g, o + 1, none⟩ x1).heap[g]? = some (.cells (set2 cur o x0 x1) T (0, 0)) :=
  row_setCell (o := o + 1) (u := x1) (row_setCell (o := o) (u := x0) h)
theorem heap_set2 {w : World} {g k : Nat} (o : Nat) (x0 x1 : Value) (h : k ≠ g) : ((w.setCell ⟨g, o, none⟩ x0).setCell ⟨g, o + 1, none⟩ x1).heap[k]? = w.heap[k]? := by
  rw [Below.heap_setCell _ _ _ _ (by show k ≠ g; exact h), Below.heap_setCell _ _ _ _ (by show k ≠ g; exact h)]

def JRul (G : Nat) (W : World) (cur : Array Value) (T : TypeId) (o : Nat) (vd : Int) (ok : Bool) (cs : List CondT) (fs : Nat → Value → Prop) (w : World) : Prop :=
  Below G W w ∧ (∀ k, k < W.heap.size → k ≠ G → w.heap[k]? = W.heap[k]?) ∧ ((∀ v, ¬ fs 9 v) → w.heap[G]? = some (.cells cur T (0, 0))) ∧ (∀ v, fs 4 v → ∃ a m cap, v = .tuple #[.agg #[.slice a m cap, .int .i64 vd], .bool ok] ∧ CondsNew W.heap.size w (.slice a m cap) cs) ∧
    ((∃ v, fs 9 v) → ∃ a m cap, fs 4 (.tuple #[.agg #[.slice a m cap, .int .i64 vd], .bool ok]) ∧ w.heap[G]? = some (.cells (set2 cur o (.slice a m cap) (.int .i64 vd)) T (0, 0)))
def SRul (vd : Int) (ok : Bool) (k : Nat) (v : Value) : Prop := if k = 4 then ∃ a m cap, v = .tuple #[.agg #[.slice a m cap, .int .i64 vd], .bool ok] else True
theorem sRul_some (vd : Int) (ok : Bool) (k : Nat) : ∃ v, SRul vd ok k v := by
  unfold SRul
  split
  · exact ⟨_, none, 0, 0, rfl⟩
  · exact ⟨undef, trivial⟩

theorem make_rules (n : Nat) (hn : n ≤ 4294967281) (w : World) : (Instr.makeSlice 22 (.int .i64 n) (.int .i64 n)).run Tryz.prog w = .ok (.slice (some ⟨w.heap.size, 0, none⟩) n n) (w.alloc (.cells (madeCells #[.slice none 0 0, .int .i64 0] (n * 2)) 79)) := by
  obtain ⟨inf, hi1, hi2, hi3, hi4⟩ := infoRule
  have := run_make (P := Tryz.prog) w 22 79 inf _ Tryz.underlying22 hi1 hi2 .i64 .i64 n n (by omega) (Int.le_refl _) (by rw [hi4]; omega) (by omega)
  rw [hi3] at this
  simpa [Value.cells] using this
theorem index_rules (i n G : Nat) (h : i < n) (w : World) : (Instr.indexAt 22 (.slice (some ⟨G, 0, none⟩) n n) (.int .i64 i)).run Tryz.prog w = .ok (.pointer (some ⟨G, i * 2, none⟩)) w := by
  have h1 : (i : Int) < (n : Int) := by omega
  have h2 : (0 : Int) ≤ (i : Int) := by omega
  go_simp
theorem ruleOf_wf {l : Bs} {r : RuleT} (h : ruleOf l = some r) : wf r.2 := by
  unfold ruleOf at h
  split at h
  · cases h
  · rename_i hd t _
    split at h
    · cases h
    · split at h
      · cases h
      · cases h
        have := idxL_lt vN hd
        have e : vN.length = 5 := rfl
        rw [e] at this
        exact wf_small (by simp only []; omega)
theorem polOf_parts {l : Bs} {ps : List Bs} {d : Bs} (e : splitL 59 l = ps ++ [d]) : polOf l = match allOf ruleOf ps with
    | none => none
    | some rs => if idxL vN d < 0 then none else some (rs, idxL vN d) := by
  have h1 : (splitL 59 l).dropLast = ps := by rw [e]; simp
  have h2 : (splitL 59 l).getLast (splitL_ne 59 l) = d := by
    have : ∀ (x : List Bs) (hx : x ≠ []), x = ps ++ [d] → x.getLast hx = d := by
      intro x hx hxe
      subst hxe
      simp
    exact this _ _ e
  unfold polOf
  rw [h1, h2]
  rfl

end Go.Proofs.YtdfcfinjoghipacGreatDoor
end
section
/- What is printed is read, what is read is printed as it was: plain data. -/
set_option linter.all false
set_option maxRecDepth 100000
namespace Go.Proofs.YtdfcfinjoghipacGreatDoor
open Go.RowKit Go.Maps

/-! Splitting. -/
theorem splitL_sep (c : UInt8) : ∀ (l m : Bs), c ∉ l → splitL c (l ++ c :: m) = l :: splitL c m
  | [], m, _ => by simp [splitL]
  | b :: l, m, h => by
    have hb : b ≠ c := fun e => h (by simp [e])
    rw [List.cons_append, splitL, if_neg hb, splitL_sep c l m (fun e => h (by simp [e]))]
theorem splitL_one (c : UInt8) : ∀ (l : Bs), c ∉ l → splitL c l = [l]
  | [], _ => rfl
  | b :: l, h => by
    have hb : b ≠ c := fun e => h (by simp [e])
    rw [splitL, if_neg hb, splitL_one c l (fun e => h (by simp [e]))]
theorem splitL_ends (c : UInt8) : ∀ (xs : List Bs) (d : Bs), (∀ x ∈ xs, c ∉ x) → c ∉ d → splitL c (xs.flatMap (fun x => x ++ [c]) ++ d) = xs ++ [d]
  | [], d, _, hd => by simpa using splitL_one c d hd
  | x :: xs, d, h, hd => by
    rw [List.flatMap_cons, List.append_assoc, List.append_assoc, List.singleton_append, splitL_sep c x _ (h x (by simp)), splitL_ends c xs d (fun y hy => h y (by simp [hy])) hd]
    rfl
theorem splitL_heads (c : UInt8) : ∀ (ts : List Bs) (h : Bs), c ∉ h → (∀ x ∈ ts, c ∉ x) → splitL c (h ++ ts.flatMap (fun x => c :: x)) = h :: ts
  | [], h, hh, _ => by simpa using splitL_one c h hh
  | t :: ts, h, hh, ht => by
    rw [List.flatMap_cons, List.cons_append, splitL_sep c h _ hh, splitL_heads c ts t (ht t (by simp)) (fun y hy => ht y (by simp [hy]))]
def joinL (c : UInt8) : List Bs → Bs
  | [] => []
  | [x] => x
  | x :: y :: r => x ++ c :: joinL c (y :: r)
theorem join_split (c : UInt8) : ∀ s : Bs, joinL c (splitL c s) = s
  | [] => rfl
  | b :: l => by
    have ih := join_split c l
    have hne := splitL_ne c l
    unfold splitL
    by_cases h : b = c
    · rw [if_pos h]
      cases hs : splitL c l with
      | nil => exact absurd hs hne
      | cons x r => rw [hs] at ih; rw [joinL, ih, h]; rfl
    · rw [if_neg h]
      cases hs : splitL c l with
      | nil => exact absurd hs hne
      | cons x r =>
        rw [hs] at ih
        cases r with
        | nil => rw [joinL] at ih ⊢; rw [ih]
        | cons y r => rw [joinL] at ih ⊢; rw [List.cons_append, ih]
theorem join_ends (c : UInt8) : ∀ (xs : List Bs) (d : Bs), joinL c (xs ++ [d]) = xs.flatMap (fun x => x ++ [c]) ++ d
  | [], d => by simp [joinL]
  | [x], d => by simp [joinL]
  | x :: y :: r, d => by
    have ih := join_ends c (y :: r) d
    rw [List.cons_append, List.cons_append, joinL, ← List.cons_append, ih, List.flatMap_cons]
    simp
theorem join_heads (c : UInt8) : ∀ (ts : List Bs) (h : Bs), joinL c (h :: ts) = h ++ ts.flatMap (fun x => c :: x)
  | [], h => by simp [joinL]
  | t :: ts, h => by rw [joinL, join_heads c ts t, List.flatMap_cons]; rfl

/-! Names and numbers. -/
theorem idxL_get : ∀ (ns : List Bs) (x : Bs), 0 ≤ idxL ns x → ns.getD (idxL ns x).toNat [] = x
  | [], x, h => by simp [idxL] at h
  | n :: r, x, h => by
    have hge := idxL_ge r x
    unfold idxL at h ⊢
    by_cases h1 : n = x
    · rw [if_pos h1]; simpa using h1
    · rw [if_neg h1] at h ⊢
      by_cases h2 : idxL r x = -1
      · rw [if_pos h2] at h; omega
      · rw [if_neg h2]
        have := idxL_get r x (by omega)
        rw [show (idxL r x + 1).toNat = (idxL r x).toNat + 1 by omega]
        simpa using this
theorem indexByte_get : ∀ (l : Bs) (c : UInt8), 0 ≤ Lib.indexByte l c → l.getD (Lib.indexByte l c).toNat 0 = c
  | [], c, h => by simp [Lib.indexByte] at h
  | b :: r, c, h => by
    have hge := Lib.indexByte_ge r c
    unfold Lib.indexByte at h ⊢
    by_cases h1 : (b == c) = true
    · rw [if_pos h1]; simpa using h1
    · rw [if_neg h1] at h ⊢
      by_cases h2 : (Lib.indexByte r c == -1) = true
      · rw [if_pos h2] at h; omega
      · have h2' : Lib.indexByte r c ≠ -1 := by simpa using h2
        rw [if_neg h2]
        have := indexByte_get r c (by omega)
        rw [show (Lib.indexByte r c + 1).toNat = (Lib.indexByte r c).toNat + 1 by omega]
        simpa using this
theorem indexAny_mem : ∀ (l cs : Bs), 0 ≤ Lib.indexAny l cs → cs.contains (l.getD (Lib.indexAny l cs).toNat 0) = true
  | [], cs, h => by simp [Lib.indexAny] at h
  | b :: r, cs, h => by
    have hge := Lib.indexAny_ge cs r
    unfold Lib.indexAny at h ⊢
    by_cases h1 : cs.contains b = true
    · rw [if_pos h1]; simpa using h1
    · rw [if_neg h1] at h ⊢
      by_cases h2 : (Lib.indexAny r cs == -1) = true
      · rw [if_pos h2] at h; omega
      · have h2' : Lib.indexAny r cs ≠ -1 := by simpa using h2
        rw [if_neg h2]
        have := indexAny_mem r cs (by omega)
        rw [show (Lib.indexAny r cs + 1).toNat = (Lib.indexAny r cs).toNat + 1 by omega]
        simpa using this
theorem indexAny_at (cs : Bs) (x : UInt8) (m : Bs) (hx : cs.contains x = true) : ∀ l : Bs, (∀ b ∈ l, cs.contains b = false) → Lib.indexAny (l ++ x :: m) cs = l.length
  | [], _ => by rw [List.nil_append, Lib.indexAny, if_pos hx]; rfl
  | b :: l, h => by
    have ih := indexAny_at cs x m hx l fun y hy => h y (by simp [hy])
    rw [List.cons_append, Lib.indexAny, if_neg (by rw [h b (by simp)]; decide), ih, if_neg (by simp)]
    simp

theorem parse_append : ∀ (l : Bs) (acc : Nat) (c : UInt8), Lib.parseUint10 acc (l ++ [c]) = match Lib.parseUint10 acc l with
    | .ok v => Lib.parseUint10 v [c]
    | .syntax => .syntax
    | .range => .range
  | [], acc, c => by simp [Lib.parseUint10]
  | d :: l, acc, c => by
    rw [List.cons_append, Lib.parseUint10, Lib.parseUint10]
    split
    · split
      · rfl
      · split
        · rfl
        · exact parse_append l _ c
    · rfl
theorem digit_byte (d : Nat) (h : d < 10) : (UInt8.ofNat (48 + d)).toNat = 48 + d := by
  simp
  omega
theorem decDigits_digit : ∀ (u : Nat), ∀ c ∈ Lib.decDigits u, 48 ≤ c.toNat ∧ c.toNat ≤ 57 := by
  intro u
  induction u using Nat.strongRecOn with
  | _ u ih =>
    intro c hc
    rw [Lib.decDigits] at hc
    split at hc
    · have hc := List.mem_singleton.1 hc
      subst hc
      rw [digit_byte u (by assumption)]
      omega
    · rename_i h
      rcases List.mem_append.1 hc with h1 | h1
      · exact ih (u / 10) (by omega) c h1
      · have h1 := List.mem_singleton.1 h1
        subst h1
        rw [digit_byte (u % 10) (by omega)]
        omega
theorem decDigits_ne (u : Nat) : Lib.decDigits u ≠ [] := by
  rw [Lib.decDigits]
  split <;> simp
theorem parse_digits : ∀ (u : Nat), u ≤ 1000000 → Lib.parseUint10 0 (Lib.decDigits u) = .ok u := by
  intro u
  induction u using Nat.strongRecOn with
  | _ u ih =>
    intro hu
    rw [Lib.decDigits]
    split
    · rename_i h
      rw [Lib.parseUint10, digit_byte u h, if_pos (by omega), if_neg (by omega), if_neg (by omega), Lib.parseUint10]
      congr 1
      omega
    · rename_i h
      rw [parse_append, ih (u / 10) (by omega) (by omega)]
      simp only []
      rw [Lib.parseUint10, digit_byte (u % 10) (by omega), if_pos (by omega), if_neg (by omega), if_neg (by omega), Lib.parseUint10]
      congr 1
      omega
theorem numOf_itoa (n : Int) (h : 0 ≤ n ∧ n ≤ 65535) : numOf (Lib.itoa n) = some n := by
  have e : Lib.itoa n = Lib.decDigits n.toNat := by unfold Lib.itoa; rw [if_neg (by omega)]
  have hp := parse_digits n.toNat (by omega)
  have ha : Lib.atoiAll (Lib.itoa n) = .ok n := by
    rw [e]
    cases hd : Lib.decDigits n.toNat with
    | nil => exact absurd hd (decDigits_ne _)
    | cons c r =>
      have hc := decDigits_digit n.toNat c (by rw [hd]; simp)
      unfold Lib.atoiAll
      simp only []
      rw [if_neg (by omega)]
      unfold Lib.parseMag
      rw [if_neg (by simp), ← hd, hp]
      simp only []
      rw [if_neg (by omega), if_neg (by omega), if_neg (by omega)]
      congr 1
      omega
  unfold numOf
  rw [ha]
  simp

/-! What is read is printed as it was. -/
theorem cond_back {y : Bs} {c : CondT} (h : condOf y = some c) : condText c = 32 :: y := by
  unfold condOf at h
  by_cases h0 : Lib.indexAny y opC < 0
  · rw [if_pos h0] at h; cases h
  · rw [if_neg h0] at h
    have hlt := indexAny_lt opC y
    have hmem := indexAny_mem y opC (by omega)
    generalize hk : (Lib.indexAny y opC).toNat = k at *
    have hkl : k < y.length := by omega
    split at h
    · cases h
    · rename_i n hn
      by_cases h1 : idxL fN (y.take k) < 0
      · rw [if_pos h1] at h; cases h
      · rw [if_neg h1] at h
        cases h
        have e1 := idxL_get fN (y.take k) (by omega)
        have e2 : Lib.itoa n = y.drop (k + 1) := by
          unfold numOf at hn
          split at hn
          · split at hn
            · cases hn; assumption
            · cases hn
          · cases hn
        have hge : 0 ≤ Lib.indexByte opC (y.getD k 0) := by
          have := Lib.contains_iff_indexByte opC (y.getD k 0)
          rw [hmem] at this
          simpa using this.symm
        have e3 := indexByte_get opC (y.getD k 0) hge
        have e4 : opSign (1 + Lib.indexByte opC (y.getD k 0)) = y.getD k 0 := by
          unfold opSign
          rw [show (1 + Lib.indexByte opC (y.getD k 0) - 1).toNat = (Lib.indexByte opC (y.getD k 0)).toNat by omega]
          exact e3
        unfold condText fName
        simp only []
        rw [e1, e4, e2]
        congr 1
        have : y.getD k 0 = y[k] := by simp [List.getD_eq_getElem?_getD, hkl]
        rw [this, ← List.drop_eq_getElem_cons hkl, List.take_append_drop]
theorem allOf_flat {α : Type} (f : Bs → Option α) (g : α → Bs) (k : Bs → Bs) (hfg : ∀ x a, f x = some a → g a = k x) : ∀ (l : List Bs) (r : List α), allOf f l = some r → r.flatMap g = l.flatMap k
  | [], r, h => by simp [allOf] at h; subst h; rfl
  | x :: l, r, h => by
    rw [allOf] at h
    cases h1 : f x <;> cases h2 : allOf f l <;> rw [h1, h2] at h <;> simp at h
    subst h
    rw [List.flatMap_cons, List.flatMap_cons, hfg x _ h1, allOf_flat f g k hfg l _ h2]
theorem rule_back {x : Bs} {r : RuleT} (h : ruleOf x = some r) : ruleText r = x ++ [59] := by
  unfold ruleOf at h
  cases hs : splitL 32 x with
  | nil => exact absurd hs (splitL_ne 32 x)
  | cons hd t =>
    rw [hs] at h
    simp only [] at h
    by_cases h1 : idxL vN hd < 0
    · rw [if_pos h1] at h; cases h
    · rw [if_neg h1] at h
      split at h
      · cases h
      · rename_i cs hcs
        cases h
        have e0 := join_split 32 x
        rw [hs, join_heads] at e0
        have e1 := idxL_get vN hd (by omega)
        have e2 := allOf_flat condOf condText (fun y => 32 :: y) (fun y c hc => cond_back hc) t cs hcs
        unfold ruleText vName
        simp only []
        rw [e1, e2, e0]
theorem pol_back {s : Bs} {p : PolT} (h : polOf s = some p) : polText p = s := by
  unfold polOf at h
  split at h
  · cases h
  · rename_i rs hrs
    by_cases h1 : idxL vN ((splitL 59 s).getLast (splitL_ne 59 s)) < 0
    · rw [if_pos h1] at h; cases h
    · rw [if_neg h1] at h
      cases h
      have e0 := join_split 59 s
      rw [← List.dropLast_concat_getLast (splitL_ne 59 s), join_ends] at e0
      have e1 := idxL_get vN _ (by omega : 0 ≤ idxL vN ((splitL 59 s).getLast (splitL_ne 59 s)))
      have e2 := allOf_flat ruleOf ruleText (fun x => x ++ [59]) (fun x r hr => rule_back hr) _ rs hrs
      unfold polText vName
      simp only []
      rw [e1, e2]
      exact e0

/-! What is printed is read. -/
theorem names_clean : (∀ k, k < 5 → ∀ b ∈ vN.getD k [], b ≠ 59 ∧ b ≠ 32) ∧ (∀ k, k < 5 → ∀ b ∈ fN.getD k [], (b ≠ 59 ∧ b ≠ 32) ∧ opC.contains b = false) ∧ (∀ b ∈ opC, b ≠ 59 ∧ b ≠ 32) := by decide
theorem idx_names : (∀ k, k < 5 → idxL vN (vN.getD k []) = (k : Int)) ∧ (∀ k, k < 5 → idxL fN (fN.getD k []) = (k : Int)) ∧ (∀ k, k < 4 → Lib.indexByte opC (opC.getD k 0) = (k : Int) ∧ opC.contains (opC.getD k 0) = true ∧ opC.getD k 0 ∈ opC) := by decide
theorem cond_read {c : CondT} (h : condErr c = 0) : ∃ y, condText c = 32 :: y ∧ condOf y = some c ∧ (59 : UInt8) ∉ y ∧ (32 : UInt8) ∉ y := by
  obtain ⟨f, o, n⟩ := c
  obtain ⟨h1, h2, h3⟩ := condErr_num h
  simp only [] at h1 h2 h3
  obtain ⟨fi, rfl⟩ : ∃ k : Nat, f = k := ⟨f.toNat, by omega⟩
  obtain ⟨oi, rfl⟩ : ∃ k : Nat, o = (k : Int) + 1 := ⟨(o - 1).toNat, by omega⟩
  have hfi : fi < 5 := by omega
  have hoi : oi < 4 := by omega
  obtain ⟨i1, i2, i3⟩ := idx_names
  obtain ⟨n1, n2, n3⟩ := names_clean
  obtain ⟨j1, j2, j3⟩ := i3 oi hoi
  have eF : fName (fi : Int) = fN.getD fi [] := by unfold fName; simp
  have eO : opSign ((oi : Int) + 1) = opC.getD oi 0 := by unfold opSign; simp
  have eN : Lib.itoa n = Lib.decDigits n.toNat := by unfold Lib.itoa; rw [if_neg (by omega)]
  have hdig : ∀ b ∈ Lib.itoa n, b ≠ 59 ∧ b ≠ 32 := by
    rw [eN]
    intro b hb
    have := decDigits_digit _ b hb
    constructor <;> (intro e; subst e; revert this; decide)
  refine ⟨fName fi ++ (opSign ((oi : Int) + 1) :: Lib.itoa n), rfl, ?_, ?_, ?_⟩
  · rw [eF, eO]
    have hat : Lib.indexAny (fN.getD fi [] ++ (opC.getD oi 0 :: Lib.itoa n)) opC = (fN.getD fi []).length := indexAny_at opC _ _ j2 _ fun b hb => (n2 fi hfi b hb).2
    unfold condOf
    rw [hat]
    simp only [Int.toNat_natCast]
    rw [if_neg (by omega), List.take_left, i2 fi hfi]
    have ed : List.drop ((fN.getD fi []).length + 1) (fN.getD fi [] ++ (opC.getD oi 0 :: Lib.itoa n)) = Lib.itoa n := by
      rw [← List.drop_drop, List.drop_left]
      rfl
    have eg : (fN.getD fi [] ++ (opC.getD oi 0 :: Lib.itoa n)).getD (fN.getD fi []).length 0 = opC.getD oi 0 := by
      rw [List.getD_eq_getElem?_getD, List.getElem?_append_right (Nat.le_refl _)]
      simp
    rw [ed, numOf_itoa n h3, eg, j1]
    simp only []
    rw [if_neg (by omega)]
    congr 2
    congr 1
    omega
  · intro hm
    rcases List.mem_append.1 hm with hm | hm
    · rw [eF] at hm; exact (n2 fi hfi _ hm).1.1 rfl
    · rcases List.mem_cons.1 hm with hm | hm
      · rw [eO] at hm; exact (n3 _ j3).1 hm.symm
      · exact (hdig _ hm).1 rfl
  · intro hm
    rcases List.mem_append.1 hm with hm | hm
    · rw [eF] at hm; exact (n2 fi hfi _ hm).1.2 rfl
    · rcases List.mem_cons.1 hm with hm | hm
      · rw [eO] at hm; exact (n3 _ j3).2 hm.symm
      · exact (hdig _ hm).2 rfl
theorem conds_read : ∀ (cs : List CondT), (∀ c ∈ cs, condErr c = 0) → ∃ ys : List Bs, cs.flatMap condText = ys.flatMap (fun y => 32 :: y) ∧ allOf condOf ys = some cs ∧ ∀ y ∈ ys, (59 : UInt8) ∉ y ∧ (32 : UInt8) ∉ y
  | [], _ => ⟨[], rfl, rfl, fun y h => by cases h⟩
  | c :: cs, h => by
    obtain ⟨y, e1, e2, e3, e4⟩ := cond_read (h c (by simp))
    obtain ⟨ys, k1, k2, k3⟩ := conds_read cs fun d hd => h d (by simp [hd])
    refine ⟨y :: ys, by rw [List.flatMap_cons, List.flatMap_cons, e1, k1], by rw [allOf, e2, k2], fun z hz => ?_⟩
    rcases List.mem_cons.1 hz with rfl | hz
    · exact ⟨e3, e4⟩
    · exact k3 z hz
theorem rule_read {r : RuleT} (h : ruleErr r = 0) : ∃ x, ruleText r = x ++ [59] ∧ ruleOf x = some r ∧ (59 : UInt8) ∉ x := by
  obtain ⟨cs, v⟩ := r
  obtain ⟨_, hv, hc⟩ := ruleErr_all h
  simp only [] at hv hc
  obtain ⟨vi, rfl⟩ : ∃ k : Nat, v = k := ⟨v.toNat, by omega⟩
  have hvi : vi < 5 := by omega
  have eV : vName (vi : Int) = vN.getD vi [] := by unfold vName; simp
  obtain ⟨i1, _, _⟩ := idx_names
  obtain ⟨n1, _, _⟩ := names_clean
  obtain ⟨ys, k1, k2, k3⟩ := conds_read cs hc
  refine ⟨vName vi ++ cs.flatMap condText, rfl, ?_, ?_⟩
  · have hs : splitL 32 (vName vi ++ cs.flatMap condText) = vName vi :: ys := by
      rw [k1]
      exact splitL_heads 32 ys _ (fun hm => by rw [eV] at hm; exact (n1 vi hvi _ hm).2 rfl) fun y hy => (k3 y hy).2
    unfold ruleOf
    rw [hs]
    simp only []
    rw [eV, i1 vi hvi, if_neg (by omega), k2]
  · intro hm
    rcases List.mem_append.1 hm with hm | hm
    · rw [eV] at hm; exact (n1 vi hvi _ hm).1 rfl
    · rw [k1] at hm
      obtain ⟨y, hy, hm⟩ := List.mem_flatMap.1 hm
      rcases List.mem_cons.1 hm with hm | hm
      · exact absurd hm (by decide)
      · exact (k3 y hy).1 hm
theorem rules_read : ∀ (rs : List RuleT), (∀ r ∈ rs, ruleErr r = 0) → ∃ xs : List Bs, rs.flatMap ruleText = xs.flatMap (fun x => x ++ [59]) ∧ allOf ruleOf xs = some rs ∧ ∀ x ∈ xs, (59 : UInt8) ∉ x
  | [], _ => ⟨[], rfl, rfl, fun y h => by cases h⟩
  | r :: rs, h => by
    obtain ⟨y, e1, e2, e3⟩ := rule_read (h r (by simp))
    obtain ⟨ys, k1, k2, k3⟩ := rules_read rs fun d hd => h d (by simp [hd])
    refine ⟨y :: ys, by rw [List.flatMap_cons, List.flatMap_cons, e1, k1], by rw [allOf, e2, k2], fun z hz => ?_⟩
    rcases List.mem_cons.1 hz with rfl | hz
    · exact e3
    · exact k3 z hz
theorem pol_read {p : PolT} (h : polErr p = 0) : polOf (polText p) = some p := by
  obtain ⟨rs, d⟩ := p
  obtain ⟨_, hd, hr⟩ := polErr_all h
  simp only [] at hd hr
  obtain ⟨di, rfl⟩ : ∃ k : Nat, d = k := ⟨d.toNat, by omega⟩
  have hdi : di < 5 := by omega
  have eV : vName (di : Int) = vN.getD di [] := by unfold vName; simp
  obtain ⟨i1, _, _⟩ := idx_names
  obtain ⟨n1, _, _⟩ := names_clean
  obtain ⟨xs, k1, k2, k3⟩ := rules_read rs hr
  have hs : splitL 59 (polText (rs, (di : Int))) = xs ++ [vName di] := by
    unfold polText
    simp only []
    rw [k1]
    exact splitL_ends 59 xs _ k3 fun hm => by rw [eV] at hm; exact (n1 di hdi _ hm).1 rfl
  rw [polOf_parts hs, k2]
  simp only []
  rw [eV, i1 di hdi, if_neg (by omega)]

end Go.Proofs.YtdfcfinjoghipacGreatDoor
end
