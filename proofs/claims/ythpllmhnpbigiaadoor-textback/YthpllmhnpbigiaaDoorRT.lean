/- What is printed is read, what is read is printed as it was: plain data. -/
import Derived.Test.YthpllmhnpbigiaaDoorTxtO
import Derived.Test.YthpllmhnpbigiaaDoorRdrP
set_option linter.all false
set_option maxRecDepth 100000
namespace Go.Proofs.YthpllmhnpbigiaaDoor
open Go.RowKit Go.Maps

/-! Splitting. -/
theorem splitL_sep (c : UInt8) : ∀ (l m : Bs), c ∉ l → splitL c (l ++ c :: m) = l :: splitL c m
  | [], m, _ => by simp [splitL]
  | b :: l, m, h => by
    have hb : b ≠ c := fun e => h (by simp [e])
    rw [List.cons_append, splitL, if_neg hb, splitL_sep c l m (fun e => h (by simp [e]))]
theorem splitL_one (c : UInt8) : ∀ (l : Bs), c ∉ l → splitL c l = [l]
  | [], _ => rfl
  | b :: l, h => by
    have hb : b ≠ c := fun e => h (by simp [e])
    rw [splitL, if_neg hb, splitL_one c l (fun e => h (by simp [e]))]
theorem splitL_ends (c : UInt8) : ∀ (xs : List Bs) (d : Bs), (∀ x ∈ xs, c ∉ x) → c ∉ d → splitL c (xs.flatMap (fun x => x ++ [c]) ++ d) = xs ++ [d]
  | [], d, _, hd => by simpa using splitL_one c d hd
  | x :: xs, d, h, hd => by
    rw [List.flatMap_cons, List.append_assoc, List.append_assoc, List.singleton_append, splitL_sep c x _ (h x (by simp)), splitL_ends c xs d (fun y hy => h y (by simp [hy])) hd]
    rfl
theorem splitL_heads (c : UInt8) : ∀ (ts : List Bs) (h : Bs), c ∉ h → (∀ x ∈ ts, c ∉ x) → splitL c (h ++ ts.flatMap (fun x => c :: x)) = h :: ts
  | [], h, hh, _ => by simpa using splitL_one c h hh
  | t :: ts, h, hh, ht => by
    rw [List.flatMap_cons, List.cons_append, splitL_sep c h _ hh, splitL_heads c ts t (ht t (by simp)) (fun y hy => ht y (by simp [hy]))]
def joinL (c : UInt8) : List Bs → Bs
  | [] => []
  | [x] => x
  | x :: y :: r => x ++ c :: joinL c (y :: r)
theorem join_split (c : UInt8) : ∀ s : Bs, joinL c (splitL c s) = s
  | [] => rfl
  | b :: l => by
    have ih := join_split c l
    have hne := splitL_ne c l
    unfold splitL
    by_cases h : b = c
    · rw [if_pos h]
      cases hs : splitL c l with
      | nil => exact absurd hs hne
      | cons x r => rw [hs] at ih; rw [joinL, ih, h]; rfl
    · rw [if_neg h]
      cases hs : splitL c l with
      | nil => exact absurd hs hne
      | cons x r =>
        rw [hs] at ih
        cases r with
        | nil => rw [joinL] at ih ⊢; rw [ih]
        | cons y r => rw [joinL] at ih ⊢; rw [List.cons_append, ih]
theorem join_ends (c : UInt8) : ∀ (xs : List Bs) (d : Bs), joinL c (xs ++ [d]) = xs.flatMap (fun x => x ++ [c]) ++ d
  | [], d => by simp [joinL]
  | [x], d => by simp [joinL]
  | x :: y :: r, d => by
    have ih := join_ends c (y :: r) d
    rw [List.cons_append, List.cons_append, joinL, ← List.cons_append, ih, List.flatMap_cons]
    simp
theorem join_heads (c : UInt8) : ∀ (ts : List Bs) (h : Bs), joinL c (h :: ts) = h ++ ts.flatMap (fun x => c :: x)
  | [], h => by simp [joinL]
  | t :: ts, h => by rw [joinL, join_heads c ts t, List.flatMap_cons]; rfl

/-! Names and numbers. -/
theorem idxL_get : ∀ (ns : List Bs) (x : Bs), 0 ≤ idxL ns x → ns.getD (idxL ns x).toNat [] = x
  | [], x, h => by simp [idxL] at h
  | n :: r, x, h => by
    have hge := idxL_ge r x
    unfold idxL at h ⊢
    by_cases h1 : n = x
    · rw [if_pos h1]; simpa using h1
    · rw [if_neg h1] at h ⊢
      by_cases h2 : idxL r x = -1
      · rw [if_pos h2] at h; omega
      · rw [if_neg h2]
        have := idxL_get r x (by omega)
        rw [show (idxL r x + 1).toNat = (idxL r x).toNat + 1 by omega]
        simpa using this
theorem indexByte_get : ∀ (l : Bs) (c : UInt8), 0 ≤ Lib.indexByte l c → l.getD (Lib.indexByte l c).toNat 0 = c
  | [], c, h => by simp [Lib.indexByte] at h
  | b :: r, c, h => by
    have hge := Lib.indexByte_ge r c
    unfold Lib.indexByte at h ⊢
    by_cases h1 : (b == c) = true
    · rw [if_pos h1]; simpa using h1
    · rw [if_neg h1] at h ⊢
      by_cases h2 : (Lib.indexByte r c == -1) = true
      · rw [if_pos h2] at h; omega
      · have h2' : Lib.indexByte r c ≠ -1 := by simpa using h2
        rw [if_neg h2]
        have := indexByte_get r c (by omega)
        rw [show (Lib.indexByte r c + 1).toNat = (Lib.indexByte r c).toNat + 1 by omega]
        simpa using this
theorem indexAny_mem : ∀ (l cs : Bs), 0 ≤ Lib.indexAny l cs → cs.contains (l.getD (Lib.indexAny l cs).toNat 0) = true
  | [], cs, h => by simp [Lib.indexAny] at h
  | b :: r, cs, h => by
    have hge := Lib.indexAny_ge cs r
    unfold Lib.indexAny at h ⊢
    by_cases h1 : cs.contains b = true
    · rw [if_pos h1]; simpa using h1
    · rw [if_neg h1] at h ⊢
      by_cases h2 : (Lib.indexAny r cs == -1) = true
      · rw [if_pos h2] at h; omega
      · have h2' : Lib.indexAny r cs ≠ -1 := by simpa using h2
        rw [if_neg h2]
        have := indexAny_mem r cs (by omega)
        rw [show (Lib.indexAny r cs + 1).toNat = (Lib.indexAny r cs).toNat + 1 by omega]
        simpa using this
theorem indexAny_at (cs : Bs) (x : UInt8) (m : Bs) (hx : cs.contains x = true) : ∀ l : Bs, (∀ b ∈ l, cs.contains b = false) → Lib.indexAny (l ++ x :: m) cs = l.length
  | [], _ => by rw [List.nil_append, Lib.indexAny, if_pos hx]; rfl
  | b :: l, h => by
    have ih := indexAny_at cs x m hx l fun y hy => h y (by simp [hy])
    rw [List.cons_append, Lib.indexAny, if_neg (by rw [h b (by simp)]; decide), ih, if_neg (by simp)]
    simp

theorem parse_append : ∀ (l : Bs) (acc : Nat) (c : UInt8), Lib.parseUint10 acc (l ++ [c]) = match Lib.parseUint10 acc l with
    | .ok v => Lib.parseUint10 v [c]
    | .syntax => .syntax
    | .range => .range
  | [], acc, c => by simp [Lib.parseUint10]
  | d :: l, acc, c => by
    rw [List.cons_append, Lib.parseUint10, Lib.parseUint10]
    split
    · split
      · rfl
      · split
        · rfl
        · exact parse_append l _ c
    · rfl
theorem digit_byte (d : Nat) (h : d < 10) : (UInt8.ofNat (48 + d)).toNat = 48 + d := by
  simp
  omega
theorem decDigits_digit : ∀ (u : Nat), ∀ c ∈ Lib.decDigits u, 48 ≤ c.toNat ∧ c.toNat ≤ 57 := by
  intro u
  induction u using Nat.strongRecOn with
  | _ u ih =>
    intro c hc
    rw [Lib.decDigits] at hc
    split at hc
    · have hc := List.mem_singleton.1 hc
      subst hc
      rw [digit_byte u (by assumption)]
      omega
    · rename_i h
      rcases List.mem_append.1 hc with h1 | h1
      · exact ih (u / 10) (by omega) c h1
      · have h1 := List.mem_singleton.1 h1
        subst h1
        rw [digit_byte (u % 10) (by omega)]
        omega
theorem decDigits_ne (u : Nat) : Lib.decDigits u ≠ [] := by
  rw [Lib.decDigits]
  split <;> simp
theorem parse_digits : ∀ (u : Nat), u ≤ 1000000 → Lib.parseUint10 0 (Lib.decDigits u) = .ok u := by
  intro u
  induction u using Nat.strongRecOn with
  | _ u ih =>
    intro hu
    rw [Lib.decDigits]
    split
    · rename_i h
      rw [Lib.parseUint10, digit_byte u h, if_pos (by omega), if_neg (by omega), if_neg (by omega), Lib.parseUint10]
      congr 1
      omega
    · rename_i h
      rw [parse_append, ih (u / 10) (by omega) (by omega)]
      simp only []
      rw [Lib.parseUint10, digit_byte (u % 10) (by omega), if_pos (by omega), if_neg (by omega), if_neg (by omega), Lib.parseUint10]
      congr 1
      omega
theorem numOf_itoa (n : Int) (h : 0 ≤ n ∧ n ≤ 65535) : numOf (Lib.itoa n) = some n := by
  have e : Lib.itoa n = Lib.decDigits n.toNat := by unfold Lib.itoa; rw [if_neg (by omega)]
  have hp := parse_digits n.toNat (by omega)
  have ha : Lib.atoiAll (Lib.itoa n) = .ok n := by
    rw [e]
    cases hd : Lib.decDigits n.toNat with
    | nil => exact absurd hd (decDigits_ne _)
    | cons c r =>
      have hc := decDigits_digit n.toNat c (by rw [hd]; simp)
      unfold Lib.atoiAll
      simp only []
      rw [if_neg (by omega)]
      unfold Lib.parseMag
      rw [if_neg (by simp), ← hd, hp]
      simp only []
      rw [if_neg (by omega), if_neg (by omega), if_neg (by omega)]
      congr 1
      omega
  unfold numOf
  rw [ha]
  simp

/-! What is read is printed as it was. -/
theorem cond_back {y : Bs} {c : CondT} (h : condOf y = some c) : condText c = 32 :: y := by
  unfold condOf at h
  by_cases h0 : Lib.indexAny y opC < 0
  · rw [if_pos h0] at h; cases h
  · rw [if_neg h0] at h
    have hlt := indexAny_lt opC y
    have hmem := indexAny_mem y opC (by omega)
    generalize hk : (Lib.indexAny y opC).toNat = k at *
    have hkl : k < y.length := by omega
    split at h
    · cases h
    · rename_i n hn
      by_cases h1 : idxL fN (y.take k) < 0
      · rw [if_pos h1] at h; cases h
      · rw [if_neg h1] at h
        cases h
        have e1 := idxL_get fN (y.take k) (by omega)
        have e2 : Lib.itoa n = y.drop (k + 1) := by
          unfold numOf at hn
          split at hn
          · split at hn
            · cases hn; assumption
            · cases hn
          · cases hn
        have hge : 0 ≤ Lib.indexByte opC (y.getD k 0) := by
          have := Lib.contains_iff_indexByte opC (y.getD k 0)
          rw [hmem] at this
          simpa using this.symm
        have e3 := indexByte_get opC (y.getD k 0) hge
        have e4 : opSign (1 + Lib.indexByte opC (y.getD k 0)) = y.getD k 0 := by
          unfold opSign
          rw [show (1 + Lib.indexByte opC (y.getD k 0) - 1).toNat = (Lib.indexByte opC (y.getD k 0)).toNat by omega]
          exact e3
        unfold condText fName
        simp only []
        rw [e1, e4, e2]
        congr 1
        have : y.getD k 0 = y[k] := by simp [List.getD_eq_getElem?_getD, hkl]
        rw [this, ← List.drop_eq_getElem_cons hkl, List.take_append_drop]
theorem allOf_flat {α : Type} (f : Bs → Option α) (g : α → Bs) (k : Bs → Bs) (hfg : ∀ x a, f x = some a → g a = k x) : ∀ (l : List Bs) (r : List α), allOf f l = some r → r.flatMap g = l.flatMap k
  | [], r, h => by simp [allOf] at h; subst h; rfl
  | x :: l, r, h => by
    rw [allOf] at h
    cases h1 : f x <;> cases h2 : allOf f l <;> rw [h1, h2] at h <;> simp at h
    subst h
    rw [List.flatMap_cons, List.flatMap_cons, hfg x _ h1, allOf_flat f g k hfg l _ h2]
theorem rule_back {x : Bs} {r : RuleT} (h : ruleOf x = some r) : ruleText r = x ++ [59] := by
  unfold ruleOf at h
  cases hs : splitL 32 x with
  | nil => exact absurd hs (splitL_ne 32 x)
  | cons hd t =>
    rw [hs] at h
    simp only [] at h
    by_cases h1 : idxL vN hd < 0
    · rw [if_pos h1] at h; cases h
    · rw [if_neg h1] at h
      split at h
      · cases h
      · rename_i cs hcs
        cases h
        have e0 := join_split 32 x
        rw [hs, join_heads] at e0
        have e1 := idxL_get vN hd (by omega)
        have e2 := allOf_flat condOf condText (fun y => 32 :: y) (fun y c hc => cond_back hc) t cs hcs
        unfold ruleText vName
        simp only []
        rw [e1, e2, e0]
theorem pol_back {s : Bs} {p : PolT} (h : polOf s = some p) : polText p = s := by
  unfold polOf at h
  split at h
  · cases h
  · rename_i rs hrs
    by_cases h1 : idxL vN ((splitL 59 s).getLast (splitL_ne 59 s)) < 0
    · rw [if_pos h1] at h; cases h
    · rw [if_neg h1] at h
      cases h
      have e0 := join_split 59 s
      rw [← List.dropLast_concat_getLast (splitL_ne 59 s), join_ends] at e0
      have e1 := idxL_get vN _ (by omega : 0 ≤ idxL vN ((splitL 59 s).getLast (splitL_ne 59 s)))
      have e2 := allOf_flat ruleOf ruleText (fun x => x ++ [59]) (fun x r hr => rule_back hr) _ rs hrs
      unfold polText vName
      simp only []
      rw [e1, e2]
      exact e0

/-! What is printed is read. -/
theorem names_clean : (∀ k, k < 5 → ∀ b ∈ vN.getD k [], b ≠ 59 ∧ b ≠ 32) ∧ (∀ k, k < 5 → ∀ b ∈ fN.getD k [], (b ≠ 59 ∧ b ≠ 32) ∧ opC.contains b = false) ∧ (∀ b ∈ opC, b ≠ 59 ∧ b ≠ 32) := by decide
theorem idx_names : (∀ k, k < 5 → idxL vN (vN.getD k []) = (k : Int)) ∧ (∀ k, k < 5 → idxL fN (fN.getD k []) = (k : Int)) ∧ (∀ k, k < 4 → Lib.indexByte opC (opC.getD k 0) = (k : Int) ∧ opC.contains (opC.getD k 0) = true ∧ opC.getD k 0 ∈ opC) := by decide
theorem cond_read {c : CondT} (h : condErr c = 0) : ∃ y, condText c = 32 :: y ∧ condOf y = some c ∧ (59 : UInt8) ∉ y ∧ (32 : UInt8) ∉ y := by
  obtain ⟨f, o, n⟩ := c
  obtain ⟨h1, h2, h3⟩ := condErr_num h
  simp only [] at h1 h2 h3
  obtain ⟨fi, rfl⟩ : ∃ k : Nat, f = k := ⟨f.toNat, by omega⟩
  obtain ⟨oi, rfl⟩ : ∃ k : Nat, o = (k : Int) + 1 := ⟨(o - 1).toNat, by omega⟩
  have hfi : fi < 5 := by omega
  have hoi : oi < 4 := by omega
  obtain ⟨i1, i2, i3⟩ := idx_names
  obtain ⟨n1, n2, n3⟩ := names_clean
  obtain ⟨j1, j2, j3⟩ := i3 oi hoi
  have eF : fName (fi : Int) = fN.getD fi [] := by unfold fName; simp
  have eO : opSign ((oi : Int) + 1) = opC.getD oi 0 := by unfold opSign; simp
  have eN : Lib.itoa n = Lib.decDigits n.toNat := by unfold Lib.itoa; rw [if_neg (by omega)]
  have hdig : ∀ b ∈ Lib.itoa n, b ≠ 59 ∧ b ≠ 32 := by
    rw [eN]
    intro b hb
    have := decDigits_digit _ b hb
    constructor <;> (intro e; subst e; revert this; decide)
  refine ⟨fName fi ++ (opSign ((oi : Int) + 1) :: Lib.itoa n), rfl, ?_, ?_, ?_⟩
  · rw [eF, eO]
    have hat : Lib.indexAny (fN.getD fi [] ++ (opC.getD oi 0 :: Lib.itoa n)) opC = (fN.getD fi []).length := indexAny_at opC _ _ j2 _ fun b hb => (n2 fi hfi b hb).2
    unfold condOf
    rw [hat]
    simp only [Int.toNat_natCast]
    rw [if_neg (by omega), List.take_left, i2 fi hfi]
    have ed : List.drop ((fN.getD fi []).length + 1) (fN.getD fi [] ++ (opC.getD oi 0 :: Lib.itoa n)) = Lib.itoa n := by
      rw [← List.drop_drop, List.drop_left]
      rfl
    have eg : (fN.getD fi [] ++ (opC.getD oi 0 :: Lib.itoa n)).getD (fN.getD fi []).length 0 = opC.getD oi 0 := by
      rw [List.getD_eq_getElem?_getD, List.getElem?_append_right (Nat.le_refl _)]
      simp
    rw [ed, numOf_itoa n h3, eg, j1]
    simp only []
    rw [if_neg (by omega)]
    congr 2
    congr 1
    omega
  · intro hm
    rcases List.mem_append.1 hm with hm | hm
    · rw [eF] at hm; exact (n2 fi hfi _ hm).1.1 rfl
    · rcases List.mem_cons.1 hm with hm | hm
      · rw [eO] at hm; exact (n3 _ j3).1 hm.symm
      · exact (hdig _ hm).1 rfl
  · intro hm
    rcases List.mem_append.1 hm with hm | hm
    · rw [eF] at hm; exact (n2 fi hfi _ hm).1.2 rfl
    · rcases List.mem_cons.1 hm with hm | hm
      · rw [eO] at hm; exact (n3 _ j3).2 hm.symm
      · exact (hdig _ hm).2 rfl
theorem conds_read : ∀ (cs : List CondT), (∀ c ∈ cs, condErr c = 0) → ∃ ys : List Bs, cs.flatMap condText = ys.flatMap (fun y => 32 :: y) ∧ allOf condOf ys = some cs ∧ ∀ y ∈ ys, (59 : UInt8) ∉ y ∧ (32 : UInt8) ∉ y
  | [], _ => ⟨[], rfl, rfl, fun y h => by cases h⟩
  | c :: cs, h => by
    obtain ⟨y, e1, e2, e3, e4⟩ := cond_read (h c (by simp))
    obtain ⟨ys, k1, k2, k3⟩ := conds_read cs fun d hd => h d (by simp [hd])
    refine ⟨y :: ys, by rw [List.flatMap_cons, List.flatMap_cons, e1, k1], by rw [allOf, e2, k2], fun z hz => ?_⟩
    rcases List.mem_cons.1 hz with rfl | hz
    · exact ⟨e3, e4⟩
    · exact k3 z hz
theorem rule_read {r : RuleT} (h : ruleErr r = 0) : ∃ x, ruleText r = x ++ [59] ∧ ruleOf x = some r ∧ (59 : UInt8) ∉ x := by
  obtain ⟨cs, v⟩ := r
  obtain ⟨_, hv, hc⟩ := ruleErr_all h
  simp only [] at hv hc
  obtain ⟨vi, rfl⟩ : ∃ k : Nat, v = k := ⟨v.toNat, by omega⟩
  have hvi : vi < 5 := by omega
  have eV : vName (vi : Int) = vN.getD vi [] := by unfold vName; simp
  obtain ⟨i1, _, _⟩ := idx_names
  obtain ⟨n1, _, _⟩ := names_clean
  obtain ⟨ys, k1, k2, k3⟩ := conds_read cs hc
  refine ⟨vName vi ++ cs.flatMap condText, rfl, ?_, ?_⟩
  · have hs : splitL 32 (vName vi ++ cs.flatMap condText) = vName vi :: ys := by
      rw [k1]
      exact splitL_heads 32 ys _ (fun hm => by rw [eV] at hm; exact (n1 vi hvi _ hm).2 rfl) fun y hy => (k3 y hy).2
    unfold ruleOf
    rw [hs]
    simp only []
    rw [eV, i1 vi hvi, if_neg (by omega), k2]
  · intro hm
    rcases List.mem_append.1 hm with hm | hm
    · rw [eV] at hm; exact (n1 vi hvi _ hm).1 rfl
    · rw [k1] at hm
      obtain ⟨y, hy, hm⟩ := List.mem_flatMap.1 hm
      rcases List.mem_cons.1 hm with hm | hm
      · exact absurd hm (by decide)
      · exact (k3 y hy).1 hm
theorem rules_read : ∀ (rs : List RuleT), (∀ r ∈ rs, ruleErr r = 0) → ∃ xs : List Bs, rs.flatMap ruleText = xs.flatMap (fun x => x ++ [59]) ∧ allOf ruleOf xs = some rs ∧ ∀ x ∈ xs, (59 : UInt8) ∉ x
  | [], _ => ⟨[], rfl, rfl, fun y h => by cases h⟩
  | r :: rs, h => by
    obtain ⟨y, e1, e2, e3⟩ := rule_read (h r (by simp))
    obtain ⟨ys, k1, k2, k3⟩ := rules_read rs fun d hd => h d (by simp [hd])
    refine ⟨y :: ys, by rw [List.flatMap_cons, List.flatMap_cons, e1, k1], by rw [allOf, e2, k2], fun z hz => ?_⟩
    rcases List.mem_cons.1 hz with rfl | hz
    · exact e3
    · exact k3 z hz
theorem pol_read {p : PolT} (h : polErr p = 0) : polOf (polText p) = some p := by
  obtain ⟨rs, d⟩ := p
  obtain ⟨_, hd, hr⟩ := polErr_all h
  simp only [] at hd hr
  obtain ⟨di, rfl⟩ : ∃ k : Nat, d = k := ⟨d.toNat, by omega⟩
  have hdi : di < 5 := by omega
  have eV : vName (di : Int) = vN.getD di [] := by unfold vName; simp
  obtain ⟨i1, _, _⟩ := idx_names
  obtain ⟨n1, _, _⟩ := names_clean
  obtain ⟨xs, k1, k2, k3⟩ := rules_read rs hr
  have hs : splitL 59 (polText (rs, (di : Int))) = xs ++ [vName di] := by
    unfold polText
    simp only []
    rw [k1]
    exact splitL_ends 59 xs _ k3 fun hm => by rw [eV] at hm; exact (n1 di hdi _ hm).1 rfl
  rw [polOf_parts hs, k2]
  simp only []
  rw [eV, i1 di hdi, if_neg (by omega)]

end Go.Proofs.YthpllmhnpbigiaaDoor
