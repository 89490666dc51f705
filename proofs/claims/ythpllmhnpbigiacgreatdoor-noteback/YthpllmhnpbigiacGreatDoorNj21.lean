/- Joined: PRB0 Nte0 NtK. -/
import Derived.Test.YthpllmhnpbigiacGreatDoorNj10
import Derived.Test.YthpllmhnpbigiacGreatDoorNj20
import Derived.Test.YthpllmhnpbigiacGreatDoorNj06
import Derived.Test.YthpllmhnpbigiacGreatDoorNj19
import Derived.Laws.ResultCell
import Derived.Test.YthpllmhnpbigiacGreatDoorNj14
import Derived.Test.YthpllmhnpbigiacGreatDoorNj17
section
/- The counterpart's reader at any text: plain facts, its small closure, rows that are a policy. -/
set_option linter.all false
set_option maxRecDepth 100000
namespace Go.Proofs.YthpllmhnpbigiacGreatDoor
open Go.RowKit Go.Maps

theorem parse_none {l : Bs} (hl : l.length ≤ 60000) (h : polOf l = none) : parseR l = (([], 0), 1) := by
  unfold parseR
  rw [if_neg (by omega), h]
theorem parse_some {l : Bs} {p : PolT} (hl : l.length ≤ 60000) (h : polOf l = some p) : parseR l = if polErr p = 0 then (p, 0) else (([], 0), polErr p) := by
  unfold parseR
  rw [if_neg (by omega), h]
theorem pol_badRule {l x : Bs} {i : Nat} (h : (splitL 59 l)[i]? = some x) (hi : i + 1 < (splitL 59 l).length) (hr : ruleOf x = none) : polOf l = none := by
  unfold polOf
  rw [allOf_none ruleOf _ i x (by rw [List.getElem?_dropLast, if_pos (by omega)]; exact h) hr]
theorem pol_last {l x : Bs} {i : Nat} (h : (splitL 59 l)[i]? = some x) (hi : i + 1 = (splitL 59 l).length) : (splitL 59 l).getLast (splitL_ne 59 l) = x := by
  have h1 := List.getLast?_eq_some_getLast (splitL_ne 59 l)
  rw [List.getLast?_eq_getElem?, ← hi, Nat.add_sub_cancel, h] at h1
  exact (Option.some.inj h1).symm
theorem pol_badLast {l x : Bs} {i : Nat} (h : (splitL 59 l)[i]? = some x) (hi : i + 1 = (splitL 59 l).length) (hx : idxL vN x < 0) : polOf l = none := by
  unfold polOf
  rw [pol_last h hi]
  cases allOf ruleOf (splitL 59 l).dropLast with
  | none => rfl
  | some rs => simp only []; rw [if_pos hx]
theorem pol_good {l x : Bs} {i : Nat} {rs : List RuleT} (h : (splitL 59 l)[i]? = some x) (hi : i + 1 = (splitL 59 l).length) (ha : allOf ruleOf ((splitL 59 l).take i) = some rs) (hx : 0 ≤ idxL vN x) : polOf l = some (rs, idxL vN x) := by
  unfold polOf
  rw [pol_last h hi, List.dropLast_eq_take, ← hi, Nat.add_sub_cancel, ha]
  simp only []
  rw [if_neg (by omega)]
theorem rule_bad {x h : Bs} {t : List Bs} (hs : splitL 32 x = h :: t) (hv : idxL vN h < 0) : ruleOf x = none := by
  unfold ruleOf
  rw [hs]
  simp only []
  rw [if_pos hv]
theorem rule_badWord {x h u : Bs} {t : List Bs} {j : Nat} (hs : splitL 32 x = h :: t) (hu : t[j]? = some u) (hc : condOf u = none) : ruleOf x = none := by
  unfold ruleOf
  rw [hs]
  simp only []
  rw [allOf_none condOf t j u hu hc]
  simp
theorem rule_good {x h : Bs} {t : List Bs} {cs : List CondT} (hs : splitL 32 x = h :: t) (hv : 0 ≤ idxL vN h) (ha : allOf condOf t = some cs) : ruleOf x = some (cs, idxL vN h) := by
  unfold ruleOf
  rw [hs]
  simp only []
  rw [if_neg (by omega), ha]
theorem indexAny_free : ∀ (l cs : Bs) (i : Nat), i < l.length → (Lib.indexAny l cs < 0 ∨ (i : Int) < Lib.indexAny l cs) → cs.contains (l.getD i 0) = false
  | [], _, _, h, _ => by simp at h
  | b :: r, cs, i, hi, h => by
    have hge := Lib.indexAny_ge cs r
    unfold Lib.indexAny at h
    by_cases hb : cs.contains b = true
    · rw [if_pos hb] at h; omega
    · rw [if_neg hb] at h
      cases i with
      | zero => simpa using hb
      | succ i =>
        have ih := indexAny_free r cs i (by simpa using hi)
        rw [List.getD_cons_succ]
        refine ih ?_
        by_cases h2 : (Lib.indexAny r cs == -1) = true
        · left
          have : Lib.indexAny r cs = -1 := by simpa using h2
          omega
        · rw [if_neg h2] at h
          have : Lib.indexAny r cs ≠ -1 := by simpa using h2
          omega
/-- Where a condition's sign stands, and what the condition is. -/
theorem opIdx (l : Bs) : ∃ K : Nat, K ≤ l.length ∧ (∀ i, i < K → opNum (l.getD i 0) = 0) ∧ ((K = l.length ∧ condOf l = none) ∨ (K < l.length ∧ opNum (l.getD K 0) ≠ 0 ∧ condOf l = match numOf (l.drop (K + 1)) with
    | none => none
    | some n => if idxL fN (l.take K) < 0 then none else some (idxL fN (l.take K), opNum (l.getD K 0), n))) := by
  have hge := Lib.indexAny_ge opC l
  have hlt := indexAny_lt opC l
  by_cases h : Lib.indexAny l opC < 0
  · refine ⟨l.length, Nat.le_refl _, fun i hi => (opNum_zero _).2 (indexAny_free l opC i hi (.inl h)), .inl ⟨rfl, ?_⟩⟩
    unfold condOf
    rw [if_pos h]
  · obtain ⟨K, hK⟩ : ∃ K : Nat, Lib.indexAny l opC = K := ⟨(Lib.indexAny l opC).toNat, by omega⟩
    have hm := indexAny_mem l opC (by omega)
    rw [hK, Int.toNat_natCast] at hm
    refine ⟨K, by omega, fun i hi => (opNum_zero _).2 (indexAny_free l opC i (by omega) (.inr (by omega))), .inr ⟨by omega, fun e => ?_, ?_⟩⟩
    · rw [(opNum_zero _).1 e] at hm
      cases hm
    · have e : opNum (l.getD K 0) = 1 + Lib.indexByte opC (l.getD K 0) := by unfold opNum; rw [if_pos hm]
      unfold condOf
      rw [hK, if_neg (by omega), Int.toNat_natCast, e]
      rfl
theorem allOf_mem {α : Type} (f : Bs → Option α) : ∀ (l : List Bs) (r : List α), allOf f l = some r → ∀ a ∈ r, ∃ w ∈ l, f w = some a
  | [], r, h, a, ha => by simp [allOf] at h; subst h; cases ha
  | x :: l, r, h, a, ha => by
    rw [allOf] at h
    cases h1 : f x <;> cases h2 : allOf f l <;> rw [h1, h2] at h <;> simp at h
    subst h
    rcases List.mem_cons.1 ha with rfl | ha
    · exact ⟨x, by simp, h1⟩
    · obtain ⟨w, hw, e⟩ := allOf_mem f l _ h2 a ha
      exact ⟨w, by simp [hw], e⟩
def CondWf (c : CondT) : Prop := wf c.1 ∧ wf c.2.1 ∧ wf c.2.2
def RuleWf (r : RuleT) : Prop := wf r.2 ∧ ∀ c ∈ r.1, CondWf c
theorem ruleOf_all {l : Bs} {r : RuleT} (h : ruleOf l = some r) : RuleWf r := by
  refine ⟨ruleOf_wf h, fun c hc => ?_⟩
  unfold ruleOf at h
  split at h
  · cases h
  · split at h
    · cases h
    · split at h
      · cases h
      · rename_i cs ha
        cases h
        obtain ⟨w, _, e⟩ := allOf_mem condOf _ _ ha c hc
        exact condOf_wf e
theorem condsAt_w {B base : Nat} {w : World} {cv : Value} {cs : List CondT} (h : w.ownsRow base 64 3 cv cs.length (condCells cs)) (hok : ∀ c ∈ cs, CondWf c) (hB : w.heap.size ≤ B) : CondsAt B w cv cs := by
  obtain ⟨a, cap, rfl, h1, h2, h3⟩ := ownsRow_caps h
  refine ⟨a, cap, rfl, h1, h2, fun i c hc => ?_⟩
  have hi : i < cs.length := (List.getElem?_eq_some_iff.1 hc).1
  obtain ⟨g, rfl, hg1, hg2⟩ := h3 (by omega)
  obtain ⟨e0, e1, e2⟩ := condCells_get cs i c hc
  obtain ⟨w0, w1, w2⟩ := hok c (List.mem_of_getElem? hc)
  refine ⟨g, 0, rfl, by omega, ?_, ?_, ?_, w0, w1, w2⟩
  · rw [Nat.zero_add]; exact ownsRow_cell h _ _ e0
  · rw [Nat.zero_add]; exact ownsRow_cell h _ _ e1
  · rw [Nat.zero_add]; exact ownsRow_cell h _ _ e2
theorem rulesAt_w {B base : Nat} {w : World} {rv : Value} {rs : List RuleT} {xs : List Value} (h : w.ownsRow base 60 2 rv rs.length xs) (hx : RulesCells base w rs xs) (hok : ∀ r ∈ rs, RuleWf r) (hB : w.heap.size ≤ B) : RulesAt B w rv rs := by
  obtain ⟨a, cap, rfl, h1, h2, h3⟩ := ownsRow_caps h
  refine ⟨a, cap, rfl, h1, h2, fun i r hr => ?_⟩
  have hi : i < rs.length := (List.getElem?_eq_some_iff.1 hr).1
  obtain ⟨g, rfl, hg1, hg2⟩ := h3 (by omega)
  obtain ⟨cv, e0, e1, hc⟩ := RulesCells.get rs xs i r hx hr
  obtain ⟨k2, k3⟩ := hok r (List.mem_of_getElem? hr)
  refine ⟨g, 0, rfl, by omega, cv, ?_, ?_, k2, condsAt_w hc k3 hB⟩
  · rw [Nat.zero_add]; exact ownsRow_cell h _ _ e0
  · rw [Nat.zero_add]; exact ownsRow_cell h _ _ e1
theorem polAt_w {B base : Nat} {w : World} {rv : Value} {rs : List RuleT} {d : Int} {xs : List Value} (h : w.ownsRow base 60 2 rv rs.length xs) (hx : RulesCells base w rs xs) (hok : ∀ r ∈ rs, RuleWf r) (hd : wf d) (hB : w.heap.size ≤ B) : PolAt B w (.agg #[rv, .int .i64 d]) (rs, d) :=
  ⟨rv, rfl, hd, rulesAt_w h hx hok hB⟩

set_option maxHeartbeats 2000000 in
theorem bad_any (e : Int) (w : World) : Calls Tryz.prog 93 #[.int .i64 e] w fun r w' => r = .returned (.tuple #[.agg #[.slice none 0 0, .int .i64 0], .int .i64 e]) ∧ Below w.heap.size w w' := by
  go_enter Tryz.func93, Tryz.ntmps93
  go_wp2_with fail
  have HR := (MapKept.heap_alloc w (.cells #[.slice none 0 0, .int .i64 0] 24)).1
  obtain ⟨z0, z1, _, _⟩ := cell_of_two HR
  refine bodyPost_ret (v := .tuple #[.agg #[.slice none 0 0, .int .i64 0], .int .i64 e]) ?_ rfl ⟨rfl, (Below.refl _ _).alloc (Nat.le_refl _) _⟩
  rw [results_cell_tmp rfl]
  go_simp
theorem bad_exit {w wx : World} {R0 : Nat} (hb : Below R0 w wx) (h : wx.heap[R0]? = some (.cells #[.slice none 0 0, .int .i64 0] 24 (0, 0))) :
    Below R0 w ((wx.setCell ⟨R0, 0, none⟩ (.slice none 0 0)).setCell ⟨R0, 1, none⟩ (.int .i64 0)) ∧
    ((wx.setCell ⟨R0, 0, none⟩ (.slice none 0 0)).setCell ⟨R0, 1, none⟩ (.int .i64 0)).cell? ⟨R0, 0, none⟩ = some (.slice none 0 0) ∧
    ((wx.setCell ⟨R0, 0, none⟩ (.slice none 0 0)).setCell ⟨R0, 1, none⟩ (.int .i64 0)).cell? ⟨R0, 1, none⟩ = some (.int .i64 0) := by
  obtain ⟨z0, z1, _, _⟩ := cell_of_two (two_setCell1 (u := .int .i64 0) (two_setCell (u := .slice none 0 0) h))
  exact ⟨(hb.setCell (p := ⟨R0, 0, none⟩) (Nat.le_refl _) _).setCell (p := ⟨R0, 1, none⟩) (Nat.le_refl _) _, z0, z1⟩

end Go.Proofs.YthpllmhnpbigiacGreatDoor
end
section
/- Records and their texts: plain data. -/
set_option linter.all false
namespace Go.Proofs.YthpllmhnpbigiacGreatDoor

def kN : List Bs := [[111, 112, 101, 110], [116, 105, 103, 104, 116], [102, 111, 114, 107], [115, 104, 117, 116]]
def recText (r : RecT) : Bs := kN.getD (r.1 - 1).toNat [] ++ 32 :: (Lib.itoa r.2.1 ++ (if r.1 = 3 then 32 :: Lib.itoa r.2.2.1 else if r.1 = 4 then [] else 32 :: polText r.2.2.2))
def printT (r : RecT) : Bs := if recErr r = 0 then recText r else []
/-- The first blank parts a text. -/
def cutSp : Bs → Option (Bs × Bs)
  | [] => none
  | b :: l => if b = 32 then some ([], l) else match cutSp l with
    | none => none
    | some (a, t) => some (b :: a, t)
def split3 (s : Bs) : List Bs := match cutSp s with
  | none => [s]
  | some (a, t) => match cutSp t with
    | none => [a, t]
    | some (b, u) => [a, b, u]
def finRec (r : RecT) : RecT × Int := if recErr r = 0 then (r, 0) else (zeroRec, recErr r)
/-- What a record's text is read as. -/
def recOf (s : Bs) : RecT × Int :=
  if idxL kN ((split3 s).getD 0 []) < 0 ∨ (idxL kN ((split3 s).getD 0 []) = 3 ∧ (split3 s).length ≠ 2) ∨ (idxL kN ((split3 s).getD 0 []) < 3 ∧ (split3 s).length ≠ 3) then (zeroRec, 1)
  else match numOf ((split3 s).getD 1 []) with
    | none => (zeroRec, 1)
    | some c => if idxL kN ((split3 s).getD 0 []) = 2 then (match numOf ((split3 s).getD 2 []) with
        | none => (zeroRec, 1)
        | some f => finRec (3, c, f, [], 0))
      else if idxL kN ((split3 s).getD 0 []) = 3 then finRec (4, c, 0, [], 0)
      else if (parseR ((split3 s).getD 2 [])).2 = 0 then finRec (idxL kN ((split3 s).getD 0 []) + 1, c, 0, (parseR ((split3 s).getD 2 [])).1)
      else (zeroRec, (parseR ((split3 s).getD 2 [])).2)

theorem cutSp_hit : ∀ (a t : Bs), (32 : UInt8) ∉ a → cutSp (a ++ 32 :: t) = some (a, t)
  | [], t, _ => rfl
  | b :: a, t, h => by
    have hb : b ≠ 32 := fun e => h (by simp [e])
    show (if b = 32 then some ([], a ++ 32 :: t) else match cutSp (a ++ 32 :: t) with | none => none | some (a, t) => some (b :: a, t)) = _
    rw [if_neg hb, cutSp_hit a t fun e => h (by simp [e])]
theorem cutSp_miss : ∀ (a : Bs), (32 : UInt8) ∉ a → cutSp a = none
  | [], _ => rfl
  | b :: a, h => by
    have hb : b ≠ 32 := fun e => h (by simp [e])
    show (if b = 32 then some ([], a) else match cutSp a with | none => none | some (a, t) => some (b :: a, t)) = _
    rw [if_neg hb, cutSp_miss a fun e => h (by simp [e])]
theorem cutSp_some : ∀ {s a t : Bs}, cutSp s = some (a, t) → s = a ++ 32 :: t ∧ (32 : UInt8) ∉ a
  | [], a, t, h => by cases h
  | b :: s, a, t, h => by
    have h' : (if b = 32 then some ([], s) else match cutSp s with | none => none | some (a, t) => some (b :: a, t)) = some (a, t) := h
    by_cases hb : b = 32
    · rw [if_pos hb] at h'
      cases h'
      exact ⟨by rw [hb]; rfl, by simp⟩
    · rw [if_neg hb] at h'
      cases hc : cutSp s with
      | none => rw [hc] at h'; cases h'
      | some x =>
        obtain ⟨a', t'⟩ := x
        rw [hc] at h'
        cases h'
        obtain ⟨e, hn⟩ := cutSp_some hc
        exact ⟨by rw [e]; rfl, by simp; exact ⟨fun e => hb e.symm, hn⟩⟩
theorem cutSp_none {s : Bs} (h : cutSp s = none) : (32 : UInt8) ∉ s := by
  intro hm
  obtain ⟨a, t, e, hn⟩ : ∃ a t, s = a ++ 32 :: t ∧ (32 : UInt8) ∉ a := by
    clear h
    induction s with
    | nil => cases hm
    | cons b s ih =>
      by_cases hb : b = 32
      · exact ⟨[], s, by rw [hb]; rfl, by simp⟩
      · rcases List.mem_cons.1 hm with e | hm
        · exact absurd e.symm hb
        · obtain ⟨a, t, e, hn⟩ := ih hm
          exact ⟨b :: a, t, by rw [e]; rfl, by simp; exact ⟨fun e => hb e.symm, hn⟩⟩
  rw [e, cutSp_hit a t hn] at h
  cases h
theorem itoa_clean {n : Int} (h : 0 ≤ n) : (32 : UInt8) ∉ Lib.itoa n := by
  have e : Lib.itoa n = Lib.decDigits n.toNat := by unfold Lib.itoa; rw [if_neg (by omega)]
  rw [e]
  intro hm
  have := decDigits_digit _ _ hm
  have h32 : (32 : UInt8).toNat = 32 := rfl
  omega
theorem kN_clean : ∀ k, k < 4 → (32 : UInt8) ∉ kN.getD k [] := by decide
theorem kN_idx : ∀ k, k < 4 → idxL kN (kN.getD k []) = (k : Int) := by decide

end Go.Proofs.YthpllmhnpbigiacGreatDoor
end
section
/- The names of the kinds of records, in memory. -/
set_option linter.all false
set_option maxRecDepth 100000
namespace Go.Proofs.YthpllmhnpbigiacGreatDoor
open Go.RowKit Go.Maps

def kC : Array Value := #[.string ⟨#[111, 112, 101, 110]⟩, .string ⟨#[116, 105, 103, 104, 116]⟩, .string ⟨#[102, 111, 114, 107]⟩, .string ⟨#[115, 104, 117, 116]⟩]
theorem kindNames_any (w : World) : Calls Tryz.prog 39 #[] w fun e w' => e = .returned (.slice (some ⟨w.heap.size, 0, none⟩) 4 4) ∧ w' = w.alloc (.cells kC 9) := by
  go_enter Tryz.func39, Tryz.ntmps39
  go_wp2
  go_ret
  exact ⟨rfl, rfl⟩
theorem kC_at {i : Nat} (h : i < 4) : kC[i]? = some (.string (bsB (kN.getD i []))) := by
  have : i = 0 ∨ i = 1 ∨ i = 2 ∨ i = 3 := by omega
  rcases this with rfl | rfl | rfl | rfl <;> rfl
theorem kNm_len (i : Nat) : (kN.getD i []).length ≤ 5 := by
  match i with
  | 0 => decide
  | 1 => decide
  | 2 => decide
  | 3 => decide
  | i + 4 => simp [kN]
theorem kN_full {i : Nat} (h : i < 4) : kN.getD i [] ≠ [] := by
  have : i = 0 ∨ i = 1 ∨ i = 2 ∨ i = 3 := by omega
  rcases this with rfl | rfl | rfl | rfl <;> decide
theorem idx_lt (x : Bs) : idxL kN x < 4 := by
  have : ∀ (l : List Bs) (x : Bs), idxL l x < l.length := by
    intro l x
    induction l with
    | nil => simp [idxL]
    | cons n r ih =>
      unfold idxL
      simp only [List.length_cons]
      split
      · omega
      · split <;> omega
  exact this kN x
theorem index_kinds (b : Nat) (x : ByteArray) (w : World) (h : NamesAt b kC w) :
    Calls Tryz.prog 111 #[.slice (some ⟨b, 0, none⟩) 4 4, .string x] w fun e w' => e = .returned (.int .i64 (idxL kN x.data.toList)) ∧ w' = w := by
  have := Tryz.slices_Index_string b 0 4 4 (kN.map bsB) x w (by simp [kN]) (by decide) (fun j hj => by
    rw [Nat.zero_add]
    refine h j _ ?_
    have hj' : j < 4 := by have : j < kN.length := by simpa using hj
                           exact this
    rw [kC_at hj']
    have e : kN[j]? = some (kN[j]'hj') := List.getElem?_eq_getElem hj'
    simp [List.getD, e])
  rw [List.take_of_length_le (by simp [kN]), idxOfS_idxL] at this
  exact this
set_option maxHeartbeats 1000000 in
theorem readKind_any (x : ByteArray) (w : World) :
    Calls Tryz.prog 79 #[.string x] w fun e w' => e = .returned (.tuple #[.int .i64 (1 + idxL kN x.data.toList), .bool (decide (0 ≤ idxL kN x.data.toList))]) ∧ Below w.heap.size w w' := by
  have HI : Hid (Calls Tryz.prog 111 #[.slice (some ⟨w.heap.size, 0, none⟩) 4 4, .string x] (w.alloc (.cells kC 9)) fun e w'' => e = .returned (.int .i64 (idxL kN x.data.toList)) ∧ w'' = w.alloc (.cells kC 9)) := index_kinds w.heap.size x _ (NamesAt.made w kC 9)
  have hb : Hid (Below w.heap.size w (w.alloc (.cells kC 9))) := (Below.refl _ _).alloc (Nat.le_refl _) _
  have h1 := idxL_ge kN x.data.toList
  have h2 := idx_lt x.data.toList
  generalize idxL kN x.data.toList = ix at *
  have hwr : IntKind.i64.wrap (1 + ix) = 1 + ix := IntWalk.i64_in _ (by omega)
  clear h1 h2
  go_enter Tryz.func79, Tryz.ntmps79
  go_wp2_with fail
  go_at_call 39
  refine Calls.mono (kindNames_any _) ?_
  rintro e w1 ⟨rfl, rfl⟩
  generalize hW : w.alloc (.cells kC 9) = W at *
  go_wp2_with fail
  go_at_call 111
  refine Calls.mono HI.out ?_
  rintro e w2 ⟨rfl, rfl⟩
  go_wp2_with fail
  go_ret2
  exact ⟨rfl, hb.out⟩
theorem wordsOf_four (w : World) : Calls Tryz.prog 80 #[.int .i64 4] w fun e w' => e = .returned (.int .i64 2) ∧ w' = w := by
  go_enter Tryz.func80, Tryz.ntmps80
  go_wp2
  go_ret
  exact ⟨rfl, rfl⟩
theorem wordsOf_less {k : Int} (h : k < 4) (w : World) : Calls Tryz.prog 80 #[.int .i64 k] w fun e w' => e = .returned (.int .i64 3) ∧ w' = w := by
  have hk : (k == 4) = false := by simp; omega
  clear h
  go_enter Tryz.func80, Tryz.ntmps80
  go_wp2
  go_ret
  exact ⟨rfl, rfl⟩
end Go.Proofs.YthpllmhnpbigiacGreatDoor
end
