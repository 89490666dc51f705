/- The counterpart's reader at a text that is written as it should be: it is read. -/
import Derived.Test.YthpllmhnpbigiacGreatDoorNj03
import Derived.Test.YthpllmhnpbigiacGreatDoorNj04
import Derived.StringKeys
import Derived.Deep.DeepMust
set_option linter.all false
namespace Go.Proofs.YthpllmhnpbigiacGreatDoor
open Go.RowKit Go.Maps

theorem keyStr : Maps.Keyed Tryz.prog 9 := Maps.string_keyed Tryz.underlying9
theorem keyU8 : Maps.Keyed Tryz.prog 5 := Maps.int_keyed Tryz.underlying5

/-- What the reader's three small maps hold. -/
def D1 : DataW Unit := (((((DataW.map []).put (.string [107, 105, 108, 108]) (.lit (.int .i64 0))).put (.string [116, 114, 97, 112]) (.lit (.int .i64 1))).put (.string [102, 97, 105, 108]) (.lit (.int .i64 2))).put (.string [108, 111, 103]) (.lit (.int .i64 3))).put (.string [97, 108, 108, 111, 119]) (.lit (.int .i64 4))
def D2 : DataW Unit := (((((DataW.map []).put (.string [110, 114]) (.lit (.int .i64 0))).put (.string [107, 105, 110, 100]) (.lit (.int .i64 1))).put (.string [97]) (.lit (.int .i64 2))).put (.string [98]) (.lit (.int .i64 3))).put (.string [99]) (.lit (.int .i64 4))
def D3 : DataW Unit := ((((DataW.map []).put (.int .u8 61) (.lit (.int .i64 1))).put (.int .u8 33) (.lit (.int .i64 2))).put (.int .u8 60) (.lit (.int .i64 3))).put (.int .u8 62) (.lit (.int .i64 4))
def zed : DataW Unit := .lit (.int .i64 0)

def semi : ByteArray := ⟨#[59]⟩
def blank : ByteArray := ⟨#[32]⟩
/-- A condition as it should be written: a field, an operation, a small number. -/
def GoodWord (u : ByteArray) (c : CondT) : Prop := ∃ (K m : Nat), K < u.size ∧ u.size < 4294967281 ∧
  (∀ i, i < K → D3.atKey (.int .u8 (u.data.toList.getD i 0).toNat) zed = zed) ∧
  D3.atKey (.int .u8 (u.data.toList.getD K 0).toNat) zed = .lit (.int .i64 c.2.1) ∧ c.2.1 ≠ 0 ∧
  Maps.has D2 (.string (u.data.toList.take K)) = true ∧ D2.atKey (.string (u.data.toList.take K)) zed = .lit (.int .i64 c.1) ∧
  c.2.2 = m ∧ m < 100 ∧ Lib.parseIntB 64 (u.data.toList.drop (K + 1)) = .ok (m : Int) ∧ Lib.decDigits m = u.data.toList.drop (K + 1)
def GoodRule (t : ByteArray) (r : RuleT) : Prop := ∃ w0 ws, Lib.splitB blank 0 (Lib.countB t blank) t = w0 :: ws ∧ Lib.countB t blank = ws.length ∧ t.size < 4294967281 ∧
  Maps.has D1 (.string w0.data.toList) = true ∧ D1.atKey (.string w0.data.toList) zed = .lit (.int .i64 r.2) ∧ w0.size ≤ maxLen ∧ ws.length = r.1.length ∧ 0 < ws.length ∧ ∀ (j : Nat) u c, ws[j]? = some u → r.1[j]? = some c → GoodWord u c
def GoodText (d : Int) : List RuleT → ByteArray → Prop
  | [], s => s.size < 4294967281 ∧ Lib.cut s.data.toList [59] = (s.data.toList, [], false) ∧ Lib.splitB blank 0 (Lib.countB s blank) s = [s] ∧ Lib.countB s blank = 0 ∧ Maps.has D1 (.string s.data.toList) = true ∧ D1.atKey (.string s.data.toList) zed = .lit (.int .i64 d)
  | r :: rs, s => ∃ t s', s.size < 4294967281 ∧ Lib.cut s.data.toList [59] = (t.data.toList, s'.data.toList, true) ∧ s'.size < s.size ∧ GoodRule t r ∧ GoodText d rs s'

def condCells (cs : List CondT) : List Value := cs.flatMap fun c => [.int .i64 c.1, .int .i64 c.2.1, .int .i64 c.2.2]
/-- The rules that are read so far, in the row that grows; their conditions in rows of their own. -/
def RulesCells (B : Nat) (w : World) : List RuleT → List Value → Prop
  | [], xs => xs = []
  | r :: rs, xs => ∃ cv ys, xs = cv :: .int .i64 r.2 :: ys ∧ w.ownsRow B 64 3 cv r.1.length (condCells r.1) ∧ RulesCells B w rs ys

theorem toArray_toList (s : ByteArray) : (⟨s.data.toList.toArray⟩ : ByteArray) = s := by simp
theorem cut_good (s t s' : ByteArray) (q : Bool) (m : Int) (w : World) (hs : s.size < 4294967281) (hm : w.cell? ⟨3, 0, none⟩ = some (.int .i64 m)) (h : Lib.cut s.data.toList [59] = (t.data.toList, s'.data.toList, q)) :
    Calls Tryz.prog 94 #[.string s, .string ⟨#[59]⟩] w fun e w' => e = .returned (.tuple #[.string t, .string s', .bool q]) ∧ Below w.heap.size w w' := by
  refine (Tryz.strings_Cut s ⟨#[59]⟩ m w hs hm).mono fun e w' ⟨he, n, hw⟩ => ?_
  have e59 : (⟨#[59]⟩ : ByteArray).data.toList = [59] := rfl
  rw [e59, h] at he
  simp only [toArray_toList] at he
  subst hw
  exact ⟨he, Below.drewN_ (Below.refl _ _) n⟩
theorem split_good (t : ByteArray) (ws : List ByteArray) (n : Nat) (m : Int) (w : World) (hs : t.size < 4294967281) (hm : w.cell? ⟨3, 0, none⟩ = some (.int .i64 m)) (hc : Lib.countB t blank = n) (h : Lib.splitB blank 0 (Lib.countB t blank) t = ws) :
    Calls Tryz.prog 95 #[.string t, .string ⟨#[32]⟩] w fun e w' => ∃ SB, e = .returned (.slice (some ⟨SB, 0, none⟩) (n + 1) (n + 1)) ∧ Below w.heap.size w w' ∧ w.heap.size ≤ SB ∧ SB < w'.heap.size ∧ ∀ j u, ws[j]? = some u → w'.cell? ⟨SB, j, none⟩ = some (.string u) := by
  refine (Tryz.strings_Split t ⟨#[32]⟩ m w hs hm (by decide)).mono fun e w' ⟨he, hw⟩ => ?_
  change e = .returned (.slice (some ⟨w.heap.size, 0, none⟩) (Lib.countB t blank + 1) (Lib.countB t blank + 1)) at he
  change w' = w.alloc (.cells ((Lib.splitB blank 0 (Lib.countB t blank) t).map Value.string).toArray _) at hw
  rw [h] at hw
  rw [hc] at he
  subst hw
  refine ⟨w.heap.size, he, (Below.refl _ _).alloc (Nat.le_refl _) _, Nat.le_refl _, by simp, fun j u hj => ?_⟩
  simp [go_sem, hj]

theorem ownsMap_below {H : Type} {P : Program} {k : TypeId} {R : Value → Option (DataW H × List MemPlace)} {b n B : Nat} {D : DataW H} {w w' : World} (h : w.ownsMap P k R b n D) (hb : Below B w w') (hB : b < B) : w'.ownsMap P k R b n D := by
  obtain ⟨es, clock, h1, F, hs, hD⟩ := h
  exact ⟨es, clock, (hb.block b hB).trans h1, F, hs, hD⟩
theorem getD_eq (u : ByteArray) (k : Nat) (h : k < u.size) : u.data.toList.getD k 0 = u[k]'h := by
  have h' : k < u.data.toList.length := by simpa using h
  rw [List.getD, List.getElem?_eq_getElem h']
  simp
  rfl
theorem extract_take (u : ByteArray) (k : Nat) : (u.extract 0 k).data.toList = u.data.toList.take k := by
  simp [ByteArray.data_extract]
theorem extract_drop (u : ByteArray) (k : Nat) : (u.extract k u.size).data.toList = u.data.toList.drop k := by
  simp [ByteArray.data_extract]
  exact List.take_of_length_le (by simp)
theorem RulesCells.step {B : Nat} {w w' : World} (hb : ∀ g cur, B ≤ g → w.heap[g]? = some (.cells cur 64 (0, 0)) → w'.heap[g]? = w.heap[g]?) : ∀ (rs : List RuleT) (xs : List Value), RulesCells B w rs xs → RulesCells B w' rs xs
  | [], _, h => h
  | r :: rs, xs, h => by
    obtain ⟨cv, ys, rfl, h1, h2⟩ := h
    exact ⟨cv, ys, rfl, ownsRow_block h1 hb, RulesCells.step hb rs ys h2⟩
theorem RulesCells.push {B : Nat} {w : World} (r : RuleT) (cv : Value) (hc : w.ownsRow B 64 3 cv r.1.length (condCells r.1)) : ∀ (rs : List RuleT) (xs : List Value), RulesCells B w rs xs → RulesCells B w (rs ++ [r]) (xs ++ [cv, .int .i64 r.2])
  | [], xs, h => by
    have h : xs = [] := h
    subst h
    exact ⟨cv, [], rfl, hc, rfl⟩
  | r' :: rs, xs, h => by
    obtain ⟨cv', ys, rfl, h1, h2⟩ := h
    exact ⟨cv', ys ++ [cv, .int .i64 r.2], rfl, h1, RulesCells.push r cv hc rs ys h2⟩
theorem infoCond : ∃ i, Tryz.prog.info? 64 = some i ∧ i.zero = some (.agg #[.int .i64 0, .int .i64 0, .int .i64 0]) ∧ i.size = 3 ∧ i.bytes = 24 := infoOf (by kernel_rfl)
theorem infoRule : ∃ i, Tryz.prog.info? 60 = some i ∧ i.zero = some (.agg #[.slice none 0 0, .int .i64 0]) ∧ i.size = 2 ∧ i.bytes = 32 := infoOf (by kernel_rfl)
theorem two_setCell {w : World} {b : Nat} {v x u : Value} {t : TypeId} (h : w.heap[b]? = some (.cells #[v, x] t (0, 0))) : (w.setCell ⟨b, 0, none⟩ u).heap[b]? = some (.cells #[u, x] t (0, 0)) := by
  have hlt := lt_of_block h
  have h' : w.heap[b] = .cells #[v, x] t (0, 0) := by simpa [Array.getElem?_eq_getElem hlt] using h
  show (w.heap.modify b _)[b]? = _
  rw [Array.getElem?_eq_getElem (by simpa using hlt), Array.getElem_modify_self, h']
  rfl
theorem two_setCell1 {w : World} {b : Nat} {v x u : Value} {t : TypeId} (h : w.heap[b]? = some (.cells #[v, x] t (0, 0))) : (w.setCell ⟨b, 1, none⟩ u).heap[b]? = some (.cells #[v, u] t (0, 0)) := by
  have hlt := lt_of_block h
  have h' : w.heap[b] = .cells #[v, x] t (0, 0) := by simpa [Array.getElem?_eq_getElem hlt] using h
  show (w.heap.modify b _)[b]? = _
  rw [Array.getElem?_eq_getElem (by simpa using hlt), Array.getElem_modify_self, h']
  rfl
theorem cell_of_two {w : World} {b : Nat} {v x : Value} {t : TypeId} (h : w.heap[b]? = some (.cells #[v, x] t (0, 0))) : w.cell? ⟨b, 0, none⟩ = some v ∧ w.cell? ⟨b, 1, none⟩ = some x ∧ w.frozen? ⟨b, 0, none⟩ = false ∧ w.frozen? ⟨b, 1, none⟩ = false := by simp [World.cell?, World.frozen?, h]
theorem condCells_take (cs : List CondT) (j : Nat) (c : CondT) (h : cs[j]? = some c) : condCells (cs.take (j + 1)) = condCells (cs.take j) ++ [.int .i64 c.1, .int .i64 c.2.1, .int .i64 c.2.2] := by
  unfold condCells
  rw [List.take_add_one, h, List.flatMap_append]
  simp
theorem lit_inj {a b : Int} (h : (DataW.lit (.int .i64 a) : DataW Unit) = .lit (.int .i64 b)) : a = b := by
  cases h
  rfl
end Go.Proofs.YthpllmhnpbigiacGreatDoor
