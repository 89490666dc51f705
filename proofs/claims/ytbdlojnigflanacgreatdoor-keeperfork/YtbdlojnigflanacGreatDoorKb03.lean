/- Joined: Jud Holds Whole Row ReadA. -/
import Derived.Test.YtbdlojnigflanacGreatDoorKb02
import Derived.Test.YtbdlojnigflanacGreatDoorShelf
import Derived.Test.YtbdlojnigflanacGreatDoorKb01
import Derived.StringKeys
import Derived.Deep.DeepMust
section
/- What the program's own Judge says: the first rule that holds. -/
set_option linter.all false
namespace Go.Proofs.YtbdlojnigflanacGreatDoor
open Go.RowKit Go.Maps

def holdsB (op v n : Int) : Bool := if op = 1 then n == v else if op = 2 then n != v else if op = 3 then decide (n < v) else decide (v ≤ n)
def condOk (x : Nat → Int) (c : CondT) : Bool := holdsB c.2.1 c.2.2 (x c.1.toNat)
def ruleOk (x : Nat → Int) (r : RuleT) : Bool := r.1.all (condOk x)
/-- The first place from k on at which f says yes, or -1. -/
def firstAt {α : Type} (f : α → Bool) : Nat → List α → Int
  | _, [] => -1
  | k, c :: r => if f c then k else firstAt f (k + 1) r
theorem firstAt_step {α : Type} (f : α → Bool) (l : List α) (k : Nat) (c : α) (h : l[k]? = some c) : firstAt f k (l.drop k) = if f c then (k : Int) else firstAt f (k + 1) (l.drop (k + 1)) := by
  obtain ⟨hk, rfl⟩ := List.getElem?_eq_some_iff.1 h
  rw [List.drop_eq_getElem_cons hk]
  rfl
theorem firstAt_none {α : Type} (f : α → Bool) : ∀ (l : List α) (k : Nat), (decide (0 ≤ firstAt f k l)) = l.any f
  | [], _ => rfl
  | c :: r, k => by
    unfold firstAt
    by_cases h : f c = true
    · simp [h]
    · simp [h, firstAt_none f r (k + 1)]

theorem condErr_ok {c : CondT} (h : condErr c = 0) : (0 ≤ c.1 ∧ c.1 < 5) ∧ (1 ≤ c.2.1 ∧ c.2.1 ≤ 4) ∧ (0 ≤ c.2.2 ∧ c.2.2 ≤ most c.1) := by
  unfold condErr at h
  split at h
  · cases h
  · split at h
    · cases h
    · split at h
      · cases h
      · omega
theorem condsErr_all {cs : List CondT} (h : condsErr cs = 0) : ∀ c ∈ cs, condErr c = 0 := by
  induction cs with
  | nil => intro c hc; cases hc
  | cons a r ih =>
    unfold condsErr at h
    split at h
    · rename_i h0
      intro c hc
      rcases List.mem_cons.1 hc with rfl | hc
      · exact h0
      · exact ih h c hc
    · rename_i h0; exact absurd h h0
theorem rulesErr_all {rs : List RuleT} (h : rulesErr rs = 0) : ∀ r ∈ rs, ruleErr r = 0 := by
  induction rs with
  | nil => intro c hc; cases hc
  | cons a r ih =>
    unfold rulesErr at h
    split at h
    · rename_i h0
      intro c hc
      rcases List.mem_cons.1 hc with rfl | hc
      · exact h0
      · exact ih h c hc
    · rename_i h0; exact absurd h h0
theorem ruleErr_ok {r : RuleT} (h : ruleErr r = 0) : r.1.length ≤ 10 ∧ verdictOk r.2 = true ∧ condsErr r.1 = 0 := by
  unfold ruleErr at h
  split at h
  · cases h
  · split at h
    · exact ⟨by omega, by assumption, h⟩
    · cases h
theorem polErr_ok {p : PolT} (h : polErr p = 0) : p.1.length ≤ 120 ∧ verdictOk p.2 = true ∧ rulesErr p.1 = 0 := by
  unfold polErr at h
  split at h
  · cases h
  · split at h
    · exact ⟨by omega, by assumption, h⟩
    · cases h

set_option maxHeartbeats 1000000 in
theorem holds_at (op v a0 a1 a2 a3 a4 : Int) (k : Int) (y : Int) (hk : (k = 0 ∧ y = a0) ∨ (k = 1 ∧ y = a1) ∨ (k = 2 ∧ y = a2) ∨ (k = 3 ∧ y = a3) ∨ (k = 4 ∧ y = a4)) (w : World) :
    Calls Tryz.prog 64 #[.agg #[.int .i64 k, .int .i64 op, .int .i64 v], .agg #[.int .i64 a0, .int .i64 a1, .int .i64 a2, .int .i64 a3, .int .i64 a4]] w fun e w' => e = .returned (.bool (holdsB op v y)) ∧ Below w.heap.size w w' := by
  have hb : Below w.heap.size w ((w.alloc (.cells #[.int .i64 k, .int .i64 op, .int .i64 v] 99)).alloc (.cells #[.int .i64 a0, .int .i64 a1, .int .i64 a2, .int .i64 a3, .int .i64 a4] 26)) := ((Below.refl _ _).alloc (Nat.le_refl _) _).alloc (by simp) _
  have F : Hid (op ≠ 1 → op ≠ 2 → op ≠ 3 → holdsB op v y = decide (v ≤ y)) := by intro h1 h2 h3; rw [holdsB, if_neg h1, if_neg h2, if_neg h3]
  rcases hk with ⟨rfl, rfl⟩ | ⟨rfl, rfl⟩ | ⟨rfl, rfl⟩ | ⟨rfl, rfl⟩ | ⟨rfl, rfl⟩
  all_goals
    by_cases h1 : op = 1
    · subst h1
      go_enter Tryz.func64, Tryz.ntmps64
      go_wp2
      go_ret
      exact ⟨rfl, hb⟩
    · have k1 : (op == 1) = false := by simpa using h1
      by_cases h2 : op = 2
      · subst h2
        go_enter Tryz.func64, Tryz.ntmps64
        go_wp2
        go_ret
        exact ⟨rfl, hb⟩
      · have k2 : (op == 2) = false := by simpa using h2
        by_cases h3 : op = 3
        · subst h3
          go_enter Tryz.func64, Tryz.ntmps64
          go_wp2
          go_ret
          exact ⟨rfl, hb⟩
        · have k3 : (op == 3) = false := by simpa using h3
          have G := F.out h1 h2 h3
          clear F h1 h2 h3
          have G : Hid _ := G
          go_enter Tryz.func64, Tryz.ntmps64
          go_wp2
          go_ret
          exact ⟨by rw [G.out]; rfl, hb⟩
theorem holds_any (c : CondT) (x : Nat → Int) (hc : 0 ≤ c.1 ∧ c.1 < 5) (w : World) :
    Calls Tryz.prog 64 #[condV c, callV x] w fun e w' => e = .returned (.bool (condOk x c)) ∧ Below w.heap.size w w' := by
  refine holds_at c.2.1 c.2.2 (x 0) (x 1) (x 2) (x 3) (x 4) c.1 (x c.1.toNat) ?_ w
  have : c.1 = 0 ∨ c.1 = 1 ∨ c.1 = 2 ∨ c.1 = 3 ∨ c.1 = 4 := by omega
  rcases this with h | h | h | h | h <;> simp [h]

set_option maxHeartbeats 1000000 in
theorem fails_any (c : CondT) (x : Nat → Int) (hc : 0 ≤ c.1 ∧ c.1 < 5) (bx : Nat) (w : World) (hx : XAt w bx x) (hl : bx < w.heap.size) :
    Calls Tryz.prog 63 #[condV c, .pointer (some ⟨bx, 0, none⟩)] w fun e w' => e = .returned (.bool (!condOk x c)) ∧ Below w.heap.size w w' := by
  obtain ⟨f, op, v⟩ := c
  show Calls Tryz.prog 63 #[.agg #[.int .i64 f, .int .i64 op, .int .i64 v], .pointer (some ⟨bx, 0, none⟩)] w _
  have hx' := hx.later ((Below.refl w.heap.size w).alloc (Nat.le_refl _) (.cells #[.int .i64 f, .int .i64 op, .int .i64 v] 99)) hl
  have x0 := hx' 0 (by omega)
  have x1 := hx' 1 (by omega)
  have x2 := hx' 2 (by omega)
  have x3 := hx' 3 (by omega)
  have x4 := hx' 4 (by omega)
  clear hx' hx
  go_enter Tryz.func63, Tryz.ntmps63
  go_wp2_with (first | (go_at_call 64; refine (holds_any (f, op, v) x hc _).mono ?_; rintro e w' ⟨rfl, hb2⟩))
  go_ret
  exact ⟨rfl, Below.thenOf ((Below.refl _ _).alloc (Nat.le_refl _) _) hb2 (by simp)⟩

set_option maxHeartbeats 1000000 in
theorem indexConds_any (B : Nat) (cv : Value) (cs : List CondT) (x : Nat → Int) (bx : Nat) (w : World) (hc : CondsAt B w cv cs) (hB : B ≤ w.heap.size) (hok : ∀ c ∈ cs, 0 ≤ c.1 ∧ c.1 < 5) (hx : XAt w bx x) (hl : bx < w.heap.size) :
    Calls Tryz.prog 125 #[cv, .func (.func 63) #[] #[.pointer (some ⟨bx, 0, none⟩)]] w fun e w' => e = .returned (.int .i64 (firstAt (fun c => !condOk x c) 0 cs)) ∧ Below w.heap.size w w' := by
  obtain ⟨a, cap, rfl, hlc, hcm, hcs⟩ := hc
  have hcs' : Hid (∀ (i : Nat) (c : CondT), cs[i]? = some c → ∃ b o, a = some ⟨b, o, none⟩ ∧ b < B ∧ CondAt w b (o + i * 3) c) := hcs
  have hx' : Hid (XAt w bx x) := hx
  clear hcs hx
  generalize hn : cs.length = n at *
  have hml : n ≤ 9223372036854775807 := by have := maxLen_eq; omega
  go_enter Tryz.func125, Tryz.ntmps125
  go_wp2
  go_loopw [8] (fun i wr => ∃ k : Nat, k ≤ n ∧ i = .int .i64 k ∧ Hid (firstAt (fun c => !condOk x c) 0 cs = firstAt (fun c => !condOk x c) k (cs.drop k)) ∧ Below w.heap.size w wr) (fun i _ => n - (intOf i).toNat)
  case atStart => exact ⟨0, by omega, rfl, rfl, Below.refl _ _⟩
  case round =>
    obtain ⟨k, hk, rfl, H, hbr⟩ := hrel
    have i0 : (0 : Int) ≤ (k : Int) := by omega
    by_cases hlt : k < n
    · have i1 : (k : Int) < (n : Int) := by omega
      obtain ⟨c, hck⟩ : ∃ c, cs[k]? = some c := ⟨cs[k]'(by omega), by simp⟩
      have hcm' : c ∈ cs := List.mem_of_getElem? hck
      obtain ⟨b, o, rfl, hbB, hat⟩ := hcs'.out k c hck
      have S : Hid (firstAt (fun c => !condOk x c) k (cs.drop k) = if (!condOk x c) = true then (k : Int) else firstAt (fun c => !condOk x c) (k + 1) (cs.drop (k + 1))) := firstAt_step (fun c => !condOk x c) cs k c hck
      have hfc := hok c hcm'
      obtain ⟨f, op, v⟩ := c
      obtain ⟨c0, c1, c2, w0, w1, w2⟩ := hat.later hbr (by omega)
      simp only [] at c0 c1 c2 w0 w1 w2
      go_wp2_with (first | (go_at_call 63; refine (fails_any (f, op, v) x hfc bx _ (hx'.out.later hbr hl) (Nat.lt_of_lt_of_le hl hbr.size)).mono ?_; rintro e w' ⟨rfl, hb2⟩))
      all_goals have hb3 : Below w.heap.size w w' := Below.thenOf hbr hb2 hbr.size
      · have hy : (!condOk x (f, op, v)) = true := by first | assumption | (simp_all; done)
        go_ret
        exact ⟨by rw [H.out, S.out, if_pos hy]; rfl, hb3⟩
      · have hy : ¬ (!condOk x (f, op, v)) = true := by first | assumption | (simp_all; done)
        exact ⟨⟨k + 1, by omega, by go_num, by unfold Hid; rw [H.out, S.out, if_neg hy], hb3⟩, by simp [intOf]; omega⟩
    · go_wp2
      go_ret
      exact ⟨by rw [H.out, List.drop_eq_nil_of_le (by omega)]; rfl, hbr⟩

end Go.Proofs.YtbdlojnigflanacGreatDoor
end
section
/- What the counterpart's Holds says of a right condition: as the program's own. -/
set_option linter.all false
namespace Go.Proofs.YtbdlojnigflanacGreatDoor
open Go.RowKit Go.Maps

def boolR : Value → Option (DataW Unit × List MemPlace)
  | .bool x => some (.lit (.bool x), [])
  | _ => none
end Go.Proofs.YtbdlojnigflanacGreatDoor
end
section
/- A small whole number, written as it should be, is read. -/
set_option linter.all false
namespace Go.Proofs.YtbdlojnigflanacGreatDoor
open Go.RowKit Go.Maps

theorem bytesWorld_below (w : World) (t : TypeId) (x : ByteArray) : ∀ W, W = Lib.bytesWorld w t x → Below w.heap.size w W := by
  intro W h
  subst h
  exact ⟨rfl, rfl, rfl, by rw [Lib.bytesWorld_size]; omega, fun j hj => Lib.bytesWorld_at_old w t x j hj⟩

set_option maxHeartbeats 1000000 in
theorem whole_small (s : ByteArray) (m : Nat) (hm : m < 100) (hs : s.size ≤ 9223372036854775806) (hp : Lib.parseIntB 64 s.data.toList = .ok (m : Int)) (hd : (Lib.decDigits m).toArray = s.data) (w : World) :
    Calls Tryz.prog 85 #[.string s] w fun e w' => e = .returned (.tuple #[.int .i64 m, .bool true]) ∧ Below w.heap.size w w' := by
  go_enter Tryz.func85, Tryz.ntmps85
  go_wp2_with (first
    | (go_at_call 145; go_must (refine (Tryz.strconv_ParseInt_10_at64_ok s hs _ hp _).mono ?_; rintro e w1 ⟨rfl, hw1⟩))
    | (go_at_call 146; go_must (refine (Tryz.strconv_FormatInt_10_small m hm _).mono ?_; rintro e w2 ⟨rfl, rfl⟩)))
  go_ret2
  refine ⟨rfl, ?_⟩
  rcases hw1 with rfl | ⟨t, h⟩
  · exact Below.refl _ _
  · exact bytesWorld_below _ _ _ _ h

end Go.Proofs.YtbdlojnigflanacGreatDoor
end
section
/- Rows of one's own in memory. -/
set_option linter.all false
namespace Go.Proofs.YtbdlojnigflanacGreatDoor
open Go.RowKit Go.Maps

theorem infoOf {P : Program} {t : TypeId} {z : Value} {a b : Nat} (h : (P.info? t).map (fun i => (i.zero, i.size, i.bytes)) = some (some z, a, b)) : ∃ i, P.info? t = some i ∧ i.zero = some z ∧ i.size = a ∧ i.bytes = b := by
  cases hi : P.info? t with
  | none => rw [hi] at h; simp at h
  | some i => rw [hi] at h; simp at h; exact ⟨i, rfl, h.1, h.2.1, h.2.2⟩
theorem ownsRow_block {w w' : World} {base : Nat} {e : TypeId} {size : Nat} {v : Value} {n : Nat} {xs : List Value} (h : w.ownsRow base e size v n xs) (hb : ∀ g cur, base ≤ g → w.heap[g]? = some (.cells cur e (0, 0)) → w'.heap[g]? = w.heap[g]?) : w'.ownsRow base e size v n xs := by
  obtain ⟨h1, h2 | ⟨g, cap, cur, rfl, h3, h4, h5⟩⟩ := h
  · exact ⟨h1, .inl h2⟩
  · exact ⟨h1, .inr ⟨g, cap, cur, rfl, h3, (hb g cur h3 h4).trans h4, h5⟩⟩
theorem ownsRow_base {w : World} {base base' : Nat} {e : TypeId} {size : Nat} {v : Value} {n : Nat} {xs : List Value} (h : w.ownsRow base e size v n xs) (hb : base' ≤ base) : w.ownsRow base' e size v n xs := by
  obtain ⟨h1, h2 | ⟨g, cap, cur, rfl, h3, h4, h5⟩⟩ := h
  · exact ⟨h1, .inl h2⟩
  · exact ⟨h1, .inr ⟨g, cap, cur, rfl, by omega, h4, h5⟩⟩
theorem ownsRow_below {w w' : World} {base : Nat} {e : TypeId} {size : Nat} {v : Value} {n : Nat} {xs : List Value} (h : w.ownsRow base e size v n xs) (hb : Below w.heap.size w w') : w'.ownsRow base e size v n xs :=
  ownsRow_block h fun g cur _ hg => hb.block g (Array.getElem?_eq_some_iff.1 hg).1
theorem ownsRow_shape {w : World} {base : Nat} {e : TypeId} {size : Nat} {v : Value} {n : Nat} {xs : List Value} (h : w.ownsRow base e size v n xs) (hn : 0 < n) : ∃ g cap, v = .slice (some ⟨g, 0, none⟩) n cap ∧ base ≤ g := by
  obtain ⟨_, ⟨_, h0⟩ | ⟨g, cap, cur, h1, h2, _⟩⟩ := h
  · omega
  · exact ⟨g, cap, h1, h2⟩
theorem ownsRow_ge {w : World} {base : Nat} {e : TypeId} {size : Nat} {v : Value} {n : Nat} {xs : List Value} (h : w.ownsRow base e size v n xs) : ∀ k, v.ownBlock = some k → base ≤ k := by
  intro k hk
  obtain ⟨_, ⟨h2, _⟩ | ⟨g, cap, cur, rfl, h3, _⟩⟩ := h
  · rw [h2] at hk; cases hk
  · simp [Value.ownBlock] at hk; omega
/-- The block of a row bears its element's type. -/
theorem ownsRow_tag {w : World} {base : Nat} {e : TypeId} {size : Nat} {v : Value} {n : Nat} {xs : List Value} (h : w.ownsRow base e size v n xs) : ∀ k, v.ownBlock = some k → ∃ cur, w.heap[k]? = some (.cells cur e (0, 0)) := by
  intro k hk
  obtain ⟨_, ⟨h2, _⟩ | ⟨g, cap, cur, rfl, h3, h4, _⟩⟩ := h
  · rw [h2] at hk; cases hk
  · simp [Value.ownBlock] at hk; subst hk; exact ⟨cur, h4⟩
theorem ownsRow_cell {w : World} {base : Nat} {e : TypeId} {size : Nat} {g n cap : Nat} {xs : List Value} (h : w.ownsRow base e size (.slice (some ⟨g, 0, none⟩) n cap) n xs) (q : Nat) (v : Value) (hq : xs[q]? = some v) : w.cell? ⟨g, q, none⟩ = some v := by
  obtain ⟨hl, ⟨h0, _⟩ | ⟨g', cap', cur, h1, _, hh, _, _, _, ht⟩⟩ := h
  · cases h0
  · cases h1
    have hlt : q < xs.length := (List.getElem?_eq_some_iff.1 hq).1
    rw [← ht, List.getElem?_take_of_lt (by omega)] at hq
    simp only [World.cell?, hh]
    simpa using hq
theorem ownsRow_caps {w : World} {base : Nat} {e : TypeId} {size : Nat} {v : Value} {n : Nat} {xs : List Value} (h : w.ownsRow base e size v n xs) : ∃ a cap, v = .slice a n cap ∧ n ≤ cap ∧ cap ≤ maxLen ∧ (0 < n → ∃ g, a = some ⟨g, 0, none⟩ ∧ base ≤ g ∧ g < w.heap.size) := by
  obtain ⟨hl, ⟨h0, h1⟩ | ⟨g', cap', cur, h1, h2, hh, h3, h4, _⟩⟩ := h
  · subst h1; exact ⟨none, 0, h0, Nat.le_refl _, Nat.zero_le _, fun h => by omega⟩
  · exact ⟨_, cap', h1, h3, h4, fun _ => ⟨g', rfl, h2, lt_of_block hh⟩⟩

end Go.Proofs.YtbdlojnigflanacGreatDoor
end
section
/- The counterpart's reader at a text that is written as it should be: it is read. -/
set_option linter.all false
namespace Go.Proofs.YtbdlojnigflanacGreatDoor
open Go.RowKit Go.Maps

theorem keyStr : Maps.Keyed Tryz.prog 9 := Maps.string_keyed Tryz.underlying9
theorem keyU8 : Maps.Keyed Tryz.prog 5 := Maps.int_keyed Tryz.underlying5

/-- What the reader's three small maps hold. -/
def D1 : DataW Unit := (((((DataW.map []).put (.string [107, 105, 108, 108]) (.lit (.int .i64 0))).put (.string [116, 114, 97, 112]) (.lit (.int .i64 1))).put (.string [102, 97, 105, 108]) (.lit (.int .i64 2))).put (.string [108, 111, 103]) (.lit (.int .i64 3))).put (.string [97, 108, 108, 111, 119]) (.lit (.int .i64 4))
def D2 : DataW Unit := (((((DataW.map []).put (.string [110, 114]) (.lit (.int .i64 0))).put (.string [107, 105, 110, 100]) (.lit (.int .i64 1))).put (.string [97]) (.lit (.int .i64 2))).put (.string [98]) (.lit (.int .i64 3))).put (.string [99]) (.lit (.int .i64 4))
def D3 : DataW Unit := ((((DataW.map []).put (.int .u8 61) (.lit (.int .i64 1))).put (.int .u8 33) (.lit (.int .i64 2))).put (.int .u8 60) (.lit (.int .i64 3))).put (.int .u8 62) (.lit (.int .i64 4))
def zed : DataW Unit := .lit (.int .i64 0)

def blank : ByteArray := ⟨#[32]⟩
/-- A condition as it should be written: a field, an operation, a small number. -/
def GoodWord (u : ByteArray) (c : CondT) : Prop := ∃ (K m : Nat), K < u.size ∧ u.size < 4294967281 ∧
  (∀ i, i < K → D3.atKey (.int .u8 (u.data.toList.getD i 0).toNat) zed = zed) ∧
  D3.atKey (.int .u8 (u.data.toList.getD K 0).toNat) zed = .lit (.int .i64 c.2.1) ∧ c.2.1 ≠ 0 ∧
  Maps.has D2 (.string (u.data.toList.take K)) = true ∧ D2.atKey (.string (u.data.toList.take K)) zed = .lit (.int .i64 c.1) ∧
  c.2.2 = m ∧ m < 100 ∧ Lib.parseIntB 64 (u.data.toList.drop (K + 1)) = .ok (m : Int) ∧ Lib.decDigits m = u.data.toList.drop (K + 1)
def GoodRule (t : ByteArray) (r : RuleT) : Prop := ∃ w0 ws, Lib.splitB blank 0 (Lib.countB t blank) t = w0 :: ws ∧ Lib.countB t blank = ws.length ∧ t.size < 4294967281 ∧
  Maps.has D1 (.string w0.data.toList) = true ∧ D1.atKey (.string w0.data.toList) zed = .lit (.int .i64 r.2) ∧ w0.size ≤ maxLen ∧ ws.length = r.1.length ∧ 0 < ws.length ∧ ∀ (j : Nat) u c, ws[j]? = some u → r.1[j]? = some c → GoodWord u c
def GoodText (d : Int) : List RuleT → ByteArray → Prop
  | [], s => s.size < 4294967281 ∧ Lib.cut s.data.toList [59] = (s.data.toList, [], false) ∧ Lib.splitB blank 0 (Lib.countB s blank) s = [s] ∧ Lib.countB s blank = 0 ∧ Maps.has D1 (.string s.data.toList) = true ∧ D1.atKey (.string s.data.toList) zed = .lit (.int .i64 d)
  | r :: rs, s => ∃ t s', s.size < 4294967281 ∧ Lib.cut s.data.toList [59] = (t.data.toList, s'.data.toList, true) ∧ s'.size < s.size ∧ GoodRule t r ∧ GoodText d rs s'

def condCells (cs : List CondT) : List Value := cs.flatMap fun c => [.int .i64 c.1, .int .i64 c.2.1, .int .i64 c.2.2]
/-- The rules that are read so far, in the row that grows; their conditions in rows of their own. -/
def RulesCells (B : Nat) (w : World) : List RuleT → List Value → Prop
  | [], xs => xs = []
  | r :: rs, xs => ∃ cv ys, xs = cv :: .int .i64 r.2 :: ys ∧ w.ownsRow B 99 3 cv r.1.length (condCells r.1) ∧ RulesCells B w rs ys

theorem toArray_toList (s : ByteArray) : (⟨s.data.toList.toArray⟩ : ByteArray) = s := by simp
theorem cut_good (s t s' : ByteArray) (q : Bool) (m : Int) (w : World) (hs : s.size < 4294967281) (hm : w.cell? ⟨3, 0, none⟩ = some (.int .i64 m)) (h : Lib.cut s.data.toList [59] = (t.data.toList, s'.data.toList, q)) :
    Calls Tryz.prog 148 #[.string s, .string ⟨#[59]⟩] w fun e w' => e = .returned (.tuple #[.string t, .string s', .bool q]) ∧ Below w.heap.size w w' := by
  refine (Tryz.strings_Cut s ⟨#[59]⟩ m w hs hm).mono fun e w' ⟨he, n, hw⟩ => ?_
  have e59 : (⟨#[59]⟩ : ByteArray).data.toList = [59] := rfl
  rw [e59, h] at he
  simp only [toArray_toList] at he
  subst hw
  exact ⟨he, Below.drewN_ (Below.refl _ _) n⟩
theorem split_good (t : ByteArray) (ws : List ByteArray) (n : Nat) (m : Int) (w : World) (hs : t.size < 4294967281) (hm : w.cell? ⟨3, 0, none⟩ = some (.int .i64 m)) (hc : Lib.countB t blank = n) (h : Lib.splitB blank 0 (Lib.countB t blank) t = ws) :
    Calls Tryz.prog 149 #[.string t, .string ⟨#[32]⟩] w fun e w' => ∃ SB, e = .returned (.slice (some ⟨SB, 0, none⟩) (n + 1) (n + 1)) ∧ Below w.heap.size w w' ∧ w.heap.size ≤ SB ∧ SB < w'.heap.size ∧ ∀ j u, ws[j]? = some u → w'.cell? ⟨SB, j, none⟩ = some (.string u) := by
  refine (Tryz.strings_Split t ⟨#[32]⟩ m w hs hm (by decide)).mono fun e w' ⟨he, hw⟩ => ?_
  change e = .returned (.slice (some ⟨w.heap.size, 0, none⟩) (Lib.countB t blank + 1) (Lib.countB t blank + 1)) at he
  change w' = w.alloc (.cells ((Lib.splitB blank 0 (Lib.countB t blank) t).map Value.string).toArray _) at hw
  rw [h] at hw
  rw [hc] at he
  subst hw
  refine ⟨w.heap.size, he, (Below.refl _ _).alloc (Nat.le_refl _) _, Nat.le_refl _, by simp, fun j u hj => ?_⟩
  simp [go_sem, hj]

theorem ownsMap_below {H : Type} {P : Program} {k : TypeId} {R : Value → Option (DataW H × List MemPlace)} {b n B : Nat} {D : DataW H} {w w' : World} (h : w.ownsMap P k R b n D) (hb : Below B w w') (hB : b < B) : w'.ownsMap P k R b n D := by
  obtain ⟨es, clock, h1, F, hs, hD⟩ := h
  exact ⟨es, clock, (hb.block b hB).trans h1, F, hs, hD⟩
theorem getD_eq (u : ByteArray) (k : Nat) (h : k < u.size) : u.data.toList.getD k 0 = u[k]'h := by
  have h' : k < u.data.toList.length := by simpa using h
  rw [List.getD, List.getElem?_eq_getElem h']
  simp
  rfl
theorem extract_take (u : ByteArray) (k : Nat) : (u.extract 0 k).data.toList = u.data.toList.take k := by
  simp [ByteArray.data_extract]
theorem extract_drop (u : ByteArray) (k : Nat) : (u.extract k u.size).data.toList = u.data.toList.drop k := by
  simp [ByteArray.data_extract]
  exact List.take_of_length_le (by simp)
theorem RulesCells.step {B : Nat} {w w' : World} (hb : ∀ g cur, B ≤ g → w.heap[g]? = some (.cells cur 99 (0, 0)) → w'.heap[g]? = w.heap[g]?) : ∀ (rs : List RuleT) (xs : List Value), RulesCells B w rs xs → RulesCells B w' rs xs
  | [], _, h => h
  | r :: rs, xs, h => by
    obtain ⟨cv, ys, rfl, h1, h2⟩ := h
    exact ⟨cv, ys, rfl, ownsRow_block h1 hb, RulesCells.step hb rs ys h2⟩
theorem RulesCells.push {B : Nat} {w : World} (r : RuleT) (cv : Value) (hc : w.ownsRow B 99 3 cv r.1.length (condCells r.1)) : ∀ (rs : List RuleT) (xs : List Value), RulesCells B w rs xs → RulesCells B w (rs ++ [r]) (xs ++ [cv, .int .i64 r.2])
  | [], xs, h => by
    have h : xs = [] := h
    subst h
    exact ⟨cv, [], rfl, hc, rfl⟩
  | r' :: rs, xs, h => by
    obtain ⟨cv', ys, rfl, h1, h2⟩ := h
    exact ⟨cv', ys ++ [cv, .int .i64 r.2], rfl, h1, RulesCells.push r cv hc rs ys h2⟩
theorem infoCond : ∃ i, Tryz.prog.info? 99 = some i ∧ i.zero = some (.agg #[.int .i64 0, .int .i64 0, .int .i64 0]) ∧ i.size = 3 ∧ i.bytes = 24 := infoOf (by kernel_rfl)
theorem infoRule : ∃ i, Tryz.prog.info? 95 = some i ∧ i.zero = some (.agg #[.slice none 0 0, .int .i64 0]) ∧ i.size = 2 ∧ i.bytes = 32 := infoOf (by kernel_rfl)
theorem two_setCell {w : World} {b : Nat} {v x u : Value} {t : TypeId} (h : w.heap[b]? = some (.cells #[v, x] t (0, 0))) : (w.setCell ⟨b, 0, none⟩ u).heap[b]? = some (.cells #[u, x] t (0, 0)) := by
  have hlt := lt_of_block h
  have h' : w.heap[b] = .cells #[v, x] t (0, 0) := by simpa [Array.getElem?_eq_getElem hlt] using h
  show (w.heap.modify b _)[b]? = _
  rw [Array.getElem?_eq_getElem (by simpa using hlt), Array.getElem_modify_self, h']
  rfl
theorem two_setCell1 {w : World} {b : Nat} {v x u : Value} {t : TypeId} (h : w.heap[b]? = some (.cells #[v, x] t (0, 0))) : (w.setCell ⟨b, 1, none⟩ u).heap[b]? = some (.cells #[v, u] t (0, 0)) := by
  have hlt := lt_of_block h
  have h' : w.heap[b] = .cells #[v, x] t (0, 0) := by simpa [Array.getElem?_eq_getElem hlt] using h
  show (w.heap.modify b _)[b]? = _
  rw [Array.getElem?_eq_getElem (by simpa using hlt), Array.getElem_modify_self, h']
  rfl
theorem cell_of_two {w : World} {b : Nat} {v x : Value} {t : TypeId} (h : w.heap[b]? = some (.cells #[v, x] t (0, 0))) : w.cell? ⟨b, 0, none⟩ = some v ∧ w.cell? ⟨b, 1, none⟩ = some x ∧ w.frozen? ⟨b, 0, none⟩ = false ∧ w.frozen? ⟨b, 1, none⟩ = false := by simp [World.cell?, World.frozen?, h]
theorem condCells_take (cs : List CondT) (j : Nat) (c : CondT) (h : cs[j]? = some c) : condCells (cs.take (j + 1)) = condCells (cs.take j) ++ [.int .i64 c.1, .int .i64 c.2.1, .int .i64 c.2.2] := by
  unfold condCells
  rw [List.take_add_one, h, List.flatMap_append]
  simp
theorem lit_inj {a b : Int} (h : (DataW.lit (.int .i64 a) : DataW Unit) = .lit (.int .i64 b)) : a = b := by
  cases h
  rfl
end Go.Proofs.YtbdlojnigflanacGreatDoor
end
