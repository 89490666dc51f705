/- What the program's own reader of a rule says. -/
import Derived.Test.YthpllmhnpbigiaaDoorRdr
import Derived.Test.YthpllmhnpbigiaaDoorRow
import Derived.Laws.MakeOwn
set_option linter.all false
set_option maxRecDepth 100000
namespace Go.Proofs.YthpllmhnpbigiaaDoor
open Go.RowKit Go.Maps

theorem splitL_len (c : UInt8) : ∀ (l : Bs) (p : Bs), p ∈ splitL c l → p.length ≤ l.length
  | [], p, h => by simp [splitL] at h; subst h; simp
  | b :: l, p, h => by
    have ih := splitL_len c l
    unfold splitL at h
    split at h
    · simp at h
      rcases h with rfl | h
      · simp
      · have := ih p h; simp; omega
    · split at h
      · simp at h; subst h; simp
      · rename_i h0 t0 hs
        rw [hs] at ih
        simp at h
        rcases h with rfl | h
        · have := ih h0 (by simp); simp; omega
        · have := ih p (by simp [h]); simp; omega

/-- strings.Split at one sign. -/
theorem split_any (c : UInt8) (s : ByteArray) (hs : s.size ≤ 4294967280) (w : World) (he : EnvAt w) : ∃ ps : List ByteArray, ps.map (·.data.toList) = splitL c s.data.toList ∧
    Calls Tryd.prog 58 #[.string s, .string ⟨#[c]⟩] w fun e w' => e = .returned (.slice (some ⟨w.heap.size, 0, none⟩) ps.length ps.length) ∧ w' = w.alloc (.cells (ps.map Value.string).toArray 9) := by
  obtain ⟨mm, hm⟩ := he
  have h := Tryd.strings_Split s ⟨#[c]⟩ mm w (by omega) hm (Nat.le_refl 1)
  refine ⟨Lib.splitB ⟨#[c]⟩ 0 (Lib.countB s ⟨#[c]⟩) s, ?_, ?_⟩
  · rw [Lib.splitB_data, ← split_splitL]
    rfl
  · rw [Lib.splitB_all ⟨#[c]⟩ (Nat.le_refl 1) 0 _ s rfl]
    exact h

/-- Conditions in memory of one's own, from block L on. -/
def CondsNew (L : Nat) (w : World) (v : Value) (cs : List CondT) : Prop :=
  ∃ a cap, v = .slice a cs.length cap ∧ cs.length ≤ cap ∧ cap ≤ maxLen ∧ ∀ i c, cs[i]? = some c → ∃ b o, a = some ⟨b, o, none⟩ ∧ L ≤ b ∧ b < w.heap.size ∧ CondAt w b (o + i * 3) c
theorem CondsNew.nil (L : Nat) (w : World) : CondsNew L w (.slice none 0 0) [] := ⟨none, 0, rfl, Nat.le_refl _, Nat.zero_le _, fun i c h => by simp at h⟩
theorem cell_of_heap {w w' : World} {b : Nat} (h : w'.heap[b]? = w.heap[b]?) (o : Nat) : w'.cell? ⟨b, o, none⟩ = w.cell? ⟨b, o, none⟩ := by
  unfold World.cell?
  rw [h]
theorem CondsNew.keep {L : Nat} {w w' : World} {v : Value} {cs : List CondT} (h : CondsNew L w v cs) (hk : ∀ g, L ≤ g → g < w.heap.size → w'.heap[g]? = w.heap[g]?) (hsz : w.heap.size ≤ w'.heap.size) : CondsNew L w' v cs := by
  obtain ⟨a, cap, h1, h2, h3, h4⟩ := h
  refine ⟨a, cap, h1, h2, h3, fun i c hc => ?_⟩
  obtain ⟨b, o, e, hl, hb, k⟩ := h4 i c hc
  refine ⟨b, o, e, hl, by omega, ?_⟩
  have hh := hk b hl hb
  unfold CondAt
  rw [cell_of_heap hh, cell_of_heap hh, cell_of_heap hh]
  exact k
theorem CondsNew.mono {L L' : Nat} {w : World} {v : Value} {cs : List CondT} (h : CondsNew L w v cs) (hL : L' ≤ L) : CondsNew L' w v cs := by
  obtain ⟨a, cap, h1, h2, h3, h4⟩ := h
  refine ⟨a, cap, h1, h2, h3, fun i c hc => ?_⟩
  obtain ⟨b, o, e, hl, hb, k⟩ := h4 i c hc
  exact ⟨b, o, e, by omega, hb, k⟩
theorem CondsNew.at {L : Nat} {w : World} {v : Value} {cs : List CondT} (h : CondsNew L w v cs) : CondsAt w.heap.size w v cs := by
  obtain ⟨a, cap, h1, h2, h3, h4⟩ := h
  refine ⟨a, cap, h1, h2, h3, fun i c hc => ?_⟩
  obtain ⟨b, o, e, hl, hb, k⟩ := h4 i c hc
  exact ⟨b, o, e, hb, k⟩

/-- A row of n conditions, the first ones filled. -/
def RowC (n : Nat) (cs : List CondT) (cur : Array Value) : Prop :=
  cur.size = n * 3 ∧ ∀ i c, cs[i]? = some c → cur[i * 3]? = some (.int .i64 c.1) ∧ cur[i * 3 + 1]? = some (.int .i64 c.2.1) ∧ cur[i * 3 + 2]? = some (.int .i64 c.2.2)
def set3 (cur : Array Value) (o : Nat) (x0 x1 x2 : Value) : Array Value := ((cur.setIfInBounds o x0).setIfInBounds (o + 1) x1).setIfInBounds (o + 2) x2
theorem RowC.put {n : Nat} {cs : List CondT} {cur : Array Value} (h : RowC n cs cur) (hlt : cs.length < n) (c : CondT) : RowC n (cs ++ [c]) (set3 cur (cs.length * 3) (.int .i64 c.1) (.int .i64 c.2.1) (.int .i64 c.2.2)) := by
  obtain ⟨h1, h2⟩ := h
  refine ⟨by simp [set3, h1], fun i d hd => ?_⟩
  have hi : i < cs.length + 1 := by have := (List.getElem?_eq_some_iff.1 hd).1; simpa using this
  by_cases e : i = cs.length
  · subst e
    rw [List.getElem?_append_right (Nat.le_refl _)] at hd
    simp at hd
    subst hd
    have b0 : cs.length * 3 < cur.size := by omega
    have b1 : cs.length * 3 + 1 < cur.size := by omega
    have b2 : cs.length * 3 + 2 < cur.size := by omega
    unfold set3
    simp only [Array.getElem?_setIfInBounds]
    refine ⟨?_, ?_, ?_⟩ <;> simp [b0, b1, b2]
  · rw [List.getElem?_append_left (by omega)] at hd
    obtain ⟨k0, k1, k2⟩ := h2 i d hd
    unfold set3
    simp only [Array.getElem?_setIfInBounds]
    refine ⟨?_, ?_, ?_⟩
    · rw [if_neg (by omega), if_neg (by omega), if_neg (by omega)]; exact k0
    · rw [if_neg (by omega), if_neg (by omega), if_neg (by omega)]; exact k1
    · rw [if_neg (by omega), if_neg (by omega), if_neg (by omega)]; exact k2
theorem row_set3 {w : World} {g o : Nat} {cur : Array Value} {x0 x1 x2 : Value} {T : TypeId} (h : w.heap[g]? = some (.cells cur T (0, 0))) : (((w.setCell ⟨g, o, none⟩ x0).setCell ⟨g, o + 1, none⟩ x1).setCell ⟨g, o + 2, none⟩ x2).heap[g]? = some (.cells (set3 cur o x0 x1 x2) T (0, 0)) :=
  row_setCell (o := o + 2) (u := x2) (row_setCell (o := o + 1) (u := x1) (row_setCell (o := o) (u := x0) h))
theorem heap_set3 {w : World} {g k : Nat} (o : Nat) (x0 x1 x2 : Value) (h : k ≠ g) : (((w.setCell ⟨g, o, none⟩ x0).setCell ⟨g, o + 1, none⟩ x1).setCell ⟨g, o + 2, none⟩ x2).heap[k]? = w.heap[k]? := by
  rw [Below.heap_setCell _ _ _ _ (by show k ≠ g; exact h), Below.heap_setCell _ _ _ _ (by show k ≠ g; exact h), Below.heap_setCell _ _ _ _ (by show k ≠ g; exact h)]
theorem cells_of_row {w : World} {g : Nat} {cur : Array Value} {T : TypeId} (h : w.heap[g]? = some (.cells cur T (0, 0))) (o : Nat) (ho : o < cur.size) : (∃ u, w.cell? ⟨g, o, none⟩ = some u) ∧ w.frozen? ⟨g, o, none⟩ = false := by
  refine ⟨⟨cur[o], ?_⟩, by simp [World.frozen?, h]⟩
  simp [World.cell?, h, ho]

/-- Where a store into the row stands among the region's operations. -/
def JRow (G : Nat) (W : World) (cur cur' : Array Value) (T : TypeId) (fs : Nat → Value → Prop) (w : World) : Prop :=
  Below G W w ∧ (∀ k, k < W.heap.size → k ≠ G → w.heap[k]? = W.heap[k]?) ∧ ((∀ v, ¬ fs 9 v) → w.heap[G]? = some (.cells cur T (0, 0))) ∧ ((∃ v, fs 9 v) → w.heap[G]? = some (.cells cur' T (0, 0)))
def SRow (v4 : Value) (k : Nat) (v : Value) : Prop := if k = 4 then v = v4 else True
theorem sRow_some (v4 : Value) (k : Nat) : ∃ v, SRow v4 k v := by
  unfold SRow
  split
  · exact ⟨_, rfl⟩
  · exact ⟨undef, trivial⟩
/-- All worlds in which nothing old but block G may differ. -/
def ButG (G : Nat) (W : World) : Type := { w' : World // ∀ k, k < W.heap.size → k ≠ G → w'.heap[k]? = W.heap[k]? }
theorem ButG.ne (G : Nat) (W : World) : Nonempty (ButG G W) := ⟨⟨W, fun _ _ _ => rfl⟩⟩
theorem ButG.cell {G : Nat} {W : World} (x : ButG G W) {b o : Nat} {v : Value} (h : W.cell? ⟨b, o, none⟩ = some v) (hne : b ≠ G) : x.1.cell? ⟨b, o, none⟩ = some v := by
  rw [cell_of_heap (x.2 b (World.block_lt_of_cell? _ _ h) hne)]
  exact h

end Go.Proofs.YthpllmhnpbigiaaDoor
