/- Rows of one's own in memory. -/
import Derived.Test.YthpllmhnpbigiaaDoorBase
set_option linter.all false
namespace Go.Proofs.YthpllmhnpbigiaaDoor
open Go.RowKit Go.Maps

theorem infoOf {P : Program} {t : TypeId} {z : Value} {a b : Nat} (h : (P.info? t).map (fun i => (i.zero, i.size, i.bytes)) = some (some z, a, b)) : ∃ i, P.info? t = some i ∧ i.zero = some z ∧ i.size = a ∧ i.bytes = b := by
  cases hi : P.info? t with
  | none => rw [hi] at h; simp at h
  | some i => rw [hi] at h; simp at h; exact ⟨i, rfl, h.1, h.2.1, h.2.2⟩
theorem ownsRow_block {w w' : World} {base : Nat} {e : TypeId} {size : Nat} {v : Value} {n : Nat} {xs : List Value} (h : w.ownsRow base e size v n xs) (hb : ∀ g cur, base ≤ g → w.heap[g]? = some (.cells cur e (0, 0)) → w'.heap[g]? = w.heap[g]?) : w'.ownsRow base e size v n xs := by
  obtain ⟨h1, h2 | ⟨g, cap, cur, rfl, h3, h4, h5⟩⟩ := h
  · exact ⟨h1, .inl h2⟩
  · exact ⟨h1, .inr ⟨g, cap, cur, rfl, h3, (hb g cur h3 h4).trans h4, h5⟩⟩
theorem ownsRow_base {w : World} {base base' : Nat} {e : TypeId} {size : Nat} {v : Value} {n : Nat} {xs : List Value} (h : w.ownsRow base e size v n xs) (hb : base' ≤ base) : w.ownsRow base' e size v n xs := by
  obtain ⟨h1, h2 | ⟨g, cap, cur, rfl, h3, h4, h5⟩⟩ := h
  · exact ⟨h1, .inl h2⟩
  · exact ⟨h1, .inr ⟨g, cap, cur, rfl, by omega, h4, h5⟩⟩
theorem ownsRow_below {w w' : World} {base : Nat} {e : TypeId} {size : Nat} {v : Value} {n : Nat} {xs : List Value} (h : w.ownsRow base e size v n xs) (hb : Below w.heap.size w w') : w'.ownsRow base e size v n xs :=
  ownsRow_block h fun g cur _ hg => hb.block g (Array.getElem?_eq_some_iff.1 hg).1
theorem ownsRow_shape {w : World} {base : Nat} {e : TypeId} {size : Nat} {v : Value} {n : Nat} {xs : List Value} (h : w.ownsRow base e size v n xs) (hn : 0 < n) : ∃ g cap, v = .slice (some ⟨g, 0, none⟩) n cap ∧ base ≤ g := by
  obtain ⟨_, ⟨_, h0⟩ | ⟨g, cap, cur, h1, h2, _⟩⟩ := h
  · omega
  · exact ⟨g, cap, h1, h2⟩
theorem ownsRow_ge {w : World} {base : Nat} {e : TypeId} {size : Nat} {v : Value} {n : Nat} {xs : List Value} (h : w.ownsRow base e size v n xs) : ∀ k, v.ownBlock = some k → base ≤ k := by
  intro k hk
  obtain ⟨_, ⟨h2, _⟩ | ⟨g, cap, cur, rfl, h3, _⟩⟩ := h
  · rw [h2] at hk; cases hk
  · simp [Value.ownBlock] at hk; omega
/-- The block of a row bears its element's type. -/
theorem ownsRow_tag {w : World} {base : Nat} {e : TypeId} {size : Nat} {v : Value} {n : Nat} {xs : List Value} (h : w.ownsRow base e size v n xs) : ∀ k, v.ownBlock = some k → ∃ cur, w.heap[k]? = some (.cells cur e (0, 0)) := by
  intro k hk
  obtain ⟨_, ⟨h2, _⟩ | ⟨g, cap, cur, rfl, h3, h4, _⟩⟩ := h
  · rw [h2] at hk; cases hk
  · simp [Value.ownBlock] at hk; subst hk; exact ⟨cur, h4⟩
theorem ownsRow_cell {w : World} {base : Nat} {e : TypeId} {size : Nat} {g n cap : Nat} {xs : List Value} (h : w.ownsRow base e size (.slice (some ⟨g, 0, none⟩) n cap) n xs) (q : Nat) (v : Value) (hq : xs[q]? = some v) : w.cell? ⟨g, q, none⟩ = some v := by
  obtain ⟨hl, ⟨h0, _⟩ | ⟨g', cap', cur, h1, _, hh, _, _, _, ht⟩⟩ := h
  · cases h0
  · cases h1
    have hlt : q < xs.length := (List.getElem?_eq_some_iff.1 hq).1
    rw [← ht, List.getElem?_take_of_lt (by omega)] at hq
    simp only [World.cell?, hh]
    simpa using hq
theorem ownsRow_caps {w : World} {base : Nat} {e : TypeId} {size : Nat} {v : Value} {n : Nat} {xs : List Value} (h : w.ownsRow base e size v n xs) : ∃ a cap, v = .slice a n cap ∧ n ≤ cap ∧ cap ≤ maxLen ∧ (0 < n → ∃ g, a = some ⟨g, 0, none⟩ ∧ base ≤ g ∧ g < w.heap.size) := by
  obtain ⟨hl, ⟨h0, h1⟩ | ⟨g', cap', cur, h1, h2, hh, h3, h4, _⟩⟩ := h
  · subst h1; exact ⟨none, 0, h0, Nat.le_refl _, Nat.zero_le _, fun h => by omega⟩
  · exact ⟨_, cap', h1, h3, h4, fun _ => ⟨g', rfl, h2, lt_of_block hh⟩⟩

theorem ownsRow_slice {w : World} {base : Nat} {e : TypeId} {size n : Nat} {v : Value} {xs : List Value} (h : w.ownsRow base e size v n xs) : ∃ a n cap, v = .slice a n cap := by
  rcases h.2 with ⟨h, _⟩ | ⟨g, c, cur, h, _⟩
  · exact ⟨_, _, _, h⟩
  · exact ⟨_, _, _, h⟩

end Go.Proofs.YthpllmhnpbigiaaDoor
