/- What the proofs ask of the program's surroundings. -/
import Derived.Test.YthpllmhnpbigiaaDoorBase
import Derived.Lib.LaidTab
import Derived.Lib.ItoaNum
set_option linter.all false
namespace Go.Proofs.YthpllmhnpbigiaaDoor
open Go.RowKit Go.Maps

/-- What the proofs ask of the program's surroundings. -/
def EnvAt (w : World) : Prop := ∃ mm : Int, w.cell? ⟨2, 0, none⟩ = some (.int .i64 mm)
theorem EnvAt.lt {w : World} (h : EnvAt w) : 2 < w.heap.size := by
  obtain ⟨mm, h⟩ := h
  exact World.block_lt_of_cell? _ _ h
theorem EnvAt.later {w w' : World} (h : EnvAt w) (hb : Below w.heap.size w w') : EnvAt w' := by
  have hl := h.lt
  obtain ⟨mm, h⟩ := h
  exact ⟨mm, (hb.cell (p := ⟨2, 0, none⟩) hl).trans h⟩


/-- A variable that holds an error, or none. -/
def ErrAt (g : Nat) (w : World) : Prop := ∃ ev, w.cell? ⟨g, 0, none⟩ = some ev ∧ (ev = .nilIface ∨ ∃ te pe, ev = .iface te pe)
theorem ErrAt.later {g : Nat} {w w' : World} (h : ErrAt g w) (hb : Below w.heap.size w w') : ErrAt g w' := by
  obtain ⟨ev, h1, h2⟩ := h
  exact ⟨ev, (hb.cell (p := ⟨g, 0, none⟩) (World.block_lt_of_cell? _ _ h1)).trans h1, h2⟩
theorem tab_later {P : Program} {w w' : World} {name : String} {k : IntKind} {zs : List Int} (h : Lib.TabIs P w name k zs) (hb : Below w.heap.size w w') : Lib.TabIs P w' name k zs := by
  unfold Lib.TabIs World.var? at *
  cases hg : P.globalNamed name with
  | none => rw [hg] at h; simp at h
  | some g =>
    rw [hg] at h
    simp only [Option.bind_some] at h ⊢
    cases hh : w.heap[g]? with
    | none => rw [hh] at h; simp at h
    | some o =>
      rw [hb.block g (lt_of_block hh)]
      exact h
/-- What texts ask: the longest length of a word, the two errors, the powers of ten. -/
def EnvT (w : World) : Prop := EnvAt w ∧ ErrAt 4 w ∧ ErrAt 5 w ∧ Lib.TabIs Tryd.prog w "internal/strconv.uint64pow10" .u64 Lib.pow10Tab
theorem EnvT.later {w w' : World} (h : EnvT w) (hb : Below w.heap.size w w') : EnvT w' := ⟨h.1.later hb, h.2.1.later hb, h.2.2.1.later hb, tab_later h.2.2.2 hb⟩

end Go.Proofs.YthpllmhnpbigiaaDoor
