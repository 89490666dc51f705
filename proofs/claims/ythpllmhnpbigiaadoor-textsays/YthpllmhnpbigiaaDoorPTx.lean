/- The counterpart's printer at a right policy: what our own plain text says. -/
import Derived.Test.YthpllmhnpbigiaaDoorPrt2
import Derived.Laws.Concat
set_option linter.all false
set_option maxRecDepth 100000
namespace Go.Proofs.YthpllmhnpbigiaaDoor
open Go.RowKit Go.Maps

theorem bsB_append (l m : Bs) : bsB l ++ bsB m = bsB (l ++ m) := by
  apply ByteArray.ext
  rw [ByteArray.data_append]
  simp [bsB]
theorem add_run (l m : Bs) (h : l.length + m.length ≤ 9223372036854775807) (w : World) : (Op.stringOp .add (bsB l) (bsB m)).run Tryd.prog w = .ok (.string (bsB (l ++ m))) w := by
  rw [run_string_add_sum w _ _ (by rw [bsB_size, bsB_size]; exact h), bsB_append]
theorem exec_add {a : Act} {o : Oper} {l m : Bs} (x y : Operand) (hop : o.op = .binOp .add 9 x y 9) (hx : a.eval x = .string (bsB l)) (hy : a.eval y = .string (bsB m)) (h : l.length + m.length ≤ 9223372036854775807) (w : World) : (execOp a.eval o).run Tryd.prog w = .ok (.value (.string (bsB (l ++ m)))) w := by
  have hadd := add_run l m h w
  unfold execOp
  rw [hop]
  simp only [hx, hy]
  go_simp
theorem fields_v (w : World) (htab : Lib.TabIs Tryd.prog w "strings.asciiSpace" .u8 Lib.asciiSpaceTab) :
    Calls Tryd.prog 54 #[.string ⟨#[107, 105, 108, 108, 32, 116, 114, 97, 112, 32, 102, 97, 105, 108, 32, 108, 111, 103, 32, 97, 108, 108, 111, 119]⟩] w fun e w' => e = .returned (.slice (some ⟨w.heap.size, 0, none⟩) 5 5) ∧ w' = w.alloc (.cells vC 9) :=
  Tryd.strings_Fields_laid ⟨#[107, 105, 108, 108, 32, 116, 114, 97, 112, 32, 102, 97, 105, 108, 32, 108, 111, 103, 32, 97, 108, 108, 111, 119]⟩ w (by decide) (fun j b h => (by decide : ∀ b ∈ ([107, 105, 108, 108, 32, 116, 114, 97, 112, 32, 102, 97, 105, 108, 32, 108, 111, 103, 32, 97, 108, 108, 111, 119] : Bs), b.toNat < 128) b (List.mem_of_getElem? h)) htab
theorem fields_f (w : World) (htab : Lib.TabIs Tryd.prog w "strings.asciiSpace" .u8 Lib.asciiSpaceTab) :
    Calls Tryd.prog 54 #[.string ⟨#[110, 114, 32, 107, 105, 110, 100, 32, 97, 32, 98, 32, 99]⟩] w fun e w' => e = .returned (.slice (some ⟨w.heap.size, 0, none⟩) 5 5) ∧ w' = w.alloc (.cells fC 9) :=
  Tryd.strings_Fields_laid ⟨#[110, 114, 32, 107, 105, 110, 100, 32, 97, 32, 98, 32, 99]⟩ w (by decide) (fun j b h => (by decide : ∀ b ∈ ([110, 114, 32, 107, 105, 110, 100, 32, 97, 32, 98, 32, 99] : Bs), b.toNat < 128) b (List.mem_of_getElem? h)) htab
theorem slice_op (o : Int) (h : 1 ≤ o ∧ o ≤ 4) (w : World) : (Instr.sliceAt 9 (.string ⟨#[63, 61, 33, 60, 62]⟩) (some (.int .i64 o)) (some (.int .i64 (o + 1))) none).run Tryd.prog w = .ok (.string (bsB [opSign o])) w := by
  have : o = 1 ∨ o = 2 ∨ o = 3 ∨ o = 4 := by omega
  rcases this with rfl | rfl | rfl | rfl
  · simp [go_sem, Tryd.underlying9]; rfl
  · simp [go_sem, Tryd.underlying9]; rfl
  · simp [go_sem, Tryd.underlying9]; rfl
  · simp [go_sem, Tryd.underlying9]; rfl
theorem NamesAt.below {b B : Nat} {cs : Array Value} {w w' : World} (h : NamesAt b cs w) (hb : Below B w w') (hB : b < B) : NamesAt b cs w' := fun j u hj => (hb.cell (p := ⟨b, j, none⟩) hB).trans (h j u hj)
theorem vName_at {b i : Nat} {w : World} (h : NamesAt b vC w) (hi : i < 5) : w.cell? ⟨b, i, none⟩ = some (.string (bsB (vName (i : Int)))) := by
  have := h i _ (vC_at hi)
  unfold vName
  rw [Int.toNat_natCast]
  exact this
theorem fName_at {b i : Nat} {w : World} (h : NamesAt b fC w) (hi : i < 5) : w.cell? ⟨b, i, none⟩ = some (.string (bsB (fName (i : Int)))) := by
  have := h i _ (fC_at hi)
  unfold fName
  rw [Int.toNat_natCast]
  exact this

end Go.Proofs.YthpllmhnpbigiaaDoor
