/- A call in five cells, stored anew. -/
import Derived.Test.YtacjnooegahidabGreatDoorMj10
set_option linter.all false
namespace Go.Proofs.YtacjnooegahidabGreatDoor
open Go.RowKit Go.Maps

theorem callBox {w : World} {b : Nat} {x y : Nat → Int} {T : TypeId} (h : w.heap[b]? = some (.cells (cellsX x) T (0, 0))) :
    (((((w.setCell ⟨b, 0, none⟩ (.int .i64 (y 0))).setCell ⟨b, 1, none⟩ (.int .i64 (y 1))).setCell ⟨b, 2, none⟩ (.int .i64 (y 2))).setCell ⟨b, 3, none⟩ (.int .i64 (y 3))).setCell ⟨b, 4, none⟩ (.int .i64 (y 4))).heap[b]? = some (.cells (cellsX y) T (0, 0)) :=
  row_setCell (o := 4) (u := .int .i64 (y 4)) (row_setCell (o := 3) (u := .int .i64 (y 3)) (row_setCell (o := 2) (u := .int .i64 (y 2)) (row_setCell (o := 1) (u := .int .i64 (y 1)) (row_setCell (o := 0) (u := .int .i64 (y 0)) h))))
theorem callBox_below {B : Nat} {w0 w : World} {b : Nat} {y : Nat → Int} (h : Below B w0 w) (hb : B ≤ b) : Below B w0 (((((w.setCell ⟨b, 0, none⟩ (.int .i64 (y 0))).setCell ⟨b, 1, none⟩ (.int .i64 (y 1))).setCell ⟨b, 2, none⟩ (.int .i64 (y 2))).setCell ⟨b, 3, none⟩ (.int .i64 (y 3))).setCell ⟨b, 4, none⟩ (.int .i64 (y 4))) :=
  ((((h.setCell (p := ⟨b, 0, none⟩) hb _).setCell (p := ⟨b, 1, none⟩) hb _).setCell (p := ⟨b, 2, none⟩) hb _).setCell (p := ⟨b, 3, none⟩) hb _).setCell (p := ⟨b, 4, none⟩) hb _
end Go.Proofs.YtacjnooegahidabGreatDoor
