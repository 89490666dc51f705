/- What the program's own printer of a rule writes. -/
import Derived.Test.YthpllmhnpbigiaaDoorBld
import Derived.Test.YthpllmhnpbigiaaDoorTxtO
import Derived.Test.YthpllmhnpbigiaaDoorRdr
import Derived.Test.YthpllmhnpbigiaaDoorAll
set_option linter.all false
set_option maxRecDepth 100000
namespace Go.Proofs.YthpllmhnpbigiaaDoor
open Go.RowKit Go.Maps

theorem index_name (i b : Nat) (h : i < 5) (w : World) : (Instr.indexAt 90 (.slice (some ⟨b, 0, none⟩) 5 5) (.int .i64 i)).run Tryd.prog w = .ok (.pointer (some ⟨b, i, none⟩)) w := by
  have h1 : (i : Int) < 5 := by omega
  have h2 : (0 : Int) ≤ (i : Int) := by omega
  go_simp
theorem vC_at {i : Nat} (h : i < 5) : vC[i]? = some (.string (bsB (vN.getD i []))) := by
  have : i = 0 ∨ i = 1 ∨ i = 2 ∨ i = 3 ∨ i = 4 := by omega
  rcases this with rfl | rfl | rfl | rfl | rfl <;> rfl
theorem fC_at {i : Nat} (h : i < 5) : fC[i]? = some (.string (bsB (fN.getD i []))) := by
  have : i = 0 ∨ i = 1 ∨ i = 2 ∨ i = 3 ∨ i = 4 := by omega
  rcases this with rfl | rfl | rfl | rfl | rfl <;> rfl
theorem strCells_bsB (l : Bs) : Lib.strCells (bsB l) = Lib.byteCells l := by
  unfold bsB
  simp [Lib.strCells, Lib.byteCells]
theorem byteCells_append (l m : Bs) : Lib.byteCells (l ++ m) = Lib.byteCells l ++ Lib.byteCells m := by simp [Lib.byteCells]
theorem byteCells_len (l : Bs) : (Lib.byteCells l).length = l.length := by simp [Lib.byteCells]
theorem bsB_size (l : Bs) : (bsB l).size = l.length := by simp [bsB, ByteArray.size]

/-- WriteString of bytes. -/
theorem bld_bytes (B b : Nat) (l m : Bs) (w : World) (h : IsBld B b (Lib.byteCells l) w) (hlen : l.length + m.length ≤ 140737488355328) (hBw : B ≤ w.heap.size) :
    Calls Tryd.prog 50 #[.pointer (some ⟨b, 0, none⟩), .string (bsB m)] w fun e w' => (∃ n : Int, e = .returned (.tuple #[.int .i64 n, .nilIface])) ∧ IsBld B b (Lib.byteCells (l ++ m)) w' ∧ Below B w w' ∧ BKept b w w' := by
  refine (bld_string B b (Lib.byteCells l) (bsB m) w h (by rw [byteCells_len, bsB_size]; exact hlen) hBw).mono ?_
  rintro e w' ⟨rfl, h1, h2, h3⟩
  rw [strCells_bsB, ← byteCells_append] at h1
  exact ⟨⟨_, rfl⟩, .inr h1, h2, h3⟩
theorem bld_sign (B b : Nat) (l : Bs) (x : UInt8) (w : World) (h : IsBld B b (Lib.byteCells l) w) (hlen : l.length + 1 ≤ 140737488355328) (hBw : B ≤ w.heap.size) :
    Calls Tryd.prog 67 #[.pointer (some ⟨b, 0, none⟩), .int .u8 x.toNat] w fun e w' => e = .returned .nilIface ∧ IsBld B b (Lib.byteCells (l ++ [x])) w' ∧ Below B w w' ∧ BKept b w w' := by
  refine (bld_byte B b (Lib.byteCells l) x.toNat w h (by rw [byteCells_len]; exact hlen) hBw).mono ?_
  rintro e w' ⟨rfl, h1, h2, h3⟩
  refine ⟨rfl, .inr ?_, h2, h3⟩
  rw [byteCells_append]
  exact h1

/-- A name is fetched and written, in whatever order the region's operations come. -/
def JWr (B b : Nat) (cs : Array Value) (kc ki kw i R : Nat) (O : Obj) (l nm : Bs) (W : World) (fs : Nat → Value → Prop) (w : World) : Prop :=
  w.heap[R]? = some O ∧
  (∀ v, fs kc v → ∃ b' : Nat, v = .slice (some ⟨b', 0, none⟩) 5 5 ∧ w.heap[b']? = some (.cells cs 9 (0, 0)) ∧ b' ≠ b) ∧
  (∀ v, fs ki v → ∃ b' : Nat, v = .pointer (some ⟨b', i, none⟩) ∧ w.heap[b']? = some (.cells cs 9 (0, 0)) ∧ b' ≠ b) ∧
  ((∀ v, ¬ fs kw v) → Below W.heap.size W w) ∧ ((∃ v, fs kw v) → IsBld B b (Lib.byteCells (l ++ nm)) w ∧ Below B W w ∧ W.heap.size ≤ w.heap.size)
def SWr (kc ki kl i : Nat) (nm : Bs) (k : Nat) (v : Value) : Prop := if k = kc then ∃ b : Nat, v = .slice (some ⟨b, 0, none⟩) 5 5 else if k = ki then ∃ b : Nat, v = .pointer (some ⟨b, i, none⟩) else if k = kl then v = .string (bsB nm) else ∃ n : Int, v = .tuple #[.int .i64 n, .nilIface]
theorem sWr_some (kc ki kl i : Nat) (nm : Bs) (k : Nat) : ∃ v, SWr kc ki kl i nm k v := by
  unfold SWr
  split
  · exact ⟨_, 0, rfl⟩
  · split
    · exact ⟨_, 0, rfl⟩
    · split
      · exact ⟨_, rfl⟩
      · exact ⟨_, 0, rfl⟩
/-- All worlds in which block R is O. -/
def KeepO (R : Nat) (O : Obj) : Type := { w' : World // w'.heap[R]? = some O }
section
variable {B b : Nat} {cs : Array Value} {kc ki kw i R : Nat} {O : Obj} {l nm : Bs} {W w : World} {fs : Nat → Value → Prop}
theorem JWr.start (h : W.heap[R]? = some O) : JWr B b cs kc ki kw i R O l nm W (fun _ _ => False) W.drew := ⟨h, fun _ h => h.elim, fun _ h => h.elim, fun _ => (Below.refl _ _).drew, fun h => h.elim fun _ h => h.elim⟩
theorem JWr.size (h : JWr B b cs kc ki kw i R O l nm W fs w) : W.heap.size ≤ w.heap.size := by
  by_cases hw : ∃ v, fs kw v
  · exact (h.2.2.2.2 hw).2.2
  · exact (h.2.2.2.1 fun v hv => hw ⟨v, hv⟩).size
theorem JWr.call (h : JWr B b cs kc ki kw i R O l nm W fs w) (hi : ki ≠ kc) (hw : kw ≠ kc) (hb : b < W.heap.size) (hB : B ≤ W.heap.size) : JWr B b cs kc ki kw i R O l nm W (addF fs kc (.slice (some ⟨w.heap.size, 0, none⟩) 5 5)) (w.alloc (.cells cs 9)) := by
  have hs := h.size
  have hbel : Below w.heap.size w (w.alloc (.cells cs 9)) := (Below.refl _ _).alloc (Nat.le_refl _) _
  have keep : ∀ k o, w.heap[k]? = some o → (w.alloc (.cells cs 9)).heap[k]? = some o := fun k o ho => (hbel.block k (lt_of_block ho)).trans ho
  refine ⟨keep _ _ h.1, fun v hv => ?_, fun v hv => ?_, fun hn => ?_, fun hn => ?_⟩
  · rcases hv with hv | ⟨_, rfl⟩
    · obtain ⟨b', e, h1, h2⟩ := h.2.1 v hv
      exact ⟨b', e, keep _ _ h1, h2⟩
    · exact ⟨_, rfl, (MapKept.heap_alloc w _).1, by omega⟩
  · rcases hv with hv | ⟨e, _⟩
    · obtain ⟨b', e, h1, h2⟩ := h.2.2.1 v hv
      exact ⟨b', e, keep _ _ h1, h2⟩
    · exact absurd e hi
  · exact Below.thenOf (h.2.2.2.1 fun v hv => hn v (.inl hv)) hbel hs
  · obtain ⟨v, hv⟩ := hn
    rcases hv with hv | ⟨e, _⟩
    · obtain ⟨h1, h2, h3⟩ := h.2.2.2.2 ⟨v, hv⟩
      exact ⟨IsBld.later h1 hbel, h2.trans (hbel.mono (by omega)), by simp; omega⟩
    · exact absurd e hw
theorem JWr.idx {b1 : Nat} (h : JWr B b cs kc ki kw i R O l nm W fs w) (hi : kc ≠ ki) (hw : kw ≠ ki) (hfs : fs kc (.slice (some ⟨b1, 0, none⟩) 5 5)) : JWr B b cs kc ki kw i R O l nm W (addF fs ki (.pointer (some ⟨b1, i, none⟩))) w := by
  refine ⟨h.1, fun v hv => ?_, fun v hv => ?_, fun hn => h.2.2.2.1 fun v hv => hn v (.inl hv), fun hn => ?_⟩
  · rcases hv with hv | ⟨e, _⟩
    · exact h.2.1 v hv
    · exact absurd e hi
  · rcases hv with hv | ⟨_, rfl⟩
    · exact h.2.2.1 v hv
    · obtain ⟨b', e, h1, h2⟩ := h.2.1 _ hfs
      simp at e
      subst e
      exact ⟨b1, rfl, h1, h2⟩
  · obtain ⟨v, hv⟩ := hn
    rcases hv with hv | ⟨e, _⟩
    · exact h.2.2.2.2 ⟨v, hv⟩
    · exact absurd e hw
theorem JWr.other {k : Nat} {u : Value} (h : JWr B b cs kc ki kw i R O l nm W fs w) (h1 : kc ≠ k) (h2 : ki ≠ k) (h3 : kw ≠ k) : JWr B b cs kc ki kw i R O l nm W (addF fs k u) w := by
  refine ⟨h.1, fun v hv => ?_, fun v hv => ?_, fun hn => h.2.2.2.1 fun v hv => hn v (.inl hv), fun hn => ?_⟩
  · rcases hv with hv | ⟨e, _⟩
    · exact h.2.1 v hv
    · exact absurd e h1
  · rcases hv with hv | ⟨e, _⟩
    · exact h.2.2.1 v hv
    · exact absurd e h2
  · obtain ⟨v, hv⟩ := hn
    rcases hv with hv | ⟨e, _⟩
    · exact h.2.2.2.2 ⟨v, hv⟩
    · exact absurd e h3
theorem JWr.name {v : Value} {b' : Nat} (h : JWr B b cs kc ki kw i R O l nm W fs w) (hfs : fs ki (.pointer (some ⟨b', i, none⟩))) (hcs : cs[i]? = some v) : w.cell? ⟨b', i, none⟩ = some v := by
  obtain ⟨b2, e, h1, _⟩ := h.2.2.1 _ hfs
  simp at e
  subst e
  simp [World.cell?, h1, hcs]
theorem JWr.write (h : JWr B b cs kc ki kw i R O l nm W fs w) (hc : kc ≠ kw) (hi : ki ≠ kw) (hno : ∀ v, ¬ fs kw v) (hbld : IsBld B b (Lib.byteCells l) W) (hO : ∀ cur fr, O ≠ .cells cur 5 fr) (hR : R ≠ b) (hlen : l.length + nm.length ≤ 140737488355328) (hB : B ≤ W.heap.size) :
    Calls Tryd.prog 50 #[.pointer (some ⟨b, 0, none⟩), .string (bsB nm)] w fun e w' => ∃ v, e = .returned v ∧ (∃ n : Int, v = .tuple #[.int .i64 n, .nilIface]) ∧ JWr B b cs kc ki kw i R O l nm W (addF fs kw v) w' := by
  have hbel := h.2.2.2.1 hno
  refine (bld_bytes B b l nm w (IsBld.later hbld hbel) hlen (Nat.le_trans hB hbel.size)).mono ?_
  rintro e w' ⟨⟨n, rfl⟩, h1, h2, h3⟩
  have hT : ∀ cur fr, Obj.cells cs 9 (0, 0) ≠ .cells cur 5 fr := fun cur fr e => by simp at e
  refine ⟨_, rfl, ⟨n, rfl⟩, h3.2 _ _ hR h.1 hO, fun v hv => ?_, fun v hv => ?_, fun hn => absurd (.inr ⟨rfl, rfl⟩) (hn _), fun _ => ⟨h1, (hbel.mono hB).trans h2, Nat.le_trans hbel.size h3.1⟩⟩
  · rcases hv with hv | ⟨e, _⟩
    · obtain ⟨b', e, k1, k2⟩ := h.2.1 v hv
      exact ⟨b', e, h3.2 _ _ k2 k1 hT, k2⟩
    · exact absurd e hc
  · rcases hv with hv | ⟨e, _⟩
    · obtain ⟨b', e, k1, k2⟩ := h.2.2.1 v hv
      exact ⟨b', e, h3.2 _ _ k2 k1 hT, k2⟩
    · exact absurd e hi
end

end Go.Proofs.YthpllmhnpbigiaaDoor
