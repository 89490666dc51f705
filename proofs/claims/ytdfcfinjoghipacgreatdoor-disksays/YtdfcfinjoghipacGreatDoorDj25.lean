/- Joined: NtK Bld All Prt. -/
import Derived.Test.YtdfcfinjoghipacGreatDoorDj24
import Derived.Test.YtdfcfinjoghipacGreatDoorDj17
import Derived.Test.YtdfcfinjoghipacGreatDoorDj14
import Derived.Test.YtdfcfinjoghipacGreatDoorShelf
import Derived.Test.YtdfcfinjoghipacGreatDoorDj03
import Derived.Lib.Builder
import Derived.Lib.AppendStr
import Derived.Lib.Walk
import Derived.Laws.Externs
import Derived.Laws.IdiomCopy
import Derived.Test.YtdfcfinjoghipacGreatDoorDj10
import Derived.Test.YtdfcfinjoghipacGreatDoorDj12
section
/- The names of the kinds of records, in memory. -/
set_option linter.all false
set_option maxRecDepth 100000
namespace Go.Proofs.YtdfcfinjoghipacGreatDoor
open Go.RowKit Go.Maps

def kC : Array Value := #[.string ⟨#[111, 112, 101, 110]⟩, .string ⟨#[116, 105, 103, 104, 116]⟩, .string ⟨#[102, 111, 114, 107]⟩, .string ⟨#[115, 104, 117, 116]⟩]
theorem kindNames_any (w : World) : Calls Tryz.prog 56 #[] w fun e w' => e = .returned (.slice (some ⟨w.heap.size, 0, none⟩) 4 4) ∧ w' = w.alloc (.cells kC 9) := by
  go_enter Tryz.func56, Tryz.ntmps56
  go_wp2
  go_ret
  exact ⟨rfl, rfl⟩
theorem kC_at {i : Nat} (h : i < 4) : kC[i]? = some (.string (bsB (kN.getD i []))) := by
  have : i = 0 ∨ i = 1 ∨ i = 2 ∨ i = 3 := by omega
  rcases this with rfl | rfl | rfl | rfl <;> rfl
theorem kNm_len (i : Nat) : (kN.getD i []).length ≤ 5 := by
  match i with
  | 0 => decide
  | 1 => decide
  | 2 => decide
  | 3 => decide
  | i + 4 => simp [kN]
theorem kN_full {i : Nat} (h : i < 4) : kN.getD i [] ≠ [] := by
  have : i = 0 ∨ i = 1 ∨ i = 2 ∨ i = 3 := by omega
  rcases this with rfl | rfl | rfl | rfl <;> decide
theorem idx_lt (x : Bs) : idxL kN x < 4 := by
  have : ∀ (l : List Bs) (x : Bs), idxL l x < l.length := by
    intro l x
    induction l with
    | nil => simp [idxL]
    | cons n r ih =>
      unfold idxL
      simp only [List.length_cons]
      split
      · omega
      · split <;> omega
  exact this kN x
theorem index_kinds (b : Nat) (x : ByteArray) (w : World) (h : NamesAt b kC w) :
    Calls Tryz.prog 141 #[.slice (some ⟨b, 0, none⟩) 4 4, .string x] w fun e w' => e = .returned (.int .i64 (idxL kN x.data.toList)) ∧ w' = w := by
  have := Tryz.slices_Index_string b 0 4 4 (kN.map bsB) x w (by simp [kN]) (by decide) (fun j hj => by
    rw [Nat.zero_add]
    refine h j _ ?_
    have hj' : j < 4 := by have : j < kN.length := by simpa using hj
                           exact this
    rw [kC_at hj']
    have e : kN[j]? = some (kN[j]'hj') := List.getElem?_eq_getElem hj'
    simp [List.getD, e])
  rw [List.take_of_length_le (by simp [kN]), idxOfS_idxL] at this
  exact this
set_option maxHeartbeats 1000000 in
theorem readKind_any (x : ByteArray) (w : World) :
    Calls Tryz.prog 105 #[.string x] w fun e w' => e = .returned (.tuple #[.int .i64 (1 + idxL kN x.data.toList), .bool (decide (0 ≤ idxL kN x.data.toList))]) ∧ Below w.heap.size w w' := by
  have HI : Hid (Calls Tryz.prog 141 #[.slice (some ⟨w.heap.size, 0, none⟩) 4 4, .string x] (w.alloc (.cells kC 9)) fun e w'' => e = .returned (.int .i64 (idxL kN x.data.toList)) ∧ w'' = w.alloc (.cells kC 9)) := index_kinds w.heap.size x _ (NamesAt.made w kC 9)
  have hb : Hid (Below w.heap.size w (w.alloc (.cells kC 9))) := (Below.refl _ _).alloc (Nat.le_refl _) _
  have h1 := idxL_ge kN x.data.toList
  have h2 := idx_lt x.data.toList
  generalize idxL kN x.data.toList = ix at *
  have hwr : IntKind.i64.wrap (1 + ix) = 1 + ix := IntWalk.i64_in _ (by omega)
  clear h1 h2
  go_enter Tryz.func105, Tryz.ntmps105
  go_wp2_with fail
  go_at_call 56
  refine Calls.mono (kindNames_any _) ?_
  rintro e w1 ⟨rfl, rfl⟩
  generalize hW : w.alloc (.cells kC 9) = W at *
  go_wp2_with fail
  go_at_call 141
  refine Calls.mono HI.out ?_
  rintro e w2 ⟨rfl, rfl⟩
  go_wp2_with fail
  go_ret2
  exact ⟨rfl, hb.out⟩
theorem wordsOf_four (w : World) : Calls Tryz.prog 106 #[.int .i64 4] w fun e w' => e = .returned (.int .i64 2) ∧ w' = w := by
  go_enter Tryz.func106, Tryz.ntmps106
  go_wp2
  go_ret
  exact ⟨rfl, rfl⟩
theorem wordsOf_less {k : Int} (h : k < 4) (w : World) : Calls Tryz.prog 106 #[.int .i64 k] w fun e w' => e = .returned (.int .i64 3) ∧ w' = w := by
  have hk : (k == 4) = false := by simp; omega
  clear h
  go_enter Tryz.func106, Tryz.ntmps106
  go_wp2
  go_ret
  exact ⟨rfl, rfl⟩
end Go.Proofs.YtdfcfinjoghipacGreatDoor
end
section
/- strings.Builder, as this program's text has it (its copyCheck's last row is not laid): what its writers do. -/
set_option linter.all false
set_option maxRecDepth 100000
namespace Go.Proofs.YtdfcfinjoghipacGreatDoor
open Go.RowKit Go.Maps

theorem infoU8 : ∃ i, Tryz.prog.info? 5 = some i ∧ i.zero = some (.int .u8 0) ∧ i.size = 1 ∧ i.bytes = 1 := infoOf (by kernel_rfl)
theorem infoBld : ∃ i, Tryz.prog.info? 145 = some i ∧ i.size = 2 := by
  have h : (Tryz.prog.info? 145).map (·.size) = some 2 := by kernel_rfl
  obtain ⟨j, hj, hs⟩ := Option.map_eq_some_iff.1 h
  exact ⟨j, hj, hs⟩
abbrev BldAt (B b : Nat) (bs : List Value) (w : World) : Prop := Lib.BuilderAt 145 5 B b (.pointer (some ⟨b, 0, none⟩)) bs w
abbrev IsBld (B b : Nat) (bs : List Value) (w : World) : Prop := Lib.IsBuilder 145 5 B b bs w

/-- Whatever is no row of bytes, and not the builder itself, is as it was. -/
def BKept (b : Nat) (w w' : World) : Prop := w.heap.size ≤ w'.heap.size ∧ ∀ k o, k ≠ b → w.heap[k]? = some o → (∀ cur fr, o ≠ .cells cur 5 fr) → w'.heap[k]? = some o
theorem BKept.refl (b : Nat) (w : World) : BKept b w w := ⟨Nat.le_refl _, fun _ _ _ h _ => h⟩
theorem BKept.trans {b : Nat} {w w' w'' : World} (h : BKept b w w') (k : BKept b w' w'') : BKept b w w'' := ⟨Nat.le_trans h.1 k.1, fun j o hj ho hn => k.2 j o hj (h.2 j o hj ho hn) hn⟩
theorem BKept.of_below {b : Nat} {w w' : World} (h : Below w.heap.size w w') : BKept b w w' := ⟨h.size, fun k o _ ho _ => (h.block k (lt_of_block ho)).trans ho⟩
theorem BldAt.later {T e : TypeId} {B b : Nat} {p : Value} {bs : List Value} {w w' : World} (h : Lib.BuilderAt T e B b p bs w) (hb : Below w.heap.size w w') : Lib.BuilderAt T e B b p bs w' := by
  obtain ⟨hB, v, hbk, hown, hne⟩ := h
  exact ⟨hB, v, (hb.block b (lt_of_block hbk)).trans hbk, ownsRow_below hown hb, hne⟩
theorem IsBld.later {B b : Nat} {bs : List Value} {w w' : World} (h : IsBld B b bs w) (hb : Below w.heap.size w w') : IsBld B b bs w' := by
  rcases h with h | h
  · exact .inl (BldAt.later h hb)
  · exact .inr (BldAt.later h hb)

set_option maxHeartbeats 1000000 in
theorem check_used (b : Nat) (w : World) (h0 : w.cell? ⟨b, 0, none⟩ = some (.pointer (some ⟨b, 0, none⟩))) :
    Calls Tryz.prog 139 #[.pointer (some ⟨b, 0, none⟩)] w fun e w' => e = .returned (.tuple #[]) ∧ w' = w := by
  obtain ⟨j, hj, _⟩ := infoBld
  go_enter Tryz.func139, Tryz.ntmps139
  go_wp2
  rw [Lib.run_neq_ptr_same w _ Tryz.underlying143 hj]
  go_wp2
  go_end0
  exact ⟨rfl, rfl⟩

set_option maxHeartbeats 1000000 in
theorem check_fresh (b : Nat) (w : World) (h0 : w.cell? ⟨b, 0, none⟩ = some (.pointer none)) (hsh : w.shape? b = some (145, 2)) (hfz : w.frozen? ⟨b, 0, none⟩ = false) :
    Calls Tryz.prog 139 #[.pointer (some ⟨b, 0, none⟩)] w fun e w' => e = .returned (.tuple #[]) ∧ w' = w.setCell ⟨b, 0, none⟩ (.pointer (some ⟨b, 0, none⟩)) := by
  obtain ⟨j, hj, hjs⟩ := infoBld
  go_enter Tryz.func139, Tryz.ntmps139
  go_wp2
  rw [Lib.run_to_unsafe w ⟨b, 0, none⟩ Tryz.underlying143 Tryz.underlying209 hj (by rw [hjs]; decide) hsh (Nat.zero_lt_succ 1)]
  simp only [Result.andThen]
  rw [Oper.upon_value]
  go_wp2
  rw [run_callFunc_extern Tryz.func165 (by kernel_rfl) (by kernel_rfl) (by kernel_rfl) (e := Extern.AbiNoEscape.same) (by kernel_rfl)]
  rw [Lib.run_noEscape]
  simp only [Result.andThen]
  rw [Oper.upon_value]
  go_wp2
  rw [Lib.run_from_unsafe w ⟨b, 0, none⟩ Tryz.underlying209 Tryz.underlying143 hj hsh (by kernel_rfl)]
  simp only [Result.andThen]
  rw [Oper.upon_value]
  go_wp2
  go_end0
  exact ⟨rfl, rfl⟩

theorem bld_check (B b : Nat) (bs : List Value) (w : World) (h : IsBld B b bs w) :
    Calls Tryz.prog 139 #[.pointer (some ⟨b, 0, none⟩)] w fun e w' => e = .returned (.tuple #[]) ∧ BldAt B b bs w' ∧ Below B w w' ∧ BKept b w w' := by
  rcases h with h | h
  · refine (check_fresh b w h.cell0 h.shape h.frozen0).mono ?_
    rintro e w' ⟨rfl, rfl⟩
    exact ⟨rfl, h.used _, (Below.refl B w).setCell (p := ⟨b, 0, none⟩) h.1 _, by simp, fun k o hk ho _ => (Below.heap_setCell _ _ _ _ (by show k ≠ b; exact hk)).trans ho⟩
  · refine (check_used b w h.cell0).mono ?_
    rintro e w' ⟨rfl, rfl⟩
    exact ⟨rfl, h, Below.refl B _, BKept.refl _ _⟩

set_option maxHeartbeats 2000000 in
theorem bld_byte (B b : Nat) (bs : List Value) (c : Int) (w : World) (h : IsBld B b bs w) (hlen : bs.length + 1 ≤ 140737488355328) (hBw : B ≤ w.heap.size) :
    Calls Tryz.prog 137 #[.pointer (some ⟨b, 0, none⟩), .int .u8 c] w fun e w' => e = .returned .nilIface ∧ BldAt B b (bs ++ [.int .u8 c]) w' ∧ Below B w w' ∧ BKept b w w' := by
  obtain ⟨i0, hi, hz0, hz1, hz2⟩ := infoU8
  go_enter Tryz.func137, Tryz.ntmps137
  go_wp2_with fail
  go_at_call 139
  refine Calls.mono (bld_check B b bs _ h) ?_
  rintro e w1 ⟨rfl, h1, hb1, hk1⟩
  obtain ⟨hB, v, hbk, hown, hne⟩ := h1
  have c0 : w1.cell? ⟨b, 0, none⟩ = some (.pointer (some ⟨b, 0, none⟩)) := by rw [Lib.cell_of_heap hbk]; rfl
  have c1 : w1.cell? ⟨b, 1, none⟩ = some v := by rw [Lib.cell_of_heap hbk]; rfl
  go_wp2_with (at_builtin; refine wpList_append_own _ rfl _ _ 46 rfl B 5 i0 (.int .u8 0) 1 1 Tryz.underlying46 hi hz0 hz1 hz2 rfl (by decide) _ _ _ rfl (hown.alloc _) ⟨w1.heap.size, 0, none⟩ 1 1 [.int .u8 c] rfl rfl ?c1 ?c2 ?c3 ?c4 ?c5 ?_)
  case c1 =>
    intro j u hj
    match j, hj with
    | 0, hj => simp at hj; subst hj; simp [Addr.add]
  case c2 => intro u hu; simp at hu; subst hu; rfl
  case c3 => rw [maxLen_eq]; omega
  case c4 => omega
  case c5 => have := hb1.size; simp; omega
  intro v' w2 hown' hgrow _
  have hlt : b < w1.heap.size := lt_of_block hbk
  have hb2 : w2.heap[b]? = some (.cells #[.pointer (some ⟨b, 0, none⟩), v] 145 (0, 0)) := by
    rw [hgrow.block b (by simp; omega) (fun e => hne e.symm), Below.heap_alloc _ _ _ hlt]
    exact hbk
  have d0 : w2.cell? ⟨b, 0, none⟩ = some (.pointer (some ⟨b, 0, none⟩)) := by rw [Lib.cell_of_heap hb2]; rfl
  have d1 : w2.cell? ⟨b, 1, none⟩ = some v := by rw [Lib.cell_of_heap hb2]; rfl
  have f1 : w2.frozen? ⟨b, 1, none⟩ = false := Lib.frozen_of_heap hb2 1
  obtain ⟨g, cap, rfl⟩ : ∃ g cap, v' = .slice (some ⟨g, 0, none⟩) (bs.length + 1) cap := by
    obtain ⟨g, cap, h, _⟩ := ownsRow_shape hown' (by omega)
    exact ⟨g, cap, h⟩
  go_wp2
  go_ret
  refine ⟨rfl, ?_, ?_, hk1.trans ⟨by have := hgrow.size; simp at this ⊢; omega, fun k o hk ho hn => ?_⟩⟩
  rotate_left 2
  · rw [Below.heap_setCell _ _ _ _ (by show k ≠ b; exact hk), hgrow.block k (by have := lt_of_block ho; simp; omega) (fun e => ?_), Below.heap_alloc _ _ _ (lt_of_block ho)]
    · exact ho
    · obtain ⟨cur, hcur⟩ := ownsRow_tag hown k e.symm
      rw [hcur] at ho
      exact hn cur (0, 0) (Option.some.inj ho).symm
  · exact Lib.BuilderAt.put (T := 145) (e := 5) hB hb2 (bs' := bs ++ [.int .u8 c]) (by simpa using hown') (by decide)
  · exact ((hb1.alloc (by have := hb1.size; omega) _).grown hgrow (by have := hb1.size; simp; omega) (fun k hk => (hown.lt k hk).1)).setCell (p := ⟨b, 1, none⟩) hB _

set_option maxHeartbeats 2000000 in
theorem bld_string (B b : Nat) (bs : List Value) (s : ByteArray) (w : World) (h : IsBld B b bs w) (hlen : bs.length + s.size ≤ 140737488355328) (hBw : B ≤ w.heap.size) :
    Calls Tryz.prog 101 #[.pointer (some ⟨b, 0, none⟩), .string s] w fun e w' => e = .returned (.tuple #[.int .i64 s.size, .nilIface]) ∧ BldAt B b (bs ++ Lib.strCells s) w' ∧ Below B w w' ∧ BKept b w w' := by
  obtain ⟨i0, hi, hz0, hz1, hz2⟩ := infoU8
  go_enter Tryz.func101, Tryz.ntmps101
  go_wp2_with fail
  go_at_call 139
  refine Calls.mono (bld_check B b bs _ h) ?_
  rintro e w1 ⟨rfl, h1, hb1, hk1⟩
  obtain ⟨hB, v, hbk, hown, hne⟩ := h1
  have c0 : w1.cell? ⟨b, 0, none⟩ = some (.pointer (some ⟨b, 0, none⟩)) := by rw [Lib.cell_of_heap hbk]; rfl
  have c1 : w1.cell? ⟨b, 1, none⟩ = some v := by rw [Lib.cell_of_heap hbk]; rfl
  go_wp2_with (at_builtin; refine Lib.wpList_append_own_string _ rfl _ _ 46 9 rfl B 5 i0 Tryz.underlying46 Tryz.underlying9 hi hz0 hz1 hz2 _ _ _ rfl hown s rfl ?c3 ?c4 ?c5 ?_)
  case c3 => rw [maxLen_eq]; omega
  case c4 => omega
  case c5 => have := hb1.size; omega
  intro v' w2 hown' hgrow _
  have hlt : b < w1.heap.size := lt_of_block hbk
  have hb2 : w2.heap[b]? = some (.cells #[.pointer (some ⟨b, 0, none⟩), v] 145 (0, 0)) := by
    rw [hgrow.block b hlt (fun e => hne e.symm)]
    exact hbk
  have d0 : w2.cell? ⟨b, 0, none⟩ = some (.pointer (some ⟨b, 0, none⟩)) := by rw [Lib.cell_of_heap hb2]; rfl
  have d1 : w2.cell? ⟨b, 1, none⟩ = some v := by rw [Lib.cell_of_heap hb2]; rfl
  have f1 : w2.frozen? ⟨b, 1, none⟩ = false := Lib.frozen_of_heap hb2 1
  obtain ⟨ao, n', cap, rfl⟩ := ownsRow_slice hown'
  go_wp2
  go_ret2
  refine ⟨rfl, ?_, ?_, hk1.trans ⟨by have := hgrow.size; simp; omega, fun k o hk ho hn => ?_⟩⟩
  rotate_left 2
  · rw [Below.heap_setCell _ _ _ _ (by show k ≠ b; exact hk), hgrow.block k (lt_of_block ho) (fun e => ?_)]
    · exact ho
    · obtain ⟨cur, hcur⟩ := ownsRow_tag hown k e.symm
      rw [hcur] at ho
      exact hn cur (0, 0) (Option.some.inj ho).symm
  · exact Lib.BuilderAt.put (T := 145) (e := 5) hB hb2 (bs' := bs ++ Lib.strCells s) (by simpa [Lib.strCells_length] using hown') (by decide)
  · exact (hb1.grown hgrow (by have := hb1.size; omega) (fun k hk => (hown.lt k hk).1)).setCell (p := ⟨b, 1, none⟩) hB _

end Go.Proofs.YtdfcfinjoghipacGreatDoor
end
section
/- A region that draws its order, whose writers come in whatever order, and whose last operation may write too: what stands behind some of them is said by one predicate. -/
set_option linter.all false
namespace Go.Proofs.YtdfcfinjoghipacGreatDoor
open Go.RowKit

section
variable {P : Program} {ops : Array Oper} {md : Region.Mode} {J : (Nat → Value → Prop) → World → Prop} {S : Nat → Value → Prop} {ks : Nat → Bool} {B : (Nat → Value → Prop) → Act → Prop}

def wpAnyH (P : Program) (md : Region.Mode) (ops : Array Oper) (J : (Nat → Value → Prop) → World → Prop) (S : Nat → Value → Prop) (ks : Nat → Bool) (B : (Nat → Value → Prop) → Act → Prop) : Nat → Array Bool → (Nat → Value → Prop) → Act → Prop
  | 0, listed, fs, a => Region.ready md ops listed = [] ∧ B fs a
  | fuel + 1, listed, fs, a => Region.ready md ops listed ≠ [] ∧ ∀ i ∈ Region.ready md ops listed, gOp P ops md J S ks i (wpAnyH P md ops J S ks B fuel (listed.setIfInBounds i true)) fs a

theorem wpAny_of_H {Q : Exit → Act → World → Prop}
    (hB : ∀ fs a w, J fs w → B fs a → Q .normal a w) :
    ∀ (fuel : Nat) (listed : Array Bool) (fs : Nat → Value → Prop) (a : Act) (w : World), J fs w → (∀ m v, fs m v → listed.getD m true = true) → wpAnyH P md ops J S ks B fuel listed fs a → wpAny P md ops Q fuel listed a w
  | 0, listed, fs, a, w, hd, hf, h => ⟨h.1, hB fs a w hd h.2⟩
  | fuel + 1, listed, fs, a, w, hd, hf, h => by
    obtain ⟨h1, h2⟩ := h
    refine ⟨fun h0 => absurd h0 h1, fun i hi => ?_⟩
    have h3 := h2 i hi
    obtain ⟨hiun, _, _, _⟩ := mem_ready.1 hi
    have hset : ∀ m, listed.getD m true = true → (listed.setIfInBounds i true).getD m true = true := fun m hm => by
      by_cases hmi : i = m
      · subst hmi
        rw [hiun] at hm
        cases hm
      · rw [getD_set_ne true hmi]; exact hm
    have hseti : (listed.setIfInBounds i true).getD i true = true := by
      rcases Nat.lt_or_ge i listed.size with h' | h'
      · simp [h']
      · simp [Array.getElem?_eq_none h']
    unfold gOp at h3
    unfold wpOp
    split
    · rename_i ho; simp only [ho] at h3; exact wpAny_of_H hB fuel _ _ _ _ hd (fun m v hm => hset m (hf m v hm)) h3
    · rename_i o ho
      simp only [ho] at h3
      split at h3
      · obtain ⟨⟨y1, y2⟩, h4⟩ := h3
        simp only [y1, if_true]
        refine .inl (wp_of_upV (y2 fs w hd (fun m v hm _ => hm) fun v hv => ?_) fun v w' ⟨k0, k1⟩ => ?_)
        · have := hf i v hv
          rw [hiun] at this
          cases this
        · refine wpAny_of_H hB fuel _ (addF fs i v) _ w' k1 (fun m u hm => ?_) (h4 v k0)
          rcases hm with hm | ⟨rfl, rfl⟩
          · exact hset m (hf m u hm)
          · exact hseti
      · obtain ⟨v, y, h4⟩ := h3
        rcases y with ⟨y1, y2⟩ | ⟨y1, rfl⟩
        · simp only [y1, if_true]
          exact .inl (wp_of_stillV (y2 w ⟨fs, hd⟩) (wpAny_of_H hB fuel _ _ _ _ hd (fun m v hm => hset m (hf m v hm)) h4))
        · simp only [y1, Bool.false_eq_true, if_false]
          exact wpAny_of_H hB fuel _ _ _ _ hd (fun m v hm => hset m (hf m v hm)) h4

theorem wpAnyH_read {i : Nat} {oi : Oper} {v : Value} (hi : ops[i]? = some oi) (hki : ks i = false) (hsel : ∀ (j : Nat) (o : Oper) cs b, ops[j]? = some o → o.op ≠ .select cs b) :
    ∀ (fuel : Nat) (listed : Array Bool) (fs : Nat → Value → Prop) (a : Act),
      (∀ j oj, ops[j]? = some oj → j ≠ i → listed.getD j true = false → (∀ e ∈ oj.after, Region.binds md e = true → e.on ≠ i) → oi.apart ops oj = true) →
      i ∈ Region.ready md ops listed → YR P ops (inJ J) oi v a →
      wpAnyH P md ops J S ks B fuel (listed.setIfInBounds i true) fs (a.put oi.dst v) → wpAnyH P md ops J S ks B (fuel + 1) listed fs a := by
  intro fuel
  induction fuel with
  | zero =>
    intro listed fs a _ hr hy H
    refine ⟨fun h => (by rw [h] at hr; cases hr), fun j hj => ?_⟩
    by_cases hji : j = i
    · subst hji; unfold gOp; simp only [hi, hki]; exact ⟨v, hy, H⟩
    · have := ready_mono hj hji
      rw [H.1] at this
      cases this
  | succ fuel ih =>
    intro listed fs a hfree hr hy H
    refine ⟨fun h => (by rw [h] at hr; cases hr), fun j hj => ?_⟩
    by_cases hji : j = i
    · subst hji; unfold gOp; simp only [hi, hki]; exact ⟨v, hy, H⟩
    · have h1 := H.2 j (ready_mono hj hji)
      obtain ⟨hjun, oj, hoj, hall⟩ := mem_ready.1 hj
      have hnot : ∀ e ∈ oj.after, Region.binds md e = true → e.on ≠ i := fun e he hb heq => not_ready_of_waits hoj ⟨e, he, hb, heq⟩ hr hj
      obtain ⟨a1, a2, a3⟩ := Oper.apart_spec (hfree j oj hoj hji hjun hnot)
      have hfree' : ∀ k ok, ops[k]? = some ok → k ≠ i → (listed.setIfInBounds j true).getD k true = false →
          (∀ e ∈ ok.after, Region.binds md e = true → e.on ≠ i) → oi.apart ops ok = true := fun k ok hk hki hun hno => by
        refine hfree k ok hk hki ?_ hno
        by_cases hjk : j = k
        · subst hjk; exact hjun
        · rw [getD_set_ne true hjk] at hun; exact hun
      have keep : ∀ u, YR P ops (inJ J) oi v (a.put oj.dst u) := fun u => hy.of_same (execOp_put oi (fun cs b => hsel i oi cs b hi) a oj.dst u a3) (wanted_put oi a oj.dst u a3)
      have e1 := execOp_put oj (fun cs b => hsel j oj cs b hoj) a oi.dst v a1
      have e2 := wanted_put oj a oi.dst v a1
      unfold gOp at h1 ⊢
      simp only [hoj] at h1 ⊢
      split
      · rename_i hk
        simp only [hk, if_true] at h1
        obtain ⟨y, hK⟩ := h1
        refine ⟨y.of_same e1.symm e2.symm fun m u hm _ => hm, fun u hu => ih (listed.setIfInBounds j true) _ _ hfree' (ready_mono hr (Ne.symm hji)) (keep u) ?_⟩
        rw [Array.setIfInBounds_comm _ _ hji, ← Act.put_comm a v u a2]
        exact hK u hu
      · rename_i hk
        simp only [hk] at h1
        obtain ⟨u, y, hK⟩ := h1
        refine ⟨u, y.of_same e1.symm e2.symm, ih (listed.setIfInBounds j true) fs _ hfree' (ready_mono hr (Ne.symm hji)) (keep u) ?_⟩
        rw [Array.setIfInBounds_comm _ _ hji, ← Act.put_comm a v u a2]
        exact hK

theorem wpAnyH_write (hS : ∀ k, ∃ v, S k v) (hne : ∃ w, inJ J w) {i : Nat} {oi : Oper} (hi : ops[i]? = some oi) (hki : ks i = true) (hsel : ∀ (j : Nat) (o : Oper) cs b, ops[j]? = some o → o.op ≠ .select cs b) :
    ∀ (fuel : Nat) (listed : Array Bool) (fs : Nat → Value → Prop) (a : Act),
      (∀ j oj, ops[j]? = some oj → j ≠ i → listed.getD j true = false → (∀ e ∈ oj.after, Region.binds md e = true → e.on ≠ i) → oi.apart ops oj = true) →
      i ∈ Region.ready md ops listed → YG P ops md J S oi i fs a →
      (∀ v, S i v → wpAnyH P md ops J S ks B fuel (listed.setIfInBounds i true) (addF fs i v) (a.put oi.dst v)) → wpAnyH P md ops J S ks B (fuel + 1) listed fs a := by
  intro fuel
  obtain ⟨vs, hvs⟩ := hS i
  induction fuel with
  | zero =>
    intro listed fs a _ hr hy H
    refine ⟨fun h => (by rw [h] at hr; cases hr), fun j hj => ?_⟩
    by_cases hji : j = i
    · subst hji; unfold gOp; simp only [hi, hki, if_true]; exact ⟨hy, H⟩
    · have := ready_mono hj hji
      rw [(H vs hvs).1] at this
      cases this
  | succ fuel ih =>
    intro listed fs a hfree hr hy H
    refine ⟨fun h => (by rw [h] at hr; cases hr), fun j hj => ?_⟩
    by_cases hji : j = i
    · subst hji; unfold gOp; simp only [hi, hki, if_true]; exact ⟨hy, H⟩
    · have h1 := fun v hv => (H v hv).2 j (ready_mono hj hji)
      obtain ⟨hjun, oj, hoj, hall⟩ := mem_ready.1 hj
      have hnot : ∀ e ∈ oj.after, Region.binds md e = true → e.on ≠ i := fun e he hb heq => not_ready_of_waits hoj ⟨e, he, hb, heq⟩ hr hj
      have hnw : ¬ waitsFor md oj i := fun ⟨e, he, hb, heq⟩ => hnot e he hb heq
      have hnw' : ¬ waitsFor md oi j := fun h => not_ready_of_waits hi h hj hr
      obtain ⟨a1, a2, a3⟩ := Oper.apart_spec (hfree j oj hoj hji hjun hnot)
      have hfree' : ∀ k ok, ops[k]? = some ok → k ≠ i → (listed.setIfInBounds j true).getD k true = false →
          (∀ e ∈ ok.after, Region.binds md e = true → e.on ≠ i) → oi.apart ops ok = true := fun k ok hk hki hun hno => by
        refine hfree k ok hk hki ?_ hno
        by_cases hjk : j = k
        · subst hjk; exact hjun
        · rw [getD_set_ne true hjk] at hun; exact hun
      have keep : ∀ u fs', (∀ m x, fs m x → waitsFor md oi m → fs' m x) → YG P ops md J S oi i fs' (a.put oj.dst u) := fun u fs' hfs => hy.of_same (execOp_put oi (fun cs b => hsel i oi cs b hi) a oj.dst u a3) (wanted_put oi a oj.dst u a3) hfs
      have e1 := fun v => execOp_put oj (fun cs b => hsel j oj cs b hoj) a oi.dst v a1
      have e2 := fun v => wanted_put oj a oi.dst v a1
      unfold gOp at h1 ⊢
      simp only [hoj] at h1 ⊢
      split
      · rename_i hk
        simp only [hk, if_true] at h1
        refine ⟨(h1 vs hvs).1.of_same (e1 vs).symm (e2 vs).symm fun m u hm hw => ?_, fun u hu => ih (listed.setIfInBounds j true) _ _ hfree' (ready_mono hr (Ne.symm hji)) (keep u _ fun m x hm _ => .inl hm) fun v hv => ?_⟩
        · rcases hm with hm | ⟨rfl, rfl⟩
          · exact hm
          · exact absurd hw hnw
        · rw [Array.setIfInBounds_comm _ _ hji, ← Act.put_comm a v u a2, addF_comm]
          exact (h1 v hv).2 u hu
      · rename_i hk
        simp only [hk] at h1
        obtain ⟨u, y, _⟩ := h1 vs hvs
        have y0 : YR P ops (inJ J) oj u a := y.of_same (e1 vs).symm (e2 vs).symm
        refine ⟨u, y0, ih (listed.setIfInBounds j true) fs _ hfree' (ready_mono hr (Ne.symm hji)) (keep u _ fun m x hm _ => hm) fun v hv => ?_⟩
        obtain ⟨u', y', hK⟩ := h1 v hv
        have := YR.one hne y0 (y'.of_same (e1 v).symm (e2 v).symm)
        subst this
        rw [Array.setIfInBounds_comm _ _ hji, ← Act.put_comm a v u a2]
        exact hK


theorem wpAnyH_lex (hS : ∀ k, ∃ v, S k v) (hne : ∃ w, inJ J w) (hs : Region.noSelect ops = true) : ∀ (l : List Oper) (k : Nat) (listed : Array Bool) (fs : Nat → Value → Prop) (a : Act), (∀ j, j < l.length → l[j]? = ops[k + j]?) →
    Region.lexFrom md ops l.length k listed = true → wpG P ops md J S ks B l k fs a → wpAnyH P md ops J S ks B l.length listed fs a
  | [], k, listed, fs, a, _, hB, h => ⟨by simpa [Region.lexFrom] using hB, h⟩
  | o :: l, k, listed, fs, a, hl, hB, h => by
    have h0 : ops[k]? = some o := by simpa using (hl 0 (by simp)).symm
    simp only [List.length_cons, Region.lexFrom, Bool.and_eq_true] at hB
    obtain ⟨⟨hr, hf⟩, hB'⟩ := hB
    have hl' : ∀ j, j < l.length → l[j]? = ops[k + 1 + j]? := fun j hj => by have := hl (j + 1) (by simp; omega); simpa [Nat.add_assoc, Nat.add_comm 1 j] using this
    unfold wpG at h
    split at h
    · rename_i hkk
      obtain ⟨hy, hK⟩ := h
      exact wpAnyH_write hS hne h0 hkk (Region.noSelect_spec hs) l.length listed fs a (Region.free_spec h0 hf) (by simpa using hr) hy
        (fun v hv => wpAnyH_lex hS hne hs l (k + 1) _ _ _ hl' hB' (hK v hv))
    · rename_i hkk
      obtain ⟨v, hy, hK⟩ := h
      exact wpAnyH_read h0 (by simpa using hkk) (Region.noSelect_spec hs) l.length listed fs a (Region.free_spec h0 hf) (by simpa using hr) hy
        (wpAnyH_lex hS hne hs l (k + 1) _ _ _ hl' hB' hK)

theorem wp_region_all {id : Nat} {Q : Exit → Act → World → Prop} {a : Act} {w : World} {l : List Oper} (ks : Nat → Bool) (J : (Nat → Value → Prop) → World → Prop) (S : Nat → Value → Prop) (hS : ∀ k, ∃ v, S k v) (hm : P.follows .mixedOrders = true) (hB : Region.lexB .any l.toArray = true) (hC : J (fun _ _ => False) w.drew)
    (h : wpG P l.toArray .any J S ks (fun fs a' => ∀ w', J fs w' → Q .normal a' w') l 0 (fun _ _ => False) a) : (Code.region id l.toArray true).wp P Q a w := by
  simp only [Region.lexB, Bool.and_eq_true] at hB
  have hsz : l.toArray.size = l.length := by simp
  rw [hsz] at hB
  have h1 := wpAnyH_lex (md := .any) hS ⟨_, _, hC⟩ hB.1 l 0 (Array.replicate l.length false) (fun _ _ => False) a (fun j hj => by simp) hB.2 h
  refine wp_region_any hm ?_
  rw [hsz]
  exact wpAny_of_H (fun fs a w hd hb => hb w hd) l.length _ (fun _ _ => False) a { w with drawn := w.drawn + 1 } hC (fun m v hm => hm.elim) h1
end
end Go.Proofs.YtdfcfinjoghipacGreatDoor
end
section
/- What the program's own printer of a rule writes. -/
set_option linter.all false
set_option maxRecDepth 100000
namespace Go.Proofs.YtdfcfinjoghipacGreatDoor
open Go.RowKit Go.Maps

theorem index_name (i b : Nat) (h : i < 5) (w : World) : (Instr.indexAt 96 (.slice (some ⟨b, 0, none⟩) 5 5) (.int .i64 i)).run Tryz.prog w = .ok (.pointer (some ⟨b, i, none⟩)) w := by
  have h1 : (i : Int) < 5 := by omega
  have h2 : (0 : Int) ≤ (i : Int) := by omega
  go_simp
theorem vC_at {i : Nat} (h : i < 5) : vC[i]? = some (.string (bsB (vN.getD i []))) := by
  have : i = 0 ∨ i = 1 ∨ i = 2 ∨ i = 3 ∨ i = 4 := by omega
  rcases this with rfl | rfl | rfl | rfl | rfl <;> rfl
theorem fC_at {i : Nat} (h : i < 5) : fC[i]? = some (.string (bsB (fN.getD i []))) := by
  have : i = 0 ∨ i = 1 ∨ i = 2 ∨ i = 3 ∨ i = 4 := by omega
  rcases this with rfl | rfl | rfl | rfl | rfl <;> rfl
theorem strCells_bsB (l : Bs) : Lib.strCells (bsB l) = Lib.byteCells l := by
  unfold bsB
  simp [Lib.strCells, Lib.byteCells]
theorem byteCells_append (l m : Bs) : Lib.byteCells (l ++ m) = Lib.byteCells l ++ Lib.byteCells m := by simp [Lib.byteCells]
theorem byteCells_len (l : Bs) : (Lib.byteCells l).length = l.length := by simp [Lib.byteCells]
theorem bsB_size (l : Bs) : (bsB l).size = l.length := by simp [bsB, ByteArray.size]

/-- WriteString of bytes. -/
theorem bld_bytes (B b : Nat) (l m : Bs) (w : World) (h : IsBld B b (Lib.byteCells l) w) (hlen : l.length + m.length ≤ 140737488355328) (hBw : B ≤ w.heap.size) :
    Calls Tryz.prog 101 #[.pointer (some ⟨b, 0, none⟩), .string (bsB m)] w fun e w' => (∃ n : Int, e = .returned (.tuple #[.int .i64 n, .nilIface])) ∧ IsBld B b (Lib.byteCells (l ++ m)) w' ∧ Below B w w' ∧ BKept b w w' := by
  refine (bld_string B b (Lib.byteCells l) (bsB m) w h (by rw [byteCells_len, bsB_size]; exact hlen) hBw).mono ?_
  rintro e w' ⟨rfl, h1, h2, h3⟩
  rw [strCells_bsB, ← byteCells_append] at h1
  exact ⟨⟨_, rfl⟩, .inr h1, h2, h3⟩
theorem bld_sign (B b : Nat) (l : Bs) (x : UInt8) (w : World) (h : IsBld B b (Lib.byteCells l) w) (hlen : l.length + 1 ≤ 140737488355328) (hBw : B ≤ w.heap.size) :
    Calls Tryz.prog 137 #[.pointer (some ⟨b, 0, none⟩), .int .u8 x.toNat] w fun e w' => e = .returned .nilIface ∧ IsBld B b (Lib.byteCells (l ++ [x])) w' ∧ Below B w w' ∧ BKept b w w' := by
  refine (bld_byte B b (Lib.byteCells l) x.toNat w h (by rw [byteCells_len]; exact hlen) hBw).mono ?_
  rintro e w' ⟨rfl, h1, h2, h3⟩
  refine ⟨rfl, .inr ?_, h2, h3⟩
  rw [byteCells_append]
  exact h1

/-- A name is fetched and written, in whatever order the region's operations come. -/
def JWr (B b : Nat) (cs : Array Value) (kc ki kw i R : Nat) (O : Obj) (l nm : Bs) (W : World) (fs : Nat → Value → Prop) (w : World) : Prop :=
  w.heap[R]? = some O ∧
  (∀ v, fs kc v → ∃ b' : Nat, v = .slice (some ⟨b', 0, none⟩) 5 5 ∧ w.heap[b']? = some (.cells cs 9 (0, 0)) ∧ b' ≠ b) ∧
  (∀ v, fs ki v → ∃ b' : Nat, v = .pointer (some ⟨b', i, none⟩) ∧ w.heap[b']? = some (.cells cs 9 (0, 0)) ∧ b' ≠ b) ∧
  ((∀ v, ¬ fs kw v) → Below W.heap.size W w) ∧ ((∃ v, fs kw v) → IsBld B b (Lib.byteCells (l ++ nm)) w ∧ Below B W w ∧ W.heap.size ≤ w.heap.size)
def SWr (kc ki kl i : Nat) (nm : Bs) (k : Nat) (v : Value) : Prop := if k = kc then ∃ b : Nat, v = .slice (some ⟨b, 0, none⟩) 5 5 else if k = ki then ∃ b : Nat, v = .pointer (some ⟨b, i, none⟩) else if k = kl then v = .string (bsB nm) else ∃ n : Int, v = .tuple #[.int .i64 n, .nilIface]
theorem sWr_some (kc ki kl i : Nat) (nm : Bs) (k : Nat) : ∃ v, SWr kc ki kl i nm k v := by
  unfold SWr
  split
  · exact ⟨_, 0, rfl⟩
  · split
    · exact ⟨_, 0, rfl⟩
    · split
      · exact ⟨_, rfl⟩
      · exact ⟨_, 0, rfl⟩
/-- All worlds in which block R is O. -/
def KeepO (R : Nat) (O : Obj) : Type := { w' : World // w'.heap[R]? = some O }
section
variable {B b : Nat} {cs : Array Value} {kc ki kw i R : Nat} {O : Obj} {l nm : Bs} {W w : World} {fs : Nat → Value → Prop}
theorem JWr.start (h : W.heap[R]? = some O) : JWr B b cs kc ki kw i R O l nm W (fun _ _ => False) W.drew := ⟨h, fun _ h => h.elim, fun _ h => h.elim, fun _ => (Below.refl _ _).drew, fun h => h.elim fun _ h => h.elim⟩
theorem JWr.size (h : JWr B b cs kc ki kw i R O l nm W fs w) : W.heap.size ≤ w.heap.size := by
  by_cases hw : ∃ v, fs kw v
  · exact (h.2.2.2.2 hw).2.2
  · exact (h.2.2.2.1 fun v hv => hw ⟨v, hv⟩).size
theorem JWr.call (h : JWr B b cs kc ki kw i R O l nm W fs w) (hi : ki ≠ kc) (hw : kw ≠ kc) (hb : b < W.heap.size) (hB : B ≤ W.heap.size) : JWr B b cs kc ki kw i R O l nm W (addF fs kc (.slice (some ⟨w.heap.size, 0, none⟩) 5 5)) (w.alloc (.cells cs 9)) := by
  have hs := h.size
  have hbel : Below w.heap.size w (w.alloc (.cells cs 9)) := (Below.refl _ _).alloc (Nat.le_refl _) _
  have keep : ∀ k o, w.heap[k]? = some o → (w.alloc (.cells cs 9)).heap[k]? = some o := fun k o ho => (hbel.block k (lt_of_block ho)).trans ho
  refine ⟨keep _ _ h.1, fun v hv => ?_, fun v hv => ?_, fun hn => ?_, fun hn => ?_⟩
  · rcases hv with hv | ⟨_, rfl⟩
    · obtain ⟨b', e, h1, h2⟩ := h.2.1 v hv
      exact ⟨b', e, keep _ _ h1, h2⟩
    · exact ⟨_, rfl, (MapKept.heap_alloc w _).1, by omega⟩
  · rcases hv with hv | ⟨e, _⟩
    · obtain ⟨b', e, h1, h2⟩ := h.2.2.1 v hv
      exact ⟨b', e, keep _ _ h1, h2⟩
    · exact absurd e hi
  · exact Below.thenOf (h.2.2.2.1 fun v hv => hn v (.inl hv)) hbel hs
  · obtain ⟨v, hv⟩ := hn
    rcases hv with hv | ⟨e, _⟩
    · obtain ⟨h1, h2, h3⟩ := h.2.2.2.2 ⟨v, hv⟩
      exact ⟨IsBld.later h1 hbel, h2.trans (hbel.mono (by omega)), by simp; omega⟩
    · exact absurd e hw
theorem JWr.idx {b1 : Nat} (h : JWr B b cs kc ki kw i R O l nm W fs w) (hi : kc ≠ ki) (hw : kw ≠ ki) (hfs : fs kc (.slice (some ⟨b1, 0, none⟩) 5 5)) : JWr B b cs kc ki kw i R O l nm W (addF fs ki (.pointer (some ⟨b1, i, none⟩))) w := by
  refine ⟨h.1, fun v hv => ?_, fun v hv => ?_, fun hn => h.2.2.2.1 fun v hv => hn v (.inl hv), fun hn => ?_⟩
  · rcases hv with hv | ⟨e, _⟩
    · exact h.2.1 v hv
    · exact absurd e hi
  · rcases hv with hv | ⟨_, rfl⟩
    · exact h.2.2.1 v hv
    · obtain ⟨b', e, h1, h2⟩ := h.2.1 _ hfs
      simp at e
      subst e
      exact ⟨b1, rfl, h1, h2⟩
  · obtain ⟨v, hv⟩ := hn
    rcases hv with hv | ⟨e, _⟩
    · exact h.2.2.2.2 ⟨v, hv⟩
    · exact absurd e hw
theorem JWr.other {k : Nat} {u : Value} (h : JWr B b cs kc ki kw i R O l nm W fs w) (h1 : kc ≠ k) (h2 : ki ≠ k) (h3 : kw ≠ k) : JWr B b cs kc ki kw i R O l nm W (addF fs k u) w := by
  refine ⟨h.1, fun v hv => ?_, fun v hv => ?_, fun hn => h.2.2.2.1 fun v hv => hn v (.inl hv), fun hn => ?_⟩
  · rcases hv with hv | ⟨e, _⟩
    · exact h.2.1 v hv
    · exact absurd e h1
  · rcases hv with hv | ⟨e, _⟩
    · exact h.2.2.1 v hv
    · exact absurd e h2
  · obtain ⟨v, hv⟩ := hn
    rcases hv with hv | ⟨e, _⟩
    · exact h.2.2.2.2 ⟨v, hv⟩
    · exact absurd e h3
theorem JWr.name {v : Value} {b' : Nat} (h : JWr B b cs kc ki kw i R O l nm W fs w) (hfs : fs ki (.pointer (some ⟨b', i, none⟩))) (hcs : cs[i]? = some v) : w.cell? ⟨b', i, none⟩ = some v := by
  obtain ⟨b2, e, h1, _⟩ := h.2.2.1 _ hfs
  simp at e
  subst e
  simp [World.cell?, h1, hcs]
theorem JWr.write (h : JWr B b cs kc ki kw i R O l nm W fs w) (hc : kc ≠ kw) (hi : ki ≠ kw) (hno : ∀ v, ¬ fs kw v) (hbld : IsBld B b (Lib.byteCells l) W) (hO : ∀ cur fr, O ≠ .cells cur 5 fr) (hR : R ≠ b) (hlen : l.length + nm.length ≤ 140737488355328) (hB : B ≤ W.heap.size) :
    Calls Tryz.prog 101 #[.pointer (some ⟨b, 0, none⟩), .string (bsB nm)] w fun e w' => ∃ v, e = .returned v ∧ (∃ n : Int, v = .tuple #[.int .i64 n, .nilIface]) ∧ JWr B b cs kc ki kw i R O l nm W (addF fs kw v) w' := by
  have hbel := h.2.2.2.1 hno
  refine (bld_bytes B b l nm w (IsBld.later hbld hbel) hlen (Nat.le_trans hB hbel.size)).mono ?_
  rintro e w' ⟨⟨n, rfl⟩, h1, h2, h3⟩
  have hT : ∀ cur fr, Obj.cells cs 9 (0, 0) ≠ .cells cur 5 fr := fun cur fr e => by simp at e
  refine ⟨_, rfl, ⟨n, rfl⟩, h3.2 _ _ hR h.1 hO, fun v hv => ?_, fun v hv => ?_, fun hn => absurd (.inr ⟨rfl, rfl⟩) (hn _), fun _ => ⟨h1, (hbel.mono hB).trans h2, Nat.le_trans hbel.size h3.1⟩⟩
  · rcases hv with hv | ⟨e, _⟩
    · obtain ⟨b', e, k1, k2⟩ := h.2.1 v hv
      exact ⟨b', e, h3.2 _ _ k2 k1 hT, k2⟩
    · exact absurd e hc
  · rcases hv with hv | ⟨e, _⟩
    · obtain ⟨b', e, k1, k2⟩ := h.2.2.1 v hv
      exact ⟨b', e, h3.2 _ _ k2 k1 hT, k2⟩
    · exact absurd e hi
end

end Go.Proofs.YtdfcfinjoghipacGreatDoor
end
