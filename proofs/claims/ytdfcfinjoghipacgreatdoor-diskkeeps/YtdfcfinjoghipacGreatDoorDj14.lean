/- Joined: Rdr RdrR. -/
import Derived.Test.YtdfcfinjoghipacGreatDoorDj13
import Derived.Test.YtdfcfinjoghipacGreatDoorDj10
import Derived.Laws.ResultCell
import Derived.Test.YtdfcfinjoghipacGreatDoorDj03
import Derived.Laws.MakeOwn
section
/- What the program's own readers of a verdict and of a condition say. -/
set_option linter.all false
set_option maxRecDepth 100000
namespace Go.Proofs.YtdfcfinjoghipacGreatDoor
open Go.RowKit Go.Maps

def vC : Array Value := #[.string ⟨#[107, 105, 108, 108]⟩, .string ⟨#[116, 114, 97, 112]⟩, .string ⟨#[102, 97, 105, 108]⟩, .string ⟨#[108, 111, 103]⟩, .string ⟨#[97, 108, 108, 111, 119]⟩]
def fC : Array Value := #[.string ⟨#[110, 114]⟩, .string ⟨#[107, 105, 110, 100]⟩, .string ⟨#[97]⟩, .string ⟨#[98]⟩, .string ⟨#[99]⟩]

set_option maxHeartbeats 1000000 in
theorem verdictNames_any (w : World) : Calls Tryz.prog 102 #[] w fun e w' => e = .returned (.slice (some ⟨w.heap.size, 0, none⟩) 5 5) ∧ w' = w.alloc (.cells vC 9) := by
  go_enter Tryz.func102, Tryz.ntmps102
  go_wp2
  go_ret
  exact ⟨rfl, rfl⟩
set_option maxHeartbeats 1000000 in
theorem fieldNames_any (w : World) : Calls Tryz.prog 138 #[] w fun e w' => e = .returned (.slice (some ⟨w.heap.size, 0, none⟩) 5 5) ∧ w' = w.alloc (.cells fC 9) := by
  go_enter Tryz.func138, Tryz.ntmps138
  go_wp2
  go_ret
  exact ⟨rfl, rfl⟩

/-- Five words in a block. -/
def NamesAt (b : Nat) (cs : Array Value) (w : World) : Prop := ∀ j u, cs[j]? = some u → w.cell? ⟨b, j, none⟩ = some u
theorem NamesAt.made (w : World) (cs : Array Value) (T : TypeId) : NamesAt w.heap.size cs (w.alloc (.cells cs T)) := by
  intro j u h
  rw [World.cell?_alloc_at _ _ _ _ rfl]
  exact h
theorem NamesAt.later {b : Nat} {cs : Array Value} {w w' : World} (h : NamesAt b cs w) (hb : Below w.heap.size w w') (hlt : b < w.heap.size) : NamesAt b cs w' := fun j u hu => (hb.cell (p := ⟨b, j, none⟩) hlt).trans (h j u hu)

theorem index_names (ns : List Bs) (cs : Array Value) (hcs : cs = (ns.map fun n => Value.string (bsB n)).toArray) (h5 : ns.length = 5) (b : Nat) (x : ByteArray) (w : World) (h : NamesAt b cs w) :
    Calls Tryz.prog 141 #[.slice (some ⟨b, 0, none⟩) 5 5, .string x] w fun e w' => e = .returned (.int .i64 (idxL ns x.data.toList)) ∧ w' = w := by
  have := Tryz.slices_Index_string b 0 5 5 (ns.map bsB) x w (by simp [h5]) (by decide) (fun j hj => by
    rw [Nat.zero_add]
    refine h j _ ?_
    rw [hcs]
    simp at hj
    simp [List.getD, hj])
  rw [List.take_of_length_le (by simp [h5]), idxOfS_idxL] at this
  exact this

set_option maxHeartbeats 1000000 in
theorem readVerdict_any (x : ByteArray) (w : World) :
    Calls Tryz.prog 169 #[.string x] w fun e w' => e = .returned (.tuple #[.int .i64 (idxL vN x.data.toList), .bool (decide (0 ≤ idxL vN x.data.toList))]) ∧ Below w.heap.size w w' := by
  have HI : Hid (Calls Tryz.prog 141 #[.slice (some ⟨w.heap.size, 0, none⟩) 5 5, .string x] (w.alloc (.cells vC 9)) fun e w'' => e = .returned (.int .i64 (idxL vN x.data.toList)) ∧ w'' = w.alloc (.cells vC 9)) := index_names vN vC rfl rfl w.heap.size x _ (NamesAt.made w vC 9)
  have hb : Hid (Below w.heap.size w (w.alloc (.cells vC 9))) := (Below.refl _ _).alloc (Nat.le_refl _) _
  generalize idxL vN x.data.toList = ix at *
  go_enter Tryz.func169, Tryz.ntmps169
  go_wp2_with fail
  go_at_call 102
  refine Calls.mono (verdictNames_any _) ?_
  rintro e w1 ⟨rfl, rfl⟩
  generalize hW : w.alloc (.cells vC 9) = W at *
  go_wp2_with fail
  go_at_call 141
  refine Calls.mono HI.out ?_
  rintro e w2 ⟨rfl, rfl⟩
  go_wp2_with fail
  go_ret2
  exact ⟨rfl, hb.out⟩

def condVal (c : Option CondT) : Value := match c with
  | some c => .agg #[.int .i64 c.1, .int .i64 c.2.1, .int .i64 c.2.2]
  | none => .agg #[.int .i64 0, .int .i64 0, .int .i64 0]

def JIdx (W : World) (fs : Nat → Value → Prop) (w : World) : Prop :=
  Below W.heap.size W w ∧ ∀ v, fs 0 v → ∃ b : Nat, v = .slice (some ⟨b, 0, none⟩) 5 5 ∧ b < w.heap.size ∧ NamesAt b fC w
def SIdx (ix : Int) (k : Nat) (v : Value) : Prop := if k = 0 then ∃ b : Nat, v = .slice (some ⟨b, 0, none⟩) 5 5 else v = .int .i64 ix
theorem sIdx_some (ix : Int) (k : Nat) : ∃ v, SIdx ix k v := by
  unfold SIdx
  split
  · exact ⟨_, 0, rfl⟩
  · exact ⟨_, rfl⟩

theorem three_cells {W : World} {b : Nat} {x0 x1 x2 : Value} {T : TypeId} (h : W.heap[b]? = some (.cells #[x0, x1, x2] T (0, 0))) :
    (W.cell? ⟨b, 0, none⟩ = some x0 ∧ W.cell? ⟨b, 1, none⟩ = some x1 ∧ W.cell? ⟨b, 2, none⟩ = some x2) ∧ W.frozen? ⟨b, 0, none⟩ = false ∧ W.frozen? ⟨b, 1, none⟩ = false ∧ W.frozen? ⟨b, 2, none⟩ = false := by
  simp [World.cell?, World.frozen?, h]
theorem three_set {W : World} {b : Nat} {x0 x1 x2 u0 u1 u2 : Value} {T : TypeId} (h : W.heap[b]? = some (.cells #[x0, x1, x2] T (0, 0))) :
    (((W.setCell ⟨b, 0, none⟩ u0).setCell ⟨b, 1, none⟩ u1).setCell ⟨b, 2, none⟩ u2).heap[b]? = some (.cells #[u0, u1, u2] T (0, 0)) :=
  row_setCell (o := 2) (u := u2) (row_setCell (o := 1) (u := u1) (row_setCell (o := 0) (u := u0) h))
theorem below_three {B b : Nat} {a W : World} (h : Below B a W) (hB : B ≤ b) (u0 u1 u2 : Value) : Below B a (((W.setCell ⟨b, 0, none⟩ u0).setCell ⟨b, 1, none⟩ u1).setCell ⟨b, 2, none⟩ u2) :=
  ((h.setCell (p := ⟨b, 0, none⟩) hB _).setCell (p := ⟨b, 1, none⟩) hB _).setCell (p := ⟨b, 2, none⟩) hB _

theorem indexAny_lt (c : Bs) : ∀ l : Bs, Lib.indexAny l c < l.length
  | [] => by simp [Lib.indexAny]
  | b :: l => by
    have := indexAny_lt c l
    unfold Lib.indexAny
    rw [List.length_cons]
    split
    · omega
    · split <;> omega
theorem indexByte_lt (c : UInt8) : ∀ l : Bs, Lib.indexByte l c < l.length
  | [] => by simp [Lib.indexByte]
  | b :: l => by
    have := indexByte_lt c l
    unfold Lib.indexByte
    rw [List.length_cons]
    split
    · omega
    · split <;> omega
theorem extract_tail (s : ByteArray) (i : Nat) : (s.extract i s.size).data.toList = s.data.toList.drop i := by
  rw [ByteArray.data_extract, Array.toList_extract]
  show (s.data.toList.drop i).take (s.size - i) = _
  exact List.take_of_length_le (by rw [List.length_drop, ← Lib.size_eq]; exact Nat.le_refl _)
theorem numOf_wf {l : Bs} {n : Int} (h : numOf l = some n) : wf n := by
  unfold numOf at h
  split at h
  · rename_i v hv
    obtain ⟨v0, v1⟩ := atoiAll_in hv
    split at h
    · cases h
      unfold wf
      exact WalkArith.wf_i64 (by omega)
    · cases h
  · cases h
theorem wf_small {n : Int} (h : -9223372036854775808 ≤ n ∧ n ≤ 9223372036854775807) : wf n := by
  unfold wf
  exact WalkArith.wf_i64 (by omega)
theorem condOf_wf {l : Bs} {c : CondT} (h : condOf l = some c) : wf c.1 ∧ wf c.2.1 ∧ wf c.2.2 := by
  unfold condOf at h
  split at h
  · cases h
  · split at h
    · cases h
    · rename_i n hn
      split at h
      · cases h
      · cases h
        have a1 := idxL_lt fN (l.take (Lib.indexAny l opC).toNat)
        have a2 := Lib.indexByte_ge opC (l.getD (Lib.indexAny l opC).toNat 0)
        have a3 := indexByte_lt (l.getD (Lib.indexAny l opC).toNat 0) opC
        have e1 : fN.length = 5 := rfl
        have e2 : opC.length = 4 := rfl
        rw [e1] at a1
        rw [e2] at a3
        exact ⟨wf_small (by simp only []; omega), wf_small (by simp only []; omega), numOf_wf hn⟩

set_option maxHeartbeats 4000000 in
theorem readCond_any (s : ByteArray) (hs : s.size ≤ 4294967280) (w : World) (he : EnvT w) :
    Calls Tryz.prog 198 #[.string s] w fun e w' => e = .returned (.tuple #[condVal (condOf s.data.toList), .bool (condOf s.data.toList).isSome]) ∧ Below w.heap.size w w' := by
  have HA : Hid (∀ w', Calls Tryz.prog 218 #[.string s, .string ⟨#[61, 33, 60, 62]⟩] w' fun e w'' => e = .returned (.int .i64 (Lib.indexAny s.data.toList opC)) ∧ Below w'.heap.size w' w'') := fun w' => indexAny_any s (by omega) w'
  have hge := Lib.indexAny_ge opC s.data.toList
  have hlt := indexAny_lt opC s.data.toList
  rw [← Lib.size_eq] at hlt
  have hb1 : ∀ X, Below w.heap.size w (w.alloc X) := fun X => (Below.refl _ _).alloc (Nat.le_refl _) _
  have HB : Hid (∀ w' T, Below (w.heap.size + 1) (w.alloc (.cells #[.int .i64 0, .int .i64 0, .int .i64 0] T)) w' → w'.heap[w.heap.size]? = some (.cells #[.int .i64 0, .int .i64 0, .int .i64 0] T (0, 0)) ∧ Below w.heap.size w w') := fun w' T h => ⟨(h.block w.heap.size (by omega)).trans (MapKept.heap_alloc w _).1, (hb1 _).trans (h.mono (by omega))⟩
  by_cases hneg : Lib.indexAny s.data.toList opC < 0
  · have hC : Hid (condOf s.data.toList = none) := by unfold Hid condOf; rw [if_pos hneg]
    generalize Lib.indexAny s.data.toList opC = ix at *
    go_enter Tryz.func198, Tryz.ntmps198
    go_wp2_with fail
    go_at_call 218
    refine Calls.mono (HA.out _) ?_
    rintro e w1 ⟨rfl, hb⟩
    simp only [World.size_alloc] at hb
    obtain ⟨HR, hbw⟩ := HB.out _ _ hb
    obtain ⟨⟨c0, c1, c2⟩, f0, f1, f2⟩ := three_cells HR
    have HR' : Hid _ := HR
    clear HR hge hlt
    go_wp2_with fail
    obtain ⟨⟨z0, z1, z2⟩, _⟩ := three_cells (three_set (u0 := .int .i64 0) (u1 := .int .i64 0) (u2 := .int .i64 0) HR'.out)
    refine bodyPost_ret (v := .tuple #[.agg #[.int .i64 0, .int .i64 0, .int .i64 0], .bool false]) ?_ rfl ⟨by rw [hC.out]; rfl, below_three hbw (Nat.le_refl _) _ _ _⟩
    rw [results_cell_tmp rfl]
    go_simp
  · obtain ⟨i, hi⟩ : ∃ i : Nat, Lib.indexAny s.data.toList opC = i := ⟨(Lib.indexAny s.data.toList opC).toNat, by omega⟩
    have hil : i < s.size := by omega
    obtain ⟨x, hx⟩ : ∃ x : UInt8, s[i]'hil = x := ⟨_, rfl⟩
    have hgd : s.data.toList.getD i 0 = x := by
      rw [List.getD_eq_getElem?_getD, Lib.data_getElem? s i hil, hx]
      rfl
    have hxi : ∀ w, (Instr.index 9 (.string s) (.int .i64 i)).run Tryz.prog w = .ok (.int .u8 x.toNat) w := fun w => by
      have := index_str s i hil w
      rw [hx] at this
      exact this
    have hC : Hid (condOf s.data.toList = match numOf (s.data.toList.drop (i + 1)) with
      | none => none
      | some n => if idxL fN (s.data.toList.take i) < 0 then none else some (idxL fN (s.data.toList.take i), 1 + Lib.indexByte opC x, n)) := by
      unfold Hid condOf
      rw [hi]
      simp only [Int.toNat_natCast, hgd]
      rw [if_neg (by omega)]
      rfl
    rw [hi] at HA
    have HN : Hid (∀ w', Below w.heap.size w w' → Calls Tryz.prog 107 #[.string (s.extract (i + 1) s.size)] w' fun e w'' => ∃ n ok, e = .returned (.tuple #[.int .i64 n, .bool ok]) ∧ (numOf (s.data.toList.drop (i + 1)) = if ok = true then some n else none) ∧ wf n ∧ Below w'.heap.size w' w'') := fun w' hb => by
      have := number_any (s.extract (i + 1) s.size) (by rw [ByteArray.size_extract]; omega) w' (he.later hb)
      rw [extract_tail] at this
      exact this
    have HX : Hid (∀ b w', NamesAt b fC w' → Calls Tryz.prog 141 #[.slice (some ⟨b, 0, none⟩) 5 5, .string (s.extract 0 i)] w' fun e w'' => e = .returned (.int .i64 (idxL fN (s.data.toList.take i))) ∧ w'' = w') := fun b w' hn => by
      have := index_names fN fC rfl rfl b (s.extract 0 i) w' hn
      rw [Lib.extract_from_zero] at this
      exact this
    have HY : Hid (∀ w', Calls Tryz.prog 219 #[.string ⟨#[61, 33, 60, 62]⟩, .int .u8 x.toNat] w' fun e w'' => e = .returned (.int .i64 (Lib.indexByte opC x)) ∧ w'' = w') := fun w' => by
      have := Tryz.strings_IndexByte opB x.toNat w'
      rw [show ((x.toNat : Int)).toNat.toUInt8 = x by simp] at this
      exact this
    have hy0 := Lib.indexByte_ge opC x
    have hy1 : Lib.indexByte opC x < 4 := indexByte_lt x opC
    have hwy : IntKind.i64.wrap (1 + Lib.indexByte opC x) = 1 + Lib.indexByte opC x := IntWalk.i64_in _ (by omega)
    have hwi : IntKind.i64.wrap ((i : Int) + 1) = (i : Int) + 1 := IntWalk.i64_in _ (by omega)
    have hsl0 : ∀ w, (Instr.sliceAt 9 (.string s) none (some (.int .i64 i)) none).run Tryz.prog w = .ok (.string (s.extract 0 i)) w := fun w => by
      have : (i : Int) ≤ (s.size : Int) := by omega
      have h2 : i ≤ s.size := by omega
      simp [go_sem, this, h2, Tryz.underlying9]
    have hsl1 : ∀ w, (Instr.sliceAt 9 (.string s) (some (.int .i64 ((i : Int) + 1))) none none).run Tryz.prog w = .ok (.string (s.extract (i + 1) s.size)) w := fun w => slice_str s (i + 1) (by omega) w
    clear hx hgd hge hneg hi
    generalize idxL fN (s.data.toList.take i) = fx at *
    generalize Lib.indexByte opC x = oy at *
    generalize hnd : numOf (s.data.toList.drop (i + 1)) = nd at *
    clear hnd
    have hi0 : ¬ ((i : Int) < 0) := by omega
    go_enter Tryz.func198, Tryz.ntmps198
    go_wp2_with fail
    go_at_call 218
    refine Calls.mono (HA.out _) ?_
    rintro e w1 ⟨rfl, hb⟩
    simp only [World.size_alloc] at hb
    have hs1 : w.heap.size + 1 ≤ w1.heap.size := by have := hb.size; simpa using this
    go_wp2_with fail
    have hDJ : Hid (∀ fs w', JIdx w1 fs w' → ∃ z : Later w1, w' = z.1) := fun fs w' h => ⟨⟨w', h.1⟩, rfl⟩
    have hne := Later.ne w1
    refine wp_region_free [_, _, _, _, _] _ rfl (fun k => k == 0 || k == 4) (JIdx w1) (SIdx fx) (sIdx_some fx) (by kernel_rfl) (by kernel_rfl) ⟨(Below.refl _ _).drew, fun _ h => h.elim⟩ ?_
    refine wpG_call 138 #[] rfl rfl (fun w' => by kernel_rfl) (fun gs w' hJ hdep hno => ?_) (fun v0 hv0 => ?_)
    · refine (fieldNames_any w').mono ?_
      rintro e w2 ⟨rfl, rfl⟩
      have hbw : Below w'.heap.size w' (w'.alloc (.cells fC 9)) := (Below.refl _ _).alloc (Nat.le_refl _) _
      refine ⟨_, rfl, ⟨_, rfl⟩, Below.thenOf hJ.1 hbw hJ.1.size, fun v hv => ?_⟩
      rcases hv with hv | ⟨_, rfl⟩
      · obtain ⟨b, rfl, hlt, hn⟩ := hJ.2 v hv
        exact ⟨b, rfl, by simp; omega, hn.later hbw hlt⟩
      · exact ⟨_, rfl, by simp, NamesAt.made w' fC 9⟩
    simp only [Act.put, List.setIfInBounds_toArray, List.set_cons_succ, List.set_cons_zero]
    obtain ⟨b, rfl⟩ : ∃ b : Nat, v0 = .slice (some ⟨b, 0, none⟩) 5 5 := hv0
    iterate 2 (refine wpG_read hDJ.out rfl rfl ?_; go_big_quiet_step (fail); refine wpQuiet_nil ?_)
    refine wpG_readV (.string (s.extract 0 i)) rfl rfl (fun w' => run_val (hsl0 w')) ?_
    simp only [Act.put, List.setIfInBounds_toArray, List.set_cons_succ, List.set_cons_zero]
    refine wpG_call 141 #[.slice (some ⟨b, 0, none⟩) 5 5, .string (s.extract 0 i)] rfl rfl (fun w' => by kernel_rfl) (fun gs w' hJ hdep hno => ?_) (fun v4 hv4 => ?_)
    · obtain ⟨b', e', hlt', hn'⟩ := hJ.2 _ (hdep 0 _ (.inr ⟨rfl, rfl⟩) (waitsB_spec (by kernel_rfl)))
      simp at e'
      subst e'
      refine (HX.out b w' hn').mono ?_
      rintro e w2 ⟨rfl, rfl⟩
      refine ⟨_, rfl, rfl, hJ.1, fun v hv => ?_⟩
      rcases hv with hv | ⟨h, _⟩
      · exact hJ.2 v hv
      · cases h
    simp only [Act.put, List.setIfInBounds_toArray, List.set_cons_succ, List.set_cons_zero]
    obtain rfl : v4 = .int .i64 fx := hv4
    refine wpG_nil ?_
    intro w2 hJ2
    have hb2 := Below.thenOf hb hJ2.1 hs1
    have hs2 := Nat.le_trans hs1 hJ2.1.size
    clear hJ2 hne hDJ
    go_wp2_with fail
    go_at_call 107
    refine Calls.mono (HN.out _ (HB.out _ _ hb2).2) ?_
    rintro e w3 ⟨n, ok, rfl, hnd, hwf, hb3⟩
    have hb3' := Below.thenOf hb2 hb3 hs2
    have hs3 := Nat.le_trans hs2 hb3.size
    obtain ⟨HR, hbw⟩ := HB.out _ _ hb3'
    obtain ⟨⟨c0, c1, c2⟩, f0, f1, f2⟩ := three_cells HR
    have HR' : Hid _ := HR
    have HND : Hid _ := hnd
    clear HR hb3 hnd hwf
    by_cases hbad : fx < 0 ∨ ok = false
    · have hN : Hid (condOf s.data.toList = none) := by
        unfold Hid
        rw [hC.out, HND.out]
        cases ok with
        | false => rfl
        | true =>
          have : fx < 0 := by simpa using hbad
          simp [this]
      by_cases hf : fx < 0
      · go_wp2_with fail
        obtain ⟨⟨z0, z1, z2⟩, _⟩ := three_cells (three_set (u0 := .int .i64 0) (u1 := .int .i64 0) (u2 := .int .i64 0) HR'.out)
        refine bodyPost_ret (v := .tuple #[.agg #[.int .i64 0, .int .i64 0, .int .i64 0], .bool false]) ?_ rfl ⟨by rw [hN.out]; rfl, below_three hbw (Nat.le_refl _) _ _ _⟩
        rw [results_cell_tmp rfl]
        go_simp
      · obtain rfl : ok = false := by simpa [hf] using hbad
        clear hbad
        go_wp2_with fail
        obtain ⟨⟨z0, z1, z2⟩, _⟩ := three_cells (three_set (u0 := .int .i64 0) (u1 := .int .i64 0) (u2 := .int .i64 0) HR'.out)
        refine bodyPost_ret (v := .tuple #[.agg #[.int .i64 0, .int .i64 0, .int .i64 0], .bool false]) ?_ rfl ⟨by rw [hN.out]; rfl, below_three hbw (Nat.le_refl _) _ _ _⟩
        rw [results_cell_tmp rfl]
        go_simp
    · have hf : ¬ fx < 0 := fun h => hbad (.inl h)
      obtain rfl : ok = true := by cases ok with | true => rfl | false => exact absurd (.inr rfl) hbad
      have hN : Hid (condOf s.data.toList = some (fx, 1 + oy, n)) := by
        unfold Hid
        rw [hC.out, HND.out]
        simp [hf]
      clear hbad
      go_wp2_with fail
      go_at_call 219
      refine Calls.mono (HY.out _) ?_
      rintro e w4 ⟨rfl, rfl⟩
      go_wp2_with fail
      obtain ⟨⟨z0, z1, z2⟩, _⟩ := three_cells (three_set (u0 := .int .i64 fx) (u1 := .int .i64 (1 + oy)) (u2 := .int .i64 n) HR'.out)
      refine bodyPost_ret (v := .tuple #[.agg #[.int .i64 fx, .int .i64 (1 + oy), .int .i64 n], .bool true]) ?_ rfl ⟨by rw [hN.out]; rfl, below_three hbw (Nat.le_refl _) _ _ _⟩
      rw [results_cell_tmp rfl]
      go_simp

end Go.Proofs.YtdfcfinjoghipacGreatDoor
end
section
/- What the program's own reader of a rule says. -/
set_option linter.all false
set_option maxRecDepth 100000
namespace Go.Proofs.YtdfcfinjoghipacGreatDoor
open Go.RowKit Go.Maps

theorem splitL_len (c : UInt8) : ∀ (l : Bs) (p : Bs), p ∈ splitL c l → p.length ≤ l.length
  | [], p, h => by simp [splitL] at h; subst h; simp
  | b :: l, p, h => by
    have ih := splitL_len c l
    unfold splitL at h
    split at h
    · simp at h
      rcases h with rfl | h
      · simp
      · have := ih p h; simp; omega
    · split at h
      · simp at h; subst h; simp
      · rename_i h0 t0 hs
        rw [hs] at ih
        simp at h
        rcases h with rfl | h
        · have := ih h0 (by simp); simp; omega
        · have := ih p (by simp [h]); simp; omega

/-- strings.Split at one sign. -/
theorem split_any (c : UInt8) (s : ByteArray) (hs : s.size ≤ 4294967280) (w : World) (he : EnvAt w) : ∃ ps : List ByteArray, ps.map (·.data.toList) = splitL c s.data.toList ∧
    Calls Tryz.prog 121 #[.string s, .string ⟨#[c]⟩] w fun e w' => e = .returned (.slice (some ⟨w.heap.size, 0, none⟩) ps.length ps.length) ∧ w' = w.alloc (.cells (ps.map Value.string).toArray 9) := by
  obtain ⟨mm, hm⟩ := he
  have h := Tryz.strings_Split s ⟨#[c]⟩ mm w (by omega) hm (Nat.le_refl 1)
  refine ⟨Lib.splitB ⟨#[c]⟩ 0 (Lib.countB s ⟨#[c]⟩) s, ?_, ?_⟩
  · rw [Lib.splitB_data, ← split_splitL]
    rfl
  · rw [Lib.splitB_all ⟨#[c]⟩ (Nat.le_refl 1) 0 _ s rfl]
    exact h

/-- Conditions in memory of one's own, from block L on. -/
def CondsNew (L : Nat) (w : World) (v : Value) (cs : List CondT) : Prop :=
  ∃ a cap, v = .slice a cs.length cap ∧ cs.length ≤ cap ∧ cap ≤ maxLen ∧ ∀ i c, cs[i]? = some c → ∃ b o, a = some ⟨b, o, none⟩ ∧ L ≤ b ∧ b < w.heap.size ∧ CondAt w b (o + i * 3) c
theorem CondsNew.nil (L : Nat) (w : World) : CondsNew L w (.slice none 0 0) [] := ⟨none, 0, rfl, Nat.le_refl _, Nat.zero_le _, fun i c h => by simp at h⟩
theorem cell_of_heap {w w' : World} {b : Nat} (h : w'.heap[b]? = w.heap[b]?) (o : Nat) : w'.cell? ⟨b, o, none⟩ = w.cell? ⟨b, o, none⟩ := by
  unfold World.cell?
  rw [h]
theorem CondsNew.keep {L : Nat} {w w' : World} {v : Value} {cs : List CondT} (h : CondsNew L w v cs) (hk : ∀ g, L ≤ g → g < w.heap.size → w'.heap[g]? = w.heap[g]?) (hsz : w.heap.size ≤ w'.heap.size) : CondsNew L w' v cs := by
  obtain ⟨a, cap, h1, h2, h3, h4⟩ := h
  refine ⟨a, cap, h1, h2, h3, fun i c hc => ?_⟩
  obtain ⟨b, o, e, hl, hb, k⟩ := h4 i c hc
  refine ⟨b, o, e, hl, by omega, ?_⟩
  have hh := hk b hl hb
  unfold CondAt
  rw [cell_of_heap hh, cell_of_heap hh, cell_of_heap hh]
  exact k
theorem CondsNew.mono {L L' : Nat} {w : World} {v : Value} {cs : List CondT} (h : CondsNew L w v cs) (hL : L' ≤ L) : CondsNew L' w v cs := by
  obtain ⟨a, cap, h1, h2, h3, h4⟩ := h
  refine ⟨a, cap, h1, h2, h3, fun i c hc => ?_⟩
  obtain ⟨b, o, e, hl, hb, k⟩ := h4 i c hc
  exact ⟨b, o, e, by omega, hb, k⟩
theorem CondsNew.at {L : Nat} {w : World} {v : Value} {cs : List CondT} (h : CondsNew L w v cs) : CondsAt w.heap.size w v cs := by
  obtain ⟨a, cap, h1, h2, h3, h4⟩ := h
  refine ⟨a, cap, h1, h2, h3, fun i c hc => ?_⟩
  obtain ⟨b, o, e, hl, hb, k⟩ := h4 i c hc
  exact ⟨b, o, e, hb, k⟩

/-- A row of n conditions, the first ones filled. -/
def RowC (n : Nat) (cs : List CondT) (cur : Array Value) : Prop :=
  cur.size = n * 3 ∧ ∀ i c, cs[i]? = some c → cur[i * 3]? = some (.int .i64 c.1) ∧ cur[i * 3 + 1]? = some (.int .i64 c.2.1) ∧ cur[i * 3 + 2]? = some (.int .i64 c.2.2)
def set3 (cur : Array Value) (o : Nat) (x0 x1 x2 : Value) : Array Value := ((cur.setIfInBounds o x0).setIfInBounds (o + 1) x1).setIfInBounds (o + 2) x2
theorem RowC.put {n : Nat} {cs : List CondT} {cur : Array Value} (h : RowC n cs cur) (hlt : cs.length < n) (c : CondT) : RowC n (cs ++ [c]) (set3 cur (cs.length * 3) (.int .i64 c.1) (.int .i64 c.2.1) (.int .i64 c.2.2)) := by
  obtain ⟨h1, h2⟩ := h
  refine ⟨by simp [set3, h1], fun i d hd => ?_⟩
  have hi : i < cs.length + 1 := by have := (List.getElem?_eq_some_iff.1 hd).1; simpa using this
  by_cases e : i = cs.length
  · subst e
    rw [List.getElem?_append_right (Nat.le_refl _)] at hd
    simp at hd
    subst hd
    have b0 : cs.length * 3 < cur.size := by omega
    have b1 : cs.length * 3 + 1 < cur.size := by omega
    have b2 : cs.length * 3 + 2 < cur.size := by omega
    unfold set3
    simp only [Array.getElem?_setIfInBounds]
    refine ⟨?_, ?_, ?_⟩ <;> simp [b0, b1, b2]
  · rw [List.getElem?_append_left (by omega)] at hd
    obtain ⟨k0, k1, k2⟩ := h2 i d hd
    unfold set3
    simp only [Array.getElem?_setIfInBounds]
    refine ⟨?_, ?_, ?_⟩
    · rw [if_neg (by omega), if_neg (by omega), if_neg (by omega)]; exact k0
    · rw [if_neg (by omega), if_neg (by omega), if_neg (by omega)]; exact k1
    · rw [if_neg (by omega), if_neg (by omega), if_neg (by omega)]; exact k2
theorem row_set3 {w : World} {g o : Nat} {cur : Array Value} {x0 x1 x2 : Value} {T : TypeId} (h : w.heap[g]? = some (.cells cur T (0, 0))) : (((w.setCell ⟨g, o, none⟩ x0).setCell ⟨g, o + 1, none⟩ x1).setCell ⟨g, o + 2, none⟩ x2).heap[g]? = some (.cells (set3 cur o x0 x1 x2) T (0, 0)) :=
  row_setCell (o := o + 2) (u := x2) (row_setCell (o := o + 1) (u := x1) (row_setCell (o := o) (u := x0) h))
theorem heap_set3 {w : World} {g k : Nat} (o : Nat) (x0 x1 x2 : Value) (h : k ≠ g) : (((w.setCell ⟨g, o, none⟩ x0).setCell ⟨g, o + 1, none⟩ x1).setCell ⟨g, o + 2, none⟩ x2).heap[k]? = w.heap[k]? := by
  rw [Below.heap_setCell _ _ _ _ (by show k ≠ g; exact h), Below.heap_setCell _ _ _ _ (by show k ≠ g; exact h), Below.heap_setCell _ _ _ _ (by show k ≠ g; exact h)]
theorem cells_of_row {w : World} {g : Nat} {cur : Array Value} {T : TypeId} (h : w.heap[g]? = some (.cells cur T (0, 0))) (o : Nat) (ho : o < cur.size) : (∃ u, w.cell? ⟨g, o, none⟩ = some u) ∧ w.frozen? ⟨g, o, none⟩ = false := by
  refine ⟨⟨cur[o], ?_⟩, by simp [World.frozen?, h]⟩
  simp [World.cell?, h, ho]

/-- Where a store into the row stands among the region's operations. -/
def JRow (G : Nat) (W : World) (cur cur' : Array Value) (T : TypeId) (fs : Nat → Value → Prop) (w : World) : Prop :=
  Below G W w ∧ (∀ k, k < W.heap.size → k ≠ G → w.heap[k]? = W.heap[k]?) ∧ ((∀ v, ¬ fs 9 v) → w.heap[G]? = some (.cells cur T (0, 0))) ∧ ((∃ v, fs 9 v) → w.heap[G]? = some (.cells cur' T (0, 0)))
def SRow (v4 : Value) (k : Nat) (v : Value) : Prop := if k = 4 then v = v4 else True
theorem sRow_some (v4 : Value) (k : Nat) : ∃ v, SRow v4 k v := by
  unfold SRow
  split
  · exact ⟨_, rfl⟩
  · exact ⟨undef, trivial⟩
/-- All worlds in which nothing old but block G may differ. -/
def ButG (G : Nat) (W : World) : Type := { w' : World // ∀ k, k < W.heap.size → k ≠ G → w'.heap[k]? = W.heap[k]? }
theorem ButG.ne (G : Nat) (W : World) : Nonempty (ButG G W) := ⟨⟨W, fun _ _ _ => rfl⟩⟩
theorem ButG.cell {G : Nat} {W : World} (x : ButG G W) {b o : Nat} {v : Value} (h : W.cell? ⟨b, o, none⟩ = some v) (hne : b ≠ G) : x.1.cell? ⟨b, o, none⟩ = some v := by
  rw [cell_of_heap (x.2 b (World.block_lt_of_cell? _ _ h) hne)]
  exact h

end Go.Proofs.YtdfcfinjoghipacGreatDoor
end
