/- Joined: ConC CatC Bth1. -/
import Derived.Test.YtbdlojnigflanacGreatDoorKa03
import Derived.Test.YtbdlojnigflanacGreatDoorKa01
import Derived.Lib.AppendZerosOnto
import Derived.Lib.AppendZeros
import Derived.Test.YtbdlojnigflanacGreatDoorKa10
import Derived.Test.YtbdlojnigflanacGreatDoorKa09
import Derived.Test.YtbdlojnigflanacGreatDoorKa08
import Derived.Maps.AppendAt
section
/- Conditions in rows of one's own. -/
set_option linter.all false
set_option maxRecDepth 100000
namespace Go.Proofs.YtbdlojnigflanacGreatDoor
open Go.RowKit Go.Maps

theorem CondsAt.full {B : Nat} {w : World} {v : Value} {cs : List CondT} (h : CondsAt B w v cs) : ∃ a cap, v = .slice a cs.length cap ∧ cs.length ≤ cap ∧ cap ≤ maxLen := by
  obtain ⟨a, cap, h1, h2, h3, _⟩ := h
  exact ⟨a, cap, h1, h2, h3⟩
theorem infoCnd : ∃ i, Tryz.prog.info? 99 = some i ∧ i.zero = some (.agg #[.int .i64 0, .int .i64 0, .int .i64 0]) ∧ i.size = 3 ∧ i.bytes = 24 := infoOf (by kernel_rfl)

def cndCells (l : List CondT) : List Value := l.flatMap fun c => [.int .i64 c.1, .int .i64 c.2.1, .int .i64 c.2.2]
theorem cndCells_cons (c : CondT) (l : List CondT) : cndCells (c :: l) = .int .i64 c.1 :: .int .i64 c.2.1 :: .int .i64 c.2.2 :: cndCells l := rfl
theorem cndCells_append (l m : List CondT) : cndCells (l ++ m) = cndCells l ++ cndCells m := by unfold cndCells; exact List.flatMap_append
theorem cndCells_length : ∀ l : List CondT, (cndCells l).length = l.length * 3
  | [] => rfl
  | c :: r => by rw [cndCells_cons]; simp [cndCells_length r]; omega
theorem cndCells_one : ∀ (l : List CondT), ∀ u ∈ cndCells l, u.oneCell' = true
  | [], u, h => by cases h
  | c :: r, u, h => by
    rw [cndCells_cons] at h
    simp at h
    rcases h with rfl | rfl | rfl | h
    · rfl
    · rfl
    · rfl
    · exact cndCells_one r u h
theorem cndCells_get : ∀ (l : List CondT) (i : Nat) (c : CondT), l[i]? = some c → (cndCells l)[i * 3]? = some (.int .i64 c.1) ∧ (cndCells l)[i * 3 + 1]? = some (.int .i64 c.2.1) ∧ (cndCells l)[i * 3 + 2]? = some (.int .i64 c.2.2)
  | [], _, _, h => by simp at h
  | c' :: r, 0, c, h => by
    simp at h
    subst h
    simp [cndCells_cons]
  | c' :: r, i + 1, c, h => by
    have ih := cndCells_get r i c (by simpa using h)
    rw [cndCells_cons, show (i + 1) * 3 = i * 3 + 3 by omega]
    exact ih
/-- Cells one by one. -/
theorem cndCells_cell {w : World} {b o : Nat} : ∀ (l : List CondT) (o : Nat), (∀ i c, l[i]? = some c → CondAt w b (o + i * 3) c) → ∀ j u, (cndCells l)[j]? = some u → w.cell? ⟨b, o + j, none⟩ = some u
  | [], _, _, j, u, h => by simp [cndCells] at h
  | c :: r, o, hat, j, u, h => by
    obtain ⟨c0, c1, c2, _⟩ := hat 0 c rfl
    simp only [Nat.zero_mul, Nat.add_zero] at c0 c1 c2
    rw [cndCells_cons] at h
    match j, h with
    | 0, h => simp at h; subst h; simpa using c0
    | 1, h => simp at h; subst h; exact c1
    | 2, h => simp at h; subst h; exact c2
    | j + 3, h =>
      have := cndCells_cell (b := b) (o := o) r (o + 3) (fun i c hc => by
        have := hat (i + 1) c (by simpa using hc)
        rw [show o + (i + 1) * 3 = o + 3 + i * 3 by omega] at this
        exact this) j u (by simpa using h)
      rw [show o + (j + 3) = o + 3 + j by omega]
      exact this
/-- And back: a row of the call's own that holds them. -/
theorem condsAt_own {L : Nat} {w : World} {v : Value} {l : List CondT} (h : w.ownsRow L 99 3 v l.length (cndCells l)) (hwf : ∀ c ∈ l, wf c.1 ∧ wf c.2.1 ∧ wf c.2.2) : CondsAt w.heap.size w v l := by
  obtain ⟨a, cap, rfl, h1, h2, h3⟩ := ownsRow_caps h
  refine ⟨a, cap, rfl, h1, h2, fun i c hc => ?_⟩
  have hi : i < l.length := (List.getElem?_eq_some_iff.1 hc).1
  obtain ⟨g, rfl, hg1, hg2⟩ := h3 (by omega)
  obtain ⟨e0, e1, e2⟩ := cndCells_get l i c hc
  refine ⟨g, 0, rfl, hg2, ?_, ?_, ?_, hwf c (List.mem_of_getElem? hc)⟩
  all_goals rw [Nat.zero_add]
  · exact ownsRow_cell h _ _ e0
  · exact ownsRow_cell h _ _ e1
  · exact ownsRow_cell h _ _ e2
theorem CondsAt.wfs {B : Nat} {w : World} {v : Value} {l : List CondT} (h : CondsAt B w v l) : ∀ c ∈ l, Go.Proofs.YtbdlojnigflanacGreatDoor.wf c.1 ∧ Go.Proofs.YtbdlojnigflanacGreatDoor.wf c.2.1 ∧ Go.Proofs.YtbdlojnigflanacGreatDoor.wf c.2.2 := by
  intro c hc
  obtain ⟨i, hi⟩ := List.mem_iff_getElem?.1 hc
  obtain ⟨_, _, _, _, _, h4⟩ := h
  obtain ⟨_, _, _, _, k⟩ := h4 i c hi
  exact k.2.2.2

/-- A filter in memory behind a row of one's own. -/
theorem run_append_conds (B base : Nat) (ty : TypeId) (v sv : Value) (n : Nat) (xs : List Value) (rs : List CondT) (W : World) (hown : W.ownsRow base 99 3 v n xs) (hs : CondsAt B W sv rs) (hn : (n + rs.length) * 24 ≤ 140737488355328) (hbase : base ≤ W.heap.size) :
    ∃ v' W', (Builtin.append_ #[93, 93] ty #[v, sv]).run Tryz.prog W = .ok v' W' ∧ W'.ownsRow base 99 3 v' (n + rs.length) (xs ++ cndCells rs) ∧ Below base W W' := by
  obtain ⟨inf, hi1, hi2, hi3, hi4⟩ := infoCnd
  obtain ⟨a, cap, rfl, hlc, hcm, hrs⟩ := hs
  cases a with
  | none =>
    have h0 : rs = [] := by
      cases rs with
      | nil => rfl
      | cons r l => obtain ⟨b, o, e, _⟩ := hrs 0 r rfl; cases e
    subst h0
    refine ⟨v, W, ?_, by simpa [cndCells] using hown, Below.refl _ _⟩
    have hc : v = .slice none 0 0 ∨ ∃ g c, v = .slice (some g) n c ∧ n ≤ c := by
      rcases hown.2 with ⟨h, _⟩ | ⟨g, c, cur, h, _, _, h', _⟩
      · exact .inl h
      · exact .inr ⟨_, c, h, h'⟩
    have hf := run_firstCells_none (P := Tryz.prog) W inf.size 0 0 cap
    rcases hc with rfl | ⟨g, c, rfl, hle⟩
    · simp [Builtin.append_, run_underlying Tryz.underlying93, sizeOf, typeInfo, hi1, Builtin.lenOf, hf]
    · simp [Builtin.append_, run_underlying Tryz.underlying93, sizeOf, typeInfo, hi1, Builtin.lenOf, hf, hle, storeCells]
  | some ad =>
    have hcell : ∀ j u, (cndCells rs)[j]? = some u → W.cell? (ad.add j) = some u := by
      cases rs with
      | nil => intro j u hj; simp [cndCells] at hj
      | cons r l =>
        obtain ⟨b, o, e, _, _⟩ := hrs 0 r rfl
        cases e
        intro j u hj
        rw [add_at]
        refine cndCells_cell (o := o) (r :: l) o (fun i c hc => ?_) j u hj
        obtain ⟨b', o', e, _, k⟩ := hrs i c hc
        cases e
        exact k
    obtain ⟨v', W', h1, h2, h3, h4⟩ := run_append_own (P := Tryz.prog) W base 93 ty 99 inf _ 3 24 Tryz.underlying93 hi1 hi2 hi3 hi4 rfl (by decide) v n xs hown ad rs.length cap (cndCells rs) (cndCells_length rs) hcell (cndCells_one rs) (by rw [maxLen_eq]; omega) hn hbase
    refine ⟨v', W', h1, h2, (Below.refl _ _).grown h3 hbase fun k hk => ?_⟩
    rcases hown.2 with ⟨h, _⟩ | ⟨g, c, cur, h, hg, _⟩
    · rw [h] at hk; simp [Value.ownBlock] at hk
    · rw [h] at hk; simp [Value.ownBlock] at hk; omega

end Go.Proofs.YtbdlojnigflanacGreatDoor
end
section
/- slices.Grow of nothing, slices.Concat of two lists of conditions. -/
set_option linter.all false
set_option maxRecDepth 100000
namespace Go.Proofs.YtbdlojnigflanacGreatDoor
open Go.RowKit Go.Maps

set_option maxHeartbeats 4000000 in
theorem growC_nil (n : Nat) (w : World) (hn : n * 24 ≤ 140737488355328) :
    Calls Tryz.prog 226 #[.slice none 0 0, .int .i64 n] w fun e w' => ∃ v, e = .returned v ∧ w'.ownsRow w.heap.size 99 3 v 0 [] ∧ Below w.heap.size w w' := by
  have hml := maxLen_eq
  by_cases h0 : n = 0
  · subst h0
    go_enter Tryz.func226, Tryz.ntmps226
    go_wp2
    go_ret
    exact ⟨_, rfl, ⟨rfl, .inl ⟨rfl, rfl⟩⟩, Below.refl _ _⟩
  · obtain ⟨inf, hi1, hi2, hi3, hi4⟩ := infoCnd
    have h1 : ¬ ((n : Int) < 0) := by omega
    have h4 : (n : Int) > 0 := by omega
    obtain ⟨G, hG⟩ : ∃ G, G = grownCap w n 0 99 := ⟨_, rfl⟩
    have hGn : n ≤ G := by rw [hG]; exact grownCap_ge w _ _ _
    have hG63 : G ≤ maxLen := by rw [hG]; exact grownCap_le_maxLen w n 0 _ (by omega)
    obtain ⟨z, hz⟩ : ∃ z : Value, z = .agg #[.int .i64 0, .int .i64 0, .int .i64 0] := ⟨_, rfl⟩
    have hzs : z.cells.size = 3 := by rw [hz]; rfl
    rw [← hz] at hi2
    have hrz : ∀ ty, (Builtin.append_ #[93, 3] ty #[.slice none 0 0, .int .i64 n]).run Tryz.prog w =
        .ok (.slice (some ⟨w.heap.size, 0, none⟩) n G) (w.drew.alloc (.cells ((Builtin.zeroCells z.cells n) ++ Builtin.zeroCells z.cells (G - n)) 99)) := fun ty => by
      have h := Lib.run_append_grow_zeros w 93 3 ty 99 inf z .i64 .i64 Tryz.underlying93 Tryz.underlying3 hi1 hi2 none 0 0 [] (run_firstCells_none w.drew inf.size 0 0 0) n (by omega) (by omega) (by omega) (by omega)
        (by rw [hi4]; omega)
        (by rw [Nat.zero_add]; exact growslice_fits (by omega) (by rw [hi4]; omega))
      simpa [← hG] using h
    have hown : Hid ((w.drew.alloc (.cells ((Builtin.zeroCells z.cells n) ++ Builtin.zeroCells z.cells (G - n)) 99)).ownsRow w.heap.size 99 3 (.slice (some ⟨w.heap.size, 0, none⟩) 0 G) 0 []) := by
      refine ⟨rfl, .inr ⟨w.heap.size, G, _, rfl, Nat.le_refl _, (MapKept.heap_alloc w.drew _).1, Nat.zero_le _, hG63, ?_, by simp⟩⟩
      rw [Array.size_append, size_zeroCells, size_zeroCells, hzs, ← Nat.add_mul]
      congr 1
      omega
    have hbel : Hid (Below w.heap.size w (w.drew.alloc (.cells ((Builtin.zeroCells z.cells n) ++ Builtin.zeroCells z.cells (G - n)) 99))) := (Below.refl _ _).drew.alloc (Nat.le_refl _) _
    clear hG hz
    rw [hml] at hG63
    generalize (Builtin.zeroCells z.cells n) ++ Builtin.zeroCells z.cells (G - n) = zs at *
    go_enter Tryz.func226, Tryz.ntmps226
    go_wp2_with (at_builtin; refine Lib.wpList_append_run _ rfl _ _ _ _ rfl _ _ rfl rfl _ _ (hrz _) ?_)
    go_ret
    exact ⟨_, rfl, hown.out, hbel.out⟩

set_option maxHeartbeats 4000000 in
theorem concatC_any (B : Nat) (v0 v1 : Value) (r0 r1 : List CondT) (bs : Nat) (w : World) (h0 : CondsAt B w v0 r0) (h1 : CondsAt B w v1 r1) (hB : B ≤ w.heap.size) (hbs : bs < w.heap.size) (hc0 : w.cell? ⟨bs, 0, none⟩ = some v0) (hc1 : w.cell? ⟨bs, 1, none⟩ = some v1) (hn : (r0.length + r1.length) * 24 ≤ 140737488355328) :
    Calls Tryz.prog 197 #[.slice (some ⟨bs, 0, none⟩) 2 2] w fun e w' => ∃ v, e = .returned v ∧ w'.ownsRow w.heap.size 99 3 v (r0 ++ r1).length (cndCells (r0 ++ r1)) ∧ Below w.heap.size w w' := by
  have H0 : Hid (CondsAt B w v0 r0) := h0
  have H1 : Hid (CondsAt B w v1 r1) := h1
  obtain ⟨a0, cap0, e0, hle0, _⟩ := h0.full
  obtain ⟨a1, cap1, e1, hle1, _⟩ := h1.full
  have E0 : Hid (v0 = _) := e0
  have E1 : Hid (v1 = _) := e1
  rw [e0] at hc0
  rw [e1] at hc1
  have HC : Hid (∀ w', Below w.heap.size w w' → w'.cell? ⟨bs, 0, none⟩ = some (.slice a0 r0.length cap0) ∧ w'.cell? ⟨bs, 1, none⟩ = some (.slice a1 r1.length cap1)) := fun w' h => ⟨(h.cell (p := ⟨bs, 0, none⟩) hbs).trans hc0, (h.cell (p := ⟨bs, 1, none⟩) hbs).trans hc1⟩
  clear e0 e1 h0 h1
  generalize hn0 : r0.length = n0 at *
  generalize hn1 : r1.length = n1 at *
  have hN0 : Hid (r0.length = n0) := hn0
  have hN1 : Hid (r1.length = n1) := hn1
  clear hn0 hn1
  go_enter Tryz.func197, Tryz.ntmps197
  go_wp2
  go_loop [3, 11] (fun sz i => ∃ k : Nat, k ≤ 2 ∧ i = .int .i64 k ∧ sz = .int .i64 (if k = 0 then 0 else if k = 1 then (n0 : Int) else ((n0 : Int) + n1))) (fun _ i => 2 - (intOf i).toNat)
  case atStart => exact ⟨0, by omega, rfl, rfl⟩
  case round =>
    obtain ⟨k, hk, rfl, rfl⟩ := hrel
    have hk' : k = 0 ∨ k = 1 ∨ k = 2 := by omega
    rcases hk' with rfl | rfl | rfl
    · go_wp2
      exact ⟨⟨1, by omega, rfl, by simp⟩, by simp [intOf]⟩
    · have hneg : ¬ ((n0 : Int) + (n1 : Int) < 0) := by omega
      have hwr : wrap64 ((n0 : Int) + (n1 : Int)) = (n0 : Int) + n1 := by unfold wrap64; omega
      go_wp2
      exact ⟨⟨2, by omega, rfl, by simp⟩, by simp [intOf]⟩
    · have hG : Hid (∀ w', Calls Tryz.prog 226 #[.slice none 0 0, .int .i64 ((n0 : Int) + n1)] w' fun e w'' => ∃ v, e = .returned v ∧ w''.ownsRow w'.heap.size 99 3 v 0 [] ∧ Below w'.heap.size w' w'') := fun w' => by
        have := growC_nil (n0 + n1) w' hn
        rw [show ((n0 + n1 : Nat) : Int) = (n0 : Int) + n1 by omega] at this
        exact this
      go_wp2_with fail
      go_at_call 226
      refine Calls.mono (hG.out _) ?_
      rintro e w1 ⟨v, rfl, hown1, hb1⟩
      have HO : Hid (w1.ownsRow w.heap.size 99 3 v 0 []) := hown1
      clear hown1
      go_wp2_with fail
      go_loopw [6, 27] (fun nv i wr => ∃ (k : Nat), k ≤ 2 ∧ i = .int .i64 k ∧ Hid (wr.ownsRow w.heap.size 99 3 nv (([r0, r1].take k).flatten).length (cndCells ([r0, r1].take k).flatten)) ∧ Below w.heap.size w wr) (fun _ i _ => 2 - (intOf i).toNat)
      case atStart => exact ⟨0, by omega, rfl, HO, hb1⟩
      case round =>
        obtain ⟨k, hk, rfl, HOr, hbr⟩ := hrel
        obtain ⟨c0, c1⟩ := HC.out _ hbr
        have hk' : k = 0 ∨ k = 1 ∨ k = 2 := by omega
        rcases hk' with rfl | rfl | rfl
        · obtain ⟨v', W', hrun, hown', hbel⟩ := run_append_conds B w.heap.size 93 _ _ 0 [] r0 wr HOr.out (H0.out.later hbr hB) (by rw [hN0.out]; omega) hbr.size
          rw [E0.out] at hrun
          have HO' : Hid (W'.ownsRow w.heap.size 99 3 v' (([r0, r1].take 1).flatten).length (cndCells ([r0, r1].take 1).flatten)) := by
            unfold Hid
            have e : ([r0, r1].take 1).flatten = r0 := by simp
            rw [e]
            simpa using hown'
          have hb' : Below w.heap.size w W' := hbr.trans hbel
          clear hown' hbel HOr
          go_wp2_with (at_builtin; refine Lib.wpList_append_run _ rfl _ _ _ _ rfl _ _ rfl rfl _ _ hrun ?_)
          exact ⟨⟨1, by omega, rfl, HO', hb'⟩, by simp [intOf]⟩
        · obtain ⟨v', W', hrun, hown', hbel⟩ := run_append_conds B w.heap.size 93 _ _ r0.length (cndCells r0) r1 wr (by have := HOr.out; simpa using this) (H1.out.later hbr hB) (by rw [hN0.out, hN1.out]; omega) hbr.size
          rw [E1.out] at hrun
          have HO' : Hid (W'.ownsRow w.heap.size 99 3 v' (([r0, r1].take 2).flatten).length (cndCells ([r0, r1].take 2).flatten)) := by
            unfold Hid
            have e : ([r0, r1].take 2).flatten = r0 ++ r1 := by simp
            rw [e, cndCells_append, List.length_append]
            exact hown'
          have hb' : Below w.heap.size w W' := hbr.trans hbel
          clear hown' hbel HOr
          go_wp2_with (at_builtin; refine Lib.wpList_append_run _ rfl _ _ _ _ rfl _ _ rfl rfl _ _ hrun ?_)
          exact ⟨⟨2, by omega, rfl, HO', hb'⟩, by simp [intOf]⟩
        · have h1 := HOr.out
          have e : ([r0, r1].take 2).flatten = r0 ++ r1 := by simp
          rw [e] at h1
          have h1' : Hid _ := h1
          clear HOr h1 e
          go_wp2
          go_ret
          exact ⟨_, rfl, h1'.out, hbr⟩
end Go.Proofs.YtbdlojnigflanacGreatDoor
end
section
/- The counterpart's Both: its two closures. -/
set_option linter.all false
set_option maxRecDepth 100000
namespace Go.Proofs.YtbdlojnigflanacGreatDoor
open Go.RowKit Go.Maps

set_option maxHeartbeats 2000000 in
theorem both1_any (exc : Bool) (a b : Int) (bx : Nat) (w : World) (hx : w.cell? ⟨bx, 0, none⟩ = some (.bool exc)) :
    Calls Tryz.prog 223 #[.int .i64 a, .int .i64 b, .pointer (some ⟨bx, 0, none⟩)] w fun e w' => e = .returned (.int .i64 (ofV exc a b)) ∧ w' = w := by
  by_cases hab : a < b
  · have HE : Hid (ofV exc a b = a) := by unfold Hid ofV; rw [if_pos hab]
    go_enter Tryz.func223, Tryz.ntmps223
    go_wp2
    go_ret
    exact ⟨by rw [HE.out]; rfl, rfl⟩
  · cases exc with
    | true =>
      have HE : Hid (ofV true a b = 4) := by unfold Hid ofV; rw [if_neg hab]; rfl
      go_enter Tryz.func223, Tryz.ntmps223
      go_wp2
      go_ret
      exact ⟨by rw [HE.out]; rfl, rfl⟩
    | false =>
      have HE : Hid (ofV false a b = b) := by unfold Hid ofV; rw [if_neg hab]; rfl
      go_enter Tryz.func223, Tryz.ntmps223
      go_wp2
      go_ret
      exact ⟨by rw [HE.out]; rfl, rfl⟩

theorem grown_later {w w' : World} (hb : Below w.heap.size w w') (row : Option Nat) : w.grownBy w' row := ⟨hb.os, hb.tape, hb.output, hb.size, fun k hk _ => hb.block k hk⟩
theorem heap_at (w : World) (o : Obj) {n : Nat} (h : n = w.heap.size) : (w.alloc o).heap[n]? = some o := by subst h; exact heap_made _ _
theorem heap_kept' {w : World} (o : Obj) {n : Nat} {x : Obj} (h : w.heap[n]? = some x) : (w.alloc o).heap[n]? = some x := (Below.block ((Below.refl w.heap.size w).alloc (Nat.le_refl _) o) n (Array.getElem?_eq_some_iff.1 h).1).trans h
/-- All blocks of a type stand. -/
def KeepT (T : TypeId) (w w' : World) : Prop := ∀ (k : Nat) (cur : Array Value) (fr : Nat × Nat), w.heap[k]? = some (.cells cur T fr) → w'.heap[k]? = some (.cells cur T fr)
theorem KeepT.of_below {T : TypeId} {w w' : World} (h : Below w.heap.size w w') : KeepT T w w' := fun k cur fr hk => (h.block k (lt_of_block hk)).trans hk
theorem KeepT.trans {T : TypeId} {a b c : World} (h : KeepT T a b) (h' : KeepT T b c) : KeepT T a c := fun k cur fr hk => h' k cur fr (h k cur fr hk)
theorem ownsRow_keepT {w w' : World} {base size n : Nat} {e : TypeId} {v : Value} {xs : List Value} (h : w.ownsRow base e size v n xs) (hk : KeepT e w w') : w'.ownsRow base e size v n xs := ownsRow_block h fun g cur _ hg => (hk g cur _ hg).trans hg.symm
/-- The cells of rules whose conditions lie in rows of the call's own. -/
def XsN (L : Nat) (w : World) (xs : List Value) (rs : List RuleT) : Prop :=
  xs.length = rs.length * 2 ∧ (∀ u ∈ xs, u.oneCell' = true) ∧ ∀ i r, rs[i]? = some r → ∃ cv, xs[i * 2]? = some cv ∧ xs[i * 2 + 1]? = some (.int .i64 r.2) ∧ wf r.2 ∧ (∀ c ∈ r.1, wf c.1 ∧ wf c.2.1 ∧ wf c.2.2) ∧ w.ownsRow L 99 3 cv r.1.length (cndCells r.1)
theorem XsN.keep {L : Nat} {w w' : World} {xs : List Value} {rs : List RuleT} (h : XsN L w xs rs) (hk : KeepT 99 w w') : XsN L w' xs rs := by
  obtain ⟨h1, h2, h3⟩ := h
  refine ⟨h1, h2, fun i r hr => ?_⟩
  obtain ⟨cv, a, b, c, d, e⟩ := h3 i r hr
  exact ⟨cv, a, b, c, d, ownsRow_keepT e hk⟩
theorem XsN.snoc {L : Nat} {w : World} {xs : List Value} {rs : List RuleT} {cv : Value} {r : RuleT} (h : XsN L w xs rs) (hr : wf r.2) (hw : ∀ c ∈ r.1, wf c.1 ∧ wf c.2.1 ∧ wf c.2.2) (ho : w.ownsRow L 99 3 cv r.1.length (cndCells r.1)) : XsN L w (xs ++ [cv, .int .i64 r.2]) (rs ++ [r]) := by
  obtain ⟨h1, h2, h3⟩ := h
  refine ⟨by simp [h1]; omega, fun u hu => ?_, fun i r' hr' => ?_⟩
  · rcases List.mem_append.1 hu with hu | hu
    · exact h2 u hu
    · obtain ⟨a, cap, rfl, _⟩ := ownsRow_caps ho
      simp at hu
      rcases hu with rfl | rfl <;> rfl
  · by_cases hi : i < rs.length
    · rw [List.getElem?_append_left hi] at hr'
      obtain ⟨cv', a, b, c, d, e⟩ := h3 i r' hr'
      exact ⟨cv', by rw [List.getElem?_append_left (by omega)]; exact a, by rw [List.getElem?_append_left (by omega)]; exact b, c, d, e⟩
    · have hi' : i = rs.length := by
        have := (List.getElem?_eq_some_iff.1 hr').1
        simp at this
        omega
      subst hi'
      simp at hr'
      subst hr'
      exact ⟨cv, by rw [List.getElem?_append_right (by omega)]; simp [h1], by rw [List.getElem?_append_right (by omega)]; simp [h1], hr, hw, ho⟩

/-- What stands while Both goes on: the boxes of except, of the closure, of what is made; the rules made so far. -/
def BoV (L bo bf bx : Nat) (exc : Bool) (rs : List RuleT) (v : Value) (xs : List Value) (w : World) : Prop :=
  w.heap[bx]? = some (.cells #[.bool exc] 4 (0, 0)) ∧ w.heap[bf]? = some (.cells #[.func (.func 223) #[] #[.pointer (some ⟨bx, 0, none⟩)]] 63 (0, 0)) ∧
  w.heap[bo]? = some (.cells #[v, .int .i64 0] 24 (0, 0)) ∧ w.ownsRow L 95 2 v rs.length xs ∧ XsN L w xs rs
def BoS (L bo bf bx : Nat) (exc : Bool) (rs : List RuleT) (w : World) : Prop := ∃ v xs, BoV L bo bf bx exc rs v xs w
theorem BoS.later {L bo bf bx : Nat} {exc : Bool} {rs : List RuleT} {w w' : World} (h : BoS L bo bf bx exc rs w) (hb : Below w.heap.size w w') : BoS L bo bf bx exc rs w' := by
  obtain ⟨v, xs, h1, h2, h3, h4, h5⟩ := h
  exact ⟨v, xs, (hb.block bx (lt_of_block h1)).trans h1, (hb.block bf (lt_of_block h2)).trans h2, (hb.block bo (lt_of_block h3)).trans h3, ownsRow_below h4 hb, h5.keep (KeepT.of_below hb)⟩

/-- What stands in the region that makes a rule: operations 6 (the two lists), 7 (both, joined), 13 (the verdict), 14 (the rule), 15 (a list of it), 16 (appended). -/
structure JBo (L : Nat) (W : World) (v : Value) (n : Nat) (xs : List Value) (rc sc : Value) (N : Nat) (cc : List Value) (vd : Int) (fs : Nat → Value → Prop) (w : World) : Prop where
  grown : W.grownBy w v.ownBlock
  lits : ∀ u, fs 6 u → ∃ g T0 fr, u = .slice (some ⟨g, 0, none⟩) 2 2 ∧ W.heap.size ≤ g ∧ w.heap[g]? = some (.cells #[rc, sc] T0 fr)
  one : ∀ u u', fs 7 u → fs 7 u' → u = u'
  join : ∀ u, fs 7 u → w.ownsRow W.heap.size 99 3 u N cc
  build : ∀ u, fs 14 u → ∃ u7, fs 7 u7 ∧ u = .agg #[u7, .int .i64 vd]
  made : ∀ u, fs 15 u → ∃ g T0 fr u7, u = .slice (some ⟨g, 0, none⟩) 1 1 ∧ W.heap.size ≤ g ∧ fs 7 u7 ∧ w.heap[g]? = some (.cells #[u7, .int .i64 vd] T0 fr)
  row : (∀ u, ¬ fs 16 u) → w.ownsRow L 95 2 v n xs
  app : ∀ u, fs 16 u → ∃ u7, fs 7 u7 ∧ w.ownsRow L 95 2 u (n + 1) (xs ++ [u7, .int .i64 vd]) ∧ (u.ownBlock = v.ownBlock ∨ ∃ k, u.ownBlock = some k ∧ W.heap.size ≤ k)
section
variable {L : Nat} {W w w' : World} {v : Value} {n : Nat} {xs : List Value} {rc sc : Value} {N : Nat} {cc : List Value} {vd : Int} {fs : Nat → Value → Prop}
theorem addF_old {fs : Nat → Value → Prop} {i k : Nat} {v u : Value} (hk : k ≠ i) (hu : addF fs i v k u) : fs k u := by
  rcases hu with hu | ⟨e, _⟩
  · exact hu
  · exact absurd e hk
theorem JBo.start (h : W.ownsRow L 95 2 v n xs) : JBo L W v n xs rc sc N cc vd (fun _ _ => False) W.drew :=
  ⟨⟨rfl, rfl, rfl, Nat.le_refl _, fun _ _ _ => rfl⟩, fun _ h => h.elim, fun _ _ h => h.elim, fun _ h => h.elim, fun _ h => h.elim, fun _ h => h.elim, fun _ => h, fun _ h => h.elim⟩
theorem JBo.later (h : JBo L W v n xs rc sc N cc vd fs w) (hb : Below w.heap.size w w') : JBo L W v n xs rc sc N cc vd fs w' := by
  refine ⟨World.grownBy.andThen h.grown (grown_later hb v.ownBlock) fun j hj => .inr hj, fun u hu => ?_, h.one, fun u hu => ownsRow_below (h.join u hu) hb, h.build, fun u hu => ?_, fun hn => ownsRow_below (h.row hn) hb, fun u hu => ?_⟩
  · obtain ⟨g, T0, fr, e1, e2, e3⟩ := h.lits u hu
    exact ⟨g, T0, fr, e1, e2, (hb.block g (lt_of_block e3)).trans e3⟩
  · obtain ⟨g, T0, fr, u7, e1, e2, e3, e4⟩ := h.made u hu
    exact ⟨g, T0, fr, u7, e1, e2, e3, (hb.block g (lt_of_block e4)).trans e4⟩
  · obtain ⟨u7, e1, e2, e3⟩ := h.app u hu
    exact ⟨u7, e1, ownsRow_below e2 hb, e3⟩
/-- One more is done that is none of 6, 7, 14, 15, 16. -/
theorem JBo.other (h : JBo L W v n xs rc sc N cc vd fs w) (k : Nat) (u : Value) (h6 : 6 ≠ k) (h7 : 7 ≠ k) (h14 : 14 ≠ k) (h15 : 15 ≠ k) (h16 : 16 ≠ k) : JBo L W v n xs rc sc N cc vd (addF fs k u) w := by
  refine ⟨h.grown, fun u hu => h.lits u (addF_old h6 hu), fun u u' hu hu' => h.one u u' (addF_old h7 hu) (addF_old h7 hu'), fun u hu => h.join u (addF_old h7 hu), fun u hu => ?_, fun u hu => ?_, fun hn => h.row fun u hu => hn u (.inl hu), fun u hu => ?_⟩
  · obtain ⟨u7, e1, e2⟩ := h.build u (addF_old h14 hu)
    exact ⟨u7, .inl e1, e2⟩
  · obtain ⟨g, T0, fr, u7, e1, e2, e3, e4⟩ := h.made u (addF_old h15 hu)
    exact ⟨g, T0, fr, u7, e1, e2, .inl e3, e4⟩
  · obtain ⟨u7, e1, e2⟩ := h.app u (addF_old h16 hu)
    exact ⟨u7, .inl e1, e2⟩
theorem JBo.lists (h : JBo L W v n xs rc sc N cc vd fs w) (T0 : TypeId) : JBo L W v n xs rc sc N cc vd (addF fs 6 (.slice (some ⟨w.heap.size, 0, none⟩) 2 2)) (w.alloc (.cells #[rc, sc] T0)) := by
  have hsz := h.grown.size
  have h := h.later ((Below.refl w.heap.size w).alloc (Nat.le_refl _) (.cells #[rc, sc] T0))
  refine ⟨h.grown, fun u hu => ?_, fun u u' hu hu' => h.one u u' (addF_old (by decide) hu) (addF_old (by decide) hu'), fun u hu => h.join u (addF_old (by decide) hu), fun u hu => ?_, fun u hu => ?_, fun hn => h.row fun u hu => hn u (.inl hu), fun u hu => ?_⟩
  · rcases hu with hu | ⟨_, rfl⟩
    · exact h.lits u hu
    · exact ⟨w.heap.size, T0, (0, 0), rfl, hsz, heap_made _ _⟩
  · obtain ⟨u7, e1, e2⟩ := h.build u (addF_old (by decide) hu)
    exact ⟨u7, .inl e1, e2⟩
  · obtain ⟨g, T0, fr, u7, e1, e2, e3, e4⟩ := h.made u (addF_old (by decide) hu)
    exact ⟨g, T0, fr, u7, e1, e2, .inl e3, e4⟩
  · obtain ⟨u7, e1, e2⟩ := h.app u (addF_old (by decide) hu)
    exact ⟨u7, .inl e1, e2⟩
theorem JBo.joined (h : JBo L W v n xs rc sc N cc vd fs w) (hno : ∀ u, ¬ fs 7 u) (hb : Below w.heap.size w w') (u : Value) (ho : w'.ownsRow w.heap.size 99 3 u N cc) : JBo L W v n xs rc sc N cc vd (addF fs 7 u) w' := by
  have hsz := h.grown.size
  have h := h.later hb
  refine ⟨h.grown, fun u hu => h.lits u (addF_old (by decide) hu), fun u1 u2 hu hu' => ?_, fun u1 hu => ?_, fun u hu => ?_, fun u hu => ?_, fun hn => h.row fun u hu => hn u (.inl hu), fun u hu => ?_⟩
  · rcases hu with hu | ⟨_, rfl⟩
    · exact absurd hu (hno u1)
    · rcases hu' with hu' | ⟨_, rfl⟩
      · exact absurd hu' (hno u2)
      · rfl
  · rcases hu with hu | ⟨_, rfl⟩
    · exact absurd hu (hno u1)
    · exact ownsRow_base ho hsz
  · obtain ⟨u7, e1, _⟩ := h.build u (addF_old (by decide) hu)
    exact absurd e1 (hno u7)
  · obtain ⟨g, T0, fr, u7, e1, e2, e3, e4⟩ := h.made u (addF_old (by decide) hu)
    exact absurd e3 (hno u7)
  · obtain ⟨u7, e1, e2⟩ := h.app u (addF_old (by decide) hu)
    exact absurd e1 (hno u7)
theorem JBo.built (h : JBo L W v n xs rc sc N cc vd fs w) (u7 : Value) (hu7 : fs 7 u7) : JBo L W v n xs rc sc N cc vd (addF fs 14 (.agg #[u7, .int .i64 vd])) w := by
  refine ⟨h.grown, fun u hu => h.lits u (addF_old (by decide) hu), fun u u' hu hu' => h.one u u' (addF_old (by decide) hu) (addF_old (by decide) hu'), fun u hu => h.join u (addF_old (by decide) hu), fun u hu => ?_, fun u hu => ?_, fun hn => h.row fun u hu => hn u (.inl hu), fun u hu => ?_⟩
  · rcases hu with hu | ⟨_, rfl⟩
    · obtain ⟨y, e1, e2⟩ := h.build u hu
      exact ⟨y, .inl e1, e2⟩
    · exact ⟨u7, .inl hu7, rfl⟩
  · obtain ⟨g, T0, fr, y, e1, e2, e3, e4⟩ := h.made u (addF_old (by decide) hu)
    exact ⟨g, T0, fr, y, e1, e2, .inl e3, e4⟩
  · obtain ⟨y, e1, e2⟩ := h.app u (addF_old (by decide) hu)
    exact ⟨y, .inl e1, e2⟩
theorem JBo.rule (h : JBo L W v n xs rc sc N cc vd fs w) (hno : ∀ u, ¬ fs 15 u) (u7 : Value) (hu : fs 14 (.agg #[u7, .int .i64 vd])) (T0 : TypeId) : JBo L W v n xs rc sc N cc vd (addF fs 15 (.slice (some ⟨w.heap.size, 0, none⟩) 1 1)) (w.alloc (.cells #[u7, .int .i64 vd] T0)) := by
  have hsz := h.grown.size
  have hu7 : fs 7 u7 := by
    obtain ⟨y, e1, e2⟩ := h.build _ hu
    have : u7 = y := by simpa using e2
    rw [this]
    exact e1
  have h := h.later ((Below.refl w.heap.size w).alloc (Nat.le_refl _) (.cells #[u7, .int .i64 vd] T0))
  refine ⟨h.grown, fun u hu => h.lits u (addF_old (by decide) hu), fun u u' hu hu' => h.one u u' (addF_old (by decide) hu) (addF_old (by decide) hu'), fun u hu => h.join u (addF_old (by decide) hu), fun u hu => ?_, fun u hu => ?_, fun hn => h.row fun u hu => hn u (.inl hu), fun u hu => ?_⟩
  · obtain ⟨y, e1, e2⟩ := h.build u (addF_old (by decide) hu)
    exact ⟨y, .inl e1, e2⟩
  · rcases hu with hu | ⟨_, rfl⟩
    · exact absurd hu (hno u)
    · exact ⟨w.heap.size, T0, (0, 0), u7, rfl, hsz, .inl hu7, heap_made _ _⟩
  · obtain ⟨y, e1, e2⟩ := h.app u (addF_old (by decide) hu)
    exact ⟨y, .inl e1, e2⟩
theorem JBo.append (h : JBo L W v n xs rc sc N cc vd fs w) (hno : ∀ u, ¬ fs 16 u) (hob : ∀ k, v.ownBlock = some k → k < W.heap.size) (hL : L ≤ W.heap.size) (lit : Value) (hlit : fs 15 lit) (hn : n ≤ 100000) (ty : TypeId) :
    ∃ v' w', (Builtin.append_ #[22, 22] ty #[v, lit]).run Tryz.prog w = .ok v' w' ∧ (∃ a cap, v' = .slice a (n + 1) cap) ∧ JBo L W v n xs rc sc N cc vd (addF fs 16 v') w' := by
  have hml := maxLen_eq
  obtain ⟨g, T0, fr, u7, rfl, hg, hu7, hbl⟩ := h.made lit hlit
  have hrow := h.row hno
  have h1c : u7.oneCell' = true := by
    obtain ⟨a, cap, rfl, _⟩ := ownsRow_caps (h.join u7 hu7)
    rfl
  obtain ⟨inf, hi1, hi2, hi3, hi4⟩ : ∃ i, Tryz.prog.info? 95 = some i ∧ i.zero = some (.agg #[.slice none 0 0, .int .i64 0]) ∧ i.size = 2 ∧ i.bytes = 32 := infoOf (by kernel_rfl)
  obtain ⟨v', w', r1, r2, r3, _, r5⟩ := run_append_own_at (P := Tryz.prog) w L 22 ty 95 inf _ 2 32 Tryz.underlying22 hi1 hi2 hi3 hi4 rfl (by decide) v n xs hrow ⟨g, 0, none⟩ 1 1 [u7, .int .i64 vd] rfl (fun j u hj => by rw [add_at, Nat.zero_add]; exact heap_cell hbl j (by simpa using hj)) (by intro u hu; simp at hu; rcases hu with rfl | rfl; exact h1c; rfl) (by omega) (by omega) (Nat.le_trans hL h.grown.size)
  have hst : ∀ g', W.heap.size ≤ g' → ∀ {x}, w.heap[g']? = some x → w'.heap[g']? = some x := fun g' hg' x hx => by
    refine (r3.block g' (Array.getElem?_eq_some_iff.1 hx).1 fun e => ?_).trans hx
    have := hob g' e.symm
    omega
  obtain ⟨a', cap', e', _⟩ := ownsRow_caps r2
  refine ⟨v', w', r1, ⟨a', cap', e'⟩, World.grownBy.andThen h.grown r3 fun j hj => .inr hj, fun u hu => ?_, fun u u' hu hu' => h.one u u' (addF_old (by decide) hu) (addF_old (by decide) hu'), fun u hu => ?_, fun u hu => ?_, fun u hu => ?_, fun hn => absurd (.inr ⟨rfl, rfl⟩) (hn v'), fun u hu => ?_⟩
  · obtain ⟨g2, T2, fr2, e1, e2, e3⟩ := h.lits u (addF_old (by decide) hu)
    exact ⟨g2, T2, fr2, e1, e2, hst g2 e2 e3⟩
  · exact ownsRow_block (h.join u (addF_old (by decide) hu)) fun g2 cur hg2 hc => (hst g2 hg2 hc).trans hc.symm
  · obtain ⟨y, e1, e2⟩ := h.build u (addF_old (by decide) hu)
    exact ⟨y, .inl e1, e2⟩
  · obtain ⟨g2, T2, fr2, y7, e1, e2, e3, e4⟩ := h.made u (addF_old (by decide) hu)
    exact ⟨g2, T2, fr2, y7, e1, e2, .inl e3, hst g2 e2 e4⟩
  · rcases hu with hu | ⟨_, rfl⟩
    · exact absurd hu (hno u)
    · refine ⟨u7, .inl hu7, r2, ?_⟩
      rcases r5 with e | e
      · exact .inl e
      · exact .inr ⟨_, e, h.grown.size⟩
end

end Go.Proofs.YtbdlojnigflanacGreatDoor
end
