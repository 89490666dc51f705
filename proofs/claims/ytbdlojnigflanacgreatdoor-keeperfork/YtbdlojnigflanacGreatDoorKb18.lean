/- Joined: ConC CatC. -/
import Derived.Test.YtbdlojnigflanacGreatDoorKb03
import Derived.Test.YtbdlojnigflanacGreatDoorKb01
import Derived.Lib.AppendZerosOnto
import Derived.Lib.AppendZeros
section
/- Conditions in rows of one's own. -/
set_option linter.all false
set_option maxRecDepth 100000
namespace Go.Proofs.YtbdlojnigflanacGreatDoor
open Go.RowKit Go.Maps

theorem CondsAt.full {B : Nat} {w : World} {v : Value} {cs : List CondT} (h : CondsAt B w v cs) : ∃ a cap, v = .slice a cs.length cap ∧ cs.length ≤ cap ∧ cap ≤ maxLen := by
  obtain ⟨a, cap, h1, h2, h3, _⟩ := h
  exact ⟨a, cap, h1, h2, h3⟩
theorem infoCnd : ∃ i, Tryz.prog.info? 99 = some i ∧ i.zero = some (.agg #[.int .i64 0, .int .i64 0, .int .i64 0]) ∧ i.size = 3 ∧ i.bytes = 24 := infoOf (by kernel_rfl)

def cndCells (l : List CondT) : List Value := l.flatMap fun c => [.int .i64 c.1, .int .i64 c.2.1, .int .i64 c.2.2]
theorem cndCells_cons (c : CondT) (l : List CondT) : cndCells (c :: l) = .int .i64 c.1 :: .int .i64 c.2.1 :: .int .i64 c.2.2 :: cndCells l := rfl
theorem cndCells_append (l m : List CondT) : cndCells (l ++ m) = cndCells l ++ cndCells m := by unfold cndCells; exact List.flatMap_append
theorem cndCells_length : ∀ l : List CondT, (cndCells l).length = l.length * 3
  | [] => rfl
  | c :: r => by rw [cndCells_cons]; simp [cndCells_length r]; omega
theorem cndCells_one : ∀ (l : List CondT), ∀ u ∈ cndCells l, u.oneCell' = true
  | [], u, h => by cases h
  | c :: r, u, h => by
    rw [cndCells_cons] at h
    simp at h
    rcases h with rfl | rfl | rfl | h
    · rfl
    · rfl
    · rfl
    · exact cndCells_one r u h
theorem cndCells_get : ∀ (l : List CondT) (i : Nat) (c : CondT), l[i]? = some c → (cndCells l)[i * 3]? = some (.int .i64 c.1) ∧ (cndCells l)[i * 3 + 1]? = some (.int .i64 c.2.1) ∧ (cndCells l)[i * 3 + 2]? = some (.int .i64 c.2.2)
  | [], _, _, h => by simp at h
  | c' :: r, 0, c, h => by
    simp at h
    subst h
    simp [cndCells_cons]
  | c' :: r, i + 1, c, h => by
    have ih := cndCells_get r i c (by simpa using h)
    rw [cndCells_cons, show (i + 1) * 3 = i * 3 + 3 by omega]
    exact ih
/-- Cells one by one. -/
theorem cndCells_cell {w : World} {b o : Nat} : ∀ (l : List CondT) (o : Nat), (∀ i c, l[i]? = some c → CondAt w b (o + i * 3) c) → ∀ j u, (cndCells l)[j]? = some u → w.cell? ⟨b, o + j, none⟩ = some u
  | [], _, _, j, u, h => by simp [cndCells] at h
  | c :: r, o, hat, j, u, h => by
    obtain ⟨c0, c1, c2, _⟩ := hat 0 c rfl
    simp only [Nat.zero_mul, Nat.add_zero] at c0 c1 c2
    rw [cndCells_cons] at h
    match j, h with
    | 0, h => simp at h; subst h; simpa using c0
    | 1, h => simp at h; subst h; exact c1
    | 2, h => simp at h; subst h; exact c2
    | j + 3, h =>
      have := cndCells_cell (b := b) (o := o) r (o + 3) (fun i c hc => by
        have := hat (i + 1) c (by simpa using hc)
        rw [show o + (i + 1) * 3 = o + 3 + i * 3 by omega] at this
        exact this) j u (by simpa using h)
      rw [show o + (j + 3) = o + 3 + j by omega]
      exact this
/-- And back: a row of the call's own that holds them. -/
theorem condsAt_own {L : Nat} {w : World} {v : Value} {l : List CondT} (h : w.ownsRow L 99 3 v l.length (cndCells l)) (hwf : ∀ c ∈ l, wf c.1 ∧ wf c.2.1 ∧ wf c.2.2) : CondsAt w.heap.size w v l := by
  obtain ⟨a, cap, rfl, h1, h2, h3⟩ := ownsRow_caps h
  refine ⟨a, cap, rfl, h1, h2, fun i c hc => ?_⟩
  have hi : i < l.length := (List.getElem?_eq_some_iff.1 hc).1
  obtain ⟨g, rfl, hg1, hg2⟩ := h3 (by omega)
  obtain ⟨e0, e1, e2⟩ := cndCells_get l i c hc
  refine ⟨g, 0, rfl, hg2, ?_, ?_, ?_, hwf c (List.mem_of_getElem? hc)⟩
  all_goals rw [Nat.zero_add]
  · exact ownsRow_cell h _ _ e0
  · exact ownsRow_cell h _ _ e1
  · exact ownsRow_cell h _ _ e2
theorem CondsAt.wfs {B : Nat} {w : World} {v : Value} {l : List CondT} (h : CondsAt B w v l) : ∀ c ∈ l, Go.Proofs.YtbdlojnigflanacGreatDoor.wf c.1 ∧ Go.Proofs.YtbdlojnigflanacGreatDoor.wf c.2.1 ∧ Go.Proofs.YtbdlojnigflanacGreatDoor.wf c.2.2 := by
  intro c hc
  obtain ⟨i, hi⟩ := List.mem_iff_getElem?.1 hc
  obtain ⟨_, _, _, _, _, h4⟩ := h
  obtain ⟨_, _, _, _, k⟩ := h4 i c hi
  exact k.2.2.2

/-- A filter in memory behind a row of one's own. -/
theorem run_append_conds (B base : Nat) (ty : TypeId) (v sv : Value) (n : Nat) (xs : List Value) (rs : List CondT) (W : World) (hown : W.ownsRow base 99 3 v n xs) (hs : CondsAt B W sv rs) (hn : (n + rs.length) * 24 ≤ 140737488355328) (hbase : base ≤ W.heap.size) :
    ∃ v' W', (Builtin.append_ #[93, 93] ty #[v, sv]).run Tryz.prog W = .ok v' W' ∧ W'.ownsRow base 99 3 v' (n + rs.length) (xs ++ cndCells rs) ∧ Below base W W' := by
  obtain ⟨inf, hi1, hi2, hi3, hi4⟩ := infoCnd
  obtain ⟨a, cap, rfl, hlc, hcm, hrs⟩ := hs
  cases a with
  | none =>
    have h0 : rs = [] := by
      cases rs with
      | nil => rfl
      | cons r l => obtain ⟨b, o, e, _⟩ := hrs 0 r rfl; cases e
    subst h0
    refine ⟨v, W, ?_, by simpa [cndCells] using hown, Below.refl _ _⟩
    have hc : v = .slice none 0 0 ∨ ∃ g c, v = .slice (some g) n c ∧ n ≤ c := by
      rcases hown.2 with ⟨h, _⟩ | ⟨g, c, cur, h, _, _, h', _⟩
      · exact .inl h
      · exact .inr ⟨_, c, h, h'⟩
    have hf := run_firstCells_none (P := Tryz.prog) W inf.size 0 0 cap
    rcases hc with rfl | ⟨g, c, rfl, hle⟩
    · simp [Builtin.append_, run_underlying Tryz.underlying93, sizeOf, typeInfo, hi1, Builtin.lenOf, hf]
    · simp [Builtin.append_, run_underlying Tryz.underlying93, sizeOf, typeInfo, hi1, Builtin.lenOf, hf, hle, storeCells]
  | some ad =>
    have hcell : ∀ j u, (cndCells rs)[j]? = some u → W.cell? (ad.add j) = some u := by
      cases rs with
      | nil => intro j u hj; simp [cndCells] at hj
      | cons r l =>
        obtain ⟨b, o, e, _, _⟩ := hrs 0 r rfl
        cases e
        intro j u hj
        rw [add_at]
        refine cndCells_cell (o := o) (r :: l) o (fun i c hc => ?_) j u hj
        obtain ⟨b', o', e, _, k⟩ := hrs i c hc
        cases e
        exact k
    obtain ⟨v', W', h1, h2, h3, h4⟩ := run_append_own (P := Tryz.prog) W base 93 ty 99 inf _ 3 24 Tryz.underlying93 hi1 hi2 hi3 hi4 rfl (by decide) v n xs hown ad rs.length cap (cndCells rs) (cndCells_length rs) hcell (cndCells_one rs) (by rw [maxLen_eq]; omega) hn hbase
    refine ⟨v', W', h1, h2, (Below.refl _ _).grown h3 hbase fun k hk => ?_⟩
    rcases hown.2 with ⟨h, _⟩ | ⟨g, c, cur, h, hg, _⟩
    · rw [h] at hk; simp [Value.ownBlock] at hk
    · rw [h] at hk; simp [Value.ownBlock] at hk; omega

end Go.Proofs.YtbdlojnigflanacGreatDoor
end
section
/- slices.Grow of nothing, slices.Concat of two lists of conditions. -/
set_option linter.all false
set_option maxRecDepth 100000
namespace Go.Proofs.YtbdlojnigflanacGreatDoor
open Go.RowKit Go.Maps

set_option maxHeartbeats 4000000 in
theorem growC_nil (n : Nat) (w : World) (hn : n * 24 ≤ 140737488355328) :
    Calls Tryz.prog 226 #[.slice none 0 0, .int .i64 n] w fun e w' => ∃ v, e = .returned v ∧ w'.ownsRow w.heap.size 99 3 v 0 [] ∧ Below w.heap.size w w' := by
  have hml := maxLen_eq
  by_cases h0 : n = 0
  · subst h0
    go_enter Tryz.func226, Tryz.ntmps226
    go_wp2
    go_ret
    exact ⟨_, rfl, ⟨rfl, .inl ⟨rfl, rfl⟩⟩, Below.refl _ _⟩
  · obtain ⟨inf, hi1, hi2, hi3, hi4⟩ := infoCnd
    have h1 : ¬ ((n : Int) < 0) := by omega
    have h4 : (n : Int) > 0 := by omega
    obtain ⟨G, hG⟩ : ∃ G, G = grownCap w n 0 99 := ⟨_, rfl⟩
    have hGn : n ≤ G := by rw [hG]; exact grownCap_ge w _ _ _
    have hG63 : G ≤ maxLen := by rw [hG]; exact grownCap_le_maxLen w n 0 _ (by omega)
    obtain ⟨z, hz⟩ : ∃ z : Value, z = .agg #[.int .i64 0, .int .i64 0, .int .i64 0] := ⟨_, rfl⟩
    have hzs : z.cells.size = 3 := by rw [hz]; rfl
    rw [← hz] at hi2
    have hrz : ∀ ty, (Builtin.append_ #[93, 3] ty #[.slice none 0 0, .int .i64 n]).run Tryz.prog w =
        .ok (.slice (some ⟨w.heap.size, 0, none⟩) n G) (w.drew.alloc (.cells ((Builtin.zeroCells z.cells n) ++ Builtin.zeroCells z.cells (G - n)) 99)) := fun ty => by
      have h := Lib.run_append_grow_zeros w 93 3 ty 99 inf z .i64 .i64 Tryz.underlying93 Tryz.underlying3 hi1 hi2 none 0 0 [] (run_firstCells_none w.drew inf.size 0 0 0) n (by omega) (by omega) (by omega) (by omega)
        (by rw [hi4]; omega)
        (by rw [Nat.zero_add]; exact growslice_fits (by omega) (by rw [hi4]; omega))
      simpa [← hG] using h
    have hown : Hid ((w.drew.alloc (.cells ((Builtin.zeroCells z.cells n) ++ Builtin.zeroCells z.cells (G - n)) 99)).ownsRow w.heap.size 99 3 (.slice (some ⟨w.heap.size, 0, none⟩) 0 G) 0 []) := by
      refine ⟨rfl, .inr ⟨w.heap.size, G, _, rfl, Nat.le_refl _, (MapKept.heap_alloc w.drew _).1, Nat.zero_le _, hG63, ?_, by simp⟩⟩
      rw [Array.size_append, size_zeroCells, size_zeroCells, hzs, ← Nat.add_mul]
      congr 1
      omega
    have hbel : Hid (Below w.heap.size w (w.drew.alloc (.cells ((Builtin.zeroCells z.cells n) ++ Builtin.zeroCells z.cells (G - n)) 99))) := (Below.refl _ _).drew.alloc (Nat.le_refl _) _
    clear hG hz
    rw [hml] at hG63
    generalize (Builtin.zeroCells z.cells n) ++ Builtin.zeroCells z.cells (G - n) = zs at *
    go_enter Tryz.func226, Tryz.ntmps226
    go_wp2_with (at_builtin; refine Lib.wpList_append_run _ rfl _ _ _ _ rfl _ _ rfl rfl _ _ (hrz _) ?_)
    go_ret
    exact ⟨_, rfl, hown.out, hbel.out⟩

set_option maxHeartbeats 4000000 in
theorem concatC_any (B : Nat) (v0 v1 : Value) (r0 r1 : List CondT) (bs : Nat) (w : World) (h0 : CondsAt B w v0 r0) (h1 : CondsAt B w v1 r1) (hB : B ≤ w.heap.size) (hbs : bs < w.heap.size) (hc0 : w.cell? ⟨bs, 0, none⟩ = some v0) (hc1 : w.cell? ⟨bs, 1, none⟩ = some v1) (hn : (r0.length + r1.length) * 24 ≤ 140737488355328) :
    Calls Tryz.prog 197 #[.slice (some ⟨bs, 0, none⟩) 2 2] w fun e w' => ∃ v, e = .returned v ∧ w'.ownsRow w.heap.size 99 3 v (r0 ++ r1).length (cndCells (r0 ++ r1)) ∧ Below w.heap.size w w' := by
  have H0 : Hid (CondsAt B w v0 r0) := h0
  have H1 : Hid (CondsAt B w v1 r1) := h1
  obtain ⟨a0, cap0, e0, hle0, _⟩ := h0.full
  obtain ⟨a1, cap1, e1, hle1, _⟩ := h1.full
  have E0 : Hid (v0 = _) := e0
  have E1 : Hid (v1 = _) := e1
  rw [e0] at hc0
  rw [e1] at hc1
  have HC : Hid (∀ w', Below w.heap.size w w' → w'.cell? ⟨bs, 0, none⟩ = some (.slice a0 r0.length cap0) ∧ w'.cell? ⟨bs, 1, none⟩ = some (.slice a1 r1.length cap1)) := fun w' h => ⟨(h.cell (p := ⟨bs, 0, none⟩) hbs).trans hc0, (h.cell (p := ⟨bs, 1, none⟩) hbs).trans hc1⟩
  clear e0 e1 h0 h1
  generalize hn0 : r0.length = n0 at *
  generalize hn1 : r1.length = n1 at *
  have hN0 : Hid (r0.length = n0) := hn0
  have hN1 : Hid (r1.length = n1) := hn1
  clear hn0 hn1
  go_enter Tryz.func197, Tryz.ntmps197
  go_wp2
  go_loop [3, 11] (fun sz i => ∃ k : Nat, k ≤ 2 ∧ i = .int .i64 k ∧ sz = .int .i64 (if k = 0 then 0 else if k = 1 then (n0 : Int) else ((n0 : Int) + n1))) (fun _ i => 2 - (intOf i).toNat)
  case atStart => exact ⟨0, by omega, rfl, rfl⟩
  case round =>
    obtain ⟨k, hk, rfl, rfl⟩ := hrel
    have hk' : k = 0 ∨ k = 1 ∨ k = 2 := by omega
    rcases hk' with rfl | rfl | rfl
    · go_wp2
      exact ⟨⟨1, by omega, rfl, by simp⟩, by simp [intOf]⟩
    · have hneg : ¬ ((n0 : Int) + (n1 : Int) < 0) := by omega
      have hwr : wrap64 ((n0 : Int) + (n1 : Int)) = (n0 : Int) + n1 := by unfold wrap64; omega
      go_wp2
      exact ⟨⟨2, by omega, rfl, by simp⟩, by simp [intOf]⟩
    · have hG : Hid (∀ w', Calls Tryz.prog 226 #[.slice none 0 0, .int .i64 ((n0 : Int) + n1)] w' fun e w'' => ∃ v, e = .returned v ∧ w''.ownsRow w'.heap.size 99 3 v 0 [] ∧ Below w'.heap.size w' w'') := fun w' => by
        have := growC_nil (n0 + n1) w' hn
        rw [show ((n0 + n1 : Nat) : Int) = (n0 : Int) + n1 by omega] at this
        exact this
      go_wp2_with fail
      go_at_call 226
      refine Calls.mono (hG.out _) ?_
      rintro e w1 ⟨v, rfl, hown1, hb1⟩
      have HO : Hid (w1.ownsRow w.heap.size 99 3 v 0 []) := hown1
      clear hown1
      go_wp2_with fail
      go_loopw [6, 27] (fun nv i wr => ∃ (k : Nat), k ≤ 2 ∧ i = .int .i64 k ∧ Hid (wr.ownsRow w.heap.size 99 3 nv (([r0, r1].take k).flatten).length (cndCells ([r0, r1].take k).flatten)) ∧ Below w.heap.size w wr) (fun _ i _ => 2 - (intOf i).toNat)
      case atStart => exact ⟨0, by omega, rfl, HO, hb1⟩
      case round =>
        obtain ⟨k, hk, rfl, HOr, hbr⟩ := hrel
        obtain ⟨c0, c1⟩ := HC.out _ hbr
        have hk' : k = 0 ∨ k = 1 ∨ k = 2 := by omega
        rcases hk' with rfl | rfl | rfl
        · obtain ⟨v', W', hrun, hown', hbel⟩ := run_append_conds B w.heap.size 93 _ _ 0 [] r0 wr HOr.out (H0.out.later hbr hB) (by rw [hN0.out]; omega) hbr.size
          rw [E0.out] at hrun
          have HO' : Hid (W'.ownsRow w.heap.size 99 3 v' (([r0, r1].take 1).flatten).length (cndCells ([r0, r1].take 1).flatten)) := by
            unfold Hid
            have e : ([r0, r1].take 1).flatten = r0 := by simp
            rw [e]
            simpa using hown'
          have hb' : Below w.heap.size w W' := hbr.trans hbel
          clear hown' hbel HOr
          go_wp2_with (at_builtin; refine Lib.wpList_append_run _ rfl _ _ _ _ rfl _ _ rfl rfl _ _ hrun ?_)
          exact ⟨⟨1, by omega, rfl, HO', hb'⟩, by simp [intOf]⟩
        · obtain ⟨v', W', hrun, hown', hbel⟩ := run_append_conds B w.heap.size 93 _ _ r0.length (cndCells r0) r1 wr (by have := HOr.out; simpa using this) (H1.out.later hbr hB) (by rw [hN0.out, hN1.out]; omega) hbr.size
          rw [E1.out] at hrun
          have HO' : Hid (W'.ownsRow w.heap.size 99 3 v' (([r0, r1].take 2).flatten).length (cndCells ([r0, r1].take 2).flatten)) := by
            unfold Hid
            have e : ([r0, r1].take 2).flatten = r0 ++ r1 := by simp
            rw [e, cndCells_append, List.length_append]
            exact hown'
          have hb' : Below w.heap.size w W' := hbr.trans hbel
          clear hown' hbel HOr
          go_wp2_with (at_builtin; refine Lib.wpList_append_run _ rfl _ _ _ _ rfl _ _ rfl rfl _ _ hrun ?_)
          exact ⟨⟨2, by omega, rfl, HO', hb'⟩, by simp [intOf]⟩
        · have h1 := HOr.out
          have e : ([r0, r1].take 2).flatten = r0 ++ r1 := by simp
          rw [e] at h1
          have h1' : Hid _ := h1
          clear HOr h1 e
          go_wp2
          go_ret
          exact ⟨_, rfl, h1'.out, hbr⟩
end Go.Proofs.YtbdlojnigflanacGreatDoor
end
