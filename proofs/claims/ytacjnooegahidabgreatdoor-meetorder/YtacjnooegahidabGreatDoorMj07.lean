/- Joined: Open ConC CatC First. -/
import Derived.Test.YtacjnooegahidabGreatDoorRows
import Derived.Test.YtacjnooegahidabGreatDoorMj06
import Derived.ProofKit
import Derived.OpenShut
import Derived.ShutString
import Derived.ChangeOld
import Derived.Below
import Derived.Deep.SlicePairs
import Derived.Deep.Strs
import Derived.Test.YtacjnooegahidabGreatDoorMj03
import Derived.Test.YtacjnooegahidabGreatDoorMj01
import Derived.Lib.AppendZerosOnto
import Derived.Lib.AppendZeros
section
/- Policies and calls that came in, as plain data; all arguments behind a call that turned nothing old. -/
set_option linter.all false
set_option maxRecDepth 100000
namespace Go.Proofs.YtacjnooegahidabGreatDoor
open Go.ChangeShapes Go.WideShapes Go.ChangeAt Go.RowKit Go.Deep

section
variable {H : Type} {enc : TypeId × Value → H} {W : World} {base : Nat} {sp : Nat → Bool} {held : Bool}

theorem open_conds {fuel : Nat} {cv : Value} {x : DataW H × List MemPlace} (h : DataW.trod enc Tryz.prog W base sp held fuel 71 [cv] = some x) : ∃ cs, CondsAt W.heap.size W cv cs := by
  rcases open_slice Tryz.underlying71 h with ⟨h0, _⟩ | ⟨a, len, cap, m, n, D, Pl, h0, _, hl, hm, hmm, _, hx⟩
  · simp at h0
    subst h0
    exact ⟨[], none, 0, rfl, Nat.le_refl _, Nat.zero_le _, fun i c hc => by simp at hc⟩
  · simp at h0
    subst h0
    have h3 : Tryz.prog.cellsOf 76 = 3 := by kernel_rfl
    have h1 : Tryz.prog.cellsOf 3 = 1 := by kernel_rfl
    rw [h3] at hx
    have hlm : len ≤ m := by rw [hmm]; split <;> omega
    have each : ∀ i, i < len → ∃ c : CondT, a = ⟨a.block, a.off, none⟩ ∧ a.block < W.heap.size ∧ CondAt W a.block (a.off + i * 3) c := by
      intro i hi
      have h00 : W.cell? (a.add 0) ≠ none := by
        obtain ⟨cs', g1, _⟩ := hx 0 (by omega)
        obtain ⟨_, hlen, hcell⟩ := World.cells?_some g1
        have := hcell 0 (by omega)
        rw [add_add] at this
        simp at this
        match cs', hlen with
        | [v0, v1, v2], _ => simp at this ⊢; rw [this]; simp
      obtain ⟨v, hv⟩ := Option.ne_none_iff_exists'.1 h00
      obtain ⟨ha, hb⟩ := addr_plain hv
      obtain ⟨cs', g1, g2⟩ := hx i (by omega)
      obtain ⟨_, hlen, hcell⟩ := World.cells?_some g1
      obtain ⟨y0, y1, y2, k, _, _, e0, e1, e2⟩ := trod_struct3 Tryz.underlying76 g2
      match cs', hlen with
      | [v0, v1, v2], _ =>
        simp [h1] at e0 e1 e2
        obtain ⟨f, q0, _, w0⟩ := DataW.trod_int Tryz.underlying3 e0
        obtain ⟨o, q1, _, w1⟩ := DataW.trod_int Tryz.underlying3 e1
        obtain ⟨u, q2, _, w2⟩ := DataW.trod_int Tryz.underlying3 e2
        simp at q0 q1 q2
        subst q0 q1 q2
        have c0 := hcell 0 (by omega)
        have c1 := hcell 1 (by omega)
        have c2 := hcell 2 (by omega)
        rw [add_add, ha, add_at] at c0 c1 c2
        exact ⟨(f, o, u), ha, hb, by simpa using c0, by simpa [Nat.add_assoc] using c1, by simpa [Nat.add_assoc] using c2, w0, w1, w2⟩
    obtain ⟨cs, hcl, hcp⟩ := list_of _ len each
    refine ⟨cs, some a, cap, by rw [hcl], by omega, hm, fun i c hc => ?_⟩
    obtain ⟨ha, hb, hat⟩ := hcp i c hc
    exact ⟨a.block, a.off, by rw [← ha], hb, hat⟩

theorem open_rules {fuel : Nat} {rv : Value} {x : DataW H × List MemPlace} (h : DataW.trod enc Tryz.prog W base sp held fuel 36 [rv] = some x) : ∃ rs, RulesAt W.heap.size W rv rs := by
  rcases open_slice_pairs Tryz.underlying36 Tryz.underlying73 (by kernel_rfl) rfl rfl (by kernel_rfl) (by kernel_rfl) h with ⟨h0, _⟩ | ⟨a, len, cap, m, n, V0, V1, _, _, _, _, h0, _, hl, hm, hmm, _, hx⟩
  · simp at h0
    subst h0
    exact ⟨[], none, 0, rfl, Nat.le_refl _, Nat.zero_le _, fun i c hc => by simp at hc⟩
  · simp at h0
    subst h0
    have hlm : len ≤ m := by rw [hmm]; split <;> omega
    have each : ∀ i, i < len → ∃ r : RuleT, a = ⟨a.block, a.off, none⟩ ∧ a.block < W.heap.size ∧ RuleAt W.heap.size W a.block (a.off + i * 2) r := by
      intro i hi
      obtain ⟨ha, hb⟩ := addr_plain (hx 0 (by omega)).1
      obtain ⟨c0, c1, t0, t1⟩ := hx i (by omega)
      obtain ⟨cs, hcs⟩ := open_conds t0
      obtain ⟨v, q1, _, w1⟩ := DataW.trod_int Tryz.underlying3 t1
      simp at q1
      rw [q1] at c1
      rw [ha, add_at] at c0 c1
      exact ⟨(cs, v), ha, hb, V0 i, c0, by simpa [Nat.add_assoc] using c1, w1, hcs⟩
    obtain ⟨rs, hrl, hrp⟩ := list_of _ len each
    refine ⟨rs, some a, cap, by rw [hrl], by omega, hm, fun i r hr => ?_⟩
    obtain ⟨ha, hb, hat⟩ := hrp i r hr
    exact ⟨a.block, a.off, by rw [← ha], hb, hat⟩
end

/-- A policy that came in. -/
theorem open_pol {H : Type} {enc : TypeId × Value → H} {W : World} {r : Reach} {b0 base : Nat} {sp : Nat → Bool} {held : Bool} {v : Value} {d : DataW H} {p : List MemPlace}
    (hv : Value.okWide Tryz.prog W r b0 38 v) (h : DataW.Trod enc Tryz.prog W base sp held 38 v d p) : ∃ pp, PolAt W.heap.size W v pp := by
  obtain ⟨cs, rfl, hsz⟩ := okWide_struct Tryz.underlying38 hv
  obtain ⟨fuel, hf⟩ := h
  obtain ⟨y0, y1, n, _, _, t0, t1⟩ := trod_struct2 Tryz.underlying38 hf
  have h2 : Tryz.prog.cellsOf 38 = 2 := by kernel_rfl
  have hr1 : Tryz.prog.cellsOf 36 = 1 := by kernel_rfl
  have hi1 : Tryz.prog.cellsOf 3 = 1 := by kernel_rfl
  rw [h2] at hsz
  obtain ⟨l⟩ := cs
  match l, hsz with
  | [c0, c1], _ =>
    simp [Value.cells, hr1, hi1] at t0 t1
    obtain ⟨rs, hrs⟩ := open_rules t0
    obtain ⟨dd, q1, _, w1⟩ := DataW.trod_int Tryz.underlying3 t1
    simp at q1
    subst q1
    exact ⟨(rs, dd), c0, rfl, w1, hrs⟩

/-- What every row's first world gives. -/
theorem env_of_shaped {W : World} (h : W.ShapedOpen Tryz.prog) : EnvAt W := Tryz.laysM145.s1_3 W h

end Go.Proofs.YtacjnooegahidabGreatDoor
end
section
/- Conditions in rows of one's own. -/
set_option linter.all false
set_option maxRecDepth 100000
namespace Go.Proofs.YtacjnooegahidabGreatDoor
open Go.RowKit Go.Maps

theorem CondsAt.full {B : Nat} {w : World} {v : Value} {cs : List CondT} (h : CondsAt B w v cs) : ∃ a cap, v = .slice a cs.length cap ∧ cs.length ≤ cap ∧ cap ≤ maxLen := by
  obtain ⟨a, cap, h1, h2, h3, _⟩ := h
  exact ⟨a, cap, h1, h2, h3⟩
theorem infoCnd : ∃ i, Tryz.prog.info? 76 = some i ∧ i.zero = some (.agg #[.int .i64 0, .int .i64 0, .int .i64 0]) ∧ i.size = 3 ∧ i.bytes = 24 := infoOf (by kernel_rfl)

def cndCells (l : List CondT) : List Value := l.flatMap fun c => [.int .i64 c.1, .int .i64 c.2.1, .int .i64 c.2.2]
theorem cndCells_cons (c : CondT) (l : List CondT) : cndCells (c :: l) = .int .i64 c.1 :: .int .i64 c.2.1 :: .int .i64 c.2.2 :: cndCells l := rfl
theorem cndCells_append (l m : List CondT) : cndCells (l ++ m) = cndCells l ++ cndCells m := by unfold cndCells; exact List.flatMap_append
theorem cndCells_length : ∀ l : List CondT, (cndCells l).length = l.length * 3
  | [] => rfl
  | c :: r => by rw [cndCells_cons]; simp [cndCells_length r]; omega
theorem cndCells_one : ∀ (l : List CondT), ∀ u ∈ cndCells l, u.oneCell' = true
  | [], u, h => by cases h
  | c :: r, u, h => by
    rw [cndCells_cons] at h
    simp at h
    rcases h with rfl | rfl | rfl | h
    · rfl
    · rfl
    · rfl
    · exact cndCells_one r u h
theorem cndCells_get : ∀ (l : List CondT) (i : Nat) (c : CondT), l[i]? = some c → (cndCells l)[i * 3]? = some (.int .i64 c.1) ∧ (cndCells l)[i * 3 + 1]? = some (.int .i64 c.2.1) ∧ (cndCells l)[i * 3 + 2]? = some (.int .i64 c.2.2)
  | [], _, _, h => by simp at h
  | c' :: r, 0, c, h => by
    simp at h
    subst h
    simp [cndCells_cons]
  | c' :: r, i + 1, c, h => by
    have ih := cndCells_get r i c (by simpa using h)
    rw [cndCells_cons, show (i + 1) * 3 = i * 3 + 3 by omega]
    exact ih
/-- Cells one by one. -/
theorem cndCells_cell {w : World} {b o : Nat} : ∀ (l : List CondT) (o : Nat), (∀ i c, l[i]? = some c → CondAt w b (o + i * 3) c) → ∀ j u, (cndCells l)[j]? = some u → w.cell? ⟨b, o + j, none⟩ = some u
  | [], _, _, j, u, h => by simp [cndCells] at h
  | c :: r, o, hat, j, u, h => by
    obtain ⟨c0, c1, c2, _⟩ := hat 0 c rfl
    simp only [Nat.zero_mul, Nat.add_zero] at c0 c1 c2
    rw [cndCells_cons] at h
    match j, h with
    | 0, h => simp at h; subst h; simpa using c0
    | 1, h => simp at h; subst h; exact c1
    | 2, h => simp at h; subst h; exact c2
    | j + 3, h =>
      have := cndCells_cell (b := b) (o := o) r (o + 3) (fun i c hc => by
        have := hat (i + 1) c (by simpa using hc)
        rw [show o + (i + 1) * 3 = o + 3 + i * 3 by omega] at this
        exact this) j u (by simpa using h)
      rw [show o + (j + 3) = o + 3 + j by omega]
      exact this
/-- And back: a row of the call's own that holds them. -/
theorem condsAt_own {L : Nat} {w : World} {v : Value} {l : List CondT} (h : w.ownsRow L 76 3 v l.length (cndCells l)) (hwf : ∀ c ∈ l, wf c.1 ∧ wf c.2.1 ∧ wf c.2.2) : CondsAt w.heap.size w v l := by
  obtain ⟨a, cap, rfl, h1, h2, h3⟩ := ownsRow_caps h
  refine ⟨a, cap, rfl, h1, h2, fun i c hc => ?_⟩
  have hi : i < l.length := (List.getElem?_eq_some_iff.1 hc).1
  obtain ⟨g, rfl, hg1, hg2⟩ := h3 (by omega)
  obtain ⟨e0, e1, e2⟩ := cndCells_get l i c hc
  refine ⟨g, 0, rfl, hg2, ?_, ?_, ?_, hwf c (List.mem_of_getElem? hc)⟩
  all_goals rw [Nat.zero_add]
  · exact ownsRow_cell h _ _ e0
  · exact ownsRow_cell h _ _ e1
  · exact ownsRow_cell h _ _ e2
theorem CondsAt.wfs {B : Nat} {w : World} {v : Value} {l : List CondT} (h : CondsAt B w v l) : ∀ c ∈ l, Go.Proofs.YtacjnooegahidabGreatDoor.wf c.1 ∧ Go.Proofs.YtacjnooegahidabGreatDoor.wf c.2.1 ∧ Go.Proofs.YtacjnooegahidabGreatDoor.wf c.2.2 := by
  intro c hc
  obtain ⟨i, hi⟩ := List.mem_iff_getElem?.1 hc
  obtain ⟨_, _, _, _, _, h4⟩ := h
  obtain ⟨_, _, _, _, k⟩ := h4 i c hi
  exact k.2.2.2

/-- A filter in memory behind a row of one's own. -/
theorem run_append_conds (B base : Nat) (ty : TypeId) (v sv : Value) (n : Nat) (xs : List Value) (rs : List CondT) (W : World) (hown : W.ownsRow base 76 3 v n xs) (hs : CondsAt B W sv rs) (hn : (n + rs.length) * 24 ≤ 140737488355328) (hbase : base ≤ W.heap.size) :
    ∃ v' W', (Builtin.append_ #[71, 71] ty #[v, sv]).run Tryz.prog W = .ok v' W' ∧ W'.ownsRow base 76 3 v' (n + rs.length) (xs ++ cndCells rs) ∧ Below base W W' := by
  obtain ⟨inf, hi1, hi2, hi3, hi4⟩ := infoCnd
  obtain ⟨a, cap, rfl, hlc, hcm, hrs⟩ := hs
  cases a with
  | none =>
    have h0 : rs = [] := by
      cases rs with
      | nil => rfl
      | cons r l => obtain ⟨b, o, e, _⟩ := hrs 0 r rfl; cases e
    subst h0
    refine ⟨v, W, ?_, by simpa [cndCells] using hown, Below.refl _ _⟩
    have hc : v = .slice none 0 0 ∨ ∃ g c, v = .slice (some g) n c ∧ n ≤ c := by
      rcases hown.2 with ⟨h, _⟩ | ⟨g, c, cur, h, _, _, h', _⟩
      · exact .inl h
      · exact .inr ⟨_, c, h, h'⟩
    have hf := run_firstCells_none (P := Tryz.prog) W inf.size 0 0 cap
    rcases hc with rfl | ⟨g, c, rfl, hle⟩
    · simp [Builtin.append_, run_underlying Tryz.underlying71, sizeOf, typeInfo, hi1, Builtin.lenOf, hf]
    · simp [Builtin.append_, run_underlying Tryz.underlying71, sizeOf, typeInfo, hi1, Builtin.lenOf, hf, hle, storeCells]
  | some ad =>
    have hcell : ∀ j u, (cndCells rs)[j]? = some u → W.cell? (ad.add j) = some u := by
      cases rs with
      | nil => intro j u hj; simp [cndCells] at hj
      | cons r l =>
        obtain ⟨b, o, e, _, _⟩ := hrs 0 r rfl
        cases e
        intro j u hj
        rw [add_at]
        refine cndCells_cell (o := o) (r :: l) o (fun i c hc => ?_) j u hj
        obtain ⟨b', o', e, _, k⟩ := hrs i c hc
        cases e
        exact k
    obtain ⟨v', W', h1, h2, h3, h4⟩ := run_append_own (P := Tryz.prog) W base 71 ty 76 inf _ 3 24 Tryz.underlying71 hi1 hi2 hi3 hi4 rfl (by decide) v n xs hown ad rs.length cap (cndCells rs) (cndCells_length rs) hcell (cndCells_one rs) (by rw [maxLen_eq]; omega) hn hbase
    refine ⟨v', W', h1, h2, (Below.refl _ _).grown h3 hbase fun k hk => ?_⟩
    rcases hown.2 with ⟨h, _⟩ | ⟨g, c, cur, h, hg, _⟩
    · rw [h] at hk; simp [Value.ownBlock] at hk
    · rw [h] at hk; simp [Value.ownBlock] at hk; omega

end Go.Proofs.YtacjnooegahidabGreatDoor
end
section
/- slices.Grow of nothing, slices.Concat of two lists of conditions. -/
set_option linter.all false
set_option maxRecDepth 100000
namespace Go.Proofs.YtacjnooegahidabGreatDoor
open Go.RowKit Go.Maps

set_option maxHeartbeats 4000000 in
theorem growC_nil (n : Nat) (w : World) (hn : n * 24 ≤ 140737488355328) :
    Calls Tryz.prog 84 #[.slice none 0 0, .int .i64 n] w fun e w' => ∃ v, e = .returned v ∧ w'.ownsRow w.heap.size 76 3 v 0 [] ∧ Below w.heap.size w w' := by
  have hml := maxLen_eq
  by_cases h0 : n = 0
  · subst h0
    go_enter Tryz.func84, Tryz.ntmps84
    go_wp2
    go_ret
    exact ⟨_, rfl, ⟨rfl, .inl ⟨rfl, rfl⟩⟩, Below.refl _ _⟩
  · obtain ⟨inf, hi1, hi2, hi3, hi4⟩ := infoCnd
    have h1 : ¬ ((n : Int) < 0) := by omega
    have h4 : (n : Int) > 0 := by omega
    obtain ⟨G, hG⟩ : ∃ G, G = grownCap w n 0 76 := ⟨_, rfl⟩
    have hGn : n ≤ G := by rw [hG]; exact grownCap_ge w _ _ _
    have hG63 : G ≤ maxLen := by rw [hG]; exact grownCap_le_maxLen w n 0 _ (by omega)
    obtain ⟨z, hz⟩ : ∃ z : Value, z = .agg #[.int .i64 0, .int .i64 0, .int .i64 0] := ⟨_, rfl⟩
    have hzs : z.cells.size = 3 := by rw [hz]; rfl
    rw [← hz] at hi2
    have hrz : ∀ ty, (Builtin.append_ #[71, 3] ty #[.slice none 0 0, .int .i64 n]).run Tryz.prog w =
        .ok (.slice (some ⟨w.heap.size, 0, none⟩) n G) (w.drew.alloc (.cells ((Builtin.zeroCells z.cells n) ++ Builtin.zeroCells z.cells (G - n)) 76)) := fun ty => by
      have h := Lib.run_append_grow_zeros w 71 3 ty 76 inf z .i64 .i64 Tryz.underlying71 Tryz.underlying3 hi1 hi2 none 0 0 [] (run_firstCells_none w.drew inf.size 0 0 0) n (by omega) (by omega) (by omega) (by omega)
        (by rw [hi4]; omega)
        (by rw [Nat.zero_add]; exact growslice_fits (by omega) (by rw [hi4]; omega))
      simpa [← hG] using h
    have hown : Hid ((w.drew.alloc (.cells ((Builtin.zeroCells z.cells n) ++ Builtin.zeroCells z.cells (G - n)) 76)).ownsRow w.heap.size 76 3 (.slice (some ⟨w.heap.size, 0, none⟩) 0 G) 0 []) := by
      refine ⟨rfl, .inr ⟨w.heap.size, G, _, rfl, Nat.le_refl _, (MapKept.heap_alloc w.drew _).1, Nat.zero_le _, hG63, ?_, by simp⟩⟩
      rw [Array.size_append, size_zeroCells, size_zeroCells, hzs, ← Nat.add_mul]
      congr 1
      omega
    have hbel : Hid (Below w.heap.size w (w.drew.alloc (.cells ((Builtin.zeroCells z.cells n) ++ Builtin.zeroCells z.cells (G - n)) 76))) := (Below.refl _ _).drew.alloc (Nat.le_refl _) _
    clear hG hz
    rw [hml] at hG63
    generalize (Builtin.zeroCells z.cells n) ++ Builtin.zeroCells z.cells (G - n) = zs at *
    go_enter Tryz.func84, Tryz.ntmps84
    go_wp2_with (at_builtin; refine Lib.wpList_append_run _ rfl _ _ _ _ rfl _ _ rfl rfl _ _ (hrz _) ?_)
    go_ret
    exact ⟨_, rfl, hown.out, hbel.out⟩

set_option maxHeartbeats 4000000 in
theorem concatC_any (B : Nat) (v0 v1 : Value) (r0 r1 : List CondT) (bs : Nat) (w : World) (h0 : CondsAt B w v0 r0) (h1 : CondsAt B w v1 r1) (hB : B ≤ w.heap.size) (hbs : bs < w.heap.size) (hc0 : w.cell? ⟨bs, 0, none⟩ = some v0) (hc1 : w.cell? ⟨bs, 1, none⟩ = some v1) (hn : (r0.length + r1.length) * 24 ≤ 140737488355328) :
    Calls Tryz.prog 64 #[.slice (some ⟨bs, 0, none⟩) 2 2] w fun e w' => ∃ v, e = .returned v ∧ w'.ownsRow w.heap.size 76 3 v (r0 ++ r1).length (cndCells (r0 ++ r1)) ∧ Below w.heap.size w w' := by
  have H0 : Hid (CondsAt B w v0 r0) := h0
  have H1 : Hid (CondsAt B w v1 r1) := h1
  obtain ⟨a0, cap0, e0, hle0, _⟩ := h0.full
  obtain ⟨a1, cap1, e1, hle1, _⟩ := h1.full
  have E0 : Hid (v0 = _) := e0
  have E1 : Hid (v1 = _) := e1
  rw [e0] at hc0
  rw [e1] at hc1
  have HC : Hid (∀ w', Below w.heap.size w w' → w'.cell? ⟨bs, 0, none⟩ = some (.slice a0 r0.length cap0) ∧ w'.cell? ⟨bs, 1, none⟩ = some (.slice a1 r1.length cap1)) := fun w' h => ⟨(h.cell (p := ⟨bs, 0, none⟩) hbs).trans hc0, (h.cell (p := ⟨bs, 1, none⟩) hbs).trans hc1⟩
  clear e0 e1 h0 h1
  generalize hn0 : r0.length = n0 at *
  generalize hn1 : r1.length = n1 at *
  have hN0 : Hid (r0.length = n0) := hn0
  have hN1 : Hid (r1.length = n1) := hn1
  clear hn0 hn1
  go_enter Tryz.func64, Tryz.ntmps64
  go_wp2
  go_loop [3, 11] (fun sz i => ∃ k : Nat, k ≤ 2 ∧ i = .int .i64 k ∧ sz = .int .i64 (if k = 0 then 0 else if k = 1 then (n0 : Int) else ((n0 : Int) + n1))) (fun _ i => 2 - (intOf i).toNat)
  case atStart => exact ⟨0, by omega, rfl, rfl⟩
  case round =>
    obtain ⟨k, hk, rfl, rfl⟩ := hrel
    have hk' : k = 0 ∨ k = 1 ∨ k = 2 := by omega
    rcases hk' with rfl | rfl | rfl
    · go_wp2
      exact ⟨⟨1, by omega, rfl, by simp⟩, by simp [intOf]⟩
    · have hneg : ¬ ((n0 : Int) + (n1 : Int) < 0) := by omega
      have hwr : wrap64 ((n0 : Int) + (n1 : Int)) = (n0 : Int) + n1 := by unfold wrap64; omega
      go_wp2
      exact ⟨⟨2, by omega, rfl, by simp⟩, by simp [intOf]⟩
    · have hG : Hid (∀ w', Calls Tryz.prog 84 #[.slice none 0 0, .int .i64 ((n0 : Int) + n1)] w' fun e w'' => ∃ v, e = .returned v ∧ w''.ownsRow w'.heap.size 76 3 v 0 [] ∧ Below w'.heap.size w' w'') := fun w' => by
        have := growC_nil (n0 + n1) w' hn
        rw [show ((n0 + n1 : Nat) : Int) = (n0 : Int) + n1 by omega] at this
        exact this
      go_wp2_with fail
      go_at_call 84
      refine Calls.mono (hG.out _) ?_
      rintro e w1 ⟨v, rfl, hown1, hb1⟩
      have HO : Hid (w1.ownsRow w.heap.size 76 3 v 0 []) := hown1
      clear hown1
      go_wp2_with fail
      go_loopw [6, 27] (fun nv i wr => ∃ (k : Nat), k ≤ 2 ∧ i = .int .i64 k ∧ Hid (wr.ownsRow w.heap.size 76 3 nv (([r0, r1].take k).flatten).length (cndCells ([r0, r1].take k).flatten)) ∧ Below w.heap.size w wr) (fun _ i _ => 2 - (intOf i).toNat)
      case atStart => exact ⟨0, by omega, rfl, HO, hb1⟩
      case round =>
        obtain ⟨k, hk, rfl, HOr, hbr⟩ := hrel
        obtain ⟨c0, c1⟩ := HC.out _ hbr
        have hk' : k = 0 ∨ k = 1 ∨ k = 2 := by omega
        rcases hk' with rfl | rfl | rfl
        · obtain ⟨v', W', hrun, hown', hbel⟩ := run_append_conds B w.heap.size 71 _ _ 0 [] r0 wr HOr.out (H0.out.later hbr hB) (by rw [hN0.out]; omega) hbr.size
          rw [E0.out] at hrun
          have HO' : Hid (W'.ownsRow w.heap.size 76 3 v' (([r0, r1].take 1).flatten).length (cndCells ([r0, r1].take 1).flatten)) := by
            unfold Hid
            have e : ([r0, r1].take 1).flatten = r0 := by simp
            rw [e]
            simpa using hown'
          have hb' : Below w.heap.size w W' := hbr.trans hbel
          clear hown' hbel HOr
          go_wp2_with (at_builtin; refine Lib.wpList_append_run _ rfl _ _ _ _ rfl _ _ rfl rfl _ _ hrun ?_)
          exact ⟨⟨1, by omega, rfl, HO', hb'⟩, by simp [intOf]⟩
        · obtain ⟨v', W', hrun, hown', hbel⟩ := run_append_conds B w.heap.size 71 _ _ r0.length (cndCells r0) r1 wr (by have := HOr.out; simpa using this) (H1.out.later hbr hB) (by rw [hN0.out, hN1.out]; omega) hbr.size
          rw [E1.out] at hrun
          have HO' : Hid (W'.ownsRow w.heap.size 76 3 v' (([r0, r1].take 2).flatten).length (cndCells ([r0, r1].take 2).flatten)) := by
            unfold Hid
            have e : ([r0, r1].take 2).flatten = r0 ++ r1 := by simp
            rw [e, cndCells_append, List.length_append]
            exact hown'
          have hb' : Below w.heap.size w W' := hbr.trans hbel
          clear hown' hbel HOr
          go_wp2_with (at_builtin; refine Lib.wpList_append_run _ rfl _ _ _ _ rfl _ _ rfl rfl _ _ hrun ?_)
          exact ⟨⟨2, by omega, rfl, HO', hb'⟩, by simp [intOf]⟩
        · have h1 := HOr.out
          have e : ([r0, r1].take 2).flatten = r0 ++ r1 := by simp
          rw [e] at h1
          have h1' : Hid _ := h1
          clear HOr h1 e
          go_wp2
          go_ret
          exact ⟨_, rfl, h1'.out, hbr⟩
end Go.Proofs.YtacjnooegahidabGreatDoor
end
section
/- What a judgement says of a policy whose end is another one, and of one with a rule left out. -/
set_option linter.all false
namespace Go.Proofs.YtacjnooegahidabGreatDoor

theorem firstAt_eq {α : Type} (f : α → Bool) : ∀ (l : List α) (k0 j : Nat) (c : α), l[j]? = some c → f c = true → (∀ i, i < j → ∀ c, l[i]? = some c → f c = false) → firstAt f k0 l = ((k0 + j : Nat) : Int)
  | [], _, _, _, h, _, _ => by simp at h
  | d :: r, k0, 0, c, h, hf, _ => by
    simp at h
    subst h
    simp [firstAt, hf]
  | d :: r, k0, j + 1, c, h, hf, hn => by
    have h0 := hn 0 (by omega) d rfl
    have ih := firstAt_eq f r (k0 + 1) j c (by simpa using h) hf (fun i hi c hc => hn (i + 1) (by omega) c (by simpa using hc))
    unfold firstAt
    rw [if_neg (by simp [h0]), ih]
    congr 1
    omega
theorem firstAt_no {α : Type} (f : α → Bool) : ∀ (l : List α) (k0 : Nat), (∀ c ∈ l, f c = false) → firstAt f k0 l = -1
  | [], _, _ => rfl
  | d :: r, k0, h => by
    unfold firstAt
    rw [if_neg (by simp [h d (by simp)])]
    exact firstAt_no f r (k0 + 1) fun c hc => h c (by simp [hc])
theorem firstAt_inv {α : Type} (f : α → Bool) : ∀ (l : List α) (k0 : Nat), (firstAt f k0 l = -1 ∧ ∀ c ∈ l, f c = false) ∨ ∃ j c, firstAt f k0 l = ((k0 + j : Nat) : Int) ∧ l[j]? = some c ∧ f c = true ∧ ∀ i, i < j → ∀ c, l[i]? = some c → f c = false
  | [], _ => .inl ⟨rfl, fun c hc => by cases hc⟩
  | d :: r, k0 => by
    by_cases hd : f d = true
    · exact .inr ⟨0, d, by simp [firstAt, hd], rfl, hd, fun i hi => by omega⟩
    · have hd' : f d = false := by simpa using hd
      have e : firstAt f k0 (d :: r) = firstAt f (k0 + 1) r := by
        show (if f d then (k0 : Int) else _) = _
        rw [if_neg hd]
      rcases firstAt_inv f r (k0 + 1) with ⟨h1, h2⟩ | ⟨j, c, h1, h2, h3, h4⟩
      · refine .inl ⟨e.trans h1, fun c hc => ?_⟩
        rcases List.mem_cons.1 hc with rfl | hc
        · exact hd'
        · exact h2 c hc
      · refine .inr ⟨j + 1, c, ?_, by simpa using h2, h3, fun i hi c hc => ?_⟩
        · rw [e, h1]; congr 1; omega
        · cases i with
          | zero => simp at hc; subst hc; exact hd'
          | succ i => exact h4 i (by omega) c (by simpa using hc)

theorem rulesErr_of {rs : List RuleT} (h : ∀ r ∈ rs, ruleErr r = 0) : rulesErr rs = 0 := by
  induction rs with
  | nil => rfl
  | cons r s ih =>
    unfold rulesErr
    rw [if_pos (h r (by simp))]
    exact ih fun r hr => h r (by simp [hr])
theorem polErr_of {p : PolT} (h1 : p.1.length ≤ 120) (h2 : verdictOk p.2 = true) (h3 : ∀ r ∈ p.1, ruleErr r = 0) : polErr p = 0 := by
  unfold polErr
  rw [if_neg (by omega), if_pos h2]
  exact rulesErr_of h3

theorem judgeP_ok {p : PolT} {x : Nat → Int} (hp : polErr p = 0) (hx : chkx x = 0) : judgeP p x = ((verdictAt p (firstAt (ruleOk x) 0 p.1)).1, (verdictAt p (firstAt (ruleOk x) 0 p.1)).2, 0) := by
  unfold judgeP
  rw [if_pos hp, if_pos hx]
theorem judgeP_bad {p : PolT} {x : Nat → Int} (hx : chkx x = 0) (hp : polErr p ≠ 0) : judgeP p x = (0, 0, polErr p) := by
  unfold judgeP
  rw [if_neg hp]

/-- All that the law wants of a judgement. -/
theorem judge_facts (p : PolT) (x : Nat → Int) (hp : polErr p = 0) (hx : chkx x = 0) : ∃ (v : Int) (k : Nat), judgeP p x = (v, (k : Int), 0) ∧ k ≤ p.1.length ∧
    (k < p.1.length → ∀ more, polErr (p.1.take (k + 1) ++ more, p.2) = 0 → judgeP (p.1.take (k + 1) ++ more, p.2) x = (v, (k : Int), 0)) ∧
    (∀ i, i < k → judgeP (p.1.eraseIdx i, p.2) x = (v, (k : Int) - 1, 0)) := by
  obtain ⟨hl, hv, hr⟩ := polErr_ok hp
  have hall := rulesErr_all hr
  have hout : ∀ i, polErr (p.1.eraseIdx i, p.2) = 0 := fun i => polErr_of (Nat.le_trans (List.length_eraseIdx_le _ _) hl) hv fun r h => hall r (List.mem_of_mem_eraseIdx h)
  rw [judgeP_ok hp hx]
  rcases firstAt_inv (ruleOk x) p.1 0 with ⟨h1, h2⟩ | ⟨j, c, h1, h2, h3, h4⟩
  · refine ⟨p.2, p.1.length, by rw [h1]; rfl, Nat.le_refl _, fun h => absurd h (Nat.lt_irrefl _), fun i hi => ?_⟩
    rw [judgeP_ok (hout i) hx]
    have e := firstAt_no (ruleOk x) (p.1.eraseIdx i) 0 fun c hc => h2 c (List.mem_of_mem_eraseIdx hc)
    simp only [e, verdictAt]
    have : ((p.1.eraseIdx i).length : Int) = (p.1.length : Int) - 1 := by rw [List.length_eraseIdx_of_lt hi]; omega
    simp [this]
  · rw [Nat.zero_add] at h1
    have hj : j < p.1.length := (List.getElem?_eq_some_iff.1 h2).1
    have hget : ∀ (l : List RuleT) (m : Nat), l[m]? = some c → verdictAt (l, p.2) (m : Int) = (c.2, (m : Int)) := fun l m h => by
      unfold verdictAt
      rw [if_neg (by omega)]
      simp [h]
    have hgp : verdictAt p (j : Int) = (c.2, (j : Int)) := hget p.1 j h2
    refine ⟨c.2, j, by rw [h1, hgp], by omega, fun _ more hq => ?_, fun i hi => ?_⟩
    · rw [judgeP_ok hq hx]
      have hin : ∀ m, m ≤ j → (p.1.take (j + 1) ++ more)[m]? = p.1[m]? := fun m hm => by
        rw [List.getElem?_append_left (by simp; omega), List.getElem?_take_of_lt (by omega)]
      have e := firstAt_eq (ruleOk x) (p.1.take (j + 1) ++ more) 0 j c ((hin j (Nat.le_refl _)).trans h2) h3 fun i hi c hc => h4 i hi c (by rw [← hin i (by omega)]; exact hc)
      rw [Nat.zero_add] at e
      simp only [e]
      rw [hget _ j ((hin j (Nat.le_refl _)).trans h2)]
    · rw [judgeP_ok (hout i) hx]
      have h2' : (p.1.eraseIdx i)[j - 1]? = some c := by
        rw [List.getElem?_eraseIdx_of_ge (by omega), show j - 1 + 1 = j by omega]; exact h2
      have e := firstAt_eq (ruleOk x) (p.1.eraseIdx i) 0 (j - 1) c h2' h3 fun m hm c hc => by
        by_cases hmi : m < i
        · rw [List.getElem?_eraseIdx_of_lt hmi] at hc; exact h4 m (by omega) c hc
        · rw [List.getElem?_eraseIdx_of_ge (by omega)] at hc; exact h4 (m + 1) (by omega) c hc
      rw [Nat.zero_add] at e
      simp only [e]
      rw [hget _ _ h2', show ((j - 1 : Nat) : Int) = (j : Int) - 1 by omega]
end Go.Proofs.YtacjnooegahidabGreatDoor
end
