/- Joined: ChD2 Chn4. -/
import Derived.Test.YtbjpdmfedphacabGreatDoorCj25
import Derived.Test.YtbjpdmfedphacabGreatDoorCj31
import Derived.Test.YtbjpdmfedphacabGreatDoorCj23
import Derived.Test.YtbjpdmfedphacabGreatDoorCj30
section
/- Package chain: Copy. -/
set_option linter.all false
set_option maxRecDepth 100000
namespace Go.Proofs.YtbjpdmfedphacabGreatDoor
open Go.RowKit Go.Maps

theorem make_filsC (n : Nat) (hn : n ≤ 4294967281) (w : World) : (Instr.makeSlice 54 (.int .i64 n) (.int .i64 n)).run Tryz.prog w = .ok (.slice (some ⟨w.heap.size, 0, none⟩) n n) (w.alloc (.cells (madeCells #[.slice none 0 0] n) 63)) := by
  obtain ⟨inf, hi1, hi2, hi3, hi4⟩ := infoFil
  have := run_make (P := Tryz.prog) w 54 63 inf _ Tryz.underlying54 hi1 hi2 .i64 .i64 n n (by omega) (Int.le_refl _) (by rw [hi4]; omega) (by omega)
  rw [hi3] at this
  simpa [Value.cells] using this
theorem make_inssC (n : Nat) (hn : n ≤ 4294967281) (w : World) : (Instr.makeSlice 63 (.int .i64 n) (.int .i64 n)).run Tryz.prog w = .ok (.slice (some ⟨w.heap.size, 0, none⟩) n n) (w.alloc (.cells (madeCells #[.int .i64 0, .int .i64 0, .int .i64 0, .int .i64 0] (n * 4)) 120)) := by
  obtain ⟨inf, hi1, hi2, hi3, hi4⟩ := infoIns
  have := run_make (P := Tryz.prog) w 63 120 inf _ Tryz.underlying63 hi1 hi2 .i64 .i64 n n (by omega) (Int.le_refl _) (by rw [hi4]; omega) (by omega)
  rw [hi3] at this
  simpa [Value.cells] using this
/-- copy() of instructions into a list of as many. -/
theorem run_copy_inss (B g : Nat) (sv : Value) (cs : List InsT) (cur : Array Value) (w : World) (h : InssAt B w sv cs) (hg : w.heap[g]? = some (.cells cur 120 (0, 0))) (hc : cur.size = cs.length * 4) :
    ∃ w', (∀ ty, (Builtin.copy_ #[63, 63] ty #[.slice (some ⟨g, 0, none⟩) cs.length cs.length, sv]).run Tryz.prog w = .ok (.int .i64 cs.length) w') ∧ w'.heap[g]? = some (.cells (insCells cs).toArray 120 (0, 0)) ∧ Below g w w' ∧ ∀ b, b ≠ g → w'.heap[b]? = w.heap[b]? := by
  obtain ⟨inf, hi1, hi2, hi3, hi4⟩ := infoIns
  obtain ⟨a, cap, rfl, hlc, hcm, hrs⟩ := h
  have hmin : Nat.min cs.length cs.length = cs.length := Nat.min_self _
  cases a with
  | none =>
    have h0 : cs = [] := by
      cases cs with
      | nil => rfl
      | cons r l => obtain ⟨b, o, e, _⟩ := hrs 0 r rfl; cases e
    subst h0
    have hcu : cur = #[] := Array.eq_empty_of_size_eq_zero (by simpa using hc)
    refine ⟨w, fun ty => ?_, by rw [hg, hcu]; rfl, Below.refl _ _, fun _ _ => rfl⟩
    simp [Builtin.copy_, run_underlying Tryz.underlying63, Builtin.lenOf, sizeOf, typeInfo, hi1, Builtin.firstCells, storeCells, goInt]
  | some ad =>
    have hcell : ∀ j u, (insCells cs)[j]? = some u → w.cell? (ad.add j) = some u := by
      cases cs with
      | nil => intro j u hj; simp [insCells] at hj
      | cons r l =>
        obtain ⟨b, o, e, _, _⟩ := hrs 0 r rfl
        cases e
        intro j u hj
        rw [add_at]
        refine insCells_cell (o := o) (r :: l) o (fun i c hc => ?_) j u hj
        obtain ⟨b', o', e, _, k⟩ := hrs i c hc
        cases e
        exact k
    have hl := run_loadCells_list (P := Tryz.prog) w ad (insCells cs) hcell
    rw [insCells_length] at hl
    have hst := run_storeCells_at Tryz.prog g 0 120 (insCells cs) 0 cur w hg (by rw [insCells_length, hc]; omega) (insCells_one cs)
    have hrow : (cur.toList.take (0 + 0) ++ insCells cs ++ cur.toList.drop (0 + 0 + (insCells cs).length)).toArray = (insCells cs).toArray := by
      rw [insCells_length, List.drop_of_length_le (by simp [hc])]
      simp
    rw [hrow] at hst
    refine ⟨w.setRow g (insCells cs).toArray, fun ty => ?_, setRow_heap w g _ _ _ _ hg, ⟨rfl, rfl, rfl, by simp [World.setRow], fun k hk => setRow_other w g k _ (by omega)⟩, fun b hb => setRow_other w g b _ hb⟩
    simp [Builtin.copy_, run_underlying Tryz.underlying63, Builtin.lenOf, Builtin.firstCells, sizeOf, typeInfo, hi1, hi3, hmin, hl, hst, goInt]

/-- Values, each a filter in a row of its own, from block L on. -/
def FvsN (L : Nat) (w : World) (xs : List Value) (ls : ChT) : Prop := xs.length = ls.length ∧ ∀ (i : Nat) x f, xs[i]? = some x → ls[i]? = some f → w.ownsRow L 120 4 x f.length (insCells f) ∧ ∀ c ∈ f, insWf c
theorem FvsN.keep {L : Nat} {w w' : World} {xs : List Value} {ls : ChT} (h : FvsN L w xs ls) (hk : KeepT 120 w w') : FvsN L w' xs ls := ⟨h.1, fun i x f hx hf => ⟨ownsRow_keepT (h.2 i x f hx hf).1 hk, (h.2 i x f hx hf).2⟩⟩
theorem FvsN.base {L L' : Nat} {w : World} {xs : List Value} {ls : ChT} (h : FvsN L w xs ls) (hL : L' ≤ L) : FvsN L' w xs ls := ⟨h.1, fun i x f hx hf => ⟨ownsRow_base (h.2 i x f hx hf).1 hL, (h.2 i x f hx hf).2⟩⟩
theorem FvsN.nil (L : Nat) (w : World) : FvsN L w [] [] := ⟨rfl, fun i x f hx => by simp at hx⟩
theorem FvsN.snoc {L : Nat} {w : World} {xs : List Value} {ls : ChT} {x : Value} {f : List InsT} (h : FvsN L w xs ls) (ho : w.ownsRow L 120 4 x f.length (insCells f)) (hw : ∀ c ∈ f, insWf c) : FvsN L w (xs ++ [x]) (ls ++ [f]) := by
  refine ⟨by simp [h.1], fun i y g hy hg => ?_⟩
  by_cases hi : i < xs.length
  · rw [List.getElem?_append_left hi] at hy
    rw [List.getElem?_append_left (by rw [← h.1]; exact hi)] at hg
    exact h.2 i y g hy hg
  · rw [List.getElem?_append_right (by omega)] at hy
    rw [List.getElem?_append_right (by rw [← h.1]; omega), ← h.1] at hg
    match hk : i - xs.length, hy, hg with
    | 0, hy, hg =>
      simp at hy hg
      subst hy hg
      exact ⟨ho, hw⟩
    | k + 1, hy, _ => simp at hy
theorem FvsN.at {L : Nat} {w : World} {xs : List Value} {ls : ChT} (h : FvsN L w xs ls) : FvsAt w.heap.size w xs ls := ⟨h.1, fun i x f hx hf => inssAt_own (h.2 i x f hx hf).1 (h.2 i x f hx hf).2⟩

/-- What stands while Copy goes on: the filters copied so far, and room for the rest. -/
def CcAt (L G n : Nat) (ls : ChT) (w : World) : Prop :=
  ∃ xs rest, w.heap[G]? = some (.cells (xs ++ rest).toArray 63 (0, 0)) ∧ xs.length + rest.length = n ∧ FvsN L w xs ls
theorem CcAt.cell {L G n : Nat} {ls : ChT} {w : World} (h : CcAt L G n ls w) (j : Nat) (hj : j < n) : ∃ u, w.cell? ⟨G, j, none⟩ = some u ∧ w.frozen? ⟨G, j, none⟩ = false := by
  obtain ⟨xs, rest, h1, h2, h3⟩ := h
  exact ⟨(xs ++ rest)[j]'(by simp; omega), heap_cell h1 j (by simp), by simp [World.frozen?, h1]⟩
theorem CcAt.later {L G n : Nat} {ls : ChT} {w w' : World} (h : CcAt L G n ls w) (hb : Below w.heap.size w w') : CcAt L G n ls w' := by
  obtain ⟨xs, rest, h1, h2, h3⟩ := h
  exact ⟨xs, rest, (hb.block G (lt_of_block h1)).trans h1, h2, h3.keep (KeepT.of_below hb)⟩
theorem CcAt.put {L G n : Nat} {ls : ChT} {w : World} {cv : Value} {f : List InsT} (h : CcAt L G n ls w) (hn : ls.length < n) (hw : ∀ c ∈ f, insWf c) (ho : w.ownsRow L 120 4 cv f.length (insCells f)) :
    CcAt L G n (ls ++ [f]) (w.setCell ⟨G, ls.length, none⟩ cv) := by
  obtain ⟨xs, rest, h1, h2, h3⟩ := h
  have hxl := h3.1
  obtain ⟨u0, rest', rfl⟩ : ∃ u0 rest', rest = u0 :: rest' := by
    match rest, h2 with
    | [], h2 => simp at h2; omega
    | u0 :: rest', _ => exact ⟨u0, rest', rfl⟩
  have e1 := row_setCell (o := ls.length) (u := cv) h1
  have hk1 : KeepT 120 w (w.setCell ⟨G, ls.length, none⟩ cv) := KeepT.setOther h1 (by decide)
  refine ⟨xs ++ [cv], rest', ?_, by simp at h2 ⊢; omega, (h3.keep hk1).snoc (ownsRow_keepT ho hk1) hw⟩
  rw [e1]
  congr 2
  rw [← hxl]
  apply Array.ext'
  simp [List.set_append]
theorem CcAt.done {L G n : Nat} {ls : ChT} {w : World} (h : CcAt L G n ls w) (hn : ls.length = n) (hL : L ≤ G) (hm : n ≤ maxLen) : ∃ xs, w.ownsRow L 63 1 (.slice (some ⟨G, 0, none⟩) n n) n xs ∧ FvsN L w xs ls := by
  obtain ⟨xs, rest, h1, h2, h3⟩ := h
  have hxl := h3.1
  refine ⟨xs, ⟨by omega, .inr ⟨G, n, _, rfl, hL, h1, Nat.le_refl _, hm, by simp; omega, ?_⟩⟩, h3⟩
  simp
  rw [List.take_left' (by omega)]

set_option maxHeartbeats 8000000 in
theorem copyCh_any (B : Nat) (lv : Value) (ls : ChT) (w : World) (hl : ChsAt B w lv ls) (hB : B ≤ w.heap.size) (hn : ls.length ≤ 1000) (h10 : ∀ f ∈ ls, f.length ≤ 100000) :
    Calls Tryz.prog 92 #[lv] w fun e w' => ∃ v, e = .returned v ∧ ∃ xs, w'.ownsRow w.heap.size 63 1 v ls.length xs ∧ FvsN w.heap.size w' xs ls ∧ Below w.heap.size w w' := by
  have HLS : Hid (∀ w', Below w.heap.size w w' → ChsAt B w' lv ls) := fun w' h => hl.later h hB
  have H10 : Hid (∀ f ∈ ls, f.length ≤ 100000) := h10
  obtain ⟨a, c, e3, -, -, -⟩ := hl
  subst e3
  clear h10
  obtain ⟨n, hn0⟩ : ∃ n, n = ls.length := ⟨_, rfl⟩
  have HN : Hid (ls.length = n) := hn0.symm
  rw [← hn0] at hn HLS ⊢
  clear hn0
  have hml := maxLen_eq
  have hmk0 := fun w => make_filsC n (by omega) w
  obtain ⟨mc, hmc⟩ : ∃ mc, mc = madeCells #[.slice none 0 0] n := ⟨_, rfl⟩
  rw [← hmc] at hmk0
  have hmk : ∀ w, (Instr.makeSlice 54 (.int .i64 n) (.int .i64 n)).run Tryz.prog w = .ok (.slice (some ⟨w.heap.size, 0, none⟩) n n) (w.alloc (.cells mc 63)) := hmk0
  have hmcs : mc.size = n := by rw [hmc, size_madeCells]
  clear hmk0 hmc
  obtain ⟨W3, hW3⟩ : ∃ W3, W3 = w.alloc (.cells mc 63) := ⟨_, rfl⟩
  have hs3 : W3.heap.size = w.heap.size + 1 := by rw [hW3]; simp
  have hb3 : Below w.heap.size w W3 := by rw [hW3]; exact (Below.refl _ _).alloc (Nat.le_refl _) _
  have g2 : W3.heap[w.heap.size]? = some (.cells mc 63 (0, 0)) := by
    rw [hW3]
    exact heap_at _ _ rfl
  have HC0 : Hid (CcAt w.heap.size w.heap.size n (ls.take 0) W3) := ⟨[], mc.toList, by simpa using g2, by simpa using hmcs, FvsN.nil _ _⟩
  have HBx : Hid (∀ v, Below w.heap.size W3 v → Below w.heap.size w v) := fun v h => hb3.trans h
  have HW : Hid (W3 = _) := hW3
  clear hW3 g2 hmcs
  go_enter Tryz.func92, Tryz.ntmps92
  go_wp2_with fail
  rw [← HW.out]
  clear hmk
  go_loopw [12] (fun iv wr => ∃ k : Nat, k ≤ n ∧ iv = .int .i64 k ∧ Hid (CcAt w.heap.size w.heap.size n (ls.take k) wr) ∧ Hid (Below w.heap.size W3 wr)) (fun iv _ => n - (intOf iv).toNat)
  case atStart => exact ⟨0, by omega, rfl, HC0, Below.refl _ _⟩
  case round =>
    obtain ⟨k, hk, rfl, HC, HBl⟩ := hrel
    obtain ⟨wo, hwo⟩ : ∃ x, x = wr := ⟨_, rfl⟩
    subst hwo
    have k0 : (0 : Int) ≤ (k : Int) := by omega
    have hbw := HBx.out _ HBl.out
    have hos : w.heap.size + 1 ≤ wo.heap.size := by have := HBl.out.size; omega
    by_cases hlt : k < n
    · have k1 : (k : Int) < (n : Int) := by omega
      obtain ⟨f, hrk⟩ : ∃ f, ls[k]? = some f := ⟨ls[k]'(by rw [HN.out]; omega), by simp⟩
      have HTk : Hid (ls.take (k + 1) = ls.take k ++ [f]) := by unfold Hid; rw [List.take_succ, hrk]; rfl
      have HTl : Hid ((ls.take k).length = k) := by unfold Hid; rw [List.length_take, HN.out]; omega
      have hr10 := H10.out f (List.mem_of_getElem? hrk)
      obtain ⟨_, _, e1, -, -, hat⟩ := HLS.out _ hbw
      obtain ⟨b3, o3, fv, e, hbB3, q0, hcs⟩ := hat k f hrk
      simp at e1
      obtain ⟨rfl, -, -⟩ := e1
      subst e
      clear hat hrk
      have HWr : Hid (∀ c ∈ f, insWf c) := hcs.wf
      obtain ⟨W5, hW5⟩ : ∃ W5, W5 = wo.alloc (.cells (madeCells #[.int .i64 0, .int .i64 0, .int .i64 0, .int .i64 0] (f.length * 4)) 120) := ⟨_, rfl⟩
      have hs5 : W5.heap.size = wo.heap.size + 1 := by rw [hW5]; simp
      have hb5 : Below wo.heap.size wo W5 := by rw [hW5]; exact (Below.refl _ _).alloc (Nat.le_refl _) _
      have c5 : W5.heap[wo.heap.size]? = some (.cells (madeCells #[.int .i64 0, .int .i64 0, .int .i64 0, .int .i64 0] (f.length * 4)) 120 (0, 0)) := by
        rw [hW5]
        exact heap_at _ _ rfl
      obtain ⟨W6, hrun, c6, hb6, hk6⟩ := run_copy_inss B wo.heap.size fv f _ W5 (hcs.later hb5 (by omega)) c5 (by rw [size_madeCells])
      have hs6 : W6.heap.size = wo.heap.size + 1 := by
        have h1 := hb6.size
        have h2 : W6.heap[wo.heap.size + 1]? = none := by
          rw [hk6 _ (by omega)]
          exact Array.getElem?_eq_none (by omega)
        have := Array.getElem?_eq_none_iff.1 h2
        omega
      have hb6w : Below wo.heap.size wo W6 := hb5.trans (hb6.mono (by omega))
      have HC6 : Hid (CcAt w.heap.size w.heap.size n (ls.take k) W6) := HC.out.later hb6w
      have HO6 : Hid (W6.ownsRow w.heap.size 120 4 (.slice (some ⟨wo.heap.size, 0, none⟩) f.length f.length) f.length (insCells f)) := ⟨by rw [insCells_length], .inr ⟨wo.heap.size, f.length, _, rfl, by omega, c6, Nat.le_refl _, by rw [maxLen_eq]; omega, by simp [insCells_length], by rw [List.take_of_length_le (by simp [insCells_length])]⟩⟩
      have HB6 : Hid (Below w.heap.size W3 W6) := Below.thenOf HBl.out hb6w (by omega)
      obtain ⟨a9, c9, ecv, -, -⟩ := hcs.shape
      subst ecv
      have hmk0 := fun w => make_inssC f.length (by omega) w
      obtain ⟨rl, hrl⟩ : ∃ rl, rl = f.length := ⟨_, rfl⟩
      have Hrl : Hid (f.length = rl) := hrl.symm
      obtain ⟨mk, hmk'⟩ : ∃ mk, mk = madeCells #[.int .i64 0, .int .i64 0, .int .i64 0, .int .i64 0] (f.length * 4) := ⟨_, rfl⟩
      rw [← hmk'] at hmk0 hW5
      rw [← hrl] at hmk0 hr10 q0 hrun HO6
      have hmk : ∀ w, (Instr.makeSlice 63 (.int .i64 rl) (.int .i64 rl)).run Tryz.prog w = .ok (.slice (some ⟨w.heap.size, 0, none⟩) rl rl) (w.alloc (.cells mk 120)) := hmk0
      have HW5 : Hid (W5 = _) := hW5
      obtain ⟨u0, v0, w0⟩ := HC6.out.cell k (by omega)
      have HNx : Hid (CcAt w.heap.size w.heap.size n (ls.take (k + 1)) (W6.setCell ⟨w.heap.size, k, none⟩ (.slice (some ⟨wo.heap.size, 0, none⟩) rl rl)) ∧ Below w.heap.size W3 (W6.setCell ⟨w.heap.size, k, none⟩ (.slice (some ⟨wo.heap.size, 0, none⟩) rl rl))) := by
        refine ⟨?_, HB6.out.setCell (p := ⟨w.heap.size, k, none⟩) (Nat.le_refl _) _⟩
        have := HC6.out.put (cv := .slice (some ⟨wo.heap.size, 0, none⟩) rl rl) (f := f) (by rw [HTl.out]; omega) HWr.out (by rw [Hrl.out]; exact HO6.out)
        rw [HTl.out] at this
        rw [HTk.out]
        exact this
      clear hs5 hb5 c5 c6 hb6 hk6 hb6w HC6 HO6 hW5 hmk' hmk0 hrl hcs HC HBl hbw hb3 HB6
      have HRun : Hid _ := hrun
      clear hrun
      go_wp2_with fail
      rw [← HW5.out, HRun.out]
      clear hmk
      go_wp2_with fail
      exact ⟨⟨k + 1, by omega, by go_num, HNx.out.1, HNx.out.2⟩, by simp [intOf]; omega⟩
    · have e : k = n := by omega
      subst e
      have HE : Hid (ls.take k = ls) := by unfold Hid; rw [← HN.out, List.take_length]
      rw [HE.out] at HC
      obtain ⟨xs, hox, hfx⟩ := HC.out.done HN.out (Nat.le_refl _) (by omega)
      have HF : Hid (wo.ownsRow w.heap.size 63 1 (.slice (some ⟨w.heap.size, 0, none⟩) k k) k xs ∧ FvsN w.heap.size wo xs ls) := ⟨hox, hfx⟩
      have k1 : ¬ ((k : Int) < (k : Int)) := by omega
      have HBw : Hid (Below w.heap.size w wo) := hbw
      clear hox hfx hbw HC HBl HC0 hb3
      go_wp2_with fail
      go_ret
      exact ⟨_, rfl, xs, HF.out.1, HF.out.2, HBw.out⟩
end Go.Proofs.YtbjpdmfedphacabGreatDoor
end
section
/- The counterpart's DeltaOf: the policy of what changes. -/
set_option linter.all false
set_option maxRecDepth 100000
namespace Go.Proofs.YtbjpdmfedphacabGreatDoor
open Go.RowKit Go.Maps

/-- A box of two cells that holds none of its rules can be written: conditions take three. -/
theorem PolAt.setBox {B k j : Nat} {w : World} {v u u0 u1 : Value} {p : PolT} {T : TypeId} {fr : Nat × Nat} (h : PolAt B w v p) (hk : w.heap[k]? = some (.cells #[u0, u1] T fr)) (hr : ∀ (b o n c : Nat) (d : Value), v = .agg #[.slice (some ⟨b, o, none⟩) n c, d] → b ≠ k) : PolAt B (w.setCell ⟨k, j, none⟩ u) v p := by
  obtain ⟨rs, d⟩ := p
  obtain ⟨rv, rfl, hd, a, cap, rfl, h1, h2, h3⟩ := h
  refine ⟨_, rfl, hd, a, cap, rfl, h1, h2, fun i r hi => ?_⟩
  obtain ⟨b, o, rfl, hb, cv, c0, c1, hw, hc⟩ := h3 i r hi
  have hbk : b ≠ k := hr b o _ _ _ rfl
  have keep : ∀ q, (w.setCell ⟨k, j, none⟩ u).cell? ⟨b, q, none⟩ = w.cell? ⟨b, q, none⟩ := fun q => by
    unfold World.cell?
    rw [Below.heap_setCell _ _ _ _ hbk]
  refine ⟨b, o, rfl, hb, cv, (keep _).trans c0, (keep _).trans c1, hw, ?_⟩
  obtain ⟨a', cap', e, g1, g2, g3⟩ := hc
  refine ⟨a', cap', e, g1, g2, fun i' c hi' => ?_⟩
  obtain ⟨b', o', e', hb', hat⟩ := g3 i' c hi'
  refine ⟨b', o', e', hb', ?_⟩
  by_cases hb2 : b' = k
  · exfalso
    subst hb2
    have := hat.2.2.1
    simp [World.cell?, hk] at this
  · have keep' : ∀ q, (w.setCell ⟨k, j, none⟩ u).cell? ⟨b', q, none⟩ = w.cell? ⟨b', q, none⟩ := fun q => by
      unfold World.cell?
      rw [Below.heap_setCell _ _ _ _ hb2]
    exact ⟨(keep' _).trans hat.1, (keep' _).trans hat.2.1, (keep' _).trans hat.2.2.1, hat.2.2.2⟩

set_option maxHeartbeats 8000000 in
theorem deltaOf_any (B : Nat) (pv qv : Value) (p q : PolT) (w : World) (hp : PolAt B w pv p) (hq : PolAt B w qv q) (hB : B ≤ w.heap.size) :
    Calls Tryz.prog 39 #[pv, qv] w fun e w' => ∃ v, e = .returned (.tuple #[v, .int .i64 (deltaE p q)]) ∧ PolAt w'.heap.size w' v (deltaR p q) ∧ Below w.heap.size w w' := by
  have HF : Hid (∀ w', Below w.heap.size w w' → Calls Tryz.prog 22 #[qv, pv] w' fun e w'' => e = .returned (.tuple #[.bool (looserP q p).isSome, .agg #[.int .i64 (looserC q p 0), .int .i64 (looserC q p 1), .int .i64 (looserC q p 2), .int .i64 (looserC q p 3), .int .i64 (looserC q p 4)], .int .i64 (pointsE [q, p])]) ∧ Below w'.heap.size w' w'') := fun w' h => firstLooser_any B qv pv q p w' (hq.later h hB) (hp.later h hB) (Nat.le_trans hB h.size)
  have HBo : Hid (∀ w', Below w.heap.size w w' → Calls Tryz.prog 30 #[qv, pv, .bool true] w' fun e w'' => ∃ v, e = .returned (.tuple #[v, .int .i64 (meetE true q p)]) ∧ PolAt w''.heap.size w'' v (meetR true q p) ∧ Below w'.heap.size w' w'') := fun w' h => both_any B qv pv q p true w' (hq.later h hB) (hp.later h hB) (Nat.le_trans hB h.size)
  have HDE : Hid (deltaE p q = if pointsE [q, p] = 0 then (if (looserP q p).isSome then 7 else if meetE true q p = 0 then pointsE [meetR true q p] else meetE true q p) else pointsE [q, p]) := rfl
  have HDR : Hid (deltaR p q = if deltaE p q = 0 then shortP (meetR true q p) else ([], 0)) := rfl
  obtain ⟨rs, d⟩ := p
  obtain ⟨ss, f⟩ := q
  obtain ⟨rv, rfl, -, a, cap, rfl, -⟩ := hp
  obtain ⟨sv, rfl, -, b, cap2, rfl, -⟩ := hq
  simp only at HF HBo
  generalize looserC (ss, f) (rs, d) = c1 at *
  generalize (looserP (ss, f) (rs, d)).isSome = lo at *
  generalize pointsE [(ss, f), (rs, d)] = pe at *
  generalize meetE true (ss, f) (rs, d) = me at *
  generalize meetR true (ss, f) (rs, d) = mr at *
  generalize deltaE (rs, d) (ss, f) = de at *
  generalize deltaR (rs, d) (ss, f) = dr at *
  generalize rs.length = n1 at *
  generalize ss.length = n2 at *
  clear hB
  obtain ⟨W3, hW3⟩ : ∃ W3, W3 = ((w.alloc (.cells #[.slice a n1 cap, .int .i64 d] 38)).alloc (.cells #[.slice b n2 cap2, .int .i64 f] 38)).alloc (.cells #[.slice none 0 0, .int .i64 0] 38) := ⟨_, rfl⟩
  have hs3 : W3.heap.size = w.heap.size + 1 + 1 + 1 := by rw [hW3]; simp
  have hb3 : Below w.heap.size w W3 := by rw [hW3]; exact (((Below.refl _ _).alloc (Nat.le_refl _) _).alloc (by simp) _).alloc (by simp; omega) _
  have g0 : W3.heap[w.heap.size]? = some (.cells #[.slice a n1 cap, .int .i64 d] 38 (0, 0)) := by
    rw [hW3]
    exact heap_kept' _ (heap_kept' _ (heap_at _ _ rfl))
  have g1 : W3.heap[w.heap.size + 1]? = some (.cells #[.slice b n2 cap2, .int .i64 f] 38 (0, 0)) := by
    rw [hW3]
    exact heap_kept' _ (heap_at _ _ (by simp only [World.size_alloc]))
  have g2 : W3.heap[w.heap.size + 1 + 1]? = some (.cells #[.slice none 0 0, .int .i64 0] 38 (0, 0)) := by
    rw [hW3]
    exact heap_at _ _ (by simp only [World.size_alloc])
  have HG : Hid (∀ w', Below W3.heap.size W3 w' → w'.heap[w.heap.size]? = some (.cells #[.slice a n1 cap, .int .i64 d] 38 (0, 0)) ∧ w'.heap[w.heap.size + 1]? = some (.cells #[.slice b n2 cap2, .int .i64 f] 38 (0, 0)) ∧ w'.heap[w.heap.size + 1 + 1]? = some (.cells #[.slice none 0 0, .int .i64 0] 38 (0, 0))) := fun w' h => ⟨(h.block _ (by omega)).trans g0, (h.block _ (by omega)).trans g1, (h.block _ (by omega)).trans g2⟩
  have HW : Hid (W3 = _) := hW3
  clear hW3 g0 g1 g2
  go_enter Tryz.func39, Tryz.ntmps39
  go_wp2_with fail
  rw [← HW.out]
  go_at_call 22
  refine Calls.mono (HF.out _ hb3) ?_
  rintro e w4 ⟨rfl, hb4⟩
  have hs4 := hb4.size
  have hb4w : Below w.heap.size w w4 := Below.thenOf hb3 hb4 hb3.size
  obtain ⟨g0, g1, g2⟩ := HG.out w4 hb4
  have l2 : w.heap.size + 1 + 1 < w4.heap.size := by omega
  have z0 := heap_cell g2 0 rfl
  have z1 := heap_cell g2 1 rfl
  have zf0 : w4.frozen? ⟨w.heap.size + 1 + 1, 0, none⟩ = false := by simp [World.frozen?, g2]
  have zf1 : w4.frozen? ⟨w.heap.size + 1 + 1, 1, none⟩ = false := by simp [World.frozen?, g2]
  have y0 := heap_cell g0 0 rfl
  have y1 := heap_cell g0 1 rfl
  have x0 := heap_cell g1 0 rfl
  have x1 := heap_cell g1 1 rfl
  have l0 : w.heap.size < w4.heap.size := by omega
  have l1 : w.heap.size + 1 < w4.heap.size := by omega
  have hb4a : ∀ X, Below w.heap.size w (w4.alloc X) := fun X => hb4w.alloc hb4w.size X
  have hb4W : ∀ X, Below W3.heap.size W3 (w4.alloc X) := fun X => hb4.alloc hs4 X
  have HB4 : Hid _ := hb4a
  have HB4w : Hid (Below w.heap.size w w4) := hb4w
  have HB4W : Hid _ := hb4W
  clear g0 g1 g2 HF hb4a hb4W hb4 hb4w hs4
  by_cases hz : pe = 0
  · subst hz
    cases lo with
    | true =>
      have HR : Hid (de = 7 ∧ dr = ([], 0)) := by
        have e : de = 7 := by rw [HDE.out]; rfl
        exact ⟨e, by rw [HDR.out, if_neg (by rw [e]; decide)]⟩
      clear HDE HDR HBo
      go_wp2_with fail
      refine bodyPost_ret (v := .tuple #[.agg #[.slice none 0 0, .int .i64 0], .int .i64 7]) ?_ rfl ⟨_, by rw [HR.out.1], by rw [HR.out.2]; exact zeroPol _ _, ?_⟩
      · rw [results_cell_tmp rfl]
        go_simp
      · repeat (first | exact HB4w.out | refine Below.setCell ?_ (by show w.heap.size ≤ w.heap.size + 1 + 1; omega) _ | refine Below.alloc ?_ (by simp; omega) _)
    | false =>
      have HDE' : Hid (de = if me = 0 then pointsE [mr] else me) := by unfold Hid; rw [HDE.out]; rfl
      clear HDE
      go_wp2_with fail
      go_at_call 30
      refine Calls.mono (HBo.out _ (HB4.out _)) ?_
      rintro e w5 ⟨dv, rfl, hpd, hb5⟩
      have hs5 := hb5.size
      rw [World.size_alloc] at hs5
      have hb5w : Below w.heap.size w w5 := Below.thenOf (HB4.out _) hb5 (HB4.out _).size
      obtain ⟨-, -, g2⟩ := HG.out w5 (Below.thenOf (HB4W.out _) hb5 (HB4W.out _).size)
      have hb5a : ∀ X, Below w5.heap.size w5 (w5.alloc X) := fun X => (Below.refl _ _).alloc (Nat.le_refl _) X
      have HSh : Hid (∀ X, Calls Tryz.prog 31 #[dv] (w5.alloc X) fun e w' => ∃ rv, e = .returned (.tuple #[rv, .int .i64 (pointsE [mr])]) ∧ PolAt w'.heap.size w' rv (shortR mr) ∧ RowFrom (w5.alloc X).heap.size rv ∧ Below (w5.alloc X).heap.size (w5.alloc X) w') := fun X => shorter_new w5.heap.size dv mr (w5.alloc X) (hpd.later (hb5a X) (Nat.le_refl _)) (hb5a X).size
      have HSR : Hid (shortR mr = if pointsE [mr] = 0 then shortP mr else ([], 0)) := rfl
      obtain ⟨ms, md⟩ := mr
      obtain ⟨rv, rfl, -, a5, c5, rfl, -⟩ := hpd
      simp only at HSh
      generalize ms.length = n5 at *
      generalize pointsE [(ms, md)] = pm at *
      generalize hsr : shortR (ms, md) = sr at *
      have hsrH : Hid (shortR (ms, md) = sr) := hsr
      clear hsr
      have z0 := heap_cell g2 0 rfl
      have z1 := heap_cell g2 1 rfl
      have zf0 : w5.frozen? ⟨w.heap.size + 1 + 1, 0, none⟩ = false := by simp [World.frozen?, g2]
      have zf1 : w5.frozen? ⟨w.heap.size + 1 + 1, 1, none⟩ = false := by simp [World.frozen?, g2]
      have l2 : w.heap.size + 1 + 1 < w5.heap.size := by omega
      have HB5 : Hid _ := hb5w
      have HG2 : Hid _ := g2
      clear HB4 HB4W hb5 hb5w g2 HBo
      by_cases hm : me = 0
      · subst hm
        have HR : Hid (de = pm ∧ dr = sr) := by
          have e : de = pm := by rw [HDE'.out]; rfl
          refine ⟨e, ?_⟩
          rw [HDR.out, e, HSR.out]
        clear HDE' HDR HSR
        go_wp2_with fail
        go_at_call 31
        refine Calls.mono (HSh.out _) ?_
        rintro e w6 ⟨sv, rfl, hps, hrow, hb6⟩
        have hs6 := hb6.size
        rw [World.size_alloc] at hs6 hrow
        have b6 : w6.heap[w.heap.size + 1 + 1]? = some (.cells #[.slice none 0 0, .int .i64 0] 38 (0, 0)) := (hb6.block _ (by simp; omega)).trans ((Below.heap_alloc _ _ _ (by omega)).trans HG2.out)
        have hb6w : Below w.heap.size w w6 := Below.thenOf (HB5.out.alloc HB5.out.size _) hb6 (by simp; omega)
        have q0 := heap_cell b6 0 rfl
        have q1 := heap_cell b6 1 rfl
        have qf0 : w6.frozen? ⟨w.heap.size + 1 + 1, 0, none⟩ = false := by simp [World.frozen?, b6]
        have qf1 : w6.frozen? ⟨w.heap.size + 1 + 1, 1, none⟩ = false := by simp [World.frozen?, b6]
        have HPs : Hid _ := hps
        obtain ⟨ts, td⟩ := sr
        obtain ⟨rv, e1, -, a6, c6, e2, -⟩ := hps
        subst e2 e1
        simp only at HPs hrow
        generalize ts.length = n6 at *
        have HRow : Hid (∀ (b o n c : Nat) (d : Value), Value.agg #[.slice a6 n6 c6, .int .i64 td] = .agg #[.slice (some ⟨b, o, none⟩) n c, d] → b ≠ w.heap.size + 1 + 1) := fun b o n c d h => by
          have := hrow b o n c d h
          omega
        have HB6 : Hid _ := hb6w
        have Hb6 : Hid _ := b6
        clear hrow hb6 hb6w b6 HSh z0 z1 zf0 zf1
        go_wp2_with fail
        refine bodyPost_ret (v := .tuple #[.agg #[.slice a6 n6 c6, .int .i64 td], .int .i64 pm]) ?_ rfl ⟨_, by rw [HR.out.1], ?_, ?_⟩
        · rw [results_cell_tmp rfl]
          go_simp
        · rw [HR.out.2]
          have h0 : PolAt w6.heap.size w6 (.agg #[.slice a6 n6 c6, .int .i64 td]) (ts, td) := HPs.out
          have h := (h0.setBox (j := 0) (u := .slice a6 n6 c6) Hb6.out HRow.out).setBox (j := 1) (u := .int .i64 td) (row_setCell Hb6.out) HRow.out
          simpa using h
        · exact (HB6.out.setCell (p := ⟨w.heap.size + 1 + 1, 0, none⟩) (by show w.heap.size ≤ w.heap.size + 1 + 1; omega) _).setCell (p := ⟨w.heap.size + 1 + 1, 1, none⟩) (by show w.heap.size ≤ w.heap.size + 1 + 1; omega) _
      · have HR : Hid (de = me ∧ dr = ([], 0)) := by
          have e : de = me := by rw [HDE'.out, if_neg hm]
          exact ⟨e, by rw [HDR.out, if_neg (by rw [e]; exact hm)]⟩
        have hq : (me != 0) = true := by simpa using hm
        clear HDE' HDR HSR hm HSh
        go_wp2_with fail
        refine bodyPost_ret (v := .tuple #[.agg #[.slice none 0 0, .int .i64 0], .int .i64 me]) ?_ rfl ⟨_, by rw [HR.out.1], by rw [HR.out.2]; exact zeroPol _ _, ?_⟩
        · rw [results_cell_tmp rfl]
          go_simp
        · repeat (first | exact HB5.out | refine Below.setCell ?_ (by show w.heap.size ≤ w.heap.size + 1 + 1; omega) _ | refine Below.alloc ?_ (by simp; omega) _)
  · have HR : Hid (de = pe ∧ dr = ([], 0)) := by
      have e : de = pe := by rw [HDE.out, if_neg hz]
      exact ⟨e, by rw [HDR.out, if_neg (by rw [e]; exact hz)]⟩
    have hq : (pe != 0) = true := by simpa using hz
    have hq2 : (pe == 0) = false := by simpa using hz
    clear HDE HDR HBo hz
    go_wp2_with fail
    refine bodyPost_ret (v := .tuple #[.agg #[.slice none 0 0, .int .i64 0], .int .i64 pe]) ?_ rfl ⟨_, by rw [HR.out.1], by rw [HR.out.2]; exact zeroPol _ _, ?_⟩
    · rw [results_cell_tmp rfl]
      go_simp
    · repeat (first | exact HB4w.out | refine Below.setCell ?_ (by show w.heap.size ≤ w.heap.size + 1 + 1; omega) _ | refine Below.alloc ?_ (by simp; omega) _)

end Go.Proofs.YtbjpdmfedphacabGreatDoor
end
