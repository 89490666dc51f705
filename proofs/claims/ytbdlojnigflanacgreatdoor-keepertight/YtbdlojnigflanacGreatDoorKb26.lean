/- Package chain: Copy. -/
import Derived.Test.YtbdlojnigflanacGreatDoorKb19
import Derived.Test.YtbdlojnigflanacGreatDoorKb25
set_option linter.all false
set_option maxRecDepth 100000
namespace Go.Proofs.YtbdlojnigflanacGreatDoor
open Go.RowKit Go.Maps

theorem make_filsC (n : Nat) (hn : n ≤ 4294967281) (w : World) : (Instr.makeSlice 75 (.int .i64 n) (.int .i64 n)).run Tryz.prog w = .ok (.slice (some ⟨w.heap.size, 0, none⟩) n n) (w.alloc (.cells (madeCells #[.slice none 0 0] n) 81)) := by
  obtain ⟨inf, hi1, hi2, hi3, hi4⟩ := infoFil
  have := run_make (P := Tryz.prog) w 75 81 inf _ Tryz.underlying75 hi1 hi2 .i64 .i64 n n (by omega) (Int.le_refl _) (by rw [hi4]; omega) (by omega)
  rw [hi3] at this
  simpa [Value.cells] using this
theorem make_inssC (n : Nat) (hn : n ≤ 4294967281) (w : World) : (Instr.makeSlice 81 (.int .i64 n) (.int .i64 n)).run Tryz.prog w = .ok (.slice (some ⟨w.heap.size, 0, none⟩) n n) (w.alloc (.cells (madeCells #[.int .i64 0, .int .i64 0, .int .i64 0, .int .i64 0] (n * 4)) 86)) := by
  obtain ⟨inf, hi1, hi2, hi3, hi4⟩ := infoIns
  have := run_make (P := Tryz.prog) w 81 86 inf _ Tryz.underlying81 hi1 hi2 .i64 .i64 n n (by omega) (Int.le_refl _) (by rw [hi4]; omega) (by omega)
  rw [hi3] at this
  simpa [Value.cells] using this
/-- copy() of instructions into a list of as many. -/
theorem run_copy_inss (B g : Nat) (sv : Value) (cs : List InsT) (cur : Array Value) (w : World) (h : InssAt B w sv cs) (hg : w.heap[g]? = some (.cells cur 86 (0, 0))) (hc : cur.size = cs.length * 4) :
    ∃ w', (∀ ty, (Builtin.copy_ #[81, 81] ty #[.slice (some ⟨g, 0, none⟩) cs.length cs.length, sv]).run Tryz.prog w = .ok (.int .i64 cs.length) w') ∧ w'.heap[g]? = some (.cells (insCells cs).toArray 86 (0, 0)) ∧ Below g w w' ∧ ∀ b, b ≠ g → w'.heap[b]? = w.heap[b]? := by
  obtain ⟨inf, hi1, hi2, hi3, hi4⟩ := infoIns
  obtain ⟨a, cap, rfl, hlc, hcm, hrs⟩ := h
  have hmin : Nat.min cs.length cs.length = cs.length := Nat.min_self _
  cases a with
  | none =>
    have h0 : cs = [] := by
      cases cs with
      | nil => rfl
      | cons r l => obtain ⟨b, o, e, _⟩ := hrs 0 r rfl; cases e
    subst h0
    have hcu : cur = #[] := Array.eq_empty_of_size_eq_zero (by simpa using hc)
    refine ⟨w, fun ty => ?_, by rw [hg, hcu]; rfl, Below.refl _ _, fun _ _ => rfl⟩
    simp [Builtin.copy_, run_underlying Tryz.underlying81, Builtin.lenOf, sizeOf, typeInfo, hi1, Builtin.firstCells, storeCells, goInt]
  | some ad =>
    have hcell : ∀ j u, (insCells cs)[j]? = some u → w.cell? (ad.add j) = some u := by
      cases cs with
      | nil => intro j u hj; simp [insCells] at hj
      | cons r l =>
        obtain ⟨b, o, e, _, _⟩ := hrs 0 r rfl
        cases e
        intro j u hj
        rw [add_at]
        refine insCells_cell (o := o) (r :: l) o (fun i c hc => ?_) j u hj
        obtain ⟨b', o', e, _, k⟩ := hrs i c hc
        cases e
        exact k
    have hl := run_loadCells_list (P := Tryz.prog) w ad (insCells cs) hcell
    rw [insCells_length] at hl
    have hst := run_storeCells_at Tryz.prog g 0 86 (insCells cs) 0 cur w hg (by rw [insCells_length, hc]; omega) (insCells_one cs)
    have hrow : (cur.toList.take (0 + 0) ++ insCells cs ++ cur.toList.drop (0 + 0 + (insCells cs).length)).toArray = (insCells cs).toArray := by
      rw [insCells_length, List.drop_of_length_le (by simp [hc])]
      simp
    rw [hrow] at hst
    refine ⟨w.setRow g (insCells cs).toArray, fun ty => ?_, setRow_heap w g _ _ _ _ hg, ⟨rfl, rfl, rfl, by simp [World.setRow], fun k hk => setRow_other w g k _ (by omega)⟩, fun b hb => setRow_other w g b _ hb⟩
    simp [Builtin.copy_, run_underlying Tryz.underlying81, Builtin.lenOf, Builtin.firstCells, sizeOf, typeInfo, hi1, hi3, hmin, hl, hst, goInt]

/-- Values, each a filter in a row of its own, from block L on. -/
def FvsN (L : Nat) (w : World) (xs : List Value) (ls : ChT) : Prop := xs.length = ls.length ∧ ∀ (i : Nat) x f, xs[i]? = some x → ls[i]? = some f → w.ownsRow L 86 4 x f.length (insCells f) ∧ ∀ c ∈ f, insWf c
theorem FvsN.keep {L : Nat} {w w' : World} {xs : List Value} {ls : ChT} (h : FvsN L w xs ls) (hk : KeepT 86 w w') : FvsN L w' xs ls := ⟨h.1, fun i x f hx hf => ⟨ownsRow_keepT (h.2 i x f hx hf).1 hk, (h.2 i x f hx hf).2⟩⟩
theorem FvsN.base {L L' : Nat} {w : World} {xs : List Value} {ls : ChT} (h : FvsN L w xs ls) (hL : L' ≤ L) : FvsN L' w xs ls := ⟨h.1, fun i x f hx hf => ⟨ownsRow_base (h.2 i x f hx hf).1 hL, (h.2 i x f hx hf).2⟩⟩
theorem FvsN.nil (L : Nat) (w : World) : FvsN L w [] [] := ⟨rfl, fun i x f hx => by simp at hx⟩
theorem FvsN.snoc {L : Nat} {w : World} {xs : List Value} {ls : ChT} {x : Value} {f : List InsT} (h : FvsN L w xs ls) (ho : w.ownsRow L 86 4 x f.length (insCells f)) (hw : ∀ c ∈ f, insWf c) : FvsN L w (xs ++ [x]) (ls ++ [f]) := by
  refine ⟨by simp [h.1], fun i y g hy hg => ?_⟩
  by_cases hi : i < xs.length
  · rw [List.getElem?_append_left hi] at hy
    rw [List.getElem?_append_left (by rw [← h.1]; exact hi)] at hg
    exact h.2 i y g hy hg
  · rw [List.getElem?_append_right (by omega)] at hy
    rw [List.getElem?_append_right (by rw [← h.1]; omega), ← h.1] at hg
    match hk : i - xs.length, hy, hg with
    | 0, hy, hg =>
      simp at hy hg
      subst hy hg
      exact ⟨ho, hw⟩
    | k + 1, hy, _ => simp at hy
theorem FvsN.at {L : Nat} {w : World} {xs : List Value} {ls : ChT} (h : FvsN L w xs ls) : FvsAt w.heap.size w xs ls := ⟨h.1, fun i x f hx hf => inssAt_own (h.2 i x f hx hf).1 (h.2 i x f hx hf).2⟩

/-- What stands while Copy goes on: the filters copied so far, and room for the rest. -/
def CcAt (L G n : Nat) (ls : ChT) (w : World) : Prop :=
  ∃ xs rest, w.heap[G]? = some (.cells (xs ++ rest).toArray 81 (0, 0)) ∧ xs.length + rest.length = n ∧ FvsN L w xs ls
theorem CcAt.cell {L G n : Nat} {ls : ChT} {w : World} (h : CcAt L G n ls w) (j : Nat) (hj : j < n) : ∃ u, w.cell? ⟨G, j, none⟩ = some u ∧ w.frozen? ⟨G, j, none⟩ = false := by
  obtain ⟨xs, rest, h1, h2, h3⟩ := h
  exact ⟨(xs ++ rest)[j]'(by simp; omega), heap_cell h1 j (by simp), by simp [World.frozen?, h1]⟩
theorem CcAt.later {L G n : Nat} {ls : ChT} {w w' : World} (h : CcAt L G n ls w) (hb : Below w.heap.size w w') : CcAt L G n ls w' := by
  obtain ⟨xs, rest, h1, h2, h3⟩ := h
  exact ⟨xs, rest, (hb.block G (lt_of_block h1)).trans h1, h2, h3.keep (KeepT.of_below hb)⟩
theorem CcAt.put {L G n : Nat} {ls : ChT} {w : World} {cv : Value} {f : List InsT} (h : CcAt L G n ls w) (hn : ls.length < n) (hw : ∀ c ∈ f, insWf c) (ho : w.ownsRow L 86 4 cv f.length (insCells f)) :
    CcAt L G n (ls ++ [f]) (w.setCell ⟨G, ls.length, none⟩ cv) := by
  obtain ⟨xs, rest, h1, h2, h3⟩ := h
  have hxl := h3.1
  obtain ⟨u0, rest', rfl⟩ : ∃ u0 rest', rest = u0 :: rest' := by
    match rest, h2 with
    | [], h2 => simp at h2; omega
    | u0 :: rest', _ => exact ⟨u0, rest', rfl⟩
  have e1 := row_setCell (o := ls.length) (u := cv) h1
  have hk1 : KeepT 86 w (w.setCell ⟨G, ls.length, none⟩ cv) := KeepT.setOther h1 (by decide)
  refine ⟨xs ++ [cv], rest', ?_, by simp at h2 ⊢; omega, (h3.keep hk1).snoc (ownsRow_keepT ho hk1) hw⟩
  rw [e1]
  congr 2
  rw [← hxl]
  apply Array.ext'
  simp [List.set_append]
theorem CcAt.done {L G n : Nat} {ls : ChT} {w : World} (h : CcAt L G n ls w) (hn : ls.length = n) (hL : L ≤ G) (hm : n ≤ maxLen) : ∃ xs, w.ownsRow L 81 1 (.slice (some ⟨G, 0, none⟩) n n) n xs ∧ FvsN L w xs ls := by
  obtain ⟨xs, rest, h1, h2, h3⟩ := h
  have hxl := h3.1
  refine ⟨xs, ⟨by omega, .inr ⟨G, n, _, rfl, hL, h1, Nat.le_refl _, hm, by simp; omega, ?_⟩⟩, h3⟩
  simp
  rw [List.take_left' (by omega)]

set_option maxHeartbeats 8000000 in
theorem copyCh_any (B : Nat) (lv : Value) (ls : ChT) (w : World) (hl : ChsAt B w lv ls) (hB : B ≤ w.heap.size) (hn : ls.length ≤ 1000) (h10 : ∀ f ∈ ls, f.length ≤ 100000) :
    Calls Tryz.prog 121 #[lv] w fun e w' => ∃ v, e = .returned v ∧ ∃ xs, w'.ownsRow w.heap.size 81 1 v ls.length xs ∧ FvsN w.heap.size w' xs ls ∧ Below w.heap.size w w' := by
  have HLS : Hid (∀ w', Below w.heap.size w w' → ChsAt B w' lv ls) := fun w' h => hl.later h hB
  have H10 : Hid (∀ f ∈ ls, f.length ≤ 100000) := h10
  obtain ⟨a, c, e3, -, -, -⟩ := hl
  subst e3
  clear h10
  obtain ⟨n, hn0⟩ : ∃ n, n = ls.length := ⟨_, rfl⟩
  have HN : Hid (ls.length = n) := hn0.symm
  rw [← hn0] at hn HLS ⊢
  clear hn0
  have hml := maxLen_eq
  have hmk0 := fun w => make_filsC n (by omega) w
  obtain ⟨mc, hmc⟩ : ∃ mc, mc = madeCells #[.slice none 0 0] n := ⟨_, rfl⟩
  rw [← hmc] at hmk0
  have hmk : ∀ w, (Instr.makeSlice 75 (.int .i64 n) (.int .i64 n)).run Tryz.prog w = .ok (.slice (some ⟨w.heap.size, 0, none⟩) n n) (w.alloc (.cells mc 81)) := hmk0
  have hmcs : mc.size = n := by rw [hmc, size_madeCells]
  clear hmk0 hmc
  obtain ⟨W3, hW3⟩ : ∃ W3, W3 = w.alloc (.cells mc 81) := ⟨_, rfl⟩
  have hs3 : W3.heap.size = w.heap.size + 1 := by rw [hW3]; simp
  have hb3 : Below w.heap.size w W3 := by rw [hW3]; exact (Below.refl _ _).alloc (Nat.le_refl _) _
  have g2 : W3.heap[w.heap.size]? = some (.cells mc 81 (0, 0)) := by
    rw [hW3]
    exact heap_at _ _ rfl
  have HC0 : Hid (CcAt w.heap.size w.heap.size n (ls.take 0) W3) := ⟨[], mc.toList, by simpa using g2, by simpa using hmcs, FvsN.nil _ _⟩
  have HBx : Hid (∀ v, Below w.heap.size W3 v → Below w.heap.size w v) := fun v h => hb3.trans h
  have HW : Hid (W3 = _) := hW3
  clear hW3 g2 hmcs
  go_enter Tryz.func121, Tryz.ntmps121
  go_wp2_with fail
  rw [← HW.out]
  clear hmk
  go_loopw [12] (fun iv wr => ∃ k : Nat, k ≤ n ∧ iv = .int .i64 k ∧ Hid (CcAt w.heap.size w.heap.size n (ls.take k) wr) ∧ Hid (Below w.heap.size W3 wr)) (fun iv _ => n - (intOf iv).toNat)
  case atStart => exact ⟨0, by omega, rfl, HC0, Below.refl _ _⟩
  case round =>
    obtain ⟨k, hk, rfl, HC, HBl⟩ := hrel
    obtain ⟨wo, hwo⟩ : ∃ x, x = wr := ⟨_, rfl⟩
    subst hwo
    have k0 : (0 : Int) ≤ (k : Int) := by omega
    have hbw := HBx.out _ HBl.out
    have hos : w.heap.size + 1 ≤ wo.heap.size := by have := HBl.out.size; omega
    by_cases hlt : k < n
    · have k1 : (k : Int) < (n : Int) := by omega
      obtain ⟨f, hrk⟩ : ∃ f, ls[k]? = some f := ⟨ls[k]'(by rw [HN.out]; omega), by simp⟩
      have HTk : Hid (ls.take (k + 1) = ls.take k ++ [f]) := by unfold Hid; rw [List.take_succ, hrk]; rfl
      have HTl : Hid ((ls.take k).length = k) := by unfold Hid; rw [List.length_take, HN.out]; omega
      have hr10 := H10.out f (List.mem_of_getElem? hrk)
      obtain ⟨_, _, e1, -, -, hat⟩ := HLS.out _ hbw
      obtain ⟨b3, o3, fv, e, hbB3, q0, hcs⟩ := hat k f hrk
      simp at e1
      obtain ⟨rfl, -, -⟩ := e1
      subst e
      clear hat hrk
      have HWr : Hid (∀ c ∈ f, insWf c) := hcs.wf
      obtain ⟨W5, hW5⟩ : ∃ W5, W5 = wo.alloc (.cells (madeCells #[.int .i64 0, .int .i64 0, .int .i64 0, .int .i64 0] (f.length * 4)) 86) := ⟨_, rfl⟩
      have hs5 : W5.heap.size = wo.heap.size + 1 := by rw [hW5]; simp
      have hb5 : Below wo.heap.size wo W5 := by rw [hW5]; exact (Below.refl _ _).alloc (Nat.le_refl _) _
      have c5 : W5.heap[wo.heap.size]? = some (.cells (madeCells #[.int .i64 0, .int .i64 0, .int .i64 0, .int .i64 0] (f.length * 4)) 86 (0, 0)) := by
        rw [hW5]
        exact heap_at _ _ rfl
      obtain ⟨W6, hrun, c6, hb6, hk6⟩ := run_copy_inss B wo.heap.size fv f _ W5 (hcs.later hb5 (by omega)) c5 (by rw [size_madeCells])
      have hs6 : W6.heap.size = wo.heap.size + 1 := by
        have h1 := hb6.size
        have h2 : W6.heap[wo.heap.size + 1]? = none := by
          rw [hk6 _ (by omega)]
          exact Array.getElem?_eq_none (by omega)
        have := Array.getElem?_eq_none_iff.1 h2
        omega
      have hb6w : Below wo.heap.size wo W6 := hb5.trans (hb6.mono (by omega))
      have HC6 : Hid (CcAt w.heap.size w.heap.size n (ls.take k) W6) := HC.out.later hb6w
      have HO6 : Hid (W6.ownsRow w.heap.size 86 4 (.slice (some ⟨wo.heap.size, 0, none⟩) f.length f.length) f.length (insCells f)) := ⟨by rw [insCells_length], .inr ⟨wo.heap.size, f.length, _, rfl, by omega, c6, Nat.le_refl _, by rw [maxLen_eq]; omega, by simp [insCells_length], by rw [List.take_of_length_le (by simp [insCells_length])]⟩⟩
      have HB6 : Hid (Below w.heap.size W3 W6) := Below.thenOf HBl.out hb6w (by omega)
      obtain ⟨a9, c9, ecv, -, -⟩ := hcs.shape
      subst ecv
      have hmk0 := fun w => make_inssC f.length (by omega) w
      obtain ⟨rl, hrl⟩ : ∃ rl, rl = f.length := ⟨_, rfl⟩
      have Hrl : Hid (f.length = rl) := hrl.symm
      obtain ⟨mk, hmk'⟩ : ∃ mk, mk = madeCells #[.int .i64 0, .int .i64 0, .int .i64 0, .int .i64 0] (f.length * 4) := ⟨_, rfl⟩
      rw [← hmk'] at hmk0 hW5
      rw [← hrl] at hmk0 hr10 q0 hrun HO6
      have hmk : ∀ w, (Instr.makeSlice 81 (.int .i64 rl) (.int .i64 rl)).run Tryz.prog w = .ok (.slice (some ⟨w.heap.size, 0, none⟩) rl rl) (w.alloc (.cells mk 86)) := hmk0
      have HW5 : Hid (W5 = _) := hW5
      obtain ⟨u0, v0, w0⟩ := HC6.out.cell k (by omega)
      have HNx : Hid (CcAt w.heap.size w.heap.size n (ls.take (k + 1)) (W6.setCell ⟨w.heap.size, k, none⟩ (.slice (some ⟨wo.heap.size, 0, none⟩) rl rl)) ∧ Below w.heap.size W3 (W6.setCell ⟨w.heap.size, k, none⟩ (.slice (some ⟨wo.heap.size, 0, none⟩) rl rl))) := by
        refine ⟨?_, HB6.out.setCell (p := ⟨w.heap.size, k, none⟩) (Nat.le_refl _) _⟩
        have := HC6.out.put (cv := .slice (some ⟨wo.heap.size, 0, none⟩) rl rl) (f := f) (by rw [HTl.out]; omega) HWr.out (by rw [Hrl.out]; exact HO6.out)
        rw [HTl.out] at this
        rw [HTk.out]
        exact this
      clear hs5 hb5 c5 c6 hb6 hk6 hb6w HC6 HO6 hW5 hmk' hmk0 hrl hcs HC HBl hbw hb3 HB6
      have HRun : Hid _ := hrun
      clear hrun
      go_wp2_with fail
      rw [← HW5.out, HRun.out]
      clear hmk
      go_wp2_with fail
      exact ⟨⟨k + 1, by omega, by go_num, HNx.out.1, HNx.out.2⟩, by simp [intOf]; omega⟩
    · have e : k = n := by omega
      subst e
      have HE : Hid (ls.take k = ls) := by unfold Hid; rw [← HN.out, List.take_length]
      rw [HE.out] at HC
      obtain ⟨xs, hox, hfx⟩ := HC.out.done HN.out (Nat.le_refl _) (by omega)
      have HF : Hid (wo.ownsRow w.heap.size 81 1 (.slice (some ⟨w.heap.size, 0, none⟩) k k) k xs ∧ FvsN w.heap.size wo xs ls) := ⟨hox, hfx⟩
      have k1 : ¬ ((k : Int) < (k : Int)) := by omega
      have HBw : Hid (Below w.heap.size w wo) := hbw
      clear hox hfx hbw HC HBl HC0 hb3
      go_wp2_with fail
      go_ret
      exact ⟨_, rfl, xs, HF.out.1, HF.out.2, HBw.out⟩

/-- A chain all of whose memory is new: from block L on. -/
def ChsNew (L : Nat) (w : World) (v : Value) (ls : ChT) : Prop := ∀ wF : World, (∀ g, L ≤ g → g < w.heap.size → wF.heap[g]? = w.heap[g]?) → w.heap.size ≤ wF.heap.size → ChsAt wF.heap.size wF v ls
theorem ChsNew.at {L : Nat} {w : World} {v : Value} {ls : ChT} (h : ChsNew L w v ls) : ChsAt w.heap.size w v ls := h w (fun _ _ _ => rfl) (Nat.le_refl _)
theorem ChsNew.keep {L L' : Nat} {w w' : World} {v : Value} {ls : ChT} (h : ChsNew L w v ls) (hL : L' ≤ L) (hk : ∀ g, L ≤ g → g < w.heap.size → w'.heap[g]? = w.heap[g]?) (hs : w.heap.size ≤ w'.heap.size) : ChsNew L' w' v ls :=
  fun wF h1 h2 => h wF (fun g hg hl => (h1 g (Nat.le_trans hL hg) (Nat.lt_of_lt_of_le hl hs)).trans (hk g hg hl)) (Nat.le_trans hs h2)
theorem ChsNew.later {L L' : Nat} {w w' : World} {v : Value} {ls : ChT} (h : ChsNew L w v ls) (hL : L' ≤ L) (hb : Below w.heap.size w w') : ChsNew L' w' v ls := h.keep hL (fun g _ hl => hb.block g hl) hb.size
theorem ChsNew.put {L : Nat} {w : World} {v : Value} {ls : ChT} {b o : Nat} {u : Value} (h : ChsNew L w v ls) (hb : b < L ∨ w.heap.size ≤ b) : ChsNew L (w.setCell ⟨b, o, none⟩ u) v ls := h.keep (Nat.le_refl _) (fun g hg hl => Below.heap_setCell _ _ _ _ (by show g ≠ b; omega)) (by simp)
theorem chsNew_nil (L : Nat) (w : World) : ChsNew L w (.slice none 0 0) [] := fun wF _ _ => chsAt_nil _ _
theorem chsNew_own {L : Nat} {w : World} {v : Value} {xs : List Value} {ls : ChT} (h : w.ownsRow L 81 1 v ls.length xs) (hx : FvsN L w xs ls) : ChsNew L w v ls := by
  intro wF h1 h2
  have hx' : FvsN L wF xs ls := ⟨hx.1, fun i x f a b => ⟨ownsRow_block (hx.2 i x f a b).1 fun g cur hg hc => h1 g hg (lt_of_block hc), (hx.2 i x f a b).2⟩⟩
  exact chsAt_own (ownsRow_block h fun g cur hg hc => h1 g hg (lt_of_block hc)) hx'.at
end Go.Proofs.YtbdlojnigflanacGreatDoor
