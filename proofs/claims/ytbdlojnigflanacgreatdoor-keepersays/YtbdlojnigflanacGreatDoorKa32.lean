/- Joined: Mee6 ChD2. -/
import Derived.Test.YtbdlojnigflanacGreatDoorKa31
import Derived.Lib.SlBuf
import Derived.Laws.CopyRow
import Derived.Laws.MakeOwn
import Derived.Test.YtbdlojnigflanacGreatDoorKa24
section
/- Package policy: Copy. -/
set_option linter.all false
set_option maxRecDepth 100000
namespace Go.Proofs.YtbdlojnigflanacGreatDoor
open Go.RowKit Go.Maps

theorem make_rulesC (n : Nat) (hn : n ≤ 4294967281) (w : World) : (Instr.makeSlice 22 (.int .i64 n) (.int .i64 n)).run Tryz.prog w = .ok (.slice (some ⟨w.heap.size, 0, none⟩) n n) (w.alloc (.cells (madeCells #[.slice none 0 0, .int .i64 0] (n * 2)) 95)) := by
  obtain ⟨inf, hi1, hi2, hi3, hi4⟩ := infoRuleR
  have := run_make (P := Tryz.prog) w 22 95 inf _ Tryz.underlying22 hi1 hi2 .i64 .i64 n n (by omega) (Int.le_refl _) (by rw [hi4]; omega) (by omega)
  rw [hi3] at this
  simpa [Value.cells] using this
theorem make_condsC (n : Nat) (hn : n ≤ 4294967281) (w : World) : (Instr.makeSlice 93 (.int .i64 n) (.int .i64 n)).run Tryz.prog w = .ok (.slice (some ⟨w.heap.size, 0, none⟩) n n) (w.alloc (.cells (madeCells #[.int .i64 0, .int .i64 0, .int .i64 0] (n * 3)) 99)) := by
  obtain ⟨inf, hi1, hi2, hi3, hi4⟩ := infoCnd
  have := run_make (P := Tryz.prog) w 93 99 inf _ Tryz.underlying93 hi1 hi2 .i64 .i64 n n (by omega) (Int.le_refl _) (by rw [hi4]; omega) (by omega)
  rw [hi3] at this
  simpa [Value.cells] using this
/-- copy() of conditions into a list of as many. -/
theorem run_copy_conds (B g : Nat) (sv : Value) (cs : List CondT) (cur : Array Value) (w : World) (h : CondsAt B w sv cs) (hg : w.heap[g]? = some (.cells cur 99 (0, 0))) (hc : cur.size = cs.length * 3) :
    ∃ w', (∀ ty, (Builtin.copy_ #[93, 93] ty #[.slice (some ⟨g, 0, none⟩) cs.length cs.length, sv]).run Tryz.prog w = .ok (.int .i64 cs.length) w') ∧ w'.heap[g]? = some (.cells (cndCells cs).toArray 99 (0, 0)) ∧ Below g w w' ∧ ∀ b, b ≠ g → w'.heap[b]? = w.heap[b]? := by
  obtain ⟨inf, hi1, hi2, hi3, hi4⟩ := infoCnd
  obtain ⟨a, cap, rfl, hlc, hcm, hrs⟩ := h
  have hmin : Nat.min cs.length cs.length = cs.length := Nat.min_self _
  cases a with
  | none =>
    have h0 : cs = [] := by
      cases cs with
      | nil => rfl
      | cons r l => obtain ⟨b, o, e, _⟩ := hrs 0 r rfl; cases e
    subst h0
    have hcu : cur = #[] := Array.eq_empty_of_size_eq_zero (by simpa using hc)
    refine ⟨w, fun ty => ?_, by rw [hg, hcu]; rfl, Below.refl _ _, fun _ _ => rfl⟩
    simp [Builtin.copy_, run_underlying Tryz.underlying93, Builtin.lenOf, sizeOf, typeInfo, hi1, Builtin.firstCells, storeCells, goInt]
  | some ad =>
    have hcell : ∀ j u, (cndCells cs)[j]? = some u → w.cell? (ad.add j) = some u := by
      cases cs with
      | nil => intro j u hj; simp [cndCells] at hj
      | cons r l =>
        obtain ⟨b, o, e, _, _⟩ := hrs 0 r rfl
        cases e
        intro j u hj
        rw [add_at]
        refine cndCells_cell (o := o) (r :: l) o (fun i c hc => ?_) j u hj
        obtain ⟨b', o', e, _, k⟩ := hrs i c hc
        cases e
        exact k
    have hl := run_loadCells_list (P := Tryz.prog) w ad (cndCells cs) hcell
    rw [cndCells_length] at hl
    have hst := run_storeCells_at Tryz.prog g 0 99 (cndCells cs) 0 cur w hg (by rw [cndCells_length, hc]; omega) (cndCells_one cs)
    have hrow : (cur.toList.take (0 + 0) ++ cndCells cs ++ cur.toList.drop (0 + 0 + (cndCells cs).length)).toArray = (cndCells cs).toArray := by
      rw [cndCells_length, List.drop_of_length_le (by simp [hc])]
      simp
    rw [hrow] at hst
    refine ⟨w.setRow g (cndCells cs).toArray, fun ty => ?_, setRow_heap w g _ _ _ _ hg, ⟨rfl, rfl, rfl, by simp [World.setRow], fun k hk => setRow_other w g k _ (by omega)⟩, fun b hb => setRow_other w g b _ hb⟩
    simp [Builtin.copy_, run_underlying Tryz.underlying93, Builtin.lenOf, Builtin.firstCells, sizeOf, typeInfo, hi1, hi3, hmin, hl, hst, goInt]

/-- What stands while Copy goes on: the rules copied so far, and room for the rest. -/
def CpAt (L G n : Nat) (rs : List RuleT) (w : World) : Prop :=
  ∃ xs rest, w.heap[G]? = some (.cells (xs ++ rest).toArray 95 (0, 0)) ∧ xs.length + rest.length = n * 2 ∧ XsN L w xs rs
theorem CpAt.cell {L G n : Nat} {rs : List RuleT} {w : World} (h : CpAt L G n rs w) (j : Nat) (hj : j < n * 2) : ∃ u, w.cell? ⟨G, j, none⟩ = some u ∧ w.frozen? ⟨G, j, none⟩ = false := by
  obtain ⟨xs, rest, h1, h2, h3⟩ := h
  exact ⟨(xs ++ rest)[j]'(by simp; omega), heap_cell h1 j (by simp), by simp [World.frozen?, h1]⟩
theorem CpAt.later {L G n : Nat} {rs : List RuleT} {w w' : World} (h : CpAt L G n rs w) (hb : Below w.heap.size w w') : CpAt L G n rs w' := by
  obtain ⟨xs, rest, h1, h2, h3⟩ := h
  exact ⟨xs, rest, (hb.block G (lt_of_block h1)).trans h1, h2, h3.keep (KeepT.of_below hb)⟩
theorem CpAt.put {L G n : Nat} {rs : List RuleT} {w : World} {cv : Value} {r : RuleT} (h : CpAt L G n rs w) (hn : rs.length < n) (hr : wf r.2) (hw : ∀ c ∈ r.1, wf c.1 ∧ wf c.2.1 ∧ wf c.2.2) (ho : w.ownsRow L 99 3 cv r.1.length (cndCells r.1)) :
    CpAt L G n (rs ++ [r]) ((w.setCell ⟨G, rs.length * 2, none⟩ cv).setCell ⟨G, rs.length * 2 + 1, none⟩ (.int .i64 r.2)) := by
  obtain ⟨xs, rest, h1, h2, h3⟩ := h
  have hxl := h3.1
  obtain ⟨u0, u1, rest', rfl⟩ : ∃ u0 u1 rest', rest = u0 :: u1 :: rest' := by
    match rest, h2 with
    | [], h2 => simp at h2; omega
    | [u], h2 => simp at h2; omega
    | u0 :: u1 :: rest', _ => exact ⟨u0, u1, rest', rfl⟩
  have e1 := row_setCell (o := rs.length * 2) (u := cv) h1
  have e2 := row_setCell (o := rs.length * 2 + 1) (u := .int .i64 r.2) e1
  have hk1 : KeepT 99 w (w.setCell ⟨G, rs.length * 2, none⟩ cv) := KeepT.setOther h1 (by decide)
  have hk2 : KeepT 99 (w.setCell ⟨G, rs.length * 2, none⟩ cv) ((w.setCell ⟨G, rs.length * 2, none⟩ cv).setCell ⟨G, rs.length * 2 + 1, none⟩ (.int .i64 r.2)) := KeepT.setOther e1 (by decide)
  refine ⟨xs ++ [cv, .int .i64 r.2], rest', ?_, by simp at h2 ⊢; omega, ((h3.keep hk1).keep hk2).snoc hr hw (ownsRow_keepT (ownsRow_keepT ho hk1) hk2)⟩
  rw [e2]
  congr 2
  rw [← hxl]
  apply Array.ext'
  simp [List.set_append]
theorem CpAt.done {L G n : Nat} {rs : List RuleT} {w : World} {d : Int} (h : CpAt L G n rs w) (hn : rs.length = n) (hL : L ≤ G) (hm : n ≤ maxLen) (hd : wf d) : PolNew L w (.agg #[.slice (some ⟨G, 0, none⟩) n n, .int .i64 d]) (rs, d) := by
  obtain ⟨xs, rest, h1, h2, h3⟩ := h
  have hxl := h3.1
  have ho : w.ownsRow L 95 2 (.slice (some ⟨G, 0, none⟩) n n) rs.length xs := by
    refine ⟨hxl, .inr ⟨G, n, _, by rw [hn], hL, h1, by omega, hm, by simp; omega, ?_⟩⟩
    simp
    rw [List.take_left' (by omega)]
  have := polNew_own (m := n) (d := d) ho h3 (by omega) hd
  rw [← hn, List.take_length] at this
  rw [← hn]
  exact this

set_option maxHeartbeats 8000000 in
theorem copyD_any (B : Nat) (pv : Value) (p : PolT) (w : World) (hp : PolAt B w pv p) (hB : B ≤ w.heap.size) (hn : p.1.length ≤ 1000) (h10 : ∀ r ∈ p.1, r.1.length ≤ 1000) :
    Calls Tryz.prog 119 #[pv] w fun e w' => ∃ v, e = .returned v ∧ PolNew w.heap.size w' v p ∧ Below w.heap.size w w' := by
  obtain ⟨rs, d⟩ := p
  obtain ⟨rv, e1, hd, hrs⟩ := hp
  have HRS : Hid (∀ w', Below w.heap.size w w' → RulesAt B w' rv rs) := fun w' h => hrs.later h hB
  have H10 : Hid (∀ r ∈ rs, r.1.length ≤ 1000) := h10
  have Hd : Hid (wf d) := hd
  obtain ⟨a, c, e3, -, -, -⟩ := hrs
  simp only at e1 e3 hn
  subst e3 e1
  clear hd h10
  obtain ⟨n, hn0⟩ : ∃ n, n = rs.length := ⟨_, rfl⟩
  have HN : Hid (rs.length = n) := hn0.symm
  rw [← hn0] at hn HRS ⊢
  clear hn0
  have hml := maxLen_eq
  have hmk0 := fun w => make_rulesC n (by omega) w
  obtain ⟨mc, hmc⟩ : ∃ mc, mc = madeCells #[.slice none 0 0, .int .i64 0] (n * 2) := ⟨_, rfl⟩
  rw [← hmc] at hmk0
  have hmk : ∀ w, (Instr.makeSlice 22 (.int .i64 n) (.int .i64 n)).run Tryz.prog w = .ok (.slice (some ⟨w.heap.size, 0, none⟩) n n) (w.alloc (.cells mc 95)) := hmk0
  have hmcs : mc.size = n * 2 := by rw [hmc, size_madeCells]
  clear hmk0 hmc
  obtain ⟨W3, hW3⟩ : ∃ W3, W3 = ((w.alloc (.cells #[.slice a n c, .int .i64 d] 24)).alloc (.cells #[.slice none 0 0, .int .i64 0] 24)).alloc (.cells mc 95) := ⟨_, rfl⟩
  have hs3 : W3.heap.size = w.heap.size + 1 + 1 + 1 := by rw [hW3]; simp
  have hb3 : Below w.heap.size w W3 := by rw [hW3]; exact (((Below.refl _ _).alloc (Nat.le_refl _) _).alloc (by simp) _).alloc (by simp; omega) _
  have g0 : W3.heap[w.heap.size]? = some (.cells #[.slice a n c, .int .i64 d] 24 (0, 0)) := by
    rw [hW3]
    exact heap_kept' _ (heap_kept' _ (heap_at _ _ rfl))
  have g1 : W3.heap[w.heap.size + 1]? = some (.cells #[.slice none 0 0, .int .i64 0] 24 (0, 0)) := by
    rw [hW3]
    exact heap_kept' _ (heap_at _ _ (by simp only [World.size_alloc]))
  have g2 : W3.heap[w.heap.size + 1 + 1]? = some (.cells mc 95 (0, 0)) := by
    rw [hW3]
    exact heap_at _ _ (by simp only [World.size_alloc])
  have HC0 : Hid (CpAt (w.heap.size + 1 + 1) (w.heap.size + 1 + 1) n (rs.take 0) W3) := ⟨[], mc.toList, by simpa using g2, by simpa using hmcs, rfl, fun u hu => (by cases hu), fun i r hr => by simp at hr⟩
  have HBx : Hid (∀ v, Below (w.heap.size + 1 + 1) W3 v → v.heap[w.heap.size]? = some (.cells #[.slice a n c, .int .i64 d] 24 (0, 0)) ∧ v.heap[w.heap.size + 1]? = some (.cells #[.slice none 0 0, .int .i64 0] 24 (0, 0)) ∧ Below w.heap.size w v) := fun v h => ⟨(h.block _ (by omega)).trans g0, (h.block _ (by omega)).trans g1, hb3.trans (h.mono (by omega))⟩
  have z0 := heap_cell g0 0 rfl
  have HW : Hid (W3 = _) := hW3
  clear hW3 g0 g1 g2 hmcs
  go_enter Tryz.func119, Tryz.ntmps119
  go_wp2_with fail
  rw [← HW.out]
  clear z0 hmk
  go_loopw [14] (fun iv wr => ∃ k : Nat, k ≤ n ∧ iv = .int .i64 k ∧ Hid (CpAt (w.heap.size + 1 + 1) (w.heap.size + 1 + 1) n (rs.take k) wr) ∧ Hid (Below (w.heap.size + 1 + 1) W3 wr)) (fun iv _ => n - (intOf iv).toNat)
  case atStart => exact ⟨0, by omega, rfl, HC0, Below.refl _ _⟩
  case round =>
    obtain ⟨k, hk, rfl, HC, HBl⟩ := hrel
    obtain ⟨wo, hwo⟩ : ∃ x, x = wr := ⟨_, rfl⟩
    subst hwo
    have k0 : (0 : Int) ≤ (k : Int) := by omega
    obtain ⟨gp, gr, hbw⟩ := HBx.out _ HBl.out
    have hos : w.heap.size + 1 + 1 + 1 ≤ wo.heap.size := by have := HBl.out.size; omega
    by_cases hlt : k < n
    · have k1 : (k : Int) < (n : Int) := by omega
      obtain ⟨r, hrk⟩ : ∃ r, rs[k]? = some r := ⟨rs[k]'(by rw [HN.out]; omega), by simp⟩
      have HTk : Hid (rs.take (k + 1) = rs.take k ++ [r]) := by unfold Hid; rw [List.take_succ, hrk]; rfl
      have HTl : Hid ((rs.take k).length = k) := by unfold Hid; rw [List.length_take, HN.out]; omega
      have hr10 := H10.out r (List.mem_of_getElem? hrk)
      obtain ⟨_, _, e1, -, -, hat⟩ := HRS.out _ hbw
      obtain ⟨b3, o3, e, hbB3, hrc⟩ := hat k r hrk
      simp at e1
      obtain ⟨rfl, -, -⟩ := e1
      subst e
      clear hat hrk
      obtain ⟨rcs, r2⟩ := r
      obtain ⟨cv, q0, q1, hwv, hcs⟩ := hrc
      simp only [] at hr10
      have HWr : Hid (∀ c ∈ rcs, wf c.1 ∧ wf c.2.1 ∧ wf c.2.2) := hcs.wfs
      obtain ⟨W5, hW5⟩ : ∃ W5, W5 = (wo.alloc (.cells #[cv, .int .i64 r2] 95)).alloc (.cells (madeCells #[.int .i64 0, .int .i64 0, .int .i64 0] (rcs.length * 3)) 99) := ⟨_, rfl⟩
      have hs5 : W5.heap.size = wo.heap.size + 1 + 1 := by rw [hW5]; simp
      have hb5 : Below wo.heap.size wo W5 := by rw [hW5]; exact ((Below.refl _ _).alloc (Nat.le_refl _) _).alloc (by simp) _
      have g5 : W5.heap[wo.heap.size]? = some (.cells #[cv, .int .i64 r2] 95 (0, 0)) := by
        rw [hW5]
        exact heap_kept' _ (heap_at _ _ rfl)
      have c5 : W5.heap[wo.heap.size + 1]? = some (.cells (madeCells #[.int .i64 0, .int .i64 0, .int .i64 0] (rcs.length * 3)) 99 (0, 0)) := by
        rw [hW5]
        exact heap_at _ _ (by simp only [World.size_alloc])
      obtain ⟨W6, hrun, c6, hb6, hk6⟩ := run_copy_conds B (wo.heap.size + 1) cv rcs _ W5 (hcs.later hb5 (by omega)) c5 (by rw [size_madeCells])
      have g6 : W6.heap[wo.heap.size]? = some (.cells #[cv, .int .i64 r2] 95 (0, 0)) := (hk6 _ (by omega)).trans g5
      have hs6 : W6.heap.size = wo.heap.size + 1 + 1 := by
        have h1 := hb6.size
        have h2 : W6.heap[wo.heap.size + 1 + 1]? = none := by
          rw [hk6 _ (by omega)]
          exact Array.getElem?_eq_none (by omega)
        have := Array.getElem?_eq_none_iff.1 h2
        omega
      have hb6w : Below wo.heap.size wo W6 := hb5.trans (hb6.mono (by omega))
      have HC6 : Hid (CpAt (w.heap.size + 1 + 1) (w.heap.size + 1 + 1) n (rs.take k) W6) := HC.out.later hb6w
      have HO6 : Hid (W6.ownsRow (w.heap.size + 1 + 1) 99 3 (.slice (some ⟨wo.heap.size + 1, 0, none⟩) rcs.length rcs.length) rcs.length (cndCells rcs)) := ⟨by rw [cndCells_length], .inr ⟨wo.heap.size + 1, rcs.length, _, rfl, by omega, c6, Nat.le_refl _, by rw [maxLen_eq]; omega, by simp [cndCells_length], by rw [List.take_of_length_le (by simp [cndCells_length])]⟩⟩
      obtain ⟨W7, hW7⟩ : ∃ W7, W7 = W6.setCell ⟨wo.heap.size, 0, none⟩ (.slice (some ⟨wo.heap.size + 1, 0, none⟩) rcs.length rcs.length) := ⟨_, rfl⟩
      have hb7 : Below wo.heap.size wo W7 := by rw [hW7]; exact hb6w.setCell (p := ⟨wo.heap.size, 0, none⟩) (Nat.le_refl _) _
      have g7 : W7.heap[wo.heap.size]? = some (.cells #[.slice (some ⟨wo.heap.size + 1, 0, none⟩) rcs.length rcs.length, .int .i64 r2] 95 (0, 0)) := by rw [hW7, row_setCell g6]; rfl
      have hs7 : W7.heap.size = wo.heap.size + 1 + 1 := by rw [hW7]; simpa using hs6
      have HO7 : Hid (W7.ownsRow (w.heap.size + 1 + 1) 99 3 (.slice (some ⟨wo.heap.size + 1, 0, none⟩) rcs.length rcs.length) rcs.length (cndCells rcs)) := by
        unfold Hid
        rw [hW7]
        exact ownsRow_keepT HO6.out (KeepT.setOther g6 (by decide))
      have HC7 : Hid (CpAt (w.heap.size + 1 + 1) (w.heap.size + 1 + 1) n (rs.take k) W7) := HC.out.later hb7
      have HB7 : Hid (Below (w.heap.size + 1 + 1) W3 W7) := Below.thenOf HBl.out hb7 (by omega)
      obtain ⟨a9, c9, ecv, -, -⟩ := hcs.full
      subst ecv
      have Hr2 : Hid (wf r2) := hwv
      simp only [] at q0 q1
      have hmk0 := fun w => make_condsC rcs.length (by omega) w
      obtain ⟨rl, hrl⟩ : ∃ rl, rl = rcs.length := ⟨_, rfl⟩
      have Hrl : Hid (rcs.length = rl) := hrl.symm
      obtain ⟨mk, hmk'⟩ : ∃ mk, mk = madeCells #[.int .i64 0, .int .i64 0, .int .i64 0] (rcs.length * 3) := ⟨_, rfl⟩
      rw [← hmk'] at hmk0 hW5
      rw [← hrl] at hmk0 hr10 q0 hW5 hrun HO6 HO7 g5 g6 g7 hW7
      have hmk : ∀ w, (Instr.makeSlice 93 (.int .i64 rl) (.int .i64 rl)).run Tryz.prog w = .ok (.slice (some ⟨w.heap.size, 0, none⟩) rl rl) (w.alloc (.cells mk 99)) := hmk0
      have HW5 : Hid (W5 = _) := hW5
      have HW7 : Hid (W7 = _) := hW7
      have y0 := heap_cell g6 0 rfl
      have y1 := heap_cell g6 1 rfl
      have yf : W6.frozen? ⟨wo.heap.size, 0, none⟩ = false := by simp [World.frozen?, g6]
      have s0 := heap_cell g5 0 rfl
      obtain ⟨u0, v0, w0⟩ := HC6.out.cell (k * 2) (by omega)
      obtain ⟨u1, v1, w1⟩ := HC6.out.cell (k * 2 + 1) (by omega)
      have HNx : Hid (CpAt (w.heap.size + 1 + 1) (w.heap.size + 1 + 1) n (rs.take (k + 1)) ((W7.setCell ⟨w.heap.size + 1 + 1, k * 2, none⟩ (.slice (some ⟨wo.heap.size + 1, 0, none⟩) rl rl)).setCell ⟨w.heap.size + 1 + 1, k * 2 + 1, none⟩ (.int .i64 r2)) ∧ Below (w.heap.size + 1 + 1) W3 ((W7.setCell ⟨w.heap.size + 1 + 1, k * 2, none⟩ (.slice (some ⟨wo.heap.size + 1, 0, none⟩) rl rl)).setCell ⟨w.heap.size + 1 + 1, k * 2 + 1, none⟩ (.int .i64 r2))) := by
        refine ⟨?_, (HB7.out.setCell (p := ⟨w.heap.size + 1 + 1, k * 2, none⟩) (Nat.le_refl _) _).setCell (p := ⟨w.heap.size + 1 + 1, k * 2 + 1, none⟩) (Nat.le_refl _) _⟩
        have := HC7.out.put (cv := .slice (some ⟨wo.heap.size + 1, 0, none⟩) rl rl) (r := (rcs, r2)) (by rw [HTl.out]; omega) Hr2.out HWr.out (by rw [Hrl.out]; exact Hrl.out ▸ HO7.out)
        rw [HTl.out] at this
        rw [HTk.out]
        exact this
      clear hs5 hb5 g5 c5 c6 hb6 hk6 g6 hs6 hb6w HC6 HO6 HO7 hW7 hb7 g7 HC7 HB7 hW5 hmk' hmk0 hrl hcs hwv gp gr HC HBl hbw hb3
      have HRun : Hid _ := hrun
      clear hrun
      go_wp2_with fail
      rw [← HW5.out, HRun.out]
      clear hmk s0
      go_wp2_with fail
      have hN := HNx.out
      rw [HW7.out] at hN
      exact ⟨⟨k + 1, by omega, by go_num, hN.1, hN.2⟩, by simp [intOf]; omega⟩
    · have e : k = n := by omega
      subst e
      have HE : Hid (rs.take k = rs) := by unfold Hid; rw [← HN.out, List.take_length]
      rw [HE.out] at HC
      have HNw : Hid (PolNew (w.heap.size + 1 + 1) wo (.agg #[.slice (some ⟨w.heap.size + 1 + 1, 0, none⟩) k k, .int .i64 d]) (rs, d)) := HC.out.done HN.out (Nat.le_refl _) (by omega) Hd.out
      have k1 : ¬ ((k : Int) < (k : Int)) := by omega
      have p0 := heap_cell gp 0 rfl
      have p1 := heap_cell gp 1 rfl
      have pf : wo.frozen? ⟨w.heap.size, 0, none⟩ = false := by simp [World.frozen?, gp]
      have r0 := heap_cell gr 0 rfl
      have r1 := heap_cell gr 1 rfl
      have f0 : wo.frozen? ⟨w.heap.size + 1, 0, none⟩ = false := by simp [World.frozen?, gr]
      have f1 : wo.frozen? ⟨w.heap.size + 1, 1, none⟩ = false := by simp [World.frozen?, gr]
      have HBw : Hid (Below w.heap.size w wo) := hbw
      clear gp gr hbw HC HBl HC0 hb3
      go_wp2_with fail
      refine bodyPost_ret (v := .agg #[.slice (some ⟨w.heap.size + 1 + 1, 0, none⟩) k k, .int .i64 d]) ?_ rfl ⟨_, rfl, ?_, ?_⟩
      · rw [results_cell1 rfl]
        go_simp
      · refine PolNew.keep (L := w.heap.size + 1 + 1) ?_ (by omega) (fun g _ _ => rfl) (Nat.le_refl _)
        repeat (first | exact HNw.out | refine PolNew.put ?_ (.inl (by omega)))
      · repeat (first | exact HBw.out | refine Below.setCell ?_ (by simp) _)
end Go.Proofs.YtbdlojnigflanacGreatDoor
end
section
/- Package chain: Copy. -/
set_option linter.all false
set_option maxRecDepth 100000
namespace Go.Proofs.YtbdlojnigflanacGreatDoor
open Go.RowKit Go.Maps

theorem make_filsC (n : Nat) (hn : n ≤ 4294967281) (w : World) : (Instr.makeSlice 75 (.int .i64 n) (.int .i64 n)).run Tryz.prog w = .ok (.slice (some ⟨w.heap.size, 0, none⟩) n n) (w.alloc (.cells (madeCells #[.slice none 0 0] n) 81)) := by
  obtain ⟨inf, hi1, hi2, hi3, hi4⟩ := infoFil
  have := run_make (P := Tryz.prog) w 75 81 inf _ Tryz.underlying75 hi1 hi2 .i64 .i64 n n (by omega) (Int.le_refl _) (by rw [hi4]; omega) (by omega)
  rw [hi3] at this
  simpa [Value.cells] using this
theorem make_inssC (n : Nat) (hn : n ≤ 4294967281) (w : World) : (Instr.makeSlice 81 (.int .i64 n) (.int .i64 n)).run Tryz.prog w = .ok (.slice (some ⟨w.heap.size, 0, none⟩) n n) (w.alloc (.cells (madeCells #[.int .i64 0, .int .i64 0, .int .i64 0, .int .i64 0] (n * 4)) 86)) := by
  obtain ⟨inf, hi1, hi2, hi3, hi4⟩ := infoIns
  have := run_make (P := Tryz.prog) w 81 86 inf _ Tryz.underlying81 hi1 hi2 .i64 .i64 n n (by omega) (Int.le_refl _) (by rw [hi4]; omega) (by omega)
  rw [hi3] at this
  simpa [Value.cells] using this
/-- copy() of instructions into a list of as many. -/
theorem run_copy_inss (B g : Nat) (sv : Value) (cs : List InsT) (cur : Array Value) (w : World) (h : InssAt B w sv cs) (hg : w.heap[g]? = some (.cells cur 86 (0, 0))) (hc : cur.size = cs.length * 4) :
    ∃ w', (∀ ty, (Builtin.copy_ #[81, 81] ty #[.slice (some ⟨g, 0, none⟩) cs.length cs.length, sv]).run Tryz.prog w = .ok (.int .i64 cs.length) w') ∧ w'.heap[g]? = some (.cells (insCells cs).toArray 86 (0, 0)) ∧ Below g w w' ∧ ∀ b, b ≠ g → w'.heap[b]? = w.heap[b]? := by
  obtain ⟨inf, hi1, hi2, hi3, hi4⟩ := infoIns
  obtain ⟨a, cap, rfl, hlc, hcm, hrs⟩ := h
  have hmin : Nat.min cs.length cs.length = cs.length := Nat.min_self _
  cases a with
  | none =>
    have h0 : cs = [] := by
      cases cs with
      | nil => rfl
      | cons r l => obtain ⟨b, o, e, _⟩ := hrs 0 r rfl; cases e
    subst h0
    have hcu : cur = #[] := Array.eq_empty_of_size_eq_zero (by simpa using hc)
    refine ⟨w, fun ty => ?_, by rw [hg, hcu]; rfl, Below.refl _ _, fun _ _ => rfl⟩
    simp [Builtin.copy_, run_underlying Tryz.underlying81, Builtin.lenOf, sizeOf, typeInfo, hi1, Builtin.firstCells, storeCells, goInt]
  | some ad =>
    have hcell : ∀ j u, (insCells cs)[j]? = some u → w.cell? (ad.add j) = some u := by
      cases cs with
      | nil => intro j u hj; simp [insCells] at hj
      | cons r l =>
        obtain ⟨b, o, e, _, _⟩ := hrs 0 r rfl
        cases e
        intro j u hj
        rw [add_at]
        refine insCells_cell (o := o) (r :: l) o (fun i c hc => ?_) j u hj
        obtain ⟨b', o', e, _, k⟩ := hrs i c hc
        cases e
        exact k
    have hl := run_loadCells_list (P := Tryz.prog) w ad (insCells cs) hcell
    rw [insCells_length] at hl
    have hst := run_storeCells_at Tryz.prog g 0 86 (insCells cs) 0 cur w hg (by rw [insCells_length, hc]; omega) (insCells_one cs)
    have hrow : (cur.toList.take (0 + 0) ++ insCells cs ++ cur.toList.drop (0 + 0 + (insCells cs).length)).toArray = (insCells cs).toArray := by
      rw [insCells_length, List.drop_of_length_le (by simp [hc])]
      simp
    rw [hrow] at hst
    refine ⟨w.setRow g (insCells cs).toArray, fun ty => ?_, setRow_heap w g _ _ _ _ hg, ⟨rfl, rfl, rfl, by simp [World.setRow], fun k hk => setRow_other w g k _ (by omega)⟩, fun b hb => setRow_other w g b _ hb⟩
    simp [Builtin.copy_, run_underlying Tryz.underlying81, Builtin.lenOf, Builtin.firstCells, sizeOf, typeInfo, hi1, hi3, hmin, hl, hst, goInt]

/-- Values, each a filter in a row of its own, from block L on. -/
def FvsN (L : Nat) (w : World) (xs : List Value) (ls : ChT) : Prop := xs.length = ls.length ∧ ∀ (i : Nat) x f, xs[i]? = some x → ls[i]? = some f → w.ownsRow L 86 4 x f.length (insCells f) ∧ ∀ c ∈ f, insWf c
theorem FvsN.keep {L : Nat} {w w' : World} {xs : List Value} {ls : ChT} (h : FvsN L w xs ls) (hk : KeepT 86 w w') : FvsN L w' xs ls := ⟨h.1, fun i x f hx hf => ⟨ownsRow_keepT (h.2 i x f hx hf).1 hk, (h.2 i x f hx hf).2⟩⟩
theorem FvsN.base {L L' : Nat} {w : World} {xs : List Value} {ls : ChT} (h : FvsN L w xs ls) (hL : L' ≤ L) : FvsN L' w xs ls := ⟨h.1, fun i x f hx hf => ⟨ownsRow_base (h.2 i x f hx hf).1 hL, (h.2 i x f hx hf).2⟩⟩
theorem FvsN.nil (L : Nat) (w : World) : FvsN L w [] [] := ⟨rfl, fun i x f hx => by simp at hx⟩
theorem FvsN.snoc {L : Nat} {w : World} {xs : List Value} {ls : ChT} {x : Value} {f : List InsT} (h : FvsN L w xs ls) (ho : w.ownsRow L 86 4 x f.length (insCells f)) (hw : ∀ c ∈ f, insWf c) : FvsN L w (xs ++ [x]) (ls ++ [f]) := by
  refine ⟨by simp [h.1], fun i y g hy hg => ?_⟩
  by_cases hi : i < xs.length
  · rw [List.getElem?_append_left hi] at hy
    rw [List.getElem?_append_left (by rw [← h.1]; exact hi)] at hg
    exact h.2 i y g hy hg
  · rw [List.getElem?_append_right (by omega)] at hy
    rw [List.getElem?_append_right (by rw [← h.1]; omega), ← h.1] at hg
    match hk : i - xs.length, hy, hg with
    | 0, hy, hg =>
      simp at hy hg
      subst hy hg
      exact ⟨ho, hw⟩
    | k + 1, hy, _ => simp at hy
theorem FvsN.at {L : Nat} {w : World} {xs : List Value} {ls : ChT} (h : FvsN L w xs ls) : FvsAt w.heap.size w xs ls := ⟨h.1, fun i x f hx hf => inssAt_own (h.2 i x f hx hf).1 (h.2 i x f hx hf).2⟩

/-- What stands while Copy goes on: the filters copied so far, and room for the rest. -/
def CcAt (L G n : Nat) (ls : ChT) (w : World) : Prop :=
  ∃ xs rest, w.heap[G]? = some (.cells (xs ++ rest).toArray 81 (0, 0)) ∧ xs.length + rest.length = n ∧ FvsN L w xs ls
theorem CcAt.cell {L G n : Nat} {ls : ChT} {w : World} (h : CcAt L G n ls w) (j : Nat) (hj : j < n) : ∃ u, w.cell? ⟨G, j, none⟩ = some u ∧ w.frozen? ⟨G, j, none⟩ = false := by
  obtain ⟨xs, rest, h1, h2, h3⟩ := h
  exact ⟨(xs ++ rest)[j]'(by simp; omega), heap_cell h1 j (by simp), by simp [World.frozen?, h1]⟩
theorem CcAt.later {L G n : Nat} {ls : ChT} {w w' : World} (h : CcAt L G n ls w) (hb : Below w.heap.size w w') : CcAt L G n ls w' := by
  obtain ⟨xs, rest, h1, h2, h3⟩ := h
  exact ⟨xs, rest, (hb.block G (lt_of_block h1)).trans h1, h2, h3.keep (KeepT.of_below hb)⟩
theorem CcAt.put {L G n : Nat} {ls : ChT} {w : World} {cv : Value} {f : List InsT} (h : CcAt L G n ls w) (hn : ls.length < n) (hw : ∀ c ∈ f, insWf c) (ho : w.ownsRow L 86 4 cv f.length (insCells f)) :
    CcAt L G n (ls ++ [f]) (w.setCell ⟨G, ls.length, none⟩ cv) := by
  obtain ⟨xs, rest, h1, h2, h3⟩ := h
  have hxl := h3.1
  obtain ⟨u0, rest', rfl⟩ : ∃ u0 rest', rest = u0 :: rest' := by
    match rest, h2 with
    | [], h2 => simp at h2; omega
    | u0 :: rest', _ => exact ⟨u0, rest', rfl⟩
  have e1 := row_setCell (o := ls.length) (u := cv) h1
  have hk1 : KeepT 86 w (w.setCell ⟨G, ls.length, none⟩ cv) := KeepT.setOther h1 (by decide)
  refine ⟨xs ++ [cv], rest', ?_, by simp at h2 ⊢; omega, (h3.keep hk1).snoc (ownsRow_keepT ho hk1) hw⟩
  rw [e1]
  congr 2
  rw [← hxl]
  apply Array.ext'
  simp [List.set_append]
theorem CcAt.done {L G n : Nat} {ls : ChT} {w : World} (h : CcAt L G n ls w) (hn : ls.length = n) (hL : L ≤ G) (hm : n ≤ maxLen) : ∃ xs, w.ownsRow L 81 1 (.slice (some ⟨G, 0, none⟩) n n) n xs ∧ FvsN L w xs ls := by
  obtain ⟨xs, rest, h1, h2, h3⟩ := h
  have hxl := h3.1
  refine ⟨xs, ⟨by omega, .inr ⟨G, n, _, rfl, hL, h1, Nat.le_refl _, hm, by simp; omega, ?_⟩⟩, h3⟩
  simp
  rw [List.take_left' (by omega)]

set_option maxHeartbeats 8000000 in
theorem copyCh_any (B : Nat) (lv : Value) (ls : ChT) (w : World) (hl : ChsAt B w lv ls) (hB : B ≤ w.heap.size) (hn : ls.length ≤ 1000) (h10 : ∀ f ∈ ls, f.length ≤ 100000) :
    Calls Tryz.prog 121 #[lv] w fun e w' => ∃ v, e = .returned v ∧ ∃ xs, w'.ownsRow w.heap.size 81 1 v ls.length xs ∧ FvsN w.heap.size w' xs ls ∧ Below w.heap.size w w' := by
  have HLS : Hid (∀ w', Below w.heap.size w w' → ChsAt B w' lv ls) := fun w' h => hl.later h hB
  have H10 : Hid (∀ f ∈ ls, f.length ≤ 100000) := h10
  obtain ⟨a, c, e3, -, -, -⟩ := hl
  subst e3
  clear h10
  obtain ⟨n, hn0⟩ : ∃ n, n = ls.length := ⟨_, rfl⟩
  have HN : Hid (ls.length = n) := hn0.symm
  rw [← hn0] at hn HLS ⊢
  clear hn0
  have hml := maxLen_eq
  have hmk0 := fun w => make_filsC n (by omega) w
  obtain ⟨mc, hmc⟩ : ∃ mc, mc = madeCells #[.slice none 0 0] n := ⟨_, rfl⟩
  rw [← hmc] at hmk0
  have hmk : ∀ w, (Instr.makeSlice 75 (.int .i64 n) (.int .i64 n)).run Tryz.prog w = .ok (.slice (some ⟨w.heap.size, 0, none⟩) n n) (w.alloc (.cells mc 81)) := hmk0
  have hmcs : mc.size = n := by rw [hmc, size_madeCells]
  clear hmk0 hmc
  obtain ⟨W3, hW3⟩ : ∃ W3, W3 = w.alloc (.cells mc 81) := ⟨_, rfl⟩
  have hs3 : W3.heap.size = w.heap.size + 1 := by rw [hW3]; simp
  have hb3 : Below w.heap.size w W3 := by rw [hW3]; exact (Below.refl _ _).alloc (Nat.le_refl _) _
  have g2 : W3.heap[w.heap.size]? = some (.cells mc 81 (0, 0)) := by
    rw [hW3]
    exact heap_at _ _ rfl
  have HC0 : Hid (CcAt w.heap.size w.heap.size n (ls.take 0) W3) := ⟨[], mc.toList, by simpa using g2, by simpa using hmcs, FvsN.nil _ _⟩
  have HBx : Hid (∀ v, Below w.heap.size W3 v → Below w.heap.size w v) := fun v h => hb3.trans h
  have HW : Hid (W3 = _) := hW3
  clear hW3 g2 hmcs
  go_enter Tryz.func121, Tryz.ntmps121
  go_wp2_with fail
  rw [← HW.out]
  clear hmk
  go_loopw [12] (fun iv wr => ∃ k : Nat, k ≤ n ∧ iv = .int .i64 k ∧ Hid (CcAt w.heap.size w.heap.size n (ls.take k) wr) ∧ Hid (Below w.heap.size W3 wr)) (fun iv _ => n - (intOf iv).toNat)
  case atStart => exact ⟨0, by omega, rfl, HC0, Below.refl _ _⟩
  case round =>
    obtain ⟨k, hk, rfl, HC, HBl⟩ := hrel
    obtain ⟨wo, hwo⟩ : ∃ x, x = wr := ⟨_, rfl⟩
    subst hwo
    have k0 : (0 : Int) ≤ (k : Int) := by omega
    have hbw := HBx.out _ HBl.out
    have hos : w.heap.size + 1 ≤ wo.heap.size := by have := HBl.out.size; omega
    by_cases hlt : k < n
    · have k1 : (k : Int) < (n : Int) := by omega
      obtain ⟨f, hrk⟩ : ∃ f, ls[k]? = some f := ⟨ls[k]'(by rw [HN.out]; omega), by simp⟩
      have HTk : Hid (ls.take (k + 1) = ls.take k ++ [f]) := by unfold Hid; rw [List.take_succ, hrk]; rfl
      have HTl : Hid ((ls.take k).length = k) := by unfold Hid; rw [List.length_take, HN.out]; omega
      have hr10 := H10.out f (List.mem_of_getElem? hrk)
      obtain ⟨_, _, e1, -, -, hat⟩ := HLS.out _ hbw
      obtain ⟨b3, o3, fv, e, hbB3, q0, hcs⟩ := hat k f hrk
      simp at e1
      obtain ⟨rfl, -, -⟩ := e1
      subst e
      clear hat hrk
      have HWr : Hid (∀ c ∈ f, insWf c) := hcs.wf
      obtain ⟨W5, hW5⟩ : ∃ W5, W5 = wo.alloc (.cells (madeCells #[.int .i64 0, .int .i64 0, .int .i64 0, .int .i64 0] (f.length * 4)) 86) := ⟨_, rfl⟩
      have hs5 : W5.heap.size = wo.heap.size + 1 := by rw [hW5]; simp
      have hb5 : Below wo.heap.size wo W5 := by rw [hW5]; exact (Below.refl _ _).alloc (Nat.le_refl _) _
      have c5 : W5.heap[wo.heap.size]? = some (.cells (madeCells #[.int .i64 0, .int .i64 0, .int .i64 0, .int .i64 0] (f.length * 4)) 86 (0, 0)) := by
        rw [hW5]
        exact heap_at _ _ rfl
      obtain ⟨W6, hrun, c6, hb6, hk6⟩ := run_copy_inss B wo.heap.size fv f _ W5 (hcs.later hb5 (by omega)) c5 (by rw [size_madeCells])
      have hs6 : W6.heap.size = wo.heap.size + 1 := by
        have h1 := hb6.size
        have h2 : W6.heap[wo.heap.size + 1]? = none := by
          rw [hk6 _ (by omega)]
          exact Array.getElem?_eq_none (by omega)
        have := Array.getElem?_eq_none_iff.1 h2
        omega
      have hb6w : Below wo.heap.size wo W6 := hb5.trans (hb6.mono (by omega))
      have HC6 : Hid (CcAt w.heap.size w.heap.size n (ls.take k) W6) := HC.out.later hb6w
      have HO6 : Hid (W6.ownsRow w.heap.size 86 4 (.slice (some ⟨wo.heap.size, 0, none⟩) f.length f.length) f.length (insCells f)) := ⟨by rw [insCells_length], .inr ⟨wo.heap.size, f.length, _, rfl, by omega, c6, Nat.le_refl _, by rw [maxLen_eq]; omega, by simp [insCells_length], by rw [List.take_of_length_le (by simp [insCells_length])]⟩⟩
      have HB6 : Hid (Below w.heap.size W3 W6) := Below.thenOf HBl.out hb6w (by omega)
      obtain ⟨a9, c9, ecv, -, -⟩ := hcs.shape
      subst ecv
      have hmk0 := fun w => make_inssC f.length (by omega) w
      obtain ⟨rl, hrl⟩ : ∃ rl, rl = f.length := ⟨_, rfl⟩
      have Hrl : Hid (f.length = rl) := hrl.symm
      obtain ⟨mk, hmk'⟩ : ∃ mk, mk = madeCells #[.int .i64 0, .int .i64 0, .int .i64 0, .int .i64 0] (f.length * 4) := ⟨_, rfl⟩
      rw [← hmk'] at hmk0 hW5
      rw [← hrl] at hmk0 hr10 q0 hrun HO6
      have hmk : ∀ w, (Instr.makeSlice 81 (.int .i64 rl) (.int .i64 rl)).run Tryz.prog w = .ok (.slice (some ⟨w.heap.size, 0, none⟩) rl rl) (w.alloc (.cells mk 86)) := hmk0
      have HW5 : Hid (W5 = _) := hW5
      obtain ⟨u0, v0, w0⟩ := HC6.out.cell k (by omega)
      have HNx : Hid (CcAt w.heap.size w.heap.size n (ls.take (k + 1)) (W6.setCell ⟨w.heap.size, k, none⟩ (.slice (some ⟨wo.heap.size, 0, none⟩) rl rl)) ∧ Below w.heap.size W3 (W6.setCell ⟨w.heap.size, k, none⟩ (.slice (some ⟨wo.heap.size, 0, none⟩) rl rl))) := by
        refine ⟨?_, HB6.out.setCell (p := ⟨w.heap.size, k, none⟩) (Nat.le_refl _) _⟩
        have := HC6.out.put (cv := .slice (some ⟨wo.heap.size, 0, none⟩) rl rl) (f := f) (by rw [HTl.out]; omega) HWr.out (by rw [Hrl.out]; exact HO6.out)
        rw [HTl.out] at this
        rw [HTk.out]
        exact this
      clear hs5 hb5 c5 c6 hb6 hk6 hb6w HC6 HO6 hW5 hmk' hmk0 hrl hcs HC HBl hbw hb3 HB6
      have HRun : Hid _ := hrun
      clear hrun
      go_wp2_with fail
      rw [← HW5.out, HRun.out]
      clear hmk
      go_wp2_with fail
      exact ⟨⟨k + 1, by omega, by go_num, HNx.out.1, HNx.out.2⟩, by simp [intOf]; omega⟩
    · have e : k = n := by omega
      subst e
      have HE : Hid (ls.take k = ls) := by unfold Hid; rw [← HN.out, List.take_length]
      rw [HE.out] at HC
      obtain ⟨xs, hox, hfx⟩ := HC.out.done HN.out (Nat.le_refl _) (by omega)
      have HF : Hid (wo.ownsRow w.heap.size 81 1 (.slice (some ⟨w.heap.size, 0, none⟩) k k) k xs ∧ FvsN w.heap.size wo xs ls) := ⟨hox, hfx⟩
      have k1 : ¬ ((k : Int) < (k : Int)) := by omega
      have HBw : Hid (Below w.heap.size w wo) := hbw
      clear hox hfx hbw HC HBl HC0 hb3
      go_wp2_with fail
      go_ret
      exact ⟨_, rfl, xs, HF.out.1, HF.out.2, HBw.out⟩

/-- A chain all of whose memory is new: from block L on. -/
def ChsNew (L : Nat) (w : World) (v : Value) (ls : ChT) : Prop := ∀ wF : World, (∀ g, L ≤ g → g < w.heap.size → wF.heap[g]? = w.heap[g]?) → w.heap.size ≤ wF.heap.size → ChsAt wF.heap.size wF v ls
theorem ChsNew.at {L : Nat} {w : World} {v : Value} {ls : ChT} (h : ChsNew L w v ls) : ChsAt w.heap.size w v ls := h w (fun _ _ _ => rfl) (Nat.le_refl _)
theorem ChsNew.keep {L L' : Nat} {w w' : World} {v : Value} {ls : ChT} (h : ChsNew L w v ls) (hL : L' ≤ L) (hk : ∀ g, L ≤ g → g < w.heap.size → w'.heap[g]? = w.heap[g]?) (hs : w.heap.size ≤ w'.heap.size) : ChsNew L' w' v ls :=
  fun wF h1 h2 => h wF (fun g hg hl => (h1 g (Nat.le_trans hL hg) (Nat.lt_of_lt_of_le hl hs)).trans (hk g hg hl)) (Nat.le_trans hs h2)
theorem ChsNew.later {L L' : Nat} {w w' : World} {v : Value} {ls : ChT} (h : ChsNew L w v ls) (hL : L' ≤ L) (hb : Below w.heap.size w w') : ChsNew L' w' v ls := h.keep hL (fun g _ hl => hb.block g hl) hb.size
theorem ChsNew.put {L : Nat} {w : World} {v : Value} {ls : ChT} {b o : Nat} {u : Value} (h : ChsNew L w v ls) (hb : b < L ∨ w.heap.size ≤ b) : ChsNew L (w.setCell ⟨b, o, none⟩ u) v ls := h.keep (Nat.le_refl _) (fun g hg hl => Below.heap_setCell _ _ _ _ (by show g ≠ b; omega)) (by simp)
theorem chsNew_nil (L : Nat) (w : World) : ChsNew L w (.slice none 0 0) [] := fun wF _ _ => chsAt_nil _ _
theorem chsNew_own {L : Nat} {w : World} {v : Value} {xs : List Value} {ls : ChT} (h : w.ownsRow L 81 1 v ls.length xs) (hx : FvsN L w xs ls) : ChsNew L w v ls := by
  intro wF h1 h2
  have hx' : FvsN L wF xs ls := ⟨hx.1, fun i x f a b => ⟨ownsRow_block (hx.2 i x f a b).1 fun g cur hg hc => h1 g hg (lt_of_block hc), (hx.2 i x f a b).2⟩⟩
  exact chsAt_own (ownsRow_block h fun g cur hg hc => h1 g hg (lt_of_block hc)) hx'.at
end Go.Proofs.YtbdlojnigflanacGreatDoor
end
