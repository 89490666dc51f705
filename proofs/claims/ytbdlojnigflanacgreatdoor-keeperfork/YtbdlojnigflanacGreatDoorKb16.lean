/- Joined: Ref Ref2 InsC Cmp1 Cmp2. -/
import Derived.Test.YtbdlojnigflanacGreatDoorKb15
import Derived.Test.YtbdlojnigflanacGreatDoorKb03
import Derived.Test.YtbdlojnigflanacGreatDoorKb13
import Derived.Test.YtbdlojnigflanacGreatDoorKb10
import Derived.Lib.AppendZerosOnto
import Derived.Lib.AppendZeros
section
/- What the counterpart says of filters: the same. -/
set_option linter.all false
set_option maxRecDepth 100000
namespace Go.Proofs.YtbdlojnigflanacGreatDoor
open Go.RowKit Go.Maps

end Go.Proofs.YtbdlojnigflanacGreatDoor
end
section
/- What the counterpart's Ran says of a right filter: the same. -/
set_option linter.all false
set_option maxRecDepth 100000
namespace Go.Proofs.YtbdlojnigflanacGreatDoor
open Go.RowKit Go.Maps

end Go.Proofs.YtbdlojnigflanacGreatDoor
end
section
/- Filters in rows of one's own. -/
set_option linter.all false
set_option maxRecDepth 100000
namespace Go.Proofs.YtbdlojnigflanacGreatDoor
open Go.RowKit Go.Maps

theorem infoIns : ∃ i, Tryz.prog.info? 86 = some i ∧ i.zero = some (.agg #[.int .i64 0, .int .i64 0, .int .i64 0, .int .i64 0]) ∧ i.size = 4 ∧ i.bytes = 32 := infoOf (by kernel_rfl)

def insCells (l : List InsT) : List Value := l.flatMap fun c => [.int .i64 c.1, .int .i64 c.2.1, .int .i64 c.2.2.1, .int .i64 c.2.2.2]
theorem insCells_cons (c : InsT) (l : List InsT) : insCells (c :: l) = .int .i64 c.1 :: .int .i64 c.2.1 :: .int .i64 c.2.2.1 :: .int .i64 c.2.2.2 :: insCells l := rfl
theorem insCells_append (l m : List InsT) : insCells (l ++ m) = insCells l ++ insCells m := by unfold insCells; exact List.flatMap_append
theorem insCells_length : ∀ l : List InsT, (insCells l).length = l.length * 4
  | [] => rfl
  | c :: r => by rw [insCells_cons]; simp [insCells_length r]; omega
theorem insCells_one : ∀ (l : List InsT), ∀ u ∈ insCells l, u.oneCell' = true
  | [], u, h => by cases h
  | c :: r, u, h => by
    rw [insCells_cons] at h
    simp at h
    rcases h with rfl | rfl | rfl | rfl | h
    · rfl
    · rfl
    · rfl
    · rfl
    · exact insCells_one r u h
theorem insCells_get : ∀ (l : List InsT) (i : Nat) (c : InsT), l[i]? = some c → (insCells l)[i * 4]? = some (.int .i64 c.1) ∧ (insCells l)[i * 4 + 1]? = some (.int .i64 c.2.1) ∧ (insCells l)[i * 4 + 2]? = some (.int .i64 c.2.2.1) ∧ (insCells l)[i * 4 + 3]? = some (.int .i64 c.2.2.2)
  | [], _, _, h => by simp at h
  | c' :: r, 0, c, h => by
    simp at h
    subst h
    simp [insCells_cons]
  | c' :: r, i + 1, c, h => by
    have ih := insCells_get r i c (by simpa using h)
    rw [insCells_cons, show (i + 1) * 4 = i * 4 + 4 by omega]
    exact ih
/-- Cells one by one. -/
theorem insCells_cell {w : World} {b o : Nat} : ∀ (l : List InsT) (o : Nat), (∀ i c, l[i]? = some c → InsAt w b (o + i * 4) c) → ∀ j u, (insCells l)[j]? = some u → w.cell? ⟨b, o + j, none⟩ = some u
  | [], _, _, j, u, h => by simp [insCells] at h
  | c :: r, o, hat, j, u, h => by
    obtain ⟨c0, c1, c2, c3, _⟩ := hat 0 c rfl
    simp only [Nat.zero_mul, Nat.add_zero] at c0 c1 c2 c3
    rw [insCells_cons] at h
    match j, h with
    | 0, h => simp at h; subst h; simpa using c0
    | 1, h => simp at h; subst h; exact c1
    | 2, h => simp at h; subst h; exact c2
    | 3, h => simp at h; subst h; exact c3
    | j + 4, h =>
      have := insCells_cell (b := b) (o := o) r (o + 4) (fun i c hc => by
        have := hat (i + 1) c (by simpa using hc)
        rw [show o + (i + 1) * 4 = o + 4 + i * 4 by omega] at this
        exact this) j u (by simpa using h)
      rw [show o + (j + 4) = o + 4 + j by omega]
      exact this
/-- And back: a row of the call's own that holds them. -/
theorem inssAt_own {L : Nat} {w : World} {v : Value} {l : List InsT} (h : w.ownsRow L 86 4 v l.length (insCells l)) (hwf : ∀ c ∈ l, insWf c) : InssAt w.heap.size w v l := by
  obtain ⟨a, cap, rfl, h1, h2, h3⟩ := ownsRow_caps h
  refine ⟨a, cap, rfl, h1, h2, fun i c hc => ?_⟩
  have hi : i < l.length := (List.getElem?_eq_some_iff.1 hc).1
  obtain ⟨g, rfl, hg1, hg2⟩ := h3 (by omega)
  obtain ⟨e0, e1, e2, e3⟩ := insCells_get l i c hc
  refine ⟨g, 0, rfl, hg2, ?_, ?_, ?_, ?_, hwf c (List.mem_of_getElem? hc)⟩
  all_goals rw [Nat.zero_add]
  · exact ownsRow_cell h _ _ e0
  · exact ownsRow_cell h _ _ e1
  · exact ownsRow_cell h _ _ e2
  · exact ownsRow_cell h _ _ e3
theorem InssAt.wf {B : Nat} {w : World} {v : Value} {l : List InsT} (h : InssAt B w v l) : ∀ c ∈ l, insWf c := by
  intro c hc
  obtain ⟨i, hi⟩ := List.mem_iff_getElem?.1 hc
  obtain ⟨_, _, _, _, _, h4⟩ := h
  obtain ⟨_, _, _, _, k⟩ := h4 i c hi
  exact k.2.2.2.2

end Go.Proofs.YtbdlojnigflanacGreatDoor
end
section
/- What the program's own Compile makes of a rule. -/
set_option linter.all false
set_option maxRecDepth 100000
namespace Go.Proofs.YtbdlojnigflanacGreatDoor
open Go.RowKit Go.Maps

theorem condsI_take : ∀ (cs : List CondT) (k : Nat) (c : CondT), cs[k]? = some c → (condsI cs).take (2 * (k + 1)) = (condsI cs).take (2 * k) ++ [(1, c.1, 0, 0), askI c (2 * ((cs.length : Int) - k - 1) + 1)]
  | [], _, _, h => by simp at h
  | d :: r, 0, c, h => by
    simp at h
    subst h
    rw [condsI]
    simp
  | d :: r, k + 1, c, h => by
    have ih := condsI_take r k c (by simpa using h)
    rw [condsI, show 2 * (k + 1 + 1) = 2 * (k + 1) + 1 + 1 by omega, show 2 * (k + 1) = 2 * k + 1 + 1 by omega, List.take_succ_cons, List.take_succ_cons, List.take_succ_cons, List.take_succ_cons, show 2 * k + 1 + 1 = 2 * (k + 1) by omega, ih]
    have e : (2 * ((r.length : Int) - k - 1) + 1) = (2 * (((d :: r).length : Int) - (k + 1 : Nat) - 1) + 1) := by simp; omega
    rw [e]
    rfl
theorem condsI_all (cs : List CondT) : (condsI cs).take (2 * cs.length) = condsI cs := List.take_of_length_le (by rw [condsI_length]; omega)

set_option maxHeartbeats 1000000 in
theorem give_any (v : Int) (w : World) :
    Calls Tryz.prog 114 #[.int .i64 v] w fun e w' => e = .returned (.agg #[.int .i64 4, .int .i64 v, .int .i64 0, .int .i64 0]) ∧ Below w.heap.size w w' := by
  go_enter Tryz.func114, Tryz.ntmps114
  go_wp2
  refine bodyPost_ret (v := .agg #[.int .i64 4, .int .i64 v, .int .i64 0, .int .i64 0]) ?_ rfl ⟨rfl, ?_⟩
  · rw [results_cell1 rfl]
    go_simp
  · repeat (first | exact Below.refl _ _ | refine Below.setCell ?_ (by simp) _ | refine Below.alloc ?_ (by simp) _)

set_option maxHeartbeats 1000000 in
theorem ask_any (f op v : Int) (left : Int) (w : World) :
    Calls Tryz.prog 162 #[.agg #[.int .i64 f, .int .i64 op, .int .i64 v], .int .i64 left] w fun e w' => e = .returned (insV (askI (f, op, v) left)) ∧ Below w.heap.size w w' := by
  by_cases h1 : op = 1
  · subst h1
    go_enter Tryz.func162, Tryz.ntmps162
    go_wp2
    refine bodyPost_ret (v := .agg #[.int .i64 2, .int .i64 v, .int .i64 0, .int .i64 left]) ?_ rfl ⟨rfl, ?_⟩
    · rw [results_cell1 rfl]
      go_simp
    · repeat (first | exact Below.refl _ _ | refine Below.setCell ?_ (by simp) _ | refine Below.alloc ?_ (by simp) _)
  · by_cases h2 : op = 2
    · subst h2
      clear h1
      go_enter Tryz.func162, Tryz.ntmps162
      go_wp2
      refine bodyPost_ret (v := .agg #[.int .i64 2, .int .i64 v, .int .i64 left, .int .i64 0]) ?_ rfl ⟨rfl, ?_⟩
      · rw [results_cell1 rfl]
        go_simp
      · repeat (first | exact Below.refl _ _ | refine Below.setCell ?_ (by simp) _ | refine Below.alloc ?_ (by simp) _)
    · by_cases h3 : op = 3
      · subst h3
        clear h1 h2
        go_enter Tryz.func162, Tryz.ntmps162
        go_wp2
        refine bodyPost_ret (v := .agg #[.int .i64 3, .int .i64 v, .int .i64 0, .int .i64 left]) ?_ rfl ⟨rfl, ?_⟩
        · rw [results_cell1 rfl]
          go_simp
        · repeat (first | exact Below.refl _ _ | refine Below.setCell ?_ (by simp) _ | refine Below.alloc ?_ (by simp) _)
      · have HE : Hid (askI (f, op, v) left = (3, v, left, 0)) := by unfold Hid askI; simp [h1, h2, h3]
        have q1 : (op == 1) = false := by simpa using h1
        have q2 : (op == 2) = false := by simpa using h2
        have q3 : (op == 3) = false := by simpa using h3
        clear h1 h2 h3
        go_enter Tryz.func162, Tryz.ntmps162
        go_wp2
        refine bodyPost_ret (v := .agg #[.int .i64 3, .int .i64 v, .int .i64 left, .int .i64 0]) ?_ rfl ⟨by rw [HE.out]; rfl, ?_⟩
        · rw [results_cell1 rfl]
          go_simp
        · repeat (first | exact Below.refl _ _ | refine Below.setCell ?_ (by simp) _ | refine Below.alloc ?_ (by simp) _)

end Go.Proofs.YtbdlojnigflanacGreatDoor
end
section
/- What the program's own Compile makes of a rule: the walk. -/
set_option linter.all false
set_option maxRecDepth 100000
namespace Go.Proofs.YtbdlojnigflanacGreatDoor
open Go.RowKit Go.Maps

def SApp (c : Value) (m k : Nat) (v : Value) : Prop := if k = 6 then v = c else if k = 7 then ∃ g, v = .slice (some ⟨g, 0, none⟩) 2 2 else ∃ a cap, v = .slice a m cap
theorem sApp_some (c : Value) (m k : Nat) : ∃ v, SApp c m k v := by
  unfold SApp
  split
  · exact ⟨_, rfl⟩
  · split
    · exact ⟨_, 0, rfl⟩
    · exact ⟨_, none, 0, rfl⟩

set_option maxHeartbeats 4000000 in
theorem appendRule_any (B base : Nat) (lv cv : Value) (n : Nat) (xs : List Value) (r : RuleT) (w : World) (hown : w.ownsRow base 86 4 lv n xs) (hc : CondsAt B w cv r.1) (hB : B ≤ base) (hbase : base ≤ w.heap.size) (hn : n ≤ 1000000) (hl : r.1.length ≤ 10) :
    Calls Tryz.prog 113 #[lv, .agg #[cv, .int .i64 r.2]] w fun e w' => ∃ v', e = .returned v' ∧ w'.ownsRow base 86 4 v' (n + (ruleI r).length) (xs ++ insCells (ruleI r)) ∧ Below base w w' ∧ ButT 86 w w' := by
  obtain ⟨inf, hi1, hi2, hi3, hi4⟩ := infoIns
  obtain ⟨cs, vd⟩ := r
  have HC : Hid (∀ w', Below base w w' → CondsAt B w' cv cs) := fun w' h => hc.later h hB
  obtain ⟨a, cap, rfl, hlc, hcm, _⟩ := hc
  simp only [] at hl hlc ⊢
  have HOw : Hid (w.ownsRow base 86 4 lv n xs) := hown
  clear hown
  obtain ⟨len, hlen⟩ : ∃ len, len = cs.length := ⟨_, rfl⟩
  have hlenH : Hid (cs.length = len) := hlen.symm
  rw [← hlen] at hl hlc ⊢
  have hml := maxLen_eq
  have hRL : Hid ((ruleI (cs, vd)).length = 2 * len + 1) := by unfold Hid; rw [ruleI_length, hlen]
  clear hlen
  obtain ⟨W1, hW1⟩ : ∃ W1, W1 = w.alloc (.cells #[.slice a len cap, .int .i64 vd] 95) := ⟨_, rfl⟩
  have hbW1 : Below w.heap.size w W1 := by rw [hW1]; exact (Below.refl _ _).alloc (Nat.le_refl _) _
  have hRb : W1.heap[w.heap.size]? = some (.cells #[.slice a len cap, .int .i64 vd] 95 (0, 0)) := by rw [hW1]; exact (MapKept.heap_alloc w _).1
  have hs1 : W1.heap.size = w.heap.size + 1 := by rw [hW1]; simp
  have HO1 : Hid (W1.ownsRow base 86 4 lv n xs) := ownsRow_below HOw.out hbW1
  have HT : Hid (ButT 86 w W1) := ButT.of_below hbW1
  go_enter Tryz.func113, Tryz.ntmps113
  go_wp2
  rw [← hW1]
  clear hW1
  have hA0 : Hid (W1.ownsRow base 86 4 lv (n + 2 * 0) (xs ++ insCells ((condsI cs).take (2 * 0)))) := by unfold Hid; simpa [insCells] using HO1.out
  have hB1 : Below base w W1 := hbW1.mono hbase
  clear hbW1 HO1 HOw
  go_loopw [0, 5, 16] (fun nv left iv wr => ∃ k : Nat, k ≤ len ∧ iv = .int .i64 k ∧ left = .int .i64 (2 * ((len : Int) - k) + 1) ∧ Hid (wr.ownsRow base 86 4 nv (n + 2 * k) (xs ++ insCells ((condsI cs).take (2 * k)))) ∧ Below base w wr ∧ Hid (ButT 86 W1 wr) ∧ w.heap.size < wr.heap.size) (fun _ _ iv _ => len - (intOf iv).toNat)
  case atStart => exact ⟨0, by omega, rfl, by simp, hA0, hB1, ButT.refl _ _, by omega⟩
  case round =>
    obtain ⟨k, hk, rfl, rfl, HOr, hbr, hbt, hsr⟩ := hrel
    obtain ⟨wo, hwo⟩ : ∃ x, x = wr := ⟨_, rfl⟩
    subst hwo
    have i0 : (0 : Int) ≤ (k : Int) := by omega
    have hRbo := hbt.out _ _ _ _ hRb (by decide)
    have hos := hbr.size
    by_cases hlt : k < len
    · have i1 : (k : Int) < (len : Int) := by omega
      obtain ⟨c, hck⟩ : ∃ c, cs[k]? = some c := ⟨cs[k]'(by rw [hlenH.out]; omega), by simp⟩
      obtain ⟨_, _, e0, _, _, hat⟩ := HC.out _ hbr
      obtain ⟨b, o, e, hbB, hc0, hc1, hc2, _⟩ := hat k c hck
      simp at e0
      obtain ⟨rfl, _, _⟩ := e0
      subst e
      clear hat
      have HT : Hid ((condsI cs).take (2 * (k + 1)) = (condsI cs).take (2 * k) ++ [(1, c.1, 0, 0), askI c (2 * ((len : Int) - k - 1) + 1)]) := by
        have := condsI_take cs k c hck
        rw [hlenH.out] at this
        exact this
      obtain ⟨f, op, v⟩ := c
      simp only [] at hc0 hc1 hc2 HT
      obtain ⟨W2, hW2⟩ : ∃ W2, W2 = wo.alloc (.cells #[.int .i64 f, .int .i64 op, .int .i64 v] 99) := ⟨_, rfl⟩
      have hb2 : Below wo.heap.size wo W2 := by rw [hW2]; exact (Below.refl _ _).alloc (Nat.le_refl _) _
      have hCb : W2.heap[wo.heap.size]? = some (.cells #[.int .i64 f, .int .i64 op, .int .i64 v] 99 (0, 0)) := by rw [hW2]; exact heap_made _ _
      have HO2 : Hid (W2.ownsRow base 86 4 u0 (n + 2 * k) (xs ++ insCells ((condsI cs).take (2 * k)))) := ownsRow_below HOr.out hb2
      have hs2 := hb2.size
      have hbase2 : base ≤ W2.heap.size := by omega
      have HB2 : Hid (Below base w W2) := Below.thenOf hbr hb2 (Nat.le_trans hbase hos)
      have HT2 : Hid (ButT 86 W1 W2) := hbt.out.trans (ButT.of_below hb2)
      obtain ⟨lf, hlf⟩ : ∃ lf : Int, lf = 2 * ((len : Int) - k - 1) + 1 := ⟨_, rfl⟩
      have hlf' : 2 * ((len : Int) - k) + 1 - 2 = lf := by omega
      have hlw : IntKind.i64.wrap (2 * ((len : Int) - k) + 1 - 2) = lf := by rw [hlf']; exact IntWalk.i64_in _ (by omega)
      rw [← hlf] at HT
      have hlfH : Hid (lf = 2 * ((len : Int) - k - 1) + 1) := hlf
      clear hlf
      obtain ⟨ak, hak⟩ : ∃ a, a = askI (f, op, v) lf := ⟨_, rfl⟩
      rw [← hak] at HT
      have HAsk : Hid (∀ w', Calls Tryz.prog 162 #[.agg #[.int .i64 f, .int .i64 op, .int .i64 v], .int .i64 lf] w' fun e w'' => e = .returned (insV ak) ∧ Below w'.heap.size w' w'') := fun w' => by rw [hak]; exact ask_any f op v lf w'
      clear hak
      obtain ⟨a0, a1, a2, a3⟩ := ak
      go_wp2
      rw [← hW2]
      clear hW2
      have hne := ButW.ne 86 W2
      have q0 : ∀ z : ButW 86 W2, z.1.cell? ⟨wo.heap.size, 0, none⟩ = some (.int .i64 f) := fun z => z.cell hCb (by decide) (heap_cell hCb 0 rfl)
      have q1 : ∀ z : ButW 86 W2, z.1.cell? ⟨wo.heap.size, 1, none⟩ = some (.int .i64 op) := fun z => z.cell hCb (by decide) (heap_cell hCb 1 rfl)
      have q2 : ∀ z : ButW 86 W2, z.1.cell? ⟨wo.heap.size, 2, none⟩ = some (.int .i64 v) := fun z => z.cell hCb (by decide) (heap_cell hCb 2 rfl)
      refine wp_region_free [_, _, _, _, _, _, _, _, _] _ rfl (fun k => k == 6 || k == 7 || k == 8) (JApp 86 4 base W2 u0 (n + 2 * k) 2 (xs ++ insCells ((condsI cs).take (2 * k))) (insCells [(1, f, 0, 0), (a0, a1, a2, a3)]) 7 8) (SApp (insV (a0, a1, a2, a3)) (n + 2 * k + 2)) (sApp_some _ _) (by kernel_rfl) (by kernel_rfl) (JApp.start HO2.out) ?_
      iterate 6 (refine wpG_read JApp.seen rfl rfl ?_; go_big_quiet_step (fail); refine wpQuiet_nil ?_)
      refine wpG_call 162 #[.agg #[.int .i64 f, .int .i64 op, .int .i64 v], .int .i64 lf] rfl rfl (fun w' => by kernel_rfl) (fun gs w' hJ hdep hno => ?_) (fun v6 hv6 => ?_)
      · refine (HAsk.out w').mono ?_
        rintro e w'' ⟨rfl, hb⟩
        exact ⟨_, rfl, rfl, hJ.call hbase2 hb 6 _ (by decide) (by decide)⟩
      have e6 : v6 = .agg #[.int .i64 a0, .int .i64 a1, .int .i64 a2, .int .i64 a3] := hv6
      clear hv6
      subst e6
      simp only [Act.put, List.setIfInBounds_toArray, List.set_cons_succ, List.set_cons_zero]
      refine wpG_write rfl rfl (fun gs w' hJ hdep hno => ⟨.slice (some ⟨w'.heap.size, 0, none⟩) 2 2, w'.alloc (.cells (insCells [(1, f, 0, 0), (a0, a1, a2, a3)]).toArray 86), ?_, ⟨_, rfl⟩, hJ.lit hbase2 (by decide) _⟩) (fun v7 hv7 => ?_)
      · show _ = Result.ok _ (w'.alloc (.cells #[.int .i64 1, .int .i64 f, .int .i64 0, .int .i64 0, .int .i64 a0, .int .i64 a1, .int .i64 a2, .int .i64 a3] 86))
        clear hJ hdep hno q0 q1 q2 hne
        go_simp
      simp only [Act.put, List.setIfInBounds_toArray, List.set_cons_succ, List.set_cons_zero]
      refine wpG_write rfl rfl (fun gs w' hJ hdep hno => ?_) (fun v8 hv8 => ?_)
      · obtain ⟨v', w'', r1, r2, r3⟩ := hJ.app Tryz.underlying81 hi1 hi2 hi3 hi4 rfl (by decide) hbase2 rfl (insCells_one _) (by omega) (by omega) 81 v7 (hdep 7 _ (.inr ⟨rfl, rfl⟩) (waitsB_spec (by kernel_rfl))) hno
        refine ⟨v', w'', ?_, r2, r3⟩
        unfold execOp
        simp only [resolve, invoke, builtin, Sem.run_bind, Sem.run_pure, Result.andThen_ok, List.map_toArray, List.map_cons, List.map_nil]
        exact (congrArg (fun r => Result.andThen r fun v w => .ok (Next.value v) w) r1)
      simp only [Act.put, List.setIfInBounds_toArray, List.set_cons_succ, List.set_cons_zero]
      refine wpG_nil ?_
      intro w4 hJ
      obtain ⟨j1, j2, _, j4⟩ := hJ
      have HO4 : Hid (w4.ownsRow base 86 4 v8 (n + 2 * (k + 1)) (xs ++ insCells ((condsI cs).take (2 * (k + 1))))) := by
        unfold Hid
        have := j4 v8 (.inr ⟨rfl, rfl⟩)
        rw [HT.out, insCells_append, ← List.append_assoc]
        exact this
      have hb4 : Below base w w4 := HB2.out.trans j1
      have ht4 : Hid (ButT 86 W1 w4) := HT2.out.trans j2
      have hs4 := j1.size
      clear j1 j2 j4 q0 q1 q2 hne
      go_wp2
      exact ⟨⟨k + 1, by omega, by go_num, by rw [hlfH.out]; go_num, HO4, hb4, ht4, by omega⟩, by simp [intOf]; omega⟩
    · obtain rfl : k = len := by omega
      have t1 := heap_cell hRbo 1 rfl
      have HAp : Hid (∀ W X, X = W.alloc (.cells #[.int .i64 4, .int .i64 vd, .int .i64 0, .int .i64 0] 86) → Below wo.heap.size wo W → ∃ v' W', (Builtin.append_ #[81, 81] 81 #[u0, .slice (some ⟨W.heap.size, 0, none⟩) 1 1]).run Tryz.prog X = .ok v' W' ∧ Hid (W'.ownsRow base 86 4 v' (n + (ruleI (cs, vd)).length) (xs ++ insCells (ruleI (cs, vd)))) ∧ Below base w W' ∧ ButT 86 w W') := by
        intro W X hX hW
        have hbX : Below wo.heap.size wo X := by rw [hX]; exact hW.alloc hW.size _
        have hg : X.heap[W.heap.size]? = some (.cells (insCells [(4, vd, 0, 0)]).toArray 86 (0, 0)) := by rw [hX]; exact heap_made _ _
        obtain ⟨v', W', r1, r2, r3, r4⟩ := app_own (P := Tryz.prog) Tryz.underlying81 hi1 hi2 hi3 hi4 rfl (by decide) base 81 u0 (n + 2 * k) 1 W.heap.size _ (insCells [(4, vd, 0, 0)]) X (ownsRow_below HOr.out hbX) hg rfl (insCells_one _) (by omega) (by omega) (Nat.le_trans (Nat.le_trans hbase hos) hbX.size) 1
        refine ⟨v', W', r1, ?_, (Below.thenOf hbr hbX (Nat.le_trans hbase hos)).trans r3, ((HT.out.trans hbt.out).trans (ButT.of_below hbX)).trans r4⟩
        unfold Hid
        have e : (condsI cs).take (2 * k) = condsI cs := by rw [← hlenH.out]; exact condsI_all cs
        rw [e, List.append_assoc, ← insCells_append] at r2
        rw [hRL.out]
        exact r2
      clear hRbo
      go_wp2_with (first | (go_at_call 114; go_must (refine Calls.mono (give_any _ _) ?_; rintro e w2 ⟨rfl, hb2⟩)) | (at_builtin; go_must (obtain ⟨v', W', hrun, q1, q2, q3⟩ := HAp.out _ _ rfl hb2; refine Lib.wpList_append_run _ rfl _ _ _ _ rfl _ _ rfl rfl _ _ hrun ?_)))
      go_ret
      exact ⟨_, rfl, q1.out, q2, q3⟩
end Go.Proofs.YtbdlojnigflanacGreatDoor
end
