/- Joined: ChnR Chn5. -/
import Derived.Test.YtbdlojnigflanacGreatDoorKa17
import Derived.Test.YtbdlojnigflanacGreatDoorKa18
import Derived.Test.YtbdlojnigflanacGreatDoorKa11
import Derived.Test.YtbdlojnigflanacGreatDoorKa23
section
/- Rows of filters that are one's own. -/
set_option linter.all false
set_option maxRecDepth 100000
namespace Go.Proofs.YtbdlojnigflanacGreatDoor
open Go.RowKit Go.Maps

theorem infoFil : ∃ i, Tryz.prog.info? 81 = some i ∧ i.zero = some (.slice none 0 0) ∧ i.size = 1 ∧ i.bytes = 24 := infoOf (by kernel_rfl)

/-- Values, each a filter in memory. -/
def FvsAt (B : Nat) (w : World) (xs : List Value) (ls : ChT) : Prop := xs.length = ls.length ∧ ∀ (i : Nat) x f, xs[i]? = some x → ls[i]? = some f → InssAt B w x f
theorem FvsAt.later {B B' : Nat} {w w' : World} {xs : List Value} {ls : ChT} (h : FvsAt B w xs ls) (hb : Below B' w w') (hB : B ≤ B') : FvsAt B w' xs ls := ⟨h.1, fun i x f hx hf => (h.2 i x f hx hf).later hb hB⟩
theorem FvsAt.mono {B B' : Nat} {w : World} {xs : List Value} {ls : ChT} (h : FvsAt B w xs ls) (hB : B ≤ B') : FvsAt B' w xs ls := ⟨h.1, fun i x f hx hf => (h.2 i x f hx hf).mono hB⟩
theorem FvsAt.nil (B : Nat) (w : World) : FvsAt B w [] [] := ⟨rfl, fun i x f hx => by simp at hx⟩
theorem FvsAt.append {B : Nat} {w : World} {xs ys : List Value} {ls ms : ChT} (h : FvsAt B w xs ls) (h' : FvsAt B w ys ms) : FvsAt B w (xs ++ ys) (ls ++ ms) := by
  refine ⟨by simp [h.1, h'.1], fun i x f hx hf => ?_⟩
  by_cases hi : i < xs.length
  · rw [List.getElem?_append_left hi] at hx
    rw [List.getElem?_append_left (by rw [← h.1]; exact hi)] at hf
    exact h.2 i x f hx hf
  · rw [List.getElem?_append_right (by omega)] at hx
    rw [List.getElem?_append_right (by rw [← h.1]; omega), ← h.1] at hf
    exact h'.2 _ x f hx hf
theorem FvsAt.one {B : Nat} {w : World} {x : Value} {f : List InsT} (h : InssAt B w x f) : FvsAt B w [x] [f] := by
  refine ⟨rfl, fun i y g hy hg => ?_⟩
  match i, hy, hg with
  | 0, hy, hg =>
    simp at hy hg
    subst hy hg
    exact h
  | i + 1, hy, _ => simp at hy
theorem FvsAt.slices {B : Nat} {w : World} {xs : List Value} {ls : ChT} (h : FvsAt B w xs ls) : ∀ u ∈ xs, u.oneCell' = true := by
  intro u hu
  obtain ⟨i, hi⟩ := List.getElem?_of_mem hu
  have hil : i < ls.length := by rw [← h.1]; exact (List.getElem?_eq_some_iff.1 hi).1
  obtain ⟨a, c, rfl, -⟩ := (h.2 i u ls[i] hi (by simp)).shape
  rfl
theorem chs_values {B : Nat} {w : World} {a : Option Addr} {n cap : Nat} {ls : ChT} (h : ChsAt B w (.slice a n cap) ls) : ∃ xs, FvsAt B w xs ls ∧ ∀ (j : Nat) u, xs[j]? = some u → ∃ b o, a = some ⟨b, o, none⟩ ∧ b < B ∧ w.cell? ⟨b, o + j, none⟩ = some u := by
  obtain ⟨a', cap', e, -, -, h4⟩ := h
  simp at e
  obtain ⟨rfl, rfl, rfl⟩ := e
  obtain ⟨xs, hl, hp⟩ := list_of (fun i x => ∃ b o, a = some ⟨b, o, none⟩ ∧ b < B ∧ w.cell? ⟨b, o + i, none⟩ = some x ∧ ∀ f, ls[i]? = some f → InssAt B w x f) ls.length (fun i hi => by
    obtain ⟨b, o, fv, e, hb, hc, hf⟩ := h4 i ls[i] (by simp)
    exact ⟨fv, b, o, e, hb, hc, fun f hf' => by rw [List.getElem?_eq_getElem hi] at hf'; cases hf'; exact hf⟩)
  refine ⟨xs, ⟨hl, fun i x f hx hf => ?_⟩, fun j u hu => ?_⟩
  · obtain ⟨b, o, e, hb, hc, k⟩ := hp i x hx
    exact k f hf
  · obtain ⟨b, o, e, hb, hc, k⟩ := hp j u hu
    exact ⟨b, o, e, hb, hc⟩
theorem chsAt_own {L : Nat} {w : World} {v : Value} {xs : List Value} {ls : ChT} (h : w.ownsRow L 81 1 v ls.length xs) (hx : FvsAt w.heap.size w xs ls) : ChsAt w.heap.size w v ls := by
  obtain ⟨a, cap, rfl, h1, h2, h3⟩ := ownsRow_caps h
  refine ⟨a, cap, rfl, h1, h2, fun i f hf => ?_⟩
  have hi : i < ls.length := (List.getElem?_eq_some_iff.1 hf).1
  obtain ⟨g, rfl, hg1, hg2⟩ := h3 (by omega)
  have hxi : xs[i]? = some (xs[i]'(by rw [hx.1]; exact hi)) := by simp
  exact ⟨g, 0, _, rfl, hg2, by rw [Nat.zero_add]; exact ownsRow_cell h i _ hxi, hx.2 i _ f hxi hf⟩

/-- A chain that stands whatever becomes of the blocks from B on to below L. -/
def ChsOf (B L : Nat) (w : World) (v : Value) (ls : ChT) : Prop := ∀ wF : World, Below B w wF → (∀ g, L ≤ g → g < w.heap.size → wF.heap[g]? = w.heap[g]?) → ChsAt wF.heap.size wF v ls
theorem ChsOf.at {B L : Nat} {w : World} {v : Value} {ls : ChT} (h : ChsOf B L w v ls) : ChsAt w.heap.size w v ls := h w (Below.refl _ _) (fun _ _ _ => rfl)
theorem chsOf_nil (B L : Nat) (w : World) : ChsOf B L w (.slice none 0 0) [] := fun wF _ _ => chsAt_nil _ _

/-- Filters in memory behind a row of one's own. -/
theorem run_append_chs (base : Nat) (ty : TypeId) (v : Value) (n : Nat) (xs : List Value) (a : Option Addr) (m cap : Nat) (news : List Value) (W : World) (hown : W.ownsRow base 81 1 v n xs) (hl : news.length = m) (hs : ∀ (j : Nat) u, news[j]? = some u → ∃ b o, a = some ⟨b, o, none⟩ ∧ W.cell? ⟨b, o + j, none⟩ = some u) (h1 : ∀ u ∈ news, u.oneCell' = true) (hn : (n + m) * 24 ≤ 140737488355328) (hbase : base ≤ W.heap.size) :
    ∃ v' W', (Builtin.append_ #[75, 75] ty #[v, .slice a m cap]).run Tryz.prog W = .ok v' W' ∧ W'.ownsRow base 81 1 v' (n + m) (xs ++ news) ∧ Below base W W' := by
  obtain ⟨inf, hi1, hi2, hi3, hi4⟩ := infoFil
  cases a with
  | none =>
    have h0 : news = [] := by
      cases news with
      | nil => rfl
      | cons r l => obtain ⟨b, o, e, _⟩ := hs 0 r rfl; cases e
    subst h0
    simp at hl
    subst hl
    refine ⟨v, W, ?_, by simpa using hown, Below.refl _ _⟩
    have hc : v = .slice none 0 0 ∨ ∃ g c, v = .slice (some g) n c ∧ n ≤ c := by
      rcases hown.2 with ⟨h, _⟩ | ⟨g, c, cur, h, _, _, h', _⟩
      · exact .inl h
      · exact .inr ⟨_, c, h, h'⟩
    have hf := run_firstCells_none (P := Tryz.prog) W inf.size 0 0 cap
    rcases hc with rfl | ⟨g, c, rfl, hle⟩
    · simp [Builtin.append_, run_underlying Tryz.underlying75, sizeOf, typeInfo, hi1, Builtin.lenOf, hf]
    · simp [Builtin.append_, run_underlying Tryz.underlying75, sizeOf, typeInfo, hi1, Builtin.lenOf, hf, hle, storeCells]
  | some ad =>
    have hcell : ∀ j u, news[j]? = some u → W.cell? (ad.add j) = some u := by
      intro j u hj
      obtain ⟨b, o, e, hc⟩ := hs j u hj
      cases e
      rw [add_at]
      exact hc
    obtain ⟨v', W', g1, g2, g3, g4⟩ := run_append_own (P := Tryz.prog) W base 75 ty 81 inf _ 1 24 Tryz.underlying75 hi1 hi2 hi3 hi4 rfl (by decide) v n xs hown ad m cap news (by omega) hcell h1 (by rw [maxLen_eq]; omega) hn hbase
    exact ⟨v', W', g1, g2, (Below.refl _ _).grown g3 hbase fun k hk => ownsRow_ge hown k hk⟩

end Go.Proofs.YtbdlojnigflanacGreatDoor
end
section
/- The counterpart's Tightened: one filter more, behind all. -/
set_option linter.all false
set_option maxRecDepth 100000
namespace Go.Proofs.YtbdlojnigflanacGreatDoor
open Go.RowKit Go.Maps

set_option maxHeartbeats 8000000 in
theorem tightened_of (B : Nat) (lv pv qv : Value) (ls : ChT) (p q : PolT) (w : World) (hl : ChsAt B w lv ls) (hp : PolAt B w pv p) (hq : PolAt B w qv q) (hB : B ≤ w.heap.size) :
    Calls Tryz.prog 101 #[lv, pv, qv] w fun e w' => ∃ v, e = .returned (.tuple #[v, .int .i64 (tightE ls p q)]) ∧ ChsOf B w.heap.size w' v (tightR ls p q) ∧ Below w.heap.size w w' := by
  have HL : Hid (∀ w', Below w.heap.size w w' → ChsAt B w' lv ls) := fun w' h => hl.later h hB
  have HC : Hid (∀ w', Below w.heap.size w w' → Calls Tryz.prog 104 #[lv] w' fun e w'' => e = .returned (.int .i64 (chainErr ls)) ∧ Below w'.heap.size w' w'') := fun w' h => checkChain_any B lv ls w' (hl.later h hB) (Nat.le_trans hB h.size)
  have HD : Hid (∀ w', Below w.heap.size w w' → Calls Tryz.prog 156 #[pv, qv] w' fun e w'' => ∃ v, e = .returned (.tuple #[v, .int .i64 (deltaE p q)]) ∧ PolAt w''.heap.size w'' v (deltaR p q) ∧ Below w'.heap.size w' w'') := fun w' h => deltaOf_any B pv qv p q w' (hp.later h hB) (hq.later h hB) (Nat.le_trans hB h.size)
  have HTE : Hid (tightE ls p q = if chainErr ls = 0 then (if deltaE p q = 0 then (if ls.length = 6 then 2 else compE (deltaR p q)) else deltaE p q) else chainErr ls) := rfl
  have HTR : Hid (tightR ls p q = if tightE ls p q = 0 then ls ++ [polI (deltaR p q)] else []) := rfl
  have HCl : Hid (chainErr ls = 0 → ls.length ≤ 6) := fun h => (chainErr_ok.1 h).1
  obtain ⟨la, lcap, rfl, hlc, hlm, -⟩ := hl
  obtain ⟨rs, d⟩ := p
  obtain ⟨ss, f⟩ := q
  obtain ⟨rv, rfl, -, a, cap, rfl, -⟩ := hp
  obtain ⟨sv, rfl, -, b, cap2, rfl, -⟩ := hq
  simp only at HC HD
  have hml := maxLen_eq
  obtain ⟨ln, hln⟩ : ∃ n, n = ls.length := ⟨_, rfl⟩
  have hlnH : Hid (ls.length = ln) := hln.symm
  rw [← hln] at HL HC HTE HCl hlc ⊢
  clear hln
  generalize chainErr ls = ce at *
  generalize deltaE (rs, d) (ss, f) = de at *
  generalize deltaR (rs, d) (ss, f) = dr at *
  generalize tightE ls (rs, d) (ss, f) = te at *
  generalize tightR ls (rs, d) (ss, f) = tr at *
  generalize rs.length = n1 at *
  generalize ss.length = n2 at *
  obtain ⟨W2, hW2⟩ : ∃ W2, W2 = (w.alloc (.cells #[.slice a n1 cap, .int .i64 d] 24)).alloc (.cells #[.slice b n2 cap2, .int .i64 f] 24) := ⟨_, rfl⟩
  have hs2 : W2.heap.size = w.heap.size + 1 + 1 := by rw [hW2]; simp
  have hb2 : Below w.heap.size w W2 := by rw [hW2]; exact ((Below.refl _ _).alloc (Nat.le_refl _) _).alloc (by simp) _
  have g0 : W2.heap[w.heap.size]? = some (.cells #[.slice a n1 cap, .int .i64 d] 24 (0, 0)) := by
    rw [hW2]
    exact heap_kept' _ (heap_at _ _ rfl)
  have g1 : W2.heap[w.heap.size + 1]? = some (.cells #[.slice b n2 cap2, .int .i64 f] 24 (0, 0)) := by
    rw [hW2]
    exact heap_at _ _ (by simp only [World.size_alloc])
  have HG : Hid (∀ w', Below W2.heap.size W2 w' → w'.heap[w.heap.size]? = some (.cells #[.slice a n1 cap, .int .i64 d] 24 (0, 0)) ∧ w'.heap[w.heap.size + 1]? = some (.cells #[.slice b n2 cap2, .int .i64 f] 24 (0, 0))) := fun w' h => ⟨(h.block _ (by omega)).trans g0, (h.block _ (by omega)).trans g1⟩
  have HW : Hid (W2 = _) := hW2
  clear hW2 g0 g1
  go_enter Tryz.func101, Tryz.ntmps101
  go_wp2_with fail
  rw [← HW.out]
  go_at_call 104
  refine Calls.mono (HC.out _ hb2) ?_
  rintro e w3 ⟨rfl, hb3⟩
  have hs3 := hb3.size
  have hb3w : Below w.heap.size w w3 := Below.thenOf hb2 hb3 hb2.size
  clear HC
  by_cases hc : ce = 0
  · subst hc
    have hl6 := HCl.out rfl
    obtain ⟨g0, g1⟩ := HG.out w3 hb3
    have y0 := heap_cell g0 0 rfl
    have y1 := heap_cell g0 1 rfl
    have x0 := heap_cell g1 0 rfl
    have x1 := heap_cell g1 1 rfl
    have HTE' : Hid (te = if de = 0 then (if ln = 6 then 2 else compE dr) else de) := by unfold Hid; rw [HTE.out, if_pos rfl]
    clear g0 g1 HTE HCl
    go_wp2_with fail
    go_at_call 156
    refine Calls.mono (HD.out _ hb3w) ?_
    rintro e w4 ⟨dv, rfl, hpd, hb4⟩
    have hb4w : Below w.heap.size w w4 := Below.thenOf hb3w hb4 hb3w.size
    have hb4a : ∀ X, Below w4.heap.size w4 (w4.alloc X) := fun X => (Below.refl _ _).alloc (Nat.le_refl _) X
    have HFi : Hid (∀ X, Calls Tryz.prog 100 #[dv] (w4.alloc X) fun e w' => ∃ fv, e = .returned (.tuple #[fv, .int .i64 (compE dr)]) ∧ w'.ownsRow (w4.alloc X).heap.size 86 4 fv (compL dr).length (insCells (compL dr)) ∧ (∀ i ∈ compL dr, insWf i) ∧ Below (w4.alloc X).heap.size (w4.alloc X) w') := fun X => filter_any w4.heap.size dv dr (w4.alloc X) (hpd.later (hb4a X) (Nat.le_refl _)) (hb4a X).size
    have HCL : Hid (compE dr = 0 → compL dr = polI dr) := fun h => by rw [compL, if_pos h]
    obtain ⟨ms, md⟩ := dr
    obtain ⟨rv, rfl, -, a4, c4, rfl, -⟩ := hpd
    simp only at HFi
    generalize ms.length = n4 at *
    have HB4 : Hid _ := hb4w
    clear hb4 hb4w hb3w hb3 y0 y1 x0 x1 HD
    by_cases hd : de = 0
    · subst hd
      by_cases h6 : ln = 6
      · subst h6
        have HR : Hid (te = 2 ∧ tr = []) := by
          have e : te = 2 := by rw [HTE'.out]; rfl
          exact ⟨e, by rw [HTR.out, if_neg (by rw [e]; decide)]⟩
        clear HTE' HTR HFi
        go_wp2_with fail
        go_ret2
        exact ⟨_, by rw [HR.out.1]; rfl, by rw [HR.out.2]; exact chsOf_nil _ _ _, HB4.out.alloc HB4.out.size _⟩
      · have h6' : ¬ (ln : Int) = 6 := by omega
        have hq6 : ((ln : Int) == 6) = false := by simpa using h6'
        have HTE2 : Hid (te = compE (ms, md)) := by unfold Hid; rw [HTE'.out, if_pos rfl, if_neg h6]
        clear HTE' h6
        go_wp2_with fail
        go_at_call 100
        refine Calls.mono (HFi.out _) ?_
        rintro e w5 ⟨fv, rfl, hof, hwf, hb5⟩
        by_cases hcp : compE (ms, md) = 0
        · have HR : Hid (te = 0 ∧ tr = ls ++ [polI (ms, md)]) := by
            have e : te = 0 := by rw [HTE2.out, hcp]
            exact ⟨e, by rw [HTR.out, if_pos e]⟩
          rw [HCL.out hcp] at hof hwf
          rw [hcp]
          clear hcp HTE2 HTR HCL HFi
          obtain ⟨fa, fc, rfl, -, -⟩ := ownsRow_caps hof
          have HOf : Hid (w5.ownsRow w.heap.size 86 4 (.slice fa (polI (ms, md)).length fc) (polI (ms, md)).length (insCells (polI (ms, md))) ∧ ∀ i ∈ polI (ms, md), insWf i) := ⟨ownsRow_base hof (by have := HB4.out.size; simp; omega), hwf⟩
          have hb5w : Below w.heap.size w w5 := Below.thenOf (HB4.out.alloc HB4.out.size _) hb5 (by simp; have := HB4.out.size; omega)
          have hs5 := hb5w.size
          obtain ⟨xs, hxs, hxc⟩ := chs_values (HL.out _ hb5w)
          have hxl : xs.length = ln := by rw [hxs.1, hlnH.out]
          obtain ⟨W6, hW6⟩ : ∃ W6, W6 = w5.alloc (.cells #[] 81) := ⟨_, rfl⟩
          have hb6 : Below w5.heap.size w5 W6 := by rw [hW6]; exact (Below.refl _ _).alloc (Nat.le_refl _) _
          have ho6 : W6.ownsRow w5.heap.size 81 1 (.slice (some ⟨w5.heap.size, 0, none⟩) 0 0) 0 [] := by
            rw [hW6]
            exact ⟨rfl, .inr ⟨w5.heap.size, 0, #[], rfl, Nat.le_refl _, heap_made w5 _, Nat.le_refl _, Nat.zero_le _, rfl, rfl⟩⟩
          obtain ⟨v7, w7, hr7, ho7, hb7⟩ := run_append_chs w5.heap.size 75 _ 0 [] la ln lcap xs W6 ho6 hxl (fun j u hj => by
            obtain ⟨b, o, e, hb, hc⟩ := hxc j u hj
            exact ⟨b, o, e, (hb6.cell (p := ⟨b, o + j, none⟩) (by show b < w5.heap.size; omega)).trans hc⟩) hxs.slices (by omega) hb6.size
          have hb57 : Below w5.heap.size w5 w7 := hb6.trans hb7
          have HW6 : Hid (W6 = _) := hW6
          obtain ⟨inf, hi1, hi2, hi3, hi4⟩ := infoFil
          have HF : Hid (FvsAt B w5 xs ls ∧ True) := ⟨hxs, trivial⟩
          have hn7 : (0 + ln + 1) * 24 ≤ 140737488355328 := by omega
          have hm7 : 0 + ln + 1 ≤ maxLen := by omega
          have HB7 : Hid _ := hb57
          have HBw5 : Hid _ := hb5w
          clear hof hwf hxs hxc hW6 hb6 ho6 hb5 hb7 hb57 hb5w
          generalize hfl : (polI (ms, md)).length = fl at *
          have hflH : Hid ((polI (ms, md)).length = fl) := hfl
          clear hfl
          go_wp2_with (first | (at_builtin; go_must (first | (rw [← HW6.out]; refine Lib.wpList_append_run _ rfl _ _ _ _ rfl _ _ rfl rfl _ _ hr7 ?_) | (refine wpList_appG _ rfl _ _ rfl Tryz.underlying75 hi1 hi2 hi3 hi4 rfl (by decide) w5.heap.size _ _ _ rfl _ 1 [.slice fa fl fc] rfl _ rfl (by simp) w7 (Below.refl _ _) ho7 rfl (by intro u hu; simp at hu; subst hu; rfl) hm7 hn7 HB7.out.size ?_; intro v8 w8 ho8 hb8 hg8))))
          have hb8w : Below w5.heap.size w5 w8 := HB7.out.trans hb8
          have e8 : (ls ++ [polI (ms, md)]).length = 0 + ln + 1 := by simp [hlnH.out]
          have hch : ChsOf B w.heap.size w8 v8 (ls ++ [polI (ms, md)]) := by
            intro wF hbF hkF
            have hb5F : Below B w5 wF := (hb8w.mono (Nat.le_trans hB hs5)).trans hbF
            have hsF := hbF.size
            have hk58 : ∀ g, w.heap.size ≤ g → g < w5.heap.size → wF.heap[g]? = w5.heap[g]? := fun g h1 h2 => (hkF g h1 (Nat.lt_of_lt_of_le h2 hb8w.size)).trans (hb8w.block g h2)
            refine chsAt_own (L := w5.heap.size) (xs := [] ++ xs ++ [.slice fa fl fc]) (by rw [e8]; exact ownsRow_block ho8.out fun g cur hge hc => hkF g (by omega) (lt_of_block hc)) ?_
            have h1 := HF.out.1
            rw [List.nil_append]
            refine ((h1.later hb5F (Nat.le_refl _)).mono (by have := hb8w.size; omega)).append (FvsAt.one ?_)
            have h2 := HOf.out
            rw [← hflH.out] at h2 ⊢
            exact inssAt_own (ownsRow_block h2.1 fun g cur hge hc => hk58 g (by omega) (lt_of_block hc)) h2.2
          have hbw8 := Below.thenOf HBw5.out hb8w HBw5.out.size
          go_ret2
          exact ⟨_, by rw [HR.out.1]; rfl, by rw [HR.out.2]; exact hch, hbw8⟩
        · have HR : Hid (te = compE (ms, md) ∧ tr = []) := by
            have e : te = compE (ms, md) := HTE2.out
            exact ⟨e, by rw [HTR.out, if_neg (by rw [e]; exact hcp)]⟩
          have hq : (compE (ms, md) != 0) = true := by simpa using hcp
          clear hcp HTE2 HTR HCL HFi
          generalize compE (ms, md) = cp at *
          have hb5w : Below w.heap.size w w5 := Below.thenOf (HB4.out.alloc HB4.out.size _) hb5 (by simp; have := HB4.out.size; omega)
          obtain ⟨fa, fc, rfl, -⟩ := ownsRow_caps hof
          have HB5 : Hid _ := hb5w
          clear hof hwf hb5 hb5w
          generalize (compL (ms, md)).length = fl at *
          go_wp2_with fail
          go_ret2
          exact ⟨_, by rw [HR.out.1]; rfl, by rw [HR.out.2]; exact chsOf_nil _ _ _, HB5.out⟩
    · have HR : Hid (te = de ∧ tr = []) := by
        have e : te = de := by rw [HTE'.out, if_neg hd]
        exact ⟨e, by rw [HTR.out, if_neg (by rw [e]; exact hd)]⟩
      have hq : (de != 0) = true := by simpa using hd
      have hq2 : (de == 0) = false := by simpa using hd
      clear HTE' HTR HFi hd
      go_wp2_with fail
      go_ret2
      exact ⟨_, by rw [HR.out.1]; rfl, by rw [HR.out.2]; exact chsOf_nil _ _ _, HB4.out.alloc HB4.out.size _⟩
  · have HR : Hid (te = ce ∧ tr = []) := by
      have e : te = ce := by rw [HTE.out, if_neg hc]
      exact ⟨e, by rw [HTR.out, if_neg (by rw [e]; exact hc)]⟩
    have hq : (ce != 0) = true := by simpa using hc
    clear HTE HTR hc HD HCl
    go_wp2_with fail
    go_ret2
    exact ⟨_, by rw [HR.out.1]; rfl, by rw [HR.out.2]; exact chsOf_nil _ _ _, hb3w⟩

end Go.Proofs.YtbdlojnigflanacGreatDoor
end
