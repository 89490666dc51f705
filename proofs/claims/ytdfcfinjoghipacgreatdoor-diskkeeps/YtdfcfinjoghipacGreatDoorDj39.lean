/- Joined: DkE0 DkE. -/
import Derived.Test.YtdfcfinjoghipacGreatDoorDj38
section
/- Records in a row of one's own, all of whose memory is new; one such row behind another. -/
set_option linter.all false
set_option maxRecDepth 100000
namespace Go.Proofs.YtdfcfinjoghipacGreatDoor
open Go.RowKit Go.Maps

/-- A record that stands whatever becomes of the blocks below L and of one block. -/
def RecKL (L : Nat) (g : Option Nat) (w : World) (v : Value) (r : RecT) : Prop := ∀ wF : World, (∀ k, L ≤ k → some k ≠ g → k < w.heap.size → wF.heap[k]? = w.heap[k]?) → w.heap.size ≤ wF.heap.size → RecAt wF.heap.size wF v r
theorem RecKL.of_new {L L' : Nat} {g : Option Nat} {w : World} {v : Value} {r : RecT} (h : RecNew L' w v r) (hL : L ≤ L') (hg : ∀ k, g = some k → k < L') : RecKL L g w v r := fun wF h1 h2 => h wF (fun k hk hl => h1 k (by omega) (fun e => by have := hg k e.symm; omega) hl) h2
theorem RecKL.grown {L : Nat} {g g' : Option Nat} {w w' : World} {v : Value} {r : RecT} (h : RecKL L g w v r) (hg : w.grownBy w' g) (hg' : g' = g ∨ ∃ k, g' = some k ∧ w.heap.size ≤ k) : RecKL L g' w' v r := fun wF h1 h2 => h wF (fun k hL hk hl => by
  have hk' : some k ≠ g' := by
    rcases hg' with e | ⟨j, e, hj⟩
    · rw [e]; exact hk
    · rw [e]
      intro e'
      have := Option.some.inj e'
      omega
  exact (h1 k hL hk' (Nat.lt_of_lt_of_le hl hg.size)).trans (hg.block k hl hk)) (Nat.le_trans hg.size h2)
/-- Another row has grown, which lies below L; and so may have this one's. -/
theorem RecKL.beside {L : Nat} {g h' g' : Option Nat} {w w' : World} {v : Value} {r : RecT} (h : RecKL L g w v r) (hg : w.grownBy w' h') (hh : ∀ k, h' = some k → k < L) (hg' : g' = h' ∨ ∃ k, g' = some k ∧ w.heap.size ≤ k) : RecKL L g' w' v r := fun wF h1 h2 => h wF (fun k hL hk hl => by
  have hk0 : some k ≠ h' := fun e => by have := hh k e.symm; omega
  have hk' : some k ≠ g' := by
    rcases hg' with e | ⟨j, e, hj⟩
    · rw [e]; exact hk0
    · rw [e]
      intro e'
      have := Option.some.inj e'
      omega
  exact (h1 k hL hk' (Nat.lt_of_lt_of_le hl hg.size)).trans (hg.block k hl hk0)) (Nat.le_trans hg.size h2)
theorem RecKL.mono {L L' : Nat} {g : Option Nat} {w : World} {v : Value} {r : RecT} (h : RecKL L' g w v r) (hL : L ≤ L') : RecKL L g w v r := fun wF h1 h2 => h wF (fun k hk => h1 k (Nat.le_trans hL hk)) h2
theorem RecKL.keep {L b : Nat} {g : Option Nat} {w w' : World} {v : Value} {r : RecT} (h : RecKL L g w v r) (hk : KeepX b w w') (hb : b < L) (hs : w'.heap.size = w.heap.size) : RecKL L g w' v r := fun wF h1 h2 => h wF (fun k hL hne hl => (h1 k hL hne (by omega)).trans (hk k (by omega))) (by omega)
theorem RecKL.kept {L : Nat} {g : Option Nat} {w : World} {v : Value} {r : RecT} (h : RecKL L g w v r) : RecKept g w v r := fun wF h1 h2 => h wF (fun k _ hne hl => h1 k hne hl) h2
def XsL (P : Value → RecT → Prop) (xs : List Value) (rs : List RecT) : Prop :=
  xs.length = rs.length * 5 ∧ (∀ u ∈ xs, u.oneCell' = true) ∧ ∀ i r, rs[i]? = some r → ∃ rv, xs[i * 5]? = some (.int .i64 r.1) ∧ xs[i * 5 + 1]? = some (.int .i64 r.2.1) ∧ xs[i * 5 + 2]? = some (.int .i64 r.2.2.1) ∧ xs[i * 5 + 3]? = some rv ∧ xs[i * 5 + 4]? = some (.int .i64 r.2.2.2.2) ∧ P (.agg #[.int .i64 r.1, .int .i64 r.2.1, .int .i64 r.2.2.1, rv, .int .i64 r.2.2.2.2]) r
theorem XsL.imp {P Q : Value → RecT → Prop} {xs : List Value} {rs : List RecT} (h : XsL P xs rs) (hi : ∀ v r, P v r → Q v r) : XsL Q xs rs := by
  obtain ⟨h1, h2, h3⟩ := h
  refine ⟨h1, h2, fun i r hr => ?_⟩
  obtain ⟨rv, e0, e1, e2, e3, e4, e5⟩ := h3 i r hr
  exact ⟨rv, e0, e1, e2, e3, e4, hi _ _ e5⟩
theorem XsL.snoc {P : Value → RecT → Prop} {xs : List Value} {rs : List RecT} {ra : Option Addr} {rn rc : Nat} {r : RecT} (h : XsL P xs rs) (hr : P (.agg #[.int .i64 r.1, .int .i64 r.2.1, .int .i64 r.2.2.1, .slice ra rn rc, .int .i64 r.2.2.2.2]) r) : XsL P (xs ++ [.int .i64 r.1, .int .i64 r.2.1, .int .i64 r.2.2.1, .slice ra rn rc, .int .i64 r.2.2.2.2]) (rs ++ [r]) := by
  obtain ⟨h1, h2, h3⟩ := h
  refine ⟨by simp [h1]; omega, fun u hu => ?_, fun i r' hr' => ?_⟩
  · rcases List.mem_append.1 hu with hu | hu
    · exact h2 u hu
    · simp at hu
      rcases hu with rfl | rfl | rfl | rfl | rfl <;> rfl
  · by_cases hi : i < rs.length
    · rw [List.getElem?_append_left hi] at hr'
      obtain ⟨rv', e0, e1, e2, e3, e4, hh⟩ := h3 i r' hr'
      exact ⟨rv', by rw [List.getElem?_append_left (by omega)]; exact e0, by rw [List.getElem?_append_left (by omega)]; exact e1, by rw [List.getElem?_append_left (by omega)]; exact e2, by rw [List.getElem?_append_left (by omega)]; exact e3, by rw [List.getElem?_append_left (by omega)]; exact e4, hh⟩
    · have hlt := (List.getElem?_eq_some_iff.1 hr').1
      simp at hlt
      obtain rfl : i = rs.length := by omega
      simp at hr'
      subst hr'
      refine ⟨.slice ra rn rc, ?_, ?_, ?_, ?_, ?_, hr⟩
      · rw [List.getElem?_append_right (by omega), h1]; simp
      · rw [List.getElem?_append_right (by omega), h1]; simp
      · rw [List.getElem?_append_right (by omega), h1]; simp
      · rw [List.getElem?_append_right (by omega), h1]; simp
      · rw [List.getElem?_append_right (by omega), h1]; simp
theorem XsL.append {P : Value → RecT → Prop} {xs ys : List Value} {rs ss : List RecT} (h : XsL P xs rs) (k : XsL P ys ss) : XsL P (xs ++ ys) (rs ++ ss) := by
  obtain ⟨h1, h2, h3⟩ := h
  obtain ⟨k1, k2, k3⟩ := k
  refine ⟨by simp [h1, k1]; omega, fun u hu => ?_, fun i r hr => ?_⟩
  · rcases List.mem_append.1 hu with h | h
    · exact h2 u h
    · exact k2 u h
  · by_cases hi : i < rs.length
    · rw [List.getElem?_append_left hi] at hr
      obtain ⟨rv, e0, e1, e2, e3, e4, e5⟩ := h3 i r hr
      exact ⟨rv, by rw [List.getElem?_append_left (by omega)]; exact e0, by rw [List.getElem?_append_left (by omega)]; exact e1, by rw [List.getElem?_append_left (by omega)]; exact e2, by rw [List.getElem?_append_left (by omega)]; exact e3, by rw [List.getElem?_append_left (by omega)]; exact e4, e5⟩
    · rw [List.getElem?_append_right (by omega)] at hr
      obtain ⟨rv, e0, e1, e2, e3, e4, e5⟩ := k3 _ r hr
      refine ⟨rv, ?_, ?_, ?_, ?_, ?_, e5⟩
      · rw [List.getElem?_append_right (by omega), show i * 5 - xs.length = (i - rs.length) * 5 by omega]; exact e0
      · rw [List.getElem?_append_right (by omega), show i * 5 + 1 - xs.length = (i - rs.length) * 5 + 1 by omega]; exact e1
      · rw [List.getElem?_append_right (by omega), show i * 5 + 2 - xs.length = (i - rs.length) * 5 + 2 by omega]; exact e2
      · rw [List.getElem?_append_right (by omega), show i * 5 + 3 - xs.length = (i - rs.length) * 5 + 3 by omega]; exact e3
      · rw [List.getElem?_append_right (by omega), show i * 5 + 4 - xs.length = (i - rs.length) * 5 + 4 by omega]; exact e4
theorem XsL.toR {g : Option Nat} {w : World} {xs : List Value} {rs : List RecT} (h : XsL (RecKept g w) xs rs) : XsR g w xs rs := h
/-- A row of one's own behind another. -/
theorem run_append_rows (base base2 : Nat) (v mv : Value) (n m : Nat) (xs ys : List Value) (W : World) (hown : W.ownsRow base 38 5 v n xs) (hm : W.ownsRow base2 38 5 mv m ys) (hy : ∀ u ∈ ys, u.oneCell' = true) (hn : (n + m) * 56 ≤ 140737488355328) (hbase : base ≤ W.heap.size) :
    ∃ v' W', (Builtin.append_ #[53, 53] 53 #[v, mv]).run Tryz.prog W = .ok v' W' ∧ W'.ownsRow base 38 5 v' (n + m) (xs ++ ys) ∧ W.grownBy W' v.ownBlock ∧ (v'.ownBlock = v.ownBlock ∨ ∃ k, v'.ownBlock = some k ∧ W.heap.size ≤ k) := by
  obtain ⟨inf, hi1, hi2, hi3, hi4⟩ := infoRec
  obtain ⟨hyl, hm2⟩ := hm
  rcases hm2 with ⟨rfl, h0⟩ | ⟨g, c, cur, rfl, hg, hcur, hmc, hcm, hsz, hrow⟩
  · subst h0
    obtain rfl : ys = [] := List.eq_nil_of_length_eq_zero (by simpa using hyl)
    refine ⟨v, W, ?_, by simpa using hown, ⟨rfl, rfl, rfl, Nat.le_refl _, fun _ _ _ => rfl⟩, .inl rfl⟩
    have hc : v = .slice none 0 0 ∨ ∃ g c, v = .slice (some g) n c ∧ n ≤ c := by
      rcases hown.2 with ⟨h, _⟩ | ⟨g, c, cur, h, _, _, h', _⟩
      · exact .inl h
      · exact .inr ⟨_, c, h, h'⟩
    have hf := run_firstCells_none (P := Tryz.prog) W inf.size 0 0 0
    rcases hc with rfl | ⟨g, c, rfl, hle⟩
    · simp [Builtin.append_, run_underlying Tryz.underlying53, sizeOf, typeInfo, hi1, Builtin.lenOf, hf]
    · simp [Builtin.append_, run_underlying Tryz.underlying53, sizeOf, typeInfo, hi1, Builtin.lenOf, hf, hle, storeCells]
  · obtain ⟨v', W', r1, r2, r3, _, r5⟩ := run_append_own_at (P := Tryz.prog) W base 53 53 38 inf _ 5 56 Tryz.underlying53 hi1 hi2 hi3 hi4 rfl (by decide) v n xs hown ⟨g, 0, none⟩ m c ys hyl (fun j u hj => by
      rw [add_at, Nat.zero_add]
      have hlt := (List.getElem?_eq_some_iff.1 hj).1
      refine heap_cell hcur j ?_
      rw [← hrow, List.getElem?_take] at hj
      split at hj
      · simpa using hj
      · cases hj) hy (by rw [maxLen_eq]; omega) hn hbase
    exact ⟨v', W', r1, r2, r3, by
      rcases r5 with e | e
      · exact .inl e
      · exact .inr ⟨_, e, Nat.le_refl _⟩⟩
end Go.Proofs.YtdfcfinjoghipacGreatDoor
end
section
/- Package disk: readLines. -/
set_option linter.all false
set_option maxRecDepth 100000
namespace Go.Proofs.YtdfcfinjoghipacGreatDoor
open Go.RowKit Go.Maps

theorem linesP_cut (most : Nat) (s a t : Bs) (h : cutNl s = some (a, t)) : linesP most s = (if (recOf a).2 = 0 then (match most with | 0 => ([], 0, 2) | m + 1 => ((recOf a).1 :: (linesP m t).1, a.length + 1 + (linesP m t).2.1, (linesP m t).2.2)) else ([], 0, (recOf a).2)) := by
  obtain ⟨rfl, hn⟩ := cutNl_some h
  exact linesP_line most a t hn

set_option maxHeartbeats 8000000 in
theorem readLines_any (B : Nat) (v : Value) (bs : Bs) (h60 : bs.length ≤ 60000) (most : Nat) (hm40 : most ≤ 40) (w : World) (he : EnvT w) (h : BytesAt B w v bs) (hB : B ≤ w.heap.size) :
    Calls Tryz.prog 74 #[v, .int .i64 most] w fun e w' => ∃ lv xs, e = .returned (.tuple #[lv, .int .i64 (linesP most bs).2.1, .int .i64 (linesP most bs).2.2]) ∧ w'.ownsRow w.heap.size 38 5 lv (linesP most bs).1.length xs ∧ XsL (RecKL w.heap.size lv.ownBlock w') xs (linesP most bs).1 ∧ Below w.heap.size w w' := by
  obtain ⟨inf, hi1, hi2, hi3, hi4⟩ := infoRec
  have HE : Hid (∀ w', Below w.heap.size w w' → EnvT w') := fun w' h => he.later h
  have HB : Hid (∀ w', Below w.heap.size w w' → BytesAt B w' v bs) := fun w' hb => h.later hb hB
  have hml := maxLen_eq
  obtain ⟨a, c, rfl, -, -, -⟩ := h
  obtain ⟨N, hN⟩ : ∃ N, N = bs.length := ⟨_, rfl⟩
  have HN : Hid (bs.length = N) := hN.symm
  rw [← hN] at HB h60 ⊢
  clear hN he
  go_enter Tryz.func74, Tryz.ntmps74
  go_wp2_with fail
  go_loopw [7, 8] (fun lv nv wr => ∃ (k : Nat) (done : List RecT) (xs : List Value), k ≤ N ∧ done.length ≤ most ∧ nv = .int .i64 k ∧ Hid (linesP most bs = (done ++ (linesP (most - done.length) (bs.drop k)).1, k + (linesP (most - done.length) (bs.drop k)).2.1, (linesP (most - done.length) (bs.drop k)).2.2)) ∧ Hid (wr.ownsRow w.heap.size 38 5 lv done.length xs) ∧ Hid (XsL (RecKL w.heap.size lv.ownBlock wr) xs done) ∧ Hid (Below w.heap.size w wr)) (fun _ iv _ => N - (intOf iv).toNat)
  case atStart => exact ⟨0, [], [], by omega, by simp, rfl, by unfold Hid; simp, ⟨rfl, .inl ⟨rfl, rfl⟩⟩, ⟨rfl, (fun u hu => by cases hu), (fun i r hr => by simp at hr)⟩, Below.refl _ _⟩
  case round =>
    obtain ⟨k, done, xs, hk, hd, rfl, HQ, HO, HX, HBw⟩ := hrel
    obtain ⟨wo, hwo⟩ : ∃ x, x = wr := ⟨_, rfl⟩
    subst hwo
    have i0 : (0 : Int) ≤ (k : Int) := by omega
    have hos := HBw.out.size
    obtain ⟨va, vc, ev, hvc, hvm, -⟩ := ownsRow_caps HO.out
    subst ev
    by_cases hlt : k < N
    · have i1 : (k : Int) < (N : Int) := by omega
      obtain ⟨a', hsl, hbd⟩ := slice_from (HB.out wo HBw.out) k (by rw [HN.out]; exact hk)
      obtain ⟨D, hD⟩ : ∃ D, D = bs.drop k := ⟨_, rfl⟩
      have hDl : D.length = N - k := by rw [hD, List.length_drop, HN.out]
      rw [← hD] at hbd HQ
      have HD : Hid (D = bs.drop k) := hD
      clear hD
      cases hcut : cutNl D with
      | none =>
        have HR : Hid (linesP most bs = (done, k, 8)) := by
          unfold Hid
          rw [HQ.out, linesP_torn _ D (cutNl_none hcut) (fun e => by rw [e] at hDl; simp at hDl; omega)]
          simp
        have HRl : Hid _ := readLine_torn B _ D wo hbd (Nat.le_trans hB hos) hcut
        clear HQ HD hbd hcut hDl
        generalize hdl : done.length = dl at *
        have HDl : Hid (done.length = dl) := hdl
        clear hdl
        go_wp2_with fail
        go_at_call 122
        refine Calls.mono HRl.out ?_
        rintro e w2 ⟨rfl, hb2⟩
        have HF : Hid (∀ X, (w2.alloc X).ownsRow w.heap.size 38 5 (.slice va dl vc) dl xs ∧ XsL (RecKL w.heap.size (Value.slice va dl vc).ownBlock (w2.alloc X)) xs done ∧ Below w.heap.size w (w2.alloc X)) := fun X => by
          have hbo : Below wo.heap.size wo (w2.alloc X) := hb2.alloc hb2.size X
          exact ⟨ownsRow_below HO.out hbo, HX.out.imp fun _ _ h => h.grown (grownN_of_below hbo _) (.inl rfl), Below.thenOf HBw.out hbo HBw.out.size⟩
        clear HRl hsl hb2 HO HX
        go_wp2_with fail
        go_ret3
        obtain ⟨f1, f2, f3⟩ := HF.out _
        exact ⟨_, xs, by rw [HR.out]; rfl, by rw [HR.out]; exact HDl.out ▸ f1, by rw [HR.out]; exact f2, f3⟩
      | some y =>
        obtain ⟨x, t⟩ := y
        have hlen := cutNl_len hcut
        have HT : Hid (t = bs.drop (k + (x.length + 1))) := by
          unfold Hid
          have := (cutNl_some hcut).1
          rw [HD.out] at this
          rw [← List.drop_drop, this]
          simp
        have HRl : Hid _ := readLine_line B _ D x t wo (HE.out wo HBw.out) hbd (Nat.le_trans hB hos) (by omega) hcut
        have HBad : Hid (¬ (recOf x).2 = 0 → linesP most bs = (done, k, (recOf x).2)) := fun he => by
          rw [HQ.out, linesP_cut _ _ _ _ hcut, if_neg he]
          simp
        have HMany : Hid ((recOf x).2 = 0 → most = done.length → linesP most bs = (done, k, 2)) := fun he hm => by
          rw [HQ.out, linesP_cut _ _ _ _ hcut, if_pos he, hm, Nat.sub_self]
          simp
        have HMore : Hid ((recOf x).2 = 0 → done.length < most → linesP most bs = ((done ++ [(recOf x).1]) ++ (linesP (most - (done ++ [(recOf x).1]).length) (bs.drop (k + (x.length + 1)))).1, (k + (x.length + 1)) + (linesP (most - (done ++ [(recOf x).1]).length) (bs.drop (k + (x.length + 1)))).2.1, (linesP (most - (done ++ [(recOf x).1]).length) (bs.drop (k + (x.length + 1)))).2.2)) := fun he hm => by
          rw [HQ.out, linesP_cut _ _ _ _ hcut, if_pos he, show most - done.length = (most - (done ++ [(recOf x).1]).length) + 1 by simp; omega, ← HT.out]
          simp
          omega
        obtain ⟨⟨⟨x1, x2, x3, xr, x4⟩, E⟩, hRR⟩ : ∃ RR, RR = recOf x := ⟨_, rfl⟩
        rw [← hRR] at HRl HBad HMany HMore
        simp only [] at HRl HBad HMany HMore
        obtain ⟨dl, hdl⟩ : ∃ dl, dl = done.length := ⟨_, rfl⟩
        have HDl : Hid (done.length = dl) := hdl.symm
        rw [← hdl] at HO HX hvc hd HMany HMore ⊢
        obtain ⟨m, hm⟩ : ∃ m, m = x.length := ⟨_, rfl⟩
        rw [← hm] at HRl HMore hlen
        have hkm : k + (m + 1) ≤ N := by omega
        clear hRR hdl hm HQ HT hcut hbd HD hlen hDl
        go_wp2_with fail
        go_at_call 122
        refine Calls.mono HRl.out ?_
        rintro e w2 ⟨v2, rfl, hv2, hb2⟩
        obtain ⟨ra, rc, er, -⟩ := hv2.at.shape
        subst er
        simp only [] at hv2 ⊢
        obtain ⟨rn, hrn⟩ : ∃ rn, rn = xr.length := ⟨_, rfl⟩
        rw [← hrn] at hv2 ⊢
        have hs2 := hb2.size
        obtain ⟨W3, hW3⟩ : ∃ W3, W3 = w2.alloc (.cells #[.int .i64 x1, .int .i64 x2, .int .i64 x3, .slice ra rn rc, .int .i64 x4] 38) := ⟨_, rfl⟩
        have hb3 : Below w2.heap.size w2 W3 := by rw [hW3]; exact (Below.refl _ _).alloc (Nat.le_refl _) _
        have hbo3 : Below wo.heap.size wo W3 := Below.thenOf hb2 hb3 hb2.size
        have HO3 : Hid (W3.ownsRow w.heap.size 38 5 (.slice va dl vc) dl xs) := ownsRow_below HO.out hbo3
        have HX3 : Hid (XsL (RecKL w.heap.size (Value.slice va dl vc).ownBlock W3) xs done) := HX.out.imp fun _ _ h => h.grown (grownN_of_below hbo3 _) (.inl rfl)
        have HR3 : Hid (RecKL w.heap.size (Value.slice va dl vc).ownBlock W3 (.agg #[.int .i64 x1, .int .i64 x2, .int .i64 x3, .slice ra rn rc, .int .i64 x4]) (x1, x2, x3, xr, x4)) := RecKL.of_new (recNew_later hv2 hb3) hos fun k hk => by
          obtain ⟨cur, hc⟩ := ownsRow_tag HO.out k hk
          exact lt_of_block hc
        have HB3 : Hid (Below w.heap.size w W3) := Below.thenOf HBw.out hbo3 hos
        have g3 : W3.heap[w2.heap.size]? = some (.cells #[.int .i64 x1, .int .i64 x2, .int .i64 x3, .slice ra rn rc, .int .i64 x4] 38 (0, 0)) := by rw [hW3]; exact heap_made _ _
        obtain ⟨g0, g1, g2, g3', g4⟩ := rec_box g3
        have hs3 : w.heap.size ≤ W3.heap.size := HB3.out.size
        have hs3e : W3.heap.size = w2.heap.size + 1 := by rw [hW3]; simp
        have HW3 : Hid (W3 = _) := hW3
        clear hW3 hb3 hbo3 hv2 hrn g3 hb2 hs2 HO HX hsl HRl
        by_cases hE : E = 0
        case neg =>
          have hqE : (E == 0) = false := by simpa using hE
          have hqE' : (E != 0) = true := by simpa using hE
          have HR : Hid (linesP most bs = (done, k, E)) := HBad.out hE
          clear hE HBad HMany HMore
          go_wp2_with fail
          rw [← HW3.out]
          go_ret3
          exact ⟨_, xs, by rw [HR.out]; rfl, by rw [HR.out]; exact HDl.out.symm ▸ HO3.out, by rw [HR.out]; exact HX3.out, HB3.out⟩
        case pos =>
          subst hE
          by_cases hfull : most = dl
          · have HR : Hid (linesP most bs = (done, k, 2)) := HMany.out rfl hfull
            have hge : (dl : Int) = (most : Int) := by omega
            clear HBad HMany HMore
            go_wp2_with fail
            rw [← HW3.out]
            go_ret3
            exact ⟨_, xs, by rw [HR.out]; rfl, by rw [HR.out]; exact HDl.out.symm ▸ HO3.out, by rw [HR.out]; exact HX3.out, HB3.out⟩
          · have hlt' : dl < most := by omega
            have hge : ¬ ((dl : Int) = (most : Int)) := by omega
            have HQ' : Hid _ := HMore.out rfl hlt'
            have HA : Hid (dl + 1 ≤ maxLen ∧ (dl + 1) * 56 ≤ 140737488355328 ∧ w.heap.size ≤ W3.heap.size) := ⟨by rw [hml]; omega, by omega, hs3⟩
            have HNum : Hid (k + (m + 1) ≤ N ∧ dl + 1 ≤ most ∧ k < N) := ⟨hkm, hlt', hlt⟩
            have hwn : IntKind.i64.wrap ((k : Int) + ((m : Int) + 1)) = (k : Int) + ((m : Int) + 1) := IntWalk.i64_in _ (by omega)
            clear HBad HMany HMore hd hvc hvm hlt' hm40 hos hk hlt hml hkm h60 hs3
            go_wp2_with (first
              | (at_builtin; rw [← HW3.out]; go_must (refine wpList_appN _ rfl _ _ rfl Tryz.underlying53 hi1 hi2 hi3 hi4 rfl (by decide) w.heap.size _ _ _ rfl _ 1 [.int .i64 x1, .int .i64 x2, .int .i64 x3, .slice ra rn rc, .int .i64 x4] rfl W3 rfl (by first | rfl | omega) W3 (Below.refl _ _) HO3.out rfl (by simp [Value.oneCell']) HA.out.1 HA.out.2.1 HA.out.2.2 ?_; intro v9 w9 HO9 hb9 hg9 hf9; have HB9 : Hid _ := hb9; clear hb9)))
            obtain ⟨hN1, hN2, hN3⟩ := HNum.out
            refine ⟨⟨k + (m + 1), done ++ [(x1, x2, x3, xr, x4)], xs ++ [.int .i64 x1, .int .i64 x2, .int .i64 x3, .slice ra rn rc, .int .i64 x4], hN1, by rw [List.length_append, HDl.out]; exact hN2, by go_num, HQ', ?_, ?_, HB3.out.trans HB9.out⟩, by simp [intOf]; omega⟩
            · unfold Hid
              rw [List.length_append, HDl.out]
              exact HO9.out
            · exact (HX3.out.snoc (r := (x1, x2, x3, xr, x4)) HR3.out).imp fun _ _ h => h.grown hg9.out hf9.out
    · have e : k = N := by omega
      subst e
      have HR : Hid (linesP most bs = (done, k, 0)) := by
        unfold Hid
        have : bs.drop k = [] := List.drop_of_length_le (by rw [HN.out]; exact Nat.le_refl _)
        rw [HQ.out, this, linesP_nil]
        simp
      have i1 : ¬ ((k : Int) < (k : Int)) := by omega
      clear HQ
      generalize hdl : done.length = dl at *
      have HDl : Hid (done.length = dl) := hdl
      clear hdl
      go_wp2_with fail
      go_ret3
      exact ⟨_, by rw [HR.out]; rfl, xs, by rw [HR.out]; exact HDl.out.symm ▸ HO.out, by rw [HR.out]; exact HX.out, HBw.out⟩
end Go.Proofs.YtdfcfinjoghipacGreatDoor
end
