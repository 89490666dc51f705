/- DiskKeeps: records put one behind the other (the closure), in memory. -/
import Derived.Test.YtdfcfinjoghipacGreatDoorDj44
import Derived.Test.YtdfcfinjoghipacGreatDoorDkK
set_option linter.all false
set_option maxRecDepth 100000
namespace Go.Proofs.YtdfcfinjoghipacGreatDoor
open Go.RowKit Go.Maps

/-- One block may have turned, and there is more. -/
def KpX (k : Nat) (w w' : World) : Prop := (∀ b, b ≠ k → b < w.heap.size → w'.heap[b]? = w.heap[b]?) ∧ w.heap.size ≤ w'.heap.size
theorem KpX.refl (k : Nat) (w : World) : KpX k w w := ⟨fun _ _ _ => rfl, Nat.le_refl _⟩
theorem KpX.below {k : Nat} {w w' w'' : World} (h : KpX k w w') (hb : Below w'.heap.size w' w'') : KpX k w w'' := ⟨fun b hne hl => (hb.block b (Nat.lt_of_lt_of_le hl h.2)).trans (h.1 b hne hl), Nat.le_trans h.2 hb.size⟩
theorem KpX.keepX {k : Nat} {w w' w'' : World} (h : KpX k w w') (hb : KeepX k w' w'') (hs : w''.heap.size = w'.heap.size) : KpX k w w'' := ⟨fun b hne hl => (hb b hne).trans (h.1 b hne hl), by rw [hs]; exact h.2⟩
theorem KpX.grown {k : Nat} {w w' w'' : World} {g : Option Nat} (h : KpX k w w') (hg : w'.grownBy w'' g) (hge : ∀ j, g = some j → w.heap.size ≤ j) : KpX k w w'' := ⟨fun b hne hl => (hg.block b (Nat.lt_of_lt_of_le hl h.2) (fun e => by have := hge b e.symm; omega)).trans (h.1 b hne hl), Nat.le_trans h.2 hg.size⟩
/-- The world between: cut off behind the old blocks. -/
def World.cutTo (w' : World) (n : Nat) : World := { w' with heap := w'.heap.extract 0 n }
theorem KpX.split {k : Nat} {w w' : World} (h : KpX k w w') : KeepX k w (World.cutTo w' w.heap.size) ∧ Below w.heap.size (World.cutTo w' w.heap.size) w' := by
  have hsz : (World.cutTo w' w.heap.size).heap.size = w.heap.size := by
    show (w'.heap.extract 0 w.heap.size).size = w.heap.size
    rw [Array.size_extract]
    have := h.2
    omega
  refine ⟨fun b hne => ?_, ⟨rfl, rfl, rfl, by rw [hsz]; exact h.2, fun b hb => ?_⟩⟩
  · by_cases hl : b < w.heap.size
    · rw [← h.1 b hne hl]
      show (w'.heap.extract 0 w.heap.size)[b]? = _
      rw [Array.getElem?_extract]
      have := h.2
      rw [if_pos (by omega), Nat.zero_add]
    · rw [Array.getElem?_eq_none (by omega), Array.getElem?_eq_none (by omega)]
  · show w'.heap[b]? = (w'.heap.extract 0 w.heap.size)[b]?
    rw [Array.getElem?_extract]
    have := h.2
    rw [if_pos (by omega), Nat.zero_add]
theorem RecsAt.kpx {B k : Nat} {w w' : World} {v : Value} {rs : List RecT} (h : RecsAt B w v rs) (hk : KpX k w w') (hn : NoInts w k) (hB : B ≤ w.heap.size) : RecsAt B w' v rs := (h.box hk.split.1 hn).later hk.split.2 hB

theorem grown_ofB {w w' : World} (hb : Below w.heap.size w w') (g : Option Nat) : w.grownBy w' g := ⟨hb.os, hb.tape, hb.output, hb.size, fun b hl _ => hb.block b hl⟩
/-- What stands in the region that puts a disk and a record away: operations 3 (the record, in a list), 4 (appended), 5 (the disk, stored). -/
structure APk (base : Nat) (W : World) (v : Value) (n : Nat) (xs news : List Value) (fs : Nat → Value → Prop) (w : World) : Prop where
  grown : W.grownBy w v.ownBlock
  lits : ∀ u, fs 3 u → ∃ g T0 fr, u = .slice (some ⟨g, 0, none⟩) 1 1 ∧ W.heap.size ≤ g ∧ w.heap[g]? = some (.cells news.toArray T0 fr)
  row : (∀ u, ¬ fs 4 u) → w.ownsRow base 38 5 v n xs
  app : ∀ u, fs 4 u → w.ownsRow base 38 5 u (n + 1) (xs ++ news)
  need : ∀ u, fs 4 u → ∃ u', fs 3 u'
def JPk (bd base : Nat) (x0 x1 : Value) (W : World) (v : Value) (n : Nat) (xs news : List Value) (fs : Nat → Value → Prop) (w : World) : Prop :=
  ((∀ u, ¬ fs 5 u) ∧ APk base W v n xs news fs w) ∨ ((∃ u, fs 5 u) ∧ (∃ u, fs 3 u) ∧ (∃ u, fs 4 u) ∧ ∃ w0, w = (w0.setCell ⟨bd, 0, none⟩ x0).setCell ⟨bd, 1, none⟩ x1 ∧ APk base W v n xs news fs w0)
section
variable {bd base : Nat} {x0 x1 : Value} {W w w' : World} {v : Value} {n : Nat} {xs news : List Value} {fs : Nat → Value → Prop}
theorem JPk.start (h : W.ownsRow base 38 5 v n xs) : JPk bd base x0 x1 W v n xs news (fun _ _ => False) W.drew :=
  .inl ⟨fun _ h => h, ⟨⟨rfl, rfl, rfl, Nat.le_refl _, fun _ _ _ => rfl⟩, fun _ h => h.elim, fun _ => h, fun _ h => h.elim, fun _ h => h.elim⟩⟩
theorem JPk.ahead (h : JPk bd base x0 x1 W v n xs news fs w) {k : Nat} (hk : k = 3 ∨ k = 4 ∨ k = 5) (hno : ∀ v, ¬ fs k v) : (∀ u, ¬ fs 5 u) ∧ APk base W v n xs news fs w := by
  rcases h with h | ⟨⟨a, ha⟩, ⟨b, hb⟩, ⟨c, hc⟩, _⟩
  · exact h
  · rcases hk with rfl | rfl | rfl
    · exact absurd hb (hno _)
    · exact absurd hc (hno _)
    · exact absurd ha (hno _)
theorem JPk.lit (h : JPk bd base x0 x1 W v n xs news fs w) (hno : ∀ v, ¬ fs 3 v) (T0 : TypeId) : JPk bd base x0 x1 W v n xs news (addF fs 3 (.slice (some ⟨w.heap.size, 0, none⟩) 1 1)) (w.alloc (.cells news.toArray T0)) := by
  obtain ⟨h5, h⟩ := h.ahead (.inl rfl) hno
  have hb : Below w.heap.size w (w.alloc (.cells news.toArray T0)) := (Below.refl _ _).alloc (Nat.le_refl _) _
  refine .inl ⟨fun u hu => h5 u (addF_ne hu (by decide)), ⟨World.grownBy.andThen h.grown (grown_ofB hb v.ownBlock) fun j hj => .inr hj, fun u hu => ?_, fun hn => ownsRow_below (h.row fun u hu => hn u (.inl hu)) hb, fun u hu => ownsRow_below (h.app u (addF_ne hu (by decide))) hb, fun u hu => ⟨_, .inr ⟨rfl, rfl⟩⟩⟩⟩
  rcases hu with hu | ⟨_, rfl⟩
  · exact absurd hu (hno u)
  · exact ⟨w.heap.size, T0, (0, 0), rfl, h.grown.size, heap_made _ _⟩
theorem JPk.append (h : JPk bd base x0 x1 W v n xs news fs w) (hno : ∀ u, ¬ fs 4 u) (hob : ∀ k, v.ownBlock = some k → k < W.heap.size) (hL : base ≤ W.heap.size) (lit : Value) (hlit : fs 3 lit) (hn : n ≤ 100000) (hnw : news.length = 5) (h1 : ∀ u ∈ news, u.oneCell' = true) (ty : TypeId) :
    ∃ v' w', (Builtin.append_ #[53, 53] ty #[v, lit]).run Tryz.prog w = .ok v' w' ∧ (∃ a cap, v' = .slice a (n + 1) cap) ∧ JPk bd base x0 x1 W v n xs news (addF fs 4 v') w' := by
  have hml := maxLen_eq
  obtain ⟨h5, h⟩ := h.ahead (.inr (.inl rfl)) hno
  obtain ⟨g, T0, fr, rfl, hg, hbl⟩ := h.lits lit hlit
  have hrow := h.row hno
  obtain ⟨inf, hi1, hi2, hi3, hi4⟩ := infoRec
  obtain ⟨v', w', r1, r2, r3, _, r5⟩ := run_append_own_at (P := Tryz.prog) w base 53 ty 38 inf _ 5 56 Tryz.underlying53 hi1 hi2 hi3 hi4 rfl (by decide) v n xs hrow ⟨g, 0, none⟩ 1 1 news (by rw [hnw]) (fun j u hj => by rw [add_at, Nat.zero_add]; exact heap_cell hbl j (by simpa using hj)) h1 (by omega) (by omega) (Nat.le_trans hL h.grown.size)
  have hst : ∀ g', W.heap.size ≤ g' → ∀ {x}, w.heap[g']? = some x → w'.heap[g']? = some x := fun g' hg' x hx => by
    refine (r3.block g' (Array.getElem?_eq_some_iff.1 hx).1 fun e => ?_).trans hx
    have := hob g' e.symm
    omega
  obtain ⟨a', cap', e', _⟩ := ownsRow_caps r2
  refine ⟨v', w', r1, ⟨a', cap', e'⟩, .inl ⟨fun u hu => h5 u (addF_ne hu (by decide)), ⟨World.grownBy.andThen h.grown r3 fun j hj => .inr hj, fun u hu => ?_, fun hn => absurd (.inr ⟨rfl, rfl⟩) (hn v'), fun u hu => ?_, fun _ _ => ⟨_, .inl hlit⟩⟩⟩⟩
  · obtain ⟨g2, T2, fr2, e1, e2, e3⟩ := h.lits u (addF_ne hu (by decide))
    exact ⟨g2, T2, fr2, e1, e2, hst g2 e2 e3⟩
  · rcases hu with hu | ⟨_, rfl⟩
    · exact absurd hu (hno u)
    · exact r2
theorem JPk.store (h : JPk bd base x0 x1 W v n xs news fs w) (hno : ∀ u, ¬ fs 5 u) {u4 : Value} (h4 : fs 4 u4) : W.grownBy w v.ownBlock ∧ JPk bd base x0 x1 W v n xs news (addF fs 5 undef) ((w.setCell ⟨bd, 0, none⟩ x0).setCell ⟨bd, 1, none⟩ x1) := by
  obtain ⟨_, h⟩ := h.ahead (.inr (.inr rfl)) hno
  obtain ⟨u3, h3⟩ := h.need u4 h4
  refine ⟨h.grown, .inr ⟨⟨_, .inr ⟨rfl, rfl⟩⟩, ⟨_, .inl h3⟩, ⟨_, .inl h4⟩, w, rfl, ⟨h.grown, fun u hu => h.lits u (addF_ne hu (by decide)), fun hn => absurd (.inl h4) (hn u4), fun u hu => h.app u (addF_ne hu (by decide)), fun u hu => ⟨_, .inl h3⟩⟩⟩⟩
theorem JPk.done (h : JPk bd base x0 x1 W v n xs news fs w) {u4 u5 : Value} (h4 : fs 4 u4) (h5 : fs 5 u5) : ∃ w0, w = (w0.setCell ⟨bd, 0, none⟩ x0).setCell ⟨bd, 1, none⟩ x1 ∧ W.grownBy w0 v.ownBlock ∧ w0.ownsRow base 38 5 u4 (n + 1) (xs ++ news) := by
  rcases h with ⟨h, _⟩ | ⟨_, _, _, w0, e, hA⟩
  · exact absurd h5 (h _)
  · exact ⟨w0, e, hA.grown, hA.app u4 h4⟩
/-- Blocks other than the disk's box and the row's own are as they were. -/
theorem JPk.cells (h : JPk bd base x0 x1 W v n xs news fs w) {b : Nat} {cur : Array Value} {T : TypeId} {fr : Nat × Nat} (hb : W.heap[b]? = some (.cells cur T fr)) (hne : b ≠ bd) (hob : some b ≠ v.ownBlock) : w.heap[b]? = some (.cells cur T fr) := by
  rcases h with ⟨_, h⟩ | ⟨_, _, _, w0, rfl, h⟩
  · exact (h.grown.block b (lt_of_block hb) hob).trans hb
  · exact ((Below.heap_setCell _ _ _ _ hne).trans (Below.heap_setCell _ _ _ _ hne)).trans ((h.grown.block b (lt_of_block hb) hob).trans hb)
end
def SPk (n : Nat) (k : Nat) (v : Value) : Prop := if k = 3 then ∃ g : Nat, v = .slice (some ⟨g, 0, none⟩) 1 1 else if k = 4 then ∃ a cap, v = .slice a (n + 1) cap else True
theorem sPk_some (n : Nat) (k : Nat) : ∃ v, SPk n k v := by
  unfold SPk
  split
  · exact ⟨_, 0, rfl⟩
  · split
    · exact ⟨_, none, 0, rfl⟩
    · exact ⟨undef, trivial⟩
theorem xsQ_one {B : Nat} {w : World} {rv : Value} {r : RecT} (h : RecAt B w (.agg #[.int .i64 r.1, .int .i64 r.2.1, .int .i64 r.2.2.1, rv, .int .i64 r.2.2.2.2]) r) : XsQ B w [.int .i64 r.1, .int .i64 r.2.1, .int .i64 r.2.2.1, rv, .int .i64 r.2.2.2.2] [r] := by
  refine ⟨rfl, fun u hu => ?_, fun i q hq => ?_⟩
  · obtain ⟨a, c, e, _⟩ := h.shape
    simp at e
    simp at hu
    rcases hu with rfl | rfl | rfl | rfl | rfl
    · rfl
    · rfl
    · rfl
    · rw [e]; rfl
    · rfl
  · match i, hq with
    | 0, hq =>
      simp at hq
      subst hq
      exact ⟨rv, rfl, rfl, rfl, rfl, rfl, h⟩
    | i + 1, hq => simp at hq
/-- Worlds in which two blocks are as they were. -/
def KeW (b1 b2 : Nat) (o1 o2 : Obj) : Type := { w' : World // w'.heap[b1]? = some o1 ∧ w'.heap[b2]? = some o2 }

set_option maxHeartbeats 16000000 in
theorem putFn_any (L B bd : Nat) (lv : Value) (rs : List RecT) (d : DiskT) (a0 b0 : Option Addr) (n0 c0 m0 k0 : Nat) (w : World)
    (HPut : Hid (∀ (w' : World) (v rv : Value) (d : DiskT) (r : RecT), Below L w w' → DSm d → DiskAt w'.heap.size w' v d → RecAt w'.heap.size w' rv r → Calls Tryz.prog 21 #[v, rv] w' fun e w'' => ∃ a n c b m k, e = .returned (.tuple #[.agg #[.slice a n c, .slice b m k], .int .i64 (dPutE d r)]) ∧ DiskNew w'.heap.size w'' (.agg #[.slice a n c, .slice b m k]) (dPutR d r) ∧ Below w'.heap.size w' w''))
    (HSm0 : Hid (DSm d)) (hl : RecsAt B w lv rs) (hBL : B ≤ L) (hL : L ≤ bd) (hbox : w.heap[bd]? = some (.cells #[.slice a0 n0 c0, .slice b0 m0 k0] 48 (0, 0))) (hd : DiskAt w.heap.size w (.agg #[.slice a0 n0 c0, .slice b0 m0 k0]) d) :
    Calls Tryz.prog 34 #[lv, .pointer (some ⟨bd, 0, none⟩)] w fun e w' => ∃ ov, e = .returned ov ∧ RecsAt w'.heap.size w' ov (putsF d (rs.take 15)).2 ∧ Below L w w' ∧ KpX bd w w' ∧ ∃ a n c b m k, w'.heap[bd]? = some (.cells #[.slice a n c, .slice b m k] 48 (0, 0)) ∧ DiskAt w'.heap.size w' (.agg #[.slice a n c, .slice b m k]) (putsF d (rs.take 15)).1 := by
  have hbdl : bd < w.heap.size := lt_of_block hbox
  have HL : Hid (∀ w', Below L w w' → RecsAt B w' lv rs) := fun w' h => hl.later h hBL
  obtain ⟨la, lc, rfl, hlc, hlm, -⟩ := hl
  have hml := maxLen_eq
  obtain ⟨ln, hln⟩ : ∃ n, n = rs.length := ⟨_, rfl⟩
  have HN : Hid (rs.length = ln) := hln.symm
  rw [← hln] at hlc HL ⊢
  clear hln
  obtain ⟨N, hN⟩ : ∃ N, N = min ln 15 := ⟨_, rfl⟩
  have hN15 : N ≤ 15 := by omega
  have hNl : N ≤ ln := by omega
  have hmin : min (ln : Int) 15 = (N : Int) := by omega
  have HTl : Hid (rs.take 15 = rs.take N) := by
    unfold Hid
    rw [hN, List.take_eq_take_iff, HN.out]
    omega
  have HBx : Hid (w.heap[bd]? = some (.cells #[.slice a0 n0 c0, .slice b0 m0 k0] 48 (0, 0))) := hbox
  have HD : Hid (DiskAt w.heap.size w (.agg #[.slice a0 n0 c0, .slice b0 m0 k0]) d) := hd
  clear hN hbox hd
  go_enter Tryz.func34, Tryz.ntmps34
  go_wp2_with fail
  all_goals first | (exfalso; omega) | skip
  go_loopw [4, 15] (fun ov iv wr => ∃ (i : Nat) (xs : List Value), i ≤ N ∧ iv = .int .i64 i ∧ Hid (wr.ownsRow w.heap.size 38 5 ov (putsF d (rs.take i)).2.length xs ∧ XsQ B wr xs (putsF d (rs.take i)).2) ∧ Hid (Below L w wr) ∧ Hid (KpX bd w wr) ∧ Hid (∃ a n c b m k, wr.heap[bd]? = some (.cells #[.slice a n c, .slice b m k] 48 (0, 0)) ∧ DiskAt wr.heap.size wr (.agg #[.slice a n c, .slice b m k]) (putsF d (rs.take i)).1)) (fun _ iv _ => N - (intOf iv).toNat)
  case atStart => exact ⟨0, [], by omega, rfl, ⟨⟨rfl, .inl ⟨rfl, rfl⟩⟩, rfl, fun u hu => (by cases hu), fun i r hr => by simp [putsF] at hr⟩, Below.refl _ _, KpX.refl _ _, ⟨a0, n0, c0, b0, m0, k0, HBx.out, HD.out⟩⟩
  case round =>
    obtain ⟨i, xs, hi, rfl, HO, HB, HK, HX⟩ := hrel
    obtain ⟨wo, hwo⟩ : ∃ x, x = wr := ⟨_, rfl⟩
    subst hwo
    have i0 : (0 : Int) ≤ (i : Int) := by omega
    have hos := HB.out.size
    have hsz : w.heap.size ≤ wo.heap.size := HK.out.2
    by_cases hlt : i < N
    · have i1 : (i : Int) < (N : Int) := by omega
      obtain ⟨r, hrk⟩ : ∃ r, rs[i]? = some r := ⟨rs[i]'(by rw [HN.out]; omega), by simp⟩
      have HS : Hid (putsF d (rs.take (i + 1)) = if dPutE (putsF d (rs.take i)).1 r = 0 then (dPutR (putsF d (rs.take i)).1 r, (putsF d (rs.take i)).2 ++ [r]) else putsF d (rs.take i)) := by
        unfold Hid
        rw [List.take_succ, hrk]
        exact putsF_snoc d (rs.take i) r
      have HPl : Hid ((putsF d (rs.take i)).2.length ≤ 15) := by
        have := putsF_len d (rs.take i)
        rw [List.length_take] at this
        unfold Hid
        omega
      obtain ⟨_, _, e1, -, -, hat⟩ := HL.out _ HB.out
      obtain ⟨b3, o3, e, hbB3, hrc⟩ := hat i r hrk
      simp at e1
      obtain ⟨rfl, -, -⟩ := e1
      subst e
      clear hat hrk
      obtain ⟨a, n, c, b, m, k, gbx, hdk⟩ := HX.out
      obtain ⟨D, hD⟩ : ∃ D, D = (putsF d (rs.take i)).1 := ⟨_, rfl⟩
      obtain ⟨O, hO⟩ : ∃ O, O = (putsF d (rs.take i)).2 := ⟨_, rfl⟩
      have HPE : Hid (putsF d (rs.take i) = (D, O)) := by unfold Hid; rw [hD, hO]
      have HSmD : Hid (DSm D) := by unfold Hid; rw [hD]; exact putsF_sm HSm0.out _
      rw [← hD] at HS hdk
      rw [← hO] at HS HO HPl
      clear hD hO HX
      obtain ⟨rv, q0, q1, q2, q3, q4, hra⟩ := hrc
      obtain ⟨ra, rcp, er, -⟩ := hra.shape
      simp at er
      subst er
      have HRA : Hid (RecAt B wo (.agg #[.int .i64 r.1, .int .i64 r.2.1, .int .i64 r.2.2.1, .slice ra r.2.2.2.1.length rcp, .int .i64 r.2.2.2.2]) r) := hra
      clear hra
      obtain ⟨V, hV⟩ : ∃ V : List Value, V = [.int .i64 r.1, .int .i64 r.2.1, .int .i64 r.2.2.1, .slice ra r.2.2.2.1.length rcp, .int .i64 r.2.2.2.2] := ⟨_, rfl⟩
      have HXV : Hid (∀ w', Below L wo w' → XsQ B w' V [r]) := fun w' h => by
        rw [hV]
        exact xsQ_one (HRA.out.later h hBL)
      have HV : Hid (V = _) := hV
      clear hV
      generalize r.2.2.2.1.length = rl at *
      obtain ⟨W5, hW5⟩ : ∃ W5, W5 = wo.alloc (.cells #[.int .i64 r.1, .int .i64 r.2.1, .int .i64 r.2.2.1, .slice ra rl rcp, .int .i64 r.2.2.2.2] 38) := ⟨_, rfl⟩
      have hb5 : Below wo.heap.size wo W5 := by rw [hW5]; exact (Below.refl _ _).alloc (Nat.le_refl _) _
      have hs5 : W5.heap.size = wo.heap.size + 1 := by rw [hW5]; simp
      have g5 : W5.heap[wo.heap.size]? = some (.cells #[.int .i64 r.1, .int .i64 r.2.1, .int .i64 r.2.2.1, .slice ra rl rcp, .int .i64 r.2.2.2.2] 38 (0, 0)) := by rw [hW5]; exact heap_made _ _
      have gb5 := (hb5.block _ (Nat.lt_of_lt_of_le hbdl hsz)).trans gbx
      have HP := HPut.out W5 _ _ D r (HB.out.trans (hb5.mono (by omega))) HSmD.out (diskAt_wideK (hdk.later hb5 (Nat.le_refl _)) hb5.size) (recAt_more (HRA.out.later hb5 (by omega)) (by omega))
      have HP' : Hid _ := HP
      obtain ⟨x0, x1, xf0, xf1⟩ := box_free gbx
      have HW5 : Hid (W5 = _) := hW5
      have hbw : bd < wo.heap.size := Nat.lt_of_lt_of_le hbdl hsz
      obtain ⟨va, vc, ev, -⟩ := ownsRow_caps HO.out.1
      subst ev
      have hob : ∀ k, (Value.slice va O.length vc).ownBlock = some k → k < wo.heap.size ∧ w.heap.size ≤ k := fun k hk => by
        obtain ⟨cur, hc⟩ := ownsRow_tag HO.out.1 k hk
        exact ⟨lt_of_block hc, ownsRow_ge HO.out.1 k hk⟩
      have HOb : Hid _ := hob
      have Hb5 : Hid (Below wo.heap.size wo W5) := hb5
      have HDk : Hid (DiskAt wo.heap.size wo (.agg #[.slice a n c, .slice b m k]) D) := hdk
      have Hgb : Hid (W5.heap[bd]? = some (.cells #[.slice a n c, .slice b m k] 48 (0, 0))) := gb5
      have Hg5 : Hid (W5.heap[wo.heap.size]? = some (.cells #[.int .i64 r.1, .int .i64 r.2.1, .int .i64 r.2.2.1, .slice ra rl rcp, .int .i64 r.2.2.2.2] 38 (0, 0))) := g5
      clear HP hW5 hb5 g5 gb5 gbx hdk hob
      have Hgw : Hid (wo.heap[bd]? = some (.cells #[.slice a n c, .slice b m k] 48 (0, 0))) := by unfold Hid; rw [← Hb5.out.block _ hbw]; exact Hgb.out
      have hLs : L ≤ wo.heap.size := by omega
      generalize hOl : O.length = ol at *
      have HOl : Hid (O.length = ol) := hOl
      clear hOl
      by_cases hpe : dPutE D r = 0
      · have HS' : Hid (putsF d (rs.take (i + 1)) = (dPutR D r, O ++ [r])) := by unfold Hid; rw [HS.out, if_pos hpe]
        rw [hpe] at HP'
        clear HS hpe
        go_wp2_with fail
        rw [← HW5.out]
        go_at_call 21
        refine Calls.mono HP'.out ?_
        rintro e w6 ⟨a', n', c', b', m', k', rfl, hnew, hb6⟩
        clear HP' q0 q1 q2 q3 q4 x0 x1 xf0 xf1
        obtain ⟨W7, hW7⟩ : ∃ W7, W7 = w6.alloc (.cells #[.slice a' n' c', .slice b' m' k'] 48) := ⟨_, rfl⟩
        have hb7 : Below w6.heap.size w6 W7 := by rw [hW7]; exact (Below.refl _ _).alloc (Nat.le_refl _) _
        have hs7 : W7.heap.size = w6.heap.size + 1 := by rw [hW7]; simp
        have g7 : W7.heap[w6.heap.size]? = some (.cells #[.slice a' n' c', .slice b' m' k'] 48 (0, 0)) := by rw [hW7]; exact heap_made _ _
        have hs6 := hb6.size
        have hb57 : Below W5.heap.size W5 W7 := Below.thenOf hb6 hb7 hb6.size
        have hbo7 : Below wo.heap.size wo W7 := Below.thenOf Hb5.out hb57 Hb5.out.size
        have gc7 := (hb57.block _ (by omega)).trans Hg5.out
        have gb7 := (hb57.block _ (by omega)).trans Hgb.out
        have HO7 : Hid (W7.ownsRow w.heap.size 38 5 (.slice va ol vc) ol xs) := ownsRow_below HO.out.1 hbo7
        have HW7 : Hid (W7 = _) := hW7
        have n1 : wo.heap.size ≠ bd := by omega
        have n2 : w6.heap.size ≠ bd := by omega
        have m1 : some wo.heap.size ≠ (Value.slice va ol vc).ownBlock := fun e => by have := HOb.out _ e.symm; omega
        have m2 : some w6.heap.size ≠ (Value.slice va ol vc).ownBlock := fun e => by have := HOb.out _ e.symm; omega
        have m3 : some bd ≠ (Value.slice va ol vc).ownBlock := fun e => by have := HOb.out _ e.symm; omega
        have hne : Nonempty (KeW wo.heap.size w6.heap.size (.cells #[.int .i64 r.1, .int .i64 r.2.1, .int .i64 r.2.2.1, .slice ra rl rcp, .int .i64 r.2.2.2.2] 38 (0, 0)) (.cells #[.slice a' n' c', .slice b' m' k'] 48 (0, 0))) := ⟨⟨W7, gc7, g7⟩⟩
        have p0 : ∀ z : KeW wo.heap.size w6.heap.size (.cells #[.int .i64 r.1, .int .i64 r.2.1, .int .i64 r.2.2.1, .slice ra rl rcp, .int .i64 r.2.2.2.2] 38 (0, 0)) (.cells #[.slice a' n' c', .slice b' m' k'] 48 (0, 0)), z.1.cell? ⟨w6.heap.size, 0, none⟩ = some (.slice a' n' c') ∧ z.1.cell? ⟨w6.heap.size, 1, none⟩ = some (.slice b' m' k') ∧ z.1.cell? ⟨wo.heap.size, 0, none⟩ = some (.int .i64 r.1) ∧ z.1.cell? ⟨wo.heap.size, 1, none⟩ = some (.int .i64 r.2.1) ∧ z.1.cell? ⟨wo.heap.size, 2, none⟩ = some (.int .i64 r.2.2.1) ∧ z.1.cell? ⟨wo.heap.size, 3, none⟩ = some (.slice ra rl rcp) ∧ z.1.cell? ⟨wo.heap.size, 4, none⟩ = some (.int .i64 r.2.2.2.2) := fun z => ⟨heap_cell z.2.2 0 rfl, heap_cell z.2.2 1 rfl, heap_cell z.2.1 0 rfl, heap_cell z.2.1 1 rfl, heap_cell z.2.1 2 rfl, heap_cell z.2.1 3 rfl, heap_cell z.2.1 4 rfl⟩
        have s0 := fun z => (p0 z).1
        have s1 := fun z => (p0 z).2.1
        have s2 := fun z => (p0 z).2.2.1
        have s3 := fun z => (p0 z).2.2.2.1
        have s4 := fun z => (p0 z).2.2.2.2.1
        have s5 := fun z => (p0 z).2.2.2.2.2.1
        have s6 := fun z => (p0 z).2.2.2.2.2.2
        clear p0
        have hDJ : Hid (∀ fs w', JPk bd w.heap.size (.slice a' n' c') (.slice b' m' k') W7 (.slice va ol vc) ol xs V fs w' → ∃ z : KeW wo.heap.size w6.heap.size (.cells #[.int .i64 r.1, .int .i64 r.2.1, .int .i64 r.2.2.1, .slice ra rl rcp, .int .i64 r.2.2.2.2] 38 (0, 0)) (.cells #[.slice a' n' c', .slice b' m' k'] 48 (0, 0)), w' = z.1) := fun fs w' h => ⟨⟨w', h.cells gc7 n1 m1, h.cells g7 n2 m2⟩, rfl⟩
        have Hgb7 : Hid (W7.heap[bd]? = some (.cells #[.slice a n c, .slice b m k] 48 (0, 0))) := gb7
        have HVn : Hid (V.length = 5 ∧ ∀ u ∈ V, u.oneCell' = true) := by
          have := HXV.out wo (Below.refl _ _)
          exact ⟨by rw [this.1]; rfl, this.2.1⟩
        have HAll : Hid (∀ w0, W7.grownBy w0 (Value.slice va ol vc).ownBlock → Below L wo w0 ∧ KpX bd w w0 ∧ w0.heap[bd]? = some (.cells #[.slice a n c, .slice b m k] 48 (0, 0)) ∧ ∀ wF, KeepX bd w0 wF → wF.heap.size = w0.heap.size → DiskAt wF.heap.size wF (.agg #[.slice a' n' c', .slice b' m' k']) (dPutR D r)) := by
          intro w0 hg
          refine ⟨(hbo7.mono hLs).grown hg (by omega) fun j hj => Nat.le_trans (by omega) (HOb.out j hj).2, (HK.out.below hbo7).grown hg fun j hj => (HOb.out j hj).2, (hg.block bd (by omega) m3).trans gb7, fun wF hk hs => ?_⟩
          refine hnew wF (fun g h1 h2 => ?_) (by have := hg.size; omega)
          rw [hk g (by omega), hg.block g (by omega) (fun e => by have := (HOb.out g e.symm).1; omega), hb7.block g h2]
        clear hW7 hb7 g7 gc7 gb7 hb57 hbo7 hnew hb6 n1 n2 m1 m2 m3
        go_wp2_with fail
        rw [← HW7.out]
        refine wp_region_free [_, _, _, _, _, _] _ rfl (fun k => k == 3 || k == 4 || k == 5) (JPk bd w.heap.size (.slice a' n' c') (.slice b' m' k') W7 (.slice va ol vc) ol xs V) (SPk ol) (sPk_some _) (by kernel_rfl) (by kernel_rfl) (JPk.start HO7.out) ?_
        iterate 3 (refine wpG_read hDJ.out rfl rfl ?_; go_big_quiet_step (fail); refine wpQuiet_nil ?_)
        refine wpG_write rfl rfl (fun gs w' hJ hdep hno => ⟨.slice (some ⟨w'.heap.size, 0, none⟩) 1 1, w'.alloc (.cells V.toArray 38), ?_, ⟨_, rfl⟩, hJ.lit hno _⟩) (fun v3 hv3 => ?_)
        · rw [HV.out]
          clear hJ hdep hno s0 s1 s2 s3 s4 s5 s6 hDJ hne
          go_simp
        simp only [Act.put, List.setIfInBounds_toArray, List.set_cons_succ, List.set_cons_zero]
        obtain ⟨g3, rfl⟩ : ∃ g : Nat, v3 = .slice (some ⟨g, 0, none⟩) 1 1 := hv3
        refine wpG_write rfl rfl (fun gs w' hJ hdep hno => ?_) (fun v4 hv4 => ?_)
        · obtain ⟨v', w'', r1, r2', r3⟩ := hJ.append hno (fun j hj => by have := (HOb.out j hj).1; omega) (by omega) _ (hdep 3 _ (.inr ⟨rfl, rfl⟩) (waitsB_spec (by kernel_rfl))) (by have := HPl.out; omega) HVn.out.1 HVn.out.2 53
          refine ⟨v', w'', ?_, r2', r3⟩
          unfold execOp
          simp only [resolve, invoke, builtin, Sem.run_bind, Sem.run_pure, Result.andThen_ok, List.map_toArray, List.map_cons, List.map_nil]
          exact (congrArg (fun r => Result.andThen r fun v w => .ok (Next.value v) w) r1)
        simp only [Act.put, List.setIfInBounds_toArray, List.set_cons_succ, List.set_cons_zero]
        obtain ⟨a4, c4, rfl⟩ : ∃ a cap, v4 = .slice a (ol + 1) cap := hv4
        refine wpG_store rfl rfl (fun gs w' hJ hdep hno => ?_) (fun v5 hv5 => ?_)
        · have h4 := hdep 4 _ (.inr ⟨rfl, rfl⟩) (waitsB_spec (by kernel_rfl))
          obtain ⟨hgr, hst⟩ := hJ.store hno h4
          have hbx := (HAll.out w' hgr).2.2.1
          obtain ⟨z0, z1, f0, f1⟩ := box_free hbx
          refine ⟨(w'.setCell ⟨bd, 0, none⟩ (.slice a' n' c')).setCell ⟨bd, 1, none⟩ (.slice b' m' k'), ?_, by simp [SPk], hst⟩
          clear hJ hdep hno s0 s1 s2 s3 s4 s5 s6 hDJ hne h4 hgr hst hbx
          go_simp
        simp only [Act.put, List.setIfInBounds_toArray, List.set_cons_succ, List.set_cons_zero]
        refine wpG_nil ?_
        intro w8 hJ
        obtain ⟨w0, e8, hgr, hrow⟩ := hJ.done (.inl (.inr ⟨rfl, rfl⟩)) (.inr ⟨rfl, rfl⟩)
        obtain ⟨hbl0, hkp0, hbx0, hdk0⟩ := HAll.out w0 hgr
        obtain ⟨kb0, kb1, kb2⟩ := box_put (u := .slice a' n' c') (v := .slice b' m' k') hbx0
        rw [← e8] at kb0 kb1 kb2
        have HFin : Hid (w8.ownsRow w.heap.size 38 5 (.slice a4 (ol + 1) c4) (O ++ [r]).length (xs ++ V) ∧ XsQ B w8 (xs ++ V) (O ++ [r]) ∧ Below L w w8 ∧ KpX bd w w8 ∧ w8.heap[bd]? = some (.cells #[.slice a' n' c', .slice b' m' k'] 48 (0, 0)) ∧ DiskAt w8.heap.size w8 (.agg #[.slice a' n' c', .slice b' m' k']) (dPutR D r)) := by
          have hb08 : Below L w0 w8 := by
            rw [e8]
            exact ((Below.refl L w0).setCell (p := ⟨bd, 0, none⟩) hL _).setCell (p := ⟨bd, 1, none⟩) hL _
          have hbo8 : Below L wo w8 := hbl0.trans hb08
          refine ⟨?_, ?_, HB.out.trans hbo8, hkp0.keepX kb1 kb2, kb0, hdk0 w8 kb1 kb2⟩
          · rw [List.length_append, HOl.out]
            exact ownsRow_block hrow fun g cur hge hc => (kb1 g (by omega))
          · exact (HO.out.2.later hbo8 hBL).append (HXV.out w8 hbo8)
        clear hJ e8 hgr hrow hbl0 hkp0 hbx0 hdk0 kb0 kb1 kb2 s0 s1 s2 s3 s4 s5 s6 hDJ hne
        go_wp2_with fail
        have e : putsF d (rs.take (i + 1)) = (dPutR D r, O ++ [r]) := HS'.out
        obtain ⟨f1, f2, f3, f4, f5, f6⟩ := HFin.out
        refine ⟨⟨i + 1, xs ++ V, by omega, by go_num, ?_, f3, f4, ?_⟩, by simp [intOf]; omega⟩
        · rw [e]; exact ⟨f1, f2⟩
        · rw [e]; exact ⟨a', n', c', b', m', k', f5, f6⟩
      · have HS' : Hid (putsF d (rs.take (i + 1)) = (D, O)) := by unfold Hid; rw [HS.out, if_neg hpe, HPE.out]
        have hq : (dPutE D r == 0) = false := by simpa using hpe
        generalize dPutE D r = pe at *
        clear HS hpe
        go_wp2_with fail
        rw [← HW5.out]
        go_at_call 21
        refine Calls.mono HP'.out ?_
        rintro e w6 ⟨a', n', c', b', m', k', rfl, hnew, hb6⟩
        clear HP' q0 q1 q2 q3 q4 x0 x1 xf0 xf1 hnew
        have HF : Hid (∀ X, Below wo.heap.size wo (w6.alloc X)) := fun X => Below.thenOf Hb5.out (hb6.alloc hb6.size X) Hb5.out.size
        clear hb6
        go_wp2_with fail
        have e : putsF d (rs.take (i + 1)) = (D, O) := HS'.out
        refine ⟨⟨i + 1, xs, by omega, by go_num, ?_, HB.out.trans ((HF.out _).mono hLs), HK.out.below (HF.out _), ?_⟩, by simp [intOf]; omega⟩
        · rw [e]
          exact ⟨by rw [HOl.out]; exact ownsRow_below HO.out.1 (HF.out _), HO.out.2.later (HF.out _) (Nat.le_trans hBL hLs)⟩
        · rw [e]
          exact ⟨a, n, c, b, m, k, ((HF.out _).block _ hbw).trans Hgw.out, diskAt_wideK (HDk.out.later (HF.out _) (Nat.le_refl _)) (HF.out _).size⟩
    · obtain rfl : i = N := by omega
      have i1 : ¬ ((i : Int) < (i : Int)) := by omega
      obtain ⟨va, vc, ev, -⟩ := ownsRow_caps HO.out.1
      subst ev
      have HFin : Hid (RecsAt wo.heap.size wo (.slice va (putsF d (rs.take i)).2.length vc) (putsF d (rs.take i)).2) := recsAtQ_own HO.out.1 HO.out.2 (by omega)
      have HFi2 : Hid (rs.take 15 = rs.take i) := HTl.out
      generalize (putsF d (rs.take i)).2.length = ol at *
      go_wp2_with fail
      go_ret
      rw [HFi2.out]
      exact ⟨_, rfl, HFin.out, HB.out, HK.out, HX.out⟩
end Go.Proofs.YtdfcfinjoghipacGreatDoor
