/- Joined: Dsk5 Dsk6. -/
import Derived.Test.YtdfcfinjoghipacGreatDoorDj33
import Derived.Lib.AppendZerosOnto
import Derived.Lib.AppendZeros
section
/- slices.Grow of nothing, slices.Concat of bytes. -/
set_option linter.all false
set_option maxRecDepth 100000
namespace Go.Proofs.YtdfcfinjoghipacGreatDoor
open Go.RowKit Go.Maps

theorem infoBy : ∃ i, Tryz.prog.info? 5 = some i ∧ i.zero = some (.int .u8 0) ∧ i.size = 1 ∧ i.bytes = 1 := infoOf (by kernel_rfl)
def byCells (l : Bs) : List Value := l.map fun b => .int .u8 (b.toNat : Int)
theorem byCells_append (l m : Bs) : byCells (l ++ m) = byCells l ++ byCells m := by unfold byCells; exact List.map_append
theorem byCells_length (l : Bs) : (byCells l).length = l.length * 1 := by unfold byCells; simp
theorem byCells_one (l : Bs) : ∀ u ∈ byCells l, u.oneCell' = true := by
  intro u hu
  obtain ⟨x, _, rfl⟩ := List.mem_map.1 hu
  rfl
theorem byCells_cell {w : World} {b : Nat} (l : Bs) (o : Nat) (h : ∀ (i : Nat) c, l[i]? = some c → w.cell? ⟨b, o + i, none⟩ = some (.int .u8 (c.toNat : Int))) : ∀ j u, (byCells l)[j]? = some u → w.cell? ⟨b, o + j, none⟩ = some u := by
  intro j u hj
  unfold byCells at hj
  rw [List.getElem?_map] at hj
  cases hc : l[j]? with
  | none => rw [hc] at hj; cases hj
  | some c =>
    rw [hc] at hj
    cases hj
    exact h j c hc
theorem bytesAt_own {L : Nat} {w : World} {v : Value} {l : Bs} (h : w.ownsRow L 5 1 v l.length (byCells l)) : BytesAt w.heap.size w v l := by
  obtain ⟨a, cap, rfl, h1, h2, h3⟩ := ownsRow_caps h
  refine ⟨a, cap, rfl, h1, h2, fun i b hb => ?_⟩
  have hi : i < l.length := (List.getElem?_eq_some_iff.1 hb).1
  obtain ⟨g, rfl, hg1, hg2⟩ := h3 (by omega)
  refine ⟨g, 0, rfl, hg2, ?_⟩
  rw [Nat.zero_add]
  exact ownsRow_cell h i _ (by unfold byCells; rw [List.getElem?_map, hb]; rfl)
theorem BytesAt.full {B : Nat} {w : World} {v : Value} {l : Bs} (h : BytesAt B w v l) : ∃ a cap, v = .slice a l.length cap ∧ l.length ≤ cap ∧ cap ≤ maxLen := by
  obtain ⟨a, cap, h1, h2, h3, _⟩ := h
  exact ⟨a, cap, h1, h2, h3⟩
theorem run_append_bytes (B base : Nat) (ty : TypeId) (v sv : Value) (n : Nat) (xs : List Value) (rs : Bs) (W : World) (hown : W.ownsRow base 5 1 v n xs) (hs : BytesAt B W sv rs) (hn : (n + rs.length) * 1 ≤ 140737488355328) (hbase : base ≤ W.heap.size) :
    ∃ v' W', (Builtin.append_ #[46, 46] ty #[v, sv]).run Tryz.prog W = .ok v' W' ∧ W'.ownsRow base 5 1 v' (n + rs.length) (xs ++ byCells rs) ∧ Below base W W' := by
  obtain ⟨inf, hi1, hi2, hi3, hi4⟩ := infoBy
  obtain ⟨a, cap, rfl, hlc, hcm, hrs⟩ := hs
  cases a with
  | none =>
    have h0 : rs = [] := by
      cases rs with
      | nil => rfl
      | cons r l => obtain ⟨b, o, e, _⟩ := hrs 0 r rfl; cases e
    subst h0
    refine ⟨v, W, ?_, by simpa [byCells] using hown, Below.refl _ _⟩
    have hc : v = .slice none 0 0 ∨ ∃ g c, v = .slice (some g) n c ∧ n ≤ c := by
      rcases hown.2 with ⟨h, _⟩ | ⟨g, c, cur, h, _, _, h', _⟩
      · exact .inl h
      · exact .inr ⟨_, c, h, h'⟩
    have hf := run_firstCells_none (P := Tryz.prog) W inf.size 0 0 cap
    rcases hc with rfl | ⟨g, c, rfl, hle⟩
    · simp [Builtin.append_, run_underlying Tryz.underlying46, sizeOf, typeInfo, hi1, Builtin.lenOf, hf]
    · simp [Builtin.append_, run_underlying Tryz.underlying46, sizeOf, typeInfo, hi1, Builtin.lenOf, hf, hle, storeCells]
  | some ad =>
    have hcell : ∀ j u, (byCells rs)[j]? = some u → W.cell? (ad.add j) = some u := by
      cases rs with
      | nil => intro j u hj; simp [byCells] at hj
      | cons r l =>
        obtain ⟨b, o, e, _, _⟩ := hrs 0 r rfl
        cases e
        intro j u hj
        rw [add_at]
        refine byCells_cell (r :: l) o (fun i c hc => ?_) j u hj
        obtain ⟨b', o', e, _, k⟩ := hrs i c hc
        cases e
        exact k
    obtain ⟨v', W', h1, h2, h3, h4⟩ := run_append_own (P := Tryz.prog) W base 46 ty 5 inf _ 1 1 Tryz.underlying46 hi1 hi2 hi3 hi4 rfl (by decide) v n xs hown ad rs.length cap (byCells rs) (byCells_length rs) hcell (byCells_one rs) (by rw [maxLen_eq]; omega) hn hbase
    refine ⟨v', W', h1, h2, (Below.refl _ _).grown h3 hbase fun k hk => ?_⟩
    rcases hown.2 with ⟨h, _⟩ | ⟨g, c, cur, h, hg, _⟩
    · rw [h] at hk; simp [Value.ownBlock] at hk
    · rw [h] at hk; simp [Value.ownBlock] at hk; omega

set_option maxHeartbeats 4000000 in
theorem growB_nil (n : Nat) (w : World) (hn : n * 1 ≤ 140737488355328) :
    Calls Tryz.prog 125 #[.slice none 0 0, .int .i64 n] w fun e w' => ∃ v, e = .returned v ∧ w'.ownsRow w.heap.size 5 1 v 0 [] ∧ Below w.heap.size w w' := by
  have hml := maxLen_eq
  by_cases h0 : n = 0
  · subst h0
    go_enter Tryz.func125, Tryz.ntmps125
    go_wp2
    go_ret
    exact ⟨_, rfl, ⟨rfl, .inl ⟨rfl, rfl⟩⟩, Below.refl _ _⟩
  · obtain ⟨inf, hi1, hi2, hi3, hi4⟩ := infoBy
    have h1 : ¬ ((n : Int) < 0) := by omega
    have h4 : (n : Int) > 0 := by omega
    obtain ⟨G, hG⟩ : ∃ G, G = grownCap w n 0 5 := ⟨_, rfl⟩
    have hGn : n ≤ G := by rw [hG]; exact grownCap_ge w _ _ _
    have hG63 : G ≤ maxLen := by rw [hG]; exact grownCap_le_maxLen w n 0 _ (by omega)
    obtain ⟨z, hz⟩ : ∃ z : Value, z = .int .u8 0 := ⟨_, rfl⟩
    have hzs : z.cells.size = 1 := by rw [hz]; rfl
    rw [← hz] at hi2
    have hrz : ∀ ty, (Builtin.append_ #[46, 3] ty #[.slice none 0 0, .int .i64 n]).run Tryz.prog w =
        .ok (.slice (some ⟨w.heap.size, 0, none⟩) n G) (w.drew.alloc (.cells ((Builtin.zeroCells z.cells n) ++ Builtin.zeroCells z.cells (G - n)) 5)) := fun ty => by
      have h := Lib.run_append_grow_zeros w 46 3 ty 5 inf z .i64 .i64 Tryz.underlying46 Tryz.underlying3 hi1 hi2 none 0 0 [] (run_firstCells_none w.drew inf.size 0 0 0) n (by omega) (by omega) (by omega) (by omega)
        (by rw [hi4]; omega)
        (by rw [Nat.zero_add]; exact growslice_fits (by omega) (by rw [hi4]; omega))
      simpa [← hG] using h
    have hown : Hid ((w.drew.alloc (.cells ((Builtin.zeroCells z.cells n) ++ Builtin.zeroCells z.cells (G - n)) 5)).ownsRow w.heap.size 5 1 (.slice (some ⟨w.heap.size, 0, none⟩) 0 G) 0 []) := by
      refine ⟨rfl, .inr ⟨w.heap.size, G, _, rfl, Nat.le_refl _, (MapKept.heap_alloc w.drew _).1, Nat.zero_le _, hG63, ?_, by simp⟩⟩
      rw [Array.size_append, size_zeroCells, size_zeroCells, hzs, ← Nat.add_mul]
      congr 1
      omega
    have hbel : Hid (Below w.heap.size w (w.drew.alloc (.cells ((Builtin.zeroCells z.cells n) ++ Builtin.zeroCells z.cells (G - n)) 5))) := (Below.refl _ _).drew.alloc (Nat.le_refl _) _
    clear hG hz
    rw [hml] at hG63
    generalize (Builtin.zeroCells z.cells n) ++ Builtin.zeroCells z.cells (G - n) = zs at *
    go_enter Tryz.func125, Tryz.ntmps125
    go_wp2_with (at_builtin; refine Lib.wpList_append_run _ rfl _ _ _ _ rfl _ _ rfl rfl _ _ (hrz _) ?_)
    go_ret
    exact ⟨_, rfl, hown.out, hbel.out⟩

set_option maxHeartbeats 4000000 in
theorem concatB_any (B : Nat) (v0 v1 : Value) (r0 r1 : Bs) (bs : Nat) (w : World) (h0 : BytesAt B w v0 r0) (h1 : BytesAt B w v1 r1) (hB : B ≤ w.heap.size) (hbs : bs < w.heap.size) (hc0 : w.cell? ⟨bs, 0, none⟩ = some v0) (hc1 : w.cell? ⟨bs, 1, none⟩ = some v1) (hn : (r0.length + r1.length) * 1 ≤ 140737488355328) :
    Calls Tryz.prog 78 #[.slice (some ⟨bs, 0, none⟩) 2 2] w fun e w' => ∃ v, e = .returned v ∧ w'.ownsRow w.heap.size 5 1 v (r0 ++ r1).length (byCells (r0 ++ r1)) ∧ Below w.heap.size w w' := by
  have H0 : Hid (BytesAt B w v0 r0) := h0
  have H1 : Hid (BytesAt B w v1 r1) := h1
  obtain ⟨a0, cap0, e0, hle0, _⟩ := h0.full
  obtain ⟨a1, cap1, e1, hle1, _⟩ := h1.full
  have E0 : Hid (v0 = _) := e0
  have E1 : Hid (v1 = _) := e1
  rw [e0] at hc0
  rw [e1] at hc1
  have HC : Hid (∀ w', Below w.heap.size w w' → w'.cell? ⟨bs, 0, none⟩ = some (.slice a0 r0.length cap0) ∧ w'.cell? ⟨bs, 1, none⟩ = some (.slice a1 r1.length cap1)) := fun w' h => ⟨(h.cell (p := ⟨bs, 0, none⟩) hbs).trans hc0, (h.cell (p := ⟨bs, 1, none⟩) hbs).trans hc1⟩
  clear e0 e1 h0 h1
  generalize hn0 : r0.length = n0 at *
  generalize hn1 : r1.length = n1 at *
  have hN0 : Hid (r0.length = n0) := hn0
  have hN1 : Hid (r1.length = n1) := hn1
  clear hn0 hn1
  go_enter Tryz.func78, Tryz.ntmps78
  go_wp2
  go_loop [3, 11] (fun sz i => ∃ k : Nat, k ≤ 2 ∧ i = .int .i64 k ∧ sz = .int .i64 (if k = 0 then 0 else if k = 1 then (n0 : Int) else ((n0 : Int) + n1))) (fun _ i => 2 - (intOf i).toNat)
  case atStart => exact ⟨0, by omega, rfl, rfl⟩
  case round =>
    obtain ⟨k, hk, rfl, rfl⟩ := hrel
    have hk' : k = 0 ∨ k = 1 ∨ k = 2 := by omega
    rcases hk' with rfl | rfl | rfl
    · go_wp2
      exact ⟨⟨1, by omega, rfl, by simp⟩, by simp [intOf]⟩
    · have hneg : ¬ ((n0 : Int) + (n1 : Int) < 0) := by omega
      have hwr : wrap64 ((n0 : Int) + (n1 : Int)) = (n0 : Int) + n1 := by unfold wrap64; omega
      go_wp2
      exact ⟨⟨2, by omega, rfl, by simp⟩, by simp [intOf]⟩
    · have hG : Hid (∀ w', Calls Tryz.prog 125 #[.slice none 0 0, .int .i64 ((n0 : Int) + n1)] w' fun e w'' => ∃ v, e = .returned v ∧ w''.ownsRow w'.heap.size 5 1 v 0 [] ∧ Below w'.heap.size w' w'') := fun w' => by
        have := growB_nil (n0 + n1) w' hn
        rw [show ((n0 + n1 : Nat) : Int) = (n0 : Int) + n1 by omega] at this
        exact this
      go_wp2_with fail
      go_at_call 125
      refine Calls.mono (hG.out _) ?_
      rintro e w1 ⟨v, rfl, hown1, hb1⟩
      have HO : Hid (w1.ownsRow w.heap.size 5 1 v 0 []) := hown1
      clear hown1
      go_wp2_with fail
      go_loopw [6, 27] (fun nv i wr => ∃ (k : Nat), k ≤ 2 ∧ i = .int .i64 k ∧ Hid (wr.ownsRow w.heap.size 5 1 nv (([r0, r1].take k).flatten).length (byCells ([r0, r1].take k).flatten)) ∧ Below w.heap.size w wr) (fun _ i _ => 2 - (intOf i).toNat)
      case atStart => exact ⟨0, by omega, rfl, HO, hb1⟩
      case round =>
        obtain ⟨k, hk, rfl, HOr, hbr⟩ := hrel
        obtain ⟨c0, c1⟩ := HC.out _ hbr
        have hk' : k = 0 ∨ k = 1 ∨ k = 2 := by omega
        rcases hk' with rfl | rfl | rfl
        · obtain ⟨v', W', hrun, hown', hbel⟩ := run_append_bytes B w.heap.size 46 _ _ 0 [] r0 wr HOr.out (H0.out.later hbr hB) (by rw [hN0.out]; omega) hbr.size
          rw [E0.out] at hrun
          have HO' : Hid (W'.ownsRow w.heap.size 5 1 v' (([r0, r1].take 1).flatten).length (byCells ([r0, r1].take 1).flatten)) := by
            unfold Hid
            have e : ([r0, r1].take 1).flatten = r0 := by simp
            rw [e]
            simpa using hown'
          have hb' : Below w.heap.size w W' := hbr.trans hbel
          clear hown' hbel HOr
          go_wp2_with (at_builtin; refine Lib.wpList_append_run _ rfl _ _ _ _ rfl _ _ rfl rfl _ _ hrun ?_)
          exact ⟨⟨1, by omega, rfl, HO', hb'⟩, by simp [intOf]⟩
        · obtain ⟨v', W', hrun, hown', hbel⟩ := run_append_bytes B w.heap.size 46 _ _ r0.length (byCells r0) r1 wr (by have := HOr.out; simpa using this) (H1.out.later hbr hB) (by rw [hN0.out, hN1.out]; omega) hbr.size
          rw [E1.out] at hrun
          have HO' : Hid (W'.ownsRow w.heap.size 5 1 v' (([r0, r1].take 2).flatten).length (byCells ([r0, r1].take 2).flatten)) := by
            unfold Hid
            have e : ([r0, r1].take 2).flatten = r0 ++ r1 := by simp
            rw [e, byCells_append, List.length_append]
            exact hown'
          have hb' : Below w.heap.size w W' := hbr.trans hbel
          clear hown' hbel HOr
          go_wp2_with (at_builtin; refine Lib.wpList_append_run _ rfl _ _ _ _ rfl _ _ rfl rfl _ _ hrun ?_)
          exact ⟨⟨2, by omega, rfl, HO', hb'⟩, by simp [intOf]⟩
        · have h1 := HOr.out
          have e : ([r0, r1].take 2).flatten = r0 ++ r1 := by simp
          rw [e] at h1
          have h1' : Hid _ := h1
          clear HOr h1 e
          go_wp2
          go_ret
          exact ⟨_, rfl, h1'.out, hbr⟩
end Go.Proofs.YtdfcfinjoghipacGreatDoor
end
section
/- slices.Grow of nothing, slices.Concat of records. -/
set_option linter.all false
set_option maxRecDepth 100000
namespace Go.Proofs.YtdfcfinjoghipacGreatDoor
open Go.RowKit Go.Maps

/-- The cells of records, one row. -/
def XsQ (B : Nat) (w : World) (xs : List Value) (rs : List RecT) : Prop :=
  xs.length = rs.length * 5 ∧ (∀ u ∈ xs, u.oneCell' = true) ∧ ∀ i r, rs[i]? = some r → ∃ rv, xs[i * 5]? = some (.int .i64 r.1) ∧ xs[i * 5 + 1]? = some (.int .i64 r.2.1) ∧ xs[i * 5 + 2]? = some (.int .i64 r.2.2.1) ∧ xs[i * 5 + 3]? = some rv ∧ xs[i * 5 + 4]? = some (.int .i64 r.2.2.2.2) ∧ RecAt B w (.agg #[.int .i64 r.1, .int .i64 r.2.1, .int .i64 r.2.2.1, rv, .int .i64 r.2.2.2.2]) r
theorem XsQ.later {B B' : Nat} {w w' : World} {xs : List Value} {rs : List RecT} (h : XsQ B w xs rs) (hb : Below B' w w') (hB : B ≤ B') : XsQ B w' xs rs := by
  obtain ⟨h1, h2, h3⟩ := h
  refine ⟨h1, h2, fun i r hr => ?_⟩
  obtain ⟨rv, e0, e1, e2, e3, e4, e5⟩ := h3 i r hr
  exact ⟨rv, e0, e1, e2, e3, e4, e5.later hb hB⟩
theorem XsQ.append {B : Nat} {w : World} {xs ys : List Value} {rs ss : List RecT} (h : XsQ B w xs rs) (k : XsQ B w ys ss) : XsQ B w (xs ++ ys) (rs ++ ss) := by
  obtain ⟨h1, h2, h3⟩ := h
  obtain ⟨k1, k2, k3⟩ := k
  refine ⟨by simp [h1, k1]; omega, fun u hu => ?_, fun i r hr => ?_⟩
  · rcases List.mem_append.1 hu with h | h
    · exact h2 u h
    · exact k2 u h
  · by_cases hi : i < rs.length
    · rw [List.getElem?_append_left hi] at hr
      obtain ⟨rv, e0, e1, e2, e3, e4, e5⟩ := h3 i r hr
      exact ⟨rv, by rw [List.getElem?_append_left (by omega)]; exact e0, by rw [List.getElem?_append_left (by omega)]; exact e1, by rw [List.getElem?_append_left (by omega)]; exact e2, by rw [List.getElem?_append_left (by omega)]; exact e3, by rw [List.getElem?_append_left (by omega)]; exact e4, e5⟩
    · rw [List.getElem?_append_right (by omega)] at hr
      obtain ⟨rv, e0, e1, e2, e3, e4, e5⟩ := k3 _ r hr
      refine ⟨rv, ?_, ?_, ?_, ?_, ?_, e5⟩
      · rw [List.getElem?_append_right (by omega), show i * 5 - xs.length = (i - rs.length) * 5 by omega]; exact e0
      · rw [List.getElem?_append_right (by omega), show i * 5 + 1 - xs.length = (i - rs.length) * 5 + 1 by omega]; exact e1
      · rw [List.getElem?_append_right (by omega), show i * 5 + 2 - xs.length = (i - rs.length) * 5 + 2 by omega]; exact e2
      · rw [List.getElem?_append_right (by omega), show i * 5 + 3 - xs.length = (i - rs.length) * 5 + 3 by omega]; exact e3
      · rw [List.getElem?_append_right (by omega), show i * 5 + 4 - xs.length = (i - rs.length) * 5 + 4 by omega]; exact e4
theorem xsQ_of {B : Nat} {w : World} {rs : List RecT} {b o : Nat} (h : ∀ i r, rs[i]? = some r → RecIn B w b (o + i * 5) r) : ∃ xs, XsQ B w xs rs ∧ ∀ j u, xs[j]? = some u → w.cell? ⟨b, o + j, none⟩ = some u := by
  have each : ∀ j, j < rs.length * 5 → ∃ v, w.cell? ⟨b, o + j, none⟩ = some v ∧ v.oneCell' = true := by
    intro j hj
    obtain ⟨r, hr⟩ : ∃ r, rs[j / 5]? = some r := ⟨rs[j / 5]'(by omega), by simp⟩
    obtain ⟨rv, c0, c1, c2, c3, c4, hc⟩ := h _ r hr
    have hm : j % 5 = 0 ∨ j % 5 = 1 ∨ j % 5 = 2 ∨ j % 5 = 3 ∨ j % 5 = 4 := by omega
    rcases hm with hm | hm | hm | hm | hm
    · exact ⟨_, by rw [show o + j = o + j / 5 * 5 by omega]; exact c0, rfl⟩
    · exact ⟨_, by rw [show o + j = o + j / 5 * 5 + 1 by omega]; exact c1, rfl⟩
    · exact ⟨_, by rw [show o + j = o + j / 5 * 5 + 2 by omega]; exact c2, rfl⟩
    · refine ⟨rv, by rw [show o + j = o + j / 5 * 5 + 3 by omega]; exact c3, ?_⟩
      obtain ⟨a, c, e, _⟩ := hc.shape
      simp at e
      rw [e]
      rfl
    · exact ⟨_, by rw [show o + j = o + j / 5 * 5 + 4 by omega]; exact c4, rfl⟩
  obtain ⟨xs, hl, hx⟩ := list_of _ _ each
  refine ⟨xs, ⟨hl, fun u hu => ?_, fun i r hr => ?_⟩, fun j u hj => (hx j u hj).1⟩
  · obtain ⟨j, hj⟩ := List.mem_iff_getElem?.1 hu
    exact (hx j u hj).2
  · have hi : i < rs.length := (List.getElem?_eq_some_iff.1 hr).1
    obtain ⟨rv, c0, c1, c2, c3, c4, hc⟩ := h i r hr
    obtain ⟨v0, h0⟩ : ∃ v, xs[i * 5]? = some v := ⟨xs[i * 5]'(by omega), by simp⟩
    obtain ⟨v1, h1⟩ : ∃ v, xs[i * 5 + 1]? = some v := ⟨xs[i * 5 + 1]'(by omega), by simp⟩
    obtain ⟨v2, h2⟩ : ∃ v, xs[i * 5 + 2]? = some v := ⟨xs[i * 5 + 2]'(by omega), by simp⟩
    obtain ⟨v3, h3⟩ : ∃ v, xs[i * 5 + 3]? = some v := ⟨xs[i * 5 + 3]'(by omega), by simp⟩
    obtain ⟨v4, h4⟩ : ∃ v, xs[i * 5 + 4]? = some v := ⟨xs[i * 5 + 4]'(by omega), by simp⟩
    have e0 := (hx _ _ h0).1
    have e1 := (hx _ _ h1).1
    have e2 := (hx _ _ h2).1
    have e3 := (hx _ _ h3).1
    have e4 := (hx _ _ h4).1
    rw [c0] at e0
    rw [show o + (i * 5 + 1) = o + i * 5 + 1 by omega, c1] at e1
    rw [show o + (i * 5 + 2) = o + i * 5 + 2 by omega, c2] at e2
    rw [show o + (i * 5 + 3) = o + i * 5 + 3 by omega, c3] at e3
    rw [show o + (i * 5 + 4) = o + i * 5 + 4 by omega, c4] at e4
    cases e0
    cases e1
    cases e2
    cases e3
    cases e4
    exact ⟨rv, h0, h1, h2, h3, h4, hc⟩
theorem recsAtQ_own {B L : Nat} {w : World} {v : Value} {xs : List Value} {rs : List RecT} (h : w.ownsRow L 38 5 v rs.length xs) (hx : XsQ B w xs rs) (hB : B ≤ w.heap.size) : RecsAt w.heap.size w v rs := by
  obtain ⟨a, cap, rfl, h1, h2, h3⟩ := ownsRow_caps h
  refine ⟨a, cap, rfl, h1, h2, fun i r hr => ?_⟩
  have hi : i < rs.length := (List.getElem?_eq_some_iff.1 hr).1
  obtain ⟨g, rfl, hg1, hg2⟩ := h3 (by omega)
  obtain ⟨rv, e0, e1, e2, e3, e4, hr⟩ := hx.2.2 i r hr
  have c := ownsRow_cell h
  refine ⟨g, 0, rfl, hg2, rv, ?_, ?_, ?_, ?_, ?_, recAt_more hr hB⟩
  · rw [Nat.zero_add]; exact c _ _ e0
  · rw [Nat.zero_add]; exact c _ _ e1
  · rw [Nat.zero_add]; exact c _ _ e2
  · rw [Nat.zero_add]; exact c _ _ e3
  · rw [Nat.zero_add]; exact c _ _ e4
/-- Records in memory: their policies in blocks below B, themselves anywhere. -/
def RecsC (B : Nat) (w : World) (v : Value) (rs : List RecT) : Prop :=
  ∃ a cap, v = .slice a rs.length cap ∧ rs.length ≤ cap ∧ cap ≤ maxLen ∧ ∀ i r, rs[i]? = some r → ∃ b o, a = some ⟨b, o, none⟩ ∧ RecIn B w b (o + i * 5) r
theorem RecsAt.conds {B : Nat} {w : World} {v : Value} {rs : List RecT} (h : RecsAt B w v rs) : RecsC B w v rs := by
  obtain ⟨a, cap, h1, h2, h3, h4⟩ := h
  refine ⟨a, cap, h1, h2, h3, fun i r hr => ?_⟩
  obtain ⟨b, o, e, _, k⟩ := h4 i r hr
  exact ⟨b, o, e, k⟩
theorem RecsC.later {B : Nat} {w w' : World} {v : Value} {rs : List RecT} (h : RecsC B w v rs) (hb : Below w.heap.size w w') (hB : B ≤ w.heap.size) : RecsC B w' v rs := by
  obtain ⟨a, cap, h1, h2, h3, h4⟩ := h
  refine ⟨a, cap, h1, h2, h3, fun i r hr => ?_⟩
  obtain ⟨b, o, e, rv, k0, k1, k2, k3, k4, k5⟩ := h4 i r hr
  have hl := World.block_lt_of_cell? _ _ k0
  exact ⟨b, o, e, rv, (hb.cell (p := ⟨b, o + i * 5, none⟩) hl).trans k0, (hb.cell (p := ⟨b, o + i * 5 + 1, none⟩) hl).trans k1, (hb.cell (p := ⟨b, o + i * 5 + 2, none⟩) hl).trans k2, (hb.cell (p := ⟨b, o + i * 5 + 3, none⟩) hl).trans k3, (hb.cell (p := ⟨b, o + i * 5 + 4, none⟩) hl).trans k4, k5.later hb hB⟩
set_option maxHeartbeats 4000000 in
theorem growQ_nil (n : Nat) (w : World) (hn : n * 56 ≤ 140737488355328) :
    Calls Tryz.prog 79 #[.slice none 0 0, .int .i64 n] w fun e w' => ∃ v, e = .returned v ∧ w'.ownsRow w.heap.size 38 5 v 0 [] ∧ Below w.heap.size w w' := by
  have hml := maxLen_eq
  by_cases h0 : n = 0
  · subst h0
    go_enter Tryz.func79, Tryz.ntmps79
    go_wp2
    go_ret
    exact ⟨_, rfl, ⟨rfl, .inl ⟨rfl, rfl⟩⟩, Below.refl _ _⟩
  · obtain ⟨inf, hi1, hi2, hi3, hi4⟩ := infoRec
    have h1 : ¬ ((n : Int) < 0) := by omega
    have h4 : (n : Int) > 0 := by omega
    obtain ⟨G, hG⟩ : ∃ G, G = grownCap w n 0 38 := ⟨_, rfl⟩
    have hGn : n ≤ G := by rw [hG]; exact grownCap_ge w _ _ _
    have hG63 : G ≤ maxLen := by rw [hG]; exact grownCap_le_maxLen w n 0 _ (by omega)
    obtain ⟨z, hz⟩ : ∃ z : Value, z = .agg #[.int .i64 0, .int .i64 0, .int .i64 0, .slice none 0 0, .int .i64 0] := ⟨_, rfl⟩
    have hzs : z.cells.size = 5 := by rw [hz]; rfl
    rw [← hz] at hi2
    have hrz : ∀ ty, (Builtin.append_ #[53, 3] ty #[.slice none 0 0, .int .i64 n]).run Tryz.prog w =
        .ok (.slice (some ⟨w.heap.size, 0, none⟩) n G) (w.drew.alloc (.cells ((Builtin.zeroCells z.cells n) ++ Builtin.zeroCells z.cells (G - n)) 38)) := fun ty => by
      have h := Lib.run_append_grow_zeros w 53 3 ty 38 inf z .i64 .i64 Tryz.underlying53 Tryz.underlying3 hi1 hi2 none 0 0 [] (run_firstCells_none w.drew inf.size 0 0 0) n (by omega) (by omega) (by omega) (by omega)
        (by rw [hi4]; omega)
        (by rw [Nat.zero_add]; exact growslice_fits (by omega) (by rw [hi4]; omega))
      simpa [← hG] using h
    have hown : Hid ((w.drew.alloc (.cells ((Builtin.zeroCells z.cells n) ++ Builtin.zeroCells z.cells (G - n)) 38)).ownsRow w.heap.size 38 5 (.slice (some ⟨w.heap.size, 0, none⟩) 0 G) 0 []) := by
      refine ⟨rfl, .inr ⟨w.heap.size, G, _, rfl, Nat.le_refl _, (MapKept.heap_alloc w.drew _).1, Nat.zero_le _, hG63, ?_, by simp⟩⟩
      rw [Array.size_append, size_zeroCells, size_zeroCells, hzs, ← Nat.add_mul]
      congr 1
      omega
    have hbel : Hid (Below w.heap.size w (w.drew.alloc (.cells ((Builtin.zeroCells z.cells n) ++ Builtin.zeroCells z.cells (G - n)) 38))) := (Below.refl _ _).drew.alloc (Nat.le_refl _) _
    clear hG hz
    rw [hml] at hG63
    generalize (Builtin.zeroCells z.cells n) ++ Builtin.zeroCells z.cells (G - n) = zs at *
    go_enter Tryz.func79, Tryz.ntmps79
    go_wp2_with (at_builtin; refine Lib.wpList_append_run _ rfl _ _ _ _ rfl _ _ rfl rfl _ _ (hrz _) ?_)
    go_ret
    exact ⟨_, rfl, hown.out, hbel.out⟩

/-- Records in memory behind a row of one's own. -/
theorem run_append_recs (B base : Nat) (ty : TypeId) (v sv : Value) (n : Nat) (xs : List Value) (rs : List RecT) (W : World) (hown : W.ownsRow base 38 5 v n xs) (hs : RecsC B W sv rs) (hn : (n + rs.length) * 56 ≤ 140737488355328) (hbase : base ≤ W.heap.size) :
    ∃ v' W' ys, (Builtin.append_ #[53, 53] ty #[v, sv]).run Tryz.prog W = .ok v' W' ∧ W'.ownsRow base 38 5 v' (n + rs.length) (xs ++ ys) ∧ XsQ B W ys rs ∧ Below base W W' := by
  obtain ⟨inf, hi1, hi2, hi3, hi4⟩ := infoRec
  obtain ⟨a, cap, rfl, hlc, hcm, hrs⟩ := hs
  cases a with
  | none =>
    have h0 : rs = [] := by
      cases rs with
      | nil => rfl
      | cons r l => obtain ⟨b, o, e, _⟩ := hrs 0 r rfl; cases e
    subst h0
    refine ⟨v, W, [], ?_, by simpa using hown, ⟨rfl, fun u hu => (by cases hu), fun i r hr => (by simp at hr)⟩, Below.refl _ _⟩
    have hc : v = .slice none 0 0 ∨ ∃ g c, v = .slice (some g) n c ∧ n ≤ c := by
      rcases hown.2 with ⟨h, _⟩ | ⟨g, c, cur, h, _, _, h', _⟩
      · exact .inl h
      · exact .inr ⟨_, c, h, h'⟩
    have hf := run_firstCells_none (P := Tryz.prog) W inf.size 0 0 cap
    rcases hc with rfl | ⟨g, c, rfl, hle⟩
    · simp [Builtin.append_, run_underlying Tryz.underlying53, sizeOf, typeInfo, hi1, Builtin.lenOf, hf]
    · simp [Builtin.append_, run_underlying Tryz.underlying53, sizeOf, typeInfo, hi1, Builtin.lenOf, hf, hle, storeCells]
  | some ad =>
    obtain ⟨ys, hys, hcell⟩ : ∃ xs, XsQ B W xs rs ∧ ∀ j u, xs[j]? = some u → W.cell? (ad.add j) = some u := by
      by_cases hr0 : rs = []
      · subst hr0
        exact ⟨[], ⟨rfl, fun u hu => (by cases hu), fun i r hr => (by simp at hr)⟩, fun j u hj => (by simp at hj)⟩
      · obtain ⟨r, hr⟩ : ∃ r, rs[0]? = some r := by
          cases rs with
          | nil => exact absurd rfl hr0
          | cons r l => exact ⟨r, rfl⟩
        obtain ⟨b, o, e, _⟩ := hrs 0 r hr
        cases e
        obtain ⟨xs, h1, h2⟩ := xsQ_of (b := b) (o := o) fun i r hr => by
          obtain ⟨b', o', e, k⟩ := hrs i r hr
          cases e
          exact k
        exact ⟨xs, h1, fun j u hj => by rw [add_at]; exact h2 j u hj⟩
    obtain ⟨v', W', h1, h2, h3, h4⟩ := run_append_own (P := Tryz.prog) W base 53 ty 38 inf _ 5 56 Tryz.underlying53 hi1 hi2 hi3 hi4 rfl (by decide) v n xs hown ad rs.length cap ys hys.1 hcell hys.2.1 (by rw [maxLen_eq]; omega) hn hbase
    refine ⟨v', W', ys, h1, h2, hys, (Below.refl _ _).grown h3 hbase fun k hk => ?_⟩
    rcases hown.2 with ⟨h, _⟩ | ⟨g, c, cur, h, hg, _⟩
    · rw [h] at hk; simp [Value.ownBlock] at hk
    · rw [h] at hk; simp [Value.ownBlock] at hk; omega

theorem RecsC.shapeQ {B : Nat} {w : World} {v : Value} {rs : List RecT} (h : RecsC B w v rs) : ∃ a cap, v = .slice a rs.length cap ∧ rs.length ≤ cap := by
  obtain ⟨a, cap, rfl, h, _⟩ := h
  exact ⟨a, cap, rfl, h⟩

set_option maxHeartbeats 4000000 in
theorem concatQ_any (B : Nat) (v0 v1 : Value) (r0 r1 : List RecT) (bs : Nat) (w : World) (h0 : RecsC B w v0 r0) (h1 : RecsC B w v1 r1) (hB : B ≤ w.heap.size) (hbs : bs < w.heap.size) (hc0 : w.cell? ⟨bs, 0, none⟩ = some v0) (hc1 : w.cell? ⟨bs, 1, none⟩ = some v1) (hn : (r0.length + r1.length) * 56 ≤ 140737488355328) :
    Calls Tryz.prog 36 #[.slice (some ⟨bs, 0, none⟩) 2 2] w fun e w' => ∃ v, e = .returned v ∧ ∃ xs, w'.ownsRow w.heap.size 38 5 v (r0 ++ r1).length xs ∧ XsQ B w' xs (r0 ++ r1) ∧ Below w.heap.size w w' := by
  have H0 : Hid (RecsC B w v0 r0) := h0
  have H1 : Hid (RecsC B w v1 r1) := h1
  obtain ⟨a0, cap0, e0, hle0⟩ := h0.shapeQ
  obtain ⟨a1, cap1, e1, hle1⟩ := h1.shapeQ
  have E0 : Hid (v0 = _) := e0
  have E1 : Hid (v1 = _) := e1
  rw [e0] at hc0
  rw [e1] at hc1
  have HC : Hid (∀ w', Below w.heap.size w w' → w'.cell? ⟨bs, 0, none⟩ = some (.slice a0 r0.length cap0) ∧ w'.cell? ⟨bs, 1, none⟩ = some (.slice a1 r1.length cap1)) := fun w' h => ⟨(h.cell (p := ⟨bs, 0, none⟩) hbs).trans hc0, (h.cell (p := ⟨bs, 1, none⟩) hbs).trans hc1⟩
  clear e0 e1 h0 h1
  have hfl : ∀ k : Nat, k ≤ 2 → Hid ((([r0, r1].take k).flatten).length ≤ r0.length + r1.length) := fun k hk => by
    have hk' : k = 0 ∨ k = 1 ∨ k = 2 := by omega
    rcases hk' with rfl | rfl | rfl <;> (unfold Hid; simp)
  generalize hn0 : r0.length = n0 at *
  generalize hn1 : r1.length = n1 at *
  have hN0 : Hid (r0.length = n0) := hn0
  have hN1 : Hid (r1.length = n1) := hn1
  clear hn0 hn1
  go_enter Tryz.func36, Tryz.ntmps36
  go_wp2
  go_loop [3, 11] (fun sz i => ∃ k : Nat, k ≤ 2 ∧ i = .int .i64 k ∧ sz = .int .i64 (if k = 0 then 0 else if k = 1 then (n0 : Int) else ((n0 : Int) + n1))) (fun _ i => 2 - (intOf i).toNat)
  case atStart => exact ⟨0, by omega, rfl, rfl⟩
  case round =>
    obtain ⟨k, hk, rfl, rfl⟩ := hrel
    have hk' : k = 0 ∨ k = 1 ∨ k = 2 := by omega
    rcases hk' with rfl | rfl | rfl
    · go_wp2
      exact ⟨⟨1, by omega, rfl, by simp⟩, by simp [intOf]⟩
    · have hneg : ¬ ((n0 : Int) + (n1 : Int) < 0) := by omega
      have hwr : wrap64 ((n0 : Int) + (n1 : Int)) = (n0 : Int) + n1 := by unfold wrap64; omega
      go_wp2
      exact ⟨⟨2, by omega, rfl, by simp⟩, by simp [intOf]⟩
    · have hG : Hid (∀ w', Calls Tryz.prog 79 #[.slice none 0 0, .int .i64 ((n0 : Int) + n1)] w' fun e w'' => ∃ v, e = .returned v ∧ w''.ownsRow w'.heap.size 38 5 v 0 [] ∧ Below w'.heap.size w' w'') := fun w' => by
        have := growQ_nil (n0 + n1) w' hn
        rw [show ((n0 + n1 : Nat) : Int) = (n0 : Int) + n1 by omega] at this
        exact this
      go_wp2_with fail
      go_at_call 79
      refine Calls.mono (hG.out _) ?_
      rintro e w1 ⟨v, rfl, hown1, hb1⟩
      have HO : Hid (w1.ownsRow w.heap.size 38 5 v 0 []) := hown1
      clear hown1
      go_wp2_with fail
      go_loopw [6, 27] (fun nv i wr => ∃ (k : Nat) (xs : List Value), k ≤ 2 ∧ i = .int .i64 k ∧ Hid (wr.ownsRow w.heap.size 38 5 nv (([r0, r1].take k).flatten).length xs) ∧ Hid (XsQ B wr xs ([r0, r1].take k).flatten) ∧ Below w.heap.size w wr) (fun _ i _ => 2 - (intOf i).toNat)
      case atStart => exact ⟨0, [], by omega, rfl, HO, ⟨rfl, fun u hu => (by cases hu), fun i r hr => (by simp at hr)⟩, hb1⟩
      case round =>
        obtain ⟨k, xs, hk, rfl, HOr, HXr, hbr⟩ := hrel
        obtain ⟨c0, c1⟩ := HC.out _ hbr
        have hk' : k = 0 ∨ k = 1 ∨ k = 2 := by omega
        rcases hk' with rfl | rfl | rfl
        · obtain ⟨v', W', ys, hrun, hown', hys, hbel⟩ := run_append_recs B w.heap.size 53 _ _ 0 xs r0 wr HOr.out (H0.out.later hbr hB) (by rw [hN0.out]; omega) hbr.size
          rw [E0.out] at hrun
          have HO' : Hid (W'.ownsRow w.heap.size 38 5 v' (([r0, r1].take 1).flatten).length (xs ++ ys)) := by
            unfold Hid
            have e : (([r0, r1].take 1).flatten).length = 0 + r0.length := by simp
            rw [e]
            exact hown'
          have HX' : Hid (XsQ B W' (xs ++ ys) ([r0, r1].take 1).flatten) := by
            have := (HXr.out.append hys).later hbel hB
            unfold Hid
            simpa using this
          have hb' : Below w.heap.size w W' := hbr.trans hbel
          clear hown' hys hbel HOr HXr
          go_wp2_with (at_builtin; refine Lib.wpList_append_run _ rfl _ _ _ _ rfl _ _ rfl rfl _ _ hrun ?_)
          exact ⟨⟨1, _, by omega, rfl, HO', HX', hb'⟩, by simp [intOf]⟩
        · obtain ⟨v', W', ys, hrun, hown', hys, hbel⟩ := run_append_recs B w.heap.size 53 _ _ r0.length xs r1 wr (by have := HOr.out; simpa using this) (H1.out.later hbr hB) (by rw [hN0.out, hN1.out]; omega) hbr.size
          rw [E1.out] at hrun
          have HO' : Hid (W'.ownsRow w.heap.size 38 5 v' (([r0, r1].take 2).flatten).length (xs ++ ys)) := by
            unfold Hid
            have e : (([r0, r1].take 2).flatten).length = r0.length + r1.length := by simp
            rw [e]
            exact hown'
          have HX' : Hid (XsQ B W' (xs ++ ys) ([r0, r1].take 2).flatten) := by
            have := (HXr.out.append hys).later hbel hB
            unfold Hid
            simpa using this
          have hb' : Below w.heap.size w W' := hbr.trans hbel
          clear hown' hys hbel HOr HXr
          go_wp2_with (at_builtin; refine Lib.wpList_append_run _ rfl _ _ _ _ rfl _ _ rfl rfl _ _ hrun ?_)
          exact ⟨⟨2, _, by omega, rfl, HO', HX', hb'⟩, by simp [intOf]⟩
        · have h1 := HOr.out
          have h2 := HXr.out
          have e : ([r0, r1].take 2).flatten = r0 ++ r1 := by simp
          rw [e] at h1 h2
          have h1' : Hid _ := h1
          have h2' : Hid _ := h2
          clear HOr HXr h1 h2 e
          go_wp2
          go_ret
          exact ⟨_, rfl, _, h1'.out, h2'.out, hbr⟩
end Go.Proofs.YtdfcfinjoghipacGreatDoor
end
