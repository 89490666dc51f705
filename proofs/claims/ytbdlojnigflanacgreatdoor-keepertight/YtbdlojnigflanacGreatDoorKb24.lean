/- Joined: CatR Mee3. -/
import Derived.Test.YtbdlojnigflanacGreatDoorKb13
import Derived.Lib.AppendZerosOnto
import Derived.Lib.AppendZeros
import Derived.Test.YtbdlojnigflanacGreatDoorKb23
import Derived.Test.YtbdlojnigflanacGreatDoorKb19
import Derived.Test.YtbdlojnigflanacGreatDoorKb04
section
/- slices.Grow of nothing, slices.Concat of two rows of rules, on their own. -/
set_option linter.all false
set_option maxRecDepth 100000
namespace Go.Proofs.YtbdlojnigflanacGreatDoor
open Go.RowKit Go.Maps

theorem infoRuleR : ∃ i, Tryz.prog.info? 95 = some i ∧ i.zero = some (.agg #[.slice none 0 0, .int .i64 0]) ∧ i.size = 2 ∧ i.bytes = 32 := infoOf (by kernel_rfl)
/-- Rules in memory, as a row of cells. -/
theorem xsR_of {B : Nat} {w : World} {rs : List RuleT} {b o : Nat} (h : ∀ i r, rs[i]? = some r → RuleAt B w b (o + i * 2) r) : ∃ xs, XsAt B w xs rs ∧ ∀ j u, xs[j]? = some u → w.cell? ⟨b, o + j, none⟩ = some u := by
  have each : ∀ j, j < rs.length * 2 → ∃ v, w.cell? ⟨b, o + j, none⟩ = some v ∧ v.oneCell' = true := by
    intro j hj
    obtain ⟨r, hr⟩ : ∃ r, rs[j / 2]? = some r := ⟨rs[j / 2]'(by omega), by simp⟩
    obtain ⟨cv, c0, c1, _, hc⟩ := h _ r hr
    by_cases hm : j % 2 = 0
    · refine ⟨cv, ?_, ?_⟩
      · rw [show o + j = o + j / 2 * 2 by omega]; exact c0
      · obtain ⟨a, cap, rfl, _⟩ := hc; rfl
    · exact ⟨_, by rw [show o + j = o + j / 2 * 2 + 1 by omega]; exact c1, rfl⟩
  obtain ⟨xs, hl, hx⟩ := list_of _ _ each
  refine ⟨xs, ⟨hl, fun u hu => ?_, fun i r hr => ?_⟩, fun j u hj => (hx j u hj).1⟩
  · obtain ⟨j, hj⟩ := List.mem_iff_getElem?.1 hu
    exact (hx j u hj).2
  · have hi : i < rs.length := (List.getElem?_eq_some_iff.1 hr).1
    obtain ⟨cv, c0, c1, hw, hc⟩ := h i r hr
    obtain ⟨v0, h0⟩ : ∃ v, xs[i * 2]? = some v := ⟨xs[i * 2]'(by omega), by simp⟩
    obtain ⟨v1, h1⟩ : ∃ v, xs[i * 2 + 1]? = some v := ⟨xs[i * 2 + 1]'(by omega), by simp⟩
    have e0 := (hx _ _ h0).1
    have e1 := (hx _ _ h1).1
    rw [c0] at e0
    rw [show o + (i * 2 + 1) = o + i * 2 + 1 by omega, c1] at e1
    cases e0
    cases e1
    exact ⟨cv, h0, h1, hw, hc⟩
theorem rulesAtR_own {B L : Nat} {w : World} {v : Value} {xs : List Value} {rs : List RuleT} (h : w.ownsRow L 95 2 v rs.length xs) (hx : XsAt B w xs rs) (hB : B ≤ w.heap.size) : RulesAt w.heap.size w v rs := by
  obtain ⟨a, cap, rfl, h1, h2, h3⟩ := ownsRow_caps h
  refine ⟨a, cap, rfl, h1, h2, fun i r hr => ?_⟩
  have hi : i < rs.length := (List.getElem?_eq_some_iff.1 hr).1
  obtain ⟨g, rfl, hg1, hg2⟩ := h3 (by omega)
  obtain ⟨cv, e0, e1, hw, hc⟩ := hx.2.2 i r hr
  refine ⟨g, 0, rfl, hg2, cv, ?_, ?_, hw, ?_⟩
  · rw [Nat.zero_add]; exact ownsRow_cell h _ _ e0
  · rw [Nat.zero_add]; exact ownsRow_cell h _ _ e1
  · obtain ⟨a', cap', k1, k2, k3, k4⟩ := hc
    refine ⟨a', cap', k1, k2, k3, fun i c hc => ?_⟩
    obtain ⟨b, o, e, hl, k⟩ := k4 i c hc
    exact ⟨b, o, e, by omega, k⟩

set_option maxHeartbeats 4000000 in
theorem growR_nil (n : Nat) (w : World) (hn : n * 32 ≤ 140737488355328) :
    Calls Tryz.prog 225 #[.slice none 0 0, .int .i64 n] w fun e w' => ∃ v, e = .returned v ∧ w'.ownsRow w.heap.size 95 2 v 0 [] ∧ Below w.heap.size w w' := by
  have hml := maxLen_eq
  by_cases h0 : n = 0
  · subst h0
    go_enter Tryz.func225, Tryz.ntmps225
    go_wp2
    go_ret
    exact ⟨_, rfl, ⟨rfl, .inl ⟨rfl, rfl⟩⟩, Below.refl _ _⟩
  · obtain ⟨inf, hi1, hi2, hi3, hi4⟩ := infoRuleR
    have h1 : ¬ ((n : Int) < 0) := by omega
    have h4 : (n : Int) > 0 := by omega
    obtain ⟨G, hG⟩ : ∃ G, G = grownCap w n 0 95 := ⟨_, rfl⟩
    have hGn : n ≤ G := by rw [hG]; exact grownCap_ge w _ _ _
    have hG63 : G ≤ maxLen := by rw [hG]; exact grownCap_le_maxLen w n 0 _ (by omega)
    obtain ⟨z, hz⟩ : ∃ z : Value, z = .agg #[.slice none 0 0, .int .i64 0] := ⟨_, rfl⟩
    have hzs : z.cells.size = 2 := by rw [hz]; rfl
    rw [← hz] at hi2
    have hrz : ∀ ty, (Builtin.append_ #[22, 3] ty #[.slice none 0 0, .int .i64 n]).run Tryz.prog w =
        .ok (.slice (some ⟨w.heap.size, 0, none⟩) n G) (w.drew.alloc (.cells ((Builtin.zeroCells z.cells n) ++ Builtin.zeroCells z.cells (G - n)) 95)) := fun ty => by
      have h := Lib.run_append_grow_zeros w 22 3 ty 95 inf z .i64 .i64 Tryz.underlying22 Tryz.underlying3 hi1 hi2 none 0 0 [] (run_firstCells_none w.drew inf.size 0 0 0) n (by omega) (by omega) (by omega) (by omega)
        (by rw [hi4]; omega)
        (by rw [Nat.zero_add]; exact growslice_fits (by omega) (by rw [hi4]; omega))
      simpa [← hG] using h
    have hown : Hid ((w.drew.alloc (.cells ((Builtin.zeroCells z.cells n) ++ Builtin.zeroCells z.cells (G - n)) 95)).ownsRow w.heap.size 95 2 (.slice (some ⟨w.heap.size, 0, none⟩) 0 G) 0 []) := by
      refine ⟨rfl, .inr ⟨w.heap.size, G, _, rfl, Nat.le_refl _, (MapKept.heap_alloc w.drew _).1, Nat.zero_le _, hG63, ?_, by simp⟩⟩
      rw [Array.size_append, size_zeroCells, size_zeroCells, hzs, ← Nat.add_mul]
      congr 1
      omega
    have hbel : Hid (Below w.heap.size w (w.drew.alloc (.cells ((Builtin.zeroCells z.cells n) ++ Builtin.zeroCells z.cells (G - n)) 95))) := (Below.refl _ _).drew.alloc (Nat.le_refl _) _
    clear hG hz
    rw [hml] at hG63
    generalize (Builtin.zeroCells z.cells n) ++ Builtin.zeroCells z.cells (G - n) = zs at *
    go_enter Tryz.func225, Tryz.ntmps225
    go_wp2_with (at_builtin; refine Lib.wpList_append_run _ rfl _ _ _ _ rfl _ _ rfl rfl _ _ (hrz _) ?_)
    go_ret
    exact ⟨_, rfl, hown.out, hbel.out⟩

/-- Rules in memory: their conditions in blocks below B, themselves anywhere. -/
def RulesC (B : Nat) (w : World) (v : Value) (rs : List RuleT) : Prop :=
  ∃ a cap, v = .slice a rs.length cap ∧ rs.length ≤ cap ∧ cap ≤ maxLen ∧ ∀ i r, rs[i]? = some r → ∃ b o, a = some ⟨b, o, none⟩ ∧ RuleAt B w b (o + i * 2) r
theorem RulesAt.conds {B : Nat} {w : World} {v : Value} {rs : List RuleT} (h : RulesAt B w v rs) : RulesC B w v rs := by
  obtain ⟨a, cap, h1, h2, h3, h4⟩ := h
  refine ⟨a, cap, h1, h2, h3, fun i r hr => ?_⟩
  obtain ⟨b, o, e, _, k⟩ := h4 i r hr
  exact ⟨b, o, e, k⟩
theorem RulesC.later {B : Nat} {w w' : World} {v : Value} {rs : List RuleT} (h : RulesC B w v rs) (hb : Below w.heap.size w w') (hB : B ≤ w.heap.size) : RulesC B w' v rs := by
  obtain ⟨a, cap, h1, h2, h3, h4⟩ := h
  refine ⟨a, cap, h1, h2, h3, fun i r hr => ?_⟩
  obtain ⟨b, o, e, cv, k0, k1, k2, k3⟩ := h4 i r hr
  exact ⟨b, o, e, cv, (hb.cell (p := ⟨b, o + i * 2, none⟩) (World.block_lt_of_cell? _ _ k0)).trans k0, (hb.cell (p := ⟨b, o + i * 2 + 1, none⟩) (World.block_lt_of_cell? _ _ k1)).trans k1, k2, k3.later hb hB⟩
/-- Rules in memory behind a row of one's own. -/
theorem runR_append_rules (B base : Nat) (ty : TypeId) (v sv : Value) (n : Nat) (xs : List Value) (rs : List RuleT) (W : World) (hown : W.ownsRow base 95 2 v n xs) (hs : RulesC B W sv rs) (hn : (n + rs.length) * 32 ≤ 140737488355328) (hbase : base ≤ W.heap.size) :
    ∃ v' W' ys, (Builtin.append_ #[22, 22] ty #[v, sv]).run Tryz.prog W = .ok v' W' ∧ W'.ownsRow base 95 2 v' (n + rs.length) (xs ++ ys) ∧ XsAt B W ys rs ∧ Below base W W' := by
  obtain ⟨inf, hi1, hi2, hi3, hi4⟩ := infoRuleR
  obtain ⟨a, cap, rfl, hlc, hcm, hrs⟩ := hs
  cases a with
  | none =>
    have h0 : rs = [] := by
      cases rs with
      | nil => rfl
      | cons r l => obtain ⟨b, o, e, _⟩ := hrs 0 r rfl; cases e
    subst h0
    refine ⟨v, W, [], ?_, by simpa using hown, ⟨rfl, fun u hu => (by cases hu), fun i r hr => (by simp at hr)⟩, Below.refl _ _⟩
    have hc : v = .slice none 0 0 ∨ ∃ g c, v = .slice (some g) n c ∧ n ≤ c := by
      rcases hown.2 with ⟨h, _⟩ | ⟨g, c, cur, h, _, _, h', _⟩
      · exact .inl h
      · exact .inr ⟨_, c, h, h'⟩
    have hf := run_firstCells_none (P := Tryz.prog) W inf.size 0 0 cap
    rcases hc with rfl | ⟨g, c, rfl, hle⟩
    · simp [Builtin.append_, run_underlying Tryz.underlying22, sizeOf, typeInfo, hi1, Builtin.lenOf, hf]
    · simp [Builtin.append_, run_underlying Tryz.underlying22, sizeOf, typeInfo, hi1, Builtin.lenOf, hf, hle, storeCells]
  | some ad =>
    obtain ⟨ys, hys, hcell⟩ : ∃ xs, XsAt B W xs rs ∧ ∀ j u, xs[j]? = some u → W.cell? (ad.add j) = some u := by
      by_cases hr0 : rs = []
      · subst hr0
        exact ⟨[], ⟨rfl, fun u hu => (by cases hu), fun i r hr => (by simp at hr)⟩, fun j u hj => (by simp at hj)⟩
      · obtain ⟨r, hr⟩ : ∃ r, rs[0]? = some r := by
          cases rs with
          | nil => exact absurd rfl hr0
          | cons r l => exact ⟨r, rfl⟩
        obtain ⟨b, o, e, _⟩ := hrs 0 r hr
        cases e
        obtain ⟨xs, h1, h2⟩ := xsR_of (b := b) (o := o) fun i r hr => by
          obtain ⟨b', o', e, k⟩ := hrs i r hr
          cases e
          exact k
        exact ⟨xs, h1, fun j u hj => by rw [add_at]; exact h2 j u hj⟩
    obtain ⟨v', W', h1, h2, h3, h4⟩ := run_append_own (P := Tryz.prog) W base 22 ty 95 inf _ 2 32 Tryz.underlying22 hi1 hi2 hi3 hi4 rfl (by decide) v n xs hown ad rs.length cap ys hys.1 hcell hys.2.1 (by rw [maxLen_eq]; omega) hn hbase
    refine ⟨v', W', ys, h1, h2, hys, (Below.refl _ _).grown h3 hbase fun k hk => ?_⟩
    rcases hown.2 with ⟨h, _⟩ | ⟨g, c, cur, h, hg, _⟩
    · rw [h] at hk; simp [Value.ownBlock] at hk
    · rw [h] at hk; simp [Value.ownBlock] at hk; omega

theorem RulesC.shapeR {B : Nat} {w : World} {v : Value} {rs : List RuleT} (h : RulesC B w v rs) : ∃ a cap, v = .slice a rs.length cap ∧ rs.length ≤ cap := by
  obtain ⟨a, cap, rfl, h, _⟩ := h
  exact ⟨a, cap, rfl, h⟩

set_option maxHeartbeats 4000000 in
theorem concatR_any (B : Nat) (v0 v1 : Value) (r0 r1 : List RuleT) (bs : Nat) (w : World) (h0 : RulesC B w v0 r0) (h1 : RulesC B w v1 r1) (hB : B ≤ w.heap.size) (hbs : bs < w.heap.size) (hc0 : w.cell? ⟨bs, 0, none⟩ = some v0) (hc1 : w.cell? ⟨bs, 1, none⟩ = some v1) (hn : (r0.length + r1.length) * 32 ≤ 140737488355328) :
    Calls Tryz.prog 196 #[.slice (some ⟨bs, 0, none⟩) 2 2] w fun e w' => ∃ v, e = .returned v ∧ ∃ xs, w'.ownsRow w.heap.size 95 2 v (r0 ++ r1).length xs ∧ XsAt B w' xs (r0 ++ r1) ∧ Below w.heap.size w w' := by
  have H0 : Hid (RulesC B w v0 r0) := h0
  have H1 : Hid (RulesC B w v1 r1) := h1
  obtain ⟨a0, cap0, e0, hle0⟩ := h0.shapeR
  obtain ⟨a1, cap1, e1, hle1⟩ := h1.shapeR
  have E0 : Hid (v0 = _) := e0
  have E1 : Hid (v1 = _) := e1
  rw [e0] at hc0
  rw [e1] at hc1
  have HC : Hid (∀ w', Below w.heap.size w w' → w'.cell? ⟨bs, 0, none⟩ = some (.slice a0 r0.length cap0) ∧ w'.cell? ⟨bs, 1, none⟩ = some (.slice a1 r1.length cap1)) := fun w' h => ⟨(h.cell (p := ⟨bs, 0, none⟩) hbs).trans hc0, (h.cell (p := ⟨bs, 1, none⟩) hbs).trans hc1⟩
  clear e0 e1 h0 h1
  have hfl : ∀ k : Nat, k ≤ 2 → Hid ((([r0, r1].take k).flatten).length ≤ r0.length + r1.length) := fun k hk => by
    have hk' : k = 0 ∨ k = 1 ∨ k = 2 := by omega
    rcases hk' with rfl | rfl | rfl <;> (unfold Hid; simp)
  generalize hn0 : r0.length = n0 at *
  generalize hn1 : r1.length = n1 at *
  have hN0 : Hid (r0.length = n0) := hn0
  have hN1 : Hid (r1.length = n1) := hn1
  clear hn0 hn1
  go_enter Tryz.func196, Tryz.ntmps196
  go_wp2
  go_loop [3, 11] (fun sz i => ∃ k : Nat, k ≤ 2 ∧ i = .int .i64 k ∧ sz = .int .i64 (if k = 0 then 0 else if k = 1 then (n0 : Int) else ((n0 : Int) + n1))) (fun _ i => 2 - (intOf i).toNat)
  case atStart => exact ⟨0, by omega, rfl, rfl⟩
  case round =>
    obtain ⟨k, hk, rfl, rfl⟩ := hrel
    have hk' : k = 0 ∨ k = 1 ∨ k = 2 := by omega
    rcases hk' with rfl | rfl | rfl
    · go_wp2
      exact ⟨⟨1, by omega, rfl, by simp⟩, by simp [intOf]⟩
    · have hneg : ¬ ((n0 : Int) + (n1 : Int) < 0) := by omega
      have hwr : wrap64 ((n0 : Int) + (n1 : Int)) = (n0 : Int) + n1 := by unfold wrap64; omega
      go_wp2
      exact ⟨⟨2, by omega, rfl, by simp⟩, by simp [intOf]⟩
    · have hG : Hid (∀ w', Calls Tryz.prog 225 #[.slice none 0 0, .int .i64 ((n0 : Int) + n1)] w' fun e w'' => ∃ v, e = .returned v ∧ w''.ownsRow w'.heap.size 95 2 v 0 [] ∧ Below w'.heap.size w' w'') := fun w' => by
        have := growR_nil (n0 + n1) w' hn
        rw [show ((n0 + n1 : Nat) : Int) = (n0 : Int) + n1 by omega] at this
        exact this
      go_wp2_with fail
      go_at_call 225
      refine Calls.mono (hG.out _) ?_
      rintro e w1 ⟨v, rfl, hown1, hb1⟩
      have HO : Hid (w1.ownsRow w.heap.size 95 2 v 0 []) := hown1
      clear hown1
      go_wp2_with fail
      go_loopw [6, 27] (fun nv i wr => ∃ (k : Nat) (xs : List Value), k ≤ 2 ∧ i = .int .i64 k ∧ Hid (wr.ownsRow w.heap.size 95 2 nv (([r0, r1].take k).flatten).length xs) ∧ Hid (XsAt B wr xs ([r0, r1].take k).flatten) ∧ Below w.heap.size w wr) (fun _ i _ => 2 - (intOf i).toNat)
      case atStart => exact ⟨0, [], by omega, rfl, HO, ⟨rfl, fun u hu => (by cases hu), fun i r hr => (by simp at hr)⟩, hb1⟩
      case round =>
        obtain ⟨k, xs, hk, rfl, HOr, HXr, hbr⟩ := hrel
        obtain ⟨c0, c1⟩ := HC.out _ hbr
        have hk' : k = 0 ∨ k = 1 ∨ k = 2 := by omega
        rcases hk' with rfl | rfl | rfl
        · obtain ⟨v', W', ys, hrun, hown', hys, hbel⟩ := runR_append_rules B w.heap.size 22 _ _ 0 xs r0 wr HOr.out (H0.out.later hbr hB) (by rw [hN0.out]; omega) hbr.size
          rw [E0.out] at hrun
          have HO' : Hid (W'.ownsRow w.heap.size 95 2 v' (([r0, r1].take 1).flatten).length (xs ++ ys)) := by
            unfold Hid
            have e : (([r0, r1].take 1).flatten).length = 0 + r0.length := by simp
            rw [e]
            exact hown'
          have HX' : Hid (XsAt B W' (xs ++ ys) ([r0, r1].take 1).flatten) := by
            have := (HXr.out.append hys).later hbel hB
            unfold Hid
            simpa using this
          have hb' : Below w.heap.size w W' := hbr.trans hbel
          clear hown' hys hbel HOr HXr
          go_wp2_with (at_builtin; refine Lib.wpList_append_run _ rfl _ _ _ _ rfl _ _ rfl rfl _ _ hrun ?_)
          exact ⟨⟨1, _, by omega, rfl, HO', HX', hb'⟩, by simp [intOf]⟩
        · obtain ⟨v', W', ys, hrun, hown', hys, hbel⟩ := runR_append_rules B w.heap.size 22 _ _ r0.length xs r1 wr (by have := HOr.out; simpa using this) (H1.out.later hbr hB) (by rw [hN0.out, hN1.out]; omega) hbr.size
          rw [E1.out] at hrun
          have HO' : Hid (W'.ownsRow w.heap.size 95 2 v' (([r0, r1].take 2).flatten).length (xs ++ ys)) := by
            unfold Hid
            have e : (([r0, r1].take 2).flatten).length = r0.length + r1.length := by simp
            rw [e]
            exact hown'
          have HX' : Hid (XsAt B W' (xs ++ ys) ([r0, r1].take 2).flatten) := by
            have := (HXr.out.append hys).later hbel hB
            unfold Hid
            simpa using this
          have hb' : Below w.heap.size w W' := hbr.trans hbel
          clear hown' hys hbel HOr HXr
          go_wp2_with (at_builtin; refine Lib.wpList_append_run _ rfl _ _ _ _ rfl _ _ rfl rfl _ _ hrun ?_)
          exact ⟨⟨2, _, by omega, rfl, HO', HX', hb'⟩, by simp [intOf]⟩
        · have h1 := HOr.out
          have h2 := HXr.out
          have e : ([r0, r1].take 2).flatten = r0 ++ r1 := by simp
          rw [e] at h1 h2
          have h1' : Hid _ := h1
          have h2' : Hid _ := h2
          clear HOr HXr h1 h2 e
          go_wp2
          go_ret
          exact ⟨_, rfl, _, h1'.out, h2'.out, hbr⟩
end Go.Proofs.YtbdlojnigflanacGreatDoor
end
section
/- Package meet: the rules with the default behind them; one policy of two. -/
set_option linter.all false
set_option maxRecDepth 100000
namespace Go.Proofs.YtbdlojnigflanacGreatDoor
open Go.RowKit Go.Maps

theorem prodR_meet (exc : Bool) (p q : PolT) : prodR exc (p.1 ++ [([], p.2)]) (q.1 ++ [([], q.2)]) = meetRs exc p q ++ [([], ofV exc p.2 q.2)] := by
  unfold prodR meetRs
  simp [pairR, List.flatMap_append]
theorem meetRs_len (exc : Bool) (p q : PolT) : (meetRs exc p q).length + 1 = (p.1.length + 1) * (q.1.length + 1) := by
  have h := prodR_len exc (q.1 ++ [([], q.2)]) (p.1 ++ [([], p.2)])
  rw [prodR_meet] at h
  simpa using h

set_option maxHeartbeats 2000000 in
theorem withDefault_any (B : Nat) (rv : Value) (rs : List RuleT) (d : Int) (w : World) (h : RulesAt B w rv rs) (hd : wf d) (hB : B ≤ w.heap.size) (hn : rs.length ≤ 120) :
    Calls Tryz.prog 164 #[.agg #[rv, .int .i64 d]] w fun e w' => ∃ v, e = .returned v ∧ ∃ xs, w'.ownsRow w.heap.size 95 2 v (rs ++ [(([] : List CondT), d)]).length xs ∧ XsAt B w' xs (rs ++ [([], d)]) ∧ Below w.heap.size w w' := by
  have HR : Hid (∀ w', Below w.heap.size w w' → RulesC B w' rv rs) := fun w' hb => (h.later hb hB).conds
  obtain ⟨a0, c0, e0, -, -, -⟩ := h
  subst e0
  obtain ⟨n0, hn0⟩ : ∃ n0, n0 = rs.length := ⟨_, rfl⟩
  rw [← hn0] at hn HR ⊢
  have HN : Hid (rs.length = n0) := hn0.symm
  clear hn0
  obtain ⟨W3, hW3⟩ : ∃ W3, W3 = ((w.alloc (.cells #[.slice a0 n0 c0, .int .i64 d] 24)).alloc (.cells #[.slice none 0 0, .int .i64 d] 95)).alloc (.cells #[.slice a0 n0 c0, .slice (some ⟨w.heap.size + 1, 0, none⟩) 1 1] 22) := ⟨_, rfl⟩
  have hb3 : Below w.heap.size w W3 := by rw [hW3]; exact (((Below.refl _ _).alloc (Nat.le_refl _) _).alloc (by simp) _).alloc (by simp; omega) _
  have g1 : W3.heap[w.heap.size + 1]? = some (.cells #[.slice none 0 0, .int .i64 d] 95 (0, 0)) := by
    rw [hW3]
    exact heap_kept' _ (heap_at _ _ (by simp only [World.size_alloc]))
  have g2 : W3.heap[w.heap.size + 1 + 1]? = some (.cells #[.slice a0 n0 c0, .slice (some ⟨w.heap.size + 1, 0, none⟩) 1 1] 22 (0, 0)) := by
    rw [hW3]
    exact heap_at _ _ (by simp only [World.size_alloc])
  have hLit : RulesC B W3 (.slice (some ⟨w.heap.size + 1, 0, none⟩) 1 1) [([], d)] := by
    refine ⟨_, 1, rfl, Nat.le_refl _, by rw [maxLen_eq]; omega, fun i r hr => ?_⟩
    have hi : i = 0 := by
      have := (List.getElem?_eq_some_iff.1 hr).1
      simpa using this
    subst hi
    simp at hr
    subst hr
    exact ⟨_, _, rfl, .slice none 0 0, heap_cell g1 0 rfl, heap_cell g1 1 rfl, hd, none, 0, rfl, Nat.le_refl _, by rw [maxLen_eq]; omega, fun i c h => by simp at h⟩
  have HC := concatR_any B _ _ rs [([], d)] (w.heap.size + 1 + 1) W3 (HR.out W3 hb3) hLit (by have := hb3.size; omega) (lt_of_block g2) (heap_cell g2 0 rfl) (heap_cell g2 1 rfl) (by rw [HN.out]; simp; omega)
  have HCC : Hid _ := HC
  have HW : Hid (W3 = _) := hW3
  have HB3 : Hid (Below w.heap.size w W3) := hb3
  clear HC hW3 hb3 g1 g2 hLit HR
  go_enter Tryz.func164, Tryz.ntmps164
  go_wp2_with fail
  rw [← HW.out]
  go_at_call 196
  refine Calls.mono HCC.out ?_
  rintro e w4 ⟨v, rfl, xs, ho, hx, hb4⟩
  have HO : Hid (w4.ownsRow W3.heap.size 95 2 v (rs ++ [(([] : List CondT), d)]).length xs) := ho
  have HX : Hid (XsAt B w4 xs (rs ++ [([], d)])) := hx
  have HB4 : Hid (Below W3.heap.size W3 w4) := hb4
  clear ho hx hb4
  go_wp2_with fail
  go_ret
  exact ⟨_, rfl, xs, ownsRow_base HO.out HB3.out.size, HX.out, Below.thenOf HB3.out HB4.out HB3.out.size⟩

theorem rulesAt_take {B : Nat} {w : World} {a : Option Addr} {n c : Nat} {rs : List RuleT} (h : RulesAt B w (.slice a n c) rs) (m : Nat) (hm : m ≤ rs.length) : RulesAt B w (.slice a m c) (rs.take m) := by
  obtain ⟨a', c', e, h1, h2, h3⟩ := h
  simp at e
  obtain ⟨rfl, rfl, rfl⟩ := e
  refine ⟨a, c, by rw [List.length_take, Nat.min_eq_left hm], by rw [List.length_take]; omega, h2, fun i r hr => ?_⟩
  rw [List.getElem?_take] at hr
  split at hr
  · exact h3 i r hr
  · cases hr
theorem polNew_own {L : Nat} {w : World} {a : Option Addr} {N m c : Nat} {xs : List Value} {rs : List RuleT} {d : Int} (ho : w.ownsRow L 95 2 (.slice a N c) rs.length xs) (hx : XsN L w xs rs) (hm : m ≤ rs.length) (hd : wf d) : PolNew L w (.agg #[.slice a m c, .int .i64 d]) (rs.take m, d) := by
  intro wF h1 h2
  have ho' : wF.ownsRow L 95 2 (.slice a N c) rs.length xs := ownsRow_block ho fun g cur hg hc => h1 g hg (lt_of_block hc)
  have hx' : XsN L wF xs rs := by
    obtain ⟨k1, k2, k3⟩ := hx
    refine ⟨k1, k2, fun i r hr => ?_⟩
    obtain ⟨cv, e1, e2, e3, e4, e5⟩ := k3 i r hr
    exact ⟨cv, e1, e2, e3, e4, ownsRow_block e5 fun g cur hg hc => h1 g hg (lt_of_block hc)⟩
  exact ⟨_, rfl, hd, rulesAt_take (XsN.rules ho' hx') m hm⟩
theorem zeroNew (L : Nat) (w : World) : PolNew L w (.agg #[.slice none 0 0, .int .i64 0]) ([], 0) := fun wF _ _ => zeroPol _ _

end Go.Proofs.YtbdlojnigflanacGreatDoor
end
