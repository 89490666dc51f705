/- slices.Delete of one rule, of a row of one's own: the rest moves up; nothing but that row turns. -/
import Derived.Test.YtpphcodiiolfbaaDoorClone
import Derived.Deep.RegionLaw
import Derived.Deep.Upon
import Derived.Lib.SliceRun
import Derived.Lib.SlBuf
import Derived.Lib.Walk
import Derived.Sort.WalkB12
import Derived.Shelf.RegionOpenPlain
set_option linter.all false
set_option maxRecDepth 100000
namespace Go.Proofs.YtpphcodiiolfbaaDoor
open Go.RowKit Go.Maps Go.Lib Go.Sort

/-- Nothing turned but block g. -/
def ButOne (g : Nat) (w w' : World) : Prop := Below g w w' ∧ w'.heap.size = w.heap.size ∧ ∀ k, k < w.heap.size → k ≠ g → w'.heap[k]? = w.heap[k]?

theorem heap_setCells_size (b : Nat) : ∀ (vs : List Value) (o : Nat) (w : World), (w.setCells b o vs).heap.size = w.heap.size
  | [], _, _ => rfl
  | v :: r, o, w => by rw [World.setCells, heap_setCells_size b r]; simp
theorem butOne_setCells (g o : Nat) (vs : List Value) {w w' : World} (h : ButOne g w w') : ButOne g w (w'.setCells g o vs) := by
  obtain ⟨h1, h2, h3⟩ := h
  refine ⟨Lib.below_setCells g (Nat.le_refl _) vs o h1, (heap_setCells_size g vs o w').trans h2, fun k hk hne => ?_⟩
  rw [World.heap_setCells_other w' g o vs (by omega) hne]
  exact h3 k hk hne
theorem ButOne.cell {g : Nat} {w w' : World} (h : ButOne g w w') {p : Addr} (hp : p.block < w.heap.size) (hne : p.block ≠ g) : w'.cell? p = w.cell? p := by
  unfold World.cell?
  rw [h.2.2 _ hp hne]

theorem setCells_isSome (b : Nat) : ∀ (vs : List Value) (o : Nat) (w : World) (x : Addr), (w.cell? x).isSome = true → ((w.setCells b o vs).cell? x).isSome = true
  | [], _, _, _, h => h
  | v :: r, o, w, x, h => by
    rw [World.setCells]
    refine setCells_isSome b r (o + 1) _ x ?_
    by_cases e : (⟨b, o, none⟩ : Addr) = x
    · subst e
      obtain ⟨u, hu⟩ := Option.isSome_iff_exists.1 h
      rw [World.cell?_setCell_same _ _ _ hu]
      rfl
    · rw [World.cell?_setCell_other _ _ _ _ e]
      exact h
/-- Rules in block g alone, their conditions below B. -/
def OwnRules (B g : Nat) (w : World) (v : Value) (rs : List RuleT) : Prop :=
  ∃ a cap, v = .slice a rs.length cap ∧ rs.length ≤ cap ∧ cap ≤ maxLen ∧ ∀ i r, rs[i]? = some r → a = some ⟨g, 0, none⟩ ∧ ∃ cv, w.cell? ⟨g, i * 2, none⟩ = some cv ∧ w.cell? ⟨g, i * 2 + 1, none⟩ = some (.int .i64 r.2) ∧ wf r.2 ∧ CondsAt B w cv r.1
theorem OwnRules.keep {B g : Nat} {w w' : World} {v : Value} {rs : List RuleT} (h : OwnRules B g w v rs) (hb : Below B w w') (hc : ∀ j u, w.cell? ⟨g, j, none⟩ = some u → w'.cell? ⟨g, j, none⟩ = some u) : OwnRules B g w' v rs := by
  obtain ⟨a, cap, h1, h2, h3, h4⟩ := h
  refine ⟨a, cap, h1, h2, h3, fun i r hr => ?_⟩
  obtain ⟨e, cv, k0, k1, k2, k3⟩ := h4 i r hr
  exact ⟨e, cv, hc _ _ k0, hc _ _ k1, k2, k3.later hb (Nat.le_refl _)⟩
theorem OwnRules.later {B g : Nat} {w w' : World} {v : Value} {rs : List RuleT} (h : OwnRules B g w v rs) (hb : Below w.heap.size w w') (hB : B ≤ w.heap.size) : OwnRules B g w' v rs :=
  h.keep (hb.mono hB) fun j u hu => (hb.cell (p := ⟨g, j, none⟩) (World.block_lt_of_cell? _ _ hu)).trans hu
theorem OwnRules.lt {B g : Nat} {w : World} {v : Value} {rs : List RuleT} (h : OwnRules B g w v rs) (hne : rs ≠ []) : g < w.heap.size := by
  obtain ⟨a, cap, h1, h2, h3, h4⟩ := h
  cases rs with
  | nil => exact absurd rfl hne
  | cons r l =>
    obtain ⟨_, cv, k0, _⟩ := h4 0 r rfl
    exact World.block_lt_of_cell? _ _ k0
theorem OwnRules.rulesAt {B g : Nat} {w : World} {v : Value} {rs : List RuleT} (h : OwnRules B g w v rs) (hB : B ≤ w.heap.size) : RulesAt w.heap.size w v rs := by
  have hh := h
  obtain ⟨a, cap, h1, h2, h3, h4⟩ := h
  refine ⟨a, cap, h1, h2, h3, fun i r hr => ?_⟩
  obtain ⟨e, cv, k0, k1, k2, k3⟩ := h4 i r hr
  refine ⟨g, 0, e, hh.lt (by intro h0; rw [h0] at hr; simp at hr), cv, by rw [Nat.zero_add]; exact k0, by rw [Nat.zero_add]; exact k1, k2, ?_⟩
  obtain ⟨a', cap', q1, q2, q3, q4⟩ := k3
  refine ⟨a', cap', q1, q2, q3, fun i c hc => ?_⟩
  obtain ⟨b, o, e, hl, k⟩ := q4 i c hc
  exact ⟨b, o, e, by omega, k⟩
theorem ownRules_of {B L : Nat} {w : World} {v : Value} {xs : List Value} {rs : List RuleT} (h : w.ownsRow L 41 2 v rs.length xs) (hx : XsAt B w xs rs) : ∃ g, L ≤ g ∧ OwnRules B g w v rs := by
  have hh := h
  rcases h.2 with ⟨h0, hn⟩ | ⟨g, cap, cur, h0, hL, hg, hle, hm, hcs, htk⟩
  · refine ⟨L, Nat.le_refl _, none, 0, by rw [h0, hn], by omega, Nat.zero_le _, fun i r hr => ?_⟩
    have := (List.getElem?_eq_some_iff.1 hr).1
    omega
  · refine ⟨g, hL, some ⟨g, 0, none⟩, cap, h0, hle, hm, fun i r hr => ⟨rfl, ?_⟩⟩
    have hi : i < rs.length := (List.getElem?_eq_some_iff.1 hr).1
    obtain ⟨cv, e0, e1, e2, e3⟩ := hx.2.2 i r hr
    subst h0
    have c := ownsRow_cell hh
    exact ⟨cv, c _ _ e0, c _ _ e1, e2, e3⟩

/-- Clearing one rule. -/
theorem run_clear_rule (w : World) (ty : TypeId) (b o c : Nat) (hc : ∀ j, j < 2 → (w.cell? ⟨b, o + j, none⟩).isSome = true) (hf : ∀ j, j < 2 → w.frozen? ⟨b, o + j, none⟩ = false) :
    (Builtin.clear_ #[22] ty #[.slice (some ⟨b, o, none⟩) 1 c]).run Tryd.prog w = .ok (.tuple #[]) (w.setCells b o [.slice none 0 0, .int .i64 0]) := by
  have hzc : (Builtin.zeroCells (Value.agg #[.slice none 0 0, .int .i64 0]).cells 1).toList = [.slice none 0 0, .int .i64 0] := by kernel_rfl
  have hst := run_storeCells_cells (P := Tryd.prog) b o [.slice none 0 0, .int .i64 0] 0 w (by simpa using hc) (by simpa using hf) (by intro v hv; simp at hv; rcases hv with rfl | rfl <;> rfl)
  simp only [Nat.add_zero] at hst
  have hv : ∀ w, (zeroValue 41).run Tryd.prog w = .ok (.agg #[.slice none 0 0, .int .i64 0]) w := fun w => by kernel_rfl
  simp [Builtin.clear_, run_underlying Tryd.underlying22, hv, hzc, hst]

set_option maxHeartbeats 4000000 in
theorem delete_any (B g m cap i : Nat) (cur : Array Value) (rs : List RuleT) (w : World) (hg : w.heap[g]? = some (.cells cur 41 (0, 0))) (hrl : rs.length = m + 1) (hcap : m + 1 ≤ cap) (hm : cap ≤ 9223372036854775807) (hcs : cur.size = cap * 2) (hx : XsAt B w (cur.toList.take ((m + 1) * 2)) rs) (hB : B ≤ g) (hi : i ≤ m) :
    Calls Tryd.prog 17 #[.slice (some ⟨g, 0, none⟩) (m + 1) cap, .int .i64 i, .int .i64 (i + 1 : Nat)] w fun e w' => e = .returned (.slice (some ⟨g, 0, none⟩) m cap) ∧ OwnRules B g w' (.slice (some ⟨g, 0, none⟩) m cap) (rs.eraseIdx i) ∧ ButOne g w w' := by
  have hgl : g < w.heap.size := (Array.getElem?_eq_some_iff.1 hg).1
  have hcell : ∀ j, (w.drew.cell? ⟨g, j, none⟩) = cur[j]? := fun j => by show w.cell? _ = _; simp [World.cell?, hg]
  have hfz : ∀ j, w.drew.frozen? ⟨g, j, none⟩ = false := fun j => by show w.frozen? _ = _; simp [World.frozen?, hg]
  obtain ⟨news, hnews⟩ : ∃ news, news = (cur.toList.take ((m + 1) * 2)).drop ((i + 1) * 2) := ⟨_, rfl⟩
  have hnl : news.length = (m - i) * 2 := by rw [hnews]; simp; omega
  have hnat : ∀ j, j < (m - i) * 2 → news[j]? = cur[(i + 1) * 2 + j]? := fun j hj => by
    rw [hnews, List.getElem?_drop, List.getElem?_take_of_lt (by omega), Array.getElem?_toList]
  obtain ⟨A, hA, hsrc⟩ : ∃ A : Addr, (if cap = i + 1 then some (⟨g, 0, none⟩ : Addr) else some ⟨g, (i + 1) * 2, none⟩) = some A ∧ Hid (∀ t u, news[t]? = some u → w.drew.cell? (A.add t) = some u) := by
    by_cases h : cap = i + 1
    · refine ⟨⟨g, 0, none⟩, by simp [h], fun t u hu => ?_⟩
      have h0 : news.length = 0 := by rw [hnl]; omega
      rw [List.length_eq_zero_iff.1 h0] at hu
      simp at hu
    · refine ⟨⟨g, (i + 1) * 2, none⟩, by simp [h], fun t u hu => ?_⟩
      have ht : t < (m - i) * 2 := by
        have := (List.getElem?_eq_some_iff.1 hu).1
        rwa [hnl] at this
      rw [Addr.add_lit, hcell, ← hnat t ht]
      exact hu
  have s1 : Hid (news.length = (m - i) * 2) := hnl
  have s2 : Hid (∀ u ∈ news, u.oneCell' = true) := fun u hu => hx.2.1 u (by rw [hnews] at hu; exact List.mem_of_mem_drop hu)
  have s3 : Hid (∀ t, t < news.length → (w.drew.cell? ⟨g, 0 + i * 2 + t, none⟩).isSome = true ∧ w.drew.frozen? ⟨g, 0 + i * 2 + t, none⟩ = false) := fun t ht => by
    rw [hnl] at ht
    refine ⟨?_, hfz _⟩
    rw [hcell, Array.getElem?_eq_getElem (by omega)]
    rfl
  obtain ⟨W1, hW1⟩ : ∃ W1, W1 = w.drew.setCells g (0 + i * 2) news := ⟨_, rfl⟩
  have hb0 : ButOne g w w.drew := ⟨(Below.refl _ _).drew, rfl, fun _ _ _ => rfl⟩
  have hb1 : ButOne g w W1 := by rw [hW1]; exact butOne_setCells _ _ _ hb0
  have there1 : ∀ j, j < cap * 2 → (W1.cell? ⟨g, j, none⟩).isSome = true := fun j hj => by
    rw [hW1]
    exact setCells_isSome g _ _ _ _ (by rw [hcell, Array.getElem?_eq_getElem (by omega)]; rfl)
  have hfz1 : ∀ j, W1.frozen? ⟨g, j, none⟩ = false := fun j => by rw [hW1, World.frozen?_setCells]; exact hfz j
  have hcl : ∀ ty, (Builtin.clear_ #[22] ty #[.slice (some ⟨g, m * 2, none⟩) 1 (cap - m)]).run Tryd.prog W1 = .ok (.tuple #[]) (W1.setCells g (m * 2) [.slice none 0 0, .int .i64 0]) :=
    fun ty => run_clear_rule W1 ty g (m * 2) _ (fun j hj => there1 _ (by omega)) (fun j hj => hfz1 _)
  -- what lies there in the end
  have hfin : Hid (OwnRules B g (W1.setCells g (m * 2) [.slice none 0 0, .int .i64 0]) (.slice (some ⟨g, 0, none⟩) m cap) (rs.eraseIdx i)) := by
    have hlen : (rs.eraseIdx i).length = m := by rw [List.length_eraseIdx_of_lt (by omega)]; omega
    refine ⟨some ⟨g, 0, none⟩, cap, by rw [hlen], by rw [hlen]; omega, by rw [maxLen_eq]; omega, fun j r hr => ⟨rfl, ?_⟩⟩
    have hj : j < m := by have := (List.getElem?_eq_some_iff.1 hr).1; omega
    have hc1 : ∀ t, t < m * 2 → (W1.setCells g (m * 2) [.slice none 0 0, .int .i64 0]).cell? ⟨g, t, none⟩ = W1.cell? ⟨g, t, none⟩ := fun t ht => World.cell?_setCells_out g _ _ _ _ fun _ _ => .inl ht
    have conds : ∀ cv (r : RuleT), CondsAt B w cv r.1 → CondsAt B (W1.setCells g (m * 2) [.slice none 0 0, .int .i64 0]) cv r.1 := fun cv r hc => hc.later (butOne_setCells g (m * 2) [.slice none 0 0, .int .i64 0] hb1).1 hB
    by_cases hji : j < i
    · rw [List.getElem?_eraseIdx_of_lt hji] at hr
      obtain ⟨cv, e0, e1, hw, hc⟩ := hx.2.2 j r hr
      rw [List.getElem?_take_of_lt (by omega), Array.getElem?_toList] at e0 e1
      have out : ∀ t, t < i * 2 → W1.cell? ⟨g, t, none⟩ = cur[t]? := fun t ht => by
        rw [hW1, World.cell?_setCells_out g _ _ _ _ fun _ _ => .inl (by show t < 0 + i * 2; omega)]
        exact hcell t
      refine ⟨cv, ?_, ?_, hw, conds cv r hc⟩
      · rw [hc1 _ (by omega), out _ (by omega)]; exact e0
      · rw [hc1 _ (by omega), out _ (by omega)]; exact e1
    · rw [List.getElem?_eraseIdx_of_ge (by omega)] at hr
      obtain ⟨cv, e0, e1, hw, hc⟩ := hx.2.2 (j + 1) r hr
      rw [List.getElem?_take_of_lt (by omega), Array.getElem?_toList] at e0 e1
      have inn : ∀ t, t < (m - i) * 2 → W1.cell? ⟨g, i * 2 + t, none⟩ = cur[(i + 1) * 2 + t]? := fun t ht => by
        have h1 := World.cell?_setCells_in g news (0 + i * 2) w.drew (fun t ht => (s3.out t ht).1) t (by omega)
        rw [← hW1, Nat.zero_add] at h1
        rw [h1, ← hnat t ht, List.getElem?_eq_getElem (by omega)]
      refine ⟨cv, ?_, ?_, hw, conds cv r hc⟩
      · have h2 := inn (j * 2 - i * 2) (by omega)
        rw [show i * 2 + (j * 2 - i * 2) = j * 2 by omega, show (i + 1) * 2 + (j * 2 - i * 2) = (j + 1) * 2 by omega] at h2
        rw [hc1 _ (by omega), h2]; exact e0
      · have h2 := inn (j * 2 + 1 - i * 2) (by omega)
        rw [show i * 2 + (j * 2 + 1 - i * 2) = j * 2 + 1 by omega, show (i + 1) * 2 + (j * 2 + 1 - i * 2) = (j + 1) * 2 + 1 by omega] at h2
        rw [hc1 _ (by omega), h2]; exact e1
  have hbut : Hid (ButOne g w (W1.setCells g (m * 2) [.slice none 0 0, .int .i64 0])) := butOne_setCells _ _ _ hb1
  have hW : Hid (W1 = w.drew.setCells g (0 + i * 2) news) := hW1
  clear hW1 hb0 hb1 there1 hfz1 hnat hnl hnews hcell hfz hx hg hcs hrl
  obtain ⟨inf, hi1, hi2, hi3, hi4⟩ := infoRule
  have hic : i ≤ cap := by omega
  have hjc : i + 1 ≤ cap := by omega
  have hne : ((i : Int) == ((i + 1 : Nat) : Int)) = false := by simp; omega
  have hsum : i + (m + 1 - (i + 1)) = m := by omega
  have hml := maxLen_eq
  have mixed : Tryd.prog.follows .mixedOrders = true := by kernel_rfl
  have hi0 : (0 : Int) ≤ (i : Int) + 1 := by omega
  go_enter Tryd.func17, Tryd.ntmps17
  go_wp2_with fail
  go_region_law_o (refine step_append_room rfl (.tmp 22) (.tmp 25) 22 rfl 41 inf 2 Tryd.underlying22 hi1 hi3 g 0 i cap (by simp [Act.eval, Act.put]) A (m - i) (cap - (i + 1)) news (by simp [Act.eval, Act.put]) s1.out hsrc.out s2.out (by omega) s3.out ?_; rw [← hW.out])
  have hcm : ¬ cap = m := by omega
  have hs1 : m + 1 - m = 1 := by omega
  have hmc : m ≤ cap := by omega
  go_wp2
  go_ret
  exact ⟨rfl, hfin.out, hbut.out⟩
end Go.Proofs.YtpphcodiiolfbaaDoor
