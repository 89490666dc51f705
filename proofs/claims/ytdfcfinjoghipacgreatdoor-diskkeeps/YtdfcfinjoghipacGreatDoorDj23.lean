/- Joined: Nte9 AppN Dsk1 Dsk2. -/
import Derived.Test.YtdfcfinjoghipacGreatDoorDj20
import Derived.Test.YtdfcfinjoghipacGreatDoorDj21
import Derived.Test.YtdfcfinjoghipacGreatDoorDj22
import Derived.Test.YtdfcfinjoghipacGreatDoorDj01
import Derived.Test.YtdfcfinjoghipacGreatDoorDj03
import Derived.Test.YtdfcfinjoghipacGreatDoorDj11
import Derived.Lib.AppendZerosOnto
import Derived.Lib.AppendZeros
import Derived.Maps.AppendAt
import Derived.Test.YtdfcfinjoghipacGreatDoorDj12
import Derived.Test.YtdfcfinjoghipacGreatDoorDj18
section
/- The counterpart's RecRead, at any text. -/
set_option linter.all false
namespace Go.Proofs.YtdfcfinjoghipacGreatDoor
open Go.RowKit Go.Maps

theorem recRead_new (s : ByteArray) (hs60 : s.size ≤ 60000) (w : World) (he : EnvT w) :
    Calls Tryz.prog 20 #[.string s] w fun e w' => ∃ v, e = .returned (.tuple #[v, .int .i64 (recOf s.data.toList).2]) ∧ RecNew w.heap.size w' v (recOf s.data.toList).1 ∧ Below w.heap.size w w' := by
  by_cases hbad : idxL kN ((split3 s.data.toList).getD 0 []) < 0 ∨ (idxL kN ((split3 s.data.toList).getD 0 []) = 3 ∧ (split3 s.data.toList).length ≠ 2) ∨ (idxL kN ((split3 s.data.toList).getD 0 []) < 3 ∧ (split3 s.data.toList).length ≠ 3)
  · have h : recOf s.data.toList = (zeroRec, 1) := by unfold recOf; rw [if_pos hbad]
    refine (recRead_bad s hs60 w he hbad).mono fun e w' ⟨h1, h2⟩ => ⟨.agg #[.int .i64 0, .int .i64 0, .int .i64 0, .slice none 0 0, .int .i64 0], by rw [h1, h], by rw [h]; exact recNew_zero _ _, h2⟩
  · have hk2 := idxL_lt kN ((split3 s.data.toList).getD 0 [])
    have hk3 : kN.length = 4 := rfl
    rw [hk3] at hk2
    have hc : (idxL kN ((split3 s.data.toList).getD 0 []) = 0 ∧ (split3 s.data.toList).length = 3) ∨ (idxL kN ((split3 s.data.toList).getD 0 []) = 1 ∧ (split3 s.data.toList).length = 3) ∨ (idxL kN ((split3 s.data.toList).getD 0 []) = 2 ∧ (split3 s.data.toList).length = 3) ∨ (idxL kN ((split3 s.data.toList).getD 0 []) = 3 ∧ (split3 s.data.toList).length = 2) := by omega
    rcases hc with ⟨a, b⟩ | ⟨a, b⟩ | ⟨a, b⟩ | ⟨a, b⟩
    · exact recRead_pol1 s hs60 w he a b
    · exact recRead_pol2 s hs60 w he a b
    · exact recRead_fork s hs60 w he a b
    · exact recRead_shut s hs60 w he a b
theorem recRead_any (s : ByteArray) (hs60 : s.size ≤ 60000) (w : World) (he : EnvT w) :
    Calls Tryz.prog 20 #[.string s] w fun e w' => ∃ v, e = .returned (.tuple #[v, .int .i64 (recOf s.data.toList).2]) ∧ RecAt w'.heap.size w' v (recOf s.data.toList).1 ∧ Below w.heap.size w w' := (recRead_new s hs60 w he).mono fun e w' ⟨v, h1, h2, h3⟩ => ⟨v, h1, h2.at, h3⟩
end Go.Proofs.YtdfcfinjoghipacGreatDoor
end
section
/- A literal, appended to a row of one's own: a step of a walk, whatever the elements are. -/
set_option linter.all false
set_option maxRecDepth 100000
namespace Go.Proofs.YtdfcfinjoghipacGreatDoor
open Go.RowKit Go.Maps

theorem grownN_of_below {w w' : World} (hb : Below w.heap.size w w') (row : Option Nat) : w.grownBy w' row := ⟨hb.os, hb.tape, hb.output, hb.size, fun k hk _ => hb.block k hk⟩
/-- A literal, appended to a row of one's own. -/
theorem wpList_appN {P : Program} {t e : TypeId} {inf : TypeInfo} {z : Value} {size bytes : Nat} {ops : Array Oper} {rest : List Oper} {o : Oper} {a : Act} {Q : Exit → Act → World → Prop} (w : World) (hgd : o.guard = none) (s x : Operand)
    (hop : o.op = .call { callee := .builtin .append, args := #[s, x], argTypes := #[t, t] })
    (ht : P.underlying t = some (.slice e)) (hi : P.info? e = some inf) (hz : inf.zero = some z) (hsize : inf.size = size) (hby : inf.bytes = bytes) (hzs : z.cells.size = size) (hsz : 0 < size)
    (base : Nat) (v : Value) (n : Nat) (xs : List Value) (hs : a.eval s = v) (g m : Nat) (news : List Value) (hx : a.eval x = .slice (some ⟨g, 0, none⟩) m m)
    (W : World) {T0 : TypeId} (hw : w = W.alloc (.cells news.toArray T0)) (hg : g = W.heap.size) (wo : World) (hb : Below wo.heap.size wo W) (hown : wo.ownsRow base e size v n xs) (hl : news.length = m * size) (h1 : ∀ u ∈ news, u.oneCell' = true) (hm : n + m ≤ maxLen) (hn : (n + m) * bytes ≤ 140737488355328) (hbase : base ≤ wo.heap.size)
    (h : ∀ v' w', Hid (w'.ownsRow base e size v' (n + m) (xs ++ news)) → Below base wo w' → Hid (wo.grownBy w' v.ownBlock) → Hid (v'.ownBlock = v.ownBlock ∨ ∃ k, v'.ownBlock = some k ∧ wo.heap.size ≤ k) → wpList P ops Q rest (a.put o.dst v') w') : wpList P ops Q (o :: rest) a w := by
  subst hw
  subst hg
  have hbX : Below wo.heap.size wo (W.alloc (.cells news.toArray T0)) := hb.alloc hb.size _
  obtain ⟨v', W', r1, r2, r3, _, r5⟩ := run_append_own_at (P := P) (W.alloc (.cells news.toArray T0)) base t o.type e inf z size bytes ht hi hz hsize hby hzs hsz v n xs (ownsRow_below hown hbX) ⟨W.heap.size, 0, none⟩ m m news hl (fun j u hj => by rw [add_at, Nat.zero_add]; exact heap_cell (heap_made W _) j (by simpa using hj)) h1 hm hn (Nat.le_trans hbase hbX.size)
  have hG : wo.grownBy W' v.ownBlock := World.grownBy.andThen (grownN_of_below hbX v.ownBlock) r3 fun j hj => .inr hj
  exact Lib.wpList_append_run _ hgd s x _ _ hop _ _ hs hx _ _ r1 (h v' W' r2 ((Below.refl _ _).grown hG hbase fun k hk => ownsRow_ge hown k hk) hG (by
    rcases r5 with e | e
    · exact .inl e
    · exact .inr ⟨_, e, hbX.size⟩))

end Go.Proofs.YtdfcfinjoghipacGreatDoor
end
section
/- strings.SplitAfter at line feeds; records in rows. -/
set_option linter.all false
set_option maxRecDepth 100000
namespace Go.Proofs.YtdfcfinjoghipacGreatDoor
open Go.RowKit Go.Maps

theorem linesK_splitK : ∀ (k : Nat) (s : Bs), Lib.splitK [10] 1 k s = linesK k s
  | 0, s => rfl
  | k + 1, s => by
    unfold linesK
    cases h : cutNl s with
    | none =>
      have := index_miss 10 s (cutNl_none h)
      unfold Lib.splitK
      rw [this]
      rfl
    | some x =>
      obtain ⟨a, t⟩ := x
      obtain ⟨rfl, hn⟩ := cutNl_some h
      have := index_hit 10 t a hn
      conv => lhs; unfold Lib.splitK
      rw [this, if_neg (by simp)]
      simp only
      rw [← linesK_splitK k t]
      simp [List.take_append, List.drop_append]
      exact ⟨List.take_of_length_le (by omega), by rw [List.drop_of_length_le (by omega)]; rfl⟩
theorem linesK_count : ∀ (k j : Nat) (s : Bs), s.count 10 ≤ k → s.count 10 ≤ j → linesK k s = linesK j s
  | 0, 0, s, _, _ => rfl
  | 0, j + 1, s, h, _ => by
    have hn : (10 : UInt8) ∉ s := List.count_eq_zero.1 (by omega)
    conv => rhs; unfold linesK
    rw [cutNl_miss s hn]
    rfl
  | k + 1, 0, s, _, h => by
    have hn : (10 : UInt8) ∉ s := List.count_eq_zero.1 (by omega)
    conv => lhs; unfold linesK
    rw [cutNl_miss s hn]
    rfl
  | k + 1, j + 1, s, h1, h2 => by
    unfold linesK
    cases h : cutNl s with
    | none => rfl
    | some x =>
      obtain ⟨a, t⟩ := x
      obtain ⟨rfl, hn⟩ := cutNl_some h
      have hc : (a ++ 10 :: t).count 10 = t.count 10 + 1 := by
        rw [List.count_append, List.count_eq_zero.2 hn, List.count_cons_self, Nat.zero_add]
      simp only
      rw [linesK_count k j t (by omega) (by omega)]
theorem linesK_short : ∀ (k : Nat) (s : Bs), ∀ t ∈ linesK k s, t.length ≤ s.length
  | 0, s, t, h => by
    simp [linesK] at h
    rw [h]
    exact Nat.le_refl _
  | k + 1, s, t, h => by
    unfold linesK at h
    cases hc : cutNl s with
    | none =>
      rw [hc] at h
      simp at h
      rw [h]
      exact Nat.le_refl _
    | some x =>
      obtain ⟨a, u⟩ := x
      rw [hc] at h
      have := cutNl_len hc
      rcases List.mem_cons.1 h with rfl | h
      · simp; omega
      · have := linesK_short k u t h
        omega
theorem linesK_many : ∀ (k : Nat) (s : Bs), (linesK k s).length ≤ k + 1
  | 0, s => Nat.le_refl _
  | k + 1, s => by
    unfold linesK
    cases hc : cutNl s with
    | none => simp
    | some x =>
      obtain ⟨a, u⟩ := x
      have := linesK_many k u
      simp
      omega

set_option maxHeartbeats 1000000 in
theorem splitAfter_any (t : ByteArray) (ht : t.size ≤ 60000) : ∃ ws : List ByteArray, ws.map (fun p : ByteArray => p.data.toList) = linesK t.data.toList.length t.data.toList ∧ ws.length ≤ 60001 ∧ (∀ u ∈ ws, u.size ≤ 60000) ∧
    ∀ mm w, w.cell? ⟨3, 0, none⟩ = some (.int .i64 mm) → Calls Tryz.prog 123 #[.string t, .string ⟨#[10]⟩] w fun e w' => ∃ SB cap, e = .returned (.slice (some ⟨SB, 0, none⟩) ws.length cap) ∧ ws.length ≤ cap ∧ cap ≤ 60001 ∧ Below w.heap.size w w' ∧ w.heap.size ≤ SB ∧ SB < w'.heap.size ∧ ∀ j u, ws[j]? = some u → w'.cell? ⟨SB, j, none⟩ = some (.string u) := by
  obtain ⟨ws, hws⟩ : ∃ ws, ws = Lib.splitB ⟨#[10]⟩ 1 (Lib.countB t ⟨#[10]⟩) t := ⟨_, rfl⟩
  have hcnt : Lib.countB t ⟨#[10]⟩ = t.data.toList.count 10 := Lib.count_one 10 t.data.toList
  have hcl : t.data.toList.count 10 ≤ t.data.toList.length := List.count_le_length
  have hsz : t.data.toList.length = t.size := (Lib.size_eq t).symm
  have hmap : ws.map (fun p : ByteArray => p.data.toList) = linesK t.data.toList.length t.data.toList := by
    rw [hws, Lib.splitB_data, hcnt]
    show Lib.splitK [10] 1 _ _ = _
    rw [linesK_splitK]
    exact linesK_count _ _ _ (Nat.le_refl _) hcl
  have hlen : ws.length ≤ Lib.countB t ⟨#[10]⟩ + 1 := by
    rw [hws]
    exact Lib.splitB_length_le _ _ _ _
  refine ⟨ws, hmap, by omega, fun u hu => ?_, fun mm w hm => ?_⟩
  · have : u.data.toList ∈ linesK t.data.toList.length t.data.toList := by rw [← hmap]; exact List.mem_map_of_mem hu
    have := linesK_short _ _ _ this
    rw [Lib.size_eq]
    omega
  · have hg : Hid (Calls Tryz.prog 116 #[.string t, .string ⟨#[10]⟩, .int .i64 1, .int .i64 (-1)] w fun e w' => e = .returned (.slice (some ⟨w.heap.size, 0, none⟩) ws.length (Lib.countB t ⟨#[10]⟩ + 1)) ∧ w' = w.alloc (.cells (Lib.cellsOf ws (Lib.countB t ⟨#[10]⟩ + 1)) 9)) := by
      have := Tryz.strings_genSplit t ⟨#[10]⟩ 1 (-1) (Lib.countB t ⟨#[10]⟩ + 1) mm w (by omega) hm (by decide) (by decide) (by decide) (by decide) (by rw [if_pos (by decide)]; omega)
      rw [Nat.add_sub_cancel, ← hws] at this
      exact this
    have HK : Hid (ws.length ≤ Lib.countB t ⟨#[10]⟩ + 1 ∧ Lib.countB t ⟨#[10]⟩ + 1 ≤ 60001) := ⟨hlen, by omega⟩
    clear hws hmap hcnt hcl hsz hlen hm
    generalize Lib.countB t ⟨#[10]⟩ + 1 = N at *
    go_enter Tryz.func123, Tryz.ntmps123
    go_wp2_with fail
    go_at_call 116
    refine Calls.mono hg.out ?_
    rintro e w1 ⟨rfl, rfl⟩
    go_wp2_with fail
    go_ret
    refine ⟨w.heap.size, N, rfl, HK.out.1, HK.out.2, (Below.refl _ _).alloc (Nat.le_refl _) _, Nat.le_refl _, by simp, fun j u hu => ?_⟩
    refine heap_cell (heap_made w _) j ?_
    unfold Lib.cellsOf
    rw [List.getElem?_toArray, List.getElem?_append_left (by simp; exact (List.getElem?_eq_some_iff.1 hu).1), List.getElem?_map, hu]
    rfl
theorem suffix_nl (s : Bs) : Lib.hasSuffix s [10] = decide (s.getLast? = some 10) := by
  unfold Lib.hasSuffix
  by_cases h : s.getLast? = some 10
  · rw [decide_eq_true h]
    obtain ⟨t, rfl⟩ : ∃ t, s = t ++ [10] := by
      rcases List.eq_nil_or_concat s with rfl | ⟨t, b, rfl⟩
      · simp at h
      · simp at h
        exact ⟨t, by simp [h]⟩
    rw [List.isSuffixOf_iff_suffix]
    exact List.suffix_append _ _
  · rw [decide_eq_false h]
    refine Bool.eq_false_iff.2 fun e => h ?_
    obtain ⟨t, rfl⟩ := List.isSuffixOf_iff_suffix.1 e
    simp

/-- A record that stands whatever becomes of one block. -/
def RecKept (g : Option Nat) (w : World) (v : Value) (r : RecT) : Prop := ∀ wF : World, (∀ k, some k ≠ g → k < w.heap.size → wF.heap[k]? = w.heap[k]?) → w.heap.size ≤ wF.heap.size → RecAt wF.heap.size wF v r
theorem RecKept.of_new {L : Nat} {g : Option Nat} {w : World} {v : Value} {r : RecT} (h : RecNew L w v r) (hg : ∀ k, g = some k → k < L) : RecKept g w v r := fun wF h1 h2 => h wF (fun k hk hl => h1 k (fun e => by have := hg k e.symm; omega) hl) h2
theorem RecKept.grown {g g' : Option Nat} {w w' : World} {v : Value} {r : RecT} (h : RecKept g w v r) (hg : w.grownBy w' g) (hg' : g' = g ∨ ∃ k, g' = some k ∧ w.heap.size ≤ k) : RecKept g' w' v r := fun wF h1 h2 => h wF (fun k hk hl => by
  have hk' : some k ≠ g' := by
    rcases hg' with e | ⟨j, e, hj⟩
    · rw [e]; exact hk
    · rw [e]
      intro e'
      have := Option.some.inj e'
      omega
  exact (h1 k hk' (Nat.lt_of_lt_of_le hl hg.size)).trans (hg.block k hl hk)) (Nat.le_trans hg.size h2)
/-- The cells of records in a row of one's own. -/
def XsR (g : Option Nat) (w : World) (xs : List Value) (rs : List RecT) : Prop :=
  xs.length = rs.length * 5 ∧ (∀ u ∈ xs, u.oneCell' = true) ∧ ∀ i r, rs[i]? = some r → ∃ rv, xs[i * 5]? = some (.int .i64 r.1) ∧ xs[i * 5 + 1]? = some (.int .i64 r.2.1) ∧ xs[i * 5 + 2]? = some (.int .i64 r.2.2.1) ∧ xs[i * 5 + 3]? = some rv ∧ xs[i * 5 + 4]? = some (.int .i64 r.2.2.2.2) ∧ RecKept g w (.agg #[.int .i64 r.1, .int .i64 r.2.1, .int .i64 r.2.2.1, rv, .int .i64 r.2.2.2.2]) r
theorem XsR.grown {g g' : Option Nat} {w w' : World} {xs : List Value} {rs : List RecT} (h : XsR g w xs rs) (hg : w.grownBy w' g) (hg' : g' = g ∨ ∃ k, g' = some k ∧ w.heap.size ≤ k) : XsR g' w' xs rs := by
  obtain ⟨h1, h2, h3⟩ := h
  refine ⟨h1, h2, fun i r hr => ?_⟩
  obtain ⟨rv, e0, e1, e2, e3, e4, e5⟩ := h3 i r hr
  exact ⟨rv, e0, e1, e2, e3, e4, e5.grown hg hg'⟩
theorem XsR.later {g : Option Nat} {w w' : World} {xs : List Value} {rs : List RecT} (h : XsR g w xs rs) (hb : Below w.heap.size w w') : XsR g w' xs rs := h.grown (grownN_of_below hb g) (.inl rfl)
theorem recsAt_own {L : Nat} {w : World} {v : Value} {xs : List Value} {rs : List RecT} (h : w.ownsRow L 38 5 v rs.length xs) (hx : XsR v.ownBlock w xs rs) : RecsAt w.heap.size w v rs := by
  obtain ⟨a, cap, rfl, h1, h2, h3⟩ := ownsRow_caps h
  refine ⟨a, cap, rfl, h1, h2, fun i r hr => ?_⟩
  have hi : i < rs.length := (List.getElem?_eq_some_iff.1 hr).1
  obtain ⟨g, rfl, hg1, hg2⟩ := h3 (by omega)
  obtain ⟨rv, e0, e1, e2, e3, e4, hr⟩ := hx.2.2 i r hr
  have c := ownsRow_cell h
  refine ⟨g, 0, rfl, hg2, rv, ?_, ?_, ?_, ?_, ?_, hr w (fun _ _ _ => rfl) (Nat.le_refl _)⟩
  · rw [Nat.zero_add]; exact c _ _ e0
  · rw [Nat.zero_add]; exact c _ _ e1
  · rw [Nat.zero_add]; exact c _ _ e2
  · rw [Nat.zero_add]; exact c _ _ e3
  · rw [Nat.zero_add]; exact c _ _ e4
theorem XsR.snoc {g : Option Nat} {w : World} {xs : List Value} {rs : List RecT} {rv : Value} {r : RecT} (h : XsR g w xs rs) (hr : RecKept g w (.agg #[.int .i64 r.1, .int .i64 r.2.1, .int .i64 r.2.2.1, rv, .int .i64 r.2.2.2.2]) r) : XsR g w (xs ++ [.int .i64 r.1, .int .i64 r.2.1, .int .i64 r.2.2.1, rv, .int .i64 r.2.2.2.2]) (rs ++ [r]) := by
  obtain ⟨h1, h2, h3⟩ := h
  refine ⟨by simp [h1]; omega, fun u hu => ?_, fun i r' hr' => ?_⟩
  · rcases List.mem_append.1 hu with hu | hu
    · exact h2 u hu
    · obtain ⟨a, c, e, _⟩ := (hr w (fun _ _ _ => rfl) (Nat.le_refl _)).shape
      simp at e
      simp at hu
      rcases hu with rfl | rfl | rfl | rfl | rfl
      · rfl
      · rfl
      · rfl
      · rw [e]; rfl
      · rfl
  · by_cases hi : i < rs.length
    · rw [List.getElem?_append_left hi] at hr'
      obtain ⟨rv', e0, e1, e2, e3, e4, hh⟩ := h3 i r' hr'
      exact ⟨rv', by rw [List.getElem?_append_left (by omega)]; exact e0, by rw [List.getElem?_append_left (by omega)]; exact e1, by rw [List.getElem?_append_left (by omega)]; exact e2, by rw [List.getElem?_append_left (by omega)]; exact e3, by rw [List.getElem?_append_left (by omega)]; exact e4, hh⟩
    · have hi' : i = rs.length := by
        have := (List.getElem?_eq_some_iff.1 hr').1
        simp at this
        omega
      subst hi'
      simp at hr'
      subst hr'
      exact ⟨rv, by rw [List.getElem?_append_right (by omega)]; simp [h1], by rw [List.getElem?_append_right (by omega)]; simp [h1], by rw [List.getElem?_append_right (by omega)]; simp [h1], by rw [List.getElem?_append_right (by omega)]; simp [h1], by rw [List.getElem?_append_right (by omega)]; simp [h1], hr⟩
end Go.Proofs.YtdfcfinjoghipacGreatDoor
end
section
/- The counterpart's linesOf. -/
set_option linter.all false
set_option maxRecDepth 100000
namespace Go.Proofs.YtdfcfinjoghipacGreatDoor
open Go.RowKit Go.Maps

theorem readL_nil (most : Nat) : readL most [] = ([], 0, 0) := by unfold readL; rfl
theorem readL_empty (most : Nat) (ts : List Bs) : readL most ([] :: ts) = ([], 0, 0) := by unfold readL; rw [if_pos rfl]
theorem readL_torn (most : Nat) {t : Bs} (ts : List Bs) (h : t ≠ []) (hl : ¬ t.getLast? = some 10) : readL most (t :: ts) = ([], 0, 8) := by unfold readL; rw [if_neg h, if_neg hl]
theorem readL_bad (most : Nat) {t : Bs} (ts : List Bs) (h : t ≠ []) (hl : t.getLast? = some 10) (he : ¬ (recOf t.dropLast).2 = 0) : readL most (t :: ts) = ([], 0, (recOf t.dropLast).2) := by unfold readL; rw [if_neg h, if_pos hl, if_neg he]
theorem readL_many {t : Bs} (ts : List Bs) (h : t ≠ []) (hl : t.getLast? = some 10) (he : (recOf t.dropLast).2 = 0) : readL 0 (t :: ts) = ([], 0, 2) := by unfold readL; rw [if_neg h, if_pos hl, if_pos he]
theorem readL_more (m : Nat) {t : Bs} (ts : List Bs) (h : t ≠ []) (hl : t.getLast? = some 10) (he : (recOf t.dropLast).2 = 0) : readL (m + 1) (t :: ts) = ((recOf t.dropLast).1 :: (readL m ts).1, t.length + (readL m ts).2.1, (readL m ts).2.2) := by
  conv => lhs; unfold readL
  rw [if_neg h, if_pos hl, if_pos he]
theorem dropLast_extract (u : ByteArray) (n : Nat) (hn : n + 1 = u.size) : (u.extract 0 n).data.toList = u.data.toList.dropLast := by
  have hl : u.data.toList.length = n + 1 := by rw [← Lib.size_eq]; exact hn.symm
  rw [List.dropLast_eq_take, hl, Nat.add_sub_cancel]
  rw [ByteArray.data_extract]
  simp
theorem recNew_later {L : Nat} {w w' : World} {v : Value} {r : RecT} (h : RecNew L w v r) (hb : Below w.heap.size w w') : RecNew L w' v r := fun wF h1 h2 => h wF (fun g hg hl => (h1 g hg (Nat.lt_of_lt_of_le hl hb.size)).trans (hb.block g hl)) (Nat.le_trans hb.size h2)
theorem lineNum {n u i N dl most : Nat} (hn : n ≤ i * 60000) (hi : i < N) (hN : N ≤ 60001) (hu : u ≤ 60000) (hd : dl ≤ 40) (hm : dl < most) : IntKind.i64.wrap ((n : Int) + (u : Int)) = (n : Int) + (u : Int) ∧ IntKind.i64.wrap ((i : Int) + 1) = (i : Int) + 1 ∧ dl + 1 ≤ 9223372036854775807 ∧ (dl + 1) * 56 ≤ 140737488355328 ∧ i + 1 ≤ N ∧ n + u ≤ (i + 1) * 60000 ∧ dl + 1 ≤ most := by
  refine ⟨?_, ?_, by omega, by omega, by omega, by omega, by omega⟩
  · exact IntWalk.i64_in _ (by omega)
  · exact IntWalk.i64_in _ (by omega)
theorem lineStep {i N : Nat} (hi : i < N) : N - (i + 1) < N - i := by omega
theorem infoRec : ∃ i, Tryz.prog.info? 38 = some i ∧ i.zero = some (.agg #[.int .i64 0, .int .i64 0, .int .i64 0, .slice none 0 0, .int .i64 0]) ∧ i.size = 5 ∧ i.bytes = 56 := infoOf (by kernel_rfl)

set_option maxHeartbeats 8000000 in
theorem linesOf_any (s : ByteArray) (hs60 : s.size ≤ 60000) (most : Nat) (hm40 : most ≤ 40) (w : World) (he : EnvT w) :
    Calls Tryz.prog 75 #[.string s, .int .i64 most] w fun e w' => ∃ v, e = .returned (.tuple #[v, .int .i64 (linesP most s.data.toList).2.1, .int .i64 (linesP most s.data.toList).2.2]) ∧ RecsAt w'.heap.size w' v (linesP most s.data.toList).1 ∧ Below w.heap.size w w' := by
  obtain ⟨inf, hi1, hi2, hi3, hi4⟩ := infoRec
  have HE : Hid (∀ w', Below w.heap.size w w' → EnvT w') := fun w' h => he.later h
  obtain ⟨mm, hm⟩ := he.1
  obtain ⟨ws, hmap, hl1, hsz, HSp⟩ := splitAfter_any s hs60
  have HSp0 : Hid _ := HSp mm w hm
  have HSz : Hid (∀ u ∈ ws, u.size ≤ 60000) := hsz
  have HM : Hid (ws.map (fun p : ByteArray => p.data.toList) = linesK s.data.toList.length s.data.toList) := hmap
  have HLP : Hid (linesP most s.data.toList = readL most (ws.map (fun p : ByteArray => p.data.toList))) := by unfold Hid; rw [hmap]; rfl
  obtain ⟨PP, hPP⟩ : ∃ PP, PP = ws.map (fun p : ByteArray => p.data.toList) := ⟨_, rfl⟩
  have HPP : Hid (PP = ws.map (fun p : ByteArray => p.data.toList)) := hPP
  rw [← hPP] at HLP
  clear HSp hmap hsz hm he hPP HM
  obtain ⟨N, hN⟩ : ∃ N, N = ws.length := ⟨_, rfl⟩
  have HN : Hid (ws.length = N) := hN.symm
  rw [← hN] at hl1 HSp0
  clear hN
  have hml := maxLen_eq
  go_enter Tryz.func75, Tryz.ntmps75
  go_wp2_with fail
  go_at_call 123
  refine Calls.mono HSp0.out ?_
  rintro e w1 ⟨SB, cap, rfl, hc1, hc2, b01, hSB1, hSB2, hcell⟩
  have HCe : Hid (∀ w', Below w1.heap.size w1 w' → ∀ j u, ws[j]? = some u → w'.cell? ⟨SB, j, none⟩ = some (.string u)) := fun w' h j u hu => (h.cell (p := ⟨SB, j, none⟩) hSB2).trans (hcell j u hu)
  have B01 : Hid (Below w.heap.size w w1) := b01
  clear hcell HSp0 b01
  go_wp2_with fail
  go_loopw [7, 8, 16] (fun lv nv iv wr => ∃ (i n : Nat) (done : List RecT) (xs : List Value), i ≤ N ∧ done.length ≤ most ∧ n ≤ i * 60000 ∧ iv = .int .i64 i ∧ nv = .int .i64 n ∧ Hid (linesP most s.data.toList = (done ++ (readL (most - done.length) (PP.drop i)).1, n + (readL (most - done.length) (PP.drop i)).2.1, (readL (most - done.length) (PP.drop i)).2.2)) ∧ Hid (wr.ownsRow w1.heap.size 38 5 lv done.length xs) ∧ Hid (XsR lv.ownBlock wr xs done) ∧ Hid (Below w1.heap.size w1 wr)) (fun _ _ iv _ => N - (intOf iv).toNat)
  case atStart => exact ⟨0, 0, [], [], by omega, by simp, by omega, rfl, rfl, by unfold Hid; rw [HLP.out]; simp, ⟨rfl, .inl ⟨rfl, rfl⟩⟩, ⟨rfl, (fun u hu => by cases hu), (fun i r hr => by simp at hr)⟩, Below.refl _ _⟩
  case round =>
    obtain ⟨i, n, done, xs, hi, hd, hn, rfl, rfl, HQ, HO, HX, HB⟩ := hrel
    obtain ⟨wo, hwo⟩ : ∃ x, x = wr := ⟨_, rfl⟩
    subst hwo
    have i0 : (0 : Int) ≤ (i : Int) := by omega
    have hos := HB.out.size
    obtain ⟨va, vc, ev, hvc, hvm, -⟩ := ownsRow_caps HO.out
    subst ev
    have HBw : Hid (Below w.heap.size w wo) := Below.thenOf B01.out HB.out B01.out.size
    by_cases hlt : i < N
    · have i1 : (i : Int) < (N : Int) := by omega
      obtain ⟨u, hu⟩ : ∃ u, ws[i]? = some u := ⟨ws[i]'(by rw [HN.out]; omega), by simp⟩
      have hus := HSz.out u (List.mem_of_getElem? hu)
      have HDr : Hid (PP.drop i = u.data.toList :: PP.drop (i + 1)) := by
        unfold Hid
        have hlen : i < PP.length := by rw [HPP.out, List.length_map, HN.out]; exact hlt
        rw [List.drop_eq_getElem_cons hlen]
        congr 1
        have : PP[i]? = some u.data.toList := by rw [HPP.out, List.getElem?_map, hu]; rfl
        rw [List.getElem?_eq_getElem hlen] at this
        exact Option.some.inj this
      have x0 := HCe.out wo HB.out i u hu
      have hSBo : SB < wo.heap.size := by omega
      have HLen : Hid (u.data.toList.length = u.size) := (Lib.size_eq u).symm
      by_cases hz : u.size = 0
      · have hu0 : u = ⟨#[]⟩ := by
          apply ByteArray.ext
          apply Array.eq_empty_of_size_eq_zero
          exact hz
        subst hu0
        have HR : Hid (linesP most s.data.toList = (done, n, 0)) := by
          unfold Hid
          rw [HQ.out, HDr.out]
          rw [show ((⟨#[]⟩ : ByteArray).data.toList) = [] from rfl, readL_empty]
          simp
        have HFn : Hid (RecsAt wo.heap.size wo (.slice va done.length vc) done) := recsAt_own HO.out HX.out
        clear HQ HDr HO HX hz hus hu HLen
        generalize done.length = dl at *
        go_wp2_with fail
        go_ret3
        exact ⟨_, by rw [HR.out]; rfl, by rw [HR.out]; exact HFn.out, HBw.out⟩
      · have hne : u.data.toList ≠ [] := fun e => hz (by rw [← HLen.out, e]; rfl)
        have hq1 : (u.toList == []) = false := by rw [Lib.toList_data]; simpa using hne
        have hq2 : ¬ u.toList = [] := by rw [Lib.toList_data]; exact hne
        have HHs : Hid (Calls Tryz.prog 124 #[.string u, .string ⟨#[10]⟩] wo fun e w' => e = .returned (.bool (decide (u.data.toList.getLast? = some 10))) ∧ w' = wo) := by
          have h := Tryz.strings_HasSuffix u ⟨#[10]⟩ wo (by omega)
          rw [show ((⟨#[10]⟩ : ByteArray).data.toList) = [10] from rfl, suffix_nl] at h
          exact h
        have HNe : Hid (u.data.toList ≠ []) := hne
        clear hne
        by_cases hnl : u.data.toList.getLast? = some 10
        case neg =>
          rw [decide_eq_false hnl] at HHs
          have HR : Hid (linesP most s.data.toList = (done, n, 8)) := by
            unfold Hid
            rw [HQ.out, HDr.out, readL_torn _ _ HNe.out hnl]
            simp
          have HFn : Hid (RecsAt wo.heap.size wo (.slice va done.length vc) done) := recsAt_own HO.out HX.out
          clear HQ HDr HO HX hu hnl HLen
          generalize done.length = dl at *
          go_wp2_with fail
          go_at_call 124
          refine Calls.mono HHs.out ?_
          rintro e w2 ⟨rfl, rfl⟩
          go_wp2_with fail
          go_ret3
          exact ⟨_, by rw [HR.out]; rfl, by rw [HR.out]; exact HFn.out, HBw.out⟩
        case pos =>
          rw [decide_eq_true hnl] at HHs
          obtain ⟨k, hk⟩ : ∃ k, k + 1 = u.size := ⟨u.size - 1, by omega⟩
          have hdl := dropLast_extract u k hk
          have HRd : Hid (∀ w', Below w.heap.size w w' → Calls Tryz.prog 20 #[.string (u.extract 0 k)] w' fun e w'' => ∃ v, e = .returned (.tuple #[v, .int .i64 (recOf u.data.toList.dropLast).2]) ∧ RecNew w'.heap.size w'' v (recOf u.data.toList.dropLast).1 ∧ Below w'.heap.size w' w'') := fun w' h => by
            have hle : (u.extract 0 k).size ≤ 60000 := by
              rw [Lib.size_eq, hdl, List.length_dropLast]
              have := HLen.out
              omega
            have := recRead_new (u.extract 0 k) hle w' (HE.out w' h)
            rw [hdl] at this
            exact this
          have hsub : (u.size : Int) - 1 = (k : Int) := by omega
          have hk0 : (0 : Int) ≤ (k : Int) := by omega
          have hkl : (k : Int) ≤ (u.size : Int) := by omega
          obtain ⟨uu, huu⟩ : ∃ uu, uu = u.extract 0 k := ⟨_, rfl⟩
          have hsl : ∀ w', (Instr.slice 9 (.string u) none (some (.int .i64 (k : Int))) none).run Tryz.prog w' = .ok (.string uu) w' := fun w' => by
            rw [huu]
            go_simp
          rw [← huu] at HRd
          have HBad : Hid (¬ (recOf u.data.toList.dropLast).2 = 0 → linesP most s.data.toList = (done, n, (recOf u.data.toList.dropLast).2)) := fun he => by
            rw [HQ.out, HDr.out, readL_bad _ _ HNe.out hnl he]
            simp
          have HMany : Hid ((recOf u.data.toList.dropLast).2 = 0 → most = done.length → linesP most s.data.toList = (done, n, 2)) := fun he hm => by
            rw [HQ.out, HDr.out, hm, Nat.sub_self, readL_many _ HNe.out hnl he]
            simp
          have HMore : Hid ((recOf u.data.toList.dropLast).2 = 0 → done.length < most → linesP most s.data.toList = ((done ++ [(recOf u.data.toList.dropLast).1]) ++ (readL (most - (done ++ [(recOf u.data.toList.dropLast).1]).length) (PP.drop (i + 1))).1, (n + u.size) + (readL (most - (done ++ [(recOf u.data.toList.dropLast).1]).length) (PP.drop (i + 1))).2.1, (readL (most - (done ++ [(recOf u.data.toList.dropLast).1]).length) (PP.drop (i + 1))).2.2)) := fun he hm => by
            rw [HQ.out, HDr.out, show most - done.length = (most - (done ++ [(recOf u.data.toList.dropLast).1]).length) + 1 by simp; omega, readL_more _ _ HNe.out hnl he, HLen.out]
            simp
            omega
          obtain ⟨RR, hRR⟩ : ∃ RR, RR = recOf u.data.toList.dropLast := ⟨_, rfl⟩
          rw [← hRR] at HRd HBad HMany HMore
          clear hRR hdl huu HQ HDr hnl HNe hu hk
          obtain ⟨⟨x1, x2, x3, xr, x4⟩, E⟩ := RR
          simp only [] at HRd HBad HMany HMore
          obtain ⟨dl, hdl⟩ : ∃ dl, dl = done.length := ⟨_, rfl⟩
          have HDl : Hid (done.length = dl) := hdl.symm
          rw [← hdl] at HO HX hvc hd HMany HMore ⊢
          clear hdl
          go_wp2_with fail
          go_at_call 124
          refine Calls.mono HHs.out ?_
          rintro e w2' ⟨rfl, hw2⟩
          rw [hw2]
          clear hw2
          go_wp2_with fail
          go_at_call 20
          refine Calls.mono (HRd.out _ HBw.out) ?_
          rintro e w2 ⟨v2, rfl, hv2, hb2⟩
          obtain ⟨ra, rc, er, -⟩ := hv2.at.shape
          subst er
          simp only [] at hv2 ⊢
          obtain ⟨rn, hrn⟩ : ∃ rn, rn = xr.length := ⟨_, rfl⟩
          rw [← hrn] at hv2 ⊢
          have hs2 := hb2.size
          obtain ⟨W3, hW3⟩ : ∃ W3, W3 = w2.alloc (.cells #[.int .i64 x1, .int .i64 x2, .int .i64 x3, .slice ra rn rc, .int .i64 x4] 38) := ⟨_, rfl⟩
          have hb3 : Below w2.heap.size w2 W3 := by rw [hW3]; exact (Below.refl _ _).alloc (Nat.le_refl _) _
          have hbo3 : Below wo.heap.size wo W3 := Below.thenOf hb2 hb3 hb2.size
          have HO3 : Hid (W3.ownsRow w1.heap.size 38 5 (.slice va dl vc) dl xs) := ownsRow_below HO.out hbo3
          have HX3 : Hid (XsR (Value.slice va dl vc).ownBlock W3 xs done) := HX.out.later hbo3
          have HR3 : Hid (RecKept (Value.slice va dl vc).ownBlock W3 (.agg #[.int .i64 x1, .int .i64 x2, .int .i64 x3, .slice ra rn rc, .int .i64 x4]) (x1, x2, x3, xr, x4)) := RecKept.of_new (recNew_later hv2 hb3) fun k hk => by
            obtain ⟨cur, hc⟩ := ownsRow_tag HO.out k hk
            exact lt_of_block hc
          have HB3 : Hid (Below w1.heap.size w1 W3) := Below.thenOf HB.out hbo3 hos
          have HBw3 : Hid (Below w.heap.size w W3) := Below.thenOf B01.out HB3.out B01.out.size
          have g3 : W3.heap[w2.heap.size]? = some (.cells #[.int .i64 x1, .int .i64 x2, .int .i64 x3, .slice ra rn rc, .int .i64 x4] 38 (0, 0)) := by rw [hW3]; exact heap_made _ _
          obtain ⟨g0, g1, g2, g3', g4⟩ := rec_box g3
          have hs3 : w1.heap.size ≤ W3.heap.size := HB3.out.size
          have hs3e : W3.heap.size = w2.heap.size + 1 := by rw [hW3]; simp
          have HW3 : Hid (W3 = _) := hW3
          have HRet : Hid (RecsAt W3.heap.size W3 (.slice va dl vc) done) := recsAt_own (by rw [HDl.out]; exact HO3.out) HX3.out
          clear hW3 hb3 hbo3 hv2 hrn g3 hb2 hs2 HO HX HB x0 hsl HRd HHs
          by_cases hE : E = 0
          case neg =>
            have hqE : (E == 0) = false := by simpa using hE
            have hqE' : (E != 0) = true := by simpa using hE
            have HR : Hid (linesP most s.data.toList = (done, n, E)) := HBad.out hE
            clear hE HBad HMany HMore
            go_wp2_with fail
            rw [← HW3.out]
            go_ret3
            exact ⟨_, by rw [HR.out]; rfl, by rw [HR.out]; exact HRet.out, HBw3.out⟩
          case pos =>
            subst hE
            by_cases hfull : most = dl
            · have HR : Hid (linesP most s.data.toList = (done, n, 2)) := HMany.out rfl hfull
              have hge : (most : Int) ≤ (dl : Int) := by omega
              clear HBad HMany HMore
              go_wp2_with fail
              rw [← HW3.out]
              go_ret3
              exact ⟨_, by rw [HR.out]; rfl, by rw [HR.out]; exact HRet.out, HBw3.out⟩
            · have hlt' : dl < most := by omega
              have hge : ¬ ((most : Int) ≤ (dl : Int)) := by omega
              have HQ' : Hid _ := HMore.out rfl hlt'
              obtain ⟨hwn, hwi, hA1', hA2, hN1', hN2', hN3'⟩ := lineNum hn hlt hl1 hus (by omega : dl ≤ 40) hlt'
              have HA : Hid (dl + 1 ≤ maxLen ∧ (dl + 1) * 56 ≤ 140737488355328 ∧ w1.heap.size ≤ W3.heap.size) := ⟨by rw [hml]; exact hA1', hA2, hs3⟩
              have HNum : Hid (i + 1 ≤ N ∧ n + u.size ≤ (i + 1) * 60000 ∧ dl + 1 ≤ most ∧ i < N) := ⟨hN1', hN2', hN3', hlt⟩
              clear hA1' hN1' hN2' hN3' hA2 hs3
              clear HBad HMany HMore hsub hk0 hkl hq1 hq2 hz hn hd hvc hvm hus hlt' hm40 hl1 hc1 hc2 hSB1 hSB2 hSBo hos hs60 hi hlt hml
              go_wp2_with (first
                | (at_builtin; rw [← HW3.out]; go_must (refine wpList_appN _ rfl _ _ rfl Tryz.underlying53 hi1 hi2 hi3 hi4 rfl (by decide) w1.heap.size _ _ _ rfl _ 1 [.int .i64 x1, .int .i64 x2, .int .i64 x3, .slice ra rn rc, .int .i64 x4] rfl W3 rfl (by first | rfl | omega) W3 (Below.refl _ _) HO3.out rfl (by simp [Value.oneCell']) HA.out.1 HA.out.2.1 HA.out.2.2 ?_; intro v9 w9 HO9 hb9 hg9 hf9; have HB9 : Hid _ := hb9; clear hb9)))
              obtain ⟨hN1, hN2, hN3, hN4⟩ := HNum.out
              refine ⟨⟨i + 1, n + u.size, done ++ [(x1, x2, x3, xr, x4)], xs ++ [.int .i64 x1, .int .i64 x2, .int .i64 x3, .slice ra rn rc, .int .i64 x4], hN1, by rw [List.length_append, HDl.out]; exact hN3, hN2, by go_num, by simp, HQ', ?_, ?_, HB3.out.trans HB9.out⟩, by simp [intOf]; exact lineStep hN4⟩
              · unfold Hid
                rw [List.length_append, HDl.out]
                exact HO9.out
              · exact (HX3.out.snoc (r := (x1, x2, x3, xr, x4)) HR3.out).grown hg9.out hf9.out
    · have e : i = N := by omega
      subst e
      have HR : Hid (linesP most s.data.toList = (done, n, 0)) := by
        unfold Hid
        have : PP.drop i = [] := List.drop_of_length_le (by rw [HPP.out, List.length_map, HN.out]; exact Nat.le_refl _)
        rw [HQ.out, this, readL_nil]
        simp
      have HFn : Hid (RecsAt wo.heap.size wo (.slice va done.length vc) done) := recsAt_own HO.out HX.out
      have i1 : ¬ ((i : Int) < (i : Int)) := by omega
      clear HQ HO HX
      generalize done.length = dl at *
      go_wp2_with fail
      go_ret3
      exact ⟨_, by rw [HR.out]; rfl, by rw [HR.out]; exact HFn.out, HBw.out⟩
end Go.Proofs.YtdfcfinjoghipacGreatDoor
end
