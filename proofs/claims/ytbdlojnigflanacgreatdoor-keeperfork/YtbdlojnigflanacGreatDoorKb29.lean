/- Joined: PtD0 Cpt0 PtD1 PtD2. -/
import Derived.Test.YtbdlojnigflanacGreatDoorKb28
import Derived.Lib.SlicesCompact
import Derived.Test.YtbdlojnigflanacGreatDoorKb02
import Derived.Maps.AppendAt
import Derived.Lib.OwnBridge
import Derived.Lib.RowBridge
import Derived.Great.BuildSlice
section
/- What package point answers: plain data. -/
set_option linter.all false
namespace Go.Proofs.YtbdlojnigflanacGreatDoor

end Go.Proofs.YtbdlojnigflanacGreatDoor
end
section
/- Cuts as package point gathers them, points as it spreads them, homes as it searches them: plain facts. -/
set_option linter.all false
namespace Go.Proofs.YtbdlojnigflanacGreatDoor

/-! What is left of a sorted list where neighbours that are the same are made one. -/
theorem compactUpTo_sorted (d : Array Int) (n : Nat) (hd : ∀ a b, a ≤ b → b < n → d[a]! ≤ d[b]!) : ∀ m, m ≤ n → Rising (Lib.compactUpTo d m) ∧ ∀ x, x ∈ Lib.compactUpTo d m ↔ ∃ j, j < m ∧ d[j]! = x
  | 0, _ => ⟨List.Pairwise.nil, fun x => ⟨fun h => by simp [Lib.compactUpTo] at h, fun ⟨j, hj, _⟩ => by omega⟩⟩
  | m + 1, hm => by
    obtain ⟨h1, h2⟩ := compactUpTo_sorted d n hd m (by omega)
    rw [Lib.compactUpTo_succ]
    by_cases hk : Lib.keeps d m = true
    · rw [if_pos hk]
      refine ⟨List.pairwise_append.2 ⟨h1, List.pairwise_singleton _ _, fun a ha b hb => ?_⟩, fun x => ?_⟩
      · obtain ⟨j, hj, rfl⟩ := (h2 a).1 ha
        rw [List.mem_singleton] at hb
        subst hb
        have hne : d[m]! ≠ d[m - 1]! := by
          simp [Lib.keeps] at hk
          rcases hk with h | h
          · omega
          · exact h
        have a1 := hd j (m - 1) (by omega) (by omega)
        have a2 := hd (m - 1) m (by omega) (by omega)
        omega
      · rw [List.mem_append, h2, List.mem_singleton]
        constructor
        · rintro (⟨j, hj, h⟩ | h)
          · exact ⟨j, by omega, h⟩
          · exact ⟨m, by omega, h.symm⟩
        · rintro ⟨j, hj, h⟩
          by_cases e : j = m
          · subst e; exact .inr h.symm
          · exact .inl ⟨j, by omega, h⟩
    · rw [if_neg hk, List.append_nil]
      refine ⟨h1, fun x => ?_⟩
      rw [h2]
      have h3 : m ≠ 0 ∧ d[m]! = d[m - 1]! := by
        simp [Lib.keeps] at hk
        exact hk
      constructor
      · rintro ⟨j, hj, h⟩
        exact ⟨j, by omega, h⟩
      · rintro ⟨j, hj, h⟩
        by_cases e : j = m
        · subst e
          exact ⟨j - 1, by omega, by rw [← h3.2]; exact h⟩
        · exact ⟨j, by omega, h⟩
theorem compact_sorted (zs : List Int) (h : zs.Pairwise (· ≤ ·)) : Rising (Lib.compact zs) ∧ ∀ x, x ∈ Lib.compact zs ↔ x ∈ zs := by
  have hd : ∀ a b, a ≤ b → b < zs.length → zs.toArray[a]! ≤ zs.toArray[b]! := by
    intro a b hab hb
    have e : ∀ i, (hi : i < zs.length) → zs.toArray[i]! = zs[i] := fun i hi => by simp [getElem!_pos, hi]
    rw [e a (by omega), e b hb]
    by_cases e' : a = b
    · subst e'; exact Int.le_refl _
    · exact List.pairwise_iff_getElem.1 h a b (by omega) hb (by omega)
  obtain ⟨h1, h2⟩ := compactUpTo_sorted zs.toArray zs.length hd zs.length (Nat.le_refl _)
  refine ⟨h1, fun x => (h2 x).trans ⟨?_, ?_⟩⟩
  · rintro ⟨j, hj, rfl⟩
    have e : zs.toArray[j]! = zs[j] := by simp [getElem!_pos, hj]
    rw [e]
    exact List.getElem_mem _
  · intro hx
    obtain ⟨j, hj, rfl⟩ := List.getElem_of_mem hx
    exact ⟨j, hj, by simp [getElem!_pos, hj]⟩
theorem merged_sorted (xs : List Int) : (xs.mergeSort fun x y => decide (x ≤ y)).Pairwise (· ≤ ·) :=
  (List.pairwise_mergeSort (le := fun x y : Int => decide (x ≤ y)) (fun a b c => by simp only [decide_eq_true_eq]; omega) (fun a b => by simp only [Bool.or_eq_true, decide_eq_true_eq]; omega) xs).imp fun h => by simpa using h

/-! What is gathered. -/
def condCutsD (f : Int) (c : CondT) : List Int := if c.1 = f then (if (c.2.1 = 1 ∨ c.2.1 = 2) ∧ c.2.2 < most f then [c.2.2, c.2.2 + 1] else [c.2.2]) else []
def gathD (f : Int) (cs : List CondT) : List Int := 0 :: cs.flatMap (condCutsD f)
theorem gathD_snoc (f : Int) (cs : List CondT) (c : CondT) : gathD f (cs ++ [c]) = gathD f cs ++ condCutsD f c := by simp [gathD]
theorem condCutsD_len (f : Int) (c : CondT) : (condCutsD f c).length ≤ 2 := by
  unfold condCutsD
  split
  · split <;> simp
  · simp
theorem gathD_len (f : Int) : ∀ cs : List CondT, (gathD f cs).length ≤ 2 * cs.length + 1
  | [] => by simp [gathD]
  | c :: cs => by
    have h1 := gathD_len f cs
    have h2 := condCutsD_len f c
    unfold gathD at h1 ⊢
    simp only [List.length_cons, List.flatMap_cons, List.length_append] at h1 ⊢
    omega
theorem mem_gathD {ps : List PolT} (h : AllOk ps) (f n : Int) : n ∈ gathD f (polsConds ps) ↔ n ∈ cutsP ps f := by
  rw [mem_cutsP]
  unfold gathD
  rw [List.mem_cons, List.mem_flatMap]
  constructor
  · rintro (rfl | ⟨c, hc, hn⟩)
    · exact ⟨.inl rfl, most_nn f⟩
    · have hv := (condErr_ok (conds_ok h c hc)).2.2
      unfold condCutsD at hn
      split at hn
      · rename_i hf
        rw [hf] at hv
        split at hn
        · rename_i ho
          simp at hn
          rcases hn with rfl | rfl
          · exact ⟨.inr ⟨c, hc, hf, .inl rfl⟩, hv.2⟩
          · exact ⟨.inr ⟨c, hc, hf, .inr ⟨rfl, ho.1⟩⟩, by omega⟩
        · simp at hn
          subst hn
          exact ⟨.inr ⟨c, hc, hf, .inl rfl⟩, hv.2⟩
      · simp at hn
  · rintro ⟨rfl | ⟨c, hc, hf, hn⟩, hm⟩
    · exact .inl rfl
    · refine .inr ⟨c, hc, ?_⟩
      unfold condCutsD
      rw [if_pos hf]
      rcases hn with rfl | ⟨rfl, ho⟩
      · split <;> simp
      · rw [if_pos ⟨ho, by omega⟩]
        simp
theorem gathered_cuts {ps : List PolT} (h : AllOk ps) (f : Int) : Lib.compact ((gathD f (polsConds ps)).mergeSort fun x y => decide (x ≤ y)) = cutsP ps f := by
  obtain ⟨h1, h2⟩ := compact_sorted _ (merged_sorted (gathD f (polsConds ps)))
  refine rising_ext _ _ h1 (cutsP_rising ps f) fun x => ?_
  rw [h2, List.mem_mergeSort, mem_gathD h]

/-! Points, field by field. -/
theorem prodL_snoc (L : List Int) : ∀ Ls : List (List Int), prodL (Ls ++ [L]) = (prodL Ls).flatMap fun x => L.map fun c => x ++ [c]
  | [] => by
    show L.flatMap (fun a => [[a]]) = [[]].flatMap fun x => L.map fun c => x ++ [c]
    simp
    induction L with
    | nil => rfl
    | cons a L ih => simp [ih]
  | M :: Ls => by
    rw [List.cons_append, prodL_cons, prodL_cons, prodL_snoc L Ls, List.flatMap_assoc]
    congr 1
    funext a
    rw [List.map_flatMap, List.flatMap_map]
    congr 1
    funext x
    simp
def padC (x : List Int) : List Int := x ++ List.replicate (5 - x.length) 0
/-- The points of the first k fields, all other fields 0. -/
def ptsK (ps : List PolT) (k : Nat) : List (List Int) := (prodL ((cuts5 ps).take k)).map padC
theorem prodL_five : ∀ (Ls : List (List Int)) (x : List Int), x ∈ prodL Ls → x.length = Ls.length
  | [], x, h => by
    have : x = [] := by simpa [prodL] using h
    subst this; rfl
  | L :: Ls, x, h => by
    rw [prodL_cons, List.mem_flatMap] at h
    obtain ⟨a, _, h⟩ := h
    obtain ⟨y, hy, rfl⟩ := List.mem_map.1 h
    simp [prodL_five Ls y hy]
theorem padC_len (x : List Int) (h : x.length ≤ 5) : (padC x).length = 5 := by unfold padC; simp; omega
theorem padC_set (x : List Int) (c : Int) (h : x.length < 5) : (padC x).set x.length c = padC (x ++ [c]) := by
  unfold padC
  obtain ⟨m, hm⟩ : ∃ m, 5 - x.length = m + 1 := ⟨5 - x.length - 1, by omega⟩
  rw [hm, List.set_append_right _ _ (Nat.le_refl _), Nat.sub_self, List.replicate_succ, List.set_cons_zero]
  rw [show 5 - (x ++ [c]).length = m by simp; omega]
  simp
theorem ptsK_zero (ps : List PolT) : ptsK ps 0 = [[0, 0, 0, 0, 0]] := rfl
theorem ptsK_len5 (ps : List PolT) (k : Nat) (hk : k ≤ 5) : ∀ x ∈ ptsK ps k, x.length = 5 := by
  intro x hx
  obtain ⟨y, hy, rfl⟩ := List.mem_map.1 hx
  have := prodL_five _ y hy
  exact padC_len y (by rw [this, List.length_take]; omega)
theorem ptsK_succ (ps : List PolT) (k : Nat) (hk : k < 5) : ptsK ps (k + 1) = (ptsK ps k).flatMap fun x => (cutsP ps k).map fun c => x.set k c := by
  unfold ptsK
  have h := cuts5_get ps k hk
  rw [List.take_succ, h]
  show (prodL ((cuts5 ps).take k ++ [cutsP ps k])).map padC = _
  rw [prodL_snoc, List.map_flatMap, List.flatMap_map]
  rw [List.flatMap_def, List.flatMap_def]
  congr 1
  refine List.map_congr_left fun x hx => ?_
  have hl : x.length = k := by
    rw [prodL_five _ x hx, List.length_take, show (cuts5 ps).length = 5 from rfl]
    omega
  rw [List.map_map]
  refine List.map_congr_left fun c _ => ?_
  show padC (x ++ [c]) = (padC x).set k c
  rw [← padC_set x c (by omega), hl]
theorem ptsK_length (ps : List PolT) : ∀ k, k ≤ 5 → (ptsK ps k).length = lenP ps k
  | 0, _ => rfl
  | k + 1, h => by
    rw [ptsK_succ ps k (by omega), length_flatMap_const _ (cutsP ps k).length _ (fun a _ => by simp), ptsK_length ps k (by omega)]
    rfl
theorem ptsK_five (ps : List PolT) : ptsK ps 5 = pointsP ps := by
  unfold ptsK pointsP
  rw [show (cuts5 ps).take 5 = cuts5 ps from rfl]
  refine (List.map_congr_left fun x hx => ?_).trans (List.map_id _)
  have := prodL_five _ x hx
  unfold padC
  rw [this]
  simp [cuts5]

end Go.Proofs.YtbdlojnigflanacGreatDoor
end
section
/- Package point: policies checked, the greatest cut that isn't above searched. -/
set_option linter.all false
set_option maxRecDepth 100000
namespace Go.Proofs.YtbdlojnigflanacGreatDoor
open Go.RowKit Go.Maps

set_option maxHeartbeats 2000000 in
theorem checkAllD_any (B : Nat) (lv : Value) (ps : List PolT) (w : World) (hl : PolsAt B w lv ps) (hB : B ≤ w.heap.size) :
    Calls Tryz.prog 126 #[lv] w fun e w' => e = .returned (.int .i64 (polsErr ps)) ∧ Below w.heap.size w w' := by
  have HL : Hid (∀ w', Below w.heap.size w w' → PolsAt B w' lv ps) := fun w' h => hl.later h hB
  obtain ⟨a, cap, rfl, hlc, hcm, -⟩ := hl
  have hml := maxLen_eq
  generalize hlen : ps.length = len at *
  have hlenH : Hid (ps.length = len) := hlen
  clear hlen
  go_enter Tryz.func126, Tryz.ntmps126
  go_wp2
  go_loopw [8] (fun iv wr => ∃ k : Nat, k ≤ len ∧ iv = .int .i64 k ∧ Hid (polsErr ps = polsErr (ps.drop k)) ∧ Below w.heap.size w wr) (fun iv _ => len - (intOf iv).toNat)
  case atStart => exact ⟨0, by omega, rfl, rfl, Below.refl _ _⟩
  case round =>
    obtain ⟨k, hk, rfl, H, hbr⟩ := hrel
    obtain ⟨wo, hwo⟩ : ∃ x, x = wr := ⟨_, rfl⟩
    subst hwo
    have i0 : (0 : Int) ≤ (k : Int) := by omega
    have hos := hbr.size
    by_cases hlt : k < len
    · have i1 : (k : Int) < (len : Int) := by omega
      obtain ⟨p, hpk⟩ : ∃ p, ps[k]? = some p := ⟨ps[k]'(by rw [hlenH.out]; omega), by simp⟩
      have S : Hid (polsErr (ps.drop k) = if polErr p = 0 then polsErr (ps.drop (k + 1)) else polErr p) := polsErr_drop ps k p hpk
      obtain ⟨_, _, e1, -, -, hat⟩ := HL.out _ hbr
      obtain ⟨b, o, e, hbB, hpc⟩ := hat k p hpk
      simp at e1
      obtain ⟨rfl, -, -⟩ := e1
      subst e
      clear hat
      obtain ⟨a2, n2, c2, k0, k1, hpa⟩ := hpc.pol
      have HPA : Hid (∀ w', Below wo.heap.size wo w' → Calls Tryz.prog 61 #[.agg #[.slice a2 n2 c2, .int .i64 p.2]] w' fun e w'' => e = .returned (.int .i64 (polErr p)) ∧ Below w'.heap.size w' w'') := fun w' h => check_pol B _ p w' (hpa.later h (Nat.le_trans hB hos)) (Nat.le_trans hB (Nat.le_trans hos h.size))
      clear hpc hpa
      by_cases he : polErr p = 0
      · rw [he] at HPA
        have S' : Hid (polsErr ps = polsErr (ps.drop (k + 1))) := by unfold Hid; rw [H.out, S.out, if_pos he]
        clear he S
        go_wp2_with (first | (go_at_call 61; go_must (refine Calls.mono (HPA.out _ ((Below.refl _ _).alloc (Nat.le_refl _) _)) ?_; rintro e w2 ⟨rfl, hb2⟩)))
        exact ⟨⟨k + 1, by omega, by go_num, S', Below.thenOf (hbr.alloc hos _) hb2 (by simp; omega)⟩, by simp [intOf]; omega⟩
      · have S' : Hid (polsErr ps = polErr p) := by unfold Hid; rw [H.out, S.out, if_neg he]
        have hq : (polErr p != 0) = true := by simpa using he
        clear he S
        generalize polErr p = pe at *
        go_wp2_with (first | (go_at_call 61; go_must (refine Calls.mono (HPA.out _ ((Below.refl _ _).alloc (Nat.le_refl _) _)) ?_; rintro e w2 ⟨rfl, hb2⟩)))
        go_ret
        exact ⟨by rw [S'.out]; rfl, Below.thenOf (hbr.alloc hos _) hb2 (by simp; omega)⟩
    · go_wp2
      go_ret
      exact ⟨by rw [H.out, List.drop_eq_nil_of_le (by rw [hlenH.out]; omega)]; rfl, hbr⟩

end Go.Proofs.YtbdlojnigflanacGreatDoor
end
section
/- Package point: what is gathered of all conditions. -/
set_option linter.all false
set_option maxRecDepth 100000
namespace Go.Proofs.YtbdlojnigflanacGreatDoor
open Go.RowKit Go.Maps

/-- A literal, appended to a row of one's own: and where the row lies behind it. -/
theorem wpList_appH {P : Program} {t e : TypeId} {inf : TypeInfo} {z : Value} {size bytes : Nat} {ops : Array Oper} {rest : List Oper} {o : Oper} {a : Act} {Q : Exit → Act → World → Prop} (w : World) (hgd : o.guard = none) (s x : Operand)
    (hop : o.op = .call { callee := .builtin .append, args := #[s, x], argTypes := #[t, t] })
    (ht : P.underlying t = some (.slice e)) (hi : P.info? e = some inf) (hz : inf.zero = some z) (hsize : inf.size = size) (hby : inf.bytes = bytes) (hzs : z.cells.size = size) (hsz : 0 < size)
    (base : Nat) (v : Value) (n : Nat) (xs : List Value) (hs : a.eval s = v) (g m : Nat) (news : List Value) (hx : a.eval x = .slice (some ⟨g, 0, none⟩) m m)
    (W : World) {T0 : TypeId} (hw : w = W.alloc (.cells news.toArray T0)) (hg : g = W.heap.size) (wo : World) (hb : Below wo.heap.size wo W) (hown : wo.ownsRow base e size v n xs) (hl : news.length = m * size) (h1 : ∀ u ∈ news, u.oneCell' = true) (hm : n + m ≤ maxLen) (hn : (n + m) * bytes ≤ 140737488355328) (hbase : base ≤ wo.heap.size)
    (h : ∀ v' w', Hid (w'.ownsRow base e size v' (n + m) (xs ++ news)) → Below base wo w' → Hid (wo.grownBy w' v.ownBlock) → Hid (v'.ownBlock = v.ownBlock ∨ ∃ k, v'.ownBlock = some k ∧ wo.heap.size ≤ k) → wpList P ops Q rest (a.put o.dst v') w') : wpList P ops Q (o :: rest) a w := by
  subst hw
  subst hg
  have hbX : Below wo.heap.size wo (W.alloc (.cells news.toArray T0)) := hb.alloc hb.size _
  obtain ⟨v', W', r1, r2, r3, _, r5⟩ := run_append_own_at (P := P) (W.alloc (.cells news.toArray T0)) base t o.type e inf z size bytes ht hi hz hsize hby hzs hsz v n xs (ownsRow_below hown hbX) ⟨W.heap.size, 0, none⟩ m m news hl (fun j u hj => by rw [add_at, Nat.zero_add]; exact heap_cell (heap_made W _) j (by simpa using hj)) h1 hm hn (Nat.le_trans hbase hbX.size)
  have hG : wo.grownBy W' v.ownBlock := World.grownBy.andThen (grown_of_below hbX v.ownBlock) r3 fun j hj => .inr hj
  refine Lib.wpList_append_run _ hgd s x _ _ hop _ _ hs hx _ _ r1 (h v' W' r2 ((Below.refl _ _).grown hG hbase fun k hk => ownsRow_ge hown k hk) hG ?_)
  rcases r5 with e | e
  · exact .inl e
  · exact .inr ⟨_, e, hbX.size⟩

/-- A store into a box of one cell. -/
theorem wpList_put {P : Program} {ops : Array Oper} {rest : List Oper} {o : Oper} {a : Act} {w : World} {Q : Exit → Act → World → Prop} (hgd : o.guard = none) (ty : TypeId) (x y : Operand) (ho : o.op = .store ty x y)
    (g : Nat) (hx : a.eval x = .pointer (some ⟨g, 0, none⟩)) (v : Value) (hy : a.eval y = v) (h1 : v.oneCell' = true) (t : TypeId) (old : Value) (hg : w.heap[g]? = some (.cells #[old] t (0, 0))) (hi : (P.info? ty).map (·.size) = some 1)
    (h : ∀ w', w'.heap[g]? = some (.cells #[v] t (0, 0)) → w.grownBy w' (some g) → wpList P ops Q rest (a.put o.dst undef) w') : wpList P ops Q (o :: rest) a w := by
  subst hy
  refine wpList_store_one hgd ty x y ho g hx h1 t old hg hi (h _ ?_ ?_)
  · have hlt := lt_of_block hg
    simp [World.setRow, Array.getElem?_modify, hg]
  · refine ⟨rfl, rfl, rfl, by simp [World.setRow], fun k hk hne => ?_⟩
    have : g ≠ k := fun e => hne (by rw [e])
    simp [World.setRow, Array.getElem?_modify, this]

/-- What stands while it is gathered: the boxes of the field, of the numbers and of the greatest one, and the row. -/
def GaV (B0 bf bc bm : Nat) (f : Int) (xs : List Int) (vs : Value) (w : World) : Prop :=
  w.heap[bf]? = some (.cells #[.int .i64 f] 3 (0, 0)) ∧ w.heap[bm]? = some (.cells #[.int .i64 (most f)] 3 (0, 0)) ∧
  w.heap[bc]? = some (.cells #[vs] 162 (0, 0)) ∧ w.ownsRow B0 3 1 vs xs.length (intCells xs) ∧ vs.ownBlock ≠ some bf ∧ vs.ownBlock ≠ some bm
def GaS (B0 bf bc bm : Nat) (f : Int) (xs : List Int) (w : World) : Prop := ∃ vs, GaV B0 bf bc bm f xs vs w
theorem GaV.later {B0 bf bc bm : Nat} {f : Int} {xs : List Int} {vs : Value} {w w' : World} (h : GaV B0 bf bc bm f xs vs w) (hb : Below w.heap.size w w') : GaV B0 bf bc bm f xs vs w' := by
  obtain ⟨h1, h2, h3, h4, h5, h6⟩ := h
  exact ⟨(hb.block bf (lt_of_block h1)).trans h1, (hb.block bm (lt_of_block h2)).trans h2, (hb.block bc (lt_of_block h3)).trans h3, ownsRow_below h4 hb, h5, h6⟩
theorem GaS.later {B0 bf bc bm : Nat} {f : Int} {xs : List Int} {w w' : World} (h : GaS B0 bf bc bm f xs w) (hb : Below w.heap.size w w') : GaS B0 bf bc bm f xs w' := by
  obtain ⟨vs, hv⟩ := h
  exact ⟨vs, hv.later hb⟩
/-- One more: the row has grown, and lies in the box. -/
theorem GaV.put {B0 bf bc bm : Nat} {f : Int} {xs : List Int} {x : Int} {w w6 : World} {vs v6 : Value} (h : GaV B0 bf bc bm f xs vs w) (hbc0 : B0 ≤ bc) (hB0 : B0 ≤ w.heap.size)
    (hg : w.grownBy w6 vs.ownBlock) (ho : w6.ownsRow B0 3 1 v6 (xs.length + 1) (intCells xs ++ [.int .i64 x])) (hv : v6.ownBlock = vs.ownBlock ∨ ∃ k, v6.ownBlock = some k ∧ w.heap.size ≤ k) :
    w6.heap[bc]? = some (.cells #[vs] 162 (0, 0)) ∧ ∀ w7, w7.heap[bc]? = some (.cells #[v6] 162 (0, 0)) → w6.grownBy w7 (some bc) → GaV B0 bf bc bm f (xs ++ [x]) v6 w7 ∧ Below B0 w w7 ∧ ∀ (b : Nat) (cur : Array Value) (T : TypeId), T ≠ 3 → T ≠ 162 → w.heap[b]? = some (.cells cur T (0, 0)) → w7.heap[b]? = some (.cells cur T (0, 0)) := by
  obtain ⟨h1, h2, h3, h4, h5, h6⟩ := h
  have hbc : w6.heap[bc]? = some (.cells #[vs] 162 (0, 0)) := by
    refine (hg.block bc (lt_of_block h3) fun e => ?_).trans h3
    obtain ⟨cur, hc⟩ := ownsRow_tag h4 bc e.symm
    rw [h3] at hc
    cases hc
  have hbf : w6.heap[bf]? = some (.cells #[.int .i64 f] 3 (0, 0)) := (hg.block bf (lt_of_block h1) fun e => h5 e.symm).trans h1
  have hbm : w6.heap[bm]? = some (.cells #[.int .i64 (most f)] 3 (0, 0)) := (hg.block bm (lt_of_block h2) fun e => h6 e.symm).trans h2
  have n1 : bf ≠ bc := fun e => by subst e; rw [h3] at h1; cases h1
  have n2 : bm ≠ bc := fun e => by subst e; rw [h3] at h2; cases h2
  have hs6 := hg.size
  refine ⟨hbc, fun w7 h7 hg7 => ⟨⟨(hg7.block bf (lt_of_block hbf) fun e => n1 (Option.some.inj e)).trans hbf, (hg7.block bm (lt_of_block hbm) fun e => n2 (Option.some.inj e)).trans hbm, h7, ?_, ?_, ?_⟩, ?_, ?_⟩⟩
  · have := ownsRow_block (w' := w7) ho fun g cur _ hgc => hg7.block g (lt_of_block hgc) fun e => by
      cases e
      rw [hbc] at hgc
      cases hgc
    simpa [intCells] using this
  · rcases hv with e | ⟨k, e, hk⟩
    · rw [e]; exact h5
    · rw [e]; have := lt_of_block h1; intro h; cases h; omega
  · rcases hv with e | ⟨k, e, hk⟩
    · rw [e]; exact h6
    · rw [e]; have := lt_of_block h2; intro h; cases h; omega
  · exact ((Below.refl B0 w).grown hg hB0 fun k hk => ownsRow_ge h4 k hk).grown hg7 (by omega) fun k hk => by cases hk; exact hbc0
  · intro b cur T hT1 hT2 hb
    have hb6 : w6.heap[b]? = some (.cells cur T (0, 0)) := by
      refine (hg.block b (lt_of_block hb) fun e => ?_).trans hb
      obtain ⟨cur', hc⟩ := ownsRow_tag h4 b e.symm
      rw [hb] at hc
      cases hc
      exact hT1 rfl
    refine (hg7.block b (lt_of_block hb6) fun e => ?_).trans hb6
    cases e
    rw [hbc] at hb6
    cases hb6
    exact hT2 rfl

set_option maxHeartbeats 8000000 in
/-- What cutsOf does with a condition. -/
theorem gather_any (B0 bf bc bm : Nat) (f : Int) (c : CondT) (xs : List Int) (w : World) (hG : GaS B0 bf bc bm f xs w) (hc : condErr c = 0) (hbc : B0 ≤ bc) (hB0 : B0 ≤ w.heap.size) (hx : xs.length ≤ 13000000000000) :
    Calls Tryz.prog 168 #[condV c, .pointer (some ⟨bf, 0, none⟩), .pointer (some ⟨bc, 0, none⟩), .pointer (some ⟨bm, 0, none⟩)] w fun e w' => e = .returned (.tuple #[]) ∧ GaS B0 bf bc bm f (xs ++ condCutsD f c) w' ∧ Below B0 w w' := by
  obtain ⟨inf, hi1, hi2, hi3, hi4⟩ := infoInt
  obtain ⟨⟨f0, f5⟩, ⟨o1, o4⟩, ⟨v0, vm⟩⟩ := condErr_ok hc
  have vm' := most_le c.1
  obtain ⟨fc, op, v⟩ := c
  simp only [] at f0 f5 o1 o4 v0 vm vm'
  have hml := maxLen_eq
  show Calls Tryz.prog 168 #[.agg #[.int .i64 fc, .int .i64 op, .int .i64 v], .pointer (some ⟨bf, 0, none⟩), .pointer (some ⟨bc, 0, none⟩), .pointer (some ⟨bm, 0, none⟩)] w _
  have hb5 : Below w.heap.size w (w.alloc (.cells #[.int .i64 fc, .int .i64 op, .int .i64 v] 99)) := (Below.refl _ _).alloc (Nat.le_refl _) _
  obtain ⟨vs, hG⟩ := hG
  have hG5 := hG.later hb5
  have hC5 : (w.alloc (.cells #[.int .i64 fc, .int .i64 op, .int .i64 v] 99)).heap[w.heap.size]? = some (.cells #[.int .i64 fc, .int .i64 op, .int .i64 v] 99 (0, 0)) := heap_made _ _
  have hsz5 : B0 ≤ (w.alloc (.cells #[.int .i64 fc, .int .i64 op, .int .i64 v] 99)).heap.size := by simp; omega
  obtain ⟨va, vc, rfl, hvc, hvm, -⟩ := ownsRow_caps hG.2.2.2.1
  have x0 := heap_cell hC5 0 rfl
  have x1 := heap_cell hC5 1 rfl
  have x2 := heap_cell hC5 2 rfl
  have y0 := heap_cell hG5.1 0 rfl
  have y1 := heap_cell hG5.2.1 0 rfl
  have y2 := heap_cell hG5.2.2.1 0 rfl
  have HG : Hid (GaV B0 bf bc bm f xs (.slice va xs.length vc) (w.alloc (.cells #[.int .i64 fc, .int .i64 op, .int .i64 v] 99))) := hG5
  have HC : Hid _ := hC5
  have hbb : Hid (Below B0 w _) := hb5.mono hB0
  clear hG hG5 hC5 hb5
  by_cases hfc : fc = f
  · subst hfc
    have hq : (fc != fc) = false := by simp
    have hw1 : IntKind.i64.wrap (v + 1) = v + 1 := IntWalk.i64_in _ (by omega)
    generalize hmf : most fc = mf at y1 vm vm'
    have hmH : Hid (most fc = mf) := hmf
    clear hmf
    by_cases hsp : (op = 1 ∨ op = 2) ∧ v < mf
    · have HE : Hid (condCutsD fc (fc, op, v) = [v, v + 1]) := by unfold Hid condCutsD; rw [if_pos rfl, hmH.out, if_pos hsp]
      have hlt : v < mf := hsp.2
      have tok1 : True := trivial
      have hop1 : (op == 1) = decide (op = 1) := rfl
      clear hop1
      rcases hsp.1 with rfl | rfl
      all_goals
        clear hsp
        go_enter Tryz.func168, Tryz.ntmps168
        go_wp2_with (first
          | (at_builtin; have _t := tok1; go_must (refine wpList_appH _ rfl _ _ rfl Tryz.underlying162 hi1 hi2 hi3 hi4 rfl (by decide) B0 _ _ _ rfl _ 1 [.int .i64 v] rfl _ rfl (by simp) _ (Below.refl _ _) HG.out.2.2.2.1 rfl (by simp [Value.oneCell']) (by omega) (by omega) hsz5 ?_; intro v6 w6 hO6 hb6 hg6 hv6; have hput := GaV.put (x := v) HG.out hbc hsz5 hg6.out hO6.out hv6.out; obtain ⟨pc, pG⟩ := hput; obtain ⟨b6, c6, e6, h6c, h6m, -⟩ := ownsRow_caps hO6.out; subst e6; refine wpList_put rfl _ _ _ rfl bc rfl _ rfl rfl 162 _ pc (by kernel_rfl) ?_; intro w7 h7 hg7; obtain ⟨k1, k2, k3⟩ := pG w7 h7 hg7; have hC7 := k3 _ _ _ (by decide) (by decide) HC.out; have t1 := heap_cell hC7 1 rfl; have t2 := heap_cell hC7 2 rfl; have u1 := heap_cell k1.2.1 0 rfl; rw [hmH.out] at u1; have u2 := heap_cell h7 0 rfl; have hsz7 := k2.size; have K1 : Hid _ := k1; have K2 : Hid _ := hbb.out.trans k2; have K3 : Hid (B0 ≤ w7.heap.size) := Nat.le_trans hsz5 hsz7; clear tok1 k1 k2 k3 pG pc hg6 hO6 hv6 h7 hg7 hC7 hb6 hsz7))
          | (at_builtin; go_must (refine wpList_appH _ rfl _ _ rfl Tryz.underlying162 hi1 hi2 hi3 hi4 rfl (by decide) B0 _ _ _ rfl _ 1 [.int .i64 (v + 1)] rfl _ rfl (by simp) _ (Below.refl _ _) K1.out.2.2.2.1 rfl (by simp [Value.oneCell']) (by simp; omega) (by simp; omega) K3.out ?_; intro v8 w8 hO8 hb8 hg8 hv8; have hput := GaV.put (x := v + 1) K1.out hbc K3.out hg8.out hO8.out hv8.out; obtain ⟨pc, pG⟩ := hput; obtain ⟨b8, c8, e8, -⟩ := ownsRow_caps hO8.out; subst e8; refine wpList_put rfl _ _ _ rfl bc rfl _ rfl rfl 162 _ pc (by kernel_rfl) ?_; intro w9 h9 hg9; obtain ⟨m1, m2, -⟩ := pG w9 h9 hg9; have M1 : Hid _ := m1; have M2 : Hid _ := K2.out.trans m2; clear m1 m2 pG pc hg8 hO8 hv8 h9 hg9 hb8)))
        go_end0
        refine ⟨rfl, ?_, M2.out⟩
        rw [HE.out, show xs ++ [v, v + 1] = xs ++ [v] ++ [v + 1] by simp]
        exact ⟨_, M1.out⟩
    · have HE : Hid (condCutsD fc (fc, op, v) = [v]) := by unfold Hid condCutsD; rw [if_pos rfl, hmH.out, if_neg hsp]
      have tok1 : True := trivial
      have hD : ((op = 1 ∨ op = 2) ∧ ¬ v < mf) ∨ (¬ op = 1 ∧ ¬ op = 2) := by omega
      clear hsp
      rcases hD with ⟨hD, hlt⟩ | ⟨ha, hb⟩
      · rcases hD with rfl | rfl
        all_goals
          go_enter Tryz.func168, Tryz.ntmps168
          go_wp2_with (first
            | (at_builtin; have _t := tok1; go_must (refine wpList_appH _ rfl _ _ rfl Tryz.underlying162 hi1 hi2 hi3 hi4 rfl (by decide) B0 _ _ _ rfl _ 1 [.int .i64 v] rfl _ rfl (by simp) _ (Below.refl _ _) HG.out.2.2.2.1 rfl (by simp [Value.oneCell']) (by omega) (by omega) hsz5 ?_; intro v6 w6 hO6 hb6 hg6 hv6; have hput := GaV.put (x := v) HG.out hbc hsz5 hg6.out hO6.out hv6.out; obtain ⟨pc, pG⟩ := hput; obtain ⟨b6, c6, e6, h6c, h6m, -⟩ := ownsRow_caps hO6.out; subst e6; refine wpList_put rfl _ _ _ rfl bc rfl _ rfl rfl 162 _ pc (by kernel_rfl) ?_; intro w7 h7 hg7; obtain ⟨k1, k2, k3⟩ := pG w7 h7 hg7; have hC7 := k3 _ _ _ (by decide) (by decide) HC.out; have t1 := heap_cell hC7 1 rfl; have t2 := heap_cell hC7 2 rfl; have u1 := heap_cell k1.2.1 0 rfl; rw [hmH.out] at u1; have K1 : Hid _ := k1; have K2 : Hid _ := hbb.out.trans k2; clear tok1 k1 k2 k3 pG pc hg6 hO6 hv6 h7 hg7 hC7 hb6)))
          go_end0
          refine ⟨rfl, ?_, K2.out⟩
          rw [HE.out]
          exact ⟨_, K1.out⟩
      · have q1 : (op == 1) = false := by simpa using ha
        have q2 : (op == 2) = false := by simpa using hb
        clear ha hb
        go_enter Tryz.func168, Tryz.ntmps168
        go_wp2_with (first
          | (at_builtin; have _t := tok1; go_must (refine wpList_appH _ rfl _ _ rfl Tryz.underlying162 hi1 hi2 hi3 hi4 rfl (by decide) B0 _ _ _ rfl _ 1 [.int .i64 v] rfl _ rfl (by simp) _ (Below.refl _ _) HG.out.2.2.2.1 rfl (by simp [Value.oneCell']) (by omega) (by omega) hsz5 ?_; intro v6 w6 hO6 hb6 hg6 hv6; have hput := GaV.put (x := v) HG.out hbc hsz5 hg6.out hO6.out hv6.out; obtain ⟨pc, pG⟩ := hput; obtain ⟨b6, c6, e6, h6c, h6m, -⟩ := ownsRow_caps hO6.out; subst e6; refine wpList_put rfl _ _ _ rfl bc rfl _ rfl rfl 162 _ pc (by kernel_rfl) ?_; intro w7 h7 hg7; obtain ⟨k1, k2, k3⟩ := pG w7 h7 hg7; have hC7 := k3 _ _ _ (by decide) (by decide) HC.out; have t1 := heap_cell hC7 1 rfl; have t2 := heap_cell hC7 2 rfl; have u1 := heap_cell k1.2.1 0 rfl; rw [hmH.out] at u1; have K1 : Hid _ := k1; have K2 : Hid _ := hbb.out.trans k2; clear tok1 k1 k2 k3 pG pc hg6 hO6 hv6 h7 hg7 hC7 hb6)))
        go_end0
        refine ⟨rfl, ?_, K2.out⟩
        rw [HE.out]
        exact ⟨_, K1.out⟩
  · have hq : (fc != f) = true := by simpa using hfc
    have HE : Hid (condCutsD f (fc, op, v) = []) := by unfold Hid condCutsD; rw [if_neg hfc]
    clear hfc
    go_enter Tryz.func168, Tryz.ntmps168
    go_wp2
    refine bodyPost_ret (results_none rfl _ _ _) rfl ?_
    refine ⟨rfl, ?_, hbb.out⟩
    rw [HE.out, List.append_nil]
    exact ⟨_, HG.out⟩

end Go.Proofs.YtbdlojnigflanacGreatDoor
end
