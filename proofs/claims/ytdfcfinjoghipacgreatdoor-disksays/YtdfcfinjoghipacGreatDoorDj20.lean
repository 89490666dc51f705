/- Joined: Nte4 Nte5 Nte6. -/
import Derived.Test.YtdfcfinjoghipacGreatDoorDj11
import Derived.Test.YtdfcfinjoghipacGreatDoorDj18
import Derived.Test.YtdfcfinjoghipacGreatDoorDj19
section
/- What the counterpart's RecRead stands on: a text parted at two blanks, the map of kinds, its refusal. -/
set_option linter.all false
set_option maxRecDepth 100000
namespace Go.Proofs.YtdfcfinjoghipacGreatDoor
open Go.RowKit Go.Maps

theorem splitK_cut (k : Nat) (s : Bs) : Lib.splitK [32] 0 (k + 1) s = match cutSp s with | none => [s] | some (a, t) => a :: Lib.splitK [32] 0 k t := by
  cases h : cutSp s with
  | none =>
    have := index_miss 32 s (cutSp_none h)
    unfold Lib.splitK
    rw [this]
    rfl
  | some x =>
    obtain ⟨a, t⟩ := x
    obtain ⟨rfl, hn⟩ := cutSp_some h
    have := index_hit 32 t a hn
    conv => lhs; unfold Lib.splitK
    rw [this, if_neg (by simp)]
    simp
theorem splitK_three (s : Bs) : Lib.splitK [32] 0 2 s = split3 s := by
  rw [splitK_cut]
  unfold split3
  cases h : cutSp s with
  | none => rfl
  | some x =>
    obtain ⟨a, t⟩ := x
    simp only
    rw [splitK_cut]
    cases h2 : cutSp t with
    | none => rfl
    | some y => obtain ⟨b, u⟩ := y; rfl
theorem splitN_three (s : Bs) : Lib.splitK [32] 0 (min 3 (s.length + 1) - 1) s = split3 s := by
  match s with
  | [] => rfl
  | [b] =>
    show Lib.splitK [32] 0 1 [b] = _
    rw [splitK_cut]
    unfold split3
    by_cases hb : b = 32
    · subst hb
      rfl
    · have : cutSp [b] = none := cutSp_miss [b] (by simp; exact fun e => hb e.symm)
      rw [this]
  | b :: c :: s =>
    rw [show min 3 ((b :: c :: s).length + 1) - 1 = 2 by simp]
    exact splitK_three _
/-- strings.SplitN at a blank, into three at most. -/
theorem words3_any (t : ByteArray) (ht : t.size ≤ 60000) : ∃ ws : List ByteArray, ws.map (fun p : ByteArray => p.data.toList) = split3 t.data.toList ∧ 1 ≤ ws.length ∧ ws.length ≤ 3 ∧ (∀ u ∈ ws, u.size ≤ 60000) ∧
    ∀ mm w, w.cell? ⟨3, 0, none⟩ = some (.int .i64 mm) → Calls Tryz.prog 68 #[.string t, .string ⟨#[32]⟩, .int .i64 3] w fun e w' => ∃ SB cap, e = .returned (.slice (some ⟨SB, 0, none⟩) ws.length cap) ∧ ws.length ≤ cap ∧ cap ≤ 3 ∧ Below w.heap.size w w' ∧ w.heap.size ≤ SB ∧ SB < w'.heap.size ∧ ∀ j u, ws[j]? = some u → w'.cell? ⟨SB, j, none⟩ = some (.string u) := by
  obtain ⟨ws, hws⟩ : ∃ ws, ws = Lib.splitB ⟨#[32]⟩ 0 (min 3 (t.size + 1) - 1) t := ⟨_, rfl⟩
  have hmap : ws.map (fun p : ByteArray => p.data.toList) = split3 t.data.toList := by
    rw [hws, Lib.splitB_data]
    have := splitN_three t.data.toList
    rw [← Lib.size_eq] at this
    exact this
  have hlen : ws.length = (split3 t.data.toList).length := by rw [← hmap]; simp
  have h3 : 1 ≤ ws.length ∧ ws.length ≤ 3 ∧ ∀ p ∈ split3 t.data.toList, p.length ≤ t.size := by
    rw [hlen, Lib.size_eq]
    rcases split3_join (s := t.data.toList) with ⟨a, e, es⟩ | ⟨a, b, e, es⟩ | ⟨a, b, c, e, es⟩
    · rw [e, es]; simp
    · rw [e]
      refine ⟨by simp, by simp, fun p hp => ?_⟩
      rw [es]
      simp at hp ⊢
      rcases hp with rfl | rfl <;> omega
    · rw [e]
      refine ⟨by simp, by simp, fun p hp => ?_⟩
      rw [es]
      simp at hp ⊢
      rcases hp with rfl | rfl | rfl <;> omega
  refine ⟨ws, hmap, h3.1, h3.2.1, fun u hu => ?_, fun mm w hm => ?_⟩
  · have : u.data.toList ∈ split3 t.data.toList := by rw [← hmap]; exact List.mem_map_of_mem hu
    have := h3.2.2 _ this
    rw [Lib.size_eq]
    omega
  · refine (Tryz.strings_SplitN t ⟨#[32]⟩ 3 mm w (by omega) hm (by decide) (by decide) (by decide)).mono fun e w' ⟨h1, h2⟩ => ?_
    subst h1 h2
    have hle : ws.length ≤ min 3 (t.size + 1) := by
      rw [hws]
      have := Lib.splitB_length_le ⟨#[32]⟩ 0 (min 3 (t.size + 1) - 1) t
      omega
    refine ⟨w.heap.size, min 3 (t.size + 1), by rw [hws], hle, by omega, (Below.refl _ _).alloc (Nat.le_refl _) _, Nat.le_refl _, by simp, fun j u hu => ?_⟩
    refine heap_cell (heap_made w _) j ?_
    rw [← hws]
    unfold Lib.cellsOf
    rw [List.getElem?_toArray, List.getElem?_append_left (by simp; exact (List.getElem?_eq_some_iff.1 hu).1), List.getElem?_map, hu]
    rfl
/-- The map of kinds. -/
def D4 : DataW Unit := ((((DataW.map []).put (.string [111, 112, 101, 110]) (.lit (.int .i64 1))).put (.string [116, 105, 103, 104, 116]) (.lit (.int .i64 2))).put (.string [102, 111, 114, 107]) (.lit (.int .i64 3))).put (.string [115, 104, 117, 116]) (.lit (.int .i64 4))
theorem D4_putAll : D4 = putAll kN 1 (.map []) := rfl
theorem D4_says (l : Bs) : D4.atKey (.string l) zed = .lit (.int .i64 (1 + idxL kN l)) := by
  by_cases h : 0 ≤ idxL kN l
  · obtain ⟨-, h2⟩ := putAll_idx l kN 1 (.map []) Maps.isMap_empty (by decide) h
    rw [D4_putAll, h2]
    rfl
  · obtain ⟨-, h2⟩ := putAll_miss l kN 1 (.map []) (idxL_mem _ _ (by omega))
    have := idxL_ge kN l
    rw [D4_putAll, h2, show idxL kN l = -1 by omega]
    rfl
set_option maxHeartbeats 1000000 in
theorem badR_any (e : Int) (w : World) : Calls Tryz.prog 67 #[.int .i64 e] w fun r w' => r = .returned (.tuple #[.agg #[.int .i64 0, .int .i64 0, .int .i64 0, .slice none 0 0, .int .i64 0], .int .i64 e]) ∧ Below w.heap.size w w' := by
  have hb : Below w.heap.size w (w.alloc (.cells #[.int .i64 0, .int .i64 0, .int .i64 0, .slice none 0 0, .int .i64 0] 38)) := (Below.refl _ _).alloc (Nat.le_refl _) _
  have h0 := heap_made w (.cells #[.int .i64 0, .int .i64 0, .int .i64 0, .slice none 0 0, .int .i64 0] 38)
  go_enter Tryz.func67, Tryz.ntmps67
  go_wp2
  obtain ⟨z0, z1, z2, z3, z4⟩ := rec_box h0
  refine bodyPost_ret (v := .tuple #[.agg #[.int .i64 0, .int .i64 0, .int .i64 0, .slice none 0 0, .int .i64 0], .int .i64 e]) ?_ rfl ⟨rfl, hb⟩
  rw [results_cell_tmp rfl]
  go_simp

end Go.Proofs.YtdfcfinjoghipacGreatDoor
end
section
/- The counterpart's RecRead, at a text that has no kind, or not as many words as its kind wants: refused. -/
set_option linter.all false
set_option maxRecDepth 100000
namespace Go.Proofs.YtdfcfinjoghipacGreatDoor
open Go.RowKit Go.Maps

set_option maxHeartbeats 4000000 in
theorem recRead_bad (s : ByteArray) (hs60 : s.size ≤ 60000) (w : World) (he : EnvT w) (hbad : idxL kN ((split3 s.data.toList).getD 0 []) < 0 ∨ (idxL kN ((split3 s.data.toList).getD 0 []) = 3 ∧ (split3 s.data.toList).length ≠ 2) ∨ (idxL kN ((split3 s.data.toList).getD 0 []) < 3 ∧ (split3 s.data.toList).length ≠ 3)) :
    Calls Tryz.prog 20 #[.string s] w fun e w' => e = .returned (.tuple #[.agg #[.int .i64 0, .int .i64 0, .int .i64 0, .slice none 0 0, .int .i64 0], .int .i64 1]) ∧ Below w.heap.size w w' := by
  have hmm := @run_makeMap Tryz.prog
  have HE : Hid (∀ w', Below w.heap.size w w' → EnvT w') := fun w' h => he.later h
  clear he
  obtain ⟨ws, hmap, hl1, hl3, hsz, HSp⟩ := words3_any s hs60
  have HM : Hid (ws.map (fun p : ByteArray => p.data.toList) = split3 s.data.toList) := hmap
  have HSz : Hid (∀ u ∈ ws, u.size ≤ 60000) := hsz
  obtain ⟨u0, hu0⟩ : ∃ u, ws[0]? = some u := ⟨ws[0]'(by omega), by simp⟩
  have h0z : u0.size ≤ 60000 := hsz u0 (List.mem_of_getElem? hu0)
  have hw0 : (split3 s.data.toList).getD 0 [] = u0.data.toList := by
    rw [← hmap, List.getD_eq_getElem?_getD, List.getElem?_map, hu0]
    rfl
  obtain ⟨W0, hW0⟩ : ∃ W0, W0 = w.alloc (.cells #[.int .i64 0, .int .i64 0, .int .i64 0, .slice none 0 0, .int .i64 0] 38) := ⟨_, rfl⟩
  have g0 : W0.heap[w.heap.size]? = some (.cells #[.int .i64 0, .int .i64 0, .int .i64 0, .slice none 0 0, .int .i64 0] 38 (0, 0)) := by rw [hW0]; exact heap_made _ _
  have bw0 : Below w.heap.size w W0 := by rw [hW0]; exact (Below.refl _ _).alloc (Nat.le_refl _) _
  have HG : Hid (∀ w', Below W0.heap.size W0 w' → w'.heap[w.heap.size]? = some (.cells #[.int .i64 0, .int .i64 0, .int .i64 0, .slice none 0 0, .int .i64 0] 38 (0, 0)) ∧ Below w.heap.size w w') := fun w' h => ⟨(h.block _ (lt_of_block g0)).trans g0, Below.thenOf bw0 h bw0.size⟩
  obtain ⟨mm, hm⟩ := (HE.out W0 bw0).1
  have HSp0 : Hid _ := HSp mm W0 hm
  have HW : Hid (W0 = _) := hW0
  have Hu0 : Hid (ws[0]? = some u0 ∧ (split3 s.data.toList).getD 0 [] = u0.data.toList ∧ u0.size ≤ 60000) := ⟨hu0, hw0, h0z⟩
  clear hW0 g0 bw0 hmap hsz HSp hm hu0 hw0
  have hwlen : (split3 s.data.toList).length = ws.length := by rw [← HM.out]; simp
  rw [Hu0.out.2.1, hwlen] at hbad
  generalize hwl : ws.length = wl at *
  have HWL : Hid (ws.length = wl) := hwl
  obtain ⟨kd, hkd⟩ : ∃ kd, kd = 1 + idxL kN u0.data.toList := ⟨_, rfl⟩
  have hk1 := idxL_ge kN u0.data.toList
  have hk2 := idxL_lt kN u0.data.toList
  have hk3 : kN.length = 4 := rfl
  rw [hk3] at hk2
  have hcases : (kd = 0) ∨ (kd = 4 ∧ wl = 1) ∨ (kd = 4 ∧ wl = 3) ∨ (kd = 1 ∧ wl = 1) ∨ (kd = 1 ∧ wl = 2) ∨ (kd = 2 ∧ wl = 1) ∨ (kd = 2 ∧ wl = 2) ∨ (kd = 3 ∧ wl = 1) ∨ (kd = 3 ∧ wl = 2) := by omega
  have HKd : Hid (1 + idxL kN u0.data.toList = kd) := hkd.symm
  clear hwl hwlen hbad hkd hk1 hk2 hk3
  go_enter Tryz.func20, Tryz.ntmps20
  go_wp2_with fail
  rw [← HW.out]
  go_at_call 68
  refine Calls.mono HSp0.out ?_
  rintro e w1 ⟨SB, cap, rfl, hc1, hc2, b01, hSB1, hSB2, hcell⟩
  have x0 := hcell 0 u0 Hu0.out.1
  have HCe : Hid (∀ j u, ws[j]? = some u → w1.cell? ⟨SB, j, none⟩ = some (.string u)) := hcell
  have hm0 := World.ownsMap_made (H := Unit) w1 Tryz.prog 9 (plainElem Tryz.prog 3)
  have i0 : (0 : Int) < (wl : Int) := by omega
  have hu0m : Hid (u0.size ≤ maxLen) := by unfold Hid; have := maxLen_eq; omega
  clear hcell HSp0 HW
  rcases hcases with rfl | ⟨rfl, rfl⟩ | ⟨rfl, rfl⟩ | ⟨rfl, rfl⟩ | ⟨rfl, rfl⟩ | ⟨rfl, rfl⟩ | ⟨rfl, rfl⟩ | ⟨rfl, rfl⟩ | ⟨rfl, rfl⟩
  all_goals
    go_wp2_with (first
      | (refine wpList_insert_own _ rfl _ _ _ 106 rfl 9 3 keyStr Tryz.underlying106 (plainElem Tryz.prog 3) w1.heap.size 0 _ rfl hm0 (by decide) _ _ _ rfl rfl (Go.WideMaps.keyOf_string_mk Tryz.underlying9 (by decide)) _ [] (plainElem_int Tryz.underlying3 (by decide)) ?_; go_must (intro w2 hown2 hg2; clear hm0; have HB := ((Below.refl w1.heap.size w1).alloc (Nat.le_refl _) _).grown hg2 (by simp) (fun k hk => by cases hk; exact Nat.le_refl _)))
      | (refine wpList_insert_own _ rfl _ _ _ 106 rfl 9 3 keyStr Tryz.underlying106 (plainElem Tryz.prog 3) w1.heap.size 1 _ rfl hown2 (by decide) _ _ _ rfl rfl (Go.WideMaps.keyOf_string_mk Tryz.underlying9 (by decide)) _ [] (plainElem_int Tryz.underlying3 (by decide)) ?_; go_must (intro w3 hown3 hg3; clear hown2; replace HB := HB.grown hg3 HB.size (fun k hk => by cases hk; exact Nat.le_refl _)))
      | (refine wpList_insert_own _ rfl _ _ _ 106 rfl 9 3 keyStr Tryz.underlying106 (plainElem Tryz.prog 3) w1.heap.size 2 _ rfl hown3 (by decide) _ _ _ rfl rfl (Go.WideMaps.keyOf_string_mk Tryz.underlying9 (by decide)) _ [] (plainElem_int Tryz.underlying3 (by decide)) ?_; go_must (intro w4 hown4 hg4; clear hown3; replace HB := HB.grown hg4 HB.size (fun k hk => by cases hk; exact Nat.le_refl _)))
      | (refine wpList_insert_own _ rfl _ _ _ 106 rfl 9 3 keyStr Tryz.underlying106 (plainElem Tryz.prog 3) w1.heap.size 3 _ rfl hown4 (by decide) _ _ _ rfl rfl (Go.WideMaps.keyOf_string_mk Tryz.underlying9 (by decide)) _ [] (plainElem_int Tryz.underlying3 (by decide)) ?_; go_must (intro w5 hown5 hg5; clear hown4; replace HB := HB.grown hg5 HB.size (fun k hk => by cases hk; exact Nat.le_refl _); have x5 := (HB.cell (p := ⟨SB, 0, none⟩) hSB2).trans x0; have hs5 := HB.size; obtain ⟨c', hlk, h2, _⟩ := hown5.lookup_int keyStr Tryz.underlying106 Tryz.underlying3 (zero3 _) (Go.WideMaps.keyOf_string_mk (s := u0) Tryz.underlying9 hu0m.out); have hc' := (lit_inj (h2.symm.trans (D4_says _))).trans HKd.out; rw [hc'] at hlk; clear h2 hc')))
    go_at_call 67
    refine Calls.mono (badR_any 1 _) ?_
    rintro e w6 ⟨rfl, b56⟩
    have b16 : Below w1.heap.size w1 w6 := Below.thenOf HB b56 HB.size
    have b06 : Below W0.heap.size W0 w6 := Below.thenOf b01 b16 b01.size
    obtain ⟨g6, bw6⟩ := HG.out w6 b06
    have l6 := lt_of_block g6
    obtain ⟨z0, z1, z2, z3, z4⟩ := rec_box g6
    have f0 : w6.frozen? ⟨w.heap.size, 0, none⟩ = false := by simp [World.frozen?, g6]
    have f1 : w6.frozen? ⟨w.heap.size, 1, none⟩ = false := by simp [World.frozen?, g6]
    have f2 : w6.frozen? ⟨w.heap.size, 2, none⟩ = false := by simp [World.frozen?, g6]
    have f3 : w6.frozen? ⟨w.heap.size, 3, none⟩ = false := by simp [World.frozen?, g6]
    have f4 : w6.frozen? ⟨w.heap.size, 4, none⟩ = false := by simp [World.frozen?, g6]
    have Bw6 : Hid (Below w.heap.size w w6) := bw6
    clear g6 bw6 b06 b16 b56 HB hown5 hlk x5 x0 b01
    go_wp2_with fail
    refine bodyPost_ret (v := .tuple #[.agg #[.int .i64 0, .int .i64 0, .int .i64 0, .slice none 0 0, .int .i64 0], .int .i64 1]) ?_ rfl ⟨rfl, ?_⟩
    · rw [results_cell_tmp rfl]
      go_simp
    · exact ((((Bw6.out.setCell (p := ⟨w.heap.size, 0, none⟩) (Nat.le_refl _) _).setCell (p := ⟨w.heap.size, 1, none⟩) (Nat.le_refl _) _).setCell (p := ⟨w.heap.size, 2, none⟩) (Nat.le_refl _) _).setCell (p := ⟨w.heap.size, 3, none⟩) (Nat.le_refl _) _).setCell (p := ⟨w.heap.size, 4, none⟩) (Nat.le_refl _) _

end Go.Proofs.YtdfcfinjoghipacGreatDoor
end
section
/- The counterpart's RecRead, at a text of kind shut. -/
set_option linter.all false
set_option maxRecDepth 100000
namespace Go.Proofs.YtdfcfinjoghipacGreatDoor
open Go.RowKit Go.Maps

set_option maxHeartbeats 4000000 in
theorem recRead_shut (s : ByteArray) (hs60 : s.size ≤ 60000) (w : World) (he : EnvT w) (hk : idxL kN ((split3 s.data.toList).getD 0 []) = 3) (hn : (split3 s.data.toList).length = 2) :
    Calls Tryz.prog 20 #[.string s] w fun e w' => ∃ v, e = .returned (.tuple #[v, .int .i64 (recOf s.data.toList).2]) ∧ RecNew w.heap.size w' v (recOf s.data.toList).1 ∧ Below w.heap.size w w' := by
  have hmm := @run_makeMap Tryz.prog
  have HE : Hid (∀ w', Below w.heap.size w w' → EnvT w') := fun w' h => he.later h
  clear he
  obtain ⟨ws, hmap, hl1, hl3, hsz, HSp⟩ := words3_any s hs60
  have HM : Hid (ws.map (fun p : ByteArray => p.data.toList) = split3 s.data.toList) := hmap
  have HSz : Hid (∀ u ∈ ws, u.size ≤ 60000) := hsz
  obtain ⟨u0, hu0⟩ : ∃ u, ws[0]? = some u := ⟨ws[0]'(by omega), by simp⟩
  have h0z : u0.size ≤ 60000 := hsz u0 (List.mem_of_getElem? hu0)
  have hw0 : (split3 s.data.toList).getD 0 [] = u0.data.toList := by
    rw [← hmap, List.getD_eq_getElem?_getD, List.getElem?_map, hu0]
    rfl
  obtain ⟨W0, hW0⟩ : ∃ W0, W0 = w.alloc (.cells #[.int .i64 0, .int .i64 0, .int .i64 0, .slice none 0 0, .int .i64 0] 38) := ⟨_, rfl⟩
  have g0 : W0.heap[w.heap.size]? = some (.cells #[.int .i64 0, .int .i64 0, .int .i64 0, .slice none 0 0, .int .i64 0] 38 (0, 0)) := by rw [hW0]; exact heap_made _ _
  have bw0 : Below w.heap.size w W0 := by rw [hW0]; exact (Below.refl _ _).alloc (Nat.le_refl _) _
  have HG : Hid (∀ w', Below W0.heap.size W0 w' → w'.heap[w.heap.size]? = some (.cells #[.int .i64 0, .int .i64 0, .int .i64 0, .slice none 0 0, .int .i64 0] 38 (0, 0)) ∧ Below w.heap.size w w') := fun w' h => ⟨(h.block _ (lt_of_block g0)).trans g0, Below.thenOf bw0 h bw0.size⟩
  obtain ⟨mm, hm⟩ := (HE.out W0 bw0).1
  have HSp0 : Hid _ := HSp mm W0 hm
  have HW : Hid (W0 = _) := hW0
  have Hu0 : Hid (ws[0]? = some u0 ∧ (split3 s.data.toList).getD 0 [] = u0.data.toList ∧ u0.size ≤ 60000) := ⟨hu0, hw0, h0z⟩
  clear hW0 g0 bw0 hmap hsz HSp hm hu0 hw0
  have hwlen : (split3 s.data.toList).length = ws.length := by rw [← HM.out]; simp
  obtain ⟨u1, hu1⟩ : ∃ u, ws[1]? = some u := ⟨ws[1]'(by omega), by simp⟩
  have h1z : u1.size ≤ 60000 := HSz.out u1 (List.mem_of_getElem? hu1)
  have hw1 : (split3 s.data.toList).getD 1 [] = u1.data.toList := by
    rw [← HM.out, List.getD_eq_getElem?_getD, List.getElem?_map, hu1]
    rfl
  have HKd : Hid (1 + idxL kN u0.data.toList = 4) := by unfold Hid; rw [← Hu0.out.2.1, hk]; rfl
  have HRec : Hid (recOf s.data.toList = match numOf u1.data.toList with | none => (zeroRec, 1) | some c => finRec (4, c, 0, [], 0)) := by
    unfold Hid recOf
    rw [hk, hn, hw1, if_neg (by omega)]
    cases numOf u1.data.toList <;> rfl
  have Hu1 : Hid (ws[1]? = some u1 ∧ u1.size ≤ 60000) := ⟨hu1, h1z⟩
  rw [hwlen] at hn
  rw [hn] at HSp0
  clear hwlen hk hu1 hw1 hl1 hl3
  go_enter Tryz.func20, Tryz.ntmps20
  go_wp2_with fail
  rw [← HW.out]
  go_at_call 68
  refine Calls.mono HSp0.out ?_
  rintro e w1 ⟨SB, cap, rfl, hc1, hc2, b01, hSB1, hSB2, hcell⟩
  have x0 := hcell 0 u0 Hu0.out.1
  have HCe : Hid (∀ j u, ws[j]? = some u → w1.cell? ⟨SB, j, none⟩ = some (.string u)) := hcell
  have hm0 := World.ownsMap_made (H := Unit) w1 Tryz.prog 9 (plainElem Tryz.prog 3)
  have y1 := hcell 1 u1 Hu1.out.1
  have hu0m : Hid (u0.size ≤ maxLen) := by unfold Hid; have := maxLen_eq; omega
  clear hcell HSp0 HW
  go_wp2_with (first
    | (refine wpList_insert_own _ rfl _ _ _ 106 rfl 9 3 keyStr Tryz.underlying106 (plainElem Tryz.prog 3) w1.heap.size 0 _ rfl hm0 (by decide) _ _ _ rfl rfl (Go.WideMaps.keyOf_string_mk Tryz.underlying9 (by decide)) _ [] (plainElem_int Tryz.underlying3 (by decide)) ?_; go_must (intro w2 hown2 hg2; clear hm0; have HB := ((Below.refl w1.heap.size w1).alloc (Nat.le_refl _) _).grown hg2 (by simp) (fun k hk => by cases hk; exact Nat.le_refl _)))
    | (refine wpList_insert_own _ rfl _ _ _ 106 rfl 9 3 keyStr Tryz.underlying106 (plainElem Tryz.prog 3) w1.heap.size 1 _ rfl hown2 (by decide) _ _ _ rfl rfl (Go.WideMaps.keyOf_string_mk Tryz.underlying9 (by decide)) _ [] (plainElem_int Tryz.underlying3 (by decide)) ?_; go_must (intro w3 hown3 hg3; clear hown2; replace HB := HB.grown hg3 HB.size (fun k hk => by cases hk; exact Nat.le_refl _)))
    | (refine wpList_insert_own _ rfl _ _ _ 106 rfl 9 3 keyStr Tryz.underlying106 (plainElem Tryz.prog 3) w1.heap.size 2 _ rfl hown3 (by decide) _ _ _ rfl rfl (Go.WideMaps.keyOf_string_mk Tryz.underlying9 (by decide)) _ [] (plainElem_int Tryz.underlying3 (by decide)) ?_; go_must (intro w4 hown4 hg4; clear hown3; replace HB := HB.grown hg4 HB.size (fun k hk => by cases hk; exact Nat.le_refl _)))
    | (refine wpList_insert_own _ rfl _ _ _ 106 rfl 9 3 keyStr Tryz.underlying106 (plainElem Tryz.prog 3) w1.heap.size 3 _ rfl hown4 (by decide) _ _ _ rfl rfl (Go.WideMaps.keyOf_string_mk Tryz.underlying9 (by decide)) _ [] (plainElem_int Tryz.underlying3 (by decide)) ?_; go_must (intro w5 hown5 hg5; clear hown4; replace HB := HB.grown hg5 HB.size (fun k hk => by cases hk; exact Nat.le_refl _); have x5 := (HB.cell (p := ⟨SB, 0, none⟩) hSB2).trans x0; have y5 := (HB.cell (p := ⟨SB, 1, none⟩) hSB2).trans y1; have hSB5 : SB < w5.heap.size := (Nat.lt_of_lt_of_le hSB2 HB.size); have hs5 := HB.size; obtain ⟨c', hlk, h2, _⟩ := hown5.lookup_int keyStr Tryz.underlying106 Tryz.underlying3 (zero3 _) (Go.WideMaps.keyOf_string_mk (s := u0) Tryz.underlying9 hu0m.out); have hc' := (lit_inj (h2.symm.trans (D4_says _))).trans HKd.out; rw [hc'] at hlk; clear h2 hc')))
  have b05 : Below W0.heap.size W0 w5 := Below.thenOf b01 HB b01.size
  have bw5 := (HG.out w5 b05).2
  have H05 : Hid (W0.heap.size ≤ w5.heap.size) := b05.size
  obtain ⟨W6, hW6⟩ : ∃ W6, W6 = w5.alloc (.cells #[.int .i64 4, .int .i64 0, .int .i64 0, .slice none 0 0, .int .i64 0] 38) := ⟨_, rfl⟩
  have b56 : Below w5.heap.size w5 W6 := by rw [hW6]; exact (Below.refl _ _).alloc (Nat.le_refl _) _
  have b06 : Below W0.heap.size W0 W6 := Below.thenOf b05 b56 b05.size
  have g6 : W6.heap[w5.heap.size]? = some (.cells #[.int .i64 4, .int .i64 0, .int .i64 0, .slice none 0 0, .int .i64 0] 38 (0, 0)) := by rw [hW6]; exact heap_made _ _
  have l6 := lt_of_block g6
  have HR6 : Hid (∀ w', Below W6.heap.size W6 w' → w'.heap[w5.heap.size]? = some (.cells #[.int .i64 4, .int .i64 0, .int .i64 0, .slice none 0 0, .int .i64 0] 38 (0, 0)) ∧ Below W0.heap.size W0 w') := fun w' h => ⟨(h.block _ l6).trans g6, Below.thenOf b06 h b06.size⟩
  have HWh : Hid _ := whole_any u1 (by have := Hu1.out.2; omega) W6 (HE.out W6 (HG.out W6 b06).2)
  rw [← hW6]
  clear hW6 g6 b06 b56 b05 bw5 HB hown5 hlk x5 y5 x0 y1 b01
  go_at_call 69
  refine Calls.mono HWh.out ?_
  rintro e w7 ⟨n, ok, rfl, hnum, hwfn, b67⟩
  obtain ⟨g7, b07⟩ := HR6.out w7 b67
  have l7 := lt_of_block g7
  obtain ⟨q0, q1, q2, q3, q4⟩ := rec_box g7
  have fq : w7.frozen? ⟨w5.heap.size, 1, none⟩ = false := by simp [World.frozen?, g7]
  have hne : ¬ w.heap.size = w5.heap.size := by have := (HG.out w7 b07).1; have := lt_of_block this; intro e; rw [e] at this; have h2 := (HG.out w7 b07).1; rw [e, g7] at h2; simp at h2
  have G7 : Hid (w7.heap[w5.heap.size]? = _) := g7
  have B07 : Hid (Below W0.heap.size W0 w7) := b07
  clear g7 b07 b67 HR6 HWh hSB5
  cases ok with
  | false =>
    have HRes : Hid (recOf s.data.toList = (zeroRec, 1)) := by unfold Hid; rw [HRec.out, hnum]; rfl
    clear hnum
    go_wp2_with fail
    go_at_call 67
    refine Calls.mono (badR_any 1 _) ?_
    rintro e w8 ⟨rfl, b78⟩
    have b0s : Below W0.heap.size W0 (w7.setCell ⟨w5.heap.size, 1, none⟩ (.int .i64 n)) := B07.out.setCell (p := ⟨w5.heap.size, 1, none⟩) H05.out _
    have b0b : Below W0.heap.size W0 w8 := Below.thenOf b0s b78 b0s.size
    clear b0s b78 q0 q1 q2 q3 q4 fq
    obtain ⟨gb, bwb⟩ := HG.out w8 b0b
    have lb := lt_of_block gb
    obtain ⟨z0, z1, z2, z3, z4⟩ := rec_box gb
    have f0 : w8.frozen? ⟨w.heap.size, 0, none⟩ = false := by simp [World.frozen?, gb]
    have f1 : w8.frozen? ⟨w.heap.size, 1, none⟩ = false := by simp [World.frozen?, gb]
    have f2 : w8.frozen? ⟨w.heap.size, 2, none⟩ = false := by simp [World.frozen?, gb]
    have f3 : w8.frozen? ⟨w.heap.size, 3, none⟩ = false := by simp [World.frozen?, gb]
    have f4 : w8.frozen? ⟨w.heap.size, 4, none⟩ = false := by simp [World.frozen?, gb]
    have Bwb : Hid (Below w.heap.size w w8) := bwb
    clear gb bwb b0b
    go_wp2_with fail
    refine bodyPost_ret (v := .tuple #[.agg #[.int .i64 0, .int .i64 0, .int .i64 0, .slice none 0 0, .int .i64 0], .int .i64 1]) ?_ rfl ⟨_, by rw [HRes.out], by rw [HRes.out]; exact recNew_zero _ _, ?_⟩
    · rw [results_cell_tmp rfl]
      go_simp
    · exact ((((Bwb.out.setCell (p := ⟨w.heap.size, 0, none⟩) (Nat.le_refl _) _).setCell (p := ⟨w.heap.size, 1, none⟩) (Nat.le_refl _) _).setCell (p := ⟨w.heap.size, 2, none⟩) (Nat.le_refl _) _).setCell (p := ⟨w.heap.size, 3, none⟩) (Nat.le_refl _) _).setCell (p := ⟨w.heap.size, 4, none⟩) (Nat.le_refl _) _
  | true =>
    have HNum : Hid (recOf s.data.toList = finRec (4, n, 0, [], 0)) := by unfold Hid; rw [HRec.out, hnum]; rfl
    obtain ⟨E, hE⟩ : ∃ E, E = recErr (4, n, 0, [], 0) := ⟨_, rfl⟩
    have HFin : Hid (finRec (4, n, 0, [], 0) = if E = 0 then ((4, n, 0, [], 0), 0) else (zeroRec, E)) := by rw [hE]; rfl
    have hrec : ∀ B W, RecAt B W (.agg #[.int .i64 4, .int .i64 n, .int .i64 0, .slice none 0 0, .int .i64 0]) (4, n, 0, [], 0) := fun B W => ⟨_, rfl, (by unfold wf; decide : wf (4 : Int)), hwfn, (by unfold wf; decide : wf (0 : Int)), polAt_zero B W⟩
    have HRecAt : Hid _ := hrec
    have HCk : Hid (∀ W, Calls Tryz.prog 62 #[.agg #[.int .i64 4, .int .i64 n, .int .i64 0, .slice none 0 0, .int .i64 0]] W fun e w' => e = .returned (.int .i64 E) ∧ Below W.heap.size W w') := fun W => by
      rw [hE]
      exact checkRec_any 0 _ (4, n, 0, [], 0) W (hrec 0 W) (Nat.zero_le _)
    clear hE hrec hnum
    go_wp2_with fail
    go_at_call 62
    refine Calls.mono (HCk.out _) ?_
    rintro e w8 ⟨rfl, b78⟩
    have b0s : Below W0.heap.size W0 (w7.setCell ⟨w5.heap.size, 1, none⟩ (.int .i64 n)) := B07.out.setCell (p := ⟨w5.heap.size, 1, none⟩) H05.out _
    have b08 : Below W0.heap.size W0 w8 := Below.thenOf b0s b78 b0s.size
    have g8 : w8.heap[w5.heap.size]? = some (.cells #[.int .i64 4, .int .i64 n, .int .i64 0, .slice none 0 0, .int .i64 0] 38 (0, 0)) := (b78.block _ (by simp; exact l7)).trans (row_setCell G7.out)
    have l8 := lt_of_block g8
    obtain ⟨r0, r1, r2, r3, r4⟩ := rec_box g8
    have B08 : Hid (Below W0.heap.size W0 w8) := b08
    clear b0s b78 q0 q1 q2 q3 q4 fq G7 b08 g8
    by_cases hE0 : E = 0
    · have HRes : Hid (recOf s.data.toList = ((4, n, 0, [], 0), 0)) := by unfold Hid; rw [HNum.out, HFin.out, if_pos hE0]
      subst hE0
      have b0b := B08.out
      obtain ⟨gb, bwb⟩ := HG.out w8 b0b
      have lb := lt_of_block gb
      obtain ⟨z0, z1, z2, z3, z4⟩ := rec_box gb
      have f0 : w8.frozen? ⟨w.heap.size, 0, none⟩ = false := by simp [World.frozen?, gb]
      have f1 : w8.frozen? ⟨w.heap.size, 1, none⟩ = false := by simp [World.frozen?, gb]
      have f2 : w8.frozen? ⟨w.heap.size, 2, none⟩ = false := by simp [World.frozen?, gb]
      have f3 : w8.frozen? ⟨w.heap.size, 3, none⟩ = false := by simp [World.frozen?, gb]
      have f4 : w8.frozen? ⟨w.heap.size, 4, none⟩ = false := by simp [World.frozen?, gb]
      have Bwb : Hid (Below w.heap.size w w8) := bwb
      clear gb bwb b0b
      go_wp2_with fail
      refine bodyPost_ret (v := .tuple #[.agg #[.int .i64 4, .int .i64 n, .int .i64 0, .slice none 0 0, .int .i64 0], .int .i64 0]) ?_ rfl ⟨_, by rw [HRes.out], by rw [HRes.out]; exact fun _ _ _ => HRecAt.out _ _, ?_⟩
      · rw [results_cell_tmp rfl]
        go_simp
      · exact ((((Bwb.out.setCell (p := ⟨w.heap.size, 0, none⟩) (Nat.le_refl _) _).setCell (p := ⟨w.heap.size, 1, none⟩) (Nat.le_refl _) _).setCell (p := ⟨w.heap.size, 2, none⟩) (Nat.le_refl _) _).setCell (p := ⟨w.heap.size, 3, none⟩) (Nat.le_refl _) _).setCell (p := ⟨w.heap.size, 4, none⟩) (Nat.le_refl _) _
    · have HRes : Hid (recOf s.data.toList = (zeroRec, E)) := by unfold Hid; rw [HNum.out, HFin.out, if_neg hE0]
      have hq : (E != 0) = true := by simpa using hE0
      go_wp2_with fail
      go_at_call 67
      refine Calls.mono (badR_any E _) ?_
      rintro e w9 ⟨rfl, b89⟩
      have b0b : Below W0.heap.size W0 w9 := Below.thenOf B08.out b89 B08.out.size
      clear b89 r0 r1 r2 r3 r4
      obtain ⟨gb, bwb⟩ := HG.out w9 b0b
      have lb := lt_of_block gb
      obtain ⟨z0, z1, z2, z3, z4⟩ := rec_box gb
      have f0 : w9.frozen? ⟨w.heap.size, 0, none⟩ = false := by simp [World.frozen?, gb]
      have f1 : w9.frozen? ⟨w.heap.size, 1, none⟩ = false := by simp [World.frozen?, gb]
      have f2 : w9.frozen? ⟨w.heap.size, 2, none⟩ = false := by simp [World.frozen?, gb]
      have f3 : w9.frozen? ⟨w.heap.size, 3, none⟩ = false := by simp [World.frozen?, gb]
      have f4 : w9.frozen? ⟨w.heap.size, 4, none⟩ = false := by simp [World.frozen?, gb]
      have Bwb : Hid (Below w.heap.size w w9) := bwb
      clear gb bwb b0b
      go_wp2_with fail
      refine bodyPost_ret (v := .tuple #[.agg #[.int .i64 0, .int .i64 0, .int .i64 0, .slice none 0 0, .int .i64 0], .int .i64 E]) ?_ rfl ⟨_, by rw [HRes.out], by rw [HRes.out]; exact recNew_zero _ _, ?_⟩
      · rw [results_cell_tmp rfl]
        go_simp
      · exact ((((Bwb.out.setCell (p := ⟨w.heap.size, 0, none⟩) (Nat.le_refl _) _).setCell (p := ⟨w.heap.size, 1, none⟩) (Nat.le_refl _) _).setCell (p := ⟨w.heap.size, 2, none⟩) (Nat.le_refl _) _).setCell (p := ⟨w.heap.size, 3, none⟩) (Nat.le_refl _) _).setCell (p := ⟨w.heap.size, 4, none⟩) (Nat.le_refl _) _

end Go.Proofs.YtdfcfinjoghipacGreatDoor
end
