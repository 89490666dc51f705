/- Joined: Nte4 NtP Prs. -/
import Derived.Test.YthpllmhnpbigiacGreatDoorNj13
import Derived.Test.YthpllmhnpbigiacGreatDoorNj22
import Derived.Test.YthpllmhnpbigiacGreatDoorNj31
import Derived.Test.YthpllmhnpbigiacGreatDoorNj30
import Derived.Test.YthpllmhnpbigiacGreatDoorNj03
section
/- What the counterpart's RecRead stands on: a text parted at two blanks, the map of kinds, its refusal. -/
set_option linter.all false
set_option maxRecDepth 100000
namespace Go.Proofs.YthpllmhnpbigiacGreatDoor
open Go.RowKit Go.Maps

theorem splitK_cut (k : Nat) (s : Bs) : Lib.splitK [32] 0 (k + 1) s = match cutSp s with | none => [s] | some (a, t) => a :: Lib.splitK [32] 0 k t := by
  cases h : cutSp s with
  | none =>
    have := index_miss 32 s (cutSp_none h)
    unfold Lib.splitK
    rw [this]
    rfl
  | some x =>
    obtain ⟨a, t⟩ := x
    obtain ⟨rfl, hn⟩ := cutSp_some h
    have := index_hit 32 t a hn
    conv => lhs; unfold Lib.splitK
    rw [this, if_neg (by simp)]
    simp
theorem splitK_three (s : Bs) : Lib.splitK [32] 0 2 s = split3 s := by
  rw [splitK_cut]
  unfold split3
  cases h : cutSp s with
  | none => rfl
  | some x =>
    obtain ⟨a, t⟩ := x
    simp only
    rw [splitK_cut]
    cases h2 : cutSp t with
    | none => rfl
    | some y => obtain ⟨b, u⟩ := y; rfl
theorem splitN_three (s : Bs) : Lib.splitK [32] 0 (min 3 (s.length + 1) - 1) s = split3 s := by
  match s with
  | [] => rfl
  | [b] =>
    show Lib.splitK [32] 0 1 [b] = _
    rw [splitK_cut]
    unfold split3
    by_cases hb : b = 32
    · subst hb
      rfl
    · have : cutSp [b] = none := cutSp_miss [b] (by simp; exact fun e => hb e.symm)
      rw [this]
  | b :: c :: s =>
    rw [show min 3 ((b :: c :: s).length + 1) - 1 = 2 by simp]
    exact splitK_three _
/-- strings.SplitN at a blank, into three at most. -/
theorem words3_any (t : ByteArray) (ht : t.size ≤ 60000) : ∃ ws : List ByteArray, ws.map (fun p : ByteArray => p.data.toList) = split3 t.data.toList ∧ 1 ≤ ws.length ∧ ws.length ≤ 3 ∧ (∀ u ∈ ws, u.size ≤ 60000) ∧
    ∀ mm w, w.cell? ⟨3, 0, none⟩ = some (.int .i64 mm) → Calls Tryz.prog 51 #[.string t, .string ⟨#[32]⟩, .int .i64 3] w fun e w' => ∃ SB cap, e = .returned (.slice (some ⟨SB, 0, none⟩) ws.length cap) ∧ ws.length ≤ cap ∧ cap ≤ 3 ∧ Below w.heap.size w w' ∧ w.heap.size ≤ SB ∧ SB < w'.heap.size ∧ ∀ j u, ws[j]? = some u → w'.cell? ⟨SB, j, none⟩ = some (.string u) := by
  obtain ⟨ws, hws⟩ : ∃ ws, ws = Lib.splitB ⟨#[32]⟩ 0 (min 3 (t.size + 1) - 1) t := ⟨_, rfl⟩
  have hmap : ws.map (fun p : ByteArray => p.data.toList) = split3 t.data.toList := by
    rw [hws, Lib.splitB_data]
    have := splitN_three t.data.toList
    rw [← Lib.size_eq] at this
    exact this
  have hlen : ws.length = (split3 t.data.toList).length := by rw [← hmap]; simp
  have h3 : 1 ≤ ws.length ∧ ws.length ≤ 3 ∧ ∀ p ∈ split3 t.data.toList, p.length ≤ t.size := by
    rw [hlen, Lib.size_eq]
    rcases split3_join (s := t.data.toList) with ⟨a, e, es⟩ | ⟨a, b, e, es⟩ | ⟨a, b, c, e, es⟩
    · rw [e, es]; simp
    · rw [e]
      refine ⟨by simp, by simp, fun p hp => ?_⟩
      rw [es]
      simp at hp ⊢
      rcases hp with rfl | rfl <;> omega
    · rw [e]
      refine ⟨by simp, by simp, fun p hp => ?_⟩
      rw [es]
      simp at hp ⊢
      rcases hp with rfl | rfl | rfl <;> omega
  refine ⟨ws, hmap, h3.1, h3.2.1, fun u hu => ?_, fun mm w hm => ?_⟩
  · have : u.data.toList ∈ split3 t.data.toList := by rw [← hmap]; exact List.mem_map_of_mem hu
    have := h3.2.2 _ this
    rw [Lib.size_eq]
    omega
  · refine (Tryz.strings_SplitN t ⟨#[32]⟩ 3 mm w (by omega) hm (by decide) (by decide) (by decide)).mono fun e w' ⟨h1, h2⟩ => ?_
    subst h1 h2
    have hle : ws.length ≤ min 3 (t.size + 1) := by
      rw [hws]
      have := Lib.splitB_length_le ⟨#[32]⟩ 0 (min 3 (t.size + 1) - 1) t
      omega
    refine ⟨w.heap.size, min 3 (t.size + 1), by rw [hws], hle, by omega, (Below.refl _ _).alloc (Nat.le_refl _) _, Nat.le_refl _, by simp, fun j u hu => ?_⟩
    refine heap_cell (heap_made w _) j ?_
    rw [← hws]
    unfold Lib.cellsOf
    rw [List.getElem?_toArray, List.getElem?_append_left (by simp; exact (List.getElem?_eq_some_iff.1 hu).1), List.getElem?_map, hu]
    rfl
/-- The map of kinds. -/
def D4 : DataW Unit := ((((DataW.map []).put (.string [111, 112, 101, 110]) (.lit (.int .i64 1))).put (.string [116, 105, 103, 104, 116]) (.lit (.int .i64 2))).put (.string [102, 111, 114, 107]) (.lit (.int .i64 3))).put (.string [115, 104, 117, 116]) (.lit (.int .i64 4))
theorem D4_putAll : D4 = putAll kN 1 (.map []) := rfl
theorem D4_says (l : Bs) : D4.atKey (.string l) zed = .lit (.int .i64 (1 + idxL kN l)) := by
  by_cases h : 0 ≤ idxL kN l
  · obtain ⟨-, h2⟩ := putAll_idx l kN 1 (.map []) Maps.isMap_empty (by decide) h
    rw [D4_putAll, h2]
    rfl
  · obtain ⟨-, h2⟩ := putAll_miss l kN 1 (.map []) (idxL_mem _ _ (by omega))
    have := idxL_ge kN l
    rw [D4_putAll, h2, show idxL kN l = -1 by omega]
    rfl
set_option maxHeartbeats 1000000 in
theorem badR_any (e : Int) (w : World) : Calls Tryz.prog 50 #[.int .i64 e] w fun r w' => r = .returned (.tuple #[.agg #[.int .i64 0, .int .i64 0, .int .i64 0, .slice none 0 0, .int .i64 0], .int .i64 e]) ∧ Below w.heap.size w w' := by
  have hb : Below w.heap.size w (w.alloc (.cells #[.int .i64 0, .int .i64 0, .int .i64 0, .slice none 0 0, .int .i64 0] 38)) := (Below.refl _ _).alloc (Nat.le_refl _) _
  have h0 := heap_made w (.cells #[.int .i64 0, .int .i64 0, .int .i64 0, .slice none 0 0, .int .i64 0] 38)
  go_enter Tryz.func50, Tryz.ntmps50
  go_wp2
  obtain ⟨z0, z1, z2, z3, z4⟩ := rec_box h0
  refine bodyPost_ret (v := .tuple #[.agg #[.int .i64 0, .int .i64 0, .int .i64 0, .slice none 0 0, .int .i64 0], .int .i64 e]) ?_ rfl ⟨rfl, hb⟩
  rw [results_cell_tmp rfl]
  go_simp

end Go.Proofs.YthpllmhnpbigiacGreatDoor
end
section
/- Records' texts, of any length: plain data. -/
set_option linter.all false
namespace Go.Proofs.YthpllmhnpbigiacGreatDoor

/-- What Parse reads a text as. -/
def recParse (s : Bs) : RecT × Int := if 60000 < s.length then (zeroRec, 2) else recOf s
theorem recParse_text {r : RecT} (h : recErr r = 0) (hl : (recText r).length ≤ 60000) : recParse (recText r) = (r, 0) := by
  unfold recParse
  rw [if_neg (by omega)]
  exact rec_read h hl
theorem recParse_back {s : Bs} {r : RecT} (h : recParse s = (r, 0)) : recErr r = 0 ∧ recText r = s := by
  unfold recParse at h
  by_cases hl : 60000 < s.length
  · rw [if_pos hl] at h
    cases h
  · rw [if_neg hl] at h
    exact rec_back h (by omega)

end Go.Proofs.YthpllmhnpbigiacGreatDoor
end
section
/- What the program's own Parse says of any text. -/
set_option linter.all false
set_option maxRecDepth 100000
namespace Go.Proofs.YthpllmhnpbigiacGreatDoor
open Go.RowKit Go.Maps

set_option maxHeartbeats 4000000 in
theorem parse_any (s : ByteArray) (w : World) (he : EnvT w) :
    Calls Tryz.prog 82 #[.string s] w fun e w' => ∃ pv, e = .returned (.tuple #[pv, .int .i64 (parseR s.data.toList).2]) ∧ PolN w.heap.size w' pv (parseR s.data.toList).1 ∧ Below w.heap.size w w' := by
  have hb1 : ∀ X, Below w.heap.size w (w.alloc X) := fun X => (Below.refl _ _).alloc (Nat.le_refl _) _
  have HB : Hid (∀ w' T, Below (w.heap.size + 1) (w.alloc (.cells #[.slice none 0 0, .int .i64 0] T)) w' → w'.heap[w.heap.size]? = some (.cells #[.slice none 0 0, .int .i64 0] T (0, 0)) ∧ Below w.heap.size w w') := fun w' T h => ⟨(h.block w.heap.size (by omega)).trans (MapKept.heap_alloc w _).1, (hb1 _).trans (h.mono (by omega))⟩
  have hsz := Lib.size_eq s
  by_cases hlong : 60000 < s.size
  · have hR : Hid (parseR s.data.toList = (([], 0), 2)) := by unfold Hid parseR; rw [if_pos (by omega)]
    have hl : (60000 : Int) < (s.size : Int) := by omega
    have hRb := (MapKept.heap_alloc w (.cells #[.slice none 0 0, .int .i64 0] 24)).1
    have hbW := hb1 (.cells #[.slice none 0 0, .int .i64 0] 24)
    clear hsz
    go_enter Tryz.func82, Tryz.ntmps82
    go_wp2
    refine bodyPost_ret (v := .tuple #[.agg #[.slice none 0 0, .int .i64 0], .int .i64 2]) ?_ rfl ⟨_, by rw [hR.out], by rw [hR.out]; exact PolN.zero _ _, ?_⟩
    · rw [results_cell_tmp rfl]
      go_simp
    · first | exact hbW | exact (hbW.setCell (p := ⟨w.heap.size, 0, none⟩) (Nat.le_refl _) _).setCell (p := ⟨w.heap.size, 1, none⟩) (Nat.le_refl _) _
  · have hl : ¬ ((60000 : Int) < (s.size : Int)) := by omega
    have hRP := readPolicy_any s (by omega) (w.alloc (.cells #[.slice none 0 0, .int .i64 0] 24)) (he.later (hb1 _))
    have HRP : Hid _ := hRP
    have hR : Hid (parseR s.data.toList = match polOf s.data.toList with
      | none => (([], 0), 1)
      | some p => if polErr p = 0 then (p, 0) else (([], 0), polErr p)) := by unfold Hid parseR; rw [if_neg (by omega)]; rfl
    clear hRP hsz hlong
    generalize polOf s.data.toList = po at *
    cases po with
    | none =>
      have hR' : Hid (parseR s.data.toList = (([], 0), 1)) := hR.out
      clear hR
      go_enter Tryz.func82, Tryz.ntmps82
      go_wp2_with fail
      go_at_call 113
      refine Calls.mono HRP.out ?_
      rintro e w1 ⟨pv, rfl, hpn, hb⟩
      simp only [World.size_alloc] at hb hpn
      obtain ⟨hRb, hbw⟩ := HB.out _ _ hb
      obtain ⟨a, n, cap, rfl⟩ := hpn.shape
      have hs1 : w.heap.size + 1 ≤ w1.heap.size := by have := hb.size; simpa using this
      have hRb2 : ∀ X, (w1.alloc X).heap[w.heap.size]? = some (.cells #[.slice none 0 0, .int .i64 0] 24 (0, 0)) := fun X => (Below.heap_alloc _ _ _ (by omega)).trans hRb
      have t0 : ∀ X, (w1.alloc X).cell? ⟨w.heap.size, 0, none⟩ = some (.slice none 0 0) := fun X => (cell_of_two (hRb2 X)).1
      have t1 : ∀ X, (w1.alloc X).cell? ⟨w.heap.size, 1, none⟩ = some (.int .i64 0) := fun X => (cell_of_two (hRb2 X)).2.1
      have t2 : ∀ X, (w1.alloc X).frozen? ⟨w.heap.size, 0, none⟩ = false := fun X => (cell_of_two (hRb2 X)).2.2.1
      have t3 : ∀ X, (w1.alloc X).frozen? ⟨w.heap.size, 1, none⟩ = false := fun X => (cell_of_two (hRb2 X)).2.2.2
      have hRH : Hid _ := hRb2
      clear hRb hRb2 hpn
      go_wp2_with fail
      have HRF := two_setCell1 (u := .int .i64 0) (two_setCell (u := .slice none 0 0) (hRH.out (.cells #[.slice a n cap, .int .i64 0] 24)))
      obtain ⟨z0, z1, _, _⟩ := cell_of_two HRF
      refine bodyPost_ret (v := .tuple #[.agg #[.slice none 0 0, .int .i64 0], .int .i64 1]) ?_ rfl ⟨_, by rw [hR'.out], by rw [hR'.out]; exact PolN.zero _ _, ((hbw.alloc (by omega) _).setCell (p := ⟨w.heap.size, 0, none⟩) (Nat.le_refl _) _).setCell (p := ⟨w.heap.size, 1, none⟩) (Nat.le_refl _) _⟩
      rw [results_cell_tmp rfl]
      go_simp
    | some p =>
      obtain ⟨rs, d⟩ := p
      have hR' : Hid (parseR s.data.toList = if polErr (rs, d) = 0 then ((rs, d), 0) else (([], 0), polErr (rs, d))) := hR.out
      clear hR
      go_enter Tryz.func82, Tryz.ntmps82
      go_wp2_with fail
      go_at_call 113
      refine Calls.mono HRP.out ?_
      rintro e w1 ⟨pv, rfl, hpn, hb⟩
      simp only [World.size_alloc] at hb hpn
      obtain ⟨hRb, hbw⟩ := HB.out _ _ hb
      obtain ⟨a, n, cap, rfl⟩ := hpn.shape
      have hs1 : w.heap.size + 1 ≤ w1.heap.size := by have := hb.size; simpa using this
      have hpnH : Hid (PolN (w.heap.size + 1) w1 (.agg #[.slice a n cap, .int .i64 d]) (rs, d)) := hpn
      have hCk : Hid (∀ w', Below w1.heap.size w1 w' → Calls Tryz.prog 28 #[.agg #[.slice a n cap, .int .i64 d]] w' fun e w'' => e = .returned (.int .i64 (polErr (rs, d))) ∧ Below w'.heap.size w' w'') := fun w' h => check_pol w'.heap.size _ (rs, d) w' (hpnH.out.keep (fun g h1 h2 => h.block g h2) h.size).at (Nat.le_refl _)
      have hRH : Hid _ := hRb
      clear hRb hpn
      generalize hpe : polErr (rs, d) = pe at *
      have hb2A : Below w1.heap.size w1 (w1.alloc (.cells #[.slice a n cap, .int .i64 d] 24)) := (Below.refl _ _).alloc (Nat.le_refl _) _
      go_wp2_with fail
      go_at_call 28
      refine Calls.mono (hCk.out _ hb2A) ?_
      rintro e w2 ⟨rfl, hb2⟩
      have hb12 := Below.thenOf hb2A hb2 (by simp)
      have hRb2 : w2.heap[w.heap.size]? = some (.cells #[.slice none 0 0, .int .i64 0] 24 (0, 0)) := (hb12.block _ (by omega)).trans hRH.out
      obtain ⟨t0, t1, t2, t3⟩ := cell_of_two hRb2
      have hbx : w2.heap[w1.heap.size]? = some (.cells #[.slice a n cap, .int .i64 d] 24 (0, 0)) := (hb2.block _ (by simp)).trans (MapKept.heap_alloc w1 _).1
      obtain ⟨b0, b1, _, _⟩ := cell_of_two hbx
      have hbw2 : Below w.heap.size w w2 := Below.thenOf hbw hb12 hbw.size
      have hRH2 : Hid _ := hRb2
      have hne1 : ¬ (w1.heap.size = w.heap.size) := by omega
      have hne2 : ¬ (w.heap.size = w1.heap.size) := by omega
      have hs12 := hb12.size
      clear hRb2 hbx hb2 hb2A
      by_cases h0 : pe = 0
      · subst h0
        have hR2 : Hid (parseR s.data.toList = ((rs, d), 0)) := by unfold Hid; rw [hR'.out, if_pos rfl]
        clear hR'
        go_wp2_with fail
        have HRF := two_setCell1 (u := .int .i64 d) (two_setCell (u := .slice a n cap) hRH2.out)
        obtain ⟨z0, z1, _, _⟩ := cell_of_two HRF
        refine bodyPost_ret (v := .tuple #[.agg #[.slice a n cap, .int .i64 d], .int .i64 0]) ?_ rfl ⟨_, by rw [hR2.out], ?_, (hbw2.setCell (p := ⟨w.heap.size, 0, none⟩) (Nat.le_refl _) _).setCell (p := ⟨w.heap.size, 1, none⟩) (Nat.le_refl _) _⟩
        · rw [results_cell_tmp rfl]
          go_simp
        · rw [hR2.out]
          have h3 := hpnH.out.keep (w' := (w2.setCell ⟨w.heap.size, 0, none⟩ (.slice a n cap)).setCell ⟨w.heap.size, 1, none⟩ (.int .i64 d)) (fun g h1 h2 => (heap_set2 0 _ _ (by omega)).trans (hb12.block g h2)) (by simp; exact hs12)
          obtain ⟨rv, e1, e2, a', cap', e3, e4, e5, e6⟩ := h3
          refine ⟨rv, e1, e2, a', cap', e3, e4, e5, fun i r hr => ?_⟩
          obtain ⟨b, o, k1, k2, k3, cv, k4, k5, k6, k7⟩ := e6 i r hr
          exact ⟨b, o, k1, by omega, k3, cv, k4, k5, k6, k7.mono (by omega)⟩
      · have hq : (pe != 0) = true := by simpa using h0
        have hR2 : Hid (parseR s.data.toList = (([], 0), pe)) := by unfold Hid; rw [hR'.out, if_neg h0]
        clear hR' h0
        go_wp2_with fail
        have HRF := two_setCell1 (u := .int .i64 0) (two_setCell (u := .slice none 0 0) hRH2.out)
        obtain ⟨z0, z1, _, _⟩ := cell_of_two HRF
        refine bodyPost_ret (v := .tuple #[.agg #[.slice none 0 0, .int .i64 0], .int .i64 pe]) ?_ rfl ⟨_, by rw [hR2.out], by rw [hR2.out]; exact PolN.zero _ _, (hbw2.setCell (p := ⟨w.heap.size, 0, none⟩) (Nat.le_refl _) _).setCell (p := ⟨w.heap.size, 1, none⟩) (Nat.le_refl _) _⟩
        rw [results_cell_tmp rfl]
        go_simp

end Go.Proofs.YthpllmhnpbigiacGreatDoor
end
