/- The counterpart's reader at any text. -/
import Derived.Test.YtdfcfinjoghipacGreatDoorDj17
import Derived.Test.YtdfcfinjoghipacGreatDoorDj18
import Derived.Test.YtdfcfinjoghipacGreatDoorDj04
import Derived.Test.YtdfcfinjoghipacGreatDoorDj05
set_option linter.all false
namespace Go.Proofs.YtdfcfinjoghipacGreatDoor
open Go.RowKit Go.Maps

theorem words_any (t : ByteArray) (ht : t.size ≤ 60000) : ∃ (w0 : ByteArray) (ws : List ByteArray), splitL 32 t.data.toList = w0.data.toList :: ws.map (fun p : ByteArray => p.data.toList) ∧ w0.size ≤ 60000 ∧ (∀ u ∈ ws, u.size ≤ 60000) ∧ ws.length ≤ 60000 ∧
    ∀ mm w, w.cell? ⟨3, 0, none⟩ = some (.int .i64 mm) → Calls Tryz.prog 121 #[.string t, .string ⟨#[32]⟩] w fun e w' => ∃ SB, e = .returned (.slice (some ⟨SB, 0, none⟩) (ws.length + 1) (ws.length + 1)) ∧ Below w.heap.size w w' ∧ w.heap.size ≤ SB ∧ SB < w'.heap.size ∧ ∀ j u, (w0 :: ws)[j]? = some u → w'.cell? ⟨SB, j, none⟩ = some (.string u) := by
  have hps : (Lib.splitB blank 0 (Lib.countB t blank) t).map (fun p : ByteArray => p.data.toList) = splitL 32 t.data.toList := by
    rw [← split_splitL]
    exact Lib.splitB_data blank 0 _ t
  have hl := Lib.splitB_all blank (by decide) 0 _ t rfl
  obtain ⟨hc, hz⟩ := split_count 32 t _ hps
  generalize hps' : Lib.splitB blank 0 (Lib.countB t blank) t = ps at *
  cases ps with
  | nil => simp at hl
  | cons w0 ws =>
    rw [List.length_cons] at hl hc
    refine ⟨w0, ws, by rw [← hps]; rfl, by have := hz w0 (by simp); omega, fun u hu => by have := hz u (by simp [hu]); omega, by omega, fun mm w hm => ?_⟩
    exact split_good t (w0 :: ws) ws.length mm w (by omega) hm (by omega) hps'
theorem drop_at {α : Type} (T : List α) (i : Nat) (x : α) (h : T[i]? = some x) : T.drop i = x :: T.drop (i + 1) := by
  obtain ⟨hi, rfl⟩ := List.getElem?_eq_some_iff.1 h
  exact List.drop_eq_getElem_cons hi
theorem join_len (x : Bs) (rest : List Bs) : (joinL 59 (x :: rest)).length = x.length + (if rest = [] then 0 else 1 + (joinL 59 rest).length) := by
  cases rest with
  | nil => simp [joinL]
  | cons y r => rw [joinL]; simp; omega

set_option maxRecDepth 20000 in
set_option maxHeartbeats 8000000 in
theorem policyRead_new (s : ByteArray) (hs60 : s.size ≤ 60000) (w : World) (he : EnvT w) :
    Calls Tryz.prog 70 #[.string s] w fun e w' => ∃ pv, e = .returned (.tuple #[pv, .int .i64 (parseR s.data.toList).2]) ∧ PolNew w.heap.size w' pv (parseR s.data.toList).1 ∧ Below w.heap.size w w' := by
  have hmm := @run_makeMap Tryz.prog
  have hm0 := World.ownsMap_made (H := Unit) (w.alloc (.cells #[.slice none 0 0, .int .i64 0] 24)) Tryz.prog 9 (plainElem Tryz.prog 3)
  simp only [World.size_alloc] at hm0
  have HE : Hid (∀ w', Below w.heap.size w w' → EnvT w') := fun w' h => he.later h
  have hml : 3 < w.heap.size := he.1.lt
  clear he
  obtain ⟨T, hT⟩ : ∃ T, T = splitL 59 s.data.toList := ⟨_, rfl⟩
  have HT : Hid (T = splitL 59 s.data.toList) := hT
  have hT0 : 0 < T.length := by rw [hT]; exact List.length_pos_iff.2 (splitL_ne 59 _)
  have hL60 : s.data.toList.length ≤ 60000 := by rw [← Lib.size_eq]; exact hs60
  have HPN : Hid (polOf s.data.toList = none → parseR s.data.toList = (([], 0), 1)) := parse_none hL60
  have HPS : Hid (∀ p, polOf s.data.toList = some p → parseR s.data.toList = if polErr p = 0 then (p, 0) else (([], 0), polErr p)) := fun p => parse_some hL60
  have HJ : Hid (s.data.toList = joinL 59 T) := by unfold Hid; rw [hT, join_split]
  clear hT hL60
  go_enter Tryz.func70, Tryz.ntmps70
  go_wp2_with (first
    | (refine wpList_insert_own _ rfl _ _ _ 106 rfl 9 3 keyStr Tryz.underlying106 (plainElem Tryz.prog 3) (w.heap.size + 1) 0 _ rfl hm0 (by decide) _ _ _ rfl rfl (Go.WideMaps.keyOf_string_mk Tryz.underlying9 (by decide)) _ [] (plainElem_int Tryz.underlying3 (by decide)) ?_; go_must (intro w1 hown1 hg1; clear hm0; have HB := ((Below.refl (w.heap.size + 1) (w.alloc (.cells #[.slice none 0 0, .int .i64 0] 24))).alloc (by simp) _).grown hg1 (by simp) (fun k hk => by cases hk; exact Nat.le_refl _)))
    | (refine wpList_insert_own _ rfl _ _ _ 106 rfl 9 3 keyStr Tryz.underlying106 (plainElem Tryz.prog 3) (w.heap.size + 1) 1 _ rfl hown1 (by decide) _ _ _ rfl rfl (Go.WideMaps.keyOf_string_mk Tryz.underlying9 (by decide)) _ [] (plainElem_int Tryz.underlying3 (by decide)) ?_; go_must (intro w2 hown2 hg2; clear hown1; replace HB := HB.grown hg2 (by have := HB.size; simp at this; omega) (fun k hk => by cases hk; exact Nat.le_refl _)))
    | (refine wpList_insert_own _ rfl _ _ _ 106 rfl 9 3 keyStr Tryz.underlying106 (plainElem Tryz.prog 3) (w.heap.size + 1) 2 _ rfl hown2 (by decide) _ _ _ rfl rfl (Go.WideMaps.keyOf_string_mk Tryz.underlying9 (by decide)) _ [] (plainElem_int Tryz.underlying3 (by decide)) ?_; go_must (intro w3 hown3 hg3; clear hown2; replace HB := HB.grown hg3 (by have := HB.size; simp at this; omega) (fun k hk => by cases hk; exact Nat.le_refl _)))
    | (refine wpList_insert_own _ rfl _ _ _ 106 rfl 9 3 keyStr Tryz.underlying106 (plainElem Tryz.prog 3) (w.heap.size + 1) 3 _ rfl hown3 (by decide) _ _ _ rfl rfl (Go.WideMaps.keyOf_string_mk Tryz.underlying9 (by decide)) _ [] (plainElem_int Tryz.underlying3 (by decide)) ?_; go_must (intro w4 hown4 hg4; clear hown3; replace HB := HB.grown hg4 (by have := HB.size; simp at this; omega) (fun k hk => by cases hk; exact Nat.le_refl _)))
    | (refine wpList_insert_own _ rfl _ _ _ 106 rfl 9 3 keyStr Tryz.underlying106 (plainElem Tryz.prog 3) (w.heap.size + 1) 4 _ rfl hown4 (by decide) _ _ _ rfl rfl (Go.WideMaps.keyOf_string_mk Tryz.underlying9 (by decide)) _ [] (plainElem_int Tryz.underlying3 (by decide)) ?_; go_must (intro w5 hown5 hg5; clear hown4; replace HB := HB.grown hg5 (by have := HB.size; simp at this; omega) (fun k hk => by cases hk; exact Nat.le_refl _); have K1 := hown5; have hl1 := hown5.lt; have hm1 := World.ownsMap_made (H := Unit) w5 Tryz.prog 9 (plainElem Tryz.prog 3); have hM1 : w.heap.size + 1 ≤ w5.heap.size := by have := HB.size; simp at this; omega))
    | (refine wpList_insert_own _ rfl _ _ _ 106 rfl 9 3 keyStr Tryz.underlying106 (plainElem Tryz.prog 3) w5.heap.size 0 _ rfl hm1 (by decide) _ _ _ rfl rfl (Go.WideMaps.keyOf_string_mk Tryz.underlying9 (by decide)) _ [] (plainElem_int Tryz.underlying3 (by decide)) ?_; go_must (intro w6 hown6 hg6; clear hm1; replace HB := (HB.alloc (by have := HB.size; simp at this; omega) _).grown hg6 (by have := HB.size; simp at this ⊢; omega) (fun k hk => by cases hk; have := HB.size; simp at this; omega); replace K1 := (K1.alloc _).kept hg6 (by have := K1.lt; simp; omega)))
    | (refine wpList_insert_own _ rfl _ _ _ 106 rfl 9 3 keyStr Tryz.underlying106 (plainElem Tryz.prog 3) w5.heap.size 1 _ rfl hown6 (by decide) _ _ _ rfl rfl (Go.WideMaps.keyOf_string_mk Tryz.underlying9 (by decide)) _ [] (plainElem_int Tryz.underlying3 (by decide)) ?_; go_must (intro w7 hown7 hg7; clear hown6; replace HB := HB.grown hg7 (by have := HB.size; simp at this; omega) (fun k hk => by cases hk; exact hM1); replace K1 := K1.kept hg7 (by simp; omega)))
    | (refine wpList_insert_own _ rfl _ _ _ 106 rfl 9 3 keyStr Tryz.underlying106 (plainElem Tryz.prog 3) w5.heap.size 2 _ rfl hown7 (by decide) _ _ _ rfl rfl (Go.WideMaps.keyOf_string_mk Tryz.underlying9 (by decide)) _ [] (plainElem_int Tryz.underlying3 (by decide)) ?_; go_must (intro w8 hown8 hg8; clear hown7; replace HB := HB.grown hg8 (by have := HB.size; simp at this; omega) (fun k hk => by cases hk; exact hM1); replace K1 := K1.kept hg8 (by simp; omega)))
    | (refine wpList_insert_own _ rfl _ _ _ 106 rfl 9 3 keyStr Tryz.underlying106 (plainElem Tryz.prog 3) w5.heap.size 3 _ rfl hown8 (by decide) _ _ _ rfl rfl (Go.WideMaps.keyOf_string_mk Tryz.underlying9 (by decide)) _ [] (plainElem_int Tryz.underlying3 (by decide)) ?_; go_must (intro w9 hown9 hg9; clear hown8; replace HB := HB.grown hg9 (by have := HB.size; simp at this; omega) (fun k hk => by cases hk; exact hM1); replace K1 := K1.kept hg9 (by simp; omega)))
    | (refine wpList_insert_own _ rfl _ _ _ 106 rfl 9 3 keyStr Tryz.underlying106 (plainElem Tryz.prog 3) w5.heap.size 4 _ rfl hown9 (by decide) _ _ _ rfl rfl (Go.WideMaps.keyOf_string_mk Tryz.underlying9 (by decide)) _ [] (plainElem_int Tryz.underlying3 (by decide)) ?_; go_must (intro w10 hown10 hg10; clear hown9; replace HB := HB.grown hg10 (by have := HB.size; simp at this; omega) (fun k hk => by cases hk; exact hM1); replace K1 := K1.kept hg10 (by simp; omega); have K2 := hown10; have hl2 := hown10.lt; have hm2 := World.ownsMap_made (H := Unit) w10 Tryz.prog 5 (plainElem Tryz.prog 3); have hM2 : w.heap.size + 1 ≤ w10.heap.size := by have := HB.size; simp at this; omega))
    | (refine wpList_insert_own _ rfl _ _ _ 164 rfl 5 3 keyU8 Tryz.underlying164 (plainElem Tryz.prog 3) w10.heap.size 0 _ rfl hm2 (by decide) _ _ _ rfl rfl (keyOf_int_mk Tryz.underlying5 (by decide)) _ [] (plainElem_int Tryz.underlying3 (by decide)) ?_; go_must (intro w11 hown11 hg11; clear hm2; replace HB := (HB.alloc (by have := HB.size; simp at this; omega) _).grown hg11 (by have := HB.size; simp at this ⊢; omega) (fun k hk => by cases hk; have := HB.size; simp at this; omega); replace K1 := (K1.alloc _).kept hg11 (by have := K1.lt; simp; omega); replace K2 := (K2.alloc _).kept hg11 (by have := K2.lt; simp; omega)))
    | (refine wpList_insert_own _ rfl _ _ _ 164 rfl 5 3 keyU8 Tryz.underlying164 (plainElem Tryz.prog 3) w10.heap.size 1 _ rfl hown11 (by decide) _ _ _ rfl rfl (keyOf_int_mk Tryz.underlying5 (by decide)) _ [] (plainElem_int Tryz.underlying3 (by decide)) ?_; go_must (intro w12 hown12 hg12; clear hown11; replace HB := HB.grown hg12 (by have := HB.size; simp at this; omega) (fun k hk => by cases hk; exact hM2); replace K1 := K1.kept hg12 (by simp; omega); replace K2 := K2.kept hg12 (by simp; omega)))
    | (refine wpList_insert_own _ rfl _ _ _ 164 rfl 5 3 keyU8 Tryz.underlying164 (plainElem Tryz.prog 3) w10.heap.size 2 _ rfl hown12 (by decide) _ _ _ rfl rfl (keyOf_int_mk Tryz.underlying5 (by decide)) _ [] (plainElem_int Tryz.underlying3 (by decide)) ?_; go_must (intro w13 hown13 hg13; clear hown12; replace HB := HB.grown hg13 (by have := HB.size; simp at this; omega) (fun k hk => by cases hk; exact hM2); replace K1 := K1.kept hg13 (by simp; omega); replace K2 := K2.kept hg13 (by simp; omega)))
    | (refine wpList_insert_own _ rfl _ _ _ 164 rfl 5 3 keyU8 Tryz.underlying164 (plainElem Tryz.prog 3) w10.heap.size 3 _ rfl hown13 (by decide) _ _ _ rfl rfl (keyOf_int_mk Tryz.underlying5 (by decide)) _ [] (plainElem_int Tryz.underlying3 (by decide)) ?_; go_must (intro w14 hown14 hg14; clear hown13; replace HB := HB.grown hg14 (by have := HB.size; simp at this; omega) (fun k hk => by cases hk; exact hM2); replace K1 := K1.kept hg14 (by simp; omega); replace K2 := K2.kept hg14 (by simp; omega); have K3 := hown14; have hl3 := hown14.lt)))
  have L5 : Laid5 w (w14.alloc (.cells #[.slice none 0 0, .int .i64 0] 24)) w.heap.size (w.heap.size + 1) w5.heap.size w10.heap.size w14.heap.size := by
    have s14 := HB.size
    simp at s14
    refine ⟨((Below.refl _ _).alloc (Nat.le_refl _) _).trans ((HB.alloc (by simpa using s14) _).mono (by omega)), ?_, K1.alloc _, K2.alloc _, K3.alloc _, ?_, rfl, by omega, K1.lt, K2.lt, K3.lt, by simp⟩
    · rw [Below.heap_alloc _ _ _ (by omega), HB.block _ (by omega)]
      exact (MapKept.heap_alloc w _).1
    · exact (MapKept.heap_alloc w14 _).1
  clear HB K1 K2 K3 hl1 hl2 hl3 hM1 hM2 hown5 hown10 hown14 hg1 hg2 hg3 hg4 hg5 hg6 hg7 hg8 hg9 hg10 hg11 hg12 hg13 hg14 hmm
  have L5' : Hid _ := L5
  clear L5
  generalize w14.alloc (.cells #[.slice none 0 0, .int .i64 0] 24) = W at *
  generalize w5.heap.size = M2 at *
  generalize w10.heap.size = M3 at *
  generalize w14.heap.size = PB at *
  generalize hM1 : w.heap.size + 1 = M1 at *
  generalize hR0 : w.heap.size = R0 at *
  have hWf := L5'.out
  obtain ⟨hbW, hcR, _, _, _, hcP, _, hRP, h1P, h2P, h3P, hPW⟩ := hWf
  go_loopw [0] (fun sv wr => ∃ (i : Nat) (s' : ByteArray) (rv : Value) (xs : List Value) (rs : List RuleT), sv = .string s' ∧ i < T.length ∧ Hid (s'.data.toList = joinL 59 (T.drop i)) ∧ Hid (allOf ruleOf (T.take i) = some rs) ∧ rs.length = i ∧ i + s'.size ≤ 60000 ∧ Below PB W wr ∧ Hid (wr.heap[PB]? = some (.cells #[rv, .int .i64 0] 24 (0, 0))) ∧ Hid (wr.ownsRow (PB + 1) 79 2 rv i xs) ∧ Hid (RulesCells (PB + 1) wr rs xs) ∧ PB < wr.heap.size) (fun sv _ => strLen sv)
  case atStart => exact ⟨0, s, .slice none 0 0, [], [], rfl, hT0, HJ.out, rfl, rfl, by omega, Below.refl _ _, hcP, ⟨rfl, .inl ⟨rfl, rfl⟩⟩, rfl, hPW⟩
  case round =>
    obtain ⟨i, s', rv, xs, rs, rfl, hi, G, HA, hrs, hi60, hbr, HP, HO, HR, hPr⟩ := hrel
    obtain ⟨wo, hwo⟩ : ∃ x, x = wr := ⟨_, rfl⟩
    subst hwo
    have hbw := hbW.trans (hbr.mono (by omega))
    have hszo := hbr.size
    obtain ⟨mm, hmo⟩ := (HE.out wo hbw).1
    have HRo : Hid (wo.heap[R0]? = some (.cells #[.slice none 0 0, .int .i64 0] 24 (0, 0))) := (hbr.block R0 hRP).trans hcR
    obtain ⟨x, hx⟩ : ∃ x, T[i]? = some x := ⟨T[i], by simp [hi]⟩
    have hxc : (59 : UInt8) ∉ x := splitL_clean 59 s.data.toList x (by rw [← HT.out]; exact List.mem_of_getElem? hx)
    have hdr := drop_at T i x hx
    have hxs : Hid ((splitL 59 s.data.toList)[i]? = some x) := by unfold Hid; rw [← HT.out]; exact hx
    have hlen := join_len x (T.drop (i + 1))
    have G' := G.out
    rw [hdr] at G'
    rw [← G', ← Lib.size_eq] at hlen
    have hcut0 := cut_parts x (T.drop (i + 1)) hxc
    rw [← G'] at hcut0
    have hTl : Hid (T.length = (splitL 59 s.data.toList).length) := by unfold Hid; rw [HT.out]
    have HRbad : Hid (∀ wz, Below wo.heap.size wo wz → wz.heap[R0]? = some (.cells #[.slice none 0 0, .int .i64 0] 24 (0, 0)) ∧ Below R0 w wz) := fun wz h => ⟨(h.block R0 (by omega)).trans HRo.out, hbw.trans (h.mono (by omega))⟩
    obtain ⟨w0, ws, hsp, hw060, hws60, hwn60, hsplit⟩ := words_any (bsB x) (by rw [Lib.size_eq]; show x.length ≤ _; omega)
    have hw0 : w0.size ≤ maxLen := by have := maxLen_eq; omega
    have splitC : Hid (∀ w1, Below wo.heap.size wo w1 → _) := fun w1 h1 => hsplit mm w1 ((h1.cell (p := ⟨3, 0, none⟩) (by show 3 < _; omega)).trans hmo)
    have K1o : Hid (wo.ownsMap Tryz.prog 9 (plainElem Tryz.prog 3) M1 5 D1) := ownsMap_below L5'.out.2.2.1 hbr h1P
    have hspH : Hid (splitL 32 x = w0.data.toList :: ws.map (fun p : ByteArray => p.data.toList)) := hsp
    have hws60' : Hid (∀ u ∈ ws, u.size ≤ 60000) := hws60
    clear hsplit hsp hws60 G' hxc hdr
    by_cases hlast : T.drop (i + 1) = []
    · have hTi : i + 1 = (splitL 59 s.data.toList).length := by
        rw [← hTl.out]
        have := List.drop_eq_nil_iff.1 hlast
        omega
      have hTiH : Hid (i + 1 = (splitL 59 s.data.toList).length) := hTi
      rw [hlast] at hcut0
      have hcutC : Hid _ := cut_good s' (bsB x) (bsB (joinL 59 [])) false mm wo (by omega) hmo hcut0
      clear hcut0 hlen hlast hTi
      generalize hnw : ws.length = n at *
      by_cases hv : idxL vN x < 0
      · have HPR : Hid (parseR s.data.toList = (([], 0), 1)) := HPN.out (pol_badLast hxs.out hTiH.out hv)
        have hor : Maps.has D1 (.string w0.data.toList) = false ∨ (Maps.has D1 (.string w0.data.toList) = true ∧ 0 < n) := by
          cases hh : Maps.has D1 (.string w0.data.toList) with
          | false => exact .inl rfl
          | true =>
            refine .inr ⟨rfl, ?_⟩
            rcases Nat.eq_zero_or_pos n with h0 | h0
            · exfalso
              obtain rfl : ws = [] := List.length_eq_zero_iff.1 (hnw.trans h0)
              have hsp := hspH.out
              have hj := join_split 32 x
              rw [hsp] at hj
              have hxw : w0.data.toList = x := hj
              rw [hxw] at hh
              rcases D1_says x with ⟨h1, _⟩ | ⟨_, h2⟩
              · omega
              · rw [hh] at h2; cases h2
            · exact h0
        clear hv
        rcases hor with hhas | ⟨hhas, hn1⟩
        case' inr => have hgt : (1 : Int) < (n : Int) + 1 := by omega
        all_goals
          go_wp2_with (first
            | (go_at_call 120; go_must (refine Calls.mono hcutC.out ?_; rintro e w1 ⟨rfl, hb1⟩))
            | (go_at_call 121; go_must (refine Calls.mono (splitC.out _ hb1) ?_; rintro e w2 ⟨SB, rfl, hb2, hSB, hSB2, hcells⟩; have hb12 := Below.thenOf hb1 hb2 hb1.size; have c0 := hcells 0 w0 rfl; have K1 := ownsMap_below K1o.out hb12 (by omega)))
            | (at_lookup; go_must (refine wpList_lookup_own_ok_int _ rfl _ _ 106 rfl 9 3 .i64 keyStr Tryz.underlying106 Tryz.underlying3 (zero3 _) M1 5 _ rfl K1 _ _ rfl (WideMaps.keyOf_string_mk Tryz.underlying9 hw0) ?_; intro c hatc hwc))
            | (go_at_call 119; go_must (refine Calls.mono (bad_any _ _) ?_; rintro e wz ⟨rfl, hbz⟩; obtain ⟨HRz, hbzw⟩ := HRbad.out wz (Below.thenOf hb12 hbz hb12.size); obtain ⟨n0, n1, nf0, nf1⟩ := cell_of_two HRz)))
          obtain ⟨hbF, z0, z1⟩ := bad_exit hbzw HRz
          refine bodyPost_ret (v := .tuple #[.agg #[.slice none 0 0, .int .i64 0], .int .i64 1]) ?_ rfl ⟨_, by rw [HPR.out], by rw [HPR.out]; exact fun _ _ _ => polAt_zero _ _, by rw [hR0]; exact hbF⟩
          rw [results_cell_tmp rfl]
          go_simp
      · have hsx := verdict_clean (x := x) (by omega)
        rw [hspH.out] at hsx
        injection hsx with hwx hws0
        have hws0 : ws = [] := by simpa using hws0
        subst hws0
        obtain rfl : 0 = n := hnw
        obtain ⟨d, hd⟩ : ∃ d, d = idxL vN x := ⟨_, rfl⟩
        have hdw : wf d := by
          have h1 := idxL_lt vN x
          have h2 : vN.length = 5 := rfl
          rw [h2, ← hd] at h1
          exact wf_small (by omega)
        have hpol := pol_good hxs.out hTiH.out (by rw [← HT.out]; exact HA.out) (by omega)
        rw [← hd] at hpol
        have HPR : Hid _ := HPS.out _ hpol
        have hrw : ∀ r ∈ rs, RuleWf r := fun r hr => by
          obtain ⟨y, _, e⟩ := allOf_mem ruleOf _ _ HA.out r hr
          exact ruleOf_all e
        obtain ⟨hhas, hatH⟩ : Maps.has D1 (.string w0.data.toList) = true ∧ Hid (D1.atKey (.string w0.data.toList) zed = .lit (.int .i64 d)) := by
          rcases D1_says x with ⟨_, h1, h2⟩ | ⟨h1, _⟩
          · rw [hwx]
            refine ⟨h1, ?_⟩
            unfold Hid
            rw [h2, hd]
          · omega
        clear hwx hpol hv
        obtain ⟨ra, rcap, rfl, _, _, _⟩ := ownsRow_caps HO.out
        have HF : Hid (∀ wF : World, (∀ g, PB + 1 ≤ g → g < wo.heap.size → wF.heap[g]? = wo.heap[g]?) → wo.heap.size ≤ wF.heap.size → PolAt wF.heap.size wF (.agg #[.slice ra i rcap, .int .i64 d]) (rs, d)) := by
          intro wF h1 h2
          have hO := HO.out
          rw [← hrs] at hO ⊢
          exact polAt_w (ownsRow_block hO fun g cur hg hh => h1 g hg (lt_of_block hh)) (RulesCells.step (fun g cur hg hh => h1 g hg (lt_of_block hh)) _ _ HR.out) hrw hdw (Nat.le_refl _)
        obtain ⟨pe, hpe⟩ : ∃ pe, pe = polErr (rs, d) := ⟨_, rfl⟩
        have hckC : Hid (∀ wF : World, (∀ g, PB + 1 ≤ g → g < wo.heap.size → wF.heap[g]? = wo.heap[g]?) → wo.heap.size ≤ wF.heap.size → Calls Tryz.prog 111 #[.agg #[.slice ra i rcap, .int .i64 d]] wF fun e w' => e = .returned (.int .i64 pe) ∧ Below wF.heap.size wF w') := fun wF h1 h2 => by rw [hpe]; exact checkPolicy_any _ _ _ _ (HF.out wF h1 h2) (Nat.le_refl _)
        have HPR1 : Hid (parseR s.data.toList = if pe = 0 then ((rs, d), 0) else (([], 0), pe)) := by unfold Hid; rw [hpe]; exact HPR.out
        clear hpe HPR hd hrw hdw
        by_cases hok : pe = 0
        · subst hok
          have HPR : Hid (parseR s.data.toList = ((rs, d), 0)) := by unfold Hid; rw [HPR1.out, if_pos rfl]
          clear HPR1
          go_wp2_with (first
            | (go_at_call 120; go_must (refine Calls.mono hcutC.out ?_; rintro e w1 ⟨rfl, hb1⟩))
            | (go_at_call 121; go_must (refine Calls.mono (splitC.out _ hb1) ?_; rintro e w2 ⟨SB, rfl, hb2, hSB, hSB2, hcells⟩; have hb12 := Below.thenOf hb1 hb2 hb1.size; have c0 := hcells 0 w0 rfl; have K1 := ownsMap_below K1o.out hb12 (by omega); have HP2 := (hb12.block PB hPr).trans HP.out; obtain ⟨p0, p1, pf0, pf1⟩ := cell_of_two HP2))
            | (at_lookup; go_must (refine wpList_lookup_own_ok_int _ rfl _ _ 106 rfl 9 3 .i64 keyStr Tryz.underlying106 Tryz.underlying3 (zero3 _) M1 5 _ rfl K1 _ _ rfl (WideMaps.keyOf_string_mk Tryz.underlying9 hw0) ?_; intro c hatc hwc; obtain rfl : c = d := lit_inj (hatc.symm.trans hatH.out)))
            | (go_at_call 111; go_must (refine Calls.mono (hckC.out (w2.setCell ⟨PB, 1, none⟩ (.int .i64 c)) (fun g h1 h2 => by rw [Below.heap_setCell _ _ _ _ (by show g ≠ PB; omega)]; exact hb12.block g h2) (by have := hb12.size; simpa using this)) ?_; rintro e w5 ⟨rfl, hb5⟩; have hs5 := hb5.size; have hs12 := hb12.size; have HP5 := (hb5.block PB (by simp; omega)).trans (two_setCell1 (u := .int .i64 c) HP2); obtain ⟨m0, m1, mf0, mf1⟩ := cell_of_two HP5; have HR5 := (hb5.block R0 (by simp; omega)).trans ((Below.heap_setCell _ _ _ _ (by show R0 ≠ PB; omega)).trans ((hb12.block R0 (by omega)).trans HRo.out)); obtain ⟨n0, n1, nf0, nf1⟩ := cell_of_two HR5)))
          have HRF := two_setCell1 (u := .int .i64 c) (two_setCell (u := .slice ra i rcap) HR5)
          obtain ⟨z0, z1, _, _⟩ := cell_of_two HRF
          have hbF : Below R0 w ((w5.setCell ⟨R0, 0, none⟩ (.slice ra i rcap)).setCell ⟨R0, 1, none⟩ (.int .i64 c)) := (((hbw.trans (hb12.mono (by omega))).setCell (p := ⟨PB, 1, none⟩) (by show R0 ≤ PB; omega) _).trans (hb5.mono (by simp; omega)) |>.setCell (p := ⟨R0, 0, none⟩) (Nat.le_refl _) _).setCell (p := ⟨R0, 1, none⟩) (Nat.le_refl _) _
          have hPA : PolNew R0 ((w5.setCell ⟨R0, 0, none⟩ (.slice ra i rcap)).setCell ⟨R0, 1, none⟩ (.int .i64 c)) (.agg #[.slice ra i rcap, .int .i64 c]) (rs, c) := fun wF hF1 hF2 => HF.out wF (fun g h1 h2 => by rw [hF1 g (by omega) (by simp at hs5 ⊢; omega), Below.heap_setCell _ _ _ _ (by show g ≠ R0; omega), Below.heap_setCell _ _ _ _ (by show g ≠ R0; omega), hb5.block g (by simp; omega), Below.heap_setCell _ _ _ _ (by show g ≠ PB; omega)]; exact hb12.block g h2) (Nat.le_trans (by simp at hs5 ⊢; omega) hF2)
          refine bodyPost_ret (v := .tuple #[.agg #[.slice ra i rcap, .int .i64 c], .int .i64 0]) ?_ rfl ⟨_, by rw [HPR.out], by rw [HPR.out, hR0]; exact hPA, by rw [hR0]; exact hbF⟩
          rw [results_cell_tmp rfl]
          go_simp
        · have HPR : Hid (parseR s.data.toList = (([], 0), pe)) := by unfold Hid; rw [HPR1.out, if_neg hok]
          have hpb : (pe == 0) = false := by simpa using hok
          clear HPR1
          go_wp2_with (first
            | (go_at_call 120; go_must (refine Calls.mono hcutC.out ?_; rintro e w1 ⟨rfl, hb1⟩))
            | (go_at_call 121; go_must (refine Calls.mono (splitC.out _ hb1) ?_; rintro e w2 ⟨SB, rfl, hb2, hSB, hSB2, hcells⟩; have hb12 := Below.thenOf hb1 hb2 hb1.size; have c0 := hcells 0 w0 rfl; have K1 := ownsMap_below K1o.out hb12 (by omega); have HP2 := (hb12.block PB hPr).trans HP.out; obtain ⟨p0, p1, pf0, pf1⟩ := cell_of_two HP2))
            | (at_lookup; go_must (refine wpList_lookup_own_ok_int _ rfl _ _ 106 rfl 9 3 .i64 keyStr Tryz.underlying106 Tryz.underlying3 (zero3 _) M1 5 _ rfl K1 _ _ rfl (WideMaps.keyOf_string_mk Tryz.underlying9 hw0) ?_; intro c hatc hwc; obtain rfl : c = d := lit_inj (hatc.symm.trans hatH.out)))
            | (go_at_call 111; go_must (refine Calls.mono (hckC.out (w2.setCell ⟨PB, 1, none⟩ (.int .i64 c)) (fun g h1 h2 => by rw [Below.heap_setCell _ _ _ _ (by show g ≠ PB; omega)]; exact hb12.block g h2) (by have := hb12.size; simpa using this)) ?_; rintro e w5 ⟨rfl, hb5⟩; have hs5 := hb5.size; have hs12 := hb12.size; have HR5 := (hb5.block R0 (by simp; omega)).trans ((Below.heap_setCell _ _ _ _ (by show R0 ≠ PB; omega)).trans ((hb12.block R0 (by omega)).trans HRo.out)); have hb5w := ((hbw.trans (hb12.mono (by omega))).setCell (p := ⟨PB, 1, none⟩) (by show R0 ≤ PB; omega) _).trans (hb5.mono (by simp; omega))))
            | (go_at_call 119; go_must (refine Calls.mono (bad_any _ _) ?_; rintro e wz ⟨rfl, hbz⟩; have HRz := (hbz.block R0 (by simp at hs5; omega)).trans HR5; have hbzw := hb5w.trans (hbz.mono (by simp at hs5; omega)); obtain ⟨n0, n1, nf0, nf1⟩ := cell_of_two HRz)))
          obtain ⟨hbF, z0, z1⟩ := bad_exit hbzw HRz
          refine bodyPost_ret (v := .tuple #[.agg #[.slice none 0 0, .int .i64 0], .int .i64 pe]) ?_ rfl ⟨_, by rw [HPR.out], by rw [HPR.out]; exact fun _ _ _ => polAt_zero _ _, by rw [hR0]; exact hbF⟩
          rw [results_cell_tmp rfl]
          go_simp
    · have hTi : i + 1 < T.length := by
        rcases Nat.lt_or_ge (i + 1) T.length with h | h
        · exact h
        · exact absurd (List.drop_eq_nil_iff.2 h) hlast
      have hTiH : Hid (i + 1 < (splitL 59 s.data.toList).length) := by unfold Hid; rw [← hTl.out]; exact hTi
      rw [if_neg hlast] at hlen
      obtain ⟨rest, hrest⟩ : ∃ rest, rest = T.drop (i + 1) := ⟨_, rfl⟩
      rw [← hrest] at hcut0 hlen hlast
      have hne : (!rest.isEmpty) = true := by cases rest with
        | nil => exact absurd rfl hlast
        | cons _ _ => rfl
      rw [hne] at hcut0
      have hcutC : Hid _ := cut_good s' (bsB x) (bsB (joinL 59 rest)) true mm wo (by omega) hmo hcut0
      have hs2 : (bsB (joinL 59 rest)).size = (joinL 59 rest).length := by rw [Lib.size_eq]; rfl
      have hrestH : Hid (rest = T.drop (i + 1)) := hrest
      have HBR : Hid (ruleOf x = none → parseR s.data.toList = (([], 0), 1)) := fun h => HPN.out (pol_badRule hxs.out hTiH.out h)
      have hxH : Hid (T[i]? = some x) := hx
      clear hcut0 hlast hrest hne hx
      generalize hnw : ws.length = n at *
      rcases D1_says w0.data.toList with ⟨hv0, hhas, hat⟩ | ⟨hv, hhas⟩
      case' inr =>
        have HPR : Hid (parseR s.data.toList = (([], 0), 1)) := HBR.out (rule_bad hspH.out hv)
        clear hv
        go_wp2_with (first
          | (go_at_call 120; go_must (refine Calls.mono hcutC.out ?_; rintro e w1 ⟨rfl, hb1⟩))
          | (go_at_call 121; go_must (refine Calls.mono (splitC.out _ hb1) ?_; rintro e w2 ⟨SB, rfl, hb2, hSB, hSB2, hcells⟩; have hb12 := Below.thenOf hb1 hb2 hb1.size; have c0 := hcells 0 w0 rfl; have K1 := ownsMap_below K1o.out hb12 (by omega)))
          | (at_lookup; go_must (refine wpList_lookup_own_ok_int _ rfl _ _ 106 rfl 9 3 .i64 keyStr Tryz.underlying106 Tryz.underlying3 (zero3 _) M1 5 _ rfl K1 _ _ rfl (WideMaps.keyOf_string_mk Tryz.underlying9 hw0) ?_; intro c hatc hwc))
          | (go_at_call 119; go_must (refine Calls.mono (bad_any _ _) ?_; rintro e wz ⟨rfl, hbz⟩; obtain ⟨HRz, hbzw⟩ := HRbad.out wz (Below.thenOf hb12 hbz hb12.size); obtain ⟨n0, n1, nf0, nf1⟩ := cell_of_two HRz)))
        obtain ⟨hbF, z0, z1⟩ := bad_exit hbzw HRz
        refine bodyPost_ret (v := .tuple #[.agg #[.slice none 0 0, .int .i64 0], .int .i64 1]) ?_ rfl ⟨_, by rw [HPR.out], by rw [HPR.out]; exact fun _ _ _ => polAt_zero _ _, by rw [hR0]; exact hbF⟩
        rw [results_cell_tmp rfl]
        go_simp
      obtain ⟨vd, hvd⟩ : ∃ vd, vd = idxL vN w0.data.toList := ⟨_, rfl⟩
      rw [← hvd] at hat hv0
      have hatH : Hid (D1.atKey (.string w0.data.toList) zed = .lit (.int .i64 vd)) := hat
      have HRG : Hid (∀ cs, allOf condOf (ws.map (fun p : ByteArray => p.data.toList)) = some cs → ruleOf x = some (cs, vd)) := fun cs h => by rw [hvd]; exact rule_good hspH.out (by omega) h
      have HWB : Hid (∀ (j : Nat) u, ws[j]? = some u → condOf u.data.toList = none → parseR s.data.toList = (([], 0), 1)) := fun j u hu hc => HBR.out (rule_badWord hspH.out (j := j) (u := u.data.toList) (by rw [List.getElem?_map, hu]; rfl) hc)
      have K2o : Hid (wo.ownsMap Tryz.prog 9 (plainElem Tryz.prog 3) M2 5 D2) := ownsMap_below L5'.out.2.2.2.1 hbr h2P
      have K3o : Hid (wo.ownsMap Tryz.prog 5 (plainElem Tryz.prog 3) M3 4 D3) := ownsMap_below L5'.out.2.2.2.2.1 hbr h3P
      have hEo : Hid (∀ w', Below wo.heap.size wo w' → EnvT w') := fun w' h => HE.out w' (hbw.trans (h.mono (by omega)))
      have HN : Hid (i + s'.size ≤ 60000 ∧ x.length + (1 + (joinL 59 rest).length) = s'.size ∧ (bsB (joinL 59 rest)).size = (joinL 59 rest).length ∧ n ≤ 60000 ∧ ws.length = n ∧ rs.length = i ∧ i + 1 < T.length) := ⟨hi60, hlen.symm, hs2, hwn60, hnw, hrs, hTi⟩
      clear hat hvd hv0 HBR hi60 hlen hs2 hwn60 hnw hrs hTi hw060 hs60 hT0 hi
      by_cases hn0 : n = 0
      · subst hn0
        go_wp2_with (first
          | (go_at_call 120; go_must (refine Calls.mono hcutC.out ?_; rintro e w1 ⟨rfl, hb1⟩))
          | (go_at_call 121; go_must (refine Calls.mono (splitC.out _ hb1) ?_; rintro e w2 ⟨SB, rfl, hb2, hSB, hSB2, hcells⟩; have hb12 := Below.thenOf hb1 hb2 hb1.size; have c0 := hcells 0 w0 rfl; have K1 := ownsMap_below K1o.out hb12 (by omega)))
          | (at_lookup; go_must (refine wpList_lookup_own_ok_int _ rfl _ _ 106 rfl 9 3 .i64 keyStr Tryz.underlying106 Tryz.underlying3 (zero3 _) M1 5 _ rfl K1 _ _ rfl (WideMaps.keyOf_string_mk Tryz.underlying9 hw0) ?_; intro c hatc hwc; obtain rfl : c = vd := lit_inj (hatc.symm.trans hatH.out))))
        have hb7 : Below w2.heap.size w2 (w2.alloc (.cells #[.slice none 0 0, .int .i64 c] 79)) := (Below.refl _ _).alloc (Nat.le_refl _) _
        have hR7 : Hid ((w2.alloc (.cells #[.slice none 0 0, .int .i64 c] 79)).heap[w2.heap.size]? = some (.cells #[.slice none 0 0, .int .i64 c] 79 (0, 0))) := (MapKept.heap_alloc w2 _).1
        have hz7 : w2.heap.size < (w2.alloc (.cells #[.slice none 0 0, .int .i64 c] 79)).heap.size := by simp
        have hb27 : Below wo.heap.size wo (w2.alloc (.cells #[.slice none 0 0, .int .i64 c] 79)) := Below.thenOf hb12 hb7 hb12.size
        have hcells' : Hid (∀ (j : Nat) u, (w0 :: ws)[j]? = some u → (w2.alloc (.cells #[.slice none 0 0, .int .i64 c] 79)).cell? ⟨SB, j, none⟩ = some (.string u)) := fun j u h => (hb7.cell (p := ⟨SB, j, none⟩) hSB2).trans (hcells j u h)
        have hs12 := hb12.size
        have hwc' : Hid (wf c) := hwc
        clear hcells c0 K1 hatc hwc hb7
        generalize w2.alloc (.cells #[.slice none 0 0, .int .i64 c] 79) = W7 at *
        generalize w2.heap.size = RB at *
        go_loopw [70] (fun jv wi => ∃ (j : Nat) (cv : Value) (cs : List CondT), j ≤ 0 ∧ jv = .int .i64 j ∧ Hid (allOf condOf ((ws.map (fun p : ByteArray => p.data.toList)).take j) = some cs) ∧ Hid (cs.length = j) ∧ Below RB W7 wi ∧ Hid (wi.heap[RB]? = some (.cells #[cv, .int .i64 c] 79 (0, 0))) ∧ Hid (wi.ownsRow (RB + 1) 83 3 cv j (condCells cs)) ∧ RB < wi.heap.size) (fun jv _ => 0 - (intOf jv).toNat)
        case atStart => exact ⟨0, .slice none 0 0, [], Nat.zero_le _, rfl, rfl, rfl, Below.refl _ _, hR7, ⟨rfl, .inl ⟨rfl, rfl⟩⟩, hz7⟩
        case round =>
          obtain ⟨j, cv, cs, hj, rfl, HAC, hcsl, hbi, HRB, HOw, hRi⟩ := hrel
          obtain ⟨wi, hwi⟩ : ∃ x, x = wr := ⟨_, rfl⟩
          subst hwi
          have j0 : (0 : Int) ≤ (j : Int) := by omega
          rcases Nat.lt_or_ge j 0 with hjl | hjl
          · exact absurd hjl (Nat.not_lt_zero _)
          · obtain rfl : j = 0 := by omega
            have hboi : Below wo.heap.size wo wi := hb27.trans (hbi.mono (by omega))
            have hszi := hboi.size
            have hACf : Hid (ruleOf x = some (cs, c)) := HRG.out cs (by have := HAC.out; rw [List.take_of_length_le (by rw [List.length_map, HN.out.2.2.2.2.1]; exact Nat.le_refl _)] at this; exact this)
            have HPi : wi.heap[PB]? = some (.cells #[rv, .int .i64 0] 24 (0, 0)) := (hboi.block PB hPr).trans HP.out
            have HOi := ownsRow_below HO.out hboi
            have HCi : wi.ownsRow (RB + 1) 83 3 cv cs.length (condCells cs) := by
              rw [hcsl.out]
              exact HOw.out
            have HRi := RulesCells.step (w' := wi) (fun g cur _ hg => hboi.block g (lt_of_block hg)) _ _ HR.out
            obtain ⟨gc, capc, rfl, _, _, _⟩ := ownsRow_caps HOw.out
            obtain ⟨p0, p1, pf0, pf1⟩ := cell_of_two HPi
            obtain ⟨b0, b1, bf0, bf1⟩ := cell_of_two HRB.out
            have HPi' : Hid _ := HPi
            have HOi' : Hid (wi.ownsRow (PB + 1) 79 2 rv i xs) := HOi
            have HCi' : Hid (wi.ownsRow (RB + 1) 83 3 (.slice gc 0 capc) cs.length (condCells cs)) := HCi
            have HRi' : Hid (RulesCells (PB + 1) wi rs xs) := HRi
            clear HPi HOi HCi HRi
            obtain ⟨inf, hi1, hi2, hi3, hi4⟩ := infoRule
            have news : Hid (∀ X, X = Obj.cells #[.slice gc 0 capc, .int .i64 c] 79 → ∀ q v, [Value.slice gc 0 capc, .int .i64 c][q]? = some v → (wi.alloc X).cell? ((⟨wi.heap.size, 0, none⟩ : Addr).add q) = some v) := by
              intro X hX q v hq
              subst hX
              have : q < 2 := by have := (List.getElem?_eq_some_iff.1 hq).1; simpa using this
              have : q = 0 ∨ q = 1 := by omega
              rcases this with rfl | rfl <;> simp at hq <;> subst hq <;> simp [go_sem, Addr.add]
            have HP2 : Hid (∀ X, (wi.alloc X).ownsRow (PB + 1) 79 2 rv i xs) := fun X => ownsRow_below HOi'.out ((Below.refl _ _).alloc (Nat.le_refl _) X)
            go_wp2_with (first
              | (at_builtin; refine wpList_append_own _ rfl _ _ 22 rfl (PB + 1) 79 inf _ 2 32 Tryz.underlying22 hi1 hi2 hi3 hi4 rfl (by decide) rv i xs rfl (HP2.out _) ⟨wi.heap.size, 0, none⟩ 1 1 [.slice gc 0 capc, .int .i64 c] rfl rfl (news.out _ rfl) (by simp [Value.oneCell']) (by have := maxLen_eq; have := HN.out.1; omega) (by have := HN.out.1; omega) (by simp; omega) ?_; go_must (intro v' wk hownk hgrk hnilk; obtain ⟨gk, capk, rfl, hgk⟩ := ownsRow_shape hownk (by omega); have HPk := (hgrk.block PB (by simp; omega) (fun h => by have := ownsRow_ge HOi'.out PB h.symm; omega)).trans ((Below.heap_alloc _ _ _ (by omega)).trans HPi'.out); obtain ⟨k0, k1, kf0, kf1⟩ := cell_of_two HPk)))
            have hbk : ∀ (g : Nat) (cur : Array Value), PB + 1 ≤ g → wi.heap[g]? = some (.cells cur 83 (0, 0)) → (wk.setCell ⟨PB, 0, none⟩ (.slice (some ⟨gk, 0, none⟩) (i + 1) capk)).heap[g]? = wi.heap[g]? := by
              intro g cur hg hh
              have hgl := lt_of_block hh
              rw [Below.heap_setCell _ _ _ _ (by show g ≠ PB; omega), hgrk.block g (by simp; omega) (fun h => ?_), Below.heap_alloc _ _ _ hgl]
              obtain ⟨cur', h'⟩ := ownsRow_tag HOi'.out g h.symm
              rw [hh] at h'
              simp at h'
            have hbF : Below PB W (wk.setCell ⟨PB, 0, none⟩ (.slice (some ⟨gk, 0, none⟩) (i + 1) capk)) := (((Below.thenOf hbr hboi (by omega)).alloc (by omega) _).grown hgrk (by simp; omega) (fun k hk => by have := ownsRow_ge HOi'.out k hk; omega)).setCell (Nat.le_refl _) _
            have hck := ownsRow_block (ownsRow_base HCi'.out (by omega : PB + 1 ≤ RB + 1)) hbk
            have hRk := RulesCells.push (cs, c) _ hck _ _ (RulesCells.step hbk _ _ HRi'.out)
            obtain ⟨hi60, hlen, hs2, hwn60, hnw, hrs, hTi⟩ := HN.out
            refine ⟨⟨i + 1, bsB (joinL 59 rest), _, _, rs ++ [(cs, c)], rfl, hTi, by unfold Hid; rw [← hrestH.out]; rfl, allOf_take ruleOf T i x hxH.out rs HA.out (cs, c) hACf.out, by rw [List.length_append, hrs]; rfl, by omega, hbF, two_setCell HPk, ownsRow_setCell_other hownk (a := ⟨PB, 0, none⟩) (by simp [Value.ownBlock]; omega) _, hRk, by have := lt_of_block HPk; simpa using this⟩, by simp only [strLen]; omega⟩
      · have n0 : (0 : Int) < (n : Int) := by omega
        go_wp2_with (first
          | (go_at_call 120; go_must (refine Calls.mono hcutC.out ?_; rintro e w1 ⟨rfl, hb1⟩))
          | (go_at_call 121; go_must (refine Calls.mono (splitC.out _ hb1) ?_; rintro e w2 ⟨SB, rfl, hb2, hSB, hSB2, hcells⟩; have hb12 := Below.thenOf hb1 hb2 hb1.size; have c0 := hcells 0 w0 rfl; have K1 := ownsMap_below K1o.out hb12 (by omega)))
          | (at_lookup; go_must (refine wpList_lookup_own_ok_int _ rfl _ _ 106 rfl 9 3 .i64 keyStr Tryz.underlying106 Tryz.underlying3 (zero3 _) M1 5 _ rfl K1 _ _ rfl (WideMaps.keyOf_string_mk Tryz.underlying9 hw0) ?_; intro c hatc hwc; obtain rfl : c = vd := lit_inj (hatc.symm.trans hatH.out))))
        have hb7 : Below w2.heap.size w2 (w2.alloc (.cells #[.slice none 0 0, .int .i64 c] 79)) := (Below.refl _ _).alloc (Nat.le_refl _) _
        have hR7 : Hid ((w2.alloc (.cells #[.slice none 0 0, .int .i64 c] 79)).heap[w2.heap.size]? = some (.cells #[.slice none 0 0, .int .i64 c] 79 (0, 0))) := (MapKept.heap_alloc w2 _).1
        have hz7 : w2.heap.size < (w2.alloc (.cells #[.slice none 0 0, .int .i64 c] 79)).heap.size := by simp
        have hb27 : Below wo.heap.size wo (w2.alloc (.cells #[.slice none 0 0, .int .i64 c] 79)) := Below.thenOf hb12 hb7 hb12.size
        have hcells' : Hid (∀ (j : Nat) u, (w0 :: ws)[j]? = some u → (w2.alloc (.cells #[.slice none 0 0, .int .i64 c] 79)).cell? ⟨SB, j, none⟩ = some (.string u)) := fun j u h => (hb7.cell (p := ⟨SB, j, none⟩) hSB2).trans (hcells j u h)
        have hs12 := hb12.size
        have hwc' : Hid (wf c) := hwc
        clear hcells c0 K1 hatc hwc hb7
        generalize w2.alloc (.cells #[.slice none 0 0, .int .i64 c] 79) = W7 at *
        generalize w2.heap.size = RB at *
        go_loopw [70] (fun jv wi => ∃ (j : Nat) (cv : Value) (cs : List CondT), j ≤ n ∧ jv = .int .i64 j ∧ Hid (allOf condOf ((ws.map (fun p : ByteArray => p.data.toList)).take j) = some cs) ∧ Hid (cs.length = j) ∧ Below RB W7 wi ∧ Hid (wi.heap[RB]? = some (.cells #[cv, .int .i64 c] 79 (0, 0))) ∧ Hid (wi.ownsRow (RB + 1) 83 3 cv j (condCells cs)) ∧ RB < wi.heap.size) (fun jv _ => n - (intOf jv).toNat)
        case atStart => exact ⟨0, .slice none 0 0, [], Nat.zero_le _, rfl, rfl, rfl, Below.refl _ _, hR7, ⟨rfl, .inl ⟨rfl, rfl⟩⟩, hz7⟩
        case round =>
          obtain ⟨j, cv, cs, hj, rfl, HAC, hcsl, hbi, HRB, HOw, hRi⟩ := hrel
          obtain ⟨wi, hwi⟩ : ∃ x, x = wr := ⟨_, rfl⟩
          subst hwi
          have j0 : (0 : Int) ≤ (j : Int) := by omega
          rcases Nat.lt_or_ge j n with hjl | hjl
          · have j1 : (j : Int) < (n : Int) := by omega
            obtain ⟨u, hu⟩ : ∃ u, ws[j]? = some u := ⟨ws[j]'(by have := HN.out.2.2.2.2.1; omega), by simp⟩
            have hu32 : u.size ≤ 60000 := hws60'.out u (List.mem_of_getElem? hu)
            have hcu : wi.cell? ⟨SB, 1 + j, none⟩ = some (.string u) := (hbi.cell (p := ⟨SB, 1 + j, none⟩) (by show SB < RB; omega)).trans (hcells'.out (1 + j) u (by rw [Nat.add_comm]; simpa using hu))
            have huT : Hid ((ws.map (fun p : ByteArray => p.data.toList))[j]? = some u.data.toList) := by unfold Hid; rw [List.getElem?_map, hu]; rfl
            have HCB : Hid (condOf u.data.toList = none → parseR s.data.toList = (([], 0), 1)) := HWB.out j u hu
            obtain ⟨K, hKle, hzr, hcase⟩ := opIdx u.data.toList
            rw [← Lib.size_eq] at hKle hcase
            have hzr' : Hid (∀ i, i < K → opNum (u.data.toList.getD i 0) = 0) := hzr
            have hcase' : Hid _ := hcase
            have hboi : Below wo.heap.size wo wi := hb27.trans (hbi.mono (by omega))
            have hwisz := hboi.size
            have K3 : wi.ownsMap Tryz.prog 5 (plainElem Tryz.prog 3) M3 4 D3 := ownsMap_below K3o.out hboi (by omega)
            have hlk : Hid (∀ i, (Instr.lookup 164 (.map (some M3)) (.int .u8 (u.data.toList.getD i 0).toNat) false).run Tryz.prog wi = .ok (.int .i64 (opNum (u.data.toList.getD i 0))) wi) := by
              intro i
              obtain ⟨c', h1, h2, _⟩ := K3.lookup_int keyU8 Tryz.underlying164 Tryz.underlying3 (zero3 _) (keyOf_int_mk Tryz.underlying5 (a := (u.data.toList.getD i 0).toNat) (WalkArith.wf_u8 (by have := (u.data.toList.getD i 0).toNat_lt; omega)))
              obtain rfl : c' = opNum (u.data.toList.getD i 0) := lit_inj (h2.symm.trans (D3_says _))
              exact h1
            clear hzr hcase K3 hu
            go_wp2
            go_loop [18] (fun kv => ∃ k : Nat, k ≤ K ∧ kv = .int .i64 k) (fun kv => K - (intOf kv).toNat)
            case atStart => exact ⟨0, Nat.zero_le _, rfl⟩
            case round =>
              obtain ⟨k, hk, rfl⟩ := hrel
              have k0 : (0 : Int) ≤ (k : Int) := by omega
              by_cases hkl : k < K
              · have k1 : (k : Int) < (u.size : Int) := by omega
                have hrun := hlk.out k
                rw [hzr'.out k hkl, getD_eq u k (by omega)] at hrun
                go_wp2
                exact ⟨⟨k + 1, by omega, by go_num⟩, by simp [intOf]; omega⟩
              · obtain rfl : k = K := by omega
                rcases hcase'.out with ⟨hKe, hcn⟩ | ⟨hKl, hop0, hcond⟩
                · have HPR : Hid (parseR s.data.toList = (([], 0), 1)) := HCB.out hcn
                  have hkb : ¬ ((k : Int) < (u.size : Int)) := by omega
                  have hku : ((k : Int) == (u.size : Int)) = true := by simp; omega
                  clear hcn
                  go_wp2_with (first
                    | (go_at_call 119; go_must (refine Calls.mono (bad_any _ _) ?_; rintro e wz ⟨rfl, hbz⟩; obtain ⟨HRz, hbzw⟩ := HRbad.out wz (Below.thenOf hboi hbz hboi.size); obtain ⟨n0, n1, nf0, nf1⟩ := cell_of_two HRz)))
                  obtain ⟨hbF, z0, z1⟩ := bad_exit hbzw HRz
                  refine bodyPost_ret (v := .tuple #[.agg #[.slice none 0 0, .int .i64 0], .int .i64 1]) ?_ rfl ⟨_, by rw [HPR.out], by rw [HPR.out]; exact fun _ _ _ => polAt_zero _ _, by rw [hR0]; exact hbF⟩
                  rw [results_cell_tmp rfl]
                  go_simp
                · obtain ⟨ob, hob⟩ : ∃ ob, ob = opNum (u.data.toList.getD k 0) := ⟨_, rfl⟩
                  rw [← hob] at hop0 hcond
                  have hrun := hlk.out k
                  rw [← hob, getD_eq u k (by omega)] at hrun
                  have hobH : Hid (ob = opNum (u.data.toList.getD k 0)) := hob
                  have k1 : (k : Int) < (u.size : Int) := by omega
                  have hc0 : (ob == 0) = false := by simpa using hop0
                  have hku : ((k : Int) == (u.size : Int)) = false := by simp; omega
                  have K2 : wi.ownsMap Tryz.prog 9 (plainElem Tryz.prog 3) M2 5 D2 := ownsMap_below K2o.out hboi (by omega)
                  have hsx : (u.extract 0 k).size ≤ maxLen := by have := maxLen_eq; simp; omega
                  have hwh := whole_any (u.extract (k + 1) u.size) (by simp; omega) wi (hEo.out wi hboi)
                  rw [extract_drop] at hwh
                  have hD2 := D2_says (u.extract 0 k).data.toList
                  have hex : (u.extract 0 k).data.toList = u.data.toList.take k := extract_take u k
                  rw [← hex] at hcond
                  obtain ⟨fx, hfx⟩ : ∃ fx, fx = idxL fN (u.extract 0 k).data.toList := ⟨_, rfl⟩
                  rw [← hfx] at hcond hD2
                  have hexH : Hid ((u.extract 0 k).data.toList = u.data.toList.take k) := hex
                  clear hob hex hfx
                  have hbad : (fx < 0 ∧ Maps.has D2 (.string (u.extract 0 k).data.toList) = false) ∨ Hid (0 ≤ fx ∧ D2.atKey (.string (u.extract 0 k).data.toList) zed = .lit (.int .i64 fx)) ∧ Maps.has D2 (.string (u.extract 0 k).data.toList) = true := by
                    rcases hD2 with ⟨h1, h2, h3⟩ | h
                    · exact .inr ⟨⟨h1, h3⟩, h2⟩
                    · exact .inl h
                  clear hD2
                  rcases hbad with ⟨hf0, hf1⟩ | ⟨hf3, hf1⟩
                  · have hf1t : Maps.has D2 (.string (u.data.toList.take k)) = false := by rw [← hexH.out]; exact hf1
                    have HPR : Hid (parseR s.data.toList = (([], 0), 1)) := HCB.out (by rw [hcond]; cases numOf (u.data.toList.drop (k + 1)) with
                      | none => rfl
                      | some m => simp only []; rw [if_pos hf0])
                    have hwh' : Hid _ := hwh
                    clear hcond hf0 hwh hop0
                    go_wp2_with (first
                      | (at_lookup; refine wpList_lookup_own_ok_int _ rfl _ _ 106 rfl 9 3 .i64 keyStr Tryz.underlying106 Tryz.underlying3 (zero3 _) M2 5 _ rfl K2 _ _ rfl (WideMaps.keyOf_string_mk Tryz.underlying9 hsx) ?_; go_must (intro fc hatf hwf2))
                      | (go_at_call 69; go_must (refine Calls.mono hwh'.out ?_; rintro e wj ⟨nn, okk, rfl, _, _, hbj⟩))
                      | (go_at_call 119; go_must (refine Calls.mono (bad_any _ _) ?_; rintro e wz ⟨rfl, hbz⟩; obtain ⟨HRz, hbzw⟩ := HRbad.out wz (Below.thenOf hboi (Below.thenOf hbj hbz hbj.size) hboi.size); obtain ⟨n0, n1, nf0, nf1⟩ := cell_of_two HRz)))
                    obtain ⟨hbF, z0, z1⟩ := bad_exit hbzw HRz
                    refine bodyPost_ret (v := .tuple #[.agg #[.slice none 0 0, .int .i64 0], .int .i64 1]) ?_ rfl ⟨_, by rw [HPR.out], by rw [HPR.out]; exact fun _ _ _ => polAt_zero _ _, by rw [hR0]; exact hbF⟩
                    rw [results_cell_tmp rfl]
                    go_simp
                  have hf1t : Maps.has D2 (.string (u.data.toList.take k)) = true := by rw [← hexH.out]; exact hf1
                  cases hnd : numOf (u.data.toList.drop (k + 1)) with
                  | none =>
                    rw [hnd] at hcond hwh
                    have HPR : Hid (parseR s.data.toList = (([], 0), 1)) := HCB.out hcond
                    have hwh' : Hid (Calls Tryz.prog 69 #[.string (u.extract (k + 1) u.size)] wi fun e w' => ∃ nn, e = .returned (.tuple #[.int .i64 nn, .bool false]) ∧ Below wi.heap.size wi w') := by
                      refine Calls.mono hwh ?_
                      rintro e w' ⟨nn, okk, rfl, h1, _, h3⟩
                      cases okk with
                      | true => cases h1
                      | false => exact ⟨nn, rfl, h3⟩
                    clear hcond hwh hnd hop0
                    go_wp2_with (first
                      | (at_lookup; refine wpList_lookup_own_ok_int _ rfl _ _ 106 rfl 9 3 .i64 keyStr Tryz.underlying106 Tryz.underlying3 (zero3 _) M2 5 _ rfl K2 _ _ rfl (WideMaps.keyOf_string_mk Tryz.underlying9 hsx) ?_; go_must (intro fc hatf hwf2))
                      | (go_at_call 69; go_must (refine Calls.mono hwh'.out ?_; rintro e wj ⟨nn, rfl, hbj⟩))
                      | (go_at_call 119; go_must (refine Calls.mono (bad_any _ _) ?_; rintro e wz ⟨rfl, hbz⟩; obtain ⟨HRz, hbzw⟩ := HRbad.out wz (Below.thenOf hboi (Below.thenOf hbj hbz hbj.size) hboi.size); obtain ⟨n0, n1, nf0, nf1⟩ := cell_of_two HRz)))
                    obtain ⟨hbF, z0, z1⟩ := bad_exit hbzw HRz
                    refine bodyPost_ret (v := .tuple #[.agg #[.slice none 0 0, .int .i64 0], .int .i64 1]) ?_ rfl ⟨_, by rw [HPR.out], by rw [HPR.out]; exact fun _ _ _ => polAt_zero _ _, by rw [hR0]; exact hbF⟩
                    rw [results_cell_tmp rfl]
                    go_simp
                  | some m =>
                    rw [hnd] at hcond hwh
                    have hcondH : Hid (condOf u.data.toList = some (fx, ob, m)) := by
                      unfold Hid
                      rw [hcond]
                      simp only []
                      rw [if_neg (by have := hf3.out.1; omega)]
                    have hwh' : Hid (Calls Tryz.prog 69 #[.string (u.extract (k + 1) u.size)] wi fun e w' => e = .returned (.tuple #[.int .i64 m, .bool true]) ∧ Below wi.heap.size wi w') := by
                      refine Calls.mono hwh ?_
                      rintro e w' ⟨nn, okk, rfl, h1, _, h3⟩
                      cases okk with
                      | true => cases h1; exact ⟨rfl, h3⟩
                      | false => cases h1
                    clear hcond hwh hnd hop0
                    go_wp2_with (first
                      | (at_lookup; refine wpList_lookup_own_ok_int _ rfl _ _ 106 rfl 9 3 .i64 keyStr Tryz.underlying106 Tryz.underlying3 (zero3 _) M2 5 _ rfl K2 _ _ rfl (WideMaps.keyOf_string_mk Tryz.underlying9 hsx) ?_; go_must (intro fc hatf hwf2; obtain rfl : fc = fx := lit_inj (hatf.symm.trans hf3.out.2)))
                      | (go_at_call 69; go_must (refine Calls.mono hwh'.out ?_; rintro e wj ⟨rfl, hbj⟩)))
                    have hsj := hbj.size
                    obtain ⟨W0, hW0⟩ : ∃ W0, W0 = wj.drew := ⟨_, rfl⟩
                    have hbjd : Below wi.heap.size wi W0 := by rw [hW0]; exact hbj.drew
                    have hbij : Below RB W7 W0 := Below.thenOf hbi hbjd (by omega)
                    have hboj : Below wo.heap.size wo W0 := Below.thenOf hboi hbjd hboi.size
                    have HRB0 : W0.heap[RB]? = some (.cells #[cv, .int .i64 c] 79 (0, 0)) := by
                      have := hbjd.block RB hRi
                      rw [HRB.out] at this
                      exact this
                    have HOw0 : W0.ownsRow (RB + 1) 83 3 cv j (condCells cs) := ownsRow_below HOw.out hbjd
                    have K30 : W0.ownsMap Tryz.prog 5 (plainElem Tryz.prog 3) M3 4 D3 := ownsMap_below K3o.out hboj (by omega)
                    have hz0 : RB + 1 ≤ W0.heap.size := by have := hbjd.size; omega
                    clear hrun
                    obtain ⟨W1, hW1⟩ : ∃ W1, W1 = W0.alloc (.cells #[.int .i64 fc, .int .i64 ob, .int .i64 m] 83) := ⟨_, rfl⟩
                    have hb01 : Below W0.heap.size W0 W1 := by rw [hW1]; exact (Below.refl _ _).alloc (Nat.le_refl _) _
                    have HOw1 := ownsRow_below HOw0 hb01
                    have c30 : ∀ q v, [Value.int .i64 fc, .int .i64 ob, .int .i64 m][q]? = some v → W1.cell? ((⟨W0.heap.size, 0, none⟩ : Addr).add q) = some v := by
                      intro q v hq
                      have : q < 3 := by have := (List.getElem?_eq_some_iff.1 hq).1; simpa using this
                      have : q = 0 ∨ q = 1 ∨ q = 2 := by omega
                      rw [hW1]
                      rcases this with rfl | rfl | rfl <;> simp at hq <;> subst hq <;> simp [go_sem, Addr.add]
                    have hcl2 : j ≤ 4294967280 := by have := HN.out.2.2.2.1; omega
                    obtain ⟨inf, hi1, hi2, hi3, hi4⟩ := infoCond
                    obtain ⟨v2, W2, hr2, HOw2, hg2, hnil⟩ := run_append_own (P := Tryz.prog) W1 (RB + 1) 77 77 83 inf _ 3 24 Tryz.underlying77 hi1 hi2 hi3 hi4 rfl (by decide) cv j (condCells cs) HOw1 ⟨W0.heap.size, 0, none⟩ 1 1 [.int .i64 fc, .int .i64 ob, .int .i64 m] rfl c30 (by simp [Value.oneCell']) (by have := maxLen_eq; omega) (by omega) (by have := hb01.size; omega)
                    have HRB1 : W1.heap[RB]? = some (.cells #[cv, .int .i64 c] 79 (0, 0)) := (hb01.block RB (by omega)).trans HRB0
                    have hs01 := hb01.size
                    have hcvn : cv.ownBlock ≠ some RB := by
                      intro h
                      obtain ⟨_, ⟨h2, _⟩ | ⟨g, cap, cur, rfl, h3, _⟩⟩ := HOw1
                      · rw [h2] at h; cases h
                      · simp [Value.ownBlock] at h; omega
                    have HRB2 : W2.heap[RB]? = some (.cells #[cv, .int .i64 c] 79 (0, 0)) := (hg2.block RB (by omega) (fun h => hcvn h.symm)).trans HRB1
                    have K31 := ownsMap_below K30 hb01 (by omega)
                    have hcvm : some M3 ≠ cv.ownBlock := by
                      intro h
                      obtain ⟨_, ⟨h2, _⟩ | ⟨g, cap, cur, rfl, h3, _⟩⟩ := HOw1
                      · rw [h2] at h; cases h
                      · simp [Value.ownBlock] at h; omega
                    have K32 := K31.kept hg2 hcvm
                    have lk : ∀ W, W.ownsMap Tryz.prog 5 (plainElem Tryz.prog 3) M3 4 D3 → (Instr.lookup 164 (.map (some M3)) (.int .u8 (u[k]'(by omega)).toNat) false).run Tryz.prog W = .ok (.int .i64 ob) W := by
                      intro W hW
                      obtain ⟨c', h1, h2, _⟩ := hW.lookup_int keyU8 Tryz.underlying164 Tryz.underlying3 (zero3 _) (keyOf_int_mk Tryz.underlying5 (a := (u.data.toList.getD k 0).toNat) (WalkArith.wf_u8 (by have := (u.data.toList.getD k 0).toNat_lt; omega)))
                      obtain rfl : c' = ob := (lit_inj (h2.symm.trans (D3_says _))).trans hobH.out.symm
                      rw [getD_eq u k (by omega)] at h1
                      exact h1
                    have hne := Three.ne W0 W1 W2
                    have q0 : ∀ x : Three W0 W1 W2, x.1.cell? ⟨RB, 0, none⟩ = some cv := Three.all (p := fun w => w.cell? ⟨RB, 0, none⟩ = some cv) (cell_of_two HRB0).1 (cell_of_two HRB1).1 (cell_of_two HRB2).1
                    have q1 : ∀ x : Three W0 W1 W2, (Instr.lookup 164 (.map (some M3)) (.int .u8 (u[k]'(by omega)).toNat) false).run Tryz.prog x.1 = .ok (.int .i64 ob) x.1 := Three.all (p := fun w => (Instr.lookup 164 (.map (some M3)) (.int .u8 (u[k]'(by omega)).toNat) false).run Tryz.prog w = .ok (.int .i64 ob) w) (lk _ K30) (lk _ K31) (lk _ K32)
                    have hkb : (k : Int) < (u.size : Int) := by omega
                    have HW0 : Hid (W0 = wj.drew) := hW0
                    have HW1 : Hid (W1 = W0.alloc (.cells #[.int .i64 fc, .int .i64 ob, .int .i64 m] 83)) := hW1
                    have Hr2 : Hid ((Builtin.append_ #[77, 77] 77 #[cv, .slice (some ⟨W0.heap.size, 0, none⟩) 1 1]).run Tryz.prog W1 = .ok v2 W2) := hr2
                    have hcvb : Hid (∀ k, cv.ownBlock = some k → RB ≤ k) := by
                      intro k h
                      obtain ⟨_, ⟨h2, _⟩ | ⟨g, cap, cur, rfl, h3, _⟩⟩ := HOw1
                      · rw [h2] at h; cases h
                      · simp [Value.ownBlock] at h; omega
                    clear K30 K31 K32 lk HRB0 HRB1 HOw0 HOw1 hcvn hcvm hW0 hW1 hr2 c30
                    refine wp_region_staged_lit [_, _, _, _, _, _, _, _, _, _, _, _, _] _ rfl (fun k => k == 10 || k == 11) (threeC W0 W1 W2) (fun w => ∃ x : Three W0 W1 W2, w = x.1) (by kernel_rfl) (by kernel_rfl) threeC_in (.inl ⟨rfl, HW0.out.symm⟩) ?_
                    repeat (refine wpT_read rfl rfl ?_; go_big_quiet_step (fail); refine wpQuiet_nil ?_)
                    refine wpT_write rfl rfl (.slice (some ⟨W0.heap.size, 0, none⟩) 1 1) (fun w hw => ⟨W1, .inr (.inl ⟨rfl, rfl⟩), ?_⟩) ?_
                    · rw [threeC_0 hw, HW1.out]
                      clear HW1
                      go_simp
                    refine wpT_write rfl rfl v2 (fun w hw => ⟨W2, .inr (.inr ⟨rfl, rfl⟩), ?_⟩) ?_
                    · rw [threeC_1 hw]
                      have hr2 := Hr2.out
                      unfold execOp
                      simp only [resolve, invoke, builtin, Sem.run_bind, Sem.run_pure, Result.andThen_ok, List.map_toArray, List.map_cons, List.map_nil]
                      exact (congrArg (fun r => Result.andThen r fun v w => .ok (Next.value v) w) hr2)
                    simp only [Act.put, List.setIfInBounds_toArray, List.set_cons_succ, List.set_cons_zero]
                    repeat (refine wpT_read rfl rfl ?_; go_big_quiet_step (fail); refine wpQuiet_nil ?_)
                    refine wpT_nil ?_
                    intro wx hwx
                    rw [threeC_2 hwx]
                    clear q0 q1 hne hwx wx
                    obtain ⟨g2, cap2, rfl⟩ : ∃ g2 cap2, v2 = .slice (some ⟨g2, 0, none⟩) (j + 1) cap2 := by
                      obtain ⟨_, ⟨_, h0⟩ | ⟨g, cap, cur, h1, _⟩⟩ := HOw2
                      · omega
                      · exact ⟨g, cap, h1⟩
                    have hg2' : RB + 1 ≤ g2 := by
                      obtain ⟨_, ⟨h0, _⟩ | ⟨g, cap, cur, h1, h2, _⟩⟩ := HOw2
                      · cases h0
                      · cases h1; exact h2
                    have hbF : Below RB W7 (W2.setCell ⟨RB, 0, none⟩ (.slice (some ⟨g2, 0, none⟩) (j + 1) cap2)) := ((Below.thenOf hbij hb01 (by omega)).grown hg2 (by omega) (hcvb.out)).setCell (Nat.le_refl _) _
                    have HRBF := two_setCell (u := .slice (some ⟨g2, 0, none⟩) (j + 1) cap2) HRB2
                    have HOwF := ownsRow_setCell_other HOw2 (a := ⟨RB, 0, none⟩) (by simp [Value.ownBlock]; omega) (.slice (some ⟨g2, 0, none⟩) (j + 1) cap2)
                    have hszF : RB < W2.heap.size := lt_of_block HRB2
                    obtain ⟨t0, _, t1, _⟩ := cell_of_two HRB2
                    have hcc : condCells (cs ++ [(fc, ob, m)]) = condCells cs ++ [.int .i64 fc, .int .i64 ob, .int .i64 m] := by unfold condCells; rw [List.flatMap_append]; simp
                    rw [← hcc] at HOwF
                    have HbF : Hid _ := hbF
                    have HRBF' : Hid _ := HRBF
                    have HOwF' : Hid _ := HOwF
                    clear hbF HRBF HOwF HOw2 HRB2 hg2 hcc
                    go_wp2
                    exact ⟨⟨j + 1, _, cs ++ [(fc, ob, m)], by omega, by go_num, allOf_take condOf _ j _ huT.out cs HAC.out (fc, ob, m) hcondH.out, by unfold Hid; rw [List.length_append, hcsl.out]; rfl, HbF.out, HRBF'.out, HOwF'.out, by simp; omega⟩, by simp [intOf]; omega⟩
          · obtain rfl : j = n := by omega
            have hboi : Below wo.heap.size wo wi := hb27.trans (hbi.mono (by omega))
            have hszi := hboi.size
            have hACf : Hid (ruleOf x = some (cs, c)) := HRG.out cs (by have := HAC.out; rw [List.take_of_length_le (by rw [List.length_map, HN.out.2.2.2.2.1]; exact Nat.le_refl _)] at this; exact this)
            have HPi : wi.heap[PB]? = some (.cells #[rv, .int .i64 0] 24 (0, 0)) := (hboi.block PB hPr).trans HP.out
            have HOi := ownsRow_below HO.out hboi
            have HCi : wi.ownsRow (RB + 1) 83 3 cv cs.length (condCells cs) := by
              rw [hcsl.out]
              exact HOw.out
            have HRi := RulesCells.step (w' := wi) (fun g cur _ hg => hboi.block g (lt_of_block hg)) _ _ HR.out
            obtain ⟨gc, capc, rfl, _, _, _⟩ := ownsRow_caps HOw.out
            obtain ⟨p0, p1, pf0, pf1⟩ := cell_of_two HPi
            obtain ⟨b0, b1, bf0, bf1⟩ := cell_of_two HRB.out
            have HPi' : Hid _ := HPi
            have HOi' : Hid (wi.ownsRow (PB + 1) 79 2 rv i xs) := HOi
            have HCi' : Hid (wi.ownsRow (RB + 1) 83 3 (.slice gc j capc) cs.length (condCells cs)) := HCi
            have HRi' : Hid (RulesCells (PB + 1) wi rs xs) := HRi
            clear HPi HOi HCi HRi
            obtain ⟨inf, hi1, hi2, hi3, hi4⟩ := infoRule
            have news : Hid (∀ X, X = Obj.cells #[.slice gc j capc, .int .i64 c] 79 → ∀ q v, [Value.slice gc j capc, .int .i64 c][q]? = some v → (wi.alloc X).cell? ((⟨wi.heap.size, 0, none⟩ : Addr).add q) = some v) := by
              intro X hX q v hq
              subst hX
              have : q < 2 := by have := (List.getElem?_eq_some_iff.1 hq).1; simpa using this
              have : q = 0 ∨ q = 1 := by omega
              rcases this with rfl | rfl <;> simp at hq <;> subst hq <;> simp [go_sem, Addr.add]
            have HP2 : Hid (∀ X, (wi.alloc X).ownsRow (PB + 1) 79 2 rv i xs) := fun X => ownsRow_below HOi'.out ((Below.refl _ _).alloc (Nat.le_refl _) X)
            go_wp2_with (first
              | (at_builtin; refine wpList_append_own _ rfl _ _ 22 rfl (PB + 1) 79 inf _ 2 32 Tryz.underlying22 hi1 hi2 hi3 hi4 rfl (by decide) rv i xs rfl (HP2.out _) ⟨wi.heap.size, 0, none⟩ 1 1 [.slice gc j capc, .int .i64 c] rfl rfl (news.out _ rfl) (by simp [Value.oneCell']) (by have := maxLen_eq; have := HN.out.1; omega) (by have := HN.out.1; omega) (by simp; omega) ?_; go_must (intro v' wk hownk hgrk hnilk; obtain ⟨gk, capk, rfl, hgk⟩ := ownsRow_shape hownk (by omega); have HPk := (hgrk.block PB (by simp; omega) (fun h => by have := ownsRow_ge HOi'.out PB h.symm; omega)).trans ((Below.heap_alloc _ _ _ (by omega)).trans HPi'.out); obtain ⟨k0, k1, kf0, kf1⟩ := cell_of_two HPk)))
            have hbk : ∀ (g : Nat) (cur : Array Value), PB + 1 ≤ g → wi.heap[g]? = some (.cells cur 83 (0, 0)) → (wk.setCell ⟨PB, 0, none⟩ (.slice (some ⟨gk, 0, none⟩) (i + 1) capk)).heap[g]? = wi.heap[g]? := by
              intro g cur hg hh
              have hgl := lt_of_block hh
              rw [Below.heap_setCell _ _ _ _ (by show g ≠ PB; omega), hgrk.block g (by simp; omega) (fun h => ?_), Below.heap_alloc _ _ _ hgl]
              obtain ⟨cur', h'⟩ := ownsRow_tag HOi'.out g h.symm
              rw [hh] at h'
              simp at h'
            have hbF : Below PB W (wk.setCell ⟨PB, 0, none⟩ (.slice (some ⟨gk, 0, none⟩) (i + 1) capk)) := (((Below.thenOf hbr hboi (by omega)).alloc (by omega) _).grown hgrk (by simp; omega) (fun k hk => by have := ownsRow_ge HOi'.out k hk; omega)).setCell (Nat.le_refl _) _
            have hck := ownsRow_block (ownsRow_base HCi'.out (by omega : PB + 1 ≤ RB + 1)) hbk
            have hRk := RulesCells.push (cs, c) _ hck _ _ (RulesCells.step hbk _ _ HRi'.out)
            obtain ⟨hi60, hlen, hs2, hwn60, hnw, hrs, hTi⟩ := HN.out
            refine ⟨⟨i + 1, bsB (joinL 59 rest), _, _, rs ++ [(cs, c)], rfl, hTi, by unfold Hid; rw [← hrestH.out]; rfl, allOf_take ruleOf T i x hxH.out rs HA.out (cs, c) hACf.out, by rw [List.length_append, hrs]; rfl, by omega, hbF, two_setCell HPk, ownsRow_setCell_other hownk (a := ⟨PB, 0, none⟩) (by simp [Value.ownBlock]; omega) _, hRk, by have := lt_of_block HPk; simpa using this⟩, by simp only [strLen]; omega⟩

theorem policyRead_any (s : ByteArray) (hs60 : s.size ≤ 60000) (w : World) (he : EnvT w) :
    Calls Tryz.prog 70 #[.string s] w fun e w' => ∃ pv, e = .returned (.tuple #[pv, .int .i64 (parseR s.data.toList).2]) ∧ PolAt w'.heap.size w' pv (parseR s.data.toList).1 ∧ Below w.heap.size w w' := (policyRead_new s hs60 w he).mono fun e w' ⟨v, h1, h2, h3⟩ => ⟨v, h1, h2.at, h3⟩

end Go.Proofs.YtdfcfinjoghipacGreatDoor
