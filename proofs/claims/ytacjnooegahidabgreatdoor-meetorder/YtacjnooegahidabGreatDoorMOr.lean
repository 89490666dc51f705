/- MeetOrder returns true, whatever the policies, in whatever memory that lays the variables. -/
import Derived.Test.YtacjnooegahidabGreatDoorMj34
import Derived.Test.YtacjnooegahidabGreatDoorMet3
import Derived.Test.YtacjnooegahidabGreatDoorOrD
import Derived.Test.YtacjnooegahidabGreatDoorBox5
set_option linter.all false
set_option maxRecDepth 100000
namespace Go.Proofs.YtacjnooegahidabGreatDoor
open Go.RowKit Go.Maps

theorem pol_parts {B : Nat} {w : World} {v : Value} {p : PolT} (h : PolAt B w v p) : ∃ a n c d, v = .agg #[.slice a n c, .int .i64 d] := by
  obtain ⟨rv, rfl, _, a, c, rfl, _⟩ := h
  exact ⟨a, _, c, _, rfl⟩

set_option maxHeartbeats 16000000 in
theorem meetOrder_any (B : Nat) (pv qv rv : Value) (p q r : PolT) (w : World) (he : EnvT w) (hsp : Lib.TabIs Tryz.prog w "strings.asciiSpace" .u8 Lib.asciiSpaceTab) (hp : PolAt B w pv p) (hq : PolAt B w qv q) (hr : PolAt B w rv r) (hB : B ≤ w.heap.size) :
    Calls Tryz.prog 10 #[pv, qv, rv] w fun e w' => e = .returned (.bool true) ∧ Below w.heap.size w w' := by
  have HM : Hid (∀ w', Below w.heap.size w w' → Calls Tryz.prog 29 #[] w' fun e w'' => e = .returned (.bool true) ∧ Below w'.heap.size w' w'') := fun w' h => met_true w' (he.later h) (tab_later hsp h)
  have HC1 : Hid (∀ w', Below w.heap.size w w' → Calls Tryz.prog 24 #[pv, qv] w' fun e w'' => ∃ v, e = .returned (.tuple #[v, .int .i64 (meetE false p q)]) ∧ PolNew w'.heap.size w'' v (meetR false p q) ∧ Below w'.heap.size w' w'') := fun w' h => meetD_any B pv qv p q w' (hp.later h hB) (hq.later h hB) (Nat.le_trans hB h.size)
  have HLmp : Hid (∀ mv w', PolAt w'.heap.size w' mv (meetR false p q) → Below w.heap.size w w' → Calls Tryz.prog 18 #[mv, pv] w' fun e w'' => e = .returned (.tuple #[.bool (looserP (meetR false p q) p).isSome, .agg #[.int .i64 (looserC (meetR false p q) p 0), .int .i64 (looserC (meetR false p q) p 1), .int .i64 (looserC (meetR false p q) p 2), .int .i64 (looserC (meetR false p q) p 3), .int .i64 (looserC (meetR false p q) p 4)], .int .i64 (pointsE [(meetR false p q), p])]) ∧ Below w'.heap.size w' w'') := fun mv w' hm h => looserD_any _ mv pv (meetR false p q) p w' hm (PolAt.wide (hp.later h hB) (Nat.le_trans hB h.size)) (Nat.le_refl _)
  have HLmq : Hid (∀ mv w', PolAt w'.heap.size w' mv (meetR false p q) → Below w.heap.size w w' → Calls Tryz.prog 18 #[mv, qv] w' fun e w'' => e = .returned (.tuple #[.bool (looserP (meetR false p q) q).isSome, .agg #[.int .i64 (looserC (meetR false p q) q 0), .int .i64 (looserC (meetR false p q) q 1), .int .i64 (looserC (meetR false p q) q 2), .int .i64 (looserC (meetR false p q) q 3), .int .i64 (looserC (meetR false p q) q 4)], .int .i64 (pointsE [(meetR false p q), q])]) ∧ Below w'.heap.size w' w'') := fun mv w' hm h => looserD_any _ mv qv (meetR false p q) q w' hm (PolAt.wide (hq.later h hB) (Nat.le_trans hB h.size)) (Nat.le_refl _)
  have HLrp : Hid (∀ w', Below w.heap.size w w' → Calls Tryz.prog 18 #[rv, pv] w' fun e w'' => e = .returned (.tuple #[.bool (looserP r p).isSome, .agg #[.int .i64 (looserC r p 0), .int .i64 (looserC r p 1), .int .i64 (looserC r p 2), .int .i64 (looserC r p 3), .int .i64 (looserC r p 4)], .int .i64 (pointsE [r, p])]) ∧ Below w'.heap.size w' w'') := fun w' h => looserD_any _ rv pv r p w' (PolAt.wide (hr.later h hB) (Nat.le_trans hB h.size)) (PolAt.wide (hp.later h hB) (Nat.le_trans hB h.size)) (Nat.le_refl _)
  have HLrq : Hid (∀ w', Below w.heap.size w w' → Calls Tryz.prog 18 #[rv, qv] w' fun e w'' => e = .returned (.tuple #[.bool (looserP r q).isSome, .agg #[.int .i64 (looserC r q 0), .int .i64 (looserC r q 1), .int .i64 (looserC r q 2), .int .i64 (looserC r q 3), .int .i64 (looserC r q 4)], .int .i64 (pointsE [r, q])]) ∧ Below w'.heap.size w' w'') := fun w' h => looserD_any _ rv qv r q w' (PolAt.wide (hr.later h hB) (Nat.le_trans hB h.size)) (PolAt.wide (hq.later h hB) (Nat.le_trans hB h.size)) (Nat.le_refl _)
  have HLrm : Hid (∀ mv w', PolAt w'.heap.size w' mv (meetR false p q) → Below w.heap.size w w' → Calls Tryz.prog 18 #[rv, mv] w' fun e w'' => e = .returned (.tuple #[.bool (looserP r (meetR false p q)).isSome, .agg #[.int .i64 (looserC r (meetR false p q) 0), .int .i64 (looserC r (meetR false p q) 1), .int .i64 (looserC r (meetR false p q) 2), .int .i64 (looserC r (meetR false p q) 3), .int .i64 (looserC r (meetR false p q) 4)], .int .i64 (pointsE [r, (meetR false p q)])]) ∧ Below w'.heap.size w' w'') := fun mv w' hm h => looserD_any _ rv mv r (meetR false p q) w' (PolAt.wide (hr.later h hB) (Nat.le_trans hB h.size)) hm (Nat.le_refl _)
  have hA : Hid (∀ (W : World) X, Below W.heap.size W (W.alloc X)) := fun W X => (Below.refl _ _).alloc (Nat.le_refl _) _
  have F1 : Hid (meetE false p q = 0 → pointsE [(meetR false p q), p] = 0 → (looserP (meetR false p q) p).isSome = false) := fun h h' => meet_first h h'
  have F2 : Hid (meetE false p q = 0 → pointsE [(meetR false p q), q] = 0 → (looserP (meetR false p q) q).isSome = false) := fun h h' => meet_second h h'
  have F3 : Hid (meetE false p q = 0 → (decide (pointsE [r, p] ≠ 0) || decide (pointsE [r, q] ≠ 0) || decide (pointsE [r, (meetR false p q)] ≠ 0) || (looserP r p).isSome || (looserP r q).isSome || !(looserP r (meetR false p q)).isSome) = true) := fun h => meet_order h
  obtain ⟨a1, n1, c1, d1, rfl⟩ := pol_parts hp
  obtain ⟨a2, n2, c2, d2, rfl⟩ := pol_parts hq
  obtain ⟨a3, n3, c3, d3, rfl⟩ := pol_parts hr
  clear hp hq hr he hsp
  generalize meetE false p q = e1 at *
  generalize (looserP (meetR false p q) p).isSome = lmp at *
  generalize pointsE [(meetR false p q), p] = emp at *
  generalize looserC (meetR false p q) p = xmp at *
  generalize (looserP (meetR false p q) q).isSome = lmq at *
  generalize pointsE [(meetR false p q), q] = emq at *
  generalize looserC (meetR false p q) q = xmq at *
  generalize (looserP r p).isSome = lrp at *
  generalize pointsE [r, p] = erp at *
  generalize looserC r p = xrp at *
  generalize (looserP r q).isSome = lrq at *
  generalize pointsE [r, q] = erq at *
  generalize looserC r q = xrq at *
  generalize (looserP r (meetR false p q)).isSome = lrm at *
  generalize pointsE [r, (meetR false p q)] = erm at *
  generalize looserC r (meetR false p q) = xrm at *
  go_enter Tryz.func10, Tryz.ntmps10
  obtain ⟨W0, hW0⟩ : ∃ W0, W0 = ((w.alloc (.cells #[.slice a1 n1 c1, .int .i64 d1] 38)).alloc (.cells #[.slice a2 n2 c2, .int .i64 d2] 38)).alloc (.cells #[.slice a3 n3 c3, .int .i64 d3] 38) := ⟨_, rfl⟩
  have bw0 : Below w.heap.size w W0 := by rw [hW0]; exact (((Below.refl _ _).alloc (Nat.le_refl _) _).alloc (by simp) _).alloc (by simp; omega) _
  have hp0 : W0.heap[w.heap.size]? = some (.cells #[.slice a1 n1 c1, .int .i64 d1] 38 (0, 0)) := by
    rw [hW0]
    exact ((hA.out _ _).block _ (by simp; omega)).trans (((hA.out _ _).block _ (by simp)).trans (heap_made w _))
  have hq0 : W0.heap[w.heap.size + 1]? = some (.cells #[.slice a2 n2 c2, .int .i64 d2] 38 (0, 0)) := by
    rw [hW0]
    refine ((hA.out _ _).block _ (by simp)).trans ?_
    have := heap_made (w.alloc (.cells #[.slice a1 n1 c1, .int .i64 d1] 38)) (.cells #[.slice a2 n2 c2, .int .i64 d2] 38)
    simpa using this
  have hr0 : W0.heap[w.heap.size + 1 + 1]? = some (.cells #[.slice a3 n3 c3, .int .i64 d3] 38 (0, 0)) := by
    rw [hW0]
    have := heap_made ((w.alloc (.cells #[.slice a1 n1 c1, .int .i64 d1] 38)).alloc (.cells #[.slice a2 n2 c2, .int .i64 d2] 38)) (.cells #[.slice a3 n3 c3, .int .i64 d3] 38)
    simpa using this
  have HK : Hid (∀ w', Below W0.heap.size W0 w' → w'.heap[w.heap.size]? = some (.cells #[.slice a1 n1 c1, .int .i64 d1] 38 (0, 0)) ∧ w'.heap[w.heap.size + 1]? = some (.cells #[.slice a2 n2 c2, .int .i64 d2] 38 (0, 0)) ∧ w'.heap[w.heap.size + 1 + 1]? = some (.cells #[.slice a3 n3 c3, .int .i64 d3] 38 (0, 0)) ∧ Below w.heap.size w w') := fun w' h =>
    ⟨(h.block _ (lt_of_block hp0)).trans hp0, (h.block _ (lt_of_block hq0)).trans hq0, (h.block _ (lt_of_block hr0)).trans hr0, Below.thenOf bw0 h bw0.size⟩
  have HW0 : Hid (W0 = _) := hW0
  clear hW0 hp0 hq0 hr0
  go_wp2_with fail
  rw [← HW0.out]
  go_at_call 24
  refine Calls.mono (HC1.out _ bw0) ?_
  rintro e w1 ⟨vm, rfl, hm, bA⟩
  obtain ⟨a4, n4, c4, d4, rfl⟩ := pol_parts hm.at
  obtain ⟨W1, hWx⟩ : ∃ W3, W3 = w1.alloc (.cells #[.slice a4 n4 c4, .int .i64 d4] 38) := ⟨_, rfl⟩
  have bB : Below w1.heap.size w1 W1 := by rw [hWx]; exact hA.out _ _
  have bC : Below W0.heap.size W0 W1 := Below.thenOf bA bB bA.size
  have hmx : W1.heap[w1.heap.size]? = some (.cells #[.slice a4 n4 c4, .int .i64 d4] 38 (0, 0)) := by rw [hWx]; exact heap_made _ _
  have HM1 : Hid (∀ w', Below W1.heap.size W1 w' → PolAt w'.heap.size w' (.agg #[.slice a4 n4 c4, .int .i64 d4]) (meetR false p q) ∧ w'.heap[w1.heap.size]? = some (.cells #[.slice a4 n4 c4, .int .i64 d4] 38 (0, 0)) ∧ Below W0.heap.size W0 w') := fun w' h =>
    ⟨hm w' (fun g _ hg => (Below.thenOf bB h bB.size).block g hg) (Nat.le_trans bB.size h.size), (h.block _ (lt_of_block hmx)).trans hmx, Below.thenOf bC h bC.size⟩
  have bw1 : Below w.heap.size w W1 := Below.thenOf bw0 bC bw0.size
  have hV1 : Hid (W1 = _) := hWx
  clear hWx hm hmx bA bB bC
  go_wp2_with fail
  rw [← hV1.out]
  go_at_call 29
  refine Calls.mono (HM.out _ bw1) ?_
  rintro e w2 ⟨rfl, b12⟩
  have Tw2 : Hid (∀ w', Below w2.heap.size w2 w' → Below W1.heap.size W1 w') := fun w' h => Below.thenOf b12 h b12.size
  have bw2 : Hid (Below w.heap.size w w2) := Below.thenOf bw1 b12 bw1.size
  clear b12 bw1 bw0
  by_cases h0 : e1 = 0
  · subst h0
    have G1 : Hid _ := F1.out rfl
    have G2 : Hid _ := F2.out rfl
    have G3 : Hid _ := F3.out rfl
    clear F1 F2 F3 HM
    obtain ⟨hPm, k4, t0⟩ := HM1.out w2 (Tw2.out w2 (Below.refl _ _))
    obtain ⟨k1, k2, k3, tw⟩ := HK.out w2 t0
    have P0 := heap_cell k1 0 rfl
    have P1 := heap_cell k1 1 rfl
    have LP := lt_of_block k1
    have Q0 := heap_cell k2 0 rfl
    have Q1 := heap_cell k2 1 rfl
    have LQ := lt_of_block k2
    have R0 := heap_cell k3 0 rfl
    have R1 := heap_cell k3 1 rfl
    have LR := lt_of_block k3
    have M0 := heap_cell k4 0 rfl
    have M1 := heap_cell k4 1 rfl
    have LM := lt_of_block k4
    clear k1 k2 k3 k4 t0
    have HS : Hid _ := HLmp.out _ w2 hPm tw
    clear hPm tw
    go_wp2_with fail
    go_at_call 18
    refine Calls.mono HS.out ?_
    rintro e w3 ⟨rfl, bb⟩
    have Tw3 : Hid (∀ w', Below w3.heap.size w3 w' → Below W1.heap.size W1 w') := fun w' h => Tw2.out w' (Below.thenOf bb h bb.size)
    clear bb
    clear HS P0 P1 LP Q0 Q1 LQ R0 R1 LR M0 M1 LM
    obtain ⟨hPm, k4, t0⟩ := HM1.out w3 (Tw3.out w3 (Below.refl _ _))
    obtain ⟨k1, k2, k3, tw⟩ := HK.out w3 t0
    have P0 := heap_cell k1 0 rfl
    have P1 := heap_cell k1 1 rfl
    have LP := lt_of_block k1
    have Q0 := heap_cell k2 0 rfl
    have Q1 := heap_cell k2 1 rfl
    have LQ := lt_of_block k2
    have R0 := heap_cell k3 0 rfl
    have R1 := heap_cell k3 1 rfl
    have LR := lt_of_block k3
    have M0 := heap_cell k4 0 rfl
    have M1 := heap_cell k4 1 rfl
    have LM := lt_of_block k4
    clear k1 k2 k3 k4 t0
    clear hPm tw
    go_wp2_with fail
    obtain ⟨W4, hWx⟩ : ∃ W3, W3 = w3.alloc (.cells #[.int .i64 (xmp 0), .int .i64 (xmp 1), .int .i64 (xmp 2), .int .i64 (xmp 3), .int .i64 (xmp 4)] 29) := ⟨_, rfl⟩
    have bb : Below w3.heap.size w3 W4 := by rw [hWx]; exact hA.out _ _
    have TW4 : Hid (∀ w', Below W4.heap.size W4 w' → Below W1.heap.size W1 w') := fun w' h => Tw3.out w' (Below.thenOf bb h bb.size)
    rw [← hWx]
    clear hWx bb
    obtain ⟨hPm, -, t0⟩ := HM1.out W4 (TW4.out W4 (Below.refl _ _))
    obtain ⟨-, -, -, tw⟩ := HK.out W4 t0
    clear t0
    clear P0 P1 LP Q0 Q1 LQ R0 R1 LR M0 M1 LM
    go_at_call 18
    refine Calls.mono (HLmq.out _ W4 hPm tw) ?_
    rintro e w5 ⟨rfl, bb⟩
    have Tw5 : Hid (∀ w', Below w5.heap.size w5 w' → Below W1.heap.size W1 w') := fun w' h => TW4.out w' (Below.thenOf bb h bb.size)
    clear bb
    clear hPm tw
    obtain ⟨hPm, k4, t0⟩ := HM1.out w5 (Tw5.out w5 (Below.refl _ _))
    obtain ⟨k1, k2, k3, tw⟩ := HK.out w5 t0
    have P0 := heap_cell k1 0 rfl
    have P1 := heap_cell k1 1 rfl
    have LP := lt_of_block k1
    have Q0 := heap_cell k2 0 rfl
    have Q1 := heap_cell k2 1 rfl
    have LQ := lt_of_block k2
    have R0 := heap_cell k3 0 rfl
    have R1 := heap_cell k3 1 rfl
    have LR := lt_of_block k3
    have M0 := heap_cell k4 0 rfl
    have M1 := heap_cell k4 1 rfl
    have LM := lt_of_block k4
    clear k1 k2 k3 k4 t0
    clear hPm tw
    have V : (emp = 0 ∧ lmp = false) ∨ ((emp == 0) = false ∧ emp ≠ 0) := by
      by_cases h : emp = 0
      · exact .inl ⟨h, G1.out h⟩
      · exact .inr ⟨by simpa using h, h⟩
    have V' : (emq = 0 ∧ lmq = false) ∨ ((emq == 0) = false ∧ emq ≠ 0) := by
      by_cases h : emq = 0
      · exact .inl ⟨h, G2.out h⟩
      · exact .inr ⟨by simpa using h, h⟩
    clear G1 G2
    rcases V with ⟨rfl, rfl⟩ | ⟨V1, V2⟩ <;> rcases V' with ⟨rfl, rfl⟩ | ⟨V3, V4⟩
    all_goals
      go_wp2_with fail
      obtain ⟨W6, hWx⟩ : ∃ W3, W3 = w5.alloc (.cells #[.int .i64 (xmq 0), .int .i64 (xmq 1), .int .i64 (xmq 2), .int .i64 (xmq 3), .int .i64 (xmq 4)] 29) := ⟨_, rfl⟩
      have bb : Below w5.heap.size w5 W6 := by rw [hWx]; exact hA.out _ _
      have TW6 : Hid (∀ w', Below W6.heap.size W6 w' → Below W1.heap.size W1 w') := fun w' h => Tw5.out w' (Below.thenOf bb h bb.size)
      rw [← hWx]
      clear hWx bb
      obtain ⟨hPm, -, t0⟩ := HM1.out W6 (TW6.out W6 (Below.refl _ _))
      obtain ⟨-, -, -, tw⟩ := HK.out W6 t0
      clear t0
      clear P0 P1 LP Q0 Q1 LQ R0 R1 LR M0 M1 LM
      go_at_call 18
      refine Calls.mono (HLrp.out W6 tw) ?_
      rintro e w7 ⟨rfl, bb⟩
      have Tw7 : Hid (∀ w', Below w7.heap.size w7 w' → Below W1.heap.size W1 w') := fun w' h => TW6.out w' (Below.thenOf bb h bb.size)
      clear bb
      clear hPm tw
      obtain ⟨hPm, k4, t0⟩ := HM1.out w7 (Tw7.out w7 (Below.refl _ _))
      obtain ⟨k1, k2, k3, tw⟩ := HK.out w7 t0
      have P0 := heap_cell k1 0 rfl
      have P1 := heap_cell k1 1 rfl
      have LP := lt_of_block k1
      have Q0 := heap_cell k2 0 rfl
      have Q1 := heap_cell k2 1 rfl
      have LQ := lt_of_block k2
      have R0 := heap_cell k3 0 rfl
      have R1 := heap_cell k3 1 rfl
      have LR := lt_of_block k3
      have M0 := heap_cell k4 0 rfl
      have M1 := heap_cell k4 1 rfl
      have LM := lt_of_block k4
      clear k1 k2 k3 k4 t0
      clear hPm tw
      go_wp2_with fail
      obtain ⟨W8, hWx⟩ : ∃ W3, W3 = w7.alloc (.cells #[.int .i64 (xrp 0), .int .i64 (xrp 1), .int .i64 (xrp 2), .int .i64 (xrp 3), .int .i64 (xrp 4)] 29) := ⟨_, rfl⟩
      have bb : Below w7.heap.size w7 W8 := by rw [hWx]; exact hA.out _ _
      have TW8 : Hid (∀ w', Below W8.heap.size W8 w' → Below W1.heap.size W1 w') := fun w' h => Tw7.out w' (Below.thenOf bb h bb.size)
      rw [← hWx]
      clear hWx bb
      obtain ⟨hPm, -, t0⟩ := HM1.out W8 (TW8.out W8 (Below.refl _ _))
      obtain ⟨-, -, -, tw⟩ := HK.out W8 t0
      clear t0
      clear P0 P1 LP Q0 Q1 LQ R0 R1 LR M0 M1 LM
      go_at_call 18
      refine Calls.mono (HLrq.out W8 tw) ?_
      rintro e w9 ⟨rfl, bb⟩
      have Tw9 : Hid (∀ w', Below w9.heap.size w9 w' → Below W1.heap.size W1 w') := fun w' h => TW8.out w' (Below.thenOf bb h bb.size)
      clear bb
      clear hPm tw
      obtain ⟨hPm, k4, t0⟩ := HM1.out w9 (Tw9.out w9 (Below.refl _ _))
      obtain ⟨k1, k2, k3, tw⟩ := HK.out w9 t0
      have P0 := heap_cell k1 0 rfl
      have P1 := heap_cell k1 1 rfl
      have LP := lt_of_block k1
      have Q0 := heap_cell k2 0 rfl
      have Q1 := heap_cell k2 1 rfl
      have LQ := lt_of_block k2
      have R0 := heap_cell k3 0 rfl
      have R1 := heap_cell k3 1 rfl
      have LR := lt_of_block k3
      have M0 := heap_cell k4 0 rfl
      have M1 := heap_cell k4 1 rfl
      have LM := lt_of_block k4
      clear k1 k2 k3 k4 t0
      clear hPm tw
      go_wp2_with fail
      obtain ⟨W10, hWx⟩ : ∃ W3, W3 = w9.alloc (.cells #[.int .i64 (xrq 0), .int .i64 (xrq 1), .int .i64 (xrq 2), .int .i64 (xrq 3), .int .i64 (xrq 4)] 29) := ⟨_, rfl⟩
      have bb : Below w9.heap.size w9 W10 := by rw [hWx]; exact hA.out _ _
      have TW10 : Hid (∀ w', Below W10.heap.size W10 w' → Below W1.heap.size W1 w') := fun w' h => Tw9.out w' (Below.thenOf bb h bb.size)
      rw [← hWx]
      clear hWx bb
      obtain ⟨hPm, -, t0⟩ := HM1.out W10 (TW10.out W10 (Below.refl _ _))
      obtain ⟨-, -, -, tw⟩ := HK.out W10 t0
      clear t0
      clear P0 P1 LP Q0 Q1 LQ R0 R1 LR M0 M1 LM
      go_at_call 18
      refine Calls.mono (HLrm.out _ W10 hPm tw) ?_
      rintro e w11 ⟨rfl, bb⟩
      have Tw11 : Hid (∀ w', Below w11.heap.size w11 w' → Below W1.heap.size W1 w') := fun w' h => TW10.out w' (Below.thenOf bb h bb.size)
      clear bb
      clear hPm tw
      have bF : Hid (Below w.heap.size w (w11.alloc (.cells #[.int .i64 (xrm 0), .int .i64 (xrm 1), .int .i64 (xrm 2), .int .i64 (xrm 3), .int .i64 (xrm 4)] 29))) := (HK.out _ (HM1.out _ (Tw11.out _ (hA.out _ _))).2.2).2.2.2
      clear HLmp HLmq HLrp HLrq HLrm HC1 HM1 HK Tw2 Tw3 TW4 Tw5 TW6 Tw7 TW8 Tw9 TW10 Tw11 HW0 hV1 hA bw2
      have hc := G3.out
      clear G3
      by_cases k1 : erp = 0
      · subst k1
        by_cases k2 : erq = 0
        · subst k2
          by_cases k3 : erm = 0
          · subst k3
            cases lrp
            · cases lrq
              · cases lrm
                · clear hc
                  go_wp2_with fail
                  go_ret
                  exact ⟨rfl, bF.out⟩
                · simp at hc
              · clear hc
                go_wp2_with fail
                go_ret
                exact ⟨rfl, bF.out⟩
            · clear hc
              go_wp2_with fail
              go_ret
              exact ⟨rfl, bF.out⟩
          · have hq : (erm != 0) = true := by simpa using k3
            clear hc k3
            go_wp2_with fail
            go_ret
            exact ⟨rfl, bF.out⟩
        · have hq : (erq != 0) = true := by simpa using k2
          clear hc k2
          go_wp2_with fail
          go_ret
          exact ⟨rfl, bF.out⟩
      · have hq : (erp != 0) = true := by simpa using k1
        clear hc k1
        go_wp2_with fail
        go_ret
        exact ⟨rfl, bF.out⟩
  · have hq : (e1 != 0) = true := by simpa using h0
    clear F1 F2 F3 h0
    go_wp2_with fail
    go_at_call 29
    refine Calls.mono (HM.out _ bw2.out) ?_
    rintro e w3 ⟨rfl, bb⟩
    have bF : Hid (Below w.heap.size w w3) := Below.thenOf bw2.out bb bw2.out.size
    clear bb
    go_wp2_with fail
    go_ret
    exact ⟨rfl, bF.out⟩

end Go.Proofs.YtacjnooegahidabGreatDoor
