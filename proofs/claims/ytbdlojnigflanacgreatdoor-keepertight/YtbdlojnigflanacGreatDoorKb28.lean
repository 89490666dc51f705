/- Joined: Mee5 Mee7 PtC Mee8. -/
import Derived.Test.YtbdlojnigflanacGreatDoorKb27
import Derived.Test.YtbdlojnigflanacGreatDoorKb24
import Derived.Test.YtbdlojnigflanacGreatDoorKb12
import Derived.Laws.StructEq
import Derived.Test.YtbdlojnigflanacGreatDoorKb19
section
/- Package meet: Meet and Except. -/
set_option linter.all false
set_option maxRecDepth 100000
namespace Go.Proofs.YtbdlojnigflanacGreatDoor
open Go.RowKit Go.Maps

set_option maxHeartbeats 4000000 in
theorem exceptD_any (B : Nat) (pv qv : Value) (p q : PolT) (w : World) (hp : PolAt B w pv p) (hq : PolAt B w qv q) (hB : B ≤ w.heap.size) :
    Calls Tryz.prog 56 #[pv, qv] w fun e w' => ∃ v, e = .returned (.tuple #[v, .int .i64 (meetE true p q)]) ∧ PolNew w.heap.size w' v (meetR true p q) ∧ Below w.heap.size w w' := by
  obtain ⟨rs, d⟩ := p
  obtain ⟨ss, f⟩ := q
  obtain ⟨rv, e1, hd, hrs⟩ := hp
  obtain ⟨sv, e2, hf, hss⟩ := hq
  have HCm : Hid (∀ w', Below w.heap.size w w' → Calls Tryz.prog 116 #[.agg #[rv, .int .i64 d, sv, .int .i64 f], .func (.func 117) #[] #[]] w' fun e w'' => ∃ v, e = .returned (.tuple #[v, .int .i64 (meetE true (rs, d) (ss, f))]) ∧ PolNew w'.heap.size w'' v (meetR true (rs, d) (ss, f)) ∧ Below w'.heap.size w' w'') := fun w' h => combine_any true _ (fun a b w => exceptFn_any a b w) (fun args w' => by kernel_rfl) B rv sv rs ss d f w' (hrs.later h hB) (hss.later h hB) hd hf (Nat.le_trans hB h.size)
  obtain ⟨a, cap, e3, -, -, -⟩ := hrs
  obtain ⟨b, cap2, e4, -, -, -⟩ := hss
  simp only at e1 e2 e3 e4 hd hf
  subst e3 e4 e1 e2
  clear hd hf
  generalize rs.length = n1 at *
  generalize ss.length = n2 at *
  obtain ⟨W3, hW3⟩ : ∃ W3, W3 = ((w.alloc (.cells #[.slice a n1 cap, .int .i64 d] 24)).alloc (.cells #[.slice b n2 cap2, .int .i64 f] 24)).alloc (.cells #[.slice none 0 0, .int .i64 0] 24) := ⟨_, rfl⟩
  have hs3 : W3.heap.size = w.heap.size + 1 + 1 + 1 := by rw [hW3]; simp
  have hb3 : Below w.heap.size w W3 := by rw [hW3]; exact (((Below.refl _ _).alloc (Nat.le_refl _) _).alloc (by simp) _).alloc (by simp; omega) _
  have g2 : W3.heap[w.heap.size + 1 + 1]? = some (.cells #[.slice none 0 0, .int .i64 0] 24 (0, 0)) := by
    rw [hW3]
    exact heap_at _ _ (by simp only [World.size_alloc])
  have HW : Hid (W3 = _) := hW3
  clear hW3
  go_enter Tryz.func56, Tryz.ntmps56
  go_wp2_with fail
  rw [← HW.out]
  go_at_call 116
  refine Calls.mono (HCm.out W3 hb3) ?_
  rintro e w4 ⟨v, rfl, hn, hb4⟩
  have HN : Hid (PolNew (w.heap.size + 1 + 1 + 1) w4 v (meetR true (rs, d) (ss, f))) := by rw [← hs3]; exact hn
  obtain ⟨vr, ev, hwv, va, vc, er, -⟩ := hn.at
  subst er
  subst ev
  have g4 := (hb4.block _ (by omega)).trans g2
  have r0 := heap_cell g4 0 rfl
  have r1 := heap_cell g4 1 rfl
  have f0 : w4.frozen? ⟨w.heap.size + 1 + 1, 0, none⟩ = false := by simp [World.frozen?, g4]
  have f1 : w4.frozen? ⟨w.heap.size + 1 + 1, 1, none⟩ = false := by simp [World.frozen?, g4]
  have HB4 : Hid (Below w.heap.size w w4) := Below.thenOf hb3 hb4 hb3.size
  clear hn hwv hb4 g4 g2 HCm
  generalize (meetR true (rs, d) (ss, f)).1.length = vn at *
  obtain ⟨vd, hvd⟩ : ∃ vd, vd = (meetR true (rs, d) (ss, f)).2 := ⟨_, rfl⟩
  rw [← hvd] at HN ⊢
  clear hvd
  obtain ⟨er, her⟩ : ∃ er, er = meetE true (rs, d) (ss, f) := ⟨_, rfl⟩
  have HEr : Hid (meetE true (rs, d) (ss, f) = er) := her.symm
  rw [← her]
  clear her
  go_wp2_with fail
  refine bodyPost_ret (v := .tuple #[.agg #[.slice va vn vc, .int .i64 vd], .int .i64 er]) ?_ rfl ⟨_, by rw [HEr.out], ?_, ?_⟩
  · rw [results_cell_tmp rfl]
    go_simp
  · refine PolNew.keep (L := w.heap.size + 1 + 1 + 1) ?_ (by omega) (fun g _ _ => rfl) (Nat.le_refl _)
    repeat (first | exact HN.out | refine PolNew.put ?_ (.inl (by simp)))
  · repeat (first | exact HB4.out | refine Below.setCell ?_ (by simp; omega) _)

end Go.Proofs.YtbdlojnigflanacGreatDoor
end
section
/- Package meet: the rules without those at the end that say what Default would. -/
set_option linter.all false
set_option maxRecDepth 100000
namespace Go.Proofs.YtbdlojnigflanacGreatDoor
open Go.RowKit Go.Maps

theorem cutEnd_last (d : Int) (r : RuleT) : ∀ l : List RuleT, cutEnd d (l ++ [r]) = if r.2 = d then cutEnd d l else l ++ [r]
  | [] => by
    show (if cutEnd d [] = [] ∧ r.2 = d then [] else r :: cutEnd d []) = _
    by_cases h : r.2 = d <;> simp [h, cutEnd]
  | s :: l => by
    have ih := cutEnd_last d r l
    show (if cutEnd d (l ++ [r]) = [] ∧ s.2 = d then [] else s :: cutEnd d (l ++ [r])) = _
    rw [ih]
    by_cases h : r.2 = d
    · rw [if_pos h, if_pos h]
      rfl
    · rw [if_neg h, if_neg h, if_neg (by simp)]
      rfl

set_option maxHeartbeats 2000000 in
theorem withoutEnd_any (B : Nat) (a : Option Addr) (n c : Nat) (rs : List RuleT) (d : Int) (w : World) (h : RulesAt B w (.slice a n c) rs) (hn : n ≤ 1000) :
    Calls Tryz.prog 120 #[.slice a n c, .int .i64 d] w fun e w' => e = .returned (.slice a (cutEnd d rs).length c) ∧ w' = w := by
  obtain ⟨a', c', e0, hlc, hcm, hat⟩ := h
  simp at e0
  obtain ⟨rfl, hN, rfl⟩ := e0
  have HN : Hid (rs.length = n) := hN.symm
  rw [maxLen_eq] at hcm
  rw [← hN] at hlc
  have HAt : Hid (∀ k r, rs[k]? = some r → ∃ b o, a = some ⟨b, o, none⟩ ∧ w.cell? ⟨b, o + k * 2 + 1, none⟩ = some (.int .i64 r.2)) := fun k r hr => by
    obtain ⟨b, o, e, _, cv, _, k1, _⟩ := hat k r hr
    exact ⟨b, o, e, k1⟩
  clear hat hN
  go_enter Tryz.func120, Tryz.ntmps120
  go_wp2_with fail
  go_loop [5] (fun ev => ∃ k : Nat, k ≤ n ∧ ev = .int .i64 k ∧ Hid (cutEnd d (rs.take k) = cutEnd d rs)) (fun ev => (intOf ev).toNat)
  case atStart => exact ⟨n, Nat.le_refl _, rfl, by unfold Hid; rw [← HN.out, List.take_length]⟩
  case round =>
    obtain ⟨k, hk, rfl, HE⟩ := hrel
    have hkc : (k : Int) ≤ (c : Int) := by omega
    have k0 : (0 : Int) ≤ (k : Int) := by omega
    by_cases hz : k = 0
    · subst hz
      have HL : Hid ((cutEnd d rs).length = 0) := by unfold Hid; rw [← HE.out]; rfl
      clear HE
      go_wp2_with fail
      go_ret
      exact ⟨by rw [HL.out]; rfl, rfl⟩
    · obtain ⟨j, hj⟩ : ∃ j, k = j + 1 := ⟨k - 1, by omega⟩
      obtain ⟨r, hrk⟩ : ∃ r, rs[j]? = some r := ⟨rs[j]'(by rw [HN.out]; omega), by simp⟩
      have HTk : Hid (rs.take k = rs.take j ++ [r]) := by unfold Hid; rw [hj, List.take_succ, hrk]; rfl
      obtain ⟨b, o, e, z1⟩ := HAt.out j r hrk
      subst e
      have hpos : (0 : Int) < (k : Int) := by omega
      have hkj : (k : Int) - 1 = (j : Int) := by omega
      have hjn : (j : Int) < (n : Int) := by omega
      have hj0 : (0 : Int) ≤ (j : Int) := by omega
      have hlt : j < n := by omega
      have HJ : Hid (k = j + 1) := hj
      clear hrk hz hj
      by_cases hv : r.2 = d
      · have HE' : Hid (cutEnd d (rs.take j) = cutEnd d rs) := by
          unfold Hid
          rw [← HE.out, HTk.out, cutEnd_last, if_pos hv]
        have hq : (r.2 == d) = true := by simpa using hv
        generalize r.2 = rv at *
        go_wp2_with fail
        exact ⟨⟨j, by omega, rfl, HE'⟩, by have := HJ.out; simp [intOf]; omega⟩
      · have HL : Hid ((cutEnd d rs).length = k) := by
          unfold Hid
          rw [← HE.out, HTk.out, cutEnd_last, if_neg hv, ← HTk.out, List.length_take, HN.out]
          omega
        have hq : (r.2 == d) = false := by simpa using hv
        generalize r.2 = rv at *
        go_wp2_with fail
        go_ret
        exact ⟨by rw [HL.out]; rfl, rfl⟩
end Go.Proofs.YtbdlojnigflanacGreatDoor
end
section
/- Numbers and calls in memory, held against each other. -/
set_option linter.all false
set_option maxRecDepth 100000
namespace Go.Proofs.YtbdlojnigflanacGreatDoor
open Go.RowKit Go.Maps

/-- Numbers in memory, all in blocks below B. -/
def IntsAt (B : Nat) (w : World) (v : Value) (cs : List Int) : Prop :=
  ∃ a cap, v = .slice a cs.length cap ∧ cs.length ≤ cap ∧ cap ≤ maxLen ∧ ∀ (i : Nat) c, cs[i]? = some c → ∃ b o, a = some ⟨b, o, none⟩ ∧ b < B ∧ w.cell? ⟨b, o + i, none⟩ = some (.int .i64 c)
theorem IntsAt.later {B B' : Nat} {w w' : World} {v : Value} {cs : List Int} (h : IntsAt B w v cs) (hb : Below B' w w') (hB : B ≤ B') : IntsAt B w' v cs := by
  obtain ⟨a, cap, h1, h2, h3, h4⟩ := h
  refine ⟨a, cap, h1, h2, h3, fun i c hc => ?_⟩
  obtain ⟨b, o, e, hl, k⟩ := h4 i c hc
  exact ⟨b, o, e, hl, (hb.cell (p := ⟨b, o + i, none⟩) (by show b < B'; omega)).trans k⟩
theorem intsAt_own {L : Nat} {w : World} {v : Value} {l : List Int} (h : w.ownsRow L 3 1 v l.length (l.map (.int .i64))) : IntsAt w.heap.size w v l := by
  obtain ⟨a, cap, rfl, h1, h2, h3⟩ := ownsRow_caps h
  refine ⟨a, cap, rfl, h1, h2, fun i c hc => ?_⟩
  have hi : i < l.length := (List.getElem?_eq_some_iff.1 hc).1
  obtain ⟨g, rfl, hg1, hg2⟩ := h3 (by omega)
  refine ⟨g, 0, rfl, hg2, ?_⟩
  rw [Nat.zero_add]
  exact ownsRow_cell h i _ (by simp [hc])
/-- Calls in memory: five cells each. -/
abbrev CallT := Int × Int × Int × Int × Int
def ofC (x : CallT) : Nat → Int := at5 x.1 x.2.1 x.2.2.1 x.2.2.2.1 x.2.2.2.2
def CallAt (w : World) (b o : Nat) (x : CallT) : Prop := w.cell? ⟨b, o, none⟩ = some (.int .i64 x.1) ∧ w.cell? ⟨b, o + 1, none⟩ = some (.int .i64 x.2.1) ∧ w.cell? ⟨b, o + 2, none⟩ = some (.int .i64 x.2.2.1) ∧ w.cell? ⟨b, o + 3, none⟩ = some (.int .i64 x.2.2.2.1) ∧ w.cell? ⟨b, o + 4, none⟩ = some (.int .i64 x.2.2.2.2)
def CallsAt (B : Nat) (w : World) (v : Value) (cs : List CallT) : Prop :=
  ∃ a cap, v = .slice a cs.length cap ∧ cs.length ≤ cap ∧ cap ≤ maxLen ∧ ∀ (i : Nat) c, cs[i]? = some c → ∃ b o, a = some ⟨b, o, none⟩ ∧ b < B ∧ CallAt w b (o + i * 5) c
theorem CallAt.later {B : Nat} {w w' : World} {b o : Nat} {c : CallT} (h : CallAt w b o c) (hb : Below B w w') (hB : b < B) : CallAt w' b o c := by
  unfold CallAt
  rw [hb.cell (p := ⟨b, o, none⟩) hB, hb.cell (p := ⟨b, o + 1, none⟩) hB, hb.cell (p := ⟨b, o + 2, none⟩) hB, hb.cell (p := ⟨b, o + 3, none⟩) hB, hb.cell (p := ⟨b, o + 4, none⟩) hB]
  exact h
theorem CallsAt.later {B B' : Nat} {w w' : World} {v : Value} {cs : List CallT} (h : CallsAt B w v cs) (hb : Below B' w w') (hB : B ≤ B') : CallsAt B w' v cs := by
  obtain ⟨a, cap, h1, h2, h3, h4⟩ := h
  refine ⟨a, cap, h1, h2, h3, fun i c hc => ?_⟩
  obtain ⟨b, o, e, hl, k⟩ := h4 i c hc
  exact ⟨b, o, e, hl, k.later hb (by omega)⟩
def asC (x : List Int) : CallT := (x.getD 0 0, x.getD 1 0, x.getD 2 0, x.getD 3 0, x.getD 4 0)
theorem fives_get : ∀ (l : List (List Int)), (∀ x ∈ l, ∃ a b c d e, x = [a, b, c, d, e]) → ∀ (i : Nat) (c : CallT), (l.map asC)[i]? = some c →
    (callCells l)[i * 5]? = some (.int .i64 c.1) ∧ (callCells l)[i * 5 + 1]? = some (.int .i64 c.2.1) ∧ (callCells l)[i * 5 + 2]? = some (.int .i64 c.2.2.1) ∧ (callCells l)[i * 5 + 3]? = some (.int .i64 c.2.2.2.1) ∧ (callCells l)[i * 5 + 4]? = some (.int .i64 c.2.2.2.2)
  | [], _, i, c, h => by simp at h
  | x :: l, hx, 0, c, h => by
    obtain ⟨a', b', c', d', e', rfl⟩ := hx x (by simp)
    simp at h
    subst h
    simp [callCells, asC]
  | x :: l, hx, i + 1, c, h => by
    obtain ⟨a', b', c', d', e', rfl⟩ := hx x (by simp)
    have ih := fives_get l (fun y hy => hx y (by simp [hy])) i c (by simpa using h)
    have e1 : callCells ([a', b', c', d', e'] :: l) = .int .i64 a' :: .int .i64 b' :: .int .i64 c' :: .int .i64 d' :: .int .i64 e' :: callCells l := rfl
    rw [e1, show (i + 1) * 5 = i * 5 + 5 by omega]
    exact ih
theorem callsAt_own {L : Nat} {w : World} {v : Value} {l : List (List Int)} (h5 : ∀ x ∈ l, ∃ a b c d e, x = [a, b, c, d, e]) (h : w.ownsRow L 26 5 v l.length (callCells l)) : CallsAt w.heap.size w v (l.map asC) := by
  obtain ⟨a, cap, rfl, h1, h2, h3⟩ := ownsRow_caps h
  refine ⟨a, cap, by rw [List.length_map], by rw [List.length_map]; exact h1, h2, fun i c hc => ?_⟩
  have hi : i < l.length := by have := (List.getElem?_eq_some_iff.1 hc).1; simpa using this
  obtain ⟨g, rfl, hg1, hg2⟩ := h3 (by omega)
  obtain ⟨e0, e1, e2, e3, e4⟩ := fives_get l h5 i c hc
  refine ⟨g, 0, rfl, hg2, ?_, ?_, ?_, ?_, ?_⟩
  all_goals rw [Nat.zero_add]
  · exact ownsRow_cell h _ _ e0
  · exact ownsRow_cell h _ _ e1
  · exact ownsRow_cell h _ _ e2
  · exact ownsRow_cell h _ _ e3
  · exact ownsRow_cell h _ _ e4

end Go.Proofs.YtbdlojnigflanacGreatDoor
end
section
/- Package meet: of how many points each rule says the verdict. -/
set_option linter.all false
set_option maxRecDepth 100000
namespace Go.Proofs.YtbdlojnigflanacGreatDoor
open Go.RowKit Go.Maps

/-- How many of some calls are judged by rule i. -/
def cntP (p : PolT) (l : List CallT) (i : Int) : Nat := (l.filter fun x => kP p (ofC x) == i).length
theorem cntP_snoc (p : PolT) (l : List CallT) (x : CallT) (i : Int) : cntP p (l ++ [x]) i = cntP p l i + if kP p (ofC x) = i then 1 else 0 := by
  unfold cntP
  rw [List.filter_append, List.length_append]
  by_cases h : kP p (ofC x) = i <;> simp [h]
theorem cntP_le (p : PolT) (l : List CallT) (i : Int) : cntP p l i ≤ l.length := List.length_filter_le _ _
theorem cntP_pos (p : PolT) (l : List CallT) (i : Int) : 0 < cntP p l i ↔ (l.any fun x => kP p (ofC x) == i) = true := by
  unfold cntP
  rw [List.length_pos_iff_exists_mem]
  simp

set_option maxHeartbeats 4000000 in
theorem countUses_any (B : Nat) (pv lv : Value) (p : PolT) (cs : List CallT) (w : World) (hp : PolAt B w pv p) (hl : CallsAt B w lv cs) (hB : B ≤ w.heap.size) (hn : cs.length ≤ 1000) (hk : ∀ x ∈ cs, wf (kP p (ofC x))) :
    Calls Tryz.prog 118 #[pv, lv] w fun e w' => ∃ b, e = .returned (.map (some b)) ∧ ∃ D, w'.ownsMap (H := Unit) Tryz.prog 3 (plainElem Tryz.prog 3) b 1000 D ∧ (∀ i, wf i → D.atKey (.int .i64 i) (.lit (.int .i64 0)) = .lit (.int .i64 (cntP p cs i))) ∧ Below w.heap.size w w' := by
  have HJ : Hid (∀ x w', Below w.heap.size w w' → Calls Tryz.prog 16 #[pv, callV x] w' fun e w'' => e = .returned (.tuple #[.int .i64 (judgeP p x).1, .int .i64 (judgeP p x).2.1, .int .i64 (judgeP p x).2.2]) ∧ Below w'.heap.size w' w'') := fun x w' h => judge_any B pv p x w' (hp.later h hB) (Nat.le_trans hB h.size)
  have HL : Hid (∀ w', Below w.heap.size w w' → CallsAt B w' lv cs) := fun w' h => hl.later h hB
  have HK : Hid _ := hk
  obtain ⟨rs, d⟩ := p
  obtain ⟨rv, e1, -, a, c, e2, -⟩ := hp
  obtain ⟨a1, c1, e3, hlc, hcm, -⟩ := hl
  simp only at e1 e2
  subst e2 e1 e3
  clear hk
  have hml := maxLen_eq
  rw [hml] at hcm
  obtain ⟨N, hN⟩ : ∃ N, N = cs.length := ⟨_, rfl⟩
  have HN : Hid (cs.length = N) := hN.symm
  rw [← hN] at hn hlc HL ⊢
  clear hN
  generalize rs.length = n0 at *
  have hmm := @run_makeMap Tryz.prog
  obtain ⟨W1, hW1⟩ : ∃ W1, W1 = w.alloc (.cells #[.slice a n0 c, .int .i64 d] 24) := ⟨_, rfl⟩
  have hs1 : W1.heap.size = w.heap.size + 1 := by rw [hW1]; simp
  have hb1 : Below w.heap.size w W1 := by rw [hW1]; exact (Below.refl _ _).alloc (Nat.le_refl _) _
  have g1 : W1.heap[w.heap.size]? = some (.cells #[.slice a n0 c, .int .i64 d] 24 (0, 0)) := by rw [hW1]; exact heap_made _ _
  have hm0 := World.ownsMap_made (H := Unit) W1 Tryz.prog 3 (plainElem Tryz.prog 3)
  rw [hs1] at hm0
  obtain ⟨W2, hW2⟩ : ∃ W2, W2 = W1.alloc (.map #[] 0) := ⟨_, rfl⟩
  rw [← hW2] at hm0
  have hb2 : Below (w.heap.size + 1) W1 W2 := by rw [hW2]; exact (Below.refl _ _).alloc (by omega) _
  have HM0 : Hid (W2.ownsMap (H := Unit) Tryz.prog 3 (plainElem Tryz.prog 3) (w.heap.size + 1) 0 (.map [])) := hm0
  have HBx : Hid (∀ v, Below (w.heap.size + 1) W1 v → v.heap[w.heap.size]? = some (.cells #[.slice a n0 c, .int .i64 d] 24 (0, 0)) ∧ Below w.heap.size w v) := fun v h => ⟨(h.block _ (by omega)).trans g1, hb1.trans (h.mono (by omega))⟩
  have HW1 : Hid (W1 = _) := hW1
  have HW2 : Hid (W2 = _) := hW2
  have HB2 : Hid (Below (w.heap.size + 1) W1 W2) := hb2
  clear hW1 hW2 g1 hm0 hb2
  go_enter Tryz.func118, Tryz.ntmps118
  go_wp2_with fail
  rw [← HW1.out]
  rw [← HW2.out]
  clear hmm
  go_loopw [14] (fun iv wr => ∃ (k : Nat) (D : DataW Unit), k ≤ N ∧ iv = .int .i64 k ∧ Hid (wr.ownsMap (H := Unit) Tryz.prog 3 (plainElem Tryz.prog 3) (w.heap.size + 1) k D) ∧ Hid (∀ i, wf i → D.atKey (.int .i64 i) (.lit (.int .i64 0)) = .lit (.int .i64 (cntP (rs, d) (cs.take k) i))) ∧ Hid (Below (w.heap.size + 1) W1 wr)) (fun iv _ => N - (intOf iv).toNat)
  case atStart => exact ⟨0, .map [], by omega, rfl, HM0, fun i _ => rfl, HB2⟩
  case round =>
    obtain ⟨k, D, hk, rfl, HO, HA, HBl⟩ := hrel
    obtain ⟨wo, hwo⟩ : ∃ x, x = wr := ⟨_, rfl⟩
    subst hwo
    have k0 : (0 : Int) ≤ (k : Int) := by omega
    obtain ⟨gp, hbw⟩ := HBx.out _ HBl.out
    have hmlt := HO.out.lt
    by_cases hlt : k < N
    · have k1 : (k : Int) < (N : Int) := by omega
      obtain ⟨x, hxk⟩ : ∃ x, cs[k]? = some x := ⟨cs[k]'(by rw [HN.out]; omega), by simp⟩
      have HTk : Hid (cs.take (k + 1) = cs.take k ++ [x]) := by unfold Hid; rw [List.take_succ, hxk]; rfl
      have hwk := HK.out x (List.mem_of_getElem? hxk)
      have HCk : Hid (∀ i, cntP (rs, d) (cs.take k) i ≤ k) := fun i => Nat.le_trans (cntP_le _ _ _) (by rw [List.length_take]; omega)
      obtain ⟨_, _, e1, -, -, hat⟩ := HL.out _ hbw
      obtain ⟨b3, o3, e, hbB3, q0, q1, q2, q3, q4⟩ := hat k x hxk
      simp at e1
      obtain ⟨rfl, -, -⟩ := e1
      subst e
      clear hat hxk
      obtain ⟨x0, x1, x2, x3, x4⟩ := x
      simp only [] at q0 q1 q2 q3 q4
      obtain ⟨kk, hkk⟩ : ∃ kk, kk = kP (rs, d) (ofC (x0, x1, x2, x3, x4)) := ⟨_, rfl⟩
      have HKK : Hid (kP (rs, d) (ofC (x0, x1, x2, x3, x4)) = kk) := hkk.symm
      have HJx : Hid (∀ w', Below w.heap.size w w' → Calls Tryz.prog 16 #[.agg #[.slice a n0 c, .int .i64 d], .agg #[.int .i64 x0, .int .i64 x1, .int .i64 x2, .int .i64 x3, .int .i64 x4]] w' fun e w'' => ∃ v1 v3, e = .returned (.tuple #[.int .i64 v1, .int .i64 kk, .int .i64 v3]) ∧ Below w'.heap.size w' w'') := fun w' h => by
        refine (HJ.out (at5 x0 x1 x2 x3 x4) w' h).mono ?_
        rintro e w'' ⟨rfl, hb⟩
        exact ⟨_, _, by rw [hkk]; rfl, hb⟩
      rw [← hkk] at hwk
      clear hkk
      obtain ⟨m, hm⟩ : ∃ m, m = cntP (rs, d) (cs.take k) kk := ⟨_, rfl⟩
      have HAk : Hid (D.atKey (.int .i64 kk) (.lit (.int .i64 0)) = .lit (.int .i64 (m : Int))) := by unfold Hid; rw [hm]; exact HA.out kk hwk
      have hmk : m ≤ 1000 := by have := HCk.out kk; omega
      have hwm : (Lit.int .i64 ((m : Int) + 1)).wf = true := WalkArith.wf_i64 (by omega)
      have hIM : IsMap D := World.ownsMap.isMap HO.out
      have HFin : Hid (∀ i, wf i → (D.put (.int .i64 kk) (.lit (.int .i64 ((m : Int) + 1)))).atKey (.int .i64 i) (.lit (.int .i64 0)) = .lit (.int .i64 (cntP (rs, d) (cs.take (k + 1)) i))) := by
        intro i hi
        rw [HTk.out, cntP_snoc, HKK.out]
        by_cases h : kk = i
        · subst h
          rw [Maps.atKey_put_same hIM (by simp [WideAt.IsKeyLit]), if_pos rfl, ← hm]
          rfl
        · rw [Maps.atKey_put_other (by simpa using fun e : i = kk => h e.symm), if_neg h, HA.out i hi]
          rfl
      have HMm : Hid _ := hm
      clear hm hIM HCk
      have y0 := heap_cell gp 0 rfl
      have y1 := heap_cell gp 1 rfl
      have hpl : w.heap.size < wo.heap.size := lt_of_block gp
      have hba : ∀ X, Below wo.heap.size wo (wo.alloc X) := fun X => (Below.refl _ _).alloc (Nat.le_refl _) _
      have hklt : k < maxLen := by omega
      clear gp
      go_wp2_with fail
      go_at_call 16
      refine Calls.mono (HJx.out _ (Below.thenOf hbw (hba _) hbw.size)) ?_
      rintro e w5 ⟨v1, v3, rfl, hb5⟩
      have hb5' : Below wo.heap.size wo w5 := Below.thenOf (hba _) hb5 (by simp)
      have HO5 : Hid (w5.ownsMap (H := Unit) Tryz.prog 3 (plainElem Tryz.prog 3) (w.heap.size + 1) k D) := HO.out.kept (grown_of_below hb5' none) (by simp)
      have HB5 : Hid (Below (w.heap.size + 1) W1 w5) := Below.thenOf HBl.out hb5' (by omega)
      clear q0 q1 q2 q3 q4 y0 y1 hb5 hb5' hba HO HBl
      go_wp2_with (first
        | (at_lookup; go_must (refine wpList_lookup_own_int _ rfl _ _ 150 rfl 3 3 .i64 key3 Tryz.underlying150 Tryz.underlying3 (zero3 _) (w.heap.size + 1) k D rfl HO5.out _ _ rfl (keyOf_int_mk Tryz.underlying3 hwk) ?_; intro cc hat hwc; have hcc := hat.symm.trans HAk.out; simp only [DataW.lit.injEq, Lit.int.injEq, true_and] at hcc; subst hcc; clear hat hwc))
        | (at_mapUpdate; go_must (refine wpList_mapUpdate_own _ rfl _ _ _ 150 rfl 3 3 key3 Tryz.underlying150 (plainElem Tryz.prog 3) (w.heap.size + 1) k D rfl HO5.out hklt _ _ _ rfl rfl (keyOf_int_mk Tryz.underlying3 hwk) _ [] (plainElem_int Tryz.underlying3 hwm) ?_; intro w7 ho7 hg7; have HO7 : Hid _ := ho7; have HG7 : Hid _ := hg7; clear ho7 hg7)))
      have hb7 : Below (w.heap.size + 1) w5 w7 := (Below.refl _ _).grown HG7.out (by have := HO5.out.lt; omega) (fun q hq => by cases hq; exact Nat.le_refl _)
      exact ⟨⟨k + 1, _, by omega, by go_num, HO7, HFin, HB5.out.trans hb7⟩, by simp [intOf]; omega⟩
    · have e : k = N := by omega
      subst e
      have HE : Hid (cs.take k = cs) := by unfold Hid; rw [← HN.out, List.take_length]
      rw [HE.out] at HA
      have k1 : ¬ ((k : Int) < (k : Int)) := by omega
      have HBw : Hid (Below w.heap.size w wo) := hbw
      have HO' : Hid (wo.ownsMap (H := Unit) Tryz.prog 3 (plainElem Tryz.prog 3) (w.heap.size + 1) 1000 D) := HO.out.mono hn
      clear gp hbw HBl HO
      go_wp2_with fail
      go_ret
      exact ⟨_, rfl, D, HO'.out, HA.out, HBw.out⟩
end Go.Proofs.YtbdlojnigflanacGreatDoor
end
