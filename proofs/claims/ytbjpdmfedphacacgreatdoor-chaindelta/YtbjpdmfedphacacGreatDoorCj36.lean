/- Joined: Mee5 Mee7 PtC. -/
import Derived.Test.YtbjpdmfedphacacGreatDoorCj35
import Derived.Test.YtbjpdmfedphacacGreatDoorCj31
import Derived.Test.YtbjpdmfedphacacGreatDoorCj14
import Derived.Laws.StructEq
section
/- Package meet: Meet and Except. -/
set_option linter.all false
set_option maxRecDepth 100000
namespace Go.Proofs.YtbjpdmfedphacacGreatDoor
open Go.RowKit Go.Maps

set_option maxHeartbeats 4000000 in
theorem exceptD_any (B : Nat) (pv qv : Value) (p q : PolT) (w : World) (hp : PolAt B w pv p) (hq : PolAt B w qv q) (hB : B ≤ w.heap.size) :
    Calls Tryz.prog 11 #[pv, qv] w fun e w' => ∃ v, e = .returned (.tuple #[v, .int .i64 (meetE true p q)]) ∧ PolNew w.heap.size w' v (meetR true p q) ∧ Below w.heap.size w w' := by
  obtain ⟨rs, d⟩ := p
  obtain ⟨ss, f⟩ := q
  obtain ⟨rv, e1, hd, hrs⟩ := hp
  obtain ⟨sv, e2, hf, hss⟩ := hq
  have HCm : Hid (∀ w', Below w.heap.size w w' → Calls Tryz.prog 29 #[.agg #[rv, .int .i64 d, sv, .int .i64 f], .func (.func 30) #[] #[]] w' fun e w'' => ∃ v, e = .returned (.tuple #[v, .int .i64 (meetE true (rs, d) (ss, f))]) ∧ PolNew w'.heap.size w'' v (meetR true (rs, d) (ss, f)) ∧ Below w'.heap.size w' w'') := fun w' h => combine_any true _ (fun a b w => exceptFn_any a b w) (fun args w' => by kernel_rfl) B rv sv rs ss d f w' (hrs.later h hB) (hss.later h hB) hd hf (Nat.le_trans hB h.size)
  obtain ⟨a, cap, e3, -, -, -⟩ := hrs
  obtain ⟨b, cap2, e4, -, -, -⟩ := hss
  simp only at e1 e2 e3 e4 hd hf
  subst e3 e4 e1 e2
  clear hd hf
  generalize rs.length = n1 at *
  generalize ss.length = n2 at *
  obtain ⟨W3, hW3⟩ : ∃ W3, W3 = ((w.alloc (.cells #[.slice a n1 cap, .int .i64 d] 24)).alloc (.cells #[.slice b n2 cap2, .int .i64 f] 24)).alloc (.cells #[.slice none 0 0, .int .i64 0] 24) := ⟨_, rfl⟩
  have hs3 : W3.heap.size = w.heap.size + 1 + 1 + 1 := by rw [hW3]; simp
  have hb3 : Below w.heap.size w W3 := by rw [hW3]; exact (((Below.refl _ _).alloc (Nat.le_refl _) _).alloc (by simp) _).alloc (by simp; omega) _
  have g2 : W3.heap[w.heap.size + 1 + 1]? = some (.cells #[.slice none 0 0, .int .i64 0] 24 (0, 0)) := by
    rw [hW3]
    exact heap_at _ _ (by simp only [World.size_alloc])
  have HW : Hid (W3 = _) := hW3
  clear hW3
  go_enter Tryz.func11, Tryz.ntmps11
  go_wp2_with fail
  rw [← HW.out]
  go_at_call 29
  refine Calls.mono (HCm.out W3 hb3) ?_
  rintro e w4 ⟨v, rfl, hn, hb4⟩
  have HN : Hid (PolNew (w.heap.size + 1 + 1 + 1) w4 v (meetR true (rs, d) (ss, f))) := by rw [← hs3]; exact hn
  obtain ⟨vr, ev, hwv, va, vc, er, -⟩ := hn.at
  subst er
  subst ev
  have g4 := (hb4.block _ (by omega)).trans g2
  have r0 := heap_cell g4 0 rfl
  have r1 := heap_cell g4 1 rfl
  have f0 : w4.frozen? ⟨w.heap.size + 1 + 1, 0, none⟩ = false := by simp [World.frozen?, g4]
  have f1 : w4.frozen? ⟨w.heap.size + 1 + 1, 1, none⟩ = false := by simp [World.frozen?, g4]
  have HB4 : Hid (Below w.heap.size w w4) := Below.thenOf hb3 hb4 hb3.size
  clear hn hwv hb4 g4 g2 HCm
  generalize (meetR true (rs, d) (ss, f)).1.length = vn at *
  obtain ⟨vd, hvd⟩ : ∃ vd, vd = (meetR true (rs, d) (ss, f)).2 := ⟨_, rfl⟩
  rw [← hvd] at HN ⊢
  clear hvd
  obtain ⟨er, her⟩ : ∃ er, er = meetE true (rs, d) (ss, f) := ⟨_, rfl⟩
  have HEr : Hid (meetE true (rs, d) (ss, f) = er) := her.symm
  rw [← her]
  clear her
  go_wp2_with fail
  refine bodyPost_ret (v := .tuple #[.agg #[.slice va vn vc, .int .i64 vd], .int .i64 er]) ?_ rfl ⟨_, by rw [HEr.out], ?_, ?_⟩
  · rw [results_cell_tmp rfl]
    go_simp
  · refine PolNew.keep (L := w.heap.size + 1 + 1 + 1) ?_ (by omega) (fun g _ _ => rfl) (Nat.le_refl _)
    repeat (first | exact HN.out | refine PolNew.put ?_ (.inl (by simp)))
  · repeat (first | exact HB4.out | refine Below.setCell ?_ (by simp; omega) _)

end Go.Proofs.YtbjpdmfedphacacGreatDoor
end
section
/- Package meet: the rules without those at the end that say what Default would. -/
set_option linter.all false
set_option maxRecDepth 100000
namespace Go.Proofs.YtbjpdmfedphacacGreatDoor
open Go.RowKit Go.Maps

theorem cutEnd_last (d : Int) (r : RuleT) : ∀ l : List RuleT, cutEnd d (l ++ [r]) = if r.2 = d then cutEnd d l else l ++ [r]
  | [] => by
    show (if cutEnd d [] = [] ∧ r.2 = d then [] else r :: cutEnd d []) = _
    by_cases h : r.2 = d <;> simp [h, cutEnd]
  | s :: l => by
    have ih := cutEnd_last d r l
    show (if cutEnd d (l ++ [r]) = [] ∧ s.2 = d then [] else s :: cutEnd d (l ++ [r])) = _
    rw [ih]
    by_cases h : r.2 = d
    · rw [if_pos h, if_pos h]
      rfl
    · rw [if_neg h, if_neg h, if_neg (by simp)]
      rfl

set_option maxHeartbeats 2000000 in
theorem withoutEnd_any (B : Nat) (a : Option Addr) (n c : Nat) (rs : List RuleT) (d : Int) (w : World) (h : RulesAt B w (.slice a n c) rs) (hn : n ≤ 1000) :
    Calls Tryz.prog 33 #[.slice a n c, .int .i64 d] w fun e w' => e = .returned (.slice a (cutEnd d rs).length c) ∧ w' = w := by
  obtain ⟨a', c', e0, hlc, hcm, hat⟩ := h
  simp at e0
  obtain ⟨rfl, hN, rfl⟩ := e0
  have HN : Hid (rs.length = n) := hN.symm
  rw [maxLen_eq] at hcm
  rw [← hN] at hlc
  have HAt : Hid (∀ k r, rs[k]? = some r → ∃ b o, a = some ⟨b, o, none⟩ ∧ w.cell? ⟨b, o + k * 2 + 1, none⟩ = some (.int .i64 r.2)) := fun k r hr => by
    obtain ⟨b, o, e, _, cv, _, k1, _⟩ := hat k r hr
    exact ⟨b, o, e, k1⟩
  clear hat hN
  go_enter Tryz.func33, Tryz.ntmps33
  go_wp2_with fail
  go_loop [5] (fun ev => ∃ k : Nat, k ≤ n ∧ ev = .int .i64 k ∧ Hid (cutEnd d (rs.take k) = cutEnd d rs)) (fun ev => (intOf ev).toNat)
  case atStart => exact ⟨n, Nat.le_refl _, rfl, by unfold Hid; rw [← HN.out, List.take_length]⟩
  case round =>
    obtain ⟨k, hk, rfl, HE⟩ := hrel
    have hkc : (k : Int) ≤ (c : Int) := by omega
    have k0 : (0 : Int) ≤ (k : Int) := by omega
    by_cases hz : k = 0
    · subst hz
      have HL : Hid ((cutEnd d rs).length = 0) := by unfold Hid; rw [← HE.out]; rfl
      clear HE
      go_wp2_with fail
      go_ret
      exact ⟨by rw [HL.out]; rfl, rfl⟩
    · obtain ⟨j, hj⟩ : ∃ j, k = j + 1 := ⟨k - 1, by omega⟩
      obtain ⟨r, hrk⟩ : ∃ r, rs[j]? = some r := ⟨rs[j]'(by rw [HN.out]; omega), by simp⟩
      have HTk : Hid (rs.take k = rs.take j ++ [r]) := by unfold Hid; rw [hj, List.take_succ, hrk]; rfl
      obtain ⟨b, o, e, z1⟩ := HAt.out j r hrk
      subst e
      have hpos : (0 : Int) < (k : Int) := by omega
      have hkj : (k : Int) - 1 = (j : Int) := by omega
      have hjn : (j : Int) < (n : Int) := by omega
      have hj0 : (0 : Int) ≤ (j : Int) := by omega
      have hlt : j < n := by omega
      have HJ : Hid (k = j + 1) := hj
      clear hrk hz hj
      by_cases hv : r.2 = d
      · have HE' : Hid (cutEnd d (rs.take j) = cutEnd d rs) := by
          unfold Hid
          rw [← HE.out, HTk.out, cutEnd_last, if_pos hv]
        have hq : (r.2 == d) = true := by simpa using hv
        generalize r.2 = rv at *
        go_wp2_with fail
        exact ⟨⟨j, by omega, rfl, HE'⟩, by have := HJ.out; simp [intOf]; omega⟩
      · have HL : Hid ((cutEnd d rs).length = k) := by
          unfold Hid
          rw [← HE.out, HTk.out, cutEnd_last, if_neg hv, ← HTk.out, List.length_take, HN.out]
          omega
        have hq : (r.2 == d) = false := by simpa using hv
        generalize r.2 = rv at *
        go_wp2_with fail
        go_ret
        exact ⟨by rw [HL.out]; rfl, rfl⟩
end Go.Proofs.YtbjpdmfedphacacGreatDoor
end
section
/- Numbers and calls in memory, held against each other. -/
set_option linter.all false
set_option maxRecDepth 100000
namespace Go.Proofs.YtbjpdmfedphacacGreatDoor
open Go.RowKit Go.Maps

/-- Numbers in memory, all in blocks below B. -/
def IntsAt (B : Nat) (w : World) (v : Value) (cs : List Int) : Prop :=
  ∃ a cap, v = .slice a cs.length cap ∧ cs.length ≤ cap ∧ cap ≤ maxLen ∧ ∀ (i : Nat) c, cs[i]? = some c → ∃ b o, a = some ⟨b, o, none⟩ ∧ b < B ∧ w.cell? ⟨b, o + i, none⟩ = some (.int .i64 c)
theorem IntsAt.later {B B' : Nat} {w w' : World} {v : Value} {cs : List Int} (h : IntsAt B w v cs) (hb : Below B' w w') (hB : B ≤ B') : IntsAt B w' v cs := by
  obtain ⟨a, cap, h1, h2, h3, h4⟩ := h
  refine ⟨a, cap, h1, h2, h3, fun i c hc => ?_⟩
  obtain ⟨b, o, e, hl, k⟩ := h4 i c hc
  exact ⟨b, o, e, hl, (hb.cell (p := ⟨b, o + i, none⟩) (by show b < B'; omega)).trans k⟩
theorem intsAt_own {L : Nat} {w : World} {v : Value} {l : List Int} (h : w.ownsRow L 3 1 v l.length (l.map (.int .i64))) : IntsAt w.heap.size w v l := by
  obtain ⟨a, cap, rfl, h1, h2, h3⟩ := ownsRow_caps h
  refine ⟨a, cap, rfl, h1, h2, fun i c hc => ?_⟩
  have hi : i < l.length := (List.getElem?_eq_some_iff.1 hc).1
  obtain ⟨g, rfl, hg1, hg2⟩ := h3 (by omega)
  refine ⟨g, 0, rfl, hg2, ?_⟩
  rw [Nat.zero_add]
  exact ownsRow_cell h i _ (by simp [hc])
/-- Calls in memory: five cells each. -/
abbrev CallT := Int × Int × Int × Int × Int
def ofC (x : CallT) : Nat → Int := at5 x.1 x.2.1 x.2.2.1 x.2.2.2.1 x.2.2.2.2
def CallAt (w : World) (b o : Nat) (x : CallT) : Prop := w.cell? ⟨b, o, none⟩ = some (.int .i64 x.1) ∧ w.cell? ⟨b, o + 1, none⟩ = some (.int .i64 x.2.1) ∧ w.cell? ⟨b, o + 2, none⟩ = some (.int .i64 x.2.2.1) ∧ w.cell? ⟨b, o + 3, none⟩ = some (.int .i64 x.2.2.2.1) ∧ w.cell? ⟨b, o + 4, none⟩ = some (.int .i64 x.2.2.2.2)
def CallsAt (B : Nat) (w : World) (v : Value) (cs : List CallT) : Prop :=
  ∃ a cap, v = .slice a cs.length cap ∧ cs.length ≤ cap ∧ cap ≤ maxLen ∧ ∀ (i : Nat) c, cs[i]? = some c → ∃ b o, a = some ⟨b, o, none⟩ ∧ b < B ∧ CallAt w b (o + i * 5) c
theorem CallAt.later {B : Nat} {w w' : World} {b o : Nat} {c : CallT} (h : CallAt w b o c) (hb : Below B w w') (hB : b < B) : CallAt w' b o c := by
  unfold CallAt
  rw [hb.cell (p := ⟨b, o, none⟩) hB, hb.cell (p := ⟨b, o + 1, none⟩) hB, hb.cell (p := ⟨b, o + 2, none⟩) hB, hb.cell (p := ⟨b, o + 3, none⟩) hB, hb.cell (p := ⟨b, o + 4, none⟩) hB]
  exact h
theorem CallsAt.later {B B' : Nat} {w w' : World} {v : Value} {cs : List CallT} (h : CallsAt B w v cs) (hb : Below B' w w') (hB : B ≤ B') : CallsAt B w' v cs := by
  obtain ⟨a, cap, h1, h2, h3, h4⟩ := h
  refine ⟨a, cap, h1, h2, h3, fun i c hc => ?_⟩
  obtain ⟨b, o, e, hl, k⟩ := h4 i c hc
  exact ⟨b, o, e, hl, k.later hb (by omega)⟩
def asC (x : List Int) : CallT := (x.getD 0 0, x.getD 1 0, x.getD 2 0, x.getD 3 0, x.getD 4 0)
theorem asC_inj {x y : List Int} (hx : ∃ a b c d e, x = [a, b, c, d, e]) (hy : ∃ a b c d e, y = [a, b, c, d, e]) (h : asC x = asC y) : x = y := by
  obtain ⟨a, b, c, d, e, rfl⟩ := hx
  obtain ⟨a', b', c', d', e', rfl⟩ := hy
  simp [asC] at h
  simp [h]
theorem fives_get : ∀ (l : List (List Int)), (∀ x ∈ l, ∃ a b c d e, x = [a, b, c, d, e]) → ∀ (i : Nat) (c : CallT), (l.map asC)[i]? = some c →
    (callCells l)[i * 5]? = some (.int .i64 c.1) ∧ (callCells l)[i * 5 + 1]? = some (.int .i64 c.2.1) ∧ (callCells l)[i * 5 + 2]? = some (.int .i64 c.2.2.1) ∧ (callCells l)[i * 5 + 3]? = some (.int .i64 c.2.2.2.1) ∧ (callCells l)[i * 5 + 4]? = some (.int .i64 c.2.2.2.2)
  | [], _, i, c, h => by simp at h
  | x :: l, hx, 0, c, h => by
    obtain ⟨a', b', c', d', e', rfl⟩ := hx x (by simp)
    simp at h
    subst h
    simp [callCells, asC]
  | x :: l, hx, i + 1, c, h => by
    obtain ⟨a', b', c', d', e', rfl⟩ := hx x (by simp)
    have ih := fives_get l (fun y hy => hx y (by simp [hy])) i c (by simpa using h)
    have e1 : callCells ([a', b', c', d', e'] :: l) = .int .i64 a' :: .int .i64 b' :: .int .i64 c' :: .int .i64 d' :: .int .i64 e' :: callCells l := rfl
    rw [e1, show (i + 1) * 5 = i * 5 + 5 by omega]
    exact ih
theorem callsAt_own {L : Nat} {w : World} {v : Value} {l : List (List Int)} (h5 : ∀ x ∈ l, ∃ a b c d e, x = [a, b, c, d, e]) (h : w.ownsRow L 26 5 v l.length (callCells l)) : CallsAt w.heap.size w v (l.map asC) := by
  obtain ⟨a, cap, rfl, h1, h2, h3⟩ := ownsRow_caps h
  refine ⟨a, cap, by rw [List.length_map], by rw [List.length_map]; exact h1, h2, fun i c hc => ?_⟩
  have hi : i < l.length := by have := (List.getElem?_eq_some_iff.1 hc).1; simpa using this
  obtain ⟨g, rfl, hg1, hg2⟩ := h3 (by omega)
  obtain ⟨e0, e1, e2, e3, e4⟩ := fives_get l h5 i c hc
  refine ⟨g, 0, rfl, hg2, ?_, ?_, ?_, ?_, ?_⟩
  all_goals rw [Nat.zero_add]
  · exact ownsRow_cell h _ _ e0
  · exact ownsRow_cell h _ _ e1
  · exact ownsRow_cell h _ _ e2
  · exact ownsRow_cell h _ _ e3
  · exact ownsRow_cell h _ _ e4

theorem part5_0 (a0 a1 a2 a3 a4 : Int) (w : World) : (part 3 #[.int .i64 a0, .int .i64 a1, .int .i64 a2, .int .i64 a3, .int .i64 a4] 0).run Tryz.prog w = .ok (.int .i64 a0) w := by kernel_rfl
theorem part5_1 (a0 a1 a2 a3 a4 : Int) (w : World) : (part 3 #[.int .i64 a0, .int .i64 a1, .int .i64 a2, .int .i64 a3, .int .i64 a4] 1).run Tryz.prog w = .ok (.int .i64 a1) w := by kernel_rfl
theorem part5_2 (a0 a1 a2 a3 a4 : Int) (w : World) : (part 3 #[.int .i64 a0, .int .i64 a1, .int .i64 a2, .int .i64 a3, .int .i64 a4] 2).run Tryz.prog w = .ok (.int .i64 a2) w := by kernel_rfl
theorem part5_3 (a0 a1 a2 a3 a4 : Int) (w : World) : (part 3 #[.int .i64 a0, .int .i64 a1, .int .i64 a2, .int .i64 a3, .int .i64 a4] 3).run Tryz.prog w = .ok (.int .i64 a3) w := by kernel_rfl
theorem part5_4 (a0 a1 a2 a3 a4 : Int) (w : World) : (part 3 #[.int .i64 a0, .int .i64 a1, .int .i64 a2, .int .i64 a3, .int .i64 a4] 4).run Tryz.prog w = .ok (.int .i64 a4) w := by kernel_rfl
theorem size3 (w : World) : (sizeOf 3).run Tryz.prog w = .ok 1 w := by kernel_rfl
theorem eqCall (d : Nat) (a0 a1 a2 a3 a4 b0 b1 b2 b3 b4 : Int) (w : World) : (Op.equalIn (d + 2) 26 (.agg #[.int .i64 a0, .int .i64 a1, .int .i64 a2, .int .i64 a3, .int .i64 a4]) (.agg #[.int .i64 b0, .int .i64 b1, .int .i64 b2, .int .i64 b3, .int .i64 b4])).run Tryz.prog w = .ok (decide (((a0, a1, a2, a3, a4) : CallT) = (b0, b1, b2, b3, b4))) w := by
  have u3 := Tryz.underlying3
  have e3 : ∀ x y : Int, (Op.equalIn (d + 1) 3 (.int .i64 x) (.int .i64 y)).run Tryz.prog w = .ok (x == y) w := fun x y => run_equalIn_int w d 3 .i64 .i64 x y u3
  rw [Op.equalIn]
  simp only [Sem.run_bind, run_underlying Tryz.underlying26, Result.andThen_ok, size3]
  rw [Std.Legacy.Range.forIn_eq_forIn_range']
  simp only [Std.Legacy.Range.size, List.range', List.forIn_cons, List.forIn_nil, Sem.run_bind, Nat.mul_one, part5_0, part5_1, part5_2, part5_3, part5_4, Result.andThen_ok, e3]
  by_cases h0 : a0 = b0
  · by_cases h1 : a1 = b1
    · by_cases h2 : a2 = b2
      · by_cases h3 : a3 = b3
        · by_cases h4 : a4 = b4
          · simp [h0, h1, h2, h3, h4, part5_1, part5_2, part5_3, part5_4, e3, Sem.run_bind]
          · simp [h0, h1, h2, h3, h4, part5_1, part5_2, part5_3, part5_4, e3, Sem.run_bind]
        · simp [h0, h1, h2, h3, part5_1, part5_2, part5_3, part5_4, e3, Sem.run_bind]
      · simp [h0, h1, h2, part5_1, part5_2, part5_3, part5_4, e3, Sem.run_bind]
    · simp [h0, h1, part5_1, part5_2, part5_3, part5_4, e3, Sem.run_bind]
  · simp [h0, part5_1, part5_2, part5_3, part5_4, e3, Sem.run_bind]
theorem neqCall (a0 a1 a2 a3 a4 b0 b1 b2 b3 b4 : Int) (w : World) : (binOp .neq 26 (.agg #[.int .i64 a0, .int .i64 a1, .int .i64 a2, .int .i64 a3, .int .i64 a4]) (.agg #[.int .i64 b0, .int .i64 b1, .int .i64 b2, .int .i64 b3, .int .i64 b4])).run Tryz.prog w = .ok (.bool (!decide (((a0, a1, a2, a3, a4) : CallT) = (b0, b1, b2, b3, b4)))) w := by
  rw [run_neq_struct, show (10000 : Nat) = 9998 + 2 from rfl, eqCall]
  rfl
theorem eqlCall (a0 a1 a2 a3 a4 b0 b1 b2 b3 b4 : Int) (w : World) : (binOp .eql 26 (.agg #[.int .i64 a0, .int .i64 a1, .int .i64 a2, .int .i64 a3, .int .i64 a4]) (.agg #[.int .i64 b0, .int .i64 b1, .int .i64 b2, .int .i64 b3, .int .i64 b4])).run Tryz.prog w = .ok (.bool (decide (((a0, a1, a2, a3, a4) : CallT) = (b0, b1, b2, b3, b4)))) w := by
  rw [run_eql_struct, show (10000 : Nat) = 9998 + 2 from rfl, eqCall]
  rfl
theorem guardCall (op : BinOp) (x y : Operand) (xs ys : Array Value) (w : World) : (eqGuard op 26 x y (.agg xs) (.agg ys)).run Tryz.prog w = .ok () w := run_eqGuard_agg _ _ _ _ _ _ _ (by kernel_rfl)
/-- Two calls compared, in a region that draws its order. -/
theorem wpQuiet_neqCall {ops : Array Oper} {C : World → Prop} {Q : Act → Prop} {a : Act} {o : Oper} {rest : List Oper} (x y : Operand) (t : TypeId) (hop : o.op = .binOp .neq 26 x y t) (hw : Region.wanted o (yielded ops a.tmps) = true)
    (a0 a1 a2 a3 a4 b0 b1 b2 b3 b4 : Int) (hx : a.eval x = .agg #[.int .i64 a0, .int .i64 a1, .int .i64 a2, .int .i64 a3, .int .i64 a4]) (hy : a.eval y = .agg #[.int .i64 b0, .int .i64 b1, .int .i64 b2, .int .i64 b3, .int .i64 b4])
    (q : Bool) (hq : (!decide (((a0, a1, a2, a3, a4) : CallT) = (b0, b1, b2, b3, b4))) = q) (h : wpQuiet Tryz.prog ops C Q rest (a.put o.dst (.bool q))) : wpQuiet Tryz.prog ops C Q (o :: rest) a := by
  subst hq
  refine BigFrame.wpQuiet_want hw fun K hK => ⟨_, fun w _ => ?_, hK _ h⟩
  unfold Oper.quietAt execOp
  rw [hop]
  simp only [hx, hy]
  have e : ((do eqGuard .neq 26 x y (.agg #[.int .i64 a0, .int .i64 a1, .int .i64 a2, .int .i64 a3, .int .i64 a4]) (.agg #[.int .i64 b0, .int .i64 b1, .int .i64 b2, .int .i64 b3, .int .i64 b4]); binOp .neq 26 (.agg #[.int .i64 a0, .int .i64 a1, .int .i64 a2, .int .i64 a3, .int .i64 a4]) (.agg #[.int .i64 b0, .int .i64 b1, .int .i64 b2, .int .i64 b3, .int .i64 b4])) : Sem Value).run Tryz.prog w = .ok (.bool (!decide (((a0, a1, a2, a3, a4) : CallT) = (b0, b1, b2, b3, b4)))) w := by
    simp only [Sem.run_bind, guardCall, neqCall, Result.andThen]
  simp only [Sem.run_bind, e, Result.andThen]
  exact ⟨rfl, rfl⟩

/-- Two calls compared, in a region that draws its order. -/
theorem wpQuiet_eqlCall {ops : Array Oper} {C : World → Prop} {Q : Act → Prop} {a : Act} {o : Oper} {rest : List Oper} (x y : Operand) (t : TypeId) (hop : o.op = .binOp .eql 26 x y t) (hw : Region.wanted o (yielded ops a.tmps) = true)
    (a0 a1 a2 a3 a4 b0 b1 b2 b3 b4 : Int) (hx : a.eval x = .agg #[.int .i64 a0, .int .i64 a1, .int .i64 a2, .int .i64 a3, .int .i64 a4]) (hy : a.eval y = .agg #[.int .i64 b0, .int .i64 b1, .int .i64 b2, .int .i64 b3, .int .i64 b4])
    (q : Bool) (hq : (decide (((a0, a1, a2, a3, a4) : CallT) = (b0, b1, b2, b3, b4))) = q) (h : wpQuiet Tryz.prog ops C Q rest (a.put o.dst (.bool q))) : wpQuiet Tryz.prog ops C Q (o :: rest) a := by
  subst hq
  refine BigFrame.wpQuiet_want hw fun K hK => ⟨_, fun w _ => ?_, hK _ h⟩
  unfold Oper.quietAt execOp
  rw [hop]
  simp only [hx, hy]
  have e : ((do eqGuard .eql 26 x y (.agg #[.int .i64 a0, .int .i64 a1, .int .i64 a2, .int .i64 a3, .int .i64 a4]) (.agg #[.int .i64 b0, .int .i64 b1, .int .i64 b2, .int .i64 b3, .int .i64 b4]); binOp .eql 26 (.agg #[.int .i64 a0, .int .i64 a1, .int .i64 a2, .int .i64 a3, .int .i64 a4]) (.agg #[.int .i64 b0, .int .i64 b1, .int .i64 b2, .int .i64 b3, .int .i64 b4])) : Sem Value).run Tryz.prog w = .ok (.bool (decide (((a0, a1, a2, a3, a4) : CallT) = (b0, b1, b2, b3, b4)))) w := by
    simp only [Sem.run_bind, guardCall, eqlCall, Result.andThen]
  simp only [Sem.run_bind, e, Result.andThen]
  exact ⟨rfl, rfl⟩

end Go.Proofs.YtbjpdmfedphacacGreatDoor
end
