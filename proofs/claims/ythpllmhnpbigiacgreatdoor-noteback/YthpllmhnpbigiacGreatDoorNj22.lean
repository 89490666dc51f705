/- Joined: Nte1 Bld. -/
import Derived.Test.YthpllmhnpbigiacGreatDoorNj21
import Derived.Test.YthpllmhnpbigiacGreatDoorShelf
import Derived.Test.YthpllmhnpbigiacGreatDoorNj04
import Derived.Lib.Builder
import Derived.Lib.AppendStr
import Derived.Lib.Walk
import Derived.Laws.Externs
import Derived.Laws.IdiomCopy
section
/- A record's text is read as the record, and a text that is read as one is that record's text. -/
set_option linter.all false
namespace Go.Proofs.YthpllmhnpbigiacGreatDoor

theorem split3_two {a b : Bs} (ha : (32 : UInt8) ∉ a) (hb : (32 : UInt8) ∉ b) : split3 (a ++ 32 :: b) = [a, b] := by
  unfold split3
  rw [cutSp_hit a b ha]
  simp only [cutSp_miss b hb]
theorem split3_three {a b c : Bs} (ha : (32 : UInt8) ∉ a) (hb : (32 : UInt8) ∉ b) : split3 (a ++ 32 :: (b ++ 32 :: c)) = [a, b, c] := by
  unfold split3
  rw [cutSp_hit a _ ha]
  simp only [cutSp_hit b c hb]
theorem split3_join {s : Bs} : (∃ a, split3 s = [a] ∧ s = a) ∨ (∃ a b, split3 s = [a, b] ∧ s = a ++ 32 :: b) ∨ ∃ a b c, split3 s = [a, b, c] ∧ s = a ++ 32 :: (b ++ 32 :: c) := by
  unfold split3
  cases h : cutSp s with
  | none => exact .inl ⟨s, rfl, rfl⟩
  | some x =>
    obtain ⟨a, t⟩ := x
    obtain ⟨e, -⟩ := cutSp_some h
    cases h2 : cutSp t with
    | none => exact .inr (.inl ⟨a, t, by simp only [h2], e⟩)
    | some x =>
      obtain ⟨b, u⟩ := x
      obtain ⟨e2, -⟩ := cutSp_some h2
      exact .inr (.inr ⟨a, b, u, by simp only [h2], by rw [e, e2]⟩)
theorem itoa_num {w : Bs} {n : Int} (h : numOf w = some n) : Lib.itoa n = w := by
  unfold numOf at h
  split at h
  · split at h
    · rename_i e
      cases h
      exact e
    · cases h
  · cases h
theorem finRec_ok {r x : RecT} (h : finRec r = (x, 0)) : x = r ∧ recErr r = 0 := by
  unfold finRec at h
  split at h
  · rename_i h0
    cases h
    exact ⟨rfl, h0⟩
  · rename_i h0
    simp at h
    exact absurd h.2 h0
theorem finRec_right {r : RecT} (h : recErr r = 0) : finRec r = (r, 0) := by unfold finRec; rw [if_pos h]
theorem parse_polText {p : PolT} (h : polErr p = 0) (hl : (polText p).length ≤ 60000) : parseR (polText p) = (p, 0) := by
  rw [parse_some hl (pol_read h), if_pos h]
/-- The words of a right record's text. -/
theorem recText_words {r : RecT} (h : recErr r = 0) : ∃ k : Nat, k < 4 ∧ r.1 = (k : Int) + 1 ∧ (split3 (recText r)).getD 0 [] = kN.getD k [] ∧ (split3 (recText r)).getD 1 [] = Lib.itoa r.2.1 ∧
    (k = 3 → (split3 (recText r)).length = 2) ∧ (k < 3 → (split3 (recText r)).length = 3 ∧ (split3 (recText r)).getD 2 [] = if k = 2 then Lib.itoa r.2.2.1 else polText r.2.2.2) := by
  obtain ⟨hk, hc, hf, -, -⟩ := recErr_ok h
  obtain ⟨k, hk4, ek⟩ : ∃ k : Nat, k < 4 ∧ r.1 = (k : Int) + 1 := ⟨(r.1 - 1).toNat, by omega, by omega⟩
  refine ⟨k, hk4, ek, ?_⟩
  have hw := kN_clean k hk4
  have hi := itoa_clean hc.1
  have et : (r.1 - 1).toNat = k := by omega
  unfold recText
  rw [et]
  by_cases h4 : k = 3
  · have h3 : ¬ r.1 = 3 := by omega
    have h4' : r.1 = 4 := by omega
    rw [if_neg h3, if_pos h4', List.append_nil, split3_two hw hi]
    exact ⟨rfl, rfl, fun _ => rfl, fun h => by omega⟩
  · by_cases h3 : k = 2
    · have h3' : r.1 = 3 := by omega
      rw [if_pos h3', split3_three hw hi]
      exact ⟨rfl, rfl, fun h => absurd h h4, fun _ => ⟨rfl, by rw [if_pos h3]; rfl⟩⟩
    · have h3' : ¬ r.1 = 3 := by omega
      have h4' : ¬ r.1 = 4 := by omega
      rw [if_neg h3', if_neg h4', split3_three hw hi]
      exact ⟨rfl, rfl, fun h => absurd h h4, fun _ => ⟨rfl, by rw [if_neg h3]; rfl⟩⟩
theorem rec_read {r : RecT} (h : recErr r = 0) (hl : (recText r).length ≤ 60000) : recOf (recText r) = (r, 0) := by
  obtain ⟨k, hk4, ek, w0, w1, h3, hlt⟩ := recText_words h
  obtain ⟨hk, hc, hf, hfz, hP⟩ := recErr_ok h
  have hidx := kN_idx k hk4
  have hnum : numOf (Lib.itoa r.2.1) = some r.2.1 := numOf_itoa _ (by omega)
  unfold recOf
  rw [w0, hidx, w1, hnum]
  have hcond : ¬ ((k : Int) < 0 ∨ ((k : Int) = 3 ∧ (split3 (recText r)).length ≠ 2) ∨ ((k : Int) < 3 ∧ (split3 (recText r)).length ≠ 3)) := by
    rintro (h | ⟨h, h'⟩ | ⟨h, h'⟩)
    · omega
    · exact h' (h3 (by omega))
    · exact h' (hlt (by omega)).1
  rw [if_neg hcond]
  obtain ⟨rk, rc, rf, rp⟩ := r
  simp only at ek hk hc hf hfz hP hlt ⊢
  by_cases k2 : k = 2
  · have hk2 : (k : Int) = 2 := by omega
    rw [if_pos hk2, (hlt (by omega)).2, if_pos k2, numOf_itoa _ (by omega)]
    have hp0 : rp = ([], 0) := by
      rcases hP with ⟨h, -⟩ | ⟨-, h⟩
      · omega
      · exact h
    have e3 : rk = 3 := by omega
    subst e3 hp0
    exact finRec_right h
  · have hk2 : ¬ (k : Int) = 2 := by omega
    rw [if_neg hk2]
    have hf0 : rf = 0 := by omega
    by_cases k3 : k = 3
    · have hk3 : (k : Int) = 3 := by omega
      rw [if_pos hk3]
      have hp0 : rp = ([], 0) := by
        rcases hP with ⟨h, -⟩ | ⟨-, h⟩
        · omega
        · exact h
      have e4 : rk = 4 := by omega
      subst e4 hp0 hf0
      exact finRec_right h
    · have hk3 : ¬ (k : Int) = 3 := by omega
      have hp : polErr rp = 0 := by
        rcases hP with ⟨-, h⟩ | ⟨h, -⟩
        · exact h
        · omega
      have hpl : (polText rp).length ≤ 60000 := by
        have e := (hlt (by omega)).2
        rw [if_neg k2] at e
        have hle : (polText rp).length ≤ (recText (rk, rc, rf, rp)).length := by
          unfold recText
          have a3 : ¬ rk = 3 := by omega
          have a4 : ¬ rk = 4 := by omega
          simp only [if_neg a3, if_neg a4]
          simp
          omega
        omega
      rw [if_neg hk3, (hlt (by omega)).2, if_neg k2, parse_polText hp hpl]
      simp only [if_true]
      subst hf0
      rw [← ek]
      exact finRec_right h
theorem rec_back {s : Bs} {r : RecT} (h : recOf s = (r, 0)) (hl : s.length ≤ 60000) : recErr r = 0 ∧ recText r = s := by
  unfold recOf at h
  split at h
  · cases h
  · rename_i hc
    have hidx : 0 ≤ idxL kN ((split3 s).getD 0 []) := by
      apply Classical.byContradiction
      intro e
      exact hc (.inl (by omega))
    have hlt := idxL_lt kN ((split3 s).getD 0 [])
    have hget := idxL_get kN ((split3 s).getD 0 []) hidx
    have hL : kN.length = 4 := rfl
    rw [hL] at hlt
    generalize hkk : idxL kN ((split3 s).getD 0 []) = k at *
    have hc2 : k = 3 → (split3 s).length = 2 := fun e => by
      apply Classical.byContradiction
      intro e'
      exact hc (.inr (.inl ⟨e, e'⟩))
    have hc3 : k < 3 → (split3 s).length = 3 := fun e => by
      apply Classical.byContradiction
      intro e'
      exact hc (.inr (.inr ⟨e, e'⟩))
    cases hn : numOf ((split3 s).getD 1 []) with
    | none => rw [hn] at h; cases h
    | some c =>
      rw [hn] at h
      have e1 := itoa_num hn
      simp only at h
      split at h
      · rename_i k2
        cases hn2 : numOf ((split3 s).getD 2 []) with
        | none => rw [hn2] at h; cases h
        | some f =>
          rw [hn2] at h
          obtain ⟨rfl, he⟩ := finRec_ok h
          refine ⟨he, ?_⟩
          have e2 := itoa_num hn2
          rcases split3_join (s := s) with ⟨a, e, es⟩ | ⟨a, b, e, es⟩ | ⟨a, b, c', e, es⟩
          · have := hc3 (by omega); rw [e] at this; simp at this
          · have := hc3 (by omega); rw [e] at this; simp at this
          · rw [e] at hget e1 e2
            simp at hget e1 e2
            rw [es, ← hget, ← e1, ← e2, k2]
            rfl
      · rename_i k2
        split at h
        · rename_i k3
          obtain ⟨rfl, he⟩ := finRec_ok h
          refine ⟨he, ?_⟩
          rcases split3_join (s := s) with ⟨a, e, es⟩ | ⟨a, b, e, es⟩ | ⟨a, b, c', e, es⟩
          · have := hc2 k3; rw [e] at this; simp at this
          · rw [e] at hget e1
            simp at hget e1
            rw [es, ← hget, ← e1, k3]
            show _ ++ 32 :: (Lib.itoa c ++ []) = _
            rw [List.append_nil]
            rfl
          · have := hc2 k3; rw [e] at this; simp at this
        · rename_i k3
          split at h
          · rename_i hp
            obtain ⟨rfl, he⟩ := finRec_ok h
            refine ⟨he, ?_⟩
            rcases split3_join (s := s) with ⟨a, e, es⟩ | ⟨a, b, e, es⟩ | ⟨a, b, c', e, es⟩
            · have := hc3 (by omega); rw [e] at this; simp at this
            · have := hc3 (by omega); rw [e] at this; simp at this
            · rw [e] at hget e1 hp ⊢
              simp at hget e1 hp ⊢
              have hcl : c'.length ≤ 60000 := by rw [es] at hl; simp at hl; omega
              have hpt : polText (parseR c').1 = c' := by
                cases hpo : polOf c' with
                | none => rw [parse_none hcl hpo] at hp; cases hp
                | some p =>
                  rw [parse_some hcl hpo] at hp ⊢
                  split at hp
                  · rename_i h0
                    rw [if_pos h0]
                    exact pol_back hpo
                  · rename_i h0
                    exact absurd hp h0
              unfold recText
              have a3 : ¬ k + 1 = 3 := by omega
              have a4 : ¬ k + 1 = 4 := by omega
              simp only [if_neg a3, if_neg a4, hpt]
              rw [es, ← hget, ← e1, show (k + 1 - 1).toNat = k.toNat by omega]
              simp
          · rename_i hp
            exact absurd (Prod.mk.inj h).2 hp
/-- Unlike records have unlike texts. -/
theorem rec_inj {r q : RecT} (hr : recErr r = 0) (hq : recErr q = 0) (h : recText r = recText q) : r = q := by
  obtain ⟨k, hk4, ek, w0, w1, h3, hlt⟩ := recText_words hr
  obtain ⟨k', hk4', ek', w0', w1', h3', hlt'⟩ := recText_words hq
  obtain ⟨hk, hc, hf, hfz, hP⟩ := recErr_ok hr
  obtain ⟨hk', hc', hf', hfz', hP'⟩ := recErr_ok hq
  rw [← h] at w0' w1' hlt'
  have ekk : k = k' := by
    have e : kN.getD k [] = kN.getD k' [] := by rw [← w0, ← w0']
    have := kN_idx k hk4
    rw [e, kN_idx k' hk4'] at this
    omega
  subst ekk
  have ec : r.2.1 = q.2.1 := by
    have e : Lib.itoa r.2.1 = Lib.itoa q.2.1 := by rw [← w1, ← w1']
    have := numOf_itoa r.2.1 (by omega)
    rw [e, numOf_itoa q.2.1 (by omega)] at this
    exact (Option.some.inj this).symm
  obtain ⟨rk, rc, rf, rp⟩ := r
  obtain ⟨qk, qc, qf, qp⟩ := q
  simp only at *
  have e1 : rk = qk := by omega
  by_cases k2 : k = 2
  · have ef : rf = qf := by
      have a := (hlt (by omega)).2
      have b := (hlt' (by omega)).2
      rw [if_pos k2] at a b
      have := numOf_itoa rf (by omega)
      rw [← a, b, numOf_itoa qf (by omega)] at this
      exact (Option.some.inj this).symm
    have p1 : rp = ([], 0) := by
      rcases hP with ⟨h, -⟩ | ⟨-, h⟩
      · omega
      · exact h
    have p2 : qp = ([], 0) := by
      rcases hP' with ⟨h, -⟩ | ⟨-, h⟩
      · omega
      · exact h
    rw [e1, ec, ef, p1, p2]
  · have f1 : rf = 0 := by omega
    have f2 : qf = 0 := by omega
    by_cases k3 : k = 3
    · have p1 : rp = ([], 0) := by
        rcases hP with ⟨h, -⟩ | ⟨-, h⟩
        · omega
        · exact h
      have p2 : qp = ([], 0) := by
        rcases hP' with ⟨h, -⟩ | ⟨-, h⟩
        · omega
        · exact h
      rw [e1, ec, f1, f2, p1, p2]
    · have p1 : polErr rp = 0 := by
        rcases hP with ⟨-, h⟩ | ⟨h, -⟩
        · exact h
        · omega
      have p2 : polErr qp = 0 := by
        rcases hP' with ⟨-, h⟩ | ⟨h, -⟩
        · exact h
        · omega
      have ep : rp = qp := by
        have a := (hlt (by omega)).2
        have b := (hlt' (by omega)).2
        rw [if_neg k2] at a b
        have := pol_read p1
        rw [← a, b, pol_read p2] at this
        exact (Option.some.inj this).symm
      rw [e1, ec, f1, f2, ep]

end Go.Proofs.YthpllmhnpbigiacGreatDoor
end
section
/- strings.Builder, as this program's text has it (its copyCheck's last row is not laid): what its writers do. -/
set_option linter.all false
set_option maxRecDepth 100000
namespace Go.Proofs.YthpllmhnpbigiacGreatDoor
open Go.RowKit Go.Maps

theorem infoU8 : ∃ i, Tryz.prog.info? 5 = some i ∧ i.zero = some (.int .u8 0) ∧ i.size = 1 ∧ i.bytes = 1 := infoOf (by kernel_rfl)
theorem infoBld : ∃ i, Tryz.prog.info? 117 = some i ∧ i.size = 2 := by
  have h : (Tryz.prog.info? 117).map (·.size) = some 2 := by kernel_rfl
  obtain ⟨j, hj, hs⟩ := Option.map_eq_some_iff.1 h
  exact ⟨j, hj, hs⟩
abbrev BldAt (B b : Nat) (bs : List Value) (w : World) : Prop := Lib.BuilderAt 117 5 B b (.pointer (some ⟨b, 0, none⟩)) bs w
abbrev IsBld (B b : Nat) (bs : List Value) (w : World) : Prop := Lib.IsBuilder 117 5 B b bs w

/-- Whatever is no row of bytes, and not the builder itself, is as it was. -/
def BKept (b : Nat) (w w' : World) : Prop := w.heap.size ≤ w'.heap.size ∧ ∀ k o, k ≠ b → w.heap[k]? = some o → (∀ cur fr, o ≠ .cells cur 5 fr) → w'.heap[k]? = some o
theorem BKept.refl (b : Nat) (w : World) : BKept b w w := ⟨Nat.le_refl _, fun _ _ _ h _ => h⟩
theorem BKept.trans {b : Nat} {w w' w'' : World} (h : BKept b w w') (k : BKept b w' w'') : BKept b w w'' := ⟨Nat.le_trans h.1 k.1, fun j o hj ho hn => k.2 j o hj (h.2 j o hj ho hn) hn⟩
theorem BKept.of_below {b : Nat} {w w' : World} (h : Below w.heap.size w w') : BKept b w w' := ⟨h.size, fun k o _ ho _ => (h.block k (lt_of_block ho)).trans ho⟩
theorem BldAt.later {T e : TypeId} {B b : Nat} {p : Value} {bs : List Value} {w w' : World} (h : Lib.BuilderAt T e B b p bs w) (hb : Below w.heap.size w w') : Lib.BuilderAt T e B b p bs w' := by
  obtain ⟨hB, v, hbk, hown, hne⟩ := h
  exact ⟨hB, v, (hb.block b (lt_of_block hbk)).trans hbk, ownsRow_below hown hb, hne⟩
theorem IsBld.later {B b : Nat} {bs : List Value} {w w' : World} (h : IsBld B b bs w) (hb : Below w.heap.size w w') : IsBld B b bs w' := by
  rcases h with h | h
  · exact .inl (BldAt.later h hb)
  · exact .inr (BldAt.later h hb)

set_option maxHeartbeats 1000000 in
theorem check_used (b : Nat) (w : World) (h0 : w.cell? ⟨b, 0, none⟩ = some (.pointer (some ⟨b, 0, none⟩))) :
    Calls Tryz.prog 109 #[.pointer (some ⟨b, 0, none⟩)] w fun e w' => e = .returned (.tuple #[]) ∧ w' = w := by
  obtain ⟨j, hj, _⟩ := infoBld
  go_enter Tryz.func109, Tryz.ntmps109
  go_wp2
  rw [Lib.run_neq_ptr_same w _ Tryz.underlying114 hj]
  go_wp2
  go_end0
  exact ⟨rfl, rfl⟩

set_option maxHeartbeats 1000000 in
theorem check_fresh (b : Nat) (w : World) (h0 : w.cell? ⟨b, 0, none⟩ = some (.pointer none)) (hsh : w.shape? b = some (117, 2)) (hfz : w.frozen? ⟨b, 0, none⟩ = false) :
    Calls Tryz.prog 109 #[.pointer (some ⟨b, 0, none⟩)] w fun e w' => e = .returned (.tuple #[]) ∧ w' = w.setCell ⟨b, 0, none⟩ (.pointer (some ⟨b, 0, none⟩)) := by
  obtain ⟨j, hj, hjs⟩ := infoBld
  go_enter Tryz.func109, Tryz.ntmps109
  go_wp2
  rw [Lib.run_to_unsafe w ⟨b, 0, none⟩ Tryz.underlying114 Tryz.underlying175 hj (by rw [hjs]; decide) hsh (Nat.zero_lt_succ 1)]
  simp only [Result.andThen]
  rw [Oper.upon_value]
  go_wp2
  rw [run_callFunc_extern Tryz.func133 (by kernel_rfl) (by kernel_rfl) (by kernel_rfl) (e := Extern.AbiNoEscape.same) (by kernel_rfl)]
  rw [Lib.run_noEscape]
  simp only [Result.andThen]
  rw [Oper.upon_value]
  go_wp2
  rw [Lib.run_from_unsafe w ⟨b, 0, none⟩ Tryz.underlying175 Tryz.underlying114 hj hsh (by kernel_rfl)]
  simp only [Result.andThen]
  rw [Oper.upon_value]
  go_wp2
  go_end0
  exact ⟨rfl, rfl⟩

theorem bld_check (B b : Nat) (bs : List Value) (w : World) (h : IsBld B b bs w) :
    Calls Tryz.prog 109 #[.pointer (some ⟨b, 0, none⟩)] w fun e w' => e = .returned (.tuple #[]) ∧ BldAt B b bs w' ∧ Below B w w' ∧ BKept b w w' := by
  rcases h with h | h
  · refine (check_fresh b w h.cell0 h.shape h.frozen0).mono ?_
    rintro e w' ⟨rfl, rfl⟩
    exact ⟨rfl, h.used _, (Below.refl B w).setCell (p := ⟨b, 0, none⟩) h.1 _, by simp, fun k o hk ho _ => (Below.heap_setCell _ _ _ _ (by show k ≠ b; exact hk)).trans ho⟩
  · refine (check_used b w h.cell0).mono ?_
    rintro e w' ⟨rfl, rfl⟩
    exact ⟨rfl, h, Below.refl B _, BKept.refl _ _⟩

set_option maxHeartbeats 2000000 in
theorem bld_byte (B b : Nat) (bs : List Value) (c : Int) (w : World) (h : IsBld B b bs w) (hlen : bs.length + 1 ≤ 140737488355328) (hBw : B ≤ w.heap.size) :
    Calls Tryz.prog 107 #[.pointer (some ⟨b, 0, none⟩), .int .u8 c] w fun e w' => e = .returned .nilIface ∧ BldAt B b (bs ++ [.int .u8 c]) w' ∧ Below B w w' ∧ BKept b w w' := by
  obtain ⟨i0, hi, hz0, hz1, hz2⟩ := infoU8
  go_enter Tryz.func107, Tryz.ntmps107
  go_wp2_with fail
  go_at_call 109
  refine Calls.mono (bld_check B b bs _ h) ?_
  rintro e w1 ⟨rfl, h1, hb1, hk1⟩
  obtain ⟨hB, v, hbk, hown, hne⟩ := h1
  have c0 : w1.cell? ⟨b, 0, none⟩ = some (.pointer (some ⟨b, 0, none⟩)) := by rw [Lib.cell_of_heap hbk]; rfl
  have c1 : w1.cell? ⟨b, 1, none⟩ = some v := by rw [Lib.cell_of_heap hbk]; rfl
  go_wp2_with (at_builtin; refine wpList_append_own _ rfl _ _ 115 rfl B 5 i0 (.int .u8 0) 1 1 Tryz.underlying115 hi hz0 hz1 hz2 rfl (by decide) _ _ _ rfl (hown.alloc _) ⟨w1.heap.size, 0, none⟩ 1 1 [.int .u8 c] rfl rfl ?c1 ?c2 ?c3 ?c4 ?c5 ?_)
  case c1 =>
    intro j u hj
    match j, hj with
    | 0, hj => simp at hj; subst hj; simp [Addr.add]
  case c2 => intro u hu; simp at hu; subst hu; rfl
  case c3 => rw [maxLen_eq]; omega
  case c4 => omega
  case c5 => have := hb1.size; simp; omega
  intro v' w2 hown' hgrow _
  have hlt : b < w1.heap.size := lt_of_block hbk
  have hb2 : w2.heap[b]? = some (.cells #[.pointer (some ⟨b, 0, none⟩), v] 117 (0, 0)) := by
    rw [hgrow.block b (by simp; omega) (fun e => hne e.symm), Below.heap_alloc _ _ _ hlt]
    exact hbk
  have d0 : w2.cell? ⟨b, 0, none⟩ = some (.pointer (some ⟨b, 0, none⟩)) := by rw [Lib.cell_of_heap hb2]; rfl
  have d1 : w2.cell? ⟨b, 1, none⟩ = some v := by rw [Lib.cell_of_heap hb2]; rfl
  have f1 : w2.frozen? ⟨b, 1, none⟩ = false := Lib.frozen_of_heap hb2 1
  obtain ⟨g, cap, rfl⟩ : ∃ g cap, v' = .slice (some ⟨g, 0, none⟩) (bs.length + 1) cap := by
    obtain ⟨g, cap, h, _⟩ := ownsRow_shape hown' (by omega)
    exact ⟨g, cap, h⟩
  go_wp2
  go_ret
  refine ⟨rfl, ?_, ?_, hk1.trans ⟨by have := hgrow.size; simp at this ⊢; omega, fun k o hk ho hn => ?_⟩⟩
  rotate_left 2
  · rw [Below.heap_setCell _ _ _ _ (by show k ≠ b; exact hk), hgrow.block k (by have := lt_of_block ho; simp; omega) (fun e => ?_), Below.heap_alloc _ _ _ (lt_of_block ho)]
    · exact ho
    · obtain ⟨cur, hcur⟩ := ownsRow_tag hown k e.symm
      rw [hcur] at ho
      exact hn cur (0, 0) (Option.some.inj ho).symm
  · exact Lib.BuilderAt.put (T := 117) (e := 5) hB hb2 (bs' := bs ++ [.int .u8 c]) (by simpa using hown') (by decide)
  · exact ((hb1.alloc (by have := hb1.size; omega) _).grown hgrow (by have := hb1.size; simp; omega) (fun k hk => (hown.lt k hk).1)).setCell (p := ⟨b, 1, none⟩) hB _

set_option maxHeartbeats 2000000 in
theorem bld_string (B b : Nat) (bs : List Value) (s : ByteArray) (w : World) (h : IsBld B b bs w) (hlen : bs.length + s.size ≤ 140737488355328) (hBw : B ≤ w.heap.size) :
    Calls Tryz.prog 75 #[.pointer (some ⟨b, 0, none⟩), .string s] w fun e w' => e = .returned (.tuple #[.int .i64 s.size, .nilIface]) ∧ BldAt B b (bs ++ Lib.strCells s) w' ∧ Below B w w' ∧ BKept b w w' := by
  obtain ⟨i0, hi, hz0, hz1, hz2⟩ := infoU8
  go_enter Tryz.func75, Tryz.ntmps75
  go_wp2_with fail
  go_at_call 109
  refine Calls.mono (bld_check B b bs _ h) ?_
  rintro e w1 ⟨rfl, h1, hb1, hk1⟩
  obtain ⟨hB, v, hbk, hown, hne⟩ := h1
  have c0 : w1.cell? ⟨b, 0, none⟩ = some (.pointer (some ⟨b, 0, none⟩)) := by rw [Lib.cell_of_heap hbk]; rfl
  have c1 : w1.cell? ⟨b, 1, none⟩ = some v := by rw [Lib.cell_of_heap hbk]; rfl
  go_wp2_with (at_builtin; refine Lib.wpList_append_own_string _ rfl _ _ 115 9 rfl B 5 i0 Tryz.underlying115 Tryz.underlying9 hi hz0 hz1 hz2 _ _ _ rfl hown s rfl ?c3 ?c4 ?c5 ?_)
  case c3 => rw [maxLen_eq]; omega
  case c4 => omega
  case c5 => have := hb1.size; omega
  intro v' w2 hown' hgrow _
  have hlt : b < w1.heap.size := lt_of_block hbk
  have hb2 : w2.heap[b]? = some (.cells #[.pointer (some ⟨b, 0, none⟩), v] 117 (0, 0)) := by
    rw [hgrow.block b hlt (fun e => hne e.symm)]
    exact hbk
  have d0 : w2.cell? ⟨b, 0, none⟩ = some (.pointer (some ⟨b, 0, none⟩)) := by rw [Lib.cell_of_heap hb2]; rfl
  have d1 : w2.cell? ⟨b, 1, none⟩ = some v := by rw [Lib.cell_of_heap hb2]; rfl
  have f1 : w2.frozen? ⟨b, 1, none⟩ = false := Lib.frozen_of_heap hb2 1
  obtain ⟨ao, n', cap, rfl⟩ := ownsRow_slice hown'
  go_wp2
  go_ret2
  refine ⟨rfl, ?_, ?_, hk1.trans ⟨by have := hgrow.size; simp; omega, fun k o hk ho hn => ?_⟩⟩
  rotate_left 2
  · rw [Below.heap_setCell _ _ _ _ (by show k ≠ b; exact hk), hgrow.block k (lt_of_block ho) (fun e => ?_)]
    · exact ho
    · obtain ⟨cur, hcur⟩ := ownsRow_tag hown k e.symm
      rw [hcur] at ho
      exact hn cur (0, 0) (Option.some.inj ho).symm
  · exact Lib.BuilderAt.put (T := 117) (e := 5) hB hb2 (bs' := bs ++ Lib.strCells s) (by simpa [Lib.strCells_length] using hown') (by decide)
  · exact (hb1.grown hgrow (by have := hb1.size; omega) (fun k hk => (hown.lt k hk).1)).setCell (p := ⟨b, 1, none⟩) hB _

end Go.Proofs.YthpllmhnpbigiacGreatDoor
end
