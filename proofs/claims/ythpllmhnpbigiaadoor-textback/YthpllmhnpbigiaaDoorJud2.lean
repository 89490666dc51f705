/- The program's own Judge, whole. -/
import Derived.Test.YthpllmhnpbigiaaDoorJud
set_option linter.all false
namespace Go.Proofs.YthpllmhnpbigiaaDoor
open Go.RowKit Go.Maps

theorem ruleOk_first (x : Nat → Int) (cs : List CondT) (v : Int) : (!decide (0 ≤ firstAt (fun c => !condOk x c) 0 cs)) = ruleOk x (cs, v) := by
  rw [firstAt_none]
  unfold ruleOk
  simp [List.all_eq_not_any_not]

set_option maxHeartbeats 1000000 in
theorem contains_any (B : Nat) (cv : Value) (cs : List CondT) (x : Nat → Int) (bx : Nat) (w : World) (hc : CondsAt B w cv cs) (hB : B ≤ w.heap.size) (hok : ∀ c ∈ cs, 0 ≤ c.1 ∧ c.1 < 5) (hx : XAt w bx x) (hl : bx < w.heap.size) :
    Calls Tryd.prog 37 #[cv, .func (.func 33) #[] #[.pointer (some ⟨bx, 0, none⟩)]] w fun e w' => e = .returned (.bool (decide (0 ≤ firstAt (fun c => !condOk x c) 0 cs))) ∧ Below w.heap.size w w' := by
  have hi := indexConds_any B cv cs x bx w hc hB hok hx hl
  generalize firstAt (fun c => !condOk x c) 0 cs = z at *
  clear hx hc hok
  go_enter Tryd.func37, Tryd.ntmps37
  go_wp2_with (first | (go_at_call 65; refine hi.mono ?_; rintro e w' ⟨rfl, hb2⟩))
  go_ret
  exact ⟨rfl, hb2⟩

def FailsV (bx : Nat) : Value := .func (.func 33) #[] #[.pointer (some ⟨bx, 0, none⟩)]

set_option maxHeartbeats 1000000 in
theorem ruleHolds_any (B : Nat) (cv : Value) (r : RuleT) (x : Nat → Int) (bx bf : Nat) (w : World) (hc : CondsAt B w cv r.1) (hB : B ≤ w.heap.size) (hok : ruleErr r = 0) (hx : XAt w bx x) (hl : bx < w.heap.size) (hf : w.cell? ⟨bf, 0, none⟩ = some (FailsV bx)) (hlf : bf < w.heap.size) :
    Calls Tryd.prog 36 #[.agg #[cv, .int .i64 r.2], .pointer (some ⟨bf, 0, none⟩)] w fun e w' => e = .returned (.bool (ruleOk x r)) ∧ Below w.heap.size w w' := by
  obtain ⟨cs, vd⟩ := r
  have hok' : ∀ c ∈ cs, 0 ≤ c.1 ∧ c.1 < 5 := fun c hm => (condErr_ok (condsErr_all (ruleErr_ok hok).2.2 c hm)).1
  have hb : ∀ X, Below w.heap.size w (w.alloc X) := fun X => (Below.refl _ _).alloc (Nat.le_refl _) _
  have hcon : ∀ X, Calls Tryd.prog 37 #[cv, FailsV bx] (w.alloc X) fun e w' => e = .returned (.bool (decide (0 ≤ firstAt (fun c => !condOk x c) 0 cs))) ∧ Below (w.alloc X).heap.size (w.alloc X) w' := fun X => contains_any B cv cs x bx _ (hc.later (hb X) hB) (by simp; omega) hok' (hx.later (hb X) hl) (by simp; omega)
  have E : Hid ((!decide (0 ≤ firstAt (fun c => !condOk x c) 0 cs)) = ruleOk x (cs, vd)) := ruleOk_first x cs vd
  obtain ⟨a, cap, rfl, _, _, _⟩ := hc
  clear hx hok hok'
  show Calls Tryd.prog 36 #[.agg #[.slice a cs.length cap, .int .i64 vd], .pointer (some ⟨bf, 0, none⟩)] w _
  have hf' : ∀ X, (w.alloc X).cell? ⟨bf, 0, none⟩ = some (FailsV bx) := fun X => ((hb X).cell (p := ⟨bf, 0, none⟩) hlf).trans hf
  clear hf
  generalize cs.length = n at *
  generalize firstAt (fun c => !condOk x c) 0 cs = z at *
  unfold FailsV at hf' hcon
  go_enter Tryd.func36, Tryd.ntmps36
  go_wp2_with (first | (go_at_call 37; refine (hcon _).mono ?_; rintro e w' ⟨rfl, hb2⟩))
  go_ret
  exact ⟨by rw [← E.out]; rfl, Below.thenOf (hb _) hb2 (by simp)⟩

set_option maxHeartbeats 1000000 in
theorem indexRules_any (B : Nat) (rv : Value) (rs : List RuleT) (x : Nat → Int) (bx bf : Nat) (w : World) (hr : RulesAt B w rv rs) (hB : B ≤ w.heap.size) (hok : ∀ r ∈ rs, ruleErr r = 0) (hx : XAt w bx x) (hl : bx < w.heap.size) (hf : w.cell? ⟨bf, 0, none⟩ = some (FailsV bx)) (hlf : bf < w.heap.size) :
    Calls Tryd.prog 35 #[rv, .func (.func 36) #[] #[.pointer (some ⟨bf, 0, none⟩)]] w fun e w' => e = .returned (.int .i64 (firstAt (ruleOk x) 0 rs)) ∧ Below w.heap.size w w' := by
  obtain ⟨a, cap, rfl, hlc, hcm, hrs⟩ := hr
  have hrs' : Hid (∀ (i : Nat) (r : RuleT), rs[i]? = some r → ∃ b o, a = some ⟨b, o, none⟩ ∧ b < B ∧ RuleAt B w b (o + i * 2) r) := hrs
  have hx' : Hid (XAt w bx x) := hx
  have hf' : Hid (w.cell? ⟨bf, 0, none⟩ = some (FailsV bx)) := hf
  clear hrs hx hf
  generalize hn : rs.length = n at *
  have hml : n ≤ 9223372036854775807 := by have := maxLen_eq; omega
  go_enter Tryd.func35, Tryd.ntmps35
  go_wp2
  go_loopw [8] (fun i wr => ∃ k : Nat, k ≤ n ∧ i = .int .i64 k ∧ Hid (firstAt (ruleOk x) 0 rs = firstAt (ruleOk x) k (rs.drop k)) ∧ Below w.heap.size w wr) (fun i _ => n - (intOf i).toNat)
  case atStart => exact ⟨0, by omega, rfl, rfl, Below.refl _ _⟩
  case round =>
    obtain ⟨k, hk, rfl, H, hbr⟩ := hrel
    have i0 : (0 : Int) ≤ (k : Int) := by omega
    by_cases hlt : k < n
    · have i1 : (k : Int) < (n : Int) := by omega
      obtain ⟨c, hck⟩ : ∃ c, rs[k]? = some c := ⟨rs[k]'(by omega), by simp⟩
      have hcm' : c ∈ rs := List.mem_of_getElem? hck
      obtain ⟨b, o, rfl, hbB, hat⟩ := hrs'.out k c hck
      have S : Hid (firstAt (ruleOk x) k (rs.drop k) = if ruleOk x c = true then (k : Int) else firstAt (ruleOk x) (k + 1) (rs.drop (k + 1))) := firstAt_step (ruleOk x) rs k c hck
      have hfc := hok c hcm'
      obtain ⟨cv, c0, c1, w0, hcon⟩ := hat.later hbr hB hbB
      have hsz := hbr.size
      have hcall : Hid (Calls Tryd.prog 36 #[.agg #[cv, .int .i64 c.2], .pointer (some ⟨bf, 0, none⟩)] wr fun e w' => e = .returned (.bool (ruleOk x c)) ∧ Below wr.heap.size wr w') :=
        ruleHolds_any B cv c x bx bf wr hcon (by omega) hfc (hx'.out.later hbr hl) (by omega) ((hbr.cell (p := ⟨bf, 0, none⟩) hlf).trans hf'.out) (by omega)
      obtain ⟨a2, cap2, rfl, _, _, _⟩ := hcon
      clear hat
      generalize c.1.length = m2 at *
      go_wp2_with (first | (go_at_call 36; refine hcall.out.mono ?_; rintro e w' ⟨rfl, hb2⟩))
      all_goals have hb3 : Below w.heap.size w w' := Below.thenOf hbr hb2 hbr.size
      · have hy : ruleOk x c = true := by assumption
        go_ret
        exact ⟨by rw [H.out, S.out, if_pos hy]; rfl, hb3⟩
      · have hy : ¬ ruleOk x c = true := by simp_all
        exact ⟨⟨k + 1, by omega, by go_num, by unfold Hid; rw [H.out, S.out, if_neg hy], hb3⟩, by simp [intOf]; omega⟩
    · go_wp2
      go_ret
      exact ⟨by rw [H.out, List.drop_eq_nil_of_le (by omega)]; rfl, hbr⟩

end Go.Proofs.YthpllmhnpbigiaaDoor
