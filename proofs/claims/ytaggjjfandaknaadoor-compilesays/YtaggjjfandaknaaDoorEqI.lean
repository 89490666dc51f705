/- slices.Equal of two filters. -/
import Derived.Test.YtaggjjfandaknaaDoorCmp5
set_option linter.all false
set_option maxRecDepth 100000
namespace Go.Proofs.YtaggjjfandaknaaDoor
open Go.RowKit Go.Maps

set_option maxHeartbeats 1000000 in
theorem equalInss_any (B : Nat) (cv dv : Value) (cs ds : List InsT) (w : World) (hc : InssAt B w cv cs) (hd : InssAt B w dv ds) (hB : B ≤ w.heap.size) :
    Calls Tryd.prog 29 #[cv, dv] w fun e w' => e = .returned (.bool (decide (cs = ds))) ∧ Below w.heap.size w w' := by
  obtain ⟨a, cap, rfl, hlc, hcm, hcs⟩ := hc
  obtain ⟨a2, cap2, rfl, hlc2, hcm2, hds⟩ := hd
  have hcs' : Hid (∀ (i : Nat) (c : InsT), cs[i]? = some c → ∃ b o, a = some ⟨b, o, none⟩ ∧ b < B ∧ InsAt w b (o + i * 4) c) := hcs
  have hds' : Hid (∀ (i : Nat) (c : InsT), ds[i]? = some c → ∃ b o, a2 = some ⟨b, o, none⟩ ∧ b < B ∧ InsAt w b (o + i * 4) c) := hds
  clear hcs hds
  by_cases hne : cs.length = ds.length
  · generalize hn : cs.length = n at *
    have hm : ds.length = n := hne.symm
    clear hne
    rw [hm] at hlc2
    simp only [hm]
    have hml : n ≤ 9223372036854775807 := by have := maxLen_eq; omega
    go_enter Tryd.func29, Tryd.ntmps29
    go_wp2
    go_loopw [13] (fun i wr => ∃ k : Nat, k ≤ n ∧ i = .int .i64 k ∧ Hid (∀ i, i < k → cs[i]? = ds[i]?) ∧ Below w.heap.size w wr) (fun i _ => n - (intOf i).toNat)
    case atStart => exact ⟨0, by omega, rfl, fun i h => absurd h (by omega), Below.refl _ _⟩
    case round =>
      obtain ⟨k, hk, rfl, H, hbr⟩ := hrel
      have i0 : (0 : Int) ≤ (k : Int) := by omega
      by_cases hlt : k < n
      · have i1 : (k : Int) < (n : Int) := by omega
        obtain ⟨c, hck⟩ : ∃ c, cs[k]? = some c := ⟨cs[k]'(by omega), by simp⟩
        obtain ⟨d, hdk⟩ : ∃ d, ds[k]? = some d := ⟨ds[k]'(by omega), by simp⟩
        obtain ⟨b, o, rfl, hbB, hat⟩ := hcs'.out k c hck
        obtain ⟨b2, o2, rfl, hbB2, hat2⟩ := hds'.out k d hdk
        have hck' : Hid (cs[k]? = some c) := hck
        have hdk' : Hid (ds[k]? = some d) := hdk
        clear hck hdk
        obtain ⟨c0, c1, c2, c3, _⟩ := hat.later hbr (by omega)
        obtain ⟨d0, d1, d2, d3, _⟩ := hat2.later hbr (by omega)
        obtain ⟨f, op, v, u⟩ := c
        obtain ⟨f2, op2, v2, u2⟩ := d
        simp only [] at c0 c1 c2 c3 d0 d1 d2 d3
        clear hat hat2
        go_wp2
        have hsz := hbr.size
        have hne := Later.ne wr
        have c0' : ∀ x : Later wr, x.1.cell? ⟨b, o + k * 4, none⟩ = some (.int .i64 f) := fun x => x.cell c0 (by omega)
        have c1' : ∀ x : Later wr, x.1.cell? ⟨b, o + k * 4 + 1, none⟩ = some (.int .i64 op) := fun x => x.cell c1 (by omega)
        have c2' : ∀ x : Later wr, x.1.cell? ⟨b, o + k * 4 + 2, none⟩ = some (.int .i64 v) := fun x => x.cell c2 (by omega)
        have c3' : ∀ x : Later wr, x.1.cell? ⟨b, o + k * 4 + 3, none⟩ = some (.int .i64 u) := fun x => x.cell c3 (by omega)
        have d3' : ∀ x : Later wr, x.1.cell? ⟨b2, o2 + k * 4 + 3, none⟩ = some (.int .i64 u2) := fun x => x.cell d3 (by omega)
        have d0' : ∀ x : Later wr, x.1.cell? ⟨b2, o2 + k * 4, none⟩ = some (.int .i64 f2) := fun x => x.cell d0 (by omega)
        have d1' : ∀ x : Later wr, x.1.cell? ⟨b2, o2 + k * 4 + 1, none⟩ = some (.int .i64 op2) := fun x => x.cell d1 (by omega)
        have d2' : ∀ x : Later wr, x.1.cell? ⟨b2, o2 + k * 4 + 2, none⟩ = some (.int .i64 v2) := fun x => x.cell d2 (by omega)
        by_cases heq : ((f, op, v, u) : InsT) = (f2, op2, v2, u2)
        · have Heq : Hid (((f, op, v, u) : InsT) = (f2, op2, v2, u2)) := heq
          have hd : Hid ((!decide (((f, op, v, u) : InsT) = (f2, op2, v2, u2))) = false) := by unfold Hid; simp [heq]
          clear heq
          refine wp_region_later (by kernel_rfl) (by kernel_rfl) ?_
          repeat (go_big_quiet_step (fail))
          refine wpQuiet_neqIns _ _ _ rfl rfl f op v u f2 op2 v2 u2 rfl rfl _ hd.out ?_
          refine wpQuiet_nil ?_
          rintro wx ⟨⟨_, hx⟩, rfl⟩
          have hbx := Below.thenOf hbr hx hbr.size
          go_wp2
          refine ⟨⟨k + 1, by omega, by go_num, fun i hi => ?_, hbx⟩, by simp [intOf]; omega⟩
          by_cases hik : i = k
          · subst hik; rw [hck'.out, hdk'.out, Heq.out]
          · exact H.out i (by omega)
        · have Heq : Hid (¬ ((f, op, v, u) : InsT) = (f2, op2, v2, u2)) := heq
          have hd : Hid ((!decide (((f, op, v, u) : InsT) = (f2, op2, v2, u2))) = true) := by unfold Hid; rw [decide_eq_false heq]; rfl
          clear heq
          refine wp_region_later (by kernel_rfl) (by kernel_rfl) ?_
          repeat (go_big_quiet_step (fail))
          refine wpQuiet_neqIns _ _ _ rfl rfl f op v u f2 op2 v2 u2 rfl rfl _ hd.out ?_
          refine wpQuiet_nil ?_
          rintro wx ⟨⟨_, hx⟩, rfl⟩
          have hbx := Below.thenOf hbr hx hbr.size
          go_wp2
          go_ret
          refine ⟨?_, hbx⟩
          have : cs ≠ ds := by
            intro h
            have h1 := hck'.out
            rw [h, hdk'.out] at h1
            exact Heq.out (Option.some.inj h1).symm
          simp [this]
      · go_wp2
        go_ret
        refine ⟨?_, hbr⟩
        have : cs = ds := by
          refine List.ext_getElem? fun i => ?_
          by_cases hi : i < k
          · exact H.out i hi
          · rw [List.getElem?_eq_none (by omega), List.getElem?_eq_none (by omega)]
        simp [this]
  · have hni : ((cs.length : Int) != (ds.length : Int)) = true := by simp; omega
    have hf : Hid (decide (cs = ds) = false) := by unfold Hid; simp; intro h; rw [h] at hne; exact hne rfl
    generalize cs.length = n at *
    generalize ds.length = m at *
    go_enter Tryd.func29, Tryd.ntmps29
    go_wp2
    go_ret
    exact ⟨by rw [hf.out]; rfl, Below.refl _ _⟩

end Go.Proofs.YtaggjjfandaknaaDoor
