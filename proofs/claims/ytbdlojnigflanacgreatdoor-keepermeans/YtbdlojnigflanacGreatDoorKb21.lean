/- Package chain: Check, Same, Ask. -/
import Derived.Test.YtbdlojnigflanacGreatDoorKb17
import Derived.Test.YtbdlojnigflanacGreatDoorKb15
import Derived.Test.YtbdlojnigflanacGreatDoorKb09
set_option linter.all false
set_option maxRecDepth 100000
namespace Go.Proofs.YtbdlojnigflanacGreatDoor
open Go.RowKit Go.Maps

set_option maxHeartbeats 2000000 in
theorem checkD_any (B : Nat) (lv : Value) (ls : ChT) (w : World) (hl : ChsAt B w lv ls) (hB : B ≤ w.heap.size) :
    Calls Tryz.prog 110 #[lv] w fun e w' => e = .returned (.int .i64 (chainErr ls)) ∧ Below w.heap.size w w' := by
  have HL : Hid (∀ w', Below w.heap.size w w' → ChsAt B w' lv ls) := fun w' h => hl.later h hB
  obtain ⟨a, cap, rfl, hlc, hcm, -⟩ := hl
  have hml := maxLen_eq
  have HE : Hid (chainErr ls = if 6 < ls.length then 2 else filtsErr ls) := rfl
  generalize hlen : ls.length = len at *
  have hlenH : Hid (ls.length = len) := hlen
  clear hlen
  by_cases h6 : 6 < len
  · have h6' : (6 : Int) < (len : Int) := by omega
    have HE' : Hid (chainErr ls = 2) := by unfold Hid; rw [HE.out, if_pos h6]
    go_enter Tryz.func110, Tryz.ntmps110
    go_wp2
    go_ret
    exact ⟨by rw [HE'.out]; rfl, Below.refl _ _⟩
  · have h6' : ¬ (6 : Int) < (len : Int) := by omega
    have HE' : Hid (chainErr ls = filtsErr ls) := by unfold Hid; rw [HE.out, if_neg h6]
    clear HE
    go_enter Tryz.func110, Tryz.ntmps110
    go_wp2
    go_loopw [11] (fun iv wr => ∃ k : Nat, k ≤ len ∧ iv = .int .i64 k ∧ Hid (filtsErr ls = filtsErr (ls.drop k)) ∧ Below w.heap.size w wr) (fun iv _ => len - (intOf iv).toNat)
    case atStart => exact ⟨0, by omega, rfl, rfl, Below.refl _ _⟩
    case round =>
      obtain ⟨k, hk, rfl, H, hbr⟩ := hrel
      obtain ⟨wo, hwo⟩ : ∃ x, x = wr := ⟨_, rfl⟩
      subst hwo
      have i0 : (0 : Int) ≤ (k : Int) := by omega
      have hos := hbr.size
      by_cases hlt : k < len
      · have i1 : (k : Int) < (len : Int) := by omega
        obtain ⟨f, hf⟩ : ∃ f, ls[k]? = some f := ⟨ls[k]'(by rw [hlenH.out]; omega), by simp⟩
        have S : Hid (filtsErr (ls.drop k) = if codeErr f = 0 then filtsErr (ls.drop (k + 1)) else codeErr f) := filtsErr_drop ls k f hf
        obtain ⟨_, _, e1, -, -, hat⟩ := HL.out _ hbr
        obtain ⟨b, o, fv, e, hbB, hc, hi⟩ := hat k f hf
        simp at e1
        obtain ⟨rfl, -, -⟩ := e1
        subst e
        clear hat
        have HPA : Hid (∀ w', Below wo.heap.size wo w' → Calls Tryz.prog 115 #[fv] w' fun e w'' => e = .returned (.int .i64 (codeErr f)) ∧ Below w'.heap.size w' w'') := fun w' h => check_code B fv f w' (hi.later h (Nat.le_trans hB hos)) (Nat.le_trans hB (Nat.le_trans hos h.size))
        obtain ⟨a2, c2, rfl, -, -⟩ := hi.shape
        clear hi hf
        generalize f.length = n2 at *
        by_cases he : codeErr f = 0
        · rw [he] at HPA
          have S' : Hid (filtsErr ls = filtsErr (ls.drop (k + 1))) := by unfold Hid; rw [H.out, S.out, if_pos he]
          clear he S
          go_wp2_with (first | (go_at_call 115; go_must (refine Calls.mono (HPA.out _ (Below.refl _ _)) ?_; rintro e w2 ⟨rfl, hb2⟩)))
          exact ⟨⟨k + 1, by omega, by go_num, S', Below.thenOf hbr hb2 hos⟩, by simp [intOf]; omega⟩
        · have S' : Hid (filtsErr ls = codeErr f) := by unfold Hid; rw [H.out, S.out, if_neg he]
          have hq : (codeErr f != 0) = true := by simpa using he
          clear he S
          generalize codeErr f = pe at *
          go_wp2_with (first | (go_at_call 115; go_must (refine Calls.mono (HPA.out _ (Below.refl _ _)) ?_; rintro e w2 ⟨rfl, hb2⟩)))
          go_ret
          exact ⟨by rw [HE'.out, S'.out]; rfl, Below.thenOf hbr hb2 hos⟩
      · go_wp2
        go_ret
        exact ⟨by rw [HE'.out, H.out, List.drop_eq_nil_of_le (by rw [hlenH.out]; omega)]; rfl, hbr⟩

set_option maxHeartbeats 2000000 in
theorem sameFilterD_any (B : Nat) (cv dv : Value) (cs ds : List InsT) (w : World) (hc : InssAt B w cv cs) (hd : InssAt B w dv ds) (hB : B ≤ w.heap.size) :
    Calls Tryz.prog 192 #[cv, dv] w fun e w' => e = .returned (.bool (decide (cs = ds))) ∧ Below w.heap.size w w' := by
  have HC : Hid (Calls Tryz.prog 54 #[cv, dv] w fun e w' => e = .returned (.bool (decide (cs = ds))) ∧ Below w.heap.size w w') := equalInss_any B cv dv cs ds w hc hd hB
  obtain ⟨a, c, rfl, -, -⟩ := hc.shape
  obtain ⟨a2, c2, rfl, -, -⟩ := hd.shape
  clear hc hd
  generalize decide (cs = ds) = eq at *
  generalize cs.length = n at *
  generalize ds.length = n2 at *
  go_enter Tryz.func192, Tryz.ntmps192
  go_wp2_with (first | (go_at_call 54; go_must (refine Calls.mono HC.out ?_; rintro e w2 ⟨rfl, hb2⟩)))
  go_ret
  exact ⟨rfl, hb2⟩

set_option maxHeartbeats 4000000 in
theorem equalFuncD_any (B : Nat) (lv mv : Value) (ls ms : ChT) (w : World) (hl : ChsAt B w lv ls) (hm : ChsAt B w mv ms) (hB : B ≤ w.heap.size) :
    Calls Tryz.prog 159 #[lv, mv, .func (.func 192) #[] #[]] w fun e w' => e = .returned (.bool (decide (ls = ms))) ∧ Below w.heap.size w w' := by
  have HL : Hid (∀ w', Below w.heap.size w w' → ChsAt B w' lv ls) := fun w' h => hl.later h hB
  have HM : Hid (∀ w', Below w.heap.size w w' → ChsAt B w' mv ms) := fun w' h => hm.later h hB
  obtain ⟨a, cap, rfl, hlc, hcm, -⟩ := hl
  obtain ⟨a', cap', rfl, hlc', hcm', -⟩ := hm
  have hml := maxLen_eq
  have HD : Hid (ls.length ≠ ms.length → decide (ls = ms) = false) := fun h => decide_eq_false fun e => h (by rw [e])
  generalize hlen : ls.length = n at *
  generalize hlen' : ms.length = m at *
  have hlenH : Hid (ls.length = n) := hlen
  have hlenH' : Hid (ms.length = m) := hlen'
  clear hlen hlen'
  by_cases hnm : n = m
  · subst hnm
    clear HD
    go_enter Tryz.func159, Tryz.ntmps159
    go_wp2
    go_loopw [17] (fun iv wr => ∃ k : Nat, k ≤ n ∧ iv = .int .i64 k ∧ Hid (ls.take k = ms.take k) ∧ Below w.heap.size w wr) (fun iv _ => n - (intOf iv).toNat)
    case atStart => exact ⟨0, by omega, rfl, by unfold Hid; simp, Below.refl _ _⟩
    case round =>
      obtain ⟨k, hk, rfl, H, hbr⟩ := hrel
      obtain ⟨wo, hwo⟩ : ∃ x, x = wr := ⟨_, rfl⟩
      subst hwo
      have i0 : (0 : Int) ≤ (k : Int) := by omega
      have hos := hbr.size
      by_cases hlt : k < n
      · have i1 : (k : Int) < (n : Int) := by omega
        obtain ⟨f, hf⟩ : ∃ f, ls[k]? = some f := ⟨ls[k]'(by rw [hlenH.out]; omega), by simp⟩
        obtain ⟨g, hg⟩ : ∃ g, ms[k]? = some g := ⟨ms[k]'(by rw [hlenH'.out]; omega), by simp⟩
        have S : Hid (ls.take (k + 1) = ms.take (k + 1) ↔ f = g) := take_eq_step ls ms k f g hf hg H.out
        have S2 : Hid (f ≠ g → decide (ls = ms) = false) := fun h => decide_eq_false fun e => h (by rw [e, hg] at hf; simpa using hf.symm)
        obtain ⟨_, _, e1, -, -, hat⟩ := HL.out _ hbr
        obtain ⟨b, o, fv, e, hbB, hc, hi⟩ := hat k f hf
        simp at e1
        obtain ⟨rfl, -, -⟩ := e1
        subst e
        obtain ⟨_, _, e1, -, -, hat'⟩ := HM.out _ hbr
        obtain ⟨b', o', gv, e, hbB', hc', hi'⟩ := hat' k g hg
        simp at e1
        obtain ⟨rfl, -, -⟩ := e1
        subst e
        clear hat hat'
        have HPA : Hid (Calls Tryz.prog 192 #[fv, gv] wo fun e w'' => e = .returned (.bool (decide (f = g))) ∧ Below wo.heap.size wo w'') := sameFilterD_any B fv gv f g wo hi hi' (Nat.le_trans hB hos)
        obtain ⟨a2, c2, rfl, -, -⟩ := hi.shape
        obtain ⟨a3, c3, rfl, -, -⟩ := hi'.shape
        clear hi hi' hf hg
        generalize f.length = n2 at *
        generalize g.length = n3 at *
        by_cases he : f = g
        · have S' : Hid (ls.take (k + 1) = ms.take (k + 1)) := S.out.2 he
          rw [decide_eq_true he] at HPA
          clear he S S2
          go_wp2_with (first | (go_at_call 192; go_must (refine Calls.mono HPA.out ?_; rintro e w2 ⟨rfl, hb2⟩)))
          exact ⟨⟨k + 1, by omega, by go_num, S', Below.thenOf hbr hb2 hos⟩, by simp [intOf]; omega⟩
        · have S' : Hid (decide (ls = ms) = false) := S2.out he
          rw [decide_eq_false he] at HPA
          clear he S S2
          go_wp2_with (first | (go_at_call 192; go_must (refine Calls.mono HPA.out ?_; rintro e w2 ⟨rfl, hb2⟩)))
          go_ret
          exact ⟨by rw [S'.out]; rfl, Below.thenOf hbr hb2 hos⟩
      · have S' : Hid (decide (ls = ms) = true) := by
          apply decide_eq_true
          have := H.out
          rw [List.take_of_length_le (by rw [hlenH.out]; omega), List.take_of_length_le (by rw [hlenH'.out]; omega)] at this
          exact this
        go_wp2
        go_ret
        exact ⟨by rw [S'.out]; rfl, hbr⟩
  · have hnm' : ¬ (n : Int) = (m : Int) := by omega
    have S' : Hid (decide (ls = ms) = false) := HD.out hnm
    have hq : ((n : Int) != (m : Int)) = true := by simpa using hnm'
    go_enter Tryz.func159, Tryz.ntmps159
    go_wp2
    go_ret
    exact ⟨by rw [S'.out]; rfl, Below.refl _ _⟩

set_option maxHeartbeats 2000000 in
theorem sameD_any (B : Nat) (lv mv : Value) (ls ms : ChT) (w : World) (hl : ChsAt B w lv ls) (hm : ChsAt B w mv ms) (hB : B ≤ w.heap.size) :
    Calls Tryz.prog 158 #[lv, mv] w fun e w' => e = .returned (.bool (decide (ls = ms))) ∧ Below w.heap.size w w' := by
  have HC : Hid (Calls Tryz.prog 159 #[lv, mv, .func (.func 192) #[] #[]] w fun e w' => e = .returned (.bool (decide (ls = ms))) ∧ Below w.heap.size w w') := equalFuncD_any B lv mv ls ms w hl hm hB
  obtain ⟨a, c, rfl, -, -⟩ := hl.shape
  obtain ⟨a2, c2, rfl, -, -⟩ := hm.shape
  clear hl hm
  generalize decide (ls = ms) = eq at *
  generalize ls.length = n at *
  generalize ms.length = n2 at *
  go_enter Tryz.func158, Tryz.ntmps158
  go_wp2_with (first | (go_at_call 159; go_must (refine Calls.mono HC.out ?_; rintro e w2 ⟨rfl, hb2⟩)))
  go_ret
  exact ⟨rfl, hb2⟩

set_option maxHeartbeats 2000000 in
/-- What one filter says of the call that the closure holds. -/
theorem askFn_any (B bx : Nat) (fv : Value) (f : List InsT) (x : Nat → Int) (w : World) (hf : InssAt B w fv f) (hB : B ≤ w.heap.size) (hx : w.heap[bx]? = some (.cells (cellsX x) 26 (0, 0))) :
    Calls Tryz.prog 111 #[fv, .pointer (some ⟨bx, 0, none⟩)] w fun e w' => e = .returned (.int .i64 (ranV f x).1) ∧ Below w.heap.size w w' := by
  have HR : Hid (Calls Tryz.prog 112 #[fv, .agg #[.int .i64 (x 0), .int .i64 (x 1), .int .i64 (x 2), .int .i64 (x 3), .int .i64 (x 4)]] w fun e w' => e = .returned (.tuple #[.int .i64 (ranV f x).1, .int .i64 (ranV f x).2, .int .i64 (ranE f x)]) ∧ Below w.heap.size w w') := run_any B fv f x w hf hB
  obtain ⟨a, c, rfl, -, -⟩ := hf.shape
  have hX := (cellsX_at hx).1
  have y0 := hX 0 (by omega)
  have y1 := hX 1 (by omega)
  have y2 := hX 2 (by omega)
  have y3 := hX 3 (by omega)
  have y4 := hX 4 (by omega)
  clear hf hX hx
  generalize f.length = n at *
  generalize (ranV f x).1 = v1 at *
  generalize (ranV f x).2 = v2 at *
  generalize ranE f x = v3 at *
  go_enter Tryz.func111, Tryz.ntmps111
  go_wp2_with (first | (go_at_call 112; go_must (refine Calls.mono HR.out ?_; rintro e w2 ⟨rfl, hb2⟩)))
  go_ret
  exact ⟨rfl, hb2⟩

set_option maxHeartbeats 4000000 in
theorem askD_any (B : Nat) (lv : Value) (ls : ChT) (x : Nat → Int) (w : World) (hl : ChsAt B w lv ls) (hB : B ≤ w.heap.size) :
    Calls Tryz.prog 52 #[lv, callV x] w fun e w' => e = .returned (.tuple #[.int .i64 (askV ls x), .int .i64 (askE ls x)]) ∧ Below w.heap.size w w' := by
  have HL : Hid (∀ w', Below w.heap.size w w' → ChsAt B w' lv ls) := fun w' h => hl.later h hB
  have HC : Hid (∀ w', Below w.heap.size w w' → Calls Tryz.prog 110 #[lv] w' fun e w'' => e = .returned (.int .i64 (chainErr ls)) ∧ Below w'.heap.size w' w'') := fun w' h => checkD_any B lv ls w' (hl.later h hB) (Nat.le_trans hB h.size)
  have HX1 : Hid (∀ w', Calls Tryz.prog 62 #[.agg #[.int .i64 (x 0), .int .i64 (x 1), .int .i64 (x 2), .int .i64 (x 3), .int .i64 (x 4)]] w' fun e w'' => e = .returned (.int .i64 (chkx x)) ∧ Below w'.heap.size w' w'') := fun w' => check_any (x 0) (x 1) (x 2) (x 3) (x 4) w'
  have HAE : Hid (askE ls x = if chainErr ls = 0 then chkx x else chainErr ls) := rfl
  have HAV : Hid (askV ls x = if askE ls x = 0 then askF x 4 ls else 0) := rfl
  have HOk : Hid (chainErr ls = 0 → ∀ f ∈ ls, codeErr f = 0) := fun h => (chainErr_ok.1 h).2
  have HRv : Hid (chkx x = 0 → ∀ f, codeErr f = 0 → (ranV f x).1 = (runs x 0 0 f).1) := fun h f hf => by
    have hE : ranE f x = 0 := by rw [ranE, if_pos hf, h]
    rw [ranV, if_pos hE]
  obtain ⟨a, cap, rfl, hlc, hcm, -⟩ := hl
  have hml := maxLen_eq
  generalize hlen : ls.length = len at *
  have hlenH : Hid (ls.length = len) := hlen
  clear hlen
  show Calls Tryz.prog 52 #[.slice a len cap, .agg #[.int .i64 (x 0), .int .i64 (x 1), .int .i64 (x 2), .int .i64 (x 3), .int .i64 (x 4)]] w _
  obtain ⟨W0, hW0⟩ : ∃ W0, W0 = w.alloc (.cells #[.int .i64 (x 0), .int .i64 (x 1), .int .i64 (x 2), .int .i64 (x 3), .int .i64 (x 4)] 26) := ⟨_, rfl⟩
  have hb0 : Below w.heap.size w W0 := by rw [hW0]; exact (Below.refl _ _).alloc (Nat.le_refl _) _
  have hs0 : W0.heap.size = w.heap.size + 1 := by rw [hW0]; simp
  have hm : W0.heap[w.heap.size]? = some (.cells (cellsX x) 26 (0, 0)) := by rw [hW0]; exact heap_made _ _
  have HX : Hid (∀ w', Below W0.heap.size W0 w' → w'.heap[w.heap.size]? = some (.cells (cellsX x) 26 (0, 0))) := fun w' h => (h.block w.heap.size (by omega)).trans hm
  have HW : Hid _ := hW0
  clear hW0 hm
  go_enter Tryz.func52, Tryz.ntmps52
  go_wp2_with fail
  rw [← HW.out]
  go_at_call 110
  refine Calls.mono (HC.out _ hb0) ?_
  rintro e w1 ⟨rfl, hb1⟩
  have hs1 := hb1.size
  have hbw1 : Below w.heap.size w w1 := Below.thenOf hb0 hb1 hb0.size
  have hX := (cellsX_at (HX.out w1 hb1)).1
  have y0 := hX 0 (by omega)
  have y1 := hX 1 (by omega)
  have y2 := hX 2 (by omega)
  have y3 := hX 3 (by omega)
  have y4 := hX 4 (by omega)
  clear hX HC
  by_cases hce : chainErr ls = 0
  · have HOk' : Hid (∀ f ∈ ls, codeErr f = 0) := HOk.out hce
    have HAE' : Hid (askE ls x = chkx x) := by unfold Hid; rw [HAE.out, if_pos hce]
    rw [hce]
    clear hce HOk HAE
    go_wp2_with fail
    go_at_call 62
    refine Calls.mono (HX1.out _) ?_
    rintro e w2 ⟨rfl, hb2⟩
    have hs2 := hb2.size
    have hb02 : Below W0.heap.size W0 w2 := Below.thenOf hb1 hb2 hs1
    have hbw2 : Below w.heap.size w w2 := Below.thenOf hb0 hb02 hb0.size
    clear y0 y1 y2 y3 y4 hb1 hb2 hbw1
    by_cases hcx : chkx x = 0
    · have HR : Hid (askE ls x = 0 ∧ askV ls x = askF x 4 ls) := by
        have e : askE ls x = 0 := by rw [HAE'.out, hcx]
        exact ⟨e, by rw [HAV.out, if_pos e]⟩
      have HRv' : Hid (∀ f, codeErr f = 0 → (ranV f x).1 = (runs x 0 0 f).1) := HRv.out hcx
      rw [hcx]
      clear hcx HAE' HAV HRv HX1
      go_wp2_with fail
      go_loopw [9, 25] (fun vv iv wr => ∃ k : Nat, k ≤ len ∧ iv = .int .i64 k ∧ vv = .int .i64 (askF x 4 (ls.take k)) ∧ Hid (Below W0.heap.size W0 wr)) (fun _ iv _ => len - (intOf iv).toNat)
      case atStart => exact ⟨0, by omega, rfl, rfl, hb02⟩
      case round =>
        obtain ⟨k, hk, rfl, rfl, hbr⟩ := hrel
        obtain ⟨wo, hwo⟩ : ∃ x, x = wr := ⟨_, rfl⟩
        subst hwo
        have i0 : (0 : Int) ≤ (k : Int) := by omega
        have hos := hbr.out.size
        have HBw : Hid (Below w.heap.size w wo) := Below.thenOf hb0 hbr.out hb0.size
        by_cases hlt : k < len
        · have i1 : (k : Int) < (len : Int) := by omega
          obtain ⟨f, hf⟩ : ∃ f, ls[k]? = some f := ⟨ls[k]'(by rw [hlenH.out]; omega), by simp⟩
          have S : Hid (askF x 4 (ls.take (k + 1)) = if (runs x 0 0 f).1 < askF x 4 (ls.take k) then (runs x 0 0 f).1 else askF x 4 (ls.take k)) := askF_step x ls k f hf
          obtain ⟨_, _, e1, -, -, hat⟩ := HL.out _ HBw.out
          obtain ⟨b, o, fv, e, hbB, hc, hi⟩ := hat k f hf
          simp at e1
          obtain ⟨rfl, -, -⟩ := e1
          subst e
          have hok := HOk'.out f (List.mem_of_getElem? hf)
          clear hat
          have HPA : Hid (Calls Tryz.prog 111 #[fv, .pointer (some ⟨w.heap.size, 0, none⟩)] wo fun e w'' => e = .returned (.int .i64 (runs x 0 0 f).1) ∧ Below wo.heap.size wo w'') := by
            have := askFn_any B w.heap.size fv f x wo hi (Nat.le_trans hB HBw.out.size) (HX.out wo hbr.out)
            rw [HRv'.out f hok] at this
            exact this
          obtain ⟨a2, c2, rfl, -, -⟩ := hi.shape
          clear hi hf hok
          generalize f.length = n2 at *
          generalize (runs x 0 0 f).1 = va at *
          generalize askF x 4 (ls.take k) = vc at *
          by_cases he : va < vc
          · have S' : Hid (va = askF x 4 (ls.take (k + 1))) := by unfold Hid; rw [S.out, if_pos he]
            have hmin : min vc va = va := by omega
            clear S
            go_wp2_with (first | (go_at_call 111; go_must (refine Calls.mono HPA.out ?_; rintro e w3 ⟨rfl, hb3⟩)))
            all_goals first | (exfalso; omega) | skip
            exact ⟨⟨k + 1, by omega, by go_num, by rw [S'.out], Below.thenOf hbr.out hb3 hos⟩, by simp [intOf]; omega⟩
          · have S' : Hid (vc = askF x 4 (ls.take (k + 1))) := by unfold Hid; rw [S.out, if_neg he]
            have hmin : min vc va = vc := by omega
            clear S
            go_wp2_with (first | (go_at_call 111; go_must (refine Calls.mono HPA.out ?_; rintro e w3 ⟨rfl, hb3⟩)))
            all_goals first | (exfalso; omega) | skip
            exact ⟨⟨k + 1, by omega, by go_num, by rw [S'.out], Below.thenOf hbr.out hb3 hos⟩, by simp [intOf]; omega⟩
        · have e : ls.take k = ls := List.take_of_length_le (by rw [hlenH.out]; omega)
          rw [e]
          have HV : Hid (∃ vc, vc = askF x 4 ls) := ⟨_, rfl⟩
          obtain ⟨vc, hv⟩ := HV.out
          rw [← hv]
          have HV' : Hid (vc = askF x 4 ls) := hv
          clear hv HV
          go_wp2_with fail
          go_ret2
          exact ⟨by rw [HR.out.1, HR.out.2, ← HV'.out]; rfl, HBw.out⟩
    · have HR : Hid (askE ls x = chkx x ∧ askV ls x = 0) := by
        have e : askE ls x = chkx x := HAE'.out
        exact ⟨e, by rw [HAV.out, if_neg (by rw [e]; exact hcx)]⟩
      have hq : (chkx x != 0) = true := by simpa using hcx
      clear hcx HAE' HAV HRv HX1
      generalize chkx x = cx at *
      go_wp2_with fail
      go_ret2
      exact ⟨by rw [HR.out.1, HR.out.2]; rfl, hbw2⟩
  · have HR : Hid (askE ls x = chainErr ls ∧ askV ls x = 0) := by
      have e : askE ls x = chainErr ls := by rw [HAE.out, if_neg hce]
      exact ⟨e, by rw [HAV.out, if_neg (by rw [e]; exact hce)]⟩
    have hq : (chainErr ls != 0) = true := by simpa using hce
    clear hce HAE HAV HRv HX1 HOk
    generalize chainErr ls = ce at *
    go_wp2_with fail
    go_ret2
    exact ⟨by rw [HR.out.1, HR.out.2]; rfl, hbw1⟩

end Go.Proofs.YtbdlojnigflanacGreatDoor
