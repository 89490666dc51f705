/- ChainOrder returns true, whatever the chains and the call, in whatever memory. -/
import Derived.Test.YtbjpdmfedphacabGreatDoorCj46
import Derived.Test.YtbjpdmfedphacabGreatDoorChV
set_option linter.all false
set_option maxRecDepth 100000
namespace Go.Proofs.YtbjpdmfedphacabGreatDoor
open Go.RowKit Go.Maps

/-- Two chains side by side in a row, just written, and what slices.Concat makes of them. -/
theorem concat_lit {B : Nat} {lv mv : Value} {ls ms : ChT} (w : World) (hl : ChsAt B w lv ls) (hm : ChsAt B w mv ms) (hB : B ≤ w.heap.size) (hn : (ls.length + ms.length) * 24 ≤ 140737488355328) (T : TypeId) :
    Calls Tryz.prog 50 #[.slice (some ⟨w.heap.size, 0, none⟩) 2 2] (w.alloc (.cells #[lv, mv] T)) fun e w' => ∃ v, e = .returned v ∧ ChsAt w'.heap.size w' v (ls ++ ms) ∧ Below (w.alloc (.cells #[lv, mv] T)).heap.size (w.alloc (.cells #[lv, mv] T)) w' := by
  have hb : Below w.heap.size w (w.alloc (.cells #[lv, mv] T)) := (Below.refl _ _).alloc (Nat.le_refl _) _
  exact concatL_any B lv mv ls ms w.heap.size _ (hl.later hb hB) (hm.later hb hB) (by simp; omega) (by simp) (heap_cell (heap_made w _) 0 rfl) (heap_cell (heap_made w _) 1 rfl) hn

/-- What stands in the region that lays two chains side by side (operation 2), joins them (3), and asks the joined one (5). -/
def JCo (W : World) (lv mv : Value) (R : ChT) (fs : Nat → Value → Prop) (w : World) : Prop :=
  Below W.heap.size W w ∧ (∀ u, fs 2 u → ∃ g T fr, u = .slice (some ⟨g, 0, none⟩) 2 2 ∧ w.heap[g]? = some (.cells #[lv, mv] T fr)) ∧ ∀ u, fs 3 u → ∃ C, C ≤ w.heap.size ∧ ChsAt C w u R
def SCo (rv : Value) (k : Nat) (v : Value) : Prop := if k = 2 then ∃ g : Nat, v = .slice (some ⟨g, 0, none⟩) 2 2 else if k = 3 then ∃ a n c, v = .slice a n c else if k = 5 then v = rv else True
theorem sCo_some (rv : Value) (k : Nat) : ∃ v, SCo rv k v := by
  unfold SCo
  split
  · exact ⟨_, 0, rfl⟩
  · split
    · exact ⟨_, none, 0, 0, rfl⟩
    · split
      · exact ⟨_, rfl⟩
      · exact ⟨undef, trivial⟩
theorem JCo.start (W : World) (lv mv : Value) (R : ChT) : JCo W lv mv R (fun _ _ => False) W.drew := ⟨(Below.refl _ _).drew, fun _ h => h.elim, fun _ h => h.elim⟩
theorem JCo.later {W w w' : World} {lv mv : Value} {R : ChT} {fs : Nat → Value → Prop} (h : JCo W lv mv R fs w) (hb : Below w.heap.size w w') : JCo W lv mv R fs w' := by
  refine ⟨Below.thenOf h.1 hb h.1.size, fun u hu => ?_, fun u hu => ?_⟩
  · obtain ⟨g, T, fr, e, hg⟩ := h.2.1 u hu
    exact ⟨g, T, fr, e, (hb.block g (lt_of_block hg)).trans hg⟩
  · obtain ⟨C, hC, hc⟩ := h.2.2 u hu
    exact ⟨C, Nat.le_trans hC hb.size, hc.later hb hC⟩
theorem JCo.lit {W w : World} {lv mv : Value} {R : ChT} {fs : Nat → Value → Prop} (h : JCo W lv mv R fs w) (T : TypeId) : JCo W lv mv R (addF fs 2 (.slice (some ⟨w.heap.size, 0, none⟩) 2 2)) (w.alloc (.cells #[lv, mv] T)) := by
  have h' := h.later ((Below.refl w.heap.size w).alloc (Nat.le_refl _) (.cells #[lv, mv] T))
  refine ⟨h'.1, fun u hu => ?_, fun u hu => ?_⟩
  · rcases hu with hu | ⟨_, rfl⟩
    · exact h'.2.1 u hu
    · exact ⟨w.heap.size, T, (0, 0), rfl, heap_made w _⟩
  · rcases hu with hu | ⟨h, _⟩
    · exact h'.2.2 u hu
    · cases h
theorem JCo.joined {W w w' : World} {lv mv : Value} {R : ChT} {fs : Nat → Value → Prop} (h : JCo W lv mv R fs w) (hb : Below w.heap.size w w') (v : Value) (hv : ChsAt w'.heap.size w' v R) : JCo W lv mv R (addF fs 3 v) w' := by
  have h' := h.later hb
  refine ⟨h'.1, fun u hu => ?_, fun u hu => ?_⟩
  · rcases hu with hu | ⟨h, _⟩
    · exact h'.2.1 u hu
    · cases h
  · rcases hu with hu | ⟨_, rfl⟩
    · exact h'.2.2 u hu
    · exact ⟨_, Nat.le_refl _, hv⟩
theorem JCo.asked {W w w' : World} {lv mv : Value} {R : ChT} {fs : Nat → Value → Prop} (h : JCo W lv mv R fs w) (hb : Below w.heap.size w w') (v : Value) : JCo W lv mv R (addF fs 5 v) w' := by
  have h' := h.later hb
  refine ⟨h'.1, fun u hu => ?_, fun u hu => ?_⟩
  · rcases hu with hu | ⟨h, _⟩
    · exact h'.2.1 u hu
    · cases h
  · rcases hu with hu | ⟨h, _⟩
    · exact h'.2.2 u hu
    · cases h

set_option maxHeartbeats 16000000 in
theorem chainOrder_any (B : Nat) (lv mv : Value) (ls ms : ChT) (x : Nat → Int) (w : World) (he : EnvAt w) (hl : ChsAt B w lv ls) (hm : ChsAt B w mv ms) (hB : B ≤ w.heap.size) (hmn : ms.length * 24 ≤ 140737488351232) :
    Calls Tryz.prog 14 #[lv, mv, callV x] w fun e w' => e = .returned (.bool true) ∧ Below w.heap.size w w' := by
  have HT : Hid (∀ w', Below w.heap.size w w' → Calls Tryz.prog 41 #[] w' fun e w'' => e = .returned (.bool true) ∧ Below w'.heap.size w' w'') := fun w' h => tightened_true w' (he.later h)
  have HR : Hid (∀ w', Calls Tryz.prog 25 #[callV x] w' fun e w'' => e = .returned (callV (rx x)) ∧ Below w'.heap.size w' w'') := fun w' => right_any x w'
  have HAs : Hid (∀ (C : Nat) (cv : Value) (cs : ChT) w', ChsAt C w' cv cs → C ≤ w'.heap.size → Calls Tryz.prog 35 #[cv, .agg #[.int .i64 (rx x 0), .int .i64 (rx x 1), .int .i64 (rx x 2), .int .i64 (rx x 3), .int .i64 (rx x 4)]] w' fun e w'' => e = .returned (.tuple #[.int .i64 (askV cs (rx x)), .int .i64 (askE cs (rx x))]) ∧ Below w'.heap.size w' w'') := fun C cv cs w' hc hC => askD_any C cv cs (rx x) w' hc hC
  have HL : Hid (∀ w', Below w.heap.size w w' → ChsAt B w' lv ls ∧ ChsAt B w' mv ms ∧ B ≤ w'.heap.size) := fun w' h => ⟨hl.later h hB, hm.later h hB, Nat.le_trans hB h.size⟩
  have hA : Hid (∀ (W : World) X, Below W.heap.size W (W.alloc X)) := fun W X => (Below.refl _ _).alloc (Nat.le_refl _) _
  have HO1 : Hid (askE ls (rx x) = 0 → askE ls.reverse (rx x) = 0 ∧ askV ls.reverse (rx x) = askV ls (rx x)) := fun h => askE_reverse h
  have HO2 : Hid (askE ls (rx x) = 0 → ls.length ≤ 3 → askE (ls ++ ls) (rx x) = 0 ∧ askV (ls ++ ls) (rx x) = askV ls (rx x)) := fun h h' => askE_double h h'
  have HO3 : Hid (askE ls (rx x) = 0 → askE ms (rx x) = 0 → askE (ls ++ ms) (rx x) = 0 → askV (ls ++ ms) (rx x) = min (askV ls (rx x)) (askV ms (rx x))) := fun h1 h2 h3 => askV_both h1 h2 h3
  have HO4 : Hid (askE ls (rx x) = 0 → ls.length ≤ 6) := fun h => by
    unfold askE at h
    split at h
    · rename_i h1
      exact (chainErr_ok.1 h1).1
    · rename_i h1
      exact absurd h h1
  obtain ⟨la, lc, rfl, hlc, hlm⟩ := hl.shape
  obtain ⟨ma, mc, rfl, hmc, hmm⟩ := hm.shape
  have hml := maxLen_eq
  obtain ⟨ln, hln⟩ : ∃ n, n = ls.length := ⟨_, rfl⟩
  obtain ⟨mn, hmn'⟩ : ∃ n, n = ms.length := ⟨_, rfl⟩
  have HLN : Hid (ls.length = ln) := hln.symm
  have HMN : Hid (ms.length = mn) := hmn'.symm
  rw [← hln] at HL hlc HO2 HO4 ⊢
  rw [← hmn'] at HL hmc hmn ⊢
  clear he hl hm hln hmn'
  unfold callV at HR ⊢
  generalize rx x = y at *
  go_enter Tryz.func14, Tryz.ntmps14
  go_wp2_with fail
  obtain ⟨W0, hW0⟩ : ∃ W0, W0 = w.alloc (.cells #[.int .i64 (x 0), .int .i64 (x 1), .int .i64 (x 2), .int .i64 (x 3), .int .i64 (x 4)] 29) := ⟨_, rfl⟩
  have s0 : W0.heap.size = w.heap.size + 1 := by rw [hW0]; simp
  have bw0 : Below w.heap.size w W0 := by rw [hW0]; exact (Below.refl _ _).alloc (Nat.le_refl _) _
  have hx0 : W0.heap[w.heap.size]? = some (.cells (cellsX x) 29 (0, 0)) := by rw [hW0]; exact heap_made _ _
  rw [← hW0]
  clear hW0
  go_at_call 25
  refine Calls.mono (HR.out _) ?_
  rintro e w1 ⟨rfl, b01⟩
  have X1 := (b01.block _ (by omega)).trans hx0
  obtain ⟨z0, z1, z2, z3, z4⟩ := five_at X1
  have Zf := (cellsX_at X1).2
  have f0 := Zf 0
  have f1 := Zf 1
  have f2 := Zf 2
  have f3 := Zf 3
  have f4 := Zf 4
  have s1 := lt_of_block X1
  have HX1 : Hid _ := X1
  clear Zf X1 hx0
  go_wp2_with fail
  obtain ⟨W1, hW1⟩ : ∃ W1, W1 = ((((w1.setCell ⟨w.heap.size, 0, none⟩ (.int .i64 (y 0))).setCell ⟨w.heap.size, 1, none⟩ (.int .i64 (y 1))).setCell ⟨w.heap.size, 2, none⟩ (.int .i64 (y 2))).setCell ⟨w.heap.size, 3, none⟩ (.int .i64 (y 3))).setCell ⟨w.heap.size, 4, none⟩ (.int .i64 (y 4)) := ⟨_, rfl⟩
  have hx1 : W1.heap[w.heap.size]? = some (.cells (cellsX y) 29 (0, 0)) := by rw [hW1]; exact callBox HX1.out
  have b1 : Below w.heap.size w1 W1 := by rw [hW1]; exact callBox_below (Below.refl _ _) (Nat.le_refl _)
  have bw1 : Below w.heap.size w W1 := bw0.trans ((b01.mono (by omega)).trans b1)
  have t1 := lt_of_block hx1
  have HK1 : Hid (∀ w', Below W1.heap.size W1 w' → w'.heap[w.heap.size]? = some (.cells (cellsX y) 29 (0, 0)) ∧ Below w.heap.size w w') := fun w' h =>
    ⟨(h.block _ (by omega)).trans hx1, Below.thenOf bw1 h bw1.size⟩
  have HA1 : Hid _ := HAs.out B _ ls W1 (HL.out W1 bw1).1 (HL.out W1 bw1).2.2
  rw [← hW1]
  clear hW1 z0 z1 z2 z3 z4 f0 f1 f2 f3 f4 HX1 b01 b1 bw0 s0 s1 hx1
  generalize hae : askE ls y = ae at *
  generalize askV ls y = av at *
  go_at_call 35
  refine Calls.mono HA1.out ?_
  rintro e w2 ⟨rfl, b12⟩
  have B2 : Hid (Below W1.heap.size W1 w2 ∧ Below w.heap.size w w2) := ⟨b12, (HK1.out w2 b12).2⟩
  clear HA1 b12 bw1 hae
  by_cases h0 : ae = 0
  · subst h0
    have hl6 := HO4.out rfl
    have HR1 : Hid (askE ls.reverse y = 0 ∧ askV ls.reverse y = av) := HO1.out rfl
    have HO2' : Hid _ := HO2.out rfl
    have HO3' : Hid _ := HO3.out rfl
    clear HO1 HO2 HO3 HO4
    go_wp2_with fail
    go_at_call 41
    refine Calls.mono (HT.out _ B2.out.2) ?_
    rintro e w3 ⟨rfl, b23⟩
    have B3 : Hid (Below W1.heap.size W1 w3 ∧ Below w.heap.size w w3) := ⟨Below.thenOf B2.out.1 b23 B2.out.1.size, Below.thenOf B2.out.2 b23 B2.out.2.size⟩
    have HCl : Hid _ := cloneL_any B _ ls w3 (HL.out w3 B3.out.2).1 (HL.out w3 B3.out.2).2.2 (by rw [HLN.out]; omega)
    clear b23 B2
    go_wp2_with fail
    go_at_call 48
    refine Calls.mono HCl.out ?_
    rintro e w4 ⟨tv, xs, rfl, ho4, hx4, b34⟩
    have hB3 := (HL.out w3 B3.out.2).2.2
    have HRv : Hid _ := reverse_chain w4 ho4 hx4 hB3 b34.size (by rw [HLN.out]; exact hl6)
    obtain ⟨ta, tn, tc, rfl⟩ : ∃ a n c, tv = .slice a n c := by
      obtain ⟨a, c, e, -⟩ := ownsRow_caps ho4
      exact ⟨_, _, _, e⟩
    clear ho4 hx4 HCl
    go_wp2_with fail
    go_at_call 49
    refine Calls.mono HRv.out ?_
    rintro e w5 ⟨rfl, hc5, b45⟩
    have b35 : Below w3.heap.size w3 w5 := b34.trans b45
    have B5 : Hid (Below W1.heap.size W1 w5 ∧ Below w.heap.size w w5) := ⟨Below.thenOf B3.out.1 b35 B3.out.1.size, Below.thenOf B3.out.2 b35 B3.out.2.size⟩
    have HA5 : Hid _ := HAs.out w5.heap.size _ _ w5 hc5 (Nat.le_refl _)
    rw [HR1.out.1, HR1.out.2] at HA5
    obtain ⟨k1, -⟩ := HK1.out w5 B5.out.1
    have l1 := lt_of_block k1
    obtain ⟨z0, z1, z2, z3, z4⟩ := five_at k1
    clear hc5 b45 b34 b35 k1 B3 HRv HR1 hB3
    go_wp2_with fail
    go_at_call 35
    refine Calls.mono HA5.out ?_
    rintro e w6 ⟨rfl, b56⟩
    have B6 : Hid (Below W1.heap.size W1 w6 ∧ Below w.heap.size w w6) := ⟨Below.thenOf B5.out.1 b56 B5.out.1.size, Below.thenOf B5.out.2 b56 B5.out.2.size⟩
    clear b56 B5 HA5 z0 z1 z2 z3 z4 l1
    by_cases h3 : ln ≤ 3
    case' pos =>
      obtain ⟨r1, r2⟩ := HO2'.out h3
      have h3' : (ln : Int) ≤ 3 := by omega
      have HCC : Hid (∀ g w', (∃ T0 fr, w'.heap[g]? = some (.cells #[.slice la ln lc, .slice la ln lc] T0 fr)) → Below w6.heap.size w6 w' → Calls Tryz.prog 50 #[.slice (some ⟨g, 0, none⟩) 2 2] w' fun e w'' => ∃ v, e = .returned v ∧ ChsAt w''.heap.size w'' v (ls ++ ls) ∧ Below w'.heap.size w' w'') := by
        rintro g w' ⟨T0, fr, hg⟩ hb
        obtain ⟨c1, c2, c3⟩ := HL.out w' (Below.thenOf B6.out.2 hb B6.out.2.size)
        exact concatL_any B _ _ ls ls g w' c1 c1 c3 (lt_of_block hg) (heap_cell hg 0 rfl) (heap_cell hg 1 rfl) (by rw [HLN.out]; omega)
      have HA7 : Hid (∀ C cv w', ChsAt C w' cv (ls ++ ls) → C ≤ w'.heap.size → Calls Tryz.prog 35 #[cv, .agg #[.int .i64 (y 0), .int .i64 (y 1), .int .i64 (y 2), .int .i64 (y 3), .int .i64 (y 4)]] w' fun e w'' => e = .returned (.tuple #[.int .i64 av, .int .i64 0]) ∧ Below w'.heap.size w' w'') := fun C cv w' hc hC => by
        have := HAs.out C cv (ls ++ ls) w' hc hC
        rw [r1, r2] at this
        exact this
      obtain ⟨k1, -⟩ := HK1.out w6 B6.out.1
      have l1 := lt_of_block k1
      obtain ⟨z0, z1, z2, z3, z4⟩ := five_at k1
      have HY : Hid (∀ z : Later w6, z.1.cell? ⟨w.heap.size, 0, none⟩ = some (.int .i64 (y 0)) ∧ z.1.cell? ⟨w.heap.size, 1, none⟩ = some (.int .i64 (y 1)) ∧ z.1.cell? ⟨w.heap.size, 2, none⟩ = some (.int .i64 (y 2)) ∧ z.1.cell? ⟨w.heap.size, 3, none⟩ = some (.int .i64 (y 3)) ∧ z.1.cell? ⟨w.heap.size, 4, none⟩ = some (.int .i64 (y 4))) := fun z => ⟨z.cell z0 l1, z.cell z1 l1, z.cell z2 l1, z.cell z3 l1, z.cell z4 l1⟩
      clear r1 r2 k1 z0 z1 z2 z3 z4
      have y0 : ∀ z : Later w6, z.1.cell? ⟨w.heap.size, 0, none⟩ = some (.int .i64 (y 0)) := fun z => (HY.out z).1
      have y1 : ∀ z : Later w6, z.1.cell? ⟨w.heap.size, 1, none⟩ = some (.int .i64 (y 1)) := fun z => (HY.out z).2.1
      have y2 : ∀ z : Later w6, z.1.cell? ⟨w.heap.size, 2, none⟩ = some (.int .i64 (y 2)) := fun z => (HY.out z).2.2.1
      have y3 : ∀ z : Later w6, z.1.cell? ⟨w.heap.size, 3, none⟩ = some (.int .i64 (y 3)) := fun z => (HY.out z).2.2.2.1
      have y4 : ∀ z : Later w6, z.1.cell? ⟨w.heap.size, 4, none⟩ = some (.int .i64 (y 4)) := fun z => (HY.out z).2.2.2.2
      go_wp2_with fail
      have hne := Later.ne w6
      have hDJ : Hid (∀ fs w', JCo w6 (.slice la ln lc) (.slice la ln lc) (ls ++ ls) fs w' → ∃ z : Later w6, w' = z.1) := fun fs w' h => ⟨⟨w', h.1⟩, rfl⟩
      refine wp_region_free [_, _, _, _, _, _, _, _, _, _] _ rfl (fun k => k == 2 || k == 3 || k == 5) (JCo w6 (.slice la ln lc) (.slice la ln lc) (ls ++ ls)) (SCo (.tuple #[.int .i64 av, .int .i64 0])) (sCo_some _) (by kernel_rfl) (by kernel_rfl) (JCo.start _ _ _ _) ?_
      iterate 2 (refine wpG_read hDJ.out rfl rfl ?_; go_big_quiet_step (fail); refine wpQuiet_nil ?_)
      refine wpG_write rfl rfl (fun gs w' hJ hdep hno => ⟨.slice (some ⟨w'.heap.size, 0, none⟩) 2 2, w'.alloc (.cells #[(.slice la ln lc), (.slice la ln lc)] 54), ?_, ⟨_, rfl⟩, hJ.lit _⟩) (fun v2 hv2 => ?_)
      · clear hJ hdep hno hDJ hne y0 y1 y2 y3 y4
        go_simp
      simp only [Act.put, List.setIfInBounds_toArray, List.set_cons_succ, List.set_cons_zero]
      obtain ⟨g2, rfl⟩ : ∃ g : Nat, v2 = .slice (some ⟨g, 0, none⟩) 2 2 := hv2
      refine wpG_call 50 #[.slice (some ⟨g2, 0, none⟩) 2 2] rfl rfl (fun w' => by kernel_rfl) (fun gs w' hJ hdep hno => ?_) (fun v3 hv3 => ?_)
      · obtain ⟨g, T0, fr, e, hbl⟩ := hJ.2.1 _ (hdep 2 _ (.inr ⟨rfl, rfl⟩) (waitsB_spec (by kernel_rfl)))
        simp at e
        subst e
        refine (HCC.out g2 w' ⟨T0, fr, hbl⟩ hJ.1).mono ?_
        rintro e w2 ⟨u, rfl, hc, hb⟩
        obtain ⟨a, c, e7, -⟩ := hc.shape
        exact ⟨_, rfl, ⟨a, _, c, e7⟩, hJ.joined hb _ hc⟩
      simp only [Act.put, List.setIfInBounds_toArray, List.set_cons_succ, List.set_cons_zero]
      obtain ⟨a3, n3, c3, rfl⟩ : ∃ a n c, v3 = .slice a n c := hv3
      refine wpG_read hDJ.out rfl rfl ?_; go_big_quiet_step (fail); refine wpQuiet_nil ?_
      refine wpG_call 35 #[.slice a3 n3 c3, .agg #[.int .i64 (y 0), .int .i64 (y 1), .int .i64 (y 2), .int .i64 (y 3), .int .i64 (y 4)]] rfl rfl (fun w' => by kernel_rfl) (fun gs w' hJ hdep hno => ?_) (fun v5 hv5 => ?_)
      · obtain ⟨C, hC, hc⟩ := hJ.2.2 _ (hdep 3 _ (.inr ⟨rfl, rfl⟩) (waitsB_spec (by kernel_rfl)))
        refine (HA7.out C _ w' hc hC).mono ?_
        rintro e w2 ⟨rfl, hb⟩
        exact ⟨_, rfl, rfl, hJ.asked hb _⟩
      simp only [Act.put, List.setIfInBounds_toArray, List.set_cons_succ, List.set_cons_zero]
      obtain rfl : v5 = .tuple #[.int .i64 av, .int .i64 0] := hv5
      iterate 4 (refine wpG_read hDJ.out rfl rfl ?_; go_big_quiet_step (fail); refine wpQuiet_nil ?_)
      refine wpG_nil ?_
      intro w8 hJ8
      have b8 := hJ8.1
      clear hJ8 hne hDJ y0 y1 y2 y3 y4
      have B8 : Hid (Below W1.heap.size W1 w8 ∧ Below w.heap.size w w8) := ⟨Below.thenOf B6.out.1 b8 B6.out.1.size, Below.thenOf B6.out.2 b8 B6.out.2.size⟩
      clear b8 HCC HA7 HY B6 l1
    case' neg =>
      obtain ⟨w8, hw8⟩ : ∃ w8, w8 = w6 := ⟨_, rfl⟩
      subst hw8
      have B8 : Hid (Below W1.heap.size W1 w8 ∧ Below w.heap.size w w8) := B6.out
      have h3' : ¬ (ln : Int) ≤ 3 := by omega
      clear B6
    all_goals
      obtain ⟨k1, -⟩ := HK1.out w8 B8.out.1
      have l1 := lt_of_block k1
      obtain ⟨z0, z1, z2, z3, z4⟩ := five_at k1
      have HA9 : Hid _ := HAs.out B _ ms w8 (HL.out w8 B8.out.2).2.1 (HL.out w8 B8.out.2).2.2
      have HMv : Hid (∃ mv me cv ce, mv = askV ms y ∧ me = askE ms y ∧ cv = askV (ls ++ ms) y ∧ ce = askE (ls ++ ms) y) := ⟨_, _, _, _, rfl, rfl, rfl, rfl⟩
      obtain ⟨mv, me, cv, ce, hmv, hme, hcv, hcE⟩ := HMv.out
      have HE : Hid (mv = askV ms y ∧ me = askE ms y ∧ cv = askV (ls ++ ms) y ∧ ce = askE (ls ++ ms) y) := ⟨hmv, hme, hcv, hcE⟩
      rw [← hmv, ← hme] at HA9
      clear k1 hmv hme hcv hcE HMv HO2'
      go_wp2_with fail
      go_at_call 35
      refine Calls.mono HA9.out ?_
      rintro e w9 ⟨rfl, b89⟩
      have B9 : Hid (Below W1.heap.size W1 w9 ∧ Below w.heap.size w w9) := ⟨Below.thenOf B8.out.1 b89 B8.out.1.size, Below.thenOf B8.out.2 b89 B8.out.2.size⟩
      clear b89 B8 HA9 z0 z1 z2 z3 z4 l1
      have HCC : Hid (∀ g w', (∃ T0 fr, w'.heap[g]? = some (.cells #[.slice la ln lc, .slice ma mn mc] T0 fr)) → Below w9.heap.size w9 w' → Calls Tryz.prog 50 #[.slice (some ⟨g, 0, none⟩) 2 2] w' fun e w'' => ∃ v, e = .returned v ∧ ChsAt w''.heap.size w'' v (ls ++ ms) ∧ Below w'.heap.size w' w'') := by
        rintro g w' ⟨T0, fr, hg⟩ hb
        obtain ⟨c1, c2, c3⟩ := HL.out w' (Below.thenOf B9.out.2 hb B9.out.2.size)
        exact concatL_any B _ _ ls ms g w' c1 c2 c3 (lt_of_block hg) (heap_cell hg 0 rfl) (heap_cell hg 1 rfl) (by rw [HLN.out, HMN.out]; omega)
      have HA10 : Hid (∀ C cw w', ChsAt C w' cw (ls ++ ms) → C ≤ w'.heap.size → Calls Tryz.prog 35 #[cw, .agg #[.int .i64 (y 0), .int .i64 (y 1), .int .i64 (y 2), .int .i64 (y 3), .int .i64 (y 4)]] w' fun e w'' => e = .returned (.tuple #[.int .i64 cv, .int .i64 ce]) ∧ Below w'.heap.size w' w'') := fun C cw w' hc hC => by
        have := HAs.out C cw (ls ++ ms) w' hc hC
        rw [← HE.out.2.2.1, ← HE.out.2.2.2] at this
        exact this
      obtain ⟨k1, -⟩ := HK1.out w9 B9.out.1
      have l1 := lt_of_block k1
      obtain ⟨z0, z1, z2, z3, z4⟩ := five_at k1
      have HY : Hid (∀ z : Later w9, z.1.cell? ⟨w.heap.size, 0, none⟩ = some (.int .i64 (y 0)) ∧ z.1.cell? ⟨w.heap.size, 1, none⟩ = some (.int .i64 (y 1)) ∧ z.1.cell? ⟨w.heap.size, 2, none⟩ = some (.int .i64 (y 2)) ∧ z.1.cell? ⟨w.heap.size, 3, none⟩ = some (.int .i64 (y 3)) ∧ z.1.cell? ⟨w.heap.size, 4, none⟩ = some (.int .i64 (y 4))) := fun z => ⟨z.cell z0 l1, z.cell z1 l1, z.cell z2 l1, z.cell z3 l1, z.cell z4 l1⟩
      clear k1 z0 z1 z2 z3 z4
      have y0 : ∀ z : Later w9, z.1.cell? ⟨w.heap.size, 0, none⟩ = some (.int .i64 (y 0)) := fun z => (HY.out z).1
      have y1 : ∀ z : Later w9, z.1.cell? ⟨w.heap.size, 1, none⟩ = some (.int .i64 (y 1)) := fun z => (HY.out z).2.1
      have y2 : ∀ z : Later w9, z.1.cell? ⟨w.heap.size, 2, none⟩ = some (.int .i64 (y 2)) := fun z => (HY.out z).2.2.1
      have y3 : ∀ z : Later w9, z.1.cell? ⟨w.heap.size, 3, none⟩ = some (.int .i64 (y 3)) := fun z => (HY.out z).2.2.2.1
      have y4 : ∀ z : Later w9, z.1.cell? ⟨w.heap.size, 4, none⟩ = some (.int .i64 (y 4)) := fun z => (HY.out z).2.2.2.2
      go_wp2_with fail
      have hne := Later.ne w9
      have hDJ : Hid (∀ fs w', JCo w9 (.slice la ln lc) (.slice ma mn mc) (ls ++ ms) fs w' → ∃ z : Later w9, w' = z.1) := fun fs w' h => ⟨⟨w', h.1⟩, rfl⟩
      refine wp_region_free [_, _, _, _, _, _, _, _, _, _] _ rfl (fun k => k == 2 || k == 3 || k == 5) (JCo w9 (.slice la ln lc) (.slice ma mn mc) (ls ++ ms)) (SCo (.tuple #[.int .i64 cv, .int .i64 ce])) (sCo_some _) (by kernel_rfl) (by kernel_rfl) (JCo.start _ _ _ _) ?_
      iterate 2 (refine wpG_read hDJ.out rfl rfl ?_; go_big_quiet_step (fail); refine wpQuiet_nil ?_)
      refine wpG_write rfl rfl (fun gs w' hJ hdep hno => ⟨.slice (some ⟨w'.heap.size, 0, none⟩) 2 2, w'.alloc (.cells #[(.slice la ln lc), (.slice ma mn mc)] 54), ?_, ⟨_, rfl⟩, hJ.lit _⟩) (fun v2 hv2 => ?_)
      · clear hJ hdep hno hDJ hne y0 y1 y2 y3 y4
        go_simp
      simp only [Act.put, List.setIfInBounds_toArray, List.set_cons_succ, List.set_cons_zero]
      obtain ⟨g2, rfl⟩ : ∃ g : Nat, v2 = .slice (some ⟨g, 0, none⟩) 2 2 := hv2
      refine wpG_call 50 #[.slice (some ⟨g2, 0, none⟩) 2 2] rfl rfl (fun w' => by kernel_rfl) (fun gs w' hJ hdep hno => ?_) (fun v3 hv3 => ?_)
      · obtain ⟨g, T0, fr, e, hbl⟩ := hJ.2.1 _ (hdep 2 _ (.inr ⟨rfl, rfl⟩) (waitsB_spec (by kernel_rfl)))
        simp at e
        subst e
        refine (HCC.out g2 w' ⟨T0, fr, hbl⟩ hJ.1).mono ?_
        rintro e w2 ⟨u, rfl, hc, hb⟩
        obtain ⟨a, c, e7, -⟩ := hc.shape
        exact ⟨_, rfl, ⟨a, _, c, e7⟩, hJ.joined hb _ hc⟩
      simp only [Act.put, List.setIfInBounds_toArray, List.set_cons_succ, List.set_cons_zero]
      obtain ⟨a3, n3, c3, rfl⟩ : ∃ a n c, v3 = .slice a n c := hv3
      refine wpG_read hDJ.out rfl rfl ?_; go_big_quiet_step (fail); refine wpQuiet_nil ?_
      refine wpG_call 35 #[.slice a3 n3 c3, .agg #[.int .i64 (y 0), .int .i64 (y 1), .int .i64 (y 2), .int .i64 (y 3), .int .i64 (y 4)]] rfl rfl (fun w' => by kernel_rfl) (fun gs w' hJ hdep hno => ?_) (fun v5 hv5 => ?_)
      · obtain ⟨C, hC, hc⟩ := hJ.2.2 _ (hdep 3 _ (.inr ⟨rfl, rfl⟩) (waitsB_spec (by kernel_rfl)))
        refine (HA10.out C _ w' hc hC).mono ?_
        rintro e w2 ⟨rfl, hb⟩
        exact ⟨_, rfl, rfl, hJ.asked hb _⟩
      simp only [Act.put, List.setIfInBounds_toArray, List.set_cons_succ, List.set_cons_zero]
      obtain rfl : v5 = .tuple #[.int .i64 cv, .int .i64 ce] := hv5
      iterate 4 (refine wpG_read hDJ.out rfl rfl ?_; go_big_quiet_step (fail); refine wpQuiet_nil ?_)
      refine wpG_nil ?_
      intro w10 hJ10
      have b10 := hJ10.1
      clear hJ10 hne hDJ y0 y1 y2 y3 y4
      have B10 : Hid (Below w.heap.size w w10) := Below.thenOf B9.out.2 b10 B9.out.2.size
      clear b10 HCC HA10 HY B9 l1
      by_cases hm0 : me = 0
      · by_cases hc0 : ce = 0
        · have hfin : cv = min av mv := by
            rw [HE.out.2.2.1, HE.out.1]
            exact HO3'.out (by rw [← HE.out.2.1]; exact hm0) (by rw [← HE.out.2.2.2]; exact hc0)
          subst hm0 hc0
          have HFin : Hid (cv = min av mv) := hfin
          clear hfin HO3' HE
          go_wp2_with fail
          go_ret
          exact ⟨by simp [HFin.out], B10.out⟩
        · have hc0' : (ce != 0) = true := by simpa using hc0
          subst hm0
          clear HO3' HE
          go_wp2_with fail
          go_ret
          exact ⟨by simp [hc0], B10.out⟩
      · have hm0' : (me != 0) = true := by simpa using hm0
        clear HO3' HE
        go_wp2_with fail
        go_ret
        exact ⟨by simp [hm0], B10.out⟩
  · have h0' : (ae != 0) = true := by simpa using h0
    clear HO1 HO2 HO3 HO4 HAs
    go_wp2_with fail
    go_at_call 41
    refine Calls.mono (HT.out _ B2.out.2) ?_
    rintro e w3 ⟨rfl, b23⟩
    have Bw3 : Hid (Below w.heap.size w w3) := Below.thenOf B2.out.2 b23 B2.out.2.size
    clear b23
    go_wp2_with fail
    go_at_call 41
    refine Calls.mono (HT.out _ Bw3.out) ?_
    rintro e w4 ⟨rfl, b34⟩
    have Bw4 : Hid (Below w.heap.size w w4) := Below.thenOf Bw3.out b34 Bw3.out.size
    clear b34
    go_wp2_with fail
    go_ret
    exact ⟨rfl, Bw4.out⟩
end Go.Proofs.YtbjpdmfedphacabGreatDoor
