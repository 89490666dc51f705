/- Joined: Dsk9 DskA. -/
import Derived.Test.YtdfcfinjoghipacGreatDoorDj35
import Derived.Lib.ConvBytes
import Derived.Lib.UnsafeStr
section
/- The counterpart's Synced. -/
set_option linter.all false
set_option maxRecDepth 100000
namespace Go.Proofs.YtdfcfinjoghipacGreatDoor
open Go.RowKit Go.Maps

def syncE (d : DiskT) : Int := diskErr (d.1 ++ d.2, [])
def syncR (d : DiskT) : DiskT := if syncE d = 0 then (d.1 ++ d.2, []) else ([], [])
theorem diskAt_zero (B : Nat) (w : World) : DiskAt B w (.agg #[.slice none 0 0, .slice none 0 0]) ([], []) :=
  ⟨_, _, rfl, ⟨none, 0, rfl, Nat.le_refl _, Nat.zero_le _, fun i b hb => by simp at hb⟩, ⟨none, 0, rfl, Nat.le_refl _, Nat.zero_le _, fun i b hb => by simp at hb⟩⟩
theorem nilBytes (B : Nat) (w : World) : BytesAt B w (.slice none 0 0) [] := ⟨none, 0, rfl, Nat.le_refl _, Nat.zero_le _, fun i b hb => by simp at hb⟩
/-- A box of two slices, unfrozen. -/
theorem box_free {w : World} {k : Nat} {x y : Value} {T : TypeId} (h : w.heap[k]? = some (.cells #[x, y] T (0, 0))) : w.cell? ⟨k, 0, none⟩ = some x ∧ w.cell? ⟨k, 1, none⟩ = some y ∧ w.frozen? ⟨k, 0, none⟩ = false ∧ w.frozen? ⟨k, 1, none⟩ = false :=
  ⟨heap_cell h 0 rfl, heap_cell h 1 rfl, by simp [World.frozen?, h], by simp [World.frozen?, h]⟩
theorem box_put {w : World} {k : Nat} {x y u v : Value} {T : TypeId} (h : w.heap[k]? = some (.cells #[x, y] T (0, 0))) : ((w.setCell ⟨k, 0, none⟩ u).setCell ⟨k, 1, none⟩ v).heap[k]? = some (.cells #[u, v] T (0, 0)) ∧ KeepX k w ((w.setCell ⟨k, 0, none⟩ u).setCell ⟨k, 1, none⟩ v) ∧ ((w.setCell ⟨k, 0, none⟩ u).setCell ⟨k, 1, none⟩ v).heap.size = w.heap.size := by
  refine ⟨?_, fun g hg => (Below.heap_setCell _ _ _ _ hg).trans (Below.heap_setCell _ _ _ _ hg), by simp⟩
  rw [row_setCell (row_setCell h)]
  rfl

set_option maxHeartbeats 8000000 in
theorem synced_any (B : Nat) (v : Value) (d : DiskT) (w : World) (he : EnvT w) (hd : DiskAt B w v d) (hB : B ≤ w.heap.size) (h1 : d.1.length ≤ 60000) (h2 : d.2.length ≤ 60000) :
    Calls Tryz.prog 31 #[v] w fun e w' => ∃ dv, e = .returned (.tuple #[dv, .int .i64 (syncE d)]) ∧ DiskAt w'.heap.size w' dv (syncR d) ∧ Below w.heap.size w w' := by
  obtain ⟨sv, tv, rfl, hs, ht⟩ := hd
  obtain ⟨s, t⟩ := d
  simp only [] at hs ht h1 h2
  have HBt : Hid (∀ w', Below w.heap.size w w' → BytesAt B w' sv s ∧ BytesAt B w' tv t) := fun w' h => ⟨hs.later h hB, ht.later h hB⟩
  have HE : Hid (∀ w', Below w.heap.size w w' → EnvT w') := fun w' h => he.later h
  obtain ⟨a, c, e1, hac, hcm, -⟩ := hs
  obtain ⟨b, c2, e2, hbc, hcm2, -⟩ := ht
  subst e1 e2
  obtain ⟨R, hR⟩ : ∃ R, R = s ++ t := ⟨_, rfl⟩
  have HSE : Hid (syncE (s, t) = diskErr (R, []) ∧ syncR (s, t) = if diskErr (R, []) = 0 then (R, []) else ([], [])) := by unfold Hid syncR syncE; rw [hR]; exact ⟨rfl, rfl⟩
  obtain ⟨W1, hW1⟩ : ∃ W1, W1 = ((w.alloc (.cells #[.slice a s.length c, .slice b t.length c2] 48)).alloc (.cells #[.slice none 0 0, .slice none 0 0] 48)).alloc (.cells #[.slice a s.length c, .slice b t.length c2] 46) := ⟨_, rfl⟩
  have hb1 : Below w.heap.size w W1 := by rw [hW1]; exact (((Below.refl _ _).alloc (Nat.le_refl _) _).alloc (by simp) _).alloc (by simp; omega) _
  have hs1 : W1.heap.size = w.heap.size + 1 + 1 + 1 := by rw [hW1]; simp
  have hR0 : W1.heap[w.heap.size]? = some (.cells #[.slice a s.length c, .slice b t.length c2] 48 (0, 0)) := by rw [hW1, Below.heap_alloc _ _ _ (by simp; omega), Below.heap_alloc _ _ _ (by simp)]; exact heap_made _ _
  have hR1 : W1.heap[w.heap.size + 1]? = some (.cells #[.slice none 0 0, .slice none 0 0] 48 (0, 0)) := by
    have := heap_made (w.alloc (.cells #[.slice a s.length c, .slice b t.length c2] 48)) (.cells #[.slice none 0 0, .slice none 0 0] 48)
    rw [World.size_alloc] at this
    rw [hW1, Below.heap_alloc _ _ _ (by simp)]
    exact this
  have hR2 : W1.heap[w.heap.size + 1 + 1]? = some (.cells #[.slice a s.length c, .slice b t.length c2] 46 (0, 0)) := by
    have := heap_made ((w.alloc (.cells #[.slice a s.length c, .slice b t.length c2] 48)).alloc (.cells #[.slice none 0 0, .slice none 0 0] 48)) (.cells #[.slice a s.length c, .slice b t.length c2] 46)
    rw [World.size_alloc, World.size_alloc] at this
    rw [hW1]
    exact this
  have HCB : Hid (Calls Tryz.prog 78 #[.slice (some ⟨w.heap.size + 1 + 1, 0, none⟩) 2 2] W1 fun e w'' => ∃ v, e = .returned v ∧ BytesAt w''.heap.size w'' v R ∧ Below W1.heap.size W1 w'') := by
    obtain ⟨b0, b1⟩ := HBt.out W1 hb1
    refine (concatB_any B _ _ s t _ W1 b0 b1 (by omega) (by omega) (heap_cell hR2 0 rfl) (heap_cell hR2 1 rfl) (by omega)).mono ?_
    rintro e w'' ⟨v, rfl, ho, hb'⟩
    exact ⟨v, rfl, by rw [hR]; exact bytesAt_own ho, hb'⟩
  have HW1 : Hid (W1 = _) := hW1
  have HR0 : Hid _ := hR0
  have HR1 : Hid _ := hR1
  have HB1 : Hid _ := hb1
  obtain ⟨sn, hsn⟩ : ∃ n, n = s.length := ⟨_, rfl⟩
  obtain ⟨tn, htn⟩ : ∃ n, n = t.length := ⟨_, rfl⟩
  rw [← hsn] at HW1 HR0 h1 ⊢
  rw [← htn] at HW1 HR0 h2 ⊢
  clear hsn htn hR hW1 hR0 hR1 hR2 hb1 HBt hac hbc hcm hcm2 he
  go_enter Tryz.func31, Tryz.ntmps31
  go_wp2_with fail
  rw [← HW1.out]
  refine Calls.mono HCB.out ?_
  rintro e w1 ⟨cv, rfl, hcv, hb1⟩
  have hq0 : w1.heap[w.heap.size]? = some (.cells #[.slice a sn c, .slice b tn c2] 48 (0, 0)) := (hb1.block _ (by omega)).trans HR0.out
  have hq1 : w1.heap[w.heap.size + 1]? = some (.cells #[.slice none 0 0, .slice none 0 0] 48 (0, 0)) := (hb1.block _ (by omega)).trans HR1.out
  have hsz := hb1.size
  have hbw1 : Below w.heap.size w w1 := Below.thenOf HB1.out hb1 HB1.out.size
  obtain ⟨ca, cc, ec, -, -, -⟩ := id hcv
  obtain ⟨rn, hrn⟩ : ∃ rn, rn = R.length := ⟨_, rfl⟩
  rw [← hrn] at ec
  subst ec
  clear hrn
  obtain ⟨y0, y1, f0, f1⟩ := box_free hq0
  obtain ⟨k0, k1, k2⟩ := box_put (u := .slice ca rn cc) (v := .slice none 0 0) hq0
  obtain ⟨W2, hW2⟩ : ∃ W2, W2 = (w1.setCell ⟨w.heap.size, 0, none⟩ (.slice ca rn cc)).setCell ⟨w.heap.size, 1, none⟩ (.slice none 0 0) := ⟨_, rfl⟩
  have hbw2 : Below w.heap.size w W2 := by rw [hW2]; exact (hbw1.setCell (p := ⟨w.heap.size, 0, none⟩) (Nat.le_refl _) _).setCell (p := ⟨w.heap.size, 1, none⟩) (Nat.le_refl _) _
  rw [← hW2] at k0 k1 k2
  have hcv2 : BytesAt W2.heap.size W2 (.slice ca rn cc) R := by rw [k2]; exact hcv.box k1 (NoInts.of hq0)
  have hbo2 : W2.heap[w.heap.size + 1]? = some (.cells #[.slice none 0 0, .slice none 0 0] 48 (0, 0)) := (k1 _ (by omega)).trans hq1
  have HCk : Hid _ := checkDisk_any W2.heap.size (.agg #[.slice ca rn cc, .slice none 0 0]) (R, []) W2 (HE.out W2 hbw2) ⟨_, _, rfl, hcv2, nilBytes _ _⟩ (Nat.le_refl _)
  have HW2 : Hid (W2 = _) := hW2
  have Hk0 : Hid _ := k0
  have Hcv2 : Hid (BytesAt W2.heap.size W2 (.slice ca rn cc) R) := hcv2
  have Hbo2 : Hid _ := hbo2
  have Hbw2 : Hid _ := hbw2
  generalize diskErr (R, []) = de at *
  have hs2 : w.heap.size + 1 < W2.heap.size := by omega
  clear hcv hb1 hq0 hq1 hbw1 k0 k1 k2 hW2 hbw2 hcv2 hbo2 HW1 HR0 HR1 HB1 HCB HE
  go_wp2_with fail
  rw [← HW2.out]
  refine Calls.mono HCk.out ?_
  rintro e w3 ⟨rfl, hb3⟩
  have g0 : w3.heap[w.heap.size]? = some (.cells #[.slice ca rn cc, .slice none 0 0] 48 (0, 0)) := (hb3.block _ (by omega)).trans Hk0.out
  have g1 : w3.heap[w.heap.size + 1]? = some (.cells #[.slice none 0 0, .slice none 0 0] 48 (0, 0)) := (hb3.block _ hs2).trans Hbo2.out
  have hbw3 : Below w.heap.size w w3 := Below.thenOf Hbw2.out hb3 Hbw2.out.size
  have hcv3 : BytesAt w3.heap.size w3 (.slice ca rn cc) R := (Hcv2.out.later hb3 (Nat.le_refl _)).wide hb3.size
  obtain ⟨z0, z1, -, -⟩ := box_free g0
  obtain ⟨x0, x1, xf0, xf1⟩ := box_free g1
  have Hbw3 : Hid _ := hbw3
  by_cases h0 : de = 0
  · subst h0
    obtain ⟨k0, k1, k2⟩ := box_put (u := .slice ca rn cc) (v := .slice none 0 0) g1
    have HF : Hid (DiskAt ((w3.setCell ⟨w.heap.size + 1, 0, none⟩ (.slice ca rn cc)).setCell ⟨w.heap.size + 1, 1, none⟩ (.slice none 0 0)).heap.size ((w3.setCell ⟨w.heap.size + 1, 0, none⟩ (.slice ca rn cc)).setCell ⟨w.heap.size + 1, 1, none⟩ (.slice none 0 0)) (.agg #[.slice ca rn cc, .slice none 0 0]) (syncR (s, t))) := by
      unfold Hid
      rw [HSE.out.2, if_pos rfl, k2]
      exact ⟨_, _, rfl, hcv3.box k1 (NoInts.of g1), nilBytes _ _⟩
    have HS0 : Hid (syncE (s, t) = 0) := HSE.out.1
    clear k0 k1 k2 g0 g1 hbw3 hb3 hcv3 HSE Hk0 Hcv2 Hbo2 Hbw2 HCk HW2
    go_wp2_with fail
    refine bodyPost_ret (v := .tuple #[.agg #[.slice ca rn cc, .slice none 0 0], .int .i64 0]) ?_ rfl ⟨_, by rw [HS0.out], HF.out, ?_⟩
    · rw [results_cell_tmp rfl]
      go_simp
    · exact (Hbw3.out.setCell (p := ⟨w.heap.size + 1, 0, none⟩) (by show w.heap.size ≤ w.heap.size + 1; omega) _).setCell (p := ⟨w.heap.size + 1, 1, none⟩) (by show w.heap.size ≤ w.heap.size + 1; omega) _
  · have HS0 : Hid (syncE (s, t) = de ∧ syncR (s, t) = ([], [])) := ⟨HSE.out.1, by rw [HSE.out.2, if_neg h0]⟩
    have hq : (de != 0) = true := by simpa using h0
    clear g0 g1 hbw3 hb3 hcv3 HSE Hk0 Hcv2 Hbo2 Hbw2 HCk HW2 h0
    go_wp2_with fail
    refine bodyPost_ret (v := .tuple #[.agg #[.slice none 0 0, .slice none 0 0], .int .i64 de]) ?_ rfl ⟨_, by rw [HS0.out.1], by rw [HS0.out.2]; exact diskAt_zero _ _, ?_⟩
    · rw [results_cell_tmp rfl]
      go_simp
    · exact (Hbw3.out.setCell (p := ⟨w.heap.size + 1, 0, none⟩) (by show w.heap.size ≤ w.heap.size + 1; omega) _).setCell (p := ⟨w.heap.size + 1, 1, none⟩) (by show w.heap.size ≤ w.heap.size + 1; omega) _
end Go.Proofs.YtdfcfinjoghipacGreatDoor
end
section
/- Bytes of a string; what stands in the region of the counterpart's PutOn. -/
set_option linter.all false
set_option maxRecDepth 100000
namespace Go.Proofs.YtdfcfinjoghipacGreatDoor
open Go.RowKit Go.Maps

theorem itoa_few {n : Int} (h : 0 ≤ n ∧ n ≤ 3) : (Lib.itoa n).length ≤ 4 := by
  unfold Lib.itoa
  rw [if_neg (by omega)]
  have := decDigits_len n.toNat
  omega
theorem kN_len (k : Nat) : (kN.getD k []).length ≤ 5 := by
  match k with
  | 0 => decide
  | 1 => decide
  | 2 => decide
  | 3 => decide
  | k + 4 => simp [kN]
theorem printT_len (r : RecT) : (printT r).length ≤ 100000000 := by
  unfold printT
  split
  · rename_i h
    unfold recErr at h
    split at h
    · cases h
    · split at h
      · cases h
      · rename_i h2
        split at h
        · cases h
        · have i1 := itoa_few (n := r.2.1) (by omega)
          have i2 := itoa_few (n := r.2.2.1) (by omega)
          have i3 := kN_len (r.1 - 1).toNat
          unfold recText
          split at h
          · have hp := polErr_all h
            have l1 := rulesText_len r.2.2.2.1 hp.2.2
            have l2 := vName_len r.2.2.2.2
            have l3 : (polText r.2.2.2).length ≤ 96000005 := by unfold polText; rw [List.length_append]; omega
            rw [if_neg (by omega), if_neg (by omega)]
            simp only [List.length_append, List.length_cons]
            omega
          · split
            · simp only [List.length_append, List.length_cons]
              omega
            · rw [if_pos (by omega)]
              simp only [List.length_append, List.length_cons, List.length_nil]
              omega
  · exact Nat.zero_le _
def putE (d : DiskT) (r : RecT) : Int := if recErr r = 0 then (if 60000 < d.1.length + d.2.length + (printT r).length + 1 then 2 else 0) else recErr r
def putR (d : DiskT) (r : RecT) : DiskT := if putE d r = 0 then (d.1, d.2 ++ (printT r ++ [10])) else ([], [])

/-- []byte(string). -/
theorem conv_bytes (s : ByteArray) (w : World) (hs : s.size ≤ 140737488355328) : ∃ cap w', (convert 9 46 (.string s)).run Tryz.prog w = .ok (.slice (some ⟨w.heap.size, 0, none⟩) s.size cap) w' ∧ BytesAt w'.heap.size w' (.slice (some ⟨w.heap.size, 0, none⟩) s.size cap) s.data.toList ∧ Below w.heap.size w w' := by
  refine ⟨_, _, Lib.run_convert_string_bytes w 9 46 5 s Tryz.underlying9 Tryz.underlying46 Tryz.underlying5, ?_, ?_⟩
  · refine ⟨some ⟨w.heap.size, 0, none⟩, _, by rw [← Lib.size_eq], ?_, ?_, fun i b hb => ?_⟩
    · rw [← Lib.size_eq]; exact grownCap_ge w _ _ _
    · exact grownCap_le_maxLen w _ 0 _ (by rw [maxLen_eq]; omega)
    · refine ⟨w.heap.size, 0, rfl, by rw [Lib.bytesWorld_size]; omega, ?_⟩
      have hi : i < s.size := by rw [Lib.size_eq]; exact (List.getElem?_eq_some_iff.1 hb).1
      rw [Nat.zero_add, Lib.bytesWorld_cell w _ s i hi]
      simp [List.getD, hb]
  · unfold Lib.bytesWorld
    exact Lib.below_freeze ((Below.refl _ _).drew.alloc (Nat.le_refl _) _) (p := ⟨w.heap.size, _, none⟩) (Nat.le_refl _) _
/-- What stands in the region ahead of the store. -/
structure APu (W : World) (tv : Value) (X R : Bs) (fs : Nat → Value → Prop) (w : World) : Prop where
  below : Below W.heap.size W w
  row6 : ∀ u, fs 6 u → BytesAt w.heap.size w u X
  lit7 : ∀ u, fs 7 u → ∃ v, BytesAt w.heap.size w v X ∧ Lit2 w u tv v
  row8 : ∀ u, fs 8 u → BytesAt w.heap.size w u R
theorem APu.later {W w w' : World} {tv : Value} {X R : Bs} {fs : Nat → Value → Prop} (h : APu W tv X R fs w) (hb : Below w.heap.size w w') : APu W tv X R fs w' :=
  ⟨Below.thenOf h.below hb h.below.size, fun u hu => ((h.row6 u hu).later hb (Nat.le_refl _)).wide hb.size, fun u hu => by
    obtain ⟨v, h1, h2⟩ := h.lit7 u hu
    exact ⟨v, (h1.later hb (Nat.le_refl _)).wide hb.size, h2.later hb⟩, fun u hu => ((h.row8 u hu).later hb (Nat.le_refl _)).wide hb.size⟩
theorem APu.put6 {W w : World} {tv : Value} {X R : Bs} {fs : Nat → Value → Prop} (h : APu W tv X R fs w) (v : Value) (hv : BytesAt w.heap.size w v X) : APu W tv X R (addF fs 6 v) w :=
  ⟨h.below, fun u hu => by
    rcases hu with hu | ⟨_, rfl⟩
    · exact h.row6 u hu
    · exact hv, fun u hu => h.lit7 u (addF_ne hu (by decide)), fun u hu => h.row8 u (addF_ne hu (by decide))⟩
theorem APu.put7 {W w : World} {tv : Value} {X R : Bs} {fs : Nat → Value → Prop} (h : APu W tv X R fs w) (v u6 : Value) (h6 : fs 6 u6) (hv : Lit2 w v tv u6) : APu W tv X R (addF fs 7 v) w :=
  ⟨h.below, fun u hu => h.row6 u (addF_ne hu (by decide)), fun u hu => by
    rcases hu with hu | ⟨_, rfl⟩
    · exact h.lit7 u hu
    · exact ⟨u6, h.row6 u6 h6, hv⟩, fun u hu => h.row8 u (addF_ne hu (by decide))⟩
theorem APu.put8 {W w : World} {tv : Value} {X R : Bs} {fs : Nat → Value → Prop} (h : APu W tv X R fs w) (v : Value) (hv : BytesAt w.heap.size w v R) : APu W tv X R (addF fs 8 v) w :=
  ⟨h.below, fun u hu => h.row6 u (addF_ne hu (by decide)), fun u hu => h.lit7 u (addF_ne hu (by decide)), fun u hu => by
    rcases hu with hu | ⟨_, rfl⟩
    · exact h.row8 u hu
    · exact hv⟩
def JPu (bo : Nat) (W : World) (sv tv : Value) (X R : Bs) (fs : Nat → Value → Prop) (w : World) : Prop :=
  ((∀ u, ¬ fs 10 u) ∧ APu W tv X R fs w) ∨ ((∃ u, fs 10 u) ∧ (∃ u, fs 6 u) ∧ (∃ u, fs 7 u) ∧ (∃ u, fs 8 u) ∧ ∃ w0 u8, w = (w0.setCell ⟨bo, 0, none⟩ sv).setCell ⟨bo, 1, none⟩ u8 ∧ BytesAt w0.heap.size w0 u8 R ∧ Below W.heap.size W w0)
theorem JPu.start (bo : Nat) (W : World) (sv tv : Value) (X R : Bs) : JPu bo W sv tv X R (fun _ _ => False) W.drew :=
  .inl ⟨fun _ h => h, (Below.refl _ _).drew, fun _ h => h.elim, fun _ h => h.elim, fun _ h => h.elim⟩
theorem JPu.ahead {bo : Nat} {W w : World} {sv tv : Value} {X R : Bs} {fs : Nat → Value → Prop} (h : JPu bo W sv tv X R fs w) {k : Nat} (hk : k = 6 ∨ k = 7 ∨ k = 8 ∨ k = 10) (hno : ∀ v, ¬ fs k v) : (∀ u, ¬ fs 10 u) ∧ APu W tv X R fs w := by
  rcases h with h | ⟨⟨a, ha⟩, ⟨b, hb⟩, ⟨c, hc⟩, ⟨d, hd⟩, _⟩
  · exact h
  · rcases hk with rfl | rfl | rfl | rfl
    · exact absurd hb (hno _)
    · exact absurd hc (hno _)
    · exact absurd hd (hno _)
    · exact absurd ha (hno _)
theorem JPu.of {bo : Nat} {W w : World} {sv tv : Value} {X R : Bs} {fs : Nat → Value → Prop} {k : Nat} {v : Value} (h10 : ∀ u, ¬ fs 10 u) (hk : k ≠ 10) (h : APu W tv X R (addF fs k v) w) : JPu bo W sv tv X R (addF fs k v) w :=
  .inl ⟨fun u hu => h10 u (addF_ne hu (Ne.symm hk)), h⟩
theorem JPu.stored {bo : Nat} {W w : World} {sv tv : Value} {X R : Bs} {fs : Nat → Value → Prop} {u6 u7 u8 : Value} (h : JPu bo W sv tv X R fs w) (hno : ∀ v, ¬ fs 10 v) (h6 : fs 6 u6) (h7 : fs 7 u7) (h8 : fs 8 u8) : Below W.heap.size W w ∧ JPu bo W sv tv X R (addF fs 10 undef) ((w.setCell ⟨bo, 0, none⟩ sv).setCell ⟨bo, 1, none⟩ u8) := by
  obtain ⟨_, h⟩ := h.ahead (.inr (.inr (.inr rfl))) hno
  exact ⟨h.below, .inr ⟨⟨_, .inr ⟨rfl, rfl⟩⟩, ⟨_, .inl h6⟩, ⟨_, .inl h7⟩, ⟨_, .inl h8⟩, w, u8, rfl, h.row8 u8 h8, h.below⟩⟩
theorem JPu.done {B bo : Nat} {W w : World} {sv tv : Value} {X R s : Bs} {fs : Nat → Value → Prop} {u10 : Value} (h : JPu bo W sv tv X R fs w) (h10 : fs 10 u10) {a b : Option Addr} {n c m d : Nat} {T : TypeId} (hbo : W.heap[bo]? = some (.cells #[.slice a n c, .slice b m d] T (0, 0))) (hs : BytesAt B W sv s) (hB : B ≤ W.heap.size) : ∃ u8, w.heap[bo]? = some (.cells #[sv, u8] T (0, 0)) ∧ DiskAt w.heap.size w (.agg #[sv, u8]) (s, R) ∧ ∀ L, L ≤ bo → L ≤ W.heap.size → Below L W w := by
  rcases h with ⟨h, _⟩ | ⟨_, _, _, _, w0, u8, rfl, hu, hA⟩
  · exact absurd h10 (h _)
  · have hb0 : w0.heap[bo]? = some (.cells #[.slice a n c, .slice b m d] T (0, 0)) := (hA.block bo (lt_of_block hbo)).trans hbo
    obtain ⟨k0, k1, k2⟩ := box_put (u := sv) (v := u8) hb0
    have hn : NoInts w0 bo := NoInts.of hb0
    refine ⟨u8, k0, ?_, fun L h1 h2 => ((hA.mono h2).setCell (p := ⟨bo, 0, none⟩) h1 _).setCell (p := ⟨bo, 1, none⟩) h1 _⟩
    rw [k2]
    exact ⟨_, _, rfl, ((hs.later hA hB).wide (Nat.le_trans hB hA.size)).box k1 hn, hu.box k1 hn⟩
theorem JPu.cells {bo bd : Nat} {W w : World} {sv tv : Value} {X R : Bs} {fs : Nat → Value → Prop} (h : JPu bo W sv tv X R fs w) {x0 x1 : Value} {T : TypeId} {fr : Nat × Nat} (hbd : W.heap[bd]? = some (.cells #[x0, x1] T fr)) (hne : bd ≠ bo) : w.heap[bd]? = some (.cells #[x0, x1] T fr) := by
  rcases h with ⟨_, h⟩ | ⟨_, _, _, _, w0, u8, rfl, hu, hA⟩
  · exact (h.below.block bd (lt_of_block hbd)).trans hbd
  · exact ((Below.heap_setCell _ _ _ _ hne).trans (Below.heap_setCell _ _ _ _ hne)).trans ((hA.block bd (lt_of_block hbd)).trans hbd)
end Go.Proofs.YtdfcfinjoghipacGreatDoor
end
