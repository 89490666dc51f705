/- Joined: DskB DkP DkA. -/
import Derived.Test.YtdfcfinjoghipacGreatDoorDj36
import Derived.Test.YtdfcfinjoghipacGreatDoorDj28
import Derived.Test.YtdfcfinjoghipacGreatDoorDj33
import Derived.Shelf.Bytes.SlIndexAt
import Derived.Lib.SlBuf
import Derived.Laws.CopyRow
import Derived.Laws.MakeOwn
section
/- The counterpart's PutOn. -/
set_option linter.all false
set_option maxRecDepth 100000
namespace Go.Proofs.YtdfcfinjoghipacGreatDoor
open Go.RowKit Go.Maps

def SPu (n q : Nat) (k : Nat) (v : Value) : Prop := if k = 6 then ∃ a c, v = .slice a n c else if k = 7 then ∃ g : Nat, v = .slice (some ⟨g, 0, none⟩) 2 2 else if k = 8 then ∃ a c, v = .slice a q c else True
theorem sPu_some (n q : Nat) (k : Nat) : ∃ v, SPu n q k v := by
  unfold SPu
  split
  · exact ⟨_, none, 0, rfl⟩
  · split
    · exact ⟨_, 0, rfl⟩
    · split
      · exact ⟨_, none, 0, rfl⟩
      · exact ⟨undef, trivial⟩
theorem putNum {sn tn pn : Nat} (h1 : sn ≤ 60000) (h2 : tn ≤ 60000) (h3 : pn ≤ 100000000) : IntKind.i64.wrap ((sn : Int) + (tn : Int)) = (sn : Int) + (tn : Int) ∧ IntKind.i64.wrap ((sn : Int) + (tn : Int) + (pn : Int)) = (sn : Int) + (tn : Int) + (pn : Int) ∧ IntKind.i64.wrap ((sn : Int) + (tn : Int) + (pn : Int) + 1) = (sn : Int) + (tn : Int) + (pn : Int) + 1 :=
  ⟨IntWalk.i64_in _ (by omega), IntWalk.i64_in _ (by omega), IntWalk.i64_in _ (by omega)⟩
theorem bsB_add (p : Bs) : bsB p ++ ⟨#[10]⟩ = bsB (p ++ [10]) := by
  unfold bsB
  apply ByteArray.ext
  simp [ByteArray.data_append]

set_option maxHeartbeats 16000000 in
theorem putOn_any (B : Nat) (v rv : Value) (d : DiskT) (r : RecT) (w : World) (he : EnvT w) (hsp : Lib.TabIs Tryz.prog w "strings.asciiSpace" .u8 Lib.asciiSpaceTab) (hd : DiskAt B w v d) (hr : RecAt B w rv r) (hB : B ≤ w.heap.size) (h1 : d.1.length ≤ 60000) (h2 : d.2.length ≤ 60000) :
    Calls Tryz.prog 30 #[v, rv] w fun e w' => ∃ dv, e = .returned (.tuple #[dv, .int .i64 (putE d r)]) ∧ DiskAt w'.heap.size w' dv (putR d r) ∧ Below w.heap.size w w' := by
  obtain ⟨sv, tv, rfl, hs, ht⟩ := hd
  obtain ⟨s, t⟩ := d
  simp only [] at hs ht h1 h2
  have HBt : Hid (∀ w', Below w.heap.size w w' → BytesAt B w' sv s ∧ BytesAt B w' tv t) := fun w' h => ⟨hs.later h hB, ht.later h hB⟩
  have HTx : Hid (∀ w', Below w.heap.size w w' → Calls Tryz.prog 15 #[rv] w' fun e w'' => e = .returned (.tuple #[.string (bsB (printT r)), .int .i64 (recErr r)]) ∧ Below w'.heap.size w' w'') := fun w' h => recText_any B rv r w' (he.later h) (tab_later hsp h) (hr.later h hB) (Nat.le_trans hB h.size)
  obtain ⟨P, hP⟩ : ∃ P, P = printT r := ⟨_, rfl⟩
  obtain ⟨E, hE⟩ : ∃ E, E = recErr r := ⟨_, rfl⟩
  have hpl : P.length ≤ 100000000 := by rw [hP]; exact printT_len r
  have HPE : Hid (putE (s, t) r = if E = 0 then (if 60000 < s.length + t.length + P.length + 1 then 2 else 0) else E) := by unfold Hid putE; rw [hP, hE]
  have HPR : Hid (putR (s, t) r = if putE (s, t) r = 0 then (s, t ++ (P ++ [10])) else ([], [])) := by unfold Hid putR; rw [hP]
  rw [← hP, ← hE] at HTx
  obtain ⟨a, c, e1, -, -, -⟩ := id hs
  obtain ⟨b, c2, e2, -, -, -⟩ := id ht
  subst e1 e2
  obtain ⟨ra, rc, e3, -⟩ := hr.shape
  subst e3
  obtain ⟨pe, hpe⟩ : ∃ x, x = putE (s, t) r := ⟨_, rfl⟩
  obtain ⟨pr, hpr⟩ : ∃ x, x = putR (s, t) r := ⟨_, rfl⟩
  rw [← hpe] at HPE HPR ⊢
  rw [← hpr] at HPR ⊢
  clear hpe hpr hP hE hs ht hr he hsp
  obtain ⟨k1, k2, k3, rs, k4⟩ := r
  simp only [] at HTx ⊢
  obtain ⟨rn, hrn⟩ : ∃ n, n = rs.length := ⟨_, rfl⟩
  obtain ⟨sn, hsn⟩ : ∃ n, n = s.length := ⟨_, rfl⟩
  obtain ⟨tn, htn⟩ : ∃ n, n = t.length := ⟨_, rfl⟩
  obtain ⟨pn, hpn⟩ : ∃ n, n = P.length := ⟨_, rfl⟩
  have HN : Hid (t.length = tn ∧ P.length = pn) := ⟨htn.symm, hpn.symm⟩
  rw [← hrn] at HTx ⊢
  rw [← hsn] at HBt HPE h1 ⊢
  rw [← htn] at HBt HPE h2 ⊢
  rw [← hpn] at HPE hpl
  clear hrn hsn htn hpn
  obtain ⟨n1, n2, n3'⟩ := putNum h1 h2 hpl
  obtain ⟨z, hz⟩ : ∃ z : Int, z = (sn : Int) + (tn : Int) + (pn : Int) + 1 := ⟨_, rfl⟩
  have n3 : IntKind.i64.wrap ((sn : Int) + (tn : Int) + (pn : Int) + 1) = z := n3'.trans hz.symm
  have Hz : Hid (z = (sn : Int) + (tn : Int) + (pn : Int) + 1) := hz
  clear hz n3'
  obtain ⟨W1, hW1⟩ : ∃ W1, W1 = ((w.alloc (.cells #[.slice a sn c, .slice b tn c2] 48)).alloc (.cells #[.int .i64 k1, .int .i64 k2, .int .i64 k3, .slice ra rn rc, .int .i64 k4] 38)).alloc (.cells #[.slice none 0 0, .slice none 0 0] 48) := ⟨_, rfl⟩
  have hb1 : Below w.heap.size w W1 := by rw [hW1]; exact (((Below.refl _ _).alloc (Nat.le_refl _) _).alloc (by simp) _).alloc (by simp; omega) _
  have hs1 : W1.heap.size = w.heap.size + 1 + 1 + 1 := by rw [hW1]; simp
  have hR0 : W1.heap[w.heap.size]? = some (.cells #[.slice a sn c, .slice b tn c2] 48 (0, 0)) := by rw [hW1, Below.heap_alloc _ _ _ (by simp; omega), Below.heap_alloc _ _ _ (by simp)]; exact heap_made _ _
  have hR2 : W1.heap[w.heap.size + 1 + 1]? = some (.cells #[.slice none 0 0, .slice none 0 0] 48 (0, 0)) := by
    have := heap_made ((w.alloc (.cells #[.slice a sn c, .slice b tn c2] 48)).alloc (.cells #[.int .i64 k1, .int .i64 k2, .int .i64 k3, .slice ra rn rc, .int .i64 k4] 38)) (.cells #[.slice none 0 0, .slice none 0 0] 48)
    rw [World.size_alloc, World.size_alloc] at this
    rw [hW1]
    exact this
  have HT1 : Hid _ := HTx.out W1 hb1
  have HW1 : Hid (W1 = _) := hW1
  have HR0 : Hid _ := hR0
  have HR2 : Hid _ := hR2
  have HB1 : Hid (Below w.heap.size w W1) := hb1
  obtain ⟨PS, hPS⟩ : ∃ PS, PS = bsB P := ⟨_, rfl⟩
  have HPS : Hid (PS.size = pn ∧ PS ++ ⟨#[10]⟩ = bsB (P ++ [10])) := by unfold Hid; rw [hPS]; exact ⟨by rw [← HN.out.2]; simp [bsB, ByteArray.size], bsB_add P⟩
  rw [← hPS] at HT1
  clear hPS hW1 hR0 hR2 hb1 HTx
  go_enter Tryz.func30, Tryz.ntmps30
  go_wp2_with fail
  rw [← HW1.out]
  refine Calls.mono HT1.out ?_
  rintro e w1 ⟨rfl, hb1⟩
  have g0 : w1.heap[w.heap.size]? = some (.cells #[.slice a sn c, .slice b tn c2] 48 (0, 0)) := (hb1.block _ (by omega)).trans HR0.out
  have g2 : w1.heap[w.heap.size + 1 + 1]? = some (.cells #[.slice none 0 0, .slice none 0 0] 48 (0, 0)) := (hb1.block _ (by omega)).trans HR2.out
  have hbw1 : Below w.heap.size w w1 := Below.thenOf HB1.out hb1 HB1.out.size
  have hsz1 : w.heap.size + 1 + 1 < w1.heap.size := by have := hb1.size; omega
  obtain ⟨y0, y1, -, -⟩ := box_free g0
  obtain ⟨x0, x1, xf0, xf1⟩ := box_free g2
  have Hbw1 : Hid (Below w.heap.size w w1) := hbw1
  have Hg0 : Hid _ := g0
  have Hg2 : Hid _ := g2
  clear hb1 g0 g2 hbw1 HT1 HW1 HR0 HR2 HB1
  have hps : PS.size = pn := HPS.out.1
  by_cases hE : E = 0
  · subst hE
    by_cases hbig : 60000 < sn + tn + pn + 1
    · have HS0 : Hid (pe = 2 ∧ pr = ([], [])) := by
        have e : pe = 2 := by rw [HPE.out, if_pos rfl, if_pos hbig]
        exact ⟨e, by rw [HPR.out, if_neg (by rw [e]; decide)]⟩
      have hq : (60000 : Int) < z := by have := Hz.out; omega
      clear HPE HPR HPS HBt
      go_wp2_with fail
      refine bodyPost_ret (v := .tuple #[.agg #[.slice none 0 0, .slice none 0 0], .int .i64 2]) ?_ rfl ⟨_, by rw [HS0.out.1], by rw [HS0.out.2]; exact diskAt_zero _ _, ?_⟩
      · rw [results_cell_tmp rfl]
        go_simp
      · exact (Hbw1.out.setCell (p := ⟨w.heap.size + 1 + 1, 0, none⟩) (by show w.heap.size ≤ w.heap.size + 1 + 1; omega) _).setCell (p := ⟨w.heap.size + 1 + 1, 1, none⟩) (by show w.heap.size ≤ w.heap.size + 1 + 1; omega) _
    · have hq : ¬ ((60000 : Int) < z) := by have := Hz.out; omega
      have HS0 : Hid (pe = 0 ∧ pr = (s, t ++ (P ++ [10]))) := by
        have e : pe = 0 := by rw [HPE.out, if_pos rfl, if_neg hbig]
        exact ⟨e, by rw [HPR.out, if_pos e]⟩
      clear HPE HPR hbig
      go_wp2_with fail
      have HXS : Hid (PS ++ ⟨#[10]⟩ = bsB (P ++ [10])) := HPS.out.2
      obtain ⟨X, hX⟩ : ∃ X, X = P ++ [10] := ⟨_, rfl⟩
      obtain ⟨XS, hXS⟩ : ∃ XS, XS = PS ++ (⟨#[10]⟩ : ByteArray) := ⟨_, rfl⟩
      obtain ⟨R, hR⟩ : ∃ R, R = t ++ X := ⟨_, rfl⟩
      have HX : Hid (XS.data.toList = X ∧ XS.size = pn + 1) := by
        unfold Hid
        rw [hXS, HXS.out, hX]
        exact ⟨by simp [bsB], by simp [bsB, ByteArray.size, HN.out.2]⟩
      have HRn : Hid (X.length = pn + 1 ∧ R.length = tn + (pn + 1)) := by
        unfold Hid
        rw [hR, hX]
        simp [HN.out.1, HN.out.2]
      have HCv : Hid (∀ w' : World, ∃ cap w'', (convert 9 46 (.string XS)).run Tryz.prog w' = .ok (.slice (some ⟨w'.heap.size, 0, none⟩) (pn + 1) cap) w'' ∧ BytesAt w''.heap.size w'' (.slice (some ⟨w'.heap.size, 0, none⟩) (pn + 1) cap) X ∧ Below w'.heap.size w' w'') := fun w' => by
        have h := conv_bytes XS w' (by rw [HX.out.2]; omega)
        rw [HX.out.1, HX.out.2] at h
        exact h
      have HCB : Hid (∀ g w' u, (∃ T fr, w'.heap[g]? = some (.cells #[.slice b tn c2, u] T fr)) → BytesAt w'.heap.size w' u X → Below w1.heap.size w1 w' → Calls Tryz.prog 78 #[.slice (some ⟨g, 0, none⟩) 2 2] w' fun e w'' => ∃ v, e = .returned v ∧ BytesAt w''.heap.size w'' v R ∧ Below w'.heap.size w' w'') := by
        rintro g w' u ⟨T, fr, hg⟩ hu hb
        have hbb : Below w.heap.size w w' := Below.thenOf Hbw1.out hb Hbw1.out.size
        refine (concatB_any w'.heap.size _ _ t X g w' ((HBt.out w' hbb).2.wide (Nat.le_trans hB hbb.size)) hu (Nat.le_refl _) (lt_of_block hg) (heap_cell hg 0 rfl) (heap_cell hg 1 rfl) (by rw [HRn.out.1, HN.out.1]; omega)).mono ?_
        rintro e w'' ⟨v, rfl, ho, hb'⟩
        exact ⟨v, rfl, by rw [hR]; exact bytesAt_own ho, hb'⟩
      have HS1 : Hid (pe = 0 ∧ pr = (s, R)) := ⟨HS0.out.1, by rw [HS0.out.2, hR, hX]⟩
      have HSv : Hid (BytesAt B w1 (.slice a sn c) s) := (HBt.out w1 Hbw1.out).1
      have hAdd : (PS ++ (⟨#[10]⟩ : ByteArray)) = XS := hXS.symm
      clear hXS hX hR HXS HS0 HPS HBt HN
      have q0 : ∀ z : RdW w.heap.size (.slice a sn c) (.slice b tn c2), z.1.cell? ⟨w.heap.size, 0, none⟩ = some (.slice a sn c) := fun z => z.2.1
      have q1 : ∀ z : RdW w.heap.size (.slice a sn c) (.slice b tn c2), z.1.cell? ⟨w.heap.size, 1, none⟩ = some (.slice b tn c2) := fun z => z.2.2
      have hne : Nonempty (RdW w.heap.size (.slice a sn c) (.slice b tn c2)) := ⟨⟨w1, y0, y1⟩⟩
      have hDJ : Hid (∀ fs w', JPu (w.heap.size + 1 + 1) w1 (.slice a sn c) (.slice b tn c2) X R fs w' → ∃ z : RdW w.heap.size (.slice a sn c) (.slice b tn c2), w' = z.1) := fun fs w' h => ⟨⟨w', heap_cell (h.cells Hg0.out (by omega)) 0 rfl, heap_cell (h.cells Hg0.out (by omega)) 1 rfl⟩, rfl⟩
      refine wp_region_free [_, _, _, _, _, _, _, _, _, _, _] _ rfl (fun k => k == 6 || k == 7 || k == 8 || k == 10) (JPu (w.heap.size + 1 + 1) w1 (.slice a sn c) (.slice b tn c2) X R) (SPu (pn + 1) (tn + (pn + 1))) (sPu_some _ _) (by kernel_rfl) (by kernel_rfl) (JPu.start _ _ _ _ _ _) ?_
      iterate 6 (refine wpG_read hDJ.out rfl rfl ?_; go_big_quiet_step (fail); refine wpQuiet_nil ?_)
      try rw [hAdd]
      refine wpG_write rfl rfl (fun gs w' hJ hdep hno => ?_) (fun v6 hv6 => ?_)
      · obtain ⟨cap, w'', r1, r2, r3⟩ := HCv.out w'
        obtain ⟨h10, hA⟩ := hJ.ahead (.inl rfl) hno
        refine ⟨_, w'', ?_, ⟨_, _, rfl⟩, JPu.of h10 (by decide) ((hA.later r3).put6 _ r2)⟩
        unfold execOp
        simp only [resolve, invoke, builtin, Sem.run_bind, Sem.run_pure, Result.andThen_ok, List.map_toArray, List.map_cons, List.map_nil]
        exact (congrArg (fun r => Result.andThen r fun v w => .ok (Next.value v) w) r1)
      simp only [Act.put, List.setIfInBounds_toArray, List.set_cons_succ, List.set_cons_zero]
      obtain ⟨a6, c6, rfl⟩ : ∃ a cap, v6 = .slice a (pn + 1) cap := hv6
      refine wpG_write rfl rfl (fun gs w' hJ hdep hno => ⟨.slice (some ⟨w'.heap.size, 0, none⟩) 2 2, w'.alloc (.cells #[.slice b tn c2, .slice a6 (pn + 1) c6] 46), ?_, ⟨_, rfl⟩, JPu.of (hJ.ahead (.inr (.inl rfl)) hno).1 (by decide) (((hJ.ahead (.inr (.inl rfl)) hno).2.later ((Below.refl w'.heap.size w').alloc (Nat.le_refl _) _)).put7 _ _ (hdep 6 _ (.inr ⟨rfl, rfl⟩) (waitsB_spec (by kernel_rfl))) ⟨_, _, _, rfl, heap_made w' _⟩)⟩) (fun v7 hv7 => ?_)
      · clear hJ hdep hno q0 q1 hDJ hne
        go_simp
      simp only [Act.put, List.setIfInBounds_toArray, List.set_cons_succ, List.set_cons_zero]
      obtain ⟨g7, rfl⟩ : ∃ g : Nat, v7 = .slice (some ⟨g, 0, none⟩) 2 2 := hv7
      refine wpG_call 78 #[.slice (some ⟨g7, 0, none⟩) 2 2] rfl rfl (fun w' => by kernel_rfl) (fun gs w' hJ hdep hno => ?_) (fun v8 hv8 => ?_)
      · have h7 := hdep 7 _ (.inr ⟨rfl, rfl⟩) (waitsB_spec (by kernel_rfl))
        obtain ⟨h10, hA⟩ := hJ.ahead (.inr (.inr (.inl rfl))) hno
        obtain ⟨u, hu, g, T0, fr, e, hbl⟩ := hA.lit7 _ h7
        simp at e
        subst e
        refine (HCB.out g7 w' u ⟨T0, fr, hbl⟩ hu hA.below).mono ?_
        rintro e w3 ⟨u8, rfl, ho, hb⟩
        obtain ⟨a', c', e7, -, -, -⟩ := id ho
        rw [HRn.out.2] at e7
        exact ⟨_, rfl, ⟨a', c', e7⟩, JPu.of h10 (by decide) ((hA.later hb).put8 _ ho)⟩
      simp only [Act.put, List.setIfInBounds_toArray, List.set_cons_succ, List.set_cons_zero]
      obtain ⟨a8, c8, rfl⟩ : ∃ a cap, v8 = .slice a (tn + (pn + 1)) cap := hv8
      refine wpG_read hDJ.out rfl rfl ?_; go_big_quiet_step (fail); refine wpQuiet_nil ?_
      refine wpG_store rfl rfl (fun gs w' hJ hdep hno => ?_) (fun v10 hv10 => ?_)
      · have h6 := hdep 6 _ (.inl (.inl (.inr ⟨rfl, rfl⟩))) (waitsB_spec (by kernel_rfl))
        have h7 := hdep 7 _ (.inl (.inr ⟨rfl, rfl⟩)) (waitsB_spec (by kernel_rfl))
        have h8 := hdep 8 _ (.inr ⟨rfl, rfl⟩) (waitsB_spec (by kernel_rfl))
        obtain ⟨hbe, hst⟩ := hJ.stored hno h6 h7 h8
        have hbx := (hbe.block _ hsz1).trans Hg2.out
        obtain ⟨z0, z1, f0, f1⟩ := box_free hbx
        refine ⟨(w'.setCell ⟨w.heap.size + 1 + 1, 0, none⟩ (.slice a sn c)).setCell ⟨w.heap.size + 1 + 1, 1, none⟩ (.slice a8 (tn + (pn + 1)) c8), ?_, by simp [SPu], hst⟩
        clear hJ hdep hno q0 q1 hDJ hne h6 h7 h8 hbe hst hbx
        go_simp
      simp only [Act.put, List.setIfInBounds_toArray, List.set_cons_succ, List.set_cons_zero]
      refine wpG_nil ?_
      intro w4 hJ
      obtain ⟨u8, hbo4, hD, hbl⟩ := hJ.done (.inr ⟨rfl, rfl⟩) Hg2.out HSv.out (Nat.le_trans hB Hbw1.out.size)
      have yy0 : w4.cell? ⟨w.heap.size + 1 + 1, 0, none⟩ = some (.slice a sn c) := heap_cell hbo4 0 rfl
      have yy1 : w4.cell? ⟨w.heap.size + 1 + 1, 1, none⟩ = some u8 := heap_cell hbo4 1 rfl
      have HE : Hid (pe = 0 ∧ DiskAt w4.heap.size w4 (.agg #[.slice a sn c, u8]) pr ∧ Below w.heap.size w w4) := ⟨HS1.out.1, by rw [HS1.out.2]; exact hD, Below.trans Hbw1.out (hbl _ (by omega) Hbw1.out.size)⟩
      obtain ⟨ua, uc, eu⟩ : ∃ ua uc, u8 = .slice ua R.length uc := by
        obtain ⟨x, y, e, -, ⟨ua, uc, e', -, -, -⟩⟩ := hD
        simp at e
        exact ⟨ua, uc, by rw [e.2]; exact e'⟩
      subst eu
      clear hJ hbo4 hD hbl q0 q1 hDJ hne HCB HCv HS1 HSv Hg0 Hg2 y0 y1 x0 x1 xf0 xf1
      go_wp2_with fail
      refine bodyPost_ret (v := .tuple #[.agg #[.slice a sn c, .slice ua R.length uc], .int .i64 0]) ?_ rfl ⟨_, by rw [HE.out.1], HE.out.2⟩
      rw [results_cell_tmp rfl]
      go_simp
  · have HS0 : Hid (pe = E ∧ pr = ([], [])) := by
      have e : pe = E := by rw [HPE.out, if_neg hE]
      exact ⟨e, by rw [HPR.out, if_neg (by rw [e]; exact hE)]⟩
    have hq : (E != 0) = true := by simpa using hE
    clear HPE HPR HPS HBt hE
    go_wp2_with fail
    refine bodyPost_ret (v := .tuple #[.agg #[.slice none 0 0, .slice none 0 0], .int .i64 E]) ?_ rfl ⟨_, by rw [HS0.out.1], by rw [HS0.out.2]; exact diskAt_zero _ _, ?_⟩
    · rw [results_cell_tmp rfl]
      go_simp
    · exact (Hbw1.out.setCell (p := ⟨w.heap.size + 1 + 1, 0, none⟩) (by show w.heap.size ≤ w.heap.size + 1 + 1; omega) _).setCell (p := ⟨w.heap.size + 1 + 1, 1, none⟩) (by show w.heap.size ≤ w.heap.size + 1 + 1; omega) _
end Go.Proofs.YtdfcfinjoghipacGreatDoor
end
section
/- What package disk answers: plain; the closed fact's disks. -/
set_option linter.all false
set_option maxRecDepth 100000
namespace Go.Proofs.YtdfcfinjoghipacGreatDoor
open Go.RowKit Go.Maps

def dPutE (d : DiskT) (r : RecT) : Int := if diskErr d = 0 then putE d r else diskErr d
def dPutR (d : DiskT) (r : RecT) : DiskT := if dPutE d r = 0 then (d.1, d.2 ++ (printT r ++ [10])) else ([], [])
def dSyncE (d : DiskT) : Int := if diskErr d = 0 then syncE d else diskErr d
def dSyncR (d : DiskT) : DiskT := if dSyncE d = 0 then (d.1 ++ d.2, []) else ([], [])
def dCrashE (d : DiskT) (n : Int) : Int := if diskErr d = 0 then (if n < 0 ∨ (d.2.length : Int) < n then 3 else 0) else diskErr d
def dCrashR (d : DiskT) (n : Int) : DiskT := if dCrashE d n = 0 then (d.1, d.2.take n.toNat) else ([], [])
def dRecR (d : DiskT) : DiskT := if diskErr d = 0 then (recovB d, []) else ([], [])
def dRecL (d : DiskT) : List RecT := if diskErr d = 0 then recovL d else []

theorem diskErr_ok {d : DiskT} (h : diskErr d = 0) : d.1.length ≤ 60000 ∧ d.2.length ≤ 60000 ∧ d.1.length + d.2.length ≤ 60000 ∧ (linesP 40 d.1).2.2 = 0 := by
  unfold diskErr at h
  split at h
  · cases h
  · exact ⟨by omega, by omega, by omega, h⟩
/-- A disk that a machine can hold. -/
def DSm (d : DiskT) : Prop := d.1.length + d.2.length ≤ 300000000000000
theorem dSm_ok {d : DiskT} (h : diskErr d = 0) : DSm d := by
  have := diskErr_ok h
  unfold DSm
  omega
theorem dCrashE_ok {d : DiskT} {n : Int} (h : dCrashE d n = 0) : diskErr d = 0 := by
  unfold dCrashE at h
  by_cases h0 : diskErr d = 0
  · exact h0
  · rw [if_neg h0] at h
    exact h
theorem dSyncE_ok {d : DiskT} (h : dSyncE d = 0) : diskErr d = 0 := by
  unfold dSyncE at h
  by_cases h0 : diskErr d = 0
  · exact h0
  · rw [if_neg h0] at h
    exact h
theorem dPut_sm {d : DiskT} {r : RecT} : DSm (dPutR d r) := by
  unfold dPutR
  by_cases h : dPutE d r = 0
  · rw [if_pos h]
    unfold dPutE at h
    by_cases h0 : diskErr d = 0
    · rw [if_pos h0] at h
      unfold putE at h
      by_cases h1 : recErr r = 0
      · rw [if_pos h1] at h
        by_cases h2 : 60000 < d.1.length + d.2.length + (printT r).length + 1
        · rw [if_pos h2] at h
          cases h
        · unfold DSm
          simp only [List.length_append, List.length_cons, List.length_nil]
          omega
      · rw [if_neg h1] at h
        exact absurd h h1
    · rw [if_neg h0] at h
      exact absurd h h0
  · rw [if_neg h]
    unfold DSm
    decide
theorem diskErr_of {d : DiskT} (h1 : d.1.length + d.2.length ≤ 60000) (h2 : (linesP 40 d.1).2.2 = 0) : diskErr d = 0 := by
  unfold diskErr
  rw [if_neg (by omega)]
  exact h2
/-- The closed fact: two records that shut sessions. -/
def shR (k : Int) : RecT := (4, k, 0, [], 0)
def shT (k : Nat) : Bs := [115, 104, 117, 116, 32, 48 + UInt8.ofNat k]
theorem itoa2 : Lib.itoa 2 = [50] := by
  unfold Lib.itoa
  rw [if_neg (by decide)]
  show Lib.decDigits 2 = [50]
  rw [Lib.decDigits]
  rfl
theorem itoa3 : Lib.itoa 3 = [51] := by
  unfold Lib.itoa
  rw [if_neg (by decide)]
  show Lib.decDigits 3 = [51]
  rw [Lib.decDigits]
  rfl
theorem sh_ok2 : recErr (shR 2) = 0 := by decide
theorem sh_ok3 : recErr (shR 3) = 0 := by decide
theorem sh_text2 : recText (shR 2) = shT 2 := by unfold recText shR; simp only []; rw [itoa2]; rfl
theorem sh_text3 : recText (shR 3) = shT 3 := by unfold recText shR; simp only []; rw [itoa3]; rfl
theorem sh_print2 : printT (shR 2) = shT 2 := by unfold printT; rw [if_pos sh_ok2, sh_text2]
theorem sh_print3 : printT (shR 3) = shT 3 := by unfold printT; rw [if_pos sh_ok3, sh_text3]
theorem sh_read2 : recOf (shT 2) = (shR 2, 0) := by
  rw [← sh_text2]
  exact rec_read sh_ok2 (by rw [sh_text2]; decide)
theorem sh_lines (most : Nat) : linesP (most + 1) (shT 2 ++ [10]) = ([shR 2], 7, 0) := by
  rw [linesP_line (most + 1) (shT 2) [] (by decide), sh_read2]
  simp only [if_true, linesP_nil]
  rfl
theorem fd1 : diskErr ([], []) = 0 := diskErr_of (by decide) (by rw [linesP_nil])
theorem fd_put1 : dPutE ([], []) (shR 2) = 0 ∧ dPutR ([], []) (shR 2) = ([], shT 2 ++ [10]) := by
  have e : dPutE ([], []) (shR 2) = 0 := by
    unfold dPutE putE
    rw [if_pos fd1, if_pos sh_ok2, sh_print2]
    rfl
  refine ⟨e, ?_⟩
  unfold dPutR
  rw [if_pos e, sh_print2]
  rfl
theorem fd2 : diskErr ([], shT 2 ++ [10]) = 0 := diskErr_of (by decide) (by rw [linesP_nil])
theorem fd3 : diskErr (shT 2 ++ [10], []) = 0 := diskErr_of (by decide) (by rw [sh_lines 39])
theorem fd_sync : dSyncE ([], shT 2 ++ [10]) = 0 ∧ dSyncR ([], shT 2 ++ [10]) = (shT 2 ++ [10], []) := by
  have e : dSyncE ([], shT 2 ++ [10]) = 0 := by
    unfold dSyncE syncE
    rw [if_pos fd2]
    exact fd3
  refine ⟨e, ?_⟩
  unfold dSyncR
  rw [if_pos e]
  rfl
theorem fd_put2 : dPutE (shT 2 ++ [10], []) (shR 3) = 0 ∧ dPutR (shT 2 ++ [10], []) (shR 3) = (shT 2 ++ [10], shT 3 ++ [10]) := by
  have e : dPutE (shT 2 ++ [10], []) (shR 3) = 0 := by
    unfold dPutE putE
    rw [if_pos fd3, if_pos sh_ok3, sh_print3]
    rfl
  refine ⟨e, ?_⟩
  unfold dPutR
  rw [if_pos e, sh_print3]
  rfl
theorem fd4 : diskErr (shT 2 ++ [10], shT 3 ++ [10]) = 0 := diskErr_of (by decide) (by rw [sh_lines 39])
theorem fd_crash : dCrashE (shT 2 ++ [10], shT 3 ++ [10]) 4 = 0 ∧ dCrashR (shT 2 ++ [10], shT 3 ++ [10]) 4 = (shT 2 ++ [10], [115, 104, 117, 116]) := by
  have e : dCrashE (shT 2 ++ [10], shT 3 ++ [10]) 4 = 0 := by
    unfold dCrashE
    rw [if_pos fd4]
    rfl
  refine ⟨e, ?_⟩
  unfold dCrashR
  rw [if_pos e]
  rfl
theorem fd5 : diskErr (shT 2 ++ [10], [115, 104, 117, 116]) = 0 := diskErr_of (by decide) (by rw [sh_lines 39])
theorem fd_rec : dRecR (shT 2 ++ [10], [115, 104, 117, 116]) = (shT 2 ++ [10], []) ∧ dRecL (shT 2 ++ [10], [115, 104, 117, 116]) = [shR 2] := by
  have h : recovM (shT 2 ++ [10], [115, 104, 117, 116]) = ([], 0, 8) := by
    unfold recovM
    exact linesP_torn _ _ (by decide) (by decide)
  unfold dRecR dRecL recovB recovL
  rw [if_pos fd5, if_pos fd5, h]
  simp only []
  rw [sh_lines 39]
  exact ⟨rfl, rfl⟩
theorem diskAt_wideK {B B' : Nat} {w : World} {v : Value} {d : DiskT} (h : DiskAt B w v d) (hB : B ≤ B') : DiskAt B' w v d := by
  obtain ⟨sv, tv, e, h1, h2⟩ := h
  exact ⟨sv, tv, e, h1.wide hB, h2.wide hB⟩
/-- A disk all of whose memory is new: from block L on. -/
def DiskNew (L : Nat) (w : World) (v : Value) (d : DiskT) : Prop := ∀ wF : World, (∀ g, L ≤ g → g < w.heap.size → wF.heap[g]? = w.heap[g]?) → w.heap.size ≤ wF.heap.size → DiskAt wF.heap.size wF v d
theorem DiskNew.at {L : Nat} {w : World} {v : Value} {d : DiskT} (h : DiskNew L w v d) : DiskAt w.heap.size w v d := h w (fun _ _ _ => rfl) (Nat.le_refl _)
end Go.Proofs.YtdfcfinjoghipacGreatDoor
end
section
/- Package disk: bytes cut and searched (bytes.IndexByte, bytes.Equal), joined in memory of their own. -/
set_option linter.all false
set_option maxRecDepth 100000
namespace Go.Proofs.YtdfcfinjoghipacGreatDoor
open Go.RowKit Go.Maps

/-- Where the first line feed stands, or -1. -/
def nlI (bs : Bs) : Int := match cutNl bs with
  | none => -1
  | some (a, _) => a.length
theorem nlI_eq : ∀ bs : Bs, Lib.indexByte bs 10 = nlI bs
  | [] => rfl
  | b :: l => by
    have ih := nlI_eq l
    unfold nlI at ih ⊢
    show (if (b == 10) = true then (0 : Int) else if (Lib.indexByte l 10 == -1) = true then -1 else Lib.indexByte l 10 + 1) = _
    show _ = match (if b = 10 then some ([], l) else match cutNl l with | none => none | some (a, t) => some (b :: a, t)) with | none => (-1 : Int) | some (a, _) => (a.length : Int)
    by_cases hb : b = 10
    · rw [if_pos (by simpa using hb), if_pos hb]
      rfl
    · rw [if_neg (by simpa using hb), if_neg hb]
      cases hc : cutNl l with
      | none =>
        rw [hc] at ih
        simp only [] at ih ⊢
        rw [ih]
        rfl
      | some x =>
        obtain ⟨a, t⟩ := x
        rw [hc] at ih
        simp only [] at ih ⊢
        rw [ih, if_neg (by simp <;> omega)]
        simp
theorem bytesOf_nat (bs : Bs) : Lib.bytesOf (bs.map fun b => (b.toNat : Int)) = bs := by
  unfold Lib.bytesOf
  rw [List.map_map]
  conv => rhs; rw [← List.map_id bs]
  refine List.map_congr_left fun b _ => ?_
  simp
theorem indexNl_any (B : Nat) (v : Value) (bs : Bs) (w : World) (h : BytesAt B w v bs) :
    Calls Tryz.prog 152 #[v, .int .u8 10] w fun e w' => e = .returned (.int .i64 (nlI bs)) ∧ w' = w := by
  obtain ⟨a, cap, rfl, h1, h2, h3⟩ := h
  cases a with
  | none =>
    have h0 : bs = [] := by
      cases bs with
      | nil => rfl
      | cons r l => obtain ⟨b, o, e, _⟩ := h3 0 r rfl; cases e
    subst h0
    have hrun := Lib.run_indexByteNil (P := Tryz.prog) w 0 cap 10
    go_enter Tryz.func152, Tryz.ntmps152
    go_wp2
    rw [run_callFunc_extern Tryz.func180 (by kernel_rfl) (by kernel_rfl) (by kernel_rfl) (e := Extern.BytealgIndexByte.indexByte) (by kernel_rfl), hrun]
    simp only [Result.andThen]
    rw [Oper.upon_value]
    go_wp2
    go_ret
    exact ⟨rfl, rfl⟩
  | some ad =>
    have hrun := Lib.run_indexByteAt (P := Tryz.prog) w ad bs.length cap (bs.map fun b => (b.toNat : Int)) (by simp) (fun i hi => by
      obtain ⟨g, o, e, _, k⟩ := h3 i bs[i] (by simp)
      have e' := Option.some.inj e
      subst e'
      rw [add_at, k, List.getD_eq_getElem?_getD, List.getElem?_map, List.getElem?_eq_getElem hi]
      rfl) 10
    rw [bytesOf_nat, show (10 : Int).toNat.toUInt8 = 10 by decide, nlI_eq] at hrun
    generalize bs.length = n at *
    generalize nlI bs = z at *
    clear h3
    go_enter Tryz.func152, Tryz.ntmps152
    go_wp2
    rw [run_callFunc_extern Tryz.func180 (by kernel_rfl) (by kernel_rfl) (by kernel_rfl) (e := Extern.BytealgIndexByte.indexByte) (by kernel_rfl), hrun]
    simp only [Result.andThen]
    rw [Oper.upon_value]
    go_wp2
    go_ret
    exact ⟨rfl, rfl⟩
/-- What stands from k on. -/
theorem slice_from {B : Nat} {w : World} {a : Option Addr} {n c : Nat} {bs : Bs} (h : BytesAt B w (.slice a n c) bs) (k : Nat) (hk : k ≤ bs.length) : ∃ a', (∀ w', (Instr.slice 46 (.slice a n c) (some (.int .i64 k)) none none).run Tryz.prog w' = .ok (.slice a' (n - k) (c - k)) w') ∧ BytesAt B w (.slice a' (n - k) (c - k)) (bs.drop k) := by
  obtain ⟨a0, c0, e, h1, h2, h3⟩ := h
  simp at e
  obtain ⟨rfl, rfl, rfl⟩ := e
  obtain ⟨inf, hi1, hi2, hi3, hi4⟩ := infoU8
  refine ⟨if c = k then a else a.map (·.add (k * 1)), fun w' => ?_, ?_⟩
  · have e1 : (0 : Int) ≤ (k : Int) := by omega
    have e2 : (k : Int) ≤ (bs.length : Int) := by omega
    have e3 : ((k : Int)).toNat = k := by omega
    simp [Instr.slice, Instr.sliceBounds, Instr.sliceBound, run_underlying Tryz.underlying46, sizeOf, typeInfo, hi1, hi3, asIntOf, e1, e2, e3]
    intro hh; exact absurd hh (by omega)
  · refine ⟨_, _, by rw [List.length_drop], by rw [List.length_drop]; omega, by omega, fun i b hb => ?_⟩
    rw [List.getElem?_drop] at hb
    have hlt := (List.getElem?_eq_some_iff.1 hb).1
    obtain ⟨g, o, e, hl, hc⟩ := h3 (k + i) b hb
    subst e
    refine ⟨g, o + k, ?_, hl, by rw [Nat.add_assoc]; exact hc⟩
    rw [if_neg (by omega)]
    simp [add_at]
theorem slice_to {B : Nat} {w : World} {a : Option Addr} {n c : Nat} {bs : Bs} (h : BytesAt B w (.slice a n c) bs) (k : Nat) (hk : k ≤ bs.length) : ∃ a', (∀ w', (Instr.slice 46 (.slice a n c) none (some (.int .i64 k)) none).run Tryz.prog w' = .ok (.slice a' k c) w') ∧ BytesAt B w (.slice a' k c) (bs.take k) := by
  have h' := h.take k hk
  obtain ⟨a0, c0, e, h1, h2, h3⟩ := h
  simp at e
  obtain ⟨rfl, rfl, rfl⟩ := e
  obtain ⟨inf, hi1, hi2, hi3, hi4⟩ := infoU8
  refine ⟨a, fun w' => ?_, h'⟩
  have e1 : (0 : Int) ≤ (k : Int) := by omega
  have e2 : (k : Int) ≤ (c : Int) := by omega
  have e3 : ((k : Int)).toNat = k := by omega
  simp [Instr.slice, Instr.sliceBounds, Instr.sliceBound, run_underlying Tryz.underlying46, sizeOf, typeInfo, hi1, hi3, asIntOf, e1, e2, e3]
  go_simp
  intro hh; exact absurd hh (by omega)
end Go.Proofs.YtdfcfinjoghipacGreatDoor
end
