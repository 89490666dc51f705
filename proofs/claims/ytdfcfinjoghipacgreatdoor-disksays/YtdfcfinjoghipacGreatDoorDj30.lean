/- What the program's own note.Print says of any record. -/
import Derived.Test.YtdfcfinjoghipacGreatDoorDj25
import Derived.Test.YtdfcfinjoghipacGreatDoorDj28
import Derived.Test.YtdfcfinjoghipacGreatDoorDj29
import Derived.Test.YtdfcfinjoghipacGreatDoorDj23
set_option linter.all false
set_option maxRecDepth 100000
namespace Go.Proofs.YtdfcfinjoghipacGreatDoor
open Go.RowKit Go.Maps

/-- A kind's name is fetched, a number is printed, both are put into a new row. -/
def JPn (W : World) (nm num : Bs) (i : Nat) (fs : Nat → Value → Prop) (w : World) : Prop :=
  JRt W nm i fs w ∧ ∀ u, fs 9 u → ∃ g : Nat, u = .slice (some ⟨g, 0, none⟩) 2 2 ∧ W.heap.size ≤ g ∧ w.heap[g]? = some (.cells #[.string (bsB nm), .string (bsB num)] 9 (0, 0))
def SPn (nm num : Bs) (i : Nat) (k : Nat) (v : Value) : Prop := if k = 9 then ∃ g : Nat, v = .slice (some ⟨g, 0, none⟩) 2 2 else SRt nm num i k v
theorem sPn_some (nm num : Bs) (i k : Nat) : ∃ v, SPn nm num i k v := by
  unfold SPn
  split
  · exact ⟨_, 0, rfl⟩
  · exact sRt_some _ _ _ _
theorem JPn.keep {W w w' : World} {nm num : Bs} {i k : Nat} {v : Value} {fs : Nat → Value → Prop} (h : JPn W nm num i fs w) (hb : Below w.heap.size w w') (hj : JRt W nm i (addF fs k v) w') (hk : 9 ≠ k) : JPn W nm num i (addF fs k v) w' := by
  refine ⟨hj, fun u hu => ?_⟩
  rcases hu with hu | ⟨e, _⟩
  · obtain ⟨g, e, h1, h2⟩ := h.2 u hu
    exact ⟨g, e, h1, (hb.block g (lt_of_block h2)).trans h2⟩
  · exact absurd e hk
theorem JPn.row {W w : World} {nm num : Bs} {i : Nat} {fs : Nat → Value → Prop} (h : JPn W nm num i fs w) : JPn W nm num i (addF fs 9 (.slice (some ⟨w.heap.size, 0, none⟩) 2 2)) (w.alloc (.cells #[.string (bsB nm), .string (bsB num)] 9)) := by
  have hb := (Below.refl w.heap.size w).alloc (Nat.le_refl _) (.cells #[.string (bsB nm), .string (bsB num)] 9)
  refine ⟨h.1.other hb _ (by decide) (by decide), fun u hu => ?_⟩
  rcases hu with hu | ⟨_, rfl⟩
  · obtain ⟨g, e, h1, h2⟩ := h.2 u hu
    exact ⟨g, e, h1, (hb.block g (lt_of_block h2)).trans h2⟩
  · exact ⟨_, rfl, h.1.1.size, heap_made _ _⟩

theorem cell_grown {w w' : World} {g b o : Nat} {n c : Nat} (h : w.grownBy w' (Value.slice (some ⟨g, 0, none⟩) n c).ownBlock) (hb : b < w.heap.size) (hne : b ≠ g) : w'.cell? ⟨b, o, none⟩ = w.cell? ⟨b, o, none⟩ := by
  have := h.block b hb (fun e => hne (by simpa [Value.ownBlock] using e))
  simp [World.cell?, this]
theorem itoa_sum1 {a : Bs} (h : a.length ≤ 1) : ([a].map List.length).sum ≤ 1000000000 := by simp; omega
theorem itoa_sum2 {a b : Bs} (h : a.length ≤ 1) (h2 : b.length ≤ 1) : ([a, b].map List.length).sum ≤ 1000000000 := by simp; omega
theorem pol_sum {a : Bs} {p : PolT} (h : a.length ≤ 1) (h2 : polErr p = 0) : ([a, polText p].map List.length).sum ≤ 1000000000 := by
  have hp := polErr_all h2
  have l1 := rulesText_len p.1 hp.2.2
  have l2 := vName_len p.2
  have l3 : (polText p).length ≤ 96000005 := by unfold polText; rw [List.length_append]; omega
  simp
  omega
theorem joinRow (B : Nat) (nm : Bs) (xs : List Bs) (T : Bs) (v' : Value) (w' : World) (hnm : nm.length ≤ 5) (hnf : nm ≠ []) (hx : xs.length = 1 ∨ xs.length = 2) (hs : (xs.map List.length).sum ≤ 1000000000) (ho : w'.ownsRow B 9 1 v' (xs.length + 1) (.string (bsB nm) :: xs.map fun x => .string (bsB x))) (hT : T = nm ++ xs.flatMap fun x => 32 :: x) : ∃ g cap, v' = .slice (some ⟨g, 0, none⟩) (xs.length + 1) cap ∧ Calls Tryz.prog 60 #[.slice (some ⟨g, 0, none⟩) (xs.length + 1) cap, .string ⟨#[32]⟩] w' fun e w'' => e = .returned (.string (bsB T)) ∧ Below w'.heap.size w' w'' := by
  have p2 : xs.length + 1 = 2 ∨ xs.length + 1 = 3 := by omega
  obtain ⟨a', cap', e', h1, h2, h3⟩ := ownsRow_caps ho
  obtain ⟨gj, ej, hbj, hlj⟩ := h3 (Nat.succ_pos _)
  clear h3
  subst ej
  subst e'
  refine ⟨gj, cap', rfl, ?_⟩
  have p1 : ∀ (j : Nat) x, (bsB nm :: xs.map bsB)[j]? = some x → w'.cell? ⟨gj, j, none⟩ = some (.string x) := by
    intro j x hj
    have hq : (Value.string (bsB nm) :: xs.map fun x => Value.string (bsB x))[j]? = some (.string x) := by
      have e1 : (Value.string (bsB nm) :: xs.map fun x => Value.string (bsB x)) = (bsB nm :: xs.map bsB).map Value.string := by simp
      rw [e1, List.getElem?_map, hj]
      rfl
    exact ownsRow_cell ho j _ hq
  have p3 : szK (bsB nm :: xs.map bsB) (xs.length + 1) ≤ 10000000000 := by
    unfold szK
    rw [List.take_of_length_le (by simp), List.map_cons, List.sum_cons, bsB_size, List.map_map]
    have e2 : (ByteArray.size ∘ bsB) = (List.length : Bs → Nat) := by funext x; exact bsB_size x
    rw [e2]
    omega
  have p4 : (bsB nm).data.toList ≠ [] := by simpa [bsB] using hnf
  have p5 : (xs.map bsB).length + 1 = xs.length + 1 := by simp
  refine (join_any gj cap' (xs.length + 1) (bsB nm) (xs.map bsB) w' p1 hlj p2 p5 h1 p3 p4).mono fun e w'' ⟨h1, h2⟩ => ⟨?_, h2⟩
  rw [h1, hT]
  unfold joinT
  rw [show (xs.map bsB).length = xs.length by simp, List.take_of_length_le (by simp), List.flatMap_map]
  simp [bsB]

set_option maxHeartbeats 8000000 in
theorem printN_any (B : Nat) (v : Value) (r : RecT) (w : World) (he : EnvT w) (hr : RecAt B w v r) (hB : B ≤ w.heap.size) :
    Calls Tryz.prog 13 #[v] w fun e w' => e = .returned (.tuple #[.string (bsB (printT r)), .int .i64 (recErr r)]) ∧ Below w.heap.size w w' := by
  have HC : Hid (∀ w', Below w.heap.size w w' → Calls Tryz.prog 17 #[v] w' fun e w'' => e = .returned (.int .i64 (recErr r)) ∧ Below w'.heap.size w' w'') := fun w' h => checkN_any B v r w' (hr.later h hB) (Nat.le_trans hB h.size)
  have HEn : Hid (∀ w', Below w.heap.size w w' → EnvT w') := fun w' h => he.later h
  have HP : Hid (printT r = if recErr r = 0 then recText r else []) := rfl
  obtain ⟨a, c, rfl, hp⟩ := hr.shape
  have HPol : Hid (∀ w', Below w.heap.size w w' → Calls Tryz.prog 59 #[.agg #[.slice a r.2.2.2.1.length c, .int .i64 r.2.2.2.2]] w' fun e w'' => e = .returned (.tuple #[.string (bsB (printR r.2.2.2).1), .int .i64 (printR r.2.2.2).2]) ∧ Below w'.heap.size w' w'') := fun w' h => print_any B _ r.2.2.2 w' (he.later h) (hp.later h hB) (Nat.le_trans hB h.size)
  clear hr hp he
  obtain ⟨k, ce, fr, rs, d⟩ := r
  simp only at *
  have hb : ∀ X, Below w.heap.size w (w.alloc X) := fun X => (Below.refl _ _).alloc (Nat.le_refl _) _
  obtain ⟨E, hE⟩ : ∃ E, E = recErr (k, ce, fr, rs, d) := ⟨_, rfl⟩
  have HE : Hid (E = recErr (k, ce, fr, rs, d)) := hE
  rw [← hE] at HC HP ⊢
  clear hE
  obtain ⟨n, hn⟩ : ∃ n, n = rs.length := ⟨_, rfl⟩
  have HN : Hid (n = rs.length) := hn
  rw [← hn] at HC HPol ⊢
  clear hn
  obtain ⟨W0, hW0⟩ : ∃ W0, W0 = w.alloc (.cells #[.int .i64 k, .int .i64 ce, .int .i64 fr, .slice a n c, .int .i64 d] 38) := ⟨_, rfl⟩
  have g0 : W0.heap[w.heap.size]? = some (.cells #[.int .i64 k, .int .i64 ce, .int .i64 fr, .slice a n c, .int .i64 d] 38 (0, 0)) := by rw [hW0]; exact heap_made _ _
  have bw0 : Below w.heap.size w W0 := by rw [hW0]; exact hb _
  have HG : Hid (∀ w', Below W0.heap.size W0 w' → w'.heap[w.heap.size]? = some (.cells #[.int .i64 k, .int .i64 ce, .int .i64 fr, .slice a n c, .int .i64 d] 38 (0, 0)) ∧ Below w.heap.size w w') := fun w' h => ⟨(h.block _ (lt_of_block g0)).trans g0, Below.thenOf bw0 h bw0.size⟩
  have HW : Hid (W0 = _) := hW0
  clear hW0 g0
  go_enter Tryz.func13, Tryz.ntmps13
  go_wp2_with fail
  rw [← HW.out]
  go_at_call 17
  refine Calls.mono (HC.out _ bw0) ?_
  rintro e w1 ⟨rfl, b01⟩
  obtain ⟨g1, bw1⟩ := HG.out w1 b01
  have B1 : Hid (Below W0.heap.size W0 w1 ∧ Below w.heap.size w w1) := ⟨b01, bw1⟩
  have l1 := lt_of_block g1
  obtain ⟨q0, q1, q2, q3, q4⟩ := rec_box g1
  clear g1 bw1 b01 bw0 hb HC HW
  by_cases h0 : E = 0
  · obtain ⟨hk, hc, hf, -, hpk⟩ := recErr_ok (HE.out.symm.trans h0)
    have HPT : Hid (printT (k, ce, fr, rs, d) = recText (k, ce, fr, rs, d)) := by unfold Hid; rw [HP.out, if_pos h0]
    have HPk : Hid ((k = 1 ∨ k = 2) ∧ polErr (rs, d) = 0 ∨ (k = 3 ∨ k = 4) ∧ (rs, d) = (([], 0) : PolT)) := hpk
    subst h0
    obtain ⟨i, hi4, hki⟩ : ∃ i : Nat, i < 4 ∧ k = (i : Int) + 1 := ⟨(k - 1).toNat, by omega, by omega⟩
    have i0 : (0 : Int) ≤ (i : Int) := by omega
    have i1 : (i : Int) < 4 := by omega
    have hwr : IntKind.i64.wrap (k - 1) = (i : Int) := by rw [show k - 1 = (i : Int) by omega]; exact IntWalk.i64_in _ (by omega)
    obtain ⟨nm, hnm⟩ : ∃ nm, nm = kN.getD i [] := ⟨_, rfl⟩
    have HNm : Hid (nm = kN.getD i [] ∧ nm.length ≤ 5 ∧ kC[i]? = some (.string (bsB nm))) := ⟨hnm, by rw [hnm]; exact kNm_len i, by rw [hnm]; exact kC_at hi4⟩
    have HNf : Hid (nm ≠ []) := by unfold Hid; rw [hnm]; exact kN_full hi4
    have HIt : Hid ((Lib.itoa ce).length ≤ 1 ∧ (Lib.itoa fr).length ≤ 1) := ⟨itoa_short hc.1 hc.2, itoa_short hf.1 hf.2⟩
    have HNum : Hid ((-9223372036854775808 ≤ ce ∧ ce ≤ 9223372036854775807) ∧ (-9223372036854775808 ≤ fr ∧ fr ≤ 9223372036854775807)) := ⟨⟨Int.le_trans (by decide) hc.1, Int.le_trans hc.2 (by decide)⟩, Int.le_trans (by decide) hf.1, Int.le_trans hf.2 (by decide)⟩
    have Hki : Hid (k = (i : Int) + 1 ∧ i < 4) := ⟨hki, hi4⟩
    have c0 : ∀ z : Later w1, z.1.cell? ⟨w.heap.size, 0, none⟩ = some (.int .i64 k) := fun z => z.cell q0 l1
    have c1 : ∀ z : Later w1, z.1.cell? ⟨w.heap.size, 1, none⟩ = some (.int .i64 ce) := fun z => z.cell q1 l1
    clear hnm hki hk hc hf hpk
    go_wp2_with fail
    have hne := Later.ne w1
    have hDJ : Hid (∀ fs w', JPn w1 nm (Lib.itoa ce) i fs w' → ∃ z : Later w1, w' = z.1) := fun fs w' h => ⟨⟨w', h.1.1⟩, rfl⟩
    refine wp_region_free [_, _, _, _, _, _, _, _, _, _] _ rfl (fun k => k == 0 || k == 4 || k == 5 || k == 8 || k == 9) (JPn w1 nm (Lib.itoa ce) i) (SPn nm (Lib.itoa ce) i) (sPn_some _ _ _) (by kernel_rfl) (by kernel_rfl) ⟨⟨(Below.refl _ _).drew, fun _ h => h.elim, fun _ h => h.elim⟩, fun _ h => h.elim⟩ ?_
    refine wpG_call 56 #[] rfl rfl (fun w' => by kernel_rfl) (fun gs w' hJ hdep hno => ?_) (fun v0 hv0 => ?_)
    · refine (kindNames_any w').mono ?_
      rintro e w2 ⟨rfl, rfl⟩
      exact ⟨_, rfl, ⟨_, rfl⟩, hJ.keep ((Below.refl _ _).alloc (Nat.le_refl _) _) (hJ.1.lit _ _ HNm.out.2.2) (by decide)⟩
    simp only [Act.put, List.setIfInBounds_toArray, List.set_cons_succ, List.set_cons_zero]
    obtain ⟨g, rfl⟩ : ∃ g : Nat, v0 = .slice (some ⟨g, 0, none⟩) 4 4 := hv0
    iterate 3 (refine wpG_read hDJ.out rfl rfl ?_; go_big_quiet_step (fail); refine wpQuiet_nil ?_)
    refine wpG_write rfl rfl (fun gs w' hJ hdep hno => ⟨.pointer (some ⟨g, i, none⟩), w', ?_, ⟨_, rfl⟩, hJ.keep (Below.refl _ _) (hJ.1.addr (hdep 0 _ (.inr ⟨rfl, rfl⟩) (waitsB_spec (by kernel_rfl)))) (by decide)⟩) (fun v4 hv4 => ?_)
    · clear hJ hdep hno hDJ hne c0 c1
      go_simp
    simp only [Act.put, List.setIfInBounds_toArray, List.set_cons_succ, List.set_cons_zero]
    obtain ⟨g4, rfl⟩ : ∃ g : Nat, v4 = .pointer (some ⟨g, i, none⟩) := hv4
    refine wpG_write rfl rfl (fun gs w' hJ hdep hno => ⟨.string (bsB nm), w', ?_, rfl, hJ.keep (Below.refl _ _) (hJ.1.other (Below.refl _ _) _ (by decide) (by decide)) (by decide)⟩) (fun v5 hv5 => ?_)
    · obtain ⟨g', e, hl, hc⟩ := hJ.1.2.2 _ (hdep 4 _ (.inr ⟨rfl, rfl⟩) (waitsB_spec (by kernel_rfl)))
      simp at e
      subst e
      clear hJ hdep hno hDJ hne c0 c1
      go_simp
    simp only [Act.put, List.setIfInBounds_toArray, List.set_cons_succ, List.set_cons_zero]
    obtain rfl : v5 = .string (bsB nm) := hv5
    iterate 2 (refine wpG_read hDJ.out rfl rfl ?_; go_big_quiet_step (fail); refine wpQuiet_nil ?_)
    refine wpG_call 57 #[.int .i64 ce] rfl rfl (fun w' => by kernel_rfl) (fun gs w' hJ hdep hno => ?_) (fun v8 hv8 => ?_)
    · refine (Tryz.strconv_Itoa ce HNum.out.1.1 HNum.out.1.2 w' (HEn.out w' (Below.thenOf B1.out.2 hJ.1.1 B1.out.2.size)).2.2.2).mono ?_
      rintro e w2 ⟨rfl, k8, os8, rfl⟩
      exact ⟨_, rfl, rfl, hJ.keep (Lib.below_grow _ _ (Nat.le_refl _) _ _) (hJ.1.other (Lib.below_grow _ _ (Nat.le_refl _) _ _) _ (by decide) (by decide)) (by decide)⟩
    simp only [Act.put, List.setIfInBounds_toArray, List.set_cons_succ, List.set_cons_zero]
    obtain rfl : v8 = .string (bsB (Lib.itoa ce)) := hv8
    refine wpG_write rfl rfl (fun gs w' hJ hdep hno => ⟨.slice (some ⟨w'.heap.size, 0, none⟩) 2 2, w'.alloc (.cells #[.string (bsB nm), .string (bsB (Lib.itoa ce))] 9), ?_, ⟨_, rfl⟩, hJ.row⟩) (fun v9 hv9 => ?_)
    · clear hJ hdep hno hDJ hne c0 c1
      go_simp
    simp only [Act.put, List.setIfInBounds_toArray, List.set_cons_succ, List.set_cons_zero]
    obtain ⟨g9, rfl⟩ : ∃ g : Nat, v9 = .slice (some ⟨g, 0, none⟩) 2 2 := hv9
    refine wpG_nil ?_
    intro w2 hJ2
    have b12 := hJ2.1.1
    obtain ⟨g9', e9, hge, hrow⟩ := hJ2.2 _ (.inr ⟨rfl, rfl⟩)
    simp at e9
    subst e9
    have bw2 : Below w.heap.size w w2 := (HG.out w2 (Below.thenOf B1.out.1 b12 B1.out.1.size)).2
    obtain ⟨g2, -⟩ := HG.out w2 (Below.thenOf B1.out.1 b12 B1.out.1.size)
    have B2 : Hid (Below W0.heap.size W0 w2 ∧ Below w.heap.size w w2) := ⟨Below.thenOf B1.out.1 b12 B1.out.1.size, bw2⟩
    have l2 := lt_of_block g2
    obtain ⟨r0, r1, r2, r3, r4⟩ := rec_box g2
    have lg9 := lt_of_block hrow
    have hg9 : w.heap.size ≤ g9 := Nat.le_trans B1.out.2.size hge
    have HNg : Hid (w.heap.size ≠ g9) := by unfold Hid; omega
    have HOwn : Hid (∀ w', Below w2.heap.size w2 w' → w'.ownsRow w.heap.size 9 1 (.slice (some ⟨g9, 0, none⟩) 2 2) 2 [.string (bsB nm), .string (bsB (Lib.itoa ce))]) := fun w' h => ⟨rfl, .inr ⟨g9, 2, _, rfl, hg9, (h.block g9 lg9).trans hrow, Nat.le_refl _, by rw [maxLen_eq]; omega, rfl, rfl⟩⟩
    clear hJ2 b12 g2 bw2 hne hDJ c0 c1 q0 q1 q2 q3 q4 l1 hwr hrow hge hg9
    obtain ⟨hki, hi4⟩ := Hki.out
    have hk14 : k = 1 ∨ k = 2 ∨ k = 3 ∨ k = 4 := by omega
    have HTe : Hid (∀ w', Calls Tryz.prog 58 #[.int .i64 k] w' fun e w'' => e = .returned (.bool (decide (k = 1 ∨ k = 2))) ∧ w'' = w') := fun w' => tells_any hk14 w'
    obtain ⟨inf, hi1, hi2, hi3, hi5⟩ : ∃ i, Tryz.prog.info? 9 = some i ∧ i.zero = some (.string ⟨#[]⟩) ∧ i.size = 1 ∧ i.bytes = 16 := infoOf (by kernel_rfl)
    obtain ⟨T, hT0⟩ : ∃ T, T = recText (k, ce, fr, rs, d) := ⟨_, rfl⟩
    have HPT2 : Hid (printT (k, ce, fr, rs, d) = T) := by unfold Hid; rw [hT0]; exact HPT.out
    have hml : Hid (2 + 1 ≤ maxLen) := by unfold Hid; rw [maxLen_eq]; omega
    by_cases h4 : k = 4
    · have hT : T = nm ++ [Lib.itoa ce].flatMap fun x => 32 :: x := by
        rw [hT0, HNm.out.1]
        unfold recText
        simp only [if_neg (show ¬ k = 3 by omega), if_pos h4]
        rw [show (k - 1).toNat = i by omega]
        simp
      obtain ⟨gj, capj, ej, HJ⟩ := joinRow w.heap.size nm [Lib.itoa ce] T _ w2 HNm.out.2.1 HNf.out (.inl rfl) (itoa_sum1 HIt.out.1) (HOwn.out w2 (Below.refl _ _)) hT
      simp only [List.length_cons, List.length_nil, Nat.zero_add, Nat.reduceAdd, Value.slice.injEq, Option.some.injEq, Addr.mk.injEq, and_true, true_and] at ej HJ
      obtain ⟨rfl, rfl⟩ := ej
      have HJ' : Hid _ := HJ
      rw [show decide (k = 1 ∨ k = 2) = false by simp; omega] at HTe
      subst h4
      clear hki hk14 HJ HOwn HPol HPk hT hT0
      go_wp2_with fail
      go_at_call 58
      refine Calls.mono (HTe.out _) ?_
      rintro e w3 ⟨rfl, rfl⟩
      go_wp2_with fail
      go_at_call 60
      refine Calls.mono HJ'.out ?_
      rintro e w4 ⟨rfl, b34⟩
      have bw4 : Below w.heap.size w w4 := Below.thenOf B2.out.2 b34 B2.out.2.size
      go_wp2_with fail
      go_ret2
      exact ⟨by rw [HPT2.out]; rfl, bw4⟩
    · by_cases h3 : k = 3
      · have hT : T = nm ++ [Lib.itoa ce, Lib.itoa fr].flatMap fun x => 32 :: x := by
          rw [hT0, HNm.out.1]
          unfold recText
          simp only [if_pos h3]
          rw [show (k - 1).toNat = i by omega]
          simp
        have HI : Hid (Calls Tryz.prog 57 #[.int .i64 fr] w2 fun e w' => e = .returned (.string (bsB (Lib.itoa fr))) ∧ Below w2.heap.size w2 w') := by
          refine (Tryz.strconv_Itoa fr HNum.out.2.1 HNum.out.2.2 w2 (HEn.out w2 B2.out.2).2.2.2).mono ?_
          rintro e w3 ⟨rfl, k8, os8, rfl⟩
          exact ⟨rfl, Lib.below_grow _ _ (Nat.le_refl _) _ _⟩
        have HT : Hid (T = nm ++ [Lib.itoa ce, Lib.itoa fr].flatMap fun x => 32 :: x) := hT
        have HSum := itoa_sum2 HIt.out.1 HIt.out.2
        have HSum' : Hid _ := HSum
        rw [show decide (k = 1 ∨ k = 2) = false by simp; omega] at HTe
        subst h3
        clear hki hk14 HPol HPk h4 hT hT0 HSum
        generalize Lib.itoa fr = fT at *
        generalize Lib.itoa ce = cT at *
        go_wp2_with fail
        go_at_call 58
        refine Calls.mono (HTe.out _) ?_
        rintro e w3 ⟨rfl, rfl⟩
        go_wp2_with fail
        go_at_call 57
        refine Calls.mono HI.out ?_
        rintro e w4 ⟨rfl, b24⟩
        have HO4 : Hid _ := HOwn.out w4 b24
        have HA : Hid (w.heap.size ≤ w4.heap.size) := Nat.le_trans B2.out.2.size b24.size
        have B04 : Hid (Below w.heap.size w w4) := Below.thenOf B2.out.2 b24 B2.out.2.size
        clear b24
        go_wp2_with (first | (at_builtin; go_must (refine wpList_appN _ rfl _ _ rfl Tryz.underlying96 hi1 hi2 hi3 hi5 rfl (by decide) w.heap.size _ _ _ rfl _ 1 [.string (bsB fT)] rfl w4 rfl rfl w4 (Below.refl _ _) HO4.out rfl (by simp [Value.oneCell']) hml.out (by decide) HA.out ?_; intro v9 w9 HO9 hb9 hg9 hf9; have HB9 : Hid _ := hb9; clear hb9 hg9 hf9; obtain ⟨gj, capj, rfl, HJ⟩ := joinRow w.heap.size nm [cT, fT] T v9 w9 HNm.out.2.1 HNf.out (.inr rfl) HSum'.out HO9.out HT.out; have HJ' : Hid _ := HJ; clear HJ)))
        go_at_call 60
        refine Calls.mono HJ'.out ?_
        rintro e w10 ⟨rfl, b910⟩
        have bw9 : Below w.heap.size w w9 := B04.out.trans HB9.out
        have bw10 : Below w.heap.size w w10 := Below.thenOf bw9 b910 bw9.size
        go_wp2_with fail
        go_ret2
        exact ⟨by rw [HPT2.out]; rfl, bw10⟩
      · have hp0 : polErr (rs, d) = 0 := by
          rcases HPk.out with h | h
          · exact h.2
          · omega
        have HT : Hid (T = nm ++ [Lib.itoa ce, polText (rs, d)].flatMap fun x => 32 :: x) := by
          unfold Hid
          rw [hT0, HNm.out.1]
          unfold recText
          simp only [if_neg h3, if_neg h4]
          rw [show (k - 1).toNat = i by omega]
          simp
        have HSum := pol_sum HIt.out.1 hp0
        have HSum' : Hid _ := HSum
        have hpr : printR (rs, d) = (polText (rs, d), 0) := by unfold printR; rw [if_pos hp0]
        have HPr : Hid _ := HPol.out w2 B2.out.2
        rw [hpr] at HPr
        have h3' : (k == 3) = false := by simpa using h3
        rw [show decide (k = 1 ∨ k = 2) = true by simp; omega] at HTe
        clear hki hk14 HPol HPk h4 hT0 HSum hpr hp0 h3
        generalize polText (rs, d) = fT at *
        generalize Lib.itoa ce = cT at *
        go_wp2_with fail
        go_at_call 58
        refine Calls.mono (HTe.out _) ?_
        rintro e w3 ⟨rfl, rfl⟩
        go_wp2_with fail
        go_at_call 59
        refine Calls.mono HPr.out ?_
        rintro e w4 ⟨rfl, b24⟩
        have HO4 : Hid _ := HOwn.out w4 b24
        have HA : Hid (w.heap.size ≤ w4.heap.size) := Nat.le_trans B2.out.2.size b24.size
        have B04 : Hid (Below w.heap.size w w4) := Below.thenOf B2.out.2 b24 B2.out.2.size
        have c4 : w4.cell? ⟨w.heap.size, 0, none⟩ = some (.int .i64 k) := (b24.cell (p := ⟨w.heap.size, 0, none⟩) l2).trans r0
        have l4 : w.heap.size < w4.heap.size := Nat.lt_of_lt_of_le l2 b24.size
        clear b24
        go_wp2_with (first | (at_builtin; go_must (refine wpList_appN _ rfl _ _ rfl Tryz.underlying96 hi1 hi2 hi3 hi5 rfl (by decide) w.heap.size _ _ _ rfl _ 1 [.string (bsB fT)] rfl w4 rfl rfl w4 (Below.refl _ _) HO4.out rfl (by simp [Value.oneCell']) hml.out (by decide) HA.out ?_; intro v9 w9 HO9 hb9 hg9 hf9; have HB9 : Hid _ := hb9; have c9 : w9.cell? ⟨w.heap.size, 0, none⟩ = some (.int .i64 k) := (cell_grown hg9.out l4 HNg.out).trans c4; have l9 : w.heap.size < w9.heap.size := Nat.lt_of_lt_of_le l4 hg9.out.size; clear hb9 hg9 hf9 c4 l4 r0 r1 r2 r3 r4; obtain ⟨gj, capj, rfl, HJ⟩ := joinRow w.heap.size nm [cT, fT] T v9 w9 HNm.out.2.1 HNf.out (.inr rfl) HSum'.out HO9.out HT.out; have HJ' : Hid _ := HJ; clear HJ)))
        go_at_call 60
        refine Calls.mono HJ'.out ?_
        rintro e w10 ⟨rfl, b910⟩
        have bw9 : Below w.heap.size w w9 := B04.out.trans HB9.out
        have bw10 : Below w.heap.size w w10 := Below.thenOf bw9 b910 bw9.size
        go_wp2_with fail
        go_ret2
        exact ⟨by rw [HPT2.out]; rfl, bw10⟩
  · have HPT : Hid (printT (k, ce, fr, rs, d) = []) := by unfold Hid; rw [HP.out, if_neg h0]
    have hq : (E != 0) = true := by simpa using h0
    clear h0
    go_wp2_with fail
    go_ret2
    exact ⟨by rw [HPT.out]; rfl, B1.out.2⟩

end Go.Proofs.YtdfcfinjoghipacGreatDoor
