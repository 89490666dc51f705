/- Joined: PTx PTx2. -/
import Derived.Test.YtdfcfinjoghipacGreatDoorDj26
import Derived.Laws.Concat
section
/- The counterpart's printer at a right policy: what our own plain text says. -/
set_option linter.all false
set_option maxRecDepth 100000
namespace Go.Proofs.YtdfcfinjoghipacGreatDoor
open Go.RowKit Go.Maps

theorem bsB_append (l m : Bs) : bsB l ++ bsB m = bsB (l ++ m) := by
  apply ByteArray.ext
  rw [ByteArray.data_append]
  simp [bsB]
theorem add_run (l m : Bs) (h : l.length + m.length ≤ 9223372036854775807) (w : World) : (Op.stringOp .add (bsB l) (bsB m)).run Tryz.prog w = .ok (.string (bsB (l ++ m))) w := by
  rw [run_string_add_sum w _ _ (by rw [bsB_size, bsB_size]; exact h), bsB_append]
theorem exec_add {a : Act} {o : Oper} {l m : Bs} (x y : Operand) (hop : o.op = .binOp .add 9 x y 9) (hx : a.eval x = .string (bsB l)) (hy : a.eval y = .string (bsB m)) (h : l.length + m.length ≤ 9223372036854775807) (w : World) : (execOp a.eval o).run Tryz.prog w = .ok (.value (.string (bsB (l ++ m)))) w := by
  have hadd := add_run l m h w
  unfold execOp
  rw [hop]
  simp only [hx, hy]
  go_simp
theorem fields_v (w : World) (htab : Lib.TabIs Tryz.prog w "strings.asciiSpace" .u8 Lib.asciiSpaceTab) :
    Calls Tryz.prog 112 #[.string ⟨#[107, 105, 108, 108, 32, 116, 114, 97, 112, 32, 102, 97, 105, 108, 32, 108, 111, 103, 32, 97, 108, 108, 111, 119]⟩] w fun e w' => e = .returned (.slice (some ⟨w.heap.size, 0, none⟩) 5 5) ∧ w' = w.alloc (.cells vC 9) :=
  Tryz.strings_Fields_laid ⟨#[107, 105, 108, 108, 32, 116, 114, 97, 112, 32, 102, 97, 105, 108, 32, 108, 111, 103, 32, 97, 108, 108, 111, 119]⟩ w (by decide) (fun j b h => (by decide : ∀ b ∈ ([107, 105, 108, 108, 32, 116, 114, 97, 112, 32, 102, 97, 105, 108, 32, 108, 111, 103, 32, 97, 108, 108, 111, 119] : Bs), b.toNat < 128) b (List.mem_of_getElem? h)) htab
theorem fields_f (w : World) (htab : Lib.TabIs Tryz.prog w "strings.asciiSpace" .u8 Lib.asciiSpaceTab) :
    Calls Tryz.prog 112 #[.string ⟨#[110, 114, 32, 107, 105, 110, 100, 32, 97, 32, 98, 32, 99]⟩] w fun e w' => e = .returned (.slice (some ⟨w.heap.size, 0, none⟩) 5 5) ∧ w' = w.alloc (.cells fC 9) :=
  Tryz.strings_Fields_laid ⟨#[110, 114, 32, 107, 105, 110, 100, 32, 97, 32, 98, 32, 99]⟩ w (by decide) (fun j b h => (by decide : ∀ b ∈ ([110, 114, 32, 107, 105, 110, 100, 32, 97, 32, 98, 32, 99] : Bs), b.toNat < 128) b (List.mem_of_getElem? h)) htab
theorem slice_op (o : Int) (h : 1 ≤ o ∧ o ≤ 4) (w : World) : (Instr.sliceAt 9 (.string ⟨#[63, 61, 33, 60, 62]⟩) (some (.int .i64 o)) (some (.int .i64 (o + 1))) none).run Tryz.prog w = .ok (.string (bsB [opSign o])) w := by
  have : o = 1 ∨ o = 2 ∨ o = 3 ∨ o = 4 := by omega
  rcases this with rfl | rfl | rfl | rfl
  · simp [go_sem, Tryz.underlying9]; rfl
  · simp [go_sem, Tryz.underlying9]; rfl
  · simp [go_sem, Tryz.underlying9]; rfl
  · simp [go_sem, Tryz.underlying9]; rfl
theorem NamesAt.below {b B : Nat} {cs : Array Value} {w w' : World} (h : NamesAt b cs w) (hb : Below B w w') (hB : b < B) : NamesAt b cs w' := fun j u hj => (hb.cell (p := ⟨b, j, none⟩) hB).trans (h j u hj)
theorem vName_at {b i : Nat} {w : World} (h : NamesAt b vC w) (hi : i < 5) : w.cell? ⟨b, i, none⟩ = some (.string (bsB (vName (i : Int)))) := by
  have := h i _ (vC_at hi)
  unfold vName
  rw [Int.toNat_natCast]
  exact this
theorem fName_at {b i : Nat} {w : World} (h : NamesAt b fC w) (hi : i < 5) : w.cell? ⟨b, i, none⟩ = some (.string (bsB (fName (i : Int)))) := by
  have := h i _ (fC_at hi)
  unfold fName
  rw [Int.toNat_natCast]
  exact this

end Go.Proofs.YtdfcfinjoghipacGreatDoor
end
section
/- The counterpart's printer at a right policy: the walk. -/
set_option linter.all false
set_option maxRecDepth 100000
namespace Go.Proofs.YtdfcfinjoghipacGreatDoor
open Go.RowKit Go.Maps

def JPt (W : World) (fs : Nat → Value → Prop) (w' : World) : Prop := Below W.heap.size W w'
def SPt (num : Int) (k : Nat) (v : Value) : Prop := v = .string (bsB (Lib.itoa num))
theorem sPt_some (num : Int) (k : Nat) : ∃ v, SPt num k v := ⟨_, rfl⟩
theorem take_len (rs : List RuleT) (h : ∀ r ∈ rs, ruleErr r = 0) (hl : rs.length ≤ 120) (i : Nat) : ((rs.take i).flatMap ruleText).length ≤ 96000000 := by
  have h1 := rulesText_len (rs.take i) fun r hr => h r (List.mem_of_mem_take hr)
  have h2 : (rs.take i).length ≤ 120 := by rw [List.length_take]; omega
  exact Nat.le_trans h1 (Nat.mul_le_mul_right 800000 h2)
theorem takeC_len (cs : List CondT) (h : ∀ c ∈ cs, condErr c = 0) (hl : cs.length ≤ 10) (i : Nat) : ((cs.take i).flatMap condText).length ≤ 700000 := by
  have h1 := condsText_len (cs.take i) fun c hc => h c (List.mem_of_mem_take hc)
  have h2 : (cs.take i).length ≤ 10 := by rw [List.length_take]; omega
  exact Nat.le_trans h1 (Nat.mul_le_mul_right 70000 h2)

set_option maxHeartbeats 8000000 in
theorem policyText_any (B0 : Nat) (pv : Value) (p : PolT) (w : World) (he : EnvT w) (hsp : Lib.TabIs Tryz.prog w "strings.asciiSpace" .u8 Lib.asciiSpaceTab) (hp : PolAt B0 w pv p) (hB0 : B0 ≤ w.heap.size) (hok : polErr p = 0) :
    Calls Tryz.prog 63 #[pv] w fun e w' => e = .returned (.string (bsB (polText p))) ∧ Below w.heap.size w w' := by
  obtain ⟨rs, d⟩ := p
  obtain ⟨hrl, hd, hra⟩ := polErr_all hok
  obtain ⟨rv, rfl, _, a, cap, rfl, hlc, hcm, hrs⟩ := hp
  simp only [] at hrl hd hra hlc hrs
  have HT : Hid (polText (rs, d) = rs.flatMap ruleText ++ vName d) := rfl
  have HE : Hid (∀ w', Below w.heap.size w w' → EnvT w' ∧ Lib.TabIs Tryz.prog w' "strings.asciiSpace" .u8 Lib.asciiSpaceTab) := fun w' h => ⟨he.later h, tab_later hsp h⟩
  have HL : Hid (∀ i, ((rs.take i).flatMap ruleText).length ≤ 96000000) := take_len rs hra hrl
  have HRs : Hid (∀ (i : Nat) r, rs[i]? = some r → ∃ b o, a = some ⟨b, o, none⟩ ∧ b < B0 ∧ RuleAt B0 w b (o + i * 2) r) := hrs
  have HRa : Hid (∀ r ∈ rs, ruleErr r = 0) := hra
  obtain ⟨di, rfl⟩ : ∃ i : Nat, d = i := ⟨d.toNat, by omega⟩
  have hdi : di < 5 := by omega
  clear he hsp hrs hra hok hd hrl
  show Calls Tryz.prog 63 #[.agg #[.slice a rs.length cap, .int .i64 di]] w _
  generalize hn : rs.length = n at *
  have hnH : Hid (rs.length = n) := hn
  clear hn
  have hml := maxLen_eq
  obtain ⟨W0, hW0⟩ : ∃ W0, W0 = w.alloc (.cells #[.slice a n cap, .int .i64 di] 24) := ⟨_, rfl⟩
  have hb0 : Below w.heap.size w W0 := by rw [hW0]; exact (Below.refl _ _).alloc (Nat.le_refl _) _
  have hs0 : W0.heap.size = w.heap.size + 1 := by rw [hW0]; simp
  have hP0 : W0.heap[w.heap.size]? = some (.cells #[.slice a n cap, .int .i64 di] 24 (0, 0)) := by rw [hW0]; exact (MapKept.heap_alloc w _).1
  obtain ⟨W1, hW1⟩ : ∃ W1, W1 = W0.alloc (.cells vC 9) := ⟨_, rfl⟩
  obtain ⟨W2, hW2⟩ : ∃ W2, W2 = W1.alloc (.cells fC 9) := ⟨_, rfl⟩
  have hb01 : Below W0.heap.size W0 W1 := by rw [hW1]; exact (Below.refl _ _).alloc (Nat.le_refl _) _
  have hb12 : Below W1.heap.size W1 W2 := by rw [hW2]; exact (Below.refl _ _).alloc (Nat.le_refl _) _
  have hs1 : W1.heap.size = w.heap.size + 2 := by rw [hW1]; simp; omega
  have hs2 : W2.heap.size = w.heap.size + 3 := by rw [hW2]; simp; omega
  have hN1 : NamesAt (w.heap.size + 1) vC W2 := by
    have := NamesAt.made W0 vC 9
    rw [← hW1, hs0] at this
    exact this.below hb12 (by omega)
  have hN2 : NamesAt (w.heap.size + 2) fC W2 := by
    have := NamesAt.made W1 fC 9
    rw [← hW2, hs1] at this
    exact this
  have hbw1 : Below w.heap.size w W1 := hb0.trans (hb01.mono (by omega))
  have hbw2 : Below w.heap.size w W2 := hbw1.trans (hb12.mono (by omega))
  have hP2 : W2.heap[w.heap.size]? = some (.cells #[.slice a n cap, .int .i64 di] 24 (0, 0)) := (hb12.block _ (by omega)).trans ((hb01.block _ (by omega)).trans hP0)
  have HF1 : Hid _ := fields_v W0 (HE.out W0 hb0).2
  have HF2 : Hid _ := fields_f W1 (HE.out W1 hbw1).2
  have HN1 : Hid (∀ w', Below (w.heap.size + 3) W2 w' → NamesAt (w.heap.size + 1) vC w' ∧ NamesAt (w.heap.size + 2) fC w' ∧ w'.heap[w.heap.size]? = some (.cells #[.slice a n cap, .int .i64 di] 24 (0, 0)) ∧ Below w.heap.size w w') := fun w' h => ⟨hN1.below h (by omega), hN2.below h (by omega), (h.block _ (by omega)).trans hP2, hbw2.trans (h.mono (by omega))⟩
  obtain ⟨x0, x1, _, _⟩ := cell_of_two hP2
  have HW1 : Hid (W1 = W0.alloc (.cells vC 9)) := hW1
  have HW2 : Hid (W2 = W1.alloc (.cells fC 9)) := hW2
  rw [hs0, ← hW1] at HF1
  rw [hs1, ← hW2] at HF2
  clear hN1 hN2 hb01 hb12 hP2 hP0 hbw1 hbw2 hb0 hW1 hW2 hs0 hs1
  go_enter Tryz.func63, Tryz.ntmps63
  go_wp2_with fail
  rw [← hW0]
  clear hW0
  go_at_call 112
  refine Calls.mono HF1.out ?_
  rintro e w1 ⟨rfl, rfl⟩
  go_wp2_with fail
  go_at_call 112
  refine Calls.mono HF2.out ?_
  rintro e w2 ⟨rfl, rfl⟩
  go_wp2_with fail
  go_loopw [5, 15] (fun sv iv wr => ∃ i : Nat, i ≤ n ∧ iv = .int .i64 i ∧ sv = .string (bsB ((rs.take i).flatMap ruleText)) ∧ Hid (Below (w.heap.size + 3) w2 wr)) (fun _ iv _ => n - (intOf iv).toNat)
  case atStart => exact ⟨0, Nat.zero_le _, rfl, rfl, Below.refl _ _⟩
  case round =>
    obtain ⟨i, hi, rfl, rfl, hbr⟩ := hrel
    obtain ⟨wo, hwo⟩ : ∃ x, x = wr := ⟨_, rfl⟩
    subst hwo
    obtain ⟨hn1, hn2, hPo, hbwo⟩ := HN1.out wo hbr.out
    have i0 : (0 : Int) ≤ (i : Int) := by omega
    have hszo : w.heap.size + 3 ≤ wo.heap.size := by have := hbr.out.size; omega
    have hLi := HL.out i
    obtain ⟨L, hL⟩ : ∃ L, L = (rs.take i).flatMap ruleText := ⟨_, rfl⟩
    rw [← hL] at hLi ⊢
    have HLi : Hid (L = (rs.take i).flatMap ruleText) := hL
    have HLl : Hid (L.length ≤ 96000000) := hLi
    clear hL hLi
    by_cases hlt : i < n
    · have i1 : (i : Int) < (n : Int) := by omega
      obtain ⟨r, hri⟩ : ∃ r, rs[i]? = some r := ⟨rs[i]'(by rw [hnH.out]; exact hlt), by simp⟩
      obtain ⟨br, orr, rfl, hbr0, hat⟩ := HRs.out i r hri
      obtain ⟨hcl, hv, hca⟩ := ruleErr_all (HRa.out r (List.mem_of_getElem? hri))
      obtain ⟨cv, c0, c1, _, hcv⟩ := RuleAt.later hat hbwo (by omega) (by omega)
      have hTake : Hid ((rs.take (i + 1)).flatMap ruleText = (rs.take i).flatMap ruleText ++ ruleText r) := by
        unfold Hid
        rw [List.take_add_one, hri]
        simp
      obtain ⟨cs, v⟩ := r
      obtain ⟨ac, capc, rfl, hlc2, hcm2, hcs⟩ := hcv
      simp only [] at hcl hv hca c0 c1 hlc2 hcs
      have hrT : Hid (ruleText (cs, v) = vName v ++ cs.flatMap condText ++ [59]) := rfl
      have HCL : Hid (∀ j, ((cs.take j).flatMap condText).length ≤ 700000) := takeC_len cs hca hcl
      have HCs : Hid (∀ (j : Nat) c, cs[j]? = some c → ∃ b o, ac = some ⟨b, o, none⟩ ∧ b < B0 ∧ CondAt wo b (o + j * 3) c) := hcs
      have HCa : Hid (∀ c ∈ cs, condErr c = 0) := hca
      obtain ⟨vi, rfl⟩ : ∃ k : Nat, v = k := ⟨v.toNat, by omega⟩
      have hvi : vi < 5 := by omega
      have hv1 : (vi : Int) < 5 := by omega
      have hv0 : (0 : Int) ≤ (vi : Int) := by omega
      have hvl := vName_len (vi : Int)
      clear hcs hca hat hv hcl hri
      generalize hm : cs.length = m at *
      have hmH : Hid (cs.length = m) := hm
      clear hm
      have hnm : ∀ X, (wo.alloc X).cell? ⟨w.heap.size + 1, vi, none⟩ = some (.string (bsB (vName (vi : Int)))) := fun X => (((Below.refl wo.heap.size wo).alloc (Nat.le_refl _) X).cell (p := ⟨w.heap.size + 1, vi, none⟩) (by show w.heap.size + 1 < _; omega)).trans (vName_at hn1 hvi)
      have hadd := fun W => add_run L (vName (vi : Int)) (by have := HLl.out; omega) W
      have hvlH : Hid ((vName (vi : Int)).length ≤ 5) := hvl
      obtain ⟨p0, p1, _, _⟩ := cell_of_two hPo
      have hbwoH : Hid (Below w.heap.size w wo) := hbwo
      have hn2H : Hid (NamesAt (w.heap.size + 2) fC wo) := hn2
      clear hvl hPo hn1 hn2 hbwo
      go_wp2_with fail
      clear hadd hnm
      have hb3 : Below wo.heap.size wo (wo.alloc (.cells #[.slice ac m capc, .int .i64 vi] 79)) := (Below.refl _ _).alloc (Nat.le_refl _) _
      have hs3 : (wo.alloc (.cells #[.slice ac m capc, .int .i64 vi] 79)).heap.size = wo.heap.size + 1 := by simp
      generalize wo.alloc (.cells #[.slice ac m capc, .int .i64 vi] 79) = W3 at *
      go_loopw [5, 29] (fun sv jv wr => ∃ j : Nat, j ≤ m ∧ jv = .int .i64 j ∧ sv = .string (bsB (L ++ vName (vi : Int) ++ (cs.take j).flatMap condText)) ∧ Hid (Below wo.heap.size wo wr) ∧ wo.heap.size < wr.heap.size) (fun _ jv _ => m - (intOf jv).toNat)
      case atStart => exact ⟨0, Nat.zero_le _, rfl, by simp, hb3, by omega⟩
      case round =>
        obtain ⟨j, hj, rfl, rfl, hbi, hsi⟩ := hrel
        obtain ⟨wi, hwi⟩ : ∃ x, x = wr := ⟨_, rfl⟩
        subst hwi
        have j0 : (0 : Int) ≤ (j : Int) := by omega
        obtain ⟨M, hM⟩ : ∃ M, M = L ++ vName (vi : Int) ++ (cs.take j).flatMap condText := ⟨_, rfl⟩
        rw [← hM]
        have HM : Hid (M = L ++ vName (vi : Int) ++ (cs.take j).flatMap condText) := hM
        have HMl : Hid (M.length ≤ 97000000) := by
          unfold Hid
          rw [hM]
          have h1 := HLl.out
          have h2 := HCL.out j
          have h3 := hvlH.out
          simp only [List.length_append]
          omega
        clear hM
        by_cases hjl : j < m
        · have j1 : (j : Int) < (m : Int) := by omega
          obtain ⟨c, hcj⟩ : ∃ c, cs[j]? = some c := ⟨cs[j]'(by rw [hmH.out]; exact hjl), by simp⟩
          obtain ⟨bc, oc, rfl, hbc, hatc⟩ := HCs.out j c hcj
          obtain ⟨hf, ho, hnn⟩ := condErr_num (HCa.out c (List.mem_of_getElem? hcj))
          have hTakeC : Hid ((cs.take (j + 1)).flatMap condText = (cs.take j).flatMap condText ++ condText c) := by
            unfold Hid
            rw [List.take_add_one, hcj]
            simp
          obtain ⟨f, o, num⟩ := c
          obtain ⟨e0, e1, e2, _⟩ := hatc.later hbi.out (by omega)
          simp only [] at e0 e1 e2 hf ho hnn
          obtain ⟨fi, rfl⟩ : ∃ k : Nat, f = k := ⟨f.toNat, by omega⟩
          have hfi : fi < 5 := by omega
          have hfl : Hid ((fName (fi : Int)).length ≤ 4) := fName_len (fi : Int)
          have hwo1 : IntKind.i64.wrap (o + 1) = o + 1 := IntWalk.i64_in _ (by omega)
          have hcT : Hid (condText ((fi : Int), o, num) = 32 :: (fName (fi : Int) ++ (opSign o :: Lib.itoa num))) := rfl
          have hitl : Hid ((Lib.itoa num).length ≤ 65536) := by
            unfold Hid Lib.itoa
            rw [if_neg (by omega)]
            have := decDigits_len num.toNat
            omega
          have hsop := slice_op o ho
          have hnnH : Hid (0 ≤ num ∧ num ≤ 65535) := hnn
          clear hcj hatc hf ho hnn
          go_wp2_with fail
          obtain ⟨W4, hW4⟩ : ∃ W4, W4 = wi.alloc (.cells #[.int .i64 fi, .int .i64 o, .int .i64 num] 83) := ⟨_, rfl⟩
          have hb4 : Below wi.heap.size wi W4 := by rw [hW4]; exact (Below.refl _ _).alloc (Nat.le_refl _) _
          have hs4 : W4.heap.size = wi.heap.size + 1 := by rw [hW4]; simp
          have hC4 : W4.heap[wi.heap.size]? = some (.cells #[.int .i64 fi, .int .i64 o, .int .i64 num] 83 (0, 0)) := by rw [hW4]; exact (MapKept.heap_alloc wi _).1
          rw [← hW4]
          clear hW4 e0 e1 e2
          have hbo4 : Below wo.heap.size wo W4 := hbi.out.trans (hb4.mono (by omega))
          have hn4 : NamesAt (w.heap.size + 2) fC W4 := hn2H.out.below hbo4 (by omega)
          have hE4 : Hid (∀ w', Below W4.heap.size W4 w' → EnvT w') := fun w' h => (HE.out w' (hbwoH.out.trans ((hbo4.trans (h.mono (by omega))).mono (by omega)))).1
          have hDJ : Hid (∀ fs w', JPt W4 fs w' → ∃ z : Later W4, w' = z.1) := fun fs w' h => ⟨⟨w', h⟩, rfl⟩
          have hne := Later.ne W4
          have q0 : ∀ z : Later W4, z.1.cell? ⟨wi.heap.size, 0, none⟩ = some (.int .i64 fi) := fun z => (z.2.cell (p := ⟨wi.heap.size, 0, none⟩) (by show wi.heap.size < _; omega)).trans (three_cells hC4).1.1
          have q1 : ∀ z : Later W4, z.1.cell? ⟨wi.heap.size, 1, none⟩ = some (.int .i64 o) := fun z => (z.2.cell (p := ⟨wi.heap.size, 1, none⟩) (by show wi.heap.size < _; omega)).trans (three_cells hC4).1.2.1
          have q2 : ∀ z : Later W4, z.1.cell? ⟨wi.heap.size, 2, none⟩ = some (.int .i64 num) := fun z => (z.2.cell (p := ⟨wi.heap.size, 2, none⟩) (by show wi.heap.size < _; omega)).trans (three_cells hC4).1.2.2
          have q3 : ∀ z : Later W4, z.1.cell? ⟨w.heap.size + 2, fi, none⟩ = some (.string (bsB (fName (fi : Int)))) := fun z => (z.2.cell (p := ⟨w.heap.size + 2, fi, none⟩) (by show w.heap.size + 2 < _; omega)).trans (fName_at hn4 hfi)
          clear hC4 hn4
          refine wp_region_free [_, _, _, _, _, _, _, _, _, _, _, _, _, _, _, _, _, _, _] _ rfl (fun k => k == 16) (JPt W4) (SPt num) (sPt_some num) (by kernel_rfl) (by kernel_rfl) ((Below.refl _ _).drew) ?_
          iterate 4 (refine wpG_read hDJ.out rfl rfl ?_; go_big_quiet_step (fail); refine wpQuiet_nil ?_)
          refine wpG_readV (.pointer (some ⟨w.heap.size + 2, fi, none⟩)) rfl rfl (fun w' => run_val (index_name fi _ hfi w')) ?_
          simp only [Act.put, List.setIfInBounds_toArray, List.set_cons_succ, List.set_cons_zero]
          refine wpG_read hDJ.out rfl rfl ?_; go_big_quiet_step (fail); refine wpQuiet_nil ?_
          refine wpG_readV (.string (bsB ([32] ++ fName (fi : Int)))) rfl rfl (fun w' => exec_add _ _ rfl rfl rfl (by have := hfl.out; simp; omega) w') ?_
          simp only [Act.put, List.setIfInBounds_toArray, List.set_cons_succ, List.set_cons_zero]
          iterate 4 (refine wpG_read hDJ.out rfl rfl ?_; go_big_quiet_step (fail); refine wpQuiet_nil ?_)
          refine wpG_readV (.int .i64 (o + 1)) rfl rfl (fun w' => ?_) ?_
          · clear q0 q1 q2 q3 hne hDJ
            go_simp
          simp only [Act.put, List.setIfInBounds_toArray, List.set_cons_succ, List.set_cons_zero]
          refine wpG_readV (.string (bsB [opSign o])) rfl rfl (fun w' => run_val (hsop w')) ?_
          simp only [Act.put, List.setIfInBounds_toArray, List.set_cons_succ, List.set_cons_zero]
          refine wpG_readV (.string (bsB ([32] ++ fName (fi : Int) ++ [opSign o]))) rfl rfl (fun w' => exec_add _ _ rfl rfl rfl (by have := hfl.out; simp; omega) w') ?_
          simp only [Act.put, List.setIfInBounds_toArray, List.set_cons_succ, List.set_cons_zero]
          iterate 2 (refine wpG_read hDJ.out rfl rfl ?_; go_big_quiet_step (fail); refine wpQuiet_nil ?_)
          refine wpG_call 57 #[.int .i64 num] rfl rfl (fun w' => by kernel_rfl) (fun gs w' hJ hdep hno => ?_) (fun v1 hv1 => ?_)
          · refine (Tryz.strconv_Itoa num (by have := hnnH.out; omega) (by have := hnnH.out; omega) w' (hE4.out _ hJ).2.2.2).mono ?_
            rintro e w2 ⟨rfl, k8, os8, rfl⟩
            exact ⟨_, rfl, rfl, Below.thenOf hJ (Lib.below_grow _ _ (Nat.le_refl _) _ _) hJ.size⟩
          simp only [Act.put, List.setIfInBounds_toArray, List.set_cons_succ, List.set_cons_zero]
          obtain rfl : v1 = .string (bsB (Lib.itoa num)) := hv1
          refine wpG_readV (.string (bsB ([32] ++ fName (fi : Int) ++ [opSign o] ++ Lib.itoa num))) rfl rfl (fun w' => exec_add _ _ rfl rfl rfl (by have := hfl.out; have := hitl.out; simp; omega) w') ?_
          simp only [Act.put, List.setIfInBounds_toArray, List.set_cons_succ, List.set_cons_zero]
          refine wpG_readV (.string (bsB (M ++ ([32] ++ fName (fi : Int) ++ [opSign o] ++ Lib.itoa num)))) rfl rfl (fun w' => exec_add _ _ rfl rfl rfl (by have := hfl.out; have := hitl.out; have := HMl.out; simp; omega) w') ?_
          simp only [Act.put, List.setIfInBounds_toArray, List.set_cons_succ, List.set_cons_zero]
          refine wpG_nil ?_
          intro w5 hJ5
          have hJ5 : Below W4.heap.size W4 w5 := hJ5
          clear q0 q1 q2 q3 hne hDJ
          have hs5 := hJ5.size
          have hb5 : Below wo.heap.size wo w5 := hbo4.trans (hJ5.mono (by omega))
          have HMn : Hid (M ++ ([32] ++ fName (fi : Int) ++ [opSign o] ++ Lib.itoa num) = L ++ vName (vi : Int) ++ (cs.take (j + 1)).flatMap condText) := by
            unfold Hid
            rw [hTakeC.out, HM.out, hcT.out]
            simp
          go_wp2_with fail
          exact ⟨⟨j + 1, by omega, by go_num, by rw [← HMn.out], hb5, by omega⟩, by simp [intOf]; omega⟩
        · obtain rfl : j = m := by omega
          have j1 : ¬ ((j : Int) < (j : Int)) := by omega
          have hadd : ∀ W, (Op.stringOp .add (bsB M) ⟨#[59]⟩).run Tryz.prog W = .ok (.string (bsB (M ++ [59]))) W := fun W => add_run M [59] (by have := HMl.out; simp; omega) W
          have HMn : Hid (M ++ [59] = (rs.take (i + 1)).flatMap ruleText) := by
            unfold Hid
            rw [hTake.out, HM.out, List.take_of_length_le (by rw [hmH.out]; exact Nat.le_refl _), hrT.out, HLi.out]
            simp
          go_wp2_with fail
          exact ⟨⟨i + 1, by omega, by go_num, by rw [← HMn.out], hbr.out.trans (hbi.out.mono (by omega))⟩, by simp [intOf]; omega⟩
    · obtain rfl : i = n := by omega
      have i1 : ¬ ((i : Int) < (i : Int)) := by omega
      obtain ⟨p0, p1, _, _⟩ := cell_of_two hPo
      have hnm := vName_at hn1 hdi
      have hvl := vName_len (di : Int)
      have hadd := fun W => add_run L (vName (di : Int)) (by have := HLl.out; omega) W
      have HR : Hid (L ++ vName (di : Int) = polText (rs, (di : Int))) := by
        unfold Hid
        rw [HT.out, HLi.out, List.take_of_length_le (by rw [hnH.out]; exact Nat.le_refl _)]
      have hd1 : (di : Int) < 5 := by omega
      have hd0 : (0 : Int) ≤ (di : Int) := by omega
      clear hvl hPo hn1 hn2
      have hbH : Hid (Below w.heap.size w wo) := hbwo
      clear hbwo
      go_wp2_with fail
      go_ret
      exact ⟨by rw [HR.out]; rfl, hbH.out⟩

end Go.Proofs.YtdfcfinjoghipacGreatDoor
end
