/- Joined: Prn Jn0 Jn Jn2. -/
import Derived.Test.YtdfcfinjoghipacGreatDoorDj26
import Derived.Test.YtdfcfinjoghipacGreatDoorDj25
import Derived.Test.YtdfcfinjoghipacGreatDoorDj01
import Derived.Lib.MakeNoZero
section
/- What the program's own Print says of any policy. -/
set_option linter.all false
set_option maxRecDepth 100000
namespace Go.Proofs.YtdfcfinjoghipacGreatDoor
open Go.RowKit Go.Maps

def printR (p : PolT) : Bs × Int := if polErr p = 0 then (polText p, 0) else ([], polErr p)

set_option maxHeartbeats 8000000 in
theorem print_any (B0 : Nat) (pv : Value) (p : PolT) (w : World) (he : EnvT w) (hp : PolAt B0 w pv p) (hB0 : B0 ≤ w.heap.size) :
    Calls Tryz.prog 59 #[pv] w fun e w' => e = .returned (.tuple #[.string (bsB (printR p).1), .int .i64 (printR p).2]) ∧ Below w.heap.size w w' := by
  have hb1 : ∀ X, Below w.heap.size w (w.alloc X) := fun X => (Below.refl _ _).alloc (Nat.le_refl _) _
  have HC : Hid (∀ w', Below w.heap.size w w' → Calls Tryz.prog 45 #[pv] w' fun e w'' => e = .returned (.int .i64 (polErr p)) ∧ Below w'.heap.size w' w'') := fun w' h => check_pol B0 pv p w' (hp.later h hB0) (Nat.le_trans hB0 h.size)
  obtain ⟨rs, d⟩ := p
  obtain ⟨rv, rfl, hdw, a, cap, rfl, hlc, hcm, hrs⟩ := hp
  simp only [] at hlc hrs
  have hrs' : Hid (∀ (i : Nat) (r : RuleT), rs[i]? = some r → ∃ b o, a = some ⟨b, o, none⟩ ∧ b < B0 ∧ RuleAt B0 w b (o + i * 2) r) := hrs
  have hRn : Hid (∀ e : Int, polErr (rs, d) = e → e ≠ 0 → printR (rs, d) = ([], e)) := by
    intro e h1 h2
    unfold printR
    rw [h1, if_neg h2]
  have hRo : Hid (polErr (rs, d) = 0 → printR (rs, d) = (polText (rs, d), 0)) := by
    intro h
    unfold printR
    rw [if_pos h]
  have hOk : Hid (polErr (rs, d) = 0 → rs.length ≤ 120 ∧ (0 ≤ d ∧ d ≤ 4) ∧ ∀ r ∈ rs, ruleErr r = 0) := fun h => polErr_all h
  clear hrs hdw
  show Calls Tryz.prog 59 #[.agg #[.slice a rs.length cap, .int .i64 d]] w _
  have HC' : Hid (∀ w', Below w.heap.size w w' → Calls Tryz.prog 45 #[.agg #[.slice a rs.length cap, .int .i64 d]] w' fun e w'' => e = .returned (.int .i64 (polErr (rs, d))) ∧ Below w'.heap.size w' w'') := HC.out
  clear HC
  generalize hn : rs.length = n at *
  have hnH : Hid (rs.length = n) := hn
  clear hn
  generalize hpe : polErr (rs, d) = pe at *
  clear hpe
  have hml := maxLen_eq
  by_cases h0 : pe = 0
  · subst h0
    obtain ⟨hn120, hd, hra⟩ := hOk.out rfl
    have hraH : Hid _ := hra
    have hRo' : Hid (printR (rs, d) = (polText (rs, d), 0)) := hRo.out rfl
    have hPT : Hid (polText (rs, d) = rs.flatMap ruleText ++ vName d) := rfl
    have HTL : Hid (∀ i : Nat, ((rs.take i).flatMap ruleText).length ≤ 96000000) := by
      intro i
      have h1 := rulesText_len (rs.take i) fun c hc => hra c (List.mem_of_mem_take hc)
      have h2 : (rs.take i).length ≤ 120 := by rw [List.length_take, hnH.out]; omega
      exact Nat.le_trans h1 (Nat.mul_le_mul_right 800000 h2)
    obtain ⟨di, rfl⟩ : ∃ i : Nat, d = i := ⟨d.toNat, by omega⟩
    have hdi : di < 5 := by omega
    have hdN : Hid (vName (di : Int) = vN.getD di []) := by unfold Hid vName; simp
    have hdl := vName_len (di : Int)
    have hdne : Hid (vName (di : Int) ≠ []) := by
      unfold Hid
      rw [hdN.out]
      have : di = 0 ∨ di = 1 ∨ di = 2 ∨ di = 3 ∨ di = 4 := by omega
      rcases this with rfl | rfl | rfl | rfl | rfl <;> decide
    clear hra hRo hRn hOk
    go_enter Tryz.func59, Tryz.ntmps59
    go_wp2_with fail
    go_at_call 45
    refine Calls.mono (HC'.out _ (hb1 _)) ?_
    rintro e w2 ⟨rfl, hb2⟩
    have hP2 : w2.heap[w.heap.size]? = some (.cells #[.slice a n cap, .int .i64 di] 24 (0, 0)) := (hb2.block _ (by simp)).trans (MapKept.heap_alloc w _).1
    have hbw2 : Below w.heap.size w w2 := Below.thenOf (hb1 _) hb2 (by simp)
    have hs2 : w.heap.size + 1 ≤ w2.heap.size := by have := hb2.size; simpa using this
    clear hb2
    obtain ⟨W3, hW3⟩ : ∃ W3, W3 = w2.alloc (.cells #[.pointer none, .slice none 0 0] 145) := ⟨_, rfl⟩
    have hb3 : Below w2.heap.size w2 W3 := by rw [hW3]; exact (Below.refl _ _).alloc (Nat.le_refl _) _
    have hs3 : W3.heap.size = w2.heap.size + 1 := by rw [hW3]; simp
    have hbd3 : IsBld w2.heap.size w2.heap.size (Lib.byteCells []) W3 := .inl ⟨Nat.le_refl _, .slice none 0 0, by rw [hW3]; exact (MapKept.heap_alloc w2 _).1, ⟨rfl, .inl ⟨rfl, rfl⟩⟩, by simp [Value.ownBlock]⟩
    have hP3 : W3.heap[w.heap.size]? = some (.cells #[.slice a n cap, .int .i64 di] 24 (0, 0)) := (hb3.block _ (by omega)).trans hP2
    obtain ⟨b, hbe⟩ : ∃ b, b = w2.heap.size := ⟨_, rfl⟩
    rw [← hbe] at hbd3 hb3 hs3
    have hbge : w.heap.size + 1 ≤ b := by omega
    have hbw3 : Below w.heap.size w W3 := hbw2.trans (hb3.mono (by omega))
    obtain ⟨p0, p1, _, _⟩ := cell_of_two hP3
    have p0' : ∀ X, X = .cells #[.pointer none, .slice none 0 0] 145 → (w2.alloc X).cell? ⟨w.heap.size, 0, none⟩ = some (.slice a n cap) := fun X hX => by rw [hX, ← hW3]; exact p0
    have p0'' := p0' _ rfl
    clear p0'
    go_wp2_with fail
    rw [← hW3, ← hbe]
    clear hW3 hbe p0''
    have hbd3H : Hid _ := hbd3
    clear hbd3
    go_loopw [16] (fun iv wr => ∃ i : Nat, i ≤ n ∧ iv = .int .i64 i ∧ Hid (IsBld b b (Lib.byteCells ((rs.take i).flatMap ruleText)) wr) ∧ Below b W3 wr ∧ b + 1 ≤ wr.heap.size) (fun iv _ => n - (intOf iv).toNat)
    case atStart => exact ⟨0, by omega, rfl, hbd3H, Below.refl _ _, by omega⟩
    case round =>
      obtain ⟨i, hi, rfl, hbdr, hbr, hsr⟩ := hrel
      obtain ⟨wo, hwo⟩ : ∃ x, x = wr := ⟨_, rfl⟩
      subst hwo
      have i0 : (0 : Int) ≤ (i : Int) := by omega
      have hlen1 := HTL.out i
      have hbw : Below w.heap.size w wo := hbw3.trans (hbr.mono (by omega))
      by_cases hlt : i < n
      · have i1 : (i : Int) < (n : Int) := by omega
        obtain ⟨r, hri⟩ : ∃ r, rs[i]? = some r := ⟨rs[i]'(by rw [hnH.out]; exact hlt), by simp⟩
        obtain ⟨br, or, rfl, hbr0, hat⟩ := hrs'.out i r hri
        obtain ⟨cv, c0, c1, w0, hcon⟩ := hat.later hbw hB0 hbr0
        have hTake : Hid ((rs.take (i + 1)).flatMap ruleText = (rs.take i).flatMap ruleText ++ ruleText r) := by
          unfold Hid
          rw [List.take_add_one, hri]
          simp
        have hrok := hraH.out r (List.mem_of_getElem? hri)
        obtain ⟨a2, m2, cap2, rfl⟩ : ∃ a2 m2 cap2, cv = .slice a2 m2 cap2 := by
          obtain ⟨a2, cap2, e2, _⟩ := hcon
          exact ⟨a2, _, cap2, e2⟩
        have HPR : Hid (∀ w', Below wo.heap.size wo w' → Calls Tryz.prog 100 #[.pointer (some ⟨b, 0, none⟩), .agg #[.slice a2 m2 cap2, .int .i64 r.2]] w' fun e w'' => e = .returned (.tuple #[]) ∧ IsBld b b (Lib.byteCells ((rs.take i).flatMap ruleText ++ ruleText r)) w'' ∧ Below b w' w'') := fun w' h =>
          printRule_any B0 b b _ _ r w' (fun w'' h2 => he.later (hbw.trans ((h.mono (by omega)).trans (h2.mono (by omega))))) (hcon.later h (by omega)) (by omega) (IsBld.later hbdr.out h) (by omega) (by have := h.size; omega) hrok
        clear hat hcon w0
        have hbA : ∀ X, Below wo.heap.size wo (wo.alloc X) := fun X => (Below.refl _ _).alloc (Nat.le_refl _) _
        go_wp2_with fail
        go_at_call 100
        refine Calls.mono (HPR.out _ (hbA _)) ?_
        rintro e w4 ⟨rfl, hbd4, hb4⟩
        have hbd4H : Hid (IsBld b b (Lib.byteCells ((rs.take (i + 1)).flatMap ruleText)) w4) := by
          unfold Hid
          rw [hTake.out]
          exact hbd4
        have hbr4 : Below b W3 w4 := hbr.trans (((hbA _).mono (by omega)).trans hb4)
        have hs4 : b + 1 ≤ w4.heap.size := by have := hb4.size; simp at this; omega
        clear hbd4 hbA
        go_wp2_with fail
        exact ⟨⟨i + 1, by omega, by go_num, hbd4H, hbr4, hs4⟩, by simp [intOf]; omega⟩
      · obtain rfl : i = n := by omega
        have hT : Hid ((rs.take i).flatMap ruleText = rs.flatMap ruleText) := by
          unfold Hid
          rw [List.take_of_length_le (by rw [hnH.out]; exact Nat.le_refl _)]
        obtain ⟨L0, hL0⟩ : ∃ L0, L0 = (rs.take i).flatMap ruleText := ⟨_, rfl⟩
        rw [← hL0] at hbdr hlen1
        have hL0H : Hid _ := hL0
        clear hL0
        have hPo : wo.heap[w.heap.size]? = some (.cells #[.slice a i cap, .int .i64 di] 24 (0, 0)) := (hbr.block _ (by omega)).trans hP3
        have hO : ∀ cur fr, Obj.cells #[.slice a i cap, .int .i64 di] 24 (0, 0) ≠ .cells cur 5 fr := fun cur fr e => by simp at e
        go_wp2_with fail
        have hne : Nonempty (KeepO w.heap.size (.cells #[.slice a i cap, .int .i64 di] 24 (0, 0))) := ⟨⟨wo, hPo⟩⟩
        have hDJ : Hid (∀ fs w', JWr b b vC 0 3 5 di w.heap.size (.cells #[.slice a i cap, .int .i64 di] 24 (0, 0)) L0 (vName di) wo fs w' → ∃ z : KeepO w.heap.size (.cells #[.slice a i cap, .int .i64 di] 24 (0, 0)), w' = z.1) := fun fs w' h => ⟨⟨w', h.1⟩, rfl⟩
        have q1 : ∀ z : KeepO w.heap.size (.cells #[.slice a i cap, .int .i64 di] 24 (0, 0)), z.1.cell? ⟨w.heap.size, 1, none⟩ = some (.int .i64 di) := fun z => (cell_of_two z.2).2.1
        refine wp_region_all (fun k => k == 0 || k == 3 || k == 4 || k == 5) (JWr b b vC 0 3 5 di w.heap.size (.cells #[.slice a i cap, .int .i64 di] 24 (0, 0)) L0 (vName di) wo) (SWr 0 3 4 di (vName di)) (sWr_some _ _ _ _ _) (by kernel_rfl) (by kernel_rfl) (JWr.start hPo) ?_
        refine wpG_call 102 #[] rfl rfl (fun w' => by kernel_rfl) (fun gs w' hJ hdep hno => ?_) (fun v1 hv1 => ?_)
        · refine (verdictNames_any w').mono ?_
          rintro e w2 ⟨rfl, rfl⟩
          exact ⟨_, rfl, ⟨_, rfl⟩, hJ.call (by decide) (by decide) (by omega) (by omega)⟩
        simp only [Act.put, List.setIfInBounds_toArray, List.set_cons_succ, List.set_cons_zero]
        obtain ⟨b1, rfl⟩ : ∃ b : Nat, v1 = .slice (some ⟨b, 0, none⟩) 5 5 := hv1
        iterate 2 (refine wpG_read hDJ.out rfl rfl ?_; go_big_quiet_step (fail); refine wpQuiet_nil ?_)
        refine wpG_write rfl rfl (fun gs w' hJ hdep hno => ⟨.pointer (some ⟨b1, di, none⟩), w', run_val (index_name di b1 hdi w'), ⟨b1, rfl⟩, hJ.idx (by decide) (by decide) (hdep 0 _ (.inr ⟨rfl, rfl⟩) (waitsB_spec (by kernel_rfl)))⟩) (fun v4 hv4 => ?_)
        simp only [Act.put, List.setIfInBounds_toArray, List.set_cons_succ, List.set_cons_zero]
        obtain ⟨b4, rfl⟩ : ∃ b : Nat, v4 = .pointer (some ⟨b, di, none⟩) := hv4
        refine wpG_write rfl rfl (fun gs w' hJ hdep hno => ⟨.string (bsB (vName di)), w', ?_, rfl, hJ.other (by decide) (by decide) (by decide)⟩) (fun v5 hv5 => ?_)
        · have hcell := hJ.name (hdep 3 _ (.inr ⟨rfl, rfl⟩) (waitsB_spec (by kernel_rfl))) (vC_at hdi)
          rw [← hdN.out] at hcell
          clear hJ hdep hno q1 hDJ hne hO
          go_simp
        simp only [Act.put, List.setIfInBounds_toArray, List.set_cons_succ, List.set_cons_zero]
        obtain rfl : v5 = .string (bsB (vName di)) := hv5
        refine wpG_call 101 #[.pointer (some ⟨b, 0, none⟩), .string (bsB (vName di))] rfl rfl (fun w' => by kernel_rfl) (fun gs w' hJ hdep hno => hJ.write (by decide) (by decide) hno hbdr.out hO (by omega) (by omega) (by omega)) (fun v6 hv6 => ?_)
        simp only [Act.put, List.setIfInBounds_toArray, List.set_cons_succ, List.set_cons_zero]
        refine wpG_nil ?_
        intro w6 hJ6
        obtain ⟨hbd6, hbb6, hs46⟩ := hJ6.2.2.2.2 ⟨v6, .inr ⟨rfl, rfl⟩⟩
        have hbd6H : Hid _ := hbd6
        have hbw6 : Below w.heap.size w w6 := hbw.trans (hbb6.mono (by omega))
        clear hJ6 q1 hDJ hne hbd6
        go_wp2_with fail
        go_at_call 103
        refine Calls.mono (Tryz.Builder_String b b (L0 ++ vName di) w6 hbd6H.out (fun e => hdne.out (List.append_eq_nil_iff.1 e).2)) ?_
        rintro e w7 ⟨rfl, hb7⟩
        have hbw7 : Below w.heap.size w w7 := hbw6.trans (hb7.mono (by omega))
        have hfin : Hid (L0 ++ vName di = polText (rs, (di : Int))) := by unfold Hid; rw [hPT.out, hL0H.out, hT.out]
        go_wp2_with fail
        go_ret2
        exact ⟨by rw [hRo'.out, ← hfin.out]; rfl, hbw7⟩
  · have hR' : Hid (printR (rs, d) = ([], pe)) := hRn.out pe rfl h0
    have hq : (pe != 0) = true := by simpa using h0
    clear hRn hRo hOk h0
    go_enter Tryz.func59, Tryz.ntmps59
    go_wp2_with fail
    go_at_call 45
    refine Calls.mono (HC'.out _ (hb1 _)) ?_
    rintro e w2 ⟨rfl, hb2⟩
    have hbw2 : Below w.heap.size w w2 := Below.thenOf (hb1 _) hb2 (by simp)
    go_wp2_with fail
    go_ret2
    exact ⟨by rw [hR'.out]; rfl, hbw2⟩

end Go.Proofs.YtdfcfinjoghipacGreatDoor
end
section
/- strings.Builder's Grow, as this program's text has it, at a builder that holds nothing. -/
set_option linter.all false
set_option maxRecDepth 100000
namespace Go.Proofs.YtdfcfinjoghipacGreatDoor
open Go.RowKit Go.Maps

set_option maxHeartbeats 2000000 in
theorem grow_fresh (B b n : Nat) (w : World) (hB : B ≤ b) (hbk : w.heap[b]? = some (.cells #[.pointer (some ⟨b, 0, none⟩), .slice none 0 0] 145 (0, 0))) (hBw : B ≤ w.heap.size) (hn : n ≤ 100000000000) :
    Calls Tryz.prog 140 #[.pointer (some ⟨b, 0, none⟩), .int .i64 n] w fun e w' => e = .returned (.tuple #[]) ∧ BldAt B b [] w' ∧ Below B w w' := by
  obtain ⟨i0, hi, hz0, hz1, hz2⟩ := infoU8
  obtain ⟨cs, hrun, hle, hmax⟩ := Lib.run_makeNoZero (P := Tryz.prog) w.drew #[3] 46 5 Tryz.underlying46 n (by omega)
  have hw : IntKind.i64.wrap (IntKind.i64.wrap 0 + (n : Int)) = n := by
    rw [IntKind.wrap_i64, IntKind.wrap_i64]
    omega
  have hcall : (callFunc 166 #[.int .i64 (IntKind.i64.wrap (IntKind.i64.wrap 0 + (n : Int)))]).run Tryz.prog w.drew = .ok (.value (.slice (some ⟨w.drew.heap.size, 0, none⟩) n cs.size)) (w.drew.drew.drew.alloc (.cells cs 5)) := by
    rw [hw, run_callFunc_extern Tryz.func166 (by kernel_rfl) (by kernel_rfl) (by kernel_rfl) (e := Extern.BytealgMakeNoZero.makeNoZero #[3] #[46]) (by kernel_rfl), hrun]
    rfl
  have hlt := lt_of_block hbk
  have c1 : w.drew.cell? ⟨b, 1, none⟩ = some (.slice none 0 0) := by
    have : w.drew.heap[b]? = _ := hbk
    rw [Lib.cell_of_heap this]; rfl
  have hbk2 : (w.alloc (.cells cs 5)).heap[b]? = _ := (Lib.alloc_old w _ b hlt).trans hbk
  have c2 : (w.alloc (.cells cs 5)).cell? ⟨b, 1, none⟩ = some (.slice none 0 0) := by rw [Lib.cell_of_heap hbk2]; rfl
  have f2 : (w.alloc (.cells cs 5)).frozen? ⟨b, 1, none⟩ = false := Lib.frozen_of_heap hbk2 1
  have hcopy : ∀ W : World, (Builtin.copy_ #[46, 46] 3 #[.slice (some ⟨w.heap.size, 0, none⟩) 0 cs.size, .slice none 0 0]).run Tryz.prog W = .ok (goInt 0) W :=
    fun W => run_copy_none W 46 46 3 5 _ _ 0 cs.size 0 0 Tryz.underlying46 (by rw [hi]; simp [hz1]) rfl
  have hfin := Lib.grown_fresh (T := 145) (e := 5) (cs := cs) hB hbk hBw (hmax (by unfold maxLen; omega)) (by decide)
  clear hw hbk2 hlt hbk hle hmax hrun hn
  go_enter Tryz.func140, Tryz.ntmps140
  go_wp2
  go_region
  all_goals (go_wp2; go_end0; exact ⟨rfl, hfin⟩)

set_option maxHeartbeats 2000000 in
theorem bld_grow (B b n : Nat) (w : World) (hB : B ≤ b) (hbk : w.heap[b]? = some (.cells #[.pointer none, .slice none 0 0] 145 (0, 0))) (hBw : B ≤ w.heap.size) (hn : n ≤ 100000000000) :
    Calls Tryz.prog 104 #[.pointer (some ⟨b, 0, none⟩), .int .i64 n] w fun e w' => e = .returned (.tuple #[]) ∧ BldAt B b [] w' ∧ Below B w w' := by
  have hbk1 : (w.setCell ⟨b, 0, none⟩ (.pointer (some ⟨b, 0, none⟩))).heap[b]? = some (.cells #[.pointer (some ⟨b, 0, none⟩), .slice none 0 0] 145 (0, 0)) := by
    simp [World.setCell, Array.getElem?_modify, hbk]
  have c1 : (w.setCell ⟨b, 0, none⟩ (.pointer (some ⟨b, 0, none⟩))).cell? ⟨b, 1, none⟩ = some (.slice none 0 0) := by rw [Lib.cell_of_heap hbk1]; rfl
  have hb1 : Below B w (w.setCell ⟨b, 0, none⟩ (.pointer (some ⟨b, 0, none⟩))) := (Below.refl B w).setCell (p := ⟨b, 0, none⟩) hB _
  have hU : BldAt B b [] (w.setCell ⟨b, 0, none⟩ (.pointer (some ⟨b, 0, none⟩))) := ⟨hB, .slice none 0 0, hbk1, World.ownsRow_nil _ _ _ _, by simp [Value.ownBlock]⟩
  have c1' : (w.setCell ⟨b, 0, none⟩ (.pointer (some ⟨b, 0, none⟩))).drew.cell? ⟨b, 1, none⟩ = some (.slice none 0 0) := c1
  have HCk : Hid _ := check_fresh b w (by rw [Lib.cell_of_heap hbk]; rfl) (by simp [World.shape?, hbk]) (Lib.frozen_of_heap hbk 0)
  have HGr : Hid _ := grow_fresh B b n (w.setCell ⟨b, 0, none⟩ (.pointer (some ⟨b, 0, none⟩))).drew hB hbk1 (by simpa [World.setCell, World.drew, -World.drew_eq] using hBw) hn
  go_enter Tryz.func104, Tryz.ntmps104
  go_wp2_with fail
  go_at_call 139
  refine Calls.mono HCk.out ?_
  rintro e w' ⟨rfl, rfl⟩
  go_wp2_with fail
  go_region
  all_goals go_wp2_with fail
  all_goals first
    | (go_at_call 140; refine Calls.mono HGr.out ?_; rintro e w' ⟨rfl, h1, h2⟩; go_wp2_with fail; go_end0; exact ⟨rfl, h1, hb1.drew.trans h2⟩)
    | (go_end0; exact ⟨rfl, hU.drew, hb1.drew⟩)

end Go.Proofs.YtdfcfinjoghipacGreatDoor
end
section
/- strings.Join of two or three texts at a blank: plain data. -/
set_option linter.all false
set_option maxRecDepth 100000
namespace Go.Proofs.YtdfcfinjoghipacGreatDoor
open Go.RowKit Go.Maps

def szK (ws : List ByteArray) (k : Nat) : Nat := ((ws.take k).map ByteArray.size).sum
theorem szK_succ {ws : List ByteArray} {k : Nat} {x : ByteArray} (h : ws[k]? = some x) : szK ws (k + 1) = szK ws k + x.size := by
  unfold szK
  rw [List.take_add_one, h]
  simp
theorem szK_le (ws : List ByteArray) (k : Nat) : szK ws k ≤ szK ws ws.length := by
  unfold szK
  rw [List.take_length]
  conv => rhs; rw [← List.take_append_drop k ws]
  rw [List.map_append, List.sum_append]
  omega
def joinT (x0 : Bs) (r : List ByteArray) (k : Nat) : Bs := x0 ++ (r.take k).flatMap fun y => 32 :: y.data.toList
theorem joinT_succ {x0 : Bs} {r : List ByteArray} {k : Nat} {y : ByteArray} (h : r[k]? = some y) : joinT x0 r (k + 1) = (joinT x0 r k ++ [32]) ++ y.data.toList := by
  unfold joinT
  rw [List.take_add_one, h]
  simp
theorem joinT_len (x0 : ByteArray) (r : List ByteArray) (k : Nat) : (joinT x0.data.toList r k).length ≤ szK (x0 :: r) (r.length + 1) + r.length := by
  unfold joinT szK
  rw [show r.length + 1 = (x0 :: r).length from rfl, List.take_length, List.length_append, ← Lib.size_eq]
  have : ∀ l : List ByteArray, (l.flatMap fun y => (32 : UInt8) :: y.data.toList).length = (l.map ByteArray.size).sum + l.length := by
    intro l
    induction l with
    | nil => rfl
    | cons a l ih => rw [List.flatMap_cons, List.length_append, ih, List.map_cons, List.sum_cons, List.length_cons, List.length_cons, ← Lib.size_eq]; omega
  rw [this]
  have h1 := szK_le r k
  unfold szK at h1
  rw [List.take_length] at h1
  have h2 : (r.take k).length ≤ r.length := by rw [List.length_take]; omega
  rw [List.map_cons, List.sum_cons]
  omega

end Go.Proofs.YtdfcfinjoghipacGreatDoor
end
section
/- strings.Join of two or three texts at a blank: the walk. -/
set_option linter.all false
set_option maxRecDepth 100000
namespace Go.Proofs.YtdfcfinjoghipacGreatDoor
open Go.RowKit Go.Maps

theorem bsB_data (s : ByteArray) : bsB s.data.toList = s := by cases s; simp [bsB]

set_option maxHeartbeats 8000000 in
theorem join_any (bk c n : Nat) (x0 : ByteArray) (r : List ByteArray) (w : World) (hcells : ∀ (j : Nat) x, (x0 :: r)[j]? = some x → w.cell? ⟨bk, j, none⟩ = some (.string x)) (hbk : bk < w.heap.size) (hn : n = 2 ∨ n = 3) (hrn : r.length + 1 = n) (hcap : n ≤ c) (hlen : szK (x0 :: r) n ≤ 10000000000) (hne : x0.data.toList ≠ []) :
    Calls Tryz.prog 60 #[.slice (some ⟨bk, 0, none⟩) n c, .string ⟨#[32]⟩] w fun e w' => e = .returned (.string (bsB (joinT x0.data.toList r r.length))) ∧ Below w.heap.size w w' := by
  have HC : Hid (∀ (j : Nat) x, (x0 :: r)[j]? = some x → w.cell? ⟨bk, j, none⟩ = some (.string x)) := hcells
  have HL : Hid (∀ k, szK (x0 :: r) k ≤ 10000000000) := by
    intro k
    have h1 := szK_le (x0 :: r) k
    rw [show (x0 :: r).length = n from hrn] at h1
    omega
  have HJ : Hid (∀ k, (joinT x0.data.toList r k).length ≤ 20000000000) := by
    intro k
    have h1 := joinT_len x0 r k
    rw [hrn] at h1
    omega
  have HNe : Hid (x0.data.toList ≠ []) := hne
  have Hx0 : Hid (w.cell? ⟨bk, 0, none⟩ = some (.string x0)) := hcells 0 x0 rfl
  have HG : ∀ k : Nat, k < n → ∃ x, (x0 :: r)[k]? = some x := fun k hk => ⟨(x0 :: r)[k]'(by simpa [hrn] using hk), by simp⟩
  have HGx : Hid (∀ k : Nat, k < n → ∃ x, (x0 :: r)[k]? = some x) := HG
  have HGy : Hid (∀ k : Nat, k + 1 < n → ∃ y, r[k]? = some y) := fun k hk => ⟨r[k]'(by omega), by simp⟩
  have HRn : Hid (r.length + 1 = n) := hrn
  clear hcells hlen hne HG hrn
  rcases hn with rfl | rfl
  · go_enter Tryz.func60, Tryz.ntmps60
    go_wp2_with fail
    go_loop [5, 41] (fun nv iv => ∃ k : Nat, k ≤ 2 ∧ iv = .int .i64 k ∧ nv = .int .i64 ((1 + szK (x0 :: r) k : Nat) : Int)) (fun _ iv => 2 - (intOf iv).toNat)
    case atStart => exact ⟨0, Nat.zero_le _, rfl, by simp [szK]⟩
    case round =>
      obtain ⟨k, hk, rfl, rfl⟩ := hrel
      by_cases hkn : k < 2
      · obtain ⟨x, hx⟩ := HGx.out k hkn
        have hc := HC.out k x hx
        have hstep := szK_succ hx
        have hbound := HL.out (k + 1)
        generalize hA1 : szK (x0 :: r) (k + 1) = A1 at hstep hbound
        generalize szK (x0 :: r) k = A0 at hstep
        have HA1 : Hid (szK (x0 :: r) (k + 1) = A1) := hA1
        clear hA1 hx
        go_wp2
        exact ⟨⟨k + 1, by omega, by go_num, by rw [HA1.out]; refine congrArg _ ?_; omega⟩, by simp [intOf]; omega⟩
      · have hke : k = 2 := by omega
        subst hke
        have hT := HL.out 2
        generalize szK (x0 :: r) 2 = T at hT
        go_wp2_with fail
        have hMT : ((1 : Int) + (T : Int)) = ((1 + T : Nat) : Int) := by omega
        first | rw [hMT] | skip
        have HGr : Hid _ := bld_grow w.heap.size w.heap.size (1 + T) (w.alloc (.cells #[.pointer none, .slice none 0 0] 145)) (Nat.le_refl _) ((MapKept.heap_alloc w _).1) (by simp) (by omega)
        have hbw : Hid (Below w.heap.size w (w.alloc (.cells #[.pointer none, .slice none 0 0] 145))) := (Below.refl w.heap.size w).alloc (Nat.le_refl _) _
        clear hMT hT
        go_at_call 104
        refine Calls.mono HGr.out ?_
        rintro e w1 ⟨rfl, h1, hb1⟩
        have hb1' : Below w.heap.size w w1 := hbw.out.trans hb1
        have hc0 : w1.cell? ⟨bk, 0, none⟩ = some (.string x0) := (hb1'.cell (p := ⟨bk, 0, none⟩) hbk).trans Hx0.out
        have H1 : Hid (IsBld w.heap.size w.heap.size (Lib.byteCells []) w1) := Or.inr h1
        have Hb1 : Hid (Below w.heap.size w w1) := hb1'
        have hs1 : w.heap.size ≤ w1.heap.size := hb1'.size
        have HW1 : Hid (Calls Tryz.prog 101 #[.pointer (some ⟨w.heap.size, 0, none⟩), .string x0] w1 fun e w' => (∃ n : Int, e = .returned (.tuple #[.int .i64 n, .nilIface])) ∧ IsBld w.heap.size w.heap.size (Lib.byteCells ([] ++ x0.data.toList)) w' ∧ Below w.heap.size w1 w' ∧ BKept w.heap.size w1 w') := by
          have := bld_bytes w.heap.size w.heap.size [] x0.data.toList w1 H1.out (by have := HJ.out 0; unfold joinT at this; simp at this ⊢; omega) hs1
          rw [bsB_data] at this
          exact this
        clear h1 hb1 hb1' HGr hbw
        go_wp2_with fail
        go_at_call 101
        refine Calls.mono HW1.out ?_
        rintro e w2 ⟨⟨m, rfl⟩, h2, hb2, -⟩
        have H2 : Hid (IsBld w.heap.size w.heap.size (Lib.byteCells (joinT x0.data.toList r 0)) w2) := by
          unfold Hid joinT
          simpa using h2
        have Hb2 : Hid (Below w.heap.size w w2) := Hb1.out.trans hb2
        clear h2 hb2 HW1 hc0 hs1
        go_wp2_with fail
        go_loopw [65] (fun iv wr => ∃ k : Nat, k ≤ 1 ∧ iv = .int .i64 k ∧ Hid (IsBld w.heap.size w.heap.size (Lib.byteCells (joinT x0.data.toList r k)) wr) ∧ Hid (Below w.heap.size w wr)) (fun iv _ => 1 - (intOf iv).toNat)
        case atStart => exact ⟨0, Nat.zero_le _, rfl, H2, Hb2⟩
        case round =>
          obtain ⟨k, hk', rfl, HB, HWd⟩ := hrel
          obtain ⟨wo, hwo⟩ : ∃ x, x = wr := ⟨_, rfl⟩
          subst hwo
          by_cases hkr : k < 1
          · obtain ⟨y, hy⟩ := HGy.out k (by omega)
            have hcy : wo.cell? ⟨bk, 1 + k, none⟩ = some (.string y) := by
              rw [HWd.out.cell (p := ⟨bk, 1 + k, none⟩) hbk, show 1 + k = k + 1 by omega]
              exact HC.out (k + 1) y (by simpa using hy)
            have hBw : w.heap.size ≤ wo.heap.size := HWd.out.size
            have hl1 := HJ.out (k + 1)
            have HNx : Hid (joinT x0.data.toList r (k + 1) = (joinT x0.data.toList r k ++ [32]) ++ y.data.toList) := joinT_succ hy
            rw [HNx.out] at hl1
            simp only [List.length_append, List.length_cons, List.length_nil] at hl1
            have HWa : Hid (Calls Tryz.prog 101 #[.pointer (some ⟨w.heap.size, 0, none⟩), .string ⟨#[32]⟩] wo fun e w' => (∃ n : Int, e = .returned (.tuple #[.int .i64 n, .nilIface])) ∧ IsBld w.heap.size w.heap.size (Lib.byteCells (joinT x0.data.toList r k ++ [32])) w' ∧ Below w.heap.size wo w' ∧ BKept w.heap.size wo w') := bld_bytes w.heap.size w.heap.size (joinT x0.data.toList r k) [32] wo HB.out (by simp; omega) hBw
            have HWb : Hid (∀ w', w.heap.size ≤ w'.heap.size → IsBld w.heap.size w.heap.size (Lib.byteCells (joinT x0.data.toList r k ++ [32])) w' → Calls Tryz.prog 101 #[.pointer (some ⟨w.heap.size, 0, none⟩), .string y] w' fun e w'' => (∃ n : Int, e = .returned (.tuple #[.int .i64 n, .nilIface])) ∧ IsBld w.heap.size w.heap.size (Lib.byteCells (joinT x0.data.toList r (k + 1))) w'' ∧ Below w.heap.size w' w'' ∧ BKept w.heap.size w' w'') := fun w' hs hi => by
              have := bld_bytes w.heap.size w.heap.size (joinT x0.data.toList r k ++ [32]) y.data.toList w' hi (by rw [List.length_append, List.length_cons, List.length_nil]; omega) hs
              rw [bsB_data, ← HNx.out] at this
              exact this
            clear hl1 hy HNx
            go_wp2_with fail
            go_at_call 101
            refine Calls.mono HWa.out ?_
            rintro e w3 ⟨⟨m3, rfl⟩, h3, hb3, -⟩
            have hBw3 : w.heap.size ≤ w3.heap.size := Nat.le_trans hBw hb3.size
            have HWb3 : Hid _ := HWb.out w3 hBw3 h3
            have Hb3 : Hid (Below w.heap.size wo w3) := hb3
            clear h3 hb3 HWa HWb
            go_wp2_with fail
            go_at_call 101
            refine Calls.mono HWb3.out ?_
            rintro e w4 ⟨⟨m4, rfl⟩, h4, hb4, -⟩
            have H4 : Hid (IsBld w.heap.size w.heap.size (Lib.byteCells (joinT x0.data.toList r (k + 1))) w4) := h4
            have Hb4 : Hid (Below w.heap.size w w4) := (HWd.out.trans Hb3.out).trans hb4
            clear h4 hb4 HWb3
            go_wp2
            exact ⟨⟨k + 1, by omega, by go_num, H4, Hb4⟩, by simp [intOf]; omega⟩
          · have hke : k = 1 := by omega
            have hrl : r.length = 1 := by have := HRn.out; omega
            subst hke
            have hB' := HB.out
            rw [← hrl] at hB'
            have HSt : Hid _ := Tryz.Builder_String w.heap.size w.heap.size (joinT x0.data.toList r r.length) wo hB' (fun e => by unfold joinT at e; exact HNe.out (List.append_eq_nil_iff.1 e).1)
            clear hB' hrl
            go_wp2_with fail
            go_at_call 103
            refine Calls.mono HSt.out ?_
            rintro e w5 ⟨rfl, hb5⟩
            have Hb5 : Hid (Below w.heap.size w w5) := HWd.out.trans hb5
            clear hb5 HSt
            go_wp2
            go_ret
            exact ⟨rfl, Hb5.out⟩
  · go_enter Tryz.func60, Tryz.ntmps60
    go_wp2_with fail
    go_loop [5, 41] (fun nv iv => ∃ k : Nat, k ≤ 3 ∧ iv = .int .i64 k ∧ nv = .int .i64 ((2 + szK (x0 :: r) k : Nat) : Int)) (fun _ iv => 3 - (intOf iv).toNat)
    case atStart => exact ⟨0, Nat.zero_le _, rfl, by simp [szK]⟩
    case round =>
      obtain ⟨k, hk, rfl, rfl⟩ := hrel
      by_cases hkn : k < 3
      · obtain ⟨x, hx⟩ := HGx.out k hkn
        have hc := HC.out k x hx
        have hstep := szK_succ hx
        have hbound := HL.out (k + 1)
        generalize hA1 : szK (x0 :: r) (k + 1) = A1 at hstep hbound
        generalize szK (x0 :: r) k = A0 at hstep
        have HA1 : Hid (szK (x0 :: r) (k + 1) = A1) := hA1
        clear hA1 hx
        go_wp2
        exact ⟨⟨k + 1, by omega, by go_num, by rw [HA1.out]; refine congrArg _ ?_; omega⟩, by simp [intOf]; omega⟩
      · have hke : k = 3 := by omega
        subst hke
        have hT := HL.out 3
        generalize szK (x0 :: r) 3 = T at hT
        go_wp2_with fail
        have hMT : ((2 : Int) + (T : Int)) = ((2 + T : Nat) : Int) := by omega
        first | rw [hMT] | skip
        have HGr : Hid _ := bld_grow w.heap.size w.heap.size (2 + T) (w.alloc (.cells #[.pointer none, .slice none 0 0] 145)) (Nat.le_refl _) ((MapKept.heap_alloc w _).1) (by simp) (by omega)
        have hbw : Hid (Below w.heap.size w (w.alloc (.cells #[.pointer none, .slice none 0 0] 145))) := (Below.refl w.heap.size w).alloc (Nat.le_refl _) _
        clear hMT hT
        go_at_call 104
        refine Calls.mono HGr.out ?_
        rintro e w1 ⟨rfl, h1, hb1⟩
        have hb1' : Below w.heap.size w w1 := hbw.out.trans hb1
        have hc0 : w1.cell? ⟨bk, 0, none⟩ = some (.string x0) := (hb1'.cell (p := ⟨bk, 0, none⟩) hbk).trans Hx0.out
        have H1 : Hid (IsBld w.heap.size w.heap.size (Lib.byteCells []) w1) := Or.inr h1
        have Hb1 : Hid (Below w.heap.size w w1) := hb1'
        have hs1 : w.heap.size ≤ w1.heap.size := hb1'.size
        have HW1 : Hid (Calls Tryz.prog 101 #[.pointer (some ⟨w.heap.size, 0, none⟩), .string x0] w1 fun e w' => (∃ n : Int, e = .returned (.tuple #[.int .i64 n, .nilIface])) ∧ IsBld w.heap.size w.heap.size (Lib.byteCells ([] ++ x0.data.toList)) w' ∧ Below w.heap.size w1 w' ∧ BKept w.heap.size w1 w') := by
          have := bld_bytes w.heap.size w.heap.size [] x0.data.toList w1 H1.out (by have := HJ.out 0; unfold joinT at this; simp at this ⊢; omega) hs1
          rw [bsB_data] at this
          exact this
        clear h1 hb1 hb1' HGr hbw
        go_wp2_with fail
        go_at_call 101
        refine Calls.mono HW1.out ?_
        rintro e w2 ⟨⟨m, rfl⟩, h2, hb2, -⟩
        have H2 : Hid (IsBld w.heap.size w.heap.size (Lib.byteCells (joinT x0.data.toList r 0)) w2) := by
          unfold Hid joinT
          simpa using h2
        have Hb2 : Hid (Below w.heap.size w w2) := Hb1.out.trans hb2
        clear h2 hb2 HW1 hc0 hs1
        go_wp2_with fail
        go_loopw [65] (fun iv wr => ∃ k : Nat, k ≤ 2 ∧ iv = .int .i64 k ∧ Hid (IsBld w.heap.size w.heap.size (Lib.byteCells (joinT x0.data.toList r k)) wr) ∧ Hid (Below w.heap.size w wr)) (fun iv _ => 2 - (intOf iv).toNat)
        case atStart => exact ⟨0, Nat.zero_le _, rfl, H2, Hb2⟩
        case round =>
          obtain ⟨k, hk', rfl, HB, HWd⟩ := hrel
          obtain ⟨wo, hwo⟩ : ∃ x, x = wr := ⟨_, rfl⟩
          subst hwo
          by_cases hkr : k < 2
          · obtain ⟨y, hy⟩ := HGy.out k (by omega)
            have hcy : wo.cell? ⟨bk, 1 + k, none⟩ = some (.string y) := by
              rw [HWd.out.cell (p := ⟨bk, 1 + k, none⟩) hbk, show 1 + k = k + 1 by omega]
              exact HC.out (k + 1) y (by simpa using hy)
            have hBw : w.heap.size ≤ wo.heap.size := HWd.out.size
            have hl1 := HJ.out (k + 1)
            have HNx : Hid (joinT x0.data.toList r (k + 1) = (joinT x0.data.toList r k ++ [32]) ++ y.data.toList) := joinT_succ hy
            rw [HNx.out] at hl1
            simp only [List.length_append, List.length_cons, List.length_nil] at hl1
            have HWa : Hid (Calls Tryz.prog 101 #[.pointer (some ⟨w.heap.size, 0, none⟩), .string ⟨#[32]⟩] wo fun e w' => (∃ n : Int, e = .returned (.tuple #[.int .i64 n, .nilIface])) ∧ IsBld w.heap.size w.heap.size (Lib.byteCells (joinT x0.data.toList r k ++ [32])) w' ∧ Below w.heap.size wo w' ∧ BKept w.heap.size wo w') := bld_bytes w.heap.size w.heap.size (joinT x0.data.toList r k) [32] wo HB.out (by simp; omega) hBw
            have HWb : Hid (∀ w', w.heap.size ≤ w'.heap.size → IsBld w.heap.size w.heap.size (Lib.byteCells (joinT x0.data.toList r k ++ [32])) w' → Calls Tryz.prog 101 #[.pointer (some ⟨w.heap.size, 0, none⟩), .string y] w' fun e w'' => (∃ n : Int, e = .returned (.tuple #[.int .i64 n, .nilIface])) ∧ IsBld w.heap.size w.heap.size (Lib.byteCells (joinT x0.data.toList r (k + 1))) w'' ∧ Below w.heap.size w' w'' ∧ BKept w.heap.size w' w'') := fun w' hs hi => by
              have := bld_bytes w.heap.size w.heap.size (joinT x0.data.toList r k ++ [32]) y.data.toList w' hi (by rw [List.length_append, List.length_cons, List.length_nil]; omega) hs
              rw [bsB_data, ← HNx.out] at this
              exact this
            clear hl1 hy HNx
            go_wp2_with fail
            go_at_call 101
            refine Calls.mono HWa.out ?_
            rintro e w3 ⟨⟨m3, rfl⟩, h3, hb3, -⟩
            have hBw3 : w.heap.size ≤ w3.heap.size := Nat.le_trans hBw hb3.size
            have HWb3 : Hid _ := HWb.out w3 hBw3 h3
            have Hb3 : Hid (Below w.heap.size wo w3) := hb3
            clear h3 hb3 HWa HWb
            go_wp2_with fail
            go_at_call 101
            refine Calls.mono HWb3.out ?_
            rintro e w4 ⟨⟨m4, rfl⟩, h4, hb4, -⟩
            have H4 : Hid (IsBld w.heap.size w.heap.size (Lib.byteCells (joinT x0.data.toList r (k + 1))) w4) := h4
            have Hb4 : Hid (Below w.heap.size w w4) := (HWd.out.trans Hb3.out).trans hb4
            clear h4 hb4 HWb3
            go_wp2
            exact ⟨⟨k + 1, by omega, by go_num, H4, Hb4⟩, by simp [intOf]; omega⟩
          · have hke : k = 2 := by omega
            have hrl : r.length = 2 := by have := HRn.out; omega
            subst hke
            have hB' := HB.out
            rw [← hrl] at hB'
            have HSt : Hid _ := Tryz.Builder_String w.heap.size w.heap.size (joinT x0.data.toList r r.length) wo hB' (fun e => by unfold joinT at e; exact HNe.out (List.append_eq_nil_iff.1 e).1)
            clear hB' hrl
            go_wp2_with fail
            go_at_call 103
            refine Calls.mono HSt.out ?_
            rintro e w5 ⟨rfl, hb5⟩
            have Hb5 : Hid (Below w.heap.size w w5) := HWd.out.trans hb5
            clear hb5 HSt
            go_wp2
            go_ret
            exact ⟨rfl, Hb5.out⟩

end Go.Proofs.YtdfcfinjoghipacGreatDoor
end
