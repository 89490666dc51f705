/- Joined: HomeR Pts0 PtsR. -/
import Derived.Test.YtbdlojnigflanacGreatDoorKa12
import Derived.Test.YtbdlojnigflanacGreatDoorKa08
import Derived.Test.YtbdlojnigflanacGreatDoorKa11
import Derived.Test.YtbdlojnigflanacGreatDoorKa10
section
/- What the counterpart's HomeOf says: the home. -/
set_option linter.all false
set_option maxRecDepth 100000
namespace Go.Proofs.YtbdlojnigflanacGreatDoor
open Go.RowKit Go.Maps

end Go.Proofs.YtbdlojnigflanacGreatDoor
end
section
/- Points by number: plain facts. -/
set_option linter.all false
namespace Go.Proofs.YtbdlojnigflanacGreatDoor

def lenP (ps : List PolT) : Nat → Nat
  | 0 => 1
  | k + 1 => lenP ps k * (cutsP ps k).length
def tailP (ps : List PolT) (k : Nat) : Nat := (prodL ((cuts5 ps).drop k)).length
theorem cuts5_get (ps : List PolT) (k : Nat) (hk : k < 5) : (cuts5 ps)[k]? = some (cutsP ps k) := by
  have : k = 0 ∨ k = 1 ∨ k = 2 ∨ k = 3 ∨ k = 4 := by omega
  rcases this with rfl | rfl | rfl | rfl | rfl <;> rfl
theorem tailP_step (ps : List PolT) (k : Nat) (hk : k < 5) : tailP ps k = (cutsP ps k).length * tailP ps (k + 1) := by
  unfold tailP
  have h := cuts5_get ps k hk
  obtain ⟨hlt, e⟩ := List.getElem?_eq_some_iff.1 h
  rw [List.drop_eq_getElem_cons hlt, e, prodL_length]
theorem tailP_five (ps : List PolT) : tailP ps 5 = 1 := rfl
theorem cut_pos (ps : List PolT) (k : Int) : 0 < (cutsP ps k).length := List.length_pos_iff.2 (cutsP_ne ps k)
theorem tailP_pos (ps : List PolT) : ∀ m k : Nat, k + m = 5 → 0 < tailP ps k
  | 0, k, h => by
    obtain rfl : k = 5 := by omega
    exact Nat.one_pos
  | m + 1, k, h => by
    rw [tailP_step ps k (by omega)]
    exact Nat.mul_pos (cut_pos ps k) (tailP_pos ps m (k + 1) (by omega))
theorem lenP_tail (ps : List PolT) : ∀ k, k ≤ 5 → lenP ps k * tailP ps k = (pointsP ps).length
  | 0, _ => by
    show 1 * tailP ps 0 = _
    rw [Nat.one_mul]
    rfl
  | k + 1, h => by
    rw [← lenP_tail ps k (by omega), tailP_step ps k (by omega), lenP, Nat.mul_assoc]
theorem lenP_le (ps : List PolT) (k : Nat) (hk : k ≤ 5) : lenP ps k ≤ (pointsP ps).length := by
  rw [← lenP_tail ps k hk]
  exact Nat.le_mul_of_pos_right _ (tailP_pos ps (5 - k) k (by omega))
theorem lenP_five (ps : List PolT) : lenP ps 5 = (pointsP ps).length := by
  rw [← lenP_tail ps 5 (by omega), tailP_five, Nat.mul_one]
def pt (ps : List PolT) (i j : Nat) : Int := digit (cutsP ps j) (i / tailP ps (j + 1))
def ptL (ps : List PolT) (i : Nat) : List Int := [pt ps i 0, pt ps i 1, pt ps i 2, pt ps i 3, pt ps i 4]
theorem point_get (ps : List PolT) (i : Nat) (h : i < (pointsP ps).length) : (pointsP ps)[i]? = some (ptL ps i) := by
  obtain ⟨x, h1, h2, h3⟩ := prodL_digits (cuts5 ps) i (by
    intro L hL
    unfold cuts5 at hL
    simp at hL
    rcases hL with rfl | rfl | rfl | rfl | rfl <;> exact cutsP_ne _ _) h
  have e : x = ptL ps i := by
    refine List.ext_getElem? fun k => ?_
    by_cases hk : k < 5
    · rw [h3 k _ (cuts5_get ps k hk)]
      have : k = 0 ∨ k = 1 ∨ k = 2 ∨ k = 3 ∨ k = 4 := by omega
      rcases this with rfl | rfl | rfl | rfl | rfl <;> rfl
    · have h5 : (cuts5 ps).length = 5 := rfl
      rw [List.getElem?_eq_none (by omega), List.getElem?_eq_none (by simp [ptL]; omega)]
  rw [← e]
  exact h1
def callCells (l : List (List Int)) : List Value := l.flatMap fun x => x.map (.int .i64)
theorem callCells_append (l m : List (List Int)) : callCells (l ++ m) = callCells l ++ callCells m := by unfold callCells; exact List.flatMap_append

end Go.Proofs.YtbdlojnigflanacGreatDoor
end
section
/- What the counterpart's PointsOf says: all points, by number. -/
set_option linter.all false
set_option maxRecDepth 100000
namespace Go.Proofs.YtbdlojnigflanacGreatDoor
open Go.RowKit Go.Maps

theorem infoCall : ∃ i, Tryz.prog.info? 26 = some i ∧ i.zero = some (.agg #[.int .i64 0, .int .i64 0, .int .i64 0, .int .i64 0, .int .i64 0]) ∧ i.size = 5 ∧ i.bytes = 40 := infoOf (by kernel_rfl)
def nilI : Value := .slice none 0 0
def cells5 (V : Nat → Value) (k : Nat) : Array Value := #[if 0 < k then V 0 else nilI, if 1 < k then V 1 else nilI, if 2 < k then V 2 else nilI, if 3 < k then V 3 else nilI, if 4 < k then V 4 else nilI]
def setV (V : Nat → Value) (k : Nat) (v : Value) (j : Nat) : Value := if j = k then v else V j
theorem cells5_set (V : Nat → Value) (k : Nat) (hk : k < 5) (v : Value) : (cells5 V k).setIfInBounds k v = cells5 (setV V k v) (k + 1) := by
  have : k = 0 ∨ k = 1 ∨ k = 2 ∨ k = 3 ∨ k = 4 := by omega
  rcases this with rfl | rfl | rfl | rfl | rfl <;> simp [cells5, setV]
theorem cells5_get (V : Nat → Value) (k : Nat) (hk : k < 5) : (cells5 V 5)[k]? = some (V k) ∧ (cells5 V k)[k]? = some nilI := by
  have : k = 0 ∨ k = 1 ∨ k = 2 ∨ k = 3 ∨ k = 4 := by omega
  rcases this with rfl | rfl | rfl | rfl | rfl <;> simp [cells5]
theorem own_other {w : World} {base size n b o : Nat} {e T : TypeId} {v u : Value} {xs : List Value} {cur : Array Value} (h : w.ownsRow base e size v n xs) (hb : w.heap[b]? = some (.cells cur T (0, 0))) (hT : T ≠ e) : (w.setCell ⟨b, o, none⟩ u).ownsRow base e size v n xs :=
  ownsRow_block h fun g cur' _ hg => Below.heap_setCell _ _ _ _ (by
    show g ≠ b
    intro e'
    subst e'
    rw [hb] at hg
    cases hg
    exact hT rfl)
def ptM (ps : List PolT) (i m j : Nat) : Int := if m ≤ j then pt ps i j else 0
theorem ptM_set (ps : List PolT) (i k : Nat) (hk : k < 5) : (cellsX (ptM ps i (k + 1))).setIfInBounds k (.int .i64 (pt ps i k)) = cellsX (ptM ps i k) := by
  have : k = 0 ∨ k = 1 ∨ k = 2 ∨ k = 3 ∨ k = 4 := by omega
  rcases this with rfl | rfl | rfl | rfl | rfl <;> simp [cellsX, ptM]

set_option maxHeartbeats 8000000 in
theorem pointsOf_any (B : Nat) (lv : Value) (ps : List PolT) (w : World) (hl : PolsAt B w lv ps) (hB : B ≤ w.heap.size) (hn : ps.length ≤ 5000000000) :
    Calls Tryz.prog 220 #[lv] w fun e w' => ∃ v, e = .returned (.tuple #[v, .int .i64 (pointsE ps)]) ∧ w'.ownsRow w.heap.size 26 5 v (pointsL ps).length (callCells (pointsL ps)) ∧ Below w.heap.size w w' := by
  obtain ⟨inf, hi1, hi2, hi3, hi4⟩ := infoCall
  have HCk : Hid (Calls Tryz.prog 222 #[lv] w fun e w'' => e = .returned (.int .i64 (polsErr ps)) ∧ Below w.heap.size w w'') := checkAll_any B lv ps w hl hB
  by_cases h0 : polsErr ps = 0
  case neg =>
    have HE : Hid (pointsE ps = polsErr ps ∧ pointsL ps = []) := by
      have e : pointsE ps = polsErr ps := by rw [pointsE, if_neg h0]
      exact ⟨e, by rw [pointsL, if_neg (by rw [e]; exact h0)]⟩
    have hq : (polsErr ps != 0) = true := by simpa using h0
    obtain ⟨a, cap, rfl, -⟩ := hl
    clear h0
    generalize polsErr ps = pe at *
    generalize ps.length = len at *
    go_enter Tryz.func220, Tryz.ntmps220
    go_wp2_with (first | (go_at_call 222; go_must (refine Calls.mono HCk.out ?_; rintro e w1 ⟨rfl, hb1⟩)))
    go_ret2
    rw [HE.out.1, HE.out.2]
    exact ⟨_, rfl, ⟨rfl, .inl ⟨rfl, rfl⟩⟩, hb1⟩
  case pos =>
    have hok : AllOk ps := polsErr_ok.1 h0
    have HC : Hid (∀ (k : Nat) w', k < 5 → Below w.heap.size w w' → Calls Tryz.prog 254 #[lv, .int .i64 k] w' fun e w'' => ∃ v, e = .returned v ∧ w''.ownsRow w'.heap.size 3 1 v (cutsP ps k).length ((cutsP ps k).map (.int .i64)) ∧ Below w'.heap.size w' w'') := fun k w' hk h => cutsOf_any B lv ps k (WalkArith.wf_i64 (by omega)) w' (hl.later h hB) hok (Nat.le_trans hB h.size) hn
    have HF : Hid (∀ k : Nat, 0 < (cutsP ps k).length ∧ (cutsP ps k).length ≤ 65536) := fun k => ⟨cut_pos ps k, cuts_few hok k⟩
    have HE : Hid (pointsE ps = if 1000 < (pointsP ps).length then 2 else 0) := by unfold Hid; rw [pointsE, if_pos h0]
    rw [h0] at HCk
    obtain ⟨a, cap, rfl, hlc, hcm, -⟩ := hl
    generalize ps.length = len at *
    clear h0 hok
    go_enter Tryz.func220, Tryz.ntmps220
    go_wp2_with (first | (go_at_call 222; go_must (refine Calls.mono HCk.out ?_; rintro e w1 ⟨rfl, hb1⟩)))
    have hs1 := hb1.size
    have hbx : Hid ((w1.alloc (.cells #[.slice none 0 0, .slice none 0 0, .slice none 0 0, .slice none 0 0, .slice none 0 0] 291)).heap[w1.heap.size]? = some (.cells (cells5 (fun _ => nilI) 0) 291 (0, 0))) := heap_made _ _
    have hbw : Hid (∀ X, Below w.heap.size w (w1.alloc X)) := fun X => hb1.alloc hs1 _
    go_loopw [6, 17] (fun nv kv wr => ∃ (k : Nat) (V : Nat → Value), k ≤ 5 ∧ kv = .int .i64 k ∧ nv = .int .i64 (lenP ps k) ∧ lenP ps k ≤ 1000 ∧ Hid (∀ j, j < k → wr.ownsRow w.heap.size 3 1 (V j) (cutsP ps j).length ((cutsP ps j).map (.int .i64))) ∧ Hid (wr.heap[w1.heap.size]? = some (.cells (cells5 V k) 291 (0, 0))) ∧ Below w.heap.size w wr) (fun _ kv _ => 5 - (intOf kv).toNat)
    case atStart => exact ⟨0, fun _ => nilI, by omega, rfl, rfl, by simp [lenP], fun j hj => absurd hj (by omega), hbx, hbw.out _⟩
    case round =>
      obtain ⟨k, V, hk, rfl, rfl, hle, HV, HB, hbr⟩ := hrel
      obtain ⟨wo, hwo⟩ : ∃ x, x = wr := ⟨_, rfl⟩
      subst hwo
      have k0 : (0 : Int) ≤ (k : Int) := by omega
      have hos := hbr.size
      have hBlt := lt_of_block HB.out
      by_cases hlt : k < 5
      · have k1 : (k : Int) < 5 := by omega
        obtain ⟨hF0, hF1⟩ := HF.out k
        have HCk' : Hid _ := HC.out k wo hlt hbr
        have HLn : Hid (lenP ps (k + 1) = lenP ps k * (cutsP ps k).length) := rfl
        have HLe : Hid (lenP ps (k + 1) ≤ (pointsP ps).length) := lenP_le ps (k + 1) (by omega)
        obtain ⟨q, hq⟩ : ∃ q, q = lenP ps k := ⟨_, rfl⟩
        rw [← hq] at hle HLn
        obtain ⟨m, hm⟩ : ∃ m, m = (cutsP ps k).length := ⟨_, rfl⟩
        have hmH : Hid ((cutsP ps k).length = m) := hm.symm
        rw [← hm] at hF0 hF1 HLn
        rw [← hq]
        clear hq hm
        go_wp2_with fail
        go_at_call 254
        refine Calls.mono HCk'.out ?_
        rintro e w3 ⟨v, rfl, ho3, hb3⟩
        obtain ⟨a3, cap3, rfl, -, -, -⟩ := ownsRow_caps ho3
        rw [hmH.out]
        have G3 := (hb3.block w1.heap.size hBlt).trans HB.out
        have HG3 : Hid _ := G3
        have hc3 := heap_cell G3 k (cells5_get V k hlt).2
        have hf3 : w3.frozen? ⟨w1.heap.size, k, none⟩ = false := by simp [World.frozen?, G3]
        have HV3 : Hid (∀ j, j < k → w3.ownsRow w.heap.size 3 1 (V j) (cutsP ps j).length ((cutsP ps j).map (.int .i64))) := fun j hj => ownsRow_below (HV.out j hj) hb3
        have HO3 : Hid _ := ho3
        have hbw3 : Below w.heap.size w w3 := Below.thenOf hbr hb3 hos
        obtain ⟨qm, hwr, hqm1, HQ⟩ : ∃ qm : Nat, IntKind.i64.wrap ((q : Int) * (m : Int)) = (qm : Int) ∧ qm ≤ 65536000 ∧ Hid (qm = q * m) := by
          have hqm : q * m ≤ 1000 * 65536 := Nat.mul_le_mul hle hF1
          refine ⟨q * m, ?_, by omega, rfl⟩
          rw [Int.natCast_mul]
          have : (0 : Int) ≤ (q : Int) * (m : Int) ∧ (q : Int) * (m : Int) ≤ 65536000 := by
            rw [← Int.natCast_mul]
            omega
          exact IntWalk.i64_in _ (by omega)
        rw [← HQ.out] at HLn
        unfold nilI at hc3
        clear G3 ho3 hb3 HCk'
        by_cases hbig : 1000 < qm
        · have hbig' : (1000 : Int) < (qm : Int) := by omega
          have HEE : Hid (pointsE ps = 2 ∧ pointsL ps = []) := by
            have e : pointsE ps = 2 := by
              have := HLe.out
              rw [HLn.out] at this
              rw [HE.out, if_pos (by omega)]
            exact ⟨e, by rw [pointsL, if_neg (by rw [e]; decide)]⟩
          go_wp2_with fail
          go_ret2
          rw [HEE.out.1, HEE.out.2]
          exact ⟨_, rfl, ⟨rfl, .inl ⟨rfl, rfl⟩⟩, hbw3.setCell (p := ⟨w1.heap.size, k, none⟩) hs1 _⟩
        · have hbig' : ¬ (1000 : Int) < (qm : Int) := by omega
          go_wp2_with fail
          refine ⟨⟨k + 1, setV V k (.slice a3 m cap3), by omega, by go_num, by rw [HLn.out], by rw [HLn.out]; omega, fun j hj => ?_, ?_, hbw3.setCell (p := ⟨w1.heap.size, k, none⟩) hs1 _⟩, by simp [intOf]; omega⟩
          · by_cases hjk : j = k
            · subst hjk
              rw [setV, if_pos rfl]
              have := HO3.out
              rw [hmH.out] at this ⊢
              exact own_other (ownsRow_base this (by omega)) HG3.out (by decide)
            · rw [setV, if_neg hjk]
              exact own_other (HV3.out j (by omega)) HG3.out (by decide)
          · unfold Hid
            rw [row_setCell HG3.out, cells5_set V k hlt]
      · obtain rfl : k = 5 := by omega
        rw [lenP_five] at hle ⊢
        rw [show ((5 : Nat) : Int) = 5 from rfl]
        have HPG : Hid (∀ i, i < (pointsP ps).length → (pointsP ps)[i]? = some (ptL ps i)) := fun i hi => point_get ps i hi
        have HEE : Hid (pointsE ps = 0 ∧ pointsL ps = pointsP ps) := by
          have e : pointsE ps = 0 := by rw [HE.out, if_neg (by omega)]
          exact ⟨e, by rw [pointsL, if_pos e]⟩
        obtain ⟨N, hN⟩ : ∃ N, N = (pointsP ps).length := ⟨_, rfl⟩
        have hNH : Hid ((pointsP ps).length = N) := hN.symm
        rw [← hN] at hle ⊢
        have HPG' : Hid (∀ i, i < N → (pointsP ps)[i]? = some (ptL ps i)) := by rw [hN]; exact HPG
        clear HPG hN
        have HRd : Hid (∀ wr, ButT 26 wo wr → ∀ k : Nat, k < 5 → ∃ g c, wr.cell? ⟨w1.heap.size, k, none⟩ = some (.slice (some ⟨g, 0, none⟩) (cutsP ps k).length c) ∧ (cutsP ps k).length ≤ c ∧ c ≤ maxLen ∧ ∀ (i : Nat) (q : Int), (cutsP ps k)[i]? = some q → wr.cell? ⟨g, i, none⟩ = some (.int .i64 q)) := by
          intro wr ht k hk
          have ho := HV.out k hk
          have hF := HF.out k
          rcases ho.2 with ⟨_, hz⟩ | ⟨g, c, cur, ev, _, hgc, hnc, hcm', _, _⟩
          · omega
          refine ⟨g, c, ?_, hnc, hcm', fun i q hq => ?_⟩
          · rw [← ev]
            exact heap_cell (ht _ _ _ _ HB.out (by decide)) k (cells5_get V k hk).1
          · have h1 : wo.cell? ⟨g, i, none⟩ = some (.int .i64 q) := by
              rw [ev] at ho
              exact ownsRow_cell ho i _ (by simp [hq])
            have h2 := ht _ _ _ _ hgc (by decide)
            simp only [World.cell?, hgc] at h1
            simp only [World.cell?, h2]
            exact h1
        have HBl : Hid (∀ wr, ButT 26 wo wr → w1.heap.size < wr.heap.size) := fun wr ht => lt_of_block (ht _ _ _ _ HB.out (by decide))
        have hml := maxLen_eq
        clear HV HB
        go_wp2_with fail
        go_loopw [8, 35] (fun ov iv wr => ∃ i : Nat, i ≤ N ∧ iv = .int .i64 i ∧ Hid (wr.ownsRow w.heap.size 26 5 ov i (callCells ((pointsP ps).take i))) ∧ Below w.heap.size w wr ∧ Hid (ButT 26 wo wr)) (fun _ iv _ => N - (intOf iv).toNat)
        case atStart => exact ⟨0, by omega, rfl, ⟨rfl, .inl ⟨rfl, rfl⟩⟩, hbr, ButT.refl _ _⟩
        case round =>
          obtain ⟨i, hi, rfl, HO, hbi, hti⟩ := hrel
          obtain ⟨wi, hwi⟩ : ∃ x, x = wr := ⟨_, rfl⟩
          subst hwi
          have i0 : (0 : Int) ≤ (i : Int) := by omega
          have his := hbi.size
          by_cases hli : i < N
          · have i1 : (i : Int) < (N : Int) := by omega
            have HPi := HPG'.out i hli
            have HTk : Hid ((pointsP ps).take (i + 1) = (pointsP ps).take i ++ [ptL ps i]) := by unfold Hid; rw [List.take_succ, HPi]; rfl
            clear HPi
            have hX0 : Hid ((wi.alloc (.cells #[.int .i64 0, .int .i64 0, .int .i64 0, .int .i64 0, .int .i64 0] 26)).heap[wi.heap.size]? = some (.cells (cellsX (ptM ps i 5)) 26 (0, 0))) := heap_made _ _
            go_wp2_with fail
            go_loopw [9, 11] (fun cv kv wr => ∃ m : Nat, m ≤ 5 ∧ kv = .int .i64 ((m : Int) - 1) ∧ cv = .int .i64 ((i / tailP ps m : Nat) : Int) ∧ Hid (wr.heap[wi.heap.size]? = some (.cells (cellsX (ptM ps i m)) 26 (0, 0))) ∧ Below wi.heap.size wi wr) (fun _ kv _ => (intOf kv + 1).toNat)
            case atStart => exact ⟨5, by omega, by simp, by rw [tailP_five, Nat.div_one], hX0, (Below.refl _ _).alloc (Nat.le_refl _) _⟩
            case round =>
              obtain ⟨m, hm, rfl, rfl, HX, hbm⟩ := hrel
              obtain ⟨wm, hwm⟩ : ∃ x, x = wr := ⟨_, rfl⟩
              subst hwm
              have htm : ButT 26 wo wm := hti.out.trans (ButT.of_below hbm)
              have hms := hbm.size
              by_cases hm0 : 0 < m
              · obtain ⟨k, rfl⟩ : ∃ k, m = k + 1 := ⟨m - 1, by omega⟩
                have hk5 : k < 5 := by omega
                obtain ⟨g, c, z0, hLc, hcM, zq⟩ := HRd.out wm htm k hk5
                have hF := HF.out k
                have HTl : Hid (tailP ps k = (cutsP ps k).length * tailP ps (k + 1)) := tailP_step ps k hk5
                obtain ⟨q, hq⟩ : ∃ q : Nat, q = i / tailP ps (k + 1) := ⟨_, rfl⟩
                obtain ⟨L, hL⟩ : ∃ L, L = (cutsP ps k).length := ⟨_, rfl⟩
                have HPk : Hid (pt ps i k = digit (cutsP ps k) q) := by unfold Hid; rw [hq]; rfl
                have hdg : (cutsP ps k)[q % L]? = some (pt ps i k) := by
                  rw [HPk.out, digit, ← hL, List.getD_eq_getElem?_getD]
                  have : q % L < (cutsP ps k).length := by rw [← hL]; exact Nat.mod_lt _ (by omega)
                  simp [this]
                have z1 := zq _ _ hdg
                have HDv : Hid (i / tailP ps k = q / L) := by
                  unfold Hid
                  rw [HTl.out, ← hL, hq, Nat.div_div_eq_div_mul, Nat.mul_comm]
                have hqi : q ≤ i := by rw [hq]; exact Nat.div_le_self _ _
                rw [← hL] at z0 hLc hF
                rw [← hq]
                clear hdg zq HTl HPk hq hL
                have hrm : Int.tmod (q : Int) (L : Int) = ((q % L : Nat) : Int) := by rw [Int.tmod_eq_emod_of_nonneg (by omega)]; simp
                have hre : (q : Int) % (L : Int) = ((q % L : Nat) : Int) := by simp
                have hqt : Int.tdiv (q : Int) (L : Int) = ((q / L : Nat) : Int) := by rw [Int.tdiv_eq_ediv_of_nonneg (by omega)]; simp
                have hqe : (q : Int) / (L : Int) = ((q / L : Nat) : Int) := by simp
                obtain ⟨r, hr⟩ : ∃ r, r = q % L := ⟨_, rfl⟩
                have hrL : r < L := by rw [hr]; exact Nat.mod_lt _ (by omega)
                have hdle : q / L ≤ q := Nat.div_le_self _ _
                obtain ⟨d, hd⟩ : ∃ d, d = q / L := ⟨_, rfl⟩
                rw [← hr] at hrm hre z1
                rw [← hd] at hqt hqe HDv hdle
                clear hr hd
                have hk0 : (0 : Int) ≤ (k : Int) := by omega
                have hk1 : (k : Int) < 5 := by omega
                have hcast : (((k + 1 : Nat) : Int) - 1) = (k : Int) := by omega
                rw [hcast]
                have hBg := World.block_lt_of_cell? _ _ z0
                have hGg := World.block_lt_of_cell? _ _ z1
                generalize hpv : pt ps i k = pv at *
                have hpvH : Hid (pt ps i k = pv) := hpv
                clear hpv
                have L0 : (L : Int) ≠ 0 := by omega
                have L1 : (L : Int) ≠ -1 := by omega
                have L2 : ((L : Int) == 0) = false := by simp; omega
                go_wp2_with fail
                have hne := Later.ne wm
                have q0 : ∀ z : Later wm, z.1.cell? ⟨w1.heap.size, k, none⟩ = some (.slice (some ⟨g, 0, none⟩) L c) := fun z => z.cell z0 hBg
                have q1 : ∀ z : Later wm, z.1.cell? ⟨g, r, none⟩ = some (.int .i64 pv) := fun z => z.cell z1 hGg
                refine wp_region_later_last [_, _, _, _, _, _, _, _, _, _, _, _, _] _ rfl (by kernel_rfl) (by kernel_rfl) ?_
                repeat (go_big_quiet_step (fail))
                refine wpQuiet_nil ?_
                rintro wx ⟨⟨_, hx⟩, rfl⟩
                have hXlt := lt_of_block HX.out
                have GX := (hx.block wi.heap.size hXlt).trans HX.out
                have t0 := (cellsX_at GX).1 k hk5
                have t1 := (cellsX_at GX).2 k
                have FX : Hid ((wx.setCell ⟨wi.heap.size, k, none⟩ (.int .i64 pv)).heap[wi.heap.size]? = some (.cells (cellsX (ptM ps i k)) 26 (0, 0))) := by
                  unfold Hid
                  rw [row_setCell GX, ← hpvH.out, ptM_set ps i k hk5]
                have hbx : Below wi.heap.size wi (wx.setCell ⟨wi.heap.size, k, none⟩ (.int .i64 pv)) := (Below.thenOf hbm hx hms).setCell (p := ⟨wi.heap.size, k, none⟩) (Nat.le_refl _) _
                have hBi := HBl.out wi hti.out
                have hBne : ¬ w1.heap.size = wi.heap.size := by omega
                have hBne' : ¬ wi.heap.size = w1.heap.size := by omega
                have zx0 : wx.cell? ⟨w1.heap.size, k, none⟩ = some (.slice (some ⟨g, 0, none⟩) L c) := (hx.cell (p := ⟨w1.heap.size, k, none⟩) hBg).trans z0
                have hbxH : Hid _ := hbx
                clear q0 q1 hne GX hx z0 z1 hbx
                go_wp2_with fail
                exact ⟨⟨k, by omega, rfl, by rw [HDv.out], FX, hbxH.out⟩, by simp [intOf]⟩
              · obtain rfl : m = 0 := by omega
                have hX := (cellsX_at HX.out).1
                have e0 := hX 0 (by omega)
                have e1 := hX 1 (by omega)
                have e2 := hX 2 (by omega)
                have e3 := hX 3 (by omega)
                have e4 := hX 4 (by omega)
                have hpm : ∀ j, ptM ps i 0 j = pt ps i j := fun j => by simp [ptM]
                rw [hpm] at e0 e1 e2 e3 e4
                clear hX hpm
                have HTk' : Hid ((pointsP ps).take (i + 1) = (pointsP ps).take i ++ [[pt ps i 0, pt ps i 1, pt ps i 2, pt ps i 3, pt ps i 4]]) := HTk
                generalize pt ps i 0 = p0 at *
                generalize pt ps i 1 = p1 at *
                generalize pt ps i 2 = p2 at *
                generalize pt ps i 3 = p3 at *
                generalize pt ps i 4 = p4 at *
                have hneg : ¬ ((((0 : Nat) : Int) - 1) ≥ 0) := by omega
                go_wp2_with (first | (at_builtin; go_must (refine wpList_appG _ rfl _ _ rfl Tryz.underlying105 hi1 hi2 hi3 hi4 rfl (by decide) w.heap.size _ _ _ rfl _ 1 [.int .i64 p0, .int .i64 p1, .int .i64 p2, .int .i64 p3, .int .i64 p4] rfl _ rfl (by simp) wi hbm HO.out rfl (by simp [Value.oneCell']) (by omega) (by omega) his ?_; intro v9 w9 HO9 hb9 hg9)))
                refine ⟨⟨i + 1, by omega, by go_num, ?_, hbi.trans hb9, hti.out.trans (ButT.grown HO.out hg9.out)⟩, by simp [intOf]; omega⟩
                unfold Hid
                rw [HTk'.out, callCells_append]
                exact HO9.out
          · obtain rfl : i = N := by omega
            have HOF : Hid (wi.ownsRow w.heap.size 26 5 u8 (pointsL ps).length (callCells (pointsL ps))) := by
              have := HO.out
              rw [List.take_of_length_le (by rw [hNH.out]; omega)] at this
              unfold Hid
              rw [HEE.out.2, hNH.out]
              exact this
            go_wp2_with fail
            go_ret2
            rw [HEE.out.1]
            exact ⟨_, rfl, HOF.out, hbi⟩
end Go.Proofs.YtbdlojnigflanacGreatDoor
end
