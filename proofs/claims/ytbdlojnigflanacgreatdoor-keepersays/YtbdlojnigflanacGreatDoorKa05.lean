/- The counterpart's reader at a text that is written as it should be: it is read. -/
import Derived.Test.YtbdlojnigflanacGreatDoorKa03
import Derived.Test.YtbdlojnigflanacGreatDoorKa04
import Derived.Laws.ResultCell
set_option linter.all false
namespace Go.Proofs.YtbdlojnigflanacGreatDoor
open Go.RowKit Go.Maps

def strLen : Value → Nat
  | .string s => s.size
  | _ => 0
/-- What the reader has laid ahead of its loop. -/
def Laid5 (w W : World) (R0 M1 M2 M3 PB : Nat) : Prop :=
  Below R0 w W ∧ W.heap[R0]? = some (.cells #[.slice none 0 0, .int .i64 0] 24 (0, 0)) ∧
  W.ownsMap Tryz.prog 9 (plainElem Tryz.prog 3) M1 5 D1 ∧ W.ownsMap Tryz.prog 9 (plainElem Tryz.prog 3) M2 5 D2 ∧ W.ownsMap Tryz.prog 5 (plainElem Tryz.prog 3) M3 4 D3 ∧
  W.heap[PB]? = some (.cells #[.slice none 0 0, .int .i64 0] 24 (0, 0)) ∧ R0 = w.heap.size ∧ R0 < PB ∧ M1 < PB ∧ M2 < PB ∧ M3 < PB ∧ PB < W.heap.size

set_option maxRecDepth 20000 in
set_option maxHeartbeats 8000000 in
theorem policyRead_good (s : ByteArray) (rs : List RuleT) (d : Int) (hg : GoodText d rs s) (hd : wf d) (hok : polErr (rs, d) = 0) (mm : Int) (w : World) (hm : w.cell? ⟨3, 0, none⟩ = some (.int .i64 mm)) :
    Calls Tryz.prog 86 #[.string s] w fun e w' => ∃ pv, e = .returned (.tuple #[pv, .int .i64 0]) ∧ PolNew w.heap.size w' pv (rs, d) ∧ Below w.heap.size w w' := by
  have hmm := @run_makeMap Tryz.prog
  have hm0 := World.ownsMap_made (H := Unit) (w.alloc (.cells #[.slice none 0 0, .int .i64 0] 24)) Tryz.prog 9 (plainElem Tryz.prog 3)
  simp only [World.size_alloc] at hm0
  have Hm : Hid (w.cell? ⟨3, 0, none⟩ = some (.int .i64 mm)) := hm
  have hml : 3 < w.heap.size := World.block_lt_of_cell? _ _ hm
  have Hg : Hid (GoodText d rs s) := hg
  clear hm hg
  go_enter Tryz.func86, Tryz.ntmps86
  go_wp2_with (first
    | (refine wpList_insert_own _ rfl _ _ _ 122 rfl 9 3 keyStr Tryz.underlying122 (plainElem Tryz.prog 3) (w.heap.size + 1) 0 _ rfl hm0 (by decide) _ _ _ rfl rfl (Go.WideMaps.keyOf_string_mk Tryz.underlying9 (by decide)) _ [] (plainElem_int Tryz.underlying3 (by decide)) ?_; go_must (intro w1 hown1 hg1; clear hm0; have HB := ((Below.refl (w.heap.size + 1) (w.alloc (.cells #[.slice none 0 0, .int .i64 0] 24))).alloc (by simp) _).grown hg1 (by simp) (fun k hk => by cases hk; exact Nat.le_refl _)))
    | (refine wpList_insert_own _ rfl _ _ _ 122 rfl 9 3 keyStr Tryz.underlying122 (plainElem Tryz.prog 3) (w.heap.size + 1) 1 _ rfl hown1 (by decide) _ _ _ rfl rfl (Go.WideMaps.keyOf_string_mk Tryz.underlying9 (by decide)) _ [] (plainElem_int Tryz.underlying3 (by decide)) ?_; go_must (intro w2 hown2 hg2; clear hown1; replace HB := HB.grown hg2 (by have := HB.size; simp at this; omega) (fun k hk => by cases hk; exact Nat.le_refl _)))
    | (refine wpList_insert_own _ rfl _ _ _ 122 rfl 9 3 keyStr Tryz.underlying122 (plainElem Tryz.prog 3) (w.heap.size + 1) 2 _ rfl hown2 (by decide) _ _ _ rfl rfl (Go.WideMaps.keyOf_string_mk Tryz.underlying9 (by decide)) _ [] (plainElem_int Tryz.underlying3 (by decide)) ?_; go_must (intro w3 hown3 hg3; clear hown2; replace HB := HB.grown hg3 (by have := HB.size; simp at this; omega) (fun k hk => by cases hk; exact Nat.le_refl _)))
    | (refine wpList_insert_own _ rfl _ _ _ 122 rfl 9 3 keyStr Tryz.underlying122 (plainElem Tryz.prog 3) (w.heap.size + 1) 3 _ rfl hown3 (by decide) _ _ _ rfl rfl (Go.WideMaps.keyOf_string_mk Tryz.underlying9 (by decide)) _ [] (plainElem_int Tryz.underlying3 (by decide)) ?_; go_must (intro w4 hown4 hg4; clear hown3; replace HB := HB.grown hg4 (by have := HB.size; simp at this; omega) (fun k hk => by cases hk; exact Nat.le_refl _)))
    | (refine wpList_insert_own _ rfl _ _ _ 122 rfl 9 3 keyStr Tryz.underlying122 (plainElem Tryz.prog 3) (w.heap.size + 1) 4 _ rfl hown4 (by decide) _ _ _ rfl rfl (Go.WideMaps.keyOf_string_mk Tryz.underlying9 (by decide)) _ [] (plainElem_int Tryz.underlying3 (by decide)) ?_; go_must (intro w5 hown5 hg5; clear hown4; replace HB := HB.grown hg5 (by have := HB.size; simp at this; omega) (fun k hk => by cases hk; exact Nat.le_refl _); have K1 := hown5; have hl1 := hown5.lt; have hm1 := World.ownsMap_made (H := Unit) w5 Tryz.prog 9 (plainElem Tryz.prog 3); have hM1 : w.heap.size + 1 ≤ w5.heap.size := by have := HB.size; simp at this; omega))
    | (refine wpList_insert_own _ rfl _ _ _ 122 rfl 9 3 keyStr Tryz.underlying122 (plainElem Tryz.prog 3) w5.heap.size 0 _ rfl hm1 (by decide) _ _ _ rfl rfl (Go.WideMaps.keyOf_string_mk Tryz.underlying9 (by decide)) _ [] (plainElem_int Tryz.underlying3 (by decide)) ?_; go_must (intro w6 hown6 hg6; clear hm1; replace HB := (HB.alloc (by have := HB.size; simp at this; omega) _).grown hg6 (by have := HB.size; simp at this ⊢; omega) (fun k hk => by cases hk; have := HB.size; simp at this; omega); replace K1 := (K1.alloc _).kept hg6 (by have := K1.lt; simp; omega)))
    | (refine wpList_insert_own _ rfl _ _ _ 122 rfl 9 3 keyStr Tryz.underlying122 (plainElem Tryz.prog 3) w5.heap.size 1 _ rfl hown6 (by decide) _ _ _ rfl rfl (Go.WideMaps.keyOf_string_mk Tryz.underlying9 (by decide)) _ [] (plainElem_int Tryz.underlying3 (by decide)) ?_; go_must (intro w7 hown7 hg7; clear hown6; replace HB := HB.grown hg7 (by have := HB.size; simp at this; omega) (fun k hk => by cases hk; exact hM1); replace K1 := K1.kept hg7 (by simp; omega)))
    | (refine wpList_insert_own _ rfl _ _ _ 122 rfl 9 3 keyStr Tryz.underlying122 (plainElem Tryz.prog 3) w5.heap.size 2 _ rfl hown7 (by decide) _ _ _ rfl rfl (Go.WideMaps.keyOf_string_mk Tryz.underlying9 (by decide)) _ [] (plainElem_int Tryz.underlying3 (by decide)) ?_; go_must (intro w8 hown8 hg8; clear hown7; replace HB := HB.grown hg8 (by have := HB.size; simp at this; omega) (fun k hk => by cases hk; exact hM1); replace K1 := K1.kept hg8 (by simp; omega)))
    | (refine wpList_insert_own _ rfl _ _ _ 122 rfl 9 3 keyStr Tryz.underlying122 (plainElem Tryz.prog 3) w5.heap.size 3 _ rfl hown8 (by decide) _ _ _ rfl rfl (Go.WideMaps.keyOf_string_mk Tryz.underlying9 (by decide)) _ [] (plainElem_int Tryz.underlying3 (by decide)) ?_; go_must (intro w9 hown9 hg9; clear hown8; replace HB := HB.grown hg9 (by have := HB.size; simp at this; omega) (fun k hk => by cases hk; exact hM1); replace K1 := K1.kept hg9 (by simp; omega)))
    | (refine wpList_insert_own _ rfl _ _ _ 122 rfl 9 3 keyStr Tryz.underlying122 (plainElem Tryz.prog 3) w5.heap.size 4 _ rfl hown9 (by decide) _ _ _ rfl rfl (Go.WideMaps.keyOf_string_mk Tryz.underlying9 (by decide)) _ [] (plainElem_int Tryz.underlying3 (by decide)) ?_; go_must (intro w10 hown10 hg10; clear hown9; replace HB := HB.grown hg10 (by have := HB.size; simp at this; omega) (fun k hk => by cases hk; exact hM1); replace K1 := K1.kept hg10 (by simp; omega); have K2 := hown10; have hl2 := hown10.lt; have hm2 := World.ownsMap_made (H := Unit) w10 Tryz.prog 5 (plainElem Tryz.prog 3); have hM2 : w.heap.size + 1 ≤ w10.heap.size := by have := HB.size; simp at this; omega))
    | (refine wpList_insert_own _ rfl _ _ _ 185 rfl 5 3 keyU8 Tryz.underlying185 (plainElem Tryz.prog 3) w10.heap.size 0 _ rfl hm2 (by decide) _ _ _ rfl rfl (keyOf_int_mk Tryz.underlying5 (by decide)) _ [] (plainElem_int Tryz.underlying3 (by decide)) ?_; go_must (intro w11 hown11 hg11; clear hm2; replace HB := (HB.alloc (by have := HB.size; simp at this; omega) _).grown hg11 (by have := HB.size; simp at this ⊢; omega) (fun k hk => by cases hk; have := HB.size; simp at this; omega); replace K1 := (K1.alloc _).kept hg11 (by have := K1.lt; simp; omega); replace K2 := (K2.alloc _).kept hg11 (by have := K2.lt; simp; omega)))
    | (refine wpList_insert_own _ rfl _ _ _ 185 rfl 5 3 keyU8 Tryz.underlying185 (plainElem Tryz.prog 3) w10.heap.size 1 _ rfl hown11 (by decide) _ _ _ rfl rfl (keyOf_int_mk Tryz.underlying5 (by decide)) _ [] (plainElem_int Tryz.underlying3 (by decide)) ?_; go_must (intro w12 hown12 hg12; clear hown11; replace HB := HB.grown hg12 (by have := HB.size; simp at this; omega) (fun k hk => by cases hk; exact hM2); replace K1 := K1.kept hg12 (by simp; omega); replace K2 := K2.kept hg12 (by simp; omega)))
    | (refine wpList_insert_own _ rfl _ _ _ 185 rfl 5 3 keyU8 Tryz.underlying185 (plainElem Tryz.prog 3) w10.heap.size 2 _ rfl hown12 (by decide) _ _ _ rfl rfl (keyOf_int_mk Tryz.underlying5 (by decide)) _ [] (plainElem_int Tryz.underlying3 (by decide)) ?_; go_must (intro w13 hown13 hg13; clear hown12; replace HB := HB.grown hg13 (by have := HB.size; simp at this; omega) (fun k hk => by cases hk; exact hM2); replace K1 := K1.kept hg13 (by simp; omega); replace K2 := K2.kept hg13 (by simp; omega)))
    | (refine wpList_insert_own _ rfl _ _ _ 185 rfl 5 3 keyU8 Tryz.underlying185 (plainElem Tryz.prog 3) w10.heap.size 3 _ rfl hown13 (by decide) _ _ _ rfl rfl (keyOf_int_mk Tryz.underlying5 (by decide)) _ [] (plainElem_int Tryz.underlying3 (by decide)) ?_; go_must (intro w14 hown14 hg14; clear hown13; replace HB := HB.grown hg14 (by have := HB.size; simp at this; omega) (fun k hk => by cases hk; exact hM2); replace K1 := K1.kept hg14 (by simp; omega); replace K2 := K2.kept hg14 (by simp; omega); have K3 := hown14; have hl3 := hown14.lt)))
  have L5 : Laid5 w (w14.alloc (.cells #[.slice none 0 0, .int .i64 0] 24)) w.heap.size (w.heap.size + 1) w5.heap.size w10.heap.size w14.heap.size := by
    have s14 := HB.size
    simp at s14
    refine ⟨((Below.refl _ _).alloc (Nat.le_refl _) _).trans ((HB.alloc (by simpa using s14) _).mono (by omega)), ?_, K1.alloc _, K2.alloc _, K3.alloc _, ?_, rfl, by omega, K1.lt, K2.lt, K3.lt, by simp⟩
    · rw [Below.heap_alloc _ _ _ (by omega), HB.block _ (by omega)]
      exact (MapKept.heap_alloc w _).1
    · exact (MapKept.heap_alloc w14 _).1
  clear HB K1 K2 K3 hl1 hl2 hl3 hM1 hM2 hown5 hown10 hown14 hg1 hg2 hg3 hg4 hg5 hg6 hg7 hg8 hg9 hg10 hg11 hg12 hg13 hg14 hmm
  have L5' : Hid _ := L5
  clear L5
  generalize w14.alloc (.cells #[.slice none 0 0, .int .i64 0] 24) = W at *
  generalize w5.heap.size = M2 at *
  generalize w10.heap.size = M3 at *
  generalize w14.heap.size = PB at *
  generalize hM1 : w.heap.size + 1 = M1 at *
  generalize hR0 : w.heap.size = R0 at *
  have hWf := L5'.out
  obtain ⟨hbW, hcR, _, _, _, hcP, _, hRP, h1P, h2P, h3P, hPW⟩ := hWf
  go_loopw [0] (fun sv wr => ∃ (i : Nat) (s' : ByteArray) (rv : Value) (xs : List Value), i ≤ rs.length ∧ sv = .string s' ∧ Hid (GoodText d (rs.drop i) s') ∧ Below PB W wr ∧ Hid (wr.heap[PB]? = some (.cells #[rv, .int .i64 0] 24 (0, 0))) ∧ Hid (wr.ownsRow (PB + 1) 95 2 rv i xs) ∧ Hid (RulesCells (PB + 1) wr (rs.take i) xs) ∧ PB < wr.heap.size) (fun sv _ => strLen sv)
  case atStart => exact ⟨0, s, .slice none 0 0, [], Nat.zero_le _, rfl, by simpa using Hg, Below.refl _ _, hcP, ⟨rfl, .inl ⟨rfl, rfl⟩⟩, rfl, hPW⟩
  case round =>
    obtain ⟨i, s', rv, xs, hi, rfl, G, hbr, HP, HO, HR, hPr⟩ := hrel
    obtain ⟨wo, hwo⟩ : ∃ x, x = wr := ⟨_, rfl⟩
    subst hwo
    have hbw := hbW.trans (hbr.mono (by omega))
    have hszo := hbr.size
    have hmo : wo.cell? ⟨3, 0, none⟩ = some (.int .i64 mm) := (hbw.cell (p := ⟨3, 0, none⟩) hml).trans Hm.out
    by_cases hlt : i < rs.length
    · obtain ⟨r, hr⟩ : ∃ r, rs[i]? = some r := ⟨rs[i], by simp [hlt]⟩
      have G' := G.out
      rw [List.drop_eq_getElem_cons hlt] at G'
      obtain ⟨t, s2, hs1, hcut, hlen, ⟨w0, ws, hsp, hcn, hts, hhas, hat, hw0, hwl, hw1, hgw⟩, G2⟩ := G'
      have hrE : rs[i]'hlt = r := by rw [List.getElem?_eq_getElem hlt] at hr; exact Option.some.inj hr
      rw [hrE] at hat hwl hgw
      have hcutC : Hid _ := cut_good s' t s2 true mm wo hs1 hmo hcut
      have splitC : Hid (∀ w1, Below wo.heap.size wo w1 → _) := fun w1 h1 => split_good t (w0 :: ws) ws.length mm w1 hts ((h1.cell (p := ⟨3, 0, none⟩) (by show 3 < _; omega)).trans hmo) hcn hsp
      have K1o : Hid (wo.ownsMap Tryz.prog 9 (plainElem Tryz.prog 3) M1 5 D1) := ownsMap_below L5'.out.2.2.1 hbr h1P
      have K2o : Hid (wo.ownsMap Tryz.prog 9 (plainElem Tryz.prog 3) M2 5 D2) := ownsMap_below L5'.out.2.2.2.1 hbr h2P
      have K3o : Hid (wo.ownsMap Tryz.prog 5 (plainElem Tryz.prog 3) M3 4 D3) := ownsMap_below L5'.out.2.2.2.2.1 hbr h3P
      have hgw' : Hid (∀ (j : Nat) u c, ws[j]? = some u → r.1[j]? = some c → GoodWord u c) := hgw
      have hatH : Hid (D1.atKey (.string w0.data.toList) zed = .lit (.int .i64 r.2)) := hat
      have G2' : Hid (GoodText d (rs.drop (i + 1)) s2) := G2
      clear hcut hsp hgw hat G2
      obtain ⟨cs, vd⟩ := r
      simp only [] at hwl
      have hwl' : Hid (ws.length = cs.length) := hwl
      clear hwl
      generalize hnw : ws.length = n at *
      have hn32 : n < 4294967281 := by have := Lib.countB_le blank (by decide) t.size t (Nat.le_refl _); omega
      have n0 : (0 : Int) < (n : Int) := by omega
      go_wp2_with (first
        | (go_at_call 148; go_must (refine Calls.mono hcutC.out ?_; rintro e w1 ⟨rfl, hb1⟩))
        | (go_at_call 149; go_must (refine Calls.mono (splitC.out _ hb1) ?_; rintro e w2 ⟨SB, rfl, hb2, hSB, hSB2, hcells⟩; have hb12 := Below.thenOf hb1 hb2 hb1.size; have c0 := hcells 0 w0 rfl; have K1 := ownsMap_below K1o.out hb12 (by omega)))
        | (at_lookup; go_must (refine wpList_lookup_own_ok_int _ rfl _ _ 122 rfl 9 3 .i64 keyStr Tryz.underlying122 Tryz.underlying3 (zero3 _) M1 5 _ rfl K1 _ _ rfl (WideMaps.keyOf_string_mk Tryz.underlying9 hw0) ?_; intro c hatc hwc; obtain rfl : c = vd := lit_inj (hatc.symm.trans hatH.out))))
      have hb7 : Below w2.heap.size w2 (w2.alloc (.cells #[.slice none 0 0, .int .i64 c] 95)) := (Below.refl _ _).alloc (Nat.le_refl _) _
      have hR7 : Hid ((w2.alloc (.cells #[.slice none 0 0, .int .i64 c] 95)).heap[w2.heap.size]? = some (.cells #[.slice none 0 0, .int .i64 c] 95 (0, 0))) := (MapKept.heap_alloc w2 _).1
      have hz7 : w2.heap.size < (w2.alloc (.cells #[.slice none 0 0, .int .i64 c] 95)).heap.size := by simp
      have hb27 : Below wo.heap.size wo (w2.alloc (.cells #[.slice none 0 0, .int .i64 c] 95)) := Below.thenOf hb12 hb7 hb12.size
      have hcells' : Hid (∀ (j : Nat) u, (w0 :: ws)[j]? = some u → (w2.alloc (.cells #[.slice none 0 0, .int .i64 c] 95)).cell? ⟨SB, j, none⟩ = some (.string u)) := fun j u h => (hb7.cell (p := ⟨SB, j, none⟩) hSB2).trans (hcells j u h)
      have hs12 := hb12.size
      clear hcells c0 K1 hatc hwc hb7
      generalize w2.alloc (.cells #[.slice none 0 0, .int .i64 c] 95) = W7 at *
      generalize w2.heap.size = RB at *
      go_loopw [70] (fun jv wi => ∃ (j : Nat) (cv : Value), j ≤ n ∧ jv = .int .i64 j ∧ Below RB W7 wi ∧ Hid (wi.heap[RB]? = some (.cells #[cv, .int .i64 c] 95 (0, 0))) ∧ Hid (wi.ownsRow (RB + 1) 99 3 cv j (condCells (cs.take j))) ∧ RB < wi.heap.size) (fun jv _ => n - (intOf jv).toNat)
      case atStart => exact ⟨0, .slice none 0 0, Nat.zero_le _, rfl, Below.refl _ _, hR7, ⟨rfl, .inl ⟨rfl, rfl⟩⟩, hz7⟩
      case round =>
        obtain ⟨j, cv, hj, rfl, hbi, HRB, HOw, hRi⟩ := hrel
        obtain ⟨wi, hwi⟩ : ∃ x, x = wr := ⟨_, rfl⟩
        subst hwi
        have j0 : (0 : Int) ≤ (j : Int) := by omega
        by_cases hjl : j < n
        · have j1 : (j : Int) < (n : Int) := by omega
          obtain ⟨u, hu⟩ : ∃ u, ws[j]? = some u := ⟨ws[j]'(by omega), by simp⟩
          have hcl : cs.length = n := by have := hwl'.out; omega
          obtain ⟨cc, hcc⟩ : ∃ cc, cs[j]? = some cc := ⟨cs[j]'(by omega), by simp⟩
          have hccH : Hid (cs[j]? = some cc) := hcc
          have hGW : Hid (GoodWord u cc) := hgw'.out j u cc hu hcc
          have hcu : wi.cell? ⟨SB, 1 + j, none⟩ = some (.string u) := (hbi.cell (p := ⟨SB, 1 + j, none⟩) (by show SB < RB; omega)).trans (hcells'.out (1 + j) u (by rw [Nat.add_comm]; simpa using hu))
          obtain ⟨K, m, hK, hu32, hzr, hopr, hop0, hf1, hf2, hcm, hm100, hpar, hdec⟩ := hGW.out
          have hzr' : Hid (∀ i, i < K → D3.atKey (.int .u8 (u.data.toList.getD i 0).toNat) zed = zed) := hzr
          have hopr' : Hid (D3.atKey (.int .u8 (u.data.toList.getD K 0).toNat) zed = .lit (.int .i64 cc.2.1)) := hopr
          have hf2' : Hid (D2.atKey (.string (u.data.toList.take K)) zed = .lit (.int .i64 cc.1)) := hf2
          have hpar' : Hid (Lib.parseIntB 64 (u.data.toList.drop (K + 1)) = .ok (m : Int)) := hpar
          have hdec' : Hid (Lib.decDigits m = u.data.toList.drop (K + 1)) := hdec
          have hboi : Below wo.heap.size wo wi := hb27.trans (hbi.mono (by omega))
          have K3 : wi.ownsMap Tryz.prog 5 (plainElem Tryz.prog 3) M3 4 D3 := ownsMap_below K3o.out hboi (by omega)
          have hlk : Hid (∀ i, ∃ c', (Instr.lookup 185 (.map (some M3)) (.int .u8 (u.data.toList.getD i 0).toNat) false).run Tryz.prog wi = .ok (.int .i64 c') wi ∧ D3.atKey (.int .u8 (u.data.toList.getD i 0).toNat) zed = .lit (.int .i64 c')) := by
            intro i
            obtain ⟨c', h1, h2, _⟩ := K3.lookup_int keyU8 Tryz.underlying185 Tryz.underlying3 (zero3 _) (keyOf_int_mk Tryz.underlying5 (a := (u.data.toList.getD i 0).toNat) (WalkArith.wf_u8 (by have := (u.data.toList.getD i 0).toNat_lt; omega)))
            exact ⟨c', h1, h2⟩
          clear hzr hopr hf2 hpar hdec K3
          go_wp2
          go_loop [18] (fun kv => ∃ k : Nat, k ≤ K ∧ kv = .int .i64 k) (fun kv => K - (intOf kv).toNat)
          case atStart => exact ⟨0, Nat.zero_le _, rfl⟩
          case round =>
            obtain ⟨k, hk, rfl⟩ := hrel
            have k0 : (0 : Int) ≤ (k : Int) := by omega
            have k1 : (k : Int) < (u.size : Int) := by omega
            obtain ⟨c', hrun, hat'⟩ := hlk.out k
            rw [getD_eq u k (by omega)] at hrun
            by_cases hkl : k < K
            · obtain rfl : c' = 0 := lit_inj (hat'.symm.trans (hzr'.out k hkl))
              go_wp2
              exact ⟨⟨k + 1, by omega, by go_num⟩, by simp [intOf]; omega⟩
            · obtain rfl : k = K := by omega
              obtain rfl : c' = cc.2.1 := lit_inj (hat'.symm.trans hopr'.out)
              have hc0 : (cc.2.1 == 0) = false := by simpa using hop0
              have hku : ((k : Int) == (u.size : Int)) = false := by simp; omega
              have K2 : wi.ownsMap Tryz.prog 9 (plainElem Tryz.prog 3) M2 5 D2 := ownsMap_below K2o.out hboi (by omega)
              have hf1' : Maps.has D2 (.string (u.extract 0 k).data.toList) = true := by rw [extract_take]; exact hf1
              have hf3 : Hid (D2.atKey (.string (u.extract 0 k).data.toList) zed = .lit (.int .i64 cc.1)) := by unfold Hid; rw [extract_take]; exact hf2'.out
              have hsx : (u.extract 0 k).size ≤ maxLen := by have := maxLen_eq; simp; omega
              have hwh : Hid (Calls Tryz.prog 85 #[.string (u.extract (k + 1) u.size)] wi fun e w' => e = .returned (.tuple #[.int .i64 m, .bool true]) ∧ Below wi.heap.size wi w') := whole_small _ m hm100 (by simp; omega) (by rw [extract_drop]; exact hpar'.out) (by rw [hdec'.out, ← extract_drop]) wi
              go_wp2_with (first
                | (at_lookup; refine wpList_lookup_own_ok_int _ rfl _ _ 122 rfl 9 3 .i64 keyStr Tryz.underlying122 Tryz.underlying3 (zero3 _) M2 5 _ rfl K2 _ _ rfl (WideMaps.keyOf_string_mk Tryz.underlying9 hsx) ?_; go_must (intro fc hatf hwf2; obtain rfl : fc = cc.1 := lit_inj (hatf.symm.trans hf3.out)))
                | (go_at_call 85; go_must (refine Calls.mono hwh.out ?_; rintro e wj ⟨rfl, hbj⟩)))
              have hsj := hbj.size
              obtain ⟨W0, hW0⟩ : ∃ W0, W0 = wj.drew := ⟨_, rfl⟩
              have hbjd : Below wi.heap.size wi W0 := by rw [hW0]; exact hbj.drew
              have hbij : Below RB W7 W0 := Below.thenOf hbi hbjd (by omega)
              have hboj : Below wo.heap.size wo W0 := Below.thenOf hboi hbjd hboi.size
              have HRB0 : W0.heap[RB]? = some (.cells #[cv, .int .i64 c] 95 (0, 0)) := by
                have := hbjd.block RB hRi
                rw [HRB.out] at this
                exact this
              have HOw0 : W0.ownsRow (RB + 1) 99 3 cv j (condCells (cs.take j)) := ownsRow_below HOw.out hbjd
              have K30 : W0.ownsMap Tryz.prog 5 (plainElem Tryz.prog 3) M3 4 D3 := ownsMap_below K3o.out hboj (by omega)
              have hz0 : RB + 1 ≤ W0.heap.size := by have := hbjd.size; omega
              clear hrun
              -- the three worlds
              obtain ⟨W1, hW1⟩ : ∃ W1, W1 = W0.alloc (.cells #[.int .i64 cc.1, .int .i64 cc.2.1, .int .i64 m] 99) := ⟨_, rfl⟩
              have hb01 : Below W0.heap.size W0 W1 := by rw [hW1]; exact (Below.refl _ _).alloc (Nat.le_refl _) _
              have HOw1 := ownsRow_below HOw0 hb01
              have c30 : ∀ q v, [Value.int .i64 cc.1, .int .i64 cc.2.1, .int .i64 m][q]? = some v → W1.cell? ((⟨W0.heap.size, 0, none⟩ : Addr).add q) = some v := by
                intro q v hq
                have : q < 3 := by have := (List.getElem?_eq_some_iff.1 hq).1; simpa using this
                have : q = 0 ∨ q = 1 ∨ q = 2 := by omega
                rw [hW1]
                rcases this with rfl | rfl | rfl <;> simp at hq <;> subst hq <;> simp [go_sem, Addr.add]
              have hcl2 : j ≤ 4294967280 := by omega
              obtain ⟨inf, hi1, hi2, hi3, hi4⟩ := infoCond
              obtain ⟨v2, W2, hr2, HOw2, hg2, hnil⟩ := run_append_own (P := Tryz.prog) W1 (RB + 1) 93 93 99 inf _ 3 24 Tryz.underlying93 hi1 hi2 hi3 hi4 rfl (by decide) cv j (condCells (cs.take j)) HOw1 ⟨W0.heap.size, 0, none⟩ 1 1 [.int .i64 cc.1, .int .i64 cc.2.1, .int .i64 m] rfl c30 (by simp [Value.oneCell']) (by have := maxLen_eq; omega) (by omega) (by have := hb01.size; omega)
              have HRB1 : W1.heap[RB]? = some (.cells #[cv, .int .i64 c] 95 (0, 0)) := (hb01.block RB (by omega)).trans HRB0
              have hs01 := hb01.size
              have hcvn : cv.ownBlock ≠ some RB := by
                intro h
                obtain ⟨_, ⟨h2, _⟩ | ⟨g, cap, cur, rfl, h3, _⟩⟩ := HOw1
                · rw [h2] at h; cases h
                · simp [Value.ownBlock] at h; omega
              have HRB2 : W2.heap[RB]? = some (.cells #[cv, .int .i64 c] 95 (0, 0)) := (hg2.block RB (by omega) (fun h => hcvn h.symm)).trans HRB1
              have K31 := ownsMap_below K30 hb01 (by omega)
              have hcvm : some M3 ≠ cv.ownBlock := by
                intro h
                obtain ⟨_, ⟨h2, _⟩ | ⟨g, cap, cur, rfl, h3, _⟩⟩ := HOw1
                · rw [h2] at h; cases h
                · simp [Value.ownBlock] at h; omega
              have K32 := K31.kept hg2 hcvm
              have lk : ∀ W, W.ownsMap Tryz.prog 5 (plainElem Tryz.prog 3) M3 4 D3 → (Instr.lookup 185 (.map (some M3)) (.int .u8 (u[k]'(by omega)).toNat) false).run Tryz.prog W = .ok (.int .i64 cc.2.1) W := by
                intro W hW
                obtain ⟨c', h1, h2, _⟩ := hW.lookup_int keyU8 Tryz.underlying185 Tryz.underlying3 (zero3 _) (keyOf_int_mk Tryz.underlying5 (a := (u.data.toList.getD k 0).toNat) (WalkArith.wf_u8 (by have := (u.data.toList.getD k 0).toNat_lt; omega)))
                obtain rfl : c' = cc.2.1 := lit_inj (h2.symm.trans hopr'.out)
                rw [getD_eq u k (by omega)] at h1
                exact h1
              have hne := Three.ne W0 W1 W2
              have q0 : ∀ x : Three W0 W1 W2, x.1.cell? ⟨RB, 0, none⟩ = some cv := Three.all (p := fun w => w.cell? ⟨RB, 0, none⟩ = some cv) (cell_of_two HRB0).1 (cell_of_two HRB1).1 (cell_of_two HRB2).1
              have q1 : ∀ x : Three W0 W1 W2, (Instr.lookup 185 (.map (some M3)) (.int .u8 (u[k]'(by omega)).toNat) false).run Tryz.prog x.1 = .ok (.int .i64 cc.2.1) x.1 := Three.all (p := fun w => (Instr.lookup 185 (.map (some M3)) (.int .u8 (u[k]'(by omega)).toNat) false).run Tryz.prog w = .ok (.int .i64 cc.2.1) w) (lk _ K30) (lk _ K31) (lk _ K32)
              have hkb : (k : Int) < (u.size : Int) := by omega
              have HW0 : Hid (W0 = wj.drew) := hW0
              have HW1 : Hid (W1 = W0.alloc (.cells #[.int .i64 cc.1, .int .i64 cc.2.1, .int .i64 m] 99)) := hW1
              have Hr2 : Hid ((Builtin.append_ #[93, 93] 93 #[cv, .slice (some ⟨W0.heap.size, 0, none⟩) 1 1]).run Tryz.prog W1 = .ok v2 W2) := hr2
              have hcvb : Hid (∀ k, cv.ownBlock = some k → RB ≤ k) := by
                intro k h
                obtain ⟨_, ⟨h2, _⟩ | ⟨g, cap, cur, rfl, h3, _⟩⟩ := HOw1
                · rw [h2] at h; cases h
                · simp [Value.ownBlock] at h; omega
              clear K30 K31 K32 lk HRB0 HRB1 HOw0 HOw1 hcvn hcvm hW0 hW1 hr2 c30
              refine wp_region_staged_lit [_, _, _, _, _, _, _, _, _, _, _, _, _] _ rfl (fun k => k == 10 || k == 11) (threeC W0 W1 W2) (fun w => ∃ x : Three W0 W1 W2, w = x.1) (by kernel_rfl) (by kernel_rfl) threeC_in (.inl ⟨rfl, HW0.out.symm⟩) ?_
              repeat (refine wpT_read rfl rfl ?_; go_big_quiet_step (fail); refine wpQuiet_nil ?_)
              refine wpT_write rfl rfl (.slice (some ⟨W0.heap.size, 0, none⟩) 1 1) (fun w hw => ⟨W1, .inr (.inl ⟨rfl, rfl⟩), ?_⟩) ?_
              · rw [threeC_0 hw, HW1.out]
                clear HW1
                go_simp
              refine wpT_write rfl rfl v2 (fun w hw => ⟨W2, .inr (.inr ⟨rfl, rfl⟩), ?_⟩) ?_
              · rw [threeC_1 hw]
                have hr2 := Hr2.out
                unfold execOp
                simp only [resolve, invoke, builtin, Sem.run_bind, Sem.run_pure, Result.andThen_ok, List.map_toArray, List.map_cons, List.map_nil]
                exact (congrArg (fun r => Result.andThen r fun v w => .ok (Next.value v) w) hr2)
              simp only [Act.put, List.setIfInBounds_toArray, List.set_cons_succ, List.set_cons_zero]
              repeat (refine wpT_read rfl rfl ?_; go_big_quiet_step (fail); refine wpQuiet_nil ?_)
              refine wpT_nil ?_
              intro wx hwx
              rw [threeC_2 hwx]
              clear q0 q1 hne hwx wx
              obtain ⟨g2, cap2, rfl⟩ : ∃ g2 cap2, v2 = .slice (some ⟨g2, 0, none⟩) (j + 1) cap2 := by
                obtain ⟨_, ⟨_, h0⟩ | ⟨g, cap, cur, h1, _⟩⟩ := HOw2
                · omega
                · exact ⟨g, cap, h1⟩
              have hg2' : RB + 1 ≤ g2 := by
                obtain ⟨_, ⟨h0, _⟩ | ⟨g, cap, cur, h1, h2, _⟩⟩ := HOw2
                · cases h0
                · cases h1; exact h2
              have hbF : Below RB W7 (W2.setCell ⟨RB, 0, none⟩ (.slice (some ⟨g2, 0, none⟩) (j + 1) cap2)) := ((Below.thenOf hbij hb01 (by omega)).grown hg2 (by omega) (hcvb.out)).setCell (Nat.le_refl _) _
              have HRBF := two_setCell (u := .slice (some ⟨g2, 0, none⟩) (j + 1) cap2) HRB2
              have HOwF := ownsRow_setCell_other HOw2 (a := ⟨RB, 0, none⟩) (by simp [Value.ownBlock]; omega) (.slice (some ⟨g2, 0, none⟩) (j + 1) cap2)
              have hszF : RB < W2.heap.size := lt_of_block HRB2
              obtain ⟨t0, _, t1, _⟩ := cell_of_two HRB2
              have hccE : cc = (cc.1, cc.2.1, (m : Int)) := by rw [← hcm]
              rw [show ([.int .i64 cc.1, .int .i64 cc.2.1, .int .i64 (m : Int)] : List Value) = [.int .i64 cc.1, .int .i64 cc.2.1, .int .i64 cc.2.2] by rw [hcm], ← condCells_take cs j cc hccH.out] at HOwF
              have HbF : Hid _ := hbF
              have HRBF' : Hid _ := HRBF
              have HOwF' : Hid _ := HOwF
              clear hbF HRBF HOwF HOw2 HRB2 hg2
              go_wp2
              exact ⟨⟨j + 1, _, by omega, by go_num, HbF.out, HRBF'.out, HOwF'.out, by simp; omega⟩, by simp [intOf]; omega⟩
        · obtain rfl : j = n := by omega
          have hcl : cs.length = j := by have := hwl'.out; omega
          have hboi : Below wo.heap.size wo wi := hb27.trans (hbi.mono (by omega))
          have hszi := hboi.size
          have HPi : wi.heap[PB]? = some (.cells #[rv, .int .i64 0] 24 (0, 0)) := (hboi.block PB hPr).trans HP.out
          have HOi := ownsRow_below HO.out hboi
          have HCi : wi.ownsRow (RB + 1) 99 3 cv cs.length (condCells cs) := by
            have := HOw.out
            rw [← hcl, List.take_length] at this
            exact this
          have HRi := RulesCells.step (w' := wi) (fun g cur _ hg => hboi.block g (lt_of_block hg)) _ _ HR.out
          obtain ⟨gc, capc, rfl⟩ : ∃ gc capc, cv = .slice (some ⟨gc, 0, none⟩) j capc := by
            obtain ⟨_, ⟨_, h0⟩ | ⟨g, cap, cur, h1, _⟩⟩ := HOw.out
            · omega
            · exact ⟨g, cap, h1⟩
          obtain ⟨p0, p1, pf0, pf1⟩ := cell_of_two HPi
          obtain ⟨b0, b1, bf0, bf1⟩ := cell_of_two HRB.out
          have HPi' : Hid _ := HPi
          have HOi' : Hid (wi.ownsRow (PB + 1) 95 2 rv i xs) := HOi
          have HCi' : Hid (wi.ownsRow (RB + 1) 99 3 (.slice (some ⟨gc, 0, none⟩) j capc) cs.length (condCells cs)) := HCi
          have HRi' : Hid (RulesCells (PB + 1) wi (rs.take i) xs) := HRi
          clear HPi HOi HCi HRi
          obtain ⟨inf, hi1, hi2, hi3, hi4⟩ := infoRule
          have hr120 : rs.length ≤ 120 := (polErr_ok hok).1
          have news : Hid (∀ X, X = Obj.cells #[.slice (some ⟨gc, 0, none⟩) j capc, .int .i64 c] 95 → ∀ q v, [Value.slice (some ⟨gc, 0, none⟩) j capc, .int .i64 c][q]? = some v → (wi.alloc X).cell? ((⟨wi.heap.size, 0, none⟩ : Addr).add q) = some v) := by
            intro X hX q v hq
            subst hX
            have : q < 2 := by have := (List.getElem?_eq_some_iff.1 hq).1; simpa using this
            have : q = 0 ∨ q = 1 := by omega
            rcases this with rfl | rfl <;> simp at hq <;> subst hq <;> simp [go_sem, Addr.add]
          have HP2 : Hid (∀ X, (wi.alloc X).ownsRow (PB + 1) 95 2 rv i xs) := fun X => ownsRow_below HOi'.out ((Below.refl _ _).alloc (Nat.le_refl _) X)
          go_wp2_with (first
            | (at_builtin; refine wpList_append_own _ rfl _ _ 22 rfl (PB + 1) 95 inf _ 2 32 Tryz.underlying22 hi1 hi2 hi3 hi4 rfl (by decide) rv i xs rfl (HP2.out _) ⟨wi.heap.size, 0, none⟩ 1 1 [.slice (some ⟨gc, 0, none⟩) j capc, .int .i64 c] rfl rfl (news.out _ rfl) (by simp [Value.oneCell']) (by have := maxLen_eq; omega) (by omega) (by simp; omega) ?_; go_must (intro v' wk hownk hgrk hnilk; obtain ⟨gk, capk, rfl, hgk⟩ := ownsRow_shape hownk (by omega); have HPk := (hgrk.block PB (by simp; omega) (fun h => by have := ownsRow_ge HOi'.out PB h.symm; omega)).trans ((Below.heap_alloc _ _ _ (by omega)).trans HPi'.out); obtain ⟨k0, k1, kf0, kf1⟩ := cell_of_two HPk)))
          have hbk : ∀ (g : Nat) (cur : Array Value), PB + 1 ≤ g → wi.heap[g]? = some (.cells cur 99 (0, 0)) → (wk.setCell ⟨PB, 0, none⟩ (.slice (some ⟨gk, 0, none⟩) (i + 1) capk)).heap[g]? = wi.heap[g]? := by
            intro g cur hg hh
            have hgl := lt_of_block hh
            rw [Below.heap_setCell _ _ _ _ (by show g ≠ PB; omega), hgrk.block g (by simp; omega) (fun h => ?_), Below.heap_alloc _ _ _ hgl]
            obtain ⟨cur', h'⟩ := ownsRow_tag HOi'.out g h.symm
            rw [hh] at h'
            simp at h'
          have hbF : Below PB W (wk.setCell ⟨PB, 0, none⟩ (.slice (some ⟨gk, 0, none⟩) (i + 1) capk)) := (((Below.thenOf hbr hboi (by omega)).alloc (by omega) _).grown hgrk (by simp; omega) (fun k hk => by have := ownsRow_ge HOi'.out k hk; omega)).setCell (Nat.le_refl _) _
          have hck := ownsRow_block (ownsRow_base HCi'.out (by omega : PB + 1 ≤ RB + 1)) hbk
          have hRk := RulesCells.push (cs, c) _ hck _ _ (RulesCells.step hbk _ _ HRi'.out)
          have htk : rs.take (i + 1) = rs.take i ++ [(cs, c)] := by rw [List.take_add_one, hr]; rfl
          refine ⟨⟨i + 1, s2, _, _, by omega, rfl, G2'.out, hbF, two_setCell HPk, ownsRow_setCell_other hownk (a := ⟨PB, 0, none⟩) (by simp [Value.ownBlock]; omega) _, ?_, by have := lt_of_block HPk; simpa using this⟩, by simpa [strLen] using hlen⟩
          unfold Hid
          rw [htk]
          exact hRk
    · obtain rfl : i = rs.length := by omega
      have G' := G.out
      rw [List.drop_eq_nil_of_le (Nat.le_refl _)] at G'
      obtain ⟨hs1, hcut, hsp, hcn, hhas, hat⟩ := G'
      have hcutC : Hid _ := cut_good s' s' ⟨#[]⟩ false mm wo hs1 hmo hcut
      have splitC : Hid (∀ w1, Below wo.heap.size wo w1 → _) := fun w1 h1 => split_good s' [s'] 0 mm w1 hs1 ((h1.cell (p := ⟨3, 0, none⟩) (by show 3 < _; omega)).trans hmo) hcn hsp
      have K1o : Hid (wo.ownsMap Tryz.prog 9 (plainElem Tryz.prog 3) M1 5 D1) := ownsMap_below L5'.out.2.2.1 hbr h1P
      have hatH : Hid (D1.atKey (.string s'.data.toList) zed = .lit (.int .i64 d)) := hat
      have hw0 : s'.size ≤ maxLen := by have := maxLen_eq; omega
      have HRo : Hid (rs.take rs.length = rs) := List.take_length
      clear hcut hsp hat
      have HRl : Hid (RulesCells (PB + 1) wo rs xs) := by
        have := HR.out
        rw [List.take_length] at this
        exact this
      obtain ⟨ra, rcap, rfl, _, _, _⟩ := ownsRow_caps HO.out
      -- a world in which all that is there below is as it was, but for the policy's box and the answer's
      have HF : Hid (∀ wF : World, (∀ g, PB + 1 ≤ g → g < wo.heap.size → wF.heap[g]? = wo.heap[g]?) → wo.heap.size ≤ wF.heap.size → PolAt wF.heap.size wF (.agg #[.slice ra rs.length rcap, .int .i64 d]) (rs, d)) := by
        intro wF h1 h2
        exact polAt_of (ownsRow_block HO.out fun g cur hg hh => h1 g hg (lt_of_block hh)) (RulesCells.step (fun g cur hg hh => h1 g hg (lt_of_block hh)) _ _ HRl.out) hok (Nat.le_refl _)
      generalize hrn : rs.length = rn at *
      go_wp2_with (first
        | (go_at_call 148; go_must (refine Calls.mono hcutC.out ?_; rintro e w1 ⟨rfl, hb1⟩))
        | (go_at_call 149; go_must (refine Calls.mono (splitC.out _ hb1) ?_; rintro e w2 ⟨SB, rfl, hb2, hSB, hSB2, hcells⟩; have hb12 := Below.thenOf hb1 hb2 hb1.size; have c0 := hcells 0 s' rfl; have K1 := ownsMap_below K1o.out hb12 (by omega); have HP2 := (hb12.block PB hPr).trans HP.out; obtain ⟨p0, p1, pf0, pf1⟩ := cell_of_two HP2))
        | (at_lookup; go_must (refine wpList_lookup_own_ok_int _ rfl _ _ 122 rfl 9 3 .i64 keyStr Tryz.underlying122 Tryz.underlying3 (zero3 _) M1 5 _ rfl K1 _ _ rfl (WideMaps.keyOf_string_mk Tryz.underlying9 hw0) ?_; intro c hatc hwc; obtain rfl : c = d := lit_inj (hatc.symm.trans hatH.out)))
        | (go_at_call 105; go_must (refine Calls.mono (checkPolicy_any _ _ _ _ (HF.out (w2.setCell ⟨PB, 1, none⟩ (.int .i64 c)) (fun g h1 h2 => by rw [Below.heap_setCell _ _ _ _ (by show g ≠ PB; omega)]; exact hb12.block g h2) (by have := hb12.size; simpa using this)) (Nat.le_refl _)) ?_; rintro e w5 ⟨rfl, hb5⟩; have hs5 := hb5.size; have hs12 := hb12.size; have HP5 := (hb5.block PB (by simp; omega)).trans (two_setCell1 (u := .int .i64 c) HP2); obtain ⟨m0, m1, mf0, mf1⟩ := cell_of_two HP5; have HR5 := (hb5.block R0 (by simp; omega)).trans ((Below.heap_setCell _ _ _ _ (by show R0 ≠ PB; omega)).trans ((hb12.block R0 (by omega)).trans ((hbr.block R0 hRP).trans hcR))); obtain ⟨n0, n1, nf0, nf1⟩ := cell_of_two HR5)))
      have HRF := two_setCell1 (u := .int .i64 c) (two_setCell (u := .slice ra rn rcap) HR5)
      obtain ⟨z0, z1, _, _⟩ := cell_of_two HRF
      have hbF : Below R0 w ((w5.setCell ⟨R0, 0, none⟩ (.slice ra rn rcap)).setCell ⟨R0, 1, none⟩ (.int .i64 c)) := (((hbw.trans (hb12.mono (by omega))).setCell (p := ⟨PB, 1, none⟩) (by show R0 ≤ PB; omega) _).trans (hb5.mono (by simp; omega)) |>.setCell (p := ⟨R0, 0, none⟩) (Nat.le_refl _) _).setCell (p := ⟨R0, 1, none⟩) (Nat.le_refl _) _
      refine bodyPost_ret (v := .tuple #[.agg #[.slice ra rn rcap, .int .i64 c], .int .i64 0]) ?_ rfl ⟨_, rfl, fun wF l1 l2 => HF.out wF (fun g h1 h2 => (l1 g (by omega) (by simp at hs5 ⊢; omega)).trans ?_) (Nat.le_trans (by simp at hs5 ⊢; omega) l2), by rw [hR0]; exact hbF⟩
      · rw [results_cell_tmp rfl]
        go_simp
      · rw [Below.heap_setCell _ _ _ _ (by show g ≠ R0; omega), Below.heap_setCell _ _ _ _ (by show g ≠ R0; omega), hb5.block g (by simp; omega), Below.heap_setCell _ _ _ _ (by show g ≠ PB; omega)]
        exact hb12.block g h2

end Go.Proofs.YtbdlojnigflanacGreatDoor
