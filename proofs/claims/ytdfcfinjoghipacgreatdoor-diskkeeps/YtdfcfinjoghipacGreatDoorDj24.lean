/- Joined: Dsk3 OpenD NtD1. -/
import Derived.Test.YtdfcfinjoghipacGreatDoorDj23
import Derived.Laws.BytesArg
import Derived.Laws.IdiomStrings
import Derived.Test.YtdfcfinjoghipacGreatDoorDj12
import Derived.Test.YtdfcfinjoghipacGreatDoorDj11
section
/- Disks: bytes in memory; the counterpart's CheckDisk. -/
set_option linter.all false
set_option maxRecDepth 100000
namespace Go.Proofs.YtdfcfinjoghipacGreatDoor
open Go.RowKit Go.Maps

/-- Bytes in memory, all in blocks below B. -/
def BytesAt (B : Nat) (w : World) (v : Value) (bs : Bs) : Prop :=
  ∃ a cap, v = .slice a bs.length cap ∧ bs.length ≤ cap ∧ cap ≤ maxLen ∧ ∀ (i : Nat) b, bs[i]? = some b → ∃ g o, a = some ⟨g, o, none⟩ ∧ g < B ∧ w.cell? ⟨g, o + i, none⟩ = some (.int .u8 (b.toNat : Int))
theorem BytesAt.later {B B' : Nat} {w w' : World} {v : Value} {bs : Bs} (h : BytesAt B w v bs) (hb : Below B' w w') (hB : B ≤ B') : BytesAt B w' v bs := by
  obtain ⟨a, cap, h1, h2, h3, h4⟩ := h
  refine ⟨a, cap, h1, h2, h3, fun i b hi => ?_⟩
  obtain ⟨g, o, e, hl, k⟩ := h4 i b hi
  exact ⟨g, o, e, hl, (hb.cell (p := ⟨g, o + i, none⟩) (by show g < B'; omega)).trans k⟩
theorem BytesAt.wide {B B' : Nat} {w : World} {v : Value} {bs : Bs} (h : BytesAt B w v bs) (hB : B ≤ B') : BytesAt B' w v bs := by
  obtain ⟨a, cap, h1, h2, h3, h4⟩ := h
  refine ⟨a, cap, h1, h2, h3, fun i b hi => ?_⟩
  obtain ⟨g, o, e, hl, k⟩ := h4 i b hi
  exact ⟨g, o, e, by omega, k⟩
theorem BytesAt.take {B : Nat} {w : World} {a : Option Addr} {n c : Nat} {bs : Bs} (h : BytesAt B w (.slice a n c) bs) (m : Nat) (hm : m ≤ bs.length) : BytesAt B w (.slice a m c) (bs.take m) := by
  obtain ⟨a', c', e, h1, h2, h3⟩ := h
  simp at e
  obtain ⟨rfl, rfl, rfl⟩ := e
  refine ⟨a, c, by rw [List.length_take, Nat.min_eq_left hm], by rw [List.length_take]; omega, h2, fun i r hr => ?_⟩
  rw [List.getElem?_take] at hr
  split at hr
  · exact h3 i r hr
  · cases hr
abbrev DiskT := Bs × Bs
def DiskAt (B : Nat) (w : World) (v : Value) (d : DiskT) : Prop := ∃ sv tv, v = .agg #[sv, tv] ∧ BytesAt B w sv d.1 ∧ BytesAt B w tv d.2
theorem DiskAt.later {B B' : Nat} {w w' : World} {v : Value} {d : DiskT} (h : DiskAt B w v d) (hb : Below B' w w') (hB : B ≤ B') : DiskAt B w' v d := by
  obtain ⟨sv, tv, h1, h2, h3⟩ := h
  exact ⟨sv, tv, h1, h2.later hb hB, h3.later hb hB⟩
/-- string(bytes). -/
theorem bytes_string {B : Nat} {w : World} {v : Value} {bs : Bs} (h : BytesAt B w v bs) : (convert 46 9 v).run Tryz.prog w = .ok (.string ⟨bs.toArray⟩) w := by
  obtain ⟨a, cap, rfl, h1, h2, h3⟩ := h
  cases a with
  | none =>
    have h0 : bs = [] := by
      cases bs with
      | nil => rfl
      | cons r l => obtain ⟨b, o, e, _⟩ := h3 0 r rfl; cases e
    subst h0
    exact run_convert_bytes_nil (w := w) 46 5 Tryz.underlying46 Tryz.underlying5 0 cap 9 Tryz.underlying9
  | some ad =>
    by_cases h0 : bs = []
    · subst h0
      exact run_convert_bytes_back w 46 9 5 ad cap [] Tryz.underlying46 Tryz.underlying5 Tryz.underlying9 (fun j hj => by simp at hj)
    · obtain ⟨g, o, e⟩ : ∃ g o, ad = ⟨g, o, none⟩ := by
        cases bs with
        | nil => exact absurd rfl h0
        | cons r l =>
          obtain ⟨b, o, e, _⟩ := h3 0 r rfl
          exact ⟨b, o, Option.some.inj e⟩
      subst e
      refine run_convert_bytes_back w 46 9 5 _ cap bs Tryz.underlying46 Tryz.underlying5 Tryz.underlying9 (fun j hj => ?_)
      obtain ⟨g', o', e, _, k⟩ := h3 j bs[j] (by simp)
      simp at e
      obtain ⟨rfl, rfl⟩ := e
      rw [add_at]
      exact k
def diskErr (d : DiskT) : Int := if 60000 < d.1.length ∨ 60000 < d.1.length + d.2.length then 2 else (linesP 40 d.1).2.2

set_option maxHeartbeats 4000000 in
theorem checkDisk_any (B : Nat) (v : Value) (d : DiskT) (w : World) (he : EnvT w) (hd : DiskAt B w v d) (hB : B ≤ w.heap.size) :
    Calls Tryz.prog 25 #[v] w fun e w' => e = .returned (.int .i64 (diskErr d)) ∧ Below w.heap.size w w' := by
  obtain ⟨sv, tv, rfl, hs, ht⟩ := hd
  obtain ⟨s, t⟩ := d
  simp only [] at hs ht
  obtain ⟨W1, hW1⟩ : ∃ W1, W1 = w.alloc (.cells #[sv, tv] 48) := ⟨_, rfl⟩
  have hb1 : Below w.heap.size w W1 := by rw [hW1]; exact (Below.refl _ _).alloc (Nat.le_refl _) _
  have hcv := bytes_string (hs.later hb1 hB)
  have HLi : Hid (s.length ≤ 60000 → Calls Tryz.prog 75 #[.string ⟨s.toArray⟩, .int .i64 40] W1 fun e w' => ∃ v, e = .returned (.tuple #[v, .int .i64 (linesP 40 s).2.1, .int .i64 (linesP 40 s).2.2]) ∧ Below W1.heap.size W1 w') := fun hl => (linesOf_any ⟨s.toArray⟩ (by rw [Lib.size_eq]; simpa using hl) 40 (by omega) W1 (he.later hb1)).mono fun e w' ⟨v, h1, _, h3⟩ => ⟨v, h1, h3⟩
  have HDe : Hid (diskErr (s, t) = if 60000 < s.length ∨ 60000 < s.length + t.length then 2 else (linesP 40 s).2.2) := rfl
  obtain ⟨a, c, e1, -, -, -⟩ := hs
  obtain ⟨b, c2, e2, -, -, -⟩ := ht
  subst e1 e2
  obtain ⟨n, hn⟩ : ∃ n, n = s.length := ⟨_, rfl⟩
  obtain ⟨m, hm⟩ : ∃ m, m = t.length := ⟨_, rfl⟩
  rw [← hn] at hW1 hcv HLi HDe ⊢
  rw [← hm] at hW1 HDe ⊢
  obtain ⟨LN, hLN⟩ : ∃ LN, LN = (linesP 40 s).2.1 := ⟨_, rfl⟩
  obtain ⟨LE, hLE⟩ : ∃ LE, LE = (linesP 40 s).2.2 := ⟨_, rfl⟩
  rw [← hLN, ← hLE] at HLi
  rw [← hLE] at HDe
  have HCv : Hid _ := hcv
  have HW1 : Hid (W1 = _) := hW1
  have HB1 : Hid (Below w.heap.size w W1) := hb1
  obtain ⟨ss, hss⟩ : ∃ ss : ByteArray, ss = ⟨s.toArray⟩ := ⟨_, rfl⟩
  rw [← hss] at HCv HLi
  clear hn hm hLN hLE hcv hW1 hb1 he hss
  by_cases h1 : 60000 < n
  · have HR : Hid (diskErr (s, t) = 2) := by unfold Hid; rw [HDe.out, if_pos (.inl h1)]
    have h1' : (60000 : Int) < (n : Int) := by omega
    go_enter Tryz.func25, Tryz.ntmps25
    go_wp2_with fail
    rw [← HW1.out]
    go_ret
    exact ⟨by rw [HR.out]; rfl, HB1.out⟩
  · have h1' : ¬ ((60000 : Int) < (n : Int)) := by omega
    by_cases h2 : 60000 < n + m
    · have HR : Hid (diskErr (s, t) = 2) := by unfold Hid; rw [HDe.out, if_pos (.inr h2)]
      have h2' : (60000 : Int) - (n : Int) < (m : Int) := by omega
      go_enter Tryz.func25, Tryz.ntmps25
      go_wp2_with fail
      rw [← HW1.out]
      go_ret
      exact ⟨by rw [HR.out]; rfl, HB1.out⟩
    · have HR : Hid (diskErr (s, t) = LE) := by unfold Hid; rw [HDe.out, if_neg (by omega)]
      have h2' : ¬ ((60000 : Int) - (n : Int) < (m : Int)) := by omega
      have HLi' : Hid _ := HLi.out (by omega)
      clear HLi
      go_enter Tryz.func25, Tryz.ntmps25
      go_wp2_with fail
      rw [← HW1.out, HCv.out]
      go_wp2_with fail
      go_at_call 75
      refine Calls.mono HLi'.out ?_
      rintro e w2 ⟨v2, rfl, hb2⟩
      go_wp2_with fail
      go_ret
      exact ⟨by rw [HR.out]; rfl, Below.thenOf HB1.out hb2 HB1.out.size⟩
end Go.Proofs.YtdfcfinjoghipacGreatDoor
end
section
/- Records and disks that came in. -/
set_option linter.all false
set_option maxRecDepth 100000
namespace Go.Proofs.YtdfcfinjoghipacGreatDoor
open Go.ChangeShapes Go.WideShapes Go.ChangeAt Go.RowKit Go.Deep Go.Maps

theorem open_bytes {H : Type} {enc : TypeId × Value → H} {W : World} {base : Nat} {sp : Nat → Bool} {held : Bool} {fuel : Nat} {cv : Value} {x : DataW H × List MemPlace} (h : DataW.trod enc Tryz.prog W base sp held fuel 46 [cv] = some x) : ∃ bs, BytesAt W.heap.size W cv bs := by
  rcases open_slice Tryz.underlying46 h with ⟨h0, _⟩ | ⟨a, len, cap, m, n, D, Pl, h0, _, hl, hm, hmm, _, hx⟩
  · simp at h0
    subst h0
    exact ⟨[], none, 0, rfl, Nat.le_refl _, Nat.zero_le _, fun i c hc => by simp at hc⟩
  · simp at h0
    subst h0
    have h1 : Tryz.prog.cellsOf 5 = 1 := by kernel_rfl
    rw [h1] at hx
    have hlm : len ≤ m := by rw [hmm]; split <;> omega
    have each : ∀ i, i < len → ∃ c : UInt8, a = ⟨a.block, a.off, none⟩ ∧ a.block < W.heap.size ∧ W.cell? ⟨a.block, a.off + i, none⟩ = some (.int .u8 (c.toNat : Int)) := by
      intro i hi
      have h00 : W.cell? (a.add 0) ≠ none := by
        obtain ⟨cs', g1, _⟩ := hx 0 (by omega)
        obtain ⟨_, hlen, hcell⟩ := World.cells?_some g1
        have := hcell 0 (by omega)
        rw [add_add] at this
        simp at this
        match cs', hlen with
        | [v0], _ => simp at this ⊢; rw [this]; simp
      obtain ⟨v, hv⟩ := Option.ne_none_iff_exists'.1 h00
      obtain ⟨ha, hb⟩ := addr_plain hv
      obtain ⟨cs', g1, g2⟩ := hx i (by omega)
      obtain ⟨_, hlen, hcell⟩ := World.cells?_some g1
      match cs', hlen with
      | [v0], _ =>
        obtain ⟨k0, q0, _, w0⟩ := DataW.trod_int Tryz.underlying5 g2
        simp at q0
        subst q0
        have c0 := hcell 0 (by omega)
        rw [add_add, ha, add_at] at c0
        simp at c0
        have hw : 0 ≤ k0 ∧ k0 < 256 := by
          have e1 : IntKind.u8.min = 0 := by decide
          have e2 : IntKind.u8.max = 255 := by decide
          simp only [Lit.wf, Bool.and_eq_true, decide_eq_true_eq, e1, e2] at w0
          omega
        refine ⟨UInt8.ofNat k0.toNat, ha, hb, ?_⟩
        rw [c0]
        congr 2
        rw [UInt8.toNat_ofNat']
        omega
    obtain ⟨ls, hpl, hpp⟩ := list_of _ len each
    refine ⟨ls, some a, cap, by rw [hpl], by omega, hm, fun i f hf => ?_⟩
    obtain ⟨ha, hb, hc⟩ := hpp i f hf
    exact ⟨a.block, a.off, by rw [← ha], hb, hc⟩
theorem open_disk {H : Type} {enc : TypeId × Value → H} {W : World} {r : Reach} {b0 base : Nat} {sp : Nat → Bool} {held : Bool} {v : Value} {d : DataW H} {p : List MemPlace}
    (hv : Value.okWide Tryz.prog W r b0 48 v) (h : DataW.Trod enc Tryz.prog W base sp held 48 v d p) : ∃ x, DiskAt W.heap.size W v x := by
  obtain ⟨cs, rfl, hsz⟩ := okWide_struct Tryz.underlying48 hv
  obtain ⟨fuel, hf⟩ := h
  obtain ⟨y0, y1, n, _, _, t0, t1⟩ := trod_struct2 Tryz.underlying48 hf
  have h2 : Tryz.prog.cellsOf 48 = 2 := by kernel_rfl
  have hi1 : Tryz.prog.cellsOf 46 = 1 := by kernel_rfl
  rw [h2] at hsz
  obtain ⟨l⟩ := cs
  match l, hsz with
  | [c0, c1], _ =>
    simp [Value.cells, hi1] at t0 t1
    obtain ⟨s, hs⟩ := open_bytes t0
    obtain ⟨t, ht⟩ := open_bytes t1
    exact ⟨(s, t), c0, c1, rfl, hs, ht⟩
theorem open_bytesN {H : Type} {enc : TypeId × Value → H} {W : World} {base : Nat} {sp : Nat → Bool} {held : Bool} {fuel : Nat} {cv : Value} {x : DataW H × List MemPlace} (h : DataW.trod enc Tryz.prog W base sp held fuel 46 [cv] = some x) (hw : ∀ n ∈ x.1.weights Tryz.prog 46, n ≤ 140737488351232) : ∃ bs, BytesAt W.heap.size W cv bs ∧ bs.length ≤ 140737488351232 := by
  obtain ⟨bs, hbs⟩ := open_bytes h
  refine ⟨bs, hbs, ?_⟩
  obtain ⟨a', cap', e, _⟩ := hbs
  subst e
  rcases open_slice Tryz.underlying46 h with ⟨h0, _⟩ | ⟨a2, len2, cap2, m, n, D, Pl, h0, _, _, _, _, hx, _⟩
  · simp at h0
    omega
  · simp at h0
    rw [hx] at hw
    have hb : Tryz.prog.bytesOf 5 = 1 := by kernel_rfl
    have := hw _ (by simp only [DataW.weights, Tryz.underlying46]; exact List.mem_cons_self)
    rw [hb] at this
    simp at this
    omega
theorem open_diskN {H : Type} {enc : TypeId × Value → H} {W : World} {r : Reach} {b0 base : Nat} {sp : Nat → Bool} {held : Bool} {v : Value} {d : DataW H} {p : List MemPlace}
    (hv : Value.okWide Tryz.prog W r b0 48 v) (h : DataW.Trod enc Tryz.prog W base sp held 48 v d p) (hw : ∀ n ∈ d.weights Tryz.prog 48, n ≤ 140737488351232) : ∃ x, DiskAt W.heap.size W v x ∧ x.1.length + x.2.length ≤ 300000000000000 := by
  obtain ⟨cs, rfl, hsz⟩ := okWide_struct Tryz.underlying48 hv
  obtain ⟨fuel, hf⟩ := h
  obtain ⟨y0, y1, n, e, _, t0, t1⟩ := trod_struct2 Tryz.underlying48 hf
  have h2 : Tryz.prog.cellsOf 48 = 2 := by kernel_rfl
  have hi1 : Tryz.prog.cellsOf 46 = 1 := by kernel_rfl
  rw [h2] at hsz
  have e1 : d = .agg [y0.1, y1.1] := congrArg Prod.fst e
  rw [e1] at hw
  have w0 : ∀ n ∈ y0.1.weights Tryz.prog 46, n ≤ 140737488351232 := fun n hn => hw n (by simp [DataW.weights, Tryz.underlying48, DataW.weightsEach, hn])
  have w1 : ∀ n ∈ y1.1.weights Tryz.prog 46, n ≤ 140737488351232 := fun n hn => hw n (by simp [DataW.weights, Tryz.underlying48, DataW.weightsEach, hn])
  obtain ⟨l⟩ := cs
  match l, hsz with
  | [c0, c1], _ =>
    simp [Value.cells, hi1] at t0 t1
    obtain ⟨s, hs, hs1⟩ := open_bytesN t0 w0
    obtain ⟨t, ht, ht1⟩ := open_bytesN t1 w1
    exact ⟨(s, t), ⟨c0, c1, rfl, hs, ht⟩, by simp only []; omega⟩
end Go.Proofs.YtdfcfinjoghipacGreatDoor
end
section
/- What the program's own note.Check and note.Same say of any record. -/
set_option linter.all false
set_option maxRecDepth 100000
namespace Go.Proofs.YtdfcfinjoghipacGreatDoor
open Go.RowKit Go.Maps

theorem isCell_yes {n : Int} (h0 : 0 ≤ n) (h3 : n < 4) (w : World) : Calls Tryz.prog 65 #[.int .i64 n] w fun e w' => e = .returned (.bool true) ∧ w' = w := by
  go_enter Tryz.func65, Tryz.ntmps65
  go_wp2
  go_ret
  exact ⟨by simp [h0, h3], rfl⟩
theorem isCell_no {n : Int} (h : n < 0 ∨ 3 < n) (w : World) : Calls Tryz.prog 65 #[.int .i64 n] w fun e w' => e = .returned (.bool false) ∧ w' = w := by
  by_cases h0 : 0 ≤ n
  · have h3 : ¬ n < 4 := by omega
    clear h
    go_enter Tryz.func65, Tryz.ntmps65
    go_wp2
    go_ret
    exact ⟨by simp [h3], rfl⟩
  · clear h
    go_enter Tryz.func65, Tryz.ntmps65
    go_wp2
    go_ret
    exact ⟨by simp [h0], rfl⟩
theorem tells_any {k : Int} (hk : k = 1 ∨ k = 2 ∨ k = 3 ∨ k = 4) (w : World) : Calls Tryz.prog 58 #[.int .i64 k] w fun e w' => e = .returned (.bool (decide (k = 1 ∨ k = 2))) ∧ w' = w := by
  rcases hk with rfl | rfl | rfl | rfl
  all_goals
    go_enter Tryz.func58, Tryz.ntmps58
    go_wp2
    go_ret
    exact ⟨by simp, rfl⟩

set_option maxHeartbeats 8000000 in
theorem checkN_any (B : Nat) (v : Value) (r : RecT) (w : World) (hr : RecAt B w v r) (hB : B ≤ w.heap.size) :
    Calls Tryz.prog 17 #[v] w fun e w' => e = .returned (.int .i64 (recErr r)) ∧ Below w.heap.size w w' := by
  obtain ⟨a, c, rfl, hp⟩ := hr.shape
  have HCP : Hid (∀ w', Below w.heap.size w w' → Calls Tryz.prog 45 #[.agg #[.slice a r.2.2.2.1.length c, .int .i64 r.2.2.2.2]] w' fun e w'' => e = .returned (.int .i64 (polErr r.2.2.2)) ∧ Below w'.heap.size w' w'') := fun w' h => check_pol B _ r.2.2.2 w' (hp.later h hB) (Nat.le_trans hB h.size)
  obtain ⟨z, hz⟩ : ∃ z, z = decide (r.2.2.2 = (([], 0) : PolT)) := ⟨_, rfl⟩
  have HSa : Hid (∀ w', Below w.heap.size w w' → Calls Tryz.prog 64 #[.agg #[.slice a r.2.2.2.1.length c, .int .i64 r.2.2.2.2], .agg #[.slice none 0 0, .int .i64 0]] w' fun e w'' => e = .returned (.bool z) ∧ Below w'.heap.size w' w'') := fun w' h => by rw [hz]; exact same_any B _ _ r.2.2.2 ([], 0) w' (hp.later h hB) (polAt_zero _ _) (Nat.le_trans hB h.size)
  have HE : Hid (recErr r = if r.1 < 1 ∨ 4 < r.1 then 4 else if (r.2.1 < 0 ∨ 3 < r.2.1) ∨ (r.2.2.1 < 0 ∨ 3 < r.2.2.1) then 3 else if (0 < r.2.2.1 ∧ r.1 ≠ 3) ∨ (¬ (r.1 = 1 ∨ r.1 = 2) ∧ ¬ (r.2.2.2.2 = 0 ∧ r.2.2.2.1 = [])) then 4 else if r.1 = 1 ∨ r.1 = 2 then polErr r.2.2.2 else 0) := rfl
  have HZ : Hid (z = true ↔ (r.2.2.2.2 = 0 ∧ r.2.2.2.1 = [])) := by
    unfold Hid
    rw [hz, decide_eq_true_iff]
    obtain ⟨k, ce, fr, rs, d⟩ := r
    constructor
    · intro h
      cases h
      exact ⟨rfl, rfl⟩
    · rintro ⟨h1, h2⟩
      show ((rs, d) : PolT) = ([], 0)
      rw [show rs = [] from h2, show d = 0 from h1]
  clear hz
  clear hr hp
  obtain ⟨k, ce, fr, rs, d⟩ := r
  simp only at *
  generalize recErr (k, ce, fr, rs, d) = E at *
  generalize polErr (rs, d) = pe at *
  have HZ' : Hid (z = true ↔ (d = 0 ∧ rs = [])) := HZ.out
  generalize hn : rs.length = n at *
  clear hn HZ
  have hb : ∀ X, Below w.heap.size w (w.alloc X) := fun X => (Below.refl _ _).alloc (Nat.le_refl _) _
  by_cases h1 : k < 1 ∨ 4 < k
  · have e : Hid (E = 4) := by unfold Hid; rw [HE.out, if_pos h1]
    clear HE HCP HSa
    rcases h1 with h1 | h1
    · go_enter Tryz.func17, Tryz.ntmps17
      go_wp2
      go_ret
      exact ⟨by rw [e.out]; rfl, hb _⟩
    · have h2 : ¬ k < 1 := by omega
      go_enter Tryz.func17, Tryz.ntmps17
      go_wp2
      go_ret
      exact ⟨by rw [e.out]; rfl, hb _⟩
  · have hk : k = 1 ∨ k = 2 ∨ k = 3 ∨ k = 4 := by omega
    have k1 : ¬ k < 1 := by omega
    have k4 : ¬ 4 < k := by omega
    have HE1 : Hid (E = if (ce < 0 ∨ 3 < ce) ∨ (fr < 0 ∨ 3 < fr) then 3 else if (0 < fr ∧ k ≠ 3) ∨ (¬ (k = 1 ∨ k = 2) ∧ ¬ (d = 0 ∧ rs = [])) then 4 else if k = 1 ∨ k = 2 then pe else 0) := by unfold Hid; rw [HE.out, if_neg h1]
    have Hk : Hid (k = 1 ∨ k = 2 ∨ k = 3 ∨ k = 4) := hk
    clear HE h1 hk
    by_cases h2 : ce < 0 ∨ 3 < ce
    · have e : Hid (E = 3) := by unfold Hid; rw [HE1.out, if_pos (.inl h2)]
      have hin2 : Hid (∀ w', Calls Tryz.prog 65 #[.int .i64 ce] w' fun e w'' => e = .returned (.bool false) ∧ w'' = w') := fun w' => isCell_no h2 w'
      clear HE1 HCP HSa h2
      go_enter Tryz.func17, Tryz.ntmps17
      go_wp2_with fail
      go_at_call 65
      refine Calls.mono (hin2.out _) ?_
      rintro e w2 ⟨rfl, rfl⟩
      go_wp2_with fail
      go_ret
      exact ⟨by rw [e.out]; rfl, hb _⟩
    · have hin2 : Hid (∀ w', Calls Tryz.prog 65 #[.int .i64 ce] w' fun e w'' => e = .returned (.bool true) ∧ w'' = w') := fun w' => isCell_yes (by omega) (by omega) w'
      by_cases h3 : fr < 0 ∨ 3 < fr
      · have e : Hid (E = 3) := by unfold Hid; rw [HE1.out, if_pos (.inr h3)]
        have hin3 : Hid (∀ w', Calls Tryz.prog 65 #[.int .i64 fr] w' fun e w'' => e = .returned (.bool false) ∧ w'' = w') := fun w' => isCell_no h3 w'
        clear HE1 HCP HSa h2 h3
        go_enter Tryz.func17, Tryz.ntmps17
        go_wp2_with fail
        go_at_call 65
        refine Calls.mono (hin2.out _) ?_
        rintro e w2 ⟨rfl, rfl⟩
        go_wp2_with fail
        go_at_call 65
        refine Calls.mono (hin3.out _) ?_
        rintro e w2 ⟨rfl, rfl⟩
        go_wp2_with fail
        go_ret
        exact ⟨by rw [e.out]; rfl, hb _⟩
      · have hin3 : Hid (∀ w', Calls Tryz.prog 65 #[.int .i64 fr] w' fun e w'' => e = .returned (.bool true) ∧ w'' = w') := fun w' => isCell_yes (by omega) (by omega) w'
        have HE2 : Hid (E = if (0 < fr ∧ k ≠ 3) ∨ (¬ (k = 1 ∨ k = 2) ∧ ¬ (d = 0 ∧ rs = [])) then 4 else if k = 1 ∨ k = 2 then pe else 0) := by unfold Hid; rw [HE1.out, if_neg (by omega)]
        have hf0 : 0 ≤ fr := by omega
        clear HE1 h2 h3
        by_cases hfz : fr = 0
        · have HTe : Hid (∀ w', Calls Tryz.prog 58 #[.int .i64 k] w' fun e w'' => e = .returned (.bool (decide (k = 1 ∨ k = 2))) ∧ w'' = w') := fun w' => tells_any Hk.out w'
          by_cases hp : k = 1 ∨ k = 2
          · have e : Hid (E = pe) := by unfold Hid; rw [HE2.out, if_neg (by rintro (h | ⟨h, -⟩); (exact absurd h.1 (by omega)); (exact h hp)), if_pos hp]
            rw [decide_eq_true hp] at HTe
            have hk3 : (k != 3) = true := by simp; omega
            subst hfz
            clear HE2 HSa hp
            go_enter Tryz.func17, Tryz.ntmps17
            go_wp2_with fail
            go_at_call 65
            refine Calls.mono (hin2.out _) ?_
            rintro e w2 ⟨rfl, rfl⟩
            go_wp2_with fail
            go_at_call 65
            refine Calls.mono (hin3.out _) ?_
            rintro e w2 ⟨rfl, rfl⟩
            go_wp2_with fail
            go_at_call 58
            refine Calls.mono (HTe.out _) ?_
            rintro e w2 ⟨rfl, rfl⟩
            go_wp2_with fail
            go_at_call 45
            refine Calls.mono (HCP.out _ (hb _)) ?_
            rintro e2 w2 ⟨rfl, hb2⟩
            go_wp2_with fail
            go_ret
            exact ⟨by rw [e.out]; rfl, Below.thenOf (hb _) hb2 (by simp)⟩
          · rw [decide_eq_false hp] at HTe
            have hk34 : k = 3 ∨ k = 4 := by have := Hk.out; omega
            have e : Hid (E = if z = true then 0 else 4) := by
              unfold Hid
              rw [HE2.out]
              by_cases hz : z = true
              · rw [if_pos hz, if_neg (by rintro (h | ⟨-, h⟩); (exact absurd h.1 (by omega)); (exact h (HZ'.out.1 hz))), if_neg hp]
              · rw [if_neg hz, if_pos (.inr ⟨hp, fun h => hz (HZ'.out.2 h)⟩)]
            subst hfz
            clear HE2 HCP hp HZ'
            rcases hk34 with rfl | rfl
            all_goals
              go_enter Tryz.func17, Tryz.ntmps17
              go_wp2_with fail
              go_at_call 65
              refine Calls.mono (hin2.out _) ?_
              rintro e w2 ⟨rfl, rfl⟩
              go_wp2_with fail
              go_at_call 65
              refine Calls.mono (hin3.out _) ?_
              rintro e w2 ⟨rfl, rfl⟩
              go_wp2_with fail
              go_at_call 58
              refine Calls.mono (HTe.out _) ?_
              rintro e w2 ⟨rfl, rfl⟩
              go_wp2_with fail
              go_at_call 64
              refine Calls.mono (HSa.out _ (hb _)) ?_
              rintro e2 w2 ⟨rfl, hb2⟩
              cases z
              all_goals
                go_wp2_with fail
                go_ret
                exact ⟨by rw [e.out]; rfl, Below.thenOf (hb _) hb2 (by simp)⟩
        · have hfn : (fr != 0) = true := by simpa using hfz
          by_cases hk3 : k = 3
          · have HTe : Hid (∀ w', Calls Tryz.prog 58 #[.int .i64 3] w' fun e w'' => e = .returned (.bool false) ∧ w'' = w') := fun w' => tells_any (k := 3) (by decide) w'
            have e : Hid (E = if z = true then 0 else 4) := by
              unfold Hid
              rw [HE2.out]
              by_cases hz : z = true
              · rw [if_pos hz, if_neg (by rintro (h | ⟨-, h⟩); (exact h.2 hk3); (exact h (HZ'.out.1 hz))), if_neg (by omega)]
              · rw [if_neg hz, if_pos (.inr ⟨by omega, fun h => hz (HZ'.out.2 h)⟩)]
            subst hk3
            clear HE2 HCP HZ' Hk k1 k4
            go_enter Tryz.func17, Tryz.ntmps17
            go_wp2_with fail
            go_at_call 65
            refine Calls.mono (hin2.out _) ?_
            rintro e w2 ⟨rfl, rfl⟩
            go_wp2_with fail
            go_at_call 65
            refine Calls.mono (hin3.out _) ?_
            rintro e w2 ⟨rfl, rfl⟩
            go_wp2_with fail
            go_at_call 58
            refine Calls.mono (HTe.out _) ?_
            rintro e w2 ⟨rfl, rfl⟩
            go_wp2_with fail
            go_at_call 64
            refine Calls.mono (HSa.out _ (hb _)) ?_
            rintro e2 w2 ⟨rfl, hb2⟩
            cases z
            all_goals
              go_wp2_with fail
              go_ret
              exact ⟨by rw [e.out]; rfl, Below.thenOf (hb _) hb2 (by simp)⟩
          · have hk3' : (k != 3) = true := by simpa using hk3
            have e : Hid (E = 4) := by unfold Hid; rw [HE2.out, if_pos (.inl ⟨by omega, hk3⟩)]
            clear HE2 HCP HZ' HSa
            go_enter Tryz.func17, Tryz.ntmps17
            go_wp2_with fail
            go_at_call 65
            refine Calls.mono (hin2.out _) ?_
            rintro e w2 ⟨rfl, rfl⟩
            go_wp2_with fail
            go_at_call 65
            refine Calls.mono (hin3.out _) ?_
            rintro e w2 ⟨rfl, rfl⟩
            go_wp2_with fail
            go_ret
            exact ⟨by rw [e.out]; rfl, hb _⟩

set_option maxHeartbeats 4000000 in
theorem sameN_any (B : Nat) (v u : Value) (r q : RecT) (w : World) (hr : RecAt B w v r) (hq : RecAt B w u q) (hB : B ≤ w.heap.size) :
    Calls Tryz.prog 18 #[v, u] w fun e w' => e = .returned (.bool (decide (r = q))) ∧ Below w.heap.size w w' := by
  obtain ⟨a, c, rfl, hp⟩ := hr.shape
  obtain ⟨a2, c2, rfl, hp2⟩ := hq.shape
  have HSP : Hid (∀ w', Below w.heap.size w w' → Calls Tryz.prog 64 #[.agg #[.slice a r.2.2.2.1.length c, .int .i64 r.2.2.2.2], .agg #[.slice a2 q.2.2.2.1.length c2, .int .i64 q.2.2.2.2]] w' fun e w'' => e = .returned (.bool (decide (r.2.2.2 = q.2.2.2))) ∧ Below w'.heap.size w' w'') := fun w' h => same_any B _ _ r.2.2.2 q.2.2.2 w' (hp.later h hB) (hp2.later h hB) (Nat.le_trans hB h.size)
  clear hr hq hp hp2
  obtain ⟨k, ce, fr, rs, d⟩ := r
  obtain ⟨k2, ce2, fr2, rs2, d2⟩ := q
  simp only at *
  have HD : Hid (decide ((k, ce, fr, rs, d) = ((k2, ce2, fr2, rs2, d2) : RecT)) = (decide (k = k2) && decide (ce = ce2) && decide (fr = fr2) && decide (((rs, d) : PolT) = (rs2, d2)))) := by
    unfold Hid
    simp [Bool.and_assoc]
  generalize decide (((rs, d) : PolT) = (rs2, d2)) = sp at *
  generalize decide ((k, ce, fr, rs, d) = ((k2, ce2, fr2, rs2, d2) : RecT)) = E at *
  generalize rs.length = n at *
  generalize rs2.length = n2 at *
  have hb : ∀ X Y, Below w.heap.size w ((w.alloc X).alloc Y) := fun X Y => ((Below.refl _ _).alloc (Nat.le_refl _) _).alloc (by simp) _
  by_cases h1 : k = k2
  · by_cases h2 : ce = ce2
    · by_cases h3 : fr = fr2
      · subst h1 h2 h3
        have e : Hid (E = sp) := by unfold Hid; rw [HD.out]; simp
        clear HD
        go_enter Tryz.func18, Tryz.ntmps18
        go_wp2_with (first | (go_at_call 64; go_must (refine Calls.mono (HSP.out _ (hb _ _)) ?_; rintro e2 w2 ⟨rfl, hb2⟩)))
        go_ret
        exact ⟨by rw [e.out]; simp, Below.thenOf (hb _ _) hb2 (by simp; omega)⟩
      · have e : Hid (E = false) := by unfold Hid; rw [HD.out]; simp [h3]
        have hq : (fr == fr2) = false := by simpa using h3
        subst h1 h2
        clear HD HSP
        go_enter Tryz.func18, Tryz.ntmps18
        go_wp2
        go_ret
        exact ⟨by rw [e.out]; simp [h3], hb _ _⟩
    · have e : Hid (E = false) := by unfold Hid; rw [HD.out]; simp [h2]
      have hq : (ce == ce2) = false := by simpa using h2
      subst h1
      clear HD HSP
      go_enter Tryz.func18, Tryz.ntmps18
      go_wp2
      go_ret
      exact ⟨by rw [e.out]; simp [h2], hb _ _⟩
  · have e : Hid (E = false) := by unfold Hid; rw [HD.out]; simp [h1]
    have hq : (k == k2) = false := by simpa using h1
    clear HD HSP
    go_enter Tryz.func18, Tryz.ntmps18
    go_wp2
    go_ret
    exact ⟨by rw [e.out]; simp [h1], hb _ _⟩

end Go.Proofs.YtdfcfinjoghipacGreatDoor
end
