/- Joined: DkB DkC. -/
import Derived.Test.YtdfcfinjoghipacGreatDoorDj37
section
/- Package disk: join. -/
set_option linter.all false
set_option maxRecDepth 100000
namespace Go.Proofs.YtdfcfinjoghipacGreatDoor
open Go.RowKit Go.Maps

/-- Bytes all of whose memory is new: from block L on. -/
def BytesNew (L : Nat) (w : World) (v : Value) (bs : Bs) : Prop := ∀ wF : World, (∀ g, L ≤ g → g < w.heap.size → wF.heap[g]? = w.heap[g]?) → w.heap.size ≤ wF.heap.size → BytesAt wF.heap.size wF v bs
theorem bytesNew_of {L g : Nat} {w : World} {bs : Bs} (hL : L ≤ g) (hn : bs.length ≤ 140737488355328) (h : w.heap[g]? = some (.cells (byCells bs).toArray 5 (0, 0))) : BytesNew L w (.slice (some ⟨g, 0, none⟩) bs.length bs.length) bs := by
  intro wF h1 h2
  have hl := lt_of_block h
  refine ⟨_, _, rfl, Nat.le_refl _, by rw [maxLen_eq]; omega, fun i b hb => ⟨g, 0, rfl, by omega, ?_⟩⟩
  refine heap_cell ((h1 g hL hl).trans h) _ ?_
  rw [Nat.zero_add, List.getElem?_toArray]
  unfold byCells
  rw [List.getElem?_map, hb]
  rfl
theorem make_bytes (n : Nat) (hn : n ≤ 140737488355328) (w : World) : (Instr.makeSlice 46 (.int .i64 n) (.int .i64 n)).run Tryz.prog w = .ok (.slice (some ⟨w.heap.size, 0, none⟩) n n) (w.alloc (.cells (madeCells #[.int .u8 0] n) 5)) := by
  obtain ⟨inf, hi1, hi2, hi3, hi4⟩ := infoU8
  have := run_make (P := Tryz.prog) w 46 5 inf _ Tryz.underlying46 hi1 hi2 .i64 .i64 n n (by omega) (Int.le_refl _) (by rw [hi4]; omega) (by omega)
  rw [hi3] at this
  simpa [Value.cells] using this
/-- copy() of bytes into a row of bytes from o on. -/
theorem run_copy_bytes (B g o dLen dCap : Nat) (d : Option Addr) (sv : Value) (y : Bs) (cur : Array Value) (w : World) (h : BytesAt B w sv y) (hd : y ≠ [] → d = some ⟨g, o, none⟩) (hg : w.heap[g]? = some (.cells cur 5 (0, 0))) (hle : y.length ≤ dLen) (hfit : o + y.length ≤ cur.size) :
    ∃ w', (∀ ty, (Builtin.copy_ #[46, 46] ty #[.slice d dLen dCap, sv]).run Tryz.prog w = .ok (.int .i64 y.length) w') ∧ w'.heap[g]? = some (.cells (cur.toList.take o ++ byCells y ++ cur.toList.drop (o + y.length)).toArray 5 (0, 0)) ∧ w'.heap.size = w.heap.size ∧ Below g w w' := by
  obtain ⟨inf, hi1, hi2, hi3, hi4⟩ := infoU8
  obtain ⟨a, cap, rfl, hlc, hcm, hrs⟩ := h
  have hs : (Tryz.prog.info? 5).map (·.size) = some 1 := by rw [hi1]; simp [hi3]
  by_cases h0 : y = []
  · subst h0
    refine ⟨w, fun ty => run_copy_none w _ _ ty 5 _ _ _ _ _ _ Tryz.underlying46 hs (by simp), ?_, rfl, Below.refl _ _⟩
    rw [hg]
    simp [byCells]
  · rw [hd h0]
    obtain ⟨ad, e⟩ : ∃ ad, a = some ad := by
      cases y with
      | nil => exact absurd rfl h0
      | cons r l => obtain ⟨b, o, e, _⟩ := hrs 0 r rfl; exact ⟨_, e⟩
    subst e
    have hcell : ∀ j u, (byCells y)[j]? = some u → w.cell? (ad.add j) = some u := by
      cases y with
      | nil => exact absurd rfl h0
      | cons r l =>
        obtain ⟨b, o, e, _, _⟩ := hrs 0 r rfl
        cases e
        intro j u hj
        rw [add_at]
        refine byCells_cell (r :: l) o (fun i c hc => ?_) j u hj
        obtain ⟨b', o', e, _, k⟩ := hrs i c hc
        cases e
        exact k
    have hbl : (byCells y).length = y.length := by rw [byCells_length, Nat.mul_one]
    have hrun := fun ty => run_copy_row (P := Tryz.prog) w 46 46 ty 5 g o dLen dCap ad y.length cap cur 5 (byCells y) Tryz.underlying46 hs hg (by rw [hbl]; exact (Nat.min_eq_left hle).symm) hcell (by rw [hbl]; exact hfit) (byCells_one y)
    rw [hbl] at hrun
    exact ⟨_, fun ty => hrun ty, setRow_heap w g _ _ _ _ hg, by simp [World.setRow], ⟨rfl, rfl, rfl, by simp [World.setRow], fun k hk => setRow_other w g k _ (by omega)⟩⟩

set_option maxHeartbeats 4000000 in
theorem joinK_any (B : Nat) (av bv : Value) (x y : Bs) (w : World) (ha : BytesAt B w av x) (hb : BytesAt B w bv y) (hB : B ≤ w.heap.size) (hn : x.length + y.length ≤ 140737488355328) :
    Calls Tryz.prog 72 #[av, bv] w fun e w' => ∃ v, e = .returned v ∧ (∃ a, v = .slice a (x.length + y.length) (x.length + y.length)) ∧ BytesNew w.heap.size w' v (x ++ y) ∧ Below w.heap.size w w' := by
  obtain ⟨mc, hmc⟩ : ∃ mc, mc = madeCells #[.int .u8 0] (x.length + y.length) := ⟨_, rfl⟩
  have hmcs : mc.size = x.length + y.length := by rw [hmc, size_madeCells]
  have hmk0 := fun w => make_bytes (x.length + y.length) hn w
  rw [← hmc] at hmk0
  obtain ⟨W1, hW1⟩ : ∃ W1, W1 = w.alloc (.cells mc 5) := ⟨_, rfl⟩
  have b1 : Below w.heap.size w W1 := by rw [hW1]; exact (Below.refl _ _).alloc (Nat.le_refl _) _
  have g1 : W1.heap[w.heap.size]? = some (.cells mc 5 (0, 0)) := by rw [hW1]; exact heap_made _ _
  obtain ⟨W2, r2, g2, s2, b2⟩ := run_copy_bytes B w.heap.size 0 (x.length + y.length) (x.length + y.length) (some ⟨w.heap.size, 0, none⟩) av x mc W1 (ha.later b1 hB) (fun _ => rfl) g1 (by omega) (by omega)
  have bw2 : Below w.heap.size w W2 := b1.trans b2
  have hsz2 : (mc.toList.take 0 ++ byCells x ++ mc.toList.drop (0 + x.length)).toArray.size = x.length + y.length := by
    simp [byCells, hmcs]
  obtain ⟨d, hd⟩ : ∃ d : Option Addr, d = if x.length + y.length = x.length then some ⟨w.heap.size, 0, none⟩ else some ((⟨w.heap.size, 0, none⟩ : Addr).add (x.length * 1)) := ⟨_, rfl⟩
  obtain ⟨W3, r3, g3, s3, b3⟩ := run_copy_bytes B w.heap.size x.length y.length y.length d bv y _ W2 (hb.later bw2 hB) (fun hy => by
    have : y.length ≠ 0 := fun e => hy (List.eq_nil_of_length_eq_zero e)
    rw [hd, if_neg (by omega), add_at]
    simp) g2 (Nat.le_refl _) (by rw [hsz2]; omega)
  have bw3 : Below w.heap.size w W3 := bw2.trans b3
  have g3' : W3.heap[w.heap.size]? = some (.cells (byCells (x ++ y)).toArray 5 (0, 0)) := by
    rw [g3]
    congr 2
    rw [byCells_append]
    have hbx : (byCells x).length = x.length := by rw [byCells_length, Nat.mul_one]
    simp [List.take_append, List.drop_append, hbx]
    omega
  have HFin : Hid (BytesNew w.heap.size W3 (.slice (some ⟨w.heap.size, 0, none⟩) (x.length + y.length) (x.length + y.length)) (x ++ y) ∧ Below w.heap.size w W3) := ⟨by
    have := bytesNew_of (L := w.heap.size) (w := W3) (bs := x ++ y) (Nat.le_refl _) (by rw [List.length_append]; exact hn) g3'
    rw [List.length_append] at this
    exact this, bw3⟩
  obtain ⟨inf, hi1, hi2, hi3, hi4⟩ := infoU8
  have hsl : ∀ w', (Instr.slice 46 (.slice (some ⟨w.heap.size, 0, none⟩) (x.length + y.length) (x.length + y.length)) (some (.int .i64 (x.length : Int))) none none).run Tryz.prog w' = .ok (.slice d y.length y.length) w' := fun w' => by
    have e1 : (0 : Int) ≤ (x.length : Int) := by omega
    have e2 : (x.length : Int) ≤ ((x.length + y.length : Nat) : Int) := by omega
    have e3 : ((x.length : Int)).toNat = x.length := by omega
    rw [hd]
    simp [Instr.slice, Instr.sliceBounds, Instr.sliceBound, run_underlying Tryz.underlying46, sizeOf, typeInfo, hi1, hi3, asIntOf, e1, e2, e3]
  obtain ⟨aa, ac, ea, -, -, -⟩ := ha
  obtain ⟨ba, bc, eb, -, -, -⟩ := hb
  subst ea eb
  have HW1 : Hid (W1 = _) := hW1
  have HR2 : Hid _ := r2
  have HR3 : Hid _ := r3
  obtain ⟨n, hnn⟩ : ∃ n, n = x.length := ⟨_, rfl⟩
  obtain ⟨m, hmm⟩ : ∃ m, m = y.length := ⟨_, rfl⟩
  rw [← hnn] at hmk0 HFin hsl HR2 hn ⊢
  rw [← hmm] at hmk0 HFin hsl HR2 HR3 hn ⊢
  have hmk : ∀ w, (Instr.makeSlice 46 (.int .i64 ((n : Int) + (m : Int))) (.int .i64 ((n : Int) + (m : Int)))).run Tryz.prog w = .ok (.slice (some ⟨w.heap.size, 0, none⟩) (n + m) (n + m)) (w.alloc (.cells mc 5)) := fun w => by
    have := hmk0 w
    rw [show ((n + m : Nat) : Int) = (n : Int) + m by omega] at this
    exact this
  have HSl : Hid _ := hsl
  have hwr : IntKind.i64.wrap ((n : Int) + (m : Int)) = (n : Int) + (m : Int) := IntWalk.i64_in _ (by omega)
  clear hW1 r2 r3 hmk0 hmc hmcs hd hsz2 g1 g2 g3 g3' b1 b2 b3 bw2 bw3 s2 s3 hnn hmm
  go_enter Tryz.func72, Tryz.ntmps72
  go_wp2_with fail
  rw [← HW1.out, HR2.out]
  clear hmk hwr
  have hsl := HSl.out
  go_wp2_with fail
  rw [HR3.out]
  go_wp2_with fail
  go_ret
  exact ⟨_, rfl, ⟨_, rfl⟩, HFin.out.1, HFin.out.2⟩
end Go.Proofs.YtdfcfinjoghipacGreatDoor
end
section
/- Package disk: readLine. -/
set_option linter.all false
set_option maxRecDepth 100000
namespace Go.Proofs.YtdfcfinjoghipacGreatDoor
open Go.RowKit Go.Maps

theorem rec_free {w : World} {k : Nat} {x0 x1 x2 x3 x4 : Value} {T : TypeId} (h : w.heap[k]? = some (.cells #[x0, x1, x2, x3, x4] T (0, 0))) : w.frozen? ⟨k, 0, none⟩ = false ∧ w.frozen? ⟨k, 1, none⟩ = false ∧ w.frozen? ⟨k, 2, none⟩ = false ∧ w.frozen? ⟨k, 3, none⟩ = false ∧ w.frozen? ⟨k, 4, none⟩ = false :=
  ⟨by simp [World.frozen?, h], by simp [World.frozen?, h], by simp [World.frozen?, h], by simp [World.frozen?, h], by simp [World.frozen?, h]⟩

theorem results_cell_tmps {fn : Func} {p u u' : Tmp} {ty : TypeId} (h : fn.results = #[.cell p ty, .tmp u, .tmp u']) (tmps : Array Value) (P : Program) (w : World) :
    (results fn tmps).run P w = ((asAddr (tmps.getD p undef)).run P w).andThen fun a w₁ => ((loadVar ty a).run P w₁).andThen fun v w₂ => .ok (.tuple #[v, tmps.getD u undef, tmps.getD u' undef]) w₂ := by
  simp only [results, h]
  simp [Sem.run_bind, Result.andThen]
theorem below_rec {L : Nat} {w w1 : World} {p : Nat} (h : Below L w w1) (hp : L ≤ p) (x0 x1 x2 x3 x4 : Value) : Below L w (((((w1.setCell ⟨p, 0, none⟩ x0).setCell ⟨p, 1, none⟩ x1).setCell ⟨p, 2, none⟩ x2).setCell ⟨p, 3, none⟩ x3).setCell ⟨p, 4, none⟩ x4) :=
  ((((h.setCell (p := ⟨p, 0, none⟩) hp _).setCell (p := ⟨p, 1, none⟩) hp _).setCell (p := ⟨p, 2, none⟩) hp _).setCell (p := ⟨p, 3, none⟩) hp _).setCell (p := ⟨p, 4, none⟩) hp _
theorem keep_rec (w1 : World) (p g : Nat) (hg : g ≠ p) (x0 x1 x2 x3 x4 : Value) : (((((w1.setCell ⟨p, 0, none⟩ x0).setCell ⟨p, 1, none⟩ x1).setCell ⟨p, 2, none⟩ x2).setCell ⟨p, 3, none⟩ x3).setCell ⟨p, 4, none⟩ x4).heap[g]? = w1.heap[g]? :=
  (((((Below.heap_setCell _ _ _ _ hg).trans (Below.heap_setCell _ _ _ _ hg)).trans (Below.heap_setCell _ _ _ _ hg)).trans (Below.heap_setCell _ _ _ _ hg)).trans (Below.heap_setCell _ _ _ _ hg))

set_option maxHeartbeats 4000000 in
theorem readLine_torn (B : Nat) (v : Value) (bs : Bs) (w : World) (h : BytesAt B w v bs) (hB : B ≤ w.heap.size) (hc : cutNl bs = none) :
    Calls Tryz.prog 122 #[v] w fun e w' => e = .returned (.tuple #[.agg #[.int .i64 0, .int .i64 0, .int .i64 0, .slice none 0 0, .int .i64 0], .int .i64 0, .int .i64 8]) ∧ Below w.heap.size w w' := by
  have HIx : Hid (∀ w', BytesAt B w' v bs → Calls Tryz.prog 152 #[v, .int .u8 10] w' fun e w'' => e = .returned (.int .i64 (-1)) ∧ w'' = w') := fun w' h' => by
    have := indexNl_any B v bs w' h'
    unfold nlI at this
    rw [hc] at this
    exact this
  obtain ⟨W0, hW0⟩ : ∃ W0, W0 = w.alloc (.cells #[.int .i64 0, .int .i64 0, .int .i64 0, .slice none 0 0, .int .i64 0] 38) := ⟨_, rfl⟩
  have g0 : W0.heap[w.heap.size]? = some (.cells #[.int .i64 0, .int .i64 0, .int .i64 0, .slice none 0 0, .int .i64 0] 38 (0, 0)) := by rw [hW0]; exact heap_made _ _
  have bw0 : Below w.heap.size w W0 := by rw [hW0]; exact (Below.refl _ _).alloc (Nat.le_refl _) _
  have HB : Hid (BytesAt B W0 v bs) := h.later bw0 hB
  obtain ⟨z0, z1, z2, z3, z4⟩ := rec_box g0
  obtain ⟨f0, f1, f2, f3, f4⟩ := rec_free g0
  have HW : Hid (W0 = _) := hW0
  have Hb0 : Hid (Below w.heap.size w W0) := bw0
  obtain ⟨a, c, rfl, -, -, -⟩ := h
  clear hW0 g0 bw0
  generalize bs.length = n at *
  clear hc
  go_enter Tryz.func122, Tryz.ntmps122
  go_wp2_with fail
  rw [← HW.out]
  go_at_call 152
  refine Calls.mono (HIx.out _ HB.out) ?_
  rintro e w1 ⟨rfl, rfl⟩
  go_wp2_with fail
  refine bodyPost_ret (v := .tuple #[.agg #[.int .i64 0, .int .i64 0, .int .i64 0, .slice none 0 0, .int .i64 0], .int .i64 0, .int .i64 8]) ?_ rfl ⟨rfl, below_rec Hb0.out (Nat.le_refl _) _ _ _ _ _⟩
  rw [results_cell_tmps rfl]
  go_simp

set_option maxHeartbeats 4000000 in
theorem readLine_line (B : Nat) (v : Value) (bs x t : Bs) (w : World) (he : EnvT w) (h : BytesAt B w v bs) (hB : B ≤ w.heap.size) (h60 : bs.length ≤ 60000) (hc : cutNl bs = some (x, t)) :
    Calls Tryz.prog 122 #[v] w fun e w' => ∃ rv, e = .returned (.tuple #[rv, .int .i64 ((x.length : Int) + 1), .int .i64 (recOf x).2]) ∧ RecNew w.heap.size w' rv (recOf x).1 ∧ Below w.heap.size w w' := by
  have hl := cutNl_len hc
  have HIx : Hid (∀ w', BytesAt B w' v bs → Calls Tryz.prog 152 #[v, .int .u8 10] w' fun e w'' => e = .returned (.int .i64 (x.length : Int)) ∧ w'' = w') := fun w' h' => by
    have := indexNl_any B v bs w' h'
    unfold nlI at this
    rw [hc] at this
    exact this
  obtain ⟨W0, hW0⟩ : ∃ W0, W0 = w.alloc (.cells #[.int .i64 0, .int .i64 0, .int .i64 0, .slice none 0 0, .int .i64 0] 38) := ⟨_, rfl⟩
  have g0 : W0.heap[w.heap.size]? = some (.cells #[.int .i64 0, .int .i64 0, .int .i64 0, .slice none 0 0, .int .i64 0] 38 (0, 0)) := by rw [hW0]; exact heap_made _ _
  have bw0 : Below w.heap.size w W0 := by rw [hW0]; exact (Below.refl _ _).alloc (Nat.le_refl _) _
  have HB : Hid (BytesAt B W0 v bs) := h.later bw0 hB
  have HW : Hid (W0 = _) := hW0
  have HG : Hid (∀ w', Below W0.heap.size W0 w' → w'.heap[w.heap.size]? = some (.cells #[.int .i64 0, .int .i64 0, .int .i64 0, .slice none 0 0, .int .i64 0] 38 (0, 0)) ∧ Below w.heap.size w w') := fun w' h => ⟨(h.block _ (lt_of_block g0)).trans g0, Below.thenOf bw0 h bw0.size⟩
  obtain ⟨a, c, rfl, h1, h2, -⟩ := id h
  obtain ⟨a', hsl, hta⟩ := slice_to h x.length (by omega)
  have htk : bs.take x.length = x := by rw [(cutNl_some hc).1]; simp
  rw [htk] at hta
  have HCv : Hid (∀ w', Below w.heap.size w w' → (convert 46 9 (.slice a' x.length c)).run Tryz.prog w' = .ok (.string ⟨x.toArray⟩) w') := fun w' hb => bytes_string (hta.later hb hB)
  have HPa : Hid (∀ w', Below w.heap.size w w' → Calls Tryz.prog 14 #[.string ⟨x.toArray⟩] w' fun e w'' => ∃ v, e = .returned (.tuple #[v, .int .i64 (recOf x).2]) ∧ RecNew w'.heap.size w'' v (recOf x).1 ∧ Below w'.heap.size w' w'') := fun w' hb => by
    have := parseN_new ⟨x.toArray⟩ w' (he.later hb)
    have e : recParse (⟨x.toArray⟩ : ByteArray).data.toList = recOf x := by
      unfold recParse
      rw [if_neg (by simp; omega)]
    rw [e] at this
    exact this
  obtain ⟨⟨⟨k, ce, fr, rs, d⟩, RE⟩, hRR⟩ : ∃ RR, RR = recOf x := ⟨_, rfl⟩
  rw [← hRR] at HPa ⊢
  clear hRR
  simp only [] at HPa ⊢
  obtain ⟨n, hn⟩ : ∃ n, n = bs.length := ⟨_, rfl⟩
  obtain ⟨m, hm⟩ : ∃ m, m = x.length := ⟨_, rfl⟩
  rw [← hn] at hl h60 hsl HIx HB ⊢
  rw [← hm] at hl hsl HIx HCv ⊢
  have hw1 : IntKind.i64.wrap ((m : Int) + 1) = (m : Int) + 1 := IntWalk.i64_in _ (by omega)
  have m0 : ¬ ((m : Int) < 0) := by omega
  have mc : (m : Int) ≤ (c : Int) := by omega
  clear hc hta htk h1 h2 hn hm he hl hW0 g0 bw0
  go_enter Tryz.func122, Tryz.ntmps122
  go_wp2_with fail
  rw [← HW.out]
  go_at_call 152
  refine Calls.mono (HIx.out _ HB.out) ?_
  rintro e w1 ⟨rfl, rfl⟩
  go_wp2_with fail
  rw [HCv.out _ (HG.out _ (Below.refl _ _)).2]
  go_wp2_with fail
  go_at_call 14
  refine Calls.mono (HPa.out _ (HG.out _ (Below.refl _ _)).2) ?_
  rintro e w2 ⟨rv, rfl, hnew, b12⟩
  obtain ⟨g2, bw2⟩ := HG.out w2 b12
  obtain ⟨ra, rc, rfl, -⟩ := hnew.at.shape
  simp only [] at *
  obtain ⟨rn, hrn⟩ : ∃ n, n = rs.length := ⟨_, rfl⟩
  rw [← hrn] at hnew ⊢
  clear hrn
  have HNw : Hid (RecNew w1.heap.size w2 (.agg #[.int .i64 k, .int .i64 ce, .int .i64 fr, .slice ra rn rc, .int .i64 d]) (k, ce, fr, rs, d)) := hnew
  have Bw2 : Hid (Below w.heap.size w w2) := bw2
  have Hg2 : Hid (w2.heap[w.heap.size]? = some (.cells #[.int .i64 0, .int .i64 0, .int .i64 0, .slice none 0 0, .int .i64 0] 38 (0, 0))) := g2
  have hl2 : w.heap.size < w2.heap.size := lt_of_block g2
  obtain ⟨z0, z1, z2, z3, z4⟩ := rec_box g2
  obtain ⟨f0, f1, f2, f3, f4⟩ := rec_free g2
  have HS2 : Hid (Below w1.heap.size w1 w2 ∧ w.heap.size < w1.heap.size) := ⟨b12, lt_of_block (HG.out w1 (Below.refl _ _)).1⟩
  clear hnew b12 bw2 g2 HB HIx HPa HCv m0 mc hsl Hg2
  go_wp2_with fail
  refine bodyPost_ret (v := .tuple #[.agg #[.int .i64 k, .int .i64 ce, .int .i64 fr, .slice ra rn rc, .int .i64 d], .int .i64 ((m : Int) + 1), .int .i64 RE]) ?_ rfl ⟨_, rfl, fun wF k1 k2 => ?_, ?_⟩
  · rw [results_cell_tmps rfl]
    go_simp
  · have hs2 := HS2.out.2
    refine HNw.out wF (fun g h1 h2 => ?_) (Nat.le_trans (by simp) k2)
    have e1 := k1 g (by omega) (by simp; omega)
    have e2 := keep_rec w2 w.heap.size g (by omega) (.int .i64 k) (.int .i64 ce) (.int .i64 fr) (.slice ra rn rc) (.int .i64 d)
    rw [e1, Below.heap_alloc _ _ _ (by simp; exact h2), e2]
  · exact (below_rec Bw2.out (Nat.le_refl _) _ _ _ _ _).alloc (by simp; exact Bw2.out.size) _
end Go.Proofs.YtdfcfinjoghipacGreatDoor
end
