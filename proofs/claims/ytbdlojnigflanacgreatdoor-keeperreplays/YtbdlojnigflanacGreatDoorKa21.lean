/- The counterpart's Both: what its second closure does with two rules. -/
import Derived.Test.YtbdlojnigflanacGreatDoorKa20
set_option linter.all false
set_option maxRecDepth 100000
namespace Go.Proofs.YtbdlojnigflanacGreatDoor
open Go.RowKit Go.Maps

/-- What readers see in a region that grows one row. -/
def GrW (W : World) (row : Option Nat) : Type := { w' : World // W.grownBy w' row }
theorem GrW.ne (W : World) (row : Option Nat) : Nonempty (GrW W row) := ⟨⟨W, rfl, rfl, rfl, Nat.le_refl _, fun _ _ _ => rfl⟩⟩
theorem GrW.cell {W : World} {row : Option Nat} (x : GrW W row) {b o : Nat} {cur : Array Value} {T : TypeId} {fr : Nat × Nat} {u : Value} (h : W.heap[b]? = some (.cells cur T fr)) (hne : some b ≠ row) (hu : cur[o]? = some u) : x.1.cell? ⟨b, o, none⟩ = some u := heap_cell ((x.2.block b (lt_of_block h) hne).trans h) o hu
def SBo (N n : Nat) (vd : Int) (k : Nat) (v : Value) : Prop := if k = 6 then ∃ g : Nat, v = .slice (some ⟨g, 0, none⟩) 2 2 else if k = 7 then ∃ a cap, v = .slice a N cap else if k = 13 then v = .int .i64 vd else if k = 14 then ∃ a cap, v = .agg #[.slice a N cap, .int .i64 vd] else if k = 15 then ∃ g : Nat, v = .slice (some ⟨g, 0, none⟩) 1 1 else if k = 16 then ∃ a cap, v = .slice a (n + 1) cap else True
theorem sBo_some (N n : Nat) (vd : Int) (k : Nat) : ∃ v, SBo N n vd k v := by
  unfold SBo
  split
  · exact ⟨_, 0, rfl⟩
  · split
    · exact ⟨_, none, 0, rfl⟩
    · split
      · exact ⟨_, rfl⟩
      · split
        · exact ⟨_, none, 0, rfl⟩
        · split
          · exact ⟨_, 0, rfl⟩
          · split
            · exact ⟨_, none, 0, rfl⟩
            · exact ⟨undef, trivial⟩
theorem ofV_wf {exc : Bool} {a b : Int} (ha : wf a) (hb : wf b) : wf (ofV exc a b) := by
  unfold ofV
  split
  · exact ha
  · split
    · unfold wf; decide
    · exact hb

/-- The rules made so far don't lie in block b. -/
def RowNot (w : World) (bo b : Nat) : Prop := ∀ v d, w.heap[bo]? = some (.cells #[v, d] 24 (0, 0)) → v.ownBlock ≠ some b
theorem RowNot.later {w w' : World} {bo b : Nat} (h : RowNot w bo b) (hb : Below w.heap.size w w') (hbo : bo < w.heap.size) : RowNot w' bo b := fun v d hv => h v d ((hb.block bo hbo).symm.trans hv)
set_option maxHeartbeats 16000000 in
theorem both2_any (L bo bf bx B : Nat) (exc : Bool) (r s : RuleT) (rc sc : Value) (rs : List RuleT) (w : World) (hS : BoS L bo bf bx exc rs w) (hr : CondsAt B w rc r.1) (hr2 : wf r.2) (hs : CondsAt B w sc s.1) (hs2 : wf s.2) (hBL : B ≤ L) (hL : L ≤ w.heap.size) (hbo : L ≤ bo) (hn : rs.length ≤ 20000) (hrl : r.1.length ≤ 10) (hsl : s.1.length ≤ 10) :
    Calls Tryz.prog 224 #[.agg #[rc, .int .i64 r.2], .agg #[sc, .int .i64 s.2], .pointer (some ⟨bo, 0, none⟩), .pointer (some ⟨bf, 0, none⟩)] w fun e w' => e = .returned (.tuple #[]) ∧ BoS L bo bf bx exc (rs ++ [pairR exc r s]) w' ∧ Below L w w' ∧ ∀ (b : Nat) (cur : Array Value) (T : TypeId) (fr : Nat × Nat), w.heap[b]? = some (.cells cur T fr) → b ≠ bo → RowNot w bo b → w'.heap[b]? = some (.cells cur T fr) ∧ RowNot w' bo b := by
  have HWr : Hid (∀ c ∈ r.1 ++ s.1, wf c.1 ∧ wf c.2.1 ∧ wf c.2.2) := fun c hc => by
    rcases List.mem_append.1 hc with hc | hc
    · exact hr.wfs c hc
    · exact hs.wfs c hc
  have HWv : Hid (wf (ofV exc r.2 s.2)) := ofV_wf hr2 hs2
  have HCR : Hid (∀ w', Below L w w' → CondsAt B w' rc r.1 ∧ CondsAt B w' sc s.1) := fun w' h => ⟨hr.later h hBL, hs.later h hBL⟩
  obtain ⟨ra, rcap, erc, -, -⟩ := hr.full
  obtain ⟨sa, scap, esc, -, -⟩ := hs.full
  subst erc
  subst esc
  obtain ⟨v, xs, hV⟩ := hS
  obtain ⟨va, vcap, ev, hvc, hvm, -⟩ := ownsRow_caps hV.2.2.2.1
  subst ev
  obtain ⟨W1, hW1⟩ : ∃ W1, W1 = (w.alloc (.cells #[.slice ra r.1.length rcap, .int .i64 r.2] 95)).alloc (.cells #[.slice sa s.1.length scap, .int .i64 s.2] 95) := ⟨_, rfl⟩
  have hbW : Below w.heap.size w W1 := by rw [hW1]; exact ((Below.refl _ _).alloc (Nat.le_refl _) _).alloc (by simp) _
  have hs1 : W1.heap.size = w.heap.size + 1 + 1 := by rw [hW1]; simp
  have hR0 : W1.heap[w.heap.size]? = some (.cells #[.slice ra r.1.length rcap, .int .i64 r.2] 95 (0, 0)) := by rw [hW1, Below.heap_alloc _ _ _ (by simp)]; exact heap_made _ _
  have hR1 : W1.heap[w.heap.size + 1]? = some (.cells #[.slice sa s.1.length scap, .int .i64 s.2] 95 (0, 0)) := by
    have := heap_made (w.alloc (.cells #[.slice ra r.1.length rcap, .int .i64 r.2] 95)) (.cells #[.slice sa s.1.length scap, .int .i64 s.2] 95)
    rw [World.size_alloc] at this
    rw [hW1]
    exact this
  have hob : ∀ k, (Value.slice va rs.length vcap).ownBlock = some k → k < w.heap.size := fun k hk => by
    obtain ⟨cur, hc⟩ := ownsRow_tag hV.2.2.2.1 k hk
    exact lt_of_block hc
  have hV1 : BoV L bo bf bx exc rs (.slice va rs.length vcap) xs W1 := by
    obtain ⟨h1, h2, h3, h4, h5⟩ := hV
    exact ⟨(hbW.block bx (lt_of_block h1)).trans h1, (hbW.block bf (lt_of_block h2)).trans h2, (hbW.block bo (lt_of_block h3)).trans h3, ownsRow_below h4 hbW, h5.keep (KeepT.of_below hbW)⟩
  have tagne : ∀ {b : Nat} {cur : Array Value} {T : TypeId} {fr : Nat × Nat}, W1.heap[b]? = some (.cells cur T fr) → T ≠ 95 → some b ≠ (Value.slice va rs.length vcap).ownBlock := by
    intro b cur T fr hb hT e
    obtain ⟨cur', hc⟩ := ownsRow_tag hV1.2.2.2.1 b e.symm
    rw [hb] at hc
    cases hc
    exact hT rfl
  have nx := tagne hV1.1 (by decide)
  have nf := tagne hV1.2.1 (by decide)
  have no := tagne hV1.2.2.1 (by decide)
  have n0 : some w.heap.size ≠ (Value.slice va rs.length vcap).ownBlock := fun e => by have := hob _ e.symm; omega
  have n1 : some (w.heap.size + 1) ≠ (Value.slice va rs.length vcap).ownBlock := fun e => by have := hob _ e.symm; omega
  have HV1 : Hid _ := hV1
  have HBx : Hid (∀ w', W1.grownBy w' (Value.slice va rs.length vcap).ownBlock → w'.cell? ⟨bx, 0, none⟩ = some (.bool exc)) := fun w' h => heap_cell ((h.block bx (lt_of_block hV1.1) nx).trans hV1.1) 0 rfl
  have HBo : Hid (∀ w', W1.grownBy w' (Value.slice va rs.length vcap).ownBlock → w'.heap[bo]? = some (.cells #[.slice va rs.length vcap, .int .i64 0] 24 (0, 0))) := fun w' h => (h.block bo (lt_of_block hV1.2.2.1) no).trans hV1.2.2.1
  have HBl : Hid (∀ w', W1.grownBy w' (Value.slice va rs.length vcap).ownBlock → Below L w w') := fun w' h => (hbW.mono hL).grown h (by omega) fun k hk => ownsRow_ge hV1.2.2.2.1 k hk
  have HKp : Hid (∀ w', W1.grownBy w' (Value.slice va rs.length vcap).ownBlock → (∀ (b : Nat) (cur : Array Value) (T : TypeId), T ≠ 95 → W1.heap[b]? = some (Obj.cells cur T (0, 0)) → w'.heap[b]? = some (Obj.cells cur T (0, 0))) ∧ KeepT 99 W1 w') := fun w' h => ⟨fun b cur T hT hb => (h.block b (lt_of_block hb) (tagne hb hT)).trans hb, fun k cur fr hk => (h.block k (lt_of_block hk) (tagne hk (by decide))).trans hk⟩
  have q0 : ∀ z : GrW W1 (Value.slice va rs.length vcap).ownBlock, z.1.cell? ⟨bo, 0, none⟩ = some (.slice va rs.length vcap) := fun z => z.cell hV1.2.2.1 no rfl
  have q1 : ∀ z : GrW W1 (Value.slice va rs.length vcap).ownBlock, z.1.cell? ⟨w.heap.size, 0, none⟩ = some (.slice ra r.1.length rcap) := fun z => z.cell hR0 n0 rfl
  have q2 : ∀ z : GrW W1 (Value.slice va rs.length vcap).ownBlock, z.1.cell? ⟨w.heap.size, 1, none⟩ = some (.int .i64 r.2) := fun z => z.cell hR0 n0 rfl
  have q3 : ∀ z : GrW W1 (Value.slice va rs.length vcap).ownBlock, z.1.cell? ⟨w.heap.size + 1, 0, none⟩ = some (.slice sa s.1.length scap) := fun z => z.cell hR1 n1 rfl
  have q4 : ∀ z : GrW W1 (Value.slice va rs.length vcap).ownBlock, z.1.cell? ⟨w.heap.size + 1, 1, none⟩ = some (.int .i64 s.2) := fun z => z.cell hR1 n1 rfl
  have q5 : ∀ z : GrW W1 (Value.slice va rs.length vcap).ownBlock, z.1.cell? ⟨bf, 0, none⟩ = some (.func (.func 223) #[] #[.pointer (some ⟨bx, 0, none⟩)]) := fun z => z.cell hV1.2.1 nf rfl
  have HSt : Hid (∀ (w4 : World) (u : Value), W1.grownBy w4 (Value.slice va rs.length vcap).ownBlock → (u.ownBlock = (Value.slice va rs.length vcap).ownBlock ∨ ∃ k, u.ownBlock = some k ∧ W1.heap.size ≤ k) → ∀ (b : Nat) (cur : Array Value) (T : TypeId) (fr : Nat × Nat), w.heap[b]? = some (.cells cur T fr) → b ≠ bo → RowNot w bo b → (w4.setCell ⟨bo, 0, none⟩ u).heap[b]? = some (.cells cur T fr) ∧ RowNot (w4.setCell ⟨bo, 0, none⟩ u) bo b) := by
    intro w4 u hg hu b cur T fr hb hbo' hrn
    have hnb : some b ≠ (Value.slice va rs.length vcap).ownBlock := fun e => hrn _ _ hV.2.2.1 e.symm
    have h1 : W1.heap[b]? = some (.cells cur T fr) := (hbW.block b (lt_of_block hb)).trans hb
    have h4 : w4.heap[b]? = some (.cells cur T fr) := (hg.block b (lt_of_block h1) hnb).trans h1
    refine ⟨(Below.heap_setCell _ _ _ _ hbo').trans h4, fun v d hv => ?_⟩
    rw [row_setCell (HBo.out w4 hg)] at hv
    simp at hv
    rw [← hv.1]
    rcases hu with e | ⟨k, e, hk⟩
    · rw [e]; exact fun e' => hnb e'.symm
    · rw [e]
      intro e'
      have := Option.some.inj e'
      have := lt_of_block h1
      omega
  have Hob : Hid (∀ k, (Value.slice va rs.length vcap).ownBlock = some k → k < W1.heap.size) := fun k hk => by have := hob k hk; omega
  have HW : Hid (W1 = (w.alloc (.cells #[.slice ra r.1.length rcap, .int .i64 r.2] 95)).alloc (.cells #[.slice sa s.1.length scap, .int .i64 s.2] 95)) := hW1
  have HLs : Hid (L ≤ W1.heap.size) := by unfold Hid; omega
  have HCC : Hid (∀ g w', (∃ T0 fr, w'.heap[g]? = some (.cells #[.slice ra r.1.length rcap, .slice sa s.1.length scap] T0 fr)) → Below L w w' → Calls Tryz.prog 197 #[.slice (some ⟨g, 0, none⟩) 2 2] w' fun e w'' => ∃ v, e = .returned v ∧ w''.ownsRow w'.heap.size 99 3 v (r.1 ++ s.1).length (cndCells (r.1 ++ s.1)) ∧ Below w'.heap.size w' w'') := by
    rintro g w' ⟨T0, fr, hg⟩ hb
    obtain ⟨c1, c2⟩ := HCR.out w' hb
    exact concatC_any B _ _ r.1 s.1 g w' c1 c2 (by have := hb.size; omega) (lt_of_block hg) (heap_cell hg 0 rfl) (heap_cell hg 1 rfl) (by omega)
  clear hW1 hR0 hR1 hV1 hV tagne nx nf no n0 n1 hob hr hs hbW hs1
  obtain ⟨rcs, r2⟩ := r
  obtain ⟨scs, s2⟩ := s
  simp only [] at *
  obtain ⟨vd, hvd⟩ : ∃ vd, vd = ofV exc r2 s2 := ⟨_, rfl⟩
  have HPR : Hid (pairR exc (rcs, r2) (scs, s2) = (rcs ++ scs, vd)) := by unfold Hid pairR; rw [hvd]
  have HVd : Hid (ofV exc r2 s2 = vd) := hvd.symm
  rw [← hvd] at HWv
  clear hvd
  generalize rcs.length = rl at *
  generalize scs.length = sl at *
  go_enter Tryz.func224, Tryz.ntmps224
  go_wp2_with fail
  rw [← HW.out]
  have hne := GrW.ne W1 (Value.slice va rs.length vcap).ownBlock
  have hDJ : Hid (∀ fs w', JBo L W1 (.slice va rs.length vcap) rs.length xs (.slice ra rl rcap) (.slice sa sl scap) (rcs ++ scs).length (cndCells (rcs ++ scs)) vd fs w' → ∃ z : GrW W1 (Value.slice va rs.length vcap).ownBlock, w' = z.1) := fun fs w' h => ⟨⟨w', h.grown⟩, rfl⟩
  refine wp_region_free [_, _, _, _, _, _, _, _, _, _, _, _, _, _, _, _, _, _] _ rfl (fun k => k == 6 || k == 7 || k == 13 || k == 14 || k == 15 || k == 16) (JBo L W1 (.slice va rs.length vcap) rs.length xs (.slice ra rl rcap) (.slice sa sl scap) (rcs ++ scs).length (cndCells (rcs ++ scs)) vd) (SBo (rcs ++ scs).length rs.length vd) (sBo_some _ _ _) (by kernel_rfl) (by kernel_rfl) (JBo.start HV1.out.2.2.2.1) ?_
  iterate 6 (refine wpG_read hDJ.out rfl rfl ?_; go_big_quiet_step (fail); refine wpQuiet_nil ?_)
  refine wpG_write rfl rfl (fun gs w' hJ hdep hno => ⟨.slice (some ⟨w'.heap.size, 0, none⟩) 2 2, w'.alloc (.cells #[.slice ra rl rcap, .slice sa sl scap] 93), ?_, ⟨_, rfl⟩, hJ.lists _⟩) (fun v6 hv6 => ?_)
  · clear hJ hdep hno q0 q1 q2 q3 q4 q5 hDJ hne
    go_simp
  simp only [Act.put, List.setIfInBounds_toArray, List.set_cons_succ, List.set_cons_zero]
  obtain ⟨g6, rfl⟩ : ∃ g : Nat, v6 = .slice (some ⟨g, 0, none⟩) 2 2 := hv6
  refine wpG_call 197 #[.slice (some ⟨g6, 0, none⟩) 2 2] rfl rfl (fun w' => by kernel_rfl) (fun gs w' hJ hdep hno => ?_) (fun v7 hv7 => ?_)
  · obtain ⟨g, T0, fr, e, hge, hbl⟩ := hJ.lits _ (hdep 6 _ (.inr ⟨rfl, rfl⟩) (waitsB_spec (by kernel_rfl)))
    simp at e
    subst e
    refine (HCC.out g6 w' ⟨T0, fr, hbl⟩ (HBl.out w' hJ.grown)).mono ?_
    rintro e w2 ⟨u, rfl, ho, hb⟩
    obtain ⟨a, c, e7, _⟩ := ownsRow_caps ho
    exact ⟨_, rfl, ⟨a, c, e7⟩, hJ.joined hno hb _ ho⟩
  simp only [Act.put, List.setIfInBounds_toArray, List.set_cons_succ, List.set_cons_zero]
  obtain ⟨a7, c7, rfl⟩ : ∃ a cap, v7 = .slice a (rcs ++ scs).length cap := hv7
  iterate 5 (refine wpG_read hDJ.out rfl rfl ?_; go_big_quiet_step (fail); refine wpQuiet_nil ?_)
  refine wpG_call 223 #[.int .i64 r2, .int .i64 s2, .pointer (some ⟨bx, 0, none⟩)] rfl rfl (fun w' => by kernel_rfl) (fun gs w' hJ hdep hno => ?_) (fun v13 hv13 => ?_)
  · refine (both1_any exc r2 s2 bx w' (HBx.out w' hJ.grown)).mono ?_
    rintro e w2 ⟨rfl, rfl⟩
    exact ⟨_, rfl, by rw [HVd.out]; rfl, hJ.other _ _ (by decide) (by decide) (by decide) (by decide) (by decide)⟩
  simp only [Act.put, List.setIfInBounds_toArray, List.set_cons_succ, List.set_cons_zero]
  obtain rfl : v13 = .int .i64 vd := hv13
  refine wpG_write rfl rfl (fun gs w' hJ hdep hno => ⟨.agg #[.slice a7 (rcs ++ scs).length c7, .int .i64 vd], w', ?_, ⟨_, _, rfl⟩, hJ.built _ (hdep 7 _ (.inl (.inr ⟨rfl, rfl⟩)) (waitsB_spec (by kernel_rfl)))⟩) (fun v14 hv14 => ?_)
  · clear hJ hdep hno q0 q1 q2 q3 q4 q5 hDJ hne
    go_simp
  simp only [Act.put, List.setIfInBounds_toArray, List.set_cons_succ, List.set_cons_zero]
  obtain ⟨a14, c14, rfl⟩ : ∃ a cap, v14 = .agg #[.slice a (rcs ++ scs).length cap, .int .i64 vd] := hv14
  refine wpG_write rfl rfl (fun gs w' hJ hdep hno => ⟨.slice (some ⟨w'.heap.size, 0, none⟩) 1 1, w'.alloc (.cells #[.slice a14 (rcs ++ scs).length c14, .int .i64 vd] 95), ?_, ⟨_, rfl⟩, hJ.rule hno _ (hdep 14 _ (.inr ⟨rfl, rfl⟩) (waitsB_spec (by kernel_rfl))) _⟩) (fun v15 hv15 => ?_)
  · clear hJ hdep hno q0 q1 q2 q3 q4 q5 hDJ hne
    go_simp
  simp only [Act.put, List.setIfInBounds_toArray, List.set_cons_succ, List.set_cons_zero]
  obtain ⟨g15, rfl⟩ : ∃ g : Nat, v15 = .slice (some ⟨g, 0, none⟩) 1 1 := hv15
  refine wpG_write rfl rfl (fun gs w' hJ hdep hno => ?_) (fun v16 hv16 => ?_)
  · obtain ⟨v', w'', r1, r2', r3⟩ := hJ.append hno Hob.out HLs.out _ (hdep 15 _ (.inr ⟨rfl, rfl⟩) (waitsB_spec (by kernel_rfl))) (by omega) 22
    refine ⟨v', w'', ?_, r2', r3⟩
    unfold execOp
    simp only [resolve, invoke, builtin, Sem.run_bind, Sem.run_pure, Result.andThen_ok, List.map_toArray, List.map_cons, List.map_nil]
    exact (congrArg (fun r => Result.andThen r fun v w => .ok (Next.value v) w) r1)
  simp only [Act.put, List.setIfInBounds_toArray, List.set_cons_succ, List.set_cons_zero]
  obtain ⟨a16, c16, rfl⟩ : ∃ a cap, v16 = .slice a (rs.length + 1) cap := hv16
  refine wpG_read hDJ.out rfl rfl ?_; go_big_quiet_step (fail); refine wpQuiet_nil ?_
  refine wpG_nil ?_
  intro w4 hJ
  have hgr := hJ.grown
  obtain ⟨u7, hu7, hrow, hown16⟩ := hJ.app _ (.inr ⟨rfl, rfl⟩)
  have HS4 : Hid _ := HSt.out w4 _ hgr hown16
  have hc7 := hJ.join u7 hu7
  have hbo4 := HBo.out w4 hgr
  obtain ⟨hK1, hK2⟩ := HKp.out w4 hgr
  have hb4 := HBl.out w4 hgr
  have y0 := heap_cell hbo4 0 rfl
  have yf : w4.frozen? ⟨bo, 0, none⟩ = false := by simp [World.frozen?, hbo4]
  have HFin : Hid (BoS L bo bf bx exc (rs ++ [pairR exc (rcs, r2) (scs, s2)]) (w4.setCell ⟨bo, 0, none⟩ (.slice a16 (rs.length + 1) c16)) ∧ Below L w (w4.setCell ⟨bo, 0, none⟩ (.slice a16 (rs.length + 1) c16))) := by
    obtain ⟨h1, h2, h3, h4, h5⟩ := HV1.out
    have nb : ∀ {b : Nat} {cur : Array Value} {T : TypeId}, W1.heap[b]? = some (Obj.cells cur T (0, 0)) → T ≠ 24 → b ≠ bo := fun hb hT e => by
      subst e
      rw [h3] at hb
      cases hb
      exact hT rfl
    refine ⟨⟨.slice a16 (rs.length + 1) c16, xs ++ [u7, .int .i64 vd], (Below.heap_setCell _ _ _ _ (nb h1 (by decide))).trans (hK1 _ _ _ (by decide) h1), (Below.heap_setCell _ _ _ _ (nb h2 (by decide))).trans (hK1 _ _ _ (by decide) h2), ?_, ?_, ?_⟩, hb4.setCell (p := ⟨bo, 0, none⟩) hbo _⟩
    · rw [row_setCell hbo4]; rfl
    · have := ownsRow_block (w' := w4.setCell ⟨bo, 0, none⟩ (.slice a16 (rs.length + 1) c16)) hrow fun g cur _ hgc => Below.heap_setCell _ _ _ _ (by
        show g ≠ bo
        intro e
        subst e
        rw [hbo4] at hgc
        cases hgc)
      simpa using this
    · have hkp : KeepT 99 w4 (w4.setCell ⟨bo, 0, none⟩ (.slice a16 (rs.length + 1) c16)) := fun k cur fr hk => (Below.heap_setCell _ _ _ _ (by
        show k ≠ bo
        intro e
        subst e
        rw [hbo4] at hk
        cases hk)).trans hk
      rw [HPR.out]
      exact (h5.keep (hK2.trans hkp)).snoc (r := (rcs ++ scs, vd)) HWv.out HWr.out (ownsRow_keepT (ownsRow_base hc7 HLs.out) hkp)
  clear hJ hgr hu7 hrow hown16 hc7 hbo4 hK1 hK2 hb4 q0 q1 q2 q3 q4 q5 hDJ hne
  go_wp2_with fail
  go_end0
  exact ⟨rfl, HFin.out.1, HFin.out.2, HS4.out⟩

end Go.Proofs.YtbdlojnigflanacGreatDoor
