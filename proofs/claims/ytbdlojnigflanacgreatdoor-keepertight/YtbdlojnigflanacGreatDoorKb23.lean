/- Joined: Mee1 Mee2. -/
import Derived.Test.YtbdlojnigflanacGreatDoorKb19
section
/- Package meet: the verdict of two, the rules of two lists, each with each. -/
set_option linter.all false
set_option maxRecDepth 100000
namespace Go.Proofs.YtbdlojnigflanacGreatDoor
open Go.RowKit Go.Maps

set_option maxHeartbeats 1000000 in
theorem exceptFn_any (a b : Int) (w : World) :
    Calls Tryz.prog 117 #[.agg #[.int .i64 a, .int .i64 b]] w fun e w' => e = .returned (.int .i64 (ofV true a b)) ∧ Below w.heap.size w w' := by
  by_cases hab : a < b
  · have HE : Hid (ofV true a b = a) := by unfold Hid ofV; rw [if_pos hab]
    go_enter Tryz.func117, Tryz.ntmps117
    go_wp2
    go_ret
    exact ⟨by rw [HE.out]; rfl, (Below.refl _ _).alloc (Nat.le_refl _) _⟩
  · have HE : Hid (ofV true a b = 4) := by unfold Hid ofV; rw [if_neg hab]; rfl
    go_enter Tryz.func117, Tryz.ntmps117
    go_wp2
    go_ret
    exact ⟨by rw [HE.out]; rfl, (Below.refl _ _).alloc (Nat.le_refl _) _⟩

/-- What stands in the region that makes a rule: operations 5 (the two lists), 6 (both, joined), 13 (the verdict), 14 (the rule), 15 (a list of it), 16 (appended). -/
structure JPr (L : Nat) (W : World) (v : Value) (n : Nat) (xs : List Value) (rc sc : Value) (N : Nat) (cc : List Value) (vd : Int) (fs : Nat → Value → Prop) (w : World) : Prop where
  grown : W.grownBy w v.ownBlock
  lits : ∀ u, fs 5 u → ∃ g T0 fr, u = .slice (some ⟨g, 0, none⟩) 2 2 ∧ W.heap.size ≤ g ∧ w.heap[g]? = some (.cells #[rc, sc] T0 fr)
  one : ∀ u u', fs 6 u → fs 6 u' → u = u'
  join : ∀ u, fs 6 u → w.ownsRow W.heap.size 99 3 u N cc
  build : ∀ u, fs 14 u → ∃ u7, fs 6 u7 ∧ u = .agg #[u7, .int .i64 vd]
  made : ∀ u, fs 15 u → ∃ g T0 fr u7, u = .slice (some ⟨g, 0, none⟩) 1 1 ∧ W.heap.size ≤ g ∧ fs 6 u7 ∧ w.heap[g]? = some (.cells #[u7, .int .i64 vd] T0 fr)
  row : (∀ u, ¬ fs 16 u) → w.ownsRow L 95 2 v n xs
  app : ∀ u, fs 16 u → ∃ u7, fs 6 u7 ∧ w.ownsRow L 95 2 u (n + 1) (xs ++ [u7, .int .i64 vd]) ∧ (u.ownBlock = v.ownBlock ∨ ∃ k, u.ownBlock = some k ∧ W.heap.size ≤ k)
section
variable {L : Nat} {W w w' : World} {v : Value} {n : Nat} {xs : List Value} {rc sc : Value} {N : Nat} {cc : List Value} {vd : Int} {fs : Nat → Value → Prop}
theorem JPr.start (h : W.ownsRow L 95 2 v n xs) : JPr L W v n xs rc sc N cc vd (fun _ _ => False) W.drew :=
  ⟨⟨rfl, rfl, rfl, Nat.le_refl _, fun _ _ _ => rfl⟩, fun _ h => h.elim, fun _ _ h => h.elim, fun _ h => h.elim, fun _ h => h.elim, fun _ h => h.elim, fun _ => h, fun _ h => h.elim⟩
theorem JPr.later (h : JPr L W v n xs rc sc N cc vd fs w) (hb : Below w.heap.size w w') : JPr L W v n xs rc sc N cc vd fs w' := by
  refine ⟨World.grownBy.andThen h.grown (grown_later hb v.ownBlock) fun j hj => .inr hj, fun u hu => ?_, h.one, fun u hu => ownsRow_below (h.join u hu) hb, h.build, fun u hu => ?_, fun hn => ownsRow_below (h.row hn) hb, fun u hu => ?_⟩
  · obtain ⟨g, T0, fr, e1, e2, e3⟩ := h.lits u hu
    exact ⟨g, T0, fr, e1, e2, (hb.block g (lt_of_block e3)).trans e3⟩
  · obtain ⟨g, T0, fr, u7, e1, e2, e3, e4⟩ := h.made u hu
    exact ⟨g, T0, fr, u7, e1, e2, e3, (hb.block g (lt_of_block e4)).trans e4⟩
  · obtain ⟨u7, e1, e2, e3⟩ := h.app u hu
    exact ⟨u7, e1, ownsRow_below e2 hb, e3⟩
/-- One more is done that is none of 5, 6, 14, 15, 16. -/
theorem JPr.other (h : JPr L W v n xs rc sc N cc vd fs w) (k : Nat) (u : Value) (h6 : 5 ≠ k) (h7 : 6 ≠ k) (h14 : 14 ≠ k) (h15 : 15 ≠ k) (h16 : 16 ≠ k) : JPr L W v n xs rc sc N cc vd (addF fs k u) w := by
  refine ⟨h.grown, fun u hu => h.lits u (addF_old h6 hu), fun u u' hu hu' => h.one u u' (addF_old h7 hu) (addF_old h7 hu'), fun u hu => h.join u (addF_old h7 hu), fun u hu => ?_, fun u hu => ?_, fun hn => h.row fun u hu => hn u (.inl hu), fun u hu => ?_⟩
  · obtain ⟨u7, e1, e2⟩ := h.build u (addF_old h14 hu)
    exact ⟨u7, .inl e1, e2⟩
  · obtain ⟨g, T0, fr, u7, e1, e2, e3, e4⟩ := h.made u (addF_old h15 hu)
    exact ⟨g, T0, fr, u7, e1, e2, .inl e3, e4⟩
  · obtain ⟨u7, e1, e2⟩ := h.app u (addF_old h16 hu)
    exact ⟨u7, .inl e1, e2⟩
theorem JPr.lists (h : JPr L W v n xs rc sc N cc vd fs w) (T0 : TypeId) : JPr L W v n xs rc sc N cc vd (addF fs 5 (.slice (some ⟨w.heap.size, 0, none⟩) 2 2)) (w.alloc (.cells #[rc, sc] T0)) := by
  have hsz := h.grown.size
  have h := h.later ((Below.refl w.heap.size w).alloc (Nat.le_refl _) (.cells #[rc, sc] T0))
  refine ⟨h.grown, fun u hu => ?_, fun u u' hu hu' => h.one u u' (addF_old (by decide) hu) (addF_old (by decide) hu'), fun u hu => h.join u (addF_old (by decide) hu), fun u hu => ?_, fun u hu => ?_, fun hn => h.row fun u hu => hn u (.inl hu), fun u hu => ?_⟩
  · rcases hu with hu | ⟨_, rfl⟩
    · exact h.lits u hu
    · exact ⟨w.heap.size, T0, (0, 0), rfl, hsz, heap_made _ _⟩
  · obtain ⟨u7, e1, e2⟩ := h.build u (addF_old (by decide) hu)
    exact ⟨u7, .inl e1, e2⟩
  · obtain ⟨g, T0, fr, u7, e1, e2, e3, e4⟩ := h.made u (addF_old (by decide) hu)
    exact ⟨g, T0, fr, u7, e1, e2, .inl e3, e4⟩
  · obtain ⟨u7, e1, e2⟩ := h.app u (addF_old (by decide) hu)
    exact ⟨u7, .inl e1, e2⟩
theorem JPr.joined (h : JPr L W v n xs rc sc N cc vd fs w) (hno : ∀ u, ¬ fs 6 u) (hb : Below w.heap.size w w') (u : Value) (ho : w'.ownsRow w.heap.size 99 3 u N cc) : JPr L W v n xs rc sc N cc vd (addF fs 6 u) w' := by
  have hsz := h.grown.size
  have h := h.later hb
  refine ⟨h.grown, fun u hu => h.lits u (addF_old (by decide) hu), fun u1 u2 hu hu' => ?_, fun u1 hu => ?_, fun u hu => ?_, fun u hu => ?_, fun hn => h.row fun u hu => hn u (.inl hu), fun u hu => ?_⟩
  · rcases hu with hu | ⟨_, rfl⟩
    · exact absurd hu (hno u1)
    · rcases hu' with hu' | ⟨_, rfl⟩
      · exact absurd hu' (hno u2)
      · rfl
  · rcases hu with hu | ⟨_, rfl⟩
    · exact absurd hu (hno u1)
    · exact ownsRow_base ho hsz
  · obtain ⟨u7, e1, _⟩ := h.build u (addF_old (by decide) hu)
    exact absurd e1 (hno u7)
  · obtain ⟨g, T0, fr, u7, e1, e2, e3, e4⟩ := h.made u (addF_old (by decide) hu)
    exact absurd e3 (hno u7)
  · obtain ⟨u7, e1, e2⟩ := h.app u (addF_old (by decide) hu)
    exact absurd e1 (hno u7)
theorem JPr.built (h : JPr L W v n xs rc sc N cc vd fs w) (u7 : Value) (hu7 : fs 6 u7) : JPr L W v n xs rc sc N cc vd (addF fs 14 (.agg #[u7, .int .i64 vd])) w := by
  refine ⟨h.grown, fun u hu => h.lits u (addF_old (by decide) hu), fun u u' hu hu' => h.one u u' (addF_old (by decide) hu) (addF_old (by decide) hu'), fun u hu => h.join u (addF_old (by decide) hu), fun u hu => ?_, fun u hu => ?_, fun hn => h.row fun u hu => hn u (.inl hu), fun u hu => ?_⟩
  · rcases hu with hu | ⟨_, rfl⟩
    · obtain ⟨y, e1, e2⟩ := h.build u hu
      exact ⟨y, .inl e1, e2⟩
    · exact ⟨u7, .inl hu7, rfl⟩
  · obtain ⟨g, T0, fr, y, e1, e2, e3, e4⟩ := h.made u (addF_old (by decide) hu)
    exact ⟨g, T0, fr, y, e1, e2, .inl e3, e4⟩
  · obtain ⟨y, e1, e2⟩ := h.app u (addF_old (by decide) hu)
    exact ⟨y, .inl e1, e2⟩
theorem JPr.rule (h : JPr L W v n xs rc sc N cc vd fs w) (hno : ∀ u, ¬ fs 15 u) (u7 : Value) (hu : fs 14 (.agg #[u7, .int .i64 vd])) (T0 : TypeId) : JPr L W v n xs rc sc N cc vd (addF fs 15 (.slice (some ⟨w.heap.size, 0, none⟩) 1 1)) (w.alloc (.cells #[u7, .int .i64 vd] T0)) := by
  have hsz := h.grown.size
  have hu7 : fs 6 u7 := by
    obtain ⟨y, e1, e2⟩ := h.build _ hu
    have : u7 = y := by simpa using e2
    rw [this]
    exact e1
  have h := h.later ((Below.refl w.heap.size w).alloc (Nat.le_refl _) (.cells #[u7, .int .i64 vd] T0))
  refine ⟨h.grown, fun u hu => h.lits u (addF_old (by decide) hu), fun u u' hu hu' => h.one u u' (addF_old (by decide) hu) (addF_old (by decide) hu'), fun u hu => h.join u (addF_old (by decide) hu), fun u hu => ?_, fun u hu => ?_, fun hn => h.row fun u hu => hn u (.inl hu), fun u hu => ?_⟩
  · obtain ⟨y, e1, e2⟩ := h.build u (addF_old (by decide) hu)
    exact ⟨y, .inl e1, e2⟩
  · rcases hu with hu | ⟨_, rfl⟩
    · exact absurd hu (hno u)
    · exact ⟨w.heap.size, T0, (0, 0), u7, rfl, hsz, .inl hu7, heap_made _ _⟩
  · obtain ⟨y, e1, e2⟩ := h.app u (addF_old (by decide) hu)
    exact ⟨y, .inl e1, e2⟩
theorem JPr.append (h : JPr L W v n xs rc sc N cc vd fs w) (hno : ∀ u, ¬ fs 16 u) (hob : ∀ k, v.ownBlock = some k → k < W.heap.size) (hL : L ≤ W.heap.size) (lit : Value) (hlit : fs 15 lit) (hn : n ≤ 100000) (ty : TypeId) :
    ∃ v' w', (Builtin.append_ #[22, 22] ty #[v, lit]).run Tryz.prog w = .ok v' w' ∧ (∃ a cap, v' = .slice a (n + 1) cap) ∧ JPr L W v n xs rc sc N cc vd (addF fs 16 v') w' := by
  have hml := maxLen_eq
  obtain ⟨g, T0, fr, u7, rfl, hg, hu7, hbl⟩ := h.made lit hlit
  have hrow := h.row hno
  have h1c : u7.oneCell' = true := by
    obtain ⟨a, cap, rfl, _⟩ := ownsRow_caps (h.join u7 hu7)
    rfl
  obtain ⟨inf, hi1, hi2, hi3, hi4⟩ : ∃ i, Tryz.prog.info? 95 = some i ∧ i.zero = some (.agg #[.slice none 0 0, .int .i64 0]) ∧ i.size = 2 ∧ i.bytes = 32 := infoOf (by kernel_rfl)
  obtain ⟨v', w', r1, r2, r3, _, r5⟩ := run_append_own_at (P := Tryz.prog) w L 22 ty 95 inf _ 2 32 Tryz.underlying22 hi1 hi2 hi3 hi4 rfl (by decide) v n xs hrow ⟨g, 0, none⟩ 1 1 [u7, .int .i64 vd] rfl (fun j u hj => by rw [add_at, Nat.zero_add]; exact heap_cell hbl j (by simpa using hj)) (by intro u hu; simp at hu; rcases hu with rfl | rfl; exact h1c; rfl) (by omega) (by omega) (Nat.le_trans hL h.grown.size)
  have hst : ∀ g', W.heap.size ≤ g' → ∀ {x}, w.heap[g']? = some x → w'.heap[g']? = some x := fun g' hg' x hx => by
    refine (r3.block g' (Array.getElem?_eq_some_iff.1 hx).1 fun e => ?_).trans hx
    have := hob g' e.symm
    omega
  obtain ⟨a', cap', e', _⟩ := ownsRow_caps r2
  refine ⟨v', w', r1, ⟨a', cap', e'⟩, World.grownBy.andThen h.grown r3 fun j hj => .inr hj, fun u hu => ?_, fun u u' hu hu' => h.one u u' (addF_old (by decide) hu) (addF_old (by decide) hu'), fun u hu => ?_, fun u hu => ?_, fun u hu => ?_, fun hn => absurd (.inr ⟨rfl, rfl⟩) (hn v'), fun u hu => ?_⟩
  · obtain ⟨g2, T2, fr2, e1, e2, e3⟩ := h.lits u (addF_old (by decide) hu)
    exact ⟨g2, T2, fr2, e1, e2, hst g2 e2 e3⟩
  · exact ownsRow_block (h.join u (addF_old (by decide) hu)) fun g2 cur hg2 hc => (hst g2 hg2 hc).trans hc.symm
  · obtain ⟨y, e1, e2⟩ := h.build u (addF_old (by decide) hu)
    exact ⟨y, .inl e1, e2⟩
  · obtain ⟨g2, T2, fr2, y7, e1, e2, e3, e4⟩ := h.made u (addF_old (by decide) hu)
    exact ⟨g2, T2, fr2, y7, e1, e2, .inl e3, hst g2 e2 e4⟩
  · rcases hu with hu | ⟨_, rfl⟩
    · exact absurd hu (hno u)
    · refine ⟨u7, .inl hu7, r2, ?_⟩
      rcases r5 with e | e
      · exact .inl e
      · exact .inr ⟨_, e, h.grown.size⟩
end
def SPr (N n : Nat) (vd : Int) (k : Nat) (v : Value) : Prop := if k = 5 then ∃ g : Nat, v = .slice (some ⟨g, 0, none⟩) 2 2 else if k = 6 then ∃ a cap, v = .slice a N cap else if k = 13 then v = .int .i64 vd else if k = 14 then ∃ a cap, v = .agg #[.slice a N cap, .int .i64 vd] else if k = 15 then ∃ g : Nat, v = .slice (some ⟨g, 0, none⟩) 1 1 else if k = 16 then ∃ a cap, v = .slice a (n + 1) cap else True
theorem sPr_some (N n : Nat) (vd : Int) (k : Nat) : ∃ v, SPr N n vd k v := by
  unfold SPr
  split
  · exact ⟨_, 0, rfl⟩
  · split
    · exact ⟨_, none, 0, rfl⟩
    · split
      · exact ⟨_, rfl⟩
      · split
        · exact ⟨_, none, 0, rfl⟩
        · split
          · exact ⟨_, 0, rfl⟩
          · split
            · exact ⟨_, none, 0, rfl⟩
            · exact ⟨undef, trivial⟩

end Go.Proofs.YtbdlojnigflanacGreatDoor
end
section
/- Package meet: the rules of two lists, each with each. -/
set_option linter.all false
set_option maxRecDepth 100000
namespace Go.Proofs.YtbdlojnigflanacGreatDoor
open Go.RowKit Go.Maps

/-- Each rule of one list with each of another one. -/
def prodR (exc : Bool) (rs ss : List RuleT) : List RuleT := rs.flatMap fun r => ss.map (pairR exc r)
theorem prodR_len (exc : Bool) (ss : List RuleT) : ∀ rs : List RuleT, (prodR exc rs ss).length = rs.length * ss.length
  | [] => by simp [prodR]
  | r :: rs => by
    have ih := prodR_len exc ss rs
    unfold prodR at ih ⊢
    rw [List.flatMap_cons, List.length_append, ih, List.length_map, List.length_cons, Nat.add_mul]
    omega
theorem prodR_succ (exc : Bool) (rs ss : List RuleT) (i : Nat) (r : RuleT) (h : rs[i]? = some r) : prodR exc (rs.take (i + 1)) ss = prodR exc (rs.take i) ss ++ ss.map (pairR exc r) := by
  unfold prodR
  rw [List.take_succ, h]
  simp
theorem XsN.base {L L' : Nat} {w : World} {xs : List Value} {rs : List RuleT} (h : XsN L w xs rs) (hL : L' ≤ L) : XsN L' w xs rs := by
  obtain ⟨h1, h2, h3⟩ := h
  refine ⟨h1, h2, fun i r hr => ?_⟩
  obtain ⟨cv, a, b, c, d, e⟩ := h3 i r hr
  exact ⟨cv, a, b, c, d, ownsRow_base e hL⟩

/-- A call of a function value. -/
theorem run_call_value {P : Program} (ρ : Operand → Value) (o : Oper) (k x : Operand) (ts : Array TypeId) (F : Nat) (u : Value) (w : World) (hop : o.op = .call { callee := .value k, args := #[x], argTypes := ts }) (hk : ρ k = .func (.func F) #[] #[]) (hx : ρ x = u) (hC : (callFunc F #[u]).run P w = .ok (.enter F #[u]) w) : (execOp ρ o).run P w = .ok (.enter F #[u]) w := by
  unfold execOp
  simp [hop, resolve, hk, hx, Deferred.ofValue, invoke, hC]

set_option maxHeartbeats 16000000 in
theorem product_any (exc : Bool) (F : Nat) (hF : ∀ a b w, Calls Tryz.prog F #[.agg #[.int .i64 a, .int .i64 b]] w fun e w' => e = .returned (.int .i64 (ofV exc a b)) ∧ Below w.heap.size w w')
    (hC : ∀ args w', (callFunc F args).run Tryz.prog w' = .ok (.enter F args) w') (B : Nat) (v0 v1 : Value) (rs ss : List RuleT) (w : World) (h0 : RulesAt B w v0 rs) (h1 : RulesAt B w v1 ss) (hB : B ≤ w.heap.size) (hn0 : rs.length ≤ 121) (hn1 : ss.length ≤ 121) (hr10 : ∀ r ∈ rs, r.1.length ≤ 10) (hs10 : ∀ r ∈ ss, r.1.length ≤ 10) :
    Calls Tryz.prog 165 #[.agg #[v0, v1], .func (.func F) #[] #[]] w fun e w' => ∃ v, e = .returned v ∧ ∃ xs, w'.ownsRow w.heap.size 95 2 v (prodR exc rs ss).length xs ∧ XsN w.heap.size w' xs (prodR exc rs ss) ∧ Below w.heap.size w w' := by
  have HFn : Hid _ := hF
  have HCf : Hid _ := hC
  clear hF hC
  have HR : Hid (∀ w', Below w.heap.size w w' → RulesAt B w' v0 rs) := fun w' h => h0.later h hB
  have HS : Hid (∀ w', Below w.heap.size w w' → RulesAt B w' v1 ss) := fun w' h => h1.later h hB
  have HR10 : Hid _ := hr10
  have HS10 : Hid _ := hs10
  clear hr10 hs10
  obtain ⟨a0, c0, e0, hlc0, hcm0, -⟩ := h0
  obtain ⟨a1, c1, e1, hlc1, hcm1, -⟩ := h1
  subst e0 e1
  have hml := maxLen_eq
  rw [hml] at hcm0 hcm1
  generalize hN0 : rs.length = n0 at *
  generalize hN1 : ss.length = n1 at *
  have HN0 : Hid (rs.length = n0) := hN0
  have HN1 : Hid (ss.length = n1) := hN1
  clear hN0 hN1
  obtain ⟨W1, hW1⟩ : ∃ W1, W1 = w.alloc (.cells #[.slice a0 n0 c0, .slice a1 n1 c1] 201) := ⟨_, rfl⟩
  have hs1 : W1.heap.size = w.heap.size + 1 := by rw [hW1]; simp
  have hb1 : Below w.heap.size w W1 := by rw [hW1]; exact (Below.refl _ _).alloc (Nat.le_refl _) _
  have g1 : W1.heap[w.heap.size]? = some (.cells #[.slice a0 n0 c0, .slice a1 n1 c1] 201 (0, 0)) := by rw [hW1]; exact heap_made _ _
  have HW1 : Hid (W1 = _) := hW1
  clear hW1
  have HSd : Hid (∀ v, Below (w.heap.size + 1) W1 v → v.cell? ⟨w.heap.size, 1, none⟩ = some (.slice a1 n1 c1) ∧ Below w.heap.size w v) := fun v h => ⟨heap_cell ((h.block _ (by omega)).trans g1) 1 rfl, hb1.trans (h.mono (by omega))⟩
  clear g1
  go_enter Tryz.func165, Tryz.ntmps165
  go_wp2_with fail
  rw [← HW1.out]
  go_loopw [5, 13] (fun rv iv wr => ∃ (i : Nat) (xs : List Value), i ≤ n0 ∧ iv = .int .i64 i ∧ Hid (wr.ownsRow (w.heap.size + 1) 95 2 rv (prodR exc (rs.take i) ss).length xs) ∧ Hid (XsN (w.heap.size + 1) wr xs (prodR exc (rs.take i) ss)) ∧ Hid (Below (w.heap.size + 1) W1 wr)) (fun _ iv _ => n0 - (intOf iv).toNat)
  case atStart => exact ⟨0, [], by omega, rfl, ⟨rfl, .inl ⟨rfl, rfl⟩⟩, ⟨rfl, fun u hu => (by cases hu), fun i r hr => (by simp [prodR] at hr)⟩, Below.refl _ _⟩
  case round =>
    obtain ⟨i, xs, hi, rfl, HO, HX, HBl⟩ := hrel
    obtain ⟨wo, hwo⟩ : ∃ x, x = wr := ⟨_, rfl⟩
    subst hwo
    have i0 : (0 : Int) ≤ (i : Int) := by omega
    obtain ⟨hc1, hbw⟩ := HSd.out wo HBl.out
    have hos : w.heap.size + 1 ≤ wo.heap.size := by have := HBl.out.size; omega
    by_cases hlt : i < n0
    · have i1 : (i : Int) < (n0 : Int) := by omega
      obtain ⟨r, hrk⟩ : ∃ r, rs[i]? = some r := ⟨rs[i]'(by rw [HN0.out]; omega), by simp⟩
      have HP : Hid (prodR exc (rs.take (i + 1)) ss = prodR exc (rs.take i) ss ++ ss.map (pairR exc r)) := prodR_succ exc rs ss i r hrk
      have hr10 := HR10.out r (List.mem_of_getElem? hrk)
      obtain ⟨_, _, e1, -, -, hat⟩ := HR.out _ hbw
      obtain ⟨b3, o3, e, hbB3, hrc⟩ := hat i r hrk
      simp at e1
      obtain ⟨rfl, -, -⟩ := e1
      subst e
      clear hat hrk
      obtain ⟨rcs, r2⟩ := r
      obtain ⟨cv, q0, q1, hwv, hcs⟩ := hrc
      have HCR : Hid (∀ w', Below (w.heap.size + 1) wo w' → CondsAt B w' cv rcs) := fun w' h => hcs.later h (by omega)
      have HWr : Hid (∀ c ∈ rcs, wf c.1 ∧ wf c.2.1 ∧ wf c.2.2) := hcs.wfs
      obtain ⟨ra, rcap, ecv, -, -⟩ := hcs.full
      subst ecv
      have Hr2 : Hid (wf r2) := hwv
      have Hr10 : Hid (rcs.length ≤ 10) := hr10
      clear hcs hwv hr10
      obtain ⟨rl, hrl⟩ : ∃ rl, rl = rcs.length := ⟨_, rfl⟩
      have Hrl : Hid (rcs.length = rl) := hrl.symm
      rw [← hrl] at q0 HCR
      clear hrl
      simp only [] at q0 q1
      have HDl : Hid ((prodR exc (rs.take i) ss).length ≤ 14641) := by
        unfold Hid
        rw [prodR_len, HN1.out, List.length_take]
        exact Nat.le_trans (Nat.mul_le_mul (Nat.le_trans (Nat.min_le_left i rs.length) (by omega : i ≤ 121)) hn1) (by decide)
      obtain ⟨D0, hD0⟩ : ∃ D0, D0 = prodR exc (rs.take i) ss := ⟨_, rfl⟩
      rw [← hD0] at HDl HO HX HP
      clear hD0
      obtain ⟨W2, hW2⟩ : ∃ W2, W2 = wo.alloc (.cells #[.slice ra rl rcap, .int .i64 r2] 95) := ⟨_, rfl⟩
      have hb2 : Below wo.heap.size wo W2 := by rw [hW2]; exact (Below.refl _ _).alloc (Nat.le_refl _) _
      have hR2 : Hid (W2.heap[wo.heap.size]? = some (.cells #[.slice ra rl rcap, .int .i64 r2] 95 (0, 0))) := by rw [hW2]; exact heap_made _ _
      have HO2 : Hid (W2.ownsRow (w.heap.size + 1) 95 2 u5 D0.length xs) := ownsRow_below HO.out hb2
      have HX2 : Hid (XsN (w.heap.size + 1) W2 xs D0) := HX.out.keep (KeepT.of_below hb2)
      have HB2 : Hid (Below (w.heap.size + 1) W1 W2) := Below.thenOf HBl.out hb2 hos
      have HNe : Hid (u5.ownBlock ≠ some wo.heap.size) := fun e => by
        obtain ⟨cur, hc⟩ := ownsRow_tag HO.out _ e
        have := lt_of_block hc
        omega
      have HBo : Hid (Below wo.heap.size wo W2) := hb2
      have HW2 : Hid (W2 = _) := hW2
      clear hW2 hb2 HO HX HBl
      have hlt1 : w.heap.size < wo.heap.size := by omega
      go_wp2_with fail
      rw [← HW2.out]
      clear q0 q1 hc1
      go_loopw [5, 20] (fun rv jv wr => ∃ (j : Nat) (ys : List Value), j ≤ n1 ∧ jv = .int .i64 j ∧ Hid (wr.ownsRow (w.heap.size + 1) 95 2 rv (D0 ++ (ss.take j).map (pairR exc (rcs, r2))).length ys) ∧ Hid (XsN (w.heap.size + 1) wr ys (D0 ++ (ss.take j).map (pairR exc (rcs, r2)))) ∧ Hid (Below (w.heap.size + 1) W1 wr) ∧ Hid (wr.heap[wo.heap.size]? = some (.cells #[.slice ra rl rcap, .int .i64 r2] 95 (0, 0))) ∧ Hid (rv.ownBlock ≠ some wo.heap.size) ∧ Hid (Below (w.heap.size + 1) wo wr)) (fun _ jv _ => n1 - (intOf jv).toNat)
      case atStart => exact ⟨0, xs, by omega, rfl, by simpa using HO2, by simpa using HX2, HB2, hR2, HNe, HBo.out.mono hos⟩
      case round =>
        obtain ⟨j, ys, hj, rfl, HOj, HXj, HBj, HRj, HNj, HBoj⟩ := hrel
        obtain ⟨wj, hwj⟩ : ∃ x, x = wr := ⟨_, rfl⟩
        subst hwj
        have j0 : (0 : Int) ≤ (j : Int) := by omega
        obtain ⟨-, hbwj⟩ := HSd.out wj HBj.out
        have hjs : w.heap.size + 1 ≤ wj.heap.size := by have := HBj.out.size; omega
        have hwoj : wo.heap.size < wj.heap.size := lt_of_block HRj.out
        by_cases hlj : j < n1
        · have j1 : (j : Int) < (n1 : Int) := by omega
          obtain ⟨s, hsk⟩ : ∃ s, ss[j]? = some s := ⟨ss[j]'(by rw [HN1.out]; omega), by simp⟩
          have HTk : Hid (D0 ++ (ss.take (j + 1)).map (pairR exc (rcs, r2)) = (D0 ++ (ss.take j).map (pairR exc (rcs, r2))) ++ [pairR exc (rcs, r2) s]) := by
            unfold Hid
            rw [List.take_succ, hsk]
            simp
          have hs10 := HS10.out s (List.mem_of_getElem? hsk)
          obtain ⟨_, _, e1, -, -, hat⟩ := HS.out _ hbwj
          obtain ⟨b4, o4, e, hbB4, hrc⟩ := hat j s hsk
          simp at e1
          obtain ⟨rfl, -, -⟩ := e1
          subst e
          clear hat hsk
          obtain ⟨scs, s2⟩ := s
          obtain ⟨cv, q0, q1, hwv, hcs⟩ := hrc
          have HCS : Hid (∀ w', Below (w.heap.size + 1) wj w' → CondsAt B w' cv scs) := fun w' h => hcs.later h (by omega)
          have HWs : Hid (∀ c ∈ scs, wf c.1 ∧ wf c.2.1 ∧ wf c.2.2) := hcs.wfs
          obtain ⟨sa, scap, ecv, -, -⟩ := hcs.full
          subst ecv
          have Hs2 : Hid (wf s2) := hwv
          have Hs10 : Hid (scs.length ≤ 10) := hs10
          clear hcs hwv hs10
          obtain ⟨sl, hsl⟩ : ∃ sl, sl = scs.length := ⟨_, rfl⟩
          have Hsl : Hid (scs.length = sl) := hsl.symm
          rw [← hsl] at q0 HCS
          clear hsl
          simp only [] at q0 q1
          have HDj : Hid ((D0 ++ (ss.take j).map (pairR exc (rcs, r2))).length ≤ 20000) := by
            unfold Hid
            have := HDl.out
            rw [List.length_append, List.length_map, List.length_take]
            omega
          obtain ⟨D1, hD1⟩ : ∃ D1, D1 = D0 ++ (ss.take j).map (pairR exc (rcs, r2)) := ⟨_, rfl⟩
          rw [← hD1] at HDj HOj HXj HTk
          clear hD1
          obtain ⟨va, vcap, ev, hvc, hvm, -⟩ := ownsRow_caps HOj.out
          subst ev
          obtain ⟨N, hN⟩ : ∃ N, N = D1.length := ⟨_, rfl⟩
          have HN : Hid (D1.length = N) := hN.symm
          rw [← hN] at HOj HDj HNj hvc ⊢
          clear hN
          obtain ⟨W3, hW3⟩ : ∃ W3, W3 = wj.alloc (.cells #[.slice sa sl scap, .int .i64 s2] 95) := ⟨_, rfl⟩
          have hb3 : Below wj.heap.size wj W3 := by rw [hW3]; exact (Below.refl _ _).alloc (Nat.le_refl _) _
          have hS3 : W3.heap[wj.heap.size]? = some (.cells #[.slice sa sl scap, .int .i64 s2] 95 (0, 0)) := by rw [hW3]; exact heap_made _ _
          have hR3 : W3.heap[wo.heap.size]? = some (.cells #[.slice ra rl rcap, .int .i64 r2] 95 (0, 0)) := (hb3.block _ hwoj).trans HRj.out
          have hs3 : W3.heap.size = wj.heap.size + 1 := by rw [hW3]; simp
          have hob : ∀ k, (Value.slice va N vcap).ownBlock = some k → k < wj.heap.size := fun k hk => by
            obtain ⟨cur, hc⟩ := ownsRow_tag HOj.out k hk
            exact lt_of_block hc
          have n0' : some wo.heap.size ≠ (Value.slice va N vcap).ownBlock := fun e => HNj.out e.symm
          have n1' : some wj.heap.size ≠ (Value.slice va N vcap).ownBlock := fun e => by have := hob _ e.symm; omega
          have HO3 : Hid (W3.ownsRow (w.heap.size + 1) 95 2 (.slice va N vcap) N ys) := ownsRow_below HOj.out hb3
          have HX3 : Hid (XsN (w.heap.size + 1) W3 ys D1) := HXj.out.keep (KeepT.of_below hb3)
          have tagne : ∀ {b : Nat} {cur : Array Value} {T : TypeId} {fr : Nat × Nat}, W3.heap[b]? = some (.cells cur T fr) → T ≠ 95 → some b ≠ (Value.slice va N vcap).ownBlock := by
            intro b cur T fr hb hT e
            obtain ⟨cur', hc⟩ := ownsRow_tag HO3.out b e.symm
            rw [hb] at hc
            cases hc
            exact hT rfl
          have HKp : Hid (∀ w', W3.grownBy w' (Value.slice va N vcap).ownBlock → KeepT 99 W3 w') := fun w' h k cur fr hk => (h.block k (lt_of_block hk) (tagne hk (by decide))).trans hk
          have HBl3 : Hid (∀ w', W3.grownBy w' (Value.slice va N vcap).ownBlock → Below (w.heap.size + 1) wj w') := fun w' h => (hb3.mono hjs).grown h (by omega) fun k hk => ownsRow_ge HO3.out k hk
          have HRk : Hid (∀ w', W3.grownBy w' (Value.slice va N vcap).ownBlock → w'.heap[wo.heap.size]? = some (.cells #[.slice ra rl rcap, .int .i64 r2] 95 (0, 0))) := fun w' h => (h.block _ (lt_of_block hR3) n0').trans hR3
          have q5 : ∀ z : GrW W3 (Value.slice va N vcap).ownBlock, z.1.cell? ⟨wo.heap.size, 0, none⟩ = some (.slice ra rl rcap) := fun z => z.cell hR3 n0' rfl
          have q6 : ∀ z : GrW W3 (Value.slice va N vcap).ownBlock, z.1.cell? ⟨wo.heap.size, 1, none⟩ = some (.int .i64 r2) := fun z => z.cell hR3 n0' rfl
          have q7 : ∀ z : GrW W3 (Value.slice va N vcap).ownBlock, z.1.cell? ⟨wj.heap.size, 0, none⟩ = some (.slice sa sl scap) := fun z => z.cell hS3 n1' rfl
          have q8 : ∀ z : GrW W3 (Value.slice va N vcap).ownBlock, z.1.cell? ⟨wj.heap.size, 1, none⟩ = some (.int .i64 s2) := fun z => z.cell hS3 n1' rfl
          have Hob : Hid (∀ k, (Value.slice va N vcap).ownBlock = some k → k < W3.heap.size) := fun k hk => by have := hob k hk; omega
          have HLs : Hid (w.heap.size + 1 ≤ W3.heap.size) := by unfold Hid; omega
          have HWl : Hid (wo.heap.size < W3.heap.size) := lt_of_block hR3
          have HCC : Hid (∀ g w', (∃ T0 fr, w'.heap[g]? = some (.cells #[.slice ra rl rcap, .slice sa sl scap] T0 fr)) → W3.grownBy w' (Value.slice va N vcap).ownBlock → Calls Tryz.prog 197 #[.slice (some ⟨g, 0, none⟩) 2 2] w' fun e w'' => ∃ v, e = .returned v ∧ w''.ownsRow w'.heap.size 99 3 v (rcs ++ scs).length (cndCells (rcs ++ scs)) ∧ Below w'.heap.size w' w'') := by
            rintro g w' ⟨T0, fr, hg⟩ hgr
            have hb := HBl3.out w' hgr
            exact concatC_any B _ _ rcs scs g w' (HCR.out w' (HBoj.out.trans hb)) (HCS.out w' hb) (by have := hb.size; omega) (lt_of_block hg) (heap_cell hg 0 rfl) (heap_cell hg 1 rfl) (by have := Hr10.out; have := Hs10.out; omega)
          have HW3 : Hid (W3 = _) := hW3
          obtain ⟨vd, hvd⟩ : ∃ vd, vd = ofV exc r2 s2 := ⟨_, rfl⟩
          have HPR : Hid (pairR exc (rcs, r2) (scs, s2) = (rcs ++ scs, vd)) := by unfold Hid pairR; rw [hvd]
          have HVd : Hid (ofV exc r2 s2 = vd) := hvd.symm
          have HWv : Hid (wf vd) := by unfold Hid; rw [hvd]; exact ofV_wf Hr2.out Hs2.out
          have HWrs : Hid (∀ c ∈ rcs ++ scs, wf c.1 ∧ wf c.2.1 ∧ wf c.2.2) := fun c hc => by
            rcases List.mem_append.1 hc with hc | hc
            · exact HWr.out c hc
            · exact HWs.out c hc
          clear hvd hW3 hb3 hS3 hR3 hs3 hob n0' n1' tagne HOj HXj hbwj hbw HWs Hs2 HCS
          go_wp2_with fail
          rw [← HW3.out]
          clear q0 q1
          have hne := GrW.ne W3 (Value.slice va N vcap).ownBlock
          have hDJ : Hid (∀ fs w', JPr (w.heap.size + 1) W3 (.slice va N vcap) N ys (.slice ra rl rcap) (.slice sa sl scap) (rcs ++ scs).length (cndCells (rcs ++ scs)) vd fs w' → ∃ z : GrW W3 (Value.slice va N vcap).ownBlock, w' = z.1) := fun fs w' h => ⟨⟨w', h.grown⟩, rfl⟩
          refine wp_region_free [_, _, _, _, _, _, _, _, _, _, _, _, _, _, _, _, _] _ rfl (fun k => k == 5 || k == 6 || k == 13 || k == 14 || k == 15 || k == 16) (JPr (w.heap.size + 1) W3 (.slice va N vcap) N ys (.slice ra rl rcap) (.slice sa sl scap) (rcs ++ scs).length (cndCells (rcs ++ scs)) vd) (SPr (rcs ++ scs).length N vd) (sPr_some _ _ _) (by kernel_rfl) (by kernel_rfl) (JPr.start HO3.out) ?_
          iterate 5 (refine wpG_read hDJ.out rfl rfl ?_; go_big_quiet_step (fail); refine wpQuiet_nil ?_)
          refine wpG_write rfl rfl (fun gs w' hJ hdep hno => ⟨.slice (some ⟨w'.heap.size, 0, none⟩) 2 2, w'.alloc (.cells #[.slice ra rl rcap, .slice sa sl scap] 93), ?_, ⟨_, rfl⟩, hJ.lists _⟩) (fun v6 hv6 => ?_)
          · clear hJ hdep hno q5 q6 q7 q8 hDJ hne
            go_simp
          simp only [Act.put, List.setIfInBounds_toArray, List.set_cons_succ, List.set_cons_zero]
          obtain ⟨g6, rfl⟩ : ∃ g : Nat, v6 = .slice (some ⟨g, 0, none⟩) 2 2 := hv6
          refine wpG_call 197 #[.slice (some ⟨g6, 0, none⟩) 2 2] rfl rfl (fun w' => by kernel_rfl) (fun gs w' hJ hdep hno => ?_) (fun v7 hv7 => ?_)
          · obtain ⟨g, T0, fr, e, hge, hbl⟩ := hJ.lits _ (hdep 5 _ (.inr ⟨rfl, rfl⟩) (waitsB_spec (by kernel_rfl)))
            simp at e
            subst e
            refine (HCC.out g6 w' ⟨T0, fr, hbl⟩ hJ.grown).mono ?_
            rintro e w2 ⟨u, rfl, ho, hb⟩
            obtain ⟨a, c, e7, _⟩ := ownsRow_caps ho
            exact ⟨_, rfl, ⟨a, c, e7⟩, hJ.joined hno hb _ ho⟩
          simp only [Act.put, List.setIfInBounds_toArray, List.set_cons_succ, List.set_cons_zero]
          obtain ⟨a7, c7, rfl⟩ : ∃ a cap, v7 = .slice a (rcs ++ scs).length cap := hv7
          iterate 6 (refine wpG_read hDJ.out rfl rfl ?_; go_big_quiet_step (fail); refine wpQuiet_nil ?_)
          refine wpG_call F #[.agg #[.int .i64 r2, .int .i64 s2]] rfl rfl (fun w' => run_call_value _ _ _ _ _ F _ w' rfl rfl rfl (HCf.out #[.agg #[.int .i64 r2, .int .i64 s2]] w')) (fun gs w' hJ hdep hno => ?_) (fun v13 hv13 => ?_)
          · refine (HFn.out r2 s2 w').mono ?_
            rintro e w2 ⟨rfl, hb⟩
            exact ⟨_, rfl, by rw [HVd.out]; rfl, (hJ.later hb).other _ _ (by decide) (by decide) (by decide) (by decide) (by decide)⟩
          simp only [Act.put, List.setIfInBounds_toArray, List.set_cons_succ, List.set_cons_zero]
          obtain rfl : v13 = .int .i64 vd := hv13
          refine wpG_write rfl rfl (fun gs w' hJ hdep hno => ⟨.agg #[.slice a7 (rcs ++ scs).length c7, .int .i64 vd], w', ?_, ⟨_, _, rfl⟩, hJ.built _ (hdep 6 _ (.inl (.inr ⟨rfl, rfl⟩)) (waitsB_spec (by kernel_rfl)))⟩) (fun v14 hv14 => ?_)
          · clear hJ hdep hno q5 q6 q7 q8 hDJ hne
            go_simp
          simp only [Act.put, List.setIfInBounds_toArray, List.set_cons_succ, List.set_cons_zero]
          obtain ⟨a14, c14, rfl⟩ : ∃ a cap, v14 = .agg #[.slice a (rcs ++ scs).length cap, .int .i64 vd] := hv14
          refine wpG_write rfl rfl (fun gs w' hJ hdep hno => ⟨.slice (some ⟨w'.heap.size, 0, none⟩) 1 1, w'.alloc (.cells #[.slice a14 (rcs ++ scs).length c14, .int .i64 vd] 95), ?_, ⟨_, rfl⟩, hJ.rule hno _ (hdep 14 _ (.inr ⟨rfl, rfl⟩) (waitsB_spec (by kernel_rfl))) _⟩) (fun v15 hv15 => ?_)
          · clear hJ hdep hno q5 q6 q7 q8 hDJ hne
            go_simp
          simp only [Act.put, List.setIfInBounds_toArray, List.set_cons_succ, List.set_cons_zero]
          obtain ⟨g15, rfl⟩ : ∃ g : Nat, v15 = .slice (some ⟨g, 0, none⟩) 1 1 := hv15
          refine wpG_write rfl rfl (fun gs w' hJ hdep hno => ?_) (fun v16 hv16 => ?_)
          · obtain ⟨v', w'', r1, r2', r3⟩ := hJ.append hno Hob.out HLs.out _ (hdep 15 _ (.inr ⟨rfl, rfl⟩) (waitsB_spec (by kernel_rfl))) (by have := HDj.out; omega) 22
            refine ⟨v', w'', ?_, r2', r3⟩
            unfold execOp
            simp only [resolve, invoke, builtin, Sem.run_bind, Sem.run_pure, Result.andThen_ok, List.map_toArray, List.map_cons, List.map_nil]
            exact (congrArg (fun r => Result.andThen r fun v w => .ok (Next.value v) w) r1)
          simp only [Act.put, List.setIfInBounds_toArray, List.set_cons_succ, List.set_cons_zero]
          obtain ⟨a16, c16, rfl⟩ : ∃ a cap, v16 = .slice a (N + 1) cap := hv16
          refine wpG_nil ?_
          intro w4 hJ
          have hgr := hJ.grown
          obtain ⟨u7, hu7, hrow, hown16⟩ := hJ.app _ (.inr ⟨rfl, rfl⟩)
          have hc7 := hJ.join u7 hu7
          have HFin : Hid (w4.ownsRow (w.heap.size + 1) 95 2 (.slice a16 (N + 1) c16) (D1 ++ [pairR exc (rcs, r2) (scs, s2)]).length (ys ++ [u7, .int .i64 vd]) ∧ XsN (w.heap.size + 1) w4 (ys ++ [u7, .int .i64 vd]) (D1 ++ [pairR exc (rcs, r2) (scs, s2)]) ∧ w4.heap[wo.heap.size]? = some (.cells #[.slice ra rl rcap, .int .i64 r2] 95 (0, 0)) ∧ (Value.slice a16 (N + 1) c16).ownBlock ≠ some wo.heap.size ∧ Below (w.heap.size + 1) wj w4) := by
            refine ⟨?_, ?_, HRk.out w4 hgr, ?_, HBl3.out w4 hgr⟩
            · rw [List.length_append, HN.out]; exact hrow
            · rw [HPR.out]
              exact (HX3.out.keep (HKp.out w4 hgr)).snoc (r := (rcs ++ scs, vd)) HWv.out HWrs.out (ownsRow_base hc7 HLs.out)
            · rcases hown16 with e | ⟨k, e, hk⟩
              · rw [e]; exact HNj.out
              · rw [e]
                intro e'
                have := Option.some.inj e'
                have := HWl.out
                omega
          clear hJ hgr hu7 hrow hown16 hc7 q5 q6 q7 q8 hDJ hne
          go_wp2_with fail
          obtain ⟨f1, f2, f3, f4, f5⟩ := HFin.out
          exact ⟨⟨j + 1, _, by omega, rfl, by rw [HTk.out]; exact f1, by rw [HTk.out]; exact f2, HBj.out.trans f5, f3, f4, HBoj.out.trans f5⟩, by simp [intOf]; omega⟩
        · have e : j = n1 := by omega
          subst e
          have HE : Hid (ss.take j = ss) := by unfold Hid; rw [← HN1.out, List.take_length]
          rw [HE.out, ← HP.out] at HOj HXj
          have j1 : ¬ ((j : Int) < (j : Int)) := by omega
          go_wp2_with fail
          exact ⟨⟨i + 1, ys, by omega, rfl, HOj, HXj, HBj⟩, by simp [intOf]; omega⟩
    · have e : i = n0 := by omega
      subst e
      have HE : Hid (rs.take i = rs) := by unfold Hid; rw [← HN0.out, List.take_length]
      rw [HE.out] at HO HX
      have i1 : ¬ ((i : Int) < (i : Int)) := by omega
      have HBw : Hid (Below w.heap.size w wo) := hbw
      go_wp2_with fail
      go_ret
      exact ⟨_, rfl, xs, ownsRow_base HO.out (Nat.le_succ _), HX.out.base (Nat.le_succ _), HBw.out⟩
end Go.Proofs.YtbdlojnigflanacGreatDoor
end
