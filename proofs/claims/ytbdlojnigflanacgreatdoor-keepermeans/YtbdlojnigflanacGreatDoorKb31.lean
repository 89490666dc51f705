/- Joined: PtD5 PtD. -/
import Derived.Test.YtbdlojnigflanacGreatDoorKb30
import Derived.Deep.DeepAppendRoom
import Derived.Laws.MakeOwn
import Derived.OneCell
import Derived.Laws.ResultCell
section
/- Package point: points spread over one more field. -/
set_option linter.all false
set_option maxRecDepth 100000
namespace Go.Proofs.YtbdlojnigflanacGreatDoor
open Go.RowKit Go.Maps

/-- A literal, appended to a row of one's own that has room. -/
theorem wpList_appS {P : Program} {t e : TypeId} {inf : TypeInfo} {size : Nat} {ops : Array Oper} {rest : List Oper} {o : Oper} {a : Act} {Q : Exit → Act → World → Prop} (w : World) (hgd : o.guard = none) (s x : Operand)
    (hop : o.op = .call { callee := .builtin .append, args := #[s, x], argTypes := #[t, t] })
    (ht : P.underlying t = some (.slice e)) (hi : P.info? e = some inf) (hsize : inf.size = size)
    (base g n cap : Nat) (xs : List Value) (hs : a.eval s = .slice (some ⟨g, 0, none⟩) n cap) (g2 m : Nat) (news : List Value) (hx : a.eval x = .slice (some ⟨g2, 0, none⟩) m m)
    (W : World) {T0 : TypeId} (hw : w = W.alloc (.cells news.toArray T0)) (hg : g2 = W.heap.size) (hown : W.ownsRow base e size (.slice (some ⟨g, 0, none⟩) n cap) n xs) (hl : news.length = m * size) (h1 : ∀ u ∈ news, u.oneCell' = true) (hroom : n + m ≤ cap)
    (h : ∀ w', Hid (w'.ownsRow base e size (.slice (some ⟨g, 0, none⟩) (n + m) cap) (n + m) (xs ++ news)) → Hid (W.grownBy w' (some g)) → wpList P ops Q rest (a.put o.dst (.slice (some ⟨g, 0, none⟩) (n + m) cap)) w') : wpList P ops Q (o :: rest) a w := by
  subst hw
  subst hg
  have hbX : Below W.heap.size W (W.alloc (.cells news.toArray T0)) := (Below.refl _ _).alloc (Nat.le_refl _) _
  obtain ⟨W', r1, r2, r3⟩ := run_append_own_spare (P := P) (W.alloc (.cells news.toArray T0)) base t o.type e inf size ht hi hsize g n cap xs (ownsRow_below hown hbX) ⟨W.heap.size, 0, none⟩ m m news hl (fun j u hj => by rw [add_at, Nat.zero_add]; exact heap_cell (heap_made W _) j (by simpa using hj)) h1 hroom
  have hG : W.grownBy W' (some g) := World.grownBy.andThen (grown_of_below hbX (some g)) r3 fun j hj => .inr hj
  exact Lib.wpList_append_run _ hgd s x _ _ hop _ _ hs hx _ _ r1 (h W' r2 hG)

def setX (y : Nat → Int) (k : Nat) (c : Int) (j : Nat) : Int := if j = k then c else y j
theorem five_of {x : List Int} (h : x.length = 5) : ∃ a b c d e, x = [a, b, c, d, e] := by
  match x, h with
  | [a, b, c, d, e], _ => exact ⟨a, b, c, d, e, rfl⟩
theorem setX_self (y : Nat → Int) (k : Nat) : setX y k (y k) = y := by
  funext j
  unfold setX
  split
  · rename_i h; subst h; rfl
  · rfl
theorem cellsX_setX (y : Nat → Int) (k : Nat) (hk : k < 5) (b c : Int) : (cellsX (setX y k b)).setIfInBounds k (.int .i64 c) = cellsX (setX y k c) := by
  have : k = 0 ∨ k = 1 ∨ k = 2 ∨ k = 3 ∨ k = 4 := by omega
  rcases this with rfl | rfl | rfl | rfl | rfl <;> simp [cellsX, setX]
theorem spread_take (xs : List (List Int)) (g : List Int → List (List Int)) (i : Nat) (x : List Int) (h : xs[i]? = some x) : (xs.take (i + 1)).flatMap g = (xs.take i).flatMap g ++ g x := by
  rw [List.take_succ, h]
  simp
theorem map_take_snoc (cs : List Int) (g : Int → List Int) (j : Nat) (c : Int) (h : cs[j]? = some c) : (cs.take (j + 1)).map g = (cs.take j).map g ++ [g c] := by
  rw [List.take_succ, h]
  simp

set_option maxHeartbeats 16000000 in
theorem spread_at (B k : Nat) (kk : Int) (hk : (k = 0 ∧ kk = 0) ∨ (k = 1 ∧ kk = 1) ∨ (k = 2 ∧ kk = 2) ∨ (k = 3 ∧ kk = 3) ∨ (k = 4 ∧ kk = 4)) (pv cv : Value) (xs : List (List Int)) (cs : List Int) (w : World) (hp : CallsAt B w pv (xs.map asC)) (hc : IntsAt B w cv cs) (hB : B ≤ w.heap.size) (h5 : ∀ x ∈ xs, x.length = 5) (hN : xs.length * cs.length ≤ 1000) (hx1 : xs.length ≤ 1000) (hc1 : cs.length ≤ 65536) :
    Calls Tryz.prog 128 #[pv, .int .i64 kk, cv] w fun e w' => ∃ v, e = .returned v ∧ w'.ownsRow w.heap.size 26 5 v (xs.length * cs.length) (callCells (xs.flatMap fun x => cs.map fun c => x.set k c)) ∧ Below w.heap.size w w' := by
  obtain ⟨inf, hi1, hi2, hi3, hi4⟩ := infoCall
  have HP : Hid (∀ w', Below w.heap.size w w' → CallsAt B w' pv (xs.map asC)) := fun w' h => hp.later h hB
  have HCs : Hid (∀ w', Below w.heap.size w w' → IntsAt B w' cv cs) := fun w' h => hc.later h hB
  have H5 : Hid (∀ x ∈ xs, x.length = 5) := h5
  obtain ⟨pa, pcap, rfl, hpc, hpm, -⟩ := hp
  obtain ⟨ca, ccap, rfl, hcc, hcm, -⟩ := hc
  rw [List.length_map] at hpc HP ⊢
  have hml := maxLen_eq
  obtain ⟨n, hn⟩ : ∃ n, n = xs.length := ⟨_, rfl⟩
  obtain ⟨m, hm⟩ : ∃ m, m = cs.length := ⟨_, rfl⟩
  have hnH : Hid (xs.length = n) := hn.symm
  have hmH : Hid (cs.length = m) := hm.symm
  rw [← hn] at hpc HP hN hx1 ⊢
  rw [← hm] at hcc HCs hN hc1 ⊢
  obtain ⟨N, hNe⟩ : ∃ N, N = n * m := ⟨_, rfl⟩
  have hNi : (N : Int) = (n : Int) * (m : Int) := by rw [hNe]; simp
  rw [← hNe] at hN ⊢
  have hmul : IntKind.i64.wrap ((n : Int) * (m : Int)) = (N : Int) := by rw [← hNi]; exact IntWalk.i64_in _ (by omega)
  have HNe : Hid (N = n * m) := hNe
  clear hn hm hNe hNi h5
  obtain ⟨w1, hmk, hown1, hg1⟩ := run_makeSlice_owned (P := Tryz.prog) w w.heap.size 105 26 inf _ 5 Tryz.underlying105 hi1 hi2 hi3 .i64 .i64 N (by omega) (by rw [hi4]; omega) (by omega) (Nat.le_refl _)
  have hb1 : Below w.heap.size w w1 := (Below.refl _ _).grown hg1 (Nat.le_refl _) (fun k hk => by cases hk)
  have hlt1 : w.heap.size < w1.heap.size := by
    rcases hown1.2 with ⟨h0, _⟩ | ⟨g', c', cur, hv, _, hg, _⟩
    · cases h0
    · cases hv; exact lt_of_block hg
  have HO1 : Hid (w1.ownsRow w.heap.size 26 5 (.slice (some ⟨w.heap.size, 0, none⟩) (0 * m) N) (0 * m) (callCells ((xs.take 0).flatMap fun x => cs.map fun c => x.set k c))) := by
    unfold Hid
    rw [Nat.zero_mul]
    exact hown1
  clear hown1 hg1
  have hk5 : k < 5 := by omega
  rcases hk with ⟨hk, rfl⟩ | ⟨hk, rfl⟩ | ⟨hk, rfl⟩ | ⟨hk, rfl⟩ | ⟨hk, rfl⟩
  all_goals
    have HK : Hid _ := hk
    clear hk
    go_enter Tryz.func128, Tryz.ntmps128
    go_wp2_with fail
    clear hmk
    go_loopw [7, 20] (fun wv iv wr => ∃ i : Nat, i ≤ n ∧ iv = .int .i64 i ∧ wv = .slice (some ⟨w.heap.size, 0, none⟩) (i * m) N ∧ Hid (wr.ownsRow w.heap.size 26 5 (.slice (some ⟨w.heap.size, 0, none⟩) (i * m) N) (i * m) (callCells ((xs.take i).flatMap fun x => cs.map fun c => x.set k c))) ∧ Below w.heap.size w wr ∧ w.heap.size < wr.heap.size) (fun _ iv _ => n - (intOf iv).toNat)
    case atStart => exact ⟨0, by omega, rfl, by rw [Nat.zero_mul], HO1, hb1, hlt1⟩
    case round =>
      obtain ⟨i, hi, rfl, rfl, HO, hbr, hltr⟩ := hrel
      obtain ⟨wo, hwo⟩ : ∃ x, x = wr := ⟨_, rfl⟩
      subst hwo
      have i0 : (0 : Int) ≤ (i : Int) := by omega
      by_cases hlt : i < n
      · have i1 : (i : Int) < (n : Int) := by omega
        obtain ⟨x, hx⟩ : ∃ x, xs[i]? = some x := ⟨xs[i]'(by rw [hnH.out]; omega), by simp⟩
        obtain ⟨a0, a1, a2, a3, a4, rfl⟩ := five_of (H5.out x (List.mem_of_getElem? hx))
        obtain ⟨_, _, e1, -, -, hat⟩ := HP.out _ hbr
        obtain ⟨b, o, e, hbB, z0, z1, z2, z3, z4⟩ := hat i (a0, a1, a2, a3, a4) (by simp [hx, asC])
        simp at e1
        obtain ⟨rfl, -, -⟩ := e1
        subst e
        clear hat
        simp only [] at z0 z1 z2 z3 z4
        have HTk : Hid ((xs.take (i + 1)).flatMap (fun x => cs.map fun c => x.set k c) = (xs.take i).flatMap (fun x => cs.map fun c => x.set k c) ++ cs.map fun c => [a0, a1, a2, a3, a4].set k c) := spread_take xs (fun x => cs.map fun c => x.set k c) i _ hx
        clear hx
        have hroom : i * m + m ≤ N := by
          have h1 : (i + 1) * m ≤ n * m := Nat.mul_le_mul_right _ (by omega)
          rw [Nat.add_mul, Nat.one_mul] at h1
          rw [HNe.out]
          exact h1
        have HI : Hid ((i + 1) * m = i * m + m) := by unfold Hid; rw [Nat.add_mul, Nat.one_mul]
        obtain ⟨q, hq⟩ : ∃ q, q = i * m := ⟨_, rfl⟩
        rw [← hq] at hroom HI HO ⊢
        clear hq
        obtain ⟨acc, hacc⟩ : ∃ acc, acc = (xs.take i).flatMap (fun x => cs.map fun c => x.set k c) := ⟨_, rfl⟩
        rw [← hacc] at HO HTk
        clear hacc
        have HX0 : Hid ((wo.alloc (.cells #[.int .i64 a0, .int .i64 a1, .int .i64 a2, .int .i64 a3, .int .i64 a4] 26)).heap[wo.heap.size]? = some (.cells (cellsX (setX (ofC (a0, a1, a2, a3, a4)) k (ofC (a0, a1, a2, a3, a4) k))) 26 (0, 0))) := by
          unfold Hid
          rw [setX_self]
          exact heap_made _ _
        have HO0 : Hid (∀ X, (wo.alloc X).ownsRow w.heap.size 26 5 (.slice (some ⟨w.heap.size, 0, none⟩) (q + 0) N) (q + 0) (callCells (acc ++ (cs.take 0).map fun c => [a0, a1, a2, a3, a4].set k c))) := fun X => by
          have := ownsRow_below HO.out ((Below.refl wo.heap.size wo).alloc (Nat.le_refl _) X)
          simpa using this
        have HB0 : Hid (∀ X, Below w.heap.size w (wo.alloc X)) := fun X => hbr.alloc (by omega) _
        have hbne : ¬ w.heap.size = wo.heap.size := by omega
        clear HO HP
        go_wp2_with fail
        go_loopw [7, 26] (fun wv jv wr => ∃ (j : Nat) (b : Int), j ≤ m ∧ jv = .int .i64 j ∧ wv = .slice (some ⟨w.heap.size, 0, none⟩) (q + j) N ∧ Hid (wr.heap[wo.heap.size]? = some (.cells (cellsX (setX (ofC (a0, a1, a2, a3, a4)) k b)) 26 (0, 0))) ∧ Hid (wr.ownsRow w.heap.size 26 5 (.slice (some ⟨w.heap.size, 0, none⟩) (q + j) N) (q + j) (callCells (acc ++ (cs.take j).map fun c => [a0, a1, a2, a3, a4].set k c))) ∧ Below w.heap.size w wr) (fun _ jv _ => m - (intOf jv).toNat)
        case atStart => exact ⟨0, _, by omega, rfl, rfl, HX0, HO0.out _, HB0.out _⟩
        case round =>
          obtain ⟨j, bb, hj, rfl, rfl, HX, HO, hbj⟩ := hrel
          obtain ⟨wi, hwi⟩ : ∃ x, x = wr := ⟨_, rfl⟩
          subst hwi
          have j0 : (0 : Int) ≤ (j : Int) := by omega
          have hxlt := lt_of_block HX.out
          by_cases hlj : j < m
          · have j1 : (j : Int) < (m : Int) := by omega
            obtain ⟨c, hcj⟩ : ∃ c, cs[j]? = some c := ⟨cs[j]'(by rw [hmH.out]; omega), by simp⟩
            obtain ⟨_, _, e1, -, -, hat⟩ := HCs.out _ hbj
            obtain ⟨b3, o3, e, hbB3, q0⟩ := hat j c hcj
            simp at e1
            obtain ⟨rfl, -, -⟩ := e1
            subst e
            clear hat
            have HTj : Hid ((cs.take (j + 1)).map (fun c => [a0, a1, a2, a3, a4].set k c) = (cs.take j).map (fun c => [a0, a1, a2, a3, a4].set k c) ++ [[a0, a1, a2, a3, a4].set k c]) := map_take_snoc cs _ j c hcj
            clear hcj
            have hXf := (cellsX_at HX.out).2
            have hXc := (cellsX_at HX.out).1
            have t0 := hXc 0 (by omega)
            have t1 := hXc 1 (by omega)
            have t2 := hXc 2 (by omega)
            have t3 := hXc 3 (by omega)
            have t4 := hXc 4 (by omega)
            rw [HK.out] at t0 t1 t2 t3 t4
            simp [setX, ofC, at5] at t0 t1 t2 t3 t4
            have hbs : B ≤ wi.heap.size := by have := hbj.size; omega
            have hb3 : ¬ b3 = wo.heap.size := by omega
            have hob : ∀ o5, (Value.slice (some ⟨w.heap.size, 0, none⟩) (q + j) N).ownBlock ≠ some (⟨wo.heap.size, o5, none⟩ : Addr).block := fun o5 h => hbne (Option.some.inj h)
            have Hob : Hid _ := hob
            clear hXc hob
            go_wp2_with (first
              | (at_builtin; go_must (refine wpList_appS _ rfl _ _ rfl Tryz.underlying105 hi1 hi3 w.heap.size w.heap.size (q + j) N _ rfl _ 1 _ rfl _ rfl (by simp) (ownsRow_setCell_other HO.out (Hob.out _) _) rfl (by simp [Value.oneCell']) (by omega) ?_; intro w9 hO9 hg9)))
            have hbs9 : Below w.heap.size w w9 := (hbj.setCell (p := ⟨wo.heap.size, _, none⟩) (by show w.heap.size ≤ wo.heap.size; omega) _).grown hg9.out (by have := hbj.size; simpa using this) (fun k hk => by cases hk; exact Nat.le_refl _)
            have hX9 := (hg9.out.block wo.heap.size (by simpa using hxlt) (fun e => hbne (Option.some.inj e).symm)).trans (row_setCell HX.out)
            have hO9' := hO9.out
            have hTj := HTj.out
            have hkk := HK.out
            subst hkk
            refine ⟨⟨j + 1, c, by omega, by go_num, rfl, ?_, ?_, hbs9⟩, by simp [intOf]; omega⟩
            · unfold Hid
              rw [cellsX_setX _ _ hk5] at hX9
              exact hX9
            · unfold Hid
              rw [hTj, ← List.append_assoc, callCells_append]
              exact hO9'
          · obtain rfl : j = m := by omega
            have HO' : Hid (wi.ownsRow w.heap.size 26 5 (.slice (some ⟨w.heap.size, 0, none⟩) ((i + 1) * j) N) ((i + 1) * j) (callCells ((xs.take (i + 1)).flatMap fun x => cs.map fun c => x.set k c))) := by
              have := HO.out
              rw [List.take_of_length_le (by rw [hmH.out]; omega)] at this
              unfold Hid
              rw [HI.out, HTk.out]
              exact this
            have hlw : w.heap.size < wi.heap.size := by omega
            have HI' : Hid _ := HI.out
            go_wp2
            exact ⟨⟨i + 1, by omega, by go_num, by rw [HI'.out], HO', hbj, hlw⟩, by simp [intOf]; omega⟩
      · obtain rfl : i = n := by omega
        go_wp2
        go_ret
        refine ⟨_, rfl, ?_, hbr⟩
        have := HO.out
        rw [List.take_of_length_le (by rw [hnH.out]; omega), ← HNe.out] at this
        rw [← HNe.out]
        exact this

end Go.Proofs.YtbdlojnigflanacGreatDoor
end
section
/- What package point answers, walked. -/
set_option linter.all false
set_option maxRecDepth 100000
namespace Go.Proofs.YtbdlojnigflanacGreatDoor
open Go.RowKit Go.Maps

theorem callsAt_none (B : Nat) (w : World) : CallsAt B w (.slice none 0 0) [] := ⟨none, 0, rfl, Nat.le_refl _, by rw [maxLen_eq]; omega, fun i c h => by simp at h⟩

set_option maxHeartbeats 8000000 in
theorem pointsD_any (B : Nat) (lv : Value) (ps : List PolT) (w : World) (hl : PolsAt B w lv ps) (hB : B ≤ w.heap.size) (hn : ps.length ≤ 5000000000) :
    Calls Tryz.prog 68 #[lv] w fun e w' => ∃ v, e = .returned (.tuple #[v, .int .i64 (pointsE ps)]) ∧ CallsAt w'.heap.size w' v ((pointsL ps).map asC) ∧ Below w.heap.size w w' := by
  have HK : Hid (Calls Tryz.prog 126 #[lv] w fun e w' => e = .returned (.int .i64 (polsErr ps)) ∧ Below w.heap.size w w') := checkAllD_any B lv ps w hl hB
  by_cases h0 : polsErr ps = 0
  case neg =>
    have HE : Hid (pointsE ps = polsErr ps ∧ pointsL ps = []) := by
      have e : pointsE ps = polsErr ps := by rw [pointsE, if_neg h0]
      exact ⟨e, by rw [pointsL, if_neg (by rw [e]; exact h0)]⟩
    have hq : (polsErr ps != 0) = true := by simpa using h0
    obtain ⟨a, cap, rfl, -⟩ := hl
    clear h0
    generalize polsErr ps = pe at *
    generalize ps.length = len at *
    go_enter Tryz.func68, Tryz.ntmps68
    go_wp2_with (first | (go_at_call 126; go_must (refine Calls.mono HK.out ?_; rintro e w1 ⟨rfl, hb1⟩)))
    go_ret2
    rw [HE.out.1, HE.out.2]
    exact ⟨_, rfl, callsAt_none _ _, hb1⟩
  case pos =>
    have hok : AllOk ps := polsErr_ok.1 h0
    have HC : Hid (∀ (k : Nat) w', Below w.heap.size w w' → Calls Tryz.prog 127 #[lv, .int .i64 k] w' fun e w'' => ∃ v, e = .returned v ∧ w''.ownsRow w'.heap.size 3 1 v (cutsP ps k).length ((cutsP ps k).map (.int .i64)) ∧ Below w'.heap.size w' w'') := fun k w' h => cutsOfD_any B lv ps k w' (hl.later h hB) hok (Nat.le_trans hB h.size) hn
    have HF : Hid (∀ k : Nat, 0 < (cutsP ps k).length ∧ (cutsP ps k).length ≤ 65536) := fun k => ⟨cut_pos ps k, cuts_few hok k⟩
    have HE : Hid (pointsE ps = if 1000 < (pointsP ps).length then 2 else 0) := by unfold Hid; rw [pointsE, if_pos h0]
    rw [h0] at HK
    obtain ⟨a, cap, rfl, hlc, hcm, -⟩ := hl
    generalize ps.length = len at *
    clear h0 hok
    go_enter Tryz.func68, Tryz.ntmps68
    go_wp2_with (first | (go_at_call 126; go_must (refine Calls.mono HK.out ?_; rintro e w1 ⟨rfl, hb1⟩)))
    have hs1 := hb1.size
    have HS0 : Hid (∀ X, X = Obj.cells #[.int .i64 0, .int .i64 0, .int .i64 0, .int .i64 0, .int .i64 0] 26 (0, 0) → (w1.alloc X).ownsRow w.heap.size 26 5 (.slice (some ⟨w1.heap.size, 0, none⟩) 1 1) (ptsK ps 0).length (callCells (ptsK ps 0))) := by
      intro X hX
      subst hX
      rw [ptsK_zero]
      exact ⟨rfl, .inr ⟨w1.heap.size, 1, _, rfl, hs1, heap_made _ _, Nat.le_refl _, by rw [maxLen_eq]; omega, rfl, rfl⟩⟩
    have HB0 : Hid (∀ X, Below w.heap.size w (w1.alloc X)) := fun X => hb1.alloc hs1 _
    go_loopw [5, 15] (fun pv kv wr => ∃ k : Nat, k ≤ 5 ∧ kv = .int .i64 k ∧ lenP ps k ≤ 1000 ∧ Hid (wr.ownsRow w.heap.size 26 5 pv (ptsK ps k).length (callCells (ptsK ps k))) ∧ Below w.heap.size w wr) (fun _ kv _ => 5 - (intOf kv).toNat)
    case atStart => exact ⟨0, by omega, rfl, by simp [lenP], HS0.out _ rfl, HB0.out _⟩
    case round =>
      obtain ⟨k, hk, rfl, hle, HO, hbr⟩ := hrel
      obtain ⟨wo, hwo⟩ : ∃ x, x = wr := ⟨_, rfl⟩
      subst hwo
      have k0 : (0 : Int) ≤ (k : Int) := by omega
      have hos := hbr.size
      obtain ⟨pa, pcap, rfl, -, -, -⟩ := ownsRow_caps HO.out
      by_cases hlt : k < 5
      · have k1 : (k : Int) < 5 := by omega
        obtain ⟨hF0, hF1⟩ := HF.out k
        have HCk : Hid _ := HC.out k wo hbr
        have HLn : Hid (lenP ps (k + 1) = lenP ps k * (cutsP ps k).length) := rfl
        have HLe : Hid (lenP ps (k + 1) ≤ (pointsP ps).length) := lenP_le ps (k + 1) (by omega)
        have HPl : Hid ((ptsK ps k).length = lenP ps k) := ptsK_length ps k (by omega)
        have HPl' : Hid ((ptsK ps (k + 1)).length = lenP ps (k + 1)) := ptsK_length ps (k + 1) (by omega)
        have HPs : Hid (ptsK ps (k + 1) = (ptsK ps k).flatMap fun x => (cutsP ps k).map fun c => x.set k c) := ptsK_succ ps k hlt
        have H5 : Hid (∀ x ∈ ptsK ps k, x.length = 5) := ptsK_len5 ps k hk
        have hkk : (k = 0 ∧ (k : Int) = 0) ∨ (k = 1 ∧ (k : Int) = 1) ∨ (k = 2 ∧ (k : Int) = 2) ∨ (k = 3 ∧ (k : Int) = 3) ∨ (k = 4 ∧ (k : Int) = 4) := by omega
        have HKK : Hid _ := hkk
        clear hkk
        rw [HPl.out] at HO ⊢
        obtain ⟨q, hq⟩ : ∃ q, q = lenP ps k := ⟨_, rfl⟩
        rw [← hq] at hle HLn HPl HO ⊢
        obtain ⟨m, hm⟩ : ∃ m, m = (cutsP ps k).length := ⟨_, rfl⟩
        rw [← hm] at hF0 hF1 HLn
        simp only [← hm] at HCk
        have HM : Hid ((cutsP ps k).length = m) := hm.symm
        clear hq hm
        obtain ⟨qm, hqm⟩ : ∃ qm, qm = q * m := ⟨_, rfl⟩
        have hqmi : (qm : Int) = (q : Int) * (m : Int) := by rw [hqm]; simp
        have hqml : qm ≤ 65536000 := by rw [hqm]; exact Nat.mul_le_mul hle hF1
        have hmul : IntKind.i64.wrap ((q : Int) * (m : Int)) = (qm : Int) := by rw [← hqmi]; exact IntWalk.i64_in _ (by omega)
        rw [← hqm] at HLn
        have HQM : Hid (qm = q * m) := hqm
        clear hqm hqmi
        go_wp2_with fail
        go_at_call 127
        refine Calls.mono HCk.out ?_
        rintro e w3 ⟨v3, rfl, ho3, hb3⟩
        obtain ⟨a3, cap3, rfl, -, -, -⟩ := ownsRow_caps ho3
        have hbw3 : Below w.heap.size w w3 := Below.thenOf hbr hb3 hos
        have hs3 := hbw3.size
        have HSp : Hid (qm ≤ 1000 → Calls Tryz.prog 128 #[.slice pa q pcap, .int .i64 k, .slice a3 m cap3] w3 fun e w' => ∃ v, e = .returned v ∧ w'.ownsRow w3.heap.size 26 5 v qm (callCells (ptsK ps (k + 1))) ∧ Below w3.heap.size w3 w') := by
          intro hsm
          have h1 : CallsAt w3.heap.size w3 (.slice pa q pcap) ((ptsK ps k).map asC) := callsAt_own (fun x hx => five_of (H5.out x hx)) (by rw [HPl.out]; exact ownsRow_below HO.out hb3)
          have h2 : IntsAt w3.heap.size w3 (.slice a3 m cap3) (cutsP ps k) := intsAt_own (by rw [HM.out]; exact ho3)
          have h3 := spread_at w3.heap.size k k HKK.out _ _ (ptsK ps k) (cutsP ps k) w3 h1 h2 (Nat.le_refl _) H5.out (by rw [HPl.out, HM.out, ← HQM.out]; exact hsm) (by rw [HPl.out]; exact hle) (by rw [HM.out]; exact hF1)
          rw [HPl.out, HM.out, ← HQM.out, ← HPs.out] at h3
          exact h3
        clear ho3
        by_cases hbig : 1000 < qm
        · have hbig' : (1000 : Int) < (qm : Int) := by omega
          have HEE : Hid (pointsE ps = 2 ∧ pointsL ps = []) := by
            have hL := HLe.out
            rw [HLn.out] at hL
            have e : pointsE ps = 2 := by rw [HE.out, if_pos (by omega)]
            exact ⟨e, by rw [pointsL, if_neg (by rw [e]; decide)]⟩
          go_wp2_with fail
          go_ret2
          rw [HEE.out.1, HEE.out.2]
          exact ⟨_, rfl, callsAt_none _ _, hbw3⟩
        · have hbig' : ¬ (1000 : Int) < (qm : Int) := by omega
          have HSp' : Hid _ := HSp.out (by omega)
          go_wp2_with fail
          go_at_call 128
          refine Calls.mono HSp'.out ?_
          rintro e w4 ⟨v4, rfl, ho4, hb4⟩
          have HO4 : Hid (w4.ownsRow w.heap.size 26 5 v4 (ptsK ps (k + 1)).length (callCells (ptsK ps (k + 1)))) := by
            unfold Hid
            rw [HPl'.out, HLn.out]
            exact ownsRow_base ho4 hs3
          have hbw4 := Below.thenOf hbw3 hb4 hs3
          have HLq : Hid (lenP ps (k + 1) ≤ 1000) := by unfold Hid; rw [HLn.out]; omega
          clear ho4
          go_wp2_with fail
          exact ⟨⟨k + 1, by omega, by go_num, HLq.out, HO4, hbw4⟩, by simp [intOf]; omega⟩
      · obtain rfl : k = 5 := by omega
        have HEE : Hid (pointsE ps = 0 ∧ pointsL ps = pointsP ps) := by
          rw [lenP_five] at hle
          have e : pointsE ps = 0 := by rw [HE.out, if_neg (by omega)]
          exact ⟨e, by rw [pointsL, if_pos e]⟩
        have HCa : Hid (CallsAt wo.heap.size wo (.slice pa (ptsK ps 5).length pcap) ((pointsL ps).map asC)) := by
          unfold Hid
          rw [HEE.out.2, ← ptsK_five]
          exact callsAt_own (fun x hx => five_of (ptsK_len5 ps 5 (Nat.le_refl _) x hx)) HO.out
        generalize (ptsK ps 5).length = L5 at *
        go_wp2_with fail
        go_ret2
        rw [HEE.out.1]
        exact ⟨_, rfl, HCa.out, hbr⟩

end Go.Proofs.YtbdlojnigflanacGreatDoor
end
