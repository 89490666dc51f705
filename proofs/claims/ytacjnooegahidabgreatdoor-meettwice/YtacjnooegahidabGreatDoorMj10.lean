/- Joined: Grow Right Bth1. -/
import Derived.Test.YtacjnooegahidabGreatDoorMj03
import Derived.Test.YtacjnooegahidabGreatDoorMj09
import Derived.Test.YtacjnooegahidabGreatDoorMj01
import Derived.Test.YtacjnooegahidabGreatDoorMj08
import Derived.Test.YtacjnooegahidabGreatDoorMj07
import Derived.Maps.AppendAt
section
/- Rows of one's own that grow by append, also in regions that draw their order. -/
set_option linter.all false
set_option maxRecDepth 100000
namespace Go.Proofs.YtacjnooegahidabGreatDoor
open Go.RowKit Go.Maps

theorem heap_cell {w : World} {b : Nat} {cur : Array Value} {T : TypeId} {fr : Nat × Nat} (h : w.heap[b]? = some (.cells cur T fr)) (o : Nat) {u : Value} (hu : cur[o]? = some u) : w.cell? ⟨b, o, none⟩ = some u := by simp [World.cell?, h, hu]
theorem heap_made (w : World) (o : Obj) : (w.alloc o).heap[w.heap.size]? = some o := (MapKept.heap_alloc w o).1
/-- All blocks but those of one type stand as they did. -/
def ButT (T : TypeId) (W W' : World) : Prop := ∀ (k : Nat) (cur : Array Value) (T' : TypeId) (fr : Nat × Nat), W.heap[k]? = some (.cells cur T' fr) → T' ≠ T → W'.heap[k]? = some (.cells cur T' fr)
theorem ButT.refl (T : TypeId) (W : World) : ButT T W W := fun _ _ _ _ h _ => h
theorem ButT.trans {T : TypeId} {A B C : World} (h : ButT T A B) (h' : ButT T B C) : ButT T A C := fun k cur T' fr hk hT => h' k cur T' fr (h k cur T' fr hk hT) hT
theorem ButT.of_below {T : TypeId} {W W' : World} (h : Below W.heap.size W W') : ButT T W W' := fun k cur T' fr hk _ => (h.block k (lt_of_block hk)).trans hk
theorem ButT.drew {T : TypeId} {W W' : World} (h : ButT T W W') : ButT T W W'.drew := h
theorem ButT.alloc {T : TypeId} {W W' : World} (h : ButT T W W') (o : Obj) : ButT T W (W'.alloc o) := h.trans (ButT.of_below ((Below.refl _ _).alloc (Nat.le_refl _) _))
theorem ButT.grown {T : TypeId} {W W' : World} {base size n : Nat} {v : Value} {xs : List Value} (ho : W.ownsRow base T size v n xs) (hg : W.grownBy W' v.ownBlock) : ButT T W W' := by
  intro k cur T' fr hk hT
  refine (hg.block k (lt_of_block hk) fun h => ?_).trans hk
  obtain ⟨cur', h'⟩ := ownsRow_tag ho k h.symm
  rw [hk] at h'
  cases h'
  exact hT rfl
theorem ButT.setOld {T : TypeId} {W W' : World} {N : Nat} (h : ButT T W W') (hN : W.heap.size ≤ N) (a : Addr) (ha : N ≤ a.block) (u : Value) : ButT T W (W'.setCell a u) := fun k cur T' fr hk hT => (Below.heap_setCell _ _ _ _ (by have := lt_of_block hk; omega)).trans (h k cur T' fr hk hT)

section
variable {P : Program} {t e : TypeId} {inf : TypeInfo} {z : Value} {size bytes : Nat}

theorem app_own (ht : P.underlying t = some (.slice e)) (hi : P.info? e = some inf) (hz : inf.zero = some z) (hsize : inf.size = size) (hby : inf.bytes = bytes) (hzs : z.cells.size = size) (hsz : 0 < size)
    (base : Nat) (ty : TypeId) (v : Value) (n m g : Nat) (xs news : List Value) (W : World) {T0 : TypeId} {fr : Nat × Nat} (hown : W.ownsRow base e size v n xs) (hg : W.heap[g]? = some (.cells news.toArray T0 fr)) (hl : news.length = m * size) (h1 : ∀ u ∈ news, u.oneCell' = true)
    (hm : n + m ≤ maxLen) (hn : (n + m) * bytes ≤ 140737488355328) (hbase : base ≤ W.heap.size) (c : Nat) :
    ∃ v' W', (Builtin.append_ #[t, t] ty #[v, .slice (some ⟨g, 0, none⟩) m c]).run P W = .ok v' W' ∧ W'.ownsRow base e size v' (n + m) (xs ++ news) ∧ Below base W W' ∧ ButT e W W' := by
  obtain ⟨v', W', r1, r2, r3, _⟩ := run_append_own (P := P) W base t ty e inf z size bytes ht hi hz hsize hby hzs hsz v n xs hown ⟨g, 0, none⟩ m c news hl (fun j u hj => by rw [add_at]; simpa [World.cell?, hg] using hj) h1 hm hn hbase
  exact ⟨v', W', r1, r2, (Below.refl _ _).grown r3 hbase fun k hk => ownsRow_ge hown k hk, ButT.grown hown r3⟩

/-- What stands in a region that makes a literal (operation k1) and appends it (operation k2), calls besides. -/
def JApp (e : TypeId) (size base : Nat) (W : World) (v : Value) (n m : Nat) (xs news : List Value) (k1 k2 : Nat) (fs : Nat → Value → Prop) (w : World) : Prop :=
  Below base W w ∧ ButT e W w ∧
  ((∀ u, ¬ fs k2 u) → w.ownsRow base e size v n xs ∧ Below W.heap.size W w ∧ ∀ u, fs k1 u → ∃ g T0 fr, u = .slice (some ⟨g, 0, none⟩) m m ∧ w.heap[g]? = some (.cells news.toArray T0 fr)) ∧
  (∀ u, fs k2 u → w.ownsRow base e size u (n + m) (xs ++ news))
theorem JApp.start {base : Nat} {W : World} {v : Value} {n m : Nat} {xs news : List Value} {k1 k2 : Nat} (h : W.ownsRow base e size v n xs) : JApp e size base W v n m xs news k1 k2 (fun _ _ => False) W.drew :=
  ⟨(Below.refl _ _).drew, ButT.refl _ _, fun _ => ⟨h, (Below.refl _ _).drew, fun _ h => h.elim⟩, fun _ h => h.elim⟩
theorem JApp.later {base : Nat} {W w w' : World} {v : Value} {n m : Nat} {xs news : List Value} {k1 k2 : Nat} {fs : Nat → Value → Prop} (h : JApp e size base W v n m xs news k1 k2 fs w) (hbase : base ≤ W.heap.size) (hb : Below w.heap.size w w') : JApp e size base W v n m xs news k1 k2 fs w' := by
  obtain ⟨h1, h2, h3, h4⟩ := h
  refine ⟨Below.thenOf h1 hb (Nat.le_trans hbase h1.size), h2.trans (ButT.of_below hb), fun hn => ?_, fun u hu => ownsRow_below (h4 u hu) hb⟩
  obtain ⟨a, b, c⟩ := h3 hn
  refine ⟨ownsRow_below a hb, Below.thenOf b hb b.size, fun u hu => ?_⟩
  obtain ⟨g, T0, fr, e1, e2⟩ := c u hu
  exact ⟨g, T0, fr, e1, (hb.block g (lt_of_block e2)).trans e2⟩
theorem JApp.other {base : Nat} {W w : World} {v : Value} {n m : Nat} {xs news : List Value} {k1 k2 : Nat} {fs : Nat → Value → Prop} (h : JApp e size base W v n m xs news k1 k2 fs w) (k : Nat) (u : Value) (hk1 : k1 ≠ k) (hk2 : k2 ≠ k) : JApp e size base W v n m xs news k1 k2 (addF fs k u) w := by
  obtain ⟨h1, h2, h3, h4⟩ := h
  refine ⟨h1, h2, fun hn => ?_, fun y hy => ?_⟩
  · obtain ⟨a, b, c⟩ := h3 fun y hy => hn y (.inl hy)
    refine ⟨a, b, fun y hy => ?_⟩
    rcases hy with hy | ⟨h, _⟩
    · exact c y hy
    · exact absurd h hk1
  · rcases hy with hy | ⟨h, _⟩
    · exact h4 y hy
    · exact absurd h hk2
theorem JApp.call {base : Nat} {W w w' : World} {v : Value} {n m : Nat} {xs news : List Value} {k1 k2 : Nat} {fs : Nat → Value → Prop} (h : JApp e size base W v n m xs news k1 k2 fs w) (hbase : base ≤ W.heap.size) (hb : Below w.heap.size w w') (k : Nat) (u : Value) (hk1 : k1 ≠ k) (hk2 : k2 ≠ k) : JApp e size base W v n m xs news k1 k2 (addF fs k u) w' := (h.later hbase hb).other k u hk1 hk2
theorem JApp.lit {base : Nat} {W w : World} {v : Value} {n m : Nat} {xs news : List Value} {k1 k2 : Nat} {fs : Nat → Value → Prop} (h : JApp e size base W v n m xs news k1 k2 fs w) (hbase : base ≤ W.heap.size) (hk : k2 ≠ k1) (T0 : TypeId) : JApp e size base W v n m xs news k1 k2 (addF fs k1 (.slice (some ⟨w.heap.size, 0, none⟩) m m)) (w.alloc (.cells news.toArray T0)) := by
  obtain ⟨h1, h2, h3, h4⟩ := h.later hbase ((Below.refl w.heap.size w).alloc (Nat.le_refl _) (.cells news.toArray T0))
  refine ⟨h1, h2, fun hn => ?_, fun y hy => ?_⟩
  · obtain ⟨a, b, c⟩ := h3 fun y hy => hn y (.inl hy)
    refine ⟨a, b, fun y hy => ?_⟩
    rcases hy with hy | ⟨_, rfl⟩
    · exact c y hy
    · exact ⟨w.heap.size, T0, (0, 0), rfl, (MapKept.heap_alloc w _).1⟩
  · rcases hy with hy | ⟨h, _⟩
    · exact h4 y hy
    · exact absurd h hk
theorem JApp.app (ht : P.underlying t = some (.slice e)) (hi : P.info? e = some inf) (hz : inf.zero = some z) (hsize : inf.size = size) (hby : inf.bytes = bytes) (hzs : z.cells.size = size) (hsz : 0 < size)
    {base : Nat} {W w : World} {v : Value} {n m : Nat} {xs news : List Value} {k1 k2 : Nat} {fs : Nat → Value → Prop} (h : JApp e size base W v n m xs news k1 k2 fs w) (hbase : base ≤ W.heap.size) (hl : news.length = m * size) (h1 : ∀ u ∈ news, u.oneCell' = true)
    (hm : n + m ≤ maxLen) (hn : (n + m) * bytes ≤ 140737488355328) (ty : TypeId) (lit : Value) (hlit : fs k1 lit) (hno : ∀ u, ¬ fs k2 u) :
    ∃ v' w', (Builtin.append_ #[t, t] ty #[v, lit]).run P w = .ok v' w' ∧ (∃ a cap, v' = .slice a (n + m) cap) ∧ JApp e size base W v n m xs news k1 k2 (addF fs k2 v') w' := by
  obtain ⟨j1, j2, j3, j4⟩ := h
  obtain ⟨a, b, c⟩ := j3 hno
  obtain ⟨g, T0, fr, rfl, e2⟩ := c lit hlit
  obtain ⟨v', w', r1, r2, r3, r4⟩ := app_own ht hi hz hsize hby hzs hsz base ty v n m g xs news w a e2 hl h1 hm hn (Nat.le_trans hbase j1.size) m
  refine ⟨v', w', r1, ?_, j1.trans r3, j2.trans r4, fun hn => absurd (.inr ⟨rfl, rfl⟩) (hn v'), fun y hy => ?_⟩
  · obtain ⟨a, cap, h, _⟩ := ownsRow_caps r2
    exact ⟨a, cap, h⟩
  · rcases hy with hy | ⟨_, rfl⟩
    · exact absurd hy (hno y)
    · exact r2
/-- What readers see in such a region: all blocks but those of the row's type. -/
def ButW (T : TypeId) (W : World) : Type := { w' : World // ButT T W w' }
theorem ButW.ne (T : TypeId) (W : World) : Nonempty (ButW T W) := ⟨⟨W, ButT.refl _ _⟩⟩
theorem ButW.cell {T : TypeId} {W : World} (x : ButW T W) {b o : Nat} {cur : Array Value} {T' : TypeId} {fr : Nat × Nat} {v : Value} (h : W.heap[b]? = some (.cells cur T' fr)) (hT : T' ≠ T) (hc : W.cell? ⟨b, o, none⟩ = some v) : x.1.cell? ⟨b, o, none⟩ = some v := by
  have h' := x.2 b cur T' fr h hT
  simp only [World.cell?, h] at hc
  simp only [World.cell?, h']
  exact hc
theorem JApp.seen {base : Nat} {W : World} {v : Value} {n m : Nat} {xs news : List Value} {k1 k2 : Nat} : ∀ fs w, JApp e size base W v n m xs news k1 k2 fs w → ∃ x : ButW e W, w = x.1 := fun _ w h => ⟨⟨w, h.2.1⟩, rfl⟩
end

end Go.Proofs.YtacjnooegahidabGreatDoor
end
section
/- right: a right call of any numbers. -/
set_option linter.all false
namespace Go.Proofs.YtacjnooegahidabGreatDoor
open Go.RowKit Go.Maps

theorem tmod_neg {k n : Int} (hn : 0 < n) (h : k.tmod n < 0) : k.tmod n + n = k % n := by
  have h1 := Int.emod_nonneg k (by omega : n ≠ 0)
  have h2 := Int.emod_lt_of_pos k hn
  rw [Int.tmod_eq_emod] at h ⊢
  split at h
  · omega
  · rename_i hh; rw [if_neg hh]; omega
theorem tmod_pos {k n : Int} (hn : 0 < n) (h : 0 ≤ k.tmod n) : k.tmod n = k % n := by
  have h1 := Int.emod_nonneg k (by omega : n ≠ 0)
  have h2 := Int.emod_lt_of_pos k hn
  rw [Int.tmod_eq_emod] at h ⊢
  split at h
  · rename_i hh; rw [if_pos hh]; omega
  · omega

set_option maxHeartbeats 1000000 in
theorem at_any (k n : Int) (hn : 0 < n ∧ n ≤ 65536) (w : World) :
    Calls Tryz.prog 16 #[.int .i64 k, .int .i64 n] w fun e w' => e = .returned (.int .i64 (k % n)) ∧ w' = w := by
  have hn0 : (n == 0) = false := by simp; omega
  have hn1 : n ≠ -1 := by omega
  have h1 := Int.emod_nonneg k (by omega : n ≠ 0)
  have h2 := Int.emod_lt_of_pos k hn.1
  have H1 : Hid (0 ≤ k % n) := h1
  have H2 : Hid (k % n < n) := h2
  clear h1 h2
  go_enter Tryz.func16, Tryz.ntmps16
  go_wp2
  · have h : k.tmod n < 0 := by assumption
    go_ret
    refine ⟨?_, rfl⟩
    have e := tmod_neg hn.1 h
    have a1 := H1.out
    have a2 := H2.out
    rw [e]
    rw [IntWalk.wrap64_in _ (by omega)]
    rfl
  · have h : 0 ≤ k.tmod n := by assumption
    go_ret
    refine ⟨?_, rfl⟩
    rw [tmod_pos hn.1 h]
    rfl

theorem most_ge (n : Int) : 0 ≤ most n := by
  unfold most
  split
  · omega
  · split <;> omega
def rx (x : Nat → Int) (j : Nat) : Int := x j % (most j + 1)
def mixX (x : Nat → Int) (k j : Nat) : Int := if j < k then rx x j else x j
def cellsX (y : Nat → Int) : Array Value := #[.int .i64 (y 0), .int .i64 (y 1), .int .i64 (y 2), .int .i64 (y 3), .int .i64 (y 4)]
theorem cellsX_at {w : World} {b : Nat} {y : Nat → Int} {t : TypeId} (h : w.heap[b]? = some (.cells (cellsX y) t (0, 0))) : XAt w b y ∧ ∀ j, w.frozen? ⟨b, j, none⟩ = false := by
  refine ⟨fun j hj => ?_, fun j => by simp [World.frozen?, h]⟩
  have : j = 0 ∨ j = 1 ∨ j = 2 ∨ j = 3 ∨ j = 4 := by omega
  rcases this with rfl | rfl | rfl | rfl | rfl <;> simp [World.cell?, h, cellsX]
theorem row_setCell {w : World} {b o : Nat} {cs : Array Value} {u : Value} {t : TypeId} (h : w.heap[b]? = some (.cells cs t (0, 0))) : (w.setCell ⟨b, o, none⟩ u).heap[b]? = some (.cells (cs.setIfInBounds o u) t (0, 0)) := by
  have hlt := lt_of_block h
  have h' : w.heap[b] = .cells cs t (0, 0) := by simpa [Array.getElem?_eq_getElem hlt] using h
  show (w.heap.modify b _)[b]? = _
  rw [Array.getElem?_eq_getElem (by simpa using hlt), Array.getElem_modify_self, h']
  rfl
theorem mix_set (x : Nat → Int) (k : Nat) (hk : k < 5) : (cellsX (mixX x k)).setIfInBounds k (.int .i64 (rx x k)) = cellsX (mixX x (k + 1)) := by
  have : k = 0 ∨ k = 1 ∨ k = 2 ∨ k = 3 ∨ k = 4 := by omega
  rcases this with rfl | rfl | rfl | rfl | rfl <;> simp [cellsX, mixX]

set_option maxRecDepth 20000 in
set_option maxHeartbeats 2000000 in
theorem right_any (x : Nat → Int) (w : World) :
    Calls Tryz.prog 22 #[callV x] w fun e w' => e = .returned (callV (rx x)) ∧ Below w.heap.size w w' := by
  show Calls Tryz.prog 22 #[.agg #[.int .i64 (x 0), .int .i64 (x 1), .int .i64 (x 2), .int .i64 (x 3), .int .i64 (x 4)]] w _
  have hb2 : ∀ X Y, Below w.heap.size w ((w.alloc X).alloc Y) := fun X Y => ((Below.refl _ _).alloc (Nat.le_refl _) _).alloc (by simp) _
  go_enter Tryz.func22, Tryz.ntmps22
  go_wp2
  have hc0 : ((w.alloc (.cells #[.int .i64 (x 0), .int .i64 (x 1), .int .i64 (x 2), .int .i64 (x 3), .int .i64 (x 4)] 29)).alloc (.cells #[.int .i64 0, .int .i64 0, .int .i64 0, .int .i64 0, .int .i64 0] 29)).heap[w.heap.size]? = some (.cells (cellsX (mixX x 0)) 29 (0, 0)) := by
    rw [Below.heap_alloc _ _ _ (by simp)]
    exact (MapKept.heap_alloc w _).1
  have hc1 : ((w.alloc (.cells #[.int .i64 (x 0), .int .i64 (x 1), .int .i64 (x 2), .int .i64 (x 3), .int .i64 (x 4)] 29)).alloc (.cells #[.int .i64 0, .int .i64 0, .int .i64 0, .int .i64 0, .int .i64 0] 29)).heap[w.heap.size + 1]? = some (.cells (cellsX fun _ => 0) 29 (0, 0)) := by
    have := (MapKept.heap_alloc (w.alloc (.cells #[.int .i64 (x 0), .int .i64 (x 1), .int .i64 (x 2), .int .i64 (x 3), .int .i64 (x 4)] 29)) (.cells #[.int .i64 0, .int .i64 0, .int .i64 0, .int .i64 0, .int .i64 0] 29)).1
    rw [World.size_alloc] at this
    exact this
  have hbW := hb2 (.cells #[.int .i64 (x 0), .int .i64 (x 1), .int .i64 (x 2), .int .i64 (x 3), .int .i64 (x 4)] 29) (.cells #[.int .i64 0, .int .i64 0, .int .i64 0, .int .i64 0, .int .i64 0] 29)
  go_loopw [4] (fun i wr => ∃ k : Nat, k ≤ 5 ∧ i = .int .i64 k ∧ Below w.heap.size w wr ∧ Hid (wr.heap[w.heap.size]? = some (.cells (cellsX (mixX x k)) 29 (0, 0))) ∧ Hid (wr.heap[w.heap.size + 1]? = some (.cells (cellsX fun _ => 0) 29 (0, 0)))) (fun i _ => 5 - (intOf i).toNat)
  case atStart => exact ⟨0, by omega, rfl, hbW, hc0, hc1⟩
  case round =>
    obtain ⟨k, hk, rfl, hbr, H0, H1⟩ := hrel
    have i0 : (0 : Int) ≤ (k : Int) := by omega
    have hz := lt_of_block H1.out
    by_cases hlt : k < 5
    · have i1 : (k : Int) < 5 := by omega
      have hwf : (Lit.int .i64 (k : Int)).wf = true := WalkArith.wf_i64 (by omega)
      have hm1 : 0 ≤ most k := most_ge k
      have hm2 := most_le (k : Int)
      have hxk : mixX x k k = x k := by simp [mixX]
      go_wp2
      have hne := Later.ne wr
      have q0 : ∀ y : Later wr, y.1.cell? ⟨w.heap.size, k, none⟩ = some (.int .i64 (x k)) := fun y => y.cell (by rw [(cellsX_at H0.out).1 k hlt, hxk]) (by omega)
      have hrx : Hid (x k % (most k + 1) = rx x k) := rfl
      refine wp_region_later_last [_, _, _, _, _, _, _, _, _] _ rfl (by kernel_rfl) (by kernel_rfl) ?_
      repeat (go_big_quiet_step (first | (go_at_call 48; exact Calls.later (mostOf_any _ hwf _)) | (go_at_call 16; exact Calls.later_same (at_any _ _ (by omega) _))))
      refine wpQuiet_nil ?_
      rintro wx ⟨⟨_, hx⟩, rfl⟩
      have hbx := Below.thenOf hbr hx hbr.size
      have G0 := (hx.block w.heap.size (by omega)).trans H0.out
      have G1 := (hx.block (w.heap.size + 1) (by omega)).trans H1.out
      have t0 := (cellsX_at G0).1 k hlt
      have t1 := (cellsX_at G0).2 k
      have F0 := row_setCell (o := k) (u := .int .i64 (rx x k)) G0
      rw [mix_set x k hlt] at F0
      have F1 : (wx.setCell ⟨w.heap.size, k, none⟩ (.int .i64 (rx x k))).heap[w.heap.size + 1]? = some (.cells (cellsX fun _ => 0) 29 (0, 0)) := by rw [Below.heap_setCell _ _ _ _ (by show w.heap.size + 1 ≠ w.heap.size; omega)]; exact G1
      have F0' : Hid _ := F0
      have F1' : Hid _ := F1
      clear q0 hne G0 G1 F0 F1 hx
      unfold rx at F0' F1'
      go_wp2
      exact ⟨⟨k + 1, by omega, by go_num, hbx.setCell (p := ⟨w.heap.size, k, none⟩) (Nat.le_refl _) _, F0'.out, F1'.out⟩, by simp [intOf]; omega⟩
    · obtain rfl : k = 5 := by omega
      have e5 : ∀ j, j < 5 → mixX x 5 j = rx x j := fun j hj => by simp [mixX, hj]
      have X0 := (cellsX_at H0.out).1
      have y0 := X0 0 (by omega)
      have y1 := X0 1 (by omega)
      have y2 := X0 2 (by omega)
      have y3 := X0 3 (by omega)
      have y4 := X0 4 (by omega)
      rw [e5 _ (by omega)] at y0 y1 y2 y3 y4
      have Z0 := (cellsX_at H1.out).1
      have Z1 := (cellsX_at H1.out).2
      have z0 := Z0 0 (by omega)
      have z1 := Z0 1 (by omega)
      have z2 := Z0 2 (by omega)
      have z3 := Z0 3 (by omega)
      have z4 := Z0 4 (by omega)
      have f0 := Z1 0
      have f1 := Z1 1
      have f2 := Z1 2
      have f3 := Z1 3
      have f4 := Z1 4
      clear X0 Z0 Z1 e5
      have hbF : Below w.heap.size w (((((wr.setCell ⟨w.heap.size + 1, 0, none⟩ (.int .i64 (rx x 0))).setCell ⟨w.heap.size + 1, 1, none⟩ (.int .i64 (rx x 1))).setCell ⟨w.heap.size + 1, 2, none⟩ (.int .i64 (rx x 2))).setCell ⟨w.heap.size + 1, 3, none⟩ (.int .i64 (rx x 3))).setCell ⟨w.heap.size + 1, 4, none⟩ (.int .i64 (rx x 4))) := ((((hbr.setCell (p := ⟨w.heap.size + 1, 0, none⟩) (Nat.le_succ _) _).setCell (p := ⟨w.heap.size + 1, 1, none⟩) (Nat.le_succ _) _).setCell (p := ⟨w.heap.size + 1, 2, none⟩) (Nat.le_succ _) _).setCell (p := ⟨w.heap.size + 1, 3, none⟩) (Nat.le_succ _) _).setCell (p := ⟨w.heap.size + 1, 4, none⟩) (Nat.le_succ _) _
      have HF := row_setCell (o := 4) (u := .int .i64 (rx x 4)) (row_setCell (o := 3) (u := .int .i64 (rx x 3)) (row_setCell (o := 2) (u := .int .i64 (rx x 2)) (row_setCell (o := 1) (u := .int .i64 (rx x 1)) (row_setCell (o := 0) (u := .int .i64 (rx x 0)) H1.out))))
      have HF' : Hid ((((((wr.setCell ⟨w.heap.size + 1, 0, none⟩ (.int .i64 (rx x 0))).setCell ⟨w.heap.size + 1, 1, none⟩ (.int .i64 (rx x 1))).setCell ⟨w.heap.size + 1, 2, none⟩ (.int .i64 (rx x 2))).setCell ⟨w.heap.size + 1, 3, none⟩ (.int .i64 (rx x 3))).setCell ⟨w.heap.size + 1, 4, none⟩ (.int .i64 (rx x 4))).heap[w.heap.size + 1]? = some (.cells (cellsX (rx x)) 29 (0, 0))) := HF
      have hbF' : Hid _ := hbF
      clear HF hbF
      have hRx : Hid (rx x = rx x) := rfl
      generalize hr : rx x = r at *
      go_wp2
      have Y := (cellsX_at HF'.out).1
      have v0 := Y 0 (by omega)
      have v1 := Y 1 (by omega)
      have v2 := Y 2 (by omega)
      have v3 := Y 3 (by omega)
      have v4 := Y 4 (by omega)
      refine bodyPost_ret (v := callV r) ?_ rfl ⟨rfl, hbF'.out⟩
      rw [results_cell1 rfl]
      unfold callV
      go_simp

/-- It is a right call. -/
theorem right_ok (x : Nat → Int) : chkx (rx x) = 0 := by
  have h : ∀ j : Nat, inR j (rx x j) = true := by
    intro j
    have h1 := Int.emod_nonneg (x j) (by have := most_ge j; omega : most j + 1 ≠ 0)
    have h2 := Int.emod_lt_of_pos (x j) (by have := most_ge j; omega : 0 < most j + 1)
    unfold inR rx
    simp
    omega
  unfold chkx chk
  rw [if_pos]
  simp only [okFrom, Bool.and_eq_true]
  exact ⟨h 0, h 1, h 2, h 3, h 4, trivial⟩

end Go.Proofs.YtacjnooegahidabGreatDoor
end
section
/- The counterpart's Both: its two closures. -/
set_option linter.all false
set_option maxRecDepth 100000
namespace Go.Proofs.YtacjnooegahidabGreatDoor
open Go.RowKit Go.Maps

set_option maxHeartbeats 2000000 in
theorem both1_any (exc : Bool) (a b : Int) (bx : Nat) (w : World) (hx : w.cell? ⟨bx, 0, none⟩ = some (.bool exc)) :
    Calls Tryz.prog 62 #[.int .i64 a, .int .i64 b, .pointer (some ⟨bx, 0, none⟩)] w fun e w' => e = .returned (.int .i64 (ofV exc a b)) ∧ w' = w := by
  by_cases hab : a < b
  · have HE : Hid (ofV exc a b = a) := by unfold Hid ofV; rw [if_pos hab]
    go_enter Tryz.func62, Tryz.ntmps62
    go_wp2
    go_ret
    exact ⟨by rw [HE.out]; rfl, rfl⟩
  · cases exc with
    | true =>
      have HE : Hid (ofV true a b = 4) := by unfold Hid ofV; rw [if_neg hab]; rfl
      go_enter Tryz.func62, Tryz.ntmps62
      go_wp2
      go_ret
      exact ⟨by rw [HE.out]; rfl, rfl⟩
    | false =>
      have HE : Hid (ofV false a b = b) := by unfold Hid ofV; rw [if_neg hab]; rfl
      go_enter Tryz.func62, Tryz.ntmps62
      go_wp2
      go_ret
      exact ⟨by rw [HE.out]; rfl, rfl⟩

theorem grown_later {w w' : World} (hb : Below w.heap.size w w') (row : Option Nat) : w.grownBy w' row := ⟨hb.os, hb.tape, hb.output, hb.size, fun k hk _ => hb.block k hk⟩
theorem heap_at (w : World) (o : Obj) {n : Nat} (h : n = w.heap.size) : (w.alloc o).heap[n]? = some o := by subst h; exact heap_made _ _
theorem heap_kept' {w : World} (o : Obj) {n : Nat} {x : Obj} (h : w.heap[n]? = some x) : (w.alloc o).heap[n]? = some x := (Below.block ((Below.refl w.heap.size w).alloc (Nat.le_refl _) o) n (Array.getElem?_eq_some_iff.1 h).1).trans h
/-- All blocks of a type stand. -/
def KeepT (T : TypeId) (w w' : World) : Prop := ∀ (k : Nat) (cur : Array Value) (fr : Nat × Nat), w.heap[k]? = some (.cells cur T fr) → w'.heap[k]? = some (.cells cur T fr)
theorem KeepT.of_below {T : TypeId} {w w' : World} (h : Below w.heap.size w w') : KeepT T w w' := fun k cur fr hk => (h.block k (lt_of_block hk)).trans hk
theorem KeepT.trans {T : TypeId} {a b c : World} (h : KeepT T a b) (h' : KeepT T b c) : KeepT T a c := fun k cur fr hk => h' k cur fr (h k cur fr hk)
theorem ownsRow_keepT {w w' : World} {base size n : Nat} {e : TypeId} {v : Value} {xs : List Value} (h : w.ownsRow base e size v n xs) (hk : KeepT e w w') : w'.ownsRow base e size v n xs := ownsRow_block h fun g cur _ hg => (hk g cur _ hg).trans hg.symm
/-- The cells of rules whose conditions lie in rows of the call's own. -/
def XsN (L : Nat) (w : World) (xs : List Value) (rs : List RuleT) : Prop :=
  xs.length = rs.length * 2 ∧ (∀ u ∈ xs, u.oneCell' = true) ∧ ∀ i r, rs[i]? = some r → ∃ cv, xs[i * 2]? = some cv ∧ xs[i * 2 + 1]? = some (.int .i64 r.2) ∧ wf r.2 ∧ (∀ c ∈ r.1, wf c.1 ∧ wf c.2.1 ∧ wf c.2.2) ∧ w.ownsRow L 76 3 cv r.1.length (cndCells r.1)
theorem XsN.keep {L : Nat} {w w' : World} {xs : List Value} {rs : List RuleT} (h : XsN L w xs rs) (hk : KeepT 76 w w') : XsN L w' xs rs := by
  obtain ⟨h1, h2, h3⟩ := h
  refine ⟨h1, h2, fun i r hr => ?_⟩
  obtain ⟨cv, a, b, c, d, e⟩ := h3 i r hr
  exact ⟨cv, a, b, c, d, ownsRow_keepT e hk⟩
theorem XsN.snoc {L : Nat} {w : World} {xs : List Value} {rs : List RuleT} {cv : Value} {r : RuleT} (h : XsN L w xs rs) (hr : wf r.2) (hw : ∀ c ∈ r.1, wf c.1 ∧ wf c.2.1 ∧ wf c.2.2) (ho : w.ownsRow L 76 3 cv r.1.length (cndCells r.1)) : XsN L w (xs ++ [cv, .int .i64 r.2]) (rs ++ [r]) := by
  obtain ⟨h1, h2, h3⟩ := h
  refine ⟨by simp [h1]; omega, fun u hu => ?_, fun i r' hr' => ?_⟩
  · rcases List.mem_append.1 hu with hu | hu
    · exact h2 u hu
    · obtain ⟨a, cap, rfl, _⟩ := ownsRow_caps ho
      simp at hu
      rcases hu with rfl | rfl <;> rfl
  · by_cases hi : i < rs.length
    · rw [List.getElem?_append_left hi] at hr'
      obtain ⟨cv', a, b, c, d, e⟩ := h3 i r' hr'
      exact ⟨cv', by rw [List.getElem?_append_left (by omega)]; exact a, by rw [List.getElem?_append_left (by omega)]; exact b, c, d, e⟩
    · have hi' : i = rs.length := by
        have := (List.getElem?_eq_some_iff.1 hr').1
        simp at this
        omega
      subst hi'
      simp at hr'
      subst hr'
      exact ⟨cv, by rw [List.getElem?_append_right (by omega)]; simp [h1], by rw [List.getElem?_append_right (by omega)]; simp [h1], hr, hw, ho⟩

/-- What stands while Both goes on: the boxes of except, of the closure, of what is made; the rules made so far. -/
def BoV (L bo bf bx : Nat) (exc : Bool) (rs : List RuleT) (v : Value) (xs : List Value) (w : World) : Prop :=
  w.heap[bx]? = some (.cells #[.bool exc] 4 (0, 0)) ∧ w.heap[bf]? = some (.cells #[.func (.func 62) #[] #[.pointer (some ⟨bx, 0, none⟩)]] 33 (0, 0)) ∧
  w.heap[bo]? = some (.cells #[v, .int .i64 0] 38 (0, 0)) ∧ w.ownsRow L 73 2 v rs.length xs ∧ XsN L w xs rs
def BoS (L bo bf bx : Nat) (exc : Bool) (rs : List RuleT) (w : World) : Prop := ∃ v xs, BoV L bo bf bx exc rs v xs w
theorem BoS.later {L bo bf bx : Nat} {exc : Bool} {rs : List RuleT} {w w' : World} (h : BoS L bo bf bx exc rs w) (hb : Below w.heap.size w w') : BoS L bo bf bx exc rs w' := by
  obtain ⟨v, xs, h1, h2, h3, h4, h5⟩ := h
  exact ⟨v, xs, (hb.block bx (lt_of_block h1)).trans h1, (hb.block bf (lt_of_block h2)).trans h2, (hb.block bo (lt_of_block h3)).trans h3, ownsRow_below h4 hb, h5.keep (KeepT.of_below hb)⟩

/-- What stands in the region that makes a rule: operations 6 (the two lists), 7 (both, joined), 13 (the verdict), 14 (the rule), 15 (a list of it), 16 (appended). -/
structure JBo (L : Nat) (W : World) (v : Value) (n : Nat) (xs : List Value) (rc sc : Value) (N : Nat) (cc : List Value) (vd : Int) (fs : Nat → Value → Prop) (w : World) : Prop where
  grown : W.grownBy w v.ownBlock
  lits : ∀ u, fs 6 u → ∃ g T0 fr, u = .slice (some ⟨g, 0, none⟩) 2 2 ∧ W.heap.size ≤ g ∧ w.heap[g]? = some (.cells #[rc, sc] T0 fr)
  one : ∀ u u', fs 7 u → fs 7 u' → u = u'
  join : ∀ u, fs 7 u → w.ownsRow W.heap.size 76 3 u N cc
  build : ∀ u, fs 14 u → ∃ u7, fs 7 u7 ∧ u = .agg #[u7, .int .i64 vd]
  made : ∀ u, fs 15 u → ∃ g T0 fr u7, u = .slice (some ⟨g, 0, none⟩) 1 1 ∧ W.heap.size ≤ g ∧ fs 7 u7 ∧ w.heap[g]? = some (.cells #[u7, .int .i64 vd] T0 fr)
  row : (∀ u, ¬ fs 16 u) → w.ownsRow L 73 2 v n xs
  app : ∀ u, fs 16 u → ∃ u7, fs 7 u7 ∧ w.ownsRow L 73 2 u (n + 1) (xs ++ [u7, .int .i64 vd]) ∧ (u.ownBlock = v.ownBlock ∨ ∃ k, u.ownBlock = some k ∧ W.heap.size ≤ k)
section
variable {L : Nat} {W w w' : World} {v : Value} {n : Nat} {xs : List Value} {rc sc : Value} {N : Nat} {cc : List Value} {vd : Int} {fs : Nat → Value → Prop}
theorem addF_old {fs : Nat → Value → Prop} {i k : Nat} {v u : Value} (hk : k ≠ i) (hu : addF fs i v k u) : fs k u := by
  rcases hu with hu | ⟨e, _⟩
  · exact hu
  · exact absurd e hk
theorem JBo.start (h : W.ownsRow L 73 2 v n xs) : JBo L W v n xs rc sc N cc vd (fun _ _ => False) W.drew :=
  ⟨⟨rfl, rfl, rfl, Nat.le_refl _, fun _ _ _ => rfl⟩, fun _ h => h.elim, fun _ _ h => h.elim, fun _ h => h.elim, fun _ h => h.elim, fun _ h => h.elim, fun _ => h, fun _ h => h.elim⟩
theorem JBo.later (h : JBo L W v n xs rc sc N cc vd fs w) (hb : Below w.heap.size w w') : JBo L W v n xs rc sc N cc vd fs w' := by
  refine ⟨World.grownBy.andThen h.grown (grown_later hb v.ownBlock) fun j hj => .inr hj, fun u hu => ?_, h.one, fun u hu => ownsRow_below (h.join u hu) hb, h.build, fun u hu => ?_, fun hn => ownsRow_below (h.row hn) hb, fun u hu => ?_⟩
  · obtain ⟨g, T0, fr, e1, e2, e3⟩ := h.lits u hu
    exact ⟨g, T0, fr, e1, e2, (hb.block g (lt_of_block e3)).trans e3⟩
  · obtain ⟨g, T0, fr, u7, e1, e2, e3, e4⟩ := h.made u hu
    exact ⟨g, T0, fr, u7, e1, e2, e3, (hb.block g (lt_of_block e4)).trans e4⟩
  · obtain ⟨u7, e1, e2, e3⟩ := h.app u hu
    exact ⟨u7, e1, ownsRow_below e2 hb, e3⟩
/-- One more is done that is none of 6, 7, 14, 15, 16. -/
theorem JBo.other (h : JBo L W v n xs rc sc N cc vd fs w) (k : Nat) (u : Value) (h6 : 6 ≠ k) (h7 : 7 ≠ k) (h14 : 14 ≠ k) (h15 : 15 ≠ k) (h16 : 16 ≠ k) : JBo L W v n xs rc sc N cc vd (addF fs k u) w := by
  refine ⟨h.grown, fun u hu => h.lits u (addF_old h6 hu), fun u u' hu hu' => h.one u u' (addF_old h7 hu) (addF_old h7 hu'), fun u hu => h.join u (addF_old h7 hu), fun u hu => ?_, fun u hu => ?_, fun hn => h.row fun u hu => hn u (.inl hu), fun u hu => ?_⟩
  · obtain ⟨u7, e1, e2⟩ := h.build u (addF_old h14 hu)
    exact ⟨u7, .inl e1, e2⟩
  · obtain ⟨g, T0, fr, u7, e1, e2, e3, e4⟩ := h.made u (addF_old h15 hu)
    exact ⟨g, T0, fr, u7, e1, e2, .inl e3, e4⟩
  · obtain ⟨u7, e1, e2⟩ := h.app u (addF_old h16 hu)
    exact ⟨u7, .inl e1, e2⟩
theorem JBo.lists (h : JBo L W v n xs rc sc N cc vd fs w) (T0 : TypeId) : JBo L W v n xs rc sc N cc vd (addF fs 6 (.slice (some ⟨w.heap.size, 0, none⟩) 2 2)) (w.alloc (.cells #[rc, sc] T0)) := by
  have hsz := h.grown.size
  have h := h.later ((Below.refl w.heap.size w).alloc (Nat.le_refl _) (.cells #[rc, sc] T0))
  refine ⟨h.grown, fun u hu => ?_, fun u u' hu hu' => h.one u u' (addF_old (by decide) hu) (addF_old (by decide) hu'), fun u hu => h.join u (addF_old (by decide) hu), fun u hu => ?_, fun u hu => ?_, fun hn => h.row fun u hu => hn u (.inl hu), fun u hu => ?_⟩
  · rcases hu with hu | ⟨_, rfl⟩
    · exact h.lits u hu
    · exact ⟨w.heap.size, T0, (0, 0), rfl, hsz, heap_made _ _⟩
  · obtain ⟨u7, e1, e2⟩ := h.build u (addF_old (by decide) hu)
    exact ⟨u7, .inl e1, e2⟩
  · obtain ⟨g, T0, fr, u7, e1, e2, e3, e4⟩ := h.made u (addF_old (by decide) hu)
    exact ⟨g, T0, fr, u7, e1, e2, .inl e3, e4⟩
  · obtain ⟨u7, e1, e2⟩ := h.app u (addF_old (by decide) hu)
    exact ⟨u7, .inl e1, e2⟩
theorem JBo.joined (h : JBo L W v n xs rc sc N cc vd fs w) (hno : ∀ u, ¬ fs 7 u) (hb : Below w.heap.size w w') (u : Value) (ho : w'.ownsRow w.heap.size 76 3 u N cc) : JBo L W v n xs rc sc N cc vd (addF fs 7 u) w' := by
  have hsz := h.grown.size
  have h := h.later hb
  refine ⟨h.grown, fun u hu => h.lits u (addF_old (by decide) hu), fun u1 u2 hu hu' => ?_, fun u1 hu => ?_, fun u hu => ?_, fun u hu => ?_, fun hn => h.row fun u hu => hn u (.inl hu), fun u hu => ?_⟩
  · rcases hu with hu | ⟨_, rfl⟩
    · exact absurd hu (hno u1)
    · rcases hu' with hu' | ⟨_, rfl⟩
      · exact absurd hu' (hno u2)
      · rfl
  · rcases hu with hu | ⟨_, rfl⟩
    · exact absurd hu (hno u1)
    · exact ownsRow_base ho hsz
  · obtain ⟨u7, e1, _⟩ := h.build u (addF_old (by decide) hu)
    exact absurd e1 (hno u7)
  · obtain ⟨g, T0, fr, u7, e1, e2, e3, e4⟩ := h.made u (addF_old (by decide) hu)
    exact absurd e3 (hno u7)
  · obtain ⟨u7, e1, e2⟩ := h.app u (addF_old (by decide) hu)
    exact absurd e1 (hno u7)
theorem JBo.built (h : JBo L W v n xs rc sc N cc vd fs w) (u7 : Value) (hu7 : fs 7 u7) : JBo L W v n xs rc sc N cc vd (addF fs 14 (.agg #[u7, .int .i64 vd])) w := by
  refine ⟨h.grown, fun u hu => h.lits u (addF_old (by decide) hu), fun u u' hu hu' => h.one u u' (addF_old (by decide) hu) (addF_old (by decide) hu'), fun u hu => h.join u (addF_old (by decide) hu), fun u hu => ?_, fun u hu => ?_, fun hn => h.row fun u hu => hn u (.inl hu), fun u hu => ?_⟩
  · rcases hu with hu | ⟨_, rfl⟩
    · obtain ⟨y, e1, e2⟩ := h.build u hu
      exact ⟨y, .inl e1, e2⟩
    · exact ⟨u7, .inl hu7, rfl⟩
  · obtain ⟨g, T0, fr, y, e1, e2, e3, e4⟩ := h.made u (addF_old (by decide) hu)
    exact ⟨g, T0, fr, y, e1, e2, .inl e3, e4⟩
  · obtain ⟨y, e1, e2⟩ := h.app u (addF_old (by decide) hu)
    exact ⟨y, .inl e1, e2⟩
theorem JBo.rule (h : JBo L W v n xs rc sc N cc vd fs w) (hno : ∀ u, ¬ fs 15 u) (u7 : Value) (hu : fs 14 (.agg #[u7, .int .i64 vd])) (T0 : TypeId) : JBo L W v n xs rc sc N cc vd (addF fs 15 (.slice (some ⟨w.heap.size, 0, none⟩) 1 1)) (w.alloc (.cells #[u7, .int .i64 vd] T0)) := by
  have hsz := h.grown.size
  have hu7 : fs 7 u7 := by
    obtain ⟨y, e1, e2⟩ := h.build _ hu
    have : u7 = y := by simpa using e2
    rw [this]
    exact e1
  have h := h.later ((Below.refl w.heap.size w).alloc (Nat.le_refl _) (.cells #[u7, .int .i64 vd] T0))
  refine ⟨h.grown, fun u hu => h.lits u (addF_old (by decide) hu), fun u u' hu hu' => h.one u u' (addF_old (by decide) hu) (addF_old (by decide) hu'), fun u hu => h.join u (addF_old (by decide) hu), fun u hu => ?_, fun u hu => ?_, fun hn => h.row fun u hu => hn u (.inl hu), fun u hu => ?_⟩
  · obtain ⟨y, e1, e2⟩ := h.build u (addF_old (by decide) hu)
    exact ⟨y, .inl e1, e2⟩
  · rcases hu with hu | ⟨_, rfl⟩
    · exact absurd hu (hno u)
    · exact ⟨w.heap.size, T0, (0, 0), u7, rfl, hsz, .inl hu7, heap_made _ _⟩
  · obtain ⟨y, e1, e2⟩ := h.app u (addF_old (by decide) hu)
    exact ⟨y, .inl e1, e2⟩
theorem JBo.append (h : JBo L W v n xs rc sc N cc vd fs w) (hno : ∀ u, ¬ fs 16 u) (hob : ∀ k, v.ownBlock = some k → k < W.heap.size) (hL : L ≤ W.heap.size) (lit : Value) (hlit : fs 15 lit) (hn : n ≤ 100000) (ty : TypeId) :
    ∃ v' w', (Builtin.append_ #[36, 36] ty #[v, lit]).run Tryz.prog w = .ok v' w' ∧ (∃ a cap, v' = .slice a (n + 1) cap) ∧ JBo L W v n xs rc sc N cc vd (addF fs 16 v') w' := by
  have hml := maxLen_eq
  obtain ⟨g, T0, fr, u7, rfl, hg, hu7, hbl⟩ := h.made lit hlit
  have hrow := h.row hno
  have h1c : u7.oneCell' = true := by
    obtain ⟨a, cap, rfl, _⟩ := ownsRow_caps (h.join u7 hu7)
    rfl
  obtain ⟨inf, hi1, hi2, hi3, hi4⟩ : ∃ i, Tryz.prog.info? 73 = some i ∧ i.zero = some (.agg #[.slice none 0 0, .int .i64 0]) ∧ i.size = 2 ∧ i.bytes = 32 := infoOf (by kernel_rfl)
  obtain ⟨v', w', r1, r2, r3, _, r5⟩ := run_append_own_at (P := Tryz.prog) w L 36 ty 73 inf _ 2 32 Tryz.underlying36 hi1 hi2 hi3 hi4 rfl (by decide) v n xs hrow ⟨g, 0, none⟩ 1 1 [u7, .int .i64 vd] rfl (fun j u hj => by rw [add_at, Nat.zero_add]; exact heap_cell hbl j (by simpa using hj)) (by intro u hu; simp at hu; rcases hu with rfl | rfl; exact h1c; rfl) (by omega) (by omega) (Nat.le_trans hL h.grown.size)
  have hst : ∀ g', W.heap.size ≤ g' → ∀ {x}, w.heap[g']? = some x → w'.heap[g']? = some x := fun g' hg' x hx => by
    refine (r3.block g' (Array.getElem?_eq_some_iff.1 hx).1 fun e => ?_).trans hx
    have := hob g' e.symm
    omega
  obtain ⟨a', cap', e', _⟩ := ownsRow_caps r2
  refine ⟨v', w', r1, ⟨a', cap', e'⟩, World.grownBy.andThen h.grown r3 fun j hj => .inr hj, fun u hu => ?_, fun u u' hu hu' => h.one u u' (addF_old (by decide) hu) (addF_old (by decide) hu'), fun u hu => ?_, fun u hu => ?_, fun u hu => ?_, fun hn => absurd (.inr ⟨rfl, rfl⟩) (hn v'), fun u hu => ?_⟩
  · obtain ⟨g2, T2, fr2, e1, e2, e3⟩ := h.lits u (addF_old (by decide) hu)
    exact ⟨g2, T2, fr2, e1, e2, hst g2 e2 e3⟩
  · exact ownsRow_block (h.join u (addF_old (by decide) hu)) fun g2 cur hg2 hc => (hst g2 hg2 hc).trans hc.symm
  · obtain ⟨y, e1, e2⟩ := h.build u (addF_old (by decide) hu)
    exact ⟨y, .inl e1, e2⟩
  · obtain ⟨g2, T2, fr2, y7, e1, e2, e3, e4⟩ := h.made u (addF_old (by decide) hu)
    exact ⟨g2, T2, fr2, y7, e1, e2, .inl e3, hst g2 e2 e4⟩
  · rcases hu with hu | ⟨_, rfl⟩
    · exact absurd hu (hno u)
    · refine ⟨u7, .inl hu7, r2, ?_⟩
      rcases r5 with e | e
      · exact .inl e
      · exact .inr ⟨_, e, h.grown.size⟩
end

end Go.Proofs.YtacjnooegahidabGreatDoor
end
