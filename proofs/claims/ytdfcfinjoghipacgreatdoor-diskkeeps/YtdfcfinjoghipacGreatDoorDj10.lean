/- Joined: Right Free. -/
import Derived.Test.YtdfcfinjoghipacGreatDoorDj01
import Derived.Test.YtdfcfinjoghipacGreatDoorDj09
section
/- right: a right call of any numbers. -/
set_option linter.all false
namespace Go.Proofs.YtdfcfinjoghipacGreatDoor
open Go.RowKit Go.Maps

theorem tmod_neg {k n : Int} (hn : 0 < n) (h : k.tmod n < 0) : k.tmod n + n = k % n := by
  have h1 := Int.emod_nonneg k (by omega : n ≠ 0)
  have h2 := Int.emod_lt_of_pos k hn
  rw [Int.tmod_eq_emod] at h ⊢
  split at h
  · omega
  · rename_i hh; rw [if_neg hh]; omega
theorem tmod_pos {k n : Int} (hn : 0 < n) (h : 0 ≤ k.tmod n) : k.tmod n = k % n := by
  have h1 := Int.emod_nonneg k (by omega : n ≠ 0)
  have h2 := Int.emod_lt_of_pos k hn
  rw [Int.tmod_eq_emod] at h ⊢
  split at h
  · rename_i hh; rw [if_pos hh]; omega
  · omega

set_option maxHeartbeats 1000000 in
theorem at_any (k n : Int) (hn : 0 < n ∧ n ≤ 65536) (w : World) :
    Calls Tryz.prog 35 #[.int .i64 k, .int .i64 n] w fun e w' => e = .returned (.int .i64 (k % n)) ∧ w' = w := by
  have hn0 : (n == 0) = false := by simp; omega
  have hn1 : n ≠ -1 := by omega
  have h1 := Int.emod_nonneg k (by omega : n ≠ 0)
  have h2 := Int.emod_lt_of_pos k hn.1
  have H1 : Hid (0 ≤ k % n) := h1
  have H2 : Hid (k % n < n) := h2
  clear h1 h2
  go_enter Tryz.func35, Tryz.ntmps35
  go_wp2
  · have h : k.tmod n < 0 := by assumption
    go_ret
    refine ⟨?_, rfl⟩
    have e := tmod_neg hn.1 h
    have a1 := H1.out
    have a2 := H2.out
    rw [e]
    rw [IntWalk.wrap64_in _ (by omega)]
    rfl
  · have h : 0 ≤ k.tmod n := by assumption
    go_ret
    refine ⟨?_, rfl⟩
    rw [tmod_pos hn.1 h]
    rfl

theorem most_ge (n : Int) : 0 ≤ most n := by
  unfold most
  split
  · omega
  · split <;> omega
def rx (x : Nat → Int) (j : Nat) : Int := x j % (most j + 1)
def mixX (x : Nat → Int) (k j : Nat) : Int := if j < k then rx x j else x j
def cellsX (y : Nat → Int) : Array Value := #[.int .i64 (y 0), .int .i64 (y 1), .int .i64 (y 2), .int .i64 (y 3), .int .i64 (y 4)]
theorem cellsX_at {w : World} {b : Nat} {y : Nat → Int} {t : TypeId} (h : w.heap[b]? = some (.cells (cellsX y) t (0, 0))) : XAt w b y ∧ ∀ j, w.frozen? ⟨b, j, none⟩ = false := by
  refine ⟨fun j hj => ?_, fun j => by simp [World.frozen?, h]⟩
  have : j = 0 ∨ j = 1 ∨ j = 2 ∨ j = 3 ∨ j = 4 := by omega
  rcases this with rfl | rfl | rfl | rfl | rfl <;> simp [World.cell?, h, cellsX]
theorem row_setCell {w : World} {b o : Nat} {cs : Array Value} {u : Value} {t : TypeId} (h : w.heap[b]? = some (.cells cs t (0, 0))) : (w.setCell ⟨b, o, none⟩ u).heap[b]? = some (.cells (cs.setIfInBounds o u) t (0, 0)) := by
  have hlt := lt_of_block h
  have h' : w.heap[b] = .cells cs t (0, 0) := by simpa [Array.getElem?_eq_getElem hlt] using h
  show (w.heap.modify b _)[b]? = _
  rw [Array.getElem?_eq_getElem (by simpa using hlt), Array.getElem_modify_self, h']
  rfl
theorem mix_set (x : Nat → Int) (k : Nat) (hk : k < 5) : (cellsX (mixX x k)).setIfInBounds k (.int .i64 (rx x k)) = cellsX (mixX x (k + 1)) := by
  have : k = 0 ∨ k = 1 ∨ k = 2 ∨ k = 3 ∨ k = 4 := by omega
  rcases this with rfl | rfl | rfl | rfl | rfl <;> simp [cellsX, mixX]

set_option maxRecDepth 20000 in
set_option maxHeartbeats 2000000 in
theorem right_any (x : Nat → Int) (w : World) :
    Calls Tryz.prog 8 #[callV x] w fun e w' => e = .returned (callV (rx x)) ∧ Below w.heap.size w w' := by
  show Calls Tryz.prog 8 #[.agg #[.int .i64 (x 0), .int .i64 (x 1), .int .i64 (x 2), .int .i64 (x 3), .int .i64 (x 4)]] w _
  have hb2 : ∀ X Y, Below w.heap.size w ((w.alloc X).alloc Y) := fun X Y => ((Below.refl _ _).alloc (Nat.le_refl _) _).alloc (by simp) _
  go_enter Tryz.func8, Tryz.ntmps8
  go_wp2
  have hc0 : ((w.alloc (.cells #[.int .i64 (x 0), .int .i64 (x 1), .int .i64 (x 2), .int .i64 (x 3), .int .i64 (x 4)] 26)).alloc (.cells #[.int .i64 0, .int .i64 0, .int .i64 0, .int .i64 0, .int .i64 0] 26)).heap[w.heap.size]? = some (.cells (cellsX (mixX x 0)) 26 (0, 0)) := by
    rw [Below.heap_alloc _ _ _ (by simp)]
    exact (MapKept.heap_alloc w _).1
  have hc1 : ((w.alloc (.cells #[.int .i64 (x 0), .int .i64 (x 1), .int .i64 (x 2), .int .i64 (x 3), .int .i64 (x 4)] 26)).alloc (.cells #[.int .i64 0, .int .i64 0, .int .i64 0, .int .i64 0, .int .i64 0] 26)).heap[w.heap.size + 1]? = some (.cells (cellsX fun _ => 0) 26 (0, 0)) := by
    have := (MapKept.heap_alloc (w.alloc (.cells #[.int .i64 (x 0), .int .i64 (x 1), .int .i64 (x 2), .int .i64 (x 3), .int .i64 (x 4)] 26)) (.cells #[.int .i64 0, .int .i64 0, .int .i64 0, .int .i64 0, .int .i64 0] 26)).1
    rw [World.size_alloc] at this
    exact this
  have hbW := hb2 (.cells #[.int .i64 (x 0), .int .i64 (x 1), .int .i64 (x 2), .int .i64 (x 3), .int .i64 (x 4)] 26) (.cells #[.int .i64 0, .int .i64 0, .int .i64 0, .int .i64 0, .int .i64 0] 26)
  go_loopw [4] (fun i wr => ∃ k : Nat, k ≤ 5 ∧ i = .int .i64 k ∧ Below w.heap.size w wr ∧ Hid (wr.heap[w.heap.size]? = some (.cells (cellsX (mixX x k)) 26 (0, 0))) ∧ Hid (wr.heap[w.heap.size + 1]? = some (.cells (cellsX fun _ => 0) 26 (0, 0)))) (fun i _ => 5 - (intOf i).toNat)
  case atStart => exact ⟨0, by omega, rfl, hbW, hc0, hc1⟩
  case round =>
    obtain ⟨k, hk, rfl, hbr, H0, H1⟩ := hrel
    have i0 : (0 : Int) ≤ (k : Int) := by omega
    have hz := lt_of_block H1.out
    by_cases hlt : k < 5
    · have i1 : (k : Int) < 5 := by omega
      have hwf : (Lit.int .i64 (k : Int)).wf = true := WalkArith.wf_i64 (by omega)
      have hm1 : 0 ≤ most k := most_ge k
      have hm2 := most_le (k : Int)
      have hxk : mixX x k k = x k := by simp [mixX]
      go_wp2
      have hne := Later.ne wr
      have q0 : ∀ y : Later wr, y.1.cell? ⟨w.heap.size, k, none⟩ = some (.int .i64 (x k)) := fun y => y.cell (by rw [(cellsX_at H0.out).1 k hlt, hxk]) (by omega)
      have hrx : Hid (x k % (most k + 1) = rx x k) := rfl
      refine wp_region_later_last [_, _, _, _, _, _, _, _, _] _ rfl (by kernel_rfl) (by kernel_rfl) ?_
      repeat (go_big_quiet_step (first | (go_at_call 37; exact Calls.later (mostOf_any _ hwf _)) | (go_at_call 35; exact Calls.later_same (at_any _ _ (by omega) _))))
      refine wpQuiet_nil ?_
      rintro wx ⟨⟨_, hx⟩, rfl⟩
      have hbx := Below.thenOf hbr hx hbr.size
      have G0 := (hx.block w.heap.size (by omega)).trans H0.out
      have G1 := (hx.block (w.heap.size + 1) (by omega)).trans H1.out
      have t0 := (cellsX_at G0).1 k hlt
      have t1 := (cellsX_at G0).2 k
      have F0 := row_setCell (o := k) (u := .int .i64 (rx x k)) G0
      rw [mix_set x k hlt] at F0
      have F1 : (wx.setCell ⟨w.heap.size, k, none⟩ (.int .i64 (rx x k))).heap[w.heap.size + 1]? = some (.cells (cellsX fun _ => 0) 26 (0, 0)) := by rw [Below.heap_setCell _ _ _ _ (by show w.heap.size + 1 ≠ w.heap.size; omega)]; exact G1
      have F0' : Hid _ := F0
      have F1' : Hid _ := F1
      clear q0 hne G0 G1 F0 F1 hx
      unfold rx at F0' F1'
      go_wp2
      exact ⟨⟨k + 1, by omega, by go_num, hbx.setCell (p := ⟨w.heap.size, k, none⟩) (Nat.le_refl _) _, F0'.out, F1'.out⟩, by simp [intOf]; omega⟩
    · obtain rfl : k = 5 := by omega
      have e5 : ∀ j, j < 5 → mixX x 5 j = rx x j := fun j hj => by simp [mixX, hj]
      have X0 := (cellsX_at H0.out).1
      have y0 := X0 0 (by omega)
      have y1 := X0 1 (by omega)
      have y2 := X0 2 (by omega)
      have y3 := X0 3 (by omega)
      have y4 := X0 4 (by omega)
      rw [e5 _ (by omega)] at y0 y1 y2 y3 y4
      have Z0 := (cellsX_at H1.out).1
      have Z1 := (cellsX_at H1.out).2
      have z0 := Z0 0 (by omega)
      have z1 := Z0 1 (by omega)
      have z2 := Z0 2 (by omega)
      have z3 := Z0 3 (by omega)
      have z4 := Z0 4 (by omega)
      have f0 := Z1 0
      have f1 := Z1 1
      have f2 := Z1 2
      have f3 := Z1 3
      have f4 := Z1 4
      clear X0 Z0 Z1 e5
      have hbF : Below w.heap.size w (((((wr.setCell ⟨w.heap.size + 1, 0, none⟩ (.int .i64 (rx x 0))).setCell ⟨w.heap.size + 1, 1, none⟩ (.int .i64 (rx x 1))).setCell ⟨w.heap.size + 1, 2, none⟩ (.int .i64 (rx x 2))).setCell ⟨w.heap.size + 1, 3, none⟩ (.int .i64 (rx x 3))).setCell ⟨w.heap.size + 1, 4, none⟩ (.int .i64 (rx x 4))) := ((((hbr.setCell (p := ⟨w.heap.size + 1, 0, none⟩) (Nat.le_succ _) _).setCell (p := ⟨w.heap.size + 1, 1, none⟩) (Nat.le_succ _) _).setCell (p := ⟨w.heap.size + 1, 2, none⟩) (Nat.le_succ _) _).setCell (p := ⟨w.heap.size + 1, 3, none⟩) (Nat.le_succ _) _).setCell (p := ⟨w.heap.size + 1, 4, none⟩) (Nat.le_succ _) _
      have HF := row_setCell (o := 4) (u := .int .i64 (rx x 4)) (row_setCell (o := 3) (u := .int .i64 (rx x 3)) (row_setCell (o := 2) (u := .int .i64 (rx x 2)) (row_setCell (o := 1) (u := .int .i64 (rx x 1)) (row_setCell (o := 0) (u := .int .i64 (rx x 0)) H1.out))))
      have HF' : Hid ((((((wr.setCell ⟨w.heap.size + 1, 0, none⟩ (.int .i64 (rx x 0))).setCell ⟨w.heap.size + 1, 1, none⟩ (.int .i64 (rx x 1))).setCell ⟨w.heap.size + 1, 2, none⟩ (.int .i64 (rx x 2))).setCell ⟨w.heap.size + 1, 3, none⟩ (.int .i64 (rx x 3))).setCell ⟨w.heap.size + 1, 4, none⟩ (.int .i64 (rx x 4))).heap[w.heap.size + 1]? = some (.cells (cellsX (rx x)) 26 (0, 0))) := HF
      have hbF' : Hid _ := hbF
      clear HF hbF
      have hRx : Hid (rx x = rx x) := rfl
      generalize hr : rx x = r at *
      go_wp2
      have Y := (cellsX_at HF'.out).1
      have v0 := Y 0 (by omega)
      have v1 := Y 1 (by omega)
      have v2 := Y 2 (by omega)
      have v3 := Y 3 (by omega)
      have v4 := Y 4 (by omega)
      refine bodyPost_ret (v := callV r) ?_ rfl ⟨rfl, hbF'.out⟩
      rw [results_cell1 rfl]
      unfold callV
      go_simp

/-- It is a right call. -/
theorem right_ok (x : Nat → Int) : chkx (rx x) = 0 := by
  have h : ∀ j : Nat, inR j (rx x j) = true := by
    intro j
    have h1 := Int.emod_nonneg (x j) (by have := most_ge j; omega : most j + 1 ≠ 0)
    have h2 := Int.emod_lt_of_pos (x j) (by have := most_ge j; omega : 0 < most j + 1)
    unfold inR rx
    simp
    omega
  unfold chkx chk
  rw [if_pos]
  simp only [okFrom, Bool.and_eq_true]
  exact ⟨h 0, h 1, h 2, h 3, h 4, trivial⟩

end Go.Proofs.YtdfcfinjoghipacGreatDoor
end
section
/- A region that draws its order, whose writers come in whatever order: what stands behind some of them is said by one predicate of the values that they gave and of the world; the last operation waits for all. One walk of the text's order serves every order. -/
set_option linter.all false
namespace Go.Proofs.YtdfcfinjoghipacGreatDoor
open Go.RowKit

section
variable {P : Program} {ops : Array Oper} {md : Region.Mode} {J : (Nat → Value → Prop) → World → Prop} {S : Nat → Value → Prop} {ks : Nat → Bool}

/-- What an operation came to, by its value and its world. -/
def upV (P : Program) (K : Value → World → Prop) : Result Next → Prop
  | .ok (.value v) w' => K v w'
  | .ok .skip w' => K undef w'
  | .ok (.enter f args) w' => Calls P f args w' fun e w'' => ∃ v, e = .returned v ∧ K v w''
  | _ => False
theorem wp_of_upV {o : Oper} {a : Act} {w : World} {K : Value → World → Prop} {K' : Act → World → Prop} {Q : Exit → Act → World → Prop} (h : upV P K ((execOp a.eval o).run P w)) (hk : ∀ v w', K v w' → K' (a.put o.dst v) w') : o.wp P a w K' Q := by
  unfold Oper.wp
  generalize (execOp a.eval o).run P w = r at *
  cases r with
  | halt x w' => simp only [upV] at h
  | ok nx w' =>
    cases nx <;> simp only [upV] at h
    case value v => exact hk _ _ h
    case skip => exact hk _ _ h
    case enter f args => exact h.mono fun e w'' ⟨v, he, h'⟩ => by subst he; exact hk _ _ h'

def addF (fs : Nat → Value → Prop) (i : Nat) (v : Value) : Nat → Value → Prop := fun m u => fs m u ∨ (m = i ∧ u = v)
theorem addF_comm (fs : Nat → Value → Prop) (i j : Nat) (v u : Value) : addF (addF fs i v) j u = addF (addF fs j u) i v := by
  funext m x
  simp only [addF]
  exact propext ⟨by rintro ((h | h) | h) <;> simp [h], by rintro ((h | h) | h) <;> simp [h]⟩

def inJ (J : (Nat → Value → Prop) → World → Prop) (w : World) : Prop := ∃ fs, J fs w
/-- A writer's step: it is told the values of those that it waits for. -/
def YG (P : Program) (ops : Array Oper) (md : Region.Mode) (J : (Nat → Value → Prop) → World → Prop) (S : Nat → Value → Prop) (o : Oper) (k : Nat) (fs : Nat → Value → Prop) (a : Act) : Prop :=
  Region.wanted o (yielded ops a.tmps) = true ∧ ∀ fs' w, J fs' w → (∀ m v, fs m v → waitsFor md o m → fs' m v) → (∀ v, ¬ fs' k v) → upV P (fun v w' => S k v ∧ J (addF fs' k v) w') ((execOp a.eval o).run P w)
theorem YG.of_same {o : Oper} {k : Nat} {fs fs' : Nat → Value → Prop} {a a' : Act} (hy : YG P ops md J S o k fs a) (he : execOp a'.eval o = execOp a.eval o) (hw : Region.wanted o (yielded ops a'.tmps) = Region.wanted o (yielded ops a.tmps)) (hf : ∀ m v, fs m v → waitsFor md o m → fs' m v) : YG P ops md J S o k fs' a' := by
  unfold YG at *
  rw [he, hw]
  exact ⟨hy.1, fun gs w hd h hk => hy.2 gs w hd (fun m v hm hwt => h m v (hf m v hm hwt) hwt) hk⟩

def gOp (P : Program) (ops : Array Oper) (md : Region.Mode) (J : (Nat → Value → Prop) → World → Prop) (S : Nat → Value → Prop) (ks : Nat → Bool) (i : Nat) (K : (Nat → Value → Prop) → Act → Prop) (fs : Nat → Value → Prop) (a : Act) : Prop :=
  match ops[i]? with
  | none => K fs a
  | some o => if ks i then YG P ops md J S o i fs a ∧ ∀ v, S i v → K (addF fs i v) (a.put o.dst v) else ∃ v, YR P ops (inJ J) o v a ∧ K fs (a.put o.dst v)

def wpAnyG (P : Program) (md : Region.Mode) (ops : Array Oper) (J : (Nat → Value → Prop) → World → Prop) (S : Nat → Value → Prop) (ks : Nat → Bool) (n : Nat) (B : (Nat → Value → Prop) → Act → Prop) : Nat → Array Bool → (Nat → Value → Prop) → Act → Prop
  | 0, listed, fs, a => Region.ready md ops listed = [n] ∧ Region.ready md ops (listed.setIfInBounds n true) = [] ∧ B fs a
  | fuel + 1, listed, fs, a => Region.ready md ops listed ≠ [] ∧ ∀ i ∈ Region.ready md ops listed, gOp P ops md J S ks i (wpAnyG P md ops J S ks n B fuel (listed.setIfInBounds i true)) fs a

theorem wpAny_of_G {n : Nat} {B : (Nat → Value → Prop) → Act → Prop} {Q : Exit → Act → World → Prop}
    (hB : ∀ fs a w, J fs w → B fs a → wpOp P ops Q n (fun a' w' => Q .normal a' w') a w) :
    ∀ (fuel : Nat) (listed : Array Bool) (fs : Nat → Value → Prop) (a : Act) (w : World), J fs w → (∀ m v, fs m v → listed.getD m true = true) → wpAnyG P md ops J S ks n B fuel listed fs a → wpAny P md ops Q (fuel + 1) listed a w
  | 0, listed, fs, a, w, hd, hf, h => by
    obtain ⟨h1, h2, h3⟩ := h
    refine ⟨fun h0 => (by rw [h1] at h0; cases h0), fun i hi => ?_⟩
    rw [h1, List.mem_singleton] at hi
    subst hi
    have := hB fs a w hd h3
    unfold wpOp at this ⊢
    split at this
    · rename_i ho; simp only [ho]; exact ⟨h2, this⟩
    · rename_i o ho
      simp only [ho]
      split
      · rename_i hwa
        simp only [hwa, if_true] at this
        exact this.imp (Oper.wp_mono fun a' w' hq => ⟨h2, hq⟩) (fun h => h)
      · rename_i hwa
        simp only [hwa] at this
        exact ⟨h2, this⟩
  | fuel + 1, listed, fs, a, w, hd, hf, h => by
    obtain ⟨h1, h2⟩ := h
    refine ⟨fun h0 => absurd h0 h1, fun i hi => ?_⟩
    have h3 := h2 i hi
    obtain ⟨hiun, _, _, _⟩ := mem_ready.1 hi
    have hset : ∀ m, listed.getD m true = true → (listed.setIfInBounds i true).getD m true = true := fun m hm => by
      by_cases hmi : i = m
      · subst hmi
        rw [hiun] at hm
        cases hm
      · rw [getD_set_ne true hmi]; exact hm
    have hseti : (listed.setIfInBounds i true).getD i true = true := by
      rcases Nat.lt_or_ge i listed.size with h' | h'
      · simp [h']
      · simp [Array.getElem?_eq_none h']
    unfold gOp at h3
    unfold wpOp
    split
    · rename_i ho; simp only [ho] at h3; exact wpAny_of_G hB fuel _ _ _ _ hd (fun m v hm => hset m (hf m v hm)) h3
    · rename_i o ho
      simp only [ho] at h3
      split at h3
      · obtain ⟨⟨y1, y2⟩, h4⟩ := h3
        simp only [y1, if_true]
        refine .inl (wp_of_upV (y2 fs w hd (fun m v hm _ => hm) fun v hv => ?_) fun v w' ⟨k0, k1⟩ => ?_)
        · have := hf i v hv
          rw [hiun] at this
          cases this
        · refine wpAny_of_G hB fuel _ (addF fs i v) _ w' k1 (fun m u hm => ?_) (h4 v k0)
          rcases hm with hm | ⟨rfl, rfl⟩
          · exact hset m (hf m u hm)
          · exact hseti
      · obtain ⟨v, y, h4⟩ := h3
        rcases y with ⟨y1, y2⟩ | ⟨y1, rfl⟩
        · simp only [y1, if_true]
          exact .inl (wp_of_stillV (y2 w ⟨fs, hd⟩) (wpAny_of_G hB fuel _ _ _ _ hd (fun m v hm => hset m (hf m v hm)) h4))
        · simp only [y1, Bool.false_eq_true, if_false]
          exact wpAny_of_G hB fuel _ _ _ _ hd (fun m v hm => hset m (hf m v hm)) h4

theorem YR.one {D : World → Prop} {o : Oper} {v u : Value} {a : Act} (hne : ∃ w, D w) (h : YR P ops D o v a) (h' : YR P ops D o u a) : v = u := by
  obtain ⟨w, hd⟩ := hne
  rcases h with ⟨h1, h2⟩ | ⟨h1, rfl⟩
  · rcases h' with ⟨k1, k2⟩ | ⟨k1, _⟩
    · have e1 := h2 w hd
      have e2 := k2 w hd
      unfold stillV at e1 e2
      rcases e1 with e1 | ⟨e1, rfl⟩ <;> rcases e2 with e2 | ⟨e2, rfl⟩ <;> rw [e1] at e2 <;> first | (injection e2 with e3 _; injection e3) | rfl | (injection e2 with e3 _; cases e3)
    · rw [h1] at k1; cases k1
  · rcases h' with ⟨k1, _⟩ | ⟨_, rfl⟩
    · rw [h1] at k1; cases k1
    · rfl

variable {n : Nat} {B : (Nat → Value → Prop) → Act → Prop} {on : Oper}

theorem wpAnyG_read (hn : ops[n]? = some on) {i : Nat} {oi : Oper} {v : Value} (hi : ops[i]? = some oi) (hki : ks i = false) (hni : waitsFor md on i) (hsel : ∀ (j : Nat) (o : Oper) cs b, ops[j]? = some o → o.op ≠ .select cs b) :
    ∀ (fuel : Nat) (listed : Array Bool) (fs : Nat → Value → Prop) (a : Act),
      (∀ j oj, ops[j]? = some oj → j ≠ i → listed.getD j true = false → (∀ e ∈ oj.after, Region.binds md e = true → e.on ≠ i) → oi.apart ops oj = true) →
      i ∈ Region.ready md ops listed → YR P ops (inJ J) oi v a →
      wpAnyG P md ops J S ks n B fuel (listed.setIfInBounds i true) fs (a.put oi.dst v) → wpAnyG P md ops J S ks n B (fuel + 1) listed fs a := by
  intro fuel
  induction fuel with
  | zero =>
    intro listed fs a _ hr hy H
    refine ⟨fun h => (by rw [h] at hr; cases hr), fun j hj => ?_⟩
    by_cases hji : j = i
    · subst hji; unfold gOp; simp only [hi, hki]; exact ⟨v, hy, H⟩
    · have := ready_mono hj hji
      rw [H.1, List.mem_singleton] at this
      subst this
      exact (not_ready_of_waits hn hni hr hj).elim
  | succ fuel ih =>
    intro listed fs a hfree hr hy H
    refine ⟨fun h => (by rw [h] at hr; cases hr), fun j hj => ?_⟩
    by_cases hji : j = i
    · subst hji; unfold gOp; simp only [hi, hki]; exact ⟨v, hy, H⟩
    · have h1 := H.2 j (ready_mono hj hji)
      obtain ⟨hjun, oj, hoj, hall⟩ := mem_ready.1 hj
      have hnot : ∀ e ∈ oj.after, Region.binds md e = true → e.on ≠ i := fun e he hb heq => not_ready_of_waits hoj ⟨e, he, hb, heq⟩ hr hj
      obtain ⟨a1, a2, a3⟩ := Oper.apart_spec (hfree j oj hoj hji hjun hnot)
      have hfree' : ∀ k ok, ops[k]? = some ok → k ≠ i → (listed.setIfInBounds j true).getD k true = false →
          (∀ e ∈ ok.after, Region.binds md e = true → e.on ≠ i) → oi.apart ops ok = true := fun k ok hk hki hun hno => by
        refine hfree k ok hk hki ?_ hno
        by_cases hjk : j = k
        · subst hjk; exact hjun
        · rw [getD_set_ne true hjk] at hun; exact hun
      have keep : ∀ u, YR P ops (inJ J) oi v (a.put oj.dst u) := fun u => hy.of_same (execOp_put oi (fun cs b => hsel i oi cs b hi) a oj.dst u a3) (wanted_put oi a oj.dst u a3)
      have e1 := execOp_put oj (fun cs b => hsel j oj cs b hoj) a oi.dst v a1
      have e2 := wanted_put oj a oi.dst v a1
      unfold gOp at h1 ⊢
      simp only [hoj] at h1 ⊢
      split
      · rename_i hk
        simp only [hk, if_true] at h1
        obtain ⟨y, hK⟩ := h1
        refine ⟨y.of_same e1.symm e2.symm fun m u hm _ => hm, fun u hu => ih (listed.setIfInBounds j true) _ _ hfree' (ready_mono hr (Ne.symm hji)) (keep u) ?_⟩
        rw [Array.setIfInBounds_comm _ _ hji, ← Act.put_comm a v u a2]
        exact hK u hu
      · rename_i hk
        simp only [hk] at h1
        obtain ⟨u, y, hK⟩ := h1
        refine ⟨u, y.of_same e1.symm e2.symm, ih (listed.setIfInBounds j true) fs _ hfree' (ready_mono hr (Ne.symm hji)) (keep u) ?_⟩
        rw [Array.setIfInBounds_comm _ _ hji, ← Act.put_comm a v u a2]
        exact hK

theorem wpAnyG_write (hS : ∀ k, ∃ v, S k v) (hne : ∃ w, inJ J w) (hn : ops[n]? = some on) {i : Nat} {oi : Oper} (hi : ops[i]? = some oi) (hki : ks i = true) (hni : waitsFor md on i) (hsel : ∀ (j : Nat) (o : Oper) cs b, ops[j]? = some o → o.op ≠ .select cs b) :
    ∀ (fuel : Nat) (listed : Array Bool) (fs : Nat → Value → Prop) (a : Act),
      (∀ j oj, ops[j]? = some oj → j ≠ i → listed.getD j true = false → (∀ e ∈ oj.after, Region.binds md e = true → e.on ≠ i) → oi.apart ops oj = true) →
      i ∈ Region.ready md ops listed → YG P ops md J S oi i fs a →
      (∀ v, S i v → wpAnyG P md ops J S ks n B fuel (listed.setIfInBounds i true) (addF fs i v) (a.put oi.dst v)) → wpAnyG P md ops J S ks n B (fuel + 1) listed fs a := by
  intro fuel
  obtain ⟨vs, hvs⟩ := hS i
  induction fuel with
  | zero =>
    intro listed fs a _ hr hy H
    refine ⟨fun h => (by rw [h] at hr; cases hr), fun j hj => ?_⟩
    by_cases hji : j = i
    · subst hji; unfold gOp; simp only [hi, hki, if_true]; exact ⟨hy, H⟩
    · have := ready_mono hj hji
      rw [(H vs hvs).1, List.mem_singleton] at this
      subst this
      exact (not_ready_of_waits hn hni hr hj).elim
  | succ fuel ih =>
    intro listed fs a hfree hr hy H
    refine ⟨fun h => (by rw [h] at hr; cases hr), fun j hj => ?_⟩
    by_cases hji : j = i
    · subst hji; unfold gOp; simp only [hi, hki, if_true]; exact ⟨hy, H⟩
    · have h1 := fun v hv => (H v hv).2 j (ready_mono hj hji)
      obtain ⟨hjun, oj, hoj, hall⟩ := mem_ready.1 hj
      have hnot : ∀ e ∈ oj.after, Region.binds md e = true → e.on ≠ i := fun e he hb heq => not_ready_of_waits hoj ⟨e, he, hb, heq⟩ hr hj
      have hnw : ¬ waitsFor md oj i := fun ⟨e, he, hb, heq⟩ => hnot e he hb heq
      have hnw' : ¬ waitsFor md oi j := fun h => not_ready_of_waits hi h hj hr
      obtain ⟨a1, a2, a3⟩ := Oper.apart_spec (hfree j oj hoj hji hjun hnot)
      have hfree' : ∀ k ok, ops[k]? = some ok → k ≠ i → (listed.setIfInBounds j true).getD k true = false →
          (∀ e ∈ ok.after, Region.binds md e = true → e.on ≠ i) → oi.apart ops ok = true := fun k ok hk hki hun hno => by
        refine hfree k ok hk hki ?_ hno
        by_cases hjk : j = k
        · subst hjk; exact hjun
        · rw [getD_set_ne true hjk] at hun; exact hun
      have keep : ∀ u fs', (∀ m x, fs m x → waitsFor md oi m → fs' m x) → YG P ops md J S oi i fs' (a.put oj.dst u) := fun u fs' hfs => hy.of_same (execOp_put oi (fun cs b => hsel i oi cs b hi) a oj.dst u a3) (wanted_put oi a oj.dst u a3) hfs
      have e1 := fun v => execOp_put oj (fun cs b => hsel j oj cs b hoj) a oi.dst v a1
      have e2 := fun v => wanted_put oj a oi.dst v a1
      unfold gOp at h1 ⊢
      simp only [hoj] at h1 ⊢
      split
      · rename_i hk
        simp only [hk, if_true] at h1
        refine ⟨(h1 vs hvs).1.of_same (e1 vs).symm (e2 vs).symm fun m u hm hw => ?_, fun u hu => ih (listed.setIfInBounds j true) _ _ hfree' (ready_mono hr (Ne.symm hji)) (keep u _ fun m x hm _ => .inl hm) fun v hv => ?_⟩
        · rcases hm with hm | ⟨rfl, rfl⟩
          · exact hm
          · exact absurd hw hnw
        · rw [Array.setIfInBounds_comm _ _ hji, ← Act.put_comm a v u a2, addF_comm]
          exact (h1 v hv).2 u hu
      · rename_i hk
        simp only [hk] at h1
        obtain ⟨u, y, _⟩ := h1 vs hvs
        have y0 : YR P ops (inJ J) oj u a := y.of_same (e1 vs).symm (e2 vs).symm
        refine ⟨u, y0, ih (listed.setIfInBounds j true) fs _ hfree' (ready_mono hr (Ne.symm hji)) (keep u _ fun m x hm _ => hm) fun v hv => ?_⟩
        obtain ⟨u', y', hK⟩ := h1 v hv
        have := YR.one hne y0 (y'.of_same (e1 v).symm (e2 v).symm)
        subst this
        rw [Array.setIfInBounds_comm _ _ hji, ← Act.put_comm a v u a2]
        exact hK

/-! The walk of the text's order. -/
def wpG (P : Program) (ops : Array Oper) (md : Region.Mode) (J : (Nat → Value → Prop) → World → Prop) (S : Nat → Value → Prop) (ks : Nat → Bool) (B : (Nat → Value → Prop) → Act → Prop) : List Oper → Nat → (Nat → Value → Prop) → Act → Prop
  | [], _, fs, a => B fs a
  | o :: l, k, fs, a => if ks k then YG P ops md J S o k fs a ∧ ∀ v, S k v → wpG P ops md J S ks B l (k + 1) (addF fs k v) (a.put o.dst v) else ∃ v, YR P ops (inJ J) o v a ∧ wpG P ops md J S ks B l (k + 1) fs (a.put o.dst v)

theorem wpAnyG_lex (hS : ∀ k, ∃ v, S k v) (hne : ∃ w, inJ J w) (hn : ops[n]? = some on) (hsz : n = ops.size - 1) (hs : Region.noSelect ops = true) : ∀ (l : List Oper) (k : Nat) (listed : Array Bool) (fs : Nat → Value → Prop) (a : Act), (∀ j, j < l.length → l[j]? = ops[k + j]?) → k + l.length = n →
    lexT md ops (fun _ => false) l.length k listed = true → wpG P ops md J S ks B l k fs a → wpAnyG P md ops J S ks n B l.length listed fs a
  | [], k, listed, fs, a, _, hk, hB, h => by
    simp only [List.length_nil, lexT, Bool.and_eq_true, beq_iff_eq, List.isEmpty_iff] at hB
    simp at hk
    subst hk
    exact ⟨hB.1, hB.2, h⟩
  | o :: l, k, listed, fs, a, hl, hk, hB, h => by
    have h0 : ops[k]? = some o := by simpa using (hl 0 (by simp)).symm
    simp only [List.length_cons, lexT, Bool.and_eq_true] at hB
    obtain ⟨⟨⟨⟨hr, hf⟩, hwb⟩, hlast⟩, hB'⟩ := hB
    rw [← hsz, hn] at hlast
    have hni : waitsFor md on k := waitsB_spec hlast
    have hl' : ∀ j, j < l.length → l[j]? = ops[k + 1 + j]? := fun j hj => by have := hl (j + 1) (by simp; omega); simpa [Nat.add_assoc, Nat.add_comm 1 j] using this
    unfold wpG at h
    split at h
    · rename_i hkk
      obtain ⟨hy, hK⟩ := h
      exact wpAnyG_write hS hne hn h0 hkk hni (Region.noSelect_spec hs) l.length listed fs a (Region.free_spec h0 hf) (by simpa using hr) hy
        (fun v hv => wpAnyG_lex hS hne hn hsz hs l (k + 1) _ _ _ hl' (by simp at hk; omega) hB' (hK v hv))
    · rename_i hkk
      obtain ⟨v, hy, hK⟩ := h
      exact wpAnyG_read hn h0 (by simpa using hkk) hni (Region.noSelect_spec hs) l.length listed fs a (Region.free_spec h0 hf) (by simpa using hr) hy
        (wpAnyG_lex hS hne hn hsz hs l (k + 1) _ _ _ hl' (by simp at hk; omega) hB' hK)

theorem wp_region_free {id : Nat} {Q : Exit → Act → World → Prop} {a : Act} {w : World} {full : List Oper} (l : List Oper) (last : Oper) (hf : full = l ++ [last]) (ks : Nat → Bool) (J : (Nat → Value → Prop) → World → Prop) (S : Nat → Value → Prop) (hS : ∀ k, ∃ v, S k v) (hm : P.follows .mixedOrders = true) (hB : stagedB full.toArray (fun _ => false) = true) (hC : J (fun _ _ => False) w.drew)
    (h : wpG P full.toArray .any J S ks (fun fs a' => ∀ w', J fs w' → wpList P full.toArray Q [last] a' w') l 0 (fun _ _ => False) a) : (Code.region id full.toArray true).wp P Q a w := by
  subst hf
  simp only [stagedB, Bool.and_eq_true] at hB
  have hsz : (l ++ [last]).toArray.size - 1 = l.length := by simp
  have hn : (l ++ [last]).toArray[l.length]? = some last := by simp
  rw [hsz] at hB
  have h1 := wpAnyG_lex (n := l.length) (md := .any) hS ⟨_, _, hC⟩ hn hsz.symm hB.1 l 0 (Array.replicate (l ++ [last]).toArray.size false) (fun _ _ => False) a (fun j hj => by simp [List.getElem?_append_left hj]) (by simp) hB.2 h
  refine wp_region_any hm ?_
  have h2 := wpAny_of_G (Q := Q) (fun fs a w hd hb => ?_) l.length _ (fun _ _ => False) a { w with drawn := w.drawn + 1 } hC (fun m v hm => hm.elim) h1
  · simpa using h2
  · have := hb w hd
    unfold wpList at this
    unfold wpOp
    rw [hn]
    simp only []
    split at this
    · rename_i hwa; simp only [hwa, if_true]; exact this.imp (Oper.wp_mono fun a' w' hq => by simpa [wpList] using hq) (fun h => h)
    · rename_i hwa; simp only [hwa]; simpa [wpList] using this

/-! Steps of the walk. -/
theorem wpG_read {D : World → Prop} (hD : ∀ fs w, J fs w → D w) {l : List Oper} {o : Oper} {k : Nat} {fs : Nat → Value → Prop} {a : Act} (hk : ks k = false) (hp : isPlain o = true) (h : wpQuiet P ops D (fun a' => wpG P ops md J S ks B l (k + 1) fs a') [o] a) : wpG P ops md J S ks B (o :: l) k fs a := by
  unfold wpG
  rw [if_neg (by rw [hk]; exact Bool.false_ne_true)]
  unfold wpQuiet at h
  split at h
  · rename_i hw
    obtain ⟨v, h1, h2⟩ := h
    exact ⟨v, .inl ⟨hw, fun w ⟨gs, hd⟩ => stillV_of_quiet hp (h1 w (hD gs w hd))⟩, h2⟩
  · rename_i hw
    exact ⟨undef, .inr ⟨by simpa using hw, rfl⟩, h⟩
/-- A reader, its value told. -/
theorem wpG_readV {l : List Oper} {o : Oper} {k : Nat} {fs : Nat → Value → Prop} {a : Act} (v : Value) (hk : ks k = false) (hg : Region.wanted o (yielded ops a.tmps) = true) (hw : ∀ w, (execOp a.eval o).run P w = .ok (.value v) w) (h : wpG P ops md J S ks B l (k + 1) fs (a.put o.dst v)) : wpG P ops md J S ks B (o :: l) k fs a := by
  unfold wpG
  rw [if_neg (by rw [hk]; exact Bool.false_ne_true)]
  exact ⟨v, .inl ⟨hg, fun w _ => .inl (hw w)⟩, h⟩
/-- A writer that enters no function. -/
theorem wpG_write {l : List Oper} {o : Oper} {k : Nat} {fs : Nat → Value → Prop} {a : Act} (hk : ks k = true) (hg : Region.wanted o (yielded ops a.tmps) = true) (hw : ∀ gs w, J gs w → (∀ m v, fs m v → waitsFor md o m → gs m v) → (∀ v, ¬ gs k v) → ∃ v w', (execOp a.eval o).run P w = .ok (.value v) w' ∧ S k v ∧ J (addF gs k v) w') (h : ∀ v, S k v → wpG P ops md J S ks B l (k + 1) (addF fs k v) (a.put o.dst v)) : wpG P ops md J S ks B (o :: l) k fs a := by
  unfold wpG
  rw [if_pos hk]
  refine ⟨⟨hg, fun gs w hd hfs hnk => ?_⟩, h⟩
  obtain ⟨v, w', h1, h2⟩ := hw gs w hd hfs hnk
  rw [h1]
  exact h2
/-- A writer that enters a function. -/
theorem wpG_call {l : List Oper} {o : Oper} {k : Nat} {fs : Nat → Value → Prop} {a : Act} (f : FuncId) (args : Array Value) (hk : ks k = true) (hg : Region.wanted o (yielded ops a.tmps) = true) (he : ∀ w, (execOp a.eval o).run P w = .ok (.enter f args) w) (hw : ∀ gs w, J gs w → (∀ m v, fs m v → waitsFor md o m → gs m v) → (∀ v, ¬ gs k v) → Calls P f args w fun e w' => ∃ v, e = .returned v ∧ S k v ∧ J (addF gs k v) w') (h : ∀ v, S k v → wpG P ops md J S ks B l (k + 1) (addF fs k v) (a.put o.dst v)) : wpG P ops md J S ks B (o :: l) k fs a := by
  unfold wpG
  rw [if_pos hk]
  refine ⟨⟨hg, fun gs w hd hfs hnk => ?_⟩, h⟩
  rw [he w]
  exact hw gs w hd hfs hnk
/-- A writer that hands back nothing (a store). -/
theorem wpG_store {l : List Oper} {o : Oper} {k : Nat} {fs : Nat → Value → Prop} {a : Act} (hk : ks k = true) (hg : Region.wanted o (yielded ops a.tmps) = true) (hw : ∀ gs w, J gs w → (∀ m v, fs m v → waitsFor md o m → gs m v) → (∀ v, ¬ gs k v) → ∃ w', (execOp a.eval o).run P w = .ok .skip w' ∧ S k undef ∧ J (addF gs k undef) w') (h : ∀ v, S k v → wpG P ops md J S ks B l (k + 1) (addF fs k v) (a.put o.dst v)) : wpG P ops md J S ks B (o :: l) k fs a := by
  unfold wpG
  rw [if_pos hk]
  refine ⟨⟨hg, fun gs w hd hfs hnk => ?_⟩, h⟩
  obtain ⟨w', h1, h2⟩ := hw gs w hd hfs hnk
  rw [h1]
  exact h2
theorem wpG_nil {k : Nat} {fs : Nat → Value → Prop} {a : Act} (h : B fs a) : wpG P ops md J S ks B [] k fs a := h
end
end Go.Proofs.YtdfcfinjoghipacGreatDoor
end
