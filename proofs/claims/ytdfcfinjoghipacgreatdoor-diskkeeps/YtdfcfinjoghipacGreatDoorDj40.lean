/- Joined: DkF DkG DkH0. -/
import Derived.Test.YtdfcfinjoghipacGreatDoorDj39
section
/- Package disk: size, Check, Same. -/
set_option linter.all false
set_option maxRecDepth 100000
namespace Go.Proofs.YtdfcfinjoghipacGreatDoor
open Go.RowKit Go.Maps

theorem DiskAt.shapeS {B : Nat} {w : World} {v : Value} {d : DiskT} (h : DiskAt B w v d) : ∃ a c b k, v = .agg #[.slice a d.1.length c, .slice b d.2.length k] := by
  obtain ⟨sv, tv, rfl, ⟨a, c, rfl, _⟩, ⟨b, k, rfl, _⟩⟩ := h
  exact ⟨a, c, b, k, rfl⟩
set_option maxHeartbeats 4000000 in
theorem sizeK_any (a b : Option Addr) (n c m k : Nat) (w : World) (hsm : n + m ≤ 300000000000000) :
    Calls Tryz.prog 71 #[.agg #[.slice a n c, .slice b m k]] w fun e w' => e = .returned (.int .i64 ((n : Int) + (m : Int))) ∧ Below w.heap.size w w' := by
  have hwr : IntKind.i64.wrap ((n : Int) + (m : Int)) = (n : Int) + (m : Int) := IntWalk.i64_in _ (by omega)
  have HF : Hid (∀ X, Below w.heap.size w (w.alloc X)) := fun X => (Below.refl _ _).alloc (Nat.le_refl _) X
  clear hsm
  go_enter Tryz.func71, Tryz.ntmps71
  go_wp2_with fail
  go_ret
  exact ⟨rfl, HF.out _⟩
set_option maxHeartbeats 4000000 in
theorem checkK_any (B : Nat) (v : Value) (d : DiskT) (w : World) (he : EnvT w) (hd : DiskAt B w v d) (hB : B ≤ w.heap.size) (hsm : DSm d) :
    Calls Tryz.prog 27 #[v] w fun e w' => e = .returned (.int .i64 (diskErr d)) ∧ Below w.heap.size w w' := by
  obtain ⟨sv, tv, rfl, hs, ht⟩ := hd
  obtain ⟨s, t⟩ := d
  simp only [] at hs ht
  unfold DSm at hsm
  simp only [] at hsm
  have HDe : Hid (diskErr (s, t) = if 60000 < s.length ∨ 60000 < s.length + t.length then 2 else (linesP 40 s).2.2) := rfl
  obtain ⟨a, c, e1, -, -, -⟩ := id hs
  obtain ⟨b, c2, e2, -, -, -⟩ := id ht
  subst e1 e2
  obtain ⟨W1, hW1⟩ : ∃ W1, W1 = w.alloc (.cells #[.slice a s.length c, .slice b t.length c2] 48) := ⟨_, rfl⟩
  have hb1 : Below w.heap.size w W1 := by rw [hW1]; exact (Below.refl _ _).alloc (Nat.le_refl _) _
  have g1 : W1.heap[w.heap.size]? = some (.cells #[.slice a s.length c, .slice b t.length c2] 48 (0, 0)) := by rw [hW1]; exact heap_made _ _
  have HSz : Hid _ := sizeK_any a b s.length c t.length c2 W1 hsm
  have HRl : Hid (s.length ≤ 60000 → ∀ w', Below w.heap.size w w' → Calls Tryz.prog 74 #[.slice a s.length c, .int .i64 40] w' fun e w'' => ∃ lv, e = .returned (.tuple #[lv, .int .i64 (linesP 40 s).2.1, .int .i64 (linesP 40 s).2.2]) ∧ Below w'.heap.size w' w'') := fun h60 w' hb => (readLines_any B _ s h60 40 (by omega) w' (he.later hb) (hs.later hb hB) (Nat.le_trans hB hb.size)).mono fun e w'' ⟨lv, xs, h1, _, _, h4⟩ => ⟨lv, h1, h4⟩
  obtain ⟨n, hn⟩ : ∃ n, n = s.length := ⟨_, rfl⟩
  obtain ⟨m, hm⟩ : ∃ m, m = t.length := ⟨_, rfl⟩
  rw [← hn] at hW1 g1 HSz HRl HDe hsm ⊢
  rw [← hm] at hW1 g1 HSz HDe hsm ⊢
  obtain ⟨LN, hLN⟩ : ∃ LN, LN = (linesP 40 s).2.1 := ⟨_, rfl⟩
  obtain ⟨LE, hLE⟩ : ∃ LE, LE = (linesP 40 s).2.2 := ⟨_, rfl⟩
  rw [← hLN, ← hLE] at HRl
  rw [← hLE] at HDe
  have HW1 : Hid (W1 = _) := hW1
  have HB1 : Hid (Below w.heap.size w W1) := hb1
  have HG1 : Hid (W1.heap[w.heap.size]? = some (.cells #[.slice a n c, .slice b m c2] 48 (0, 0))) := g1
  obtain ⟨y0, y1, -, -⟩ := box_free g1
  clear hn hm hLN hLE hW1 g1 hs ht he
  go_enter Tryz.func27, Tryz.ntmps27
  go_wp2_with fail
  rw [← HW1.out]
  go_at_call 71
  refine Calls.mono HSz.out ?_
  rintro e w2 ⟨rfl, hb2⟩
  have HB2 : Hid (Below w.heap.size w w2) := Below.thenOf HB1.out hb2 HB1.out.size
  have g2 : w2.heap[w.heap.size]? = some (.cells #[.slice a n c, .slice b m c2] 48 (0, 0)) := (hb2.block _ (lt_of_block HG1.out)).trans HG1.out
  obtain ⟨q0, q1, -, -⟩ := box_free g2
  clear y0 y1 g2 hb2 hb1
  by_cases h2 : 60000 < n + m
  · have HR : Hid (diskErr (s, t) = 2) := by unfold Hid; rw [HDe.out, if_pos (.inr h2)]
    have h2' : (60000 : Int) < (n : Int) + (m : Int) := by omega
    clear h2 hsm
    go_wp2_with fail
    go_ret
    exact ⟨by rw [HR.out]; rfl, HB2.out⟩
  · have HR : Hid (diskErr (s, t) = LE) := by unfold Hid; rw [HDe.out, if_neg (by omega)]
    have h2' : ¬ ((60000 : Int) < (n : Int) + (m : Int)) := by omega
    have HRl' : Hid _ := HRl.out (by omega) w2 HB2.out
    clear h2 hsm HRl
    go_wp2_with fail
    go_at_call 74
    refine Calls.mono HRl'.out ?_
    rintro e w3 ⟨lv, rfl, hb3⟩
    have HB3 : Hid (Below w.heap.size w w3) := Below.thenOf HB2.out hb3 HB2.out.size
    clear hb3
    go_wp2_with fail
    go_ret
    exact ⟨by rw [HR.out]; rfl, HB3.out⟩

theorem bs_eq (x y : Bs) : (x == y) = decide (x = y) := by
  by_cases h : x = y
  · subst h
    simp
  · rw [decide_eq_false h]
    exact beq_false_of_ne h
set_option maxHeartbeats 4000000 in
theorem equalK_any (B : Nat) (v u : Value) (x y : Bs) (w : World) (hx : BytesAt B w v x) (hy : BytesAt B w u y) :
    Calls Tryz.prog 76 #[v, u] w fun e w' => e = .returned (.bool (decide (x = y))) ∧ w' = w := by
  have h1 := bytes_string hx
  have h2 := bytes_string hy
  obtain ⟨a, c, rfl, -, -, -⟩ := hx
  obtain ⟨b, k, rfl, -, -, -⟩ := hy
  generalize x.length = n at *
  generalize y.length = m at *
  have H1 : Hid _ := h1
  have H2 : Hid _ := h2
  clear h1 h2
  rw [← bs_eq]
  go_enter Tryz.func76, Tryz.ntmps76
  go_wp2_with fail
  rw [H1.out]
  go_wp2_with fail
  rw [H2.out]
  go_wp2_with fail
  go_ret
  exact ⟨rfl, rfl⟩
theorem equalB_any (B : Nat) (v u : Value) (x y : Bs) (w : World) (hx : BytesAt B w v x) (hy : BytesAt B w u y) (hB : B ≤ w.heap.size) :
    Calls Tryz.prog 76 #[v, u] w fun e w' => e = .returned (.bool (decide (x = y))) ∧ Below w.heap.size w w' := (equalK_any B v u x y w hx hy).mono fun e w' ⟨h1, h2⟩ => ⟨h1, by rw [h2]; exact Below.refl _ _⟩

set_option maxHeartbeats 4000000 in
theorem sameK_any (B : Nat) (v u : Value) (d e : DiskT) (w : World) (hd : DiskAt B w v d) (he : DiskAt B w u e) (hB : B ≤ w.heap.size) :
    Calls Tryz.prog 28 #[v, u] w fun r w' => r = .returned (.bool (decide (d = e))) ∧ Below w.heap.size w w' := by
  obtain ⟨s, t⟩ := d
  obtain ⟨s2, t2⟩ := e
  obtain ⟨sv, tv, rfl, hs, ht⟩ := hd
  obtain ⟨sv2, tv2, rfl, hs2, ht2⟩ := he
  simp only [] at hs ht hs2 ht2
  have H1 : Hid (∀ w', Below w.heap.size w w' → Calls Tryz.prog 76 #[sv, sv2] w' fun e w'' => e = .returned (.bool (decide (s = s2))) ∧ Below w'.heap.size w' w'') := fun w' h => equalB_any B sv sv2 s s2 w' (hs.later h hB) (hs2.later h hB) (Nat.le_trans hB h.size)
  have H2 : Hid (∀ w', Below w.heap.size w w' → Calls Tryz.prog 76 #[tv, tv2] w' fun e w'' => e = .returned (.bool (decide (t = t2))) ∧ Below w'.heap.size w' w'') := fun w' h => equalB_any B tv tv2 t t2 w' (ht.later h hB) (ht2.later h hB) (Nat.le_trans hB h.size)
  obtain ⟨a, c, e1, -⟩ := hs
  obtain ⟨a2, c2, e2, -⟩ := ht
  obtain ⟨a3, c3, e3, -⟩ := hs2
  obtain ⟨a4, c4, e4, -⟩ := ht2
  subst e1 e2 e3 e4
  have HD : Hid (decide (((s, t) : DiskT) = (s2, t2)) = (decide (s = s2) && decide (t = t2))) := by unfold Hid; simp
  obtain ⟨b1, hb1⟩ : ∃ b1, b1 = decide (s = s2) := ⟨_, rfl⟩
  obtain ⟨b2, hb2⟩ : ∃ b2, b2 = decide (t = t2) := ⟨_, rfl⟩
  rw [← hb1] at H1 HD
  rw [← hb2] at H2 HD
  clear hb1 hb2
  generalize s.length = n1 at *
  generalize t.length = n2 at *
  generalize s2.length = n3 at *
  generalize t2.length = n4 at *
  obtain ⟨W2, hW2⟩ : ∃ W2, W2 = (w.alloc (.cells #[.slice a n1 c, .slice a2 n2 c2] 48)).alloc (.cells #[.slice a3 n3 c3, .slice a4 n4 c4] 48) := ⟨_, rfl⟩
  have hbW : Below w.heap.size w W2 := by rw [hW2]; exact ((Below.refl _ _).alloc (Nat.le_refl _) _).alloc (by simp) _
  have hs2 : W2.heap.size = w.heap.size + 1 + 1 := by rw [hW2]; simp
  have g0 : W2.heap[w.heap.size]? = some (.cells #[.slice a n1 c, .slice a2 n2 c2] 48 (0, 0)) := by rw [hW2]; exact (Below.heap_alloc _ _ _ (by simp)).trans (heap_made _ _)
  have g1 : W2.heap[w.heap.size + 1]? = some (.cells #[.slice a3 n3 c3, .slice a4 n4 c4] 48 (0, 0)) := by
    have := heap_made (w.alloc (.cells #[.slice a n1 c, .slice a2 n2 c2] 48)) (.cells #[.slice a3 n3 c3, .slice a4 n4 c4] 48)
    rw [World.size_alloc] at this
    rw [hW2]
    exact this
  have HW2 : Hid (W2 = _) := hW2
  have HBW : Hid (Below w.heap.size w W2) := hbW
  clear hW2 hbW
  go_enter Tryz.func28, Tryz.ntmps28
  go_wp2_with fail
  rw [← HW2.out]
  go_at_call 76
  refine Calls.mono (H1.out W2 HBW.out) ?_
  rintro e w3 ⟨rfl, hb3⟩
  have k0 := heap_cell ((hb3.block w.heap.size (by omega)).trans g0) 1 rfl
  have k1 := heap_cell ((hb3.block (w.heap.size + 1) (by omega)).trans g1) 1 rfl
  have HB3 : Hid (Below w.heap.size w w3) := Below.thenOf HBW.out hb3 HBW.out.size
  clear hb3 g0 g1
  cases b1 with
  | false =>
    have HD' : Hid (decide (((s, t) : DiskT) = (s2, t2)) = false) := by unfold Hid; rw [HD.out]; rfl
    clear HD
    go_wp2_with fail
    go_ret
    exact ⟨by rw [HD'.out]; rfl, HB3.out⟩
  | true =>
    have HD' : Hid (decide (((s, t) : DiskT) = (s2, t2)) = b2) := by unfold Hid; rw [HD.out]; rfl
    clear HD
    go_wp2_with fail
    go_at_call 76
    refine Calls.mono (H2.out w3 HB3.out) ?_
    rintro e w4 ⟨rfl, hb4⟩
    go_wp2_with fail
    go_ret
    exact ⟨by rw [HD'.out]; rfl, Below.thenOf HB3.out hb4 HB3.out.size⟩

end Go.Proofs.YtdfcfinjoghipacGreatDoor
end
section
/- Package disk: Copy; regions whose writers make bytes. -/
set_option linter.all false
set_option maxRecDepth 100000
namespace Go.Proofs.YtdfcfinjoghipacGreatDoor
open Go.RowKit Go.Maps

theorem heapK_kept {w : World} {b : Nat} {o : Obj} (X : Obj) (h : w.heap[b]? = some o) : (w.alloc X).heap[b]? = some o := (Below.heap_alloc _ _ _ (Array.getElem?_eq_some_iff.1 h).1).trans h
theorem heapK_at (w : World) (X : Obj) {b : Nat} (h : b = w.heap.size) : (w.alloc X).heap[b]? = some X := by rw [h]; exact heap_made w X
theorem BytesNew.at {L : Nat} {w : World} {v : Value} {x : Bs} (h : BytesNew L w v x) : BytesAt w.heap.size w v x := h w (fun _ _ _ => rfl) (Nat.le_refl _)
theorem BytesNew.mono {L L' : Nat} {w : World} {v : Value} {x : Bs} (h : BytesNew L' w v x) (hL : L ≤ L') : BytesNew L w v x := fun wF h1 h2 => h wF (fun g hg hl => h1 g (Nat.le_trans hL hg) hl) h2
theorem BytesNew.later {L : Nat} {w w' : World} {v : Value} {x : Bs} (h : BytesNew L w v x) (hb : Below w.heap.size w w') : BytesNew L w' v x := fun wF h1 h2 => h wF (fun g hg hl => (h1 g hg (Nat.lt_of_lt_of_le hl hb.size)).trans (hb.block g hl)) (Nat.le_trans hb.size h2)
theorem BytesNew.keep {L k : Nat} {w w' : World} {v : Value} {x : Bs} (h : BytesNew L w v x) (hk : KeepX k w w') (hl : k < L) (hs : w'.heap.size = w.heap.size) : BytesNew L w' v x := fun wF h1 h2 => h wF (fun g hg hl' => (h1 g hg (by omega)).trans (hk g (by omega))) (by omega)
theorem BytesNew.shape {L : Nat} {w : World} {v : Value} {x : Bs} (h : BytesNew L w v x) : ∃ a c, v = .slice a x.length c := by
  obtain ⟨a, c, e, _⟩ := h.at
  exact ⟨a, c, e⟩
theorem diskNew_of {L : Nat} {w : World} {sv tv : Value} {d : DiskT} (h1 : BytesNew L w sv d.1) (h2 : BytesNew L w tv d.2) : DiskNew L w (.agg #[sv, tv]) d := fun wF k1 k2 => ⟨sv, tv, rfl, h1 wF k1 k2, h2 wF k1 k2⟩
theorem nilNew (L : Nat) (w : World) : BytesNew L w (.slice none 0 0) [] := fun wF _ _ => nilBytes _ _
theorem diskNew_zero (L : Nat) (w : World) : DiskNew L w (.agg #[.slice none 0 0, .slice none 0 0]) ([], []) := diskNew_of (d := ([], [])) (nilNew _ _) (nilNew _ _)
/-- What stands in a region whose writers F make new bytes. -/
def JB (W : World) (F : Nat → Option Bs) (fs : Nat → Value → Prop) (w : World) : Prop := Below W.heap.size W w ∧ ∀ k u x, fs k u → F k = some x → BytesNew W.heap.size w u x
def SB (F : Nat → Option Bs) (k : Nat) (v : Value) : Prop := ∃ a c, v = .slice a ((F k).getD []).length c
theorem sB_some (F : Nat → Option Bs) (k : Nat) : ∃ v, SB F k v := ⟨_, none, 0, rfl⟩
theorem JB.start (W : World) (F : Nat → Option Bs) : JB W F (fun _ _ => False) W.drew := ⟨(Below.refl _ _).drew, fun _ _ _ h => h.elim⟩
theorem JB.put {W w w' : World} {F : Nat → Option Bs} {fs : Nat → Value → Prop} {k : Nat} {v : Value} {x : Bs} (h : JB W F fs w) (hb : Below w.heap.size w w') (hF : F k = some x) (hv : BytesNew W.heap.size w' v x) : JB W F (addF fs k v) w' := by
  refine ⟨Below.thenOf h.1 hb h.1.size, fun m u y hu hy => ?_⟩
  rcases hu with hu | ⟨rfl, rfl⟩
  · exact (h.2 m u y hu hy).later hb
  · rw [hF] at hy
    cases hy
    exact hv
theorem JB.box {W w : World} {F : Nat → Option Bs} {fs : Nat → Value → Prop} (h : JB W F fs w) {b : Nat} {o : Obj} (hb : W.heap[b]? = some o) : w.heap[b]? = some o := (h.1.block b ((Array.getElem?_eq_some_iff.1 hb).1)).trans hb

set_option maxHeartbeats 4000000 in
theorem copyK_any (B : Nat) (v : Value) (d : DiskT) (w : World) (hd : DiskAt B w v d) (hB : B ≤ w.heap.size) (hsm : d.1.length ≤ 60000 ∧ d.2.length ≤ 60000) :
    Calls Tryz.prog 73 #[v] w fun e w' => ∃ v', e = .returned v' ∧ DiskNew w.heap.size w' v' d ∧ Below w.heap.size w w' := by
  obtain ⟨sv, tv, rfl, hs, ht⟩ := hd
  obtain ⟨s, t⟩ := d
  simp only [] at hs ht hsm
  obtain ⟨a, c, e1, -, -, -⟩ := id hs
  obtain ⟨b, c2, e2, -, -, -⟩ := id ht
  subst e1 e2
  obtain ⟨W, hW⟩ : ∃ W, W = (w.alloc (.cells #[.slice a s.length c, .slice b t.length c2] 48)).alloc (.cells #[.slice none 0 0, .slice none 0 0] 48) := ⟨_, rfl⟩
  have hb0 : Below w.heap.size w W := by rw [hW]; exact ((Below.refl _ _).alloc (Nat.le_refl _) _).alloc (by simp) _
  have g0 : W.heap[w.heap.size]? = some (.cells #[.slice a s.length c, .slice b t.length c2] 48 (0, 0)) := by
    rw [hW]
    exact heapK_kept _ (heapK_at _ _ rfl)
  have g1 : W.heap[w.heap.size + 1]? = some (.cells #[.slice none 0 0, .slice none 0 0] 48 (0, 0)) := by
    rw [hW]
    exact heapK_at _ _ (by simp only [World.size_alloc])
  have hsW : W.heap.size = w.heap.size + 1 + 1 := by rw [hW]; simp
  have HJs : Hid (∀ w', Below W.heap.size W w' → Calls Tryz.prog 72 #[.slice a s.length c, .slice none 0 0] w' fun e w'' => ∃ v, e = .returned v ∧ BytesNew w'.heap.size w'' v s ∧ Below w'.heap.size w' w'') := fun w' hb => by
    have hbw := Below.thenOf hb0 hb hb0.size
    have := joinK_any B _ _ s [] w' (hs.later hbw hB) (nilBytes B w') (Nat.le_trans hB hbw.size) (by simp; omega)
    rw [List.append_nil] at this
    exact this.mono fun e w'' ⟨v, h1, _, h3, h4⟩ => ⟨v, h1, h3, h4⟩
  have HJt : Hid (∀ w', Below W.heap.size W w' → Calls Tryz.prog 72 #[.slice b t.length c2, .slice none 0 0] w' fun e w'' => ∃ v, e = .returned v ∧ BytesNew w'.heap.size w'' v t ∧ Below w'.heap.size w' w'') := fun w' hb => by
    have hbw := Below.thenOf hb0 hb hb0.size
    have := joinK_any B _ _ t [] w' (ht.later hbw hB) (nilBytes B w') (Nat.le_trans hB hbw.size) (by simp; omega)
    rw [List.append_nil] at this
    exact this.mono fun e w'' ⟨v, h1, _, h3, h4⟩ => ⟨v, h1, h3, h4⟩
  obtain ⟨n, hn⟩ : ∃ n, n = s.length := ⟨_, rfl⟩
  obtain ⟨m, hm⟩ : ∃ m, m = t.length := ⟨_, rfl⟩
  rw [← hn] at hW g0 HJs ⊢
  rw [← hm] at hW g0 HJt ⊢
  obtain ⟨y0, y1, -, -⟩ := box_free g0
  have HW : Hid (W = _) := hW
  have Hb0 : Hid (Below w.heap.size w W) := hb0
  have Hg0 : Hid (W.heap[w.heap.size]? = some (.cells #[.slice a n c, .slice b m c2] 48 (0, 0))) := g0
  have Hg1 : Hid (W.heap[w.heap.size + 1]? = some (.cells #[.slice none 0 0, .slice none 0 0] 48 (0, 0))) := g1
  have HsW : Hid (W.heap.size = w.heap.size + 1 + 1) := hsW
  have q0 : ∀ z : RdW w.heap.size (.slice a n c) (.slice b m c2), z.1.cell? ⟨w.heap.size, 0, none⟩ = some (.slice a n c) := fun z => z.2.1
  have q1 : ∀ z : RdW w.heap.size (.slice a n c) (.slice b m c2), z.1.cell? ⟨w.heap.size, 1, none⟩ = some (.slice b m c2) := fun z => z.2.2
  have hne : Nonempty (RdW w.heap.size (.slice a n c) (.slice b m c2)) := ⟨⟨W, y0, y1⟩⟩
  obtain ⟨F, hF⟩ : ∃ F : Nat → Option Bs, F = fun k => if k = 2 then some s else if k = 5 then some t else none := ⟨_, rfl⟩
  have F2 : Hid (F 2 = some s) := by unfold Hid; rw [hF]; rfl
  have F5 : Hid (F 5 = some t) := by unfold Hid; rw [hF]; rfl
  have hDJ : Hid (∀ fs w', JB W F fs w' → ∃ z : RdW w.heap.size (.slice a n c) (.slice b m c2), w' = z.1) := fun fs w' h => ⟨⟨w', heap_cell (h.box Hg0.out) 0 rfl, heap_cell (h.box Hg0.out) 1 rfl⟩, rfl⟩
  clear hn hm hF hW hb0 g0 g1 hsW hs ht hsm y0 y1
  go_enter Tryz.func73, Tryz.ntmps73
  go_wp2_with fail
  rw [← HW.out]
  refine wp_region_free [_, _, _, _, _, _, _] _ rfl (fun k => k == 2 || k == 5) (JB W F) (SB F) (sB_some F) (by kernel_rfl) (by kernel_rfl) (JB.start W F) ?_
  iterate 2 (refine wpG_read hDJ.out rfl rfl ?_; go_big_quiet_step (fail); refine wpQuiet_nil ?_)
  refine wpG_call 72 #[.slice a n c, .slice none 0 0] rfl rfl (fun w' => by kernel_rfl) (fun gs w' hJ hdep hno => ?_) (fun v2 hv2 => ?_)
  · refine (HJs.out w' hJ.1).mono ?_
    rintro e w3 ⟨u, rfl, hnew, hb⟩
    have := hJ.put hb F2.out (hnew.mono hJ.1.size)
    obtain ⟨a', c', eu⟩ := hnew.shape
    exact ⟨_, rfl, ⟨a', c', by rw [F2.out]; exact eu⟩, this⟩
  simp only [Act.put, List.setIfInBounds_toArray, List.set_cons_succ, List.set_cons_zero]
  obtain ⟨a2, c3, e2⟩ := hv2
  rw [F2.out] at e2
  subst e2
  iterate 2 (refine wpG_read hDJ.out rfl rfl ?_; go_big_quiet_step (fail); refine wpQuiet_nil ?_)
  refine wpG_call 72 #[.slice b m c2, .slice none 0 0] rfl rfl (fun w' => by kernel_rfl) (fun gs w' hJ hdep hno => ?_) (fun v5 hv5 => ?_)
  · refine (HJt.out w' hJ.1).mono ?_
    rintro e w3 ⟨u, rfl, hnew, hb⟩
    have := hJ.put hb F5.out (hnew.mono hJ.1.size)
    obtain ⟨a', c', eu⟩ := hnew.shape
    exact ⟨_, rfl, ⟨a', c', by rw [F5.out]; exact eu⟩, this⟩
  simp only [Act.put, List.setIfInBounds_toArray, List.set_cons_succ, List.set_cons_zero]
  obtain ⟨a5, c5, e5⟩ := hv5
  rw [F5.out] at e5
  subst e5
  refine wpG_read hDJ.out rfl rfl ?_; go_big_quiet_step (fail); refine wpQuiet_nil ?_
  refine wpG_nil ?_
  intro w4 hJ
  have hg1 := hJ.box Hg1.out
  obtain ⟨z0, z1, f0, f1⟩ := box_free hg1
  have H2 := hJ.2 2 _ s (.inl (.inr ⟨rfl, rfl⟩)) F2.out
  have H5 := hJ.2 5 _ t (.inr ⟨rfl, rfl⟩) F5.out
  obtain ⟨k0, k1, k2⟩ := box_put (u := .slice a2 ((some s).getD []).length c3) (v := .slice a5 ((some t).getD []).length c5) hg1
  have HFin : Hid (DiskNew w.heap.size ((w4.setCell ⟨w.heap.size + 1, 0, none⟩ (.slice a2 ((some s).getD []).length c3)).setCell ⟨w.heap.size + 1, 1, none⟩ (.slice a5 ((some t).getD []).length c5)) (.agg #[.slice a2 ((some s).getD []).length c3, .slice a5 ((some t).getD []).length c5]) (s, t) ∧ Below w.heap.size w ((w4.setCell ⟨w.heap.size + 1, 0, none⟩ (.slice a2 ((some s).getD []).length c3)).setCell ⟨w.heap.size + 1, 1, none⟩ (.slice a5 ((some t).getD []).length c5))) := by
    have hsW := HsW.out
    refine ⟨diskNew_of ((H2.keep k1 (by omega) k2).mono (by omega)) ((H5.keep k1 (by omega) k2).mono (by omega)), ?_⟩
    exact ((Below.thenOf Hb0.out hJ.1 Hb0.out.size).setCell (p := ⟨w.heap.size + 1, 0, none⟩) (by show w.heap.size ≤ w.heap.size + 1; omega) _).setCell (p := ⟨w.heap.size + 1, 1, none⟩) (by show w.heap.size ≤ w.heap.size + 1; omega) _
  clear hJ hg1 H2 H5 k0 k1 k2 q0 q1 hne hDJ
  go_wp2_with fail
  refine bodyPost_ret (v := .agg #[.slice a2 ((some s).getD []).length c3, .slice a5 ((some t).getD []).length c5]) ?_ rfl ⟨_, rfl, HFin.out.1, HFin.out.2⟩
  rw [results_cell1 rfl]
  go_simp
end Go.Proofs.YtdfcfinjoghipacGreatDoor
end
section
/- Regions that make things and store a disk last. -/
set_option linter.all false
set_option maxRecDepth 100000
namespace Go.Proofs.YtdfcfinjoghipacGreatDoor
open Go.RowKit Go.Maps

theorem DiskNew.mono {L L' : Nat} {w : World} {v : Value} {d : DiskT} (h : DiskNew L' w v d) (hL : L ≤ L') : DiskNew L w v d := fun wF h1 h2 => h wF (fun g hg hl => h1 g (Nat.le_trans hL hg) hl) h2
theorem DiskNew.later {L : Nat} {w w' : World} {v : Value} {d : DiskT} (h : DiskNew L w v d) (hb : Below w.heap.size w w') : DiskNew L w' v d := fun wF h1 h2 => h wF (fun g hg hl => (h1 g hg (Nat.lt_of_lt_of_le hl hb.size)).trans (hb.block g hl)) (Nat.le_trans hb.size h2)
theorem DiskNew.keep {L k : Nat} {w w' : World} {v : Value} {d : DiskT} (h : DiskNew L w v d) (hk : KeepX k w w') (hl : k < L) (hs : w'.heap.size = w.heap.size) : DiskNew L w' v d := fun wF h1 h2 => h wF (fun g hg hl' => (h1 g hg (by omega)).trans (hk g (by omega))) (by omega)
theorem below_disk {L : Nat} {w w1 : World} {p : Nat} (h : Below L w w1) (hp : L ≤ p) (x0 x1 : Value) : Below L w ((w1.setCell ⟨p, 0, none⟩ x0).setCell ⟨p, 1, none⟩ x1) := (h.setCell (p := ⟨p, 0, none⟩) hp _).setCell (p := ⟨p, 1, none⟩) hp _

/-- What stands behind the writers: of each what G says of it. -/
def JG (W : World) (G : Nat → World → Value → Prop) (fs : Nat → Value → Prop) (w : World) : Prop := Below W.heap.size W w ∧ ∀ k u, fs k u → G k w u
/-- And a disk is stored into the box bo last (operation st). -/
def JD (bo st : Nat) (ws : List Nat) (W : World) (G : Nat → World → Value → Prop) (R : Value → Value → World → Prop) (fs : Nat → Value → Prop) (w : World) : Prop :=
  ((∀ u, ¬ fs st u) ∧ JG W G fs w) ∨ ((∃ u, fs st u) ∧ (∀ k, k ∈ ws → ∃ u, fs k u) ∧ ∃ w0 p q, w = (w0.setCell ⟨bo, 0, none⟩ p).setCell ⟨bo, 1, none⟩ q ∧ Below W.heap.size W w0 ∧ R p q w0)
section
variable {bo st : Nat} {ws : List Nat} {W w w' : World} {G : Nat → World → Value → Prop} {R : Value → Value → World → Prop} {fs : Nat → Value → Prop}
theorem JD.start (bo st : Nat) (ws : List Nat) (W : World) (G : Nat → World → Value → Prop) (R : Value → Value → World → Prop) : JD bo st ws W G R (fun _ _ => False) W.drew := .inl ⟨fun _ h => h, (Below.refl _ _).drew, fun _ _ h => h.elim⟩
theorem JD.ahead (h : JD bo st ws W G R fs w) {k : Nat} (hk : k = st ∨ k ∈ ws) (hno : ∀ v, ¬ fs k v) : (∀ u, ¬ fs st u) ∧ JG W G fs w := by
  rcases h with h | ⟨⟨u, hu⟩, h1, _⟩
  · exact h
  · rcases hk with rfl | hk
    · exact absurd hu (hno _)
    · obtain ⟨u', hu'⟩ := h1 k hk
      exact absurd hu' (hno _)
theorem JD.put (h : JD bo st ws W G R fs w) (hm : ∀ k u w w', Below w.heap.size w w' → G k w u → G k w' u) {k : Nat} (hk : k ∈ ws) (hne : st ≠ k) (hno : ∀ v, ¬ fs k v) {v : Value} (hb : Below w.heap.size w w') (hv : G k w' v) : JD bo st ws W G R (addF fs k v) w' := by
  obtain ⟨h1, h2, h3⟩ := h.ahead (.inr hk) hno
  refine .inl ⟨fun u hu => ?_, Below.thenOf h2 hb h2.size, fun m u hu => ?_⟩
  · rcases hu with hu | ⟨e, _⟩
    · exact h1 u hu
    · exact hne e
  · rcases hu with hu | ⟨rfl, rfl⟩
    · exact hm m u w w' hb (h3 m u hu)
    · exact hv
theorem JD.store (h : JD bo st ws W G R fs w) (hno : ∀ v, ¬ fs st v) (hall : ∀ k, k ∈ ws → ∃ u, fs k u) {p q : Value} (hR : R p q w) : JD bo st ws W G R (addF fs st undef) ((w.setCell ⟨bo, 0, none⟩ p).setCell ⟨bo, 1, none⟩ q) := by
  obtain ⟨h1, h2, h3⟩ := h.ahead (.inl rfl) hno
  refine .inr ⟨⟨undef, .inr ⟨rfl, rfl⟩⟩, fun k hk => ?_, w, p, q, rfl, h2, hR⟩
  obtain ⟨u, hu⟩ := hall k hk
  exact ⟨u, .inl hu⟩
theorem JD.box (h : JD bo st ws W G R fs w) {b : Nat} {o : Obj} (hb : W.heap[b]? = some o) (hne : b ≠ bo) : w.heap[b]? = some o := by
  have hl := (Array.getElem?_eq_some_iff.1 hb).1
  rcases h with ⟨_, h2, _⟩ | ⟨_, _, w0, p, q, rfl, h2, _⟩
  · exact (h2.block b hl).trans hb
  · exact ((Below.heap_setCell _ _ _ _ hne).trans (Below.heap_setCell _ _ _ _ hne)).trans ((h2.block b hl).trans hb)
theorem JD.done (h : JD bo st ws W G R fs w) {u : Value} (hu : fs st u) : ∃ w0 p q, w = (w0.setCell ⟨bo, 0, none⟩ p).setCell ⟨bo, 1, none⟩ q ∧ Below W.heap.size W w0 ∧ R p q w0 := by
  rcases h with ⟨h1, _⟩ | ⟨_, _, h⟩
  · exact absurd hu (h1 _)
  · exact h
end
end Go.Proofs.YtdfcfinjoghipacGreatDoor
end
