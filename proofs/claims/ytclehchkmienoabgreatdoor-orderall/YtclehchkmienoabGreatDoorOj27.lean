/- Package point: the cuts; points spread over one more field. -/
import Derived.Test.YtclehchkmienoabGreatDoorOj26
set_option linter.all false
set_option maxRecDepth 100000
namespace Go.Proofs.YtclehchkmienoabGreatDoor
open Go.RowKit Go.Maps Go.Shelf Go.Sort

/-- Behind sort and compact. -/
theorem left_cuts {B : Nat} {w w1 : World} {g cap n nn q : Nat} {os : Array Obj} {ss : List Int} (hown : w1.ownsRow B 3 1 (.slice (some ⟨g, 0, none⟩) n cap) n (ss.map (.int .i64))) (hbel : Below B w w1) (hB : B ≤ w1.heap.size) (hbg : B ≤ g) (hlen : ss.length = n) :
    (putRow (Value.int .i64) (Sort.ahead (grow (putRow (Value.int .i64) (Sort.ahead w1 nn) g 0 (ss.mergeSort fun x y => decide (x ≤ y)).toArray) os) q) g 0 (Lib.compact (ss.mergeSort fun x y => decide (x ≤ y)) ++ List.replicate (n - (Lib.compact (ss.mergeSort fun x y => decide (x ≤ y))).length) 0).toArray).ownsRow B 3 1 (.slice (some ⟨g, 0, none⟩) (Lib.compact (ss.mergeSort fun x y => decide (x ≤ y))).length cap) (Lib.compact (ss.mergeSort fun x y => decide (x ≤ y))).length ((Lib.compact (ss.mergeSort fun x y => decide (x ≤ y))).map (.int .i64)) ∧
    Below B w (putRow (Value.int .i64) (Sort.ahead (grow (putRow (Value.int .i64) (Sort.ahead w1 nn) g 0 (ss.mergeSort fun x y => decide (x ≤ y)).toArray) os) q) g 0 (Lib.compact (ss.mergeSort fun x y => decide (x ≤ y)) ++ List.replicate (n - (Lib.compact (ss.mergeSort fun x y => decide (x ≤ y))).length) 0).toArray) := by
  have hl2 : (ss.mergeSort fun x y => decide (x ≤ y)).length = ss.length := List.length_mergeSort ss
  have hle := Lib.compact_length_le (ss.mergeSort fun x y => decide (x ≤ y))
  subst hlen
  rcases hown.2 with ⟨h0, _⟩ | ⟨g', cap', cur, hv, hbase, hb, h1, h2, h3, h4⟩
  · cases h0
  cases hv
  have hs := ownsRow_sortedI (n := nn) (os := os) (ts := ss.mergeSort fun x y => decide (x ≤ y)) hl2 hbase hb h1 h2 h3
  have hc := Lib.ownsRow_putRow (q := q) (k := (Lib.compact (ss.mergeSort fun x y => decide (x ≤ y))).length) (ys := Lib.compact (ss.mergeSort fun x y => decide (x ≤ y)) ++ List.replicate (ss.length - (Lib.compact (ss.mergeSort fun x y => decide (x ≤ y))).length) 0) hs (by simp; omega) (by omega)
  rw [List.take_left] at hc
  exact ⟨hc, Lib.below_putRow (hbel.grown (grownBy_sortedI _) hB (fun j hj => by cases hj; exact hbase)) hbg⟩

theorem heap_made_at (w : World) (o : Obj) {n : Nat} (h : n = w.heap.size) : (w.alloc o).heap[n]? = some o := by subst h; exact heap_made _ _
theorem heap_kept {w : World} (o : Obj) {n : Nat} {x : Obj} (h : w.heap[n]? = some x) : (w.alloc o).heap[n]? = some x := (Below.block ((Below.refl w.heap.size w).alloc (Nat.le_refl _) o) n (Array.getElem?_eq_some_iff.1 h).1).trans h
theorem start_gav (f : Int) (w : World) : GaV w.heap.size w.heap.size (w.heap.size + 1 + 1) (w.heap.size + 1 + 1 + 1) f (gathD f []) (.slice (some ⟨w.heap.size + 1, 0, none⟩) 1 1)
    ((((w.alloc (.cells #[.int .i64 f] 3)).alloc (.cells #[.int .i64 0] 3)).alloc (.cells #[.slice (some ⟨w.heap.size + 1, 0, none⟩) 1 1] 32)).alloc (.cells #[.int .i64 (most f)] 3)) := by
  refine ⟨heap_kept _ (heap_kept _ (heap_kept _ (heap_made_at _ _ rfl))), heap_made_at _ _ (by simp only [World.size_alloc]), heap_kept _ (heap_made_at _ _ (by simp only [World.size_alloc])), ?_, ?_, ?_⟩
  · exact ⟨rfl, .inr ⟨w.heap.size + 1, 1, #[.int .i64 0], rfl, by omega, heap_kept _ (heap_kept _ (heap_made_at _ _ (by simp only [World.size_alloc]))), Nat.le_refl _, by rw [maxLen_eq]; omega, rfl, rfl⟩⟩
  · intro h
    have : w.heap.size + 1 = w.heap.size := Option.some.inj h
    omega
  · intro h
    have : w.heap.size + 1 = w.heap.size + 1 + 1 + 1 := Option.some.inj h
    omega

set_option maxHeartbeats 8000000 in
theorem cutsOfD_any (B : Nat) (lv : Value) (ps : List PolT) (f : Int) (w : World) (hl : PolsAt B w lv ps) (hok : AllOk ps) (hB : B ≤ w.heap.size) (hn : ps.length ≤ 5000000000) :
    Calls Tryz.prog 20 #[lv, .int .i64 f] w fun e w' => ∃ v, e = .returned v ∧ w'.ownsRow w.heap.size 3 1 v (cutsP ps f).length ((cutsP ps f).map (.int .i64)) ∧ Below w.heap.size w w' := by
  have HE : Hid (∀ w', Below w.heap.size w w' → GaS w.heap.size w.heap.size (w.heap.size + 1 + 1) (w.heap.size + 1 + 1 + 1) f (gathD f []) w' → Calls Tryz.prog 42 #[lv, .func (.func 43) #[] #[.pointer (some ⟨w.heap.size, 0, none⟩), .pointer (some ⟨w.heap.size + 1 + 1, 0, none⟩), .pointer (some ⟨w.heap.size + 1 + 1 + 1, 0, none⟩)]] w' fun e w'' => e = .returned (.tuple #[]) ∧ GaS w.heap.size w.heap.size (w.heap.size + 1 + 1) (w.heap.size + 1 + 1 + 1) f (gathD f (polsConds ps)) w'' ∧ Below w.heap.size w' w'') :=
    fun w' hb hG => eachCond_any B w.heap.size _ _ _ lv ps f w' (hl.later hb hB) hok hB hb.size hn (by omega) hG
  have HC : Hid (Lib.compact ((gathD f (polsConds ps)).mergeSort fun x y => decide (x ≤ y)) = cutsP ps f) := gathered_cuts hok f
  have HGL : (gathD f (polsConds ps)).length ≤ 13000000000000 := by
    have h1 := gathD_len f (polsConds ps)
    have h2 := polsConds_len ps hok
    omega
  have HGP : 0 < (gathD f (polsConds ps)).length := by simp [gathD]
  obtain ⟨xs, hxs⟩ : ∃ xs, xs = gathD f (polsConds ps) := ⟨_, rfl⟩
  rw [← hxs] at HC HGL HGP
  simp only [← hxs] at HE
  clear hxs
  have HSG : Hid _ := start_gav f w
  have hb4 : Hid (∀ X Y Z U, Below w.heap.size w ((((w.alloc X).alloc Y).alloc Z).alloc U)) := fun X Y Z U => ((((Below.refl _ _).alloc (Nat.le_refl _) _).alloc (by simp) _).alloc (by simp; omega) _).alloc (by simp; omega) _
  obtain ⟨a, cap, rfl, hlc, hcm, -⟩ := hl
  generalize ps.length = len at *
  clear hok
  go_enter Tryz.func20, Tryz.ntmps20
  go_wp2_with (first
    | (go_at_call 26; go_must (refine Calls.mono (most_any f _) ?_; rintro e w1 ⟨rfl, rfl⟩)))
  refine Calls.mono (HE.out _ (hb4.out _ _ _ _) ⟨_, HSG.out⟩) ?_
  rintro e w5 ⟨rfl, ⟨vs, hG5⟩, hb5⟩
  have hbw5 : Below w.heap.size w w5 := (hb4.out _ _ _ _).trans hb5
  clear HE HSG hb4 hb5
  have hown := hG5.2.2.2.1
  rcases hown.2 with ⟨_, hz⟩ | ⟨g, cap5, cur, rfl, hgb, hgc, hncap, hcapm, hcsz, htk⟩
  · omega
  have hH := holds_of_blockI (ss := xs) hgc (by simpa [intCells] using htk)
  have hgl := lt_of_block hgc
  have hs5 := hbw5.size
  have hbox := hG5.2.2.1
  have z0 := heap_cell hbox 0 rfl
  have HOw : Hid (w5.ownsRow w.heap.size 3 1 (.slice (some ⟨g, 0, none⟩) xs.length cap5) xs.length (xs.map (.int .i64))) := hown
  have hSl : (xs.mergeSort fun x y => decide (x ≤ y)).length = xs.length := List.length_mergeSort _
  have HSrt : Hid (Calls Tryz.prog 44 #[.slice (some ⟨g, 0, none⟩) xs.length cap5] w5 fun e w' => e = .returned (.tuple #[]) ∧ ∃ n os, w' = grow (putRow (Value.int .i64) (Sort.ahead w5 n) g 0 (xs.mergeSort fun x y => decide (x ≤ y)).toArray) os) := Tryz.slices_Sort_int g 0 cap5 xs w5 hH hgl (by omega)
  have HB2 : Hid (∀ n os, Holds (Value.int .i64) (grow (putRow (Value.int .i64) (Sort.ahead w5 n) g 0 (xs.mergeSort fun x y => decide (x ≤ y)).toArray) os) g 0 (xs.mergeSort fun x y => decide (x ≤ y)).toArray ∧ (grow (putRow (Value.int .i64) (Sort.ahead w5 n) g 0 (xs.mergeSort fun x y => decide (x ≤ y)).toArray) os).cell? ⟨w.heap.size + 1 + 1, 0, none⟩ = some (.slice (some ⟨g, 0, none⟩) xs.length cap5)) := by
    intro n os
    refine ⟨holds_grow (Value.int .i64) _ os g 0 _ (by simpa [putRow, mapBlock, Sort.ahead] using hgl) (holds_putRow (Value.int .i64) _ g 0 _ _ (holds_ahead (Value.int .i64) w5 n g 0 _ hH) (by simp [hSl])), ?_⟩
    have hgr := grownBy_sortedI (w := w5) (g := g) (n := n) (os := os) (xs.mergeSort fun x y => decide (x ≤ y)).toArray
    refine heap_cell ((hgr.block (w.heap.size + 1 + 1) (lt_of_block hbox) fun e => ?_).trans hbox) 0 rfl
    have e' := Option.some.inj e
    rw [← e'] at hgc
    rw [hbox] at hgc
    cases hgc
  have HCo : Hid (∀ w6, Holds (Value.int .i64) w6 g 0 (xs.mergeSort fun x y => decide (x ≤ y)).toArray → Calls Tryz.prog 45 #[.slice (some ⟨g, 0, none⟩) xs.length cap5] w6 fun e w' => e = .returned (.slice (some ⟨g, 0, none⟩) (Lib.compact (xs.mergeSort fun x y => decide (x ≤ y))).length cap5) ∧ ∃ q, w' = putRow (Value.int .i64) (Sort.ahead w6 q) g 0 (Lib.compact (xs.mergeSort fun x y => decide (x ≤ y)) ++ List.replicate (xs.length - (Lib.compact (xs.mergeSort fun x y => decide (x ≤ y))).length) 0).toArray) := by
    intro w6 h6
    have := Tryz.slices_Compact_int g 0 cap5 (xs.mergeSort fun x y => decide (x ≤ y)) w6 h6 (by omega) (by omega)
    rw [hSl] at this
    exact this
  have HL : Hid (∀ n os q, (putRow (Value.int .i64) (Sort.ahead (grow (putRow (Value.int .i64) (Sort.ahead w5 n) g 0 (xs.mergeSort fun x y => decide (x ≤ y)).toArray) os) q) g 0 (Lib.compact (xs.mergeSort fun x y => decide (x ≤ y)) ++ List.replicate (xs.length - (Lib.compact (xs.mergeSort fun x y => decide (x ≤ y))).length) 0).toArray).ownsRow w.heap.size 3 1 (.slice (some ⟨g, 0, none⟩) (cutsP ps f).length cap5) (cutsP ps f).length ((cutsP ps f).map (.int .i64)) ∧
    Below w.heap.size w (putRow (Value.int .i64) (Sort.ahead (grow (putRow (Value.int .i64) (Sort.ahead w5 n) g 0 (xs.mergeSort fun x y => decide (x ≤ y)).toArray) os) q) g 0 (Lib.compact (xs.mergeSort fun x y => decide (x ≤ y)) ++ List.replicate (xs.length - (Lib.compact (xs.mergeSort fun x y => decide (x ≤ y))).length) 0).toArray)) := by
    intro n os q
    have := left_cuts (nn := n) (q := q) (os := os) HOw.out hbw5 hs5 hgb rfl
    rw [← HC.out]
    exact this
  have HC' : Hid ((Lib.compact (xs.mergeSort fun x y => decide (x ≤ y))).length = (cutsP ps f).length) := by unfold Hid; rw [HC.out]
  rw [HC'.out] at HCo
  clear hown hgc hcsz htk hH hG5 hbox hSl HC
  go_wp2_with fail
  go_at_call 44
  refine Calls.mono HSrt.out ?_
  rintro e w6 ⟨rfl, n6, os6, hw6⟩
  obtain ⟨hH6, z6⟩ := HB2.out n6 os6
  have HL6 : Hid _ := HL.out n6 os6
  rw [← hw6] at hH6 z6
  simp only [← hw6] at HL6
  have HH6 : Hid _ := hH6
  clear hw6 HL HB2 HSrt z0 hH6
  go_wp2_with fail
  go_at_call 45
  refine Calls.mono (HCo.out w6 HH6.out) ?_
  rintro e w7 ⟨rfl, q7, hw7⟩
  have hL7 := HL6.out q7
  rw [HC'.out] at hL7
  rw [← hw7] at hL7
  have HL7 : Hid _ := hL7
  clear hw7 HL6 hL7 HCo z6
  go_wp2_with fail
  go_ret
  exact ⟨_, rfl, HL7.out.1, HL7.out.2⟩

end Go.Proofs.YtclehchkmienoabGreatDoor
