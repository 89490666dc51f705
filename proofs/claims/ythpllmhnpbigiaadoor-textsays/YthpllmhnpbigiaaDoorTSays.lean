/- TextSays: true, whatever the policy and the text. -/
import Derived.Test.YthpllmhnpbigiaaDoorTBack
import Derived.Test.YthpllmhnpbigiaaDoorSame3
import Derived.Test.YthpllmhnpbigiaaDoorPRB
import Derived.Test.YthpllmhnpbigiaaDoorPTx2
set_option linter.all false
set_option maxRecDepth 100000
namespace Go.Proofs.YthpllmhnpbigiaaDoor
open Go.RowKit Go.Maps

set_option maxHeartbeats 8000000 in
theorem textSays_any (B : Nat) (pv : Value) (p : PolT) (s : ByteArray) (w : World) (he : EnvT w) (hsp : Lib.TabIs Tryd.prog w "strings.asciiSpace" .u8 Lib.asciiSpaceTab) (hp : PolAt B w pv p) (hB : B ≤ w.heap.size) :
    Calls Tryd.prog 5 #[pv, .string s] w fun e w' => e = .returned (.bool true) ∧ Below w.heap.size w w' := by
  have HPp : Hid (∀ w', Below w.heap.size w w' → PolAt B w' pv p) := fun w' h => hp.later h hB
  have HE : Hid (∀ w', Below w.heap.size w w' → EnvT w') := fun w' h => he.later h
  have HTx : Hid (polErr p = 0 → ∀ w', Below w.heap.size w w' → Calls Tryd.prog 23 #[pv] w' fun e w'' => e = .returned (.string (bsB (polText p))) ∧ Below w'.heap.size w' w'') := fun hok w' h => policyText_any B pv p w' (he.later h) (tab_later hsp h) (HPp.out w' h) (Nat.le_trans hB h.size) hok
  have HTp : Hid (∀ w', Below w.heap.size w w' → Calls Tryd.prog 21 #[pv] w' fun e w'' => e = .returned (.tuple #[.string (bsB (printR p).1), .int .i64 (printR p).2]) ∧ Below w'.heap.size w' w'') := fun w' h => print_any B pv p w' (he.later h) (HPp.out w' h) (Nat.le_trans hB h.size)
  have HCk : Hid (∀ w', Below w.heap.size w w' → Calls Tryd.prog 10 #[pv] w' fun e w'' => e = .returned (.int .i64 (polErr p)) ∧ Below w'.heap.size w' w'') := fun w' h => checkPolicy_any B pv p w' (HPp.out w' h) (Nat.le_trans hB h.size)
  have HPs : Hid (∀ w', Below w.heap.size w w' → Calls Tryd.prog 22 #[.string s] w' fun e w'' => ∃ xv, e = .returned (.tuple #[xv, .int .i64 (parseR s.data.toList).2]) ∧ PolN w'.heap.size w'' xv (parseR s.data.toList).1 ∧ Below w'.heap.size w' w'') := fun w' h => parse_any s w' (HE.out w' h)
  have HRd : Hid (s.size ≤ 60000 → ∀ w', Below w.heap.size w w' → Calls Tryd.prog 25 #[.string s] w' fun e w'' => ∃ xv, e = .returned (.tuple #[xv, .int .i64 (parseR s.data.toList).2]) ∧ PolAt w''.heap.size w'' xv (parseR s.data.toList).1 ∧ Below w'.heap.size w' w'') := fun hs w' h => policyRead_any s hs w' (HE.out w' h)
  have HLg : Hid (60000 < s.size → parseR s.data.toList = (([], 0), 2)) := fun h => by
    unfold parseR
    rw [if_pos (by rw [← Lib.size_eq]; exact h)]
  have hPe : printR p = if polErr p = 0 then (polText p, 0) else ([], polErr p) := rfl
  obtain ⟨ap, capp, rfl⟩ := hp.shape
  clear hp he hsp
  generalize hnp : p.1.length = np at *
  generalize hdp : p.2 = dp at *
  clear hnp hdp
  generalize hpr : parseR s.data.toList = pr at *
  clear hpr
  obtain ⟨px, ge⟩ := pr
  simp only [] at HPs HRd
  have hml := maxLen_eq
  obtain ⟨W0, hW0⟩ : ∃ W0, W0 = w.alloc (.cells #[.slice ap np capp, .int .i64 dp] 24) := ⟨_, rfl⟩
  have hbW0 : Below w.heap.size w W0 := by rw [hW0]; exact (Below.refl _ _).alloc (Nat.le_refl _) _
  have hs0 : W0.heap.size = w.heap.size + 1 := by rw [hW0]; simp
  have hA0 : W0.heap[w.heap.size]? = some (.cells #[.slice ap np capp, .int .i64 dp] 24 (0, 0)) := by
    rw [hW0]
    exact (MapKept.heap_alloc w _).1
  have HW : Hid (∀ w', Below (w.heap.size + 1) W0 w' → (w'.cell? ⟨w.heap.size, 0, none⟩ = some (.slice ap np capp) ∧ w'.cell? ⟨w.heap.size, 1, none⟩ = some (.int .i64 dp)) ∧ Below w.heap.size w w') := fun w' h => by
    obtain ⟨c0, c1, _, _⟩ := cell_of_two ((h.block w.heap.size (by omega)).trans hA0)
    exact ⟨⟨c0, c1⟩, hbW0.trans (h.mono (by omega))⟩
  obtain ⟨⟨c0, c1⟩, _⟩ := HW.out W0 (Below.refl _ _)
  clear hA0
  obtain ⟨tx, pe, HTp', HCk', HTx', hcase⟩ : ∃ (tx : ByteArray) (pe : Int), Hid (∀ w', Below w.heap.size w w' → Calls Tryd.prog 21 #[.agg #[.slice ap np capp, .int .i64 dp]] w' fun e w'' => e = .returned (.tuple #[.string tx, .int .i64 pe]) ∧ Below w'.heap.size w' w'') ∧ Hid (∀ w', Below w.heap.size w w' → Calls Tryd.prog 10 #[.agg #[.slice ap np capp, .int .i64 dp]] w' fun e w'' => e = .returned (.int .i64 pe) ∧ Below w'.heap.size w' w'') ∧ Hid (pe = 0 → ∀ w', Below w.heap.size w w' → Calls Tryd.prog 23 #[.agg #[.slice ap np capp, .int .i64 dp]] w' fun e w'' => e = .returned (.string tx) ∧ Below w'.heap.size w' w'') ∧ (pe = 0 ∨ (pe ≠ 0 ∧ tx = ⟨#[]⟩)) := by
    by_cases hok : polErr p = 0
    · rw [if_pos hok] at hPe
      rw [hPe] at HTp
      rw [hok] at HCk
      exact ⟨_, 0, HTp, HCk, fun _ => HTx.out hok, .inl rfl⟩
    · rw [if_neg hok] at hPe
      rw [hPe] at HTp
      exact ⟨⟨#[]⟩, polErr p, HTp, HCk, fun h => absurd h hok, .inr ⟨hok, rfl⟩⟩
  clear HTp HCk HTx hPe HPp
  go_enter Tryd.func5, Tryd.ntmps5
  go_wp2_with fail
  rw [← hW0]
  clear hW0
  go_at_call 21
  refine Calls.mono (HTp'.out _ hbW0) ?_
  rintro e w1 ⟨rfl, hb1⟩
  rw [hs0] at hb1
  have hs1 : w.heap.size + 1 ≤ w1.heap.size := by have := hb1.size; omega
  obtain ⟨_, hbw1⟩ := HW.out _ hb1
  clear c0 c1
  go_wp2_with fail
  go_at_call 22
  refine Calls.mono (HPs.out _ hbw1) ?_
  rintro e w2 ⟨xv, rfl, hxn, hb2'⟩
  obtain ⟨ax, nx, capx, rfl⟩ := hxn.shape
  have hb2 := Below.thenOf hb1 hb2' hs1
  have hs2 := Nat.le_trans hs1 hb2'.size
  obtain ⟨W3, hW3⟩ : ∃ W3, W3 = w2.alloc (.cells #[.slice ax nx capx, .int .i64 px.2] 24) := ⟨_, rfl⟩
  have hb23 : Below w2.heap.size w2 W3 := by rw [hW3]; exact (Below.refl _ _).alloc (Nat.le_refl _) _
  have hx3 : W3.heap[w2.heap.size]? = some (.cells #[.slice ax nx capx, .int .i64 px.2] 24 (0, 0)) := by rw [hW3]; exact (MapKept.heap_alloc w2 _).1
  have hs23 : W3.heap.size = w2.heap.size + 1 := by rw [hW3]; simp
  have hb3 := Below.thenOf hb2 hb23 hs2
  have hs3 := Nat.le_trans hs2 hb23.size
  have HPx : Hid (∀ w', Below (w2.heap.size + 1) W3 w' → PolAt w'.heap.size w' (.agg #[.slice ax nx capx, .int .i64 px.2]) px ∧ (w'.cell? ⟨w2.heap.size, 0, none⟩ = some (.slice ax nx capx) ∧ w'.cell? ⟨w2.heap.size, 1, none⟩ = some (.int .i64 px.2)) ∧ Below (w.heap.size + 1) W0 w') := fun w' h => by
    have hw2' : Below w2.heap.size w2 w' := hb23.trans (h.mono (by omega))
    obtain ⟨y0, y1, _, _⟩ := cell_of_two ((h.block w2.heap.size (by omega)).trans hx3)
    exact ⟨(hxn.keep (fun g h1 h2 => hw2'.block g h2) hw2'.size).at, ⟨y0, y1⟩, hb3.trans (h.mono (by omega))⟩
  obtain ⟨⟨c0, c1⟩, hbw3⟩ := HW.out _ hb3
  clear hxn hx3
  generalize px.2 = xd at *
  have HW3 : Hid (w2.alloc (.cells #[.slice ax nx capx, .int .i64 xd] 24) = W3) := hW3.symm
  rw [hW3] at c0 c1
  clear hW3
  go_wp2_with fail
  rw [HW3.out]
  go_at_call 10
  refine Calls.mono (HCk'.out _ hbw3) ?_
  rintro e w4 ⟨rfl, hb4'⟩
  clear c0 c1
  rw [hs23] at hb4'
  obtain ⟨_, _, hbz4⟩ := HPx.out _ hb4'
  obtain ⟨⟨c0, c1⟩, hbw4⟩ := HW.out _ hbz4
  have hs4 : w2.heap.size + 1 ≤ w4.heap.size := by have := hb4'.size; omega
  clear hbz4
  rcases hcase with rfl | ⟨hpe, rfl⟩
  case' inl =>
    go_wp2_with fail
    go_at_call 23
    refine Calls.mono (HTx'.out (by first | exact rfl | trivial) _ hbw4) ?_
    rintro e w5 ⟨rfl, hb5'⟩
    have hb5 := Below.thenOf hb4' hb5' hs4
    have hs5 := Nat.le_trans hs4 hb5'.size
    clear hb4' hb5' hs4 hbw4
  case' inr =>
    have hpb : (pe == 0) = false := by simpa using hpe
    obtain ⟨w5, hw5⟩ : ∃ x, x = w4 := ⟨_, rfl⟩
    subst hw5
    have hb5 := hb4'
    have hs5 := hs4
    clear hb4' hs4 hbw4
  all_goals
    clear c0 c1
    obtain ⟨_, _, hbz5⟩ := HPx.out _ hb5
    obtain ⟨_, hbw5⟩ := HW.out _ hbz5
    clear hbz5
    go_wp2_with fail
    go_at_call 24
    refine Calls.mono (worded_true _ (HE.out _ hbw5)) ?_
    rintro e w6 ⟨rfl, hb6'⟩
    have hb6 := Below.thenOf hb5 hb6' hs5
    have hs6 := Nat.le_trans hs5 hb6'.size
    obtain ⟨hPA6, ⟨y0, y1⟩, hbz6⟩ := HPx.out _ hb6
    obtain ⟨_, hbw6⟩ := HW.out _ hbz6
    have hPA6' : Hid _ := hPA6
    clear hb6' hbz6 hPA6
    by_cases hlen : 60000 < s.size
    · have hl : (60000 : Int) < (s.size : Int) := by omega
      obtain ⟨rfl, rfl⟩ := Prod.mk.inj (HLg.out hlen)
      have HS : Hid (Calls Tryd.prog 14 #[.agg #[.slice ax nx capx, .int .i64 xd], .agg #[.slice none 0 0, .int .i64 0]] w6 fun e w'' => e = .returned (.bool true) ∧ Below w6.heap.size w6 w'') := by
        have := samePolicy_any w6.heap.size _ _ _ _ w6 hPA6'.out (polAt_zero _ _) (Nat.le_refl _)
        unfold Hid
        simpa using this
      go_wp2_with fail
      go_at_call 14
      refine Calls.mono HS.out ?_
      rintro e w7 ⟨rfl, hb7⟩
      have hbw7 : Below w.heap.size w w7 := Below.thenOf hbw6 hb7 hbw6.size
      go_wp2_with fail
      go_ret
      exact ⟨rfl, hbw7⟩
    · have hl : ¬ ((60000 : Int) < (s.size : Int)) := by omega
      go_wp2_with fail
      go_at_call 25
      refine Calls.mono (HRd.out (by omega) _ hbw6) ?_
      rintro e w7 ⟨zv, rfl, hzn, hb7'⟩
      obtain ⟨az, capz, rfl⟩ := hzn.shape
      have hb7 := Below.thenOf hb6 hb7' hs6
      have hs7 := Nat.le_trans hs6 hb7'.size
      obtain ⟨W8, hW8⟩ : ∃ W8, W8 = w7.alloc (.cells #[.slice az px.1.length capz, .int .i64 px.2] 24) := ⟨_, rfl⟩
      have hb78 : Below w7.heap.size w7 W8 := by rw [hW8]; exact (Below.refl _ _).alloc (Nat.le_refl _) _
      have hz8 : W8.heap[w7.heap.size]? = some (.cells #[.slice az px.1.length capz, .int .i64 px.2] 24 (0, 0)) := by rw [hW8]; exact (MapKept.heap_alloc w7 _).1
      have hb8 := Below.thenOf hb7 hb78 hs7
      have hzn8 := hzn.later hb78 (Nat.le_refl _)
      obtain ⟨hPA8, ⟨u0, u1⟩, hbz8⟩ := HPx.out _ hb8
      obtain ⟨_, hbw8⟩ := HW.out _ hbz8
      obtain ⟨z0, z1, _, _⟩ := cell_of_two hz8
      have HS : Hid (Calls Tryd.prog 14 #[.agg #[.slice ax nx capx, .int .i64 xd], .agg #[.slice az px.1.length capz, .int .i64 px.2]] W8 fun e w'' => e = .returned (.bool true) ∧ Below W8.heap.size W8 w'') := by
        have := samePolicy_any W8.heap.size _ _ _ _ W8 hPA8 (polAt_mono hzn8 hb78.size) (Nat.le_refl _)
        unfold Hid
        simpa using this
      clear hzn hzn8 hPA8 hz8 y0 y1 hbz8 hPA6'
      generalize px.1.length = nz at *
      generalize px.2 = zd at *
      have HW8 : Hid (w7.alloc (.cells #[.slice az nz capz, .int .i64 zd] 24) = W8) := hW8.symm
      rw [hW8] at u0 u1 z0 z1
      clear hW8
      go_wp2_with fail
      rw [HW8.out]
      go_at_call 14
      refine Calls.mono HS.out ?_
      rintro e w9 ⟨rfl, hb9⟩
      have hbw9 : Below w.heap.size w w9 := Below.thenOf hbw8 hb9 hbw8.size
      go_wp2_with fail
      go_ret
      exact ⟨rfl, hbw9⟩

end Go.Proofs.YthpllmhnpbigiaaDoor
