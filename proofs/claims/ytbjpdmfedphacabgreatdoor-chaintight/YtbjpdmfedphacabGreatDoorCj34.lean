/- Joined: Chn5 Chn1. -/
import Derived.Test.YtbjpdmfedphacabGreatDoorCj32
import Derived.Test.YtbjpdmfedphacabGreatDoorCj33
import Derived.Test.YtbjpdmfedphacabGreatDoorCj25
import Derived.Test.YtbjpdmfedphacabGreatDoorCj18
section
/- The counterpart's Tightened: one filter more, behind all. -/
set_option linter.all false
set_option maxRecDepth 100000
namespace Go.Proofs.YtbjpdmfedphacabGreatDoor
open Go.RowKit Go.Maps

set_option maxHeartbeats 8000000 in
theorem tightened_any (B : Nat) (lv pv qv : Value) (ls : ChT) (p q : PolT) (w : World) (hl : ChsAt B w lv ls) (hp : PolAt B w pv p) (hq : PolAt B w qv q) (hB : B ≤ w.heap.size) :
    Calls Tryz.prog 40 #[lv, pv, qv] w fun e w' => ∃ v, e = .returned (.tuple #[v, .int .i64 (tightE ls p q)]) ∧ ChsAt w'.heap.size w' v (tightR ls p q) ∧ Below w.heap.size w w' := by
  have HL : Hid (∀ w', Below w.heap.size w w' → ChsAt B w' lv ls) := fun w' h => hl.later h hB
  have HC : Hid (∀ w', Below w.heap.size w w' → Calls Tryz.prog 38 #[lv] w' fun e w'' => e = .returned (.int .i64 (chainErr ls)) ∧ Below w'.heap.size w' w'') := fun w' h => checkChain_any B lv ls w' (hl.later h hB) (Nat.le_trans hB h.size)
  have HD : Hid (∀ w', Below w.heap.size w w' → Calls Tryz.prog 39 #[pv, qv] w' fun e w'' => ∃ v, e = .returned (.tuple #[v, .int .i64 (deltaE p q)]) ∧ PolAt w''.heap.size w'' v (deltaR p q) ∧ Below w'.heap.size w' w'') := fun w' h => deltaOf_any B pv qv p q w' (hp.later h hB) (hq.later h hB) (Nat.le_trans hB h.size)
  have HTE : Hid (tightE ls p q = if chainErr ls = 0 then (if deltaE p q = 0 then (if ls.length = 6 then 2 else compE (deltaR p q)) else deltaE p q) else chainErr ls) := rfl
  have HTR : Hid (tightR ls p q = if tightE ls p q = 0 then ls ++ [polI (deltaR p q)] else []) := rfl
  have HCl : Hid (chainErr ls = 0 → ls.length ≤ 6) := fun h => (chainErr_ok.1 h).1
  obtain ⟨la, lcap, rfl, hlc, hlm, -⟩ := hl
  obtain ⟨rs, d⟩ := p
  obtain ⟨ss, f⟩ := q
  obtain ⟨rv, rfl, -, a, cap, rfl, -⟩ := hp
  obtain ⟨sv, rfl, -, b, cap2, rfl, -⟩ := hq
  simp only at HC HD
  have hml := maxLen_eq
  obtain ⟨ln, hln⟩ : ∃ n, n = ls.length := ⟨_, rfl⟩
  have hlnH : Hid (ls.length = ln) := hln.symm
  rw [← hln] at HL HC HTE HCl hlc ⊢
  clear hln
  generalize chainErr ls = ce at *
  generalize deltaE (rs, d) (ss, f) = de at *
  generalize deltaR (rs, d) (ss, f) = dr at *
  generalize tightE ls (rs, d) (ss, f) = te at *
  generalize tightR ls (rs, d) (ss, f) = tr at *
  generalize rs.length = n1 at *
  generalize ss.length = n2 at *
  obtain ⟨W2, hW2⟩ : ∃ W2, W2 = (w.alloc (.cells #[.slice a n1 cap, .int .i64 d] 38)).alloc (.cells #[.slice b n2 cap2, .int .i64 f] 38) := ⟨_, rfl⟩
  have hs2 : W2.heap.size = w.heap.size + 1 + 1 := by rw [hW2]; simp
  have hb2 : Below w.heap.size w W2 := by rw [hW2]; exact ((Below.refl _ _).alloc (Nat.le_refl _) _).alloc (by simp) _
  have g0 : W2.heap[w.heap.size]? = some (.cells #[.slice a n1 cap, .int .i64 d] 38 (0, 0)) := by
    rw [hW2]
    exact heap_kept' _ (heap_at _ _ rfl)
  have g1 : W2.heap[w.heap.size + 1]? = some (.cells #[.slice b n2 cap2, .int .i64 f] 38 (0, 0)) := by
    rw [hW2]
    exact heap_at _ _ (by simp only [World.size_alloc])
  have HG : Hid (∀ w', Below W2.heap.size W2 w' → w'.heap[w.heap.size]? = some (.cells #[.slice a n1 cap, .int .i64 d] 38 (0, 0)) ∧ w'.heap[w.heap.size + 1]? = some (.cells #[.slice b n2 cap2, .int .i64 f] 38 (0, 0))) := fun w' h => ⟨(h.block _ (by omega)).trans g0, (h.block _ (by omega)).trans g1⟩
  have HW : Hid (W2 = _) := hW2
  clear hW2 g0 g1
  go_enter Tryz.func40, Tryz.ntmps40
  go_wp2_with fail
  rw [← HW.out]
  go_at_call 38
  refine Calls.mono (HC.out _ hb2) ?_
  rintro e w3 ⟨rfl, hb3⟩
  have hs3 := hb3.size
  have hb3w : Below w.heap.size w w3 := Below.thenOf hb2 hb3 hb2.size
  clear HC
  by_cases hc : ce = 0
  · subst hc
    have hl6 := HCl.out rfl
    obtain ⟨g0, g1⟩ := HG.out w3 hb3
    have y0 := heap_cell g0 0 rfl
    have y1 := heap_cell g0 1 rfl
    have x0 := heap_cell g1 0 rfl
    have x1 := heap_cell g1 1 rfl
    have HTE' : Hid (te = if de = 0 then (if ln = 6 then 2 else compE dr) else de) := by unfold Hid; rw [HTE.out, if_pos rfl]
    clear g0 g1 HTE HCl
    go_wp2_with fail
    go_at_call 39
    refine Calls.mono (HD.out _ hb3w) ?_
    rintro e w4 ⟨dv, rfl, hpd, hb4⟩
    have hb4w : Below w.heap.size w w4 := Below.thenOf hb3w hb4 hb3w.size
    have hb4a : ∀ X, Below w4.heap.size w4 (w4.alloc X) := fun X => (Below.refl _ _).alloc (Nat.le_refl _) X
    have HFi : Hid (∀ X, Calls Tryz.prog 94 #[dv] (w4.alloc X) fun e w' => ∃ fv, e = .returned (.tuple #[fv, .int .i64 (compE dr)]) ∧ w'.ownsRow (w4.alloc X).heap.size 120 4 fv (compL dr).length (insCells (compL dr)) ∧ (∀ i ∈ compL dr, insWf i) ∧ Below (w4.alloc X).heap.size (w4.alloc X) w') := fun X => filter_any w4.heap.size dv dr (w4.alloc X) (hpd.later (hb4a X) (Nat.le_refl _)) (hb4a X).size
    have HCL : Hid (compE dr = 0 → compL dr = polI dr) := fun h => by rw [compL, if_pos h]
    obtain ⟨ms, md⟩ := dr
    obtain ⟨rv, rfl, -, a4, c4, rfl, -⟩ := hpd
    simp only at HFi
    generalize ms.length = n4 at *
    have HB4 : Hid _ := hb4w
    clear hb4 hb4w hb3w hb3 y0 y1 x0 x1 HD
    by_cases hd : de = 0
    · subst hd
      by_cases h6 : ln = 6
      · subst h6
        have HR : Hid (te = 2 ∧ tr = []) := by
          have e : te = 2 := by rw [HTE'.out]; rfl
          exact ⟨e, by rw [HTR.out, if_neg (by rw [e]; decide)]⟩
        clear HTE' HTR HFi
        go_wp2_with fail
        go_ret2
        exact ⟨_, by rw [HR.out.1]; rfl, by rw [HR.out.2]; exact chsAt_nil _ _, HB4.out.alloc HB4.out.size _⟩
      · have h6' : ¬ (ln : Int) = 6 := by omega
        have hq6 : ((ln : Int) == 6) = false := by simpa using h6'
        have HTE2 : Hid (te = compE (ms, md)) := by unfold Hid; rw [HTE'.out, if_pos rfl, if_neg h6]
        clear HTE' h6
        go_wp2_with fail
        go_at_call 94
        refine Calls.mono (HFi.out _) ?_
        rintro e w5 ⟨fv, rfl, hof, hwf, hb5⟩
        by_cases hcp : compE (ms, md) = 0
        · have HR : Hid (te = 0 ∧ tr = ls ++ [polI (ms, md)]) := by
            have e : te = 0 := by rw [HTE2.out, hcp]
            exact ⟨e, by rw [HTR.out, if_pos e]⟩
          rw [HCL.out hcp] at hof hwf
          rw [hcp]
          clear hcp HTE2 HTR HCL HFi
          have hiv : InssAt w5.heap.size w5 fv (polI (ms, md)) := inssAt_own hof hwf
          obtain ⟨fa, fc, rfl, -, -⟩ := ownsRow_caps hof
          have hb5w : Below w.heap.size w w5 := Below.thenOf (HB4.out.alloc HB4.out.size _) hb5 (by simp; have := HB4.out.size; omega)
          have hs5 := hb5w.size
          obtain ⟨xs, hxs, hxc⟩ := chs_values (HL.out _ hb5w)
          have hxl : xs.length = ln := by rw [hxs.1, hlnH.out]
          obtain ⟨W6, hW6⟩ : ∃ W6, W6 = w5.alloc (.cells #[] 63) := ⟨_, rfl⟩
          have hb6 : Below w5.heap.size w5 W6 := by rw [hW6]; exact (Below.refl _ _).alloc (Nat.le_refl _) _
          have ho6 : W6.ownsRow w5.heap.size 63 1 (.slice (some ⟨w5.heap.size, 0, none⟩) 0 0) 0 [] := by
            rw [hW6]
            exact ⟨rfl, .inr ⟨w5.heap.size, 0, #[], rfl, Nat.le_refl _, heap_made w5 _, Nat.le_refl _, Nat.zero_le _, rfl, rfl⟩⟩
          obtain ⟨v7, w7, hr7, ho7, hb7⟩ := run_append_chs w5.heap.size 54 _ 0 [] la ln lcap xs W6 ho6 hxl (fun j u hj => by
            obtain ⟨b, o, e, hb, hc⟩ := hxc j u hj
            exact ⟨b, o, e, (hb6.cell (p := ⟨b, o + j, none⟩) (by show b < w5.heap.size; omega)).trans hc⟩) hxs.slices (by omega) hb6.size
          have hb57 : Below w5.heap.size w5 w7 := hb6.trans hb7
          have HW6 : Hid (W6 = _) := hW6
          obtain ⟨inf, hi1, hi2, hi3, hi4⟩ := infoFil
          have HF : Hid (FvsAt B w5 xs ls ∧ InssAt w5.heap.size w5 (.slice fa (polI (ms, md)).length fc) (polI (ms, md))) := ⟨hxs, hiv⟩
          have hn7 : (0 + ln + 1) * 24 ≤ 140737488355328 := by omega
          have hm7 : 0 + ln + 1 ≤ maxLen := by omega
          have HB7 : Hid _ := hb57
          have HBw5 : Hid _ := hb5w
          clear hof hwf hiv hxs hxc hW6 hb6 ho6 hb5 hb7 hb57 hb5w
          generalize (polI (ms, md)).length = fl at *
          go_wp2_with (first | (at_builtin; go_must (first | (rw [← HW6.out]; refine Lib.wpList_append_run _ rfl _ _ _ _ rfl _ _ rfl rfl _ _ hr7 ?_) | (refine wpList_appG _ rfl _ _ rfl Tryz.underlying54 hi1 hi2 hi3 hi4 rfl (by decide) w5.heap.size _ _ _ rfl _ 1 [.slice fa fl fc] rfl _ rfl (by simp) w7 (Below.refl _ _) ho7 rfl (by intro u hu; simp at hu; subst hu; rfl) hm7 hn7 HB7.out.size ?_; intro v8 w8 ho8 hb8 hg8))))
          have hb8w : Below w5.heap.size w5 w8 := HB7.out.trans hb8
          have e8 : (ls ++ [polI (ms, md)]).length = 0 + ln + 1 := by simp [hlnH.out]
          have hch : ChsAt w8.heap.size w8 v8 (ls ++ [polI (ms, md)]) := by
            refine chsAt_own (L := w5.heap.size) (xs := [] ++ xs ++ [.slice fa fl fc]) (by rw [e8]; exact ho8.out) ?_
            have h1 := HF.out.1
            have h2 := HF.out.2
            rw [List.nil_append]
            exact (((h1.later hb8w (Nat.le_trans hB hs5)).mono (Nat.le_trans hB (Nat.le_trans hs5 hb8w.size))).append (FvsAt.one ((h2.later hb8w (Nat.le_refl _)).mono hb8w.size)))
          have hbw8 := Below.thenOf HBw5.out hb8w HBw5.out.size
          go_ret2
          exact ⟨_, by rw [HR.out.1]; rfl, by rw [HR.out.2]; exact hch, hbw8⟩
        · have HR : Hid (te = compE (ms, md) ∧ tr = []) := by
            have e : te = compE (ms, md) := HTE2.out
            exact ⟨e, by rw [HTR.out, if_neg (by rw [e]; exact hcp)]⟩
          have hq : (compE (ms, md) != 0) = true := by simpa using hcp
          clear hcp HTE2 HTR HCL HFi
          generalize compE (ms, md) = cp at *
          have hb5w : Below w.heap.size w w5 := Below.thenOf (HB4.out.alloc HB4.out.size _) hb5 (by simp; have := HB4.out.size; omega)
          obtain ⟨fa, fc, rfl, -⟩ := ownsRow_caps hof
          have HB5 : Hid _ := hb5w
          clear hof hwf hb5 hb5w
          generalize (compL (ms, md)).length = fl at *
          go_wp2_with fail
          go_ret2
          exact ⟨_, by rw [HR.out.1]; rfl, by rw [HR.out.2]; exact chsAt_nil _ _, HB5.out⟩
    · have HR : Hid (te = de ∧ tr = []) := by
        have e : te = de := by rw [HTE'.out, if_neg hd]
        exact ⟨e, by rw [HTR.out, if_neg (by rw [e]; exact hd)]⟩
      have hq : (de != 0) = true := by simpa using hd
      have hq2 : (de == 0) = false := by simpa using hd
      clear HTE' HTR HFi hd
      go_wp2_with fail
      go_ret2
      exact ⟨_, by rw [HR.out.1]; rfl, by rw [HR.out.2]; exact chsAt_nil _ _, HB4.out.alloc HB4.out.size _⟩
  · have HR : Hid (te = ce ∧ tr = []) := by
      have e : te = ce := by rw [HTE.out, if_neg hc]
      exact ⟨e, by rw [HTR.out, if_neg (by rw [e]; exact hc)]⟩
    have hq : (ce != 0) = true := by simpa using hc
    clear HTE HTR hc HD HCl
    go_wp2_with fail
    go_ret2
    exact ⟨_, by rw [HR.out.1]; rfl, by rw [HR.out.2]; exact chsAt_nil _ _, hb3w⟩

end Go.Proofs.YtbjpdmfedphacabGreatDoor
end
section
/- What ChainTight, ChainOrder and ChainDelta ask: plain facts. -/
set_option linter.all false
namespace Go.Proofs.YtbjpdmfedphacabGreatDoor

theorem condErr_small (c : CondT) : condErr c ≤ 5 := by
  unfold condErr
  split
  · omega
  · split
    · omega
    · split <;> omega
theorem condsErr_small : ∀ l : List CondT, condsErr l ≤ 5
  | [] => by simp [condsErr]
  | c :: r => by
    unfold condsErr
    have := condErr_small c
    have := condsErr_small r
    split <;> omega
theorem ruleErr_small (r : RuleT) : ruleErr r ≤ 5 := by
  have := condsErr_small r.1
  unfold ruleErr
  repeat (first | omega | split)
theorem rulesErr_small : ∀ l : List RuleT, rulesErr l ≤ 5
  | [] => by simp [rulesErr]
  | c :: r => by
    unfold rulesErr
    have := ruleErr_small c
    have := rulesErr_small r
    split <;> omega
theorem polErr_small (p : PolT) : polErr p ≤ 5 := by
  have := rulesErr_small p.1
  unfold polErr
  repeat (first | omega | split)
theorem polsErr_small : ∀ l : List PolT, polsErr l ≤ 5
  | [] => by simp [polsErr]
  | p :: r => by
    unfold polsErr
    have := polErr_small p
    have := polsErr_small r
    split <;> omega
theorem pointsE_small (l : List PolT) : pointsE l ≤ 5 := by
  have := polsErr_small l
  unfold pointsE
  repeat (first | omega | split)
theorem meetE_small (b : Bool) (p q : PolT) : meetE b p q ≤ 5 := by
  have h1 := polsErr_small [p, q]
  have h2 := polErr_small (meetP b p q)
  unfold meetE
  split <;> omega
/-- Where the points can be asked, ErrLoose is told just where one is looser. -/
theorem delta_loose {p q : PolT} (h : pointsE [q, p] = 0) : (looserP q p).isSome = decide (deltaE p q = 7) := by
  unfold deltaE
  rw [if_pos h]
  cases hl : (looserP q p).isSome with
  | true => simp
  | false =>
    have h1 := meetE_small true q p
    have h2 := pointsE_small [meetR true q p]
    simp only [Bool.false_eq_true, if_false]
    symm
    apply decide_eq_false
    split <;> omega
theorem delta_self (p : PolT) : deltaE p p ≠ 7 := by
  unfold deltaE
  have h0 := pointsE_small [p, p]
  have h1 := meetE_small true p p
  have h2 := pointsE_small [meetR true p p]
  by_cases h : pointsE [p, p] = 0
  · rw [if_pos h, looser_self h]
    simp only [Option.isSome_none, Bool.false_eq_true, if_false]
    split <;> omega
  · rw [if_neg h]
    omega
theorem cutEnd_all (d : Int) : ∀ l : List RuleT, (∀ r ∈ l, r.2 = d) → cutEnd d l = []
  | [], _ => rfl
  | r :: s, h => by
    unfold cutEnd
    rw [if_pos ⟨cutEnd_all d s fun t ht => h t (by simp [ht]), h r (by simp)⟩]
/-- From a policy to itself nothing changes. -/
theorem delta_none {p : PolT} (h : deltaE p p = 0) : deltaR p p = ([], 4) := by
  obtain ⟨h1, h2, h3, h4, h5, hp, -, hm, hd⟩ := delta_ok h
  have e : meetR true p p = meetP true p p := by rw [meetR, if_pos h3]
  have hd4 : (meetR true p p).2 = 4 := by
    rw [e]
    show ofV true p.2 p.2 = 4
    simp [ofV]
  rw [h5]
  unfold shortP
  rw [hd4, cutEnd_all]
  intro r hr
  obtain ⟨i, hi⟩ := List.getElem?_of_mem hr
  obtain ⟨j, hj, hk, -⟩ := keepFrom_get (meetR true p p) (meetR true p p).1 0 i r hi
  rw [Nat.zero_add] at hk
  obtain ⟨x, hx, hrx, hno⟩ := keep_point hm hj hk
  have hv : vP (meetR true p p) x = r.2 := by
    have hf : firstAt (ruleOk x) 0 (meetR true p p).1 = ((0 + j : Nat) : Int) := firstAt_eq (ruleOk x) _ 0 j r hj hrx (fun i hi c hc => hno i c hi hc)
    rw [vP, judgeP_ok hm hx, verdictAt, hf]
    rw [if_neg (by omega)]
    simp only [Int.toNat_natCast, Nat.zero_add, List.getD_eq_getElem?_getD, hj, Option.getD_some]
  rw [← hv, e, vP_meet true hp hp (by rw [← e]; exact hm) hx]
  simp [ofV]

/-- A chain's own filter, and that of the delta: each call is told what the stricter policy says. -/
theorem tight_one {p q : PolT} (hc : compE p = 0) (h : tightE [polI p] p q = 0) {x : Nat → Int} (hx : chkx x = 0) : tightR [polI p] p q = [polI p, polI (deltaR p q)] ∧ askE (tightR [polI p] p q) x = 0 ∧ askV (tightR [polI p] p q) x = vP q x ∧ judgeP q x = (vP q x, (judgeP q x).2.1, 0) := by
  have hr : tightR [polI p] p q = [polI p, polI (deltaR p q)] := by rw [tightR, if_pos h]; rfl
  unfold tightE at h
  split at h
  · rename_i h1
    split at h
    · rename_i h2
      split at h
      · cases h
      · obtain ⟨-, -, -, -, -, hp, hq, -, hd⟩ := delta_ok h2
        obtain ⟨hle, hsay⟩ := delta_says h2 hx
        have hcd : codeErr (polI (deltaR p q)) = 0 := by
          rw [codeErr_pol hd]
          unfold compE at h
          rw [if_pos hd] at h
          exact h
        have hcp : codeErr (polI p) = 0 := (chainErr_ok.1 h1).2 _ (by simp)
        have hch : chainErr (tightR [polI p] p q) = 0 := by
          rw [hr]
          refine chainErr_ok.2 ⟨by simp, fun f hf => ?_⟩
          simp at hf
          rcases hf with rfl | rfl
          · exact hcp
          · exact hcd
        have hae : askE (tightR [polI p] p q) x = 0 := by rw [askE, if_pos hch]; exact hx
        refine ⟨hr, hae, ?_, judge_right hq hx⟩
        rw [askV, if_pos hae, hr]
        show (if (runs x 0 0 (polI (deltaR p q))).1 < (if (runs x 0 0 (polI p)).1 < 4 then (runs x 0 0 (polI p)).1 else 4) then (runs x 0 0 (polI (deltaR p q))).1 else (if (runs x 0 0 (polI p)).1 < 4 then (runs x 0 0 (polI p)).1 else 4)) = vP q x
        rw [runs_pol hp hx, runs_pol hd hx]
        have e1 : (judgeP p x).1 = vP p x := rfl
        have e2 : (judgeP (deltaR p q) x).1 = vP (deltaR p q) x := rfl
        have := vP_le hp hx
        have := vP_le hq hx
        rw [e1, e2, hsay]
        repeat (first | omega | split)
    · rename_i h2
      exact absurd h h2
  · rename_i h1
    exact absurd h h1
/-- Of any chain: tightened it is no looser, and begins as it was. -/
theorem tight_any {ls : ChT} {p q : PolT} (h : tightE ls p q = 0) {x : Nat → Int} (hx : chkx x = 0) : tightR ls p q = ls ++ [polI (deltaR p q)] ∧ askE ls x = 0 ∧ askE (tightR ls p q) x = 0 ∧ askV (tightR ls p q) x ≤ askV ls x := by
  have hr : tightR ls p q = ls ++ [polI (deltaR p q)] := by rw [tightR, if_pos h]
  unfold tightE at h
  split at h
  · rename_i h1
    split at h
    · rename_i h2
      split at h
      · cases h
      · rename_i h6
        obtain ⟨-, -, -, -, -, hp, hq, -, hd⟩ := delta_ok h2
        have hcd : codeErr (polI (deltaR p q)) = 0 := by
          rw [codeErr_pol hd]
          unfold compE at h
          rw [if_pos hd] at h
          exact h
        have hch : chainErr (ls ++ [polI (deltaR p q)]) = 0 := by
          obtain ⟨hl, hall⟩ := chainErr_ok.1 h1
          refine chainErr_ok.2 ⟨by simp; omega, fun f hf => ?_⟩
          rcases List.mem_append.1 hf with hf | hf
          · exact hall f hf
          · simp at hf
            rw [hf]
            exact hcd
        have ha1 : askE ls x = 0 := by rw [askE, if_pos h1]; exact hx
        have ha2 : askE (ls ++ [polI (deltaR p q)]) x = 0 := by rw [askE, if_pos hch]; exact hx
        rw [hr]
        refine ⟨rfl, ha1, ha2, ?_⟩
        rw [askV, if_pos ha2, askV, if_pos ha1, askF_both]
        omega
    · rename_i h2
      exact absurd h h2
  · rename_i h1
    exact absurd h h1
theorem askE_reverse {ls : ChT} {x : Nat → Int} (h : askE ls x = 0) : askE ls.reverse x = 0 ∧ askV ls.reverse x = askV ls x := by
  have hc : chainErr ls = 0 ∧ chkx x = 0 := by
    unfold askE at h
    split at h
    · rename_i h1; exact ⟨h1, h⟩
    · rename_i h1; exact absurd h h1
  obtain ⟨hl, hall⟩ := chainErr_ok.1 hc.1
  have hc' : chainErr ls.reverse = 0 := chainErr_ok.2 ⟨by simpa using hl, fun f hf => hall f (by simpa using hf)⟩
  have he : askE ls.reverse x = 0 := by rw [askE, if_pos hc']; exact hc.2
  exact ⟨he, by rw [askV, if_pos he, askV, if_pos h]; exact askF_members x (by simp) (by simp) 4⟩
theorem askE_double {ls : ChT} {x : Nat → Int} (h : askE ls x = 0) (hl : ls.length ≤ 3) : askE (ls ++ ls) x = 0 ∧ askV (ls ++ ls) x = askV ls x := by
  have hc : chainErr ls = 0 ∧ chkx x = 0 := by
    unfold askE at h
    split at h
    · rename_i h1; exact ⟨h1, h⟩
    · rename_i h1; exact absurd h h1
  obtain ⟨-, hall⟩ := chainErr_ok.1 hc.1
  have hc' : chainErr (ls ++ ls) = 0 := chainErr_ok.2 ⟨by simp; omega, fun f hf => hall f (by simpa using hf)⟩
  have he : askE (ls ++ ls) x = 0 := by rw [askE, if_pos hc']; exact hc.2
  exact ⟨he, by rw [askV, if_pos he, askV, if_pos h]; exact askF_members x (by simp) (fun f hf => by simp [hf]) 4⟩
theorem askV_both {l m : ChT} {x : Nat → Int} (h1 : askE l x = 0) (h2 : askE m x = 0) (h3 : askE (l ++ m) x = 0) : askV (l ++ m) x = min (askV l x) (askV m x) := by
  rw [askV, if_pos h3, askV, if_pos h1, askV, if_pos h2]
  exact askF_both x l m 4

end Go.Proofs.YtbjpdmfedphacabGreatDoor
end
