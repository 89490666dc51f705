/- Joined: Env Jud2 Jud3. -/
import Derived.Test.YtbdlojnigflanacGreatDoorKb01
import Derived.Lib.LaidTab
import Derived.Lib.ItoaNum
import Derived.Test.YtbdlojnigflanacGreatDoorKb03
section
/- What the proofs ask of the program's surroundings. -/
set_option linter.all false
namespace Go.Proofs.YtbdlojnigflanacGreatDoor
open Go.RowKit Go.Maps

/-- What the proofs ask of the program's surroundings. -/
def EnvAt (w : World) : Prop := ∃ mm : Int, w.cell? ⟨3, 0, none⟩ = some (.int .i64 mm)
theorem EnvAt.lt {w : World} (h : EnvAt w) : 3 < w.heap.size := by
  obtain ⟨mm, h⟩ := h
  exact World.block_lt_of_cell? _ _ h
theorem EnvAt.later {w w' : World} (h : EnvAt w) (hb : Below w.heap.size w w') : EnvAt w' := by
  have hl := h.lt
  obtain ⟨mm, h⟩ := h
  exact ⟨mm, (hb.cell (p := ⟨3, 0, none⟩) hl).trans h⟩


/-- A variable that holds an error, or none. -/
def ErrAt (g : Nat) (w : World) : Prop := ∃ ev, w.cell? ⟨g, 0, none⟩ = some ev ∧ (ev = .nilIface ∨ ∃ te pe, ev = .iface te pe)
theorem ErrAt.later {g : Nat} {w w' : World} (h : ErrAt g w) (hb : Below w.heap.size w w') : ErrAt g w' := by
  obtain ⟨ev, h1, h2⟩ := h
  exact ⟨ev, (hb.cell (p := ⟨g, 0, none⟩) (World.block_lt_of_cell? _ _ h1)).trans h1, h2⟩
theorem tab_later {P : Program} {w w' : World} {name : String} {k : IntKind} {zs : List Int} (h : Lib.TabIs P w name k zs) (hb : Below w.heap.size w w') : Lib.TabIs P w' name k zs := by
  unfold Lib.TabIs World.var? at *
  cases hg : P.globalNamed name with
  | none => rw [hg] at h; simp at h
  | some g =>
    rw [hg] at h
    simp only [Option.bind_some] at h ⊢
    cases hh : w.heap[g]? with
    | none => rw [hh] at h; simp at h
    | some o =>
      rw [hb.block g (lt_of_block hh)]
      exact h
/-- What texts ask: the longest length of a word, the two errors, the powers of ten. -/
def EnvT (w : World) : Prop := EnvAt w ∧ ErrAt 4 w ∧ ErrAt 5 w ∧ Lib.TabIs Tryz.prog w "internal/strconv.uint64pow10" .u64 Lib.pow10Tab
theorem EnvT.later {w w' : World} (h : EnvT w) (hb : Below w.heap.size w w') : EnvT w' := ⟨h.1.later hb, h.2.1.later hb, h.2.2.1.later hb, tab_later h.2.2.2 hb⟩

end Go.Proofs.YtbdlojnigflanacGreatDoor
end
section
/- The program's own Judge, whole. -/
set_option linter.all false
namespace Go.Proofs.YtbdlojnigflanacGreatDoor
open Go.RowKit Go.Maps

theorem ruleOk_first (x : Nat → Int) (cs : List CondT) (v : Int) : (!decide (0 ≤ firstAt (fun c => !condOk x c) 0 cs)) = ruleOk x (cs, v) := by
  rw [firstAt_none]
  unfold ruleOk
  simp [List.all_eq_not_any_not]

set_option maxHeartbeats 1000000 in
theorem contains_any (B : Nat) (cv : Value) (cs : List CondT) (x : Nat → Int) (bx : Nat) (w : World) (hc : CondsAt B w cv cs) (hB : B ≤ w.heap.size) (hok : ∀ c ∈ cs, 0 ≤ c.1 ∧ c.1 < 5) (hx : XAt w bx x) (hl : bx < w.heap.size) :
    Calls Tryz.prog 67 #[cv, .func (.func 63) #[] #[.pointer (some ⟨bx, 0, none⟩)]] w fun e w' => e = .returned (.bool (decide (0 ≤ firstAt (fun c => !condOk x c) 0 cs))) ∧ Below w.heap.size w w' := by
  have hi := indexConds_any B cv cs x bx w hc hB hok hx hl
  generalize firstAt (fun c => !condOk x c) 0 cs = z at *
  clear hx hc hok
  go_enter Tryz.func67, Tryz.ntmps67
  go_wp2_with (first | (go_at_call 125; refine hi.mono ?_; rintro e w' ⟨rfl, hb2⟩))
  go_ret
  exact ⟨rfl, hb2⟩

def FailsV (bx : Nat) : Value := .func (.func 63) #[] #[.pointer (some ⟨bx, 0, none⟩)]

set_option maxHeartbeats 1000000 in
theorem ruleHolds_any (B : Nat) (cv : Value) (r : RuleT) (x : Nat → Int) (bx bf : Nat) (w : World) (hc : CondsAt B w cv r.1) (hB : B ≤ w.heap.size) (hok : ruleErr r = 0) (hx : XAt w bx x) (hl : bx < w.heap.size) (hf : w.cell? ⟨bf, 0, none⟩ = some (FailsV bx)) (hlf : bf < w.heap.size) :
    Calls Tryz.prog 66 #[.agg #[cv, .int .i64 r.2], .pointer (some ⟨bf, 0, none⟩)] w fun e w' => e = .returned (.bool (ruleOk x r)) ∧ Below w.heap.size w w' := by
  obtain ⟨cs, vd⟩ := r
  have hok' : ∀ c ∈ cs, 0 ≤ c.1 ∧ c.1 < 5 := fun c hm => (condErr_ok (condsErr_all (ruleErr_ok hok).2.2 c hm)).1
  have hb : ∀ X, Below w.heap.size w (w.alloc X) := fun X => (Below.refl _ _).alloc (Nat.le_refl _) _
  have hcon : ∀ X, Calls Tryz.prog 67 #[cv, FailsV bx] (w.alloc X) fun e w' => e = .returned (.bool (decide (0 ≤ firstAt (fun c => !condOk x c) 0 cs))) ∧ Below (w.alloc X).heap.size (w.alloc X) w' := fun X => contains_any B cv cs x bx _ (hc.later (hb X) hB) (by simp; omega) hok' (hx.later (hb X) hl) (by simp; omega)
  have E : Hid ((!decide (0 ≤ firstAt (fun c => !condOk x c) 0 cs)) = ruleOk x (cs, vd)) := ruleOk_first x cs vd
  obtain ⟨a, cap, rfl, _, _, _⟩ := hc
  clear hx hok hok'
  show Calls Tryz.prog 66 #[.agg #[.slice a cs.length cap, .int .i64 vd], .pointer (some ⟨bf, 0, none⟩)] w _
  have hf' : ∀ X, (w.alloc X).cell? ⟨bf, 0, none⟩ = some (FailsV bx) := fun X => ((hb X).cell (p := ⟨bf, 0, none⟩) hlf).trans hf
  clear hf
  generalize cs.length = n at *
  generalize firstAt (fun c => !condOk x c) 0 cs = z at *
  unfold FailsV at hf' hcon
  go_enter Tryz.func66, Tryz.ntmps66
  go_wp2_with (first | (go_at_call 67; refine (hcon _).mono ?_; rintro e w' ⟨rfl, hb2⟩))
  go_ret
  exact ⟨by rw [← E.out]; rfl, Below.thenOf (hb _) hb2 (by simp)⟩

set_option maxHeartbeats 1000000 in
theorem indexRules_any (B : Nat) (rv : Value) (rs : List RuleT) (x : Nat → Int) (bx bf : Nat) (w : World) (hr : RulesAt B w rv rs) (hB : B ≤ w.heap.size) (hok : ∀ r ∈ rs, ruleErr r = 0) (hx : XAt w bx x) (hl : bx < w.heap.size) (hf : w.cell? ⟨bf, 0, none⟩ = some (FailsV bx)) (hlf : bf < w.heap.size) :
    Calls Tryz.prog 65 #[rv, .func (.func 66) #[] #[.pointer (some ⟨bf, 0, none⟩)]] w fun e w' => e = .returned (.int .i64 (firstAt (ruleOk x) 0 rs)) ∧ Below w.heap.size w w' := by
  obtain ⟨a, cap, rfl, hlc, hcm, hrs⟩ := hr
  have hrs' : Hid (∀ (i : Nat) (r : RuleT), rs[i]? = some r → ∃ b o, a = some ⟨b, o, none⟩ ∧ b < B ∧ RuleAt B w b (o + i * 2) r) := hrs
  have hx' : Hid (XAt w bx x) := hx
  have hf' : Hid (w.cell? ⟨bf, 0, none⟩ = some (FailsV bx)) := hf
  clear hrs hx hf
  generalize hn : rs.length = n at *
  have hml : n ≤ 9223372036854775807 := by have := maxLen_eq; omega
  go_enter Tryz.func65, Tryz.ntmps65
  go_wp2
  go_loopw [8] (fun i wr => ∃ k : Nat, k ≤ n ∧ i = .int .i64 k ∧ Hid (firstAt (ruleOk x) 0 rs = firstAt (ruleOk x) k (rs.drop k)) ∧ Below w.heap.size w wr) (fun i _ => n - (intOf i).toNat)
  case atStart => exact ⟨0, by omega, rfl, rfl, Below.refl _ _⟩
  case round =>
    obtain ⟨k, hk, rfl, H, hbr⟩ := hrel
    have i0 : (0 : Int) ≤ (k : Int) := by omega
    by_cases hlt : k < n
    · have i1 : (k : Int) < (n : Int) := by omega
      obtain ⟨c, hck⟩ : ∃ c, rs[k]? = some c := ⟨rs[k]'(by omega), by simp⟩
      have hcm' : c ∈ rs := List.mem_of_getElem? hck
      obtain ⟨b, o, rfl, hbB, hat⟩ := hrs'.out k c hck
      have S : Hid (firstAt (ruleOk x) k (rs.drop k) = if ruleOk x c = true then (k : Int) else firstAt (ruleOk x) (k + 1) (rs.drop (k + 1))) := firstAt_step (ruleOk x) rs k c hck
      have hfc := hok c hcm'
      obtain ⟨cv, c0, c1, w0, hcon⟩ := hat.later hbr hB hbB
      have hsz := hbr.size
      have hcall : Hid (Calls Tryz.prog 66 #[.agg #[cv, .int .i64 c.2], .pointer (some ⟨bf, 0, none⟩)] wr fun e w' => e = .returned (.bool (ruleOk x c)) ∧ Below wr.heap.size wr w') :=
        ruleHolds_any B cv c x bx bf wr hcon (by omega) hfc (hx'.out.later hbr hl) (by omega) ((hbr.cell (p := ⟨bf, 0, none⟩) hlf).trans hf'.out) (by omega)
      obtain ⟨a2, cap2, rfl, _, _, _⟩ := hcon
      clear hat
      generalize c.1.length = m2 at *
      go_wp2_with (first | (go_at_call 66; refine hcall.out.mono ?_; rintro e w' ⟨rfl, hb2⟩))
      all_goals have hb3 : Below w.heap.size w w' := Below.thenOf hbr hb2 hbr.size
      · have hy : ruleOk x c = true := by assumption
        go_ret
        exact ⟨by rw [H.out, S.out, if_pos hy]; rfl, hb3⟩
      · have hy : ¬ ruleOk x c = true := by simp_all
        exact ⟨⟨k + 1, by omega, by go_num, by unfold Hid; rw [H.out, S.out, if_neg hy], hb3⟩, by simp [intOf]; omega⟩
    · go_wp2
      go_ret
      exact ⟨by rw [H.out, List.drop_eq_nil_of_le (by omega)]; rfl, hbr⟩

end Go.Proofs.YtbdlojnigflanacGreatDoor
end
section
/- The program's own Judge, whole. -/
set_option linter.all false
namespace Go.Proofs.YtbdlojnigflanacGreatDoor
open Go.RowKit Go.Maps

@[go_sem] theorem run_store_fn {P : Program} {w : World} {a : Addr} {m : Mode} (fn : Fn) (first captured : Array Value) : (store a (.func fn first captured) m).run P w = stored P w a (.func fn first captured) m := run_store P w a _ m rfl

/-- The verdict and the rule's number, of a right policy and call. -/
def verdictAt (p : PolT) (i : Int) : Int × Int := if i < 0 then (p.2, p.1.length) else ((p.1.getD i.toNat ([], 0)).2, i)
def judgeP (p : PolT) (x : Nat → Int) : Int × Int × Int :=
  if polErr p = 0 then (if chkx x = 0 then ((verdictAt p (firstAt (ruleOk x) 0 p.1)).1, (verdictAt p (firstAt (ruleOk x) 0 p.1)).2, 0) else (0, 0, chkx x)) else (0, 0, polErr p)

theorem firstAt_lt {α : Type} (f : α → Bool) : ∀ (l : List α) (k : Nat), 0 ≤ firstAt f k l → (k : Int) ≤ firstAt f k l ∧ firstAt f k l < (k : Int) + l.length
  | [], _, h => by simp [firstAt] at h
  | c :: r, k, h => by
    unfold firstAt at h ⊢
    by_cases hc : f c = true
    · simp [hc]
      omega
    · simp only [if_neg hc] at h ⊢
      have := firstAt_lt f r (k + 1) h
      simp at this ⊢
      omega

set_option maxHeartbeats 2000000 in
theorem judge_any (B : Nat) (pv : Value) (p : PolT) (x : Nat → Int) (w : World) (hp : PolAt B w pv p) (hB : B ≤ w.heap.size) :
    Calls Tryz.prog 16 #[pv, callV x] w fun e w' => e = .returned (.tuple #[.int .i64 (judgeP p x).1, .int .i64 (judgeP p x).2.1, .int .i64 (judgeP p x).2.2]) ∧ Below w.heap.size w w' := by
  have hck : Hid (∀ w', Below w.heap.size w w' → Calls Tryz.prog 61 #[pv] w' fun e w'' => e = .returned (.int .i64 (polErr p)) ∧ Below w'.heap.size w' w'') := fun w' h => check_pol B pv p w' (hp.later h hB) (by have := h.size; omega)
  have hcx : Hid (∀ w', Calls Tryz.prog 62 #[callV x] w' fun e w'' => e = .returned (.int .i64 (chkx x)) ∧ Below w'.heap.size w' w'') := fun w' => check_any (x 0) (x 1) (x 2) (x 3) (x 4) w'
  have hp' : Hid (PolAt B w pv p) := hp
  obtain ⟨rs, d⟩ := p
  obtain ⟨rv, rfl, _, a, cap, rfl, hlc, hcm, _⟩ := hp
  show Calls Tryz.prog 16 #[.agg #[.slice a rs.length cap, .int .i64 d], .agg #[.int .i64 (x 0), .int .i64 (x 1), .int .i64 (x 2), .int .i64 (x 3), .int .i64 (x 4)]] w _
  have hcx : Hid (∀ w', Calls Tryz.prog 62 #[.agg #[.int .i64 (x 0), .int .i64 (x 1), .int .i64 (x 2), .int .i64 (x 3), .int .i64 (x 4)]] w' fun e w'' => e = .returned (.int .i64 (chkx x)) ∧ Below w'.heap.size w' w'') := hcx
  simp only [] at hck hlc
  have hbP : ∀ X Y, Below w.heap.size w ((w.alloc X).alloc Y) := fun X Y => ((Below.refl _ _).alloc (Nat.le_refl _) _).alloc (by simp) _
  by_cases he : polErr (rs, d) = 0
  · have he' : (polErr (rs, d) != 0) = false := by simpa using he
    have C0 : Hid (∀ X Y w1, X = .cells #[.slice a rs.length cap, .int .i64 d] 24 → Below ((w.alloc X).alloc Y).heap.size ((w.alloc X).alloc Y) w1 → w1.cell? ⟨w.heap.size, 0, none⟩ = some (.slice a rs.length cap) ∧ w1.cell? ⟨w.heap.size, 1, none⟩ = some (.int .i64 d)) := by
      intro X Y w1 hX h1
      subst hX
      exact ⟨(h1.cell (p := ⟨w.heap.size, 0, none⟩) (by simp; omega)).trans (by simp [go_sem]), (h1.cell (p := ⟨w.heap.size, 1, none⟩) (by simp; omega)).trans (by simp [go_sem])⟩
    have C1 : Hid (∀ X w1, Below ((w.alloc X).alloc (.cells #[.int .i64 (x 0), .int .i64 (x 1), .int .i64 (x 2), .int .i64 (x 3), .int .i64 (x 4)] 26)).heap.size ((w.alloc X).alloc (.cells #[.int .i64 (x 0), .int .i64 (x 1), .int .i64 (x 2), .int .i64 (x 3), .int .i64 (x 4)] 26)) w1 → XAt w1 (w.heap.size + 1) x) := by
      intro X w1 h1
      have := (XAt.made x (w.alloc X) 26).later h1 (by simp)
      simpa using this
    by_cases hx : chkx x = 0
    · have hx' : (chkx x != 0) = false := by simpa using hx
      have J : Hid (judgeP (rs, d) x = ((verdictAt (rs, d) (firstAt (ruleOk x) 0 rs)).1, (verdictAt (rs, d) (firstAt (ruleOk x) 0 rs)).2, 0)) := by unfold Hid; rw [judgeP, if_pos he, if_pos hx]
      have hok : ∀ r ∈ rs, ruleErr r = 0 := rulesErr_all (polErr_ok he).2.2
      have hidx : Hid (∀ w3 bf, Below w.heap.size w w3 → XAt w3 (w.heap.size + 1) x → w.heap.size + 1 < w3.heap.size → w3.cell? ⟨bf, 0, none⟩ = some (FailsV (w.heap.size + 1)) → bf < w3.heap.size → Calls Tryz.prog 65 #[.slice a rs.length cap, .func (.func 66) #[] #[.pointer (some ⟨bf, 0, none⟩)]] w3 fun e w' => e = .returned (.int .i64 (firstAt (ruleOk x) 0 rs)) ∧ Below w3.heap.size w3 w') := by
        intro w3 bf h1 h2 h3 h4 h5
        obtain ⟨rv, e1, _, hrs⟩ := hp'.out
        obtain rfl : rv = .slice a rs.length cap := by simpa using e1.symm
        exact indexRules_any B _ rs x (w.heap.size + 1) bf w3 (hrs.later h1 hB) (by have := h1.size; omega) hok h2 h3 h4 h5
      by_cases hz : firstAt (ruleOk x) 0 rs < 0
      · have V : Hid (judgeP (rs, d) x = (d, (rs.length : Int), 0)) := by unfold Hid; rw [J.out, verdictAt, if_pos hz]
        generalize firstAt (ruleOk x) 0 rs = z at *
        generalize hn : rs.length = n at *
        go_enter Tryz.func16, Tryz.ntmps16
        go_wp2_with (first
          | (go_at_call 61; refine (hck.out _ (hbP _ _)).mono ?_; rintro e w1 ⟨rfl, hb1⟩; have x0 := C1.out _ _ hb1 0 (by omega); have x1 := C1.out _ _ hb1 1 (by omega); have x2 := C1.out _ _ hb1 2 (by omega); have x3 := C1.out _ _ hb1 3 (by omega); have x4 := C1.out _ _ hb1 4 (by omega))
          | (go_at_call 62; refine (hcx.out _).mono ?_; rintro e w2 ⟨rfl, hb2⟩; have hb12 := Below.thenOf hb1 hb2 hb1.size; have pz : ∀ X, (w2.alloc X).cell? ⟨w.heap.size, 0, none⟩ = some (.slice a n cap) := fun X => (C0.out _ _ _ rfl (Below.thenOf hb1 (hb2.alloc hb2.size X) hb1.size)).1)
          | (go_at_call 65; refine (hidx.out _ _ (Below.thenOf (hbP _ _) (hb12.alloc hb12.size _) (by simp; omega)) (C1.out _ _ (hb12.alloc hb12.size _)) (by have := hb12.size; simp at this ⊢; omega) (by simp [go_sem, FailsV]) (by simp)).mono ?_; rintro e w4 ⟨rfl, hb4⟩; have hb04 := Below.thenOf (hb12.alloc hb12.size _) hb4 (by have := hb12.size; simp at this ⊢; omega); have q0 := (C0.out _ _ _ rfl hb04).1; have q1 := (C0.out _ _ _ rfl hb04).2; have hbw4 := Below.thenOf (hbP _ _) hb04 (by simp; omega)))
        go_quiet (fail)
        go_wp2
        go_ret3
        exact ⟨by rw [V.out]; rfl, Below.drewN_ hbw4 _⟩
      · obtain ⟨k, hk⟩ : ∃ k : Nat, firstAt (ruleOk x) 0 rs = k := ⟨(firstAt (ruleOk x) 0 rs).toNat, by omega⟩
        have hkn : k < rs.length := by
          have := firstAt_lt (ruleOk x) rs 0 (by omega)
          omega
        obtain ⟨r, hr⟩ : ∃ r, rs[k]? = some r := ⟨rs[k], by simp [hkn]⟩
        have V : Hid (judgeP (rs, d) x = (r.2, (k : Int), 0)) := by
          unfold Hid
          rw [J.out, verdictAt, hk, if_neg (by omega)]
          simp [List.getD, hr]
        rw [hk] at hidx
        have i0 : (0 : Int) ≤ (k : Int) := by omega
        obtain ⟨b, o, rfl, hbB, hrat⟩ : ∃ b o, a = some ⟨b, o, none⟩ ∧ b < B ∧ RuleAt B w b (o + k * 2) r := by
          obtain ⟨rv, e1, _, a', cap', e2, _, _, hrs⟩ := hp'.out
          obtain rfl : rv = .slice a rs.length cap := by simpa using e1.symm
          simp only [Value.slice.injEq] at e2
          obtain ⟨rfl, _, rfl⟩ := e2
          exact hrs k r hr
        have hrc : Hid (w.cell? ⟨b, o + k * 2 + 1, none⟩ = some (.int .i64 r.2)) := by obtain ⟨_, _, h, _⟩ := hrat; exact h
        clear hrat hk hz
        generalize hn : rs.length = n at *
        have i1 : (k : Int) < (n : Int) := by omega
        go_enter Tryz.func16, Tryz.ntmps16
        go_wp2_with (first
          | (go_at_call 61; refine (hck.out _ (hbP _ _)).mono ?_; rintro e w1 ⟨rfl, hb1⟩; have x0 := C1.out _ _ hb1 0 (by omega); have x1 := C1.out _ _ hb1 1 (by omega); have x2 := C1.out _ _ hb1 2 (by omega); have x3 := C1.out _ _ hb1 3 (by omega); have x4 := C1.out _ _ hb1 4 (by omega))
          | (go_at_call 62; refine (hcx.out _).mono ?_; rintro e w2 ⟨rfl, hb2⟩; have hb12 := Below.thenOf hb1 hb2 hb1.size; have pz : ∀ X, (w2.alloc X).cell? ⟨w.heap.size, 0, none⟩ = some (.slice (some ⟨b, o, none⟩) n cap) := fun X => (C0.out _ _ _ rfl (Below.thenOf hb1 (hb2.alloc hb2.size X) hb1.size)).1)
          | (go_at_call 65; refine (hidx.out _ _ (Below.thenOf (hbP _ _) (hb12.alloc hb12.size _) (by simp; omega)) (C1.out _ _ (hb12.alloc hb12.size _)) (by have := hb12.size; simp at this ⊢; omega) (by simp [go_sem, FailsV]) (by simp)).mono ?_; rintro e w4 ⟨rfl, hb4⟩; have hb04 := Below.thenOf (hb12.alloc hb12.size _) hb4 (by have := hb12.size; simp at this ⊢; omega); have q0 := (C0.out _ _ _ rfl hb04).1; have q1 := (C0.out _ _ _ rfl hb04).2; have hbw4 := Below.thenOf (hbP _ _) hb04 (by simp; omega); have q2 := (hbw4.cell (p := ⟨b, o + k * 2 + 1, none⟩) (by show b < w.heap.size; omega)).trans hrc.out))
        go_ret3
        exact ⟨by rw [V.out]; rfl, hbw4⟩
    · have J : Hid (judgeP (rs, d) x = (0, 0, chkx x)) := by unfold Hid; rw [judgeP, if_pos he, if_neg hx]
      have hx' : (chkx x != 0) = true := by simpa using hx
      generalize hn : rs.length = n at *
      go_enter Tryz.func16, Tryz.ntmps16
      go_wp2_with (first
        | (go_at_call 61; refine (hck.out _ (hbP _ _)).mono ?_; rintro e w1 ⟨rfl, hb1⟩; have x0 := C1.out _ _ hb1 0 (by omega); have x1 := C1.out _ _ hb1 1 (by omega); have x2 := C1.out _ _ hb1 2 (by omega); have x3 := C1.out _ _ hb1 3 (by omega); have x4 := C1.out _ _ hb1 4 (by omega))
        | (go_at_call 62; refine (hcx.out _).mono ?_; rintro e w2 ⟨rfl, hb2⟩))
      go_ret3
      exact ⟨by rw [J.out]; rfl, Below.thenOf (Below.thenOf (hbP _ _) hb1 (by simp; omega)) hb2 (by have := hb1.size; simp at this; omega)⟩
  · have J : Hid (judgeP (rs, d) x = (0, 0, polErr (rs, d))) := by unfold Hid; rw [judgeP, if_neg he]
    have he' : (polErr (rs, d) != 0) = true := by simpa using he
    generalize hn : rs.length = n at *
    go_enter Tryz.func16, Tryz.ntmps16
    go_wp2_with (first | (go_at_call 61; refine (hck.out _ (hbP _ _)).mono ?_; rintro e w' ⟨rfl, hb2⟩))
    go_ret3
    exact ⟨by rw [J.out]; rfl, Below.thenOf (hbP _ _) hb2 (by simp; omega)⟩

end Go.Proofs.YtbdlojnigflanacGreatDoor
end
