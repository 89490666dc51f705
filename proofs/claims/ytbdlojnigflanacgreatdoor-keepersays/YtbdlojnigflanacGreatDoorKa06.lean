/- Joined: Env Jud2 Jud3 Judged Made. -/
import Derived.Test.YtbdlojnigflanacGreatDoorKa01
import Derived.Lib.LaidTab
import Derived.Lib.ItoaNum
import Derived.Test.YtbdlojnigflanacGreatDoorKa03
import Derived.Test.YtbdlojnigflanacGreatDoorKa05
section
/- What the proofs ask of the program's surroundings. -/
set_option linter.all false
namespace Go.Proofs.YtbdlojnigflanacGreatDoor
open Go.RowKit Go.Maps

/-- What the proofs ask of the program's surroundings. -/
def EnvAt (w : World) : Prop := ∃ mm : Int, w.cell? ⟨3, 0, none⟩ = some (.int .i64 mm)
theorem EnvAt.lt {w : World} (h : EnvAt w) : 3 < w.heap.size := by
  obtain ⟨mm, h⟩ := h
  exact World.block_lt_of_cell? _ _ h
theorem EnvAt.later {w w' : World} (h : EnvAt w) (hb : Below w.heap.size w w') : EnvAt w' := by
  have hl := h.lt
  obtain ⟨mm, h⟩ := h
  exact ⟨mm, (hb.cell (p := ⟨3, 0, none⟩) hl).trans h⟩


/-- A variable that holds an error, or none. -/
def ErrAt (g : Nat) (w : World) : Prop := ∃ ev, w.cell? ⟨g, 0, none⟩ = some ev ∧ (ev = .nilIface ∨ ∃ te pe, ev = .iface te pe)
theorem ErrAt.later {g : Nat} {w w' : World} (h : ErrAt g w) (hb : Below w.heap.size w w') : ErrAt g w' := by
  obtain ⟨ev, h1, h2⟩ := h
  exact ⟨ev, (hb.cell (p := ⟨g, 0, none⟩) (World.block_lt_of_cell? _ _ h1)).trans h1, h2⟩
theorem tab_later {P : Program} {w w' : World} {name : String} {k : IntKind} {zs : List Int} (h : Lib.TabIs P w name k zs) (hb : Below w.heap.size w w') : Lib.TabIs P w' name k zs := by
  unfold Lib.TabIs World.var? at *
  cases hg : P.globalNamed name with
  | none => rw [hg] at h; simp at h
  | some g =>
    rw [hg] at h
    simp only [Option.bind_some] at h ⊢
    cases hh : w.heap[g]? with
    | none => rw [hh] at h; simp at h
    | some o =>
      rw [hb.block g (lt_of_block hh)]
      exact h
/-- What texts ask: the longest length of a word, the two errors, the powers of ten. -/
def EnvT (w : World) : Prop := EnvAt w ∧ ErrAt 4 w ∧ ErrAt 5 w ∧ Lib.TabIs Tryz.prog w "internal/strconv.uint64pow10" .u64 Lib.pow10Tab
theorem EnvT.later {w w' : World} (h : EnvT w) (hb : Below w.heap.size w w') : EnvT w' := ⟨h.1.later hb, h.2.1.later hb, h.2.2.1.later hb, tab_later h.2.2.2 hb⟩

end Go.Proofs.YtbdlojnigflanacGreatDoor
end
section
/- The program's own Judge, whole. -/
set_option linter.all false
namespace Go.Proofs.YtbdlojnigflanacGreatDoor
open Go.RowKit Go.Maps

theorem ruleOk_first (x : Nat → Int) (cs : List CondT) (v : Int) : (!decide (0 ≤ firstAt (fun c => !condOk x c) 0 cs)) = ruleOk x (cs, v) := by
  rw [firstAt_none]
  unfold ruleOk
  simp [List.all_eq_not_any_not]

set_option maxHeartbeats 1000000 in
theorem contains_any (B : Nat) (cv : Value) (cs : List CondT) (x : Nat → Int) (bx : Nat) (w : World) (hc : CondsAt B w cv cs) (hB : B ≤ w.heap.size) (hok : ∀ c ∈ cs, 0 ≤ c.1 ∧ c.1 < 5) (hx : XAt w bx x) (hl : bx < w.heap.size) :
    Calls Tryz.prog 67 #[cv, .func (.func 63) #[] #[.pointer (some ⟨bx, 0, none⟩)]] w fun e w' => e = .returned (.bool (decide (0 ≤ firstAt (fun c => !condOk x c) 0 cs))) ∧ Below w.heap.size w w' := by
  have hi := indexConds_any B cv cs x bx w hc hB hok hx hl
  generalize firstAt (fun c => !condOk x c) 0 cs = z at *
  clear hx hc hok
  go_enter Tryz.func67, Tryz.ntmps67
  go_wp2_with (first | (go_at_call 125; refine hi.mono ?_; rintro e w' ⟨rfl, hb2⟩))
  go_ret
  exact ⟨rfl, hb2⟩

def FailsV (bx : Nat) : Value := .func (.func 63) #[] #[.pointer (some ⟨bx, 0, none⟩)]

set_option maxHeartbeats 1000000 in
theorem ruleHolds_any (B : Nat) (cv : Value) (r : RuleT) (x : Nat → Int) (bx bf : Nat) (w : World) (hc : CondsAt B w cv r.1) (hB : B ≤ w.heap.size) (hok : ruleErr r = 0) (hx : XAt w bx x) (hl : bx < w.heap.size) (hf : w.cell? ⟨bf, 0, none⟩ = some (FailsV bx)) (hlf : bf < w.heap.size) :
    Calls Tryz.prog 66 #[.agg #[cv, .int .i64 r.2], .pointer (some ⟨bf, 0, none⟩)] w fun e w' => e = .returned (.bool (ruleOk x r)) ∧ Below w.heap.size w w' := by
  obtain ⟨cs, vd⟩ := r
  have hok' : ∀ c ∈ cs, 0 ≤ c.1 ∧ c.1 < 5 := fun c hm => (condErr_ok (condsErr_all (ruleErr_ok hok).2.2 c hm)).1
  have hb : ∀ X, Below w.heap.size w (w.alloc X) := fun X => (Below.refl _ _).alloc (Nat.le_refl _) _
  have hcon : ∀ X, Calls Tryz.prog 67 #[cv, FailsV bx] (w.alloc X) fun e w' => e = .returned (.bool (decide (0 ≤ firstAt (fun c => !condOk x c) 0 cs))) ∧ Below (w.alloc X).heap.size (w.alloc X) w' := fun X => contains_any B cv cs x bx _ (hc.later (hb X) hB) (by simp; omega) hok' (hx.later (hb X) hl) (by simp; omega)
  have E : Hid ((!decide (0 ≤ firstAt (fun c => !condOk x c) 0 cs)) = ruleOk x (cs, vd)) := ruleOk_first x cs vd
  obtain ⟨a, cap, rfl, _, _, _⟩ := hc
  clear hx hok hok'
  show Calls Tryz.prog 66 #[.agg #[.slice a cs.length cap, .int .i64 vd], .pointer (some ⟨bf, 0, none⟩)] w _
  have hf' : ∀ X, (w.alloc X).cell? ⟨bf, 0, none⟩ = some (FailsV bx) := fun X => ((hb X).cell (p := ⟨bf, 0, none⟩) hlf).trans hf
  clear hf
  generalize cs.length = n at *
  generalize firstAt (fun c => !condOk x c) 0 cs = z at *
  unfold FailsV at hf' hcon
  go_enter Tryz.func66, Tryz.ntmps66
  go_wp2_with (first | (go_at_call 67; refine (hcon _).mono ?_; rintro e w' ⟨rfl, hb2⟩))
  go_ret
  exact ⟨by rw [← E.out]; rfl, Below.thenOf (hb _) hb2 (by simp)⟩

set_option maxHeartbeats 1000000 in
theorem indexRules_any (B : Nat) (rv : Value) (rs : List RuleT) (x : Nat → Int) (bx bf : Nat) (w : World) (hr : RulesAt B w rv rs) (hB : B ≤ w.heap.size) (hok : ∀ r ∈ rs, ruleErr r = 0) (hx : XAt w bx x) (hl : bx < w.heap.size) (hf : w.cell? ⟨bf, 0, none⟩ = some (FailsV bx)) (hlf : bf < w.heap.size) :
    Calls Tryz.prog 65 #[rv, .func (.func 66) #[] #[.pointer (some ⟨bf, 0, none⟩)]] w fun e w' => e = .returned (.int .i64 (firstAt (ruleOk x) 0 rs)) ∧ Below w.heap.size w w' := by
  obtain ⟨a, cap, rfl, hlc, hcm, hrs⟩ := hr
  have hrs' : Hid (∀ (i : Nat) (r : RuleT), rs[i]? = some r → ∃ b o, a = some ⟨b, o, none⟩ ∧ b < B ∧ RuleAt B w b (o + i * 2) r) := hrs
  have hx' : Hid (XAt w bx x) := hx
  have hf' : Hid (w.cell? ⟨bf, 0, none⟩ = some (FailsV bx)) := hf
  clear hrs hx hf
  generalize hn : rs.length = n at *
  have hml : n ≤ 9223372036854775807 := by have := maxLen_eq; omega
  go_enter Tryz.func65, Tryz.ntmps65
  go_wp2
  go_loopw [8] (fun i wr => ∃ k : Nat, k ≤ n ∧ i = .int .i64 k ∧ Hid (firstAt (ruleOk x) 0 rs = firstAt (ruleOk x) k (rs.drop k)) ∧ Below w.heap.size w wr) (fun i _ => n - (intOf i).toNat)
  case atStart => exact ⟨0, by omega, rfl, rfl, Below.refl _ _⟩
  case round =>
    obtain ⟨k, hk, rfl, H, hbr⟩ := hrel
    have i0 : (0 : Int) ≤ (k : Int) := by omega
    by_cases hlt : k < n
    · have i1 : (k : Int) < (n : Int) := by omega
      obtain ⟨c, hck⟩ : ∃ c, rs[k]? = some c := ⟨rs[k]'(by omega), by simp⟩
      have hcm' : c ∈ rs := List.mem_of_getElem? hck
      obtain ⟨b, o, rfl, hbB, hat⟩ := hrs'.out k c hck
      have S : Hid (firstAt (ruleOk x) k (rs.drop k) = if ruleOk x c = true then (k : Int) else firstAt (ruleOk x) (k + 1) (rs.drop (k + 1))) := firstAt_step (ruleOk x) rs k c hck
      have hfc := hok c hcm'
      obtain ⟨cv, c0, c1, w0, hcon⟩ := hat.later hbr hB hbB
      have hsz := hbr.size
      have hcall : Hid (Calls Tryz.prog 66 #[.agg #[cv, .int .i64 c.2], .pointer (some ⟨bf, 0, none⟩)] wr fun e w' => e = .returned (.bool (ruleOk x c)) ∧ Below wr.heap.size wr w') :=
        ruleHolds_any B cv c x bx bf wr hcon (by omega) hfc (hx'.out.later hbr hl) (by omega) ((hbr.cell (p := ⟨bf, 0, none⟩) hlf).trans hf'.out) (by omega)
      obtain ⟨a2, cap2, rfl, _, _, _⟩ := hcon
      clear hat
      generalize c.1.length = m2 at *
      go_wp2_with (first | (go_at_call 66; refine hcall.out.mono ?_; rintro e w' ⟨rfl, hb2⟩))
      all_goals have hb3 : Below w.heap.size w w' := Below.thenOf hbr hb2 hbr.size
      · have hy : ruleOk x c = true := by assumption
        go_ret
        exact ⟨by rw [H.out, S.out, if_pos hy]; rfl, hb3⟩
      · have hy : ¬ ruleOk x c = true := by simp_all
        exact ⟨⟨k + 1, by omega, by go_num, by unfold Hid; rw [H.out, S.out, if_neg hy], hb3⟩, by simp [intOf]; omega⟩
    · go_wp2
      go_ret
      exact ⟨by rw [H.out, List.drop_eq_nil_of_le (by omega)]; rfl, hbr⟩

end Go.Proofs.YtbdlojnigflanacGreatDoor
end
section
/- The program's own Judge, whole. -/
set_option linter.all false
namespace Go.Proofs.YtbdlojnigflanacGreatDoor
open Go.RowKit Go.Maps

@[go_sem] theorem run_store_fn {P : Program} {w : World} {a : Addr} {m : Mode} (fn : Fn) (first captured : Array Value) : (store a (.func fn first captured) m).run P w = stored P w a (.func fn first captured) m := run_store P w a _ m rfl

/-- The verdict and the rule's number, of a right policy and call. -/
def verdictAt (p : PolT) (i : Int) : Int × Int := if i < 0 then (p.2, p.1.length) else ((p.1.getD i.toNat ([], 0)).2, i)
def judgeP (p : PolT) (x : Nat → Int) : Int × Int × Int :=
  if polErr p = 0 then (if chkx x = 0 then ((verdictAt p (firstAt (ruleOk x) 0 p.1)).1, (verdictAt p (firstAt (ruleOk x) 0 p.1)).2, 0) else (0, 0, chkx x)) else (0, 0, polErr p)

theorem firstAt_lt {α : Type} (f : α → Bool) : ∀ (l : List α) (k : Nat), 0 ≤ firstAt f k l → (k : Int) ≤ firstAt f k l ∧ firstAt f k l < (k : Int) + l.length
  | [], _, h => by simp [firstAt] at h
  | c :: r, k, h => by
    unfold firstAt at h ⊢
    by_cases hc : f c = true
    · simp [hc]
      omega
    · simp only [if_neg hc] at h ⊢
      have := firstAt_lt f r (k + 1) h
      simp at this ⊢
      omega

set_option maxHeartbeats 2000000 in
theorem judge_any (B : Nat) (pv : Value) (p : PolT) (x : Nat → Int) (w : World) (hp : PolAt B w pv p) (hB : B ≤ w.heap.size) :
    Calls Tryz.prog 16 #[pv, callV x] w fun e w' => e = .returned (.tuple #[.int .i64 (judgeP p x).1, .int .i64 (judgeP p x).2.1, .int .i64 (judgeP p x).2.2]) ∧ Below w.heap.size w w' := by
  have hck : Hid (∀ w', Below w.heap.size w w' → Calls Tryz.prog 61 #[pv] w' fun e w'' => e = .returned (.int .i64 (polErr p)) ∧ Below w'.heap.size w' w'') := fun w' h => check_pol B pv p w' (hp.later h hB) (by have := h.size; omega)
  have hcx : Hid (∀ w', Calls Tryz.prog 62 #[callV x] w' fun e w'' => e = .returned (.int .i64 (chkx x)) ∧ Below w'.heap.size w' w'') := fun w' => check_any (x 0) (x 1) (x 2) (x 3) (x 4) w'
  have hp' : Hid (PolAt B w pv p) := hp
  obtain ⟨rs, d⟩ := p
  obtain ⟨rv, rfl, _, a, cap, rfl, hlc, hcm, _⟩ := hp
  show Calls Tryz.prog 16 #[.agg #[.slice a rs.length cap, .int .i64 d], .agg #[.int .i64 (x 0), .int .i64 (x 1), .int .i64 (x 2), .int .i64 (x 3), .int .i64 (x 4)]] w _
  have hcx : Hid (∀ w', Calls Tryz.prog 62 #[.agg #[.int .i64 (x 0), .int .i64 (x 1), .int .i64 (x 2), .int .i64 (x 3), .int .i64 (x 4)]] w' fun e w'' => e = .returned (.int .i64 (chkx x)) ∧ Below w'.heap.size w' w'') := hcx
  simp only [] at hck hlc
  have hbP : ∀ X Y, Below w.heap.size w ((w.alloc X).alloc Y) := fun X Y => ((Below.refl _ _).alloc (Nat.le_refl _) _).alloc (by simp) _
  by_cases he : polErr (rs, d) = 0
  · have he' : (polErr (rs, d) != 0) = false := by simpa using he
    have C0 : Hid (∀ X Y w1, X = .cells #[.slice a rs.length cap, .int .i64 d] 24 → Below ((w.alloc X).alloc Y).heap.size ((w.alloc X).alloc Y) w1 → w1.cell? ⟨w.heap.size, 0, none⟩ = some (.slice a rs.length cap) ∧ w1.cell? ⟨w.heap.size, 1, none⟩ = some (.int .i64 d)) := by
      intro X Y w1 hX h1
      subst hX
      exact ⟨(h1.cell (p := ⟨w.heap.size, 0, none⟩) (by simp; omega)).trans (by simp [go_sem]), (h1.cell (p := ⟨w.heap.size, 1, none⟩) (by simp; omega)).trans (by simp [go_sem])⟩
    have C1 : Hid (∀ X w1, Below ((w.alloc X).alloc (.cells #[.int .i64 (x 0), .int .i64 (x 1), .int .i64 (x 2), .int .i64 (x 3), .int .i64 (x 4)] 26)).heap.size ((w.alloc X).alloc (.cells #[.int .i64 (x 0), .int .i64 (x 1), .int .i64 (x 2), .int .i64 (x 3), .int .i64 (x 4)] 26)) w1 → XAt w1 (w.heap.size + 1) x) := by
      intro X w1 h1
      have := (XAt.made x (w.alloc X) 26).later h1 (by simp)
      simpa using this
    by_cases hx : chkx x = 0
    · have hx' : (chkx x != 0) = false := by simpa using hx
      have J : Hid (judgeP (rs, d) x = ((verdictAt (rs, d) (firstAt (ruleOk x) 0 rs)).1, (verdictAt (rs, d) (firstAt (ruleOk x) 0 rs)).2, 0)) := by unfold Hid; rw [judgeP, if_pos he, if_pos hx]
      have hok : ∀ r ∈ rs, ruleErr r = 0 := rulesErr_all (polErr_ok he).2.2
      have hidx : Hid (∀ w3 bf, Below w.heap.size w w3 → XAt w3 (w.heap.size + 1) x → w.heap.size + 1 < w3.heap.size → w3.cell? ⟨bf, 0, none⟩ = some (FailsV (w.heap.size + 1)) → bf < w3.heap.size → Calls Tryz.prog 65 #[.slice a rs.length cap, .func (.func 66) #[] #[.pointer (some ⟨bf, 0, none⟩)]] w3 fun e w' => e = .returned (.int .i64 (firstAt (ruleOk x) 0 rs)) ∧ Below w3.heap.size w3 w') := by
        intro w3 bf h1 h2 h3 h4 h5
        obtain ⟨rv, e1, _, hrs⟩ := hp'.out
        obtain rfl : rv = .slice a rs.length cap := by simpa using e1.symm
        exact indexRules_any B _ rs x (w.heap.size + 1) bf w3 (hrs.later h1 hB) (by have := h1.size; omega) hok h2 h3 h4 h5
      by_cases hz : firstAt (ruleOk x) 0 rs < 0
      · have V : Hid (judgeP (rs, d) x = (d, (rs.length : Int), 0)) := by unfold Hid; rw [J.out, verdictAt, if_pos hz]
        generalize firstAt (ruleOk x) 0 rs = z at *
        generalize hn : rs.length = n at *
        go_enter Tryz.func16, Tryz.ntmps16
        go_wp2_with (first
          | (go_at_call 61; refine (hck.out _ (hbP _ _)).mono ?_; rintro e w1 ⟨rfl, hb1⟩; have x0 := C1.out _ _ hb1 0 (by omega); have x1 := C1.out _ _ hb1 1 (by omega); have x2 := C1.out _ _ hb1 2 (by omega); have x3 := C1.out _ _ hb1 3 (by omega); have x4 := C1.out _ _ hb1 4 (by omega))
          | (go_at_call 62; refine (hcx.out _).mono ?_; rintro e w2 ⟨rfl, hb2⟩; have hb12 := Below.thenOf hb1 hb2 hb1.size; have pz : ∀ X, (w2.alloc X).cell? ⟨w.heap.size, 0, none⟩ = some (.slice a n cap) := fun X => (C0.out _ _ _ rfl (Below.thenOf hb1 (hb2.alloc hb2.size X) hb1.size)).1)
          | (go_at_call 65; refine (hidx.out _ _ (Below.thenOf (hbP _ _) (hb12.alloc hb12.size _) (by simp; omega)) (C1.out _ _ (hb12.alloc hb12.size _)) (by have := hb12.size; simp at this ⊢; omega) (by simp [go_sem, FailsV]) (by simp)).mono ?_; rintro e w4 ⟨rfl, hb4⟩; have hb04 := Below.thenOf (hb12.alloc hb12.size _) hb4 (by have := hb12.size; simp at this ⊢; omega); have q0 := (C0.out _ _ _ rfl hb04).1; have q1 := (C0.out _ _ _ rfl hb04).2; have hbw4 := Below.thenOf (hbP _ _) hb04 (by simp; omega)))
        go_quiet (fail)
        go_wp2
        go_ret3
        exact ⟨by rw [V.out]; rfl, Below.drewN_ hbw4 _⟩
      · obtain ⟨k, hk⟩ : ∃ k : Nat, firstAt (ruleOk x) 0 rs = k := ⟨(firstAt (ruleOk x) 0 rs).toNat, by omega⟩
        have hkn : k < rs.length := by
          have := firstAt_lt (ruleOk x) rs 0 (by omega)
          omega
        obtain ⟨r, hr⟩ : ∃ r, rs[k]? = some r := ⟨rs[k], by simp [hkn]⟩
        have V : Hid (judgeP (rs, d) x = (r.2, (k : Int), 0)) := by
          unfold Hid
          rw [J.out, verdictAt, hk, if_neg (by omega)]
          simp [List.getD, hr]
        rw [hk] at hidx
        have i0 : (0 : Int) ≤ (k : Int) := by omega
        obtain ⟨b, o, rfl, hbB, hrat⟩ : ∃ b o, a = some ⟨b, o, none⟩ ∧ b < B ∧ RuleAt B w b (o + k * 2) r := by
          obtain ⟨rv, e1, _, a', cap', e2, _, _, hrs⟩ := hp'.out
          obtain rfl : rv = .slice a rs.length cap := by simpa using e1.symm
          simp only [Value.slice.injEq] at e2
          obtain ⟨rfl, _, rfl⟩ := e2
          exact hrs k r hr
        have hrc : Hid (w.cell? ⟨b, o + k * 2 + 1, none⟩ = some (.int .i64 r.2)) := by obtain ⟨_, _, h, _⟩ := hrat; exact h
        clear hrat hk hz
        generalize hn : rs.length = n at *
        have i1 : (k : Int) < (n : Int) := by omega
        go_enter Tryz.func16, Tryz.ntmps16
        go_wp2_with (first
          | (go_at_call 61; refine (hck.out _ (hbP _ _)).mono ?_; rintro e w1 ⟨rfl, hb1⟩; have x0 := C1.out _ _ hb1 0 (by omega); have x1 := C1.out _ _ hb1 1 (by omega); have x2 := C1.out _ _ hb1 2 (by omega); have x3 := C1.out _ _ hb1 3 (by omega); have x4 := C1.out _ _ hb1 4 (by omega))
          | (go_at_call 62; refine (hcx.out _).mono ?_; rintro e w2 ⟨rfl, hb2⟩; have hb12 := Below.thenOf hb1 hb2 hb1.size; have pz : ∀ X, (w2.alloc X).cell? ⟨w.heap.size, 0, none⟩ = some (.slice (some ⟨b, o, none⟩) n cap) := fun X => (C0.out _ _ _ rfl (Below.thenOf hb1 (hb2.alloc hb2.size X) hb1.size)).1)
          | (go_at_call 65; refine (hidx.out _ _ (Below.thenOf (hbP _ _) (hb12.alloc hb12.size _) (by simp; omega)) (C1.out _ _ (hb12.alloc hb12.size _)) (by have := hb12.size; simp at this ⊢; omega) (by simp [go_sem, FailsV]) (by simp)).mono ?_; rintro e w4 ⟨rfl, hb4⟩; have hb04 := Below.thenOf (hb12.alloc hb12.size _) hb4 (by have := hb12.size; simp at this ⊢; omega); have q0 := (C0.out _ _ _ rfl hb04).1; have q1 := (C0.out _ _ _ rfl hb04).2; have hbw4 := Below.thenOf (hbP _ _) hb04 (by simp; omega); have q2 := (hbw4.cell (p := ⟨b, o + k * 2 + 1, none⟩) (by show b < w.heap.size; omega)).trans hrc.out))
        go_ret3
        exact ⟨by rw [V.out]; rfl, hbw4⟩
    · have J : Hid (judgeP (rs, d) x = (0, 0, chkx x)) := by unfold Hid; rw [judgeP, if_pos he, if_neg hx]
      have hx' : (chkx x != 0) = true := by simpa using hx
      generalize hn : rs.length = n at *
      go_enter Tryz.func16, Tryz.ntmps16
      go_wp2_with (first
        | (go_at_call 61; refine (hck.out _ (hbP _ _)).mono ?_; rintro e w1 ⟨rfl, hb1⟩; have x0 := C1.out _ _ hb1 0 (by omega); have x1 := C1.out _ _ hb1 1 (by omega); have x2 := C1.out _ _ hb1 2 (by omega); have x3 := C1.out _ _ hb1 3 (by omega); have x4 := C1.out _ _ hb1 4 (by omega))
        | (go_at_call 62; refine (hcx.out _).mono ?_; rintro e w2 ⟨rfl, hb2⟩))
      go_ret3
      exact ⟨by rw [J.out]; rfl, Below.thenOf (Below.thenOf (hbP _ _) hb1 (by simp; omega)) hb2 (by have := hb1.size; simp at this; omega)⟩
  · have J : Hid (judgeP (rs, d) x = (0, 0, polErr (rs, d))) := by unfold Hid; rw [judgeP, if_neg he]
    have he' : (polErr (rs, d) != 0) = true := by simpa using he
    generalize hn : rs.length = n at *
    go_enter Tryz.func16, Tryz.ntmps16
    go_wp2_with (first | (go_at_call 61; refine (hck.out _ (hbP _ _)).mono ?_; rintro e w' ⟨rfl, hb2⟩))
    go_ret3
    exact ⟨by rw [J.out]; rfl, Below.thenOf (hbP _ _) hb2 (by simp; omega)⟩

end Go.Proofs.YtbdlojnigflanacGreatDoor
end
section
/- What the counterpart's Judged says of a right policy: as the program's own Judge. -/
set_option linter.all false
namespace Go.Proofs.YtbdlojnigflanacGreatDoor
open Go.RowKit Go.Maps

def backAt (p : PolT) (x : Nat → Int) (m : Nat) : Int × Int := verdictAt p (firstAt (ruleOk x) m (p.1.drop m))
theorem backAt_end (p : PolT) (x : Nat → Int) : backAt p x p.1.length = (p.2, (p.1.length : Int)) := by
  unfold backAt
  rw [List.drop_eq_nil_of_le (Nat.le_refl _)]
  rfl
theorem backAt_step (p : PolT) (x : Nat → Int) (m : Nat) (r : RuleT) (h : p.1[m]? = some r) : backAt p x m = if ruleOk x r = true then (r.2, (m : Int)) else backAt p x (m + 1) := by
  unfold backAt
  rw [firstAt_step _ _ _ _ h]
  split
  · rw [verdictAt, if_neg (by omega)]
    simp [List.getD, h]
  · rfl
theorem all_take (f : CondT → Bool) (cs : List CondT) (j : Nat) (c : CondT) (h : cs[j]? = some c) : (cs.take (j + 1)).all f = ((cs.take j).all f && f c) := by
  rw [List.take_add_one, h, List.all_append]
  simp

set_option maxRecDepth 20000 in
set_option maxHeartbeats 4000000 in
theorem judged_any (B : Nat) (pv : Value) (p : PolT) (x : Nat → Int) (w : World) (hp : PolAt B w pv p) (hB : B ≤ w.heap.size) (hok : polErr p = 0) :
    Calls Tryz.prog 221 #[pv, callV x] w fun e w' => e = .returned (.tuple #[.int .i64 (verdictAt p (firstAt (ruleOk x) 0 p.1)).1, .int .i64 (verdictAt p (firstAt (ruleOk x) 0 p.1)).2]) ∧ Below w.heap.size w w' := by
  have hfin : Hid (verdictAt p (firstAt (ruleOk x) 0 p.1) = backAt p x 0) := rfl
  have hro : ∀ r ∈ p.1, ruleErr r = 0 := rulesErr_all (polErr_ok hok).2.2
  have hn120 := (polErr_ok hok).1
  obtain ⟨rs, d⟩ := p
  obtain ⟨rv, rfl, _, a, cap, rfl, hlc, hcm, hrs⟩ := hp
  simp only [] at hrs hlc hro hn120
  have hrs' : Hid (∀ (i : Nat) (r : RuleT), rs[i]? = some r → ∃ b o, a = some ⟨b, o, none⟩ ∧ b < B ∧ RuleAt B w b (o + i * 2) r) := hrs
  clear hrs
  have Hend : Hid (backAt (rs, d) x rs.length = (d, (rs.length : Int))) := backAt_end (rs, d) x
  have Hstep : Hid (∀ (m : Nat) r, rs[m]? = some r → backAt (rs, d) x m = if ruleOk x r = true then (r.2, (m : Int)) else backAt (rs, d) x (m + 1)) := fun m r h => backAt_step (rs, d) x m r h
  show Calls Tryz.prog 221 #[.agg #[.slice a rs.length cap, .int .i64 d], .agg #[.int .i64 (x 0), .int .i64 (x 1), .int .i64 (x 2), .int .i64 (x 3), .int .i64 (x 4)]] w _
  have HW : Hid (∀ w', Below (w.heap.size + 2) ((w.alloc (.cells #[.slice a rs.length cap, .int .i64 d] 24)).alloc (.cells #[.int .i64 (x 0), .int .i64 (x 1), .int .i64 (x 2), .int .i64 (x 3), .int .i64 (x 4)] 26)) w' → w'.cell? ⟨w.heap.size, 0, none⟩ = some (.slice a rs.length cap) ∧ XAt w' (w.heap.size + 1) x ∧ Below w.heap.size w w') := by
    intro w' h
    refine ⟨(h.cell (p := ⟨w.heap.size, 0, none⟩) (by simp)).trans (by simp [go_sem]), ?_, ?_⟩
    · have := (XAt.made x (w.alloc (.cells #[.slice a rs.length cap, .int .i64 d] 24)) 26)
      rw [World.size_alloc] at this
      exact this.later h (by omega)
    · exact (((Below.refl _ _).alloc (Nat.le_refl _) _).alloc (by simp) _).trans (h.mono (by omega))
  have HW0 : Below (w.heap.size + 2) ((w.alloc (.cells #[.slice a rs.length cap, .int .i64 d] 24)).alloc (.cells #[.int .i64 (x 0), .int .i64 (x 1), .int .i64 (x 2), .int .i64 (x 3), .int .i64 (x 4)] 26)) ((w.alloc (.cells #[.slice a rs.length cap, .int .i64 d] 24)).alloc (.cells #[.int .i64 (x 0), .int .i64 (x 1), .int .i64 (x 2), .int .i64 (x 3), .int .i64 (x 4)] 26)) := Below.refl _ _
  have HWs : w.heap.size + 2 ≤ ((w.alloc (.cells #[.slice a rs.length cap, .int .i64 d] 24)).alloc (.cells #[.int .i64 (x 0), .int .i64 (x 1), .int .i64 (x 2), .int .i64 (x 3), .int .i64 (x 4)] 26)).heap.size := by simp
  generalize hn : rs.length = n at *
  go_enter Tryz.func221, Tryz.ntmps221
  go_wp2
  go_quiet (fail)
  go_wp2
  go_loopw [8, 6, 7] (fun i vv kk wr => ∃ m : Nat, m ≤ n ∧ i = .int .i64 ((m : Int) - 1) ∧ vv = .int .i64 (backAt (rs, d) x m).1 ∧ kk = .int .i64 (backAt (rs, d) x m).2 ∧ Below (w.heap.size + 2) ((w.alloc (.cells #[.slice a n cap, .int .i64 d] 24)).alloc (.cells #[.int .i64 (x 0), .int .i64 (x 1), .int .i64 (x 2), .int .i64 (x 3), .int .i64 (x 4)] 26)) wr) (fun i _ _ _ => (intOf i + 1).toNat)
  case atStart =>
    refine ⟨n, by omega, by go_num, by rw [Hend.out], by rw [Hend.out], Below.drewN_ HW0 _⟩
  case round =>
    obtain ⟨m, hm, rfl, rfl, rfl, hbr⟩ := hrel
    obtain ⟨wo, hwo⟩ : ∃ x, x = wr := ⟨_, rfl⟩
    subst hwo
    obtain ⟨p0, hX, hbw⟩ := HW.out _ hbr
    have hX' : Hid (XAt wo (w.heap.size + 1) x) := hX
    clear hX
    by_cases hm0 : m = 0
    · subst hm0
      go_wp2
      go_ret2
      exact ⟨by rw [hfin.out]; rfl, hbw⟩
    · obtain ⟨k, rfl⟩ : ∃ k, m = k + 1 := ⟨m - 1, by omega⟩
      have e1 : ((k + 1 : Nat) : Int) - 1 = (k : Int) := by omega
      rw [e1]
      have i0 : (0 : Int) ≤ (k : Int) := by omega
      have i1 : (k : Int) < (n : Int) := by omega
      obtain ⟨r, hrk⟩ : ∃ r, rs[k]? = some r := ⟨rs[k]'(by omega), by simp⟩
      have hre := hro r (List.mem_of_getElem? hrk)
      have S := Hstep.out k r hrk
      have S' : Hid _ := S
      clear S
      obtain ⟨b, o, rfl, hbB, hat⟩ := hrs'.out k r hrk
      have hsz := hbw.size
      have hszo := hbr.size
      have hz2 : w.heap.size + 2 ≤ wo.heap.size := Nat.le_trans HWs hszo
      obtain ⟨cv, c0, c1, w0, hcon⟩ := hat.later hbw hB hbB
      obtain ⟨cs, vd⟩ := r
      obtain ⟨a2, cap2, rfl, hlc2, hcm2, hcs⟩ := hcon
      simp only [] at hcs hlc2 c0 c1
      have hce : ∀ c ∈ cs, condErr c = 0 := condsErr_all (ruleErr_ok hre).2.2
      have hcl : cs.length ≤ 10 := (ruleErr_ok hre).1
      have hcs' : Hid (∀ (i : Nat) (c : CondT), cs[i]? = some c → ∃ b o, a2 = some ⟨b, o, none⟩ ∧ b < B ∧ CondAt wo b (o + i * 3) c) := hcs
      clear hcs hat hrk
      have HA : Hid (ruleOk x (cs, vd) = (cs.take cs.length).all (condOk x)) := by unfold Hid ruleOk; simp
      generalize hmm : cs.length = m2 at *
      go_wp2
      go_loopw [32, 9] (fun i al wi => ∃ j : Nat, j ≤ m2 ∧ i = .int .i64 j ∧ al = .bool ((cs.take j).all (condOk x)) ∧ Below wo.heap.size wo wi) (fun i _ _ => m2 - (intOf i).toNat)
      case atStart => exact ⟨0, by omega, rfl, by simp, Below.refl _ _⟩
      case round =>
        obtain ⟨j, hj, rfl, rfl, hbi⟩ := hrel
        obtain ⟨wi, hwi⟩ : ∃ x, x = wr := ⟨_, rfl⟩
        subst hwi
        have j0 : (0 : Int) ≤ (j : Int) := by omega
        have hszi := hbi.size
        by_cases hlt : j < m2
        · have j1 : (j : Int) < (m2 : Int) := by omega
          obtain ⟨c, hcj⟩ : ∃ c, cs[j]? = some c := ⟨cs[j]'(by omega), by simp⟩
          have T := all_take (condOk x) cs j c hcj
          have T' : Hid _ := T
          clear T
          have hc0 := condErr_ok (hce c (List.mem_of_getElem? hcj))
          obtain ⟨b2, o2, rfl, hbB2, hat2⟩ := hcs'.out j c hcj
          clear hcj
          obtain ⟨f, op, v⟩ := c
          simp only [] at hc0
          obtain ⟨e0, e1, e2, w0, w1, w2⟩ := hat2.later hbi (by omega)
          simp only [] at e0 e1 e2
          clear hat2
          obtain ⟨kf, rfl⟩ : ∃ kf : Nat, f = kf := ⟨f.toNat, by omega⟩
          have f0 : (0 : Int) ≤ (kf : Int) := by omega
          have f1 : (kf : Int) < 5 := by omega
          have hop := hc0.2.1
          go_wp2
          have hC := cells3 (kf : Int) op v wi 99
          have hbW : Below wi.heap.size wi (wi.alloc (.cells #[.int .i64 (kf : Int), .int .i64 op, .int .i64 v] 99)) := (Below.refl _ _).alloc (Nat.le_refl _) _
          have hz : (wi.alloc (.cells #[.int .i64 (kf : Int), .int .i64 op, .int .i64 v] 99)).heap.size = wi.heap.size + 1 := by simp
          generalize wi.alloc (.cells #[.int .i64 (kf : Int), .int .i64 op, .int .i64 v] 99) = W at *
          have hne := Later.ne W
          have q0 : ∀ y : Later W, y.1.cell? ⟨wi.heap.size, 0, none⟩ = some (.int .i64 (kf : Int)) := fun y => y.cell hC.1 (by omega)
          have q1 : ∀ y : Later W, y.1.cell? ⟨wi.heap.size, 1, none⟩ = some (.int .i64 op) := fun y => y.cell hC.2.1 (by omega)
          have q2 : ∀ y : Later W, y.1.cell? ⟨wi.heap.size, 2, none⟩ = some (.int .i64 v) := fun y => y.cell hC.2.2 (by omega)
          have hXi : XAt W (w.heap.size + 1) x := (hX'.out.later hbi (by omega)).later hbW (by omega)
          have q3 : ∀ y : Later W, y.1.cell? ⟨w.heap.size + 1, kf, none⟩ = some (.int .i64 (x kf)) := fun y => y.cell (hXi kf (by omega)) (by omega)
          have hst : Hid (∀ wx, Below W.heap.size W wx → Below wo.heap.size wo wx) := fun wx hx => Below.thenOf (Below.thenOf hbi hbW hszi) hx (by omega)
          have hcO : Hid (condOk x ((kf : Int), op, v) = holdsB op v (x kf)) := by unfold Hid condOk; simp
          clear hC hXi
          by_cases hal : (cs.take j).all (condOk x) = true
          · rw [hal]
            refine wp_region_later (by kernel_rfl) (by kernel_rfl) ?_
            repeat (go_big_quiet_step (first | (go_at_call 255; exact Calls.later (holdsR_any _ _ _ _ hop _))))
            refine wpQuiet_nil ?_
            rintro wx ⟨⟨_, hx⟩, rfl⟩
            have g1 := hst.out wx hx
            clear q0 q1 q2 q3 hne
            go_wp2
            exact ⟨⟨j + 1, by omega, by go_num, by rw [T'.out, hal, hcO.out]; simp, g1⟩, by simp [intOf]; omega⟩
          · have hal' : (cs.take j).all (condOk x) = false := by simpa using hal
            rw [hal']
            clear hal
            refine wp_region_later (by kernel_rfl) (by kernel_rfl) ?_
            repeat (go_big_quiet_step (first | (go_at_call 255; exact Calls.later (holdsR_any _ _ _ _ hop _))))
            refine wpQuiet_nil ?_
            rintro wx ⟨⟨_, hx⟩, rfl⟩
            have g1 := hst.out wx hx
            clear q0 q1 q2 q3 hne
            go_wp2
            exact ⟨⟨j + 1, by omega, by go_num, by rw [T'.out, hal']; simp, g1⟩, by simp [intOf]; omega⟩
        · obtain rfl : j = m2 := by omega
          have hbwi := Below.thenOf hbr hbi hz2
          obtain ⟨p1, _, _⟩ := HW.out _ hbwi
          have d1 : wi.cell? ⟨b, o + k * 2 + 1, none⟩ = some (.int .i64 vd) := (hbi.cell (p := ⟨b, o + k * 2 + 1, none⟩) (by show b < _; omega)).trans c1
          by_cases hal : (cs.take j).all (condOk x) = true
          · have hS : Hid (backAt (rs, d) x k = (vd, (k : Int))) := by unfold Hid; rw [S'.out, if_pos (by rw [HA.out]; exact hal)]
            rw [hal]
            go_wp2
            exact ⟨⟨k, by omega, by go_num, by rw [hS.out], by rw [hS.out], hbwi⟩, by simp [intOf]⟩
          · have hal' : (cs.take j).all (condOk x) = false := by simpa using hal
            have hS : Hid (backAt (rs, d) x k = backAt (rs, d) x (k + 1)) := by unfold Hid; rw [S'.out, if_neg (by rw [HA.out]; exact hal)]
            rw [hal']
            clear hal
            go_wp2
            exact ⟨⟨k, by omega, by go_num, by rw [hS.out], by rw [hS.out], hbwi⟩, by simp [intOf]⟩

end Go.Proofs.YtbdlojnigflanacGreatDoor
end
section
/- The closed facts: the written policy, and what is judged by it. -/
set_option linter.all false
namespace Go.Proofs.YtbdlojnigflanacGreatDoor
open Go.RowKit Go.Maps

def writtenS : ByteArray := ⟨#[107, 105, 108, 108, 32, 110, 114, 61, 51, 32, 97, 60, 53, 59, 108, 111, 103, 32, 107, 105, 110, 100, 33, 48, 59, 97, 108, 108, 111, 119]⟩
def madeRs : List RuleT := [([(0, 1, 3), (2, 3, 5)], 0), ([(1, 2, 0)], 3)]
def madeP : PolT := (madeRs, 4)

theorem isKeyS (l : List UInt8) : WideAt.IsKeyLit (.string l) := by simp [WideAt.IsKeyLit]
theorem isKeyB (z : Int) : WideAt.IsKeyLit (.int .u8 z) := by simp [WideAt.IsKeyLit]
theorem strNe {a b : List UInt8} (h : a ≠ b) : Lit.string a ≠ Lit.string b := by simpa using h
theorem intNe {a b : Int} (h : a ≠ b) : Lit.int .u8 a ≠ Lit.int .u8 b := by simpa using h

theorem d1_kill : Maps.has D1 (.string [107, 105, 108, 108]) = true ∧ D1.atKey (.string [107, 105, 108, 108]) zed = .lit (.int .i64 0) := by
  unfold D1 zed
  rw [Maps.has_put_other (strNe (by decide)), Maps.has_put_other (strNe (by decide)), Maps.has_put_other (strNe (by decide)), Maps.has_put_other (strNe (by decide)), Maps.atKey_put_other (strNe (by decide)), Maps.atKey_put_other (strNe (by decide)), Maps.atKey_put_other (strNe (by decide)), Maps.atKey_put_other (strNe (by decide))]
  exact ⟨Maps.has_put_same Maps.isMap_empty (isKeyS _) _, Maps.atKey_put_same Maps.isMap_empty (isKeyS _) _ _⟩
theorem d1_log : Maps.has D1 (.string [108, 111, 103]) = true ∧ D1.atKey (.string [108, 111, 103]) zed = .lit (.int .i64 3) := by
  unfold D1 zed
  rw [Maps.has_put_other (strNe (by decide)), Maps.atKey_put_other (strNe (by decide))]
  exact ⟨Maps.has_put_same (((Maps.isMap_empty.put _ _).put _ _).put _ _) (isKeyS _) _, Maps.atKey_put_same (((Maps.isMap_empty.put _ _).put _ _).put _ _) (isKeyS _) _ _⟩
theorem d1_allow : Maps.has D1 (.string [97, 108, 108, 111, 119]) = true ∧ D1.atKey (.string [97, 108, 108, 111, 119]) zed = .lit (.int .i64 4) := by
  unfold D1 zed
  exact ⟨Maps.has_put_same ((((Maps.isMap_empty.put _ _).put _ _).put _ _).put _ _) (isKeyS _) _, Maps.atKey_put_same ((((Maps.isMap_empty.put _ _).put _ _).put _ _).put _ _) (isKeyS _) _ _⟩
theorem d2_nr : Maps.has D2 (.string [110, 114]) = true ∧ D2.atKey (.string [110, 114]) zed = .lit (.int .i64 0) := by
  unfold D2 zed
  rw [Maps.has_put_other (strNe (by decide)), Maps.has_put_other (strNe (by decide)), Maps.has_put_other (strNe (by decide)), Maps.has_put_other (strNe (by decide)), Maps.atKey_put_other (strNe (by decide)), Maps.atKey_put_other (strNe (by decide)), Maps.atKey_put_other (strNe (by decide)), Maps.atKey_put_other (strNe (by decide))]
  exact ⟨Maps.has_put_same Maps.isMap_empty (isKeyS _) _, Maps.atKey_put_same Maps.isMap_empty (isKeyS _) _ _⟩
theorem d2_kind : Maps.has D2 (.string [107, 105, 110, 100]) = true ∧ D2.atKey (.string [107, 105, 110, 100]) zed = .lit (.int .i64 1) := by
  unfold D2 zed
  rw [Maps.has_put_other (strNe (by decide)), Maps.has_put_other (strNe (by decide)), Maps.has_put_other (strNe (by decide)), Maps.atKey_put_other (strNe (by decide)), Maps.atKey_put_other (strNe (by decide)), Maps.atKey_put_other (strNe (by decide))]
  exact ⟨Maps.has_put_same (Maps.isMap_empty.put _ _) (isKeyS _) _, Maps.atKey_put_same (Maps.isMap_empty.put _ _) (isKeyS _) _ _⟩
theorem d2_a : Maps.has D2 (.string [97]) = true ∧ D2.atKey (.string [97]) zed = .lit (.int .i64 2) := by
  unfold D2 zed
  rw [Maps.has_put_other (strNe (by decide)), Maps.has_put_other (strNe (by decide)), Maps.atKey_put_other (strNe (by decide)), Maps.atKey_put_other (strNe (by decide))]
  exact ⟨Maps.has_put_same ((Maps.isMap_empty.put _ _).put _ _) (isKeyS _) _, Maps.atKey_put_same ((Maps.isMap_empty.put _ _).put _ _) (isKeyS _) _ _⟩
theorem d3_other (z : Int) (h : z ≠ 61 ∧ z ≠ 33 ∧ z ≠ 60 ∧ z ≠ 62) : D3.atKey (.int .u8 z) zed = zed := by
  unfold D3
  rw [Maps.atKey_put_other (intNe h.2.2.2), Maps.atKey_put_other (intNe h.2.2.1), Maps.atKey_put_other (intNe h.2.1), Maps.atKey_put_other (intNe h.1)]
  rfl
theorem d3_is : D3.atKey (.int .u8 61) zed = .lit (.int .i64 1) := by
  unfold D3 zed
  rw [Maps.atKey_put_other (intNe (by decide)), Maps.atKey_put_other (intNe (by decide)), Maps.atKey_put_other (intNe (by decide))]
  exact Maps.atKey_put_same Maps.isMap_empty (isKeyB _) _ _
theorem d3_isnt : D3.atKey (.int .u8 33) zed = .lit (.int .i64 2) := by
  unfold D3 zed
  rw [Maps.atKey_put_other (intNe (by decide)), Maps.atKey_put_other (intNe (by decide))]
  exact Maps.atKey_put_same (Maps.isMap_empty.put _ _) (isKeyB _) _ _
theorem d3_below : D3.atKey (.int .u8 60) zed = .lit (.int .i64 3) := by
  unfold D3 zed
  rw [Maps.atKey_put_other (intNe (by decide))]
  exact Maps.atKey_put_same ((Maps.isMap_empty.put _ _).put _ _) (isKeyB _) _ _

theorem goodNr : GoodWord ⟨#[110, 114, 61, 51]⟩ (0, 1, 3) := by
  refine ⟨2, 3, by decide, by decide, fun i hi => ?_, d3_is, by decide, d2_nr.1, d2_nr.2, rfl, by decide, by decide, by decide +kernel⟩
  have : i = 0 ∨ i = 1 := by omega
  rcases this with rfl | rfl <;> exact d3_other _ (by decide)
theorem goodA : GoodWord ⟨#[97, 60, 53]⟩ (2, 3, 5) := by
  refine ⟨1, 5, by decide, by decide, fun i hi => ?_, d3_below, by decide, d2_a.1, d2_a.2, rfl, by decide, by decide, by decide +kernel⟩
  obtain rfl : i = 0 := by omega
  exact d3_other _ (by decide)
theorem goodKind : GoodWord ⟨#[107, 105, 110, 100, 33, 48]⟩ (1, 2, 0) := by
  refine ⟨4, 0, by decide, by decide, fun i hi => ?_, d3_isnt, by decide, d2_kind.1, d2_kind.2, rfl, by decide, by decide, by decide +kernel⟩
  have : i = 0 ∨ i = 1 ∨ i = 2 ∨ i = 3 := by omega
  rcases this with rfl | rfl | rfl | rfl <;> exact d3_other _ (by decide)

theorem goodKill : GoodRule ⟨#[107, 105, 108, 108, 32, 110, 114, 61, 51, 32, 97, 60, 53]⟩ ([(0, 1, 3), (2, 3, 5)], 0) := by
  refine ⟨⟨#[107, 105, 108, 108]⟩, [⟨#[110, 114, 61, 51]⟩, ⟨#[97, 60, 53]⟩], by decide +kernel, by decide +kernel, by decide, d1_kill.1, d1_kill.2, by decide, rfl, by decide, fun j u c hu hc => ?_⟩
  match j, hu, hc with
  | 0, hu, hc => simp at hu hc; subst hu hc; exact goodNr
  | 1, hu, hc => simp at hu hc; subst hu hc; exact goodA
  | j + 2, hu, hc => simp at hu
theorem goodLog : GoodRule ⟨#[108, 111, 103, 32, 107, 105, 110, 100, 33, 48]⟩ ([(1, 2, 0)], 3) := by
  refine ⟨⟨#[108, 111, 103]⟩, [⟨#[107, 105, 110, 100, 33, 48]⟩], by decide +kernel, by decide +kernel, by decide, d1_log.1, d1_log.2, by decide, rfl, by decide, fun j u c hu hc => ?_⟩
  match j, hu, hc with
  | 0, hu, hc => simp at hu hc; subst hu hc; exact goodKind
  | j + 1, hu, hc => simp at hu
theorem goodWritten : GoodText 4 madeRs writtenS := by
  refine ⟨⟨#[107, 105, 108, 108, 32, 110, 114, 61, 51, 32, 97, 60, 53]⟩, ⟨#[108, 111, 103, 32, 107, 105, 110, 100, 33, 48, 59, 97, 108, 108, 111, 119]⟩, by decide, by decide +kernel, by decide, goodKill, ?_⟩
  refine ⟨⟨#[108, 111, 103, 32, 107, 105, 110, 100, 33, 48]⟩, ⟨#[97, 108, 108, 111, 119]⟩, by decide, by decide +kernel, by decide, goodLog, ?_⟩
  exact ⟨by decide, by decide +kernel, by decide +kernel, by decide +kernel, d1_allow.1, d1_allow.2⟩
theorem madeOk : polErr madeP = 0 := by decide

set_option maxHeartbeats 1000000 in
theorem made_any (w : World) (he : EnvAt w) :
    Calls Tryz.prog 58 #[] w fun e w' => ∃ pv, e = .returned pv ∧ PolNew w.heap.size w' pv madeP ∧ Below w.heap.size w w' := by
  have hrd : Hid (∀ X, Calls Tryz.prog 86 #[.string writtenS] (w.alloc X) fun e w' => ∃ pv, e = .returned (.tuple #[pv, .int .i64 0]) ∧ PolNew (w.heap.size + 1) w' pv madeP ∧ Below (w.alloc X).heap.size (w.alloc X) w') := by
    intro X
    obtain ⟨mm, hm⟩ := he.later ((Below.refl _ _).alloc (Nat.le_refl _) X)
    have := policyRead_good writtenS madeRs 4 goodWritten (verdictWf (by decide)) madeOk mm _ hm
    refine this.mono fun e w' ⟨pv, h1, h2, h3⟩ => ⟨pv, h1, ?_, h3⟩
    rw [World.size_alloc] at h2
    exact h2
  have hb : ∀ X, Below w.heap.size w (w.alloc X) := fun X => (Below.refl _ _).alloc (Nat.le_refl _) _
  go_enter Tryz.func58, Tryz.ntmps58
  go_wp2_with (first | (go_at_call 86; go_must (refine Calls.mono (hrd.out _) ?_; rintro e w1 ⟨pv, rfl, hp, hb1⟩; have hp' : Hid (PolNew (w.heap.size + 1) w1 pv madeP) := hp; obtain ⟨rv, rfl, hwf, hr⟩ := hp.at; obtain ⟨ra, rcap, rfl, _, _, _⟩ := hr; have hs1 := hb1.size; have HR1 := (hb1.block w.heap.size (by simp)).trans (MapKept.heap_alloc w _).1; have HR2 : ∀ X, (w1.alloc X).heap[w.heap.size]? = some (.cells #[.slice none 0 0, .int .i64 0] 24 (0, 0)) := fun X => (Below.heap_alloc _ _ _ (by simp at hs1; omega)).trans HR1; have t0 : ∀ X, (w1.alloc X).cell? ⟨w.heap.size, 0, none⟩ = some (.slice none 0 0) := fun X => (cell_of_two (HR2 X)).1; have t1 : ∀ X, (w1.alloc X).cell? ⟨w.heap.size, 1, none⟩ = some (.int .i64 0) := fun X => (cell_of_two (HR2 X)).2.1; have t2 : ∀ X, (w1.alloc X).frozen? ⟨w.heap.size, 0, none⟩ = false := fun X => (cell_of_two (HR2 X)).2.2.1; have t3 : ∀ X, (w1.alloc X).frozen? ⟨w.heap.size, 1, none⟩ = false := fun X => (cell_of_two (HR2 X)).2.2.2)))
  have hbF : Below w.heap.size w (((w1.alloc (.cells #[.slice ra madeP.1.length rcap, .int .i64 madeP.2] 24)).setCell ⟨w.heap.size, 0, none⟩ (.slice ra madeP.1.length rcap)).setCell ⟨w.heap.size, 1, none⟩ (.int .i64 madeP.2)) := (((((hb _).trans (hb1.mono (by simp))).alloc (by simp at hs1; omega) _).setCell (p := ⟨w.heap.size, 0, none⟩) (Nat.le_refl _) _).setCell (p := ⟨w.heap.size, 1, none⟩) (Nat.le_refl _) _)
  have HRF := two_setCell1 (u := .int .i64 madeP.2) (two_setCell (u := .slice ra madeP.1.length rcap) (HR2 (.cells #[.slice ra madeP.1.length rcap, .int .i64 madeP.2] 24)))
  obtain ⟨z0, z1, _, _⟩ := cell_of_two HRF
  refine bodyPost_ret (v := .agg #[.slice ra madeP.1.length rcap, .int .i64 madeP.2]) ?_ rfl ⟨_, rfl, fun wF l1 l2 => hp'.out wF (fun g h1 h2 => (l1 g (by omega) (by simp; omega)).trans ?_) (Nat.le_trans (by simp) l2), hbF⟩
  · rw [results_cell1 rfl]
    go_simp
  · rw [Below.heap_setCell _ _ _ _ (by show g ≠ w.heap.size; omega), Below.heap_setCell _ _ _ _ (by show g ≠ w.heap.size; omega), Below.heap_alloc _ _ _ h2]

end Go.Proofs.YtbdlojnigflanacGreatDoor
end
