/- Joined: Kep0 Chn2 Cod Cod2 Ref. -/
import Derived.Test.YtbdlojnigflanacGreatDoorKa16
import Derived.Test.YtbdlojnigflanacGreatDoorKa07
section
/- Sessions: plain data; what a record makes of them, and that each chain says what its policy says. -/
set_option linter.all false
set_option maxRecDepth 100000
namespace Go.Proofs.YtbdlojnigflanacGreatDoor

abbrev CellT := Bool × ChT × PolT
instance decCell : DecidableEq CellT := @instDecidableEqProd _ _ inferInstance (@instDecidableEqProd _ _ (inferInstance : DecidableEq ChT) decPol)
def zeroCell : CellT := (false, [], [], 0)
def cellErr (c : CellT) : Int := if c.1 ≠ decide (0 < c.2.1.length) ∨ (c.1 = false ∧ ¬ (c.2.2.2 = 0 ∧ c.2.2.1 = [])) then 4 else if c.1 = false then 0 else if chainErr c.2.1 = 0 then polErr c.2.2 else chainErr c.2.1
def cellsErr1 : List CellT → Int
  | [] => 0
  | c :: r => if cellErr c = 0 then cellsErr1 r else cellErr c
def cellsErr (l : List CellT) : Int := if l.length = 4 then cellsErr1 l else 4
theorem cellsErr1_ok : ∀ {l : List CellT}, cellsErr1 l = 0 ↔ ∀ c ∈ l, cellErr c = 0
  | [] => by simp [cellsErr1]
  | c :: r => by
    unfold cellsErr1
    by_cases h : cellErr c = 0
    · rw [if_pos h, cellsErr1_ok]
      simp [h]
    · rw [if_neg h]
      constructor
      · intro h'
        exact absurd h' h
      · intro h'
        exact absurd (h' c (by simp)) h
theorem cellsErr1_drop (l : List CellT) (k : Nat) (c : CellT) (h : l[k]? = some c) : cellsErr1 (l.drop k) = if cellErr c = 0 then cellsErr1 (l.drop (k + 1)) else cellErr c := by
  obtain ⟨hk, rfl⟩ := List.getElem?_eq_some_iff.1 h
  rw [List.drop_eq_getElem_cons hk]
  rfl
theorem cellsErr_ok {l : List CellT} : cellsErr l = 0 ↔ l.length = 4 ∧ ∀ c ∈ l, cellErr c = 0 := by
  unfold cellsErr
  by_cases h : l.length = 4
  · rw [if_pos h, cellsErr1_ok]
    simp [h]
  · rw [if_neg h]
    constructor
    · intro h'
      omega
    · intro h'
      exact absurd h'.1 h

def cellAt (l : List CellT) (k : Int) : CellT := l.getD k.toNat zeroCell
def openC (p : PolT) : CellT × Int := if compE p = 0 then ((true, [polI p], p), 0) else (zeroCell, compE p)
def nextC (l : List CellT) (r : RecT) : CellT × Int :=
  if r.1 = 3 then (if (cellAt l r.2.2.1).1 = true then openC (cellAt l r.2.2.1).2.2 else (zeroCell, 5))
  else if r.1 = 1 then openC r.2.2.2
  else if r.1 = 2 then (if tightE (cellAt l r.2.1).2.1 (cellAt l r.2.1).2.2 r.2.2.2 = 0 then ((true, tightR (cellAt l r.2.1).2.1 (cellAt l r.2.1).2.2 r.2.2.2, r.2.2.2), 0) else (zeroCell, tightE (cellAt l r.2.1).2.1 (cellAt l r.2.1).2.2 r.2.2.2))
  else (zeroCell, 0)
def nextE (l : List CellT) (r : RecT) : Int := if cellsErr l = 0 then (if recErr r = 0 then (if decide (r.1 = 1 ∨ r.1 = 3) = (cellAt l r.2.1).1 then 6 else (nextC l r).2) else recErr r) else cellsErr l
def nextR (l : List CellT) (r : RecT) : List CellT := if nextE l r = 0 then l.set r.2.1.toNat (nextC l r).1 else []
def newCells : List CellT := [zeroCell, zeroCell, zeroCell, zeroCell]
def replayS (s : List CellT × Int) (r : RecT) : List CellT × Int := if s.2 = 0 then (if nextE s.1 r = 0 then (nextR s.1 r, 0) else ([], nextE s.1 r)) else s
def replayP (rs : List RecT) : List CellT × Int := if 40 < rs.length then ([], 2) else rs.foldl replayS (newCells, 0)

theorem replayS_bad : ∀ (rs : List RecT) (e : Int), e ≠ 0 → rs.foldl replayS ([], e) = ([], e)
  | [], _, _ => rfl
  | r :: rs, e, h => by
    rw [List.foldl_cons]
    have : replayS ([], e) r = ([], e) := by unfold replayS; rw [if_neg h]
    rw [this]
    exact replayS_bad rs e h
theorem next_ok {l : List CellT} {r : RecT} (h : nextE l r = 0) : cellsErr l = 0 ∧ recErr r = 0 ∧ decide (r.1 = 1 ∨ r.1 = 3) ≠ (cellAt l r.2.1).1 ∧ (nextC l r).2 = 0 := by
  unfold nextE at h
  by_cases h1 : cellsErr l = 0
  · rw [if_pos h1] at h
    by_cases h2 : recErr r = 0
    · rw [if_pos h2] at h
      by_cases h3 : decide (r.1 = 1 ∨ r.1 = 3) = (cellAt l r.2.1).1
      · rw [if_pos h3] at h; cases h
      · rw [if_neg h3] at h
        exact ⟨h1, h2, h3, h⟩
    · rw [if_neg h2] at h
      exact absurd h h2
  · rw [if_neg h1] at h
    exact absurd h h1
theorem next_set {l : List CellT} {r : RecT} (h : nextE l r = 0) : nextR l r = l.set r.2.1.toNat (nextC l r).1 := by rw [nextR, if_pos h]

/-- A session whose chain says what its policy says. -/
def CellOk (c : CellT) : Prop := cellErr c = 0 ∧ (c.1 = true → ∀ x : Nat → Int, chkx x = 0 → askF x 4 c.2.1 = vP c.2.2 x)
theorem cellErr_of {c : CellT} (ho : c.1 = true) (h1 : chainErr c.2.1 = 0) (h2 : polErr c.2.2 = 0) (hl : 0 < c.2.1.length) : cellErr c = 0 := by
  unfold cellErr
  rw [if_neg (by rw [ho]; simp; exact List.ne_nil_of_length_pos hl), if_neg (by rw [ho]; simp), if_pos h1, h2]
theorem zero_ok : CellOk zeroCell := ⟨by decide, fun h => by cases h⟩
theorem compE_ok {p : PolT} (h : compE p = 0) : polErr p = 0 ∧ codeErr (polI p) = 0 := by
  unfold compE at h
  split at h
  · rename_i hp
    refine ⟨hp, ?_⟩
    rw [codeErr_pol hp]
    exact h
  · rename_i hp
    exact absurd h hp
theorem askF_one {p : PolT} (hp : polErr p = 0) {x : Nat → Int} (hx : chkx x = 0) : askF x 4 [polI p] = vP p x := by
  show (if (runs x 0 0 (polI p)).1 < 4 then (runs x 0 0 (polI p)).1 else 4) = vP p x
  rw [runs_pol hp hx]
  have e1 : (judgeP p x).1 = vP p x := rfl
  have := vP_le hp hx
  rw [e1]
  split <;> omega
theorem open_ok {p : PolT} (h : (openC p).2 = 0) : openC p = ((true, [polI p], p), 0) ∧ CellOk (true, [polI p], p) ∧ compE p = 0 := by
  unfold openC at h ⊢
  by_cases hc : compE p = 0
  · obtain ⟨hp, hcd⟩ := compE_ok hc
    rw [if_pos hc]
    refine ⟨rfl, ⟨cellErr_of rfl (chainErr_ok.2 ⟨by simp, fun f hf => ?_⟩) hp (by simp), fun _ x hx => askF_one hp hx⟩, hc⟩
    simp at hf
    rw [hf]
    exact hcd
  · rw [if_neg hc] at h
    exact absurd h hc
/-- Of a chain that says what a policy says, tightened. -/
theorem tight_gen {ls : ChT} {p q : PolT} (h : tightE ls p q = 0) : chainErr ls = 0 ∧ chainErr (tightR ls p q) = 0 ∧ tightR ls p q = ls ++ [polI (deltaR p q)] ∧ polErr q = 0 ∧ pointsE [q, p] = 0 ∧ looserP q p = none ∧ ∀ x, chkx x = 0 → askF x 4 ls = vP p x → askF x 4 (tightR ls p q) = vP q x := by
  have hr : tightR ls p q = ls ++ [polI (deltaR p q)] := by rw [tightR, if_pos h]
  unfold tightE at h
  split at h
  · rename_i h1
    split at h
    · rename_i h2
      split at h
      · cases h
      · rename_i h6
        obtain ⟨hpts, hlo, -, -, -, hp, hq, -, hd⟩ := delta_ok h2
        have hcd := (compE_ok h).2
        have hch : chainErr (ls ++ [polI (deltaR p q)]) = 0 := by
          obtain ⟨hl, hall⟩ := chainErr_ok.1 h1
          refine chainErr_ok.2 ⟨by simp; omega, fun f hf => ?_⟩
          rcases List.mem_append.1 hf with hf | hf
          · exact hall f hf
          · simp at hf
            rw [hf]
            exact hcd
        rw [hr]
        refine ⟨h1, hch, rfl, hq, hpts, hlo, fun x hx ha => ?_⟩
        obtain ⟨hle, hsay⟩ := delta_says h2 hx
        rw [askF_both, ha, askF_one hd hx, hsay]
        have := vP_le hp hx
        have := vP_le hq hx
        split <;> omega
    · rename_i h2
      exact absurd h h2
  · rename_i h1
    exact absurd h h1

def Good (l : List CellT) : Prop := l.length = 4 ∧ ∀ c ∈ l, CellOk c
theorem cellAt_mem {l : List CellT} {k : Int} (h : l.length = 4) (hk : 0 ≤ k ∧ k ≤ 3) : cellAt l k ∈ l := by
  have hlt : k.toNat < l.length := by omega
  unfold cellAt
  rw [List.getD_eq_getElem?_getD, List.getElem?_eq_getElem hlt]
  simp
theorem rec_cells {r : RecT} (h : recErr r = 0) : (0 ≤ r.2.1 ∧ r.2.1 ≤ 3) ∧ 0 ≤ r.2.2.1 ∧ r.2.2.1 ≤ 3 := by
  obtain ⟨_, h2, h3, _⟩ := recErr_ok h
  exact ⟨h2, h3.1, h3.2⟩
/-- What a record makes of its own session. -/
theorem next_cell {l : List CellT} {r : RecT} (hg : Good l) (h : nextE l r = 0) : CellOk (nextC l r).1 := by
  obtain ⟨h1, h2, h3, h4⟩ := next_ok h
  obtain ⟨hc, hf⟩ := rec_cells h2
  unfold nextC at h4 ⊢
  by_cases k3 : r.1 = 3
  · rw [if_pos k3] at h4 ⊢
    by_cases ho : (cellAt l r.2.2.1).1 = true
    · rw [if_pos ho] at h4 ⊢
      obtain ⟨e, hk, -⟩ := open_ok h4
      rw [e]
      exact hk
    · rw [if_neg ho] at h4
      cases h4
  · rw [if_neg k3] at h4 ⊢
    by_cases k1 : r.1 = 1
    · rw [if_pos k1] at h4 ⊢
      obtain ⟨e, hk, -⟩ := open_ok h4
      rw [e]
      exact hk
    · rw [if_neg k1] at h4 ⊢
      by_cases k2 : r.1 = 2
      · rw [if_pos k2] at h4 ⊢
        by_cases ht : tightE (cellAt l r.2.1).2.1 (cellAt l r.2.1).2.2 r.2.2.2 = 0
        · rw [if_pos ht]
          have ho : (cellAt l r.2.1).1 = true := by
            have : decide (r.1 = 1 ∨ r.1 = 3) = false := by simp [k1, k3]
            rw [this] at h3
            cases hb : (cellAt l r.2.1).1 with
            | true => rfl
            | false => rw [hb] at h3; exact absurd rfl h3
          obtain ⟨g1, g2, g3, g4, -, -, g5⟩ := tight_gen ht
          have hk := hg.2 _ (cellAt_mem hg.1 hc)
          exact ⟨cellErr_of rfl g2 g4 (by rw [g3]; simp), fun _ x hx => g5 x hx (hk.2 ho x hx)⟩
        · rw [if_neg ht] at h4
          exact absurd h4 ht
      · rw [if_neg k2]
        exact zero_ok
theorem Good.next {l : List CellT} {r : RecT} (hg : Good l) (h : nextE l r = 0) : Good (nextR l r) := by
  rw [next_set h]
  refine ⟨by simpa using hg.1, fun c hc => ?_⟩
  rcases List.mem_or_eq_of_mem_set hc with hc | hc
  · exact hg.2 c hc
  · rw [hc]
    exact next_cell hg h
end Go.Proofs.YtbdlojnigflanacGreatDoor
end
section
/- Chains of filters in memory. -/
set_option linter.all false
set_option maxRecDepth 100000
namespace Go.Proofs.YtbdlojnigflanacGreatDoor
open Go.ChangeShapes Go.WideShapes Go.ChangeAt Go.RowKit Go.Deep

/-- Filters in memory, all in blocks below B. -/
def ChsAt (B : Nat) (w : World) (v : Value) (ls : ChT) : Prop :=
  ∃ a cap, v = .slice a ls.length cap ∧ ls.length ≤ cap ∧ cap ≤ maxLen ∧ ∀ (i : Nat) f, ls[i]? = some f → ∃ b o fv, a = some ⟨b, o, none⟩ ∧ b < B ∧ w.cell? ⟨b, o + i, none⟩ = some fv ∧ InssAt B w fv f
theorem ChsAt.later {B B' : Nat} {w w' : World} {v : Value} {ls : ChT} (h : ChsAt B w v ls) (hb : Below B' w w') (hB : B ≤ B') : ChsAt B w' v ls := by
  obtain ⟨a, cap, h1, h2, h3, h4⟩ := h
  refine ⟨a, cap, h1, h2, h3, fun i f hf => ?_⟩
  obtain ⟨b, o, fv, e, hl, k, hi⟩ := h4 i f hf
  exact ⟨b, o, fv, e, hl, (hb.cell (p := ⟨b, o + i, none⟩) (by show b < B'; omega)).trans k, hi.later hb hB⟩
theorem ChsAt.mono {B B' : Nat} {w : World} {v : Value} {ls : ChT} (h : ChsAt B w v ls) (hB : B ≤ B') : ChsAt B' w v ls := by
  obtain ⟨a, cap, h1, h2, h3, h4⟩ := h
  refine ⟨a, cap, h1, h2, h3, fun i f hf => ?_⟩
  obtain ⟨b, o, fv, e, hl, k, hi⟩ := h4 i f hf
  exact ⟨b, o, fv, e, by omega, k, hi.mono hB⟩
theorem ChsAt.shape {B : Nat} {w : World} {v : Value} {ls : ChT} (h : ChsAt B w v ls) : ∃ a cap, v = .slice a ls.length cap ∧ ls.length ≤ cap ∧ cap ≤ maxLen := by
  obtain ⟨a, cap, h1, h2, h3, -⟩ := h
  exact ⟨a, cap, h1, h2, h3⟩
theorem chsAt_nil (B : Nat) (w : World) : ChsAt B w (.slice none 0 0) [] := ⟨none, 0, rfl, Nat.le_refl _, by rw [maxLen_eq]; omega, fun i c h => by simp at h⟩
/-- The front of a chain. -/
theorem ChsAt.take {B : Nat} {w : World} {a : Option Addr} {n c : Nat} {ls : ChT} (h : ChsAt B w (.slice a n c) ls) (m : Nat) (hm : m ≤ ls.length) : ChsAt B w (.slice a m c) (ls.take m) := by
  obtain ⟨a', cap, h1, h2, h3, h4⟩ := h
  simp at h1
  obtain ⟨rfl, rfl, rfl⟩ := h1
  refine ⟨a, c, by simp; omega, by simp; omega, h3, fun i f hf => ?_⟩
  exact h4 i f (by
    rw [List.getElem?_take] at hf
    split at hf
    · exact hf
    · cases hf)

theorem open_chs0 {H : Type} {enc : TypeId × Value → H} {W : World} {base : Nat} {sp : Nat → Bool} {held : Bool} {fuel : Nat} {cv : Value} {x : DataW H × List MemPlace} (h : DataW.trod enc Tryz.prog W base sp held fuel 75 [cv] = some x) : ∃ ls, ChsAt W.heap.size W cv ls := by
  rcases open_slice Tryz.underlying75 h with ⟨h0, _⟩ | ⟨a, len, cap, m, n, D, Pl, h0, _, hl, hm, hmm, _, hx⟩
  · simp at h0
    subst h0
    exact ⟨[], none, 0, rfl, Nat.le_refl _, Nat.zero_le _, fun i c hc => by simp at hc⟩
  · simp at h0
    subst h0
    have h1 : Tryz.prog.cellsOf 81 = 1 := by kernel_rfl
    rw [h1] at hx
    have hlm : len ≤ m := by rw [hmm]; split <;> omega
    have each : ∀ i, i < len → ∃ f : List InsT, a = ⟨a.block, a.off, none⟩ ∧ a.block < W.heap.size ∧ ∃ fv, W.cell? ⟨a.block, a.off + i, none⟩ = some fv ∧ InssAt W.heap.size W fv f := by
      intro i hi
      have h00 : W.cell? (a.add 0) ≠ none := by
        obtain ⟨cs', g1, _⟩ := hx 0 (by omega)
        obtain ⟨_, hlen, hcell⟩ := World.cells?_some g1
        have := hcell 0 (by omega)
        rw [add_add] at this
        simp at this
        match cs', hlen with
        | [v0], _ => simp at this ⊢; rw [this]; simp
      obtain ⟨v, hv⟩ := Option.ne_none_iff_exists'.1 h00
      obtain ⟨ha, hb⟩ := addr_plain hv
      obtain ⟨cs', g1, g2⟩ := hx i (by omega)
      obtain ⟨_, hlen, hcell⟩ := World.cells?_some g1
      match cs', hlen with
      | [v0], _ =>
        obtain ⟨f, hf⟩ := open_inss g2
        have c0 := hcell 0 (by omega)
        rw [add_add, ha, add_at] at c0
        simp at c0
        exact ⟨f, ha, hb, v0, c0, hf⟩
    obtain ⟨ls, hpl, hpp⟩ := list_of _ len each
    refine ⟨ls, some a, cap, by rw [hpl], by omega, hm, fun i f hf => ?_⟩
    obtain ⟨ha, hb, fv, hc, hi⟩ := hpp i f hf
    exact ⟨a.block, a.off, fv, by rw [← ha], hb, hc, hi⟩
end Go.Proofs.YtbdlojnigflanacGreatDoor
end
section
/- What the program's own Check says of a filter. -/
set_option linter.all false
set_option maxRecDepth 100000
namespace Go.Proofs.YtbdlojnigflanacGreatDoor
open Go.RowKit Go.Maps

def stepErr (a b c m : Int) : Int := if b ≠ 0 ∨ c ≠ 0 then 4 else if a < 0 ∨ m < a then 3 else 0
def jumpErr (a b c m : Int) : Int := if a < 0 ∨ 65535 < a then 3 else if b < 0 ∨ m ≤ b ∨ c < 0 ∨ m ≤ c then 5 else 0

set_option maxHeartbeats 1000000 in
theorem checkStep_any (k a b c m : Int) (w : World) :
    Calls Tryz.prog 194 #[.agg #[.int .i64 k, .int .i64 a, .int .i64 b, .int .i64 c], .int .i64 m] w fun e w' => e = .returned (.int .i64 (stepErr a b c m)) ∧ Below w.heap.size w w' := by
  have hbl : ∀ x, Below w.heap.size w (w.alloc x) := fun x => (Below.refl _ _).alloc (Nat.le_refl _) _
  by_cases h0 : b ≠ 0 ∨ c ≠ 0
  · have HE : Hid (stepErr a b c m = 4) := by unfold Hid; rw [stepErr, if_pos h0]
    by_cases hb : b = 0
    · have hc : c ≠ 0 := by omega
      have hb' : (b != 0) = false := by simpa using hb
      have hc' : (c != 0) = true := by simpa using hc
      clear h0
      go_enter Tryz.func194, Tryz.ntmps194
      go_wp2
      all_goals
        go_ret
        exact ⟨by rw [HE.out]; rfl, hbl _⟩
    · have hb' : (b != 0) = true := by simpa using hb
      clear h0
      go_enter Tryz.func194, Tryz.ntmps194
      go_wp2
      all_goals
        go_ret
        exact ⟨by rw [HE.out]; rfl, hbl _⟩
  · obtain ⟨rfl, rfl⟩ : b = 0 ∧ c = 0 := by omega
    by_cases h1 : a < 0 ∨ m < a
    · have HE : Hid (stepErr a 0 0 m = 3) := by unfold Hid; rw [stepErr, if_neg h0, if_pos h1]
      go_enter Tryz.func194, Tryz.ntmps194
      go_wp2
      all_goals
        go_ret
        exact ⟨by rw [HE.out]; rfl, hbl _⟩
    · have HE : Hid (stepErr a 0 0 m = 0) := by unfold Hid; rw [stepErr, if_neg h0, if_neg h1]
      go_enter Tryz.func194, Tryz.ntmps194
      go_wp2
      all_goals
        go_ret
        exact ⟨by rw [HE.out]; rfl, hbl _⟩

set_option maxHeartbeats 2000000 in
theorem checkJump_any (k a b c m : Int) (w : World) :
    Calls Tryz.prog 195 #[.agg #[.int .i64 k, .int .i64 a, .int .i64 b, .int .i64 c], .int .i64 m] w fun e w' => e = .returned (.int .i64 (jumpErr a b c m)) ∧ Below w.heap.size w w' := by
  have hbl : ∀ x, Below w.heap.size w (w.alloc x) := fun x => (Below.refl _ _).alloc (Nat.le_refl _) _
  by_cases h0 : a < 0 ∨ 65535 < a
  · have HE : Hid (jumpErr a b c m = 3) := by unfold Hid; rw [jumpErr, if_pos h0]
    go_enter Tryz.func195, Tryz.ntmps195
    go_wp2
    all_goals
      go_ret
      exact ⟨by rw [HE.out]; rfl, hbl _⟩
  · by_cases h1 : b < 0 ∨ m ≤ b ∨ c < 0 ∨ m ≤ c
    · have HE : Hid (jumpErr a b c m = 5) := by unfold Hid; rw [jumpErr, if_neg h0, if_pos h1]
      have a1 : ¬ a < 0 := by omega
      have a2 : ¬ 65535 < a := by omega
      clear h0
      by_cases b1 : b < 0
      · clear h1
        go_enter Tryz.func195, Tryz.ntmps195
        go_wp2
        all_goals
          go_ret
          exact ⟨by rw [HE.out]; rfl, hbl _⟩
      · by_cases b2 : m ≤ b
        · clear h1
          go_enter Tryz.func195, Tryz.ntmps195
          go_wp2
          all_goals
            go_ret
            exact ⟨by rw [HE.out]; rfl, hbl _⟩
        · by_cases c1 : c < 0
          · clear h1
            go_enter Tryz.func195, Tryz.ntmps195
            go_wp2
            all_goals
              go_ret
              exact ⟨by rw [HE.out]; rfl, hbl _⟩
          · have c2 : m ≤ c := by omega
            clear h1
            go_enter Tryz.func195, Tryz.ntmps195
            go_wp2
            all_goals
              go_ret
              exact ⟨by rw [HE.out]; rfl, hbl _⟩
    · have HE : Hid (jumpErr a b c m = 0) := by unfold Hid; rw [jumpErr, if_neg h0, if_neg h1]
      have a1 : ¬ a < 0 := by omega
      have a2 : ¬ 65535 < a := by omega
      have b1 : ¬ b < 0 := by omega
      have b2 : ¬ m ≤ b := by omega
      have c1 : ¬ c < 0 := by omega
      have c2 : ¬ m ≤ c := by omega
      clear h0 h1
      go_enter Tryz.func195, Tryz.ntmps195
      go_wp2
      all_goals
        go_ret
        exact ⟨by rw [HE.out]; rfl, hbl _⟩

theorem insErr_step1 (k a b c m : Int) (h : k = 1 ∨ k = 4) : insErr (k, a, b, c) m = stepErr a b c 4 := by
  unfold insErr
  rw [if_pos h]
  rfl
theorem insErr_jump (k a b c m : Int) (h : k = 2 ∨ k = 3) : insErr (k, a, b, c) m = jumpErr a b c m := by
  unfold insErr
  rw [if_neg (by simp only []; omega), if_pos h]
  rfl

set_option maxHeartbeats 2000000 in
theorem checkIns_any (k a b c m : Int) (w : World) :
    Calls Tryz.prog 163 #[.agg #[.int .i64 k, .int .i64 a, .int .i64 b, .int .i64 c], .int .i64 m] w fun e w' => e = .returned (.int .i64 (insErr (k, a, b, c) m)) ∧ Below w.heap.size w w' := by
  have hbl : ∀ x, Below w.heap.size w (w.alloc x) := fun x => (Below.refl _ _).alloc (Nat.le_refl _) _
  by_cases h0 : k = 1 ∨ k = 4
  · have HE : Hid (insErr (k, a, b, c) m = stepErr a b c 4) := insErr_step1 k a b c m h0
    rcases h0 with rfl | rfl
    all_goals
      go_enter Tryz.func163, Tryz.ntmps163
      go_wp2_with (first | (go_at_call 194; go_must (refine (checkStep_any _ _ _ _ _ _).mono ?_; rintro e w' ⟨rfl, hb2⟩)))
      go_ret
      exact ⟨by rw [HE.out]; rfl, Below.thenOf (hbl _) hb2 (by simp)⟩
  · by_cases h1 : k = 2 ∨ k = 3
    · have HE : Hid (insErr (k, a, b, c) m = jumpErr a b c m) := insErr_jump k a b c m h1
      clear h0
      rcases h1 with rfl | rfl
      all_goals
        go_enter Tryz.func163, Tryz.ntmps163
        go_wp2_with (first | (go_at_call 195; go_must (refine (checkJump_any _ _ _ _ _ _).mono ?_; rintro e w' ⟨rfl, hb2⟩)))
        go_ret
        exact ⟨by rw [HE.out]; rfl, Below.thenOf (hbl _) hb2 (by simp)⟩
    · have HE : Hid (insErr (k, a, b, c) m = 4) := by unfold Hid insErr; rw [if_neg h0, if_neg h1]
      have k1 : (k == 1) = false := by simp; omega
      have k2 : (k == 2) = false := by simp; omega
      have k3 : (k == 3) = false := by simp; omega
      have k4 : (k == 4) = false := by simp; omega
      clear h0 h1
      go_enter Tryz.func163, Tryz.ntmps163
      go_wp2
      go_ret
      exact ⟨by rw [HE.out]; rfl, hbl _⟩

set_option maxHeartbeats 2000000 in
theorem check_code (B : Nat) (cv : Value) (l : List InsT) (w : World) (hc : InssAt B w cv l) (hB : B ≤ w.heap.size) :
    Calls Tryz.prog 115 #[cv] w fun e w' => e = .returned (.int .i64 (codeErr l)) ∧ Below w.heap.size w w' := by
  obtain ⟨a, cap, rfl, hlc, hcm, hcs⟩ := hc
  have hcs' : Hid (∀ (i : Nat) (c : InsT), l[i]? = some c → ∃ b o, a = some ⟨b, o, none⟩ ∧ b < B ∧ InsAt w b (o + i * 4) c) := hcs
  clear hcs
  have HR : Hid ((l.length < 1 ∨ 1500 < l.length) → codeErr l = 2) := by intro h; rw [codeErr, if_pos h]
  have HN : Hid (¬ (l.length < 1 ∨ 1500 < l.length) → codeErr l = if inssErr l = 0 then (if lastKind l = 4 then 0 else 4) else inssErr l) := by intro h; rw [codeErr, if_neg h]
  have HL : Hid (∀ c, l[l.length - 1]? = some c → lastKind l = c.1) := lastKind_at l
  have HS : Hid (∀ k c, l[k]? = some c → inssErr (l.drop k) = if insErr c ((l.length : Int) - 1 - k) = 0 then inssErr (l.drop (k + 1)) else insErr c ((l.length : Int) - 1 - k)) := inssErr_drop l
  generalize hn : l.length = n at *
  have hml := maxLen_eq
  by_cases h0 : n < 1 ∨ 1500 < n
  · have HE : Hid (codeErr l = 2) := HR.out h0
    by_cases h1 : n < 1
    · obtain rfl : n = 0 := by omega
      clear h0
      go_enter Tryz.func115, Tryz.ntmps115
      go_wp2
      go_ret
      exact ⟨by rw [HE.out]; rfl, Below.refl _ _⟩
    · have i1 : ¬ ((n : Int) < 1) := by omega
      have i2 : (1500 : Int) < (n : Int) := by omega
      clear h0
      go_enter Tryz.func115, Tryz.ntmps115
      go_wp2
      go_ret
      exact ⟨by rw [HE.out]; rfl, Below.refl _ _⟩
  · have HE : Hid (codeErr l = if inssErr l = 0 then (if lastKind l = 4 then 0 else 4) else inssErr l) := HN.out h0
    have i1 : ¬ ((n : Int) < 1) := by omega
    have i2 : ¬ ((1500 : Int) < (n : Int)) := by omega
    have i3 : IntKind.i64.wrap ((n : Int) - 1) = (n : Int) - 1 := IntWalk.i64_in _ (by omega)
    have hn1 : 1 ≤ n ∧ n ≤ 1500 := by omega
    clear h0 HR HN
    go_enter Tryz.func115, Tryz.ntmps115
    go_wp2
    go_loopw [20] (fun i wr => ∃ k : Nat, k ≤ n ∧ i = .int .i64 k ∧ Hid (inssErr l = inssErr (l.drop k)) ∧ Below w.heap.size w wr) (fun i _ => n - (intOf i).toNat)
    case atStart => exact ⟨0, by omega, rfl, rfl, Below.refl _ _⟩
    case round =>
      obtain ⟨k, hk, rfl, H, hbr⟩ := hrel
      have i0 : (0 : Int) ≤ (k : Int) := by omega
      by_cases hlt : k < n
      · have i4 : (k : Int) < (n : Int) := by omega
        have i5 : IntKind.i64.wrap ((n : Int) - 1 - k) = (n : Int) - 1 - k := IntWalk.i64_in _ (by omega)
        obtain ⟨c, hck⟩ : ∃ c, l[k]? = some c := ⟨l[k]'(by omega), by simp⟩
        obtain ⟨b, o, rfl, hbB, hat⟩ := hcs'.out k c hck
        have S : Hid (inssErr (l.drop k) = if insErr c ((n : Int) - 1 - k) = 0 then inssErr (l.drop (k + 1)) else insErr c ((n : Int) - 1 - k)) := HS.out k c hck
        obtain ⟨kd, ca, cb, cc⟩ := c
        obtain ⟨c0, c1, c2, c3, _⟩ := hat.later hbr (by omega)
        simp only [] at c0 c1 c2 c3
        go_wp2_with (first | (go_at_call 163; go_must (refine (checkIns_any _ _ _ _ _ _).mono ?_; rintro e w' ⟨rfl, hb2⟩)))
        all_goals have hb3 : Below w.heap.size w w' := Below.thenOf (hbr.alloc hbr.size _) hb2 (by simp; have := hbr.size; omega)
        · have hne : insErr (kd, ca, cb, cc) ((n : Int) - 1 - k) ≠ 0 := by simpa using (by assumption : (insErr (kd, ca, cb, cc) ((n : Int) - 1 - k) != 0) = true)
          have hI : inssErr l = insErr (kd, ca, cb, cc) ((n : Int) - 1 - k) := by rw [H.out, S.out, if_neg hne]
          go_ret
          exact ⟨by rw [HE.out, hI, if_neg hne]; rfl, hb3⟩
        · have he : insErr (kd, ca, cb, cc) ((n : Int) - 1 - k) = 0 := by simpa using (by assumption : (insErr (kd, ca, cb, cc) ((n : Int) - 1 - k) != 0) = false)
          exact ⟨⟨k + 1, by omega, by go_num, by unfold Hid; rw [H.out, S.out, if_pos he], hb3⟩, by simp [intOf]; omega⟩
      · have hI : Hid (inssErr l = 0) := by unfold Hid; rw [H.out, List.drop_eq_nil_of_le (by omega)]; rfl
        obtain ⟨c, hck⟩ : ∃ c, l[n - 1]? = some c := ⟨l[n - 1]'(by omega), by simp⟩
        obtain ⟨b, o, rfl, hbB, hat⟩ := hcs'.out (n - 1) c hck
        have hlk : Hid (lastKind l = c.1) := HL.out c hck
        obtain ⟨c0, _⟩ := hat.later hbr (by omega)
        obtain ⟨q, rfl⟩ : ∃ q : Nat, n = q + 1 := ⟨n - 1, by omega⟩
        simp only [Nat.add_sub_cancel] at c0
        have e0 : (((q + 1 : Nat) : Int) - 1) = (q : Int) := by omega
        by_cases h4 : c.1 = 4
        · have h4' : (c.1 != 4) = false := by simpa using h4
          have HF : Hid (codeErr l = 0) := by unfold Hid; rw [HE.out, if_pos hI.out, hlk.out, if_pos h4]
          generalize c.1 = c1 at *
          clear h4 HE
          go_wp2
          go_ret
          exact ⟨by rw [HF.out]; rfl, hbr⟩
        · have h4' : (c.1 != 4) = true := by simpa using h4
          have HF : Hid (codeErr l = 4) := by unfold Hid; rw [HE.out, if_pos hI.out, hlk.out, if_neg h4]
          generalize c.1 = c1 at *
          clear h4 HE
          go_wp2
          go_ret
          exact ⟨by rw [HF.out]; rfl, hbr⟩

end Go.Proofs.YtbdlojnigflanacGreatDoor
end
section
/- What the program's own Run says of a right filter: what it says, and behind how many instructions. -/
set_option linter.all false
set_option maxRecDepth 100000
namespace Go.Proofs.YtbdlojnigflanacGreatDoor
open Go.RowKit Go.Maps

end Go.Proofs.YtbdlojnigflanacGreatDoor
end
section
/- What the counterpart says of filters: the same. -/
set_option linter.all false
set_option maxRecDepth 100000
namespace Go.Proofs.YtbdlojnigflanacGreatDoor
open Go.RowKit Go.Maps

theorem in_true {n a b : Int} (h : a ≤ n ∧ n ≤ b) (w : World) : Calls Tryz.prog 139 #[.int .i64 n, .int .i64 a, .int .i64 b] w fun e w' => e = .returned (.bool true) ∧ w' = w := by
  have := in_any n a b w
  rw [show (decide (a ≤ n) && decide (n ≤ b)) = true by simp; exact h] at this
  exact this
theorem in_false {n a b : Int} (h : ¬ (a ≤ n ∧ n ≤ b)) (w : World) : Calls Tryz.prog 139 #[.int .i64 n, .int .i64 a, .int .i64 b] w fun e w' => e = .returned (.bool false) ∧ w' = w := by
  have := in_any n a b w
  rw [show (decide (a ≤ n) && decide (n ≤ b)) = false by simp; omega] at this
  exact this

set_option maxHeartbeats 4000000 in
theorem checkCode_any (B : Nat) (cv : Value) (l : List InsT) (w : World) (hc : InssAt B w cv l) (hB : B ≤ w.heap.size) :
    Calls Tryz.prog 157 #[cv] w fun e w' => e = .returned (.int .i64 (codeErr l)) ∧ Below w.heap.size w w' := by
  obtain ⟨a, cap, rfl, hlc, hcm, hcs⟩ := hc
  have hcs' : Hid (∀ (i : Nat) (c : InsT), l[i]? = some c → ∃ b o, a = some ⟨b, o, none⟩ ∧ b < B ∧ InsAt w b (o + i * 4) c) := hcs
  clear hcs
  have HR : Hid ((l.length < 1 ∨ 1500 < l.length) → codeErr l = 2) := by intro h; rw [codeErr, if_pos h]
  have HN : Hid (¬ (l.length < 1 ∨ 1500 < l.length) → codeErr l = if inssErr l = 0 then (if lastKind l = 4 then 0 else 4) else inssErr l) := by intro h; rw [codeErr, if_neg h]
  have HL : Hid (∀ c, l[l.length - 1]? = some c → lastKind l = c.1) := lastKind_at l
  have HS : Hid (∀ (k : Nat) (c : InsT), l[k]? = some c → inssErr (l.drop k) = if insErr c ((l.length : Int) - 1 - k) = 0 then inssErr (l.drop (k + 1)) else insErr c ((l.length : Int) - 1 - k)) := inssErr_drop l
  generalize hn : l.length = n at *
  have hml := maxLen_eq
  by_cases h0 : n < 1 ∨ 1500 < n
  · have HE : Hid (codeErr l = 2) := HR.out h0
    have hin : Hid (¬ ((1 : Int) ≤ (n : Int) ∧ (n : Int) ≤ 1500)) := by unfold Hid; omega
    clear h0
    go_enter Tryz.func157, Tryz.ntmps157
    go_wp2_with (first | (go_at_call 139; go_must (refine (in_false hin.out _).mono ?_; rintro e w' ⟨rfl, rfl⟩)))
    go_ret
    exact ⟨by rw [HE.out]; rfl, Below.refl _ _⟩
  · have HE : Hid (codeErr l = if inssErr l = 0 then (if lastKind l = 4 then 0 else 4) else inssErr l) := HN.out h0
    have hin : Hid ((1 : Int) ≤ (n : Int) ∧ (n : Int) ≤ 1500) := by unfold Hid; omega
    have i3 : IntKind.i64.wrap ((n : Int) - 1) = (n : Int) - 1 := IntWalk.i64_in _ (by omega)
    have hn1 : 1 ≤ n ∧ n ≤ 1500 := by omega
    clear h0 HR HN
    go_enter Tryz.func157, Tryz.ntmps157
    go_wp2_with (first | (go_at_call 139; go_must (refine (in_true hin.out _).mono ?_; rintro e w' ⟨rfl, rfl⟩)))
    obtain ⟨w, hw⟩ : ∃ x, x = w' := ⟨_, rfl⟩
    subst hw
    go_loopw [14] (fun i wr => ∃ k : Nat, k ≤ n ∧ i = .int .i64 k ∧ Hid (inssErr l = inssErr (l.drop k)) ∧ Below w.heap.size w wr) (fun i _ => n - (intOf i).toNat)
    case atStart => exact ⟨0, by omega, rfl, rfl, Below.refl _ _⟩
    case round =>
      obtain ⟨k, hk, rfl, H, hbr⟩ := hrel
      have i0 : (0 : Int) ≤ (k : Int) := by omega
      by_cases hlt : k < n
      · have i4 : (k : Int) < (n : Int) := by omega
        have i5 : IntKind.i64.wrap ((n : Int) - 1 - k) = (n : Int) - 1 - k := IntWalk.i64_in _ (by omega)
        obtain ⟨c, hck⟩ : ∃ c, l[k]? = some c := ⟨l[k]'(by omega), by simp⟩
        obtain ⟨b, o, rfl, hbB, hat⟩ := hcs'.out k c hck
        have S : Hid (inssErr (l.drop k) = if insErr c ((n : Int) - 1 - k) = 0 then inssErr (l.drop (k + 1)) else insErr c ((n : Int) - 1 - k)) := HS.out k c hck
        have bad : Hid (∀ e : Int, insErr c ((n : Int) - 1 - k) = e → e ≠ 0 → codeErr l = e) := by
          intro e h1 h2
          have hI : inssErr l = e := by rw [H.out, S.out, h1, if_neg h2]
          rw [HE.out, hI, if_neg h2]
        have good : Hid (insErr c ((n : Int) - 1 - k) = 0 → inssErr l = inssErr (l.drop (k + 1))) := by
          intro h1
          rw [H.out, S.out, if_pos h1]
        obtain ⟨kd, ca, cb, cc⟩ := c
        obtain ⟨c0, c1, c2, c3, _⟩ := hat.later hbr (by omega)
        simp only [] at c0 c1 c2 c3
        have hsz := hbr.size
        have hb1 : ∀ X, Below w.heap.size w (wr.alloc X) := fun X => hbr.alloc hsz X
        have hb2 : ∀ X Y, Below w.heap.size w ((wr.alloc X).alloc Y) := fun X Y => (hb1 X).alloc (by simp; omega) Y
        clear H S HE
        by_cases s1 : kd = 1 ∨ kd = 4
        · have HI : Hid (insErr (kd, ca, cb, cc) ((n : Int) - 1 - k) = stepErr ca cb cc 4) := insErr_step1 _ _ _ _ _ s1
          by_cases e1 : cb ≠ 0 ∨ cc ≠ 0
          · have HF : Hid (codeErr l = 4) := bad.out 4 (by rw [HI.out, stepErr, if_pos e1]) (by omega)
            clear bad good HI
            by_cases hq : cb = 0
            · have hq2 : (cc != 0) = true := by simp; omega
              subst hq
              clear e1
              rcases s1 with rfl | rfl
              all_goals
                go_wp2
                go_ret
                exact ⟨by rw [HF.out]; rfl, hb1 _⟩
            · have hq1 : (cb != 0) = true := by simpa using hq
              clear e1 hq
              rcases s1 with rfl | rfl
              all_goals
                go_wp2
                go_ret
                exact ⟨by rw [HF.out]; rfl, hb1 _⟩
          · obtain ⟨rfl, rfl⟩ : cb = 0 ∧ cc = 0 := by omega
            by_cases e2 : ca < 0 ∨ 4 < ca
            · have HF : Hid (codeErr l = 3) := bad.out 3 (by rw [HI.out, stepErr, if_neg e1, if_pos e2]) (by omega)
              have hin2 : Hid (¬ ((0 : Int) ≤ ca ∧ ca ≤ 4)) := by unfold Hid; omega
              clear bad good HI e1 e2
              rcases s1 with rfl | rfl
              all_goals
                go_wp2_with (first | (go_at_call 139; go_must (refine (in_false hin2.out _).mono ?_; rintro e w' ⟨rfl, rfl⟩)))
                go_ret
                exact ⟨by rw [HF.out]; rfl, hb1 _⟩
            · have HF : Hid (inssErr l = inssErr (l.drop (k + 1))) := good.out (by rw [HI.out, stepErr, if_neg e1, if_neg e2])
              have hin2 : Hid ((0 : Int) ≤ ca ∧ ca ≤ 4) := by unfold Hid; omega
              clear bad good HI e1 e2
              rcases s1 with rfl | rfl
              all_goals
                go_wp2_with (first | (go_at_call 139; go_must (refine (in_true hin2.out _).mono ?_; rintro e w' ⟨rfl, rfl⟩)))
                exact ⟨⟨k + 1, by omega, by go_num, HF, hb1 _⟩, by simp [intOf]; omega⟩
        · by_cases s2 : kd = 2 ∨ kd = 3
          · have HI : Hid (insErr (kd, ca, cb, cc) ((n : Int) - 1 - k) = jumpErr ca cb cc ((n : Int) - 1 - k)) := insErr_jump _ _ _ _ _ s2
            clear s1
            by_cases e2 : ca < 0 ∨ 65535 < ca
            · have HF : Hid (codeErr l = 3) := bad.out 3 (by rw [HI.out, jumpErr, if_pos e2]) (by omega)
              have hin2 : Hid (¬ ((0 : Int) ≤ ca ∧ ca ≤ 65535)) := by unfold Hid; omega
              clear bad good HI e2
              rcases s2 with rfl | rfl
              all_goals
                go_wp2_with (first | (go_at_call 139; go_must (refine (in_false hin2.out _).mono ?_; rintro e w' ⟨rfl, rfl⟩)))
                go_ret
                exact ⟨by rw [HF.out]; rfl, hb1 _⟩
            · have hin2 : Hid ((0 : Int) ≤ ca ∧ ca ≤ 65535) := by unfold Hid; omega
              have HB : Hid ((cb < 0 ∨ (n : Int) - 1 - k ≤ cb ∨ cc < 0 ∨ (n : Int) - 1 - k ≤ cc) → codeErr l = 5) := fun h => bad.out 5 (by rw [HI.out, jumpErr, if_neg e2, if_pos h]) (by omega)
              have HF : Hid (¬ (cb < 0 ∨ (n : Int) - 1 - k ≤ cb ∨ cc < 0 ∨ (n : Int) - 1 - k ≤ cc) → inssErr l = inssErr (l.drop (k + 1))) := fun h => good.out (by rw [HI.out, jumpErr, if_neg e2, if_neg h])
              clear bad good HI e2
              rcases s2 with rfl | rfl
              all_goals
                go_wp2_with (first | (go_at_call 139; go_must (refine (in_true hin2.out _).mono ?_; rintro e w' ⟨rfl, rfl⟩)))
                go_loop [54] (fun i => ∃ j : Nat, j ≤ 2 ∧ i = .int .i64 j ∧ (0 < j → ¬ (cb < 0 ∨ (n : Int) - 1 - k ≤ cb)) ∧ (1 < j → ¬ (cc < 0 ∨ (n : Int) - 1 - k ≤ cc))) (fun i => 2 - (intOf i).toNat)
                case atStart => exact ⟨0, by omega, rfl, by omega, by omega⟩
                case round =>
                  obtain ⟨j, hj, rfl, g1, g2⟩ := hrel
                  have hj' : j = 0 ∨ j = 1 ∨ j = 2 := by omega
                  rcases hj' with rfl | rfl | rfl
                  · clear g1 g2
                    by_cases q : cb < 0 ∨ (n : Int) - 1 - k ≤ cb
                    · have HK : Hid (codeErr l = 5) := HB.out (by omega)
                      go_wp2
                      all_goals
                        go_ret
                        exact ⟨by rw [HK.out]; rfl, hb2 _ _⟩
                    · go_wp2
                      all_goals exact ⟨⟨1, by omega, rfl, fun _ => q, by omega⟩, by simp [intOf]⟩
                  · have g1' := g1 (by omega)
                    have G1 : Hid (¬ (cb < 0 ∨ (n : Int) - 1 - k ≤ cb)) := g1'
                    clear g1 g2 g1'
                    by_cases q : cc < 0 ∨ (n : Int) - 1 - k ≤ cc
                    · have HK : Hid (codeErr l = 5) := HB.out (by omega)
                      go_wp2
                      all_goals
                        go_ret
                        exact ⟨by rw [HK.out]; rfl, hb2 _ _⟩
                    · go_wp2
                      all_goals exact ⟨⟨2, by omega, rfl, fun _ => G1.out, fun _ => q⟩, by simp [intOf]⟩
                  · have HK : Hid (inssErr l = inssErr (l.drop (k + 1))) := HF.out (by have := g1 (by omega); have := g2 (by omega); omega)
                    clear g1 g2
                    go_wp2
                    exact ⟨⟨k + 1, by omega, by go_num, HK, hb2 _ _⟩, by simp [intOf]; omega⟩
          · have HF : Hid (codeErr l = 4) := bad.out 4 (by unfold insErr; rw [if_neg s1, if_neg s2]) (by omega)
            have k1 : (kd == 1) = false := by simp; omega
            have k2 : (kd == 2) = false := by simp; omega
            have k3 : (kd == 3) = false := by simp; omega
            have k4 : (kd == 4) = false := by simp; omega
            clear bad good s1 s2
            go_wp2
            go_ret
            exact ⟨by rw [HF.out]; rfl, hb1 _⟩
      · have hI : Hid (inssErr l = 0) := by unfold Hid; rw [H.out, List.drop_eq_nil_of_le (by omega)]; rfl
        obtain ⟨c, hck⟩ : ∃ c, l[n - 1]? = some c := ⟨l[n - 1]'(by omega), by simp⟩
        obtain ⟨b, o, rfl, hbB, hat⟩ := hcs'.out (n - 1) c hck
        have hlk : Hid (lastKind l = c.1) := HL.out c hck
        obtain ⟨c0, _⟩ := hat.later hbr (by omega)
        obtain ⟨q, rfl⟩ : ∃ q : Nat, n = q + 1 := ⟨n - 1, by omega⟩
        simp only [Nat.add_sub_cancel] at c0
        have e0 : (((q + 1 : Nat) : Int) - 1) = (q : Int) := by omega
        by_cases h4 : c.1 = 4
        · have h4' : (c.1 != 4) = false := by simpa using h4
          have HF : Hid (codeErr l = 0) := by unfold Hid; rw [HE.out, if_pos hI.out, hlk.out, if_pos h4]
          generalize c.1 = c1 at *
          clear h4 HE
          go_wp2
          go_ret
          exact ⟨by rw [HF.out]; rfl, hbr⟩
        · have h4' : (c.1 != 4) = true := by simpa using h4
          have HF : Hid (codeErr l = 4) := by unfold Hid; rw [HE.out, if_pos hI.out, hlk.out, if_neg h4]
          generalize c.1 = c1 at *
          clear h4 HE
          go_wp2
          go_ret
          exact ⟨by rw [HF.out]; rfl, hbr⟩

end Go.Proofs.YtbdlojnigflanacGreatDoor
end
