/- Joined: Kep0 Chn2 Cod. -/
import Derived.Test.YtbdlojnigflanacGreatDoorKb13
import Derived.Test.YtbdlojnigflanacGreatDoorKb07
section
/- Sessions: plain data; what a record makes of them, and that each chain says what its policy says. -/
set_option linter.all false
set_option maxRecDepth 100000
namespace Go.Proofs.YtbdlojnigflanacGreatDoor

abbrev CellT := Bool × ChT × PolT
instance decCell : DecidableEq CellT := @instDecidableEqProd _ _ inferInstance (@instDecidableEqProd _ _ (inferInstance : DecidableEq ChT) decPol)
def zeroCell : CellT := (false, [], [], 0)
def cellErr (c : CellT) : Int := if c.1 ≠ decide (0 < c.2.1.length) ∨ (c.1 = false ∧ ¬ (c.2.2.2 = 0 ∧ c.2.2.1 = [])) then 4 else if c.1 = false then 0 else if chainErr c.2.1 = 0 then polErr c.2.2 else chainErr c.2.1
def cellsErr1 : List CellT → Int
  | [] => 0
  | c :: r => if cellErr c = 0 then cellsErr1 r else cellErr c
def cellsErr (l : List CellT) : Int := if l.length = 4 then cellsErr1 l else 4
theorem cellsErr1_ok : ∀ {l : List CellT}, cellsErr1 l = 0 ↔ ∀ c ∈ l, cellErr c = 0
  | [] => by simp [cellsErr1]
  | c :: r => by
    unfold cellsErr1
    by_cases h : cellErr c = 0
    · rw [if_pos h, cellsErr1_ok]
      simp [h]
    · rw [if_neg h]
      constructor
      · intro h'
        exact absurd h' h
      · intro h'
        exact absurd (h' c (by simp)) h
theorem cellsErr1_drop (l : List CellT) (k : Nat) (c : CellT) (h : l[k]? = some c) : cellsErr1 (l.drop k) = if cellErr c = 0 then cellsErr1 (l.drop (k + 1)) else cellErr c := by
  obtain ⟨hk, rfl⟩ := List.getElem?_eq_some_iff.1 h
  rw [List.drop_eq_getElem_cons hk]
  rfl
theorem cellsErr_ok {l : List CellT} : cellsErr l = 0 ↔ l.length = 4 ∧ ∀ c ∈ l, cellErr c = 0 := by
  unfold cellsErr
  by_cases h : l.length = 4
  · rw [if_pos h, cellsErr1_ok]
    simp [h]
  · rw [if_neg h]
    constructor
    · intro h'
      omega
    · intro h'
      exact absurd h'.1 h

def cellAt (l : List CellT) (k : Int) : CellT := l.getD k.toNat zeroCell
def openC (p : PolT) : CellT × Int := if compE p = 0 then ((true, [polI p], p), 0) else (zeroCell, compE p)
def nextC (l : List CellT) (r : RecT) : CellT × Int :=
  if r.1 = 3 then (if (cellAt l r.2.2.1).1 = true then openC (cellAt l r.2.2.1).2.2 else (zeroCell, 5))
  else if r.1 = 1 then openC r.2.2.2
  else if r.1 = 2 then (if tightE (cellAt l r.2.1).2.1 (cellAt l r.2.1).2.2 r.2.2.2 = 0 then ((true, tightR (cellAt l r.2.1).2.1 (cellAt l r.2.1).2.2 r.2.2.2, r.2.2.2), 0) else (zeroCell, tightE (cellAt l r.2.1).2.1 (cellAt l r.2.1).2.2 r.2.2.2))
  else (zeroCell, 0)
def nextE (l : List CellT) (r : RecT) : Int := if cellsErr l = 0 then (if recErr r = 0 then (if decide (r.1 = 1 ∨ r.1 = 3) = (cellAt l r.2.1).1 then 6 else (nextC l r).2) else recErr r) else cellsErr l
def nextR (l : List CellT) (r : RecT) : List CellT := if nextE l r = 0 then l.set r.2.1.toNat (nextC l r).1 else []
def newCells : List CellT := [zeroCell, zeroCell, zeroCell, zeroCell]
def replayS (s : List CellT × Int) (r : RecT) : List CellT × Int := if s.2 = 0 then (if nextE s.1 r = 0 then (nextR s.1 r, 0) else ([], nextE s.1 r)) else s
def replayP (rs : List RecT) : List CellT × Int := if 40 < rs.length then ([], 2) else rs.foldl replayS (newCells, 0)

theorem replayS_bad : ∀ (rs : List RecT) (e : Int), e ≠ 0 → rs.foldl replayS ([], e) = ([], e)
  | [], _, _ => rfl
  | r :: rs, e, h => by
    rw [List.foldl_cons]
    have : replayS ([], e) r = ([], e) := by unfold replayS; rw [if_neg h]
    rw [this]
    exact replayS_bad rs e h
theorem next_ok {l : List CellT} {r : RecT} (h : nextE l r = 0) : cellsErr l = 0 ∧ recErr r = 0 ∧ decide (r.1 = 1 ∨ r.1 = 3) ≠ (cellAt l r.2.1).1 ∧ (nextC l r).2 = 0 := by
  unfold nextE at h
  by_cases h1 : cellsErr l = 0
  · rw [if_pos h1] at h
    by_cases h2 : recErr r = 0
    · rw [if_pos h2] at h
      by_cases h3 : decide (r.1 = 1 ∨ r.1 = 3) = (cellAt l r.2.1).1
      · rw [if_pos h3] at h; cases h
      · rw [if_neg h3] at h
        exact ⟨h1, h2, h3, h⟩
    · rw [if_neg h2] at h
      exact absurd h h2
  · rw [if_neg h1] at h
    exact absurd h h1
theorem next_set {l : List CellT} {r : RecT} (h : nextE l r = 0) : nextR l r = l.set r.2.1.toNat (nextC l r).1 := by rw [nextR, if_pos h]

/-- A session whose chain says what its policy says. -/
def CellOk (c : CellT) : Prop := cellErr c = 0 ∧ (c.1 = true → ∀ x : Nat → Int, chkx x = 0 → askF x 4 c.2.1 = vP c.2.2 x)
theorem cellErr_open {c : CellT} (h : cellErr c = 0) (ho : c.1 = true) : chainErr c.2.1 = 0 ∧ polErr c.2.2 = 0 ∧ 0 < c.2.1.length := by
  unfold cellErr at h
  split at h
  · cases h
  · rename_i h1
    rw [ho] at h h1
    rw [if_neg (by simp)] at h
    have hl : 0 < c.2.1.length := by
      by_cases hl : 0 < c.2.1.length
      · exact hl
      · exact absurd (.inl (by simp [hl])) h1
    split at h
    · rename_i h2
      exact ⟨h2, h, hl⟩
    · rename_i h2
      exact absurd h h2
theorem cellErr_of {c : CellT} (ho : c.1 = true) (h1 : chainErr c.2.1 = 0) (h2 : polErr c.2.2 = 0) (hl : 0 < c.2.1.length) : cellErr c = 0 := by
  unfold cellErr
  rw [if_neg (by rw [ho]; simp; exact List.ne_nil_of_length_pos hl), if_neg (by rw [ho]; simp), if_pos h1, h2]
theorem zero_ok : CellOk zeroCell := ⟨by decide, fun h => by cases h⟩
theorem compE_ok {p : PolT} (h : compE p = 0) : polErr p = 0 ∧ codeErr (polI p) = 0 := by
  unfold compE at h
  split at h
  · rename_i hp
    refine ⟨hp, ?_⟩
    rw [codeErr_pol hp]
    exact h
  · rename_i hp
    exact absurd h hp
theorem askF_one {p : PolT} (hp : polErr p = 0) {x : Nat → Int} (hx : chkx x = 0) : askF x 4 [polI p] = vP p x := by
  show (if (runs x 0 0 (polI p)).1 < 4 then (runs x 0 0 (polI p)).1 else 4) = vP p x
  rw [runs_pol hp hx]
  have e1 : (judgeP p x).1 = vP p x := rfl
  have := vP_le hp hx
  rw [e1]
  split <;> omega
theorem open_ok {p : PolT} (h : (openC p).2 = 0) : openC p = ((true, [polI p], p), 0) ∧ CellOk (true, [polI p], p) ∧ compE p = 0 := by
  unfold openC at h ⊢
  by_cases hc : compE p = 0
  · obtain ⟨hp, hcd⟩ := compE_ok hc
    rw [if_pos hc]
    refine ⟨rfl, ⟨cellErr_of rfl (chainErr_ok.2 ⟨by simp, fun f hf => ?_⟩) hp (by simp), fun _ x hx => askF_one hp hx⟩, hc⟩
    simp at hf
    rw [hf]
    exact hcd
  · rw [if_neg hc] at h
    exact absurd h hc
/-- Of a chain that says what a policy says, tightened. -/
theorem tight_gen {ls : ChT} {p q : PolT} (h : tightE ls p q = 0) : chainErr ls = 0 ∧ chainErr (tightR ls p q) = 0 ∧ tightR ls p q = ls ++ [polI (deltaR p q)] ∧ polErr q = 0 ∧ pointsE [q, p] = 0 ∧ looserP q p = none ∧ ∀ x, chkx x = 0 → askF x 4 ls = vP p x → askF x 4 (tightR ls p q) = vP q x := by
  have hr : tightR ls p q = ls ++ [polI (deltaR p q)] := by rw [tightR, if_pos h]
  unfold tightE at h
  split at h
  · rename_i h1
    split at h
    · rename_i h2
      split at h
      · cases h
      · rename_i h6
        obtain ⟨hpts, hlo, -, -, -, hp, hq, -, hd⟩ := delta_ok h2
        have hcd := (compE_ok h).2
        have hch : chainErr (ls ++ [polI (deltaR p q)]) = 0 := by
          obtain ⟨hl, hall⟩ := chainErr_ok.1 h1
          refine chainErr_ok.2 ⟨by simp; omega, fun f hf => ?_⟩
          rcases List.mem_append.1 hf with hf | hf
          · exact hall f hf
          · simp at hf
            rw [hf]
            exact hcd
        rw [hr]
        refine ⟨h1, hch, rfl, hq, hpts, hlo, fun x hx ha => ?_⟩
        obtain ⟨hle, hsay⟩ := delta_says h2 hx
        rw [askF_both, ha, askF_one hd hx, hsay]
        have := vP_le hp hx
        have := vP_le hq hx
        split <;> omega
    · rename_i h2
      exact absurd h h2
  · rename_i h1
    exact absurd h h1

def Good (l : List CellT) : Prop := l.length = 4 ∧ ∀ c ∈ l, CellOk c
theorem good_new : Good newCells := ⟨rfl, fun c hc => by
  simp [newCells] at hc
  rw [hc]
  exact zero_ok⟩
theorem Good.err {l : List CellT} (h : Good l) : cellsErr l = 0 := cellsErr_ok.2 ⟨h.1, fun c hc => (h.2 c hc).1⟩
theorem cellAt_mem {l : List CellT} {k : Int} (h : l.length = 4) (hk : 0 ≤ k ∧ k ≤ 3) : cellAt l k ∈ l := by
  have hlt : k.toNat < l.length := by omega
  unfold cellAt
  rw [List.getD_eq_getElem?_getD, List.getElem?_eq_getElem hlt]
  simp
theorem rec_cells {r : RecT} (h : recErr r = 0) : (0 ≤ r.2.1 ∧ r.2.1 ≤ 3) ∧ 0 ≤ r.2.2.1 ∧ r.2.2.1 ≤ 3 := by
  obtain ⟨_, h2, h3, _⟩ := recErr_ok h
  exact ⟨h2, h3.1, h3.2⟩
/-- What a record makes of its own session. -/
theorem next_cell {l : List CellT} {r : RecT} (hg : Good l) (h : nextE l r = 0) : CellOk (nextC l r).1 := by
  obtain ⟨h1, h2, h3, h4⟩ := next_ok h
  obtain ⟨hc, hf⟩ := rec_cells h2
  unfold nextC at h4 ⊢
  by_cases k3 : r.1 = 3
  · rw [if_pos k3] at h4 ⊢
    by_cases ho : (cellAt l r.2.2.1).1 = true
    · rw [if_pos ho] at h4 ⊢
      obtain ⟨e, hk, -⟩ := open_ok h4
      rw [e]
      exact hk
    · rw [if_neg ho] at h4
      cases h4
  · rw [if_neg k3] at h4 ⊢
    by_cases k1 : r.1 = 1
    · rw [if_pos k1] at h4 ⊢
      obtain ⟨e, hk, -⟩ := open_ok h4
      rw [e]
      exact hk
    · rw [if_neg k1] at h4 ⊢
      by_cases k2 : r.1 = 2
      · rw [if_pos k2] at h4 ⊢
        by_cases ht : tightE (cellAt l r.2.1).2.1 (cellAt l r.2.1).2.2 r.2.2.2 = 0
        · rw [if_pos ht]
          have ho : (cellAt l r.2.1).1 = true := by
            have : decide (r.1 = 1 ∨ r.1 = 3) = false := by simp [k1, k3]
            rw [this] at h3
            cases hb : (cellAt l r.2.1).1 with
            | true => rfl
            | false => rw [hb] at h3; exact absurd rfl h3
          obtain ⟨g1, g2, g3, g4, -, -, g5⟩ := tight_gen ht
          have hk := hg.2 _ (cellAt_mem hg.1 hc)
          exact ⟨cellErr_of rfl g2 g4 (by rw [g3]; simp), fun _ x hx => g5 x hx (hk.2 ho x hx)⟩
        · rw [if_neg ht] at h4
          exact absurd h4 ht
      · rw [if_neg k2]
        exact zero_ok
theorem Good.next {l : List CellT} {r : RecT} (hg : Good l) (h : nextE l r = 0) : Good (nextR l r) := by
  rw [next_set h]
  refine ⟨by simpa using hg.1, fun c hc => ?_⟩
  rcases List.mem_or_eq_of_mem_set hc with hc | hc
  · exact hg.2 c hc
  · rw [hc]
    exact next_cell hg h
theorem replay_good : ∀ (rs : List RecT) (s : List CellT × Int), (s.2 = 0 → Good s.1) → (rs.foldl replayS s).2 = 0 → Good (rs.foldl replayS s).1
  | [], s, hs, h => hs h
  | r :: rs, s, hs, h => by
    rw [List.foldl_cons] at h ⊢
    refine replay_good rs _ (fun h0 => ?_) h
    unfold replayS at h0 ⊢
    by_cases h1 : s.2 = 0
    · rw [if_pos h1] at h0 ⊢
      by_cases h2 : nextE s.1 r = 0
      · rw [if_pos h2]
        exact (hs h1).next h2
      · rw [if_neg h2] at h0
        exact absurd h0 h2
    · rw [if_neg h1] at h0
      exact absurd h0 h1
theorem replayP_good {rs : List RecT} (h : (replayP rs).2 = 0) : Good (replayP rs).1 := by
  unfold replayP at h ⊢
  split at h
  · cases h
  · rename_i hl
    rw [if_neg hl]
    exact replay_good rs _ (fun _ => good_new) h
/-- What is asked of a session that is open. -/
theorem ok_asks {c : CellT} (h : CellOk c) (ho : c.1 = true) {x : Nat → Int} (hx : chkx x = 0) : askE c.2.1 x = 0 ∧ askV c.2.1 x = vP c.2.2 x ∧ judgeP c.2.2 x = (vP c.2.2 x, (judgeP c.2.2 x).2.1, 0) := by
  obtain ⟨h1, h2, -⟩ := cellErr_open h.1 ho
  have hae : askE c.2.1 x = 0 := by rw [askE, if_pos h1]; exact hx
  exact ⟨hae, by rw [askV, if_pos hae]; exact h.2 ho x hx, judge_right h2 hx⟩
/-- A record changes its own session alone; while it is open that gets stricter alone. -/
theorem next_same {l : List CellT} {r : RecT} (h : nextE l r = 0) {k : Nat} (hk : (k : Int) ≠ r.2.1) : (nextR l r)[k]? = l[k]? := by
  rw [next_set h]
  have := (rec_cells (next_ok h).2.1).1
  exact List.getElem?_set_ne (by omega)
theorem next_own {l : List CellT} {r : RecT} (h : nextE l r = 0) : (nextR l r)[r.2.1.toNat]? = some (nextC l r).1 := by
  rw [next_set h]
  have := (rec_cells (next_ok h).2.1).1
  have := (cellsErr_ok.1 (next_ok h).1).1
  exact List.getElem?_set_self (by omega)
theorem next_tight {l : List CellT} {r : RecT} (hg : Good l) (h : nextE l r = 0) (ha : (cellAt l r.2.1).1 = true) (hb : (nextC l r).1.1 = true) {x : Nat → Int} (hx : chkx x = 0) :
    askE (cellAt l r.2.1).2.1 x = 0 ∧ askE (nextC l r).1.2.1 x = 0 ∧ askV (nextC l r).1.2.1 x ≤ askV (cellAt l r.2.1).2.1 x ∧ (nextC l r).1.2.1.length = (cellAt l r.2.1).2.1.length + 1 ∧ pointsE [(nextC l r).1.2.2, (cellAt l r.2.1).2.2] = 0 ∧ looserP (nextC l r).1.2.2 (cellAt l r.2.1).2.2 = none := by
  obtain ⟨h1, h2, h3, h4⟩ := next_ok h
  have hd : decide (r.1 = 1 ∨ r.1 = 3) = false := by
    rw [ha] at h3
    cases hb' : decide (r.1 = 1 ∨ r.1 = 3) with
    | true => rw [hb'] at h3; exact absurd rfl h3
    | false => rfl
  have k13 : ¬ (r.1 = 1 ∨ r.1 = 3) := of_decide_eq_false hd
  unfold nextC at h4 hb ⊢
  rw [if_neg (by omega), if_neg (by omega)] at h4 hb ⊢
  by_cases k2 : r.1 = 2
  · rw [if_pos k2] at h4 hb ⊢
    by_cases ht : tightE (cellAt l r.2.1).2.1 (cellAt l r.2.1).2.2 r.2.2.2 = 0
    · rw [if_pos ht]
      obtain ⟨g1, g2, g3, g4, g5, g6, g7⟩ := tight_gen ht
      obtain ⟨f1, f2, f3, f4⟩ := tight_any ht hx
      exact ⟨f2, f3, f4, by simp only; rw [g3]; simp, g5, g6⟩
    · rw [if_neg ht] at h4
      exact absurd h4 ht
  · rw [if_neg k2] at hb
    cases hb
end Go.Proofs.YtbdlojnigflanacGreatDoor
end
section
/- Chains of filters in memory. -/
set_option linter.all false
set_option maxRecDepth 100000
namespace Go.Proofs.YtbdlojnigflanacGreatDoor
open Go.ChangeShapes Go.WideShapes Go.ChangeAt Go.RowKit Go.Deep

/-- Filters in memory, all in blocks below B. -/
def ChsAt (B : Nat) (w : World) (v : Value) (ls : ChT) : Prop :=
  ∃ a cap, v = .slice a ls.length cap ∧ ls.length ≤ cap ∧ cap ≤ maxLen ∧ ∀ (i : Nat) f, ls[i]? = some f → ∃ b o fv, a = some ⟨b, o, none⟩ ∧ b < B ∧ w.cell? ⟨b, o + i, none⟩ = some fv ∧ InssAt B w fv f
theorem ChsAt.later {B B' : Nat} {w w' : World} {v : Value} {ls : ChT} (h : ChsAt B w v ls) (hb : Below B' w w') (hB : B ≤ B') : ChsAt B w' v ls := by
  obtain ⟨a, cap, h1, h2, h3, h4⟩ := h
  refine ⟨a, cap, h1, h2, h3, fun i f hf => ?_⟩
  obtain ⟨b, o, fv, e, hl, k, hi⟩ := h4 i f hf
  exact ⟨b, o, fv, e, hl, (hb.cell (p := ⟨b, o + i, none⟩) (by show b < B'; omega)).trans k, hi.later hb hB⟩
theorem ChsAt.mono {B B' : Nat} {w : World} {v : Value} {ls : ChT} (h : ChsAt B w v ls) (hB : B ≤ B') : ChsAt B' w v ls := by
  obtain ⟨a, cap, h1, h2, h3, h4⟩ := h
  refine ⟨a, cap, h1, h2, h3, fun i f hf => ?_⟩
  obtain ⟨b, o, fv, e, hl, k, hi⟩ := h4 i f hf
  exact ⟨b, o, fv, e, by omega, k, hi.mono hB⟩
theorem ChsAt.shape {B : Nat} {w : World} {v : Value} {ls : ChT} (h : ChsAt B w v ls) : ∃ a cap, v = .slice a ls.length cap ∧ ls.length ≤ cap ∧ cap ≤ maxLen := by
  obtain ⟨a, cap, h1, h2, h3, -⟩ := h
  exact ⟨a, cap, h1, h2, h3⟩
theorem chsAt_nil (B : Nat) (w : World) : ChsAt B w (.slice none 0 0) [] := ⟨none, 0, rfl, Nat.le_refl _, by rw [maxLen_eq]; omega, fun i c h => by simp at h⟩
/-- The front of a chain. -/
theorem ChsAt.take {B : Nat} {w : World} {a : Option Addr} {n c : Nat} {ls : ChT} (h : ChsAt B w (.slice a n c) ls) (m : Nat) (hm : m ≤ ls.length) : ChsAt B w (.slice a m c) (ls.take m) := by
  obtain ⟨a', cap, h1, h2, h3, h4⟩ := h
  simp at h1
  obtain ⟨rfl, rfl, rfl⟩ := h1
  refine ⟨a, c, by simp; omega, by simp; omega, h3, fun i f hf => ?_⟩
  exact h4 i f (by
    rw [List.getElem?_take] at hf
    split at hf
    · exact hf
    · cases hf)

end Go.Proofs.YtbdlojnigflanacGreatDoor
end
section
/- What the program's own Check says of a filter. -/
set_option linter.all false
set_option maxRecDepth 100000
namespace Go.Proofs.YtbdlojnigflanacGreatDoor
open Go.RowKit Go.Maps

def stepErr (a b c m : Int) : Int := if b ≠ 0 ∨ c ≠ 0 then 4 else if a < 0 ∨ m < a then 3 else 0
def jumpErr (a b c m : Int) : Int := if a < 0 ∨ 65535 < a then 3 else if b < 0 ∨ m ≤ b ∨ c < 0 ∨ m ≤ c then 5 else 0

set_option maxHeartbeats 1000000 in
theorem checkStep_any (k a b c m : Int) (w : World) :
    Calls Tryz.prog 194 #[.agg #[.int .i64 k, .int .i64 a, .int .i64 b, .int .i64 c], .int .i64 m] w fun e w' => e = .returned (.int .i64 (stepErr a b c m)) ∧ Below w.heap.size w w' := by
  have hbl : ∀ x, Below w.heap.size w (w.alloc x) := fun x => (Below.refl _ _).alloc (Nat.le_refl _) _
  by_cases h0 : b ≠ 0 ∨ c ≠ 0
  · have HE : Hid (stepErr a b c m = 4) := by unfold Hid; rw [stepErr, if_pos h0]
    by_cases hb : b = 0
    · have hc : c ≠ 0 := by omega
      have hb' : (b != 0) = false := by simpa using hb
      have hc' : (c != 0) = true := by simpa using hc
      clear h0
      go_enter Tryz.func194, Tryz.ntmps194
      go_wp2
      all_goals
        go_ret
        exact ⟨by rw [HE.out]; rfl, hbl _⟩
    · have hb' : (b != 0) = true := by simpa using hb
      clear h0
      go_enter Tryz.func194, Tryz.ntmps194
      go_wp2
      all_goals
        go_ret
        exact ⟨by rw [HE.out]; rfl, hbl _⟩
  · obtain ⟨rfl, rfl⟩ : b = 0 ∧ c = 0 := by omega
    by_cases h1 : a < 0 ∨ m < a
    · have HE : Hid (stepErr a 0 0 m = 3) := by unfold Hid; rw [stepErr, if_neg h0, if_pos h1]
      go_enter Tryz.func194, Tryz.ntmps194
      go_wp2
      all_goals
        go_ret
        exact ⟨by rw [HE.out]; rfl, hbl _⟩
    · have HE : Hid (stepErr a 0 0 m = 0) := by unfold Hid; rw [stepErr, if_neg h0, if_neg h1]
      go_enter Tryz.func194, Tryz.ntmps194
      go_wp2
      all_goals
        go_ret
        exact ⟨by rw [HE.out]; rfl, hbl _⟩

set_option maxHeartbeats 2000000 in
theorem checkJump_any (k a b c m : Int) (w : World) :
    Calls Tryz.prog 195 #[.agg #[.int .i64 k, .int .i64 a, .int .i64 b, .int .i64 c], .int .i64 m] w fun e w' => e = .returned (.int .i64 (jumpErr a b c m)) ∧ Below w.heap.size w w' := by
  have hbl : ∀ x, Below w.heap.size w (w.alloc x) := fun x => (Below.refl _ _).alloc (Nat.le_refl _) _
  by_cases h0 : a < 0 ∨ 65535 < a
  · have HE : Hid (jumpErr a b c m = 3) := by unfold Hid; rw [jumpErr, if_pos h0]
    go_enter Tryz.func195, Tryz.ntmps195
    go_wp2
    all_goals
      go_ret
      exact ⟨by rw [HE.out]; rfl, hbl _⟩
  · by_cases h1 : b < 0 ∨ m ≤ b ∨ c < 0 ∨ m ≤ c
    · have HE : Hid (jumpErr a b c m = 5) := by unfold Hid; rw [jumpErr, if_neg h0, if_pos h1]
      have a1 : ¬ a < 0 := by omega
      have a2 : ¬ 65535 < a := by omega
      clear h0
      by_cases b1 : b < 0
      · clear h1
        go_enter Tryz.func195, Tryz.ntmps195
        go_wp2
        all_goals
          go_ret
          exact ⟨by rw [HE.out]; rfl, hbl _⟩
      · by_cases b2 : m ≤ b
        · clear h1
          go_enter Tryz.func195, Tryz.ntmps195
          go_wp2
          all_goals
            go_ret
            exact ⟨by rw [HE.out]; rfl, hbl _⟩
        · by_cases c1 : c < 0
          · clear h1
            go_enter Tryz.func195, Tryz.ntmps195
            go_wp2
            all_goals
              go_ret
              exact ⟨by rw [HE.out]; rfl, hbl _⟩
          · have c2 : m ≤ c := by omega
            clear h1
            go_enter Tryz.func195, Tryz.ntmps195
            go_wp2
            all_goals
              go_ret
              exact ⟨by rw [HE.out]; rfl, hbl _⟩
    · have HE : Hid (jumpErr a b c m = 0) := by unfold Hid; rw [jumpErr, if_neg h0, if_neg h1]
      have a1 : ¬ a < 0 := by omega
      have a2 : ¬ 65535 < a := by omega
      have b1 : ¬ b < 0 := by omega
      have b2 : ¬ m ≤ b := by omega
      have c1 : ¬ c < 0 := by omega
      have c2 : ¬ m ≤ c := by omega
      clear h0 h1
      go_enter Tryz.func195, Tryz.ntmps195
      go_wp2
      all_goals
        go_ret
        exact ⟨by rw [HE.out]; rfl, hbl _⟩

theorem insErr_step1 (k a b c m : Int) (h : k = 1 ∨ k = 4) : insErr (k, a, b, c) m = stepErr a b c 4 := by
  unfold insErr
  rw [if_pos h]
  rfl
theorem insErr_jump (k a b c m : Int) (h : k = 2 ∨ k = 3) : insErr (k, a, b, c) m = jumpErr a b c m := by
  unfold insErr
  rw [if_neg (by simp only []; omega), if_pos h]
  rfl

set_option maxHeartbeats 2000000 in
theorem checkIns_any (k a b c m : Int) (w : World) :
    Calls Tryz.prog 163 #[.agg #[.int .i64 k, .int .i64 a, .int .i64 b, .int .i64 c], .int .i64 m] w fun e w' => e = .returned (.int .i64 (insErr (k, a, b, c) m)) ∧ Below w.heap.size w w' := by
  have hbl : ∀ x, Below w.heap.size w (w.alloc x) := fun x => (Below.refl _ _).alloc (Nat.le_refl _) _
  by_cases h0 : k = 1 ∨ k = 4
  · have HE : Hid (insErr (k, a, b, c) m = stepErr a b c 4) := insErr_step1 k a b c m h0
    rcases h0 with rfl | rfl
    all_goals
      go_enter Tryz.func163, Tryz.ntmps163
      go_wp2_with (first | (go_at_call 194; go_must (refine (checkStep_any _ _ _ _ _ _).mono ?_; rintro e w' ⟨rfl, hb2⟩)))
      go_ret
      exact ⟨by rw [HE.out]; rfl, Below.thenOf (hbl _) hb2 (by simp)⟩
  · by_cases h1 : k = 2 ∨ k = 3
    · have HE : Hid (insErr (k, a, b, c) m = jumpErr a b c m) := insErr_jump k a b c m h1
      clear h0
      rcases h1 with rfl | rfl
      all_goals
        go_enter Tryz.func163, Tryz.ntmps163
        go_wp2_with (first | (go_at_call 195; go_must (refine (checkJump_any _ _ _ _ _ _).mono ?_; rintro e w' ⟨rfl, hb2⟩)))
        go_ret
        exact ⟨by rw [HE.out]; rfl, Below.thenOf (hbl _) hb2 (by simp)⟩
    · have HE : Hid (insErr (k, a, b, c) m = 4) := by unfold Hid insErr; rw [if_neg h0, if_neg h1]
      have k1 : (k == 1) = false := by simp; omega
      have k2 : (k == 2) = false := by simp; omega
      have k3 : (k == 3) = false := by simp; omega
      have k4 : (k == 4) = false := by simp; omega
      clear h0 h1
      go_enter Tryz.func163, Tryz.ntmps163
      go_wp2
      go_ret
      exact ⟨by rw [HE.out]; rfl, hbl _⟩

set_option maxHeartbeats 1000000 in
theorem leftOut_any (k a b c : Int) (h : Bool) (w : World) :
    Calls Tryz.prog 193 #[.agg #[.int .i64 k, .int .i64 a, .int .i64 b, .int .i64 c], .bool h] w fun e w' => e = .returned (.int .i64 (if h = true then b else c)) ∧ Below w.heap.size w w' := by
  have hbl : ∀ x, Below w.heap.size w (w.alloc x) := fun x => (Below.refl _ _).alloc (Nat.le_refl _) _
  cases h
  all_goals
    go_enter Tryz.func193, Tryz.ntmps193
    go_wp2
    go_ret
    exact ⟨rfl, hbl _⟩

set_option maxHeartbeats 2000000 in
theorem check_code (B : Nat) (cv : Value) (l : List InsT) (w : World) (hc : InssAt B w cv l) (hB : B ≤ w.heap.size) :
    Calls Tryz.prog 115 #[cv] w fun e w' => e = .returned (.int .i64 (codeErr l)) ∧ Below w.heap.size w w' := by
  obtain ⟨a, cap, rfl, hlc, hcm, hcs⟩ := hc
  have hcs' : Hid (∀ (i : Nat) (c : InsT), l[i]? = some c → ∃ b o, a = some ⟨b, o, none⟩ ∧ b < B ∧ InsAt w b (o + i * 4) c) := hcs
  clear hcs
  have HR : Hid ((l.length < 1 ∨ 1500 < l.length) → codeErr l = 2) := by intro h; rw [codeErr, if_pos h]
  have HN : Hid (¬ (l.length < 1 ∨ 1500 < l.length) → codeErr l = if inssErr l = 0 then (if lastKind l = 4 then 0 else 4) else inssErr l) := by intro h; rw [codeErr, if_neg h]
  have HL : Hid (∀ c, l[l.length - 1]? = some c → lastKind l = c.1) := lastKind_at l
  have HS : Hid (∀ k c, l[k]? = some c → inssErr (l.drop k) = if insErr c ((l.length : Int) - 1 - k) = 0 then inssErr (l.drop (k + 1)) else insErr c ((l.length : Int) - 1 - k)) := inssErr_drop l
  generalize hn : l.length = n at *
  have hml := maxLen_eq
  by_cases h0 : n < 1 ∨ 1500 < n
  · have HE : Hid (codeErr l = 2) := HR.out h0
    by_cases h1 : n < 1
    · obtain rfl : n = 0 := by omega
      clear h0
      go_enter Tryz.func115, Tryz.ntmps115
      go_wp2
      go_ret
      exact ⟨by rw [HE.out]; rfl, Below.refl _ _⟩
    · have i1 : ¬ ((n : Int) < 1) := by omega
      have i2 : (1500 : Int) < (n : Int) := by omega
      clear h0
      go_enter Tryz.func115, Tryz.ntmps115
      go_wp2
      go_ret
      exact ⟨by rw [HE.out]; rfl, Below.refl _ _⟩
  · have HE : Hid (codeErr l = if inssErr l = 0 then (if lastKind l = 4 then 0 else 4) else inssErr l) := HN.out h0
    have i1 : ¬ ((n : Int) < 1) := by omega
    have i2 : ¬ ((1500 : Int) < (n : Int)) := by omega
    have i3 : IntKind.i64.wrap ((n : Int) - 1) = (n : Int) - 1 := IntWalk.i64_in _ (by omega)
    have hn1 : 1 ≤ n ∧ n ≤ 1500 := by omega
    clear h0 HR HN
    go_enter Tryz.func115, Tryz.ntmps115
    go_wp2
    go_loopw [20] (fun i wr => ∃ k : Nat, k ≤ n ∧ i = .int .i64 k ∧ Hid (inssErr l = inssErr (l.drop k)) ∧ Below w.heap.size w wr) (fun i _ => n - (intOf i).toNat)
    case atStart => exact ⟨0, by omega, rfl, rfl, Below.refl _ _⟩
    case round =>
      obtain ⟨k, hk, rfl, H, hbr⟩ := hrel
      have i0 : (0 : Int) ≤ (k : Int) := by omega
      by_cases hlt : k < n
      · have i4 : (k : Int) < (n : Int) := by omega
        have i5 : IntKind.i64.wrap ((n : Int) - 1 - k) = (n : Int) - 1 - k := IntWalk.i64_in _ (by omega)
        obtain ⟨c, hck⟩ : ∃ c, l[k]? = some c := ⟨l[k]'(by omega), by simp⟩
        obtain ⟨b, o, rfl, hbB, hat⟩ := hcs'.out k c hck
        have S : Hid (inssErr (l.drop k) = if insErr c ((n : Int) - 1 - k) = 0 then inssErr (l.drop (k + 1)) else insErr c ((n : Int) - 1 - k)) := HS.out k c hck
        obtain ⟨kd, ca, cb, cc⟩ := c
        obtain ⟨c0, c1, c2, c3, _⟩ := hat.later hbr (by omega)
        simp only [] at c0 c1 c2 c3
        go_wp2_with (first | (go_at_call 163; go_must (refine (checkIns_any _ _ _ _ _ _).mono ?_; rintro e w' ⟨rfl, hb2⟩)))
        all_goals have hb3 : Below w.heap.size w w' := Below.thenOf (hbr.alloc hbr.size _) hb2 (by simp; have := hbr.size; omega)
        · have hne : insErr (kd, ca, cb, cc) ((n : Int) - 1 - k) ≠ 0 := by simpa using (by assumption : (insErr (kd, ca, cb, cc) ((n : Int) - 1 - k) != 0) = true)
          have hI : inssErr l = insErr (kd, ca, cb, cc) ((n : Int) - 1 - k) := by rw [H.out, S.out, if_neg hne]
          go_ret
          exact ⟨by rw [HE.out, hI, if_neg hne]; rfl, hb3⟩
        · have he : insErr (kd, ca, cb, cc) ((n : Int) - 1 - k) = 0 := by simpa using (by assumption : (insErr (kd, ca, cb, cc) ((n : Int) - 1 - k) != 0) = false)
          exact ⟨⟨k + 1, by omega, by go_num, by unfold Hid; rw [H.out, S.out, if_pos he], hb3⟩, by simp [intOf]; omega⟩
      · have hI : Hid (inssErr l = 0) := by unfold Hid; rw [H.out, List.drop_eq_nil_of_le (by omega)]; rfl
        obtain ⟨c, hck⟩ : ∃ c, l[n - 1]? = some c := ⟨l[n - 1]'(by omega), by simp⟩
        obtain ⟨b, o, rfl, hbB, hat⟩ := hcs'.out (n - 1) c hck
        have hlk : Hid (lastKind l = c.1) := HL.out c hck
        obtain ⟨c0, _⟩ := hat.later hbr (by omega)
        obtain ⟨q, rfl⟩ : ∃ q : Nat, n = q + 1 := ⟨n - 1, by omega⟩
        simp only [Nat.add_sub_cancel] at c0
        have e0 : (((q + 1 : Nat) : Int) - 1) = (q : Int) := by omega
        by_cases h4 : c.1 = 4
        · have h4' : (c.1 != 4) = false := by simpa using h4
          have HF : Hid (codeErr l = 0) := by unfold Hid; rw [HE.out, if_pos hI.out, hlk.out, if_pos h4]
          generalize c.1 = c1 at *
          clear h4 HE
          go_wp2
          go_ret
          exact ⟨by rw [HF.out]; rfl, hbr⟩
        · have h4' : (c.1 != 4) = true := by simpa using h4
          have HF : Hid (codeErr l = 4) := by unfold Hid; rw [HE.out, if_pos hI.out, hlk.out, if_neg h4]
          generalize c.1 = c1 at *
          clear h4 HE
          go_wp2
          go_ret
          exact ⟨by rw [HF.out]; rfl, hbr⟩

end Go.Proofs.YtbdlojnigflanacGreatDoor
end
