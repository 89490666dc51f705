/- Joined: Met1 Ins. -/
import Derived.Test.YtbjpdmfedphacacGreatDoorCj09
import Derived.Test.YtbjpdmfedphacacGreatDoorCj15
import Derived.Test.YtbjpdmfedphacacGreatDoorCj16
import Derived.Test.YtbjpdmfedphacacGreatDoorCj01
section
/- Meetings: plain facts for the statements on them. -/
set_option linter.all false
namespace Go.Proofs.YtbjpdmfedphacacGreatDoor

theorem ruleErr_pair {r s : RuleT} (hr : verdictOk r.2 = true) (hs : verdictOk s.2 = true) (exc : Bool) : ruleErr (pairR exc r s) = ruleErr (pairR false r s) := by
  have hv : ∀ e, verdictOk (ofV e r.2 s.2) = true := fun e => by
    unfold ofV
    split
    · exact hr
    · split
      · rfl
      · exact hs
  unfold ruleErr pairR
  simp only [hv]
theorem rulesErr_congr : ∀ (l m : List RuleT), l.map ruleErr = m.map ruleErr → rulesErr l = rulesErr m
  | [], [], _ => rfl
  | [], b :: m, h => by simp at h
  | a :: l, [], h => by simp at h
  | a :: l, b :: m, h => by
    simp only [List.map_cons, List.cons.injEq] at h
    unfold rulesErr
    rw [h.1, rulesErr_congr l m h.2]
theorem meetRs_len1 (exc : Bool) (p q : PolT) : (meetRs exc p q).length = (meetRs false p q).length := by
  unfold meetRs
  rw [List.length_append, List.length_append, length_flatMap_const _ (q.1.length + 1) _ (fun r _ => by simp), length_flatMap_const _ (q.1.length + 1) _ (fun r _ => by simp)]
  simp
theorem meetE_exc (p q : PolT) : meetE true p q = meetE false p q := by
  unfold meetE
  by_cases h0 : polsErr [p, q] = 0
  · rw [if_pos h0, if_pos h0]
    obtain ⟨hp, hq⟩ := polsErr_two h0
    obtain ⟨_, hpv, hpr⟩ := polErr_ok hp
    obtain ⟨_, hqv, hqr⟩ := polErr_ok hq
    have hrv : ∀ r ∈ p.1, verdictOk r.2 = true := fun r hr => (ruleErr_ok (rulesErr_all hpr r hr)).2.1
    have hsv : ∀ r ∈ q.1, verdictOk r.2 = true := fun r hr => (ruleErr_ok (rulesErr_all hqr r hr)).2.1
    have hd : ∀ e, verdictOk (ofV e p.2 q.2) = true := fun e => by
      unfold ofV
      split
      · exact hpv
      · split
        · rfl
        · exact hqv
    have hm : (meetRs true p q).map ruleErr = (meetRs false p q).map ruleErr := by
      unfold meetRs
      rw [List.map_append, List.map_append, List.map_flatMap, List.map_flatMap, List.map_map, List.map_map]
      congr 1
      · rw [List.flatMap_def, List.flatMap_def]
        congr 1
        refine List.map_congr_left fun r hr => ?_
        rw [List.map_append, List.map_append, List.map_map, List.map_map]
        congr 1
        · exact List.map_congr_left fun s hs => ruleErr_pair (hrv r hr) (hsv s hs) true
        · simp only [List.map_cons, List.map_nil]
          rw [ruleErr_pair (s := ([], q.2)) (hrv r hr) hqv true]
      · exact List.map_congr_left fun s hs => ruleErr_pair (r := ([], p.2)) hpv (hsv s hs) true
    unfold polErr meetP
    simp only [hd, meetRs_len1 true p q, rulesErr_congr _ _ hm]
  · rw [if_neg h0, if_neg h0]
theorem meetE_ok {exc : Bool} {p q : PolT} (h : meetE exc p q = 0) : polErr p = 0 ∧ polErr q = 0 ∧ polErr (meetP exc p q) = 0 := by
  unfold meetE at h
  split at h
  · rename_i h0
    exact ⟨(polsErr_two h0).1, (polsErr_two h0).2, h⟩
  · rename_i h0
    exact absurd h h0
theorem judge_right {p : PolT} (hp : polErr p = 0) {x : Nat → Int} (hx : chkx x = 0) : judgeP p x = (vP p x, (judgeP p x).2.1, 0) := judge_zero (ps := [p]) (fun q hq => by simp at hq; subst hq; exact hp) (by simp) hx
/-- What MeetMeans asks. -/
theorem means {p q : PolT} (h : meetE false p q = 0) {x : Nat → Int} (hx : chkx x = 0) : ∃ v k w l m n, judgeP p x = (v, k, 0) ∧ judgeP q x = (w, l, 0) ∧ judgeP (meetR false p q) x = (ofV false v w, m, 0) ∧ judgeP (meetR true p q) x = (ofV true v w, n, 0) := by
  have h' : meetE true p q = 0 := by rw [meetE_exc]; exact h
  obtain ⟨hp, hq, hm⟩ := meetE_ok h
  obtain ⟨_, _, hm'⟩ := meetE_ok h'
  have e1 : meetR false p q = meetP false p q := by rw [meetR, if_pos h]
  have e2 : meetR true p q = meetP true p q := by rw [meetR, if_pos h']
  have j1 := judge_right hm hx
  have j2 := judge_right hm' hx
  rw [vP_meet false hp hq hm hx] at j1
  rw [vP_meet true hp hq hm' hx] at j2
  exact ⟨_, _, _, _, _, _, judge_right hp hx, judge_right hq hx, by rw [e1]; exact j1, by rw [e2]; exact j2⟩
/-- What MeetShort asks. -/
theorem shorts {p : PolT} (h : pointsE [p] = 0) {x : Nat → Int} (hx : chkx x = 0) : ∃ v k l, judgeP p x = (v, k, 0) ∧ judgeP (shortR p) x = (v, l, 0) ∧ pointsE [shortR p] = 0 ∧ shortR (shortR p) = shortR p ∧ (shortR p).1.length ≤ p.1.length := by
  have hp : polErr p = 0 := (pointsE_ok.1 h).1 p (by simp)
  have e : shortR p = shortP p := by unfold shortR; rw [if_pos h]
  have hs := short_points h
  have e2 : shortR (shortP p) = shortP (shortP p) := by unfold shortR; rw [if_pos hs]
  have j1 := judge_right (shortP_ok hp) hx
  rw [vP_short hp hx] at j1
  exact ⟨_, _, _, judge_right hp hx, by rw [e]; exact j1, by rw [e]; exact hs, by rw [e, e2, short_twice hp], by rw [e]; exact shortP_len p⟩

end Go.Proofs.YtbjpdmfedphacacGreatDoor
end
section
/- Filters: plain data, how they lie in memory, what Check says of them, what they say of a call. -/
set_option linter.all false
set_option maxRecDepth 100000
namespace Go.Proofs.YtbjpdmfedphacacGreatDoor
open Go.ChangeShapes Go.WideShapes Go.ChangeAt Go.RowKit Go.Deep

/-- Kind, A, B, C. -/
abbrev InsT := Int × Int × Int × Int
def insV (c : InsT) : Value := .agg #[.int .i64 c.1, .int .i64 c.2.1, .int .i64 c.2.2.1, .int .i64 c.2.2.2]
def insWf (c : InsT) : Prop := wf c.1 ∧ wf c.2.1 ∧ wf c.2.2.1 ∧ wf c.2.2.2

/-- An instruction in four cells. -/
def InsAt (w : World) (b o : Nat) (c : InsT) : Prop :=
  w.cell? ⟨b, o, none⟩ = some (.int .i64 c.1) ∧ w.cell? ⟨b, o + 1, none⟩ = some (.int .i64 c.2.1) ∧ w.cell? ⟨b, o + 2, none⟩ = some (.int .i64 c.2.2.1) ∧ w.cell? ⟨b, o + 3, none⟩ = some (.int .i64 c.2.2.2) ∧ insWf c
/-- Instructions in memory, all in blocks below B. -/
def InssAt (B : Nat) (w : World) (v : Value) (cs : List InsT) : Prop :=
  ∃ a cap, v = .slice a cs.length cap ∧ cs.length ≤ cap ∧ cap ≤ maxLen ∧ ∀ i c, cs[i]? = some c → ∃ b o, a = some ⟨b, o, none⟩ ∧ b < B ∧ InsAt w b (o + i * 4) c
theorem InsAt.later {B : Nat} {w w' : World} {b o : Nat} {c : InsT} (h : InsAt w b o c) (hb : Below B w w') (hB : b < B) : InsAt w' b o c := by
  unfold InsAt
  rw [hb.cell (p := ⟨b, o, none⟩) hB, hb.cell (p := ⟨b, o + 1, none⟩) hB, hb.cell (p := ⟨b, o + 2, none⟩) hB, hb.cell (p := ⟨b, o + 3, none⟩) hB]
  exact h
theorem InssAt.later {B B' : Nat} {w w' : World} {v : Value} {cs : List InsT} (h : InssAt B w v cs) (hb : Below B' w w') (hB : B ≤ B') : InssAt B w' v cs := by
  obtain ⟨a, cap, h1, h2, h3, h4⟩ := h
  refine ⟨a, cap, h1, h2, h3, fun i c hc => ?_⟩
  obtain ⟨b, o, e, hl, k⟩ := h4 i c hc
  exact ⟨b, o, e, hl, k.later hb (by omega)⟩
theorem InssAt.mono {B B' : Nat} {w : World} {v : Value} {cs : List InsT} (h : InssAt B w v cs) (hB : B ≤ B') : InssAt B' w v cs := by
  obtain ⟨a, cap, h1, h2, h3, h4⟩ := h
  refine ⟨a, cap, h1, h2, h3, fun i c hc => ?_⟩
  obtain ⟨b, o, e, hl, k⟩ := h4 i c hc
  exact ⟨b, o, e, by omega, k⟩
theorem InssAt.shape {B : Nat} {w : World} {v : Value} {cs : List InsT} (h : InssAt B w v cs) : ∃ a cap, v = .slice a cs.length cap ∧ cs.length ≤ cap ∧ cap ≤ maxLen := by
  obtain ⟨a, cap, rfl, h, h', _⟩ := h
  exact ⟨a, cap, rfl, h, h'⟩

/-! What Check says. -/
def insErr (c : InsT) (behind : Int) : Int :=
  if c.1 = 1 ∨ c.1 = 4 then (if c.2.2.1 ≠ 0 ∨ c.2.2.2 ≠ 0 then 4 else if c.2.1 < 0 ∨ 4 < c.2.1 then 3 else 0)
  else if c.1 = 2 ∨ c.1 = 3 then (if c.2.1 < 0 ∨ 65535 < c.2.1 then 3 else if c.2.2.1 < 0 ∨ behind ≤ c.2.2.1 ∨ c.2.2.2 < 0 ∨ behind ≤ c.2.2.2 then 5 else 0)
  else 4
def inssErr : List InsT → Int
  | [] => 0
  | c :: r => if insErr c r.length = 0 then inssErr r else insErr c r.length
def lastKind : List InsT → Int
  | [] => 0
  | [c] => c.1
  | _ :: c :: r => lastKind (c :: r)
def codeErr (l : List InsT) : Int := if l.length < 1 ∨ 1500 < l.length then 2 else if inssErr l = 0 then (if lastKind l = 4 then 0 else 4) else inssErr l

theorem inssErr_drop (l : List InsT) (k : Nat) (c : InsT) (h : l[k]? = some c) : inssErr (l.drop k) = if insErr c ((l.length : Int) - 1 - k) = 0 then inssErr (l.drop (k + 1)) else insErr c ((l.length : Int) - 1 - k) := by
  obtain ⟨hk, rfl⟩ := List.getElem?_eq_some_iff.1 h
  rw [List.drop_eq_getElem_cons hk, inssErr, show (((l.drop (k + 1)).length : Nat) : Int) = (l.length : Int) - 1 - k by rw [List.length_drop]; omega]
theorem lastKind_at : ∀ (l : List InsT) (c : InsT), l[l.length - 1]? = some c → lastKind l = c.1
  | [], _, h => by simp at h
  | [d], c, h => by simp at h; subst h; rfl
  | _ :: d :: r, c, h => by
    rw [lastKind]
    exact lastKind_at (d :: r) c (by simpa using h)
theorem inssErr_all : ∀ (l : List InsT) (k : Nat) (c : InsT), inssErr l = 0 → l[k]? = some c → insErr c ((l.length : Int) - 1 - k) = 0
  | [], _, _, _, h => by simp at h
  | d :: r, k, c, h, hc => by
    rw [inssErr] at h
    by_cases h0 : insErr d r.length = 0
    · rw [if_pos h0] at h
      cases k with
      | zero =>
        simp at hc
        subst hc
        rw [show (((d :: r).length : Nat) : Int) - 1 - ((0 : Nat) : Int) = r.length by simp]
        exact h0
      | succ k =>
        have := inssErr_all r k c h (by simpa using hc)
        rw [show (((d :: r).length : Nat) : Int) - 1 - ((k + 1 : Nat) : Int) = (r.length : Int) - 1 - k by simp; omega]
        exact this
    · rw [if_neg h0] at h
      exact absurd h h0

/-- What is asked of a right filter. -/
theorem codeErr_ok {l : List InsT} (h : codeErr l = 0) : 1 ≤ l.length ∧ l.length ≤ 1500 ∧ inssErr l = 0 ∧ lastKind l = 4 := by
  unfold codeErr at h
  by_cases h0 : l.length < 1 ∨ 1500 < l.length
  · rw [if_pos h0] at h; cases h
  · rw [if_neg h0] at h
    by_cases h1 : inssErr l = 0
    · rw [if_pos h1] at h
      by_cases h2 : lastKind l = 4
      · exact ⟨by omega, by omega, h1, h2⟩
      · rw [if_neg h2] at h; cases h
    · rw [if_neg h1] at h; exact absurd h h1
theorem insErr_step {c : InsT} {n : Int} (h : insErr c n = 0) : (c.1 = 1 ∨ c.1 = 4) ∧ (0 ≤ c.2.1 ∧ c.2.1 ≤ 4) ∨ (c.1 = 2 ∨ c.1 = 3) ∧ (0 ≤ c.2.2.1 ∧ c.2.2.1 < n ∧ 0 ≤ c.2.2.2 ∧ c.2.2.2 < n) := by
  unfold insErr at h
  by_cases h0 : c.1 = 1 ∨ c.1 = 4
  · rw [if_pos h0] at h
    split at h
    · cases h
    · split at h
      · cases h
      · exact .inl ⟨h0, by omega⟩
  · rw [if_neg h0] at h
    by_cases h1 : c.1 = 2 ∨ c.1 = 3
    · rw [if_pos h1] at h
      split at h
      · cases h
      · split at h
        · cases h
        · exact .inr ⟨h1, by omega⟩
    · rw [if_neg h1] at h
      cases h

/-! What a filter says: the verdict, and how many instructions were done. -/
def inc (p : Int × Int) : Int × Int := (p.1, p.2 + 1)
def hop (n : Int) (c : InsT) : Nat := (if (if c.1 = 2 then n = c.2.1 else n < c.2.1) then c.2.2.1 else c.2.2.2).toNat
def runs (x : Nat → Int) : Int → Nat → List InsT → Int × Int
  | _, _, [] => (0, 0)
  | n, k + 1, _ :: r => runs x n k r
  | n, 0, c :: r => if c.1 = 1 then inc (runs x (x c.2.1.toNat) 0 r) else if c.1 = 2 ∨ c.1 = 3 then inc (runs x n (hop n c) r) else (c.2.1, 1)
theorem runs_skip (x : Nat → Int) : ∀ (l : List InsT) (n : Int) (k : Nat), runs x n k l = runs x n 0 (l.drop k)
  | [], n, k => by cases k <;> simp [runs]
  | c :: r, n, 0 => by simp
  | c :: r, n, k + 1 => by rw [List.drop_succ_cons, runs]; exact runs_skip x r n k

/-- A right filter ends behind no more instructions than it has, by a verdict. -/
theorem runs_ends (x : Nat → Int) : ∀ (l : List InsT) (n : Int) (k : Nat), inssErr l = 0 → lastKind l = 4 → k < l.length → (1 ≤ (runs x n k l).2 ∧ (runs x n k l).2 + k ≤ l.length) ∧ (0 ≤ (runs x n k l).1 ∧ (runs x n k l).1 ≤ 4)
  | [], _, _, _, _, h => by simp at h
  | c :: r, n, k, he, hk, hlt => by
    have h0 : insErr c r.length = 0 := by
      rw [inssErr] at he
      by_cases h0 : insErr c r.length = 0
      · exact h0
      · rw [if_neg h0] at he; exact he
    have hr : inssErr r = 0 := by rw [inssErr, if_pos h0] at he; exact he
    have hl : (((c :: r).length : Nat) : Int) = r.length + 1 := by simp
    have hlast : r ≠ [] → lastKind r = 4 := fun hn => by
      cases r with
      | nil => exact absurd rfl hn
      | cons d s => rw [lastKind] at hk; exact hk
    have hne : c.1 ≠ 4 → r ≠ [] := fun h hn => by subst hn; exact h hk
    have hpos : r ≠ [] → 0 < r.length := fun h => List.length_pos_iff.2 h
    cases k with
    | succ k =>
      have hn : r ≠ [] := by intro e; subst e; simp at hlt
      rw [runs]
      have := runs_ends x r n k hr (hlast hn) (by simpa using hlt)
      rw [hl]
      refine ⟨⟨this.1.1, ?_⟩, this.2⟩
      have := this.1.2
      omega
    | zero =>
      rw [runs, hl]
      by_cases h1 : c.1 = 1
      · rw [if_pos h1]
        have hn : r ≠ [] := hne (by omega)
        have := runs_ends x r (x c.2.1.toNat) 0 hr (hlast hn) (hpos hn)
        exact ⟨⟨by show 1 ≤ _ + 1; omega, by show _ + 1 + ((0 : Nat) : Int) ≤ _; have := this.1.2; omega⟩, this.2⟩
      · rw [if_neg h1]
        by_cases h2 : c.1 = 2 ∨ c.1 = 3
        · rw [if_pos h2]
          have hn : r ≠ [] := hne (by omega)
          have hh : hop n c < r.length := by
            rcases insErr_step h0 with ⟨h, _⟩ | ⟨_, a, b, d, e⟩
            · omega
            · unfold hop
              split <;> omega
          have := runs_ends x r n (hop n c) hr (hlast hn) hh
          exact ⟨⟨by show 1 ≤ _ + 1; omega, by show _ + 1 + ((0 : Nat) : Int) ≤ _; have := this.1.2; omega⟩, this.2⟩
        · rw [if_neg h2]
          rcases insErr_step h0 with ⟨_, a, b⟩ | ⟨h, _⟩
          · exact ⟨⟨by show (1 : Int) ≤ 1; decide, by show (1 : Int) + ((0 : Nat) : Int) ≤ _; omega⟩, a, b⟩
          · exact absurd h h2

/-- Instructions that came in. -/
theorem open_inss {H : Type} {enc : TypeId × Value → H} {W : World} {base : Nat} {sp : Nat → Bool} {held : Bool} {fuel : Nat} {cv : Value} {x : DataW H × List MemPlace} (h : DataW.trod enc Tryz.prog W base sp held fuel 40 [cv] = some x) : ∃ cs, InssAt W.heap.size W cv cs := by
  rcases open_slice Tryz.underlying40 h with ⟨h0, _⟩ | ⟨a, len, cap, m, n, D, Pl, h0, _, hl, hm, hmm, _, hx⟩
  · simp at h0
    subst h0
    exact ⟨[], none, 0, rfl, Nat.le_refl _, Nat.zero_le _, fun i c hc => by simp at hc⟩
  · simp at h0
    subst h0
    have h4 : Tryz.prog.cellsOf 79 = 4 := by kernel_rfl
    have h1 : Tryz.prog.cellsOf 3 = 1 := by kernel_rfl
    rw [h4] at hx
    have hlm : len ≤ m := by rw [hmm]; split <;> omega
    have each : ∀ i, i < len → ∃ c : InsT, a = ⟨a.block, a.off, none⟩ ∧ a.block < W.heap.size ∧ InsAt W a.block (a.off + i * 4) c := by
      intro i hi
      have h00 : W.cell? (a.add 0) ≠ none := by
        obtain ⟨cs', g1, _⟩ := hx 0 (by omega)
        obtain ⟨_, hlen, hcell⟩ := World.cells?_some g1
        have := hcell 0 (by omega)
        rw [add_add] at this
        simp at this
        match cs', hlen with
        | [v0, v1, v2, v3], _ => simp at this ⊢; rw [this]; simp
      obtain ⟨v, hv⟩ := Option.ne_none_iff_exists'.1 h00
      obtain ⟨ha, hb⟩ := addr_plain hv
      obtain ⟨cs', g1, g2⟩ := hx i (by omega)
      obtain ⟨_, hlen, hcell⟩ := World.cells?_some g1
      obtain ⟨xs, k, _, _, _, hxl, hf⟩ := DataW.trod_struct Tryz.underlying79 g2
      match xs, hxl with
      | [y0, y1, y2, y3], _ =>
        have e0 := hf 0 _ rfl
        have e1 := hf 1 _ rfl
        have e2 := hf 2 _ rfl
        have e3 := hf 3 _ rfl
        match cs', hlen with
        | [v0, v1, v2, v3], _ =>
          simp [h1] at e0 e1 e2 e3
          obtain ⟨k0, q0, _, w0⟩ := DataW.trod_int Tryz.underlying3 e0
          obtain ⟨k1, q1, _, w1⟩ := DataW.trod_int Tryz.underlying3 e1
          obtain ⟨k2, q2, _, w2⟩ := DataW.trod_int Tryz.underlying3 e2
          obtain ⟨k3, q3, _, w3⟩ := DataW.trod_int Tryz.underlying3 e3
          simp at q0 q1 q2 q3
          subst q0 q1 q2 q3
          have c0 := hcell 0 (by omega)
          have c1 := hcell 1 (by omega)
          have c2 := hcell 2 (by omega)
          have c3 := hcell 3 (by omega)
          rw [add_add, ha, add_at] at c0 c1 c2 c3
          exact ⟨(k0, k1, k2, k3), ha, hb, by simpa using c0, by simpa [Nat.add_assoc] using c1, by simpa [Nat.add_assoc] using c2, by simpa [Nat.add_assoc] using c3, w0, w1, w2, w3⟩
    obtain ⟨cs, hcl, hcp⟩ := list_of _ len each
    refine ⟨cs, some a, cap, by rw [hcl], by omega, hm, fun i c hc => ?_⟩
    obtain ⟨ha, hb, hat⟩ := hcp i c hc
    exact ⟨a.block, a.off, by rw [← ha], hb, hat⟩

end Go.Proofs.YtbjpdmfedphacacGreatDoor
end
