/- Policies: plain data, how they lie in memory, what Check says of them. -/
import Derived.Test.YthpllmhnpbigiaaDoorBase
set_option linter.all false
namespace Go.Proofs.YthpllmhnpbigiaaDoor
open Go.RowKit Go.Maps

abbrev CondT := Int × Int × Int
abbrev RuleT := List CondT × Int
abbrev PolT := List RuleT × Int

def condV (c : CondT) : Value := .agg #[.int .i64 c.1, .int .i64 c.2.1, .int .i64 c.2.2]

/-- A condition in three cells. -/
def CondAt (w : World) (b o : Nat) (c : CondT) : Prop :=
  w.cell? ⟨b, o, none⟩ = some (.int .i64 c.1) ∧ w.cell? ⟨b, o + 1, none⟩ = some (.int .i64 c.2.1) ∧ w.cell? ⟨b, o + 2, none⟩ = some (.int .i64 c.2.2) ∧ wf c.1 ∧ wf c.2.1 ∧ wf c.2.2
/-- Conditions in memory, all in blocks below B. -/
def CondsAt (B : Nat) (w : World) (v : Value) (cs : List CondT) : Prop :=
  ∃ a cap, v = .slice a cs.length cap ∧ cs.length ≤ cap ∧ cap ≤ maxLen ∧ ∀ i c, cs[i]? = some c → ∃ b o, a = some ⟨b, o, none⟩ ∧ b < B ∧ CondAt w b (o + i * 3) c
def RuleAt (B : Nat) (w : World) (b o : Nat) (r : RuleT) : Prop :=
  ∃ cv, w.cell? ⟨b, o, none⟩ = some cv ∧ w.cell? ⟨b, o + 1, none⟩ = some (.int .i64 r.2) ∧ wf r.2 ∧ CondsAt B w cv r.1
def RulesAt (B : Nat) (w : World) (v : Value) (rs : List RuleT) : Prop :=
  ∃ a cap, v = .slice a rs.length cap ∧ rs.length ≤ cap ∧ cap ≤ maxLen ∧ ∀ i r, rs[i]? = some r → ∃ b o, a = some ⟨b, o, none⟩ ∧ b < B ∧ RuleAt B w b (o + i * 2) r
def PolAt (B : Nat) (w : World) (v : Value) (p : PolT) : Prop :=
  ∃ rv, v = .agg #[rv, .int .i64 p.2] ∧ wf p.2 ∧ RulesAt B w rv p.1

theorem CondAt.later {B : Nat} {w w' : World} {b o : Nat} {c : CondT} (h : CondAt w b o c) (hb : Below B w w') (hB : b < B) : CondAt w' b o c := by
  unfold CondAt
  rw [hb.cell (p := ⟨b, o, none⟩) hB, hb.cell (p := ⟨b, o + 1, none⟩) hB, hb.cell (p := ⟨b, o + 2, none⟩) hB]
  exact h
theorem CondsAt.later {B B' : Nat} {w w' : World} {v : Value} {cs : List CondT} (h : CondsAt B w v cs) (hb : Below B' w w') (hB : B ≤ B') : CondsAt B w' v cs := by
  obtain ⟨a, cap, h1, h2, h3, h4⟩ := h
  refine ⟨a, cap, h1, h2, h3, fun i c hc => ?_⟩
  obtain ⟨b, o, e, hl, k⟩ := h4 i c hc
  exact ⟨b, o, e, hl, k.later hb (by omega)⟩
theorem RuleAt.later {B B' : Nat} {w w' : World} {b o : Nat} {r : RuleT} (h : RuleAt B w b o r) (hb : Below B' w w') (hB : B ≤ B') (hl : b < B) : RuleAt B w' b o r := by
  obtain ⟨cv, h1, h2, h3, h4⟩ := h
  exact ⟨cv, (hb.cell (p := ⟨b, o, none⟩) (by show b < B'; omega)).trans h1, (hb.cell (p := ⟨b, o + 1, none⟩) (by show b < B'; omega)).trans h2, h3, h4.later hb hB⟩
theorem RulesAt.later {B B' : Nat} {w w' : World} {v : Value} {rs : List RuleT} (h : RulesAt B w v rs) (hb : Below B' w w') (hB : B ≤ B') : RulesAt B w' v rs := by
  obtain ⟨a, cap, h1, h2, h3, h4⟩ := h
  refine ⟨a, cap, h1, h2, h3, fun i c hc => ?_⟩
  obtain ⟨b, o, e, hl, k⟩ := h4 i c hc
  exact ⟨b, o, e, hl, k.later hb hB hl⟩
theorem PolAt.later {B B' : Nat} {w w' : World} {v : Value} {p : PolT} (h : PolAt B w v p) (hb : Below B' w w') (hB : B ≤ B') : PolAt B w' v p := by
  obtain ⟨rv, h1, h2, h3⟩ := h
  exact ⟨rv, h1, h2, h3.later hb hB⟩

/-! What Check says. -/
def verdictOk (v : Int) : Bool := decide (0 ≤ v) && decide (v ≤ 4)
def condErr (c : CondT) : Int := if c.1 < 0 ∨ 5 ≤ c.1 then 5 else if c.2.1 < 1 ∨ 4 < c.2.1 then 4 else if c.2.2 < 0 ∨ most c.1 < c.2.2 then 3 else 0
def condsErr : List CondT → Int
  | [] => 0
  | c :: r => if condErr c = 0 then condsErr r else condErr c
def ruleErr (r : RuleT) : Int := if 10 < r.1.length then 2 else if verdictOk r.2 then condsErr r.1 else 3
def rulesErr : List RuleT → Int
  | [] => 0
  | r :: s => if ruleErr r = 0 then rulesErr s else ruleErr r
def polErr (p : PolT) : Int := if 120 < p.1.length then 2 else if verdictOk p.2 then rulesErr p.1 else 3

set_option maxHeartbeats 400000 in
theorem isVerdict_any (v : Int) (w : World) :
    Calls Tryd.prog 41 #[.int .i64 v] w fun e w' => e = .returned (.bool (verdictOk v)) ∧ w' = w := by
  unfold verdictOk
  by_cases h0 : 0 ≤ v
  · go_enter Tryd.func41, Tryd.ntmps41
    go_wp2
    go_ret
    exact ⟨by simp [h0], rfl⟩
  · go_enter Tryd.func41, Tryd.ntmps41
    go_wp2
    go_ret
    exact ⟨by simp; omega, rfl⟩

set_option maxHeartbeats 400000 in
theorem checkCond_any (f o v : Int) (w : World) :
    Calls Tryd.prog 66 #[.agg #[.int .i64 f, .int .i64 o, .int .i64 v]] w fun e w' => e = .returned (.int .i64 (condErr (f, o, v))) ∧ Below w.heap.size w w' := by
  have hb : ∀ x, Below w.heap.size w (w.alloc x) := fun x => (Below.refl _ _).alloc (Nat.le_refl _) _
  go_enter Tryd.func66, Tryd.ntmps66
  by_cases h0 : f < 0 ∨ 5 ≤ f
  · go_wp2
    all_goals
      go_ret
      exact ⟨by rw [condErr, if_pos h0]; rfl, hb _⟩
  · by_cases h1 : o < 1 ∨ 4 < o
    · go_wp2
      all_goals
        go_ret
        exact ⟨by rw [condErr, if_neg h0, if_pos h1]; rfl, hb _⟩
    · go_wp2
      have hbW := hb (.cells #[.int .i64 f, .int .i64 o, .int .i64 v] 63)
      have hz : w.heap.size < (w.alloc (.cells #[.int .i64 f, .int .i64 o, .int .i64 v] 63)).heap.size := by simp
      have e0 : (w.alloc (.cells #[.int .i64 f, .int .i64 o, .int .i64 v] 63)).cell? ⟨w.heap.size, 0, none⟩ = some (.int .i64 f) := by simp [go_sem]
      have e2 : (w.alloc (.cells #[.int .i64 f, .int .i64 o, .int .i64 v] 63)).cell? ⟨w.heap.size, 2, none⟩ = some (.int .i64 v) := by simp [go_sem]
      generalize w.alloc (.cells #[.int .i64 f, .int .i64 o, .int .i64 v] 63) = W at *
      have hne := Later.ne W
      have c0 : ∀ x : Later W, x.1.cell? ⟨w.heap.size, 0, none⟩ = some (.int .i64 f) := fun x => x.cell e0 hz
      have c2 : ∀ x : Later W, x.1.cell? ⟨w.heap.size, 2, none⟩ = some (.int .i64 v) := fun x => x.cell e2 hz
      clear e0 e2 hb
      by_cases h2 : v < 0
      · have hd : decide (v < 0) = true := by simpa using h2
        refine wp_region_later (by kernel_rfl) (by kernel_rfl) ?_
        repeat (go_big_quiet_step (first | (go_at_call 64; exact Calls.later_same (most_any _ _))))
        refine wpQuiet_nil ?_
        rintro wx ⟨⟨_, hx⟩, rfl⟩
        go_wp2
        go_ret
        exact ⟨by rw [condErr, if_neg h0, if_neg h1, if_pos (.inl h2)]; rfl, hbW.trans (hx.mono hbW.size)⟩
      · have hd : decide (v < 0) = false := by simpa using h2
        refine wp_region_later (by kernel_rfl) (by kernel_rfl) ?_
        repeat (go_big_quiet_step (first | (go_at_call 64; exact Calls.later_same (most_any _ _))))
        refine wpQuiet_nil ?_
        rintro wx ⟨⟨_, hx⟩, rfl⟩
        go_wp2
        · go_ret
          exact ⟨by rw [condErr, if_neg h0, if_neg h1, if_pos (.inr ‹_›)]; rfl, hbW.trans (hx.mono hbW.size)⟩
        · go_ret
          exact ⟨by rw [condErr, if_neg h0, if_neg h1, if_neg (by show ¬ (v < 0 ∨ most f < v); omega)]; rfl, hbW.trans (hx.mono hbW.size)⟩

end Go.Proofs.YthpllmhnpbigiaaDoor
