/- What the program's own Judge says: the first rule that holds. -/
import Derived.Test.YthpllmhnpbigiaaDoorPol3
set_option linter.all false
namespace Go.Proofs.YthpllmhnpbigiaaDoor
open Go.RowKit Go.Maps

def holdsB (op v n : Int) : Bool := if op = 1 then n == v else if op = 2 then n != v else if op = 3 then decide (n < v) else decide (v ≤ n)
def condOk (x : Nat → Int) (c : CondT) : Bool := holdsB c.2.1 c.2.2 (x c.1.toNat)
def ruleOk (x : Nat → Int) (r : RuleT) : Bool := r.1.all (condOk x)
/-- The first place from k on at which f says yes, or -1. -/
def firstAt {α : Type} (f : α → Bool) : Nat → List α → Int
  | _, [] => -1
  | k, c :: r => if f c then k else firstAt f (k + 1) r
theorem firstAt_step {α : Type} (f : α → Bool) (l : List α) (k : Nat) (c : α) (h : l[k]? = some c) : firstAt f k (l.drop k) = if f c then (k : Int) else firstAt f (k + 1) (l.drop (k + 1)) := by
  obtain ⟨hk, rfl⟩ := List.getElem?_eq_some_iff.1 h
  rw [List.drop_eq_getElem_cons hk]
  rfl
theorem firstAt_none {α : Type} (f : α → Bool) : ∀ (l : List α) (k : Nat), (decide (0 ≤ firstAt f k l)) = l.any f
  | [], _ => rfl
  | c :: r, k => by
    unfold firstAt
    by_cases h : f c = true
    · simp [h]
    · simp [h, firstAt_none f r (k + 1)]

theorem condErr_ok {c : CondT} (h : condErr c = 0) : (0 ≤ c.1 ∧ c.1 < 5) ∧ (1 ≤ c.2.1 ∧ c.2.1 ≤ 4) ∧ (0 ≤ c.2.2 ∧ c.2.2 ≤ most c.1) := by
  unfold condErr at h
  split at h
  · cases h
  · split at h
    · cases h
    · split at h
      · cases h
      · omega
theorem condsErr_all {cs : List CondT} (h : condsErr cs = 0) : ∀ c ∈ cs, condErr c = 0 := by
  induction cs with
  | nil => intro c hc; cases hc
  | cons a r ih =>
    unfold condsErr at h
    split at h
    · rename_i h0
      intro c hc
      rcases List.mem_cons.1 hc with rfl | hc
      · exact h0
      · exact ih h c hc
    · rename_i h0; exact absurd h h0
theorem rulesErr_all {rs : List RuleT} (h : rulesErr rs = 0) : ∀ r ∈ rs, ruleErr r = 0 := by
  induction rs with
  | nil => intro c hc; cases hc
  | cons a r ih =>
    unfold rulesErr at h
    split at h
    · rename_i h0
      intro c hc
      rcases List.mem_cons.1 hc with rfl | hc
      · exact h0
      · exact ih h c hc
    · rename_i h0; exact absurd h h0
theorem ruleErr_ok {r : RuleT} (h : ruleErr r = 0) : r.1.length ≤ 10 ∧ verdictOk r.2 = true ∧ condsErr r.1 = 0 := by
  unfold ruleErr at h
  split at h
  · cases h
  · split at h
    · exact ⟨by omega, by assumption, h⟩
    · cases h
theorem polErr_ok {p : PolT} (h : polErr p = 0) : p.1.length ≤ 120 ∧ verdictOk p.2 = true ∧ rulesErr p.1 = 0 := by
  unfold polErr at h
  split at h
  · cases h
  · split at h
    · exact ⟨by omega, by assumption, h⟩
    · cases h

set_option maxHeartbeats 1000000 in
theorem holds_at (op v a0 a1 a2 a3 a4 : Int) (k : Int) (y : Int) (hk : (k = 0 ∧ y = a0) ∨ (k = 1 ∧ y = a1) ∨ (k = 2 ∧ y = a2) ∨ (k = 3 ∧ y = a3) ∨ (k = 4 ∧ y = a4)) (w : World) :
    Calls Tryd.prog 34 #[.agg #[.int .i64 k, .int .i64 op, .int .i64 v], .agg #[.int .i64 a0, .int .i64 a1, .int .i64 a2, .int .i64 a3, .int .i64 a4]] w fun e w' => e = .returned (.bool (holdsB op v y)) ∧ Below w.heap.size w w' := by
  have hb : Below w.heap.size w ((w.alloc (.cells #[.int .i64 k, .int .i64 op, .int .i64 v] 63)).alloc (.cells #[.int .i64 a0, .int .i64 a1, .int .i64 a2, .int .i64 a3, .int .i64 a4] 26)) := ((Below.refl _ _).alloc (Nat.le_refl _) _).alloc (by simp) _
  have F : Hid (op ≠ 1 → op ≠ 2 → op ≠ 3 → holdsB op v y = decide (v ≤ y)) := by intro h1 h2 h3; rw [holdsB, if_neg h1, if_neg h2, if_neg h3]
  rcases hk with ⟨rfl, rfl⟩ | ⟨rfl, rfl⟩ | ⟨rfl, rfl⟩ | ⟨rfl, rfl⟩ | ⟨rfl, rfl⟩
  all_goals
    by_cases h1 : op = 1
    · subst h1
      go_enter Tryd.func34, Tryd.ntmps34
      go_wp2
      go_ret
      exact ⟨rfl, hb⟩
    · have k1 : (op == 1) = false := by simpa using h1
      by_cases h2 : op = 2
      · subst h2
        go_enter Tryd.func34, Tryd.ntmps34
        go_wp2
        go_ret
        exact ⟨rfl, hb⟩
      · have k2 : (op == 2) = false := by simpa using h2
        by_cases h3 : op = 3
        · subst h3
          go_enter Tryd.func34, Tryd.ntmps34
          go_wp2
          go_ret
          exact ⟨rfl, hb⟩
        · have k3 : (op == 3) = false := by simpa using h3
          have G := F.out h1 h2 h3
          clear F h1 h2 h3
          have G : Hid _ := G
          go_enter Tryd.func34, Tryd.ntmps34
          go_wp2
          go_ret
          exact ⟨by rw [G.out]; rfl, hb⟩
theorem holds_any (c : CondT) (x : Nat → Int) (hc : 0 ≤ c.1 ∧ c.1 < 5) (w : World) :
    Calls Tryd.prog 34 #[condV c, callV x] w fun e w' => e = .returned (.bool (condOk x c)) ∧ Below w.heap.size w w' := by
  refine holds_at c.2.1 c.2.2 (x 0) (x 1) (x 2) (x 3) (x 4) c.1 (x c.1.toNat) ?_ w
  have : c.1 = 0 ∨ c.1 = 1 ∨ c.1 = 2 ∨ c.1 = 3 ∨ c.1 = 4 := by omega
  rcases this with h | h | h | h | h <;> simp [h]

set_option maxHeartbeats 1000000 in
theorem fails_any (c : CondT) (x : Nat → Int) (hc : 0 ≤ c.1 ∧ c.1 < 5) (bx : Nat) (w : World) (hx : XAt w bx x) (hl : bx < w.heap.size) :
    Calls Tryd.prog 33 #[condV c, .pointer (some ⟨bx, 0, none⟩)] w fun e w' => e = .returned (.bool (!condOk x c)) ∧ Below w.heap.size w w' := by
  obtain ⟨f, op, v⟩ := c
  show Calls Tryd.prog 33 #[.agg #[.int .i64 f, .int .i64 op, .int .i64 v], .pointer (some ⟨bx, 0, none⟩)] w _
  have hx' := hx.later ((Below.refl w.heap.size w).alloc (Nat.le_refl _) (.cells #[.int .i64 f, .int .i64 op, .int .i64 v] 63)) hl
  have x0 := hx' 0 (by omega)
  have x1 := hx' 1 (by omega)
  have x2 := hx' 2 (by omega)
  have x3 := hx' 3 (by omega)
  have x4 := hx' 4 (by omega)
  clear hx' hx
  go_enter Tryd.func33, Tryd.ntmps33
  go_wp2_with (first | (go_at_call 34; refine (holds_any (f, op, v) x hc _).mono ?_; rintro e w' ⟨rfl, hb2⟩))
  go_ret
  exact ⟨rfl, Below.thenOf ((Below.refl _ _).alloc (Nat.le_refl _) _) hb2 (by simp)⟩

set_option maxHeartbeats 1000000 in
theorem indexConds_any (B : Nat) (cv : Value) (cs : List CondT) (x : Nat → Int) (bx : Nat) (w : World) (hc : CondsAt B w cv cs) (hB : B ≤ w.heap.size) (hok : ∀ c ∈ cs, 0 ≤ c.1 ∧ c.1 < 5) (hx : XAt w bx x) (hl : bx < w.heap.size) :
    Calls Tryd.prog 65 #[cv, .func (.func 33) #[] #[.pointer (some ⟨bx, 0, none⟩)]] w fun e w' => e = .returned (.int .i64 (firstAt (fun c => !condOk x c) 0 cs)) ∧ Below w.heap.size w w' := by
  obtain ⟨a, cap, rfl, hlc, hcm, hcs⟩ := hc
  have hcs' : Hid (∀ (i : Nat) (c : CondT), cs[i]? = some c → ∃ b o, a = some ⟨b, o, none⟩ ∧ b < B ∧ CondAt w b (o + i * 3) c) := hcs
  have hx' : Hid (XAt w bx x) := hx
  clear hcs hx
  generalize hn : cs.length = n at *
  have hml : n ≤ 9223372036854775807 := by have := maxLen_eq; omega
  go_enter Tryd.func65, Tryd.ntmps65
  go_wp2
  go_loopw [8] (fun i wr => ∃ k : Nat, k ≤ n ∧ i = .int .i64 k ∧ Hid (firstAt (fun c => !condOk x c) 0 cs = firstAt (fun c => !condOk x c) k (cs.drop k)) ∧ Below w.heap.size w wr) (fun i _ => n - (intOf i).toNat)
  case atStart => exact ⟨0, by omega, rfl, rfl, Below.refl _ _⟩
  case round =>
    obtain ⟨k, hk, rfl, H, hbr⟩ := hrel
    have i0 : (0 : Int) ≤ (k : Int) := by omega
    by_cases hlt : k < n
    · have i1 : (k : Int) < (n : Int) := by omega
      obtain ⟨c, hck⟩ : ∃ c, cs[k]? = some c := ⟨cs[k]'(by omega), by simp⟩
      have hcm' : c ∈ cs := List.mem_of_getElem? hck
      obtain ⟨b, o, rfl, hbB, hat⟩ := hcs'.out k c hck
      have S : Hid (firstAt (fun c => !condOk x c) k (cs.drop k) = if (!condOk x c) = true then (k : Int) else firstAt (fun c => !condOk x c) (k + 1) (cs.drop (k + 1))) := firstAt_step (fun c => !condOk x c) cs k c hck
      have hfc := hok c hcm'
      obtain ⟨f, op, v⟩ := c
      obtain ⟨c0, c1, c2, w0, w1, w2⟩ := hat.later hbr (by omega)
      simp only [] at c0 c1 c2 w0 w1 w2
      go_wp2_with (first | (go_at_call 33; refine (fails_any (f, op, v) x hfc bx _ (hx'.out.later hbr hl) (Nat.lt_of_lt_of_le hl hbr.size)).mono ?_; rintro e w' ⟨rfl, hb2⟩))
      all_goals have hb3 : Below w.heap.size w w' := Below.thenOf hbr hb2 hbr.size
      · have hy : (!condOk x (f, op, v)) = true := by first | assumption | (simp_all; done)
        go_ret
        exact ⟨by rw [H.out, S.out, if_pos hy]; rfl, hb3⟩
      · have hy : ¬ (!condOk x (f, op, v)) = true := by first | assumption | (simp_all; done)
        exact ⟨⟨k + 1, by omega, by go_num, by unfold Hid; rw [H.out, S.out, if_neg hy], hb3⟩, by simp [intOf]; omega⟩
    · go_wp2
      go_ret
      exact ⟨by rw [H.out, List.drop_eq_nil_of_le (by omega)]; rfl, hbr⟩

end Go.Proofs.YthpllmhnpbigiaaDoor
