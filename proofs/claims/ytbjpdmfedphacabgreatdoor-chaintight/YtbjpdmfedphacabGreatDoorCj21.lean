/- Joined: Ref2 InsC Cmp1. -/
import Derived.Test.YtbjpdmfedphacabGreatDoorCj20
import Derived.Test.YtbjpdmfedphacabGreatDoorCj03
import Derived.Test.YtbjpdmfedphacabGreatDoorCj17
import Derived.Test.YtbjpdmfedphacabGreatDoorCj18
import Derived.Test.YtbjpdmfedphacabGreatDoorCj11
section
/- What the counterpart's Ran says of a right filter: the same. -/
set_option linter.all false
set_option maxRecDepth 100000
namespace Go.Proofs.YtbjpdmfedphacabGreatDoor
open Go.RowKit Go.Maps

set_option maxHeartbeats 4000000 in
theorem ranRef_any (B : Nat) (cv : Value) (l : List InsT) (x : Nat → Int) (w : World) (hc : InssAt B w cv l) (hB : B ≤ w.heap.size) (hok : codeErr l = 0) :
    Calls Tryz.prog 102 #[cv, callV x] w fun e w' => e = .returned (.tuple #[.int .i64 (runs x 0 0 l).1, .int .i64 (runs x 0 0 l).2]) ∧ Below w.heap.size w w' := by
  obtain ⟨a, cap, rfl, hlc, hcm, hcs⟩ := hc
  obtain ⟨hl1, hl2, hie, hlk⟩ := codeErr_ok hok
  obtain ⟨b, o, rfl, hbB⟩ : ∃ b o, a = some ⟨b, o, none⟩ ∧ b < B := by
    obtain ⟨c, hck⟩ : ∃ c, l[0]? = some c := ⟨l[0]'(by omega), by simp⟩
    obtain ⟨b, o, h1, h2, _⟩ := hcs 0 c hck
    exact ⟨b, o, h1, h2⟩
  have hcs' : Hid (∀ (i : Nat) (c : InsT), l[i]? = some c → InsAt w b (o + i * 4) c) := fun i c h => by
    obtain ⟨b', o', e, _, hat⟩ := hcs i c h
    simp at e
    obtain ⟨rfl, rfl⟩ := e
    exact hat
  have HG : Hid (∀ (k : Nat) (c : InsT), l[k]? = some c → insErr c ((l.length : Int) - 1 - k) = 0) := fun k c h => inssErr_all l k c hie h
  have HL : Hid (∀ (k : Nat) (c : InsT), l[k]? = some c → c.1 ≠ 4 → k + 1 < l.length) := fun k c h h4 => next_lt hlk h h4
  have HX : Hid (∀ T w', Below (w.heap.size + 1) (w.alloc (.cells #[.int .i64 (x 0), .int .i64 (x 1), .int .i64 (x 2), .int .i64 (x 3), .int .i64 (x 4)] T)) w' → XAt w' w.heap.size x) := fun T w' h => (XAt.made x w T).later h (by omega)
  clear hcs hok hie hlk
  generalize hn : l.length = len at *
  have hml := maxLen_eq
  show Calls Tryz.prog 102 #[.slice (some ⟨b, o, none⟩) len cap, .agg #[.int .i64 (x 0), .int .i64 (x 1), .int .i64 (x 2), .int .i64 (x 3), .int .i64 (x 4)]] w _
  go_enter Tryz.func102, Tryz.ntmps102
  go_wp2
  go_loopw [0, 6, 7] (fun lv ld dn wr => ∃ (n : Int) (k m q p o' : Nat), lv = .slice (some ⟨b, o', none⟩) (q + 1) (p + 1) ∧ q + 1 + k = len ∧ q ≤ p ∧ p + 1 + k = cap ∧ Hid (o' = o + k * 4) ∧ ld = .int .i64 n ∧ dn = .int .i64 ((m : Int) + 1) ∧ m ≤ k ∧ Hid (runs x 0 0 l = incs m (runs x n 0 (l.drop k))) ∧ Below w.heap.size w wr ∧ Hid (XAt wr w.heap.size x) ∧ w.heap.size < wr.heap.size) (fun lv _ _ _ => match lv with | .slice _ n _ => n | _ => 0)
  case atStart => exact ⟨0, 0, 0, len - 1, cap - 1, o, by rw [Nat.sub_add_cancel (by omega), Nat.sub_add_cancel (by omega)], by omega, by omega, by omega, by unfold Hid; omega, rfl, rfl, by omega, by unfold Hid incs; simp, (Below.refl _ _).alloc (Nat.le_refl _) _, HX.out _ _ (Below.refl _ _), by simp⟩
  case round =>
    obtain ⟨n, k, m, q, p, o', rfl, hqk, hqp, hpc, ho', rfl, rfl, hm, H, hbr, hX, hz⟩ := hrel
    have i6 : IntKind.i64.wrap ((m : Int) + 1 + 1) = (m : Int) + 1 + 1 := IntWalk.i64_in _ (by omega)
    obtain ⟨c, hck⟩ : ∃ c, l[k]? = some c := ⟨l[k]'(by omega), by simp⟩
    have hat := hcs'.out k c hck
    rw [← ho'.out] at hat
    have hg := insErr_step (HG.out k c hck)
    have hln := HL.out k c hck
    have S := runs_at x hck n
    obtain ⟨kd, ca, cb, cc⟩ := c
    obtain ⟨c0, c1, c2, c3, _⟩ := hat.later hbr (by omega)
    simp only [] at c0 c1 c2 c3 hg hln S
    have hsz := hbr.size
    have hbA : ∀ X, Hid (Below w.heap.size w (wr.alloc X) ∧ XAt (wr.alloc X) w.heap.size x ∧ w.heap.size < (wr.alloc X).heap.size) := fun X => ⟨hbr.alloc hsz _, hX.out.later ((Below.refl wr.heap.size _).alloc (Nat.le_refl _) X) (by omega), by simp; omega⟩
    have f1 : (1 : Int) ≤ ((q + 1 : Nat) : Int) := by omega
    by_cases k4 : kd = 4
    · subst k4
      have S' : Hid (runs x 0 0 l = (ca, (m : Int) + 1)) := by
        unfold Hid; rw [H.out, S, if_neg (by omega), if_neg (by omega)]; unfold incs; simp; omega
      clear S hg hln
      by_cases hp : p = 0
      · subst hp
        obtain rfl : q = 0 := by omega
        go_wp2
        go_ret2
        exact ⟨by rw [S'.out]; rfl, (hbA _).out.1⟩
      · have hp' : ¬ (p + 1 = 1) := by omega
        go_wp2
        go_ret2
        exact ⟨by rw [S'.out]; rfl, (hbA _).out.1⟩
    · have hl' := hln k4
      obtain ⟨q, rfl⟩ : ∃ q', q = q' + 1 := ⟨q - 1, by omega⟩
      obtain ⟨p, rfl⟩ : ∃ p', p = p' + 1 := ⟨p - 1, by omega⟩
      have hp' : ¬ (p + 1 + 1 = 1) := by omega
      by_cases k1 : kd = 1
      · subst k1
        obtain ⟨j, rfl⟩ : ∃ j : Nat, ca = j := ⟨ca.toNat, by omega⟩
        have hj : j < 5 := by omega
        have S' : Hid (runs x 0 0 l = incs ((m + 1 : Nat) : Int) (runs x (x j) 0 (l.drop (k + 1)))) := by
          unfold Hid; rw [H.out, S, if_pos rfl, incs_inc]; simp
        have hxc : ∀ X, (wr.alloc X).cell? ⟨w.heap.size, j, none⟩ = some (.int .i64 (x j)) := fun X => ((hbA X).out.2.1) j hj
        have j0 : (0 : Int) ≤ (j : Int) := by omega
        have j1 : (j : Int) < 5 := by omega
        clear S hg hln
        generalize x j = xj at *
        go_wp2
        obtain ⟨y1, y2, y3⟩ := (hbA _).out
        exact ⟨⟨xj, k + 1, m + 1, q, p, o' + 4, rfl, by omega, by omega, by omega, by unfold Hid; rw [ho'.out]; omega, rfl, by simp, by omega, S', y1, y2, y3⟩, by simp⟩
      · have k23 : kd = 2 ∨ kd = 3 := by omega
        obtain ⟨hb0, hb1, hc0, hc1⟩ : 0 ≤ cb ∧ cb < (len : Int) - 1 - k ∧ 0 ≤ cc ∧ cc < (len : Int) - 1 - k := by
          rcases hg with ⟨h, _⟩ | ⟨_, h⟩
          · omega
          · exact h
        obtain ⟨jb, rfl⟩ : ∃ j : Nat, cb = j := ⟨cb.toNat, by omega⟩
        obtain ⟨jc, rfl⟩ : ∃ j : Nat, cc = j := ⟨cc.toNat, by omega⟩
        have ub : jb ≤ q := by omega
        have uc : jc ≤ q := by omega
        have ub1 : (jb : Int) ≤ ((q + 1 : Nat) : Int) := by omega
        have uc1 : (jc : Int) ≤ ((q + 1 : Nat) : Int) := by omega
        have ub2 : ¬ (p + 1 = jb) := by omega
        have uc2 : ¬ (p + 1 = jc) := by omega
        have vb0 : (0 : Int) ≤ (jb : Int) := by omega
        have vc0 : (0 : Int) ≤ (jc : Int) := by omega
        have S' : Hid (runs x 0 0 l = incs ((m + 1 : Nat) : Int) (runs x n 0 (l.drop (k + 1 + hop n (kd, ca, jb, jc))))) := by
          unfold Hid; rw [H.out, S, if_neg k1, if_pos k23, incs_inc]; simp
        have fb : q + 1 - jb = (q - jb) + 1 ∧ p + 1 - jb = (p - jb) + 1 := by omega
        have fc : q + 1 - jc = (q - jc) + 1 ∧ p + 1 - jc = (p - jc) + 1 := by omega
        have FB : Hid (q + 1 - jb = (q - jb) + 1 ∧ p + 1 - jb = (p - jb) + 1) := fb
        have FC : Hid (q + 1 - jc = (q - jc) + 1 ∧ p + 1 - jc = (p - jc) + 1) := fc
        clear S hg hln fb fc
        rcases k23 with rfl | rfl
        · by_cases hh : n = ca
          · have hop' : hop n (2, ca, jb, jc) = jb := by unfold hop; simp [hh]
            rw [hop'] at S'
            clear hop'
            subst hh
            go_wp2
            obtain ⟨y1, y2, y3⟩ := (hbA _).out
            exact ⟨⟨n, k + 1 + jb, m + 1, q - jb, p - jb, o' + 4 + jb * 4, by rw [FB.out.1, FB.out.2], by omega, by omega, by omega, by unfold Hid; rw [ho'.out]; omega, rfl, by simp, by omega, S', y1, y2, y3⟩, by simp; omega⟩
          · have hop' : hop n (2, ca, jb, jc) = jc := by unfold hop; simp [hh]
            rw [hop'] at S'
            have hq : (n == ca) = false := by simpa using hh
            clear hop'
            go_wp2
            obtain ⟨y1, y2, y3⟩ := (hbA _).out
            exact ⟨⟨n, k + 1 + jc, m + 1, q - jc, p - jc, o' + 4 + jc * 4, by rw [FC.out.1, FC.out.2], by omega, by omega, by omega, by unfold Hid; rw [ho'.out]; omega, rfl, by simp, by omega, S', y1, y2, y3⟩, by simp; omega⟩
        · by_cases hh : n < ca
          · have hop' : hop n (3, ca, jb, jc) = jb := by unfold hop; simp [hh]
            rw [hop'] at S'
            have hq : decide (n < ca) = true := by simpa using hh
            clear hop'
            go_wp2
            obtain ⟨y1, y2, y3⟩ := (hbA _).out
            exact ⟨⟨n, k + 1 + jb, m + 1, q - jb, p - jb, o' + 4 + jb * 4, by rw [FB.out.1, FB.out.2], by omega, by omega, by omega, by unfold Hid; rw [ho'.out]; omega, rfl, by simp, by omega, S', y1, y2, y3⟩, by simp; omega⟩
          · have hop' : hop n (3, ca, jb, jc) = jc := by unfold hop; simp [hh]
            rw [hop'] at S'
            have hq : decide (n < ca) = false := by simpa using hh
            clear hop'
            go_wp2
            obtain ⟨y1, y2, y3⟩ := (hbA _).out
            exact ⟨⟨n, k + 1 + jc, m + 1, q - jc, p - jc, o' + 4 + jc * 4, by rw [FC.out.1, FC.out.2], by omega, by omega, by omega, by unfold Hid; rw [ho'.out]; omega, rfl, by simp, by omega, S', y1, y2, y3⟩, by simp; omega⟩

end Go.Proofs.YtbjpdmfedphacabGreatDoor
end
section
/- Filters in rows of one's own. -/
set_option linter.all false
set_option maxRecDepth 100000
namespace Go.Proofs.YtbjpdmfedphacabGreatDoor
open Go.RowKit Go.Maps

theorem infoIns : ∃ i, Tryz.prog.info? 120 = some i ∧ i.zero = some (.agg #[.int .i64 0, .int .i64 0, .int .i64 0, .int .i64 0]) ∧ i.size = 4 ∧ i.bytes = 32 := infoOf (by kernel_rfl)

def insCells (l : List InsT) : List Value := l.flatMap fun c => [.int .i64 c.1, .int .i64 c.2.1, .int .i64 c.2.2.1, .int .i64 c.2.2.2]
theorem insCells_cons (c : InsT) (l : List InsT) : insCells (c :: l) = .int .i64 c.1 :: .int .i64 c.2.1 :: .int .i64 c.2.2.1 :: .int .i64 c.2.2.2 :: insCells l := rfl
theorem insCells_append (l m : List InsT) : insCells (l ++ m) = insCells l ++ insCells m := by unfold insCells; exact List.flatMap_append
theorem insCells_length : ∀ l : List InsT, (insCells l).length = l.length * 4
  | [] => rfl
  | c :: r => by rw [insCells_cons]; simp [insCells_length r]; omega
theorem insCells_one : ∀ (l : List InsT), ∀ u ∈ insCells l, u.oneCell' = true
  | [], u, h => by cases h
  | c :: r, u, h => by
    rw [insCells_cons] at h
    simp at h
    rcases h with rfl | rfl | rfl | rfl | h
    · rfl
    · rfl
    · rfl
    · rfl
    · exact insCells_one r u h
theorem insCells_get : ∀ (l : List InsT) (i : Nat) (c : InsT), l[i]? = some c → (insCells l)[i * 4]? = some (.int .i64 c.1) ∧ (insCells l)[i * 4 + 1]? = some (.int .i64 c.2.1) ∧ (insCells l)[i * 4 + 2]? = some (.int .i64 c.2.2.1) ∧ (insCells l)[i * 4 + 3]? = some (.int .i64 c.2.2.2)
  | [], _, _, h => by simp at h
  | c' :: r, 0, c, h => by
    simp at h
    subst h
    simp [insCells_cons]
  | c' :: r, i + 1, c, h => by
    have ih := insCells_get r i c (by simpa using h)
    rw [insCells_cons, show (i + 1) * 4 = i * 4 + 4 by omega]
    exact ih
/-- Cells one by one. -/
theorem insCells_cell {w : World} {b o : Nat} : ∀ (l : List InsT) (o : Nat), (∀ i c, l[i]? = some c → InsAt w b (o + i * 4) c) → ∀ j u, (insCells l)[j]? = some u → w.cell? ⟨b, o + j, none⟩ = some u
  | [], _, _, j, u, h => by simp [insCells] at h
  | c :: r, o, hat, j, u, h => by
    obtain ⟨c0, c1, c2, c3, _⟩ := hat 0 c rfl
    simp only [Nat.zero_mul, Nat.add_zero] at c0 c1 c2 c3
    rw [insCells_cons] at h
    match j, h with
    | 0, h => simp at h; subst h; simpa using c0
    | 1, h => simp at h; subst h; exact c1
    | 2, h => simp at h; subst h; exact c2
    | 3, h => simp at h; subst h; exact c3
    | j + 4, h =>
      have := insCells_cell (b := b) (o := o) r (o + 4) (fun i c hc => by
        have := hat (i + 1) c (by simpa using hc)
        rw [show o + (i + 1) * 4 = o + 4 + i * 4 by omega] at this
        exact this) j u (by simpa using h)
      rw [show o + (j + 4) = o + 4 + j by omega]
      exact this
/-- And back: a row of the call's own that holds them. -/
theorem inssAt_own {L : Nat} {w : World} {v : Value} {l : List InsT} (h : w.ownsRow L 120 4 v l.length (insCells l)) (hwf : ∀ c ∈ l, insWf c) : InssAt w.heap.size w v l := by
  obtain ⟨a, cap, rfl, h1, h2, h3⟩ := ownsRow_caps h
  refine ⟨a, cap, rfl, h1, h2, fun i c hc => ?_⟩
  have hi : i < l.length := (List.getElem?_eq_some_iff.1 hc).1
  obtain ⟨g, rfl, hg1, hg2⟩ := h3 (by omega)
  obtain ⟨e0, e1, e2, e3⟩ := insCells_get l i c hc
  refine ⟨g, 0, rfl, hg2, ?_, ?_, ?_, ?_, hwf c (List.mem_of_getElem? hc)⟩
  all_goals rw [Nat.zero_add]
  · exact ownsRow_cell h _ _ e0
  · exact ownsRow_cell h _ _ e1
  · exact ownsRow_cell h _ _ e2
  · exact ownsRow_cell h _ _ e3
theorem InssAt.wf {B : Nat} {w : World} {v : Value} {l : List InsT} (h : InssAt B w v l) : ∀ c ∈ l, insWf c := by
  intro c hc
  obtain ⟨i, hi⟩ := List.mem_iff_getElem?.1 hc
  obtain ⟨_, _, _, _, _, h4⟩ := h
  obtain ⟨_, _, _, _, k⟩ := h4 i c hi
  exact k.2.2.2.2

/-- A filter in memory behind a row of one's own. -/
theorem run_append_inss (B base : Nat) (ty : TypeId) (v sv : Value) (n : Nat) (xs : List Value) (rs : List InsT) (W : World) (hown : W.ownsRow base 120 4 v n xs) (hs : InssAt B W sv rs) (hn : (n + rs.length) * 32 ≤ 140737488355328) (hbase : base ≤ W.heap.size) :
    ∃ v' W', (Builtin.append_ #[63, 63] ty #[v, sv]).run Tryz.prog W = .ok v' W' ∧ W'.ownsRow base 120 4 v' (n + rs.length) (xs ++ insCells rs) ∧ Below base W W' := by
  obtain ⟨inf, hi1, hi2, hi3, hi4⟩ := infoIns
  obtain ⟨a, cap, rfl, hlc, hcm, hrs⟩ := hs
  cases a with
  | none =>
    have h0 : rs = [] := by
      cases rs with
      | nil => rfl
      | cons r l => obtain ⟨b, o, e, _⟩ := hrs 0 r rfl; cases e
    subst h0
    refine ⟨v, W, ?_, by simpa [insCells] using hown, Below.refl _ _⟩
    have hc : v = .slice none 0 0 ∨ ∃ g c, v = .slice (some g) n c ∧ n ≤ c := by
      rcases hown.2 with ⟨h, _⟩ | ⟨g, c, cur, h, _, _, h', _⟩
      · exact .inl h
      · exact .inr ⟨_, c, h, h'⟩
    have hf := run_firstCells_none (P := Tryz.prog) W inf.size 0 0 cap
    rcases hc with rfl | ⟨g, c, rfl, hle⟩
    · simp [Builtin.append_, run_underlying Tryz.underlying63, sizeOf, typeInfo, hi1, Builtin.lenOf, hf]
    · simp [Builtin.append_, run_underlying Tryz.underlying63, sizeOf, typeInfo, hi1, Builtin.lenOf, hf, hle, storeCells]
  | some ad =>
    have hcell : ∀ j u, (insCells rs)[j]? = some u → W.cell? (ad.add j) = some u := by
      cases rs with
      | nil => intro j u hj; simp [insCells] at hj
      | cons r l =>
        obtain ⟨b, o, e, _, _⟩ := hrs 0 r rfl
        cases e
        intro j u hj
        rw [add_at]
        refine insCells_cell (o := o) (r :: l) o (fun i c hc => ?_) j u hj
        obtain ⟨b', o', e, _, k⟩ := hrs i c hc
        cases e
        exact k
    obtain ⟨v', W', h1, h2, h3, h4⟩ := run_append_own (P := Tryz.prog) W base 63 ty 120 inf _ 4 32 Tryz.underlying63 hi1 hi2 hi3 hi4 rfl (by decide) v n xs hown ad rs.length cap (insCells rs) (insCells_length rs) hcell (insCells_one rs) (by rw [maxLen_eq]; omega) hn hbase
    refine ⟨v', W', h1, h2, (Below.refl _ _).grown h3 hbase fun k hk => ?_⟩
    rcases hown.2 with ⟨h, _⟩ | ⟨g, c, cur, h, hg, _⟩
    · rw [h] at hk; simp [Value.ownBlock] at hk
    · rw [h] at hk; simp [Value.ownBlock] at hk; omega

end Go.Proofs.YtbjpdmfedphacabGreatDoor
end
section
/- What the program's own Compile makes of a rule. -/
set_option linter.all false
set_option maxRecDepth 100000
namespace Go.Proofs.YtbjpdmfedphacabGreatDoor
open Go.RowKit Go.Maps

theorem condsI_take : ∀ (cs : List CondT) (k : Nat) (c : CondT), cs[k]? = some c → (condsI cs).take (2 * (k + 1)) = (condsI cs).take (2 * k) ++ [(1, c.1, 0, 0), askI c (2 * ((cs.length : Int) - k - 1) + 1)]
  | [], _, _, h => by simp at h
  | d :: r, 0, c, h => by
    simp at h
    subst h
    rw [condsI]
    simp
  | d :: r, k + 1, c, h => by
    have ih := condsI_take r k c (by simpa using h)
    rw [condsI, show 2 * (k + 1 + 1) = 2 * (k + 1) + 1 + 1 by omega, show 2 * (k + 1) = 2 * k + 1 + 1 by omega, List.take_succ_cons, List.take_succ_cons, List.take_succ_cons, List.take_succ_cons, show 2 * k + 1 + 1 = 2 * (k + 1) by omega, ih]
    have e : (2 * ((r.length : Int) - k - 1) + 1) = (2 * (((d :: r).length : Int) - (k + 1 : Nat) - 1) + 1) := by simp; omega
    rw [e]
    rfl
theorem condsI_all (cs : List CondT) : (condsI cs).take (2 * cs.length) = condsI cs := List.take_of_length_le (by rw [condsI_length]; omega)

set_option maxHeartbeats 1000000 in
theorem give_any (v : Int) (w : World) :
    Calls Tryz.prog 104 #[.int .i64 v] w fun e w' => e = .returned (.agg #[.int .i64 4, .int .i64 v, .int .i64 0, .int .i64 0]) ∧ Below w.heap.size w w' := by
  go_enter Tryz.func104, Tryz.ntmps104
  go_wp2
  refine bodyPost_ret (v := .agg #[.int .i64 4, .int .i64 v, .int .i64 0, .int .i64 0]) ?_ rfl ⟨rfl, ?_⟩
  · rw [results_cell1 rfl]
    go_simp
  · repeat (first | exact Below.refl _ _ | refine Below.setCell ?_ (by simp) _ | refine Below.alloc ?_ (by simp) _)

set_option maxHeartbeats 1000000 in
theorem ask_any (f op v : Int) (left : Int) (w : World) :
    Calls Tryz.prog 128 #[.agg #[.int .i64 f, .int .i64 op, .int .i64 v], .int .i64 left] w fun e w' => e = .returned (insV (askI (f, op, v) left)) ∧ Below w.heap.size w w' := by
  by_cases h1 : op = 1
  · subst h1
    go_enter Tryz.func128, Tryz.ntmps128
    go_wp2
    refine bodyPost_ret (v := .agg #[.int .i64 2, .int .i64 v, .int .i64 0, .int .i64 left]) ?_ rfl ⟨rfl, ?_⟩
    · rw [results_cell1 rfl]
      go_simp
    · repeat (first | exact Below.refl _ _ | refine Below.setCell ?_ (by simp) _ | refine Below.alloc ?_ (by simp) _)
  · by_cases h2 : op = 2
    · subst h2
      clear h1
      go_enter Tryz.func128, Tryz.ntmps128
      go_wp2
      refine bodyPost_ret (v := .agg #[.int .i64 2, .int .i64 v, .int .i64 left, .int .i64 0]) ?_ rfl ⟨rfl, ?_⟩
      · rw [results_cell1 rfl]
        go_simp
      · repeat (first | exact Below.refl _ _ | refine Below.setCell ?_ (by simp) _ | refine Below.alloc ?_ (by simp) _)
    · by_cases h3 : op = 3
      · subst h3
        clear h1 h2
        go_enter Tryz.func128, Tryz.ntmps128
        go_wp2
        refine bodyPost_ret (v := .agg #[.int .i64 3, .int .i64 v, .int .i64 0, .int .i64 left]) ?_ rfl ⟨rfl, ?_⟩
        · rw [results_cell1 rfl]
          go_simp
        · repeat (first | exact Below.refl _ _ | refine Below.setCell ?_ (by simp) _ | refine Below.alloc ?_ (by simp) _)
      · have HE : Hid (askI (f, op, v) left = (3, v, left, 0)) := by unfold Hid askI; simp [h1, h2, h3]
        have q1 : (op == 1) = false := by simpa using h1
        have q2 : (op == 2) = false := by simpa using h2
        have q3 : (op == 3) = false := by simpa using h3
        clear h1 h2 h3
        go_enter Tryz.func128, Tryz.ntmps128
        go_wp2
        refine bodyPost_ret (v := .agg #[.int .i64 3, .int .i64 v, .int .i64 left, .int .i64 0]) ?_ rfl ⟨by rw [HE.out]; rfl, ?_⟩
        · rw [results_cell1 rfl]
          go_simp
        · repeat (first | exact Below.refl _ _ | refine Below.setCell ?_ (by simp) _ | refine Below.alloc ?_ (by simp) _)

end Go.Proofs.YtbjpdmfedphacabGreatDoor
end
