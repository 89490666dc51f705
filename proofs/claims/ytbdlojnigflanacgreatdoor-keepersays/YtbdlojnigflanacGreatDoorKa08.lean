/- Joined: Same3 Last Right Free. -/
import Derived.Test.YtbdlojnigflanacGreatDoorKa07
import Derived.Test.YtbdlojnigflanacGreatDoorKa04
import Derived.Test.YtbdlojnigflanacGreatDoorKa01
section
/- What the counterpart's SamePolicy says of two policies: whether they are alike. -/
set_option linter.all false
namespace Go.Proofs.YtbdlojnigflanacGreatDoor
open Go.RowKit Go.Maps

set_option maxHeartbeats 2000000 in
theorem samePolicy_any (B : Nat) (pv qv : Value) (p q : PolT) (w : World) (hp : PolAt B w pv p) (hq : PolAt B w qv q) (hB : B ≤ w.heap.size) :
    Calls Tryz.prog 82 #[pv, qv] w fun e w' => e = .returned (.bool (decide (p = q))) ∧ Below w.heap.size w w' := by
  obtain ⟨rs, d1⟩ := p
  obtain ⟨ss, d2⟩ := q
  obtain ⟨rv, rfl, _, a, cap, rfl, hlc, hcm, hrs⟩ := hp
  obtain ⟨sv, rfl, _, a2, cap2, rfl, hlc2, hcm2, hss⟩ := hq
  simp only [] at hrs hss hlc hlc2
  have hrs' : Hid (∀ (i : Nat) (r : RuleT), rs[i]? = some r → ∃ b o, a = some ⟨b, o, none⟩ ∧ b < B ∧ RuleAt B w b (o + i * 2) r) := hrs
  have hss' : Hid (∀ (i : Nat) (r : RuleT), ss[i]? = some r → ∃ b o, a2 = some ⟨b, o, none⟩ ∧ b < B ∧ RuleAt B w b (o + i * 2) r) := hss
  clear hrs hss
  have hbP : ∀ X Y, Below w.heap.size w ((w.alloc X).alloc Y) := fun X Y => ((Below.refl _ _).alloc (Nat.le_refl _) _).alloc (by simp) _
  simp only []
  by_cases hv : d1 = d2
  · subst hv
    have E : Hid (decide (((rs, d1) : PolT) = (ss, d1)) = decide (rs = ss)) := by unfold Hid; simp
    have hd : (d1 != d1) = false := by simp
    by_cases hne : rs.length = ss.length
    · generalize hn : rs.length = n at *
      have hm : ss.length = n := hne.symm
      clear hne
      rw [hm] at hlc2
      simp only [hm]
      have hml : n ≤ 9223372036854775807 := by have := maxLen_eq; omega
      go_enter Tryz.func82, Tryz.ntmps82
      go_wp2
      go_loopw [24] (fun i wr => ∃ k : Nat, k ≤ n ∧ i = .int .i64 k ∧ Hid (∀ i, i < k → rs[i]? = ss[i]?) ∧ Below w.heap.size w wr ∧ Hid (wr.cell? ⟨w.heap.size + 1, 0, none⟩ = some (.slice a2 n cap2)) ∧ w.heap.size + 1 < wr.heap.size) (fun i _ => n - (intOf i).toNat)
      case atStart => exact ⟨0, by omega, rfl, fun i h => absurd h (by omega), hbP _ _, by unfold Hid; simp [go_sem], by simp⟩
      case round =>
        obtain ⟨k, hk, rfl, H, hbr, Hq, hq1⟩ := hrel
        have i0 : (0 : Int) ≤ (k : Int) := by omega
        by_cases hlt : k < n
        · have i1 : (k : Int) < (n : Int) := by omega
          obtain ⟨r, hrk⟩ : ∃ r, rs[k]? = some r := ⟨rs[k]'(by omega), by simp⟩
          obtain ⟨s, hsk⟩ : ∃ s, ss[k]? = some s := ⟨ss[k]'(by omega), by simp⟩
          obtain ⟨b, o, rfl, hbB, hat⟩ := hrs'.out k r hrk
          obtain ⟨b2, o2, rfl, hbB2, hat2⟩ := hss'.out k s hsk
          have hck' : Hid (rs[k]? = some r) := hrk
          have hdk' : Hid (ss[k]? = some s) := hsk
          clear hrk hsk
          have hsz := hbr.size
          obtain ⟨cv, c0, c1, w0, hcon⟩ := hat.later hbr hB hbB
          obtain ⟨dv, d0, d1, w1, hdon⟩ := hat2.later hbr hB hbB2
          obtain ⟨a3, n3, cap3, rfl⟩ := hcon.shape
          obtain ⟨a4, n4, cap4, rfl⟩ := hdon.shape
          have hcon' : Hid (CondsAt B wr (.slice a3 n3 cap3) r.1) := hcon
          have hdon' : Hid (CondsAt B wr (.slice a4 n4 cap4) s.1) := hdon
          clear hat hat2 hcon hdon
          obtain ⟨cs, vr⟩ := r
          obtain ⟨ds, vs⟩ := s
          simp only [] at c1 d1 hcon' hdon'
          go_wp2
          have hC0 : (wr.alloc (.cells #[.slice a3 n3 cap3, .int .i64 vr] 95)).cell? ⟨wr.heap.size, 0, none⟩ = some (.slice a3 n3 cap3) := by simp [go_sem]
          have hC1 : (wr.alloc (.cells #[.slice a3 n3 cap3, .int .i64 vr] 95)).cell? ⟨wr.heap.size, 1, none⟩ = some (.int .i64 vr) := by simp [go_sem]
          have hbW : Below wr.heap.size wr (wr.alloc (.cells #[.slice a3 n3 cap3, .int .i64 vr] 95)) := (Below.refl _ _).alloc (Nat.le_refl _) _
          have hz : (wr.alloc (.cells #[.slice a3 n3 cap3, .int .i64 vr] 95)).heap.size = wr.heap.size + 1 := by simp
          generalize wr.alloc (.cells #[.slice a3 n3 cap3, .int .i64 vr] 95) = W at *
          have hne := Later.ne W
          have f0 : ∀ x : Later W, x.1.cell? ⟨wr.heap.size, 0, none⟩ = some (.slice a3 n3 cap3) := fun x => x.cell hC0 (by omega)
          have f1 : ∀ x : Later W, x.1.cell? ⟨wr.heap.size, 1, none⟩ = some (.int .i64 vr) := fun x => x.cell hC1 (by omega)
          have f2 : ∀ x : Later W, x.1.cell? ⟨w.heap.size + 1, 0, none⟩ = some (.slice (some ⟨b2, o2, none⟩) n cap2) := fun x => x.cell ((hbW.cell (p := ⟨w.heap.size + 1, 0, none⟩) hq1).trans Hq.out) (by omega)
          have f3 : ∀ x : Later W, x.1.cell? ⟨b2, o2 + k * 2, none⟩ = some (.slice a4 n4 cap4) := fun x => x.cell ((hbW.cell (p := ⟨b2, o2 + k * 2, none⟩) (by show b2 < _; omega)).trans d0) (by omega)
          have f4 : ∀ x : Later W, x.1.cell? ⟨b2, o2 + k * 2 + 1, none⟩ = some (.int .i64 vs) := fun x => x.cell ((hbW.cell (p := ⟨b2, o2 + k * 2 + 1, none⟩) (by show b2 < _; omega)).trans d1) (by omega)
          have hcall : Hid (∀ x : Later W, Calls Tryz.prog 143 #[.slice a3 n3 cap3, .slice a4 n4 cap4] x.1 fun e w' => e = .returned (.bool (decide (cs = ds))) ∧ Below x.1.heap.size x.1 w') := fun x => equalConds_any B _ _ cs ds _ (hcon'.out.later (Below.thenOf hbW x.2 hbW.size) (by omega)) (hdon'.out.later (Below.thenOf hbW x.2 hbW.size) (by omega)) (by have := x.2.size; omega)
          have hstep : Hid (∀ wx, Below W.heap.size W wx → Below w.heap.size w wx ∧ wx.cell? ⟨w.heap.size + 1, 0, none⟩ = some (.slice (some ⟨b2, o2, none⟩) n cap2) ∧ w.heap.size + 1 < wx.heap.size) := fun wx hx => ⟨Below.thenOf (Below.thenOf hbr hbW hsz) hx (by omega), f2 ⟨wx, hx⟩, by have := hx.size; omega⟩
          by_cases hvv : vr = vs
          · subst hvv
            have hd2 : (vr != vr) = false := by simp
            generalize hq : decide (cs = ds) = q at *
            have hq' : Hid (decide (cs = ds) = q) := hq
            clear hq
            refine wp_region_later (by kernel_rfl) (by kernel_rfl) ?_
            repeat (go_big_quiet_step (first | (go_at_call 143; exact Calls.later (hcall.out _))))
            refine wpQuiet_nil ?_
            rintro wx ⟨⟨_, hx⟩, rfl⟩
            obtain ⟨g1, g2, g3⟩ := hstep.out wx hx
            clear f0 f1 f2 f3 f4 hne
            go_wp2
            · have hne : ¬ cs = ds := by have h := hq'.out; rw [(by first | assumption | simpa using (by assumption : (!q) = true) : q = false)] at h; simpa using h
              go_ret
              refine ⟨?_, g1⟩
              have : rs ≠ ss := by
                intro h
                have h1 := hck'.out
                rw [h, hdk'.out] at h1
                simp at h1
                exact hne h1.symm
              rw [E.out]
              simp [this]
            · have heq : cs = ds := by have h := hq'.out; rw [(by first | assumption | simpa using (by assumption : (!q) = false) : q = true)] at h; simpa using h
              refine ⟨⟨k + 1, by omega, by go_num, fun i hi => ?_, g1, g2, g3⟩, by simp [intOf]; omega⟩
              by_cases hik : i = k
              · subst hik; rw [hck'.out, hdk'.out, heq]
              · exact H.out i (by omega)
          · have hd2 : (vr != vs) = true := by simpa using hvv
            refine wp_region_later (by kernel_rfl) (by kernel_rfl) ?_
            repeat (go_big_quiet_step (first | (go_at_call 143; exact Calls.later (hcall.out _))))
            refine wpQuiet_nil ?_
            rintro wx ⟨⟨_, hx⟩, rfl⟩
            obtain ⟨g1, g2, g3⟩ := hstep.out wx hx
            clear f0 f1 f2 f3 f4 hne
            go_wp2
            go_ret
            refine ⟨?_, g1⟩
            have : rs ≠ ss := by
              intro h
              have h1 := hck'.out
              rw [h, hdk'.out] at h1
              simp at h1
              exact hvv h1.2.symm
            rw [E.out]
            simp [this]
        · go_wp2
          go_ret
          refine ⟨?_, hbr⟩
          have : rs = ss := by
            refine List.ext_getElem? fun i => ?_
            by_cases hi : i < k
            · exact H.out i hi
            · rw [List.getElem?_eq_none (by omega), List.getElem?_eq_none (by omega)]
          simp [this]
    · have hni : ((rs.length : Int) != (ss.length : Int)) = true := by simp; omega
      have hf : Hid (decide (rs = ss) = false) := by unfold Hid; simp; intro h; rw [h] at hne; exact hne rfl
      generalize rs.length = n at *
      generalize ss.length = m at *
      go_enter Tryz.func82, Tryz.ntmps82
      go_wp2
      go_ret
      exact ⟨by rw [hf.out]; rfl, hbP _ _⟩
  · have E : Hid (decide (((rs, d1) : PolT) = (ss, d2)) = false) := by unfold Hid; simp; intro _; exact hv
    have hv' : (d1 != d2) = true := by simpa using hv
    go_enter Tryz.func82, Tryz.ntmps82
    go_wp2
    go_ret
    exact ⟨by first | rfl | (rw [E.out]; rfl), hbP _ _⟩

end Go.Proofs.YtbdlojnigflanacGreatDoor
end
section
/- A region that draws its order, whose callees may make memory, and whose last operation, which may write, waits for all: one walk of the text's order serves every order. -/
set_option linter.all false
namespace Go.Proofs.YtbdlojnigflanacGreatDoor
open Go.RowKit

section
variable {P : Program} {ops : Array Oper} {md : Region.Mode} {C : World → Prop} {n : Nat} {B : Act → Prop} {on : Oper}

def wpAnyL (P : Program) (md : Region.Mode) (ops : Array Oper) (C : World → Prop) (n : Nat) (B : Act → Prop) : Nat → Array Bool → Act → Prop
  | 0, listed, a => Region.ready md ops listed = [n] ∧ Region.ready md ops (listed.setIfInBounds n true) = [] ∧ B a
  | fuel + 1, listed, a => Region.ready md ops listed ≠ [] ∧ ∀ i ∈ Region.ready md ops listed, qOp P ops C i (wpAnyL P md ops C n B fuel (listed.setIfInBounds i true)) a

theorem wpAny_of_L {Q : Exit → Act → World → Prop} (hB : ∀ a w, C w → B a → wpOp P ops Q n (fun a' w' => Q .normal a' w') a w) :
    ∀ (fuel : Nat) (listed : Array Bool) (a : Act) (w : World), C w → wpAnyL P md ops C n B fuel listed a → wpAny P md ops Q (fuel + 1) listed a w
  | 0, listed, a, w, hw, h => by
    obtain ⟨h1, h2, h3⟩ := h
    refine ⟨fun h0 => (by rw [h1] at h0; cases h0), fun i hi => ?_⟩
    rw [h1, List.mem_singleton] at hi
    subst hi
    have := hB a w hw h3
    unfold wpOp at this ⊢
    split at this
    · rename_i ho; simp only [ho]; exact ⟨h2, this⟩
    · rename_i o ho
      simp only [ho]
      split
      · rename_i hwa
        simp only [hwa, if_true] at this
        exact this.imp (Oper.wp_mono fun a' w' hq => ⟨h2, hq⟩) (fun h => h)
      · rename_i hwa
        simp only [hwa] at this
        exact ⟨h2, this⟩
  | fuel + 1, listed, a, w, hw, h =>
    ⟨fun h0 => absurd h0 h.1, fun i hi => wpOp_of_qOp hw (fun a' w' hw' hk => wpAny_of_L hB fuel _ a' w' hw' hk) (h.2 i hi)⟩

theorem wpAnyL_first (hn : ops[n]? = some on) {i : Nat} {oi : Oper} {v : Value} (hi : ops[i]? = some oi) (hni : waitsFor md on i) (hsel : ∀ (j : Nat) (o : Oper) cs b, ops[j]? = some o → o.op ≠ .select cs b) :
    ∀ (fuel : Nat) (listed : Array Bool) (a : Act),
      (∀ j oj, ops[j]? = some oj → j ≠ i → listed.getD j true = false → (∀ e ∈ oj.after, Region.binds md e = true → e.on ≠ i) → oi.apart ops oj = true) →
      i ∈ Region.ready md ops listed → YieldsIn P ops C oi v a →
      wpAnyL P md ops C n B fuel (listed.setIfInBounds i true) (a.put oi.dst v) → wpAnyL P md ops C n B (fuel + 1) listed a := by
  intro fuel
  induction fuel with
  | zero =>
    intro listed a _ hr hy H
    refine ⟨fun h => (by rw [h] at hr; cases hr), fun j hj => ?_⟩
    by_cases hji : j = i
    · subst hji; exact hy.qOp hi H
    · have := ready_mono hj hji
      rw [H.1, List.mem_singleton] at this
      subst this
      exact (not_ready_of_waits hn hni hr hj).elim
  | succ fuel ih =>
    intro listed a hfree hr hy H
    refine ⟨fun h => (by rw [h] at hr; cases hr), fun j hj => ?_⟩
    by_cases hji : j = i
    · subst hji; exact hy.qOp hi H
    · have h1 := H.2 j (ready_mono hj hji)
      obtain ⟨hjun, oj, hoj, hall⟩ := mem_ready.1 hj
      have hnot : ∀ e ∈ oj.after, Region.binds md e = true → e.on ≠ i := fun e he hb heq => not_ready_of_waits hoj ⟨e, he, hb, heq⟩ hr hj
      have h2 := qOp_put hoj (hfree j oj hoj hji hjun hnot) (fun cs b => hsel i oi cs b hi) (fun cs b => hsel j oj cs b hoj) hy h1
      have hfree' : ∀ k ok, ops[k]? = some ok → k ≠ i → (listed.setIfInBounds j true).getD k true = false →
          (∀ e ∈ ok.after, Region.binds md e = true → e.on ≠ i) → oi.apart ops ok = true := fun k ok hk hki hun hno => by
        refine hfree k ok hk hki ?_ hno
        by_cases hjk : j = k
        · subst hjk; exact hjun
        · rw [getD_set_ne true hjk] at hun; exact hun
      refine qOp_mono (fun a' h3 => ih (listed.setIfInBounds j true) a' hfree' (ready_mono hr (Ne.symm hji)) h3.1 ?_) h2
      rw [Array.setIfInBounds_comm _ _ hji]
      exact h3.2

theorem wpAnyL_lex (hn : ops[n]? = some on) (hsz : n = ops.size - 1) (hs : Region.noSelect ops = true) : ∀ (l : List Oper) (k : Nat) (listed : Array Bool) (a : Act), (∀ j, j < l.length → l[j]? = ops[k + j]?) → k + l.length = n →
    lexT md ops (fun _ => false) l.length k listed = true → wpQuiet P ops C B l a → wpAnyL P md ops C n B l.length listed a
  | [], k, listed, a, _, hk, hB, h => by
    simp only [List.length_nil, lexT, Bool.and_eq_true, beq_iff_eq, List.isEmpty_iff] at hB
    simp at hk
    subst hk
    exact ⟨hB.1, hB.2, h⟩
  | o :: l, k, listed, a, hl, hk, hB, h => by
    have h0 : ops[k]? = some o := by simpa using (hl 0 (by simp)).symm
    simp only [List.length_cons, lexT, Bool.and_eq_true] at hB
    obtain ⟨⟨⟨⟨hr, hf⟩, hwb⟩, hlast⟩, hB'⟩ := hB
    rw [← hsz, hn] at hlast
    have hni : waitsFor md on k := waitsB_spec hlast
    have hl' : ∀ j, j < l.length → l[j]? = ops[k + 1 + j]? := fun j hj => by have := hl (j + 1) (by simp; omega); simpa [Nat.add_assoc, Nat.add_comm 1 j] using this
    have hst : qOp P ops C k (wpQuiet P ops C B l) a := by unfold qOp; simp only [h0]; exact h
    obtain ⟨v, hy, hK⟩ := yieldsIn_of_qOp h0 hst
    exact wpAnyL_first hn h0 hni (Region.noSelect_spec hs) l.length listed a (Region.free_spec h0 hf) (by simpa using hr) hy
      (wpAnyL_lex hn hsz hs l (k + 1) _ _ hl' (by simp at hk; omega) hB' hK)

theorem wp_region_quiet_last {id : Nat} {Q : Exit → Act → World → Prop} {a : Act} {w : World} {full : List Oper} (l : List Oper) (last : Oper) (hf : full = l ++ [last]) (C : World → Prop) (hm : P.follows .mixedOrders = true) (hB : stagedB full.toArray (fun _ => false) = true) (hC : C w.drew)
    (h : wpQuiet P full.toArray C (fun a' => ∀ w', C w' → wpList P full.toArray Q [last] a' w') l a) : (Code.region id full.toArray true).wp P Q a w := by
  subst hf
  simp only [stagedB, Bool.and_eq_true] at hB
  have hsz : (l ++ [last]).toArray.size - 1 = l.length := by simp
  have hn : (l ++ [last]).toArray[l.length]? = some last := by simp
  rw [hsz] at hB
  have h1 := wpAnyL_lex (n := l.length) (md := .any) hn hsz.symm hB.1 l 0 (Array.replicate (l ++ [last]).toArray.size false) a (fun j hj => by simp [List.getElem?_append_left hj]) (by simp) hB.2 h
  refine wp_region_any hm ?_
  have h2 := wpAny_of_L (Q := Q) (fun a w hw hb => ?_) l.length _ a { w with drawn := w.drawn + 1 } hC h1
  · simpa using h2
  · have := hb w hw
    unfold wpList at this
    unfold wpOp
    rw [hn]
    simp only []
    split at this
    · rename_i hwa; simp only [hwa, if_true]; exact this.imp (Oper.wp_mono fun a' w' hq => by simpa [wpList] using hq) (fun h => h)
    · rename_i hwa; simp only [hwa]; simpa [wpList] using this

/-- The class of all later worlds; the last operation in whatever later world. -/
theorem wp_region_later_last {id : Nat} {Q : Exit → Act → World → Prop} {a : Act} {w : World} {full : List Oper} (l : List Oper) (last : Oper) (hf : full = l ++ [last]) (hm : P.follows .mixedOrders = true) (hB : stagedB full.toArray (fun _ => false) = true)
    (h : wpQuiet P full.toArray (fun w' => ∃ x : Later w, w' = x.1) (fun a' => ∀ w', (∃ x : Later w, w' = x.1) → wpList P full.toArray Q [last] a' w') l a) : (Code.region id full.toArray true).wp P Q a w :=
  wp_region_quiet_last l last hf _ hm hB ⟨⟨w.drew, (Below.refl _ _).drew⟩, rfl⟩ h
end
end Go.Proofs.YtbdlojnigflanacGreatDoor
end
section
/- right: a right call of any numbers. -/
set_option linter.all false
namespace Go.Proofs.YtbdlojnigflanacGreatDoor
open Go.RowKit Go.Maps

def cellsX (y : Nat → Int) : Array Value := #[.int .i64 (y 0), .int .i64 (y 1), .int .i64 (y 2), .int .i64 (y 3), .int .i64 (y 4)]
theorem cellsX_at {w : World} {b : Nat} {y : Nat → Int} {t : TypeId} (h : w.heap[b]? = some (.cells (cellsX y) t (0, 0))) : XAt w b y ∧ ∀ j, w.frozen? ⟨b, j, none⟩ = false := by
  refine ⟨fun j hj => ?_, fun j => by simp [World.frozen?, h]⟩
  have : j = 0 ∨ j = 1 ∨ j = 2 ∨ j = 3 ∨ j = 4 := by omega
  rcases this with rfl | rfl | rfl | rfl | rfl <;> simp [World.cell?, h, cellsX]
theorem row_setCell {w : World} {b o : Nat} {cs : Array Value} {u : Value} {t : TypeId} (h : w.heap[b]? = some (.cells cs t (0, 0))) : (w.setCell ⟨b, o, none⟩ u).heap[b]? = some (.cells (cs.setIfInBounds o u) t (0, 0)) := by
  have hlt := lt_of_block h
  have h' : w.heap[b] = .cells cs t (0, 0) := by simpa [Array.getElem?_eq_getElem hlt] using h
  show (w.heap.modify b _)[b]? = _
  rw [Array.getElem?_eq_getElem (by simpa using hlt), Array.getElem_modify_self, h']
  rfl
end Go.Proofs.YtbdlojnigflanacGreatDoor
end
section
/- A region that draws its order, whose writers come in whatever order: what stands behind some of them is said by one predicate of the values that they gave and of the world; the last operation waits for all. One walk of the text's order serves every order. -/
set_option linter.all false
namespace Go.Proofs.YtbdlojnigflanacGreatDoor
open Go.RowKit

section
variable {P : Program} {ops : Array Oper} {md : Region.Mode} {J : (Nat → Value → Prop) → World → Prop} {S : Nat → Value → Prop} {ks : Nat → Bool}

/-- What an operation came to, by its value and its world. -/
def upV (P : Program) (K : Value → World → Prop) : Result Next → Prop
  | .ok (.value v) w' => K v w'
  | .ok .skip w' => K undef w'
  | .ok (.enter f args) w' => Calls P f args w' fun e w'' => ∃ v, e = .returned v ∧ K v w''
  | _ => False
theorem wp_of_upV {o : Oper} {a : Act} {w : World} {K : Value → World → Prop} {K' : Act → World → Prop} {Q : Exit → Act → World → Prop} (h : upV P K ((execOp a.eval o).run P w)) (hk : ∀ v w', K v w' → K' (a.put o.dst v) w') : o.wp P a w K' Q := by
  unfold Oper.wp
  generalize (execOp a.eval o).run P w = r at *
  cases r with
  | halt x w' => simp only [upV] at h
  | ok nx w' =>
    cases nx <;> simp only [upV] at h
    case value v => exact hk _ _ h
    case skip => exact hk _ _ h
    case enter f args => exact h.mono fun e w'' ⟨v, he, h'⟩ => by subst he; exact hk _ _ h'

def addF (fs : Nat → Value → Prop) (i : Nat) (v : Value) : Nat → Value → Prop := fun m u => fs m u ∨ (m = i ∧ u = v)
theorem addF_comm (fs : Nat → Value → Prop) (i j : Nat) (v u : Value) : addF (addF fs i v) j u = addF (addF fs j u) i v := by
  funext m x
  simp only [addF]
  exact propext ⟨by rintro ((h | h) | h) <;> simp [h], by rintro ((h | h) | h) <;> simp [h]⟩

def inJ (J : (Nat → Value → Prop) → World → Prop) (w : World) : Prop := ∃ fs, J fs w
/-- A writer's step: it is told the values of those that it waits for. -/
def YG (P : Program) (ops : Array Oper) (md : Region.Mode) (J : (Nat → Value → Prop) → World → Prop) (S : Nat → Value → Prop) (o : Oper) (k : Nat) (fs : Nat → Value → Prop) (a : Act) : Prop :=
  Region.wanted o (yielded ops a.tmps) = true ∧ ∀ fs' w, J fs' w → (∀ m v, fs m v → waitsFor md o m → fs' m v) → (∀ v, ¬ fs' k v) → upV P (fun v w' => S k v ∧ J (addF fs' k v) w') ((execOp a.eval o).run P w)
theorem YG.of_same {o : Oper} {k : Nat} {fs fs' : Nat → Value → Prop} {a a' : Act} (hy : YG P ops md J S o k fs a) (he : execOp a'.eval o = execOp a.eval o) (hw : Region.wanted o (yielded ops a'.tmps) = Region.wanted o (yielded ops a.tmps)) (hf : ∀ m v, fs m v → waitsFor md o m → fs' m v) : YG P ops md J S o k fs' a' := by
  unfold YG at *
  rw [he, hw]
  exact ⟨hy.1, fun gs w hd h hk => hy.2 gs w hd (fun m v hm hwt => h m v (hf m v hm hwt) hwt) hk⟩

def gOp (P : Program) (ops : Array Oper) (md : Region.Mode) (J : (Nat → Value → Prop) → World → Prop) (S : Nat → Value → Prop) (ks : Nat → Bool) (i : Nat) (K : (Nat → Value → Prop) → Act → Prop) (fs : Nat → Value → Prop) (a : Act) : Prop :=
  match ops[i]? with
  | none => K fs a
  | some o => if ks i then YG P ops md J S o i fs a ∧ ∀ v, S i v → K (addF fs i v) (a.put o.dst v) else ∃ v, YR P ops (inJ J) o v a ∧ K fs (a.put o.dst v)

def wpAnyG (P : Program) (md : Region.Mode) (ops : Array Oper) (J : (Nat → Value → Prop) → World → Prop) (S : Nat → Value → Prop) (ks : Nat → Bool) (n : Nat) (B : (Nat → Value → Prop) → Act → Prop) : Nat → Array Bool → (Nat → Value → Prop) → Act → Prop
  | 0, listed, fs, a => Region.ready md ops listed = [n] ∧ Region.ready md ops (listed.setIfInBounds n true) = [] ∧ B fs a
  | fuel + 1, listed, fs, a => Region.ready md ops listed ≠ [] ∧ ∀ i ∈ Region.ready md ops listed, gOp P ops md J S ks i (wpAnyG P md ops J S ks n B fuel (listed.setIfInBounds i true)) fs a

theorem wpAny_of_G {n : Nat} {B : (Nat → Value → Prop) → Act → Prop} {Q : Exit → Act → World → Prop}
    (hB : ∀ fs a w, J fs w → B fs a → wpOp P ops Q n (fun a' w' => Q .normal a' w') a w) :
    ∀ (fuel : Nat) (listed : Array Bool) (fs : Nat → Value → Prop) (a : Act) (w : World), J fs w → (∀ m v, fs m v → listed.getD m true = true) → wpAnyG P md ops J S ks n B fuel listed fs a → wpAny P md ops Q (fuel + 1) listed a w
  | 0, listed, fs, a, w, hd, hf, h => by
    obtain ⟨h1, h2, h3⟩ := h
    refine ⟨fun h0 => (by rw [h1] at h0; cases h0), fun i hi => ?_⟩
    rw [h1, List.mem_singleton] at hi
    subst hi
    have := hB fs a w hd h3
    unfold wpOp at this ⊢
    split at this
    · rename_i ho; simp only [ho]; exact ⟨h2, this⟩
    · rename_i o ho
      simp only [ho]
      split
      · rename_i hwa
        simp only [hwa, if_true] at this
        exact this.imp (Oper.wp_mono fun a' w' hq => ⟨h2, hq⟩) (fun h => h)
      · rename_i hwa
        simp only [hwa] at this
        exact ⟨h2, this⟩
  | fuel + 1, listed, fs, a, w, hd, hf, h => by
    obtain ⟨h1, h2⟩ := h
    refine ⟨fun h0 => absurd h0 h1, fun i hi => ?_⟩
    have h3 := h2 i hi
    obtain ⟨hiun, _, _, _⟩ := mem_ready.1 hi
    have hset : ∀ m, listed.getD m true = true → (listed.setIfInBounds i true).getD m true = true := fun m hm => by
      by_cases hmi : i = m
      · subst hmi
        rw [hiun] at hm
        cases hm
      · rw [getD_set_ne true hmi]; exact hm
    have hseti : (listed.setIfInBounds i true).getD i true = true := by
      rcases Nat.lt_or_ge i listed.size with h' | h'
      · simp [h']
      · simp [Array.getElem?_eq_none h']
    unfold gOp at h3
    unfold wpOp
    split
    · rename_i ho; simp only [ho] at h3; exact wpAny_of_G hB fuel _ _ _ _ hd (fun m v hm => hset m (hf m v hm)) h3
    · rename_i o ho
      simp only [ho] at h3
      split at h3
      · obtain ⟨⟨y1, y2⟩, h4⟩ := h3
        simp only [y1, if_true]
        refine .inl (wp_of_upV (y2 fs w hd (fun m v hm _ => hm) fun v hv => ?_) fun v w' ⟨k0, k1⟩ => ?_)
        · have := hf i v hv
          rw [hiun] at this
          cases this
        · refine wpAny_of_G hB fuel _ (addF fs i v) _ w' k1 (fun m u hm => ?_) (h4 v k0)
          rcases hm with hm | ⟨rfl, rfl⟩
          · exact hset m (hf m u hm)
          · exact hseti
      · obtain ⟨v, y, h4⟩ := h3
        rcases y with ⟨y1, y2⟩ | ⟨y1, rfl⟩
        · simp only [y1, if_true]
          exact .inl (wp_of_stillV (y2 w ⟨fs, hd⟩) (wpAny_of_G hB fuel _ _ _ _ hd (fun m v hm => hset m (hf m v hm)) h4))
        · simp only [y1, Bool.false_eq_true, if_false]
          exact wpAny_of_G hB fuel _ _ _ _ hd (fun m v hm => hset m (hf m v hm)) h4

theorem YR.one {D : World → Prop} {o : Oper} {v u : Value} {a : Act} (hne : ∃ w, D w) (h : YR P ops D o v a) (h' : YR P ops D o u a) : v = u := by
  obtain ⟨w, hd⟩ := hne
  rcases h with ⟨h1, h2⟩ | ⟨h1, rfl⟩
  · rcases h' with ⟨k1, k2⟩ | ⟨k1, _⟩
    · have e1 := h2 w hd
      have e2 := k2 w hd
      unfold stillV at e1 e2
      rcases e1 with e1 | ⟨e1, rfl⟩ <;> rcases e2 with e2 | ⟨e2, rfl⟩ <;> rw [e1] at e2 <;> first | (injection e2 with e3 _; injection e3) | rfl | (injection e2 with e3 _; cases e3)
    · rw [h1] at k1; cases k1
  · rcases h' with ⟨k1, _⟩ | ⟨_, rfl⟩
    · rw [h1] at k1; cases k1
    · rfl

variable {n : Nat} {B : (Nat → Value → Prop) → Act → Prop} {on : Oper}

theorem wpAnyG_read (hn : ops[n]? = some on) {i : Nat} {oi : Oper} {v : Value} (hi : ops[i]? = some oi) (hki : ks i = false) (hni : waitsFor md on i) (hsel : ∀ (j : Nat) (o : Oper) cs b, ops[j]? = some o → o.op ≠ .select cs b) :
    ∀ (fuel : Nat) (listed : Array Bool) (fs : Nat → Value → Prop) (a : Act),
      (∀ j oj, ops[j]? = some oj → j ≠ i → listed.getD j true = false → (∀ e ∈ oj.after, Region.binds md e = true → e.on ≠ i) → oi.apart ops oj = true) →
      i ∈ Region.ready md ops listed → YR P ops (inJ J) oi v a →
      wpAnyG P md ops J S ks n B fuel (listed.setIfInBounds i true) fs (a.put oi.dst v) → wpAnyG P md ops J S ks n B (fuel + 1) listed fs a := by
  intro fuel
  induction fuel with
  | zero =>
    intro listed fs a _ hr hy H
    refine ⟨fun h => (by rw [h] at hr; cases hr), fun j hj => ?_⟩
    by_cases hji : j = i
    · subst hji; unfold gOp; simp only [hi, hki]; exact ⟨v, hy, H⟩
    · have := ready_mono hj hji
      rw [H.1, List.mem_singleton] at this
      subst this
      exact (not_ready_of_waits hn hni hr hj).elim
  | succ fuel ih =>
    intro listed fs a hfree hr hy H
    refine ⟨fun h => (by rw [h] at hr; cases hr), fun j hj => ?_⟩
    by_cases hji : j = i
    · subst hji; unfold gOp; simp only [hi, hki]; exact ⟨v, hy, H⟩
    · have h1 := H.2 j (ready_mono hj hji)
      obtain ⟨hjun, oj, hoj, hall⟩ := mem_ready.1 hj
      have hnot : ∀ e ∈ oj.after, Region.binds md e = true → e.on ≠ i := fun e he hb heq => not_ready_of_waits hoj ⟨e, he, hb, heq⟩ hr hj
      obtain ⟨a1, a2, a3⟩ := Oper.apart_spec (hfree j oj hoj hji hjun hnot)
      have hfree' : ∀ k ok, ops[k]? = some ok → k ≠ i → (listed.setIfInBounds j true).getD k true = false →
          (∀ e ∈ ok.after, Region.binds md e = true → e.on ≠ i) → oi.apart ops ok = true := fun k ok hk hki hun hno => by
        refine hfree k ok hk hki ?_ hno
        by_cases hjk : j = k
        · subst hjk; exact hjun
        · rw [getD_set_ne true hjk] at hun; exact hun
      have keep : ∀ u, YR P ops (inJ J) oi v (a.put oj.dst u) := fun u => hy.of_same (execOp_put oi (fun cs b => hsel i oi cs b hi) a oj.dst u a3) (wanted_put oi a oj.dst u a3)
      have e1 := execOp_put oj (fun cs b => hsel j oj cs b hoj) a oi.dst v a1
      have e2 := wanted_put oj a oi.dst v a1
      unfold gOp at h1 ⊢
      simp only [hoj] at h1 ⊢
      split
      · rename_i hk
        simp only [hk, if_true] at h1
        obtain ⟨y, hK⟩ := h1
        refine ⟨y.of_same e1.symm e2.symm fun m u hm _ => hm, fun u hu => ih (listed.setIfInBounds j true) _ _ hfree' (ready_mono hr (Ne.symm hji)) (keep u) ?_⟩
        rw [Array.setIfInBounds_comm _ _ hji, ← Act.put_comm a v u a2]
        exact hK u hu
      · rename_i hk
        simp only [hk] at h1
        obtain ⟨u, y, hK⟩ := h1
        refine ⟨u, y.of_same e1.symm e2.symm, ih (listed.setIfInBounds j true) fs _ hfree' (ready_mono hr (Ne.symm hji)) (keep u) ?_⟩
        rw [Array.setIfInBounds_comm _ _ hji, ← Act.put_comm a v u a2]
        exact hK

theorem wpAnyG_write (hS : ∀ k, ∃ v, S k v) (hne : ∃ w, inJ J w) (hn : ops[n]? = some on) {i : Nat} {oi : Oper} (hi : ops[i]? = some oi) (hki : ks i = true) (hni : waitsFor md on i) (hsel : ∀ (j : Nat) (o : Oper) cs b, ops[j]? = some o → o.op ≠ .select cs b) :
    ∀ (fuel : Nat) (listed : Array Bool) (fs : Nat → Value → Prop) (a : Act),
      (∀ j oj, ops[j]? = some oj → j ≠ i → listed.getD j true = false → (∀ e ∈ oj.after, Region.binds md e = true → e.on ≠ i) → oi.apart ops oj = true) →
      i ∈ Region.ready md ops listed → YG P ops md J S oi i fs a →
      (∀ v, S i v → wpAnyG P md ops J S ks n B fuel (listed.setIfInBounds i true) (addF fs i v) (a.put oi.dst v)) → wpAnyG P md ops J S ks n B (fuel + 1) listed fs a := by
  intro fuel
  obtain ⟨vs, hvs⟩ := hS i
  induction fuel with
  | zero =>
    intro listed fs a _ hr hy H
    refine ⟨fun h => (by rw [h] at hr; cases hr), fun j hj => ?_⟩
    by_cases hji : j = i
    · subst hji; unfold gOp; simp only [hi, hki, if_true]; exact ⟨hy, H⟩
    · have := ready_mono hj hji
      rw [(H vs hvs).1, List.mem_singleton] at this
      subst this
      exact (not_ready_of_waits hn hni hr hj).elim
  | succ fuel ih =>
    intro listed fs a hfree hr hy H
    refine ⟨fun h => (by rw [h] at hr; cases hr), fun j hj => ?_⟩
    by_cases hji : j = i
    · subst hji; unfold gOp; simp only [hi, hki, if_true]; exact ⟨hy, H⟩
    · have h1 := fun v hv => (H v hv).2 j (ready_mono hj hji)
      obtain ⟨hjun, oj, hoj, hall⟩ := mem_ready.1 hj
      have hnot : ∀ e ∈ oj.after, Region.binds md e = true → e.on ≠ i := fun e he hb heq => not_ready_of_waits hoj ⟨e, he, hb, heq⟩ hr hj
      have hnw : ¬ waitsFor md oj i := fun ⟨e, he, hb, heq⟩ => hnot e he hb heq
      have hnw' : ¬ waitsFor md oi j := fun h => not_ready_of_waits hi h hj hr
      obtain ⟨a1, a2, a3⟩ := Oper.apart_spec (hfree j oj hoj hji hjun hnot)
      have hfree' : ∀ k ok, ops[k]? = some ok → k ≠ i → (listed.setIfInBounds j true).getD k true = false →
          (∀ e ∈ ok.after, Region.binds md e = true → e.on ≠ i) → oi.apart ops ok = true := fun k ok hk hki hun hno => by
        refine hfree k ok hk hki ?_ hno
        by_cases hjk : j = k
        · subst hjk; exact hjun
        · rw [getD_set_ne true hjk] at hun; exact hun
      have keep : ∀ u fs', (∀ m x, fs m x → waitsFor md oi m → fs' m x) → YG P ops md J S oi i fs' (a.put oj.dst u) := fun u fs' hfs => hy.of_same (execOp_put oi (fun cs b => hsel i oi cs b hi) a oj.dst u a3) (wanted_put oi a oj.dst u a3) hfs
      have e1 := fun v => execOp_put oj (fun cs b => hsel j oj cs b hoj) a oi.dst v a1
      have e2 := fun v => wanted_put oj a oi.dst v a1
      unfold gOp at h1 ⊢
      simp only [hoj] at h1 ⊢
      split
      · rename_i hk
        simp only [hk, if_true] at h1
        refine ⟨(h1 vs hvs).1.of_same (e1 vs).symm (e2 vs).symm fun m u hm hw => ?_, fun u hu => ih (listed.setIfInBounds j true) _ _ hfree' (ready_mono hr (Ne.symm hji)) (keep u _ fun m x hm _ => .inl hm) fun v hv => ?_⟩
        · rcases hm with hm | ⟨rfl, rfl⟩
          · exact hm
          · exact absurd hw hnw
        · rw [Array.setIfInBounds_comm _ _ hji, ← Act.put_comm a v u a2, addF_comm]
          exact (h1 v hv).2 u hu
      · rename_i hk
        simp only [hk] at h1
        obtain ⟨u, y, _⟩ := h1 vs hvs
        have y0 : YR P ops (inJ J) oj u a := y.of_same (e1 vs).symm (e2 vs).symm
        refine ⟨u, y0, ih (listed.setIfInBounds j true) fs _ hfree' (ready_mono hr (Ne.symm hji)) (keep u _ fun m x hm _ => hm) fun v hv => ?_⟩
        obtain ⟨u', y', hK⟩ := h1 v hv
        have := YR.one hne y0 (y'.of_same (e1 v).symm (e2 v).symm)
        subst this
        rw [Array.setIfInBounds_comm _ _ hji, ← Act.put_comm a v u a2]
        exact hK

/-! The walk of the text's order. -/
def wpG (P : Program) (ops : Array Oper) (md : Region.Mode) (J : (Nat → Value → Prop) → World → Prop) (S : Nat → Value → Prop) (ks : Nat → Bool) (B : (Nat → Value → Prop) → Act → Prop) : List Oper → Nat → (Nat → Value → Prop) → Act → Prop
  | [], _, fs, a => B fs a
  | o :: l, k, fs, a => if ks k then YG P ops md J S o k fs a ∧ ∀ v, S k v → wpG P ops md J S ks B l (k + 1) (addF fs k v) (a.put o.dst v) else ∃ v, YR P ops (inJ J) o v a ∧ wpG P ops md J S ks B l (k + 1) fs (a.put o.dst v)

theorem wpAnyG_lex (hS : ∀ k, ∃ v, S k v) (hne : ∃ w, inJ J w) (hn : ops[n]? = some on) (hsz : n = ops.size - 1) (hs : Region.noSelect ops = true) : ∀ (l : List Oper) (k : Nat) (listed : Array Bool) (fs : Nat → Value → Prop) (a : Act), (∀ j, j < l.length → l[j]? = ops[k + j]?) → k + l.length = n →
    lexT md ops (fun _ => false) l.length k listed = true → wpG P ops md J S ks B l k fs a → wpAnyG P md ops J S ks n B l.length listed fs a
  | [], k, listed, fs, a, _, hk, hB, h => by
    simp only [List.length_nil, lexT, Bool.and_eq_true, beq_iff_eq, List.isEmpty_iff] at hB
    simp at hk
    subst hk
    exact ⟨hB.1, hB.2, h⟩
  | o :: l, k, listed, fs, a, hl, hk, hB, h => by
    have h0 : ops[k]? = some o := by simpa using (hl 0 (by simp)).symm
    simp only [List.length_cons, lexT, Bool.and_eq_true] at hB
    obtain ⟨⟨⟨⟨hr, hf⟩, hwb⟩, hlast⟩, hB'⟩ := hB
    rw [← hsz, hn] at hlast
    have hni : waitsFor md on k := waitsB_spec hlast
    have hl' : ∀ j, j < l.length → l[j]? = ops[k + 1 + j]? := fun j hj => by have := hl (j + 1) (by simp; omega); simpa [Nat.add_assoc, Nat.add_comm 1 j] using this
    unfold wpG at h
    split at h
    · rename_i hkk
      obtain ⟨hy, hK⟩ := h
      exact wpAnyG_write hS hne hn h0 hkk hni (Region.noSelect_spec hs) l.length listed fs a (Region.free_spec h0 hf) (by simpa using hr) hy
        (fun v hv => wpAnyG_lex hS hne hn hsz hs l (k + 1) _ _ _ hl' (by simp at hk; omega) hB' (hK v hv))
    · rename_i hkk
      obtain ⟨v, hy, hK⟩ := h
      exact wpAnyG_read hn h0 (by simpa using hkk) hni (Region.noSelect_spec hs) l.length listed fs a (Region.free_spec h0 hf) (by simpa using hr) hy
        (wpAnyG_lex hS hne hn hsz hs l (k + 1) _ _ _ hl' (by simp at hk; omega) hB' hK)

theorem wp_region_free {id : Nat} {Q : Exit → Act → World → Prop} {a : Act} {w : World} {full : List Oper} (l : List Oper) (last : Oper) (hf : full = l ++ [last]) (ks : Nat → Bool) (J : (Nat → Value → Prop) → World → Prop) (S : Nat → Value → Prop) (hS : ∀ k, ∃ v, S k v) (hm : P.follows .mixedOrders = true) (hB : stagedB full.toArray (fun _ => false) = true) (hC : J (fun _ _ => False) w.drew)
    (h : wpG P full.toArray .any J S ks (fun fs a' => ∀ w', J fs w' → wpList P full.toArray Q [last] a' w') l 0 (fun _ _ => False) a) : (Code.region id full.toArray true).wp P Q a w := by
  subst hf
  simp only [stagedB, Bool.and_eq_true] at hB
  have hsz : (l ++ [last]).toArray.size - 1 = l.length := by simp
  have hn : (l ++ [last]).toArray[l.length]? = some last := by simp
  rw [hsz] at hB
  have h1 := wpAnyG_lex (n := l.length) (md := .any) hS ⟨_, _, hC⟩ hn hsz.symm hB.1 l 0 (Array.replicate (l ++ [last]).toArray.size false) (fun _ _ => False) a (fun j hj => by simp [List.getElem?_append_left hj]) (by simp) hB.2 h
  refine wp_region_any hm ?_
  have h2 := wpAny_of_G (Q := Q) (fun fs a w hd hb => ?_) l.length _ (fun _ _ => False) a { w with drawn := w.drawn + 1 } hC (fun m v hm => hm.elim) h1
  · simpa using h2
  · have := hb w hd
    unfold wpList at this
    unfold wpOp
    rw [hn]
    simp only []
    split at this
    · rename_i hwa; simp only [hwa, if_true]; exact this.imp (Oper.wp_mono fun a' w' hq => by simpa [wpList] using hq) (fun h => h)
    · rename_i hwa; simp only [hwa]; simpa [wpList] using this

/-! Steps of the walk. -/
theorem wpG_read {D : World → Prop} (hD : ∀ fs w, J fs w → D w) {l : List Oper} {o : Oper} {k : Nat} {fs : Nat → Value → Prop} {a : Act} (hk : ks k = false) (hp : isPlain o = true) (h : wpQuiet P ops D (fun a' => wpG P ops md J S ks B l (k + 1) fs a') [o] a) : wpG P ops md J S ks B (o :: l) k fs a := by
  unfold wpG
  rw [if_neg (by rw [hk]; exact Bool.false_ne_true)]
  unfold wpQuiet at h
  split at h
  · rename_i hw
    obtain ⟨v, h1, h2⟩ := h
    exact ⟨v, .inl ⟨hw, fun w ⟨gs, hd⟩ => stillV_of_quiet hp (h1 w (hD gs w hd))⟩, h2⟩
  · rename_i hw
    exact ⟨undef, .inr ⟨by simpa using hw, rfl⟩, h⟩
/-- A reader, its value told. -/
theorem wpG_readV {l : List Oper} {o : Oper} {k : Nat} {fs : Nat → Value → Prop} {a : Act} (v : Value) (hk : ks k = false) (hg : Region.wanted o (yielded ops a.tmps) = true) (hw : ∀ w, (execOp a.eval o).run P w = .ok (.value v) w) (h : wpG P ops md J S ks B l (k + 1) fs (a.put o.dst v)) : wpG P ops md J S ks B (o :: l) k fs a := by
  unfold wpG
  rw [if_neg (by rw [hk]; exact Bool.false_ne_true)]
  exact ⟨v, .inl ⟨hg, fun w _ => .inl (hw w)⟩, h⟩
/-- A writer that enters no function. -/
theorem wpG_write {l : List Oper} {o : Oper} {k : Nat} {fs : Nat → Value → Prop} {a : Act} (hk : ks k = true) (hg : Region.wanted o (yielded ops a.tmps) = true) (hw : ∀ gs w, J gs w → (∀ m v, fs m v → waitsFor md o m → gs m v) → (∀ v, ¬ gs k v) → ∃ v w', (execOp a.eval o).run P w = .ok (.value v) w' ∧ S k v ∧ J (addF gs k v) w') (h : ∀ v, S k v → wpG P ops md J S ks B l (k + 1) (addF fs k v) (a.put o.dst v)) : wpG P ops md J S ks B (o :: l) k fs a := by
  unfold wpG
  rw [if_pos hk]
  refine ⟨⟨hg, fun gs w hd hfs hnk => ?_⟩, h⟩
  obtain ⟨v, w', h1, h2⟩ := hw gs w hd hfs hnk
  rw [h1]
  exact h2
/-- A writer that enters a function. -/
theorem wpG_call {l : List Oper} {o : Oper} {k : Nat} {fs : Nat → Value → Prop} {a : Act} (f : FuncId) (args : Array Value) (hk : ks k = true) (hg : Region.wanted o (yielded ops a.tmps) = true) (he : ∀ w, (execOp a.eval o).run P w = .ok (.enter f args) w) (hw : ∀ gs w, J gs w → (∀ m v, fs m v → waitsFor md o m → gs m v) → (∀ v, ¬ gs k v) → Calls P f args w fun e w' => ∃ v, e = .returned v ∧ S k v ∧ J (addF gs k v) w') (h : ∀ v, S k v → wpG P ops md J S ks B l (k + 1) (addF fs k v) (a.put o.dst v)) : wpG P ops md J S ks B (o :: l) k fs a := by
  unfold wpG
  rw [if_pos hk]
  refine ⟨⟨hg, fun gs w hd hfs hnk => ?_⟩, h⟩
  rw [he w]
  exact hw gs w hd hfs hnk
/-- A writer that hands back nothing (a store). -/
theorem wpG_store {l : List Oper} {o : Oper} {k : Nat} {fs : Nat → Value → Prop} {a : Act} (hk : ks k = true) (hg : Region.wanted o (yielded ops a.tmps) = true) (hw : ∀ gs w, J gs w → (∀ m v, fs m v → waitsFor md o m → gs m v) → (∀ v, ¬ gs k v) → ∃ w', (execOp a.eval o).run P w = .ok .skip w' ∧ S k undef ∧ J (addF gs k undef) w') (h : ∀ v, S k v → wpG P ops md J S ks B l (k + 1) (addF fs k v) (a.put o.dst v)) : wpG P ops md J S ks B (o :: l) k fs a := by
  unfold wpG
  rw [if_pos hk]
  refine ⟨⟨hg, fun gs w hd hfs hnk => ?_⟩, h⟩
  obtain ⟨w', h1, h2⟩ := hw gs w hd hfs hnk
  rw [h1]
  exact h2
theorem wpG_nil {k : Nat} {fs : Nat → Value → Prop} {a : Act} (h : B fs a) : wpG P ops md J S ks B [] k fs a := h
end
end Go.Proofs.YtbdlojnigflanacGreatDoor
end
