/- Joined: IRune IAny Num. -/
import Derived.Test.YtacjnooegahidabGreatDoorShelf
import Derived.Test.YtacjnooegahidabGreatDoorMj29
import Derived.Test.YtacjnooegahidabGreatDoorMj01
import Derived.Laws.RangeAny
import Derived.Laws.Runes
import Derived.Lib.OthersKept
import Derived.Scope
import Derived.Test.YtacjnooegahidabGreatDoorMj06
import Derived.Test.YtacjnooegahidabGreatDoorMj03
import Derived.Lib.AppendIntMem
section
/- strings.IndexRune of any rune among the signs of the operations. -/
set_option linter.all false
set_option maxRecDepth 100000
namespace Go.Proofs.YtacjnooegahidabGreatDoor
open Go.RowKit Go.Maps

/-- An operation in a drawn region whose value one tells. -/
theorem wpQuiet_val {P : Program} {ops : Array Oper} {C : World → Prop} {Q : Act → Prop} {a : Act} {o : Oper} {rest : List Oper} (v : Value) (hw : Region.wanted o (yielded ops a.tmps) = true) (hr : ∀ w, (execOp a.eval o).run P w = .ok (.value v) w) (h : wpQuiet P ops C Q rest (a.put o.dst v)) : wpQuiet P ops C Q (o :: rest) a :=
  Go.BigFrame.wpQuiet_want hw fun K hK => ⟨v, fun w _ => by unfold Oper.quietAt; rw [hr w]; exact ⟨rfl, rfl⟩, hK _ h⟩

def opB : ByteArray := ⟨#[61, 33, 60, 62]⟩
theorem opB_list : opB.data.toList = opC := rfl

theorem decode_cont (s : ByteArray) (pos j : Nat) (h0 : 0 < j) (h : j < (Utf8.decode s pos).2) : 128 ≤ (s.get! (pos + j)).toNat := by
  unfold Utf8.decode at h
  simp only [] at h
  split at h
  · simp at h; omega
  · split at h
    · rename_i hc
      simp at hc
      split at h
      · simp at h
        obtain rfl : j = 1 := by omega
        omega
      · simp at h; omega
    · split at h
      · rename_i hc
        simp at hc
        split at h
        · simp at h
          have : j = 1 ∨ j = 2 := by omega
          rcases this with rfl | rfl <;> omega
        · simp at h; omega
      · split at h
        · rename_i hc
          simp at hc
          split at h
          · simp at h
            have : j = 1 ∨ j = 2 ∨ j = 3 := by omega
            rcases this with rfl | rfl | rfl <;> omega
          · simp at h; omega
        · simp at h; omega

theorem opC_high (b : UInt8) (h : 128 ≤ b.toNat) : opC.contains b = false := by
  unfold opC
  simp
  refine ⟨?_, ?_, ?_, ?_⟩ <;> (intro e; subst e; revert h; decide)
theorem indexByte_high (l : Bs) (c : UInt8) (hl : ∀ b ∈ l, b.toNat < 128) (hc : 128 ≤ c.toNat) : Lib.indexByte l c = -1 := by
  induction l with
  | nil => rfl
  | cons b r ih =>
    have hb := hl b (by simp)
    have hne : (b == c) = false := by
      rw [beq_eq_false_iff_ne]
      intro e
      subst e
      omega
    rw [Lib.indexByte, ih fun x hx => hl x (by simp [hx]), hne]
    rfl

theorem index_str (s : ByteArray) (i : Nat) (h : i < s.size) (w : World) : (Instr.index 9 (.string s) (.int .i64 i)).run Tryz.prog w = .ok (.int .u8 (s[i]'h).toNat) w := by
  have hi : (i : Int) < (s.size : Int) := by omega
  simp [go_sem, h, hi, Tryz.underlying9]
theorem slice_str (s : ByteArray) (i : Nat) (h : i ≤ s.size) (w : World) : (Instr.sliceAt 9 (.string s) (some (.int .i64 i)) none none).run Tryz.prog w = .ok (.string (s.extract i s.size)) w := by
  have hi : (i : Int) ≤ (s.size : Int) := by omega
  simp [go_sem, h, hi, Tryz.underlying9]
theorem run_val {P : Program} {w : World} {x : Sem Value} {v : Value} (h : x.run P w = .ok v w) : (do let y ← x; pure (Next.value y) : Sem Next).run P w = .ok (.value v) w := by
  simp [Sem.run_bind, h, Result.andThen]

end Go.Proofs.YtacjnooegahidabGreatDoor
end
section
/- strings.IndexAny of the signs of the operations, at every text. -/
set_option linter.all false
set_option maxRecDepth 100000
namespace Go.Proofs.YtacjnooegahidabGreatDoor
open Go.RowKit Go.Maps

theorem noAny_wide {s : ByteArray} {i : Nat} (h : Lib.NoAny s.data.toList opC i) (hi : i < s.size) (hx : 128 ≤ (s[i]'hi).toNat) : Lib.NoAny s.data.toList opC (i + (Utf8.decode s i).2) := by
  intro j b hj hb
  by_cases h1 : j < i
  · exact h j b h1 hb
  · have hjs : j < s.size := by
      have := (List.getElem?_eq_some_iff.1 hb).1
      rw [← Lib.size_eq] at this
      exact this
    have hbe : b = s[j]'hjs := by
      rw [Lib.data_getElem? s j hjs] at hb
      exact (Option.some.inj hb).symm
    apply opC_high
    by_cases h2 : j = i
    · subst h2; rw [hbe]; exact hx
    · have := decode_cont s i (j - i) (by omega) (by omega)
      rw [show i + (j - i) = j by omega] at this
      rw [hbe]
      have e : s.get! j = s[j]'hjs := get_at s j hjs
      rw [← e]
      exact this

end Go.Proofs.YtacjnooegahidabGreatDoor
end
section
/- What the program's own reader of a number, of a verdict's name says. -/
set_option linter.all false
set_option maxRecDepth 100000
namespace Go.Proofs.YtacjnooegahidabGreatDoor
open Go.RowKit Go.Maps

theorem atoiAll_in {l : Bs} {v : Int} (h : Lib.atoiAll l = .ok v) : -9223372036854775808 ≤ v ∧ v ≤ 9223372036854775807 := by
  unfold Lib.atoiAll at h
  split at h
  · cases h
  · simp only [] at h
    split at h
    · cases h
    · cases h
    · split at h
      · cases h
      · split at h
        · cases h
        · cases h
          split <;> omega

def bsB (l : Bs) : ByteArray := ⟨l.toArray⟩
theorem idxOfS_idxL : ∀ (ns : List Bs) (x : ByteArray), Lib.idxOfS (ns.map bsB) x = idxL ns x.data.toList := by
  have key : ∀ (ns : List Bs) (x : ByteArray) (i : Nat), Lib.idxFromS (ns.map bsB) x i = if idxL ns x.data.toList = -1 then -1 else idxL ns x.data.toList + i := by
    intro ns x
    induction ns with
    | nil => intro i; simp [Lib.idxFromS, idxL]
    | cons n r ih =>
      intro i
      have hge := idxL_ge r x.data.toList
      have hbe : (bsB n = x) ↔ n = x.data.toList := by
        constructor
        · intro h; rw [← h]; simp [bsB]
        · intro h; rw [h]; cases x; simp [bsB]
      rw [List.map_cons, Lib.idxFromS, ih (i + 1), idxL]
      by_cases h : n = x.data.toList
      · rw [if_pos (hbe.2 h), if_pos h]
        simp
      · have h' : ¬ (bsB n = x) := fun e => h (hbe.1 e)
        simp only [h, h', if_false]
        by_cases h2 : idxL r x.data.toList = -1
        · simp [h2]
        · simp only [h2, if_false]
          split <;> omega
  intro ns x
  have := key ns x 0
  unfold Lib.idxOfS
  rw [this]
  split
  · rename_i h; exact h.symm
  · simp

end Go.Proofs.YtacjnooegahidabGreatDoor
end
