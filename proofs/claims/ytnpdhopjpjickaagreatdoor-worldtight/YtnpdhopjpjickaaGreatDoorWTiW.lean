/- WTi: its contract at the seat, and that a memory as the row asks for is there. -/
import Derived.Shelf.Strings.Builder1
import Derived.Shelf.Strings.Builder2
import Derived.Shelf.Small.Utf8
import Derived.Shelf.Small.Bits
import Derived.Shelf.Small.Strs
import Derived.Shelf.Utf8.RuneCount
import Derived.Shelf.Strconv.Atoi
import Derived.Shelf.Strconv.Itoa0
import Derived.Shelf.Strconv.Itoa1
import Derived.Shelf.LaysM
import Derived.Shelf.Strconv.Itoa2
import Derived.Shelf.Strconv.Itoa3
import Derived.Shelf.Strconv.Itoa4
import Derived.Shelf.Strconv.AtoiErrFast
import Derived.Shelf.Strconv.ParseIntEmpty
import Derived.Shelf.Strconv.AtoiFail
import Derived.Shelf.Strconv.Clone
import Derived.Shelf.Strconv.SyntaxError
import Derived.Shelf.LaysC
import Derived.Shelf.Strconv.ToError
import Derived.Shelf.Strconv.Lower
import Derived.Shelf.Strconv.ParseUint10
import Derived.Shelf.Strconv.ParseUint10Empty
import Derived.Shelf.Strconv.ParseUint10Any
import Derived.Shelf.Strconv.ParseInt10
import Derived.Shelf.Strconv.AtoiLong
import Derived.Shelf.Strconv.AtoiInnerAll
import Derived.Shelf.Strconv.RangeError
import Derived.Shelf.Strconv.ToErrorRange
import Derived.Shelf.Strconv.AtoiAll
import Derived.Shelf.Strconv.ErrVarAll
import Derived.Shelf.Strconv.ParseUintEmpty
import Derived.Shelf.Strconv.ParseUint10b64
import Derived.Shelf.Strconv.ParseUint10b32
import Derived.Shelf.Strconv.ParseUint10b16
import Derived.Shelf.Strconv.ParseUint10b8
import Derived.Shelf.Strconv.ParseUint10At
import Derived.Shelf.Strconv.ParseInt10At64
import Derived.Shelf.Strconv.ParseInt10At32
import Derived.Shelf.Strconv.ParseInt10At16
import Derived.Shelf.Strconv.ParseInt10At8
import Derived.Shelf.Strconv.ParseInt10All
import Derived.Shelf.Strconv.ParseIntPublic10
import Derived.Shelf.Strconv.ErrVarParseInt
import Derived.Shelf.Strings.Search1
import Derived.Shelf.Strings.Search2
import Derived.Shelf.Strings.Search3
import Derived.Shelf.Strings.Cut
import Derived.Shelf.Strings.Count
import Derived.Shelf.Strings.Shaped
import Derived.Shelf.Sort.Plain
import Derived.Shelf.Strings.Prefix
import Derived.Shelf.Strings.Split
import Derived.Shelf.Strings.Fields
import Derived.Shelf.Strings.SplitShaped
import Derived.Shelf.Unicode.Latin
import Derived.Shelf.Unicode.Decode
import Derived.Shelf.Strings.Runes
import Derived.Shelf.Strings.RuneCount
import Derived.Shelf.Strings.IndexAny
import Derived.Shelf.Strings.AsciiSet
import Derived.Shelf.Strings.IndexAnyAll
import Derived.Shelf.Strings.Explode
import Derived.Shelf.Unicode.DecodeSlow
import Derived.Shelf.Unicode.DecodeAny
import Derived.Shelf.Unicode.Is16White
import Derived.Shelf.Unicode.IsSpaceAny
import Derived.Shelf.Unicode.Is16Any
import Derived.Shelf.Unicode.Is32Any
import Derived.Shelf.Unicode.ExclAny
import Derived.Shelf.Slices.Turned
import Derived.Ground.Names2Prog
import Derived.Shelf.Slices.CompactI
import Derived.Shelf.Slices.SearchI
import Derived.Shelf.Slices.Cells
import Derived.Shelf.Slices.In.SortNone
import Derived.Shelf.Bytes.SlIndexAt
import Derived.Shelf.Bytes.SlSearch0
import Derived.Shelf.Bytes.Small
import Derived.Shelf.Bytes.IndexByte
import Derived.Test.YtnpdhopjpjickaaGreatDoorProg
import Derived.Test.YtnpdhopjpjickaaGreatDoorShelf
import Derived.Test.YtnpdhopjpjickaaGreatDoorWj12
import Derived.ProofKit
import Derived.OpenShut
import Derived.ShutString
import Derived.ChangeOld
import Derived.Below
import Derived.Deep.SlicePairs
import Derived.Deep.Strs
import Derived.Test.YtnpdhopjpjickaaGreatDoorCards
import Derived.Test.YtnpdhopjpjickaaGreatDoorTie
import Derived.Test.YtnpdhopjpjickaaGreatDoorOpenI
import Derived.Test.YtnpdhopjpjickaaGreatDoorWj38
import Derived.Test.YtnpdhopjpjickaaGreatDoorWTi
import Derived.SizedLaws
import Derived.Deep.DeepHandedRow
import Derived.LaidMore
import Derived.Deep.DeepWitnessRowRef
import Derived.Deep.DeepLaidRun
import Derived.LaidSub
import Derived.LaidLaws
set_option linter.all false
set_option maxRecDepth 100000
namespace Go.Proofs
open Go.Shelf
def Tryz.laysM145_ren : Go.Shelf.Ren := ⟨fun | 145 => 95 | 220 => 118 | 219 => 143 | 217 => 169 | 225 => 170 | 224 => 171 | 267 => 172 | 266 => 200 | 314 => 201 | n => n, fun | 9 => 9 | 4 => 4 | 59 => 149 | 3 => 3 | 5 => 5 | 46 => 208 | 146 => 241 | 51 => 230 | n => n, fun | 1 => 1 | n => n⟩
theorem Tryz.laysM145 : Go.Proofs.LaysM.n145 Tryz.prog Tryz.laysM145_ren := {
  mixed := by kernel_rfl
  f145 := Tryz.func95.trans (congrArg some (by kernel_rfl))
  f217 := Tryz.func169.trans (congrArg some (by kernel_rfl))
  f219 := Tryz.func143.trans (congrArg some (by kernel_rfl))
  f220 := Tryz.func118.trans (congrArg some (by kernel_rfl))
  f224 := Tryz.func171.trans (congrArg some (by kernel_rfl))
  f225 := Tryz.func170.trans (congrArg some (by kernel_rfl))
  f266 := Tryz.func200.trans (congrArg some (by kernel_rfl))
  f267 := Tryz.func172.trans (congrArg some (by kernel_rfl))
  f314 := Tryz.func201.trans (congrArg some (by kernel_rfl))
  t3 := Tryz.underlying3
  a3 := Tryz.isAgg3
  z3 := Tryz.sizeOf3
  v3 := Tryz.zeroValue3
  t4 := Tryz.underlying4
  a4 := Tryz.isAgg4
  z4 := Tryz.sizeOf4
  v4 := Tryz.zeroValue4
  t5 := Tryz.underlying5
  a5 := Tryz.isAgg5
  z5 := Tryz.sizeOf5
  v5 := Tryz.zeroValue5
  t9 := Tryz.underlying9
  a9 := Tryz.isAgg9
  z9 := Tryz.sizeOf9
  v9 := Tryz.zeroValue9
  t46 := Tryz.underlying208
  a46 := Tryz.isAgg208
  z46 := Tryz.sizeOf208
  v46 := Tryz.zeroValue208
  t51 := Tryz.underlying230
  a51 := Tryz.isAgg230
  z51 := Tryz.sizeOf230
  v51 := Tryz.zeroValue230
  t59 := Tryz.underlying149
  a59 := Tryz.isAgg149
  z59 := Tryz.sizeOf149
  v59 := Tryz.zeroValue149
  t146 := Tryz.underlying241
  a146 := Tryz.isAgg241
  z146 := Tryz.sizeOf241
  v146 := Tryz.zeroValue241
  g1 := by kernel_rfl
  i3 := by kernel_rfl
  i4 := by kernel_rfl
  i5 := by kernel_rfl
  i9 := by kernel_rfl
  i46 := by kernel_rfl
  i51 := by kernel_rfl
  i59 := by kernel_rfl
  i146 := by kernel_rfl
  m1 := by kernel_rfl
  s1_3 := fun w h => Go.Proofs.cell_of_shapedOpen_int (zero := #[.int .i64 0]) (t := 3) h (of_decide_eq_true (by kernel_rfl)) (by kernel_rfl) rfl (by kernel_rfl) (by kernel_rfl) Tryz.underlying3 }
end Go.Proofs
section
namespace Go.Proofs.YtnpdhopjpjickaaGreatDoor
open Go.ChangeShapes Go.WideShapes Go.ChangeAt Go.RowKit Go.Deep
theorem laidOut : laidOutB Tryz.prog = true := by kernel_rfl
theorem trodAll_below {H : Type} {enc : TypeId × Value → H} {P : Program} (hl : laidOutB P = true) {W W' : World} (hb : Below W.heap.size W W') :
    ∀ (ts : List TypeId) (vs : List Value) (ds : List (DataW H)) (p : List MemPlace), (∀ t ∈ ts, P.readableRec t = true ∧ t < P.types.size) →
      DataW.TrodAll enc P W 0 (fun _ => true) true ts vs ds p → DataW.TrodAll enc P W' 0 (fun b => decide (b < W.heap.size)) true ts vs ds p
  | [], [], [], _, _, h => h
  | t :: ts, v :: vs, d :: ds, ps, ht, h => by
    obtain ⟨p, q, h1, h2, rfl⟩ := h
    have lt : ∀ x ∈ p, x.block < W.heap.size := by obtain ⟨m, hm⟩ := h1; exact DataW.trod_lt m _ _ _ hm
    exact ⟨p, q, Below.trod hl (ht t (by simp)).1 (ht t (by simp)).2 h1 hb lt, trodAll_below hl hb ts vs ds q (fun t' h' => ht t' (by simp [h'])) h2, rfl⟩
  | [], _ :: _, _, _, _, h => by simp [DataW.TrodAll] at h
  | [], [], _ :: _, _, _, h => by simp [DataW.TrodAll] at h
  | _ :: _, [], _, _, _, h => by simp [DataW.TrodAll] at h
  | _ :: _, _ :: _, [], _, _, h => by simp [DataW.TrodAll] at h
theorem env_of_shaped {W : World} (h : W.ShapedOpen Tryz.prog) : oE W := Tryz.laysM145.s1_3 W h
end Go.Proofs.YtnpdhopjpjickaaGreatDoor
end
namespace Go.Proofs.YtnpdhopjpjickaaGreatDoor
open Go.ChangeShapes Go.WideShapes Go.ChangeAt Go.RowKit Go.Deep
theorem err_laid {W : World} {n : String} {j : String} {d : DataW Unit} {g t : Nat} {k : Array (String × TypeId)} (f : Tryz.prog.globalNamed n = some g) (m : (Tryz.prog.globals[g]?).map (·.type) = some t) (o : Tryz.prog.underlying t = some (.interface k)) (h : laidMet Tryz.prog [(n, .iface j d)] W) : xu g W := by
  obtain ⟨x, ⟨y, z, r, i, p, q, b, c, a, s, _, _⟩, _⟩ := h
  obtain rfl := Option.some.inj (f.symm.trans b)
  obtain rfl := Option.some.inj (m.symm.trans c)
  obtain ⟨_, u, v, e, _, _⟩ := iface_of_trod o s
  have w := World.var?_cell f a 0
  obtain ⟨l⟩ := r
  simp at e
  subst e
  exact ⟨.iface u v, by simpa using w, .inr ⟨u, v, rfl⟩⟩
theorem env_laid {W : World} (a : laidMetH Tryz.prog Rows.worldTightRow.laid W) (b : W.ShapedOpen Tryz.prog) : dX W := by
  refine ⟨env_of_shaped b, ?_, ?_, ?_⟩
  · have h := laidMetH.filter (fun x => x.1 == "strconv.ErrSyntax") a
    have e : (Rows.worldTightRow.laid.filter fun x => x.1 == "strconv.ErrSyntax") = [("strconv.ErrSyntax", Rows.laid_strconv_ErrSyntax)] := by kernel_rfl
    rw [e] at h
    exact err_laid (g := 3) (by kernel_rfl) (by kernel_rfl) Tryz.underlying168 h
  · have h := laidMetH.filter (fun x => x.1 == "strconv.ErrRange") a
    have e : (Rows.worldTightRow.laid.filter fun x => x.1 == "strconv.ErrRange") = [("strconv.ErrRange", Rows.laid_strconv_ErrRange)] := by kernel_rfl
    rw [e] at h
    exact err_laid (g := 4) (by kernel_rfl) (by kernel_rfl) Tryz.underlying168 h
  · have h := laidMetH.filter (fun x => x.1 == "internal/strconv.uint64pow10") a
    have e : (Rows.worldTightRow.laid.filter fun x => x.1 == "internal/strconv.uint64pow10") = [("internal/strconv.uint64pow10", Lib.tabData .u64 Lib.pow10Tab)] := by kernel_rfl
    rw [e] at h
    exact Lib.tabIs_of_head (g := 5) (by kernel_rfl) (by kernel_rfl) Tryz.underlying250 Tryz.underlying210 (by kernel_rfl) (by kernel_rfl) h
theorem wti_contract (H : Type) (enc : TypeId × Value → H) (W : World) (d : Nat) (a : Array Value) (u B : List (DataW H)) (c : List MemPlace)
    (b : ∀ (j : Nat) t v, Tryz.f8.params[j]? = some t → a[j]? = some v → Value.okWide Tryz.prog W .any d t v)
    (w : DataW.Whole enc Tryz.prog Tryz.f8.params.toList Rows.worldTightSpec.vars false W a.toList u B c) (C : laidMetH Tryz.prog Rows.worldTightRow.laid W) (i : W.ShapedOpen Tryz.prog) :
    Calls Tryz.prog 8 a W fun e x => ∃ v, e = .returned v ∧ Rows.worldTightSpec.post enc Tryz.prog Tryz.f8 false true false false W a v x := by
  have k := w
  obtain ⟨p, q, f, D, rfl, E, F⟩ := w
  have l : DataW.TrodAll enc Tryz.prog W 0 (fun _ => true) true Tryz.f8.params.toList a.toList u p := f
  rw [Tryz.params8] at l b
  have m := l
  obtain ⟨n, G, Y, I, Z, q0, o, rfl, rfl, J, K⟩ := trodAll_cons l
  obtain ⟨y, L, d1, M, p1, q1, rfl, rfl, rfl, N, O⟩ := trodAll_cons K
  obtain ⟨z, P, d2, Q, p2, q2, rfl, rfl, rfl, R, S⟩ := trodAll_cons O
  obtain ⟨rfl, rfl, rfl⟩ := trodAll_nil S
  obtain rfl : a = #[n, y, z] := by cases a; simp_all
  obtain ⟨rfl, rfl⟩ := trodVars_none D
  obtain ⟨T, r⟩ := Ej (b 0 52 n rfl rfl) J
  obtain ⟨U, rfl, s⟩ := EB (b 1 3 y rfl rfl) N
  obtain ⟨V, rfl⟩ := Ef (b 2 34 z rfl rfl) R
  clear f
  refine (C8 W.heap.size n T U V W (env_laid C i) r s (Nat.le_refl _)).mono fun e x ⟨X, g⟩ => ?_
  subst X
  exact ⟨_, rfl, _, _, _, [], _, [], k, trodAll_mk1 (shut_bool Tryz.underlying4 _), trodAll_below laidOut g _ _ _ _ (by intro t A; simp at A; rcases A with rfl | rfl | rfl <;> exact ⟨by kernel_rfl, of_decide_eq_true (by kernel_rfl)⟩) m, rfl, g.frame _, fun h => by cases h⟩
def layFirst (h : Array Obj) : Array Obj := h.modify 6 fun o => match o with
  | .cells _ t a => .cells (Go.Pinned.utf8FirstZ.map fun n => Value.int .u8 (Int.ofNat n)).toArray t a
  | o => o
set_option maxHeartbeats 8000000 in
theorem wti_lifted (os : Os) (c : os.Started) (H : Type) (enc : TypeId × Value → H) (F : Stop.Interp) :
    ReturnsInHanded {} Tryz.checked os 8 .any ((OpenSpec.ofChange Rows.worldTightSpec).preRow enc Tryz.prog Tryz.f8 Rows.worldTightRow.domain false Rows.worldTightRow.laid) (((OpenSpec.ofChange Rows.worldTightSpec).at F).post enc Tryz.prog Tryz.f8 false true false false) := by
  obtain ⟨e, b⟩ : ∃ e : World, e = { World.doorLaid Tryz.prog 3000 os with heap := layFirst (World.doorLaid Tryz.prog 3000 os).heap } := ⟨_, rfl⟩
  have i : ∃ a, DataW.whole enc Tryz.prog (e.forCall (fun _ _ => 0) ⟨#[], #[.slice none 0 0, .int .i64 0, .agg #[.int .i64 0, .int .i64 0, .int .i64 0, .int .i64 0, .int .i64 0]], []⟩).memory Tryz.f8.params.toList Rows.worldTightSpec.vars false [Value.slice none 0 0, .int .i64 0, .agg #[.int .i64 0, .int .i64 0, .int .i64 0, .int .i64 0, .int .i64 0]] 8 = some ([.nil, .lit (.int .i64 0), .agg [.lit (.int .i64 0), .lit (.int .i64 0), .lit (.int .i64 0), .lit (.int .i64 0), .lit (.int .i64 0)]], [], a) := ⟨[], by rw [b]; as_aux_lemma => kernel_rfl⟩
  have m : laidMetH Tryz.prog Rows.worldTightRow.laid (e.forCall (fun _ _ => 0) ⟨#[], #[.slice none 0 0, .int .i64 0, .agg #[.int .i64 0, .int .i64 0, .int .i64 0, .int .i64 0, .int .i64 0]], []⟩).memory := by
    rw [b]
    exact laidMetH_of_parts3 (fuel := 8) (laidMet_of_run3 8 (by as_aux_lemma => kernel_rfl) (by as_aux_lemma => kernel_rfl) (by as_aux_lemma => kernel_rfl)) (by as_aux_lemma => kernel_rfl) (by as_aux_lemma => kernel_rfl)
  obtain ⟨a, i⟩ := i
  refine returnsInHanded_of_row (C := Tryz.checked) (s := OpenSpec.ofChange Rows.worldTightSpec) F6 c (by as_aux_lemma => kernel_rfl) Tryz.func8
    (witness_row_atRef (enc := enc) (C := Tryz.checked) false e #[.slice none 0 0, .int .i64 0, .agg #[.int .i64 0, .int .i64 0, .int .i64 0, .int .i64 0, .int .i64 0]] (by rw [b]; rfl) (by rw [b]; as_aux_lemma => kernel_rfl) (by rw [b]; as_aux_lemma => kernel_rfl) (by rw [b]; as_aux_lemma => kernel_rfl)
      (OpenSpec.preRow_of_cond 8 i (by as_aux_lemma => kernel_rfl) (fun k n => by cases n) (by as_aux_lemma => kernel_rfl) m)) ?_
  intro W f g o p d h q _ j r t l _
  exact wti_contract H enc W f g o p d h q t l
end Go.Proofs.YtnpdhopjpjickaaGreatDoor
