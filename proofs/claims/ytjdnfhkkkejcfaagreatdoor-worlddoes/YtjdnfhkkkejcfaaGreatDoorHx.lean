import Derived.BigQuiet
import Derived.Deep.DeepAppendRoom
import Derived.Deep.DeepLaidRun
import Derived.Deep.DeepWitnessRowRef
import Derived.Deep.SlicePairs
import Derived.Great.BuildSlice
import Derived.LaidMore
import Derived.LaidSub
import Derived.Lib.AppendIntMem
import Derived.Lib.AppendZerosOnto
import Derived.Lib.IndexAny
import Derived.Lib.MakeNoZero
import Derived.Lib.OwnBridge
import Derived.Lib.ParseIntB
import Derived.Lib.SlBuf
import Derived.Lib.SlicesS
import Derived.Lib.SmallJoins
import Derived.Lib.SplitLaws
import Derived.Sort.OwnSortedInts
import Derived.WalkLawsBesides
import Derived.WalkSpells
import Derived.Test.YtjdnfhkkkejcfaaGreatDoorRows
set_option linter.all false
namespace Go.RowKit
theorem Hid.o{p:Prop}(h:Hid p):p:=h
theorem Below.bk{L b:Nat}{w w':World}{o:Option Obj}(h:Below L w w')(g:w.heap[b]?=o)(l:b<L:=by omega):w'.heap[b]?=o:=(h.block _ l).trans g
theorem Below.bl{b:Nat}{w w':World}{o:Obj}(h:Below w.heap.size w w')(g:w.heap[b]?=some o):w'.heap[b]?=some o:=(h.block _ (Array.getElem?_eq_some_iff.1 g).1).trans g
theorem Below.u{L B:Nat}{w w':World}(h:Below L w w')(g:B<=w.heap.size):B<=w'.heap.size:=Nat.le_trans g h.size
theorem Below.s2{L b:Nat}{w w':World}{x y:Value}(h:Below L w w')(l:L<=b):Below L w ((w'.setCell ⟨b,0,none⟩ x).setCell ⟨b,1,none⟩ y):=(h.setCell (p:=⟨b,0,none⟩) l _).setCell (p:=⟨b,1,none⟩) l _
theorem Below.s3{L b:Nat}{w w':World}{x y z:Value}(h:Below L w w')(l:L<=b):Below L w (((w'.setCell ⟨b,0,none⟩ x).setCell ⟨b,1,none⟩ y).setCell ⟨b,2,none⟩ z):=(h.s2 l).setCell (p:=⟨b,2,none⟩) l _
theorem Below.s4{L b:Nat}{w w':World}{x y z u:Value}(h:Below L w w')(l:L<=b):Below L w ((((w'.setCell ⟨b,0,none⟩ x).setCell ⟨b,1,none⟩ y).setCell ⟨b,2,none⟩ z).setCell ⟨b,3,none⟩ u):=(h.s3 l).setCell (p:=⟨b,3,none⟩) l _
theorem Below.s5{L b:Nat}{w w':World}{x y z u v:Value}(h:Below L w w')(l:L<=b):Below L w (((((w'.setCell ⟨b,0,none⟩ x).setCell ⟨b,1,none⟩ y).setCell ⟨b,2,none⟩ z).setCell ⟨b,3,none⟩ u).setCell ⟨b,4,none⟩ v):=(h.s4 l).setCell (p:=⟨b,4,none⟩) l _
theorem Below.th{w w1 w2:World}(h:Below w.heap.size w w1)(h2:Below w1.heap.size w1 w2):Below w.heap.size w w2:=h.trans (h2.mono h.size)
end Go.RowKit
namespace Go.Proofs.YtjdnfhkkkejcfaaGreatDoor
open Go.RowKit Go.Maps
theorem Z{p:Prop}(h:p):Hid p:=h
abbrev nL:Value:=.slice none 0 0
abbrev U(n:Int):Value:=.int .i64 n
abbrev cL:=Calls Tryz.prog
abbrev bL(w w':World):Prop:=Below w.heap.size w w'
abbrev rT(w:World)(v:Value)(e:Ending)(w':World):Prop:=e=.returned v/\Below w.heap.size w w'
theorem lE{n:Nat}:n<=n:=Nat.le_refl _
theorem bR{L:Nat}{w:World}:Below L w w:=Below.refl _ _
theorem nM{α:Type}(a:α):∃x,x=a:=⟨_,rfl⟩
theorem fZ{w:World}{b:Nat}{a:Array Value}{T:TypeId}(h:w.heap[b]?=some (.cells a T (0,0)))(i:Nat):w.frozen? ⟨b,i,none⟩=false:=by simp[World.frozen?,h]
theorem bA{w W:World}{o:Obj}(h:W=w.alloc o):Below w.heap.size w W:=by rw[h];exact(Below.refl _ _).alloc (Nat.le_refl _) _
theorem bB{w W:World}{o p:Obj}(h:W=(w.alloc o).alloc p):Below w.heap.size w W:=by rw[h];exact((Below.refl _ _).alloc (Nat.le_refl _) _).alloc (by simp) _
theorem sA{w W:World}{o:Obj}(h:W=w.alloc o):W.heap.size=w.heap.size+1:=by rw[h];simp
theorem sB{w W:World}{o p:Obj}(h:W=(w.alloc o).alloc p):W.heap.size=w.heap.size+1+1:=by rw[h];simp
theorem hA{w W:World}{o:Obj}(h:W=w.alloc o):W.heap[w.heap.size]?=some o:=by rw[h];exact(MapKept.heap_alloc w o).1
theorem gB{w W:World}{o p:Obj}(h:W=(w.alloc o).alloc p):W.heap[w.heap.size]?=some o:=by rw[h];exact(Below.heap_alloc _ _ _ (by simp)).trans (MapKept.heap_alloc w o).1
theorem gC{w W:World}{o p:Obj}(h:W=(w.alloc o).alloc p):W.heap[w.heap.size+1]?=some p:=by rw[h];have:=(MapKept.heap_alloc (w.alloc o) p).1;rw[World.size_alloc] at this;exact this
theorem J0{w:World}{b:Nat}{l:List Value}{x:Value}{T:TypeId}{r:Nat × Nat}(h:w.heap[b]?=some (.cells (List.toArray (x :: l)) T r)):w.cell? ⟨b,0,none⟩=some x:=by simp[World.cell?,h]
theorem J1{w:World}{b:Nat}{l:List Value}{y x:Value}{T:TypeId}{r:Nat × Nat}(h:w.heap[b]?=some (.cells (List.toArray (y :: x :: l)) T r)):w.cell? ⟨b,1,none⟩=some x:=by simp[World.cell?,h]
theorem J2{w:World}{b:Nat}{l:List Value}{y z x:Value}{T:TypeId}{r:Nat × Nat}(h:w.heap[b]?=some (.cells (List.toArray (y :: z :: x :: l)) T r)):w.cell? ⟨b,2,none⟩=some x:=by simp[World.cell?,h]
theorem J3{w:World}{b:Nat}{l:List Value}{y z u x:Value}{T:TypeId}{r:Nat × Nat}(h:w.heap[b]?=some (.cells (List.toArray (y :: z :: u :: x :: l)) T r)):w.cell? ⟨b,3,none⟩=some x:=by simp[World.cell?,h]
theorem J4{w:World}{b:Nat}{l:List Value}{y z u v x:Value}{T:TypeId}{r:Nat × Nat}(h:w.heap[b]?=some (.cells (List.toArray (y :: z :: u :: v :: x :: l)) T r)):w.cell? ⟨b,4,none⟩=some x:=by simp[World.cell?,h]
abbrev Na(w:World)(b:Nat)(a:Array Value)(T:TypeId):Prop:=w.heap[b]?=some (.cells a T (0,0))
abbrev pW(w:World)(i:Nat):Addr:=⟨w.heap.size,i,none⟩
abbrev MZ(w:World):Option Addr:=some ⟨w.heap.size,0,none⟩
abbrev pA(b i:Nat):Addr:=⟨b,i,none⟩
abbrev sO(b:Nat):Option Addr:=some ⟨b,0,none⟩
theorem Q2{p0 p1:Prop}(h0:p0)(h1:p1):p0/\p1:=⟨h0,h1⟩
theorem Q3{p0 p1 p2:Prop}(h0:p0)(h1:p1)(h2:p2):p0/\p1/\p2:=⟨h0,h1,h2⟩
theorem Q4{p0 p1 p2 p3:Prop}(h0:p0)(h1:p1)(h2:p2)(h3:p3):p0/\p1/\p2/\p3:=⟨h0,h1,h2,h3⟩
theorem Z2{p0 p1:Prop}(h0:p0)(h1:p1):Hid (p0/\p1):=⟨h0,h1⟩
theorem Z3{p0 p1 p2:Prop}(h0:p0)(h1:p1)(h2:p2):Hid (p0/\p1/\p2):=⟨h0,h1,h2⟩
theorem Z4{p0 p1 p2 p3:Prop}(h0:p0)(h1:p1)(h2:p2)(h3:p3):Hid (p0/\p1/\p2/\p3):=⟨h0,h1,h2,h3⟩
theorem Z7{p0 p1 p2 p3 p4 p5 p6:Prop}(h0:p0)(h1:p1)(h2:p2)(h3:p3)(h4:p4)(h5:p5)(h6:p6):Hid (p0/\p1/\p2/\p3/\p4/\p5/\p6):=⟨h0,h1,h2,h3,h4,h5,h6⟩
theorem io:type_of% @lt_of_block:=@lt_of_block
theorem iO:type_of% @if_neg:=@if_neg
theorem Io:type_of% @if_pos:=@if_pos
theorem K8:type_of% @results_cell_tmp:=@results_cell_tmp
theorem K9:type_of% @List.getElem?_eq_some_iff:=@List.getElem?_eq_some_iff
theorem Ka:type_of% @bodyPost_ret:=@bodyPost_ret
theorem Kb:type_of% @List.mem_of_getElem?:=@List.mem_of_getElem?
theorem Kc:type_of% @Below.heap_setCell:=@Below.heap_setCell
theorem Kd:type_of% @Nat.lt_of_lt_of_le:=@Nat.lt_of_lt_of_le
theorem Ke:type_of% @Nat.le_refl:=@Nat.le_refl
theorem Kf:type_of% @Below.refl:=@Below.refl
theorem Kg:type_of% @World.size_alloc:=@World.size_alloc
theorem Kh:type_of% @List.getElem?_append_left:=@List.getElem?_append_left
theorem Ki:type_of% @List.take_of_length_le:=@List.take_of_length_le
theorem Kj:type_of% @List.length_append:=@List.length_append
theorem Kk:type_of% @List.getElem?_append_right:=@List.getElem?_append_right
theorem Kl:type_of% @Nat.le_trans:=@Nat.le_trans
theorem Km:type_of% @wpQuiet_nil:=@wpQuiet_nil
theorem Kn:type_of% @List.getD_eq_getElem?_getD:=@List.getD_eq_getElem?_getD
theorem Ko:type_of% @Go.WideMaps.keyOf_string_mk:=@Go.WideMaps.keyOf_string_mk
theorem Kp:type_of% @Nat.zero_add:=@Nat.zero_add
theorem Kq:type_of% @Below.heap_alloc:=@Below.heap_alloc
theorem Kr:type_of% @MapKept.heap_alloc:=@MapKept.heap_alloc
theorem Ks:type_of% @Nat.zero_le:=@Nat.zero_le
theorem Kt:type_of% @List.length_take:=@List.length_take
theorem Ku:type_of% @List.getElem?_map:=@List.getElem?_map
theorem Kv:type_of% @List.length_cons:=@List.length_cons
theorem Kw:type_of% @Lib.wpList_append_run:=@Lib.wpList_append_run
theorem Ky:type_of% @Below.setCell:=@Below.setCell
theorem Kz:type_of% @List.mem_cons:=@List.mem_cons
theorem KA:type_of% @IntWalk.i64_in:=@IntWalk.i64_in
theorem KB:type_of% @List.mem_append:=@List.mem_append
theorem KC:type_of% @Array.getElem?_setIfInBounds:=@Array.getElem?_setIfInBounds
theorem KD:type_of% @decide_eq_false:=@decide_eq_false
theorem KE:type_of% @World.block_lt_of_cell?:=@World.block_lt_of_cell?
theorem KF:type_of% @keyOf_int_mk:=@keyOf_int_mk
theorem KG:type_of% @Option.some.inj:=@Option.some.inj
theorem KH:type_of% @plainElem_int:=@plainElem_int
theorem KI:type_of% @List.append_assoc:=@List.append_assoc
theorem KJ:type_of% @List.drop_eq_nil_of_le:=@List.drop_eq_nil_of_le
theorem KK:type_of% @Array.getElem?_eq_some_iff:=@Array.getElem?_eq_some_iff
theorem KM:type_of% @List.drop_eq_getElem_cons:=@List.drop_eq_getElem_cons
theorem KN:type_of% @List.take_succ:=@List.take_succ
theorem KO:type_of% @List.mem_singleton:=@List.mem_singleton
theorem KP:type_of% @List.getElem?_eq_none:=@List.getElem?_eq_none
theorem KQ:type_of% @List.flatMap_cons:=@List.flatMap_cons
theorem KR:type_of% @Lib.size_eq:=@Lib.size_eq
theorem KS:type_of% @decide_eq_true:=@decide_eq_true
theorem KT:type_of% @Maps.atKey_put_other:=@Maps.atKey_put_other
theorem KU:type_of% @Bool.and_eq_true:=@Bool.and_eq_true
theorem KV:type_of% @DataW.trod_int:=@DataW.trod_int
theorem KW:type_of% @Array.setIfInBounds_comm:=@Array.setIfInBounds_comm
theorem KX:type_of% @Nat.add_assoc:=@Nat.add_assoc
theorem KY:type_of% @run_underlying:=@run_underlying
theorem KZ:type_of% @List.mem_of_mem_take:=@List.mem_of_mem_take
theorem L3:type_of% @Int.toNat_natCast:=@Int.toNat_natCast
theorem L4:type_of% @WalkArith.wf_i64:=@WalkArith.wf_i64
theorem L6:type_of% @List.take_length:=@List.take_length
theorem L7:type_of% @Maps.atKey_put_same:=@Maps.atKey_put_same
theorem L8:type_of% @Classical.byContradiction:=@Classical.byContradiction
theorem L9:type_of% @decide_eq_true_eq:=@decide_eq_true_eq
theorem La:type_of% @wpList_lookup_own_ok_int:=@wpList_lookup_own_ok_int
theorem Lb:type_of% @List.getElem?_set_ne:=@List.getElem?_set_ne
theorem Lc:type_of% @Below.alloc:=@Below.alloc
theorem Ld:type_of% @WideMaps.keyOf_string_mk:=@WideMaps.keyOf_string_mk
theorem Le:type_of% @World.ownsMap_made:=@World.ownsMap_made
theorem Lf:type_of% @List.length_nil:=@List.length_nil
theorem Lg:type_of% @List.cons_append:=@List.cons_append
theorem Lh:type_of% @World.cells?_some:=@World.cells?_some
theorem Li:type_of% @World.grownBy.andThen:=@World.grownBy.andThen
theorem Lj:type_of% @Sem.run_bind:=@Sem.run_bind
theorem Lk:type_of% @run_firstCells_none:=@run_firstCells_none
theorem Ll:type_of% @List.mem_flatMap:=@List.mem_flatMap
theorem Lm:type_of% @Lib.cell_of_heap:=@Lib.cell_of_heap
theorem Ln:type_of% @wpList_mapUpdate_own:=@wpList_mapUpdate_own
theorem Lo:type_of% @Array.getElem?_eq_getElem:=@Array.getElem?_eq_getElem
theorem Lp:type_of% @Option.ne_none_iff_exists':=@Option.ne_none_iff_exists'
theorem Lq:type_of% @beq_eq_false_iff_ne:=@beq_eq_false_iff_ne
theorem Lr:type_of% @if_true:=@if_true
theorem Lt:type_of% @List.map_cons:=@List.map_cons
theorem Lu:type_of% @List.getElem?_eq_getElem:=@List.getElem?_eq_getElem
theorem Lv:type_of% @Array.size_setIfInBounds:=@Array.size_setIfInBounds
theorem Lw:type_of% @List.length_map:=@List.length_map
theorem Lx:type_of% @List.pairwise_cons:=@List.pairwise_cons
theorem Ly:type_of% @Region.noSelect_spec:=@Region.noSelect_spec
theorem Lz:type_of% @Nat.mul_le_mul_right:=@Nat.mul_le_mul_right
theorem LA:type_of% @List.length_eq_zero_iff:=@List.length_eq_zero_iff
theorem LB:type_of% @run_append_own:=@run_append_own
theorem LC:type_of% @List.take_add_one:=@List.take_add_one
theorem LD:type_of% @List.ext_getElem?:=@List.ext_getElem?
theorem LF:type_of% @List.getElem?_set_self:=@List.getElem?_set_self
theorem LG:type_of% @List.drop_of_length_le:=@List.drop_of_length_le
theorem LH:type_of% @Int.le_refl:=@Int.le_refl
theorem LI:type_of% @List.append_nil:=@List.append_nil
theorem LJ:type_of% @List.mem_iff_getElem?:=@List.mem_iff_getElem?
theorem LK:type_of% @List.getElem?_toArray:=@List.getElem?_toArray
theorem LM:type_of% @Maps.isMap_empty:=@Maps.isMap_empty
theorem LO:type_of% @List.getElem?_take:=@List.getElem?_take
theorem LP:type_of% @Array.eq_empty_of_size_eq_zero:=@Array.eq_empty_of_size_eq_zero
theorem LQ:type_of% @Ne.symm:=@Ne.symm
theorem LR:type_of% @Act.put_comm:=@Act.put_comm
theorem LS:type_of% @size_madeCells:=@size_madeCells
theorem LT:type_of% @Lib.below_grow:=@Lib.below_grow
theorem LU:type_of% @World.ranges.left_eq:=@World.ranges.left_eq
theorem LV:type_of% @List.eq_nil_of_length_eq_zero:=@List.eq_nil_of_length_eq_zero
theorem LW:type_of% @Result.andThen_ok:=@Result.andThen_ok
theorem LX:type_of% @Bool.eq_iff_iff:=@Bool.eq_iff_iff
theorem LY:type_of% @List.length_pos_iff:=@List.length_pos_iff
theorem LZ:type_of% @Array.getElem?_eq_none:=@Array.getElem?_eq_none
theorem M0:type_of% @Region.free_spec:=@Region.free_spec
theorem M4:type_of% @List.map_toArray:=@List.map_toArray
theorem M5:type_of% @wanted_put:=@wanted_put
theorem M6:type_of% @execOp_put:=@execOp_put
theorem M7:type_of% @size_zeroCells:=@size_zeroCells
theorem M8:type_of% @Nat.add_sub_cancel:=@Nat.add_sub_cancel
theorem M9:type_of% @List.mem_or_eq_of_mem_set:=@List.mem_or_eq_of_mem_set
theorem Ma:type_of% @Lib.run_append_grow_zeros:=@Lib.run_append_grow_zeros
theorem Mb:type_of% @Nat.le_succ:=@Nat.le_succ
theorem Mc:type_of% @Nat.le_of_lt:=@Nat.le_of_lt
theorem Md:type_of% @List.mem_map:=@List.mem_map
theorem Me:type_of% @wp_scope_straight:=@wp_scope_straight
theorem Mf:type_of% @List.take_succ_cons:=@List.take_succ_cons
theorem Mg:type_of% @List.flatMap_append:=@List.flatMap_append
theorem Mh:type_of% @getD_set_ne:=@getD_set_ne
theorem Mi:type_of% @Nat.add_mul:=@Nat.add_mul
theorem Mj:type_of% @Below.trans:=@Below.trans
theorem Mk:type_of% @Nat.add_comm:=@Nat.add_comm
theorem Ml:type_of% @Int.le_trans:=@Int.le_trans
theorem Mm:type_of% @grownCap_le_maxLen:=@grownCap_le_maxLen
theorem Mn:type_of% @ByteArray.data_extract:=@ByteArray.data_extract
theorem Mo:type_of% @Oper.apart_spec:=@Oper.apart_spec
theorem Mp:type_of% @DataW.lit.injEq:=@DataW.lit.injEq
theorem Mq:type_of% @mem_ready:=@mem_ready
theorem Mr:type_of% @ownsRow_setCell_other:=@ownsRow_setCell_other
theorem Ms:type_of% @List.take_append_drop:=@List.take_append_drop
theorem Mt:type_of% @run_append_own_at:=@run_append_own_at
theorem Mu:type_of% @List.foldl_append:=@List.foldl_append
theorem Mv:type_of% @List.drop_drop:=@List.drop_drop
theorem Mw:type_of% @Lib.contains_iff_indexByte:=@Lib.contains_iff_indexByte
theorem Mx:type_of% @setRow_other:=@setRow_other
theorem My:type_of% @Sem.run_pure:=@Sem.run_pure
theorem Mz:type_of% @List.map_nil:=@List.map_nil
theorem MA:type_of% @List.length_drop:=@List.length_drop
theorem MB:type_of% @List.all_eq_true:=@List.all_eq_true
theorem MC:type_of% @Array.getElem_modify_self:=@Array.getElem_modify_self
theorem MD:type_of% @run_callFunc_extern:=@run_callFunc_extern
theorem ME:type_of% @List.map_congr_left:=@List.map_congr_left
theorem MF:type_of% @List.drop_succ_cons:=@List.drop_succ_cons
theorem MG:type_of% @Lib.count_one:=@Lib.count_one
theorem MH:type_of% @UInt8.toNat_inj:=@UInt8.toNat_inj
theorem MI:type_of% @Oper.upon_value:=@Oper.upon_value
theorem MJ:type_of% @Nat.min_eq_left:=@Nat.min_eq_left
theorem MK:type_of% @List.nil_append:=@List.nil_append
theorem ML:type_of% @Lib.toList_data:=@Lib.toList_data
theorem MN:type_of% @beq_iff_eq:=@beq_iff_eq
theorem MO:type_of% @List.find?_eq_none:=@List.find?_eq_none
theorem MP:type_of% @Lib.frozen_of_heap:=@Lib.frozen_of_heap
theorem MQ:type_of% @run_make:=@run_make
theorem MS:type_of% @Oper.wp_mono:=@Oper.wp_mono
theorem MT:type_of% @Nat.lt_trans:=@Nat.lt_trans
theorem MU:type_of% @Nat.lt_or_ge:=@Nat.lt_or_ge
theorem MV:type_of% @growslice_fits:=@growslice_fits
theorem MW:type_of% @Nat.mul_le_mul:=@Nat.mul_le_mul
theorem MX:type_of% @Array.size_append:=@Array.size_append
theorem MY:type_of% @List.append_eq_nil_iff:=@List.append_eq_nil_iff
end Go.Proofs.YtjdnfhkkkejcfaaGreatDoor
