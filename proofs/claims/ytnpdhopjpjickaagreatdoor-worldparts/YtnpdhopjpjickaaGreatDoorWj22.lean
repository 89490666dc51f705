import Derived.Test.YtnpdhopjpjickaaGreatDoorWj08
import Derived.Test.YtnpdhopjpjickaaGreatDoorWj01
import Derived.Lib.MakeNoZero
set_option linter.all false
set_option maxRecDepth 100000
namespace Go.Proofs.YtnpdhopjpjickaaGreatDoor
open Go.RowKit Go.Maps
set_option maxHeartbeats 2000000 in
theorem zx (B b n:Nat) (w:World) (r:B<=b) (a:w.heap[b]?=some (.cells #[.pointer (some ⟨b,0,none⟩),.slice none 0 0] 235 (0,0))) (j:B<=w.heap.size) (s:n<=100000000000):
  Calls Tryz.prog 224 #[.pointer (some ⟨b,0,none⟩),.int .i64 n] w λe p=>e=.returned (.tuple #[])/\ot B b [] p/\Below B w p:=by
 obtain⟨x,t,u,k,v⟩:=lS
 obtain⟨d,f,l,g⟩:=Lib.run_makeNoZero (P:=Tryz.prog) w.drew #[3] 23 5 Tryz.underlying23 n (by omega)
 have q:IntKind.i64.wrap (IntKind.i64.wrap 0+(n:Int))=n:=by
  rw[IntKind.wrap_i64,IntKind.wrap_i64]
  omega
 have m:(callFunc 237 #[.int .i64 (IntKind.i64.wrap (IntKind.i64.wrap 0+(n:Int)))]).run Tryz.prog w.drew=.ok (.value (.slice (some ⟨w.drew.heap.size,0,none⟩) n d.size)) (w.drew.drew.drew.alloc (.cells d 5)):=by
  rw[q,run_callFunc_extern Tryz.func237 (by kernel_rfl) (by kernel_rfl) (by kernel_rfl) (e:=Extern.BytealgMakeNoZero.makeNoZero #[3] #[23]) (by kernel_rfl),f]
  rfl
 have h:=lt_of_block a
 have y:w.drew.cell? ⟨b,1,none⟩=some (.slice none 0 0):=by
  have:w.drew.heap[b]?=_:=a
  rw[Lib.cell_of_heap this];rfl
 have c:(w.alloc (.cells d 5)).heap[b]?=_:=(Lib.alloc_old w _ b h).trans a
 have z:(w.alloc (.cells d 5)).cell? ⟨b,1,none⟩=some (.slice none 0 0):=by rw[Lib.cell_of_heap c];rfl
 have A:(w.alloc (.cells d 5)).frozen? ⟨b,1,none⟩=false:=Lib.frozen_of_heap c 1
 have o:∀ W:World,(Builtin.copy_ #[23,23] 3 #[.slice (some ⟨w.heap.size,0,none⟩) 0 d.size,.slice none 0 0]).run Tryz.prog W=.ok (goInt 0) W:=
  λW=>run_copy_none W 23 23 3 5 _ _ 0 d.size 0 0 Tryz.underlying23 (by rw[t];simp[k]) rfl
 have i:=Lib.grown_fresh (T:=235) (e:=5) (cs:=d) r a j (g (by unfold maxLen;omega)) (by decide)
 clear q c h a l g f s
 go_enter Tryz.func224,Tryz.ntmps224
 go_wp2
 go_region
 all_goals (go_wp2;go_end0;exact⟨rfl,i⟩)
set_option maxHeartbeats 2000000 in
theorem xN (B b n:Nat) (w:World) (g:B<=b) (c:w.heap[b]?=some (.cells #[.pointer none,.slice none 0 0] 235 (0,0))) (h:B<=w.heap.size) (k:n<=100000000000):
  Calls Tryz.prog 198 #[.pointer (some ⟨b,0,none⟩),.int .i64 n] w λe f=>e=.returned (.tuple #[])/\ot B b [] f/\Below B w f:=by
 have a:(w.setCell ⟨b,0,none⟩ (.pointer (some ⟨b,0,none⟩))).heap[b]?=some (.cells #[.pointer (some ⟨b,0,none⟩),.slice none 0 0] 235 (0,0)):=by
  simp[World.setCell,Array.getElem?_modify,c]
 have l:(w.setCell ⟨b,0,none⟩ (.pointer (some ⟨b,0,none⟩))).cell? ⟨b,1,none⟩=some (.slice none 0 0):=by rw[Lib.cell_of_heap a];rfl
 have d:Below B w (w.setCell ⟨b,0,none⟩ (.pointer (some ⟨b,0,none⟩))):=(Below.refl B w).setCell (p:=⟨b,0,none⟩) g _
 have m:ot B b [] (w.setCell ⟨b,0,none⟩ (.pointer (some ⟨b,0,none⟩))):=⟨g,.slice none 0 0,a,World.ownsRow_nil _ _ _ _,by simp[Value.ownBlock]⟩
 have o:(w.setCell ⟨b,0,none⟩ (.pointer (some ⟨b,0,none⟩))).drew.cell? ⟨b,1,none⟩=some (.slice none 0 0):=l
 have i:Hid _:=pV b w (by rw[Lib.cell_of_heap c];rfl) (by simp[World.shape?,c]) (Lib.frozen_of_heap c 0)
 have j:Hid _:=zx B b n (w.setCell ⟨b,0,none⟩ (.pointer (some ⟨b,0,none⟩))).drew g a (by simpa [World.setCell,World.drew,-World.drew_eq] using h) k
 go_enter Tryz.func198,Tryz.ntmps198
 go_wp2_with fail
 go_at_call 223
 refine Calls.mono i.out ?_
 rintro e f ⟨rfl,rfl⟩
 go_wp2_with fail
 go_region
 all_goals go_wp2_with fail
 all_goals first
  | (go_at_call 224;refine Calls.mono j.out ?_;rintro e f ⟨rfl,q,r⟩;go_wp2_with fail;go_end0;exact⟨rfl,q,d.drew.trans r⟩)
  | (go_end0;exact⟨rfl,m.drew,d.drew⟩)
end Go.Proofs.YtnpdhopjpjickaaGreatDoor
