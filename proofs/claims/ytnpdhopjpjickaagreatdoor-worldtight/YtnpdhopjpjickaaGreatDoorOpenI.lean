import Derived.Test.YtnpdhopjpjickaaGreatDoorWj12
set_option linter.all false
set_option maxRecDepth 100000
namespace Go.Proofs.YtnpdhopjpjickaaGreatDoor
open Go.ChangeShapes Go.WideShapes Go.ChangeAt Go.RowKit Go.Deep
theorem EB {H:Type} {c:TypeId × Value->H} {W:World} {r:Reach} {i a:Nat} {g:Nat->Bool} {b:Bool} {v:Value} {d:DataW H} {p:List MemPlace}
  (j:Value.okWide Tryz.prog W r i 3 v) (h:DataW.Trod c Tryz.prog W a g b 3 v d p):∃ n,v=.int .i64 n/\wf n:=by
 obtain⟨n,rfl⟩:=okWide_int Tryz.underlying3 j
 obtain⟨e,k⟩:=h
 have f:DataW.trod c Tryz.prog W a g b e 3 [.int .i64 n]=some (d,p):=k
 obtain⟨m,q,_,l⟩:=DataW.trod_int Tryz.underlying3 f
 simp at q
 subst q
 exact⟨n,rfl,l⟩
end Go.Proofs.YtnpdhopjpjickaaGreatDoor
