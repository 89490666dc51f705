import Derived.Test.YtnpdhopjpjickaaGreatDoorWj09
import Derived.Test.YtnpdhopjpjickaaGreatDoorWj08
import Derived.Test.YtnpdhopjpjickaaGreatDoorWj07
set_option linter.all false
set_option maxRecDepth 100000
namespace Go.Proofs.YtnpdhopjpjickaaGreatDoor
open Go.RowKit Go.Maps
theorem zF {l:List ap} {x:List Int} (h:x∈bH l):∃ a b c d e,x=[a,b,c,d,e]:=by
 unfold bH at h
 split at h
 ·have f:=(mq _ _).1 h
  unfold mT at f
  match x,f with
  | [a,b,c,d,e],_=>exact⟨a,b,c,d,e,rfl⟩
 ·cases h
def ga (p q:ap):Nat->Int:=match dE p q with
 | some x=>DN x
 | none=>λ_=>0
theorem Aw {α:Type} (f:α->Bool) (l:List α) (i:Nat) (h:∀ x∈l.take i,f x=false) (x:α) (a:l[i]?=some x) (b:f x=true):l.find? f=some x:=by
 have e:l=l.take i++x :: l.drop (i+1):=by
  obtain⟨c,rfl⟩:=List.getElem?_eq_some_iff.1 a
  rw[<-List.drop_eq_getElem_cons c,List.take_append_drop]
 rw[e,List.find?_append,List.find?_eq_none.2 (λy d=>by simp[h y d])]
 simp[b]
end Go.Proofs.YtnpdhopjpjickaaGreatDoor
