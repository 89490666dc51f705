import Derived.Test.YtnpdhopjpjickaaGreatDoorWj11
import Derived.Test.YtnpdhopjpjickaaGreatDoorWj08
import Derived.Laws.ResultCell
set_option linter.all false
set_option maxRecDepth 100000
namespace Go.Proofs.YtnpdhopjpjickaaGreatDoor
open Go.RowKit Go.Maps
theorem rH.rules {L:Nat} {w:World} {v:Value} {xs:List Value} {b:List ai} (c:w.ownsRow L 142 2 v b.length xs) (h:rH L w xs b):be w.heap.size w v b:=by
 obtain⟨a,d,rfl,j,k,l⟩:=ax c
 refine⟨a,d,rfl,j,k,λi r f=>?_⟩
 have u:i<b.length:=(List.getElem?_eq_some_iff.1 f).1
 obtain⟨g,rfl,m,e⟩:=l (by omega)
 obtain⟨n,o,p,q,s,t⟩:=h.2.2 i r f
 exact⟨g,0,rfl,e,n,by rw[Nat.zero_add];exact aL c _ _ o,by rw[Nat.zero_add];exact aL c _ _ p,q,wM t s⟩
theorem dT.setOther {T d:TypeId} {w:World} {b o:Nat} {a:Array Value} {g:Nat × Nat} {u:Value} (h:w.heap[b]?=some (.cells a d g)) (i:d≠T):dT T w (w.setCell ⟨b,o,none⟩ u):=λk f j c=>(Below.heap_setCell _ _ _ _ (by
 show k≠b
 intro e
 subst e
 rw[h] at c
 cases c
 exact i rfl)).trans c
theorem Df (B:Nat) (w:World):bG B w (.agg #[.slice none 0 0,.int .i64 0]) ([],0):=⟨_,rfl,by unfold wf;decide,none,0,rfl,Nat.le_refl _,by rw[ag];omega,λi r h=>by simp at h⟩
end Go.Proofs.YtnpdhopjpjickaaGreatDoor
