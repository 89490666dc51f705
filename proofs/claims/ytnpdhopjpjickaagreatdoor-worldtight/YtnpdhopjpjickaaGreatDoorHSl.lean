import Derived.Test.YtnpdhopjpjickaaGreatDoorWj21
import Derived.Test.YtnpdhopjpjickaaGreatDoorWj03
import Derived.Laws.MakeOwn
set_option linter.all false
set_option maxRecDepth 100000
namespace Go.Proofs.YtnpdhopjpjickaaGreatDoor
open Go.RowKit Go.Maps
theorem zK:∃ i,Tryz.prog.info? 32=some i/\i.zero=some (.agg #[.int .i64 0,.int .i64 0,.int .i64 0,.slice none 0 0,.int .i64 0])/\i.size=5/\i.bytes=56:=fD (by kernel_rfl)
theorem AU {B:Nat} {w:World} {a:Option Addr} {n c:Nat} {f:List al} (h:bX B w (.slice a n c) f) (k:Nat) (E:k<=f.length):∃ p,(∀ d,(Instr.slice 52 (.slice a n c) (some (.int .i64 k)) none none).run Tryz.prog d=.ok (.slice p (n-k) (c-k)) d)/\∀ d,bX B d (.slice a n c) f->bX B d (.slice p (n-k) (c-k)) (f.drop k):=by
 obtain⟨F,G,e,H,I,J⟩:=h
 simp at e
 obtain⟨rfl,rfl,rfl⟩:=e
 obtain⟨q,j,r,l,s⟩:=zK
 refine⟨if c=k then a else a.map (·.add (k*5)),λd=>?_,λd t=>?_⟩
 ·have u:(0:Int)<=(k:Int):=by omega
  have v:(k:Int)<=(f.length:Int):=by omega
  have x:((k:Int)).toNat=k:=by omega
  simp[Instr.slice,Instr.sliceBounds,Instr.sliceBound,run_underlying Tryz.underlying52,sizeOf,typeInfo,j,l,asIntOf,u,v,x]
  try (intro y;exact absurd y (by omega))
 ·obtain⟨K,L,e,M,N,z⟩:=t
  simp at e
  obtain⟨rfl,rfl⟩:=e
  refine⟨_,_,by rw[List.length_drop],by rw[List.length_drop];omega,by omega,λi b m=>?_⟩
  rw[List.getElem?_drop] at m
  have A:=(List.getElem?_eq_some_iff.1 m).1
  obtain⟨g,o,e,C,D⟩:=z (k+i) b m
  subst e
  refine⟨g,o+k*5,?_,C,by rw[show o+k*5+i*5=o+(k+i)*5 by omega];exact D⟩
  rw[if_neg (by omega)]
  simp[dL]
theorem Db {B:Nat} {w:World} {a:Option Addr} {n c:Nat} {d:List al} (h:bX B w (.slice a n c) d) (k:Nat) (l:k<=d.length):(∀ b,(Instr.slice 52 (.slice a n c) none (some (.int .i64 k)) none).run Tryz.prog b=.ok (.slice a k c) b)/\∀ b,bX B b (.slice a n c) d->bX B b (.slice a k c) (d.take k):=by
 obtain⟨z,A,e,C,D,E⟩:=h
 simp at e
 obtain⟨rfl,rfl,rfl⟩:=e
 obtain⟨m,g,o,j,p⟩:=zK
 refine⟨λb=>?_,λb q=>?_⟩
 ·have s:(0:Int)<=(k:Int):=by omega
  have t:(k:Int)<=(c:Int):=by omega
  have u:((k:Int)).toNat=k:=by omega
  simp[Instr.slice,Instr.sliceBounds,Instr.sliceBound,run_underlying Tryz.underlying52,sizeOf,typeInfo,g,j,asIntOf,s,t,u]
  go_simp
  try (intro v;exact absurd v (by omega))
 ·obtain⟨F,G,e,H,x,y⟩:=q
  simp at e
  obtain⟨rfl,rfl⟩:=e
  refine⟨a,c,by rw[List.length_take,Nat.min_eq_left l],by rw[List.length_take];omega,x,λi r f=>?_⟩
  rw[List.getElem?_take] at f
  split at f
  ·exact y i r f
  ·cases f
end Go.Proofs.YtnpdhopjpjickaaGreatDoor
