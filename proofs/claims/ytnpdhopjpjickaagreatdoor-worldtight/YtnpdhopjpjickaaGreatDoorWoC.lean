import Derived.Test.YtnpdhopjpjickaaGreatDoorWj43
set_option linter.all false
set_option maxRecDepth 100000
namespace Go.Proofs.YtnpdhopjpjickaaGreatDoor
open Go.RowKit Go.Maps
def Eg (w:World) (k:Nat):Prop:=fQ w k/\∀ o a B f,w.cell? ⟨k,o,none⟩=some a->d7 B w a f->f=[]
theorem sY {B:Nat} {w:World} {a:Option Addr} {n c:Nat} {f:List bS} (h:d7 B w (.slice a n c) f) (g:f≠[]):∃ b o z,a=some ⟨b,o,none⟩/\w.cell? ⟨b,o,none⟩=some (.int .i64 z):=by
 obtain⟨p,j,e,-,-,k⟩:=h
 simp at e
 obtain⟨rfl,-,-⟩:=e
 cases f with
 | nil=>exact absurd rfl g
 | cons i l=>
  obtain⟨b,o,m,q,d⟩:=k 0 i rfl
  unfold jT at d
  exact⟨b,o,_,m,by simpa using d.1⟩
theorem Eg.of {B:Nat} {w:World} {k:Nat} {cv sv tv:Value} {u:Bool} {T:TypeId} {H:Nat × Nat} {x:aq} (h:w.heap[k]?=some (.cells #[cv,sv,tv,.bool u] T H)) (I:aC B w (.agg #[cv,sv,tv,.bool u]) x):Eg w k:=by
 obtain⟨J,L,M,e,D,E,F⟩:=I
 simp at e
 obtain⟨rfl,rfl,rfl,-⟩:=e
 have G:∀ {v:Value} {s:Bs},aJ B w v s->∀ j f,d7 j w v f->f=[]:=by
  intro v s c j f i
  obtain⟨a,t,rfl,-,-,A⟩:=c
  refine Classical.byContradiction λn=>?_
  obtain⟨b,o,z,p,q⟩:=sY i n
  obtain⟨_,_,e,-⟩:=i
  simp at e
  cases s with
  | nil=>exact n (List.length_eq_zero_iff.1 (by simpa using e.2.1.symm))
  | cons y l=>
   obtain⟨g,N,m,-,r⟩:=A 0 y rfl
   rw[p] at m
   simp at m
   obtain⟨rfl,rfl⟩:=m
   rw[Nat.add_zero,q] at r
   simp at r
 have C:∀ j f,d7 j w cv f->f=[]:=by
  intro j f i
  obtain⟨a,t,rfl,-,-,A⟩:=D
  refine Classical.byContradiction λn=>?_
  obtain⟨b,o,z,p,q⟩:=sY i n
  obtain⟨_,_,e,-⟩:=i
  simp at e
  cases hl:x.1 with
  | nil=>rw[hl] at e;exact n (List.length_eq_zero_iff.1 (by simpa using e.2.1.symm))
  | cons y l=>
   obtain⟨g,N,m,-,O,P,r,-⟩:=A 0 y (by rw[hl];rfl)
   rw[p] at m
   simp at m
   obtain⟨rfl,rfl⟩:=m
   rw[Nat.zero_mul,Nat.add_zero,q] at r
   simp at r
 have d:∀ o v,w.cell? ⟨k,o,none⟩=some v->v=cv\/v=sv\/v=tv\/v=.bool u:=by
  intro o v c
  have e:w.cell? ⟨k,o,none⟩=(#[cv,sv,tv,.bool u]:Array Value)[o]?:=by simp[World.cell?,h]
  rw[e] at c
  match o,c with
  | 0,c=>simp at c;exact .inl c.symm
  | 1,c=>simp at c;exact .inr (.inl c.symm)
  | 2,c=>simp at c;exact .inr (.inr (.inl c.symm))
  | 3,c=>simp at c;exact .inr (.inr (.inr c.symm))
  | o+4,c=>simp at c
 refine⟨λo K z e=>?_,λo Q j f e i=>?_⟩
 ·obtain⟨_,_,p,-⟩:=D
  obtain⟨_,_,q,-⟩:=E
  obtain⟨_,_,m,-⟩:=F
  rcases d o _ e with e | e | e | e
  ·rw[p] at e;cases e
  ·rw[q] at e;cases e
  ·rw[m] at e;cases e
  ·cases e
 ·rcases d o _ e with rfl | rfl | rfl | rfl
  ·exact C j f i
  ·exact G E j f i
  ·exact G F j f i
  ·obtain⟨_,_,e,-⟩:=i
   cases e
theorem yg {B k:Nat} {w w':World} {v:Value} {c:gf} (h:cH B w v c) (e:fS k w w') (g:Eg w k) (n:∀ f∈c,f≠[]):cH B w' v c:=by
 obtain⟨a,d,p,q,r,s⟩:=h
 refine⟨a,d,p,q,r,λi f j=>?_⟩
 obtain⟨b,o,t,u,x,l,m⟩:=s i f j
 refine⟨b,o,t,u,x,?_,qb m e g.1⟩
 have y:b≠k:=by
  rintro rfl
  exact n f (List.mem_of_getElem? j) (g.2 _ _ _ _ l m)
 rw[<-l]
 simp[World.cell?,e b y]
theorem bl.boxC {B k:Nat} {w w':World} {v:Value} {l:List ay} (h:bl B w v l) (d:fS k w w') (e:Eg w k) (n:∀ c∈l,∀ f∈c.2.1,f≠[]):bl B w' v l:=by
 obtain⟨a,j,p,q,r,s⟩:=h
 refine⟨a,j,p,q,r,λi c m=>?_⟩
 obtain⟨b,o,t,u,x,y,z,A,C,g,D,E⟩:=s i c m
 exact⟨b,o,t,u,x,y,d.near e.1 g z,d.near e.1 g A,d.near e.1 g C,d.cell e.1 g,yg D d e (n c (List.mem_of_getElem? m)),qU E d e.1⟩
theorem aC.boxC {B k:Nat} {w w':World} {v:Value} {x:aq} (h:aC B w v x) (a:fS k w w') (b:Eg w k) (d:∀ c∈x.1,∀ f∈c.2.1,f≠[]):aC B w' v x:=by
 obtain⟨g,i,j,e,l,m,n⟩:=h
 exact⟨g,i,j,e,l.boxC a b d,m.box a b.1,n.box a b.1⟩
end Go.Proofs.YtnpdhopjpjickaaGreatDoor
