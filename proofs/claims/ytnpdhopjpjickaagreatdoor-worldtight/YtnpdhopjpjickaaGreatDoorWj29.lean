/- Joined: Nte9 Dsk1 Dsk2 Dsk3 Dsk4 Dsk5 Dsk6. -/
import Derived.Test.YtnpdhopjpjickaaGreatDoorWj27
import Derived.Test.YtnpdhopjpjickaaGreatDoorWj28
import Derived.Test.YtnpdhopjpjickaaGreatDoorWj21
import Derived.Test.YtnpdhopjpjickaaGreatDoorWj03
import Derived.Test.YtnpdhopjpjickaaGreatDoorWj23
import Derived.Lib.AppendZerosOnto
import Derived.Lib.AppendZeros
import Derived.Maps.AppendAt
import Derived.Laws.BytesArg
import Derived.Laws.IdiomStrings
section
set_option linter.all false
namespace Go.Proofs.YtnpdhopjpjickaaGreatDoor
open Go.RowKit Go.Maps
end Go.Proofs.YtnpdhopjpjickaaGreatDoor
end
section
set_option linter.all false
set_option maxRecDepth 100000
namespace Go.Proofs.YtnpdhopjpjickaaGreatDoor
open Go.RowKit Go.Maps
def iG (L:Nat) (g:Option Nat) (w:World) (v:Value) (r:al):Prop:=∀ a:World,(∀ k,L<=k->some k≠g->k<w.heap.size->a.heap[k]?=w.heap[k]?)->w.heap.size<=a.heap.size->cV a.heap.size a v r
theorem iG.of_new {L a:Nat} {g:Option Nat} {w:World} {v:Value} {r:al} (h:gE a w v r) (b:L<=a) (c:∀ k,g=some k->k<a):iG L g w v r:=λd f i=>h d (λk j l=>f k (Nat.le_trans b j) (λe=>by have:=c k e.symm;omega) l) i
theorem iG.grown {L:Nat} {g a:Option Nat} {w w':World} {v:Value} {r:al} (h:iG L g w v r) (b:w.grownBy w' g) (c:a=g\/∃ k,a=some k/\w.heap.size<=k):iG L a w' v r:=λm n o=>h m (λk d i l=>by
 have f:some k≠a:=by
  rcases c with e | ⟨j,e,q⟩
  ·rw[e];exact i
  ·rw[e]
   intro p
   have:=Option.some.inj p
   omega
 exact (n k d f (Nat.lt_of_lt_of_le l b.size)).trans (b.block k l i)) (Nat.le_trans b.size o)
def BX (L:Nat) (g:Option Nat) (w:World) (xs:List Value) (a:List al):Prop:=
 xs.length=a.length*5/\(∀ u∈xs,u.oneCell'=true)/\∀ i r,a[i]?=some r->∃ b,xs[i*5]?=some (.int .i64 r.1)/\xs[i*5+1]?=some (.int .i64 r.2.1)/\xs[i*5+2]?=some (.int .i64 r.2.2.1)/\xs[i*5+3]?=some b/\xs[i*5+4]?=some (.int .i64 r.2.2.2.2)/\iG L g w (.agg #[.int .i64 r.1,.int .i64 r.2.1,.int .i64 r.2.2.1,b,.int .i64 r.2.2.2.2]) r
theorem BX.grown {L:Nat} {g a:Option Nat} {w w':World} {xs:List Value} {c:List al} (h:BX L g w xs c) (d:w.grownBy w' g) (b:a=g\/∃ k,a=some k/\w.heap.size<=k):BX L a w' xs c:=by
 obtain⟨e,f,j⟩:=h
 refine⟨e,f,λi r l=>?_⟩
 obtain⟨m,n,o,p,q,s,t⟩:=j i r l
 exact⟨m,n,o,p,q,s,t.grown d b⟩
theorem BX.later {L:Nat} {g:Option Nat} {w w':World} {xs:List Value} {a:List al} (h:BX L g w xs a) (b:Below w.heap.size w w'):BX L g w' xs a:=h.grown (eJ b g) (.inl rfl)
theorem yo {L j:Nat} {w:World} {v:Value} {xs:List Value} {b:List al} (h:w.ownsRow L 78 5 v b.length xs) (k:BX j v.ownBlock w xs b):bX w.heap.size w v b:=by
 obtain⟨a,e,rfl,l,m,n⟩:=ax h
 refine⟨a,e,rfl,l,m,λi r d=>?_⟩
 have y:i<b.length:=(List.getElem?_eq_some_iff.1 d).1
 obtain⟨g,rfl,o,f⟩:=n (by omega)
 obtain⟨p,q,s,t,u,x,d⟩:=k.2.2 i r d
 have c:=aL h
 refine⟨g,0,rfl,f,p,?_,?_,?_,?_,?_,d w (λ_ _ _ _=>rfl) (Nat.le_refl _)⟩
 ·rw[Nat.zero_add];exact c _ _ q
 ·rw[Nat.zero_add];exact c _ _ s
 ·rw[Nat.zero_add];exact c _ _ t
 ·rw[Nat.zero_add];exact c _ _ u
 ·rw[Nat.zero_add];exact c _ _ x
def C2 (L:Nat) (w:World) (v:Value) (d:List al):Prop:=
 ∃ a c,v=.slice a d.length c/\d.length<=c/\c<=maxLen/\∀ i r,d[i]?=some r->∃ b o e,a=some ⟨b,o,none⟩/\L<=b/\w.cell? ⟨b,o+i*5,none⟩=some (.int .i64 r.1)/\w.cell? ⟨b,o+i*5+1,none⟩=some (.int .i64 r.2.1)/\w.cell? ⟨b,o+i*5+2,none⟩=some (.int .i64 r.2.2.1)/\w.cell? ⟨b,o+i*5+3,none⟩=some e/\w.cell? ⟨b,o+i*5+4,none⟩=some (.int .i64 r.2.2.2.2)/\gE L w (.agg #[.int .i64 r.1,.int .i64 r.2.1,.int .i64 r.2.2.1,e,.int .i64 r.2.2.2.2]) r
theorem C2.keep {L:Nat} {w d:World} {v:Value} {j:List al} (h:C2 L w v j) (k:∀ g,L<=g->g<w.heap.size->d.heap[g]?=w.heap[g]?) (l:w.heap.size<=d.heap.size):C2 L d v j:=by
 obtain⟨a,f,t,x,y,z⟩:=h
 refine⟨a,f,t,x,y,λi r A=>?_⟩
 obtain⟨b,o,B,e,m,C,D,E,F,G,H⟩:=z i r A
 have c:∀ q u,w.cell? ⟨b,q,none⟩=some u->d.cell? ⟨b,q,none⟩=some u:=λq u n=>by
  have e:=k b m (World.block_lt_of_cell? _ _ n)
  rw[<-n]
  simp only[World.cell?,e]
 exact⟨b,o,B,e,m,c _ _ C,c _ _ D,c _ _ E,c _ _ F,c _ _ G,λI J K=>H I (λg p s=>(J g p (Nat.lt_of_lt_of_le s l)).trans (k g p s)) (Nat.le_trans l K)⟩
theorem C2.later {L:Nat} {w w':World} {v:Value} {a:List al} (h:C2 L w v a) (b:Below w.heap.size w w'):C2 L w' v a:=h.keep (λg _ c=>b.block g c) b.size
theorem C2.mono {L d:Nat} {w:World} {v:Value} {f:List al} (h:C2 L w v f) (j:d<=L):C2 d w v f:=by
 obtain⟨a,c,k,l,m,n⟩:=h
 refine⟨a,c,k,l,m,λi r p=>?_⟩
 obtain⟨b,o,q,e,s,t,u,x,y,z,A⟩:=n i r p
 exact⟨b,o,q,e,Nat.le_trans j s,t,u,x,y,z,λB C D=>A B (λg E F=>C g (Nat.le_trans j E) F) D⟩
theorem BX.snoc {L:Nat} {g:Option Nat} {w:World} {xs:List Value} {j:List al} {rv:Value} {r:al} (h:BX L g w xs j) (m:iG L g w (.agg #[.int .i64 r.1,.int .i64 r.2.1,.int .i64 r.2.2.1,rv,.int .i64 r.2.2.2.2]) r)  :BX L g w (xs++[.int .i64 r.1,.int .i64 r.2.1,.int .i64 r.2.2.1,rv,.int .i64 r.2.2.2.2]) (j++[r]):=by
 obtain⟨d,n,o⟩:=h
 refine⟨by simp[d];omega,λu f=>?_,λi p b=>?_⟩
 ·rcases List.mem_append.1 f with f | f
  ·exact n u f
  ·obtain⟨a,c,e,_⟩:=(m w (λ_ _ _ _=>rfl) (Nat.le_refl _)).shape
   simp at e
   simp at f
   rcases f with rfl | rfl | rfl | rfl | rfl
   ·rfl
   ·rfl
   ·rfl
   ·rw[e];rfl
   ·rfl
 ·by_cases q:i<j.length
  ·rw[List.getElem?_append_left q] at b
   obtain⟨k,s,t,v,x,y,z⟩:=o i p b
   exact⟨k,by rw[List.getElem?_append_left (by omega)];exact s,by rw[List.getElem?_append_left (by omega)];exact t,by rw[List.getElem?_append_left (by omega)];exact v,by rw[List.getElem?_append_left (by omega)];exact x,by rw[List.getElem?_append_left (by omega)];exact y,z⟩
  ·have l:i=j.length:=by
    have:=(List.getElem?_eq_some_iff.1 b).1
    simp at this
    omega
   subst l
   simp at b
   subst b
   exact⟨rv,by rw[List.getElem?_append_right (by omega)];simp[d],by rw[List.getElem?_append_right (by omega)];simp[d],by rw[List.getElem?_append_right (by omega)];simp[d],by rw[List.getElem?_append_right (by omega)];simp[d],by rw[List.getElem?_append_right (by omega)];simp[d],m⟩
end Go.Proofs.YtnpdhopjpjickaaGreatDoor
end
section
set_option linter.all false
set_option maxRecDepth 100000
namespace Go.Proofs.YtnpdhopjpjickaaGreatDoor
open Go.RowKit Go.Maps
theorem tR (aF:Nat):jS aF []=([],0,0):=by unfold jS;rfl
theorem uQ {L:Nat} {w w':World} {v:Value} {r:al} (h:gE L w v r) (a:Below w.heap.size w w'):gE L w' v r:=λc d e=>h c (λg f b=>(d g f (Nat.lt_of_lt_of_le b a.size)).trans (a.block g b)) (Nat.le_trans a.size e)
theorem zW:∃ i,Tryz.prog.info? 78=some i/\i.zero=some (.agg #[.int .i64 0,.int .i64 0,.int .i64 0,.slice none 0 0,.int .i64 0])/\i.size=5/\i.bytes=56:=fD (by kernel_rfl)
end Go.Proofs.YtnpdhopjpjickaaGreatDoor
end
section
set_option linter.all false
set_option maxRecDepth 100000
namespace Go.Proofs.YtnpdhopjpjickaaGreatDoor
open Go.RowKit Go.Maps
def aJ (B:Nat) (w:World) (v:Value) (bs:Bs):Prop:=
 ∃ a c,v=.slice a bs.length c/\bs.length<=c/\c<=maxLen/\∀ (i:Nat) b,bs[i]?=some b->∃ g o,a=some ⟨g,o,none⟩/\g<B/\w.cell? ⟨g,o+i,none⟩=some (.int .u8 (b.toNat:Int))
theorem aJ.later {B c:Nat} {w w':World} {v:Value} {bs:Bs} (h:aJ B w v bs) (f:Below c w w') (s:B<=c):aJ B w' v bs:=by
 obtain⟨a,d,j,l,m,n⟩:=h
 refine⟨a,d,j,l,m,λi b q=>?_⟩
 obtain⟨g,o,e,r,k⟩:=n i b q
 exact⟨g,o,e,r,(f.cell (p:=⟨g,o+i,none⟩) (by show g<c;omega)).trans k⟩
theorem aJ.wide {B d:Nat} {w:World} {v:Value} {bs:Bs} (h:aJ B w v bs) (p:B<=d):aJ d w v bs:=by
 obtain⟨a,c,f,j,l,m⟩:=h
 refine⟨a,c,f,j,l,λi b n=>?_⟩
 obtain⟨g,o,e,q,k⟩:=m i b n
 exact⟨g,o,e,by omega,k⟩
theorem aJ.take {B:Nat} {w:World} {a:Option Addr} {n c:Nat} {bs:Bs} (h:aJ B w (.slice a n c) bs) (m:Nat) (d:m<=bs.length):aJ B w (.slice a m c) (bs.take m):=by
 obtain⟨j,k,e,l,f,g⟩:=h
 simp at e
 obtain⟨rfl,rfl,rfl⟩:=e
 refine⟨a,c,by rw[List.length_take,Nat.min_eq_left d],by rw[List.length_take];omega,f,λi r b=>?_⟩
 rw[List.getElem?_take] at b
 split at b
 ·exact g i r b
 ·cases b
abbrev bA:=Bs × Bs
def ei (B:Nat) (w:World) (v:Value) (d:bA):Prop:=∃ a b,v=.agg #[a,b]/\aJ B w a d.1/\aJ B w b d.2
theorem ei.later {B a:Nat} {w w':World} {v:Value} {d:bA} (h:ei B w v d) (b:Below a w w') (c:B<=a):ei B w' v d:=by
 obtain⟨e,f,g,i,j⟩:=h
 exact⟨e,f,g,i.later b c,j.later b c⟩
theorem kK {B:Nat} {w:World} {v:Value} {bs:Bs} (h:aJ B w v bs):(convert 23 9 v).run Tryz.prog w=.ok (.string ⟨bs.toArray⟩) w:=by
 obtain⟨a,c,rfl,n,p,f⟩:=h
 cases a with
 | none=>
  have d:bs=[]:=by
   cases bs with
   | nil=>rfl
   | cons r l=>obtain⟨b,o,e,_⟩:=f 0 r rfl;cases e
  subst d
  exact run_convert_bytes_nil (w:=w) 23 5 Tryz.underlying23 Tryz.underlying5 0 c 9 Tryz.underlying9
 | some i=>
  by_cases d:bs=[]
  ·subst d
   exact run_convert_bytes_back w 23 9 5 i c [] Tryz.underlying23 Tryz.underlying5 Tryz.underlying9 (λj m=>by simp at m)
  ·obtain⟨g,o,e⟩:∃ g o,i=⟨g,o,none⟩:=by
    cases bs with
    | nil=>exact absurd rfl d
    | cons r l=>
     obtain⟨b,o,e,_⟩:=f 0 r rfl
     exact⟨b,o,Option.some.inj e⟩
   subst e
   refine run_convert_bytes_back w 23 9 5 _ c bs Tryz.underlying23 Tryz.underlying5 Tryz.underlying9 (λj m=>?_)
   obtain⟨q,s,e,_,k⟩:=f j bs[j] (by simp)
   simp at e
   obtain⟨rfl,rfl⟩:=e
   rw[dL]
   exact k
def az (d:bA):Int:=if 60000<d.1.length\/60000<d.1.length+d.2.length then 2 else (aI 40 d.1).2.2
end Go.Proofs.YtnpdhopjpjickaaGreatDoor
end
section
set_option linter.all false
set_option maxRecDepth 100000
namespace Go.Proofs.YtnpdhopjpjickaaGreatDoor
open Go.RowKit Go.Maps
end Go.Proofs.YtnpdhopjpjickaaGreatDoor
end
section
set_option linter.all false
set_option maxRecDepth 100000
namespace Go.Proofs.YtnpdhopjpjickaaGreatDoor
open Go.RowKit Go.Maps
def dR (l:Bs):List Value:=l.map λb=>.int .u8 (b.toNat:Int)
theorem sO (l m:Bs):dR (l++m)=dR l++dR m:=by unfold dR;exact List.map_append
theorem lZ (l:Bs):(dR l).length=l.length*1:=by unfold dR;simp
theorem vZ (l:Bs):∀ u∈dR l,u.oneCell'=true:=by
 intro u a
 obtain⟨x,_,rfl⟩:=List.mem_map.1 a
 rfl
theorem ux {w:World} {b:Nat} (l:Bs) (o:Nat) (h:∀ (i:Nat) c,l[i]?=some c->w.cell? ⟨b,o+i,none⟩=some (.int .u8 (c.toNat:Int))):∀ j u,(dR l)[j]?=some u->w.cell? ⟨b,o+j,none⟩=some u:=by
 intro j u a
 unfold dR at a
 rw[List.getElem?_map] at a
 cases hc:l[j]? with
 | none=>rw[hc] at a;cases a
 | some c=>
  rw[hc] at a
  cases a
  exact h j c hc
theorem aJ.full {B:Nat} {w:World} {v:Value} {l:Bs} (h:aJ B w v l):∃ a b,v=.slice a l.length b/\l.length<=b/\b<=maxLen:=by
 obtain⟨a,b,c,d,e,_⟩:=h
 exact⟨a,b,c,d,e⟩
end Go.Proofs.YtnpdhopjpjickaaGreatDoor
end
section
set_option linter.all false
set_option maxRecDepth 100000
namespace Go.Proofs.YtnpdhopjpjickaaGreatDoor
open Go.RowKit Go.Maps
def E9 (B:Nat) (w:World) (xs:List Value) (a:List al):Prop:=
 xs.length=a.length*5/\(∀ u∈xs,u.oneCell'=true)/\∀ i r,a[i]?=some r->∃ b,xs[i*5]?=some (.int .i64 r.1)/\xs[i*5+1]?=some (.int .i64 r.2.1)/\xs[i*5+2]?=some (.int .i64 r.2.2.1)/\xs[i*5+3]?=some b/\xs[i*5+4]?=some (.int .i64 r.2.2.2.2)/\cV B w (.agg #[.int .i64 r.1,.int .i64 r.2.1,.int .i64 r.2.2.1,b,.int .i64 r.2.2.2.2]) r
theorem E9.later {B a:Nat} {w w':World} {xs:List Value} {b:List al} (h:E9 B w xs b) (c:Below a w w') (d:B<=a):E9 B w' xs b:=by
 obtain⟨e,f,g⟩:=h
 refine⟨e,f,λi r j=>?_⟩
 obtain⟨k,l,m,n,o,p,q⟩:=g i r j
 exact⟨k,l,m,n,o,p,q.later c d⟩
theorem E9.append {B:Nat} {w:World} {xs ys:List Value} {a ss:List al} (h:E9 B w xs a) (k:E9 B w ys ss):E9 B w (xs++ys) (a++ss):=by
 obtain⟨m,n,o⟩:=h
 obtain⟨p,q,s⟩:=k
 refine⟨by simp[m,p];omega,λu t=>?_,λi r b=>?_⟩
 ·rcases List.mem_append.1 t with h | h
  ·exact n u h
  ·exact q u h
 ·by_cases v:i<a.length
  ·rw[List.getElem?_append_left v] at b
   obtain⟨c,d,e,f,g,j,l⟩:=o i r b
   exact⟨c,by rw[List.getElem?_append_left (by omega)];exact d,by rw[List.getElem?_append_left (by omega)];exact e,by rw[List.getElem?_append_left (by omega)];exact f,by rw[List.getElem?_append_left (by omega)];exact g,by rw[List.getElem?_append_left (by omega)];exact j,l⟩
  ·rw[List.getElem?_append_right (by omega)] at b
   obtain⟨c,d,e,f,g,j,l⟩:=s _ r b
   refine⟨c,?_,?_,?_,?_,?_,l⟩
   ·rw[List.getElem?_append_right (by omega),show i*5-xs.length=(i-a.length)*5 by omega];exact d
   ·rw[List.getElem?_append_right (by omega),show i*5+1-xs.length=(i-a.length)*5+1 by omega];exact e
   ·rw[List.getElem?_append_right (by omega),show i*5+2-xs.length=(i-a.length)*5+2 by omega];exact f
   ·rw[List.getElem?_append_right (by omega),show i*5+3-xs.length=(i-a.length)*5+3 by omega];exact g
   ·rw[List.getElem?_append_right (by omega),show i*5+4-xs.length=(i-a.length)*5+4 by omega];exact j
def EN (P:Value->al->Prop) (xs:List Value) (b:List al):Prop:=∀ i r,b[i]?=some r->∃ a,xs[i*5+3]?=some a/\P (.agg #[.int .i64 r.1,.int .i64 r.2.1,.int .i64 r.2.2.1,a,.int .i64 r.2.2.2.2]) r
theorem EN.append {P:Value->al->Prop} {xs ys:List Value} {a ss:List al} (h:EN P xs a) (k:EN P ys ss) (f:xs.length=a.length*5):EN P (xs++ys) (a++ss):=by
 intro i r b
 by_cases d:i<a.length
 ·rw[List.getElem?_append_left d] at b
  obtain⟨c,e,p⟩:=h i r b
  exact⟨c,by rw[List.getElem?_append_left (by omega)];exact e,p⟩
 ·rw[List.getElem?_append_right (by omega)] at b
  obtain⟨c,e,p⟩:=k _ r b
  exact⟨c,by rw[List.getElem?_append_right (by omega),show i*5+3-xs.length=(i-a.length)*5+3 by omega];exact e,p⟩
def zR (B:Nat) (w:World) (v:Value) (d:List al):Prop:=
 ∃ a c,v=.slice a d.length c/\d.length<=c/\c<=maxLen/\∀ i r,d[i]?=some r->∃ b o,a=some ⟨b,o,none⟩/\ud B w b (o+i*5) r
theorem bX.conds {B:Nat} {w:World} {v:Value} {d:List al} (h:bX B w v d):zR B w v d:=by
 obtain⟨a,c,f,g,j,l⟩:=h
 refine⟨a,c,f,g,j,λi r m=>?_⟩
 obtain⟨b,o,e,_,k⟩:=l i r m
 exact⟨b,o,e,k⟩
theorem zR.later {B:Nat} {w w':World} {v:Value} {g:List al} (h:zR B w v g) (c:Below w.heap.size w w') (k:B<=w.heap.size):zR B w' v g:=by
 obtain⟨a,f,l,m,n,q⟩:=h
 refine⟨a,f,l,m,n,λi r s=>?_⟩
 obtain⟨b,o,e,t,j,u,x,y,z,A⟩:=q i r s
 have d:=World.block_lt_of_cell? _ _ j
 exact⟨b,o,e,t,(c.cell (p:=⟨b,o+i*5,none⟩) d).trans j,(c.cell (p:=⟨b,o+i*5+1,none⟩) d).trans u,(c.cell (p:=⟨b,o+i*5+2,none⟩) d).trans x,(c.cell (p:=⟨b,o+i*5+3,none⟩) d).trans y,(c.cell (p:=⟨b,o+i*5+4,none⟩) d).trans z,A.later c k⟩
end Go.Proofs.YtnpdhopjpjickaaGreatDoor
end
