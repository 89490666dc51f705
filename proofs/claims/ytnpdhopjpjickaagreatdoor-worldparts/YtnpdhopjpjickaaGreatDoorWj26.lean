/- Joined: Nte4 Chn3 ChnR KxA OrD1. -/
import Derived.Test.YtnpdhopjpjickaaGreatDoorWj13
import Derived.Test.YtnpdhopjpjickaaGreatDoorWj11
import Derived.Test.YtnpdhopjpjickaaGreatDoorWj24
import Derived.Test.YtnpdhopjpjickaaGreatDoorWj17
import Derived.Test.YtnpdhopjpjickaaGreatDoorWj25
import Derived.Test.YtnpdhopjpjickaaGreatDoorWj07
import Derived.Test.YtnpdhopjpjickaaGreatDoorWj08
import Derived.Test.YtnpdhopjpjickaaGreatDoorWj01
import Derived.Test.YtnpdhopjpjickaaGreatDoorWj06
section
set_option linter.all false
set_option maxRecDepth 100000
namespace Go.Proofs.YtnpdhopjpjickaaGreatDoor
open Go.RowKit Go.Maps
theorem no (k:Nat) (s:Bs):Lib.splitK [32] 0 (k+1) s=match gQ s with | none=>[s] | some (a,t)=>a :: Lib.splitK [32] 0 k t:=by
 cases h:gQ s with
 | none=>
  have:=sT 32 s (zH h)
  unfold Lib.splitK
  rw[this]
  rfl
 | some x=>
  obtain⟨a,t⟩:=x
  obtain⟨rfl,b⟩:=kB h
  have:=tX 32 t a b
  conv=>lhs;unfold Lib.splitK
  rw[this,if_neg (by simp)]
  simp
theorem uX (s:Bs):Lib.splitK [32] 0 2 s=ar s:=by
 rw[no]
 unfold ar
 cases h:gQ s with
 | none=>rfl
 | some x=>
  obtain⟨a,t⟩:=x
  simp only
  rw[no]
  cases h2:gQ t with
  | none=>rfl
  | some y=>obtain⟨b,u⟩:=y;rfl
theorem vQ (s:Bs):Lib.splitK [32] 0 (min 3 (s.length+1)-1) s=ar s:=by
 match s with
 | []=>rfl
 | [b]=>
  show Lib.splitK [32] 0 1 [b]=_
  rw[no]
  unfold ar
  by_cases a:b=32
  ·subst a
   rfl
  ·have:gQ [b]=none:=o9 [b] (by simp;exact λe=>a e.symm)
   rw[this]
 | b :: c :: s=>
  rw[show min 3 ((b :: c :: s).length+1)-1=2 by simp]
  exact uX _
theorem iX (t:ByteArray) (ht:t.size<=60000):∃ ws:List ByteArray,ws.map (λp:ByteArray=>p.data.toList)=ar t.data.toList/\1<=ws.length/\ws.length<=3/\(∀ u∈ws,u.size<=60000)/\
  ∀ mm w,w.cell? ⟨1,0,none⟩=some (.int .i64 mm)->Calls Tryz.prog 117 #[.string t,.string ⟨#[32]⟩,.int .i64 3] w λe w'=>∃ SB cap,e=.returned (.slice (some ⟨SB,0,none⟩) ws.length cap)/\ws.length<=cap/\cap<=3/\Below w.heap.size w w'/\w.heap.size<=SB/\SB<w'.heap.size/\∀ j u,ws[j]?=some u->w'.cell? ⟨SB,j,none⟩=some (.string u):=by
 obtain⟨ws,hws⟩:∃ ws,ws=Lib.splitB ⟨#[32]⟩ 0 (min 3 (t.size+1)-1) t:=⟨_,rfl⟩
 have hmap:ws.map (λp:ByteArray=>p.data.toList)=ar t.data.toList:=by
  rw[hws,Lib.splitB_data]
  have:=vQ t.data.toList
  rw[<-Lib.size_eq] at this
  exact this
 have hlen:ws.length=(ar t.data.toList).length:=by rw[<-hmap];simp
 have h3:1<=ws.length/\ws.length<=3/\∀ p∈ar t.data.toList,p.length<=t.size:=by
  rw[hlen,Lib.size_eq]
  rcases jr (s:=t.data.toList) with ⟨a,e,es⟩ | ⟨a,b,e,es⟩ | ⟨a,b,c,e,es⟩
  ·rw[e,es];simp
  ·rw[e]
   refine⟨by simp,by simp,λp hp=>?_⟩
   rw[es]
   simp at hp |-
   rcases hp with rfl | rfl<;>omega
  ·rw[e]
   refine⟨by simp,by simp,λp hp=>?_⟩
   rw[es]
   simp at hp |-
   rcases hp with rfl | rfl | rfl<;>omega
 refine⟨ws,hmap,h3.1,h3.2.1,λu hu=>?_,λmm w hm=>?_⟩
 ·have:u.data.toList∈ar t.data.toList:=by rw[<-hmap];exact List.mem_map_of_mem hu
  have:=h3.2.2 _ this
  rw[Lib.size_eq]
  omega
 ·refine (Tryz.strings_SplitN t ⟨#[32]⟩ 3 mm w (by omega) hm (by decide) (by decide) (by decide)).mono λe w' ⟨h1,h2⟩=>?_
  subst h1 h2
  have hle:ws.length<=min 3 (t.size+1):=by
   rw[hws]
   have:=Lib.splitB_length_le ⟨#[32]⟩ 0 (min 3 (t.size+1)-1) t
   omega
  refine⟨w.heap.size,min 3 (t.size+1),by rw[hws],hle,by omega,(Below.refl _ _).alloc (Nat.le_refl _) _,Nat.le_refl _,by simp,λj u hu=>?_⟩
  refine ab (af w _) j ?_
  rw[<-hws]
  unfold Lib.cellsOf
  rw[List.getElem?_toArray,List.getElem?_append_left (by simp;exact (List.getElem?_eq_some_iff.1 hu).1),List.getElem?_map,hu]
  rfl
end Go.Proofs.YtnpdhopjpjickaaGreatDoor
end
section
set_option linter.all false
set_option maxRecDepth 100000
namespace Go.Proofs.YtnpdhopjpjickaaGreatDoor
open Go.RowKit Go.Maps
theorem Au (x:Nat->Int) (a:gf) (k:Nat) (f:List bS) (h:a[k]?=some f):fg x 4 (a.take (k+1))=if (df x 0 0 f).1<fg x 4 (a.take k) then (df x 0 0 f).1 else fg x 4 (a.take k):=by
 rw[List.take_succ,h]
 exact AA x 4 _ f
theorem vz {α:Type} [DecidableEq α] (l m:List α) (k:Nat) (a b:α) (c:l[k]?=some a) (d:m[k]?=some b) (h:l.take k=m.take k):l.take (k+1)=m.take (k+1) ↔ a=b:=by
 rw[List.take_succ,List.take_succ,c,d,h]
 simp
end Go.Proofs.YtnpdhopjpjickaaGreatDoor
end
section
set_option linter.all false
set_option maxRecDepth 100000
namespace Go.Proofs.YtnpdhopjpjickaaGreatDoor
open Go.RowKit Go.Maps
theorem zI:∃ i,Tryz.prog.info? 85=some i/\i.zero=some (.slice none 0 0)/\i.size=1/\i.bytes=24:=fD (by kernel_rfl)
def gP (B:Nat) (w:World) (xs:List Value) (a:gf):Prop:=xs.length=a.length/\∀ (i:Nat) x f,xs[i]?=some x->a[i]?=some f->d7 B w x f
theorem gP.later {B a:Nat} {w w':World} {xs:List Value} {b:gf} (h:gP B w xs b) (c:Below a w w') (d:B<=a):gP B w' xs b:=⟨h.1,λi x f e g=>(h.2 i x f e g).later c d⟩
theorem gP.mono {B a:Nat} {w:World} {xs:List Value} {b:gf} (h:gP B w xs b) (c:B<=a):gP a w xs b:=⟨h.1,λi x f d e=>(h.2 i x f d e).mono c⟩
theorem gP.nil (B:Nat) (w:World):gP B w [] []:=⟨rfl,λi x f a=>by simp at a⟩
theorem gP.append {B:Nat} {w:World} {xs ys:List Value} {c d:gf} (h:gP B w xs c) (e:gP B w ys d):gP B w (xs++ys) (c++d):=by
 refine⟨by simp[h.1,e.1],λi x f a b=>?_⟩
 by_cases g:i<xs.length
 ·rw[List.getElem?_append_left g] at a
  rw[List.getElem?_append_left (by rw[<-h.1];exact g)] at b
  exact h.2 i x f a b
 ·rw[List.getElem?_append_right (by omega)] at a
  rw[List.getElem?_append_right (by rw[<-h.1];omega),<-h.1] at b
  exact e.2 _ x f a b
theorem gP.one {B:Nat} {w:World} {x:Value} {f:List bS} (h:d7 B w x f):gP B w [x] [f]:=by
 refine⟨rfl,λi y g a b=>?_⟩
 match i,a,b with
 | 0,a,b=>
  simp at a b
  subst a b
  exact h
 | i+1,a,_=>simp at a
theorem gP.slices {B:Nat} {w:World} {xs:List Value} {b:gf} (h:gP B w xs b):∀ u∈xs,u.oneCell'=true:=by
 intro u e
 obtain⟨i,d⟩:=List.getElem?_of_mem e
 have f:i<b.length:=by rw[<-h.1];exact (List.getElem?_eq_some_iff.1 d).1
 obtain⟨a,c,rfl,-⟩:=(h.2 i u b[i] d (by simp)).shape
 rfl
theorem AW {L:Nat} {w:World} {v:Value} {xs:List Value} {c:gf} (h:w.ownsRow L 85 1 v c.length xs) (j:gP w.heap.size w xs c):cH w.heap.size w v c:=by
 obtain⟨a,d,rfl,l,m,n⟩:=ax h
 refine⟨a,d,rfl,l,m,λi f k=>?_⟩
 have o:i<c.length:=(List.getElem?_eq_some_iff.1 k).1
 obtain⟨g,rfl,p,e⟩:=n (by omega)
 have b:xs[i]?=some (xs[i]'(by rw[j.1];exact o)):=by simp
 exact⟨g,0,_,rfl,e,by rw[Nat.zero_add];exact aL h i _ b,j.2 i _ f b k⟩
def DM (B L:Nat) (w:World) (v:Value) (b:gf):Prop:=∀ a:World,Below B w a->(∀ g,L<=g->g<w.heap.size->a.heap[g]?=w.heap[g]?)->cH a.heap.size a v b
theorem DM.at {B L:Nat} {w:World} {v:Value} {a:gf} (h:DM B L w v a):cH w.heap.size w v a:=h w (Below.refl _ _) (λ_ _ _=>rfl)
end Go.Proofs.YtnpdhopjpjickaaGreatDoor
end
section
set_option linter.all false
set_option maxRecDepth 100000
namespace Go.Proofs.YtnpdhopjpjickaaGreatDoor
open Go.RowKit Go.Maps
def Kx (G:Nat->Prop) (w a:World):Prop:=Below 0 w a/\∀ k,¬G k->k<w.heap.size->a.heap[k]?=w.heap[k]?
theorem Kx.refl (G:Nat->Prop) (w:World):Kx G w w:=⟨Below.refl _ _,λ_ _ _=>rfl⟩
theorem Kx.size {G:Nat->Prop} {w a:World} (h:Kx G w a):w.heap.size<=a.heap.size:=h.1.size
theorem Kx.back {G c:Nat->Prop} {w w' d:World} (h:Kx c w' d) (a:Below w.heap.size w w') (f:∀ k,k<w.heap.size->c k->G k):Kx G w d:=
 ⟨(a.mono (Nat.zero_le _)).trans h.1,λk g b=>(h.2 k (λe=>g (f k b e)) (Nat.lt_of_lt_of_le b a.size)).trans (a.block k b)⟩
theorem Kx.below {G:Nat->Prop} {w a:World} {B:Nat} (h:Kx G w a) (b:∀ k,k<B->¬G k) (j:B<=w.heap.size):Below B w a:=by
 obtain⟨⟨c,d,e,f,-⟩,g⟩:=h
 exact⟨c,d,e,f,λk i=>g k (b k i) (by omega)⟩
theorem Kx.cell {G:Nat->Prop} {b o:Nat} {w a:World} {u:Value} (h:Kx G w a) (d:¬G b) (c:w.cell? ⟨b,o,none⟩=some u):a.cell? ⟨b,o,none⟩=some u:=by
 have f:b<w.heap.size:=World.block_lt_of_cell? _ _ c
 have e:=h.2 b d f
 rw[<-c]
 simp only[World.cell?,e]
def Ek (g:Nat) (w:World):Prop:=∃ a T b,w.heap[g]?=some (.cells a T b)/\∀ (j:Nat) u,a[j]?=some u->∃ n,u=.int .i64 n
theorem Ek.later {g:Nat} {w w':World} (h:Ek g w) (c:Below w.heap.size w w'):Ek g w':=by
 obtain⟨a,T,d,b,e⟩:=h
 exact⟨a,T,d,(c.block g (Array.getElem?_eq_some_iff.1 b).1).trans b,e⟩
theorem Ek.cell {g o:Nat} {w:World} {u:Value} (h:Ek g w) (a:w.cell? ⟨g,o,none⟩=some u):∃ n,u=.int .i64 n:=by
 obtain⟨b,T,e,c,d⟩:=h
 refine d o u ?_
 simpa [World.cell?,c] using a
def At (G:Nat->Prop) (B:Nat) (w:World):Prop:=∀ k,G k->Ek k w\/B<=k
theorem At.later {G:Nat->Prop} {B:Nat} {w w':World} (h:At G B w) (a:Below w.heap.size w w'):At G B w':=λk b=>(h k b).imp (λe=>e.later a) id
theorem At.slice {G:Nat->Prop} {B b o:Nat} {w:World} {a:Option Addr} {n c:Nat} (h:At G B w) (g:b<B) (d:w.cell? ⟨b,o,none⟩=some (.slice a n c)):¬G b:=λf=>by
 rcases h b f with h | h
 ·obtain⟨m,e⟩:=h.cell d
  cases e
 ·omega
theorem At.bool {G:Nat->Prop} {B b o:Nat} {w:World} {x:Bool} (h:At G B w) (d:b<B) (a:w.cell? ⟨b,o,none⟩=some (.bool x)):¬G b:=λc=>by
 rcases h b c with h | h
 ·obtain⟨m,e⟩:=h.cell a
  cases e
 ·omega
def F4 (G:Nat->Prop) (w:World) (v:Value) (f:List bS):Prop:=∀ a,Kx G w a->d7 a.heap.size a v f
def Em (G:Nat->Prop) (w:World) (v:Value) (b:gf):Prop:=∀ a,Kx G w a->cH a.heap.size a v b
def EK (G:Nat->Prop) (w:World) (v:Value) (p:ap):Prop:=∀ a,Kx G w a->bG a.heap.size a v p
theorem Em.later {G a:Nat->Prop} {w w':World} {v:Value} {b:gf} (h:Em G w v b) (c:Below w.heap.size w w') (d:∀ k,k<w.heap.size->a k->G k):Em a w' v b:=λe f=>h e (f.back c d)
theorem EK.later {G a:Nat->Prop} {w w':World} {v:Value} {p:ap} (h:EK G w v p) (b:Below w.heap.size w w') (c:∀ k,k<w.heap.size->a k->G k):EK a w' v p:=λd e=>h d (e.back b c)
theorem Em.vals {G:Nat->Prop} {B:Nat} {w:World} {a:Option Addr} {n d:Nat} {g:gf} (h:Em G w (.slice a n d) g) (A:cH B w (.slice a n d) g) (C:At G B w) {b o j:Nat} {u:Value} {f:List bS} (s:a=some ⟨b,o,none⟩) (t:w.cell? ⟨b,o+j,none⟩=some u) (v:g[j]?=some f):F4 G w u f:=by
 intro D x
 obtain⟨J,K,y,-,-,E⟩:=A
 obtain⟨L,M,F,i,k,c,l⟩:=E j f v
 simp at y
 obtain⟨rfl,-⟩:=y
 rw[s] at i
 simp at i
 obtain⟨rfl,rfl⟩:=i
 obtain⟨N,O,m,-,-⟩:=l.shape
 rw[m] at c
 have p:=C.slice k c
 rw[t] at c
 cases c
 obtain⟨P,Q,z,-,-,H⟩:=h D x
 obtain⟨R,S,I,q,-,e,r⟩:=H j f v
 simp at z
 obtain⟨rfl,-⟩:=z
 rw[s] at q
 simp at q
 obtain⟨rfl,rfl⟩:=q
 rw[x.cell p t] at e
 cases e
 exact r
end Go.Proofs.YtnpdhopjpjickaaGreatDoor
end
section
set_option linter.all false
set_option maxRecDepth 100000
namespace Go.Proofs.YtnpdhopjpjickaaGreatDoor
open Go.RowKit Go.Maps
set_option maxHeartbeats 2000000 in
theorem ut (B:Nat) (c:Value) (p:ap) (x:Nat->Int) (w:World) (l:bG B w c p) (m:B<=w.heap.size):
  Calls Tryz.prog 242 #[c,fK x] w λe b=>e=.returned (.int .i64 (vP p x))/\Below w.heap.size w b:=by
 have f:Hid (∀ b,Below w.heap.size w b->Calls Tryz.prog 262 #[c,fK x] b λe g=>e=.returned (.tuple #[.int .i64 (vP p x),.int .i64 (cm p x).2.1,.int .i64 (cm p x).2.2])/\Below b.heap.size b g):=λb h=>ur B c p x b (l.later h m) (Nat.le_trans m h.size)
 generalize vP p x=r at*
 generalize (cm p x).2.1=s at*
 generalize (cm p x).2.2=t at*
 obtain⟨o,d⟩:=p
 obtain⟨u,rfl,-,a,i,rfl,-,-,-⟩:=l
 simp only at f
 show Calls Tryz.prog 242 #[.agg #[.slice a o.length i,.int .i64 d],.agg #[.int .i64 (x 0),.int .i64 (x 1),.int .i64 (x 2),.int .i64 (x 3),.int .i64 (x 4)]] w _
 have j:=hid f
 clear f
 generalize o.length=n at*
 have q:∀ X Y,Below w.heap.size w ((w.alloc X).alloc Y):=λX Y=>((Below.refl _ _).alloc (Nat.le_refl _) _).alloc (by simp) _
 go_enter Tryz.func242,Tryz.ntmps242
 go_wp2_with (first | (go_at_call 262;go_must (refine Calls.mono (j.out _ (q _ _)) ?_;rintro e v ⟨rfl,k⟩)))
 go_ret
 exact⟨rfl,Below.thenOf (q _ _) k (by simp;omega)⟩
set_option maxHeartbeats 400000 in
theorem uJ (B v x:Nat) (a b:Option Addr) (n t F g:Nat) (d f:Int) (p q:ap) (l m o r s:Int) (w:World) (N:bG B w (.agg #[.slice a n t,.int .i64 d]) p) (O:bG B w (.agg #[.slice b F g,.int .i64 f]) q) (G:B<=w.heap.size)
  (P:w.cell? ⟨v,0,none⟩=some (.slice a n t)) (Q:w.cell? ⟨v,1,none⟩=some (.int .i64 d)) (R:w.cell? ⟨x,0,none⟩=some (.slice b F g)) (S:w.cell? ⟨x,1,none⟩=some (.int .i64 f)) (z:v<w.heap.size) (A:x<w.heap.size):
  Calls Tryz.prog 241 #[.agg #[.int .i64 l,.int .i64 m,.int .i64 o,.int .i64 r,.int .i64 s],.pointer (some ⟨v,0,none⟩),.pointer (some ⟨x,0,none⟩)] w λe j=>e=.returned (.bool (dJ p q [l,m,o,r,s]))/\Below w.heap.size w j:=by
 obtain⟨H,C⟩:∃ H,H=vP p (vX l m o r s):=⟨_,rfl⟩
 obtain⟨I,D⟩:∃ I,I=vP q (vX l m o r s):=⟨_,rfl⟩
 have J:Hid (dJ p q [l,m,o,r,s]=decide (I<H)):=by unfold Hid;rw[C,D];rfl
 have T:Hid (∀ j,Below w.heap.size w j->Calls Tryz.prog 242 #[.agg #[.slice a n t,.int .i64 d],.agg #[.int .i64 l,.int .i64 m,.int .i64 o,.int .i64 r,.int .i64 s]] j λe k=>e=.returned (.int .i64 H)/\Below j.heap.size j k):=λj h=>by
  rw[C]
  exact ut B _ p (vX l m o r s) j (N.later h G) (Nat.le_trans G h.size)
 have U:Hid (∀ j,Below w.heap.size w j->Calls Tryz.prog 242 #[.agg #[.slice b F g,.int .i64 f],.agg #[.int .i64 l,.int .i64 m,.int .i64 o,.int .i64 r,.int .i64 s]] j λe k=>e=.returned (.int .i64 I)/\Below j.heap.size j k):=λj h=>by
  rw[D]
  exact ut B _ q (vX l m o r s) j (O.later h G) (Nat.le_trans G h.size)
 clear C D N O
 obtain⟨i,u⟩:∃ i,i=w.alloc (.cells #[.int .i64 l,.int .i64 m,.int .i64 o,.int .i64 r,.int .i64 s] 34):=⟨_,rfl⟩
 have c:Below w.heap.size w i:=by rw[u];exact (Below.refl _ _).alloc (Nat.le_refl _) _
 have K:i.heap.size=w.heap.size+1:=by rw[u];simp
 have E:i.heap[w.heap.size]?=some (.cells #[.int .i64 l,.int .i64 m,.int .i64 o,.int .i64 r,.int .i64 s] 34 (0,0)):=by rw[u];exact (MapKept.heap_alloc w _).1
 have V:Hid _:=u
 clear u
 have W:=aw.ne i
 have Y:∀ y:aw i,y.1.cell? ⟨w.heap.size,0,none⟩=some (.int .i64 l):=λy=>y.cell (ab E 0 rfl) (by omega)
 have Z:∀ y:aw i,y.1.cell? ⟨w.heap.size,1,none⟩=some (.int .i64 m):=λy=>y.cell (ab E 1 rfl) (by omega)
 have y2:∀ y:aw i,y.1.cell? ⟨w.heap.size,2,none⟩=some (.int .i64 o):=λy=>y.cell (ab E 2 rfl) (by omega)
 have y3:∀ y:aw i,y.1.cell? ⟨w.heap.size,3,none⟩=some (.int .i64 r):=λy=>y.cell (ab E 3 rfl) (by omega)
 have y4:∀ y:aw i,y.1.cell? ⟨w.heap.size,4,none⟩=some (.int .i64 s):=λy=>y.cell (ab E 4 rfl) (by omega)
 have z0:∀ y:aw i,y.1.cell? ⟨v,0,none⟩=some (.slice a n t):=λy=>y.cell ((c.cell (p:=⟨v,0,none⟩) z).trans P) (by omega)
 have z1:∀ y:aw i,y.1.cell? ⟨v,1,none⟩=some (.int .i64 d):=λy=>y.cell ((c.cell (p:=⟨v,1,none⟩) z).trans Q) (by omega)
 have z2:∀ y:aw i,y.1.cell? ⟨x,0,none⟩=some (.slice b F g):=λy=>y.cell ((c.cell (p:=⟨x,0,none⟩) A).trans R) (by omega)
 have z3:∀ y:aw i,y.1.cell? ⟨x,1,none⟩=some (.int .i64 f):=λy=>y.cell ((c.cell (p:=⟨x,1,none⟩) A).trans S) (by omega)
 have L:Hid (∀ y:aw i,Calls Tryz.prog 242 #[.agg #[.slice a n t,.int .i64 d],.agg #[.int .i64 l,.int .i64 m,.int .i64 o,.int .i64 r,.int .i64 s]] y.1 λe k=>e=.returned (.int .i64 H)/\Below y.1.heap.size y.1 k):=λy=>T.out _ (Below.thenOf c y.2 c.size)
 have M:Hid (∀ y:aw i,Calls Tryz.prog 242 #[.agg #[.slice b F g,.int .i64 f],.agg #[.int .i64 l,.int .i64 m,.int .i64 o,.int .i64 r,.int .i64 s]] y.1 λe k=>e=.returned (.int .i64 I)/\Below y.1.heap.size y.1 k):=λy=>U.out _ (Below.thenOf c y.2 c.size)
 clear P Q R S E T U G z A K
 go_enter Tryz.func241,Tryz.ntmps241
 go_wp2_with fail
 rw[<-V.out]
 refine bn (by kernel_rfl) (by kernel_rfl) ?_
 go_big_quiet_step (fail)
 go_big_quiet_step (fail)
 go_big_quiet_step (first | (go_at_call 242;exact Calls.later (L.out _)))
 go_big_quiet_step (fail)
 go_big_quiet_step (fail)
 go_big_quiet_step (first | (go_at_call 242;exact Calls.later (M.out _)))
 go_big_quiet_step (fail)
 go_big_quiet_step (fail)
 refine wpQuiet_nil ?_
 rintro wx ⟨⟨_,X⟩,rfl⟩
 go_wp2
 go_ret
 exact⟨by rw[J.out];simp,Below.thenOf c X c.size⟩
end Go.Proofs.YtnpdhopjpjickaaGreatDoor
end
