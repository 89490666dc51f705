/- Joined: WoB KpD Wp1 Wp2 WRg. -/
import Derived.Test.YtnpdhopjpjickaaGreatDoorWj38
import Derived.Test.YtnpdhopjpjickaaGreatDoorWj36
import Derived.Test.YtnpdhopjpjickaaGreatDoorWj01
import Derived.Test.YtnpdhopjpjickaaGreatDoorWj41
import Derived.Test.YtnpdhopjpjickaaGreatDoorWj12
import Derived.Test.YtnpdhopjpjickaaGreatDoorWj42
import Derived.Test.YtnpdhopjpjickaaGreatDoorWj31
section
set_option linter.all false
set_option maxRecDepth 100000
namespace Go.Proofs.YtnpdhopjpjickaaGreatDoor
open Go.RowKit Go.Maps
def tM (w:World) (k:Nat):Prop:=fQ w k/\∀ o a n c,w.cell? ⟨k,o,none⟩=some (.slice a n c)->n=0
theorem tM.of {w:World} {k:Nat} {u:Bool} {T:TypeId} {f:Nat × Nat} (h:w.heap[k]?=some (.cells #[.slice none 0 0,.slice none 0 0,.slice none 0 0,.bool u] T f)):tM w k:=by
 have d:∀ o v,w.cell? ⟨k,o,none⟩=some v->v=.slice none 0 0\/v=.bool u:=by
  intro o v b
  have e:w.cell? ⟨k,o,none⟩=(#[.slice none 0 0,.slice none 0 0,.slice none 0 0,.bool u]:Array Value)[o]?:=by simp[World.cell?,h]
  rw[e] at b
  match o,b with
  | 0,b=>simp at b;exact .inl b.symm
  | 1,b=>simp at b;exact .inl b.symm
  | 2,b=>simp at b;exact .inl b.symm
  | 3,b=>simp at b;exact .inr b.symm
  | o+4,b=>simp at b
 refine⟨λo K x e=>?_,λo a n c e=>?_⟩
 ·rcases d o _ e with e | e<;>cases e
 ·rcases d o _ e with e | e
  ·cases e;rfl
  ·cases e
theorem qU {B k:Nat} {w w':World} {v:Value} {p:ap} (h:bG B w v p) (d:fS k w w') (f:fQ w k):bG B w' v p:=by
 obtain⟨n,e,q,a,l,s,t,u,x⟩:=h
 refine⟨n,e,q,a,l,s,t,u,λi r y=>?_⟩
 obtain⟨b,o,z,A,C,D,m,E,F,g,G,H,I,J⟩:=x i r y
 refine⟨b,o,z,A,C,d.near f m D,d.cell f m,E,F,g,G,H,I,λj c K=>?_⟩
 obtain⟨L,M,N,O,P,Q,R,S⟩:=J j c K
 exact⟨L,M,N,O,d.cell f P,d.cell f Q,d.cell f R,S⟩
theorem qb {B k:Nat} {w w':World} {v:Value} {f:List bS} (h:d7 B w v f) (d:fS k w w') (e:fQ w k):d7 B w' v f:=by
 obtain⟨a,g,l,m,n,p⟩:=h
 refine⟨a,g,l,m,n,λi c q=>?_⟩
 obtain⟨b,o,r,s,j⟩:=p i c q
 refine⟨b,o,r,s,?_⟩
 unfold jT at j |-
 obtain⟨t,u,x,y,z⟩:=j
 exact⟨d.cell e t,d.cell e u,d.cell e x,d.cell e y,z⟩
theorem yM {B k:Nat} {w w':World} {v:Value} {c:gf} (h:cH B w v c) (j:fS k w w') (l:tM w k) (p:∀ f∈c,f≠[]):cH B w' v c:=by
 obtain⟨a,d,q,r,s,t⟩:=h
 refine⟨a,d,q,r,s,λi f m=>?_⟩
 obtain⟨b,o,u,x,y,g,n⟩:=t i f m
 refine⟨b,o,u,x,y,?_,qb n j l.1⟩
 have z:b≠k:=by
  rintro rfl
  obtain⟨A,C,e,-⟩:=n
  rw[e] at g
  have:=l.2 _ _ _ _ g
  exact p f (List.mem_of_getElem? m) (List.length_eq_zero_iff.1 this)
 rw[<-g]
 simp[World.cell?,j b z]
theorem bl.boxK {B k:Nat} {w w':World} {v:Value} {l:List ay} (h:bl B w v l) (d:fS k w w') (e:tM w k) (n:∀ c∈l,∀ f∈c.2.1,f≠[]):bl B w' v l:=by
 obtain⟨a,j,p,q,r,s⟩:=h
 refine⟨a,j,p,q,r,λi c m=>?_⟩
 obtain⟨b,o,t,u,x,y,z,A,C,g,D,E⟩:=s i c m
 exact⟨b,o,t,u,x,y,d.near e.1 g z,d.near e.1 g A,d.near e.1 g C,d.cell e.1 g,yM D d e (n c (List.mem_of_getElem? m)),qU E d e.1⟩
theorem Aj {l:List ay} (h:p9 l):∀ c∈l,∀ f∈c.2.1,f≠[]:=by
 intro c d f b
 have a:=h.2 c d
 cases ho:c.1 with
 | false=>
  have:=vL a.1 ho
  rw[this] at b
  cases b
 | true=>
  have e:=(dN.1 (kO a.1 ho).1).2 f b
  rintro rfl
  revert e
  decide
theorem y6.box {K:Nat->Prop} {w m:World} {v:Value} {l:List ay} {a:Nat} {u:Bool} {T:TypeId} {n:Nat × Nat} (h:y6 K w v l) (j:w.heap[a]?=some (.cells #[.slice none 0 0,.slice none 0 0,.slice none 0 0,.bool u] T n)) (L:¬K a) (o:∀ g,g≠a->m.heap[g]?=w.heap[g]?) (p:m.heap.size=w.heap.size) (q:Below 0 w m) (C:∀ c∈l,∀ f∈c.2.1,f≠[]):y6 K m v l:=by
 intro e y
 have D:a<w.heap.size:=(Array.getElem?_eq_some_iff.1 j).1
 have r:a<e.heap.size:=Nat.lt_of_lt_of_le D (by rw[<-p];exact y.size)
 obtain⟨b,i⟩:∃ b:World,b={ e with heap:=e.heap.setIfInBounds a (.cells #[.slice none 0 0,.slice none 0 0,.slice none 0 0,.bool u] T n) }:=⟨_,rfl⟩
 have z:b.heap[a]?=some (.cells #[.slice none 0 0,.slice none 0 0,.slice none 0 0,.bool u] T n):=by
  rw[i]
  simp[Array.getElem?_setIfInBounds,r]
 have A:∀ g,g≠a->b.heap[g]?=e.heap[g]?:=λg s=>by
  rw[i]
  simp[Array.getElem?_setIfInBounds,Ne.symm s]
 have B:b.heap.size=e.heap.size:=by rw[i];simp
 have t:Kx K w b:=by
  obtain⟨⟨E,F,G,H,-⟩,x⟩:=y
  refine⟨⟨?_,?_,?_,?_,λk o=>absurd o (Nat.not_lt_zero k)⟩,λk I J=>?_⟩
  ·rw[i];exact E.trans q.os
  ·rw[i];exact F.trans q.tape
  ·rw[i];exact G.trans q.output
  ·rw[B,<-p];exact H
  ·by_cases d:k=a
   ·subst d
    rw[z,j]
   ·rw[A k d,x k I (by rw[p];exact J),o k d]
 have:=(h b t).boxK (k:=a) (w':=e) (λg s=>(A g s).symm) (tM.of z) C
 rw[B] at this
 exact this
end Go.Proofs.YtnpdhopjpjickaaGreatDoor
end
section
set_option linter.all false
set_option maxRecDepth 100000
namespace Go.Proofs.YtnpdhopjpjickaaGreatDoor
open Go.RowKit Go.Maps
set_option maxHeartbeats 8000000 in
theorem yH (B:Nat) (lv:Value) (c:List al) (w:World) (hl:bX B w lv c) (hB:B<=w.heap.size):
  Calls Tryz.prog 68 #[lv] w λe d=>∃ v,e=.returned (.tuple #[v,.int .i64 (aK c).2])/\qJ w.heap.size d v (aK c).1/\Below w.heap.size w d:=by
 have HL:Hid (∀ d,Below w.heap.size w d->bX B d lv c):=λd h=>hl.later h hB
 have a1:Hid (∀ d D N b r,bl d.heap.size d D b->cV d.heap.size d N r->Calls Tryz.prog 101 #[D,N] d λe m=>∃ v,e=.returned (.tuple #[v,.int .i64 (dj b r)])/\qJ d.heap.size m v (ez b r)/\Below d.heap.size d m):=λd D N b r h1 h2=>wl d.heap.size D N b r d h1 h2 (Nat.le_refl _)
 have Z:Hid (aK c=if 40<c.length then ([],2) else c.foldl d9 (aA,0)):=rfl
 obtain⟨a,bg,rfl,a2,bk,-⟩:=hl
 have bm:=ag
 obtain⟨n,hn⟩:∃ n,n=c.length:=⟨_,rfl⟩
 have HN:=hid hn.symm
 rw[<-hn] at Z HL a2 |-
 clear hn
 obtain⟨O,E⟩:∃ x,x=(aK c).1:=⟨_,rfl⟩
 obtain⟨P,F⟩:∃ x,x=(aK c).2:=⟨_,rfl⟩
 have o:Hid ((O,P)=aK c):=by rw[E,F];rfl
 rw[<-E,<-F]
 clear E F
 by_cases Q:40<n
 ·have R:(40:Int)<(n:Int):=by omega
  have A:Hid (O=[]/\P=2):=by
   have:=o.out
   rw[Z.out,if_pos Q] at this
   unfold Hid
   simpa using this
  go_enter Tryz.func68,Tryz.ntmps68
  go_wp2_with fail
  go_ret2
  exact⟨_,by rw[A.out.2];rfl,by rw[A.out.1];exact ig _ _,Below.refl _ _⟩
 ·have R:¬(40:Int)<(n:Int):=by omega
  have S:Hid ((O,P)=c.foldl d9 (aA,0)):=by unfold Hid;rw[o.out,Z.out,if_neg Q]
  clear Z o
  go_enter Tryz.func68,Tryz.ntmps68
  go_wp2_with fail
  go_at_call 40
  refine Calls.mono (uw w) ?_
  rintro e W1 ⟨v1,rfl,p,a4⟩
  obtain⟨bo,bp,T,-,-⟩:=p.at.shape
  have U:=hid p
  have e4:aA.length=4:=rfl
  rw[e4] at T
  subst T
  clear p e4
  go_wp2_with fail
  go_loopw [4,15] (λD iv wr=>∃ k:Nat,k<=n/\iv=.int .i64 k/\(∃ ca cc,D=.slice ca 4 cc)/\Hid (∃ b,(c.take k).foldl d9 (aA,0)=(b,0)/\qJ w.heap.size wr D b/\b.length=4)/\Hid (Below w.heap.size w wr)) (λ_ iv _=>n-(intOf iv).toNat)
  case atStart=>exact⟨0,by omega,rfl,⟨_,_,rfl⟩,⟨aA,rfl,U.out,rfl⟩,a4⟩
  case round=>
   obtain⟨k,hk,rfl,⟨ca,cc,rfl⟩,HS,q⟩:=hrel
   obtain⟨wo,a9⟩:∃ x,x=wr:=⟨_,rfl⟩
   subst a9
   have i0:(0:Int)<=(k:Int):=by omega
   have bq:=q.out.size
   by_cases br:k<n
   ·have i1:(k:Int)<(n:Int):=by omega
    obtain⟨r,G⟩:∃ r,c[k]?=some r:=⟨c[k]'(by rw[HN.out];omega),by simp⟩
    obtain⟨b,l,f,y⟩:=HS.out
    have H:=xb c k r G (aA,0)
    rw[l] at H
    obtain⟨_,_,C,-,-,V⟩:=HL.out _ q.out
    obtain⟨b3,o3,e,b5,aa⟩:=V k r G
    simp at C
    obtain⟨rfl,-,-⟩:=C
    subst e
    obtain⟨N,q0,q1,q2,q3,q4,I⟩:=aa
    obtain⟨ra,W,er,-⟩:=I.shape
    simp at er
    subst er
    generalize ac:r.2.2.2.1.length=rl at*
    clear V G ac
    obtain⟨z,J⟩:∃ z,z=wo.alloc (.cells #[.int .i64 r.1,.int .i64 r.2.1,.int .i64 r.2.2.1,.slice ra rl W,.int .i64 r.2.2.2.2] 78):=⟨_,rfl⟩
    have s:Below wo.heap.size wo z:=by rw[J];exact (Below.refl _ _).alloc (Nat.le_refl _) _
    have i:Hid (Calls Tryz.prog 101 #[.slice ca 4 cc,.agg #[.int .i64 r.1,.int .i64 r.2.1,.int .i64 r.2.2.1,.slice ra rl W,.int .i64 r.2.2.2.2]] z λe m=>∃ v,e=.returned (.tuple #[v,.int .i64 (dj b r)])/\qJ z.heap.size m v (ez b r)/\Below z.heap.size z m):=a1.out z _ _ b r (f.later s λ_ _ h=>h).at (kF (I.later s (by omega)) (by have:=s.size;omega))
    have t:Hid (Below w.heap.size w z):=Below.thenOf q.out s q.out.size
    have ad:=hid J
    have X:=hid H
    have ak:=hid y
    clear J s I f l H y HS
    go_wp2_with fail
    rw[<-ad.out]
    go_at_call 101
    refine Calls.mono i.out ?_
    rintro e w6 ⟨v6,rfl,u,K⟩
    have j:Below w.heap.size w w6:=Below.thenOf t.out K t.out.size
    obtain⟨na,nc,ev,-,-⟩:=u.at.shape
    subst ev
    by_cases g:dj b r=0
    ·have C:(c.take (k+1)).foldl d9 (aA,0)=(ez b r,0):=by
      rw[X.out]
      unfold d9
      rw[if_pos rfl]
      simp only
      rw[if_pos g]
     have e2:(ez b r).length=4:=by
      rw[oO g,List.length_set]
      exact ak.out
     rw[e2] at u |-
     rw[g]
     have Y:Hid (∃ L,(c.take (k+1)).foldl d9 (aA,0)=(L,0)/\qJ w.heap.size w6 (.slice na 4 nc) L/\L.length=4):=⟨_,C,u.later (Below.refl _ _) λk _ h=>Nat.lt_of_lt_of_le h t.out.size,e2⟩
     have M:=hid j
     clear C e2 u K j g i
     go_wp2_with fail
     exact⟨⟨k+1,by omega,by go_num,⟨na,nc,rfl⟩,Y,M⟩,by simp[intOf];omega⟩
    ·have C:(c.take (k+1)).foldl d9 (aA,0)=([],dj b r):=by
      rw[X.out]
      unfold d9
      rw[if_pos rfl]
      simp only
      rw[if_neg g]
     have A:Hid (O=[]/\P=dj b r):=by
      have:=S.out
      rw[xx c (k+1) _ g _ C] at this
      unfold Hid
      simpa using this
     have M:=hid j
     have hq:(dj b r != 0)=true:=by simpa using g
     generalize (ez b r).length=nl at*
     generalize dj b r=ne at*
     clear C u K j g i
     go_wp2_with fail
     go_ret2
     exact⟨_,by rw[A.out.2];rfl,by rw[A.out.1];exact ig _ _,M.out⟩
   ·obtain⟨b,l,f,y⟩:=HS.out
    have A:Hid (O=b/\P=0):=by
     have:=S.out
     rw[List.take_of_length_le (by rw[HN.out];omega)] at l
     rw[l] at this
     unfold Hid
     simpa using this
    have av:=hid f
    clear l f y HS
    go_wp2_with fail
    go_ret2
    exact⟨_,by rw[A.out.2];rfl,by rw[A.out.1];exact av.out,q.out⟩
end Go.Proofs.YtnpdhopjpjickaaGreatDoor
end
section
set_option linter.all false
set_option maxRecDepth 100000
set_option maxHeartbeats 4000000
namespace Go.Proofs.YtnpdhopjpjickaaGreatDoor
open Go.RowKit Go.Maps
theorem Kx.put {K:Nat->Prop} {w w' a:World} (h:Kx K w' a) (c:Below 0 w w') (d:∀ g,¬K g->w'.heap[g]?=w.heap[g]?) (e:w'.heap.size=w.heap.size):Kx K w a:=⟨c.trans h.1,λg b f=>(h.2 g b (by omega)).trans (d g b)⟩
theorem mx.at {K:Nat->Prop} {w:World} {v:Value} {x:aq} (h:mx K w v x):aC w.heap.size w v x:=h w (Kx.refl _ _)
def Ac (K:Nat->Prop) (w:World) (v:Value) (d:bA):Prop:=∀ a,Kx K w a->ei a.heap.size a v d
theorem Ac.at {K:Nat->Prop} {w:World} {v:Value} {d:bA} (h:Ac K w v d):ei w.heap.size w v d:=h w (Kx.refl _ _)
theorem Ac.later {K a:Nat->Prop} {w w':World} {v:Value} {d:bA} (h:Ac K w v d) (b:Below w.heap.size w w') (c:∀ k,k<w.heap.size->a k->K k):Ac a w' v d:=λe f=>h e (f.back b c)
theorem bL.k {L:Nat} {w:World} {v:Value} {d:bA} (h:bL L w v d):Ac (λk=>k<L) w v d:=λb a=>h b (λg c e=>a.2 g (Nat.not_lt.2 c) e) a.size
theorem sm {K:Nat->Prop} {w:World} {cv sv tv:Value} {x:aq} {u:Bool} (c:y6 K w cv x.1) (d:Ac K w (.agg #[sv,tv]) x.2.1) (f:x.2.2=u):mx K w (.agg #[cv,sv,tv,.bool u]) x:=λa b=>by
 obtain⟨s,t,e,g,h⟩:=d a b
 simp at e
 obtain⟨rfl,rfl⟩:=e
 exact⟨_,_,_,by rw[f],c a b,g,h⟩
theorem fJ {K:Nat->Prop} {w a:World} {b L:Nat} {T:TypeId} {f h i j cv sv tv:Value} {u:Bool} {x:aq} (g:w.heap[b]?=some (.cells #[f,h,i,j] T (0,0))) (l:mx K w (.agg #[cv,sv,tv,.bool u]) x) (m:K b) (n:Below L a w) (o:L<=b) (p:∀ k,k<a.heap.size->K k):
  ∃ W,W=(((w.setCell ⟨b,0,none⟩ cv).setCell ⟨b,1,none⟩ sv).setCell ⟨b,2,none⟩ tv).setCell ⟨b,3,none⟩ (.bool u)/\W.heap[b]?=some (.cells #[cv,sv,tv,.bool u] T (0,0))/\Hid (mx (λk=>k<a.heap.size) W (.agg #[cv,sv,tv,.bool u]) x/\Below L a W):=by
 obtain⟨q,r,s,c⟩:=jg (u0:=cv) (u1:=sv) (u2:=tv) (u3:=.bool u) g
 refine⟨_,rfl,q,λt d=>l t (Kx.put ⟨d.1,λg v y=>d.2 g (λe=>v (p g e)) y⟩ (c 0 (Nat.zero_le _)) (λg z=>r g λe=>z (by rw[e];exact m)) s),n.trans (c _ o)⟩
theorem jd {w a:World} {b L:Nat} {T:TypeId} {c d e f:Value} (g:w.heap[b]?=some (.cells #[c,d,e,f] T (0,0))) (h:Below L a w) (i:L<=b):
  ∃ W,W=(((w.setCell ⟨b,0,none⟩ (.slice none 0 0)).setCell ⟨b,1,none⟩ (.slice none 0 0)).setCell ⟨b,2,none⟩ (.slice none 0 0)).setCell ⟨b,3,none⟩ (.bool false)/\W.heap[b]?=some (.cells #[.slice none 0 0,.slice none 0 0,.slice none 0 0,.bool false] T (0,0))/\Hid (mx (λk=>k<a.heap.size) W (.agg #[.slice none 0 0,.slice none 0 0,.slice none 0 0,.bool false]) fF/\Below L a W):=fJ (K:=λ_=>True) g (wg _ _) trivial h i λ_ _=>trivial
theorem xw (w:World):Calls Tryz.prog 16 #[] w λe g=>∃ v,e=.returned v/\aC g.heap.size g v iq/\Below w.heap.size w g:=by
 obtain⟨d,a⟩:∃ d,d=w.alloc (.cells #[.slice none 0 0,.slice none 0 0,.slice none 0 0,.bool false] 27):=⟨_,rfl⟩
 have b:Below w.heap.size w d:=by rw[a];exact (Below.refl _ _).alloc (Nat.le_refl _) _
 have f:d.heap[w.heap.size]?=some (.cells #[.slice none 0 0,.slice none 0 0,.slice none 0 0,.bool false] 27 (0,0)):=by rw[a];exact af _ _
 have i:=hid a
 clear a
 go_enter Tryz.func16,Tryz.ntmps16
 go_wp2_with fail
 rw[<-i.out]
 go_at_call 40
 refine Calls.mono (uw d) ?_
 rintro e s ⟨t,rfl,j,c⟩
 obtain⟨p,q,rfl,-,-⟩:=j.at.shape
 have l:=(c.block _ (lt_of_block f)).trans f
 obtain⟨W,m,k,o⟩:=fJ (x:=iq) (sv:=.slice none 0 0) (tv:=.slice none 0 0) (u:=true) l (sm j (dz _ _).k rfl) (lt_of_block f) (Below.thenOf b c b.size) (Nat.le_refl _) (λk h=>Nat.lt_of_lt_of_le h b.size)
 obtain⟨y,z,A,B,C,D,E,F⟩:=am l
 have r:=hid m
 obtain⟨G,H,I,J,-⟩:=am k
 generalize aA.length=n at*
 clear m k j c f l b
 go_wp2_with fail
 rw[<-r.out]
 refine bodyPost_ret (v:=.agg #[.slice p n q,.slice none 0 0,.slice none 0 0,.bool true]) ?_ rfl ⟨_,rfl,o.out.1.at,o.out.2⟩
 rw[bJ rfl]
 go_simp
theorem qY (B:Nat) (r:Value) (y:al) (w:World) (q:cV B w r y) (s:B<=w.heap.size):
  Calls Tryz.prog 79 #[r] w λe j=>∃ v,e=.returned v/\cV B j v (aP y)/\Below w.heap.size w j:=by
 obtain⟨a,c,rfl,t⟩:=q.shape
 obtain⟨-,-,-,u,x,-⟩:=id q
 obtain⟨k,b,f,i,d⟩:=y
 simp only at*
 have z:∀ n:Int,0<=n/\n<=4->wf n:=λn h=>eZ (by omega)
 have C:Hid (∀ j,Below w.heap.size w j->bG B j (.agg #[.slice a i.length c,.int .i64 d]) (i,d)):=λj h=>t.later h s
 have g:Hid (wf b/\wf f/\∀ n:Int,0<=n/\n<=4->wf n):=⟨u,x,z⟩
 generalize i.length=n at*
 clear t q u x z s
 by_cases l:k=3
 ·subst l
  go_enter Tryz.func79,Tryz.ntmps79
  go_wp2
  refine bodyPost_ret (v:=.agg #[.int .i64 3,.int .i64 b,.int .i64 f,.slice none 0 0,.int .i64 0]) ?_ rfl ⟨_,rfl,⟨_,rfl,g.out.2.2 3 (by omega),g.out.1,g.out.2.1,dU _ _⟩,?_⟩
  ·rw[bJ rfl]
   go_simp
  ·repeat (first | refine Below.setCell ?_ (by simp) _ | refine Below.alloc ?_ (by simp) _ | exact Below.refl _ _)
 ·by_cases o:k=4
  ·subst o
   go_enter Tryz.func79,Tryz.ntmps79
   go_wp2
   refine bodyPost_ret (v:=.agg #[.int .i64 4,.int .i64 b,.int .i64 0,.slice none 0 0,.int .i64 0]) ?_ rfl ⟨_,rfl,⟨_,rfl,g.out.2.2 4 (by omega),g.out.1,g.out.2.2 0 (by omega),dU _ _⟩,?_⟩
   ·rw[bJ rfl]
    go_simp
   ·repeat (first | refine Below.setCell ?_ (by simp) _ | refine Below.alloc ?_ (by simp) _ | exact Below.refl _ _)
  ·have A:Hid (∀ (W:World) (m:Int),0<=m/\m<=4->aP (k,b,f,i,d)=(m,b,0,i,d)->Below w.heap.size w W->cV B W (.agg #[.int .i64 m,.int .i64 b,.int .i64 0,.slice a n c,.int .i64 d]) (aP (k,b,f,i,d))/\Below w.heap.size w W):=λW m D e h=>⟨by rw[e];exact⟨_,rfl,g.out.2.2 m D,g.out.1,g.out.2.2 0 (by omega),C.out W h⟩,h⟩
   by_cases p:k=1
   ·subst p
    go_enter Tryz.func79,Tryz.ntmps79
    go_wp2
    refine bodyPost_ret (v:=.agg #[.int .i64 1,.int .i64 b,.int .i64 0,.slice a n c,.int .i64 d]) ?_ rfl ⟨_,rfl,A.out _ 1 (by omega) rfl ?_⟩
    ·rw[bJ rfl]
     go_simp
    ·repeat (first | refine Below.setCell ?_ (by simp) _ | refine Below.alloc ?_ (by simp) _ | exact Below.refl _ _)
   ·have E:Hid (aP (k,b,f,i,d)=(2,b,0,i,d)):=by
     unfold Hid aP
     simp only
     rw[if_neg l,if_neg o,if_neg p]
    have F:(k==3)=false:=by simpa using l
    have G:(k==4)=false:=by simpa using o
    have H:(k==1)=false:=by simpa using p
    clear p l o
    go_enter Tryz.func79,Tryz.ntmps79
    go_wp2
    refine bodyPost_ret (v:=.agg #[.int .i64 2,.int .i64 b,.int .i64 0,.slice a n c,.int .i64 d]) ?_ rfl ⟨_,rfl,A.out _ 2 (by omega) E.out ?_⟩
    ·rw[bJ rfl]
     go_simp
    ·repeat (first | refine Below.setCell ?_ (by simp) _ | refine Below.alloc ?_ (by simp) _ | exact Below.refl _ _)
theorem mB (B:Nat) (v u:Value) (x y:aq) (w:World) (hx:aC B w v x) (hy:aC B w u y) (q:B<=w.heap.size):
  Calls Tryz.prog 14 #[v,u] w λe a=>e=.returned (.bool (decide (x=y)))/\Below w.heap.size w a:=by
 obtain⟨M,N,I,J,t,z,rfl,hc,hd⟩:=hx.shape
 obtain⟨j,k,f,g,b,c,rfl,A,C⟩:=hy.shape
 have HC:Hid (∀ a,Below w.heap.size w a->Calls Tryz.prog 37 #[.slice M x.1.length N,.slice j y.1.length k] a λe l=>e=.returned (.bool (decide (x.1=y.1)))/\Below a.heap.size a l):=λa h=>s9 B _ _ x.1 y.1 a (hc.later h q) (A.later h q) (Nat.le_trans q h.size)
 have HD:Hid (∀ a,Below w.heap.size w a->Calls Tryz.prog 38 #[.agg #[.slice I x.2.1.1.length J,.slice t x.2.1.2.length z],.agg #[.slice f y.2.1.1.length g,.slice b y.2.1.2.length c]] a λe l=>e=.returned (.bool (decide (x.2.1=y.2.1)))/\Below a.heap.size a l):=λa h=>B5 B _ _ x.2.1 y.2.1 a (hd.later h q) (C.later h q) (Nat.le_trans q h.size)
 clear hx hy hc hd A C
 obtain⟨D,r,m⟩:=x
 obtain⟨F,s,n⟩:=y
 simp only at*
 have O:Hid (decide (((D,r,m):aq)=(F,s,n))=(decide (D=F)&&decide (r=s)&&(m==n))):=by
  unfold Hid
  rw[Bool.eq_iff_iff]
  simp only[decide_eq_true_eq,Bool.and_eq_true,Prod.mk.injEq,beq_iff_eq]
  exact and_assoc.symm
 generalize decide (D=F)=s1 at*
 generalize decide (r=s)=s2 at*
 generalize decide (((D,r,m):aq)=(F,s,n))=E at*
 generalize D.length=m1 at*
 generalize F.length=m2 at*
 generalize r.1.length=P at*
 generalize r.2.length=K at*
 generalize s.1.length=Q at*
 generalize s.2.length=L at*
 obtain⟨o,d⟩:∃ o,o=(w.alloc (.cells #[.slice M m1 N,.slice I P J,.slice t K z,.bool m] 27)).alloc (.cells #[.slice j m2 k,.slice f Q g,.slice b L c,.bool n] 27):=⟨_,rfl⟩
 have i:Below w.heap.size w o:=by rw[d];exact ((Below.refl _ _).alloc (Nat.le_refl _) _).alloc (by simp) _
 have R:o.heap[w.heap.size]?=some (.cells #[.slice M m1 N,.slice I P J,.slice t K z,.bool m] 27 (0,0)):=by rw[d];exact cj _ (bT _ _ rfl)
 have S:o.heap[w.heap.size+1]?=some (.cells #[.slice j m2 k,.slice f Q g,.slice b L c,.bool n] 27 (0,0)):=by rw[d];exact bT _ _ (by simp only[World.size_alloc])
 have T:=hid d
 have HG:Hid (∀ a,Below o.heap.size o a->(a.cell? ⟨w.heap.size,1,none⟩=some (.slice I P J)/\a.cell? ⟨w.heap.size,2,none⟩=some (.slice t K z)/\a.cell? ⟨w.heap.size,3,none⟩=some (.bool m))/\(a.cell? ⟨w.heap.size+1,1,none⟩=some (.slice f Q g)/\a.cell? ⟨w.heap.size+1,2,none⟩=some (.slice b L c)/\a.cell? ⟨w.heap.size+1,3,none⟩=some (.bool n))/\Below w.heap.size w a):=λa h=>by
  have U:=(h.block _ (lt_of_block R)).trans R
  have V:=(h.block _ (lt_of_block S)).trans S
  exact⟨⟨ab U 1 rfl,ab U 2 rfl,ab U 3 rfl⟩,⟨ab V 1 rfl,ab V 2 rfl,ab V 3 rfl⟩,Below.thenOf i h i.size⟩
 have W:=hid i
 clear d R S i
 go_enter Tryz.func14,Tryz.ntmps14
 go_wp2_with fail
 rw[<-T.out]
 go_at_call 37
 refine Calls.mono (HC.out _ W.out) ?_
 rintro e2 X ⟨rfl,p⟩
 obtain⟨⟨q1,q2,q3⟩,⟨p1,p2,p3⟩,G⟩:=HG.out X p
 cases s1 with
 | false=>
  go_wp2_with fail
  go_ret
  exact⟨by rw[O.out];rfl,G⟩
 | true=>
  have Y:X.cell? ⟨w.heap.size,1+1,none⟩=some (.slice t K z):=q2
  have Z:X.cell? ⟨w.heap.size+1,1+1,none⟩=some (.slice b L c):=p2
  go_wp2_with fail
  go_at_call 38
  refine Calls.mono (HD.out _ G) ?_
  rintro e3 w3 ⟨rfl,a0⟩
  obtain⟨⟨-,-,q4⟩,⟨-,-,p4⟩,H⟩:=HG.out w3 (Below.thenOf p a0 p.size)
  clear q1 q2 q3 p1 p2 p3 Y Z
  cases s2 with
  | false=>
   go_wp2_with fail
   go_ret
   exact⟨by rw[O.out];rfl,H⟩
  | true=>
   cases m<;>cases n
   all_goals
    go_wp2_with fail
    go_ret
    exact⟨by rw[O.out];rfl,H⟩
end Go.Proofs.YtnpdhopjpjickaaGreatDoor
end
section
set_option linter.all false
set_option maxRecDepth 100000
set_option maxHeartbeats 4000000
namespace Go.Proofs.YtnpdhopjpjickaaGreatDoor
open Go.RowKit Go.Maps
theorem JG.start (W:World) (G:Nat->World->Value->Prop):JG W G (λ_ _=>False) W.drew:=⟨(Below.refl _ _).drew,λ_ _ h=>h.elim⟩
theorem JG.put {W w w':World} {G:Nat->World->Value->Prop} {b:Nat->Value->Prop} (h:JG W G b w) (d:∀ k u w w',Below w.heap.size w w'->G k w u->G k w' u) {k:Nat} {v:Value} (c:Below w.heap.size w w') (e:G k w' v):JG W G (bW b k v) w':=by
 refine⟨Below.thenOf h.1 c h.1.size,λm u a=>?_⟩
 rcases a with a | ⟨rfl,rfl⟩
 ·exact d m u w w' c (h.2 m u a)
 ·exact e
def BG (a b L:Nat) (C:List ay) (d:bA) (k:Nat) (w:World) (u:Value):Prop:=(k=a->qJ L w u C)/\(k=b->Ac (λk=>k<L) w u d)
theorem BG.later {b c L:Nat} {C:List ay} {d:bA}:∀ k u w a,Below w.heap.size w a->BG b c L C d k w u->BG b c L C d k a u:=λk u w a f h=>⟨λe=>(h.1 e).later f λ_ _ e=>e,λe=>(h.2 e).later f λ_ _ e=>e⟩
def EW (e f:Nat) (C:List ay) (d:bA) (k:Nat) (v:Value):Prop:=(k=e->∃ a c,v=.slice a C.length c)/\(k=f->∃ a c b l,v=.agg #[.slice a d.1.length c,.slice b d.2.length l])
theorem x5 (a b:Nat) (h:a≠b) (C:List ay) (d:bA) (k:Nat):∃ v,EW a b C d k v:=by
 by_cases c:k=a
 ·exact⟨.slice none C.length 0,λ_=>⟨_,_,rfl⟩,λe=>absurd (c.symm.trans e) h⟩
 ·exact⟨.agg #[.slice none d.1.length 0,.slice none d.2.length 0],λe=>absurd e c,λ_=>⟨_,_,_,_,rfl⟩⟩
theorem pb (B:Nat) (v:Value) (d:bA) (w:World) (F:ei B w v d) (O:B<=w.heap.size) (p:d.1.length<=60000/\d.2.length<=60000):
  Calls Tryz.prog 35 #[v] w λe f=>∃ q,e=.returned q/\mx (λk=>k<w.heap.size) f q (aA,d,false)/\Below w.heap.size w f:=by
 obtain⟨a,c,b,r,rfl⟩:=F.shapeS
 have s:Hid (∀ f,Below w.heap.size w f->Calls Tryz.prog 66 #[.agg #[.slice a d.1.length c,.slice b d.2.length r]] f λe t=>∃ q,e=.returned q/\bL f.heap.size t q d/\Below f.heap.size f t):=λf h=>oZ B _ d f (F.later h O) (Nat.le_trans O h.size) p
 obtain⟨n,y⟩:∃ n,n=d.1.length:=⟨_,rfl⟩
 obtain⟨m,P⟩:∃ m,m=d.2.length:=⟨_,rfl⟩
 rw[<-y,<-P] at s |-
 obtain⟨W,A⟩:∃ W,W=(w.alloc (.cells #[.slice a n c,.slice b m r] 25)).alloc (.cells #[.slice none 0 0,.slice none 0 0,.slice none 0 0,.bool false] 27):=⟨_,rfl⟩
 have C:Below w.heap.size w W:=by rw[A];exact ((Below.refl _ _).alloc (Nat.le_refl _) _).alloc (by simp) _
 have G:W.heap[w.heap.size]?=some (.cells #[.slice a n c,.slice b m r] 25 (0,0)):=by rw[A];exact cj _ (bT _ _ rfl)
 have Q:W.heap[w.heap.size+1]?=some (.cells #[.slice none 0 0,.slice none 0 0,.slice none 0 0,.bool false] 27 (0,0)):=by rw[A];exact bT _ _ (by simp only[World.size_alloc])
 obtain⟨R,S,-,-⟩:=aO G
 have H:=lt_of_block G
 have Y:=hid A
 have i:=hid C
 have j:=hid Q
 have Z:∀ z:aw W,z.1.cell? ⟨w.heap.size,0,none⟩=some (.slice a n c):=λz=>z.cell R H
 have q1:∀ z:aw W,z.1.cell? ⟨w.heap.size,1,none⟩=some (.slice b m r):=λz=>z.cell S H
 have I:=aw.ne W
 have l:Hid (∀ T f,JG W (BG 0 2 W.heap.size aA d) T f->∃ z:aw W,f=z.1):=λT f h=>⟨⟨f,h.1⟩,rfl⟩
 clear A C G Q R S H F p y P
 go_enter Tryz.func35,Tryz.ntmps35
 go_wp2_with fail
 rw[<-Y.out]
 refine bh [_,_,_,_] _ rfl (λk=>k==0||k==2) (JG W (BG 0 2 W.heap.size aA d)) (EW 0 2 aA d) (x5 0 2 (by decide) _ _) (by kernel_rfl) (by kernel_rfl) (JG.start _ _) ?_
 refine bu 40 #[] rfl rfl (λf=>by kernel_rfl) (λgs f g D J=>?_) (λv0 K=>?_)
 ·refine (uw f).mono ?_
  rintro e w3 ⟨u,rfl,U,L⟩
  obtain⟨a',c',eu,-⟩:=U.at.shape
  exact⟨_,rfl,⟨λ_=>⟨a',c',eu⟩,λe=>by cases e⟩,g.put BG.later L ⟨λ_=>U.later (Below.refl _ _) λk _ h=>Nat.lt_of_lt_of_le h g.1.size,λe=>by cases e⟩⟩
 simp only[Act.put,List.setIfInBounds_toArray,List.set_cons_succ,List.set_cons_zero]
 obtain⟨a0,c0,rfl⟩:=K.1 rfl
 refine aH l.out rfl rfl ?_;go_big_quiet_step (fail);refine wpQuiet_nil ?_
 refine bu 66 #[.agg #[.slice a n c,.slice b m r]] rfl rfl (λf=>by kernel_rfl) (λgs f g D J=>?_) (λv2 M=>?_)
 ·refine (s.out f (Below.thenOf i.out g.1 i.out.size)).mono ?_
  rintro e w3 ⟨u,rfl,y,L⟩
  exact⟨_,rfl,⟨λe=>(by cases e),λ_=>y.at.shapeS⟩,g.put BG.later L ⟨λe=>(by cases e),λ_=>(y.mono g.1.size).k⟩⟩
 simp only[Act.put,List.setIfInBounds_toArray,List.set_cons_succ,List.set_cons_zero]
 obtain⟨a2,c3,b2,c4,rfl⟩:=M.2 rfl
 refine aH l.out rfl rfl ?_;go_big_quiet_step (fail);refine wpQuiet_nil ?_
 refine dF ?_
 intro w4 g
 have o:=(g.1.block _ (lt_of_block j.out)).trans j.out
 have V:=(g.2 0 _ (.inl (.inr ⟨rfl,rfl⟩))).1 rfl
 have X:=(g.2 2 _ (.inr ⟨rfl,rfl⟩)).2 rfl
 obtain⟨W5,E,k,HF⟩:=fJ (x:=(aA,d,false)) o (sm V X rfl) (lt_of_block j.out) (Below.thenOf i.out g.1 i.out.size) (Nat.le_succ _) (λk h=>Nat.lt_of_lt_of_le h i.out.size)
 have N:=hid E
 obtain⟨z0,z1,z2,z3,f0,f1,f2,f3⟩:=am o
 obtain⟨x0,x1,x2,x3,-⟩:=am k
 generalize aA.length=n1 at*
 generalize d.1.length=n2 at*
 generalize d.2.length=n3 at*
 clear g o V X E k Z q1 I l
 go_wp2_with fail
 rw[<-N.out]
 refine bodyPost_ret (v:=.agg #[.slice a0 n1 c0,.slice a2 n2 c3,.slice b2 n3 c4,.bool false]) ?_ rfl ⟨_,rfl,HF.out⟩
 rw[bJ rfl]
 go_simp
theorem iV {x:aq} (h:cg x=0):p9 x.1/\az x.2.1=0:=by
 obtain⟨c,d,u⟩:=x
 cases u with
 | true=>
  obtain⟨l,f⟩:=q9 h rfl
  obtain⟨e,g,i,j,k⟩:=f
  cases e
  exact⟨kJ k,eQ (t:=[]) g i (by simpa using j)⟩
 | false=>
  rw[my] at h
  by_cases a:az d=0
  ·rw[if_pos a] at h
   by_cases b:aA=c
   ·subst b
    exact⟨xS,a⟩
   ·rw[if_neg b] at h
    cases h
  ·rw[if_neg a] at h
   exact absurd h a
theorem zm (B:Nat) (v:Value) (x:aq) (w:World) (hx:aC B w v x) (t:B<=w.heap.size) (hr:cg x=0):
  Calls Tryz.prog 48 #[v] w λe f=>∃ y,e=.returned y/\mx (λk=>k<w.heap.size) f y x/\Below w.heap.size w f:=by
 obtain⟨A,D,a,c,b,r,rfl,s,hd⟩:=hx.shape
 obtain⟨M,Q⟩:=iV hr
 obtain⟨C,d,u⟩:=x
 simp only at*
 have E:Hid (∀ f,Below w.heap.size w f->Calls Tryz.prog 77 #[.slice A C.length D] f λe i=>∃ a c,e=.returned (.slice a C.length c)/\qJ f.heap.size i (.slice a C.length c) C/\Below f.heap.size f i):=λf h=>(sf B _ C f (s.later h t) (Nat.le_trans t h.size) (by rw[M.1];decide) (λc s=>us (M.2 c s).1)).mono λe i ⟨N,O,h3⟩=>⟨_,_,N,BM O (Nat.le_refl _) (by rw[M.1];decide),h3⟩
 have F:Hid (∀ f,Below w.heap.size w f->Calls Tryz.prog 66 #[.agg #[.slice a d.1.length c,.slice b d.2.length r]] f λe i=>∃ y,e=.returned y/\bL f.heap.size i y d/\Below f.heap.size f i):=λf h=>oZ B _ d f (hd.later h t) (Nat.le_trans t h.size) ⟨(dK Q).1,(dK Q).2.1⟩
 obtain⟨l,P⟩:∃ l,l=C.length:=⟨_,rfl⟩
 obtain⟨n,G⟩:∃ n,n=d.1.length:=⟨_,rfl⟩
 obtain⟨m,hm⟩:∃ m,m=d.2.length:=⟨_,rfl⟩
 rw[<-P] at E
 have HL:=hid P
 rw[<-G,<-hm] at F |-
 rw[<-P]
 obtain⟨W,H⟩:∃ W,W=(w.alloc (.cells #[.slice A l D,.slice a n c,.slice b m r,.bool u] 27)).alloc (.cells #[.slice none 0 0,.slice none 0 0,.slice none 0 0,.bool false] 27):=⟨_,rfl⟩
 have I:Below w.heap.size w W:=by rw[H];exact ((Below.refl _ _).alloc (Nat.le_refl _) _).alloc (by simp) _
 have R:W.heap[w.heap.size]?=some (.cells #[.slice A l D,.slice a n c,.slice b m r,.bool u] 27 (0,0)):=by rw[H];exact cj _ (bT _ _ rfl)
 have g1:W.heap[w.heap.size+1]?=some (.cells #[.slice none 0 0,.slice none 0 0,.slice none 0 0,.bool false] 27 (0,0)):=by rw[H];exact bT _ _ (by simp only[World.size_alloc])
 obtain⟨y0,y1,y2,y3,-⟩:=am R
 have J:=lt_of_block R
 have HW:=hid H
 have g:=hid I
 have p:=hid g1
 have q0:∀ z:aw W,z.1.cell? ⟨w.heap.size,0,none⟩=some (.slice A l D):=λz=>z.cell y0 J
 have q1:∀ z:aw W,z.1.cell? ⟨w.heap.size,1,none⟩=some (.slice a n c):=λz=>z.cell y1 J
 have q2:∀ z:aw W,z.1.cell? ⟨w.heap.size,2,none⟩=some (.slice b m r):=λz=>z.cell y2 J
 have S:∀ z:aw W,z.1.cell? ⟨w.heap.size,1+1,none⟩=some (.slice b m r):=q2
 have q3:∀ z:aw W,z.1.cell? ⟨w.heap.size,3,none⟩=some (.bool u):=λz=>z.cell y3 J
 have T:=aw.ne W
 have o:Hid (∀ fs f,JG W (BG 2 5 W.heap.size C d) fs f->∃ z:aw W,f=z.1):=λfs f h=>⟨⟨f,h.1⟩,rfl⟩
 clear H I R g1 y0 y1 y2 y3 J hd G hm P hx s M Q hr t
 go_enter Tryz.func48,Tryz.ntmps48
 go_wp2_with fail
 rw[<-HW.out]
 refine bh [_,_,_,_,_,_,_,_,_] _ rfl (λk=>k==2||k==5) (JG W (BG 2 5 W.heap.size C d)) (EW 2 5 C d) (x5 2 5 (by decide) _ _) (by kernel_rfl) (by kernel_rfl) (JG.start _ _) ?_
 iterate 2 (refine aH o.out rfl rfl ?_;go_big_quiet_step (fail);refine wpQuiet_nil ?_)
 refine bu 77 #[.slice A l D] rfl rfl (λf=>by kernel_rfl) (λgs f j K U=>?_) (λv0 V=>?_)
 ·refine (E.out f (Below.thenOf g.out j.1 g.out.size)).mono ?_
  rintro e w3 ⟨a',c',rfl,s,X⟩
  exact⟨_,rfl,⟨λ_=>⟨a',c',by rw[HL.out]⟩,λe=>by cases e⟩,j.put BG.later X ⟨λ_=>s.later (Below.refl _ _) λk _ h=>Nat.lt_of_lt_of_le h j.1.size,λe=>by cases e⟩⟩
 simp only[Act.put,List.setIfInBounds_toArray,List.set_cons_succ,List.set_cons_zero]
 obtain⟨a0,c0,rfl⟩:=V.1 rfl
 iterate 2 (refine aH o.out rfl rfl ?_;go_big_quiet_step (fail);refine wpQuiet_nil ?_)
 refine bu 66 #[.agg #[.slice a n c,.slice b m r]] rfl rfl (λf=>by kernel_rfl) (λgs f j K U=>?_) (λv2 Y=>?_)
 ·refine (F.out f (Below.thenOf g.out j.1 g.out.size)).mono ?_
  rintro e w3 ⟨u,rfl,G,X⟩
  exact⟨_,rfl,⟨λe=>(by cases e),λ_=>G.at.shapeS⟩,j.put BG.later X ⟨λe=>(by cases e),λ_=>(G.mono j.1.size).k⟩⟩
 simp only[Act.put,List.setIfInBounds_toArray,List.set_cons_succ,List.set_cons_zero]
 obtain⟨a2,c3,b2,c4,rfl⟩:=Y.2 rfl
 iterate 3 (refine aH o.out rfl rfl ?_;go_big_quiet_step (fail);refine wpQuiet_nil ?_)
 refine dF ?_
 intro w4 j
 have q:=(j.1.block _ (lt_of_block p.out)).trans p.out
 have N:=(j.2 2 _ (.inl (.inr ⟨rfl,rfl⟩))).1 rfl
 have O:=(j.2 5 _ (.inr ⟨rfl,rfl⟩)).2 rfl
 obtain⟨W5,L,k,HF⟩:=fJ (x:=(C,d,u)) q (sm N O rfl) (lt_of_block p.out) (Below.thenOf g.out j.1 g.out.size) (Nat.le_succ _) (λk h=>Nat.lt_of_lt_of_le h g.out.size)
 have Z:=hid L
 obtain⟨z0,z1,z2,z3,f0,f1,f2,f3⟩:=am q
 obtain⟨x0,x1,x2,x3,-⟩:=am k
 generalize C.length=n1 at*
 generalize d.1.length=n2 at*
 generalize d.2.length=n3 at*
 clear j q N O L k q0 q1 q2 S q3 T o
 go_wp2_with fail
 rw[<-Z.out]
 refine bodyPost_ret (v:=.agg #[.slice a0 n1 c0,.slice a2 n2 c3,.slice b2 n3 c4,.bool u]) ?_ rfl ⟨_,rfl,HF.out⟩
 rw[bJ rfl]
 go_simp
end Go.Proofs.YtnpdhopjpjickaaGreatDoor
end
section
set_option linter.all false
set_option maxRecDepth 100000
namespace Go.Proofs.YtnpdhopjpjickaaGreatDoor
open Go.RowKit Go.Maps
structure EY (kc ka:Nat) (W:World) (G:World->Value->Prop) (fs:Nat->Value->Prop) (w:World):Prop where
 below:Below W.heap.size W w
 call:∀ u,fs kc u->G w u
 box:∀ u,fs ka u->∃ g:Nat,u=.pointer (some ⟨g,0,none⟩)/\W.heap.size<=g/\w.heap[g]?=some (.cells #[.slice none 0 0,.slice none 0 0,.slice none 0 0,.bool false] 27 (0,0))
 oneC:∀ u v,fs kc u->fs kc v->u=v
 oneA:∀ u v,fs ka u->fs ka v->u=v
def r7 (kc ka ks:Nat) (W:World) (G:World->Value->Prop) (fs:Nat->Value->Prop) (w:World):Prop:=
 ((∀ u,¬fs ks u)/\EY kc ka W G fs w)\/((∃ u,fs ks u)/\(∃ u,fs kc u)/\(∃ u,fs ka u)/\Below W.heap.size W w/\(∀ u,fs kc u->G w u)/\∀ u a b c d e f,fs ka u->fs kc (.tuple #[.agg #[a,b,c,d],e,f])->∃ g:Nat,u=.pointer (some ⟨g,0,none⟩)/\W.heap.size<=g/\w.heap[g]?=some (.cells #[a,b,c,d] 27 (0,0)))
section
variable {kc ka ks:Nat} {W w w':World} {G:World->Value->Prop} {fs:Nat->Value->Prop}
theorem r7.start (kc ka ks:Nat) (W:World) (G:World->Value->Prop):r7 kc ka ks W G (λ_ _=>False) W.drew:=.inl ⟨λ_ h=>h,(Below.refl _ _).drew,λ_ h=>h.elim,λ_ h=>h.elim,λ_ _ h=>h.elim,λ_ _ h=>h.elim⟩
theorem r7.below (h:r7 kc ka ks W G fs w):Below W.heap.size W w:=by
 rcases h with ⟨_,h⟩ | ⟨_,_,_,h,_⟩
 ·exact h.below
 ·exact h
theorem r7.ahead (h:r7 kc ka ks W G fs w) {k:Nat} (e:k=kc\/k=ka\/k=ks) (d:∀ v,¬fs k v):(∀ u,¬fs ks u)/\EY kc ka W G fs w:=by
 rcases h with h | ⟨⟨a,f⟩,⟨b,g⟩,⟨c,i⟩,_⟩
 ·exact h
 ·rcases e with rfl | rfl | rfl
  ·exact absurd g (d _)
  ·exact absurd i (d _)
  ·exact absurd f (d _)
theorem r7.call (h:r7 kc ka ks W G fs w) (o:∀ w w' u,Below w.heap.size w w'->G w u->G w' u) (k:ks≠kc) (d:ka≠kc) (c:∀ v,¬fs kc v) (f:Below w.heap.size w w') {v:Value} (l:G w' v):r7 kc ka ks W G (bW fs kc v) w':=by
 obtain⟨m,h⟩:=h.ahead (.inl rfl) c
 refine .inl ⟨λu a=>?_,Below.thenOf h.below f h.below.size,λu a=>?_,λu a=>?_,λu i a b=>?_,λu i a b=>?_⟩
 ·rcases a with a | ⟨e,_⟩
  ·exact m u a
  ·exact k e
 ·rcases a with a | ⟨_,rfl⟩
  ·exact absurd a (c _)
  ·exact l
 ·rcases a with a | ⟨e,_⟩
  ·obtain⟨g,e,n,j⟩:=h.box u a
   exact⟨g,e,n,(f.block g (lt_of_block j)).trans j⟩
  ·exact absurd e d
 ·rcases a with a | ⟨_,rfl⟩
  ·exact absurd a (c _)
  ·rcases b with b | ⟨_,rfl⟩
   ·exact absurd b (c _)
   ·rfl
 ·rcases a with a | ⟨e,_⟩
  ·rcases b with b | ⟨e,_⟩
   ·exact h.oneA u i a b
   ·exact absurd e d
  ·exact absurd e d
theorem r7.made (h:r7 kc ka ks W G fs w) (i:∀ w w' u,Below w.heap.size w w'->G w u->G w' u) (j:ks≠ka) (d:kc≠ka) (c:∀ v,¬fs ka v):r7 kc ka ks W G (bW fs ka (.pointer (some ⟨w.heap.size,0,none⟩))) (w.alloc (.cells #[.slice none 0 0,.slice none 0 0,.slice none 0 0,.bool false] 27)):=by
 obtain⟨k,h⟩:=h.ahead (.inr (.inl rfl)) c
 have f:=(Below.refl w.heap.size w).alloc (Nat.le_refl _) (.cells #[.slice none 0 0,.slice none 0 0,.slice none 0 0,.bool false] 27)
 refine .inl ⟨λu a=>?_,Below.thenOf h.below f h.below.size,λu a=>?_,λu a=>?_,λu g a b=>?_,λu g a b=>?_⟩
 ·rcases a with a | ⟨e,_⟩
  ·exact k u a
  ·exact j e
 ·rcases a with a | ⟨e,_⟩
  ·exact i _ _ u f (h.call u a)
  ·exact absurd e d
 ·rcases a with a | ⟨_,rfl⟩
  ·exact absurd a (c _)
  ·exact⟨_,rfl,h.below.size,af _ _⟩
 ·rcases a with a | ⟨e,_⟩
  ·rcases b with b | ⟨e,_⟩
   ·exact h.oneC u g a b
   ·exact absurd e d
  ·exact absurd e d
 ·rcases a with a | ⟨_,rfl⟩
  ·exact absurd a (c _)
  ·rcases b with b | ⟨_,rfl⟩
   ·exact absurd b (c _)
   ·rfl
theorem r7.store (h:r7 kc ka ks W G fs w) (b:∀ w w' u g,G w u->w.heap[g]?=some (.cells #[.slice none 0 0,.slice none 0 0,.slice none 0 0,.bool false] 27 (0,0))->fS g w w'->w'.heap.size=w.heap.size->G w' u) (n:kc≠ks) (r:ka≠ks) (c:∀ v,¬fs ks v) {d f i j s t:Value} (o:fs kc (.tuple #[.agg #[d,f,i,j],s,t])) {g:Nat} (k:fs ka (.pointer (some ⟨g,0,none⟩))):w.heap[g]?=some (.cells #[.slice none 0 0,.slice none 0 0,.slice none 0 0,.bool false] 27 (0,0))/\r7 kc ka ks W G (bW fs ks undef) ((((w.setCell ⟨g,0,none⟩ d).setCell ⟨g,1,none⟩ f).setCell ⟨g,2,none⟩ i).setCell ⟨g,3,none⟩ j):=by
 obtain⟨C,h⟩:=h.ahead (.inr (.inr rfl)) c
 obtain⟨D,e,p,l⟩:=h.box _ k
 simp at e
 subst e
 obtain⟨x,y,z,A⟩:=jg (u0:=d) (u1:=f) (u2:=i) (u3:=j) l
 refine⟨l,.inr ⟨⟨undef,.inr ⟨rfl,rfl⟩⟩,⟨_,.inl o⟩,⟨_,.inl k⟩,h.below.trans (A _ p),λu a=>?_,λu E F H I J K a m=>?_⟩⟩
 ·rcases a with a | ⟨e,_⟩
  ·exact b _ _ u g (h.call u a) l y z
  ·exact absurd e n
 ·rcases a with a | ⟨e,_⟩
  ·rcases m with m | ⟨e,_⟩
   ·have B:=h.oneA _ _ a k
    have q:=h.oneC _ _ m o
    simp at q
    obtain⟨⟨rfl,rfl,rfl,rfl⟩,-⟩:=q
    exact⟨g,B,p,x⟩
   ·exact absurd e n
  ·exact absurd e r
theorem r7.done (h:r7 kc ka ks W G fs w) {u a b c d f i:Value} {g:Nat} (k:fs ks u) (j:fs kc (.tuple #[.agg #[a,b,c,d],f,i])) (l:fs ka (.pointer (some ⟨g,0,none⟩))):Below W.heap.size W w/\G w (.tuple #[.agg #[a,b,c,d],f,i])/\W.heap.size<=g/\w.heap[g]?=some (.cells #[a,b,c,d] 27 (0,0)):=by
 rcases h with ⟨m,_⟩ | ⟨_,_,_,n,o,p⟩
 ·exact absurd k (m _)
 ·obtain⟨s,e,q,r⟩:=p _ _ _ _ _ _ _ l j
  simp at e
  subst e
  exact⟨n,o _ j,q,r⟩
end
def jF (Y:aq) (h:List Int) (E:Int) (w:World) (u:Value):Prop:=∃ a b c d e f g,u=.tuple #[.agg #[a,b,c,d],.slice e f g,.int .i64 E]/\aC w.heap.size w (.agg #[a,b,c,d]) Y/\cw w.heap.size w (.slice e f g) h
theorem jF.later {Y:aq} {g:List Int} {E:Int}:∀ w w' u,Below w.heap.size w w'->jF Y g E w u->jF Y g E w' u:=by
 rintro w w' u d ⟨h,j,l,m,n,p,q,e,r,s⟩
 refine⟨h,j,l,m,n,p,q,e,?_,?_⟩
 ·obtain⟨t,v,x,e,y,z,A⟩:=r.later d (Nat.le_refl _)
  exact⟨t,v,x,e,y.wide d.size,z.wide d.size,A.wide d.size⟩
 ·obtain⟨a,f,e,B,C,D⟩:=s.later d (Nat.le_refl _)
  exact⟨a,f,e,B,C,λi c F=>by
   obtain⟨b,o,e,G,k⟩:=D i c F
   exact⟨b,o,e,Nat.lt_of_lt_of_le G d.size,k⟩⟩
theorem jF.box {Y:aq} {l:List Int} {E:Int} (n:∀ c∈Y.1,∀ f∈c.2.1,f≠[]):∀ w w' u (g:Nat),jF Y l E w u->w.heap[g]?=some (.cells #[.slice none 0 0,.slice none 0 0,.slice none 0 0,.bool false] 27 (0,0))->fS g w w'->w'.heap.size=w.heap.size->jF Y l E w' u:=by
 rintro w w' u g ⟨p,q,r,s,t,v,x,e,y,z⟩ A d m
 have h:=tM.of A
 refine⟨p,q,r,s,t,v,x,e,?_,?_⟩
 ·obtain⟨B,C,D,e,F,G,H⟩:=y
  rw[m]
  exact⟨B,C,D,e,F.boxK d h n,G.box d h.1,H.box d h.1⟩
 ·obtain⟨a,j,e,I,J,K⟩:=z
  rw[m]
  exact⟨a,j,e,I,J,λi c L=>by
   obtain⟨b,o,e,M,k⟩:=K i c L
   exact⟨b,o,e,M,d.cell h.1 k⟩⟩
def EV (kc ka:Nat) (E:Int) (k:Nat) (v:Value):Prop:=(k=kc->∃ a b c d e f h i j l m n o,v=.tuple #[.agg #[.slice a b c,.slice d e f,.slice h i j,.bool l],.slice m n o,.int .i64 E])/\(k=ka->∃ g:Nat,v=.pointer (some ⟨g,0,none⟩))
theorem xy (kc ka:Nat) (h:kc≠ka) (E:Int) (k:Nat):∃ v,EV kc ka E k v:=by
 by_cases a:k=kc
 ·exact⟨.tuple #[.agg #[.slice none 0 0,.slice none 0 0,.slice none 0 0,.bool false],.slice none 0 0,.int .i64 E],λ_=>⟨_,_,_,_,_,_,_,_,_,_,_,_,_,rfl⟩,λe=>absurd (a.symm.trans e) h⟩
 ·exact⟨.pointer (some ⟨0,0,none⟩),λe=>absurd e a,λ_=>⟨_,rfl⟩⟩
theorem jF.shape {Y:aq} {l:List Int} {E:Int} {w:World} {u:Value} (h:jF Y l E w u):∃ a m b c n d f o g p i j k,u=.tuple #[.agg #[.slice a m b,.slice c n d,.slice f o g,.bool p],.slice i j k,.int .i64 E]:=by
 obtain⟨s,t,v,x,i,j,k,e,q,y⟩:=h
 obtain⟨a,b,c,d,f,g,r,-,-⟩:=q.shape
 rw[r] at e
 exact⟨_,_,_,_,_,_,_,_,_,_,_,_,_,e⟩
theorem o8 {x:aq} (h:cg x=0):∀ c∈x.1,∀ f∈c.2.1,f≠[]:=by
 obtain⟨j,d,u⟩:=x
 cases u with
 | true=>
  obtain⟨l,e,-,-,-,k⟩:=q9 h rfl
  rw[e]
  exact Aj (kJ k)
 | false=>
  rw[my] at h
  by_cases a:az d=0
  ·rw[if_pos a] at h
   by_cases g:aA=j
   ·intro c b f i
    simp only[<-g] at b
    simp[aA,aV] at b
    rw[b] at i
    cases i
   ·rw[if_neg g] at h
    cases h
  ·rw[if_neg a] at h
   exact absurd h a
end Go.Proofs.YtnpdhopjpjickaaGreatDoor
end
