import Derived.Test.YtffnfdfjojidfaaGreatDoorWr38
set_option linter.all false
set_option maxRecDepth 100000
set_option maxHeartbeats 8000000
namespace Go.Proofs.YtffnfdfjojidfaaGreatDoor
open Go.RowKit Go.Maps Go.Proofs.Tryz
theorem bY{w:World}{b:Nat}{a c d e:Value}{T}(h:w.1[b]?=some (.cells #[a,c,d,e] T (0,0))):(w.cell? (pA b 0)=some a/\w.cell? (pA b 1)=some c/\w.cell? (pA b 2)=some d/\w.cell? (pA b 3)=some e)/\w.frozen? (pA b 0)=false/\w.frozen? (pA b 1)=false/\w.frozen? (pA b 2)=false/\w.frozen? (pA b 3)=false:=
 ⟨⟨J0 h,J1 h,J2 h,J3 h⟩,fZ h _,fZ h _,fZ h _,fZ h _⟩
def bi(B:Nat)(w:World)(v:Value)(x:aH):Prop:=∃a b c,v=.agg #[a,b,c,.bool x.2.2]/\aE B w a x.1/\aI B w b x.2.1.1/\aI B w c x.2.1.2
theorem bi.l{B B' w w' v x}(h:bi B w v x)(a:Below B' w w')(b:B<=B'):bi B w' v x:=by obtain⟨c,d,e,f,g,i,j⟩:=h;exact⟨c,d,e,f,g.l a b,i.l a b,j.l a b⟩
theorem bi.shape{B w v x}(h:bi B w v x):∃a b c d e f,v=.agg #[.slice a x.1.length b,.slice c x.2.1.1.length d,.slice e x.2.1.2.length f,.bool x.2.2]/\aE B w (.slice a x.1.length b) x.1/\cJ B w (.agg #[.slice c x.2.1.1.length d,.slice e x.2.1.2.length f]) x.2.1:=by obtain⟨n,o,p,rfl,g,i,j⟩:=h;obtain⟨a,b,k,-⟩:=id g;obtain⟨c,d,l,-⟩:=id i;obtain⟨e,f,m,-⟩:=id j;subst k l m;exact⟨a,b,c,d,e,f,rfl,g,_,_,rfl,i,j⟩
theorem gU(B v u x y w)(hx:bi B w v x)(hy:bi B w u y)(r:B<=w.1.size):
  cL 11 #[v,u] w (rT w (.bool (decide (x=y)))):=by
 obtain⟨T,V,H,I,J,K,rfl,hc,hd⟩:=hx.shape;obtain⟨n,o,g,i,j,k,rfl,z,A⟩:=hy.shape;have HC:=Z λf (h:bL w f)=>pX B _ _ x.1 y.1 f (hc.l h r) (z.l h r) (h.u r)
 have HD:=Z λf (h:bL w f)=>zX B _ _ x.2.1 y.2.1 f (hd.l h r) (A.l h r) (h.u r)
 clear hx hy hc hd z A;obtain⟨C,s,l⟩:=x;obtain⟨D,t,m⟩:=y;simp only at*
 have L:Hid (decide (((C,s,l):aH)=(D,t,m))=(decide (l=m)&&decide (C=D)&&decide (s=t))):=by
  unfold Hid;rw[LX];simp only[L9,KU,Prod.mk.injEq];constructor
  ·rintro⟨a,b,c⟩;exact⟨⟨c,a⟩,b⟩
  rintro⟨⟨c,a⟩,b⟩;exact⟨a,b,c⟩
 generalize decide (C=D)=sc' at*;generalize decide (s=t)=sd at*;generalize decide (((C,s,l):aH)=(D,t,m))=E at*;generalize C.length=W at*;generalize D.length=m2 at*;generalize s.1.length=M at*;generalize s.2.length=N at*;generalize t.1.length=O at*;generalize t.2.length=P at*;have Q:∀X Y,bL w ((w.alloc X).alloc Y):=λX Y=>(bR.alloc lE _).alloc (by simp) _
 have⟨R,d⟩:=nM ((w.alloc (.cells #[.slice T W V,.slice H M I,.slice J N K,.bool l] 27)).alloc (.cells #[.slice n m2 o,.slice g O i,.slice j P k,.bool m] 27));have p:bL w R:=by rw[d];exact Q _ _
 have g0:R.1[w.1.size]?=some (.cells #[.slice T W V,.slice H M I,.slice J N K,.bool l] 27 (0,0)):=by rw[d,Kq _ _ _ (by simp)];exact ah _ _
 have g1:R.1[w.1.size+1]?=some (.cells #[.slice n m2 o,.slice g O i,.slice j P k,.bool m] 27 (0,0)):=by rw[d];have:=ah (w.alloc (.cells #[.slice T W V,.slice H M I,.slice J N K,.bool l] 27)) (.cells #[.slice n m2 o,.slice g O i,.slice j P k,.bool m] 27);rw[Kg] at this;exact this
 by_cases S:l=m
 ·subst S;have e:=Z (by rw[L.o];simp:E=(sc'&&sd));have a3:=Z d;have F:=Z p;have HG:Hid (∀f,bL R f->f.cell? (pW w 1)=some (.slice H M I)/\f.cell? ⟨w.1.size,1+1,none⟩=some (.slice J N K)/\f.cell? (pA (w.1.size+1) 1)=some (.slice g O i)/\f.cell? ⟨w.1.size+1,1+1,none⟩=some (.slice j P k)):=λf h=>by have k0:=h.bl g0;have k1:=h.bl g1;exact⟨J1 k0,J2 k0,J1 k1,J2 k1⟩
  clear L d g0 g1 p Q
  cases l
  all_goals
   go_enter func11,ntmps11;go_wp2_with fail;rw[<-a3.o];go_at_call 24;refine(HC.o _ F.o).mono ?_;rintro e2 w2 ⟨rfl,G⟩;have⟨q1,q2,q3,q4⟩:=HG.o w2 G;have q:=F.o.th G
   cases sc' with
   |false=>
    go_wp2_with fail;go_ret;exact⟨by rw[e.o];rfl,q⟩
   |true=>
    go_wp2_with fail;go_at_call 32;refine(HD.o _ q).mono ?_;rintro e3 w3 ⟨rfl,a4⟩;have a5:=q.th a4;go_wp2_with fail;go_ret;exact⟨by rw[e.o];simp,a5⟩
 have e:=Z (by rw[L.o];simp[S]:E=false);clear L HC HD d g0 g1 p
 cases l<;>cases m
 ·exact absurd rfl S
 ·go_enter func11,ntmps11;go_wp2;go_ret;exact⟨by rw[e.o];rfl,Q _ _⟩
 ·go_enter func11,ntmps11;go_wp2;go_ret;exact⟨by rw[e.o];rfl,Q _ _⟩
 exact absurd rfl S
def kG(K:Nat->Prop)(w:World)(v:Value)(x:aH):Prop:=∀a,Kx K w a->bi a.1.size a v x
theorem kG.l{K a:Nat->Prop}{w w' v x}(h:kG K w v x)(b:bL w w')(c:∀k,k<w.1.size->a k->K k):kG a w' v x:=λd e=>h d (e.back b c)
theorem kG.cells{K:Nat->Prop}{w}{cv sv tv:Value}{u x}(h:kG K w (.agg #[cv,sv,tv,.bool u]) x):kn K w cv x.1:=λa b=>by obtain⟨c,s,t,e,d,-,-⟩:=h a b;simp at e;obtain⟨rfl,-⟩:=e;exact d
theorem jX(K:Nat->Prop)(w):kG K w (.agg #[nL,nL,nL,.bool false]) fg:=λ_ _=>⟨_,_,_,rfl,eZ _ _,⟨none,0,rfl,Ke _,Ks _,λi b h=>by simp[fg] at h⟩,⟨none,0,rfl,Ke _,Ks _,λi b h=>by simp[fg] at h⟩⟩
theorem Hg{K:Nat->Prop}{B w v bs}(h:aI B w v bs)(j:∀k,K k->FT k w):∀c,Kx K w c->aI c.1.size c v bs:=λc l=>by
 obtain⟨a,d,m,p,q,r⟩:=h;refine⟨a,d,m,p,q,λi b s=>?_⟩;obtain⟨g,o,e,-,f⟩:=r i b s
 have t:¬K g:=λu=>by
  have⟨n,e⟩:=(j g u).cell f
  cases e
 have:=l.cell t f;exact⟨g,o,e,KE _ _ this,this⟩
theorem zK{K:Nat->Prop}{B B' w cv sv tv}{x:aH}(d:kn K w cv x.1)(e:aI B w sv x.2.1.1)(f:aI B' w tv x.2.1.2)(c:∀k,K k->FT k w):kG K w (.agg #[cv,sv,tv,.bool x.2.2]) x:=λa b=>⟨_,_,_,rfl,d a b,Hg e c a b,Hg f c a b⟩
theorem uT{K:Nat->Prop}{w w':World}(h:lZ K w.1.size w)(b:∀k,K k->k<w.1.size)(c:bL w w'):∀k,K k->FT k w':=λk a=>by
 rcases h k a with h|h
 ·exact h.l c
 exact absurd (b k a) (by omega)
def om(w:World)(k:Nat):Prop:=gw w k/\∀o a n c,w.cell? ⟨k,o,none⟩=some (.slice a n c)->n=0
theorem om.of{w:World}{k:Nat}{u T}{f:Nat × Nat}(h:w.1[k]?=some (.cells #[nL,nL,nL,.bool u] T f)):om w k:=by
 have d:∀o v,w.cell? ⟨k,o,none⟩=some v->v=nL\/v=.bool u:=by
  intro o v b;have e:w.cell? ⟨k,o,none⟩=(#[nL,nL,nL,.bool u]:Array Value)[o]?:=by simp[World.cell?,h]
  rw[e] at b
  match o,b with
  |0,b=>simp at b;exact .inl b.symm
  |1,b=>simp at b;exact .inl b.symm
  |2,b=>simp at b;exact .inl b.symm
  |3,b=>simp at b;exact .inr b.symm
  |o+4,b=>simp at b
 refine⟨λo K x e=>?_,λo a n c e=>?_⟩
 ·rcases d o _ e with e|e<;>cases e
 rcases d o _ e with e|e
 ·cases e;rfl
 cases e
theorem xC{B k w w' v p}(h:aX B w v p)(d:iE k w w')(f:gw w k):aX B w' v p:=by obtain⟨n,e,q,a,l,s,t,u,x⟩:=h;refine⟨n,e,q,a,l,s,t,u,λi r y=>?_⟩;have⟨b,o,z,A,C,D,m,E,F,g,G,H,I,J⟩:=x i r y;refine⟨b,o,z,A,C,d.near f m D,d.cell f m,E,F,g,G,H,I,λj c K=>?_⟩;have⟨L,M,N,O,P,Q,R,S⟩:=J j c K;exact⟨L,M,N,O,d.cell f P,d.cell f Q,d.cell f R,S⟩
theorem tU{B k w w' v f}(h:dR B w v f)(d:iE k w w')(e:gw w k):dR B w' v f:=by
 obtain⟨a,g,l,m,n,p⟩:=h;refine⟨a,g,l,m,n,λi c q=>?_⟩;have⟨b,o,r,s,j⟩:=p i c q;refine⟨b,o,r,s,?_⟩
 unfold lm at j |-
 obtain⟨t,u,x,y,z⟩:=j;exact⟨d.cell e t,d.cell e u,d.cell e x,d.cell e y,z⟩
theorem Cy{B k w w' v ls}(h:cD B w v ls)(g:iE k w w')(j:om w k)(n:∀f∈ls,f≠[]):cD B w' v ls:=by
 obtain⟨a,c,p,q,r,s⟩:=h;refine⟨a,c,p,q,r,λi f l=>?_⟩;have⟨b,o,t,u,x,d,m⟩:=s i f l;refine⟨b,o,t,u,x,?_,tU m g j.1⟩;have y:b≠k:=by rintro rfl;obtain⟨z,A,e,-⟩:=m;rw[e] at d;have:=j.2 _ _ _ _ d;exact n f (Kb l) (LA.1 this)
 rw[<-d];simp[World.cell?,g b y]
theorem aE.boxK{B k w w' v l}(h:aE B w v l)(d:iE k w w')(e:om w k)(n:∀c∈l,∀f∈c.2.1,f≠[]):aE B w' v l:=by obtain⟨a,j,p,q,r,s⟩:=h;refine⟨a,j,p,q,r,λi c m=>?_⟩;have⟨b,o,t,u,x,y,z,A,C,g,D,E⟩:=s i c m;exact⟨b,o,t,u,x,y,d.near e.1 g z,d.near e.1 g A,d.near e.1 g C,d.cell e.1 g,Cy D d e (n c (Kb m)),xC E d e.1⟩
theorem mN{l}(h:mM l):∀c∈l,∀f∈c.2.1,f≠[]:=by
 intro c d f b;have a:=h.2 c d
 cases ho:c.1 with
 |false=>
  have:=zt a.1 ho;rw[this] at b
  cases b
 |true=>
  have e:=(fA.1 (sj a.1 ho).1).2 f b;rintro rfl
  revert e
  decide
theorem kn.box{K:Nat->Prop}{w m:World}{v l}{a:Nat}{u T}{n:Nat × Nat}(h:kn K w v l)(j:w.1[a]?=some (.cells #[nL,nL,nL,.bool u] T n))(L:¬K a)(o:∀g,g≠a->m.1[g]?=w.1[g]?)(p:m.1.size=w.1.size)(q:Below 0 w m)(C:∀c∈l,∀f∈c.2.1,f≠[]):kn K m v l:=by
 intro e y;have D:a<w.1.size:=(KK.1 j).1;have r:a<e.1.size:=Kd D (by rw[<-p];exact y.size);obtain⟨b,i⟩:∃b:World,b={ e with heap:=e.heap.setIfInBounds a (.cells #[nL,nL,nL,.bool u] T n) }:=⟨_,rfl⟩;have z:b.1[a]?=some (.cells #[nL,nL,nL,.bool u] T n):=by rw[i];simp[KC,r]
 have A:∀g,g≠a->b.1[g]?=e.1[g]?:=λg s=>by rw[i];simp[KC,LQ s]
 have B:b.1.size=e.1.size:=by rw[i];simp
 have t:Kx K w b:=by
  obtain⟨⟨E,F,G,H,-⟩,x⟩:=y;refine⟨⟨?_,?_,?_,?_,λk o=>absurd o (Nat.not_lt_zero k)⟩,λk I J=>?_⟩
  ·rw[i];exact E.trans q.os
  ·rw[i];exact F.trans q.tape
  ·rw[i];exact G.trans q.output
  ·rw[B,<-p];exact H
  by_cases d:k=a
  ·subst d;rw[z,j]
  rw[A k d,x k I (by rw[p];exact J),o k d]
 have:=(h b t).boxK (k:=a) (w':=e) (λg s=>(A g s).symm) (om.of z) C;rw[B] at this;exact this
theorem CO(B w):dh B w nL []:=⟨none,0,rfl,Ke _,by rw[ai];omega,λi r h=>by simp at h⟩
theorem py(B v x w)(he:dD w)(hx:bi B w v x)(X:B<=w.1.size):
  cL 7 #[v] w (rT w (U (cr x))):=by
 obtain⟨ca,cc,sa,sc,ta,tc,rfl,hc,hd⟩:=hx.shape;obtain⟨f,d,u⟩:=x;simp only at*;have s:Hid (∀b,bL w b->cL 21 #[.agg #[.slice sa d.1.length sc,.slice ta d.2.length tc]] b (rT b (U (aB d)))):=λb h=>qy B _ d b (he.l h) (hd.l h X) (h.u X)
 have t:Hid (aB d=0->∀b,bL w b->cL 22 #[.agg #[.slice sa d.1.length sc,.slice ta d.2.length tc]] b λe g=>∃a1 n1 c1 a2 n2 c2 la ln lc,e=.returned (.tuple #[.agg #[.slice a1 n1 c1,.slice a2 n2 c2],.slice la ln lc])/\dh g.1.size g (.slice la ln lc) (cK d)/\bL b g):=λh0 b h=>by
  have hl:=dE h0;refine(xN B _ d b (he.l h) (hd.l h X) (h.u X) hl.1 hl.2.1).mono λe g ⟨dv,F,M,Y,h3,h4⟩=>?_
  obtain⟨s1,t1,ed,k1,k2⟩:=Y;obtain⟨a1,c1,es,-⟩:=k1;obtain⟨a2,c2,et,-⟩:=k2;obtain⟨la,lc,el,-⟩:=id h3;subst es et ed el;refine⟨_,_,_,_,_,_,la,_,lc,M,?_,h4⟩;have e:cK d=iF d:=by unfold cK;rw[Io h0]
  rw[e];exact h3
 have y:Hid (∀ (C:Nat) (F:Value) (rs:List az) b,dh C b F rs->C<=b.1.size->cL 23 #[F] b λe g=>∃a n c,e=.returned (.tuple #[.slice a n c,U (ay rs).2])/\aE g.1.size g (.slice a n c) (ay rs).1/\bL b g):=λC F rs b M Y=>by
  refine(Am C F rs b M Y).mono λe g ⟨v,M,Y,h3⟩=>?_
  obtain⟨a,c,ev,-,-⟩:=Y.shape;subst ev;exact⟨a,_,c,M,Y,h3⟩
 have o:Hid (∀ (F:Value) (ls:List aG) b,bL w b->aE b.1.size b F ls->cL 24 #[F,.slice ca f.length cc] b (rT b (.bool (decide (ls=f))))):=λF ls b h M=>pX b.1.size _ _ ls f b M ((hc.l h X).wide (h.u X)) lE
 have N:Hid (d.2=[] ↔ d.2.length=0):=LA.symm;have HU:Hid (cr (f,d,true)=if aB d=0 then (if d.2≠[] then 4 else if (ay (cK d)).2=0 then (if (ay (cK d)).1=f then 0 else 4) else (ay (cK d)).2) else aB d):=uO f d;have HD:Hid (cr (f,d,false)=if aB d=0 then (if (ay []).2=0 then (if (ay []).1=f then 0 else 4) else (ay []).2) else aB d):=ng f d;clear hc hd hx he;have⟨nC,O⟩:=nM (f.length);have⟨nS,P⟩:=nM (d.1.length);have⟨nT,G⟩:=nM (d.2.length);rw[<-P,<-G] at s t;rw[<-O] at o;rw[<-G] at N;rw[<-O,<-P,<-G];clear O P G;have⟨W0,H⟩:=nM (w.alloc (.cells #[.slice ca nC cc,.slice sa nS sc,.slice ta nT tc,.bool u] 27));have Q:=bA H;have g0:=hA H;have HG:Hid (∀b,bL W0 b->b.cell? (pA w.1.size 0)=some (.slice ca nC cc)/\b.cell? (pA w.1.size 1)=some (.slice sa nS sc)/\b.cell? (pA w.1.size 2)=some (.slice ta nT tc)/\b.cell? (pA w.1.size 3)=some (.bool u)/\w.1.size<b.1.size/\bL w b):=λb h=>by have k:=h.bl g0;exact⟨J0 k,J1 k,J2 k,J3 k,io k,Q.th h⟩
 have R:=Z H;have S:=Z Q;clear H g0 Q;generalize aB d=de at*
 by_cases z:de=0
 ·subst z;have A:=t.o rfl;have l:Hid _:=A
  cases u with
  |false=>
   have p:Hid (cr (f,d,false)=if (ay []).2=0 then (if (ay []).1=f then 0 else 4) else (ay []).2):=by unfold Hid;rw[HD.o,Io rfl]
   clear HD HU t A l N;go_enter func7,ntmps7;go_wp2_with fail;rw[<-R.o];go_at_call 21;refine Calls.mono (s.o _ S.o) ?_;rintro e K ⟨rfl,j⟩;have⟨q0,q1,q2,q3,l1,D⟩:=HG.o K j;have ad:Hid _:=y.o K.1.size nL [] K (CO _ _) lE;go_wp2_with fail;go_at_call 23;refine Calls.mono ad.o ?_;rintro e w2 ⟨ra,rn,rc,rfl,ae,T⟩;have m:=j.th T;have⟨p0,p1,p2,p3,l2,V⟩:=HG.o w2 m;have af:Hid _:=o.o _ _ w2 V ae
   rw[show (ay []).2=0 from rfl] at p |-
   rw[Io rfl] at p;clear q0 q1 q2 q3 ae;go_wp2_with fail;go_at_call 24;refine Calls.mono af.o ?_;rintro e w3 ⟨rfl,W⟩;have q:bL w w3:=V.th W
   by_cases r:(ay []).1=f
   ·have e:Hid (cr (f,d,false)=0):=by unfold Hid;rw[p.o,Io r]
    rw[KS r];clear r p;go_wp2_with fail;go_ret;exact⟨by rw[e.o];rfl,q⟩
   have e:Hid (cr (f,d,false)=4):=by unfold Hid;rw[p.o,iO r]
   rw[KD r];clear r p;go_wp2_with fail;go_ret;exact⟨by rw[e.o];rfl,q⟩
  |true=>
   have I:Hid (cr (f,d,true)=if d.2≠[] then 4 else if (ay (cK d)).2=0 then (if (ay (cK d)).1=f then 0 else 4) else (ay (cK d)).2):=by unfold Hid;rw[HU.o,Io rfl]
   clear HD HU t A;go_enter func7,ntmps7;go_wp2_with fail;rw[<-R.o];go_at_call 21;refine Calls.mono (s.o _ S.o) ?_;rintro e K ⟨rfl,j⟩;have⟨q0,q1,q2,q3,l1,D⟩:=HG.o K j
   by_cases ht:nT=0
   case neg=>
    have e:Hid (cr (f,d,true)=4):=by unfold Hid;rw[I.o,Io (λe=>ht (N.o.1 e))]
    have h0:(0:Int)<(nT:Int):=by omega
    clear ht I l y o N;go_wp2_with fail;go_ret;exact⟨by rw[e.o];rfl,D⟩
   have i:Hid (cr (f,d,true)=if (ay (cK d)).2=0 then (if (ay (cK d)).1=f then 0 else 4) else (ay (cK d)).2):=by unfold Hid;rw[I.o,iO (λe=>e (N.o.2 ht))]
   subst ht;have bF:K.cell? ⟨w.1.size,1+1,none⟩=some (.slice ta 0 tc):=q2;clear I N;go_wp2_with fail;go_at_call 22;refine Calls.mono (l.o _ D) ?_;rintro e w2 ⟨a1,n1,c1,a2,n2,c2,la,ln,lc,rfl,ak,T⟩;have m:=j.th T;have E:Hid _:=y.o w2.1.size _ _ w2 ak lE;have⟨p0,p1,p2,p3,l2,V⟩:=HG.o w2 m;have⟨RS,al⟩:=nM (cK d);rw[<-al] at E i;clear q0 q1 q2 bF q3 ak al l s;go_wp2_with fail;go_at_call 23;refine Calls.mono E.o ?_;rintro e w3 ⟨ra,rn,rc,rfl,ao,W⟩;have av:=m.th W;clear p0 p1 p2 p3;have⟨p0,p1,p2,p3,l3,q⟩:=HG.o w3 av;have L:Hid _:=o.o _ _ w3 q ao;clear ao o y E;generalize (ay RS).2=re at*;generalize (ay RS).1=c3 at*
   by_cases J:re=0
   ·subst J;rw[Io rfl] at i;go_wp2_with fail;go_at_call 24;refine Calls.mono L.o ?_;rintro e w4 ⟨rfl,c4⟩;have b0:bL w w4:=q.th c4
    by_cases r:c3=f
    ·have e:Hid (cr (f,d,true)=0):=by unfold Hid;rw[i.o,Io r]
     rw[KS r];clear r i;go_wp2_with fail;go_ret;exact⟨by rw[e.o];rfl,b0⟩
    have e:Hid (cr (f,d,true)=4):=by unfold Hid;rw[i.o,iO r]
    rw[KD r];clear r i;go_wp2_with fail;go_ret;exact⟨by rw[e.o];rfl,b0⟩
   have e:Hid (cr (f,d,true)=re):=by unfold Hid;rw[i.o,iO J]
   have hq:(re==0)=false:=by simpa using J
   clear J i L;go_wp2_with fail;go_ret;exact⟨by rw[e.o];rfl,q⟩
 have e:Hid (cr (f,d,u)=de):=by
  unfold Hid
  cases u
  ·rw[HD.o,iO z]
  rw[HU.o,iO z]
 have hq:(de != 0)=true:=by simpa using z
 clear HU HD t y o N z;go_enter func7,ntmps7;go_wp2_with fail;rw[<-R.o];go_at_call 21;refine Calls.mono (s.o _ S.o) ?_;rintro e2 K ⟨rfl,j⟩;have⟨q0,q1,q2,q3,l1,D⟩:=HG.o K j;go_wp2_with fail;go_ret;exact⟨by rw[e.o];rfl,D⟩
theorem ga(B w):bi B w (.agg #[nL,nL,nL,.bool false]) fg:=⟨_,_,_,rfl,eZ _ _,ip _ _,ip _ _⟩
theorem mH(e w):cL 34 #[U e] w λr a=>r=.returned (.tuple #[.agg #[nL,nL,nL,.bool false],U e])/\bL w a:=by have b:bL w (w.alloc (.cells #[nL,nL,nL,.bool false] 27)):=bR.alloc lE _;have c:=ah w (.cells #[nL,nL,nL,.bool false] 27);obtain⟨⟨d,f,g,h⟩,-⟩:=bY c;go_enter func34,ntmps34;go_wp2;refine Ka (v:=.tuple #[.agg #[nL,nL,nL,.bool false],U e]) ?_ rfl ⟨rfl,b⟩;rw[K8 rfl];go_simp
def sU(w:World)(a b:Array Value):World:=((w.alloc (.cells a 27)).alloc (.cells b 32)).alloc (.cells #[nL,nL,nL,.bool false] 27)
theorem lF(w a b):bL w (sU w a b)/\(sU w a b).1[w.1.size]?=some (.cells a 27 (0,0))/\(sU w a b).1[w.1.size+1]?=some (.cells b 32 (0,0))/\(sU w a b).1[w.1.size+1+1]?=some (.cells #[nL,nL,nL,.bool false] 27 (0,0)):=by
 unfold sU;refine⟨((bR.alloc lE _).alloc (by simp) _).alloc (by simp;omega) _,?_,?_,?_⟩
 ·rw[Kq _ _ _ (by simp;omega),Kq _ _ _ (by simp)];exact ah _ _
 ·rw[Kq _ _ _ (by simp)];have:=ah (w.alloc (.cells a 27)) (.cells b 32);rw[Kg] at this;exact this
 have:=ah ((w.alloc (.cells a 27)).alloc (.cells b 32)) (.cells #[nL,nL,nL,.bool false] 27);rw[Kg,Kg] at this;exact this
abbrev s9(b c:Value)(x:aH)(y:az)(w:World):Prop:=cL 14 #[b,c] w λe a=>∃v,e=.returned (.tuple #[v,U (aQ x y)])/\bi a.1.size a v (bP x y)/\bL w a/\∀K:Nat->Prop,(∀k,K k->k<w.1.size)->lZ K w.1.size w->kG K w b x->wU K w c y->kG K a v (bP x y)
theorem zv(B wv xv x y w)(hx:bi B w wv x)(hy:cI B w xv y)(hB:B<=w.1.size)(a:(y.1<1\/7<y.1)\/x.2.2=decide (y.1=6)):s9 wv xv x y w:=by
 obtain⟨N,O,P,Q,R,S,rfl,hc,hd⟩:=hx.shape;obtain⟨T,V,rfl,hp⟩:=hy.shape;obtain⟨H,⟨s,t⟩,u⟩:=x;obtain⟨k,c,f,I,d⟩:=y;simp only at*;clear hc hd hp hx hy;have⟨E,W⟩:=nM (aQ (H,(s,t),u) (k,c,f,I,d))
 have z:Hid (aQ (H,(s,t),u) (k,c,f,I,d)=E/\bP (H,(s,t),u) (k,c,f,I,d)=fg):=by
  refine⟨W.symm,?_⟩;unfold bP;rw[iO];unfold aQ;simp only
  by_cases b:k<1\/7<k
  ·rw[Io b];decide
  rw[iO b]
  rcases a with h|h
  ·exact absurd h b
  rw[Io h];decide
 have j:Hid (if k<1\/7<k then E=4 else E=6):=by
  unfold Hid;rw[W];unfold aQ;simp only
  by_cases b:k<1\/7<k
  ·rw[Io b,Io b]
  rw[iO b,iO b]
  rcases a with h|h
  ·exact absurd h b
  rw[Io h]
 clear W;generalize H.length=X at*;generalize s.length=Y at*;generalize t.length=nT at*;generalize I.length=nP at*;have⟨n,J,L,g2⟩:=lF w #[.slice N X O,.slice P Y Q,.slice R nT S,.bool u] #[U k,U c,U f,.slice T nP V,U d];have⟨WX,o⟩:=nM (sU w #[.slice N X O,.slice P Y Q,.slice R nT S,.bool u] #[U k,U c,U f,.slice T nP V,U d]);rw[<-o] at n J L g2;have A:Hid (WX=((w.alloc (.cells #[.slice N X O,.slice P Y Q,.slice R nT S,.bool u] 27)).alloc (.cells #[U k,U c,U f,.slice T nP V,U d] 32)).alloc (.cells #[nL,nL,nL,.bool false] 27)):=(o);have q3:=(bY J).1.2.2.2;have r0:=(aF L).1;have l0:=io J;have l1:=io L;have G2:=Z g2;have C:=Z n;clear o n J L g2
 by_cases b:k<1\/7<k
 ·have p:Hid (∀l,cL 35 #[U k,U 1,U 7] l λe q=>e=.returned (.bool false)/\q=l):=λl=>xm (by omega) l
  have e4:Hid (E=4):=by have:=j.o;rw[Io b] at this;exact this
  clear b a j;go_enter func14,ntmps14;go_wp2_with fail;rw[<-A.o];go_at_call 35;refine(p.o _).mono ?_;rintro e w2 ⟨rfl,rfl⟩;go_wp2_with fail;go_at_call 34;refine(mH 4 _).mono ?_;rintro e w3 ⟨rfl,g⟩;have m:=g.bl G2.o;have⟨⟨z0,z1,z2,z3⟩,f0,f1,f2,f3⟩:=bY m;have lb:=io m;have i:=C.o.th g;have G3:=Z m;have r:=Z i;clear g m i;go_wp2_with fail;obtain⟨D,-,k3,F⟩:=eK (u0:=nL) (u1:=nL) (u2:=nL) (u3:=.bool false) G3.o;obtain⟨⟨y0,y1,y2,y3⟩,-⟩:=bY D;refine Ka (v:=.tuple #[.agg #[nL,nL,nL,.bool false],U 4]) ?_ rfl ⟨_,by rw[z.o.1,e4.o],by rw[z.o.2];exact ga _ _,r.o.trans (F _ (by omega)),λK _ _ _ _=>by rw[z.o.2];exact jX _ _⟩;rw[K8 rfl];clear D k3 F;go_simp
 have p:Hid (∀l,cL 35 #[U k,U 1,U 7] l λe q=>e=.returned (.bool true)/\q=l):=λl=>mt (by omega) l
 have e6:Hid (E=6):=by have:=j.o;rw[iO b] at this;exact this
 have hu:u=decide (k=6):=by
  rcases a with h|h
  ·exact absurd h b
  exact h
 clear b a j
 by_cases M:k=6
 all_goals
  first|(have G:u=true:=by rw[hu];simp[M])|(have G:u=false:=by rw[hu];simp[M])
  subst G
  first|subst M|(have bb:(k != 6)=true:=by simpa using M)
  clear hu;go_enter func14,ntmps14;go_wp2_with fail;rw[<-A.o];go_at_call 35;refine(p.o _).mono ?_;rintro e w2 ⟨rfl,rfl⟩;go_wp2_with fail;go_at_call 34;refine(mH 6 _).mono ?_;rintro e w3 ⟨rfl,g⟩;have m:=g.bl G2.o;have⟨⟨z0,z1,z2,z3⟩,f0,f1,f2,f3⟩:=bY m;have lb:=io m;have i:=C.o.th g;have G3:=Z m;have r:=Z i;clear g m i;go_wp2_with fail;obtain⟨D,-,k3,F⟩:=eK (u0:=nL) (u1:=nL) (u2:=nL) (u3:=.bool false) G3.o;obtain⟨⟨y0,y1,y2,y3⟩,-⟩:=bY D;refine Ka (v:=.tuple #[.agg #[nL,nL,nL,.bool false],U 6]) ?_ rfl ⟨_,by rw[z.o.1,e6.o],by rw[z.o.2];exact ga _ _,r.o.trans (F _ (by omega)),λK _ _ _ _=>by rw[z.o.2];exact jX _ _⟩;rw[K8 rfl];clear D k3 F;go_simp
theorem rR{w}{x:az}(h:lC w x=0):cr w=0/\aQ w x=0/\oA w x=gK w x:=by
 have b:=h;unfold lC at h
 by_cases a:cr w=0
 ·rw[Io a] at h;refine⟨a,h,?_⟩;unfold oA bP;rw[Io b,Io h]
 rw[iO a] at h;exact absurd h a
theorem kB{w}{x:az}(h:aQ w x=0):(1<=x.1/\x.1<=7)/\w.2.2≠decide (x.1=6)/\(x.1=6->(ay (cK w.2.1)).2=0)/\(x.1≠5->x.1≠6->cQ w.1 (bU x)=0/\f8 w.2.1 (bU x)=0/\(x.1≠7->fm (fu w.2.1 (bU x))=0)):=by
 unfold aQ at h
 by_cases d:x.1<1\/7<x.1
 ·rw[Io d] at h;cases h
 rw[iO d] at h
 by_cases c:w.2.2=decide (x.1=6)
 ·rw[Io c] at h;cases h
 rw[iO c] at h;refine⟨by omega,c,λe=>?_,λf g=>?_⟩
 ·rw[iO (by omega),Io e] at h;exact h
 rw[iO f,iO g] at h
 by_cases a:cQ w.1 (bU x)=0
 ·rw[Io a] at h
  by_cases b:f8 w.2.1 (bU x)=0
  ·rw[Io b] at h;refine⟨a,b,λi=>?_⟩;rw[iO i] at h;exact h
  rw[iO b] at h;exact absurd h b
 rw[iO a] at h;exact absurd h a
theorem GI{w:aH}{x:az}(h:w.2.2≠decide (x.1=6))(a:x.1≠6):w.2.2=true:=by
 cases hw:w.2.2 with
 |true=>rfl
 |false=>rw[hw] at h;simp[a] at h
theorem Jf{w}{x:az}(h:lC w x=0)(l:x.1≠5)(d:x.1≠6)(m:x.1≠7):∃a,yh w a/\cQ w.1 (bU x)=0/\yh (oA w x) (a++[bU x])/\(oA w x).1=dI w.1 (bU x):=by
 have⟨z,A,n⟩:=rR h;obtain⟨-,B,-,C⟩:=kB A;have⟨f,o,b⟩:=C l d;have b:=b m;have⟨a,p⟩:=x8 z (GI B d);obtain⟨rfl,g,q,i,j⟩:=id p
 simp only at f o b n |-
 have⟨r,s,t,u⟩:=CV g q i o;rw[t] at b;have⟨k,D⟩:=Iq g q r s u;rw[b] at k
 have v:a.length+1<=40:=by
  apply L8;intro e;rw[iO e] at k
  cases k
 have c:=BP v j f;have y:oA ((ay a).1,(bZ a,[]),true) x=(dI (ay a).1 (bU x),(bZ (a++[bU x]),[]),true):=by rw[n];unfold gK;rw[iO l,iO d,iO m];simp only;rw[t,D v]
 refine⟨a,p,f,⟨by rw[y,c],z9 g r s,by simp;omega,by rw[j7,Kj];exact u,by rw[c]⟩,by rw[y]⟩
theorem IJ{w:aH}{x:az}(h:lC w x=0)(z:x.1=7):∃a,yh w a/\cQ w.1 (bU x)=0/\(oA w x).1=aA/\(oA w x).2.2=false/\aB (oA w x).2.1=0/\
  (cK (oA w x).2.1=a/\gE (oA w x).2.1=(bZ a,[])\/a.length+1<=40/\cK (oA w x).2.1=a++[bU x]/\gE (oA w x).2.1=(bZ (a++[bU x]),[])/\aZ (bU x)=0/\(aU (bU x)).length<=60000/\(bZ a).length+(aU (bU x)++[10]).length<=60000/\f8 w.2.1 (bU x)=0):=by
 have⟨A,B,r⟩:=rR h;obtain⟨-,C,-,g⟩:=kB B;obtain⟨s,i,-⟩:=g (by omega) (by omega);obtain⟨a,u⟩:=x8 A (GI C (by omega));obtain⟨rfl,c,d,j,D⟩:=id u
 simp only at s i r |-
 have⟨f,v,E,F⟩:=CV c d j i;have⟨m,G⟩:=nM (ig x.2.2.1 (aU (bU x)++[10]).length);have H:oA ((ay a).1,(bZ a,[]),true) x=(aA,(bZ a,(aU (bU x)++[10]).take m),false):=by rw[r];unfold gK;rw[iO (by omega),iO (by omega),Io z];simp only;rw[E,G]
 rw[H]
 have b:(bZ a).length+((aU (bU x)++[10]).take m).length<=60000:=by
  have:((aU (bU x)++[10]).take m).length<=(aU (bU x)++[10]).length:=by rw[Kt];omega
  omega
 have l:=gN (t:=(aU (bU x)++[10]).take m) c d b;refine⟨a,u,s,rfl,rfl,l,?_⟩;have I:cK (bZ a,(aU (bU x)++[10]).take m)=a++(aM (40-a.length) ((aU (bU x)++[10]).take m)).1:=by unfold cK iF mu;rw[Io l];simp only;rw[pI c d]
 have J:gE (bZ a,(aU (bU x)++[10]).take m)=(bZ a++((aU (bU x)++[10]).take m).take (aM (40-a.length) ((aU (bU x)++[10]).take m)).2.1,[]):=by unfold gE jB mu;rw[Io l];simp only;rw[pI c d]
 rw[I,J]
 by_cases n:m<=(aU (bU x)).length
 ·
  left;have o:(aU (bU x)++[10]).take m=(aU (bU x)).take m:=List.take_append_of_le_length n;rw[o];have p:(10:UInt8) ∉ (aU (bU x)).take m:=λe=>zr f (KZ e)
  by_cases y:(aU (bU x)).take m=[]
  ·rw[y,jJ];simp
  rw[oT _ _ p y];simp
 have o:(aU (bU x)++[10]).take m=aU (bU x)++10 :: []:=by rw[Ki (by simp;omega)]
 rw[o,jZ _ _ _ (zr f),wH f v,Io rfl]
 by_cases q:a.length+1<=40
 ·right;obtain⟨k,g⟩:∃k,40-a.length=k+1:=⟨39-a.length,by omega⟩;rw[g];simp only;rw[jJ];refine⟨q,by simp,?_,f,v,F,i⟩;rw[j7,Ki (by simp)]
 left;rw[show 40-a.length=0 by omega];simp
theorem Hm{w}{x:az}(h:lC w x=0)(c:x.1=5):∃a,yh w a/\oA w x=(aA,(bZ a,[]),false):=by have⟨d,e,f⟩:=rR h;obtain⟨-,g,-,-⟩:=kB e;obtain⟨a,b⟩:=x8 d (GI g (by omega));refine⟨a,b,?_⟩;obtain⟨rfl,-⟩:=id b;rw[f];unfold gK;rw[Io c]
theorem Iv{w}{x:az}(h:lC w x=0)(c:x.1=6):w.2.2=false/\yh (oA w x) (cK w.2.1):=by
 have⟨d,i,j⟩:=rR h;obtain⟨-,g,k,-⟩:=kB i;have e:=k c
 have l:w.2.2=false:=by
  cases hv:w.2.2 with
  |false=>rfl
  |true=>rw[hv] at g;simp[c] at g
 have a:aB w.2.1=0:=by
  unfold cr at d
  by_cases a:aB w.2.1=0
  ·exact a
  rw[iO a] at d;exact d
 have⟨p,b,m,n,o,f⟩:=FF a;refine⟨l,?_,by rw[b];exact n,by rw[b];exact o,by rw[b];exact f,e⟩;rw[j];unfold gK;rw[iO (by omega),Io c,m,b]
theorem Ce{w}{x:az}(h:lC w x=0):cr (oA w x)=0:=by
 by_cases f:x.1=5
 ·obtain⟨g,⟨-,m,n,d,-⟩,e⟩:=Hm h f;rw[e];exact vu _ (gN m n (by simpa using d))
 by_cases d:x.1=6
 ·exact(Iv h d).2.right
 by_cases i:x.1=7
 ·obtain⟨g,-,-,j,k,l,-⟩:=IJ h i;generalize oA w x=y at*;obtain⟨a,b,c⟩:=y;simp only at j k l;subst j k;exact vu _ l
 obtain⟨g,-,-,o,-⟩:=Jf h f d i;exact o.right
def xp(s:aH × List Int)(x:az):aH × List Int:=(if lC s.1 x=0 then oA s.1 x else s.1,s.2++[lC s.1 x])
def fk(w:aH)(l:List az):aH × List Int:=l.foldl xp (w,[])
def qU(w:aH)(l:List az):Int:=if cr w=0 then (if 60<l.length then 2 else 0) else cr w
def nz(w:aH)(l:List az):aH:=if qU w l=0 then (fk w l).1 else fg
def qV(w:aH)(l:List az):List Int:=if qU w l=0 then (fk w l).2 else []
theorem yC(w)(a:List az)(x:az):fk w (a++[x])=xp (fk w a) x:=by unfold fk;rw[Mu];rfl
theorem Fe{w:aH}(h:cr w=0):∀ (l:List az),cr (fk w l).1=0:=by
 have a:∀ (l:List az) (s:aH × List Int),cr s.1=0->cr (l.foldl xp s).1=0:=by
  intro l
  induction l with
  |nil=>exact λs h=>h
  |cons x l b=>
   intro s c;refine b _ ?_;show cr (if lC s.1 x=0 then oA s.1 x else s.1)=0
   split
   ·rename_i d;exact Ce d
   exact c
 exact λl=>a l (w,[]) h
def Eb(w:aH):List aG:=(ay (cK w.2.1)).1
def kp(w:aH)(c:Int)(x:Nat->Int):Int:=if cr w=0 then (if c<0\/3<c then 5 else if (bW w.1 c).1=true then mQ (bW w.1 c).2.1 x else 6) else cr w
def qu(w:aH)(c:Int)(x:Nat->Int):Int:=if kp w c x=0 then t6 (bW w.1 c).2.1 x else 0
theorem yh.stored{w rs}(h:yh w rs):Eb w=w.1/\cK w.2.1=rs/\(ay rs).2=0/\mM w.1:=by obtain⟨rfl,b,c,d,a⟩:=h;have e:=(qQ b c d).1;exact⟨by unfold Eb;simp only;rw[e],e,a,iD a⟩
def CM(c:aG):Prop:=c.2.1.length<=1000/\(∀f∈c.2.1,f.length<=100000)/\c.2.2.1.length<=1000/\∀r∈c.2.2.1,r.1.length<=1000
theorem yL{c:aG}(h:dw c=0):CM c:=by
 obtain⟨o,b,j,d⟩:=c
 cases o with
 |false=>
  rw[qq] at h
  by_cases g:(false,b,j,d)=bn
  ·rw[g];exact⟨by simp[bn],λf e=>by simp[bn] at e,by simp[bn],λr k=>by simp[bn] at k⟩
  rw[iO g] at h
  cases h
 |true=>
  rw[qb] at h
  by_cases i:b.length=0
  ·rw[Io i] at h
   cases h
  rw[iO i] at h
  by_cases a:bl b=0
  ·rw[Io a] at h;exact⟨by have:=(fA.1 a).1;simp only;omega,λf e=>Kl (nK ((fA.1 a).2 f e)).2.1 (by decide),(iZ h).1,(iZ h).2⟩
  rw[iO a] at h;exact absurd h a
def Jq(b:Nat)(u1 u2 u3:Value):Type:={ w':World // w'.cell? (pA b 1)=some u1/\w'.cell? (pA b 2)=some u2/\w'.cell? (pA b 3)=some u3 }
theorem ww(B lv l w)(hl:aE B w lv l)(hB:B<=w.1.size)(hn:l.length<=1000)(b4:∀c∈l,CM c):
  cL 69 #[lv] w λe b=>e=.returned (.slice (sO w.1.size) l.length l.length)/\oD B w.1.size l.length l b/\bL w b:=by
 have b5:=Z b4;obtain⟨a,er,a7,-⟩:=id hl;have⟨n,T⟩:=nM (l.length);have HN:=Z T.symm;have K:=λw=>Bq n (by omega) w
 have⟨mc,a8⟩:=nM (madeCells #[.bool false,nL,nL,U 0] (n*4));rw[<-a8] at K;have cl:=K;have Y:mc.size=n*4:=by rw[a8,LS]
 clear K a8;have⟨W1,L⟩:=nM (w.alloc (.cells mc 46));have cn:=sA L;have aa:=bA L;have g1:Na W1 w.1.size mc 46:=by rw[L];exact be _ _ rfl
 obtain⟨W3,cp,M,g3,V,a0,cs,cv⟩:=vF B w.1.size lv l mc W1 (hl.l aa hB) hB g1 (by rw[Y,T]);have b6:=aa.trans a0
 have b7:Hid (oD B w.1.size 0 l W3):=⟨cp,g3,V.1,V.2.1,λi c hc=>by
  have⟨lv,rv,e0,e1,e2,e3,e4,e5⟩:=V.2.2 i c hc
  exact⟨lv,rv,e0,e1,e2,e3,λh=>absurd h (by omega),λ_=>⟨e4,e5⟩⟩⟩
 have x:=Z hB;have b8:=Z2 b6 (by omega:w.1.size+1<=W3.1.size);subst a7
 rw[<-T] at M hn |-
 have a1:Hid _:=M;have b9:=Z L;clear L g1 V a0 cs cv b6 aa cn Y g3 hl hB M b4;clear T;have eu:=ai;go_enter func69,ntmps69;go_wp2_with fail;rw[<-b9.o,a1.o];clear cl;go_wp2_with fail;go_loopw [14] (λiv wr=>∃k:Nat,k<=n/\iv=U k/\Hid (oD B w.1.size k l wr)/\Hid (bL w wr/\w.1.size+1<=wr.1.size)) (λiv _=>n-(intOf iv).toNat)
 case atStart=>exact⟨0,by omega,rfl,b7,b8⟩
 case round=>
  clear b7 b8 a1 b9;obtain⟨k,hk,rfl,HC,N⟩:=hrel;have⟨q,d0⟩:=nM (wr);subst d0;have k0:(0:Int)<=(k:Int):=by omega
  by_cases ew:k<n
  ·have k1:(k:Int)<(n:Int):=by omega
   obtain⟨c,W⟩:∃c,l[k]?=some c:=⟨l[k]'(by rw[HN.o];omega),by simp⟩;have d1:=Z W;have⟨s1,s2,s3,s4⟩:=b5.o c (Kb W);obtain⟨xs,y,A,ba,bb⟩:=HC.o;have⟨lv,rv,e0,e1,e2,e3,e4⟩:=bb k c W;obtain⟨C,ac⟩:=e4.2 (by omega);obtain⟨D,E,a7,-⟩:=C.shape;obtain⟨ey,bc,bd,H,I,bf,-⟩:=id ac;simp at bc;subst bc;subst bf;subst a7;have c0:q.cell? ⟨w.1.size,k*4,none⟩=some (.bool c.1):=ab y _ (by simpa using e0);have c1:q.cell? ⟨w.1.size,k*4+1,none⟩=some (.slice D c.2.1.length E):=ab y _ (by simpa using e1);have c2:q.cell? ⟨w.1.size,k*4+2,none⟩=some (.slice H c.2.2.1.length I):=ab y _ (by simpa using e2);have c3:q.cell? ⟨w.1.size,k*4+3,none⟩=some (U c.2.2.2):=ab y _ (by simpa using e3);have⟨W5,O⟩:=nM (q.alloc (.cells #[.bool c.1,.slice D c.2.1.length E,.slice H c.2.2.1.length I,U c.2.2.2] 46));have P:=bA O;have bg:=sA O;have g5:=hA O;have bk:=P.bl y;have bm:=Z (HC.o.l x.o P);have a4:=N.o.1.th P
   have ad:Hid (∀b,bL w b->cD B b (.slice D c.2.1.length E) c.2.1->cL 101 #[.slice D c.2.1.length E] b λe ae=>∃v,e=.returned v/\eA b.1.size ae v c.2.1/\bL b ae):=λb h h1=>(vH B _ c.2.1 b h1 (h.u x.o) s1 s2).mono λe ae ⟨v,h2,ys,h3,h4,h5⟩=>⟨v,h2,qW h3 h4,h5⟩
   have X:=Z λb (h:bL w b) (h1:aX B b (.agg #[.slice H c.2.2.1.length I,U c.2.2.2]) c.2.2)=>pH B _ c.2.2 b h1 (h.u x.o) s3 s4
   have F:Hid (∀b,Below w.1.size W5 b->cD B b (.slice D c.2.1.length E) c.2.1/\aX B b (.agg #[.slice H c.2.2.1.length I,U c.2.2.2]) c.2.2/\bL w b):=λb h=>by have hb:=(P.mono (by have:=N.o.1.size;omega)).trans h;exact⟨C.l hb x.o,ac.l hb x.o,N.o.1.trans hb⟩
   have d:Hid (Na W5 q.1.size #[.bool c.1,.slice D c.2.1.length E,.slice H c.2.2.1.length I,U c.2.2.2] 46/\Na W5 w.1.size xs.toArray 46/\xs.length=n*4/\w.1.size<q.1.size/\W5.1.size=q.1.size+1/\bL w W5):=⟨g5,bk,by rw[A,HN.o],by have:=N.o.2;omega,bg,a4⟩;have G:=Z O;have ee:=Z bd;have f1:=Z ba;have f4:Hid (c=c):=rfl;clear O P bg g5 bk a4 C ac bd e0 e1 e2 e3 e4 bb y A ba W HC s1 s2 s3 s4 b5;have⟨t,ak⟩:=nM (c.2.1.length);have⟨J,al⟩:=nM (c.2.2.1.length);have⟨Q,ao⟩:=nM (c.2.2.2);have⟨co,bo⟩:=nM (c.1);have R:=Z3 ak.symm al.symm ao.symm;rw[<-ak] at ad F d G c1;rw[<-al] at X F d G c2;rw[<-ao] at X F d G c3;rw[<-bo] at d G c0;clear ak al ao bo;have av:Nonempty (Jq q.1.size (.slice D t E) (.slice H J I) (U Q)):=⟨⟨W5,J1 d.o.1,J2 d.o.1,J3 d.o.1⟩⟩;have s:Hid (∀fs b,AC w.1.size k xs W5 c fs b->∃z:Jq q.1.size (.slice D t E) (.slice H J I) (U Q),b=z.1):=λfs b h=>by have g:=(h.keep q.1.size d.o.2.2.2.1 (by rw[d.o.2.2.2.2.1];omega)).trans d.o.1;exact⟨⟨b,J1 g,J2 g,J3 g⟩,rfl⟩
   have q1:∀z:Jq q.1.size (.slice D t E) (.slice H J I) (U Q),z.1.cell? (pW q 1)=some (.slice D t E):=λz=>z.2.1
   have q2:∀z:Jq q.1.size (.slice D t E) (.slice H J I) (U Q),z.1.cell? (pW q 2)=some (.slice H J I):=λz=>z.2.2.1
   have q3:∀z:Jq q.1.size (.slice D t E) (.slice H J I) (U Q),z.1.cell? (pW q 3)=some (U Q):=λz=>z.2.2.2
   obtain⟨S,hS⟩:∃S:Nat->Value->Prop,S=λj v=>(j=6->∃a c,v=.slice a t c)/\(j=9->∃a c,v=.agg #[.slice a J c,U Q]):=⟨_,rfl⟩
   have bp:Hid (∀v,S 6 v ↔ ∃a c,v=.slice a t c):=λv=>by rw[hS];simp
   have bq:Hid (∀v,S 9 v ↔ ∃a c,v=.agg #[.slice a J c,U Q]):=λv=>by rw[hS];simp
   have br:=Z (by rw[hS];exact⟨λe=>absurd e (by decide),λe=>absurd e (by decide)⟩:S 15 undef);have bs:=Z (by rw[hS];exact⟨λe=>absurd e (by decide),λe=>absurd e (by decide)⟩:S 12 undef)
   have d6:Hid (∀j,∃v,S j v):=λj=>by
    rw[hS]
    by_cases h9:j=9
    ·exact⟨.agg #[.slice none J 0,U Q],λe=>by omega,λ_=>⟨_,_,rfl⟩⟩
    exact⟨.slice none t 0,λ_=>⟨_,_,rfl⟩,λe=>absurd e h9⟩
   clear hS;go_wp2_with fail;rw[<-G.o];clear c0 c1 c2 c3 G;refine iP (l:=[_,_,_,_,_,_,_,_,_,_,_,_,_,_,_,_]) (λk=>k==6||k==9||k==12||k==15) (AC w.1.size k xs W5 c) S d6.o (by kernel_rfl) (by kernel_rfl) (AC.start d.o.2.1) ?_;iterate 6(refine aP s.o rfl rfl ?_;go_big_quiet_step (fail);refine Km ?_)
   refine bw 101 #[.slice D t E] rfl rfl (λb=>by kernel_rfl) (λgs b p m o=>?_) (λv6 dc=>?_)
   ·have⟨t1,t2,t3⟩:=F.o b p.below;refine(ad.o b t3 t1).mono ?_;rintro e w4 ⟨v,rfl,r,hb⟩;have⟨va,vc,ev⟩:=rS r;rw[R.o.1] at ev;exact⟨_,rfl,(bp.o _).2 ⟨_,_,ev⟩,p.made (.inl rfl) o (io d.o.2.1) hb (λ_=>r) (λe=>by cases e)⟩
   go_frame;obtain⟨a6,c6,rfl⟩:=(bp.o _).1 dc;iterate 2(refine aP s.o rfl rfl ?_;go_big_quiet_step (fail);refine Km ?_)
   refine bw 102 #[.agg #[.slice H J I,U Q]] rfl rfl (λb=>by kernel_rfl) (λgs b p m o=>?_) (λv9 de=>?_)
   ·have⟨t1,t2,t3⟩:=F.o b p.below;refine(X.o b t3 t2).mono ?_;rintro e w4 ⟨v,rfl,r,hb⟩;have⟨va,vc,ev⟩:=nH r;rw[R.o.2.1,R.o.2.2] at ev;exact⟨_,rfl,(bq.o _).2 ⟨_,_,ev⟩,p.made (.inr rfl) o (io d.o.2.1) hb (λe=>by cases e) (λ_=>r)⟩
   go_frame;obtain⟨a9,c9,rfl⟩:=(bq.o _).1 de;iterate 2(refine aP s.o rfl rfl ?_;go_big_quiet_step (fail);refine Km ?_)
   refine fL rfl rfl (λgs b p m o=>?_) (λfb em=>?_)
   ·have h6:=m 6 _ (.inl (.inr ⟨rfl,rfl⟩)) (au (by kernel_rfl));have h9:=m 9 _ (.inr ⟨rfl,rfl⟩) (au (by kernel_rfl));have f:=p.row0 o;have A:=d.o.2.2.1;obtain⟨u0,fc⟩:∃u,b.cell? ⟨w.1.size,k*4+1,none⟩=some u:=⟨xs[k*4+1]'(by omega),ab f _ (by simp)⟩;have f0:b.frozen? ⟨w.1.size,k*4+1,none⟩=false:=by simp[World.frozen?,f]
    refine⟨b.setCell ⟨w.1.size,k*4+1,none⟩ (.slice a6 t c6),?_,bs.o,p.store o h6 h9 (io d.o.2.1)⟩;clear p m o q1 q2 q3 s av h6 h9 f A;go_simp
   go_frame;iterate 2(refine aP s.o rfl rfl ?_;go_big_quiet_step (fail);refine Km ?_)
   refine fL rfl rfl (λgs b p m o=>?_) (λfd en=>?_)
   ·have h6:=m 6 _ (.inl (.inl (.inr ⟨rfl,rfl⟩))) (au (by kernel_rfl));have h9:=m 9 _ (.inl (.inr ⟨rfl,rfl⟩)) (au (by kernel_rfl));have b1:=m 12 _ (.inr ⟨rfl,rfl⟩) (au (by kernel_rfl));have f:=p.row1 _ _ b1 h6 o;have A:=d.o.2.2.1;obtain⟨u2,fe⟩:∃u,b.cell? ⟨w.1.size,k*4+2,none⟩=some u:=⟨(xs.set (k*4+1) (.slice a6 t c6))[k*4+2]'(by simp;omega),ab f _ (by simp)⟩;obtain⟨u3,fi⟩:∃u,b.cell? ⟨w.1.size,k*4+3,none⟩=some u:=⟨(xs.set (k*4+1) (.slice a6 t c6))[k*4+3]'(by simp;omega),ab f _ (by simp)⟩;have f2:b.frozen? ⟨w.1.size,k*4+2,none⟩=false:=by simp[World.frozen?,f]
    have f3:b.frozen? ⟨w.1.size,k*4+3,none⟩=false:=by simp[World.frozen?,f]
    refine⟨(b.setCell ⟨w.1.size,k*4+2,none⟩ (.slice a9 J c9)).setCell ⟨w.1.size,k*4+3,none⟩ (U Q),?_,br.o,p.store2 o h6 h9 b1 (io d.o.2.1)⟩;clear p m o q1 q2 q3 s av h6 h9 b1 f A;go_simp
   go_frame;refine ei ?_;intro w8 p;have C:=p.chs _ (.inl (.inl (.inl (.inr ⟨rfl,rfl⟩))));have bx:=p.pol _ (.inl (.inl (.inr ⟨rfl,rfl⟩)));have f:=p.row2 _ _ _ _ (.inr ⟨rfl,rfl⟩) (.inl (.inl (.inl (.inr ⟨rfl,rfl⟩)))) (.inl (.inl (.inr ⟨rfl,rfl⟩)));have di:=io d.o.2.1;have dk:=p.below.size
   have bz:Hid (oD B w.1.size (k+1) l w8/\bL w w8/\w.1.size+1<=w8.1.size):=by
    refine⟨oD.put (lv:=.slice a6 t c6) (rv:=.slice a9 J c9) bm.o x.o d1.o p.below p.keep (λys bF=>?_) rfl rfl ?_ ?_,d.o.2.2.2.2.2.trans p.below,by omega⟩
    ·rw[d.o.2.1] at bF;have:xs=ys:=by simpa using bF
     subst this;rw[f,R.o.2.2]
    ·exact C.keep (by omega) (λ_ _ _=>rfl) lE
    rw[R.o.2.2];exact bx.keep (by omega) (λ_ _ _=>rfl) lE
   clear p C bx f di dk q1 q2 q3 s av ad X F d bm;go_wp2_with fail;exact⟨⟨k+1,by omega,by go_num,bz.o.1,bz.o.2⟩,by simp[intOf];omega⟩
  have e:k=n:=by omega
  subst e;have k1:¬((k:Int)<(k:Int)):=by omega
  go_wp2_with fail;go_ret;exact⟨rfl,HC.o,N.o.1⟩
theorem zG(B a cap ra rl rc l)(ci A:Nat)(j:List aq)(d w)(I:aE B w (.slice a 4 cap) l)(C:aX B w (.agg #[.slice ra rl rc,U d]) (j,d))(q:B<=w.1.size):
  cL 119 #[.slice a 4 cap,.agg #[U 1,U ci,U A,.slice ra rl rc,U d]] w λe D=>∃v,e=.returned (.tuple #[v,U (fS (j,d)).2])/\dx w.1.size D v (fS (j,d)).1/\bL w D:=by
 have⟨E,b⟩:=nM ((w.alloc (.cells #[U 1,U ci,U A,.slice ra rl rc,U d] 71)).alloc (.cells #[.bool false,nL,nL,U 0] 46));have c:=bB b;have k:=sB b;have J:=gB b;have F:=gC b;have r:=Z b;have s:=Z k;have m:=Z c;have h:=Z F;have n:=Z (vz B _ (j,d) E (C.l c q) (c.u q));clear I C b J F c k q;generalize (fS (j,d)).2=K at*;generalize (fS (j,d)).1=p at*;go_enter func119,ntmps119;go_wp2_with fail;rw[<-r.o];go_at_call 145;refine n.o.mono ?_;rintro e S ⟨v,rfl,i,f⟩;clear n;have⟨t,u,x,y,G,M,N⟩:=id i;have o:=Z i;have⟨T,V,W,X,Y,f1,f2,f3⟩:=aL (f.bl h.o);have z:=Z (m.o.th f);have H:=Kd (io h.o) f.size
 rw[G] at o |-
 clear G M N i f h;generalize (p).1=O at*;generalize (p).2.1.length=P at*;generalize (p).2.2.1.length=Q at*;generalize (p).2.2.2=R at*;go_wp2_with fail;refine Ka (v:=.tuple #[.agg #[.bool O,.slice t P u,.slice x Q y,U R],U K]) ?_ rfl ⟨_,rfl,?_,?_⟩
 ·rw[K8 rfl];go_simp
 ·refine dx.keep (L:=E.1.size) ?_ m.o.size (λg _ _=>rfl) lE;repeat(first|refine dx.put ?_ (.inl (by rw[s.o];omega))|exact o.o)
 repeat(first|refine Ky ?_ (by show w.1.size<=w.1.size+1;omega) _|exact z.o)
theorem zU(B a cap ra rl rc l)(ci j:Nat)(rs:List aq)(d w)(N:aE B w (.slice a 4 cap) l)(i:l.length=4)(C:B<=w.1.size)(fo:Bool)(D:ie)(k:List aq)(r:Int)(m:l[j]?=some (fo,D,k,r)):
  cL 119 #[.slice a 4 cap,.agg #[U 3,U ci,U j,.slice ra rl rc,U d]] w λe O=>∃v,e=.returned (.tuple #[v,U (fS (k,r)).2])/\dx w.1.size O v (fS (k,r)).1/\bL w O:=by
 have⟨P,c⟩:=nM ((w.alloc (.cells #[U 3,U ci,U j,.slice ra rl rc,U d] 71)).alloc (.cells #[.bool false,nL,nL,U 0] 46));have f:=bB c;have s:=sB c;have g0:=gB c;have Q:=gC c;have E:=Z c;have F:=Z s;have t:=Z f;have n:=Z Q;have a2:j<4:=by have:=(K9.1 m).1;omega
 have R:(j:Int)<4:=by omega
 have S:(0:Int)<=(j:Int):=by omega
 obtain⟨_,_,T,G,-,u⟩:=id N;obtain⟨b,o,e,a3,x⟩:=u j _ m;simp at T;obtain⟨rfl,-,rfl⟩:=T;subst e;obtain⟨la,lc,pa,pc,c0,c1,V,W,-,p⟩:=x.vals;rw[i] at G;simp only at V W p;have a6:b<w.1.size:=by omega
 have y:=Z (vz B _ (k,r) P (p.l f C) (f.u C));clear N p x u c g0 Q f s C m i c0 c1;generalize k.length=fn at*;generalize (fS (k,r)).2=ee at*;generalize (fS (k,r)).1=A at*;go_enter func119,ntmps119;go_wp2_with fail;rw[<-E.o];go_at_call 145;refine y.o.mono ?_;rintro e w3 ⟨v,rfl,q,h⟩;clear y V W;have⟨H,I,J,K,X,h1,h2⟩:=id q;have z:=Z q;have⟨z0,z1,z2,z3,f0,f1,f2,f3⟩:=aL (h.bl n.o);have M:=Z (t.o.th h);have Y:=Kd (io n.o) h.size
 rw[X] at z |-
 clear X h1 h2 q h n;generalize (A).1=b5 at*;generalize (A).2.1.length=n5 at*;generalize (A).2.2.1.length=m5 at*;generalize (A).2.2.2=d5 at*;go_wp2_with fail;refine Ka (v:=.tuple #[.agg #[.bool b5,.slice H n5 I,.slice J m5 K,U d5],U ee]) ?_ rfl ⟨_,rfl,?_,?_⟩
 ·rw[K8 rfl];go_simp
 ·refine dx.keep (L:=P.1.size) ?_ t.o.size (λg _ _=>rfl) lE;repeat(first|refine dx.put ?_ (.inl (by rw[F.o];omega))|exact z.o)
 repeat(first|refine Ky ?_ (by show w.1.size<=w.1.size+1;omega) _|exact M.o)
theorem Au(B a cap ra rl rc l)(ci b:Nat)(h:List aq)(d w)(f:aE B w (.slice a 4 cap) l):
  cL 119 #[.slice a 4 cap,.agg #[U 4,U ci,U b,.slice ra rl rc,U d]] w λe c=>∃v,e=.returned (.tuple #[v,U 0])/\dx w.1.size c v bn/\bL w c:=by
 have g:Hid (bL w ((w.alloc (.cells #[U 4,U ci,U b,.slice ra rl rc,U d] 71)).alloc (.cells #[.bool false,nL,nL,U 0] 46))):=(bR.alloc lE _).alloc (by simp) _;clear f;go_enter func119,ntmps119;go_wp2_with fail;refine Ka (v:=.tuple #[.agg #[.bool false,nL,nL,U 0],U 0]) ?_ rfl ⟨_,rfl,nZ _ _,?_⟩
 ·rw[K8 rfl];go_simp
 repeat(first|exact g.o|refine Ky ?_ (by show w.1.size<=w.1.size+1;omega) _|exact Kf _ _|refine Lc ?_ (by simp) _)
def JM(a:Nat)(W:World)(E:Int)(C:aG)(c:Nat->Value->Prop)(w:World):Prop:=
 ((∀u,¬c 10 u)/\bL W w/\∀v,c 7 v->∃u,v=.tuple #[u,U E]/\dx W.1.size w u C)\/
 ((∃u,c 10 u)/\(∃u,c 7 u)/\∃e b f n g h m i d,w=(((e.setCell (pA a 0) (.bool b)).setCell (pA a 1) (.slice f n g)).setCell (pA a 2) (.slice h m i)).setCell (pA a 3) (U d)/\bL W e/\dx W.1.size e (.agg #[.bool b,.slice f n g,.slice h m i,U d]) C)
theorem JM.box{bo W w E C}{f:Nat->Value->Prop}(h:JM bo W E C f w){b:Nat}{o:Obj}(c:W.1[b]?=some o)(a:b≠bo):w.1[b]?=some o:=by
 have e:=(KK.1 c).1
 rcases h with ⟨_,d,_⟩|⟨_,_,g,_,_,_,_,_,_,_,_,rfl,d,_⟩
 ·exact(d.block b e).trans c
 exact((((Kc _ _ _ _ a).trans (Kc _ _ _ _ a)).trans (Kc _ _ _ _ a)).trans (Kc _ _ _ _ a)).trans ((d.block b e).trans c)
def JZ(E:Int)(k:Nat)(v:Value):Prop:=k=7->∃b a n c e m f d,v=.tuple #[.agg #[.bool b,.slice a n c,.slice e m f,U d],U E]
theorem Gs(E k):∃v,JZ E k v:=⟨.tuple #[.agg #[.bool true,nL,nL,U 0],U E],λ_=>⟨_,_,_,_,_,_,_,_,rfl⟩⟩
def Ic(r b o:Nat)(u1 u3 a c d e f:Value):Type:={ w':World // (w'.cell? (pA r 1)=some u1/\w'.cell? (pA r 3)=some u3/\w'.cell? (pA r 4)=some a)/\w'.cell? ⟨b,o,none⟩=some c/\w'.cell? ⟨b,o+1,none⟩=some d/\w'.cell? ⟨b,o+2,none⟩=some e/\w'.cell? ⟨b,o+3,none⟩=some f }
theorem xL(B a cap ra rl rc l)(ci fi:Nat)(A:List aq)(d w)(hl:aE B w (.slice a 4 cap) l)(hp:aX B w (.agg #[.slice ra rl rc,U d]) (A,d))(I:l.length=4)(hB:B<=w.1.size)(a0:aj (A,d)=0)(c:aG)(K:l[ci]?=some c):
  cL 119 #[.slice a 4 cap,.agg #[U 2,U ci,U fi,.slice ra rl rc,U d]] w λe f=>∃v,e=.returned (.tuple #[v,U (dm c.2.1 c.2.2 (A,d))])/\dx w.1.size f v (if dm c.2.1 c.2.2 (A,d)=0 then (true,dt c.2.1 c.2.2 (A,d),A,d) else bn)/\bL w f:=by
 have⟨W2,j⟩:=nM ((w.alloc (.cells #[U 2,U ci,U fi,.slice ra rl rc,U d] 71)).alloc (.cells #[.bool false,nL,nL,U 0] 46));have M:=bB j;have a2:=sB j;have g0:=gB j;have g1:=gC j;have ak:=Z j;have al:=Z a2;have N:=Z M;have d2:ci<4:=by have:=(K9.1 K).1;omega
 have bx:(ci:Int)<4:=by omega
 have bz:(0:Int)<=(ci:Int):=by omega
 obtain⟨_,_,e1,ao,-,a3⟩:=id hl;obtain⟨b,o,e,d3,a4⟩:=a3 ci _ K;simp at e1;obtain⟨rfl,-,rfl⟩:=e1;subst e;obtain⟨m,n,p,r,c0,c1,c2,c3,a5⟩:=a4.val;rw[I] at ao;have a6:b<w.1.size:=by omega
 have a7:=Z λf (h:bL w f)=>zH B _ _ c (A,d) f (a5.l h hB) (hp.l h hB) (h.u hB) a0
 clear hl hp a4 a3 hB I a5 K a0;generalize (if dm c.2.1 c.2.2 (A,d)=0 then (true,dt c.2.1 c.2.2 (A,d),A,d) else bn)=C5 at*;generalize dm c.2.1 c.2.2 (A,d)=ee at*;generalize c.2.1.length=s at*;generalize c.2.2.1.length=t at*;generalize c.2.2.2=x at*;generalize c.1=y at*;have a9:b≠w.1.size+1:=by omega
 have HD:Hid (∀f:World,(∀k o,W2.1[k]?=some o->k≠w.1.size+1->f.1[k]?=some o)->∃z:Ic w.1.size b (o+ci*4) (U ci) (.slice ra rl rc) (U d) (.bool y) (.slice m s n) (.slice p t r) (U x),f=z.1):=λf h=>by
  have r0:=h _ _ g0 (by omega);have cc:∀q u,w.cell? ⟨b,q,none⟩=some u->f.cell? ⟨b,q,none⟩=some u:=λq u F=>by have b2:=M.block b a6;obtain⟨ob,aa⟩:∃ob,w.1[b]?=some ob:=⟨w.1[b]'a6,by simp⟩;have b4:=h b ob (b2.trans aa) a9;rw[<-F];simp only[World.cell?,b4,aa]
  exact⟨⟨f,⟨J1 r0,J3 r0,J4 r0⟩,cc _ _ c0,cc _ _ c1,cc _ _ c2,cc _ _ c3⟩,rfl⟩
 have G:Hid (∀fs f,JM (w.1.size+1) W2 ee C5 fs f->∃z:Ic w.1.size b (o+ci*4) (U ci) (.slice ra rl rc) (U d) (.bool y) (.slice m s n) (.slice p t r) (U x),f=z.1):=λfs f h=>HD.o f λk o hk H=>h.box hk H
 obtain⟨z0,-⟩:=HD.o W2 λk o h _=>h
 have H:Nonempty (Ic w.1.size b (o+ci*4) (U ci) (.slice ra rl rc) (U d) (.bool y) (.slice m s n) (.slice p t r) (U x)):=⟨z0⟩;have q1:∀z:Ic w.1.size b (o+ci*4) (U ci) (.slice ra rl rc) (U d) (.bool y) (.slice m s n) (.slice p t r) (U x),z.1.cell? (pW w 1)=some (U ci):=λz=>z.2.1.1
 have q2:∀z:Ic w.1.size b (o+ci*4) (U ci) (.slice ra rl rc) (U d) (.bool y) (.slice m s n) (.slice p t r) (U x),z.1.cell? (pW w 3)=some (.slice ra rl rc):=λz=>z.2.1.2.1
 have q3:∀z:Ic w.1.size b (o+ci*4) (U ci) (.slice ra rl rc) (U d) (.bool y) (.slice m s n) (.slice p t r) (U x),z.1.cell? (pW w 4)=some (U d):=λz=>z.2.1.2.2
 have q4:∀z:Ic w.1.size b (o+ci*4) (U ci) (.slice ra rl rc) (U d) (.bool y) (.slice m s n) (.slice p t r) (U x),z.1.cell? ⟨b,o+ci*4,none⟩=some (.bool y):=λz=>z.2.2.1
 have q5:∀z:Ic w.1.size b (o+ci*4) (U ci) (.slice ra rl rc) (U d) (.bool y) (.slice m s n) (.slice p t r) (U x),z.1.cell? ⟨b,o+ci*4+1,none⟩=some (.slice m s n):=λz=>z.2.2.2.1
 have q6:∀z:Ic w.1.size b (o+ci*4) (U ci) (.slice ra rl rc) (U d) (.bool y) (.slice m s n) (.slice p t r) (U x),z.1.cell? ⟨b,o+ci*4+2,none⟩=some (.slice p t r):=λz=>z.2.2.2.2.1
 have q7:∀z:Ic w.1.size b (o+ci*4) (U ci) (.slice ra rl rc) (U d) (.bool y) (.slice m s n) (.slice p t r) (U x),z.1.cell? ⟨b,o+ci*4+3,none⟩=some (U x):=λz=>z.2.2.2.2.2
 have O:=Z g1;clear j g0 g1 M a2 c0 c1 c2 c3 a9 HD z0;go_enter func119,ntmps119;go_wp2_with fail;rw[<-ak.o];refine bJ [_,_,_,_,_,_,_,_,_,_,_] _ rfl (λk=>k==7||k==10) (JM (w.1.size+1) W2 ee C5) (JZ ee) (Gs ee) (by kernel_rfl) (by kernel_rfl) (.inl ⟨λ_ h=>h,bR.drew,λ_ h=>h.elim⟩) ?_;iterate 7(refine aP G.o rfl rfl ?_;go_big_quiet_step (fail);refine Km ?_)
 refine bw 146 #[.agg #[.bool y,.slice m s n,.slice p t r,U x],.agg #[.slice ra rl rc,U d]] rfl rfl (λf=>by kernel_rfl) (λgs f hJ C D=>?_) (λv7 b7=>?_)
 ·rcases hJ with ⟨j1,E,j3⟩|⟨_,⟨u,F⟩,_⟩
  ·refine(a7.o f (N.o.th E)).mono ?_;rintro e w4 ⟨v,rfl,i,hb⟩;obtain⟨P,Q,R,S,ev,-,-⟩:=id i;refine⟨_,rfl,λ_=>⟨_,_,_,_,_,_,_,_,by rw[ev]⟩,.inl ⟨λu F=>?_,E.th hb,λv' T=>?_⟩⟩
   ·rcases F with F|⟨e,_⟩
    ·exact j1 u F
    cases e
   rcases T with T|⟨_,rfl⟩
   ·exact absurd T (D _)
   exact⟨v,rfl,i.keep E.size (λ_ _ _=>rfl) lE⟩
  exact absurd F (D _)
 go_frame;obtain⟨b5,P,n5,Q,R,m5,S,d5,rfl⟩:=b7 rfl;iterate 2(refine aP G.o rfl rfl ?_;go_big_quiet_step (fail);refine Km ?_)
 refine fL rfl rfl (λgs f hJ C D=>?_) (λba cT=>?_)
 ·have h7:=C 7 _ (.inr ⟨rfl,rfl⟩) (au (by kernel_rfl))
  rcases hJ with ⟨j1,E,j3⟩|⟨⟨u,F⟩,_⟩
  ·obtain⟨u,eu,i⟩:=j3 _ h7;simp at eu;subst eu;have⟨y0,y1,y2,y3,f0,f1,f2,f3⟩:=aL (E.bl O.o);refine⟨(((f.setCell (pA (w.1.size+1) 0) (.bool b5)).setCell (pA (w.1.size+1) 1) (.slice P n5 Q)).setCell (pA (w.1.size+1) 2) (.slice R m5 S)).setCell (pA (w.1.size+1) 3) (U d5),?_,λe=>absurd e (by decide),.inr ⟨⟨_,.inr ⟨rfl,rfl⟩⟩,⟨_,.inl h7⟩,f,b5,P,n5,Q,R,m5,S,d5,rfl,E,i⟩⟩;clear C D G H h7 i j1 E j3 q1 q2 q3 q4 q5 q6 q7;go_simp
  exact absurd F (D _)
 go_frame;refine ei ?_;intro w4 hJ
 rcases hJ with ⟨j1,_⟩|⟨_,_,w0,b6,V,n6,W,X,m6,Y,d6,e4,E,i⟩
 ·exact absurd (.inr ⟨rfl,rfl⟩) (j1 ba)
 obtain⟨k0,-,k2,k3⟩:=eK (u0:=.bool b6) (u1:=.slice V n6 W) (u2:=.slice X m6 Y) (u3:=U d6) (E.bl O.o);rw[<-e4] at k0 k2 k3;obtain⟨y0,y1,y2,y3,-⟩:=aL k0;have J:Hid (dx w.1.size w4 (.agg #[.bool b6,.slice V n6 W,.slice X m6 Y,U d6]) C5/\bL w w4):=by refine⟨?_,(N.o.th E).trans (k3 _ (by omega))⟩;refine dx.keep (L:=W2.1.size) ?_ N.o.size (λg _ _=>rfl) lE;rw[e4];repeat(first|refine dx.put ?_ (.inl (by rw[al.o];omega))|exact i)
 clear e4 E i k0 k2 k3 q1 q2 q3 q4 q5 q6 q7 G H a7 O;go_wp2_with fail;refine Ka (v:=.tuple #[.agg #[.bool b6,.slice V n6 W,.slice X m6 Y,U d6],U ee]) ?_ rfl ⟨_,rfl,J.o.1,J.o.2⟩;rw[K8 rfl];go_simp
theorem rj{k:Int}(a:k=1\/k=2\/k=3\/k=4)(w):cL 118 #[U k] w λe b=>e=.returned (.bool (decide (k=1\/k=3)))/\b=w:=by
 rcases a with rfl|rfl|rfl|rfl
 all_goals
  go_enter func118,ntmps118;go_wp2;go_ret;exact⟨by simp,rfl⟩
theorem jT(B j:Nat)(a cap l)(ci:Nat)(c:aG)(w)(p:aE B w (.slice a 4 cap) l)(d:l.length=4)(h:l[ci]?=some c)(t:w.cell? (pA j 0)=some (.slice a 4 cap)):
  cL 117 #[U ci,.pointer (sO j)] w λe q=>e=.returned (.bool c.1)/\q=w:=by
 have r:ci<4:=by have:=(K9.1 h).1;omega
 have k:(ci:Int)<4:=by omega
 have m:(0:Int)<=(ci:Int):=by omega
 obtain⟨_,_,n,i,-,f⟩:=p;obtain⟨b,o,e,s,g⟩:=f ci _ h;simp at n;obtain⟨rfl,-,rfl⟩:=n;subst e;obtain⟨u,v,x,y,z,-⟩:=g.vals;rw[d] at i;clear f g h d;generalize c.1=A at*;go_enter func117,ntmps117;go_wp2_with fail;go_ret;exact⟨rfl,rfl⟩
theorem EK(B lv rv l r w)(q:aE B w lv l)(s:cI B w rv r)(j:B<=w.1.size)(b:bC l≠0\/aZ r≠0):
  cL 93 #[lv,rv] w λe g=>∃v,e=.returned (.tuple #[v,U (if bC l=0 then aZ r else bC l)])/\wG w.1.size g v []/\bL w g:=by
 have t:=Z λg (h:bL w g)=>lQ B _ l g (q.l h j) (h.u j)
 have C:=Z λg (h:bL w g)=>jy B _ r g (s.l h j) (h.u j)
 obtain⟨a,u,rfl,-,-⟩:=q.shape;obtain⟨G,H,rfl,-⟩:=s.shape;clear q s;generalize bC l=D at*;generalize aZ r=E at*;generalize l.length=I at*;generalize r.2.2.2.1.length=J at*;generalize r.2.2.2.2=d at*;generalize r.2.2.1=K at*;generalize r.2.1=L at*;generalize r.1=k at*;have⟨S,c⟩:=nM ((w.alloc (.cells #[.slice a I u] 22)).alloc (.cells #[U k,U L,U K,.slice G J H,U d] 71));have m:=bB c;have F:=gC c;have x:=Z c;have n:=Z m;have y:=Z F;clear c m F j;go_enter func93,ntmps93;go_wp2_with fail;rw[<-x.o];go_at_call 115;refine(t.o _ n.o).mono ?_;rintro e T ⟨rfl,f⟩;have i:=Z (n.o.th f)
 by_cases h:D=0
 ·subst h;have o:E≠0:=by simpa using b
  have M:(E != 0)=true:=by simpa using o
  have⟨N,O,P,Q,R⟩:=aF (f.bl y.o);clear f t b o;go_wp2_with fail;go_at_call 116;refine(C.o _ i.o).mono ?_;rintro e V ⟨rfl,p⟩;have z:=Z (i.o.th p);clear p N O P Q R;go_wp2_with fail;go_ret2;exact⟨_,rfl,ib _ _,z.o⟩
 have M:(D != 0)=true:=by simpa using h
 have A:=Z h;clear b h f C t;go_wp2_with fail;go_ret2;exact⟨_,by simp[A.o],ib _ _,i.o⟩
theorem CC(B a cap ra rl rc l k)(ci s:Nat)(Y:List aq)(d w)(O:aE B w (.slice a 4 cap) l)(hr:cI B w (.agg #[U k,U ci,U s,.slice ra rl rc,U d]) (k,(ci:Int),(s:Int),Y,d))(m:B<=w.1.size)(t:bC l=0)(E:aZ (k,(ci:Int),(s:Int),Y,d)=0)(F:k=1\/k=2\/k=3\/k=4)(c:aG)(u:l[ci]?=some c)(cf:aG)(G:l[s]?=some cf)(i:decide (k=1\/k=3)=c.1):
  cL 93 #[.slice a 4 cap,.agg #[U k,U ci,U s,.slice ra rl rc,U d]] w λe b=>∃v,e=.returned (.tuple #[v,U 6])/\wG w.1.size b v []/\bL w b:=by
 have n:=Z ((f7.1 t).1);have HC:=Z λb (h:bL w b)=>t▸lQ B _ l b (O.l h m) (h.u m)
 have HR:=Z λb (h:bL w b)=>E▸jy B _ _ b (hr.l h m) (h.u m)
 have H:=Z λb I (h:bL w b) (P:b.cell? (pA I 0)=some (.slice a 4 cap))=>jT B I a cap l ci c b (O.l h m) n.o u P
 have Q:=Z λb I (h:bL w b) (P:b.cell? (pA I 0)=some (.slice a 4 cap))=>jT B I a cap l s cf b (O.l h m) n.o G P
 have x:=Z λb=>rj F b
 have⟨W2,f⟩:=nM ((w.alloc (.cells #[.slice a 4 cap] 22)).alloc (.cells #[U k,U ci,U s,.slice ra rl rc,U d] 71));have y:=bB f;have J:=sB f;have g0:=gB f;have g1:=gC f;have D:=Z λb (h:bL W2 b)=>Q3 (J0 (h.bk g0)) (h.bk g1) (y.th h)
 have R:=Z f;have ad:=Z J;have S:=Z y;have ae:=Z m;have T:=Z u;rw[i] at x;clear O hr t E u G f y J g0 g1 m;clear i F Q T;generalize c.1=cb at*;go_enter func93,ntmps93;go_wp2_with fail;rw[<-R.o];go_at_call 115;refine(HC.o _ S.o).mono ?_;rintro e w3 ⟨rfl,z⟩;obtain⟨-,K,o⟩:=D.o w3 z;have⟨y0,y1,y2,y3,y4⟩:=aF K;have A:=Z2 z o;clear HC z o K;go_wp2_with fail;go_at_call 116;refine(HR.o _ A.o.2).mono ?_;rintro e L ⟨rfl,C⟩;have g:=Z λ(q:ax L)=>A.o.1.th (Below.tO C q.2 C.size)
 clear y0 y1 y2 y3 y4 HR A C;have V:=ax.ne L;have q1:∀q:ax L,q.1.cell? (pA (w.1.size+1) 1)=some (U ci):=λq=>ab (D.o q.1 (g.o q)).2.1 1 rfl
 have q0:∀q:ax L,q.1.cell? (pA (w.1.size+1) 0)=some (U k):=λq=>ab (D.o q.1 (g.o q)).2.1 0 rfl
 have p:=Z λ(q:ax L)=>H.o q.1 _ (D.o q.1 (g.o q)).2.2 (D.o q.1 (g.o q)).1
 go_wp2_with fail;refine aW (by kernel_rfl) (by kernel_rfl) ?_
 repeat(go_big_quiet_step (first
  |(go_at_call 117;exact Calls.later_same (p.o _))
  |(go_at_call 118;exact Calls.later_same (x.o _))))
 refine Km ?_;rintro W ⟨⟨_,M⟩,rfl⟩;have j:bL W2 W:=g.o ⟨W,M⟩;have⟨x0,N,r⟩:=D.o W j;have⟨y0,y1,y2,y3,y4⟩:=aF N;have X:=Z2 j r;clear q0 q1 V p H x g M j r N;go_wp2_with fail;go_ret2;exact⟨_,rfl,ib _ _,X.o.2⟩
theorem Er(B a cap ra rl rc l)(ci s:Nat)(rs:List aq)(d w)(P:aE B w (.slice a 4 cap) l)(hr:cI B w (.agg #[U 3,U ci,U s,.slice ra rl rc,U d]) (3,(ci:Int),(s:Int),rs,d))(j:B<=w.1.size)(t:bC l=0)(F:aZ (3,(ci:Int),(s:Int),rs,d)=0)(c:aG)(u:l[ci]?=some c)(R:aG)(G:l[s]?=some R)(S:c.1=false)(T:R.1=false):
  cL 93 #[.slice a 4 cap,.agg #[U 3,U ci,U s,.slice ra rl rc,U d]] w λe b=>∃v,e=.returned (.tuple #[v,U 5])/\wG w.1.size b v []/\bL w b:=by
 have m:=Z ((f7.1 t).1);have HC:=Z λb (h:bL w b)=>t▸lQ B _ l b (P.l h j) (h.u j)
 have HR:=Z λb (h:bL w b)=>F▸jy B _ _ b (hr.l h j) (h.u j)
 have x:=Z λb H (h:bL w b) (V:b.cell? (pA H 0)=some (.slice a 4 cap))=>jT B H a cap l ci c b (P.l h j) m.o u V
 have y:=Z λb H (h:bL w b) (V:b.cell? (pA H 0)=some (.slice a 4 cap))=>jT B H a cap l s R b (P.l h j) m.o G V
 have I:Hid (∀b,cL 118 #[U 3] b λe W=>e=.returned (.bool (true))/\W=b):=λb=>rj (k:=3) (by simp) b
 have⟨W2,f⟩:=nM ((w.alloc (.cells #[.slice a 4 cap] 22)).alloc (.cells #[U 3,U ci,U s,.slice ra rl rc,U d] 71));have z:=bB f;have J:=sB f;have g0:=gB f;have g1:=gC f;have E:=Z λb (h:bL W2 b)=>Q3 (J0 (h.bk g0)) (h.bk g1) (z.th h)
 have X:=Z f;have af:=Z J;have Y:=Z z;have ak:=Z j;have a0:=Z u;rw[S] at x;rw[T] at y;clear P hr t F u G f z J g0 g1 j;clear a0;go_enter func93,ntmps93;go_wp2_with fail;rw[<-X.o];go_at_call 115;refine(HC.o _ Y.o).mono ?_;rintro e w3 ⟨rfl,A⟩;obtain⟨-,K,n⟩:=E.o w3 A;have⟨y0,y1,y2,y3,y4⟩:=aF K;have C:=Z2 A n;clear HC A n K;go_wp2_with fail;go_at_call 116;refine(HR.o _ C.o.2).mono ?_;rintro e L ⟨rfl,D⟩;have g:=Z λ(q:ax L)=>C.o.1.th (Below.tO D q.2 D.size)
 clear y0 y1 y2 y3 y4 HR C D;have a1:=ax.ne L;have q1:∀q:ax L,q.1.cell? (pA (w.1.size+1) 1)=some (U ci):=λq=>ab (E.o q.1 (g.o q)).2.1 1 rfl
 have q0:∀q:ax L,q.1.cell? (pA (w.1.size+1) 0)=some (U 3):=λq=>ab (E.o q.1 (g.o q)).2.1 0 rfl
 have o:=Z λ(q:ax L)=>x.o q.1 _ (E.o q.1 (g.o q)).2.2 (E.o q.1 (g.o q)).1
 go_wp2_with fail;refine aW (by kernel_rfl) (by kernel_rfl) ?_
 repeat(go_big_quiet_step (first
  |(go_at_call 117;exact Calls.later_same (o.o _))
  |(go_at_call 118;exact Calls.later_same (I.o _))))
 refine Km ?_;rintro Q ⟨⟨_,M⟩,rfl⟩;have i:bL W2 Q:=g.o ⟨Q,M⟩;have⟨x0,N,p⟩:=E.o Q i;have⟨y0,y1,y2,y3,y4⟩:=aF N;have O:=Z2 i p;clear q0 q1 a1 o x I g M i p N;have r:=Z (y.o Q _ O.o.2 x0);clear y;go_wp2_with fail;go_at_call 117;refine r.o.mono ?_;rintro e b1 ⟨rfl,e5⟩;obtain rfl:=e5.symm;clear r;go_wp2_with fail;go_ret2;exact⟨_,rfl,ib _ _,O.o.2⟩
theorem nG(B a cap ra rl rc l k)(ci J:Nat)(rs:List aq)(d w)(hl:aE B w (.slice a 4 cap) l)(hr:cI B w (.agg #[U k,U ci,U J,.slice ra rl rc,U d]) (k,(ci:Int),(J:Int),rs,d))(K:B<=w.1.size)(L:bC l=0)(af:aZ (k,(ci:Int),(J:Int),rs,d)=0)(ak:k=1\/k=2\/k=3\/k=4)(c:aG)(m:l[ci]?=some c)(cf:aG)(al:l[J]?=some cf)(ao:decide (k=1\/k=3)≠c.1)(E C)(av:Hid (∀b,bL w b->cL 119 #[.slice a 4 cap,.agg #[U k,U ci,U J,.slice ra rl rc,U d]] b λe o=>∃v,e=.returned (.tuple #[v,U E])/\dx b.1.size o v C/\bL b o))(b0:k=3->cf.1=true):
  cL 93 #[.slice a 4 cap,.agg #[U k,U ci,U J,.slice ra rl rc,U d]] w λe b=>∃v,e=.returned (.tuple #[v,U E])/\wG w.1.size b v (if E=0 then l.set ci C else [])/\bL w b:=by
 have f:=Z ((f7.1 L).1);have HC:Hid (∀b,bL w b->cL 115 #[.slice a 4 cap] b (rT b (U 0))):=λb h=>by have:=lQ B _ l b (hl.l h K) (h.u K);rw[L] at this;exact this
 have HR:Hid (∀b,bL w b->cL 116 #[.agg #[U k,U ci,U J,.slice ra rl rc,U d]] b (rT b (U 0))):=λb h=>by have:=jy B _ _ b (hr.l h K) (h.u K);rw[af] at this;exact this
 have b1:=Z λb bx (h:bL w b) (hx:b.cell? (pA bx 0)=some (.slice a 4 cap))=>jT B bx a cap l ci c b (hl.l h K) f.o m hx
 have M:=Z λb bx (h:bL w b) (hx:b.cell? (pA bx 0)=some (.slice a 4 cap))=>jT B bx a cap l J cf b (hl.l h K) f.o al hx
 have a2:=Z λb=>rj ak b
 have⟨W2,s⟩:=nM ((w.alloc (.cells #[.slice a 4 cap] 22)).alloc (.cells #[U k,U ci,U J,.slice ra rl rc,U d] 71));have a3:=bB s;have b3:=sB s;have g0:=gB s;have g1:=gC s;have N:=Z λb (h:bL W2 b)=>Q3 (J0 (h.bk g0)) (h.bk g1) (a3.th h)
 have c7:=Z s;have b4:=Z b3;have c8:=Z a3;have dp:=Z K;have c9:=Z m;have a4:Hid (∀b,bL w b->cL 69 #[.slice a 4 cap] b λe o=>e=.returned (.slice (MZ b) 4 4)/\oD B b.1.size 4 l o/\bL b o):=λb h=>by have:=ww B _ l b (hl.l h K) (h.u K) (by rw[f.o];decide) (λc hc=>yL ((f7.1 L).2 c hc));rw[f.o] at this;exact this
 have ca:ci<4:=by have:=(K9.1 m).1;rw[f.o] at this;exact this
 have dc:(ci:Int)<4:=by omega
 have de:(0:Int)<=(ci:Int):=by omega
 have cc:(c.1==decide (k=1\/k=3))=false:=by simp;exact λe=>ao (by rw[e];simp)
 have a5:=Z b0;clear hl hr L af m al s a3 b3 g0 g1 K;clear ao ak c9 b0;have⟨bg,b5⟩:=nM (decide (k=1\/k=3));rw[<-b5] at a2 cc;clear b5;generalize c.1=cb at*;go_enter func93,ntmps93;go_wp2_with fail;rw[<-c7.o];go_at_call 115;refine(HC.o _ c8.o).mono ?_;rintro e w3 ⟨rfl,a6⟩;obtain⟨-,b6,R⟩:=N.o w3 a6;have⟨y0,y1,y2,y3,y4⟩:=aF b6;have a7:=Z2 a6 R;clear HC a6 R b6;go_wp2_with fail;go_at_call 116;refine(HR.o _ a7.o.2).mono ?_;rintro e w4 ⟨rfl,a8⟩;have t:=Z λ(q:ax w4)=>a7.o.1.th (Below.tO a8 q.2 a8.size)
 clear y0 y1 y2 y3 y4 HR a7 a8;have cd:=ax.ne w4;have q1:∀q:ax w4,q.1.cell? (pA (w.1.size+1) 1)=some (U ci):=λq=>ab (N.o q.1 (t.o q)).2.1 1 rfl
 have q0:∀q:ax w4,q.1.cell? (pA (w.1.size+1) 0)=some (U k):=λq=>ab (N.o q.1 (t.o q)).2.1 0 rfl
 have S:=Z λ(q:ax w4)=>b1.o q.1 _ (N.o q.1 (t.o q)).2.2 (N.o q.1 (t.o q)).1
 go_wp2_with fail;refine aW (by kernel_rfl) (by kernel_rfl) ?_
 repeat(go_big_quiet_step (first
  |(go_at_call 117;exact Calls.later_same (S.o _))
  |(go_at_call 118;exact Calls.later_same (a2.o _))))
 refine Km ?_;rintro w5 ⟨⟨_,b8⟩,rfl⟩;have x:bL W2 w5:=t.o ⟨w5,b8⟩;have⟨x0,b9,T⟩:=N.o w5 x;have⟨y0,y1,y2,y3,y4⟩:=aF b9;have y:=Z2 x T;clear q0 q1 cd S b1 a2 t b8 x T b9
 by_cases O:k=3
 all_goals
  first
   |(have ba:=a5.o O;rw[ba] at M;have V:Hid (cL 117 #[U J,.pointer (MZ w)] w5 λe o=>e=.returned (.bool true)/\o=w5):=M.o w5 _ y.o.2 x0;clear M a5 ba;subst O;go_wp2_with fail;go_at_call 117;refine V.o.mono ?_;rintro e e4 ⟨rfl,e5⟩;obtain rfl:=e5.symm;clear V;go_wp2_with fail)
   |(have e7:(k==3)=false:=(by simpa using O);clear M a5 O;go_wp2_with fail)
  go_at_call 119;refine(av.o _ y.o.2).mono ?_;rintro e w6 ⟨v,rfl,aa,bb⟩;obtain⟨la,lc,pa,pc,ev,-,-⟩:=id aa;have z:=Z aa
  rw[ev] at z |-
  have A:=y.o.1.th bb;have⟨x6,bc,W⟩:=N.o w6 A;have P:=Z2 A W;have bd:=io bc;have bf:=Z y.o.1.size;clear ev aa bb A W x0 y0 y1 y2 y3 y4 av y;have⟨n1,bk⟩:=nM (C.2.1.length);have⟨n2,bm⟩:=nM (C.2.2.1.length);have⟨dd,ac⟩:=nM (C.2.2.2);have⟨ob,ad⟩:=nM (C.1);have bo:=Z2 ad.symm ac.symm
  rw[<-bk,<-bm,<-ac,<-ad] at z |-
  clear bk bm ac ad
  by_cases hE:E=0
  ·subst hE;have⟨i,Q⟩:=nM (w6.alloc (.cells #[.bool ob,.slice la n1 lc,.slice pa n2 pc,U dd] 46));have D:=bA Q;have g7:=hA Q;have F:=P.o.1.th D;have G:=Z2 F ((N.o i F).2.2);have H:=Z (z.o.l lE D);have cx:=Z Q;have ae:=Z g7;have cT:w.1.size<w6.1.size:=by omega
   clear Q D g7 F z bc P;go_wp2_with fail;rw[<-cx.o];go_at_call 69;refine(a4.o _ G.o.2).mono ?_;rintro e w8 ⟨rfl,m,r⟩;have X:=G.o.1.th r;obtain⟨-,bq,Y⟩:=N.o w8 X;have⟨y0,y1,y2,y3,y4⟩:=aF bq;obtain⟨z0,z1,z2,z3,-⟩:=aL (r.bl ae.o);have br:=H.o.l lE r;have n:∀j,j<16->∃u,w8.cell? ⟨i.1.size,j,none⟩=some u/\w8.frozen? ⟨i.1.size,j,none⟩=false:=λj hj=>by obtain⟨xs,r1,r2,-⟩:=m;exact⟨xs[j]'(by rw[r2,f.o];omega),ab r1 j (by simp),fZ r1 _⟩
   obtain⟨u0,p0,f0⟩:=n (ci*4) (by omega);obtain⟨u1,p1,f1⟩:=n (ci*4+1) (by omega);obtain⟨u2,p2,f2⟩:=n (ci*4+2) (by omega);obtain⟨u3,p3,f3⟩:=n (ci*4+3) (by omega)
   have a0:Hid (wG w.1.size ((((w8.setCell ⟨i.1.size,ci*4,none⟩ (.bool ob)).setCell ⟨i.1.size,ci*4+1,none⟩ (.slice la n1 lc)).setCell ⟨i.1.size,ci*4+2,none⟩ (.slice pa n2 pc)).setCell ⟨i.1.size,ci*4+3,none⟩ (U dd)) (.slice (MZ i) 4 4) (l.set ci C)/\bL w ((((w8.setCell ⟨i.1.size,ci*4,none⟩ (.bool ob)).setCell ⟨i.1.size,ci*4+1,none⟩ (.slice la n1 lc)).setCell ⟨i.1.size,ci*4+2,none⟩ (.slice pa n2 pc)).setCell ⟨i.1.size,ci*4+3,none⟩ (U dd))):=by
    have I:=G.o.2.size;refine⟨oD.set (c:=C) m I f.o (by decide) ca (by rw[bo.o.1,bo.o.2]) (λwX h1 h2=>?_),(((Y.setCell (p:=⟨i.1.size,ci*4,none⟩) I _).setCell (p:=⟨i.1.size,ci*4+1,none⟩) I _).setCell (p:=⟨i.1.size,ci*4+2,none⟩) I _).setCell (p:=⟨i.1.size,ci*4+3,none⟩) I _⟩;obtain⟨ed,ee,ef,eg,bs,k1,k2⟩:=H.o;simp at bs;obtain⟨e0,⟨rfl,e1,rfl⟩,⟨rfl,e2,rfl⟩,e3⟩:=bs;have hX:∀g,w5.1.size<=g->g<i.1.size->wX.1[g]?=i.1[g]?:=λg hg hl=>(h1 g (by have:=bf.o;have:=b4.o;omega) (by omega) (by have:=r.size;omega)).trans (r.block g hl)
    have bv:=Kl r.size h2;exact⟨by rw[e1];exact k1 wX hX bv,by rw[e2];exact k2 wX hX bv⟩
   have en:¬w.1.size+1=i.1.size:=by have:=G.o.1.size;have:=b4.o;omega
   have eq:¬w6.1.size=i.1.size:=by have:=io ae.o;omega
   clear m r X bq Y br n a4 G H ae cT bd x6;go_wp2_with fail;go_ret2;exact⟨_,rfl,a0.o.1,a0.o.2⟩
  have hq:(E != 0)=true:=by simpa using hE
  have HE:=Z hE;clear hE z a4;go_wp2_with fail;go_ret2;exact⟨_,rfl,ib _ _,P.o.2.alloc P.o.2.size _⟩
theorem Bd(B lv rv l r w)(x:aE B w lv l)(E:cI B w rv r)(u:B<=w.1.size):
  cL 93 #[lv,rv] w λe z=>∃v,e=.returned (.tuple #[v,U (cQ l r)])/\wG w.1.size z v (dI l r)/\bL w z:=by
 by_cases o:bC l≠0\/aZ r≠0
 ·have R:cQ l r=if bC l=0 then aZ r else bC l:=by
   unfold cQ
   by_cases A:bC l=0
   ·have m:aZ r≠0:=by simpa [A] using o
    rw[Io A,iO m,Io A]
   rw[iO A,iO A]
  have H:dI l r=[]:=by
   unfold dI;rw[R,iO]
   by_cases A:bC l=0
   ·rw[Io A]
    simpa [A] using o
   rw[iO A];exact A
  rw[R,H];exact EK B lv rv l r w x E u o
 have p:bC l=0:=L8 λh=>o (.inl h)
 have m:aZ r=0:=L8 λh=>o (.inr h)
 have j:cQ l r=if decide (r.1=1\/r.1=3)=(bW l r.2.1).1 then 6 else (j6 l r).2:=by unfold cQ;rw[Io p,Io m]
 have q:dI l r=if cQ l r=0 then l.set r.2.1.toNat (j6 l r).1 else []:=rfl
 have y:=(f7.1 p).1;obtain⟨X,M,N,-,I⟩:=iB m;obtain⟨a,n,rfl,-,-⟩:=x.shape
 rw[y] at x |-
 obtain⟨C,D,rfl,F⟩:=E.shape;obtain⟨k,S,T,f,d⟩:=r
 simp only at X M N I F j q E m |-
 obtain⟨g,rfl⟩:∃g:Nat,S=(g:Int):=⟨S.toNat,by omega⟩;obtain⟨i,rfl⟩:∃i:Nat,T=(i:Int):=⟨T.toNat,by omega⟩;obtain⟨c,s⟩:∃c,l[g]?=some c:=⟨l[g]'(by omega),by simp⟩;obtain⟨G,t⟩:∃c,l[i]?=some c:=⟨l[i]'(by omega),by simp⟩;have J:bW l (g:Int)=c:=by unfold bW;rw[L3,Kn,s];rfl
 have K:bW l (i:Int)=G:=by unfold bW;rw[L3,Kn,t];rfl
 have L:k=1\/k=2\/k=3\/k=4:=by omega
 rw[J] at j;rw[L3] at q
 by_cases b:decide (k=1\/k=3)=c.1
 ·rw[Io b] at j;have H:dI l (k,(g:Int),(i:Int),f,d)=[]:=by rw[q,j];rfl
  rw[j,H];exact CC B a n C _ D l k g i f d w x E u p m L c s G t b
 rw[iO b] at j
 rcases L with rfl|rfl|rfl|rfl
 ·have e:j6 l (1,(g:Int),(i:Int),f,d)=fS (f,d):=rfl;rw[q,j,e];exact nG B a n C _ D l 1 g i f d w x E u p m (by simp) c s G t b _ _ (λz h=>zG B a n C _ D l g i f d z (x.l h u) (F.l h u) (h.u u)) (λe=>by cases e)
 ·have e:j6 l (2,(g:Int),(i:Int),f,d)=(if dm c.2.1 c.2.2 (f,d)=0 then (((true,dt c.2.1 c.2.2 (f,d),f,d):aG),(0:Int)) else (bn,dm c.2.1 c.2.2 (f,d))):=by show (if dm (bW l (g:Int)).2.1 (bW l (g:Int)).2.2 (f,d)=0 then (((true,dt (bW l (g:Int)).2.1 (bW l (g:Int)).2.2 (f,d),f,d):aG),(0:Int)) else (bn,dm (bW l (g:Int)).2.1 (bW l (g:Int)).2.2 (f,d)))=_;rw[J]
  have Y:(j6 l (2,(g:Int),(i:Int),f,d)).2=dm c.2.1 c.2.2 (f,d):=by
   rw[e]
   split
   ·rename_i h;exact h.symm
   rfl
  have e1:(j6 l (2,(g:Int),(i:Int),f,d)).1=if dm c.2.1 c.2.2 (f,d)=0 then (true,dt c.2.1 c.2.2 (f,d),f,d) else bn:=by
   rw[e]
   split<;>rfl
  rw[q,j,e1,Y]
  have O:aj (f,d)=0:=by
   rcases I with h|h
   ·exact h.2
   omega
  exact nG B a n C _ D l 2 g i f d w x E u p m (by simp) c s G t b _ _ (λz h=>xL B a n C _ D l g i f d z (x.l h u) (F.l h u) y (h.u u) O c s) (λe=>by cases e)
 ·obtain⟨fo,P,V,W⟩:=G
  cases fo with
  |true=>
   have e:j6 l (3,(g:Int),(i:Int),f,d)=fS (V,W):=by show (if (bW l (i:Int)).1=true then fS (bW l (i:Int)).2.2 else (bn,5))=_;rw[K];rfl
   rw[q,j,e];exact nG B a n C _ D l 3 g i f d w x E u p m (by simp) c s _ t b _ _ (λz h=>zU B a n C _ D l g i f d z (x.l h u) y (h.u u) true P V W t) (λ_=>rfl)
  |false=>
   have e:j6 l (3,(g:Int),(i:Int),f,d)=(bn,5):=by show (if (bW l (i:Int)).1=true then fS (bW l (i:Int)).2.2 else (bn,5))=_;rw[K];rfl
   have Q:c.1=false:=by simpa using b
   rw[e] at j;have H:dI l (3,(g:Int),(i:Int),f,d)=[]:=by rw[q,j];rfl
   rw[j,H];exact Er B a n C _ D l g i f d w x E u p m c s _ t Q rfl
 have e:j6 l (4,(g:Int),(i:Int),f,d)=(bn,0):=rfl;rw[q,j,e];exact nG B a n C _ D l 4 g i f d w x E u p m (by simp) c s G t b _ _ (λz h=>Au B a n C _ D l g i f d z (x.l h u)) (λe=>by cases e)
theorem CZ(B lv rs w)(hl:dh B w lv rs)(hB:B<=w.1.size):
  cL 60 #[lv] w λe f=>∃v,e=.returned (.tuple #[v,U (ay rs).2])/\wG w.1.size f v (ay rs).1/\bL w f:=by
 have HL:=Z λf (h:bL w f)=>hl.l h hB
 have a1:Hid (∀f z K b r,aE f.1.size f z b->cI f.1.size f K r->cL 93 #[z,K] f λe l=>∃v,e=.returned (.tuple #[v,U (cQ b r)])/\wG f.1.size l v (dI b r)/\bL f l):=λf z K b r h1 h2=>Bd f.1.size z K b r f h1 h2 lE
 have X:Hid (ay rs=if 40<rs.length then ([],2) else rs.foldl db (aA,0)):=rfl;obtain⟨a,ba,rfl,a2,bb,-⟩:=hl;have bc:=ai;have⟨n,hn⟩:=nM (rs.length);have HN:=Z hn.symm
 rw[<-hn] at X HL a2 |-
 clear hn;have⟨L,A⟩:=nM ((ay rs).1);have⟨M,C⟩:=nM ((ay rs).2);have m:Hid ((L,M)=ay rs):=by rw[A,C];rfl
 rw[<-A,<-C];clear A C
 by_cases N:40<n
 ·have O:(40:Int)<(n:Int):=by omega
  have u:Hid (L=[]/\M=2):=by
   have:=m.o;rw[X.o,Io N] at this;unfold Hid
   simpa using this
  go_enter func60,ntmps60;go_wp2_with fail;go_ret2;exact⟨_,by rw[u.o.2];rfl,by rw[u.o.1];exact ib _ _,Kf _ _⟩
 have O:¬(40:Int)<(n:Int):=by omega
 have P:=Z (by rw[m.o,X.o,iO N]:(L,M)=rs.foldl db (aA,0));clear X m;go_enter func60,ntmps60;go_wp2_with fail;go_at_call 33;refine(A8 w).mono ?_;rintro e W1 ⟨v1,rfl,o,a4⟩;obtain⟨bd,bf,Q,-,-⟩:=o.at.shape;have R:=Z o;have e4:aA.length=4:=rfl;rw[e4] at Q;subst Q;clear o e4;go_wp2_with fail;go_loopw [4,15] (λz iv wr=>∃k:Nat,k<=n/\iv=U k/\(∃ca cc,z=.slice ca 4 cc)/\Hid (∃b,(rs.take k).foldl db (aA,0)=(b,0)/\wG w.1.size wr z b/\b.length=4)/\Hid (bL w wr)) (λ_ iv _=>n-(intOf iv).toNat)
 case atStart=>exact⟨0,by omega,rfl,⟨_,_,rfl⟩,⟨aA,rfl,R.o,rfl⟩,a4⟩
 case round=>
  obtain⟨k,hk,rfl,⟨ca,cc,rfl⟩,Y,s⟩:=hrel;have⟨wo,a8⟩:=nM (wr);subst a8;have i0:(0:Int)<=(k:Int):=by omega
  have bk:=s.o.size
  by_cases bm:k<n
  ·have i1:(k:Int)<(n:Int):=by omega
   obtain⟨r,D⟩:∃r,rs[k]?=some r:=⟨rs[k]'(by rw[HN.o];omega),by simp⟩;obtain⟨b,j,c,t⟩:=Y.o;have E:=tJ rs k r D (aA,0);rw[j] at E;obtain⟨_,_,x,-,-,S⟩:=HL.o _ s.o;have⟨b3,o3,e,b0,a9⟩:=S k r D;simp at x;obtain⟨rfl,-,-⟩:=x;subst e;obtain⟨K,q0,q1,q2,q3,q4,F⟩:=a9;obtain⟨ra,T,er,-⟩:=F.shape;simp at er;subst er;generalize aa:r.2.2.2.1.length=rl at*;clear S D aa;have⟨W5,G⟩:=nM (wo.alloc (.cells #[U r.1,U r.2.1,U r.2.2.1,.slice ra rl T,U r.2.2.2.2] 71));have p:=bA G;have g:Hid (cL 93 #[.slice ca 4 cc,.agg #[U r.1,U r.2.1,U r.2.2.1,.slice ra rl T,U r.2.2.2.2]] W5 λe l=>∃v,e=.returned (.tuple #[v,U (cQ b r)])/\wG W5.1.size l v (dI b r)/\bL W5 l):=a1.o W5 _ _ b r (c.l p λ_ _ h=>h).at (iW (F.l p (by omega)) (by have:=p.size;omega));have y:=Z (s.o.th p);have ac:=Z G;have V:=Z E;have ad:=Z t;clear G p F c j E t Y;go_wp2_with fail;rw[<-ac.o];go_at_call 93;refine g.o.mono ?_;rintro e w6 ⟨v6,rfl,q,H⟩;have i:=y.o.th H;obtain⟨na,nc,ev,-,-⟩:=q.at.shape;subst ev
   by_cases d:cQ b r=0
   ·have x:(rs.take (k+1)).foldl db (aA,0)=(dI b r,0):=by rw[V.o];unfold db;rw[Io rfl];simp only;rw[Io d]
    have e2:(dI b r).length=4:=by rw[vK d,List.length_set];exact ad.o
    rw[e2] at q |-
    rw[d];have W:Hid (∃I,(rs.take (k+1)).foldl db (aA,0)=(I,0)/\wG w.1.size w6 (.slice na 4 nc) I/\I.length=4):=⟨_,x,q.l bR λk _ h=>Kd h y.o.size,e2⟩;have J:=Z i;clear x e2 q H i d g;go_wp2_with fail;exact⟨⟨k+1,by omega,by go_num,⟨na,nc,rfl⟩,W,J⟩,by simp[intOf];omega⟩
   have x:(rs.take (k+1)).foldl db (aA,0)=([],cQ b r):=by rw[V.o];unfold db;rw[Io rfl];simp only;rw[iO d]
   have u:Hid (L=[]/\M=cQ b r):=by
    have:=P.o;rw[ug rs (k+1) _ d _ x] at this;unfold Hid
    simpa using this
   have J:=Z i;have hq:(cQ b r != 0)=true:=by simpa using d
   generalize (dI b r).length=nl at*;generalize cQ b r=ne at*;clear x q H i d g;go_wp2_with fail;go_ret2;exact⟨_,by rw[u.o.2];rfl,by rw[u.o.1];exact ib _ _,J.o⟩
  obtain⟨b,j,c,t⟩:=Y.o
  have u:Hid (L=b/\M=0):=by
   have:=P.o;rw[Ki (by rw[HN.o];omega)] at j;rw[j] at this;unfold Hid
   simpa using this
  have af:=Z c;clear j c t Y;go_wp2_with fail;go_ret2;exact⟨_,by rw[u.o.2];rfl,by rw[u.o.1];exact af.o,s.o⟩
