import Derived.Test.YtjdnfhkkkejcfaaGreatDoorWd15
import Derived.Test.YtjdnfhkkkejcfaaGreatDoorWd23
set_option linter.all false
set_option maxRecDepth 100000
set_option maxHeartbeats 4000000
namespace Go.Proofs.YtjdnfhkkkejcfaaGreatDoor
open Go.RowKit Go.Maps Go.Proofs.Tryz
theorem Ab(s:ByteArray)(a5:s.size<=60000)(w)(he:dD w)(m:bt kN ((ar s.1.1).getD 0 [])=3)(hn:(ar s.1.1).length=2):
  cL 77 #[.string s] w λe I=>∃v,e=.returned (.tuple #[v,U (ch s.1.1).2])/\gi w.1.size I v (ch s.1.1).1/\bL w I:=by
 have d4:=@run_makeMap prog;have HE:=Z λI (h:bL w I)=>he.l h
 clear he;have⟨ws,o,bg,bk,V,a7⟩:=il s a5;have HM:=Z o;have bm:=Z V;obtain⟨u0,J⟩:∃u,ws[0]?=some u:=⟨ws[0]'(by omega),by simp⟩;have bo:=V u0 (Kb J);have a8:(ar s.1.1).getD 0 []=u0.1.1:=by rw[<-o,Kn,Ku,J];rfl
 have⟨W0,K⟩:=nM (w.alloc (.cells #[U 0,U 0,U 0,nL,U 0] 70));have g0:=hA K;have X:=bA K;have Y:=Z λI (h:bL W0 I)=>Q2 (h.bl g0) (X.th h)
 have⟨mm,hm⟩:=(HE.o W0 X).1;have q:Hid _:=a7 mm W0 hm;have HW:=Z K;have aa:=Z3 J a8 bo;clear K g0 X o V a7 hm J a8;have r:(ar s.1.1).length=ws.length:=by rw[<-HM.o];simp
 obtain⟨u1,L⟩:∃u,ws[1]?=some u:=⟨ws[1]'(by omega),by simp⟩;have bp:=bm.o u1 (Kb L);have ac:(ar s.1.1).getD 1 []=u1.1.1:=by rw[<-HM.o,Kn,Ku,L];rfl
 have bq:=Z (by rw[<-aa.o.2.1,m];rfl:1+bt kN u0.1.1=4)
 have R:Hid (ch s.1.1=match cS u1.1.1 with|none=>(cu,1)|some c=>gP (4,c,0,[],0)):=by
  unfold Hid ch;rw[m,hn,ac,iO (by omega)]
  cases cS u1.1.1<;>rfl
 have ad:=Z2 L bp;rw[r] at hn;rw[hn] at q;clear r m L ac bg bk;go_enter func77,ntmps77;go_wp2_with fail;rw[<-HW.o];go_at_call 106;refine Calls.mono q.o ?_;rintro e w1 ⟨SB,d6,rfl,da,dc,ae,c9,t,d⟩;have x0:=d 0 u0 aa.o.1;have dd:=Z d;have af:=Le (H:=Unit) w1 prog 9 (plainElem prog 3);have y1:=d 1 u1 ad.o.1;have ak:=Z (by have:=ai;omega:u0.size<=maxLen);clear d q HW
 go_wp2_with (first
  |(refine am _ rfl _ _ _ 137 rfl 9 3 dH Tryz.underlying137 (plainElem prog 3) w1.1.size 0 _ rfl af (by decide) _ _ _ rfl rfl (Ko Tryz.underlying9 (by decide)) _ [] (KH Tryz.underlying3 (by decide)) ?_;go_must (intro w2 x br;clear af;have i:=((Kf w1.1.size w1).alloc lE _).grown br (by simp) (λk m=>by cases m;exact Ke _)))
  |(refine am _ rfl _ _ _ 137 rfl 9 3 dH Tryz.underlying137 (plainElem prog 3) w1.1.size 1 _ rfl x (by decide) _ _ _ rfl rfl (Ko Tryz.underlying9 (by decide)) _ [] (KH Tryz.underlying3 (by decide)) ?_;go_must (intro w3 y bs;clear x;replace i:=i.grown bs i.size (λk m=>by cases m;exact Ke _)))
  |(refine am _ rfl _ _ _ 137 rfl 9 3 dH Tryz.underlying137 (plainElem prog 3) w1.1.size 2 _ rfl y (by decide) _ _ _ rfl rfl (Ko Tryz.underlying9 (by decide)) _ [] (KH Tryz.underlying3 (by decide)) ?_;go_must (intro w4 z bv;clear y;replace i:=i.grown bv i.size (λk m=>by cases m;exact Ke _)))
  |(refine am _ rfl _ _ _ 137 rfl 9 3 dH Tryz.underlying137 (plainElem prog 3) w1.1.size 3 _ rfl z (by decide) _ _ _ rfl rfl (Ko Tryz.underlying9 (by decide)) _ [] (KH Tryz.underlying3 (by decide)) ?_;go_must (intro G A bx;clear z;replace i:=i.grown bx i.size (λk m=>by cases m;exact Ke _);have x5:=(i.cell (p:=pA SB 0) t).trans x0;have y5:=(i.cell (p:=pA SB 1) t).trans y1;have al:SB<G.1.size:=(Kd t i.size);have di:=i.size;obtain⟨c',ao,h2,_⟩:=A.lookup_int dH Tryz.underlying137 Tryz.underlying3 (jj _) (Ko (s:=u0) Tryz.underlying9 ak.o);have b0:=(ji (h2.symm.trans (uV _))).trans bq.o;rw[b0] at ao;clear h2 b0)))
 have M:=ae.th i;have bz:=(Y.o G M).2;have b1:=Z M.size;have⟨W6,N⟩:=nM (G.alloc (.cells #[U 4,U 0,U 0,nL,U 0] 70));have b2:=bA N;have a1:=M.th b2;have g6:=hA N;have l6:=io g6;have b3:=Z λI (h:bL W6 I)=>Q2 ((h.block _ l6).trans g6:Na I G.1.size #[U 4,U 0,U 0,nL,U 0] 70) (a1.th h)
 have b4:Hid _:=mX u1 (by have:=ad.o.2;omega) W6 (HE.o W6 (Y.o W6 a1).2);rw[<-N];clear N g6 a1 b2 M bz i A ao x5 y5 x0 y1 ae;go_at_call 88;refine Calls.mono b4.o ?_;rintro e w7 ⟨n,ok,rfl,j,b6,b7⟩;have⟨g7,O⟩:=b3.o w7 b7;have l7:=io g7;have⟨q0,q1,q2,q3,q4⟩:=aF g7;have fq:=fZ g7 1;have dn:¬w.1.size=G.1.size:=by have:=(Y.o w7 O).1;have:=io this;intro e;rw[e] at this;have h2:=(Y.o w7 O).1;rw[e,g7] at h2;simp at h2
 have G7:=Z g7;have b8:=Z O;clear g7 O b7 b3 b4 al
 cases ok with
 |false=>
  have a:=Z (by rw[R.o,j];rfl:ch s.1.1=(cu,1));clear j;go_wp2_with fail;go_at_call 105;refine Calls.mono (jr 1 _) ?_;rintro e w8 ⟨rfl,l⟩;have C:bL W0 (w7.setCell (pW G 1) (U n)):=b8.o.setCell (p:=pW G 1) b1.o _;have f:=C.th l;clear C l q0 q1 q2 q3 q4 fq;have⟨b,g⟩:=Y.o w8 f;have lb:=io b;have⟨z0,z1,z2,z3,z4⟩:=aF b;have f0:=fZ b 0;have f1:=fZ b 1;have f2:=fZ b 2;have f3:=fZ b 3;have f4:=fZ b 4;have D:=Z g;clear b g f;go_wp2_with fail;refine Ka (v:=.tuple #[.agg #[U 0,U 0,U 0,nL,U 0],U 1]) ?_ rfl ⟨_,by rw[a.o],by rw[a.o];exact dg _ _,?_⟩
  ·rw[K8 rfl];go_simp
  exact D.o.s5 lE
 |true=>
  have S:=Z (by rw[R.o,j];rfl:ch s.1.1=gP (4,n,0,[],0));have⟨E,hE⟩:=nM (aZ (4,n,0,[],0));have T:Hid (gP (4,n,0,[],0)=if E=0 then ((4,n,0,[],0),0) else (cu,E)):=by rw[hE];rfl
  have F:∀B W,cI B W (.agg #[U 4,U n,U 0,nL,U 0]) (4,n,0,[],0):=λB W=>⟨_,rfl,(by unfold wf;decide:wf (4:Int)),b6,(by unfold wf;decide:wf (0:Int)),bV B W⟩
  have P:Hid _:=F;have c1:Hid (∀W,cL 64 #[.agg #[U 4,U n,U 0,nL,U 0]] W (rT W (U E))):=λW=>by rw[hE];exact eR 0 _ (4,n,0,[],0) W (F 0 W) (Ks _)
  clear hE F j;go_wp2_with fail;go_at_call 64;refine Calls.mono (c1.o _) ?_;rintro e w8 ⟨rfl,l⟩;have C:bL W0 (w7.setCell (pW G 1) (U n)):=b8.o.setCell (p:=pW G 1) b1.o _;have b9:=C.th l;have g8:Na w8 G.1.size #[U 4,U n,U 0,nL,U 0] 70:=(l.block _ (by simp;exact l7)).trans (ap G7.o);have l8:=io g8;have⟨r0,r1,r2,r3,r4⟩:=aF g8;have ba:=Z b9;clear C l q0 q1 q2 q3 q4 fq G7 b9 g8
  by_cases Q:E=0
  ·have a:=Z (by rw[S.o,T.o,Io Q]:ch s.1.1=((4,n,0,[],0),0));subst Q;have f:=ba.o;have⟨b,g⟩:=Y.o w8 f;have lb:=io b;have⟨z0,z1,z2,z3,z4⟩:=aF b;have f0:=fZ b 0;have f1:=fZ b 1;have f2:=fZ b 2;have f3:=fZ b 3;have f4:=fZ b 4;have D:=Z g;clear b g f;go_wp2_with fail;refine Ka (v:=.tuple #[.agg #[U 4,U n,U 0,nL,U 0],U 0]) ?_ rfl ⟨_,by rw[a.o],by rw[a.o];exact λ_ _ _=>P.o _ _,?_⟩
   ·rw[K8 rfl];go_simp
   exact D.o.s5 lE
  have a:=Z (by rw[S.o,T.o,iO Q]:ch s.1.1=(cu,E));have hq:(E != 0)=true:=by simpa using Q
  go_wp2_with fail;go_at_call 105;refine Calls.mono (jr E _) ?_;rintro e w9 ⟨rfl,bb⟩;have f:=ba.o.th bb;clear bb r0 r1 r2 r3 r4;have⟨b,g⟩:=Y.o w9 f;have lb:=io b;have⟨z0,z1,z2,z3,z4⟩:=aF b;have f0:=fZ b 0;have f1:=fZ b 1;have f2:=fZ b 2;have f3:=fZ b 3;have f4:=fZ b 4;have D:=Z g;clear b g f;go_wp2_with fail;refine Ka (v:=.tuple #[.agg #[U 0,U 0,U 0,nL,U 0],U E]) ?_ rfl ⟨_,by rw[a.o],by rw[a.o];exact dg _ _,?_⟩
  ·rw[K8 rfl];go_simp
  exact D.o.s5 lE
theorem ro(B lv ls w)(C:cD B w lv ls)(s:B<=w.1.size):
  cL 42 #[lv] w (rT w (U (bl ls))):=by
 have F:=Z λr (h:bL w r)=>C.l h s
 obtain⟨a,G,rfl,I,J,-⟩:=C;have K:=ai;have t:Hid (bl ls=if 6<ls.length then 2 else dK ls):=rfl;generalize l:ls.length=c at*;have d:=Z l;clear l
 by_cases D:6<c
 ·have u:(6:Int)<(c:Int):=by omega
  have i:=Z (by rw[t.o,Io D]:bl ls=2);go_enter func42,ntmps42;go_wp2;go_ret;exact⟨by rw[i.o];rfl,Kf _ _⟩
 have u:¬(6:Int)<(c:Int):=by omega
 have i:=Z (by rw[t.o,iO D]:bl ls=dK ls);clear t;go_enter func42,ntmps42;go_wp2;go_loopw [11] (λv wr=>∃k:Nat,k<=c/\v=U k/\Hid (dK ls=dK (ls.drop k))/\bL w wr) (λv _=>c-(intOf v).toNat)
 case atStart=>exact⟨0,by omega,rfl,rfl,Kf _ _⟩
 case round=>
  obtain⟨k,Q,rfl,H,g⟩:=hrel;have⟨L,x⟩:=nM (wr);subst x;have R:(0:Int)<=(k:Int):=by omega
  have j:=g.size
  by_cases M:k<c
  ·have T:(k:Int)<(c:Int):=by omega
   obtain⟨f,y⟩:∃f,ls[k]?=some f:=⟨ls[k]'(by rw[d.o];omega),by simp⟩;have S:=Z (qn ls k f y);obtain⟨_,_,E,-,-,q⟩:=F.o _ g;have⟨b,o,N,e,O,V,z⟩:=q k f y;simp at E;obtain⟨rfl,-,-⟩:=E;subst e;clear q;have m:=Z λr (h:bL L r)=>qF B N f r (z.l h (Kl s j)) (Kl s (h.u j))
   obtain⟨W,X,rfl,-,-⟩:=z.shape;clear z y;generalize f.length=Y at*
   by_cases p:aV f=0
   ·rw[p] at m;have A:=Z (by rw[H.o,S.o,Io p]:dK ls=dK (ls.drop (k+1)));clear p S;go_wp2_with (first|(go_at_call 72;go_must (refine(m.o _ bR).mono ?_;rintro e P ⟨rfl,n⟩)));exact⟨⟨k+1,by omega,by go_num,A,Below.tO g n j⟩,by simp[intOf];omega⟩
   have A:=Z (by rw[H.o,S.o,iO p]:dK ls=aV f);have hq:(aV f != 0)=true:=by simpa using p
   clear p S;generalize aV f=pe at*;go_wp2_with (first|(go_at_call 72;go_must (refine(m.o _ bR).mono ?_;rintro e P ⟨rfl,n⟩)));go_ret;exact⟨by rw[i.o,A.o];rfl,Below.tO g n j⟩
  go_wp2;go_ret;exact⟨by rw[i.o,H.o,KJ (by rw[d.o];omega)];rfl,g⟩
theorem uC(B cv dv cs b w)(d:dR B w cv cs)(f:dR B w dv b)(h:B<=w.1.size):
  cL 119 #[cv,dv] w (rT w (.bool (decide (cs=b)))):=by
 have i:=Z (qj B cv dv cs b w d f h);obtain⟨a,c,rfl,-,-⟩:=d.shape;obtain⟨j,k,rfl,-,-⟩:=f.shape;clear d f;generalize decide (cs=b)=eq at*;generalize cs.length=n at*;generalize b.length=l at*;go_enter func119,ntmps119;go_wp2_with (first|(go_at_call 82;go_must (refine i.o.mono ?_;rintro e m ⟨rfl,g⟩)));go_ret;exact⟨rfl,g⟩
theorem xi(B lv mv ls ms w)(L:cD B w lv ls)(M:cD B w mv ms)(E:B<=w.1.size):
  cL 80 #[lv,mv,.func (.func 119) #[] #[]] w (rT w (.bool (decide (ls=ms)))):=by
 have T:=Z λF (h:bL w F)=>L.l h E
 have V:=Z λF (h:bL w F)=>M.l h E
 obtain⟨a,W,rfl,X,Y,-⟩:=L;obtain⟨a',N,rfl,O,P,-⟩:=M;have a0:=ai;have Q:Hid (ls.length≠ms.length->decide (ls=ms)=false):=λh=>KD λe=>h (by rw[e])
 generalize p:ls.length=n at*;generalize i:ms.length=m at*;have j:=Z p;have c:=Z i;clear p i
 by_cases x:n=m
 ·subst x;clear Q;go_enter func80,ntmps80;go_wp2;go_loopw [17] (λG wr=>∃k:Nat,k<=n/\G=U k/\Hid (ls.take k=ms.take k)/\bL w wr) (λG _=>n-(intOf G).toNat)
  case atStart=>exact⟨0,by omega,rfl,by unfold Hid;simp,Kf _ _⟩
  case round=>
   obtain⟨k,hk,rfl,H,d⟩:=hrel;have⟨wo,I⟩:=nM (wr);subst I;have i0:(0:Int)<=(k:Int):=by omega
   have r:=d.size
   by_cases a4:k<n
   ·have i1:(k:Int)<(n:Int):=by omega
    obtain⟨f,y⟩:∃f,ls[k]?=some f:=⟨ls[k]'(by rw[j.o];omega),by simp⟩;obtain⟨g,D⟩:∃g,ms[k]?=some g:=⟨ms[k]'(by rw[c.o];omega),by simp⟩;have S:=Z (sD ls ms k f g y D H.o);have J:Hid (f≠g->decide (ls=ms)=false):=λh=>KD λe=>h (by rw[e,D] at y;simpa using y.symm)
    obtain⟨_,_,z,-,-,A⟩:=T.o _ d;have⟨b,o,fv,e,a6,hc,K⟩:=A k f y;simp at z;obtain⟨rfl,-,-⟩:=z;subst e;obtain⟨_,_,z,-,-,q⟩:=V.o _ d;have⟨b',o',gv,e,R,a8,s⟩:=q k g D;simp at z;obtain⟨rfl,-,-⟩:=z;subst e;clear A q;have l:=Z (uC B fv gv f g wo K s (Kl E r));obtain⟨a2,c2,rfl,-,-⟩:=K.shape;obtain⟨a3,c3,rfl,-,-⟩:=s.shape;clear K s y D;generalize f.length=n2 at*;generalize g.length=n3 at*
    by_cases v:f=g
    ·have t:=Z (S.o.2 v);rw[KS v] at l;clear v S J;go_wp2_with (first|(go_at_call 119;go_must (refine l.o.mono ?_;rintro e w2 ⟨rfl,u⟩)));exact⟨⟨k+1,by omega,by go_num,t,Below.tO d u r⟩,by simp[intOf];omega⟩
    have t:=Z (J.o v);rw[KD v] at l;clear v S J;go_wp2_with (first|(go_at_call 119;go_must (refine l.o.mono ?_;rintro e w2 ⟨rfl,u⟩)));go_ret;exact⟨by rw[t.o];rfl,Below.tO d u r⟩
   have t:Hid (decide (ls=ms)=true):=by apply KS;have:=H.o;rw[Ki (by rw[j.o];omega),Ki (by rw[c.o];omega)] at this;exact this
   go_wp2;go_ret;exact⟨by rw[t.o];rfl,d⟩
 have C:¬(n:Int)=(m:Int):=by omega
 have t:=Z (Q.o x);have hq:((n:Int) != (m:Int))=true:=by simpa using C
 go_enter func80,ntmps80;go_wp2;go_ret;exact⟨by rw[t.o];rfl,Kf _ _⟩
theorem EI(B lv mv ls b w)(d:cD B w lv ls)(f:cD B w mv b)(h:B<=w.1.size):
  cL 93 #[lv,mv] w (rT w (.bool (decide (ls=b)))):=by
 have i:=Z (xi B lv mv ls b w d f h);obtain⟨a,c,rfl,-,-⟩:=d.shape;obtain⟨j,k,rfl,-,-⟩:=f.shape;clear d f;generalize decide (ls=b)=eq at*;generalize ls.length=n at*;generalize b.length=l at*;go_enter func93,ntmps93;go_wp2_with (first|(go_at_call 80;go_must (refine i.o.mono ?_;rintro e m ⟨rfl,g⟩)));go_ret;exact⟨rfl,g⟩
theorem Fi(B h:Nat)(fv f)(x:Nat->Int)(w)(d:dR B w fv f)(j:B<=w.1.size)(i:w.1[h]?=some (.cells (fJ x) 34 (0,0))):
  cL 44 #[fv,.pointer (sO h)] w (rT w (U (og f x).1)):=by
 have k:=Z (Ir B fv f x w d j);obtain⟨a,c,rfl,-,-⟩:=d.shape;have b:=(eD i).1;have l:=b 0 (by omega);have m:=b 1 (by omega);have o:=b 2 (by omega);have p:=b 3 (by omega);have q:=b 4 (by omega);clear d b i;generalize f.length=n at*;generalize (og f x).1=r at*;generalize (og f x).2=s at*;generalize rt f x=t at*;go_enter func44,ntmps44;go_wp2_with (first|(go_at_call 45;go_must (refine k.o.mono ?_;rintro e u ⟨rfl,g⟩)));go_ret;exact⟨rfl,g⟩
theorem Hn(B lv ls)(x:Nat->Int)(w)(Y:cD B w lv ls)(X:B<=w.1.size):
  cL 17 #[lv,jm x] w λe c=>e=.returned (.tuple #[U (t6 ls x),U (mQ ls x)])/\Below w.1.size w c:=by
 have HL:Hid (∀c,Below w.1.size w c->cD B c lv ls):=λc h=>Y.l h X
 have HC:Hid (∀c,Below w.1.size w c->cL 42 #[lv] c λe l=>e=.returned (U (bl ls))/\Below c.1.size c l):=λc h=>ro B lv ls c (Y.l h X) (h.u X)
 have s:Hid (∀c,cL 43 #[.agg #[U (x 0),U (x 1),U (x 2),U (x 3),U (x 4)]] c λe l=>e=.returned (U (eC x))/\Below c.1.size c l):=λc=>pN (x 0) (x 1) (x 2) (x 3) (x 4) c
 have t:Hid (mQ ls x=if bl ls=0 then eC x else bl ls):=rfl;have j:Hid (t6 ls x=if mQ ls x=0 then fB x 4 ls else 0):=rfl;have E:Hid (bl ls=0->∀f∈ls,aV f=0):=λh=>(fA.1 h).2
 have u:Hid (eC x=0->∀f,aV f=0->(og f x).1=(dJ x 0 0 f).1):=λh f I=>by
  have hE:rt f x=0:=by rw[rt,Io I,h]
  rw[og,Io hE]
 obtain⟨a,a0,rfl,b1,b2,-⟩:=Y;have b3:=ai;generalize y:ls.length=m at*;have n:=Z y;clear y;show cL 17 #[.slice a m a0,.agg #[U (x 0),U (x 1),U (x 2),U (x 3),U (x 4)]] w _;have⟨J,p⟩:=nM (w.alloc (.cells #[U (x 0),U (x 1),U (x 2),U (x 3),U (x 4)] 34));have v:=bA p;have b4:=sA p;have hm:=hA p;have HX:Hid (∀c,Below J.1.size J c->c.1[w.1.size]?=some (.cells (fJ x) 34 (0,0))):=λc h=>(h.block w.1.size (by omega)).trans hm
 have HW:Hid _:=p;clear p hm;go_enter func17,ntmps17;go_wp2_with fail;rw[<-HW.o];go_at_call 42;refine(HC.o _ v).mono ?_;rintro e w1 ⟨rfl,q⟩;have a1:=q.size;have z:Below w.1.size w w1:=v.th q;have K:=(eD (HX.o w1 q)).1;have y0:=K 0 (by omega);have y1:=K 1 (by omega);have y2:=K 2 (by omega);have y3:=K 3 (by omega);have y4:=K 4 (by omega);clear K HC
 by_cases d:bl ls=0
 ·have M:Hid (∀f∈ls,aV f=0):=E.o d;have i:Hid (mQ ls x=eC x):=by unfold Hid;rw[t.o,Io d]
  rw[d];clear d E t;go_wp2_with fail;go_at_call 43;refine(s.o _).mono ?_;rintro e w2 ⟨rfl,F⟩;have bb:=F.size;have A:Below J.1.size J w2:=Below.tO q F a1;have N:Below w.1.size w w2:=v.th A;clear y0 y1 y2 y3 y4 q F z
  by_cases g:eC x=0
  ·have C:Hid (mQ ls x=0/\t6 ls x=fB x 4 ls):=by
    have e:mQ ls x=0:=by rw[i.o,g]
    exact⟨e,by rw[j.o,Io e]⟩
   have O:Hid (∀f,aV f=0->(og f x).1=(dJ x 0 0 f).1):=u.o g;rw[g];clear g i j u s;go_wp2_with fail;go_loopw [9,25] (λvv iv wr=>∃k:Nat,k<=m/\iv=U k/\vv=U (fB x 4 (ls.take k))/\Hid (Below J.1.size J wr)) (λ_ iv _=>m-(intOf iv).toNat)
   case atStart=>exact⟨0,by omega,rfl,rfl,A⟩
   case round=>
    obtain⟨k,hk,rfl,rfl,r⟩:=hrel;have⟨L,a4⟩:=nM (wr);subst a4;have i0:(0:Int)<=(k:Int):=by omega
    have P:=r.o.size;have G:Hid (Below w.1.size w L):=v.th r.o
    by_cases bd:k<m
    ·have i1:(k:Int)<(m:Int):=by omega
     obtain⟨f,I⟩:∃f,ls[k]?=some f:=⟨ls[k]'(by rw[n.o];omega),by simp⟩;have S:Hid (fB x 4 (ls.take (k+1))=if (dJ x 0 0 f).1<fB x 4 (ls.take k) then (dJ x 0 0 f).1 else fB x 4 (ls.take k)):=yA x ls k f I;obtain⟨_,_,e1,-,-,Q⟩:=HL.o _ G.o;have⟨b,o,fv,e,bf,hc,hi⟩:=Q k f I;simp at e1;obtain⟨rfl,-,-⟩:=e1;subst e;have R:=M.o f (Kb I);clear Q;have T:Hid (cL 44 #[fv,.pointer (sO w.1.size)] L λe l=>e=.returned (U (dJ x 0 0 f).1)/\Below L.1.size L l):=by have:=Fi B w.1.size fv f x L hi (G.o.u X) (HX.o L r.o);rw[O.o f R] at this;exact this
     obtain⟨a2,c2,rfl,-,-⟩:=hi.shape;clear hi I R;generalize f.length=n2 at*;generalize (dJ x 0 0 f).1=V at*;generalize fB x 4 (ls.take k)=D at*
     by_cases he:V<D
     ·have S':Hid (V=fB x 4 (ls.take (k+1))):=by unfold Hid;rw[S.o,Io he]
      have W:min D V=V:=by omega
      clear S;go_wp2_with (first|(go_at_call 44;go_must (refine T.o.mono ?_;rintro e w3 ⟨rfl,H⟩)))
      all_goals first|(exfalso;omega)|skip
      exact⟨⟨k+1,by omega,by go_num,by rw[S'.o],Below.tO r.o H P⟩,by simp[intOf];omega⟩
     have S':Hid (D=fB x 4 (ls.take (k+1))):=by unfold Hid;rw[S.o,iO he]
     have W:min D V=D:=by omega
     clear S;go_wp2_with (first|(go_at_call 44;go_must (refine T.o.mono ?_;rintro e w3 ⟨rfl,H⟩)))
     all_goals first|(exfalso;omega)|skip
     exact⟨⟨k+1,by omega,by go_num,by rw[S'.o],Below.tO r.o H P⟩,by simp[intOf];omega⟩
    have e:ls.take k=ls:=Ki (by rw[n.o];omega);rw[e];have HV:Hid (∃D,D=fB x 4 ls):=⟨_,rfl⟩;obtain⟨D,hv⟩:=HV.o;rw[<-hv];have a8:=Z hv;clear hv HV;go_wp2_with fail;go_ret2;exact⟨by rw[C.o.1,C.o.2,<-a8.o];rfl,G.o⟩
  have C:Hid (mQ ls x=eC x/\t6 ls x=0):=by have e:mQ ls x=eC x:=i.o;exact⟨e,by rw[j.o,iO (by rw[e];exact g)]⟩
  have hq:(eC x != 0)=true:=by simpa using g
  clear g i j u s;generalize eC x=cx at*;go_wp2_with fail;go_ret2;exact⟨by rw[C.o.1,C.o.2];rfl,N⟩
 have C:Hid (mQ ls x=bl ls/\t6 ls x=0):=by
  have e:mQ ls x=bl ls:=by rw[t.o,iO d]
  exact⟨e,by rw[j.o,iO (by rw[e];exact d)]⟩
 have hq:(bl ls != 0)=true:=by simpa using d
 clear d t j u s E;generalize bl ls=ce at*;go_wp2_with fail;go_ret2;exact⟨by rw[C.o.1,C.o.2];rfl,z⟩
