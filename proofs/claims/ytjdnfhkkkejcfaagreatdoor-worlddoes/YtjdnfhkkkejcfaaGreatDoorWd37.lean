import Derived.Test.YtjdnfhkkkejcfaaGreatDoorWd35
import Derived.Test.YtjdnfhkkkejcfaaGreatDoorWd36
import Derived.Lib.ConvBytes
set_option linter.all false
set_option maxRecDepth 100000
set_option maxHeartbeats 16000000
namespace Go.Proofs.YtjdnfhkkkejcfaaGreatDoor
open Go.RowKit Go.Maps Go.Proofs.Tryz
def JL(n q:Nat)(k:Nat)(v:Value):Prop:=if k=6 then ∃g:Nat,v=.slice (sO g) 2 2 else if k=7 then ∃a c,v=.slice a n c else if k=11 then ∃g:Nat,v=.slice (sO g) 2 2 else if k=12 then ∃a c,v=.slice a q c else True
theorem H7(n q k):∃v,JL n q k v:=by
 unfold JL
 split
 ·exact⟨_,0,rfl⟩
 split
 ·exact⟨_,none,0,rfl⟩
 split
 ·exact⟨_,0,rfl⟩
 split
 ·exact⟨_,none,0,rfl⟩
 exact⟨undef,trivial⟩
def uL(a:Nat)(sv tv:Value):Type:={ w':World // w'.cell? (pA a 0)=some sv/\w'.cell? (pA a 1)=some tv }
theorem tY(B v d w)(he:dD w)(hd:cJ B w v d)(hB:B<=w.1.size)(h1:d.1.length<=60000)(h2:d.2.length<=60000):
  cL 19 #[v] w λe f=>∃dv lv,e=.returned (.tuple #[dv,lv])/\cJ f.1.size f dv (jB d,[])/\dh f.1.size f lv (iF d)/\bL w f/\qt w.1.size f lv (iF d):=by
 obtain⟨sv,tv,rfl,hs,ht⟩:=hd;obtain⟨s,t⟩:=d;simp only[] at hs ht h1 h2;have⟨N,q⟩:=nM ((w.alloc (.cells #[sv,tv] 25)).alloc (.cells #[nL,nL] 25));have j:=bB q;have eV:=sB q;have bd:N.1[w.1.size]?=some (.cells #[sv,tv] 25 (0,0)):=by rw[q,Kq _ _ _ (by simp)];exact ah _ _
 have bf:N.1[w.1.size+1]?=some (.cells #[nL,nL] 25 (0,0)):=by have:=ah (w.alloc (.cells #[sv,tv] 25)) (.cells #[nL,nL] 25);rw[Kg] at this;rw[q];exact this
 have⟨L,hL⟩:=nM ((aM 40 s).1);have⟨M,hM⟩:=nM (aM (40-L.length) t);have bk:L.length<=40:=by rw[hL];exact o8 _ _
 have bm:M.1.length<=40:=by rw[hM];exact Kl (o8 _ _) (by omega)
 have bo:M.2.1<=t.length:=by rw[hM];exact sw _ _
 have O:Hid (jB (s,t)=s++t.take M.2.1/\iF (s,t)=L++M.1):=by unfold Hid jB iF mu;rw[hM,hL];exact⟨rfl,rfl⟩
 have P:Hid _:=iz (hs.l j hB);have Q:=Z λf (h:bL N f)=>iz (ht.l (j.th h) hB)
 have R:Hid (cL 46 #[.string ⟨s.toArray⟩,U 40] N λe f=>∃v,e=.returned (.tuple #[v,U (aM 40 s).2.1,U (aM 40 s).2.2])/\qt N.1.size f v L/\bL N f):=by have:=sT ⟨s.toArray⟩ (by rw[KR];simpa using h1) 40 (by omega) N (he.l j);unfold Hid;rw[hL];exact this
 have D:Hid (∀f,bL N f->cL 46 #[.string ⟨t.toArray⟩,U (40-(L.length:Int))] f λe m=>∃v,e=.returned (.tuple #[v,U M.2.1,U M.2.2])/\qt f.1.size m v M.1/\bL f m):=λf h=>by have:=sT ⟨t.toArray⟩ (by rw[KR];simpa using h2) (40-L.length) (by omega) f (he.l (j.th h));rw[show ((40-L.length:Nat):Int)=40-(L.length:Int) by omega] at this;rw[hM];exact this
 have HS:=Z λf (h:bL N f)=>Q2 (hs.l (j.th h) hB) (ht.l (j.th h) hB)
 obtain⟨ss,bp⟩:∃ss:ByteArray,ss=⟨s.toArray⟩:=⟨_,rfl⟩;obtain⟨tt,bq⟩:∃tt:ByteArray,tt=⟨t.toArray⟩:=⟨_,rfl⟩;rw[<-bp] at P R;rw[<-bq] at Q D;obtain⟨a,c,e1,dl,dn,-⟩:=hs;obtain⟨b,S,e2,dp,br,-⟩:=ht;subst e1 e2;have V:=Z q;have bs:=Z j;have⟨LN,bv⟩:=nM ((aM 40 s).2.1);have⟨LE,bx⟩:=nM ((aM 40 s).2.2);rw[<-bv,<-bx] at R;have r:Hid _:=bd;have bz:Hid _:=bf;have⟨I,a9⟩:=nM (s.length);have⟨tn,W⟩:=nM (t.length);have⟨X,aa⟩:=nM (L.length);have⟨mn,ac⟩:=nM (M.1.length);have⟨mb,Y⟩:=nM (M.2.1);have⟨me,bF⟩:=nM (M.2.2);have⟨MR,a0⟩:=nM (M.1);have HN:Hid (s.length=I/\t.length=tn/\L.length=X/\MR.length=mn):=⟨a9.symm,W.symm,aa.symm,by rw[a0];exact ac.symm⟩;rw[<-ac] at bm;rw[<-Y,<-W] at bo;rw[<-Y,<-a0] at O;rw[<-Y,<-bF,<-a0] at D;rw[<-aa] at bk D
 rw[<-a9] at h1 dl P HS V r |-
 rw[<-W] at h2 dp Q HS V r |-
 have f4:IntKind.i64.wrap (40-(X:Int))=40-(X:Int):=by exact KA (40-(X:Int)) (by omega)
 clear hL hM bv bx bp bq a9 W aa ac Y bF a0 bd bf j q he;rw[ai] at dn br;go_enter func19,ntmps19;go_wp2_with fail;rw[<-V.o,P.o];go_wp2_with fail;go_at_call 46;refine Calls.mono R.o ?_;rintro e w1 ⟨lv,rfl,af,j⟩;obtain⟨la,lc,el,-,-,-⟩:=id af;rw[HN.o.2.2.1] at el;subst el;have y0:=J0 (j.bk r.o);have y1:=J1 (j.bk r.o);have a5:Hid _:=Q.o w1 j;have a6:Hid _:=D.o w1 j;have c3:=Z af;have a1:=Z j;clear af j Q D R P;go_wp2_with fail;rw[a5.o];go_wp2_with fail;go_at_call 46;refine Calls.mono a6.o ?_;rintro e w2 ⟨mv,rfl,ak,a2⟩;obtain⟨ma,mc,em,-,-,-⟩:=id ak;rw[HN.o.2.2.2] at em;subst em;have o:=a1.o.th a2;have dq:=Z o;have dr:w.1.size+1<w2.1.size:=by have:=o.size;omega
 have E:=Z (o.bk r.o);have al:=Z (o.bk bz.o);have⟨RB,av⟩:=nM (s++t.take mb);have⟨RQ,b2⟩:=nM (L++MR);have c6:Hid (∀g f,(∃T fr,f.1[g]?=some (.cells #[.slice a I c,.slice b mb S] T fr))->bL w2 f->cL 47 #[.slice (sO g) 2 2] f λe m=>∃v,e=.returned v/\aI m.1.size m v RB/\bL f m):=by rintro g f ⟨T,fr,hg⟩ J;have⟨b0,b1⟩:=HS.o f (o.th J);have fa:=J.size;refine(pq B _ _ s (t.take mb) g f b0 (b1.take mb (by rw[HN.o.2.1];exact bo)) (by omega) (io hg) (J0 hg) (J1 hg) (by rw[Kt,HN.o.1];omega)).mono ?_;rintro e m ⟨v,rfl,K,F⟩;exact⟨v,rfl,by rw[av];exact pk K,F⟩
 have c8:Hid (∀g f,(∃T fr,f.1[g]?=some (.cells #[.slice la X lc,.slice ma mn mc] T fr))->bL w2 f->cL 48 #[.slice (sO g) 2 2] f λe m=>∃v,e=.returned v/\(dh m.1.size m v RQ/\qt (w.1.size+1+1) m v RQ)/\bL f m):=by
  rintro g f ⟨T,fr,hg⟩ J;have n0:qt (w.1.size+1+1) f (.slice la X lc) L:=((c3.o.l a2).l J).mono (by omega);have n1:qt (w.1.size+1+1) f (.slice ma mn mc) MR:=(ak.l J).mono (by have:=a1.o.size;omega);have r0:=n0.recs.conds;have r1:=n1.recs.conds;have ds:w.1.size+1+1<=f.1.size:=by have:=a1.o.size;have:=a2.size;have:=J.size;omega
  refine(EF f.1.size _ _ L MR g f r0 r1 lE (io hg) (J0 hg) (J1 hg) (by rw[HN.o.2.2.1,HN.o.2.2.2];omega)).mono ?_;rintro e m ⟨v,rfl,xs,K,hx,F,e0⟩;exact⟨v,rfl,by rw[b2];exact⟨Br K hx F.size,Gi (cU K ds) hx (e0 _ n0.pr n1.pr) F⟩,F⟩
 have p:=Z (by rw[O.o.1,O.o.2,av,b2];exact⟨rfl,rfl⟩:jB (s,t)=RB/\iF (s,t)=RQ);have⟨nB,c9⟩:=nM (RB.length);have⟨nQ,cb⟩:=nM (RQ.length);have cc:=Z2 c9.symm cb.symm;have a8:=Z (bs.o.th o);clear ak a2 o av b2 c9 cb y0 y1 a5 a6 c3 a1 dq HN O HS bs V r bz;go_wp2_with fail;have q0:∀z:uL w.1.size (.slice a I c) (.slice b tn S),z.1.cell? (pW w 0)=some (.slice a I c):=λz=>z.2.1
 have q1:∀z:uL w.1.size (.slice a I c) (.slice b tn S),z.1.cell? (pW w 1)=some (.slice b tn S):=λz=>z.2.2
 have a4:Nonempty (uL w.1.size (.slice a I c) (.slice b tn S)):=⟨⟨w2,J0 E.o,J1 E.o⟩⟩
 have A:Hid (∀fs f,yR (w.1.size+1) w2 (.slice a I c) (.slice b mb S) (.slice la X lc) (.slice ma mn mc) RB RQ fs f->∃z:uL w.1.size (.slice a I c) (.slice b tn S),f=z.1):=λfs f h=>⟨⟨f,J0 (h.cells E.o (by omega)),J1 (h.cells E.o (by omega))⟩,rfl⟩
 refine bJ [_,_,_,_,_,_,_,_,_,_,_,_,_,_] _ rfl (λk=>k==6||k==7||k==11||k==12||k==13) (yR (w.1.size+1) w2 (.slice a I c) (.slice b mb S) (.slice la X lc) (.slice ma mn mc) RB RQ) (JL nB nQ) (H7 _ _) (by kernel_rfl) (by kernel_rfl) (yR.start _ _ _ _ _ _ _ _) ?_;iterate 6(refine aP A.o rfl rfl ?_;go_big_quiet_step (fail);refine Km ?_)
 refine cz rfl rfl (λgs f n i l=>⟨.slice (MZ f) 2 2,f.alloc (.cells #[.slice a I c,.slice b mb S] 23),?_,⟨_,rfl⟩,yR.of (n.ahead (.inl rfl) l).1 (by decide) (((n.ahead (.inl rfl) l).2.l ((Kf f.1.size f).alloc lE _)).put6 _ ⟨_,_,_,rfl,ah f _⟩)⟩) (λv6 e4=>?_)
 ·clear n i l q0 q1 A a4;go_simp
 go_frame;obtain⟨g6,rfl⟩:∃g:Nat,v6=.slice (sO g) 2 2:=e4;refine bw 47 #[.slice (sO g6) 2 2] rfl rfl (λf=>by kernel_rfl) (λgs f n i l=>?_) (λv7 e5=>?_)
 ·have h6:=i 6 _ (.inr ⟨rfl,rfl⟩) (au (by kernel_rfl));have⟨b4,hA⟩:=n.ahead (.inr (.inl rfl)) l;obtain⟨g,T0,fr,e,C⟩:=hA.lit6 _ h6;simp at e;subst e;refine(c6.o g6 f ⟨T0,fr,C⟩ hA.below).mono ?_;rintro e w3 ⟨u,rfl,K,J⟩;obtain⟨a',c',e7,-,-,-⟩:=id K;rw[cc.o.1] at e7;exact⟨_,rfl,⟨a',c',e7⟩,yR.of b4 (by decide) ((hA.l J).put7 _ K)⟩
 go_frame;obtain⟨a7,c7,rfl⟩:∃a b5,v7=.slice a nB b5:=e5;iterate 3(refine aP A.o rfl rfl ?_;go_big_quiet_step (fail);refine Km ?_)
 refine cz rfl rfl (λgs f n i l=>⟨.slice (MZ f) 2 2,f.alloc (.cells #[.slice la X lc,.slice ma mn mc] 52),?_,⟨_,rfl⟩,yR.of (n.ahead (.inr (.inr (.inl rfl))) l).1 (by decide) (((n.ahead (.inr (.inr (.inl rfl))) l).2.l ((Kf f.1.size f).alloc lE _)).put11 _ ⟨_,_,_,rfl,ah f _⟩)⟩) (λea ce=>?_)
 ·clear n i l q0 q1 A a4;go_simp
 go_frame;obtain⟨cf,rfl⟩:∃g:Nat,ea=.slice (sO g) 2 2:=ce;refine bw 48 #[.slice (sO cf) 2 2] rfl rfl (λf=>by kernel_rfl) (λgs f n i l=>?_) (λeb ci=>?_)
 ·have ck:=i 11 _ (.inr ⟨rfl,rfl⟩) (au (by kernel_rfl));have⟨b4,hA⟩:=n.ahead (.inr (.inr (.inr rfl))) l;obtain⟨g,T0,fr,e,C⟩:=hA.lit11 _ ck;simp at e;subst e;refine(c8.o cf f ⟨T0,fr,C⟩ hA.below).mono ?_;rintro e w3 ⟨u,rfl,K,J⟩;obtain⟨a',c',e7,-,-,-⟩:=id K.1;rw[cc.o.2] at e7;exact⟨_,rfl,⟨a',c',e7⟩,yR.of b4 (by decide) ((hA.l J).put12 _ K ⟨_,ck⟩)⟩
 go_frame;obtain⟨b6,b7,rfl⟩:∃a b5,eb=.slice a nQ b5:=ci;refine fL rfl rfl (λgs f n i l=>?_) (λfo ex=>?_)
 ·have h6:=i 6 _ (.inl (.inl (.inl (.inr ⟨rfl,rfl⟩)))) (au (by kernel_rfl));have h7:=i 7 _ (.inl (.inl (.inr ⟨rfl,rfl⟩))) (au (by kernel_rfl));have cl:=i 12 _ (.inr ⟨rfl,rfl⟩) (au (by kernel_rfl));have⟨cn,co⟩:=n.stored l h6 h7 cl;have G:=(cn.block _ dr).trans al.o;have z0:=J0 G;have z1:=J1 G;have f0:=fZ G 0;have f1:=fZ G 1;refine⟨(f.setCell (pA (w.1.size+1) 0) (.slice a7 nB c7)).setCell (pA (w.1.size+1) 1) nL,?_,by simp[JL],co⟩;clear n i l q0 q1 A a4 h6 h7 cl cn co G;go_simp
 go_frame;refine ei ?_;intro w4 n;have⟨u7,H,hD,hQ,cp,C⟩:=n.done (.inl (.inr ⟨rfl,rfl⟩)) (.inr ⟨rfl,rfl⟩) al.o;have y0:=J0 H;have y1:=J1 H;have HE:Hid (cJ w4.1.size w4 (.agg #[u7,nL]) (jB (s,t),[])/\dh w4.1.size w4 (.slice b6 nQ b7) (iF (s,t))/\bL w w4/\qt w.1.size w4 (.slice b6 nQ b7) (iF (s,t))):=⟨by rw[p.o.1];exact hD,by rw[p.o.2];exact hQ,Mj a8.o (C _ (by omega) (by omega)),by rw[p.o.2];exact cp.mono (by omega)⟩;obtain⟨ua,uc,eu,-,-,-⟩:∃ua uc,u7=.slice ua RB.length uc/\True/\True/\True:=by obtain⟨x,y,e,⟨ua,uc,e',-,-,-⟩,-⟩:=hD;simp at e;exact⟨ua,uc,by rw[e.1];exact e',trivial,trivial,trivial⟩
 subst eu;clear n H hD hQ cp C q0 q1 A a4 c6 c8 p a8 E al;go_wp2_with fail;refine Ka (v:=.tuple #[.agg #[.slice ua RB.length uc,nL],.slice b6 nQ b7]) ?_ rfl ⟨_,_,rfl,HE.o⟩;rw[K8 rfl];go_simp
theorem xN(B v d w)(f:dD w)(g:cJ B w v d)(h:B<=w.1.size)(i:d.1.length<=60000)(j:d.2.length<=60000):
  cL 19 #[v] w λe a=>∃b c,e=.returned (.tuple #[b,c])/\cJ a.1.size a b (jB d,[])/\dh a.1.size a c (iF d)/\bL w a:=
 (tY B v d w f g h i j).mono λ_ _ ⟨b,c,k,l,m,n,_⟩=>⟨b,c,k,l,m,n⟩
def km(d:bQ):Int:=aB (d.1++d.2,[])
def p6(d:bQ):bQ:=if km d=0 then (d.1++d.2,[]) else ([],[])
theorem oH(B w):cJ B w (.agg #[nL,nL]) ([],[]):=
 ⟨_,_,rfl,⟨none,0,rfl,Ke _,Ks _,λi b a=>by simp at a⟩,⟨none,0,rfl,Ke _,Ks _,λi b a=>by simp at a⟩⟩
theorem ip(B w):aI B w nL []:=⟨none,0,rfl,Ke _,Ks _,λi b a=>by simp at a⟩
theorem ic{w:World}{k:Nat}{x y u v:Value}{T}(h:w.1[k]?=some (.cells #[x,y] T (0,0))):((w.setCell (pA k 0) u).setCell (pA k 1) v).1[k]?=some (.cells #[u,v] T (0,0))/\iE k w ((w.setCell (pA k 0) u).setCell (pA k 1) v)/\((w.setCell (pA k 0) u).setCell (pA k 1) v).1.size=w.1.size:=by refine⟨?_,λg a=>(Kc _ _ _ _ a).trans (Kc _ _ _ _ a),by simp⟩;rw[ap (ap h)];rfl
theorem Dg(B v d w)(he:dD w)(hd:cJ B w v d)(hB:B<=w.1.size)(h1:d.1.length<=60000)(h2:d.2.length<=60000):
  cL 37 #[v] w λe L=>∃dv,e=.returned (.tuple #[dv,U (km d)])/\cJ L.1.size L dv (p6 d)/\bL w L:=by
 obtain⟨sv,tv,rfl,hs,ht⟩:=hd;obtain⟨s,t⟩:=d;simp only[] at hs ht h1 h2;have W:=Z λL (h:bL w L)=>Q2 (hs.l h hB) (ht.l h hB)
 have HE:=Z λL (h:bL w L)=>he.l h
 obtain⟨a,c,e1,ae,af,-⟩:=hs;obtain⟨b,M,e2,ak,X,-⟩:=ht;subst e1 e2;have⟨R,hR⟩:=nM (s++t);have j:Hid (km (s,t)=aB (R,[])/\p6 (s,t)=if aB (R,[])=0 then (R,[]) else ([],[])):=by unfold Hid p6 km;rw[hR];exact⟨rfl,rfl⟩
 have⟨r,g⟩:=nM (((w.alloc (.cells #[.slice a s.length c,.slice b t.length M] 25)).alloc (.cells #[nL,nL] 25)).alloc (.cells #[.slice a s.length c,.slice b t.length M] 23));have f:bL w r:=by rw[g];exact((bR.alloc lE _).alloc (by simp) _).alloc (by simp;omega) _
 have bg:r.1.size=w.1.size+1+1+1:=by rw[g];simp
 have Y:r.1[w.1.size]?=some (.cells #[.slice a s.length c,.slice b t.length M] 25 (0,0)):=by rw[g,Kq _ _ _ (by simp;omega),Kq _ _ _ (by simp)];exact ah _ _
 have a0:r.1[w.1.size+1]?=some (.cells #[nL,nL] 25 (0,0)):=by have:=ah (w.alloc (.cells #[.slice a s.length c,.slice b t.length M] 25)) (.cells #[nL,nL] 25);rw[Kg] at this;rw[g,Kq _ _ _ (by simp)];exact this
 have N:r.1[w.1.size+1+1]?=some (.cells #[.slice a s.length c,.slice b t.length M] 23 (0,0)):=by have:=ah ((w.alloc (.cells #[.slice a s.length c,.slice b t.length M] 25)).alloc (.cells #[nL,nL] 25)) (.cells #[.slice a s.length c,.slice b t.length M] 23);rw[Kg,Kg] at this;rw[g];exact this
 have a1:Hid (cL 47 #[.slice (sO (w.1.size+1+1)) 2 2] r λe x=>∃v,e=.returned v/\aI x.1.size x v R/\bL r x):=by have⟨b0,b1⟩:=W.o r f;refine(pq B _ _ s t _ r b0 b1 (by omega) (by omega) (J0 N) (J1 N) (by omega)).mono ?_;rintro e x ⟨v,rfl,ho,ao⟩;exact⟨v,rfl,by rw[hR];exact pk ho,ao⟩
 have y:=Z g;have z:Hid _:=Y;have a2:Hid _:=a0;have a3:Hid _:=f;have⟨sn,a4⟩:=nM (s.length);have⟨tn,a5⟩:=nM (t.length)
 rw[<-a4] at y z h1 |-
 rw[<-a5] at y z h2 |-
 clear a4 a5 hR g Y a0 N f W ae ak af X he;go_enter func37,ntmps37;go_wp2_with fail;rw[<-y.o];refine Calls.mono a1.o ?_;rintro e w1 ⟨cv,rfl,O,f⟩;have A:=f.bk z.o;have a6:=f.bk a2.o;have bq:=f.size;have H:=a3.o.th f;obtain⟨C,D,ec,-,-,-⟩:=id O;have⟨E,a7⟩:=nM (R.length);rw[<-a7] at ec;subst ec;clear a7;have⟨y0,y1,f0,f1⟩:=ag A;have⟨k0,P,V⟩:=ic (u:=.slice C E D) (v:=nL) A;have⟨I,F⟩:=nM ((w1.setCell (pW w 0) (.slice C E D)).setCell (pW w 1) nL);have k:bL w I:=by rw[F];exact H.s2 lE
 rw[<-F] at k0 P V;have l:aI I.1.size I (.slice C E D) R:=by rw[V];exact O.box P (gw.of A)
 have J:I.1[w.1.size+1]?=some (.cells #[nL,nL] 25 (0,0)):=(P _ (by omega)).trans a6;have Q:Hid _:=qy I.1.size (.agg #[.slice C E D,nL]) (R,[]) I (HE.o I k) ⟨_,_,rfl,l,ip _ _⟩ lE;have S:=Z F;have T:Hid _:=k0;have m:=Z l;have n:Hid _:=J;have o:Hid _:=k;generalize aB (R,[])=de at*;have b2:w.1.size+1<I.1.size:=by omega
 clear O f A a6 H k0 P V F k l J y z a2 a3 a1 HE;go_wp2_with fail;rw[<-S.o];refine Calls.mono Q.o ?_;rintro e w3 ⟨rfl,i⟩;have g0:=i.bk T.o;have g1:=(i.block _ b2).trans n.o;have p:=o.o.th i;have q:=(m.o.l i lE).wide i.size;obtain⟨z0,z1,-,-⟩:=ag g0;have⟨x0,x1,br,bs⟩:=ag g1;have K:Hid _:=p
 by_cases h0:de=0
 ·subst h0;have⟨k0,P,V⟩:=ic (u:=.slice C E D) (v:=nL) g1;have HF:Hid (cJ ((w3.setCell (pA (w.1.size+1) 0) (.slice C E D)).setCell (pA (w.1.size+1) 1) nL).1.size ((w3.setCell (pA (w.1.size+1) 0) (.slice C E D)).setCell (pA (w.1.size+1) 1) nL) (.agg #[.slice C E D,nL]) (p6 (s,t))):=by unfold Hid;rw[j.o.2,Io rfl,V];exact⟨_,_,rfl,q.box P (gw.of g1),ip _ _⟩
  have G:=Z j.o.1;clear k0 P V g0 g1 p i q j T m n o Q S;go_wp2_with fail;refine Ka (v:=.tuple #[.agg #[.slice C E D,nL],U 0]) ?_ rfl ⟨_,by rw[G.o],HF.o,?_⟩
  ·rw[K8 rfl];go_simp
  exact K.o.s2 (by show w.1.size<=w.1.size+1;omega)
 have G:=Z2 j.o.1 (by rw[j.o.2,iO h0]:p6 (s,t)=([],[]));have hq:(de != 0)=true:=by simpa using h0
 clear g0 g1 p i q j T m n o Q S h0;go_wp2_with fail;refine Ka (v:=.tuple #[.agg #[nL,nL],U de]) ?_ rfl ⟨_,by rw[G.o.1],by rw[G.o.2];exact oH _ _,?_⟩
 ·rw[K8 rfl];go_simp
 exact K.o.s2 (by show w.1.size<=w.1.size+1;omega)
theorem BK{n:Int}(h:0<=n/\n<=3):(Lib.itoa n).length<=4:=by unfold Lib.itoa;rw[iO (by omega)];have:=jS n.toNat;omega
theorem Gc(k:Nat):(kN.getD k []).length<=5:=by
 match k with
 |0=>decide
 |1=>decide
 |2=>decide
 |3=>decide
 |k+4=>simp[kN]
theorem uZ(r):(fP r).length<=100000000:=by
 unfold fP
 split
 ·rename_i h;unfold aZ at h
  split at h
  ·cases h
  split at h
  ·cases h
  rename_i b
  split at h
  ·cases h
  have c:=BK (n:=r.2.1) (by omega);have d:=BK (n:=r.2.2.1) (by omega);have e:=Gc (r.1-1).toNat;unfold aU
  split at h
  ·have a:=jF h;have f:=iT r.2.2.2.1 a.2.2;have g:=jM r.2.2.2.2;have i:(cW r.2.2.2).length<=96000005:=by unfold cW;rw[Kj];omega
   rw[iO (by omega),iO (by omega)];simp only[Kj,Kv];omega
  split
  ·simp only[Kj,Kv];omega
  rw[Io (by omega)];simp only[Kj,Kv,Lf];omega
 exact Ks _
def lz(d:bQ)(r:az):Int:=if aZ r=0 then (if 60000<d.1.length+d.2.length+(fP r).length+1 then 2 else 0) else aZ r
def gf(d:bQ)(r:az):bQ:=if lz d r=0 then (d.1,d.2++(fP r++[10])) else ([],[])
theorem wB(s:ByteArray)(w:World)(f:s.size<=140737488355328):∃a c,(convert 9 23 (.string s)).run prog w=.ok (.slice (sO w.1.size) s.size a) c/\aI c.1.size c (.slice (sO w.1.size) s.size a) s.1.1/\bL w c:=by
 refine⟨_,_,Lib.run_convert_string_bytes w 9 23 5 s Tryz.underlying9 Tryz.underlying23 Tryz.underlying5,?_,?_⟩
 ·refine⟨some (pW w 0),_,by rw[<-KR],?_,?_,λi b d=>?_⟩
  ·rw[<-KR];exact grownCap_ge w _ _ _
  ·exact Mm w _ 0 _ (by rw[ai];omega)
  refine⟨w.1.size,0,rfl,by rw[Lib.bytesWorld_size];omega,?_⟩;have e:i<s.size:=by rw[KR];exact(K9.1 d).1
  rw[Kp,Lib.bytesWorld_cell w _ s i e];simp[List.getD,d]
 unfold Lib.bytesWorld;exact Lib.below_freeze (bR.drew.alloc lE _) (p:=⟨w.1.size,_,none⟩) lE _
structure DF (W:World) (tv:Value) (X R:Bs) (fs:Nat->Value->Prop) (w:World):Prop where
 below:bL W w
 row6:∀u,fs 6 u->aI w.1.size w u X
 lit7:∀u,fs 7 u->∃v,aI w.1.size w v X/\A2 w u tv v
 row8:∀u,fs 8 u->aI w.1.size w u R
theorem DF.l{W w w' tv X R}{c:Nat->Value->Prop}(h:DF W tv X R c w)(a:bL w w'):DF W tv X R c w':=
 ⟨h.below.th a,λu b=>((h.row6 u b).l a lE).wide a.size,λu b=>by
  have⟨v,d,e⟩:=h.lit7 u b
  exact⟨v,(d.l a lE).wide a.size,e.l a⟩,λu b=>((h.row8 u b).l a lE).wide a.size⟩
theorem DF.put6{W w tv X R}{b:Nat->Value->Prop}(h:DF W tv X R b w)(v)(c:aI w.1.size w v X):DF W tv X R (d9 b 6 v) w:=
 ⟨h.below,λu a=>by
  rcases a with a|⟨_,rfl⟩
  ·exact h.row6 u a
  exact c,λu a=>h.lit7 u (dj a (by decide)),λu a=>h.row8 u (dj a (by decide))⟩
theorem DF.put7{W w tv X R}{c:Nat->Value->Prop}(h:DF W tv X R c w)(v b:Value)(d:c 6 b)(e:A2 w v tv b):DF W tv X R (d9 c 7 v) w:=
 ⟨h.below,λu a=>h.row6 u (dj a (by decide)),λu a=>by
  rcases a with a|⟨_,rfl⟩
  ·exact h.lit7 u a
  exact⟨b,h.row6 b d,e⟩,λu a=>h.row8 u (dj a (by decide))⟩
theorem DF.put8{W w tv X R}{b:Nat->Value->Prop}(h:DF W tv X R b w)(v)(c:aI w.1.size w v R):DF W tv X R (d9 b 8 v) w:=
 ⟨h.below,λu a=>h.row6 u (dj a (by decide)),λu a=>h.lit7 u (dj a (by decide)),λu a=>by
  rcases a with a|⟨_,rfl⟩
  ·exact h.row8 u a
  exact c⟩
def zZ(c:Nat)(W:World)(sv tv:Value)(X R:Bs)(a:Nat->Value->Prop)(w:World):Prop:=
 ((∀u,¬a 10 u)/\DF W tv X R a w)\/((∃u,a 10 u)/\(∃u,a 6 u)/\(∃u,a 7 u)/\(∃u,a 8 u)/\∃b d,w=(b.setCell (pA c 0) sv).setCell (pA c 1) d/\aI b.1.size b d R/\bL W b)
theorem zZ.start(bo W sv tv X R):zZ bo W sv tv X R (λ_ _=>False) W.drew:=
 .inl ⟨λ_ h=>h,bR.drew,λ_ h=>h.elim,λ_ h=>h.elim,λ_ h=>h.elim⟩
theorem zZ.ahead{bo W w sv tv X R}{f:Nat->Value->Prop}(h:zZ bo W sv tv X R f w){k:Nat}(g:k=6\/k=7\/k=8\/k=10)(e:∀v,¬f k v):(∀u,¬f 10 u)/\DF W tv X R f w:=by
 rcases h with h|⟨⟨a,i⟩,⟨b,j⟩,⟨c,l⟩,⟨d,m⟩,_⟩
 ·exact h
 rcases g with rfl|rfl|rfl|rfl
 ·exact absurd j (e _)
 ·exact absurd l (e _)
 ·exact absurd m (e _)
 exact absurd i (e _)
theorem zZ.of{bo W w sv tv X R}{a:Nat->Value->Prop}{k:Nat}{v}(b:∀u,¬a 10 u)(c:k≠10)(h:DF W tv X R (d9 a k v) w):zZ bo W sv tv X R (d9 a k v) w:=
 .inl ⟨λu d=>b u (dj d (LQ c)),h⟩
theorem zZ.stored{bo W w sv tv X R}{a:Nat->Value->Prop}{e f b:Value}(h:zZ bo W sv tv X R a w)(c:∀v,¬a 10 v)(g:a 6 e)(i:a 7 f)(d:a 8 b):bL W w/\zZ bo W sv tv X R (d9 a 10 undef) ((w.setCell (pA bo 0) sv).setCell (pA bo 1) b):=by have⟨_,h⟩:=h.ahead (.inr (.inr (.inr rfl))) c;exact⟨h.below,.inr ⟨⟨_,.inr ⟨rfl,rfl⟩⟩,⟨_,.inl g⟩,⟨_,.inl i⟩,⟨_,.inl d⟩,w,b,rfl,h.row8 b d,h.below⟩⟩
theorem zZ.done{B bo W w sv tv X R s}{k:Nat->Value->Prop}{i:Value}(h:zZ bo W sv tv X R k w)(j:k 10 i){a b n c m d T}(e:W.1[bo]?=some (.cells #[.slice a n c,.slice b m d] T (0,0)))(t:aI B W sv s)(l:B<=W.1.size):∃f,w.1[bo]?=some (.cells #[sv,f] T (0,0))/\cJ w.1.size w (.agg #[sv,f]) (s,R)/\∀L,L<=bo->L<=W.1.size->Below L W w:=by
 rcases h with ⟨h,_⟩|⟨_,_,_,_,C,f,rfl,x,hA⟩
 ·exact absurd j (h _)
 have g:=(hA.block bo (io e)).trans e;have⟨y,o,z⟩:=ic (u:=sv) (v:=f) g;have q:=gw.of g;refine⟨f,y,?_,λL r A=>((hA.mono A).setCell (p:=pA bo 0) r _).setCell (p:=pA bo 1) r _⟩;rw[z];exact⟨_,_,rfl,((t.l hA l).wide (hA.u l)).box o q,x.box o q⟩
theorem zZ.cells{d b:Nat}{W w sv tv X R}{i:Nat->Value->Prop}(h:zZ d W sv tv X R i w){e f:Value}{T}{g:Nat × Nat}(a:W.1[b]?=some (.cells #[e,f] T g))(c:b≠d):w.1[b]?=some (.cells #[e,f] T g):=by
 rcases h with ⟨_,h⟩|⟨_,_,_,_,j,k,rfl,l,hA⟩
 ·exact(h.below.block b (io a)).trans a
 exact((Kc _ _ _ _ c).trans (Kc _ _ _ _ c)).trans ((hA.block b (io a)).trans a)
def Cq(W:World)(a:Bs)(i:Nat)(b:Nat->Value->Prop)(w:World):Prop:=
 bL W w/\(∀u,b 0 u->∃g:Nat,u=.slice (sO g) 4 4/\g<w.1.size/\w.cell? ⟨g,i,none⟩=some (.string (dU a)))/\∀u,b 4 u->∃g:Nat,u=.pointer (some ⟨g,i,none⟩)/\g<w.1.size/\w.cell? ⟨g,i,none⟩=some (.string (dU a))
def JJ(b a:Bs)(i:Nat)(k:Nat)(v:Value):Prop:=if k=0 then ∃g:Nat,v=.slice (sO g) 4 4 else if k=4 then ∃g:Nat,v=.pointer (some ⟨g,i,none⟩) else if k=5 then v=.string (dU b) else if k=8 then v=.string (dU a) else True
theorem Bh(nm num i k):∃v,JJ nm num i k v:=by
 unfold JJ
 split
 ·exact⟨_,0,rfl⟩
 split
 ·exact⟨_,0,rfl⟩
 split
 ·exact⟨_,rfl⟩
 split
 ·exact⟨_,rfl⟩
 exact⟨undef,trivial⟩
theorem Cq.l{W w w' nm i}{f:Nat->Value->Prop}(h:Cq W nm i f w)(a:bL w w'):Cq W nm i f w':=by
 refine⟨h.1.th a,λu c=>?_,λu c=>?_⟩
 ·have⟨g,e,b,d⟩:=h.2.1 u c;exact⟨g,e,Kd b a.size,(a.cell (p:=⟨g,i,none⟩) b).trans d⟩
 have⟨g,e,b,d⟩:=h.2.2 u c;exact⟨g,e,Kd b a.size,(a.cell (p:=⟨g,i,none⟩) b).trans d⟩
theorem Cq.lit{W w nm i}{c:Nat->Value->Prop}(h:Cq W nm i c w)(cs:Array Value)(T)(d:cs[i]?=some (.string (dU nm))):Cq W nm i (d9 c 0 (.slice (sO w.1.size) 4 4)) (w.alloc (.cells cs T)):=by
 have b:=h.l ((Kf w.1.size w).alloc lE (.cells cs T));refine⟨b.1,λu a=>?_,λu a=>?_⟩
 ·rcases a with a|⟨_,rfl⟩
  ·exact b.2.1 u a
  exact⟨w.1.size,rfl,by simp,ab (ah w _) i d⟩
 rcases a with a|⟨h,_⟩
 ·exact b.2.2 u a
 cases h
theorem Cq.addr{W w nm}{i g:Nat}{b:Nat->Value->Prop}(h:Cq W nm i b w)(c:b 0 (.slice (sO g) 4 4)):Cq W nm i (d9 b 4 (.pointer (some ⟨g,i,none⟩))) w:=by
 refine⟨h.1,λu a=>?_,λu a=>?_⟩
 ·rcases a with a|⟨h,_⟩
  ·exact h.2.1 u a
  cases h
 rcases a with a|⟨_,rfl⟩
 ·exact h.2.2 u a
 obtain⟨j,e,d,f⟩:=h.2.1 _ c;simp at e;subst e;exact⟨g,rfl,d,f⟩
theorem Cq.other{W w w' nm}{i k:Nat}{c:Nat->Value->Prop}(h:Cq W nm i c w)(d:bL w w')(v)(f:0≠k)(g:4≠k):Cq W nm i (d9 c k v) w':=by
 have b:=h.l d;refine⟨b.1,λu a=>?_,λu a=>?_⟩
 ·rcases a with a|⟨e,_⟩
  ·exact b.2.1 u a
  exact absurd e f
 rcases a with a|⟨e,_⟩
 ·exact b.2.2 u a
 exact absurd e g
theorem nF{n:Int}(a:0<=n)(b:n<=3):(Lib.itoa n).length<=1:=by
 have:n=0\/n=1\/n=2\/n=3:=by omega
 rcases this with rfl|rfl|rfl|rfl<;>decide +kernel
theorem C8(B v r w)(he:dD w)(a1:Lib.TabIs prog w "strings.asciiSpace" .u8 Lib.asciiSpaceTab)(hr:cI B w v r)(hB:B<=w.1.size):
  cL 67 #[v] w (rT w (.tuple #[.string (dU (fP r)),U (aZ r)])):=by
 have HC:=Z λb (h:bL w b)=>eR B v r b (hr.l h hB) (h.u hB)
 have D:=Z λb (h:bL w b)=>Q2 (he.l h) (jG a1 h)
 have HP:Hid (fP r=if aZ r=0 then aU r else []):=rfl;obtain⟨a,c,rfl,hp⟩:=hr.shape;have x:=Z λb (h:bL w b)=>Q2 (hp.l h hB) (h.u hB)
 clear hr hp he a1;obtain⟨k,l,m,j,d⟩:=r;simp only at*;have hb:∀X,bL w (w.alloc X):=λX=>bR.alloc lE _
 have⟨E,hE⟩:=nM (aZ (k,l,m,j,d));have HE:=Z hE
 rw[<-hE] at HC HP |-
 clear hE;have⟨n,hn⟩:=nM (j.length);have HN:=Z hn
 rw[<-hn] at HC x |-
 clear hn;have⟨W0,F⟩:=nM (w.alloc (.cells #[U k,U l,U m,.slice a n c,U d] 70));have g0:=hA F;have J:bL w W0:=by rw[F];exact hb _
 have HG:=Z λb (h:bL W0 b)=>Q2 (h.bl g0) (J.th h)
 have HW:=Z F;clear F g0;go_enter func67,ntmps67;go_wp2_with fail;rw[<-HW.o];go_at_call 64;refine(HC.o _ J).mono ?_;rintro e K ⟨rfl,L⟩;have⟨g1,a2⟩:=HG.o K L;have B1:=Z2 L a2;have l1:=io g1;have⟨q0,q1,q2,q3,q4⟩:=aF g1;clear g1 a2 L J hb HC HW
 by_cases V:E=0
 ·obtain⟨hk,Y,hf,-,-⟩:=iB (HE.o.symm.trans V);have y:=Z (by rw[HP.o,Io V]:fP (k,l,m,j,d)=aU (k,l,m,j,d));subst V;obtain⟨i,a4,p⟩:∃i:Nat,i<4/\k=(i:Int)+1:=⟨(k-1).toNat,by omega,by omega⟩;have i0:(0:Int)<=(i:Int):=by omega
  have i1:(i:Int)<4:=by omega
  have b3:IntKind.i64.wrap (k-1)=(i:Int):=by rw[show k-1=(i:Int) by omega];exact KA _ (by omega)
  have⟨A,G⟩:=nM (kN.getD i []++[32])
  have q:Hid (A=kN.getD i []++[32]/\A.length<=10/\(#[Value.string ⟨#[111,112,101,110,32]⟩,.string ⟨#[116,105,103,104,116,32]⟩,.string ⟨#[102,111,114,107,32]⟩,.string ⟨#[115,104,117,116,32]⟩][i]?=some (.string (dU A)))):=by
   refine⟨G,?_,?_⟩
   ·have:i=0\/i=1\/i=2\/i=3:=by omega
    rw[G]
    rcases this with rfl|rfl|rfl|rfl<;>decide +kernel
   have:i=0\/i=1\/i=2\/i=3:=by omega
   rw[G]
   rcases this with rfl|rfl|rfl|rfl<;>rfl
  have N:=Z2 (nF Y.1 Y.2) (nF hf.1 hf.2);have o:Hid ((-9223372036854775808<=l/\l<=9223372036854775807)/\(-9223372036854775808<=m/\m<=9223372036854775807)):=⟨⟨Ml (by decide) Y.1,Ml Y.2 (by decide)⟩,Ml (by decide) hf.1,Ml hf.2 (by decide)⟩;have b4:=Z2 p a4;have c0:∀z:ax K,z.1.cell? (pW w 0)=some (U k):=λz=>z.cell q0 l1
  have c1:∀z:ax K,z.1.cell? (pW w 1)=some (U l):=λz=>z.cell q1 l1
  clear G p hk Y hf;go_wp2_with fail;have H:=ax.ne K
  have s:Hid (∀fs b,Cq K A i fs b->∃z:ax K,b=z.1):=λfs b h=>⟨⟨b,h.1⟩,rfl⟩
  refine bJ [_,_,_,_,_,_,_,_,_,_] _ rfl (λk=>k==0||k==4||k==5||k==8) (Cq K A i) (JJ A (Lib.itoa l) i) (Bh _ _ _) (by kernel_rfl) (by kernel_rfl) ⟨bR.drew,λ_ h=>h.elim,λ_ h=>h.elim⟩ ?_;refine cz rfl rfl (λgs b u f t=>⟨.slice (MZ b) 4 4,b.alloc (.cells #[.string ⟨#[111,112,101,110,32]⟩,.string ⟨#[116,105,103,104,116,32]⟩,.string ⟨#[102,111,114,107,32]⟩,.string ⟨#[115,104,117,116,32]⟩] 9),?_,⟨_,rfl⟩,u.lit _ _ q.o.2.2⟩) (λv0 b6=>?_)
  ·clear u f t s H c0 c1;go_simp
  go_frame;obtain⟨g,rfl⟩:∃g:Nat,v0=.slice (sO g) 4 4:=b6;iterate 3(refine aP s.o rfl rfl ?_;go_big_quiet_step (fail);refine Km ?_)
  refine cz rfl rfl (λgs b u f t=>⟨.pointer (some ⟨g,i,none⟩),b,?_,⟨_,rfl⟩,u.addr (f 0 _ (.inr ⟨rfl,rfl⟩) (au (by kernel_rfl)))⟩) (λv4 b7=>?_)
  ·clear u f t s H c0 c1;go_simp
  go_frame;obtain⟨g4,rfl⟩:∃g:Nat,v4=.pointer (some ⟨g,i,none⟩):=b7;refine cz rfl rfl (λgs b u f t=>⟨.string (dU A),b,?_,rfl,u.other bR _ (by decide) (by decide)⟩) (λv5 b8=>?_)
  ·obtain⟨g',e,hl,Y⟩:=u.2.2 _ (f 4 _ (.inr ⟨rfl,rfl⟩) (au (by kernel_rfl)));simp at e;subst e;clear u f t s H c0 c1;go_simp
  go_frame;obtain rfl:v5=.string (dU A):=b8;iterate 2(refine aP s.o rfl rfl ?_;go_big_quiet_step (fail);refine Km ?_)
  refine bw 98 #[U l] rfl rfl (λb=>by kernel_rfl) (λgs b u f t=>?_) (λv8 b9=>?_)
  ·refine(Tryz.strconv_Itoa l o.o.1.1 o.o.1.2 b (D.o b (B1.o.2.th u.1)).1.2.2.2).mono ?_;rintro e C ⟨rfl,k8,ba,rfl⟩;exact⟨_,rfl,rfl,u.other (LT _ _ lE _ _) _ (by decide) (by decide)⟩
  go_frame;obtain rfl:v8=.string (dU (Lib.itoa l)):=b9;refine fD (.string (dU (A++Lib.itoa l))) rfl rfl (λb=>oI _ _ rfl rfl rfl (by have:=q.o.2.1;have:=N.o.1;omega) b) ?_;go_frame;refine ei ?_;intro C a5;have O:=a5.1;have⟨g2,a6⟩:=HG.o C (B1.o.1.th O);have I:=Z2 (B1.o.1.th O) a6;have l2:=io g2;have⟨r0,r1,r2,r3,r4⟩:=aF g2;clear a5 O g2 a6 H s c0 c1 q0 q1 q2 q3 q4 l1 b3;have⟨M,hM⟩:=nM (A++Lib.itoa l);have P:Hid (M=A++Lib.itoa l/\M.length<=20):=⟨hM,by rw[hM,Kj];have:=q.o.2.1;have:=N.o.1;omega⟩;rw[<-hM];clear hM;obtain⟨p,a4⟩:=b4.o
  by_cases h3:k=3
  ·have HT:Hid (aU (k,l,m,j,d)=M++32 :: Lib.itoa m):=by unfold Hid;rw[P.o.1,q.o.1];unfold aU;simp only[Io h3];rw[show (k-1).toNat=i by omega];simp
   subst h3;have a8:∀W,(Op.stringOp .add (dU M) ⟨#[32]⟩).run prog W=.ok (.string (dU (M++[32]))) W:=λW=>lP M [32] (by have:=P.o.2;simp;omega) W
   have Q:∀W,(Op.stringOp .add (dU (M++[32])) (dU (Lib.itoa m))).run prog W=.ok (.string (dU (M++[32]++Lib.itoa m))) W:=λW=>lP (M++[32]) (Lib.itoa m) (by have:=P.o.2;have:=N.o.2;simp;omega) W
   have HI:Hid (cL 98 #[U m] C (rT C (.string (dU (Lib.itoa m))))):=by refine(Tryz.strconv_Itoa m o.o.2.1 o.o.2.2 C (D.o C I.o.2).1.2.2.2).mono ?_;rintro e w3 ⟨rfl,k8,ba,rfl⟩;exact⟨rfl,LT _ _ lE _ _⟩
   clear p;generalize Lib.itoa m=fT at*;go_wp2_with fail;go_at_call 98;refine HI.o.mono ?_;rintro e w3 ⟨rfl,R⟩;have S:=I.o.2.th R;go_wp2_with fail;go_ret2;exact⟨by rw[y.o,HT.o];rfl,S⟩
  by_cases h4:k=4
  ·have HT:Hid (aU (k,l,m,j,d)=M):=by unfold Hid;rw[P.o.1,q.o.1];unfold aU;simp only[iO h3,Io h4];rw[show (k-1).toNat=i by omega];simp
   subst h4;clear p;go_wp2_with fail;go_ret2;exact⟨by rw[y.o,HT.o];rfl,I.o.2⟩
  have HT:Hid (aU (k,l,m,j,d)=M++32 :: cW (j,d)):=by unfold Hid;rw[P.o.1,q.o.1];unfold aU;simp only[iO h3,iO h4];rw[show (k-1).toNat=i by omega];simp
  have cd:(k==3)=false:=by simpa using h3
  have cf:(k==4)=false:=by simpa using h4
  have T:aj (j,d)=0:=by
   obtain⟨-,-,-,-,h⟩:=iB HE.o.symm
   rcases h with ⟨-,h⟩|⟨h,-⟩
   ·exact h
   exact absurd h (by rintro (h|h)<;>first|exact h3 h|exact h4 h)
  have bd:Hid ((cW (j,d)).length<=97000000):=by
   have⟨bf,hd,bg⟩:=jF T;have h1:=AQ j bg bf j.length;rw[L6] at h1
   have h2:(d7 d).length<=1000:=by
    have hv:=hd;have:d=0\/d=1\/d=2\/d=3\/d=4:=by omega
    rcases this with rfl|rfl|rfl|rfl|rfl<;>decide
   have ck:=h1;show (List.flatMap ct j++d7 d).length<=97000000;rw[Kj];omega
  have a8:∀W,(Op.stringOp .add (dU M) ⟨#[32]⟩).run prog W=.ok (.string (dU (M++[32]))) W:=λW=>lP M [32] (by have:=P.o.2;simp;omega) W
  have Q:∀W,(Op.stringOp .add (dU (M++[32])) (dU (cW (j,d)))).run prog W=.ok (.string (dU (M++[32]++cW (j,d)))) W:=λW=>lP (M++[32]) (cW (j,d)) (by have:=P.o.2;have:=bd.o;simp;omega) W
  have HI:=Z (wy B _ (j,d) C (D.o C I.o.2).1 (D.o C I.o.2).2 (x.o C I.o.2).1 (x.o C I.o.2).2 T);clear p T;generalize cW (j,d)=pT at*;go_wp2_with fail;go_at_call 99;refine HI.o.mono ?_;rintro e w3 ⟨rfl,R⟩;have S:=I.o.2.th R;go_wp2_with fail;go_ret2;exact⟨by rw[y.o,HT.o];rfl,S⟩
 have y:=Z (by rw[HP.o,iO V]:fP (k,l,m,j,d)=[]);have hq:(E != 0)=true:=by simpa using V
 clear V;go_wp2_with fail;go_ret2;exact⟨by rw[y.o];rfl,B1.o.2⟩
def JN(n q:Nat)(k:Nat)(v:Value):Prop:=if k=6 then ∃a c,v=.slice a n c else if k=7 then ∃g:Nat,v=.slice (sO g) 2 2 else if k=8 then ∃a c,v=.slice a q c else True
theorem Hr(n q k):∃v,JN n q k v:=by
 unfold JN
 split
 ·exact⟨_,none,0,rfl⟩
 split
 ·exact⟨_,0,rfl⟩
 split
 ·exact⟨_,none,0,rfl⟩
 exact⟨undef,trivial⟩
theorem Jh{a b c:Nat}(d:a<=60000)(e:b<=60000)(f:c<=100000000):IntKind.i64.wrap ((a:Int)+(b:Int))=(a:Int)+(b:Int)/\IntKind.i64.wrap ((a:Int)+(b:Int)+(c:Int))=(a:Int)+(b:Int)+(c:Int)/\IntKind.i64.wrap ((a:Int)+(b:Int)+(c:Int)+1)=(a:Int)+(b:Int)+(c:Int)+1:=
 ⟨KA _ (by omega),KA _ (by omega),KA _ (by omega)⟩
theorem Ee(p:Bs):dU p++⟨#[10]⟩=dU (p++[10]):=by unfold dU;apply ByteArray.ext;simp[ByteArray.data_append]
theorem Ex(B v rv d r w)(he:dD w)(af:Lib.TabIs prog w "strings.asciiSpace" .u8 Lib.asciiSpaceTab)(hd:cJ B w v d)(hr:cI B w rv r)(hB:B<=w.1.size)(h1:d.1.length<=60000)(h2:d.2.length<=60000):
  cL 36 #[v,rv] w λe f=>∃dv,e=.returned (.tuple #[dv,U (lz d r)])/\cJ f.1.size f dv (gf d r)/\bL w f:=by
 obtain⟨sv,tv,rfl,hs,ht⟩:=hd;obtain⟨s,t⟩:=d;simp only[] at hs ht h1 h2;have C:=Z λf (h:bL w f)=>Q2 (hs.l h hB) (ht.l h hB)
 have K:=Z λf (h:bL w f)=>C8 B rv r f (he.l h) (jG af h) (hr.l h hB) (h.u hB)
 have⟨P,hP⟩:=nM (fP r);have⟨E,Q⟩:=nM (aZ r);have al:P.length<=100000000:=by rw[hP];exact uZ r
 have m:Hid (lz (s,t) r=if E=0 then (if 60000<s.length+t.length+P.length+1 then 2 else 0) else E):=by unfold Hid lz;rw[hP,Q]
 have A:Hid (gf (s,t) r=if lz (s,t) r=0 then (s,t++(P++[10])) else ([],[])):=by unfold Hid gf;rw[hP]
 rw[<-hP,<-Q] at K;obtain⟨a,c,e1,-,-,-⟩:=id hs;obtain⟨b,J,e2,-,-,-⟩:=id ht;subst e1 e2;obtain⟨ra,rc,e3,-⟩:=hr.shape;subst e3;have⟨W,ao⟩:=nM (lz (s,t) r);have⟨pr,b0⟩:=nM (gf (s,t) r)
 rw[<-ao] at m A |-
 rw[<-b0] at A |-
 clear ao b0 hP Q hs ht hr he af;obtain⟨k1,k2,k3,rs,k4⟩:=r
 simp only[] at K |-
 have⟨rn,b1⟩:=nM (rs.length);have⟨D,b2⟩:=nM (s.length);have⟨q,Y⟩:=nM (t.length);have⟨G,a0⟩:=nM (P.length);have HN:=Z2 Y.symm a0.symm
 rw[<-b1] at K |-
 rw[<-b2] at C m h1 |-
 rw[<-Y] at C m h2 |-
 rw[<-a0] at m al;clear b1 b2 Y a0;have⟨n1,n2,b3⟩:=Jh h1 h2 al;obtain⟨z,hz⟩:∃z:Int,z=(D:Int)+(q:Int)+(G:Int)+1:=⟨_,rfl⟩;have n3:=b3.trans hz.symm;have Hz:=Z hz;clear hz b3;have⟨W1,H⟩:=nM (((w.alloc (.cells #[.slice a D c,.slice b q J] 25)).alloc (.cells #[U k1,U k2,U k3,.slice ra rn rc,U k4] 70)).alloc (.cells #[nL,nL] 25));have o:bL w W1:=by rw[H];exact((bR.alloc lE _).alloc (by simp) _).alloc (by simp;omega) _
 have ee:W1.1.size=w.1.size+1+1+1:=by rw[H];simp
 have b5:W1.1[w.1.size]?=some (.cells #[.slice a D c,.slice b q J] 25 (0,0)):=by rw[H,Kq _ _ _ (by simp;omega),Kq _ _ _ (by simp)];exact ah _ _
 have b6:W1.1[w.1.size+1+1]?=some (.cells #[nL,nL] 25 (0,0)):=by have:=ah ((w.alloc (.cells #[.slice a D c,.slice b q J] 25)).alloc (.cells #[U k1,U k2,U k3,.slice ra rn rc,U k4] 70)) (.cells #[nL,nL] 25);rw[Kg,Kg] at this;rw[H];exact this
 have a1:Hid _:=K.o W1 o;have b7:=Z H;have b8:Hid _:=b5;have b9:Hid _:=b6;have ba:=Z o;have⟨PS,a2⟩:=nM (dU P);have L:=Z (by rw[a2];exact⟨by rw[<-HN.o.2];simp[dU,ByteArray.size],Ee P⟩:PS.size=G/\PS++⟨#[10]⟩=dU (P++[10]));rw[<-a2] at a1;clear a2 H b5 b6 o K;go_enter func36,ntmps36;go_wp2_with fail;rw[<-b7.o];refine Calls.mono a1.o ?_;rintro e w1 ⟨rfl,o⟩;have g0:=o.bk b8.o;have g2:=o.bk b9.o;have V:=ba.o.th o;have bb:w.1.size+1+1<w1.1.size:=by have:=o.size;omega
 obtain⟨y0,y1,-,-⟩:=ag g0;have⟨x0,x1,cf,ci⟩:=ag g2;have j:=Z V;have a3:Hid _:=g0;have a4:Hid _:=g2;clear o g0 g2 V a1 b7 b8 b9 ba;have ej:=L.o.1
 by_cases Q:E=0
 ·subst Q
  by_cases M:60000<D+q+G+1
  ·have p:Hid (W=2/\pr=([],[])):=by
    have e:W=2:=by rw[m.o,Io rfl,Io M]
    exact⟨e,by rw[A.o,iO (by rw[e];decide)]⟩
   have hq:(60000:Int)<z:=by have:=Hz.o;omega
   clear m A L C;go_wp2_with fail;refine Ka (v:=.tuple #[.agg #[nL,nL],U 2]) ?_ rfl ⟨_,by rw[p.o.1],by rw[p.o.2];exact oH _ _,?_⟩
   ·rw[K8 rfl];go_simp
   exact j.o.s2 (by show w.1.size<=w.1.size+1+1;omega)
  have hq:¬((60000:Int)<z):=by have:=Hz.o;omega
  have p:Hid (W=0/\pr=(s,t++(P++[10]))):=by
   have e:W=0:=by rw[m.o,Io rfl,iO M]
   exact⟨e,by rw[A.o,Io e]⟩
  clear m A M;go_wp2_with fail;have bc:=Z L.o.2;have⟨X,hX⟩:=nM (P++[10]);have⟨XS,a5⟩:=nM (PS++(⟨#[10]⟩:ByteArray));have⟨R,hR⟩:=nM (t++X);have HX:Hid (XS.1.1=X/\XS.size=G+1):=by unfold Hid;rw[a5,bc.o,hX];exact⟨by simp[dU],by simp[dU,ByteArray.size,HN.o.2]⟩
  have bd:Hid (X.length=G+1/\R.length=q+(G+1)):=by unfold Hid;rw[hR,hX];simp[HN.o.1,HN.o.2]
  have bf:Hid (∀f:World,∃F l,(convert 9 23 (.string XS)).run prog f=.ok (.slice (MZ f) (G+1) F) l/\aI l.1.size l (.slice (MZ f) (G+1) F) X/\bL f l):=λf=>by have h:=wB XS f (by rw[HX.o.2];omega);rw[HX.o.1,HX.o.2] at h;exact h
  have bg:Hid (∀g f u,(∃T fr,f.1[g]?=some (.cells #[.slice b q J,u] T fr))->aI f.1.size f u X->bL w1 f->cL 47 #[.slice (sO g) 2 2] f λe l=>∃v,e=.returned v/\aI l.1.size l v R/\bL f l):=by rintro g f u ⟨T,fr,hg⟩ hu hb;have bk:=j.o.th hb;refine(pq f.1.size _ _ t X g f ((C.o f bk).2.wide (bk.u hB)) hu lE (io hg) (J0 hg) (J1 hg) (by rw[bd.o.1,HN.o.1];omega)).mono ?_;rintro e l ⟨v,rfl,ho,cp⟩;exact⟨v,rfl,by rw[hR];exact pk ho,cp⟩
  have a7:=Z2 p.o.1 (by rw[p.o.2,hR,hX]:pr=(s,R));have bm:=Z ((C.o w1 j.o).1);have bo:=a5.symm;clear a5 hX hR bc p L C HN;have q0:∀z:uL w.1.size (.slice a D c) (.slice b q J),z.1.cell? (pW w 0)=some (.slice a D c):=λz=>z.2.1
  have q1:∀z:uL w.1.size (.slice a D c) (.slice b q J),z.1.cell? (pW w 1)=some (.slice b q J):=λz=>z.2.2
  have a9:Nonempty (uL w.1.size (.slice a D c) (.slice b q J)):=⟨⟨w1,y0,y1⟩⟩
  have N:Hid (∀fs f,zZ (w.1.size+1+1) w1 (.slice a D c) (.slice b q J) X R fs f->∃z:uL w.1.size (.slice a D c) (.slice b q J),f=z.1):=λfs f h=>⟨⟨f,J0 (h.cells a3.o (by omega)),J1 (h.cells a3.o (by omega))⟩,rfl⟩
  refine bJ [_,_,_,_,_,_,_,_,_,_,_] _ rfl (λk=>k==6||k==7||k==8||k==10) (zZ (w.1.size+1+1) w1 (.slice a D c) (.slice b q J) X R) (JN (G+1) (q+(G+1))) (Hr _ _) (by kernel_rfl) (by kernel_rfl) (zZ.start _ _ _ _ _ _) ?_;iterate 6(refine aP N.o rfl rfl ?_;go_big_quiet_step (fail);refine Km ?_)
  try rw[bo]
  refine cz rfl rfl (λgs f I i n=>?_) (λv6 cT=>?_)
  ·have⟨F,l,r1,r2,r3⟩:=bf.o f;have⟨aa,hA⟩:=I.ahead (.inl rfl) n;refine⟨_,l,?_,⟨_,_,rfl⟩,zZ.of aa (by decide) ((hA.l r3).put6 _ r2)⟩;unfold execOp;simp only[resolve,invoke,builtin,Lj,My,LW,M4,Lt,Mz];exact(congrArg (λr=>Result.andThen r λv w=>.ok (Next.value v) w) r1)
  go_frame;obtain⟨a6,c6,rfl⟩:∃a F,v6=.slice a (G+1) F:=cT;refine cz rfl rfl (λgs f I i n=>⟨.slice (MZ f) 2 2,f.alloc (.cells #[.slice b q J,.slice a6 (G+1) c6] 23),?_,⟨_,rfl⟩,zZ.of (I.ahead (.inr (.inl rfl)) n).1 (by decide) (((I.ahead (.inr (.inl rfl)) n).2.l ((Kf f.1.size f).alloc lE _)).put7 _ _ (i 6 _ (.inr ⟨rfl,rfl⟩) (au (by kernel_rfl))) ⟨_,_,_,rfl,ah f _⟩)⟩) (λv7 d0=>?_)
  ·clear I i n q0 q1 N a9;go_simp
  go_frame;obtain⟨g7,rfl⟩:∃g:Nat,v7=.slice (sO g) 2 2:=d0;refine bw 47 #[.slice (sO g7) 2 2] rfl rfl (λf=>by kernel_rfl) (λgs f I i n=>?_) (λv8 d1=>?_)
  ·have h7:=i 7 _ (.inr ⟨rfl,rfl⟩) (au (by kernel_rfl));have⟨aa,hA⟩:=I.ahead (.inr (.inr (.inl rfl))) n;obtain⟨u,hu,g,T0,fr,e,S⟩:=hA.lit7 _ h7;simp at e;subst e;refine(bg.o g7 f u ⟨T0,fr,S⟩ hu hA.below).mono ?_;rintro e w3 ⟨u8,rfl,ho,hb⟩;obtain⟨a',c',e7,-,-,-⟩:=id ho;rw[bd.o.2] at e7;exact⟨_,rfl,⟨a',c',e7⟩,zZ.of aa (by decide) ((hA.l hb).put8 _ ho)⟩
  go_frame;obtain⟨a8,c8,rfl⟩:∃a F,v8=.slice a (q+(G+1)) F:=d1;refine aP N.o rfl rfl ?_;go_big_quiet_step (fail);refine Km ?_;refine fL rfl rfl (λgs f I i n=>?_) (λeN e4=>?_)
  ·have h6:=i 6 _ (.inl (.inl (.inr ⟨rfl,rfl⟩))) (au (by kernel_rfl));have h7:=i 7 _ (.inl (.inr ⟨rfl,rfl⟩)) (au (by kernel_rfl));have h8:=i 8 _ (.inr ⟨rfl,rfl⟩) (au (by kernel_rfl));have⟨bp,bq⟩:=I.stored n h6 h7 h8;have br:=(bp.block _ bb).trans a4.o;have⟨z0,z1,f0,f1⟩:=ag br;refine⟨(f.setCell (pA (w.1.size+1+1) 0) (.slice a D c)).setCell (pA (w.1.size+1+1) 1) (.slice a8 (q+(G+1)) c8),?_,by simp[JN],bq⟩;clear I i n q0 q1 N a9 h6 h7 h8 bp bq br;go_simp
  go_frame;refine ei ?_;intro w4 I;have⟨u8,O,hD,S⟩:=I.done (.inr ⟨rfl,rfl⟩) a4.o bm.o (j.o.u hB);have eO:=J0 O;have eV:=J1 O;have HE:Hid (W=0/\cJ w4.1.size w4 (.agg #[.slice a D c,u8]) pr/\bL w w4):=⟨a7.o.1,by rw[a7.o.2];exact hD,Mj j.o (S _ (by omega) j.o.size)⟩;obtain⟨ua,uc,eu⟩:∃ua uc,u8=.slice ua R.length uc:=by obtain⟨x,y,e,-,⟨ua,uc,e',-,-,-⟩⟩:=hD;simp at e;exact⟨ua,uc,by rw[e.2];exact e'⟩
  subst eu;clear I O hD S q0 q1 N a9 bg bf a7 bm a3 a4 y0 y1 x0 x1 cf ci;go_wp2_with fail;refine Ka (v:=.tuple #[.agg #[.slice a D c,.slice ua R.length uc],U 0]) ?_ rfl ⟨_,by rw[HE.o.1],HE.o.2⟩;rw[K8 rfl];go_simp
 have p:Hid (W=E/\pr=([],[])):=by
  have e:W=E:=by rw[m.o,iO Q]
  exact⟨e,by rw[A.o,iO (by rw[e];exact Q)]⟩
 have hq:(E != 0)=true:=by simpa using Q
 clear m A L C Q;go_wp2_with fail;refine Ka (v:=.tuple #[.agg #[nL,nL],U E]) ?_ rfl ⟨_,by rw[p.o.1],by rw[p.o.2];exact oH _ _,?_⟩
 ·rw[K8 rfl];go_simp
 exact j.o.s2 (by show w.1.size<=w.1.size+1+1;omega)
def f8(d:bQ)(r:az):Int:=if aB d=0 then lz d r else aB d
def fu(d:bQ)(r:az):bQ:=if f8 d r=0 then (d.1,d.2++(fP r++[10])) else ([],[])
def fm(d:bQ):Int:=if aB d=0 then km d else aB d
def i7(d:bQ):bQ:=if fm d=0 then (d.1++d.2,[]) else ([],[])
def i9(d:bQ)(n:Int):Int:=if aB d=0 then (if n<0\/(d.2.length:Int)<n then 3 else 0) else aB d
def kE(d:bQ)(n:Int):bQ:=if i9 d n=0 then (d.1,d.2.take n.toNat) else ([],[])
def gE(d:bQ):bQ:=if aB d=0 then (jB d,[]) else ([],[])
def cK(d:bQ):List az:=if aB d=0 then iF d else []
theorem dE{d:bQ}(h:aB d=0):d.1.length<=60000/\d.2.length<=60000/\d.1.length+d.2.length<=60000/\(aM 40 d.1).2.2=0:=by
 unfold aB at h
 split at h
 ·cases h
 exact⟨by omega,by omega,by omega,h⟩
def sW(d:bQ):Prop:=d.1.length+d.2.length<=300000000000000
theorem Al{d:bQ}(h:aB d=0):sW d:=by have:=dE h;unfold sW;omega
theorem IA{d r}:sW (fu d r):=by
 unfold fu
 by_cases h:f8 d r=0
 ·rw[Io h];unfold f8 at h
  by_cases a:aB d=0
  ·rw[Io a] at h;unfold lz at h
   by_cases b:aZ r=0
   ·rw[Io b] at h
    by_cases c:60000<d.1.length+d.2.length+(fP r).length+1
    ·rw[Io c] at h
     cases h
    unfold sW;simp only[Kj,Kv,Lf];omega
   rw[iO b] at h;exact absurd h b
  rw[iO a] at h;exact absurd h a
 rw[iO h];unfold sW;decide
theorem wA{d:bQ}(b:d.1.length+d.2.length<=60000)(a:(aM 40 d.1).2.2=0):aB d=0:=by unfold aB;rw[iO (by omega)];exact a
theorem A4{B a:Nat}{w v d}(h:cJ B w v d)(b:B<=a):cJ a w v d:=by obtain⟨c,f,e,g,i⟩:=h;exact⟨c,f,e,g.wide b,i.wide b⟩
def cV(L:Nat)(w:World)(v:Value)(d:bQ):Prop:=∀a:World,(∀g,L<=g->g<w.1.size->a.1[g]?=w.1[g]?)->w.1.size<=a.1.size->cJ a.1.size a v d
theorem cV.at{L w v d}(h:cV L w v d):cJ w.1.size w v d:=h w (λ_ _ _=>rfl) lE
theorem rN:(∀k,k<5->(10:UInt8) ∉ vN.getD k [])/\(∀k,k<5->(10:UInt8) ∉ fN.getD k [])/\(∀k,k<4->fU.getD k 0≠10)/\∀k,k<4->(10:UInt8) ∉ kN.getD k []:=by decide
theorem AA{n:Int}(h:0<=n):(10:UInt8) ∉ Lib.itoa n:=by
 have e:Lib.itoa n=Lib.decDigits n.toNat:=by unfold Lib.itoa;rw[iO (by omega)]
 rw[e];intro a;have:=iV _ _ a;have b:(10:UInt8).toNat=10:=rfl;omega
theorem IF{c:aN}(h:bS c=0):(10:UInt8) ∉ cq c:=by
 obtain⟨f,o,n⟩:=c;have⟨e,g,d⟩:=ft h;simp only[] at e g d;obtain⟨i,rfl⟩:∃k:Nat,f=k:=⟨f.toNat,by omega⟩;obtain⟨b,rfl⟩:∃k:Nat,o=(k:Int)+1:=⟨(o-1).toNat,by omega⟩;have j:=rN.2.1 i (by omega);have l:=rN.2.2.1 b (by omega);have m:=AA d.1;intro a;unfold cq at a;simp only[Kz,KB] at a
 rcases a with a|a|a|a
 ·exact absurd a (by decide)
 ·unfold fK at a;simp only[L3] at a;exact j a
 ·unfold gl at a;rw[show ((b:Int)+1-1).toNat=b by omega] at a;exact l a.symm
 exact m a
theorem xu{v:Int}(h:cA v=true):(10:UInt8) ∉ d7 v:=by
 have a:0<=v/\v<=4:=by unfold cA at h;simp at h;omega
 obtain⟨k,rfl⟩:∃k:Nat,v=k:=⟨v.toNat,by omega⟩;have:=rN.1 k (by omega);unfold d7
 simpa using this
theorem Jd{p:aD}(h:aj p=0):(10:UInt8) ∉ cW p:=by
 have⟨_,b,d⟩:=cY h;intro a;unfold cW at a
 rcases KB.1 a with a|a
 ·have⟨r,e,a⟩:=Ll.1 a;have⟨_,f,g⟩:=dy (cM d r e);unfold ct at a
  rcases KB.1 a with a|a
  ·rcases KB.1 a with a|a
   ·exact xu f a
   have⟨c,i,a⟩:=Ll.1 a;exact IF (fy g c i) a
  simp at a
 exact xu b a
theorem zr{r:az}(h:aZ r=0):(10:UInt8) ∉ aU r:=by
 have⟨g,d,e,_,b⟩:=iB h;obtain⟨k,i⟩:∃k:Nat,r.1=(k:Int)+1:=⟨(r.1-1).toNat,by omega⟩;have c:k<4:=by omega
 have f:=rN.2.2.2 k c;intro a;unfold aU at a;rw[show (r.1-1).toNat=k by omega] at a
 rcases KB.1 a with a|a
 ·exact f a
 rcases Kz.1 a with a|a
 ·exact absurd a (by decide)
 rcases KB.1 a with a|a
 ·exact AA d.1 a
 split at a
 ·rcases Kz.1 a with a|a
  ·exact absurd a (by decide)
  exact AA e.1 a
 split at a
 ·cases a
 rename_i j l
 rcases b with ⟨_,b⟩|⟨b,_⟩
 ·rcases Kz.1 a with a|a
  ·exact absurd a (by decide)
  exact Jd b a
 omega
def bZ(a:List az):Bs:=a.flatMap λr=>aU r++[10]
def uD(a:List az):Prop:=∀r∈a,aZ r=0/\(aU r).length<=60000
theorem tM(r:az)(a:List az):bZ (r :: a)=aU r++10 :: bZ a:=by unfold bZ;simp
theorem qg(a b:List az):bZ (a++b)=bZ a++bZ b:=by unfold bZ;simp
theorem j7(a:List az)(r:az):bZ (a++[r])=bZ a++(aU r++[10]):=by unfold bZ;simp
theorem p8:∀ (a:List az) (aO:Nat) (t:Bs),uD a->a.length<=aO->aM aO (bZ a++t)=(a++(aM (aO-a.length) t).1,(bZ a).length+(aM (aO-a.length) t).2.1,(aM (aO-a.length) t).2.2)
 |[],aO,t,_,_=>by simp[bZ]
 |r :: a,0,t,_,h=>by simp at h
 |r :: a,aO+1,t,b,h=>by obtain⟨c,d⟩:=b r (by simp);have e:=p8 a aO t (λq f=>b q (by simp[f])) (by simpa using h);rw[tM,KI,Lg,jZ _ _ _ (zr c),wH c d];simp only[Lr];rw[e];simp only[Kv,Nat.add_sub_add_right,Lg,Kj,Prod.mk.injEq,true_and,and_true];omega
theorem pI{rs}{aO:Nat}(a:uD rs)(h:rs.length<=aO):aM aO (bZ rs)=(rs,(bZ rs).length,0):=by
 have:=p8 rs aO [] a h;rw[LI,jJ] at this
 simpa using this
theorem tk:∀ (n aO:Nat) (s:Bs),s.length<=n->s.length<=60000->s.take (aM aO s).2.1=bZ (aM aO s).1/\uD (aM aO s).1/\(aM aO s).1.length<=aO/\(aM aO s).2.1<=s.length/\((aM aO s).2.2=0->(aM aO s).2.1=s.length)
 |n,aO,s,e,g=>by
  cases hc:i8 s with
  |none=>
   have c:=qP hc
   by_cases i:s=[]
   ·subst i;rw[jJ];exact⟨rfl,λr b=>(by cases b),Ks _,Ke _,λ_=>rfl⟩
   rw[oT aO s c i];exact⟨by simp[bZ],λr b=>(by cases b),Ks _,Ks _,λh=>by cases h⟩
  |some x=>
   obtain⟨a,t⟩:=x;have o:=mY hc;obtain⟨rfl,c⟩:=gL hc;rw[jZ aO a t c]
   by_cases b:(ch a).2=0
   ·rw[Io b];have f:=Ha (s:=a) (r:=(ch a).1) (by rw[<-b]) (by omega)
    match aO with
    |0=>exact⟨by simp[bZ],λr b=>(by cases b),Ks _,Ks _,λh=>by cases h⟩
    |m+1=>
     match n,e with
     |0,e=>simp at e
     |n+1,e=>
      obtain⟨j,k,p,q,l⟩:=tk n m t (by simp at e;omega) (by simp at g;omega);simp only;refine⟨?_,?_,by simp;omega,by simp;omega,λh=>by have:=l h;simp;omega⟩
      ·rw[tM,f.2,<-j,List.take_append,Ki (by omega),show a.length+1+(aM m t).2.1-a.length=(aM m t).2.1+1 by omega,Mf]
      intro r d
      rcases Kz.1 d with rfl|d
      ·exact⟨f.1,by rw[f.2];simp at g;omega⟩
      exact k r d
   rw[iO b];exact⟨by simp[bZ],λr b=>(by cases b),Ks _,Ks _,λh=>absurd h b⟩
theorem wq{d:bQ}(h:aB d=0):∃e,d.1=bZ e/\uD e/\e.length<=40/\aM 40 d.1=(e,d.1.length,0)/\d.1.length+d.2.length<=60000:=by
 have⟨j,o,k,f⟩:=dE h;have⟨i,l,m,p,n⟩:=tk d.1.length 40 d.1 lE j;have g:=n f;rw[g,L6] at i;refine⟨_,i,l,m,?_,k⟩;generalize aM 40 d.1=x at*;obtain⟨a,b,c⟩:=x
 simp only at f g |-
 rw[f,g]
theorem gN{rs}(a:uD rs)(b:rs.length<=40){t:Bs}(c:(bZ rs).length+t.length<=60000):aB (bZ rs,t)=0:=wA c (by rw[pI a b])
theorem qQ{rs}(a:uD rs)(b:rs.length<=40)(d:(bZ rs).length<=60000):cK (bZ rs,[])=rs/\gE (bZ rs,[])=(bZ rs,[]):=by have c:=gN (t:=[]) a b (by simpa using d);unfold cK gE;rw[Io c,Io c];unfold iF jB mu;rw[pI a b];simp only;rw[jJ];simp
theorem FF{d:bQ}(h:aB d=0):∃a,cK d=a/\gE d=(bZ a,[])/\uD a/\a.length<=40/\(bZ a).length<=60000:=by
 have⟨a,e,g,j,c,k⟩:=wq h;obtain⟨f,i,l,m,-⟩:=tk d.2.length (40-a.length) d.2 lE (by omega);refine⟨a++(aM (40-a.length) d.2).1,?_,?_,λr b=>?_,by simp;omega,?_⟩
 ·unfold cK iF mu;rw[Io h,c]
 ·unfold gE jB mu;rw[Io h,c];simp only;rw[f,qg,<-e]
 ·rcases KB.1 b with b|b
  ·exact g r b
  exact i r b
 rw[qg,<-e,<-f,Kj,Kt];omega
abbrev aH:=List aG × bQ × Bool
def fg:aH:=([],([],[]),false)
def wW(w:aH):List az:=if w.2.2=true then cK w.2.1 else []
def cr(w:aH):Int:=if aB w.2.1=0 then (if w.2.2=true/\w.2.1.2≠[] then 4 else if (ay (wW w)).2=0 then (if (ay (wW w)).1=w.1 then 0 else 4) else (ay (wW w)).2) else aB w.2.1
theorem DK:ay []=(aA,0):=rfl
theorem uO(cs:List aG)(d:bQ):cr (cs,d,true)=if aB d=0 then (if d.2≠[] then 4 else if (ay (cK d)).2=0 then (if (ay (cK d)).1=cs then 0 else 4) else (ay (cK d)).2) else aB d:=by
 have b:wW (cs,d,true)=cK d:=rfl;unfold cr;rw[b]
 by_cases a:d.2=[]
 ·rw[iO (show ¬((cs,d,true).2.2=true/\(cs,d,true).2.1.2≠[]) from λe=>e.2 a),iO (show ¬(d.2≠[]) from λe=>e a)]
 rw[Io (show (cs,d,true).2.2=true/\(cs,d,true).2.1.2≠[] from ⟨rfl,a⟩),Io (show d.2≠[] from a)]
theorem ng(cs:List aG)(d:bQ):cr (cs,d,false)=if aB d=0 then (if aA=cs then 0 else 4) else aB d:=by have a:wW (cs,d,false)=[]:=rfl;unfold cr;rw[a,DK,iO (show ¬((cs,d,false).2.2=true/\(cs,d,false).2.1.2≠[]) from λe=>by cases e.1),Io rfl]
def bU(x:az):az:=if x.1=3 then (3,x.2.1,x.2.2.1,[],0) else if x.1=4 then (4,x.2.1,0,[],0) else if x.1=1 then (1,x.2.1,0,x.2.2.2) else (2,x.2.1,0,x.2.2.2)
def ig(n:Int)(m:Nat):Nat:=min n.toNat m
def aQ(w:aH)(x:az):Int:=
 if x.1<1\/7<x.1 then 4
 else if w.2.2=decide (x.1=6) then 6
 else if x.1=5 then 0
 else if x.1=6 then (ay (cK w.2.1)).2
 else if cQ w.1 (bU x)=0 then (if f8 w.2.1 (bU x)=0 then (if x.1=7 then 0 else fm (fu w.2.1 (bU x))) else f8 w.2.1 (bU x)) else cQ w.1 (bU x)
def gK(w:aH)(x:az):aH:=
 if x.1=5 then (aA,w.2.1,false)
 else if x.1=6 then ((ay (cK w.2.1)).1,gE w.2.1,true)
 else if x.1=7 then (aA,(w.2.1.1,(fu w.2.1 (bU x)).2.take (ig x.2.2.1 (fu w.2.1 (bU x)).2.length)),false)
 else (dI w.1 (bU x),i7 (fu w.2.1 (bU x)),true)
def bP(w:aH)(x:az):aH:=if aQ w x=0 then gK w x else fg
def lC(w:aH)(x:az):Int:=if cr w=0 then aQ w x else cr w
def oA(w:aH)(x:az):aH:=if lC w x=0 then bP w x else fg
def kz:aH:=(aA,([],[]),true)
def yh(w:aH)(a:List az):Prop:=w=((ay a).1,(bZ a,[]),true)/\uD a/\a.length<=40/\(bZ a).length<=60000/\(ay a).2=0
theorem yh.right{w rs}(h:yh w rs):cr w=0:=by obtain⟨rfl,a,b,c,d⟩:=h;rw[uO,Io (gN a b (by simpa using c)),iO (by simp),(qQ a b c).1,Io d,Io rfl]
theorem x8{w:aH}(h:cr w=0)(j:w.2.2=true):∃a,yh w a:=by
 obtain⟨n,d,u⟩:=w;simp only at j;subst j;rw[uO] at h
 by_cases f:aB d=0
 ·rw[Io f] at h
  by_cases i:d.2≠[]
  ·rw[Io i] at h
   cases h
  rw[iO i] at h;have b:d.2=[]:=L8 λe=>i e
  obtain⟨a,e,k,l,-,o⟩:=wq f;obtain⟨s,t⟩:=d;simp only at e b;subst e b;have c:(bZ a).length<=60000:=by simp at o;omega
  rw[(qQ k l c).1] at h
  by_cases g:(ay a).2=0
  ·rw[Io g] at h
   by_cases m:(ay a).1=n
   ·subst m;exact⟨a,rfl,k,l,c,g⟩
   rw[iO m] at h
   cases h
  rw[iO g] at h;exact absurd h g
 rw[iO f] at h;exact absurd h f
theorem vu(d:bQ)(h:aB d=0):cr (aA,d,false)=0:=by rw[ng,Io h,Io rfl]
theorem BP{a:List az}{r:az}(c:a.length+1<=40)(h:(ay a).2=0)(b:cQ (ay a).1 r=0):ay (a++[r])=(dI (ay a).1 r,0):=by
 unfold ay at h b |-
 rw[iO (by omega)] at h b;rw[iO (by rw[Kj,Kv,Lf];omega),iO (by omega),Mu];generalize a.foldl db (aA,0)=s at*;show db s r=_;unfold db;rw[Io h,Io b]
theorem CV{rs}{r:az}(e:uD rs)(f:rs.length<=40)(g:(bZ rs).length<=60000)(h:f8 (bZ rs,[]) r=0):aZ r=0/\(aU r).length<=60000/\fu (bZ rs,[]) r=(bZ rs,aU r++[10])/\(bZ rs).length+(aU r++[10]).length<=60000:=by
 have i:=gN (t:=[]) e f (by simpa using g);have b:fu (bZ rs,[]) r=(bZ rs,[]++(fP r++[10])):=by unfold fu;rw[Io h]
 unfold f8 lz at h;rw[Io i] at h
 by_cases a:aZ r=0
 ·have c:fP r=aU r:=by unfold fP;rw[Io a]
  rw[Io a,c] at h;rw[c] at b
  by_cases d:60000<(bZ rs,([]:Bs)).1.length+(bZ rs,([]:Bs)).2.length+(aU r).length+1
  ·rw[Io d] at h
   cases h
  simp at d;exact⟨a,by omega,by rw[b];rfl,by simp;omega⟩
 rw[iO a] at h;exact absurd h a
theorem z9{rs}{r:az}(b:uD rs)(c:aZ r=0)(d:(aU r).length<=60000):uD (rs++[r]):=λq a=>by
 rcases KB.1 a with a|a
 ·exact b q a
 simp at a;subst a;exact⟨c,d⟩
theorem Iq{rs}{r:az}(b:uD rs)(l:rs.length<=40)(c:aZ r=0)(g:(aU r).length<=60000)(i:(bZ rs).length+(aU r++[10]).length<=60000):fm (bZ rs,aU r++[10])=(if rs.length+1<=40 then 0 else 2)/\(rs.length+1<=40->i7 (bZ rs,aU r++[10])=(bZ (rs++[r]),[])):=by
 have m:=gN (t:=aU r++[10]) b l i;have j:fm (bZ rs,aU r++[10])=aB (bZ (rs++[r]),[]):=by unfold fm km;rw[Io m,j7]
 have a:(bZ (rs++[r])).length<=60000:=by rw[j7,Kj];exact i
 have d:=z9 b c g
 by_cases f:rs.length+1<=40
 ·have k:fm (bZ rs,aU r++[10])=0:=by rw[j];exact gN d (by simp;omega) (by simpa using a)
  refine⟨by rw[Io f,k],λ_=>?_⟩;unfold i7;rw[Io k,j7]
 refine⟨?_,λh=>absurd h f⟩;rw[iO f,j];have n:rs.length=40:=by omega
 have e:aM 40 (bZ (rs++[r]))=(rs,(bZ rs).length,2):=by rw[j7];have:=p8 rs 40 (aU r++[10]) b (by omega);rw[this,show 40-rs.length=0 by omega,jZ 0 (aU r) [] (zr c),wH c g];simp
 unfold aB;simp only;rw[iO (by simp only[Lf];omega),e]
theorem bY{w:World}{b:Nat}{a c d e:Value}{T}(h:w.1[b]?=some (.cells #[a,c,d,e] T (0,0))):(w.cell? (pA b 0)=some a/\w.cell? (pA b 1)=some c/\w.cell? (pA b 2)=some d/\w.cell? (pA b 3)=some e)/\w.frozen? (pA b 0)=false/\w.frozen? (pA b 1)=false/\w.frozen? (pA b 2)=false/\w.frozen? (pA b 3)=false:=
 ⟨⟨J0 h,J1 h,J2 h,J3 h⟩,fZ h _,fZ h _,fZ h _,fZ h _⟩
def bi(B:Nat)(w:World)(v:Value)(x:aH):Prop:=∃a b c,v=.agg #[a,b,c,.bool x.2.2]/\aE B w a x.1/\aI B w b x.2.1.1/\aI B w c x.2.1.2
theorem bi.l{B B' w w' v x}(h:bi B w v x)(a:Below B' w w')(b:B<=B'):bi B w' v x:=by obtain⟨c,d,e,f,g,i,j⟩:=h;exact⟨c,d,e,f,g.l a b,i.l a b,j.l a b⟩
theorem bi.shape{B w v x}(h:bi B w v x):∃a b c d e f,v=.agg #[.slice a x.1.length b,.slice c x.2.1.1.length d,.slice e x.2.1.2.length f,.bool x.2.2]/\aE B w (.slice a x.1.length b) x.1/\cJ B w (.agg #[.slice c x.2.1.1.length d,.slice e x.2.1.2.length f]) x.2.1:=by obtain⟨n,o,p,rfl,g,i,j⟩:=h;obtain⟨a,b,k,-⟩:=id g;obtain⟨c,d,l,-⟩:=id i;obtain⟨e,f,m,-⟩:=id j;subst k l m;exact⟨a,b,c,d,e,f,rfl,g,_,_,rfl,i,j⟩
theorem gU(B v u x y w)(hx:bi B w v x)(hy:bi B w u y)(r:B<=w.1.size):
  cL 10 #[v,u] w (rT w (.bool (decide (x=y)))):=by
 obtain⟨T,V,H,I,J,K,rfl,hc,hd⟩:=hx.shape;obtain⟨n,o,g,i,j,k,rfl,z,A⟩:=hy.shape;have HC:=Z λf (h:bL w f)=>pX B _ _ x.1 y.1 f (hc.l h r) (z.l h r) (h.u r)
 have HD:=Z λf (h:bL w f)=>zX B _ _ x.2.1 y.2.1 f (hd.l h r) (A.l h r) (h.u r)
 clear hx hy hc hd z A;obtain⟨C,s,l⟩:=x;obtain⟨D,t,m⟩:=y;simp only at*
 have L:Hid (decide (((C,s,l):aH)=(D,t,m))=(decide (l=m)&&decide (C=D)&&decide (s=t))):=by
  unfold Hid;rw[LX];simp only[L9,KU,Prod.mk.injEq];constructor
  ·rintro⟨a,b,c⟩;exact⟨⟨c,a⟩,b⟩
  rintro⟨⟨c,a⟩,b⟩;exact⟨a,b,c⟩
 generalize decide (C=D)=sc' at*;generalize decide (s=t)=sd at*;generalize decide (((C,s,l):aH)=(D,t,m))=E at*;generalize C.length=W at*;generalize D.length=m2 at*;generalize s.1.length=M at*;generalize s.2.length=N at*;generalize t.1.length=O at*;generalize t.2.length=P at*;have Q:∀X Y,bL w ((w.alloc X).alloc Y):=λX Y=>(bR.alloc lE _).alloc (by simp) _
 have⟨R,d⟩:=nM ((w.alloc (.cells #[.slice T W V,.slice H M I,.slice J N K,.bool l] 27)).alloc (.cells #[.slice n m2 o,.slice g O i,.slice j P k,.bool m] 27));have p:bL w R:=by rw[d];exact Q _ _
 have g0:R.1[w.1.size]?=some (.cells #[.slice T W V,.slice H M I,.slice J N K,.bool l] 27 (0,0)):=by rw[d,Kq _ _ _ (by simp)];exact ah _ _
 have g1:R.1[w.1.size+1]?=some (.cells #[.slice n m2 o,.slice g O i,.slice j P k,.bool m] 27 (0,0)):=by rw[d];have:=ah (w.alloc (.cells #[.slice T W V,.slice H M I,.slice J N K,.bool l] 27)) (.cells #[.slice n m2 o,.slice g O i,.slice j P k,.bool m] 27);rw[Kg] at this;exact this
 by_cases S:l=m
 ·subst S;have e:=Z (by rw[L.o];simp:E=(sc'&&sd));have a3:=Z d;have F:=Z p;have HG:Hid (∀f,bL R f->f.cell? (pW w 1)=some (.slice H M I)/\f.cell? ⟨w.1.size,1+1,none⟩=some (.slice J N K)/\f.cell? (pA (w.1.size+1) 1)=some (.slice g O i)/\f.cell? ⟨w.1.size+1,1+1,none⟩=some (.slice j P k)):=λf h=>by have k0:=h.bl g0;have k1:=h.bl g1;exact⟨J1 k0,J2 k0,J1 k1,J2 k1⟩
  clear L d g0 g1 p Q
  cases l
  all_goals
   go_enter func10,ntmps10;go_wp2_with fail;rw[<-a3.o];go_at_call 21;refine(HC.o _ F.o).mono ?_;rintro e2 w2 ⟨rfl,G⟩;have⟨q1,q2,q3,q4⟩:=HG.o w2 G;have q:=F.o.th G
   cases sc' with
   |false=>
    go_wp2_with fail;go_ret;exact⟨by rw[e.o];rfl,q⟩
   |true=>
    go_wp2_with fail;go_at_call 31;refine(HD.o _ q).mono ?_;rintro e3 w3 ⟨rfl,a4⟩;have a5:=q.th a4;go_wp2_with fail;go_ret;exact⟨by rw[e.o];simp,a5⟩
 have e:=Z (by rw[L.o];simp[S]:E=false);clear L HC HD d g0 g1 p
 cases l<;>cases m
 ·exact absurd rfl S
 ·go_enter func10,ntmps10;go_wp2;go_ret;exact⟨by rw[e.o];rfl,Q _ _⟩
 ·go_enter func10,ntmps10;go_wp2;go_ret;exact⟨by rw[e.o];rfl,Q _ _⟩
 exact absurd rfl S
def kG(K:Nat->Prop)(w:World)(v:Value)(x:aH):Prop:=∀a,Kx K w a->bi a.1.size a v x
theorem kG.l{K a:Nat->Prop}{w w' v x}(h:kG K w v x)(b:bL w w')(c:∀k,k<w.1.size->a k->K k):kG a w' v x:=λd e=>h d (e.back b c)
theorem kG.cells{K:Nat->Prop}{w}{cv sv tv:Value}{u x}(h:kG K w (.agg #[cv,sv,tv,.bool u]) x):kn K w cv x.1:=λa b=>by obtain⟨c,s,t,e,d,-,-⟩:=h a b;simp at e;obtain⟨rfl,-⟩:=e;exact d
theorem jX(K:Nat->Prop)(w):kG K w (.agg #[nL,nL,nL,.bool false]) fg:=λ_ _=>⟨_,_,_,rfl,eZ _ _,⟨none,0,rfl,Ke _,Ks _,λi b h=>by simp[fg] at h⟩,⟨none,0,rfl,Ke _,Ks _,λi b h=>by simp[fg] at h⟩⟩
theorem Hg{K:Nat->Prop}{B w v bs}(h:aI B w v bs)(j:∀k,K k->FT k w):∀c,Kx K w c->aI c.1.size c v bs:=λc l=>by
 obtain⟨a,d,m,p,q,r⟩:=h;refine⟨a,d,m,p,q,λi b s=>?_⟩;obtain⟨g,o,e,-,f⟩:=r i b s
 have t:¬K g:=λu=>by
  have⟨n,e⟩:=(j g u).cell f
  cases e
 have:=l.cell t f;exact⟨g,o,e,KE _ _ this,this⟩
theorem zK{K:Nat->Prop}{B B' w cv sv tv}{x:aH}(d:kn K w cv x.1)(e:aI B w sv x.2.1.1)(f:aI B' w tv x.2.1.2)(c:∀k,K k->FT k w):kG K w (.agg #[cv,sv,tv,.bool x.2.2]) x:=λa b=>⟨_,_,_,rfl,d a b,Hg e c a b,Hg f c a b⟩
theorem uT{K:Nat->Prop}{w w':World}(h:lZ K w.1.size w)(b:∀k,K k->k<w.1.size)(c:bL w w'):∀k,K k->FT k w':=λk a=>by
 rcases h k a with h|h
 ·exact h.l c
 exact absurd (b k a) (by omega)
theorem CO(B w):dh B w nL []:=⟨none,0,rfl,Ke _,by rw[ai];omega,λi r h=>by simp at h⟩
theorem py(B v x w)(he:dD w)(hx:bi B w v x)(X:B<=w.1.size):
  cL 6 #[v] w (rT w (U (cr x))):=by
 obtain⟨ca,cc,sa,sc,ta,tc,rfl,hc,hd⟩:=hx.shape;obtain⟨f,d,u⟩:=x;simp only at*;have s:=Z λb (h:bL w b)=>qy B _ d b (he.l h) (hd.l h X) (h.u X)
 have t:Hid (aB d=0->∀b,bL w b->cL 19 #[.agg #[.slice sa d.1.length sc,.slice ta d.2.length tc]] b λe g=>∃a1 n1 c1 a2 n2 c2 la ln lc,e=.returned (.tuple #[.agg #[.slice a1 n1 c1,.slice a2 n2 c2],.slice la ln lc])/\dh g.1.size g (.slice la ln lc) (cK d)/\bL b g):=λh0 b h=>by
  have hl:=dE h0;refine(xN B _ d b (he.l h) (hd.l h X) (h.u X) hl.1 hl.2.1).mono λe g ⟨dv,F,L,Y,h3,h4⟩=>?_
  obtain⟨s1,t1,ed,k1,k2⟩:=Y;obtain⟨a1,c1,es,-⟩:=k1;obtain⟨a2,c2,et,-⟩:=k2;obtain⟨la,lc,el,-⟩:=id h3;subst es et ed el;refine⟨_,_,_,_,_,_,la,_,lc,L,?_,h4⟩;have e:cK d=iF d:=by unfold cK;rw[Io h0]
  rw[e];exact h3
 have y:Hid (∀ (C:Nat) (F:Value) (rs:List az) b,dh C b F rs->C<=b.1.size->cL 20 #[F] b λe g=>∃a n c,e=.returned (.tuple #[.slice a n c,U (ay rs).2])/\aE g.1.size g (.slice a n c) (ay rs).1/\bL b g):=λC F rs b L Y=>by
  refine(Am C F rs b L Y).mono λe g ⟨v,L,Y,h3⟩=>?_
  obtain⟨a,c,ev,-,-⟩:=Y.shape;subst ev;exact⟨a,_,c,L,Y,h3⟩
 have o:Hid (∀ (F:Value) (ls:List aG) b,bL w b->aE b.1.size b F ls->cL 21 #[F,.slice ca f.length cc] b (rT b (.bool (decide (ls=f))))):=λF ls b h L=>pX b.1.size _ _ ls f b L ((hc.l h X).wide (h.u X)) lE
 have M:Hid (d.2=[] ↔ d.2.length=0):=LA.symm;have HU:=Z (uO f d);have HD:Hid (cr (f,d,false)=if aB d=0 then (if (ay []).2=0 then (if (ay []).1=f then 0 else 4) else (ay []).2) else aB d):=ng f d;clear hc hd hx he;have⟨nC,N⟩:=nM (f.length);have⟨nS,O⟩:=nM (d.1.length);have⟨nT,G⟩:=nM (d.2.length);rw[<-O,<-G] at s t;rw[<-N] at o;rw[<-G] at M;rw[<-N,<-O,<-G];clear N O G;have⟨W0,H⟩:=nM (w.alloc (.cells #[.slice ca nC cc,.slice sa nS sc,.slice ta nT tc,.bool u] 27));have P:=bA H;have g0:=hA H;have HG:Hid (∀b,bL W0 b->b.cell? (pA w.1.size 0)=some (.slice ca nC cc)/\b.cell? (pA w.1.size 1)=some (.slice sa nS sc)/\b.cell? (pA w.1.size 2)=some (.slice ta nT tc)/\b.cell? (pA w.1.size 3)=some (.bool u)/\w.1.size<b.1.size/\bL w b):=λb h=>by have k:=h.bl g0;exact⟨J0 k,J1 k,J2 k,J3 k,io k,P.th h⟩
 have Q:=Z H;have R:=Z P;clear H g0 P;generalize aB d=de at*
 by_cases z:de=0
 ·subst z;have A:=t.o rfl;have l:Hid _:=A
  cases u with
  |false=>
   have p:=Z (by rw[HD.o,Io rfl]:cr (f,d,false)=if (ay []).2=0 then (if (ay []).1=f then 0 else 4) else (ay []).2);clear HD HU t A l M;go_enter func6,ntmps6;go_wp2_with fail;rw[<-Q.o];go_at_call 18;refine Calls.mono (s.o _ R.o) ?_;rintro e S ⟨rfl,j⟩;have⟨q0,q1,q2,q3,l1,D⟩:=HG.o S j;have aa:Hid _:=y.o S.1.size nL [] S (CO _ _) lE;go_wp2_with fail;go_at_call 20;refine Calls.mono aa.o ?_;rintro e w2 ⟨ra,rn,rc,rfl,ac,T⟩;have m:=j.th T;have⟨p0,p1,p2,p3,l2,V⟩:=HG.o w2 m;have ad:Hid _:=o.o _ _ w2 V ac
   rw[show (ay []).2=0 from rfl] at p |-
   rw[Io rfl] at p;clear q0 q1 q2 q3 ac;go_wp2_with fail;go_at_call 21;refine Calls.mono ad.o ?_;rintro e w3 ⟨rfl,W⟩;have q:=V.th W
   by_cases r:(ay []).1=f
   ·have e:=Z (by rw[p.o,Io r]:cr (f,d,false)=0);rw[KS r];clear r p;go_wp2_with fail;go_ret;exact⟨by rw[e.o];rfl,q⟩
   have e:=Z (by rw[p.o,iO r]:cr (f,d,false)=4);rw[KD r];clear r p;go_wp2_with fail;go_ret;exact⟨by rw[e.o];rfl,q⟩
  |true=>
   have I:=Z (by rw[HU.o,Io rfl]:cr (f,d,true)=if d.2≠[] then 4 else if (ay (cK d)).2=0 then (if (ay (cK d)).1=f then 0 else 4) else (ay (cK d)).2);clear HD HU t A;go_enter func6,ntmps6;go_wp2_with fail;rw[<-Q.o];go_at_call 18;refine Calls.mono (s.o _ R.o) ?_;rintro e S ⟨rfl,j⟩;have⟨q0,q1,q2,q3,l1,D⟩:=HG.o S j
   by_cases ht:nT=0
   case neg=>
    have e:=Z (by rw[I.o,Io (λe=>ht (M.o.1 e))]:cr (f,d,true)=4);have h0:(0:Int)<(nT:Int):=by omega
    clear ht I l y o M;go_wp2_with fail;go_ret;exact⟨by rw[e.o];rfl,D⟩
   have i:=Z (by rw[I.o,iO (λe=>e (M.o.2 ht))]:cr (f,d,true)=if (ay (cK d)).2=0 then (if (ay (cK d)).1=f then 0 else 4) else (ay (cK d)).2);subst ht;have bF:=q2;clear I M;go_wp2_with fail;go_at_call 19;refine Calls.mono (l.o _ D) ?_;rintro e w2 ⟨a1,n1,c1,a2,n2,c2,la,ln,lc,rfl,ae,T⟩;have m:=j.th T;have E:Hid _:=y.o w2.1.size _ _ w2 ae lE;have⟨p0,p1,p2,p3,l2,V⟩:=HG.o w2 m;have⟨RS,af⟩:=nM (cK d);rw[<-af] at E i;clear q0 q1 q2 bF q3 ae af l s;go_wp2_with fail;go_at_call 20;refine Calls.mono E.o ?_;rintro e w3 ⟨ra,rn,rc,rfl,ak,W⟩;have al:=m.th W;clear p0 p1 p2 p3;have⟨p0,p1,p2,p3,l3,q⟩:=HG.o w3 al;have K:Hid _:=o.o _ _ w3 q ak;clear ak o y E;generalize (ay RS).2=re at*;generalize (ay RS).1=c3 at*
   by_cases J:re=0
   ·subst J;rw[Io rfl] at i;go_wp2_with fail;go_at_call 21;refine Calls.mono K.o ?_;rintro e w4 ⟨rfl,c4⟩;have ao:=q.th c4
    by_cases r:c3=f
    ·have e:=Z (by rw[i.o,Io r]:cr (f,d,true)=0);rw[KS r];clear r i;go_wp2_with fail;go_ret;exact⟨by rw[e.o];rfl,ao⟩
    have e:=Z (by rw[i.o,iO r]:cr (f,d,true)=4);rw[KD r];clear r i;go_wp2_with fail;go_ret;exact⟨by rw[e.o];rfl,ao⟩
   have e:=Z (by rw[i.o,iO J]:cr (f,d,true)=re);have hq:(re==0)=false:=by simpa using J
   clear J i K;go_wp2_with fail;go_ret;exact⟨by rw[e.o];rfl,q⟩
 have e:Hid (cr (f,d,u)=de):=by
  unfold Hid
  cases u
  ·rw[HD.o,iO z]
  rw[HU.o,iO z]
 have hq:(de != 0)=true:=by simpa using z
 clear HU HD t y o M z;go_enter func6,ntmps6;go_wp2_with fail;rw[<-Q.o];go_at_call 18;refine Calls.mono (s.o _ R.o) ?_;rintro e2 S ⟨rfl,j⟩;have⟨q0,q1,q2,q3,l1,D⟩:=HG.o S j;go_wp2_with fail;go_ret;exact⟨by rw[e.o];rfl,D⟩
theorem Fh(w):cL 12 #[] w λe j=>∃v,e=.returned v/\bi j.1.size j v kz/\bL w j:=by
 have⟨d,c⟩:=nM (w.alloc (.cells #[nL,nL,nL,.bool false] 27));have g:=bA c;have k:=hA c;have o:=kT d;have p:=uA d;have⟨q,a⟩:=nM (d.alloc (.cells (madeCells #[.bool false,nL,nL,U 0] 16) 46));rw[<-a] at o p;have f:=bA a;have b:=f.bl k;have h:=sA a;have⟨i,r,s,t⟩:=eK (u0:=.slice (MZ d) 4 4) (u1:=nL) (u2:=nL) (u3:=.bool true) b;have u:=io k;have l:Hid (aE (((((q.setCell (pW w 0) (.slice (MZ d) 4 4)).setCell (pW w 1) nL).setCell (pW w 2) nL).setCell (pW w 3) (.bool true))).1.size ((((q.setCell (pW w 0) (.slice (MZ d) 4 4)).setCell (pW w 1) nL).setCell (pW w 2) nL).setCell (pW w 3) (.bool true)) (.slice (MZ d) 4 4) aA):=by unfold Hid;have x:=hA a;exact(je ((r _ (by omega)).trans x)).wide (by rw[s,h];omega)
 have y:=J0 b;have z:=J1 b;have A:=J2 b;have B:=J3 b;have C:=fZ b 0;have D:=fZ b 1;have E:=fZ b 2;have F:=fZ b 3;have m:=Z (g.th f);have n:=Z c;clear c a f g k b p r s h;go_enter func12,ntmps12;go_wp2_with fail;rw[<-n.o,o];go_wp2_with fail;have G:=J0 i;have H:=J1 i;have I:=J2 i;have J:=J3 i;refine Ka (v:=.agg #[.slice (MZ d) 4 4,nL,nL,.bool true]) ?_ rfl ⟨_,rfl,⟨_,_,_,rfl,l.o,ip _ _,ip _ _⟩,m.o.trans (t _ lE)⟩;rw[cN rfl];go_simp
theorem Di(s:ByteArray)(G:s.size<=60000)(w)(he:dD w)(R:bt kN ((ar s.1.1).getD 0 [])=3)(Q:(ar s.1.1).length=2):oU s w:=by
 have S:=Z λa (h:bL w a)=>he.l h
 clear he;have⟨H,i,T,V,E,I⟩:=il s G;have HM:=Z i;have J:=Z E;obtain⟨K,q⟩:∃u,H[0]?=some u:=⟨H[0]'(by omega),by simp⟩;have W:=E K (Kb q);have L:(ar s.1.1).getD 0 []=K.1.1:=by rw[<-i,Kn,Ku,q];rfl
 have f:(ar s.1.1).length=H.length:=by rw[<-i];simp
 have⟨X,r⟩:=nM (w.alloc (.cells #[U 0,U 0,U 0,nL,U 0] 70));have g0:=hA r;have F:=bA r;have Y:=Z λa (h:bL X a)=>Q2 (h.bl g0) (F.th h)
 have⟨mm,hm⟩:=(S.o X F).1;have k:Hid _:=I mm X hm;have HW:=Z r;clear r g0 F I hm i E;rw[f] at Q;obtain⟨t,x⟩:∃u,H[1]?=some u:=⟨H[1]'(by omega),by simp⟩;have a0:=J.o t (Kb x);have M:(ar s.1.1).getD 1 []=t.1.1:=by rw[<-HM.o,Kn,Ku,x];rfl
 have B:Hid (gm s.1.1=match cS t.1.1 with|none=>(cu,1)|some c=>((4,c,0,[],0),0)):=by
  unfold Hid gm;rw[R,f,Q,M,iO (by omega)]
  cases cS t.1.1<;>rfl
 have a1:Hid (∀a,cL 173 #[.string K] a (rT a (.tuple #[U 4,.bool true]))):=λa=>by have:=kt K a;rw[<-L,R] at this;exact this
 have a2:=Z λa=>sq a
 have a3:Hid (∀a,bL w a->cL 175 #[.string t] a λe a4=>∃n ok,e=.returned (.tuple #[U n,.bool ok])/\(cS t.1.1=if ok=true then some n else none)/\wf n/\bL a a4):=λa h=>kV t (by omega) a (S.o a h)
 have HU:=Z2 q x;rw[Q] at k;clear L f q W x a0 M  R Q T V J HM S;go_enter func139,ntmps139;go_wp2_with fail;rw[<-HW.o];go_at_call 106;refine Calls.mono k.o ?_;rintro e w1 ⟨SB,av,rfl,b0,b1,N,O,C,g⟩;have x0:=g 0 K HU.o.1;have HX:Hid (∀a,bL w1 a->a.cell? (pA SB 1)=some (.string t)):=λa h=>(h.cell (p:=pA SB 1) C).trans (g 1 t HU.o.2)
 have a5:=Z N;clear g k HW O N;go_wp2_with fail;go_at_call 173;refine Calls.mono (a1.o _) ?_;rintro e w2 ⟨rfl,l⟩;have b4:=Z l;have x1:=HX.o w2 l;have a6:=Kd C l.size;have P:=Z (a5.o.th l);clear l x0;go_wp2_with fail;go_at_call 174;refine Calls.mono (a2.o _) ?_;rintro e w3 ⟨rfl,rfl⟩;go_wp2_with fail;go_at_call 175;refine Calls.mono (a3.o _ (Y.o _ P.o).2) ?_;rintro e w4 ⟨n,ok,rfl,j,D,y⟩;have z:=P.o.th y;have b6:=Kd a6 y.size;clear HX x1
 cases ok with
 |false=>
  have b:=Z (by rw[B.o,j];rfl:gm s.1.1=(cu,1));have m:=z;clear j y z;have⟨d,o⟩:=Y.o w4 m;have lb:=io d;have⟨z0,z1,z2,z3,z4⟩:=aF d;have f0:=fZ d 0;have f1:=fZ d 1;have f2:=fZ d 2;have f3:=fZ d 3;have f4:=fZ d 4;have A:=Z o;clear d o m;go_wp2_with fail;refine Ka (v:=.tuple #[.agg #[U 0,U 0,U 0,nL,U 0],U 1]) ?_ rfl ⟨_,by rw[b.o],by rw[b.o];exact dg _ _,?_⟩
  ·rw[K8 rfl];go_simp
  exact(A.o.s5 lE)
 |true=>
  have b:=Z (by rw[B.o,j];rfl:gm s.1.1=((4,n,0,[],0),0));have a7:=Z D;have m:=z;clear j y z D;have⟨d,o⟩:=Y.o w4 m;have lb:=io d;have⟨z0,z1,z2,z3,z4⟩:=aF d;have f0:=fZ d 0;have f1:=fZ d 1;have f2:=fZ d 2;have f3:=fZ d 3;have f4:=fZ d 4;have A:=Z o;clear d o m;go_wp2_with fail;refine Ka (v:=.tuple #[.agg #[U 4,U n,U 0,nL,U 0],U 0]) ?_ rfl ⟨_,by rw[b.o],by rw[b.o];exact λwF _ _=>⟨_,rfl,(by unfold wf;decide:wf (4:Int)),a7.o,(by unfold wf;decide:wf (0:Int)),bV _ _⟩,?_⟩
  ·rw[K8 rfl];go_simp
  exact(A.o.s5 lE).alloc (by simp;exact A.o.size) _
theorem yz(k:Int)(q:k=1\/k=2)(s:ByteArray)(a2:s.size<=60000)(w)(he:dD w)(hk:bt kN ((ar s.1.1).getD 0 [])=k-1)(hn:(ar s.1.1).length=3):oU s w:=by
 have HE:=Z λa (h:bL w a)=>he.l h
 clear he;have⟨P,m,b5,b6,Q,a3⟩:=il s a2;have HM:=Z m;have R:=Z Q;obtain⟨u0,E⟩:∃u,P[0]?=some u:=⟨P[0]'(by omega),by simp⟩;have b8:=Q u0 (Kb E);have a5:(ar s.1.1).getD 0 []=u0.1.1:=by rw[<-m,Kn,Ku,E];rfl
 have i:(ar s.1.1).length=P.length:=by rw[<-m];simp
 have⟨W0,F⟩:=nM (w.alloc (.cells #[U 0,U 0,U 0,nL,U 0] 70));have g0:=hA F;have S:=bA F;have T:=Z λa (h:bL W0 a)=>Q2 (h.bl g0) (S.th h)
 have⟨mm,hm⟩:=(HE.o W0 S).1;have t:Hid _:=a3 mm W0 hm;have HW:=Z F;clear F g0 S a3 hm m Q;rw[i] at hn;obtain⟨G,H⟩:∃u,P[1]?=some u:=⟨P[1]'(by omega),by simp⟩;have ba:=R.o G (Kb H);have a6:(ar s.1.1).getD 1 []=G.1.1:=by rw[<-HM.o,Kn,Ku,H];rfl
 obtain⟨r,I⟩:∃u,P[2]?=some u:=⟨P[2]'(by omega),by simp⟩;have bb:=R.o r (Kb I);have a7:(ar s.1.1).getD 2 []=r.1.1:=by rw[<-HM.o,Kn,Ku,I];rfl
 have x:Hid (gm s.1.1=match cS G.1.1 with|none=>(cu,1)|some c=>((k,c,0,(cG r.1.1).1),(cG r.1.1).2)):=by
  rcases q with rfl|rfl
  all_goals
   unfold Hid gm;rw[hk,i,hn,a6,a7,iO (by omega)]
   cases cS G.1.1<;>rfl
 have bc:Hid (wf k):=by rcases q with rfl|rfl<;>(unfold Hid wf;decide)
 have c3:(k==3)=false:=by rcases q with rfl|rfl<;>rfl
 have c4:(k==4)=false:=by rcases q with rfl|rfl<;>rfl
 have bd:Hid (∀a,cL 173 #[.string u0] a (rT a (.tuple #[U k,.bool true]))):=λa=>by
  have:=kt u0 a;rw[<-a5,hk] at this
  rcases q with rfl|rfl<;>exact this
 have bf:Hid (∀a,cL 174 #[U k] a λe V=>e=.returned (U 3)/\V=a):=λa=>ni (by omega) a
 have bg:Hid (∀a,bL w a->cL 175 #[.string G] a λe V=>∃n ok,e=.returned (.tuple #[U n,.bool ok])/\(cS G.1.1=if ok=true then some n else none)/\wf n/\bL a V):=λa h=>kV G (by omega) a (HE.o a h)
 have bk:=Z λa (h:bL w a)=>FK r a (HE.o a h)
 have HU:=Z3 E H I;rw[hn] at t;clear a5 i E b8 H ba a6 I bb a7 hk q hn b5 b6 R HM HE;go_enter func139,ntmps139;go_wp2_with fail;rw[<-HW.o];go_at_call 106;refine Calls.mono t.o ?_;rintro e w1 ⟨SB,cd,rfl,ce,cf,a8,a9,y,b⟩;have x0:=b 0 u0 HU.o.1
 have HX:Hid (∀a,bL w1 a->a.cell? (pA SB 1)=some (.string G)/\a.cell? (pA SB 2)=some (.string r)):=λa h=>⟨(h.cell (p:=pA SB 1) y).trans (b 1 G HU.o.2.1),(h.cell (p:=pA SB 2) y).trans (b 2 r HU.o.2.2)⟩
 have bp:=Z a8;clear b t HW a9 a8;go_wp2_with fail;go_at_call 173;refine Calls.mono (bd.o _) ?_;rintro e w2 ⟨rfl,z⟩;have bq:=Z z;have x1:=(HX.o w2 z).1;have aa:=Kd y z.size;have ac:=Z (bp.o.th z);clear z x0;go_wp2_with fail;go_at_call 174;refine Calls.mono (bf.o _) ?_;rintro e w3 ⟨rfl,rfl⟩;go_wp2_with fail;go_at_call 175;refine Calls.mono (bg.o _ (T.o _ ac.o).2) ?_;rintro e D ⟨n,ok,rfl,o,N,A⟩;have j:=ac.o.th A;have ad:=Kd aa A.size;have ae:Hid (∀a,bL D a->a.cell? (pA SB 2)=some (.string r)):=λa h=>((h.cell (p:=pA SB 2) ad).trans (A.cell (p:=pA SB 2) aa)).trans (HX.o w3 bq.o).2
 clear HX x1
 cases ok with
 |false=>
  have d:=Z (by rw[x.o,o];rfl:gm s.1.1=(cu,1));have B:=j;clear o A j;have⟨f,C⟩:=T.o D B;have lb:=io f;have⟨z0,z1,z2,z3,z4⟩:=aF f;have f0:=fZ f 0;have f1:=fZ f 1;have f2:=fZ f 2;have f3:=fZ f 3;have f4:=fZ f 4;have J:=Z C;clear f C B;go_wp2_with fail;refine Ka (v:=.tuple #[.agg #[U 0,U 0,U 0,nL,U 0],U 1]) ?_ rfl ⟨_,by rw[d.o],by rw[d.o];exact dg _ _,?_⟩
  ·rw[K8 rfl];go_simp
  exact(J.o.s5 lE)
 |true=>
  have l:=Z (by rw[x.o,o];rfl:gm s.1.1=((k,n,0,(cG r.1.1).1),(cG r.1.1).2));have br:=Z N;have⟨W5,K⟩:=nM (D.alloc (.cells #[U k,U n,U 0,nL,U 0] 70));have W:=bA K;have g5:=hA K;have x4:=ae.o D bR;have L:=j.th W;have l5:=io g5;have ak:=bk.o W5 (T.o W5 L).2;have O:Hid _:=ak;have al:=Z λa (h:bL W5 a)=>Q2 ((h.block _ l5).trans g5:Na a D.1.size #[U k,U n,U 0,nL,U 0] 70) (L.th h)
  have d6:=Z j.size;have X:=Z3 (io (T.o W5 L).1) l5 (Mc (io (T.o D j).1));have da:¬w.1.size=D.1.size:=by have:=io (T.o D j).1;omega
  have ao:=Z K;have bx:=Kd ad W.size;clear K W g5 L j A o N ak ae;go_wp2_with fail;rw[<-ao.o];go_at_call 176;refine Calls.mono O.o ?_;rintro e w6 ⟨pv,rfl,M,av⟩;have⟨PP,Y⟩:=nM ((cG r.1.1).1);have⟨PE,a0⟩:=nM ((cG r.1.1).2);rw[<-Y] at M
  rw[<-a0] at |-
  rw[<-Y,<-a0] at l;clear Y a0 x;obtain⟨bF,pd⟩:=PP;have c0:Hid (bE W5.1.size w6 pv (bF,pd)):=λwF h1 h2=>(M.keep h1 h2).at
  obtain⟨va,vn,vc,ev⟩:=M.shape;simp only[] at ev;subst ev;have⟨g6,b1⟩:=al.o w6 av;have l6:=io g6;have⟨q0,q1,q2,q3,q4⟩:=aF g6;have dn:=fZ g6 3;have dp:=fZ g6 4;have d:=Z l.o;have B:=b1;clear O al x4 l5 bx av ao g6 M b1 l;have⟨f,C⟩:=T.o w6 B;have lb:=io f;have⟨z0,z1,z2,z3,z4⟩:=aF f;have f0:=fZ f 0;have f1:=fZ f 1;have f2:=fZ f 2;have f3:=fZ f 3;have f4:=fZ f 4;have J:=Z C;clear f C B;go_wp2_with fail;refine Ka (v:=.tuple #[.agg #[U k,U n,U 0,.slice va vn vc,U pd],U PE]) ?_ rfl ⟨_,by rw[d.o],by rw[d.o];have hL:=X.o;exact λwF h1 h2=>⟨_,rfl,bc.o,br.o,(by unfold wf;decide:wf (0:Int)),(((((((((c0.o.put (.inl hL.2.1)).put (.inl hL.2.1)).put (.inl hL.1)).put (.inl hL.1)).put (.inl hL.1)).put (.inl hL.1)).put (.inl hL.1)).l lE (bR.alloc lE _)).keep lE (λg hg hl=>h1 g (by omega) hl) h2).at⟩,?_⟩
  ·rw[K8 rfl];go_simp
  exact(((((((J.o.setCell (p:=pW D 3) X.o.2.2 _).setCell (p:=pW D 4) X.o.2.2 _).setCell (p:=pW w 0) lE _).setCell (p:=pW w 1) lE _).setCell (p:=pW w 2) lE _).setCell (p:=pW w 3) lE _).setCell (p:=pW w 4) lE _).alloc (by simp;exact J.o.size) _
theorem F1(s:ByteArray)(a:s.size<=60000)(w)(b:dD w):oU s w:=by
 by_cases c:bt kN ((ar s.1.1).getD 0 [])<0\/(bt kN ((ar s.1.1).getD 0 [])=3/\(ar s.1.1).length≠2)\/(bt kN ((ar s.1.1).getD 0 [])<3/\(ar s.1.1).length≠3)
 ·exact Ft s a w b c
 have d:=D8 ((ar s.1.1).getD 0 [])
 by_cases e:bt kN ((ar s.1.1).getD 0 [])=3
 ·exact Di s a w b e (by omega)
 by_cases f:bt kN ((ar s.1.1).getD 0 [])=2
 ·exact Cz s a w b f (by omega)
 by_cases g:bt kN ((ar s.1.1).getD 0 [])=1
 ·exact yz 2 (.inr rfl) s a w b g (by omega)
 exact yz 1 (.inl rfl) s a w b (by omega) (by omega)
