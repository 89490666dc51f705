import Derived.Test.YtjdnfhkkkejcfaaGreatDoorWd15
set_option linter.all false
set_option maxRecDepth 100000
set_option maxHeartbeats 4000000
namespace Go.Proofs.YtjdnfhkkkejcfaaGreatDoor
open Go.RowKit Go.Maps Go.Proofs.Tryz
theorem tX(k:Int)(y:k=1\/k=2)(s:ByteArray)(bx:s.size<=60000)(w)(he:dD w)(I:bt kN ((ar s.1.1).getD 0 [])=k-1)(hn:(ar s.1.1).length=3):
  cL 77 #[.string s] w λe F=>∃v,e=.returned (.tuple #[v,U (ch s.1.1).2])/\gi w.1.size F v (ch s.1.1).1/\bL w F:=by
 have g3:=@run_makeMap prog;have HE:=Z λF (h:bL w F)=>he.l h
 clear he;have⟨ws,J,de,df,b4,bz⟩:=il s bx;have HM:=Z J;have bF:=Z b4;obtain⟨u0,a0⟩:∃u,ws[0]?=some u:=⟨ws[0]'(by omega),by simp⟩;have dk:=b4 u0 (Kb a0);have c5:(ar s.1.1).getD 0 []=u0.1.1:=by rw[<-J,Kn,Ku,a0];rfl
 have⟨W0,a1⟩:=nM (w.alloc (.cells #[U 0,U 0,U 0,nL,U 0] 70));have g0:=hA a1;have b6:=bA a1;have S:=Z λF (h:bL W0 F)=>Q2 (h.bl g0) (b6.th h)
 have⟨mm,hm⟩:=(HE.o W0 b6).1;have K:Hid _:=bz mm W0 hm;have HW:=Z a1;have c6:=Z3 a0 c5 dk;clear a1 g0 b6 J b4 bz hm a0 c5;have L:(ar s.1.1).length=ws.length:=by rw[<-HM.o];simp
 obtain⟨u1,a2⟩:∃u,ws[1]?=some u:=⟨ws[1]'(by omega),by simp⟩;have dl:=bF.o u1 (Kb a2);have c7:(ar s.1.1).getD 1 []=u1.1.1:=by rw[<-HM.o,Kn,Ku,a2];rfl
 obtain⟨T,a3⟩:∃u,ws[2]?=some u:=⟨ws[2]'(by omega),by simp⟩;have dn:=bF.o T (Kb a3);have c8:(ar s.1.1).getD 2 []=T.1.1:=by rw[<-HM.o,Kn,Ku,a3];rfl
 have c9:=Z2 a3 dn;have dp:=Z (by rw[<-c6.o.2.1,I];omega:1+bt kN u0.1.1=k)
 have dq:Hid (wf k):=by rcases y with rfl|rfl<;>(unfold Hid wf;decide)
 have c0:(k==0)=false:=by rcases y with rfl|rfl<;>rfl
 have c3:(k==3)=false:=by rcases y with rfl|rfl<;>rfl
 have c4:(k==4)=false:=by rcases y with rfl|rfl<;>rfl
 have d4:k<4:=by omega
 have Hc:Hid ((k==1)=true\/((k==1)=false/\(k==2)=true)):=by rcases y with rfl|rfl<;>(unfold Hid;decide)
 have q:Hid (ch s.1.1=match cS u1.1.1 with|none=>(cu,1)|some c=>if (cG T.1.1).2=0 then gP (k,c,0,(cG T.1.1).1) else (cu,(cG T.1.1).2)):=by
  rcases y with rfl|rfl
  all_goals
   unfold Hid ch;rw[I,hn,c7,c8,iO (by omega)]
   cases cS u1.1.1<;>rfl
 have ca:=Z2 a2 dl;rw[L] at hn;rw[hn] at K;clear L I y a2 c7 a3 c8 de df;go_enter func77,ntmps77;go_wp2_with fail;rw[<-HW.o];go_at_call 106;refine Calls.mono K.o ?_;rintro e w1 ⟨SB,ge,rfl,gj,gk,cb,eN,A,d⟩;have x0:=d 0 u0 c6.o.1;have go:=Z d;have cc:=Le (H:=Unit) w1 prog 9 (plainElem prog 3);have y1:=d 1 u1 ca.o.1;have y2:=d 2 T c9.o.1;have cd:=Z (by have:=ai;omega:u0.size<=maxLen);clear d K HW
 go_wp2_with (first
  |(refine am _ rfl _ _ _ 137 rfl 9 3 dH Tryz.underlying137 (plainElem prog 3) w1.1.size 0 _ rfl cc (by decide) _ _ _ rfl rfl (Ko Tryz.underlying9 (by decide)) _ [] (KH Tryz.underlying3 (by decide)) ?_;go_must (intro w2 M dr;clear cc;have x:=((Kf w1.1.size w1).alloc lE _).grown dr (by simp) (λk I=>by cases I;exact Ke _)))
  |(refine am _ rfl _ _ _ 137 rfl 9 3 dH Tryz.underlying137 (plainElem prog 3) w1.1.size 1 _ rfl M (by decide) _ _ _ rfl rfl (Ko Tryz.underlying9 (by decide)) _ [] (KH Tryz.underlying3 (by decide)) ?_;go_must (intro w3 N ds;clear M;replace x:=x.grown ds x.size (λk I=>by cases I;exact Ke _)))
  |(refine am _ rfl _ _ _ 137 rfl 9 3 dH Tryz.underlying137 (plainElem prog 3) w1.1.size 2 _ rfl N (by decide) _ _ _ rfl rfl (Ko Tryz.underlying9 (by decide)) _ [] (KH Tryz.underlying3 (by decide)) ?_;go_must (intro w4 O dv;clear N;replace x:=x.grown dv x.size (λk I=>by cases I;exact Ke _)))
  |(refine am _ rfl _ _ _ 137 rfl 9 3 dH Tryz.underlying137 (plainElem prog 3) w1.1.size 3 _ rfl O (by decide) _ _ _ rfl rfl (Ko Tryz.underlying9 (by decide)) _ [] (KH Tryz.underlying3 (by decide)) ?_;go_must (intro r P e0;clear O;replace x:=x.grown e0 x.size (λk I=>by cases I;exact Ke _);have x5:=(x.cell (p:=pA SB 0) A).trans x0;have y5:=(x.cell (p:=pA SB 1) A).trans y1;have ad:SB<r.1.size:=(Kd A x.size);have gr:=x.size;obtain⟨c',ce,h2,_⟩:=P.lookup_int dH Tryz.underlying137 Tryz.underlying3 (jj _) (Ko (s:=u0) Tryz.underlying9 cd.o);have cf:=(ji (h2.symm.trans (uV _))).trans dp.o;rw[cf] at ce;clear h2 cf)))
 have ci:Hid (∀F,bL r F->F.cell? (pA SB 2)=some (.string T)):=λF h=>(h.cell (p:=pA SB 2) ad).trans ((x.cell (p:=pA SB 2) A).trans y2)
 have f9:¬SB=r.1.size:=by omega
 have a4:=cb.th x;have e3:=(S.o r a4).2;have a5:=Z a4.size;have⟨W6,a6⟩:=nM (r.alloc (.cells #[U k,U 0,U 0,nL,U 0] 70));have b8:=bA a6;have b9:=a4.th b8;have g6:=hA a6;have l6:=io g6;have ck:=Z λF (h:bL W6 F)=>Q3 ((h.block _ l6).trans g6:F.1[r.1.size]?=some (.cells #[U k,U 0,U 0,nL,U 0] 70 (0,0))) (b9.th h) (b8.th h)
 have cl:Hid _:=mX u1 (by have:=ca.o.2;omega) W6 (HE.o W6 (S.o W6 b9).2);rw[<-a6];clear a6 g6 b9 b8 a4 e3 x P ce x5 y5 x0 y1 y2 cb;go_at_call 88;refine Calls.mono cl.o ?_;rintro e w7 ⟨n,ok,rfl,B,cn,co⟩;have⟨g7,a7,bb⟩:=ck.o w7 co;have y7:=ci.o w7 bb;have e5:SB<w7.1.size:=by have:=bb.size;omega
 have l7:=io g7;have⟨q0,q1,q2,q3,q4⟩:=aF g7;have fq:=fZ g7 1;have gz:¬w.1.size=r.1.size:=by have:=(S.o w7 a7).1;have:=io this;intro e;rw[e] at this;have h2:=(S.o w7 a7).1;rw[e,g7] at h2;simp at h2;simp[h2] at c0
 have G7:=Z g7;have bc:=Z a7;clear g7 a7 co ck cl ad bb ci
 cases ok with
 |false=>
  have a:=Z (by rw[q.o,B];rfl:ch s.1.1=(cu,1));clear B;go_wp2_with fail;go_at_call 105;refine Calls.mono (jr 1 _) ?_;rintro e w8 ⟨rfl,cp⟩;have Q:bL W0 (w7.setCell (pW r 1) (U n)):=bc.o.setCell (p:=pW r 1) a5.o _;have f:=Q.th cp;clear Q cp q0 q1 q2 q3 q4 fq;have⟨b,i⟩:=S.o w8 f;have lb:=io b;have⟨z0,z1,z2,z3,z4⟩:=aF b;have f0:=fZ b 0;have f1:=fZ b 1;have f2:=fZ b 2;have f3:=fZ b 3;have f4:=fZ b 4;have z:=Z i;clear b i f;go_wp2_with fail;refine Ka (v:=.tuple #[.agg #[U 0,U 0,U 0,nL,U 0],U 1]) ?_ rfl ⟨_,by rw[a.o],by rw[a.o];exact dg _ _,?_⟩
  ·rw[K8 rfl];go_simp
  exact z.o.s5 lE
 |true=>
  rcases Hc.o with c1|⟨c1,c2⟩
  all_goals
   have⟨W8,a8⟩:=nM (w7.setCell (pW r 1) (U n));have bd:bL W0 W8:=by rw[a8];exact bc.o.setCell (p:=pW r 1) a5.o _
   have g8:W8.1[r.1.size]?=some (.cells #[U k,U n,U 0,nL,U 0] 70 (0,0)):=by rw[a8];exact ap G7.o
   have cs:Hid _:=kY T c9.o.2 W8 (HE.o W8 (S.o W8 bd).2);have cv:=Z a8;have bf:=Z bd;have G8:=Z g8;have cx:=Z B;clear a8 bd g8 B G7 bc;go_wp2_with fail;rw[<-cv.o];go_at_call 54;refine Calls.mono cs.o ?_;rintro e w9 ⟨pv,rfl,a9,bg⟩;have cT:=bf.o.th bg;have g9:=bg.bl G8.o;have l9:=io g9;have aa:=Z cT;have G9:=Z g9;have⟨p0,p1,p2,p3,p4⟩:=aF g9;have d0:=fZ g9 3;have d1:=fZ g9 4;have⟨PP,bk⟩:=nM ((cG T.1.1).1);have⟨PE,bm⟩:=nM ((cG T.1.1).2);rw[<-bk] at a9
   rw[<-bm] at |-
   rw[<-bk,<-bm] at q;clear bk bm;have ek:=Z a9;obtain⟨j,l⟩:=PP;obtain⟨vr,ev,gT,V,X,er,-⟩:=a9.at;simp only[] at ev er;subst er;subst ev;have d2:=Z2 (io G8.o) (io (S.o W8 bf.o).1);generalize j.length=Y at*;clear bg cT g9 cv G8 bf cs q0 q1 q2 q3 q4 fq y7 e5 a9
   by_cases C:PE=0
   case neg=>
    have a:=Z (by rw[q.o,cx.o];show (if PE=0 then _ else _)=_;rw[iO C]:ch s.1.1=(cu,PE));have hq:(PE != 0)=true:=by simpa using C
    clear C;go_wp2_with fail;go_at_call 105;refine Calls.mono (jr PE _) ?_;rintro e el ⟨rfl,ak⟩;have d3:bL W0 (w9.alloc (.cells #[.slice V Y X,U l] 30)):=aa.o.alloc aa.o.size _;have f:=d3.th ak;clear ak d3 p0 p1 p2 p3 p4 d0 d1;have⟨b,i⟩:=S.o el f;have lb:=io b;have⟨z0,z1,z2,z3,z4⟩:=aF b;have f0:=fZ b 0;have f1:=fZ b 1;have f2:=fZ b 2;have f3:=fZ b 3;have f4:=fZ b 4;have z:=Z i;clear b i f;go_wp2_with fail;refine Ka (v:=.tuple #[.agg #[U 0,U 0,U 0,nL,U 0],U PE]) ?_ rfl ⟨_,by rw[a.o],by rw[a.o];exact dg _ _,?_⟩
    ·rw[K8 rfl];go_simp
    exact z.o.s5 lE
   subst C;have⟨G,t⟩:=nM (((w9.setCell (pW r 3) (.slice V Y X)).setCell (pW r 4) (U l)).alloc (.cells #[.slice V Y X,U l] 30));have Q:bL W0 G:=by rw[t];exact((aa.o.setCell (p:=pW r 3) a5.o _).setCell (p:=pW r 4) a5.o _).alloc (by simpa using aa.o.size) _
   have al:G.1[r.1.size]?=some (.cells #[U k,U n,U 0,.slice V Y X,U l] 70 (0,0)):=by have e1:=ap (o:=3) (u:=.slice V Y X) G9.o;have e2:=ap (o:=4) (u:=U l) e1;rw[t,Kq _ _ _ (by simpa using l9),e2];rfl
   have ao:Hid (bE W8.1.size G (.agg #[.slice V Y X,U l]) (j,l)):=by unfold Hid;rw[t];have:=d2.o;exact((ek.o.put (.inl this.1)).put (.inl this.1)).l lE (bR.alloc lE _)
   have av:=Z (by rw[q.o,cx.o];rfl:ch s.1.1=gP (k,n,0,j,l));have⟨E,hE⟩:=nM (aZ (k,n,0,j,l));have b0:Hid (gP (k,n,0,j,l)=if E=0 then ((k,n,0,j,l),0) else (cu,E)):=by rw[hE];rfl
   have D:Hid (∀W,bE W8.1.size W (.agg #[.slice V Y X,U l]) (j,l)->cI W.1.size W (.agg #[U k,U n,U 0,.slice V Y X,U l]) (k,n,0,j,l)):=λW h=>⟨_,rfl,dq.o,cn,(by unfold wf;decide:wf (0:Int)),h.at⟩
   have en:Hid (cL 64 #[.agg #[U k,U n,U 0,.slice V Y X,U l]] G (rT G (U E))):=by unfold Hid;rw[hE];exact eR _ _ (k,n,0,j,l) G (D.o _ ao.o) lE
   have d5:=Z t;have eq:=Z Q;have es:=Z al;clear hE Q al t q;go_wp2_with fail;rw[<-d5.o];go_at_call 64;refine Calls.mono en.o ?_;rintro e et ⟨rfl,m⟩;have b1:=eq.o.th m;have bo:=m.bl es.o;have h3:=io bo;have⟨r0,r1,r2,r3,r4⟩:=aF bo;have b2:=Z b1;have d6:=Z (ao.o.l lE m);clear m p0 p1 p2 p3 p4 d0 d1 G9 b1 bo
   by_cases ac:E=0
   ·have a:=Z (by rw[av.o,b0.o,Io ac]:ch s.1.1=((k,n,0,j,l),0));subst ac;have f:=b2.o;have⟨b,i⟩:=S.o et f;have lb:=io b;have⟨z0,z1,z2,z3,z4⟩:=aF b;have f0:=fZ b 0;have f1:=fZ b 1;have f2:=fZ b 2;have f3:=fZ b 3;have f4:=fZ b 4;have z:=Z i;clear b i f;go_wp2_with fail;refine Ka (v:=.tuple #[.agg #[U k,U n,U 0,.slice V Y X,U l],U 0]) ?_ rfl ⟨_,by rw[a.o],by rw[a.o];have:=d2.o;exact λwF h1 h2=>D.o wF ((((((d6.o.put (.inl this.2)).put (.inl this.2)).put (.inl this.2)).put (.inl this.2)).put (.inl this.2)).keep lE (λg hg hl=>h1 g (by omega) hl) h2),?_⟩
    ·rw[K8 rfl];go_simp
    exact z.o.s5 lE
   have a:=Z (by rw[av.o,b0.o,iO ac]:ch s.1.1=(cu,E));have hq:(E != 0)=true:=by simpa using ac
   go_wp2_with fail;go_at_call 105;refine Calls.mono (jr E _) ?_;rintro e eu ⟨rfl,R⟩;have f:=b2.o.th R;clear R r0 r1 r2 r3 r4;have⟨b,i⟩:=S.o eu f;have lb:=io b;have⟨z0,z1,z2,z3,z4⟩:=aF b;have f0:=fZ b 0;have f1:=fZ b 1;have f2:=fZ b 2;have f3:=fZ b 3;have f4:=fZ b 4;have z:=Z i;clear b i f;go_wp2_with fail;refine Ka (v:=.tuple #[.agg #[U 0,U 0,U 0,nL,U 0],U E]) ?_ rfl ⟨_,by rw[a.o],by rw[a.o];exact dg _ _,?_⟩
   ·rw[K8 rfl];go_simp
   exact z.o.s5 lE
