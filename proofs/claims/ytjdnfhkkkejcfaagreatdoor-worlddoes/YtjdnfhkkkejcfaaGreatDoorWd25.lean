import Derived.Test.YtjdnfhkkkejcfaaGreatDoorWd15
set_option linter.all false
set_option maxRecDepth 100000
set_option maxHeartbeats 4000000
namespace Go.Proofs.YtjdnfhkkkejcfaaGreatDoor
open Go.RowKit Go.Maps Go.Proofs.Tryz
theorem Az(s:ByteArray)(b7:s.size<=60000)(w)(he:dD w)(y:bt kN ((ar s.1.1).getD 0 [])=2)(hn:(ar s.1.1).length=3):
  cL 77 #[.string s] w λe x=>∃v,e=.returned (.tuple #[v,U (ch s.1.1).2])/\gi w.1.size x v (ch s.1.1).1/\bL w x:=by
 have em:=@run_makeMap prog;have HE:=Z λx (h:bL w x)=>he.l h
 clear he;have⟨ws,z,cc,cd,a9,b8⟩:=il s b7;have HM:=Z z;have b9:=Z a9;obtain⟨u0,N⟩:∃u,ws[0]?=some u:=⟨ws[0]'(by omega),by simp⟩;have cf:=a9 u0 (Kb N);have ba:(ar s.1.1).getD 0 []=u0.1.1:=by rw[<-z,Kn,Ku,N];rfl
 have⟨W0,O⟩:=nM (w.alloc (.cells #[U 0,U 0,U 0,nL,U 0] 70));have g0:=hA O;have aa:=bA O;have P:=Z λx (h:bL W0 x)=>Q2 (h.bl g0) (aa.th h)
 have⟨mm,hm⟩:=(HE.o W0 aa).1;have A:Hid _:=b8 mm W0 hm;have HW:=Z O;have bb:=Z3 N ba cf;clear O g0 aa z a9 b8 hm N ba;have C:(ar s.1.1).length=ws.length:=by rw[<-HM.o];simp
 obtain⟨u1,Q⟩:∃u,ws[1]?=some u:=⟨ws[1]'(by omega),by simp⟩;have ci:=b9.o u1 (Kb Q);have bc:(ar s.1.1).getD 1 []=u1.1.1:=by rw[<-HM.o,Kn,Ku,Q];rfl
 obtain⟨u2,R⟩:∃u,ws[2]?=some u:=⟨ws[2]'(by omega),by simp⟩;have ck:=b9.o u2 (Kb R);have bd:(ar s.1.1).getD 2 []=u2.1.1:=by rw[<-HM.o,Kn,Ku,R];rfl
 have bf:=Z2 R ck;have cl:=Z (by rw[<-bb.o.2.1,y];rfl:1+bt kN u0.1.1=3)
 have D:Hid (ch s.1.1=match cS u1.1.1 with|none=>(cu,1)|some c=>match cS u2.1.1 with|none=>(cu,1)|some f=>gP (3,c,f,[],0)):=by
  unfold Hid ch;rw[y,hn,bc,bd,iO (by omega)]
  cases cS u1.1.1<;>rfl
 have bg:=Z2 Q ci;rw[C] at hn;rw[hn] at A;clear C y Q bc R bd cc cd;go_enter func77,ntmps77;go_wp2_with fail;rw[<-HW.o];go_at_call 106;refine Calls.mono A.o ?_;rintro e w1 ⟨SB,eq,rfl,er,es,bk,dv,r,d⟩;have x0:=d 0 u0 bb.o.1;have et:=Z d;have bm:=Le (H:=Unit) w1 prog 9 (plainElem prog 3);have y1:=d 1 u1 bg.o.1;have y2:=d 2 u2 bf.o.1;have bo:=Z (by have:=ai;omega:u0.size<=maxLen);clear d A HW
 go_wp2_with (first
  |(refine am _ rfl _ _ _ 137 rfl 9 3 dH Tryz.underlying137 (plainElem prog 3) w1.1.size 0 _ rfl bm (by decide) _ _ _ rfl rfl (Ko Tryz.underlying9 (by decide)) _ [] (KH Tryz.underlying3 (by decide)) ?_;go_must (intro w2 F cn;clear bm;have m:=((Kf w1.1.size w1).alloc lE _).grown cn (by simp) (λk y=>by cases y;exact Ke _)))
  |(refine am _ rfl _ _ _ 137 rfl 9 3 dH Tryz.underlying137 (plainElem prog 3) w1.1.size 1 _ rfl F (by decide) _ _ _ rfl rfl (Ko Tryz.underlying9 (by decide)) _ [] (KH Tryz.underlying3 (by decide)) ?_;go_must (intro w3 G co;clear F;replace m:=m.grown co m.size (λk y=>by cases y;exact Ke _)))
  |(refine am _ rfl _ _ _ 137 rfl 9 3 dH Tryz.underlying137 (plainElem prog 3) w1.1.size 2 _ rfl G (by decide) _ _ _ rfl rfl (Ko Tryz.underlying9 (by decide)) _ [] (KH Tryz.underlying3 (by decide)) ?_;go_must (intro w4 I cp;clear G;replace m:=m.grown cp m.size (λk y=>by cases y;exact Ke _)))
  |(refine am _ rfl _ _ _ 137 rfl 9 3 dH Tryz.underlying137 (plainElem prog 3) w1.1.size 3 _ rfl I (by decide) _ _ _ rfl rfl (Ko Tryz.underlying9 (by decide)) _ [] (KH Tryz.underlying3 (by decide)) ?_;go_must (intro o J cs;clear I;replace m:=m.grown cs m.size (λk y=>by cases y;exact Ke _);have x5:=(m.cell (p:=pA SB 0) r).trans x0;have y5:=(m.cell (p:=pA SB 1) r).trans y1;have a2:SB<o.1.size:=(Kd r m.size);have ew:=m.size;obtain⟨c',bp,h2,_⟩:=J.lookup_int dH Tryz.underlying137 Tryz.underlying3 (jj _) (Ko (s:=u0) Tryz.underlying9 bo.o);have br:=(ji (h2.symm.trans (uV _))).trans cl.o;rw[br] at bp;clear h2 br)))
 have bs:Hid (∀x,bL o x->x.cell? (pA SB 2)=some (.string u2)):=λx h=>(h.cell (p:=pA SB 2) a2).trans ((m.cell (p:=pA SB 2) r).trans y2)
 have e3:¬SB=o.1.size:=by omega
 have S:=bk.th m;have cv:=(P.o o S).2;have ad:=Z S.size;have⟨W6,T⟩:=nM (o.alloc (.cells #[U 3,U 0,U 0,nL,U 0] 70));have ae:=bA T;have af:=S.th ae;have g6:=hA T;have l6:=io g6;have bv:=Z λx (h:bL W6 x)=>Q3 ((h.block _ l6).trans g6:Na x o.1.size #[U 3,U 0,U 0,nL,U 0] 70) (af.th h) (ae.th h)
 have bx:Hid _:=mX u1 (by have:=bg.o.2;omega) W6 (HE.o W6 (P.o W6 af).2);rw[<-T];clear T g6 af ae S cv m J bp x5 y5 x0 y1 y2 bk;go_at_call 88;refine Calls.mono bx.o ?_;rintro e w7 ⟨n,ok,rfl,t,bz,bF⟩;have⟨g7,V,al⟩:=bv.o w7 bF;have y7:=bs.o w7 al;have cT:SB<w7.1.size:=by have:=al.size;omega
 have l7:=io g7;have⟨q0,q1,q2,q3,q4⟩:=aF g7;have fq:=fZ g7 1;have eF:¬w.1.size=o.1.size:=by have:=(P.o w7 V).1;have:=io this;intro e;rw[e] at this;have h2:=(P.o w7 V).1;rw[e,g7] at h2;simp at h2
 have G7:=Z g7;have ao:=Z V;clear g7 V bF bv bx a2 al bs
 cases ok with
 |false=>
  have a:=Z (by rw[D.o,t];rfl:ch s.1.1=(cu,1));clear t;go_wp2_with fail;go_at_call 105;refine Calls.mono (jr 1 _) ?_;rintro e w8 ⟨rfl,c0⟩;have K:bL W0 (w7.setCell (pW o 1) (U n)):=ao.o.setCell (p:=pW o 1) ad.o _;have g:=K.th c0;clear K c0 q0 q1 q2 q3 q4 fq;have⟨b,i⟩:=P.o w8 g;have lb:=io b;have⟨z0,z1,z2,z3,z4⟩:=aF b;have f0:=fZ b 0;have f1:=fZ b 1;have f2:=fZ b 2;have f3:=fZ b 3;have f4:=fZ b 4;have q:=Z i;clear b i g;go_wp2_with fail;refine Ka (v:=.tuple #[.agg #[U 0,U 0,U 0,nL,U 0],U 1]) ?_ rfl ⟨_,by rw[a.o],by rw[a.o];exact dg _ _,?_⟩
  ·rw[K8 rfl];go_simp
  exact q.o.s5 lE
 |true=>
  have⟨W8,X⟩:=nM (w7.setCell (pW o 1) (U n));have av:bL W0 W8:=by rw[X];exact ao.o.setCell (p:=pW o 1) ad.o _
  have g8:Na W8 o.1.size #[U 3,U n,U 0,nL,U 0] 70:=by rw[X];exact ap G7.o
  have a3:Hid _:=mX u2 (by have:=bf.o.2;omega) W8 (HE.o W8 (P.o W8 av).2);have c2:=Z X;have c3:=Z av;have G8:=Z g8;have c4:=Z t;clear X av g8 t G7 ao;go_wp2_with fail;rw[<-c2.o];go_at_call 88;refine Calls.mono a3.o ?_;rintro e w9 ⟨f,df,rfl,l,c5,b0⟩;have c6:=c3.o.th b0;have g9:=b0.bl G8.o;have l9:=io g9;have di:=Z c6;have G9:=Z g9;have⟨p0,p1,p2,p3,p4⟩:=aF g9;have fp:=fZ g9 2;clear b0 c6 g9 c2 G8 c3 a3 q0 q1 q2 q3 q4 fq y7 cT;have K:bL W0 (w9.setCell (pW o 2) (U f)):=di.o.setCell (p:=pW o 2) ad.o _;have c8:Hid _:=K;clear K
  cases df with
  |false=>
   have a:=Z (by rw[D.o,c4.o,l];rfl:ch s.1.1=(cu,1));clear l;go_wp2_with fail;go_at_call 105;refine Calls.mono (jr 1 _) ?_;rintro e Y ⟨rfl,j⟩;have g:=c8.o.th j;clear j p0 p1 p2 p3 p4 fp;have⟨b,i⟩:=P.o Y g;have lb:=io b;have⟨z0,z1,z2,z3,z4⟩:=aF b;have f0:=fZ b 0;have f1:=fZ b 1;have f2:=fZ b 2;have f3:=fZ b 3;have f4:=fZ b 4;have q:=Z i;clear b i g;go_wp2_with fail;refine Ka (v:=.tuple #[.agg #[U 0,U 0,U 0,nL,U 0],U 1]) ?_ rfl ⟨_,by rw[a.o],by rw[a.o];exact dg _ _,?_⟩
   ·rw[K8 rfl];go_simp
   exact q.o.s5 lE
  |true=>
   have a4:=Z (by rw[D.o,c4.o,l];rfl:ch s.1.1=gP (3,n,f,[],0));have⟨E,hE⟩:=nM (aZ (3,n,f,[],0));have a5:Hid (gP (3,n,f,[],0)=if E=0 then ((3,n,f,[],0),0) else (cu,E)):=by rw[hE];rfl
   have L:∀B W,cI B W (.agg #[U 3,U n,U f,nL,U 0]) (3,n,f,[],0):=λB W=>⟨_,rfl,(by unfold wf;decide:wf (3:Int)),bz,c5,bV B W⟩
   have a0:Hid _:=L;have dl:Hid (∀W,cL 64 #[.agg #[U 3,U n,U f,nL,U 0]] W (rT W (U E))):=λW=>by rw[hE];exact eR 0 _ (3,n,f,[],0) W (L 0 W) (Ks _)
   clear hE L l;go_wp2_with fail;go_at_call 64;refine Calls.mono (dl.o _) ?_;rintro e Y ⟨rfl,j⟩;have a6:=c8.o.th j;have b1:Na Y o.1.size #[U 3,U n,U f,nL,U 0] 70:=(j.block _ (by simp;exact l9)).trans (ap G9.o);have f5:=io b1;have⟨r0,r1,r2,r3,r4⟩:=aF b1;have a7:=Z a6;clear j p0 p1 p2 p3 p4 fp G9 a6 b1
   by_cases a1:E=0
   ·have a:=Z (by rw[a4.o,a5.o,Io a1]:ch s.1.1=((3,n,f,[],0),0));subst a1;have g:=a7.o;have⟨b,i⟩:=P.o Y g;have lb:=io b;have⟨z0,z1,z2,z3,z4⟩:=aF b;have f0:=fZ b 0;have f1:=fZ b 1;have f2:=fZ b 2;have f3:=fZ b 3;have f4:=fZ b 4;have q:=Z i;clear b i g;go_wp2_with fail;refine Ka (v:=.tuple #[.agg #[U 3,U n,U f,nL,U 0],U 0]) ?_ rfl ⟨_,by rw[a.o],by rw[a.o];exact λ_ _ _=>a0.o _ _,?_⟩
    ·rw[K8 rfl];go_simp
    exact q.o.s5 lE
   have a:=Z (by rw[a4.o,a5.o,iO a1]:ch s.1.1=(cu,E));have hq:(E != 0)=true:=by simpa using a1
   go_wp2_with fail;go_at_call 105;refine Calls.mono (jr E _) ?_;rintro e dn ⟨rfl,M⟩;have g:=a7.o.th M;clear M r0 r1 r2 r3 r4;have⟨b,i⟩:=P.o dn g;have lb:=io b;have⟨z0,z1,z2,z3,z4⟩:=aF b;have f0:=fZ b 0;have f1:=fZ b 1;have f2:=fZ b 2;have f3:=fZ b 3;have f4:=fZ b 4;have q:=Z i;clear b i g;go_wp2_with fail;refine Ka (v:=.tuple #[.agg #[U 0,U 0,U 0,nL,U 0],U E]) ?_ rfl ⟨_,by rw[a.o],by rw[a.o];exact dg _ _,?_⟩
   ·rw[K8 rfl];go_simp
   exact q.o.s5 lE
