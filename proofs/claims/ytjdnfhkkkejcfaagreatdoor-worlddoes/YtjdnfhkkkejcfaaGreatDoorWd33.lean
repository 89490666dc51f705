import Derived.Test.YtjdnfhkkkejcfaaGreatDoorWd15
import Derived.Test.YtjdnfhkkkejcfaaGreatDoorWd31
set_option linter.all false
set_option maxRecDepth 100000
set_option maxHeartbeats 16000000
namespace Go.Proofs.YtjdnfhkkkejcfaaGreatDoor
open Go.RowKit Go.Maps Go.Proofs.Tryz
theorem AI(B a cap ra rl rc l)(ci X:Nat)(rs:List aq)(d w)(hl:aE B w (.slice a 4 cap) l)(hr:cI B w (.agg #[U 3,U ci,U X,.slice ra rl rc,U d]) (3,(ci:Int),(X:Int),rs,d))(hB:B<=w.1.size)(ae:bC l=0)(bf:aZ (3,(ci:Int),(X:Int),rs,d)=0)(c:aG)(af:l[ci]?=some c)(bg:c.1=false)(bk:ie)(j:List aq)(g:Int)(ak:l[X]?=some (true,bk,j,g)):
  cL 35 #[.slice a 4 cap,.agg #[U 3,U ci,U X,.slice ra rl rc,U d]] w λe n=>∃v,e=.returned (.tuple #[v,U (cB (j,g))])/\aE n.1.size n v (if cB (j,g)=0 then l.set ci (true,[cm (j,g)],(j,g)) else [])/\bL w n/\∀K:Nat->Prop,(∀k,K k->k<w.1.size)->lZ K w.1.size w->kn K w (.slice a 4 cap) l->kn K n v (if cB (j,g)=0 then l.set ci (true,[cm (j,g)],(j,g)) else []):=by
 have HL:=Z λn (h:bL w n)=>hl.l h hB
 have HC:=Z λn (h:bL w n)=>ae▸fR B _ l n (hl.l h hB) (h.u hB)
 have HR:=Z λn (h:bL w n)=>bf▸eR B _ _ n (hr.l h hB) (h.u hB)
 have⟨cp,I⟩:=nM (cB (j,g));rw[<-I];have⟨R,al⟩:=nM ((if cp=0 then l.set ci (true,[cm (j,g)],(j,g)) else []));rw[<-al];have y:=Z al;have Y:=Z I;clear al I;have z:=Z ((f7.1 ae).1);have cn:ci<4:=by have:=(K9.1 af).1;rw[z.o] at this;exact this
 have e3:(ci:Int)<4:=by omega
 have e4:(0:Int)<=(ci:Int):=by omega
 have co:4<=cap:=by obtain⟨_,_,e,h1,-⟩:=hl;simp at e;rw[z.o] at h1;omega
 have bm:=Z af;have bo:=Z ak;have en:X<4:=by have:=(K9.1 ak).1;rw[z.o] at this;exact this
 have e5:(X:Int)<4:=by omega
 have e6:(0:Int)<=(X:Int):=by omega
 clear hl hr ae bf af ak;have⟨W1,J⟩:=nM (w.alloc (.cells #[U 3,U ci,U X,.slice ra rl rc,U d] 70));have ao:=bA J;have cs:=sA J;have g1:=hA J;have HG:=Z λn (h:bL W1 n)=>Q2 (h.bk g1) (ao.th h)
 have cx:=Z J;have cT:=Z ao;have t:=Z hB;clear J g1 ao cs hB;go_enter func35,ntmps35;go_wp2_with fail;rw[<-cx.o];go_at_call 63;refine(HC.o _ cT.o).mono ?_;rintro e w2 ⟨rfl,av⟩;have⟨g2,a8⟩:=HG.o w2 av;have⟨y0,y1,y2,y3,y4⟩:=aF g2;have b0:=Z2 av a8;clear g2 av a8 HC;go_wp2_with fail;go_at_call 64;refine(HR.o _ b0.o.2).mono ?_;rintro e s ⟨rfl,bp⟩;have⟨g3,m⟩:=HG.o s (b0.o.1.th bp);clear y0 y1 y2 y3 y4 HR bp b0;have⟨y0,y1,y2,y3,y4⟩:=aF g3;obtain⟨_,_,e1,-,-,b1⟩:=HL.o _ m;have⟨b,o,e,d4,bq⟩:=b1 ci c bm.o;obtain⟨b2,o2,e2,-,br⟩:=b1 X _ bo.o;simp at e1;obtain⟨rfl,-⟩:=e1;rw[e] at e2;simp at e2;obtain⟨rfl,rfl⟩:=e2;subst e;obtain⟨la,lc,pa,pc,c0,c1,c2,c3,-,-⟩:=bq.vals;obtain⟨ex,ey,A,C,d0,d1,d2,d3,-,a0⟩:=br.vals;simp only at d0 d1 d2 d3 a0;have⟨D,a9⟩:=nM (j.length);rw[<-a9] at d2 a0;clear a9;generalize bk.length=eO at*;have L:=Z λn (h:bL s n)=>a0.l h (m.u t.o)
 have da:Hid (∀K:Nat->Prop,(∀k,K k->k<w.1.size)->lZ K w.1.size w->kn K w (.slice (some ⟨b,o,none⟩) 4 cap) l->Id K s (.agg #[.slice A D C,U g]) (j,g)):=λK hK hO hC=>((hC.l m (λ_ _ e=>e)).vals ((HL.o _ m).wide t.o) (hO.l m) bo.o d1 d2).2
 clear a0 br;rw[bg] at c0;have eV:=Kd d4 (m.u t.o);generalize c.2.1.length=dc at*;generalize c.2.2.1.length=dd at*;generalize c.2.2.2=cd at*;clear b1 bq bg bm;have a1:=io g3;have bs:=Z g3;have r:=Z m;clear g3 m;have⟨W4,E⟩:=nM ((s.alloc (.cells #[.bool false,.slice la dc lc,.slice pa dd pc,U cd] 46)).alloc (.cells #[.slice A D C,U g] 30));have a2:=bB E;have bx:=sB E;have g4:=gB E;have bz:=gC E;have M:=r.o.th a2;have b6:Hid (cL 65 #[.agg #[.slice A D C,U g]] W4 λe n=>∃fv,e=.returned (.tuple #[fv,U cp])/\n.ownsRow W4.1.size 112 4 fv (dW (j,g)).length (aJ (dW (j,g)))/\(∀i∈dW (j,g),gH i)/\bL W4 n):=by rw[Y.o];exact qT B _ (j,g) W4 (L.o _ a2) (M.u t.o)
 have a3:=Z2 a2 M;have bF:=Z2 g4 bz;have df:=Z E;have u:=Z bx;clear E a2 g4 bz M bx co;go_wp2_with fail;rw[<-df.o];go_at_call 65;refine b6.o.mono ?_;rintro e w5 ⟨fv,rfl,N,a4,q⟩;have O:=a3.o.2.th q;obtain⟨fa,fc,di,-⟩:=an N;subst di
 by_cases F:cp=0
 case neg=>
  have hq:(cp != 0)=true:=by simpa using F
  have HZ:=Z (by rw[y.o,iO F]:R=[]);have dk:=Z O;clear N a4 q O b6 F Y y;generalize (dW (j,g)).length=fl at*;go_wp2_with fail;go_ret2;exact⟨_,rfl,by rw[HZ.o];exact eZ _ _,dk.o,λK _ _ _=>by rw[HZ.o];exact ib _ _⟩
 have HZ:=Z (by rw[y.o,Io F]:R=l.set ci (true,[cm (j,g)],(j,g)));have c5:dW (j,g)=cm (j,g):=by rw[dW,Io (by rw[<-Y.o];exact F)]
 subst F
 rw[c5] at N a4 |-
 have P:Hid (w5.ownsRow W4.1.size 112 4 (.slice fa (cm (j,g)).length fc) (cm (j,g)).length (aJ (cm (j,g)))/\∀i∈cm (j,g),gH i):=⟨N,a4⟩;clear c5 y Y b6;have s5:=q.size;rw[u.o] at s5;have H:=(q.block _ (by rw[u.o];omega)).trans bF.o.1;have a5:=(q.block _ (by rw[u.o];omega)).trans bF.o.2;have⟨z0,z1,f9,fb⟩:=Q4 (J0 a5) (J1 a5) trivial trivial;have x0:=J0 H;have x1:=J1 H;have x2:=J2 H;have x3:=J3 H;have fe:=fZ H 0;have fn:=fZ H 1;have fo:=fZ H 2;have fp:=fZ H 3;have l5:=io H;have fq:=io a5;have Q:=a3.o.1.th q;have⟨WT,a6⟩:=nM (((((w5.setCell (pW s 0) (.bool true)).setCell (pW s 1) (.slice (MZ w5) 1 1)).setCell (pW s 2) (.slice A D C)).setCell (pW s 3) (U g)).alloc (.cells #[.slice fa (cm (j,g)).length fc] 77));obtain⟨gT,c6,c7,S,c8,c9⟩:=z7 (w:=s) (B:=B) (p:=(j,g)) (f:=cm (j,g)) (r.o.u t.o) Q lE (by rw[u.o];omega) H P.o.1 P.o.2 L.o a6;have b7:=r.o.th S
 have T:Hid (∀K:Nat->Prop,(∀k,K k->k<w.1.size)->lZ K w.1.size w->kn K w (.slice (some ⟨b,o,none⟩) 4 cap) l->ym K WT (.slice (MZ w5) 1 1) [cm (j,g)]/\Id K WT (.agg #[.slice A D C,U g]) (j,g)):=λK hK hO hC=>⟨vw (w:=w) (f:=cm (j,g)) (Q.u r.o.size) r.o.size (by rw[u.o];omega) H P.o.1 P.o.2 hK a6,(da.o K hK hO hC).l S (λ_ _ e=>e)⟩
 have aa:=Z2 c8 c9;have ac:Hid (∃G gc V,(Builtin.append_ #[22,22] 22 #[.slice (sO (w5.1.size+1)) 0 0,.slice (some ⟨b,o,none⟩) 4 cap]).run prog (WT.alloc (.cells #[] 46))=.ok (.slice (sO G) 4 gc) V/\nX w.1.size s.1.size WT w V G gc ci l (.slice (some ⟨b,o,none⟩) 4 cap)/\V.cell? (pW w 1)=some (U ci)/\V.cell? (pW s 0)=some (.bool true)/\V.cell? (pW s 1)=some (.slice (MZ w5) 1 1)/\V.cell? (pW s 2)=some (.slice A D C)/\V.cell? (pW s 3)=some (U g)):=by have W:=io gT;obtain⟨G,gc,V,h1,h2,h3⟩:=sF B b o cap l ci WT w s.1.size t.o z.o (HL.o _ b7) b7 a1 W cn;have a7:=(h3.block _ W).trans gT;have ca:=(q.block _ (by rw[u.o];omega)).trans ((a3.o.1.block _ a1).trans bs.o);have dp:=(h3.block _ (MT a1 W)).trans ((c6 _ (by omega) (io ca)).trans ca);rw[c7] at h1;exact⟨G,gc,V,h1,h2,(aF dp).2.1,J0 a7,J1 a7,J2 a7,J3 a7⟩
 have dq:=Z a6;have b8:=(q.block _ (by rw[u.o];omega)).trans ((a3.o.1.block _ a1).trans bs.o);obtain⟨fs,fx,-,-,-⟩:=aF b8;have fT:=io b8;clear a6 gT c6 c7 b7 c8 c9 H a5 N a4 P q O HL HG t s5 b8 L S Q;generalize (cm (j,g)).length=fl at*;go_wp2_with (first|(at_builtin;go_must (rw[<-dq.o];obtain⟨G,gc,V,cb,x,r1,t0,t1,t2,t3⟩:=ac.o;refine Kw _ rfl _ _ _ _ rfl _ _ rfl rfl _ _ cb ?_;obtain⟨u0,p0,f0⟩:=x.cells (ci*4) (by omega);obtain⟨u1,p1,f1⟩:=x.cells (ci*4+1) (by omega);obtain⟨u2,p2,f2⟩:=x.cells (ci*4+2) (by omega);obtain⟨u3,p3,f3⟩:=x.cells (ci*4+3) (by omega);have b9:Hid (nX w.1.size s.1.size WT w V G gc ci l (.slice (some ⟨b,o,none⟩) 4 cap)):=x;have g0:=x.cap;clear cb x ac)));go_ret2;obtain⟨h1,h2⟩:=b9.o.done (true,[cm (j,g)],(j,g)) _ _ _ rfl aa.o.1 aa.o.2;have cc:=b9.o.ahead;exact⟨_,rfl,by rw[HZ.o];exact h1,h2,λK hK hO hC=>by rw[HZ.o];exact b9.o.doneK K hK (hO.l cc) (hC.l cc (λ_ _ e=>e)) (true,[cm (j,g)],(j,g)) _ _ _ rfl (T.o K hK hO hC).1 (T.o K hK hO hC).2⟩
theorem CU{B L k:Nat}{w b a:World}{fa pa fn fc pl pc d}{m s t v:Value}{p ls}(n:B<=w.1.size)(x:bL w b)(q:w.1.size<=k)(F:k<L)(y:b.1[k]?=some (.cells #[m,s,t,v] 46 (0,0)))(z:tB B L b (.slice fa fn fc) ls)(A:∀r,bL w r->aX B r (.agg #[.slice pa pl pc,U d]) p)
  (e:a=(((b.setCell (pA k 1) (.slice fa fn fc)).setCell (pA k 2) (.slice pa pl pc)).setCell (pA k 3) (U d)).drew):
  a.1[k]?=some (.cells #[m,.slice fa fn fc,.slice pa pl pc,U d] 46 (0,0))/\(∀g,g≠k->a.1[g]?=b.1[g]?)/\a.1.size=b.1.size/\bL w a/\cD a.1.size a (.slice fa fn fc) ls/\aX a.1.size a (.agg #[.slice pa pl pc,U d]) p/\Below 0 b a:=by
 have C:=ap (o:=1) (u:=.slice fa fn fc) y;have D:=ap (o:=2) (u:=.slice pa pl pc) C;have E:=ap (o:=3) (u:=U d) D;have i:∀g,g≠k->a.1[g]?=b.1[g]?:=λg j=>by rw[e];show (((b.setCell (pA k 1) (.slice fa fn fc)).setCell (pA k 2) (.slice pa pl pc)).setCell (pA k 3) (U d)).1[g]?=_;rw[Kc _ _ _ _ j,Kc _ _ _ _ j,Kc _ _ _ _ j]
 have c:∀l,l<=k->Below l b a:=λl f=>by rw[e];exact((((Kf l b).setCell (p:=pA k 1) f _).setCell (p:=pA k 2) f _).setCell (p:=pA k 3) f _).drew
 have h:=x.trans (c _ q);refine⟨by rw[e];exact E,i,?_,h,z a (c _ (Kl n q)) (λg j _=>i g (by omega)),gG (A _ h) (h.u n),c 0 (Ks _)⟩;rw[e];show (((b.setCell (pA k 1) (.slice fa fn fc)).setCell (pA k 2) (.slice pa pl pc)).setCell (pA k 3) (U d)).1.size=_;simp
theorem zF(B a cap ra rl rc l)(ci S:Nat)(g:List aq)(d w)(hl:aE B w (.slice a 4 cap) l)(hr:cI B w (.agg #[U 2,U ci,U S,.slice ra rl rc,U d]) (2,(ci:Int),(S:Int),g,d))(hB:B<=w.1.size)(ad:bC l=0)(bd:aZ (2,(ci:Int),(S:Int),g,d)=0)(c:ie)(f:List aq)(m:Int)(ae:l[ci]?=some (true,c,f,m)):
  cL 35 #[.slice a 4 cap,.agg #[U 2,U ci,U S,.slice ra rl rc,U d]] w λe j=>∃v,e=.returned (.tuple #[v,U (dm c (f,m) (g,d))])/\aE j.1.size j v (if dm c (f,m) (g,d)=0 then l.set ci (true,dt c (f,m) (g,d),(g,d)) else [])/\bL w j/\∀K:Nat->Prop,(∀k,K k->k<w.1.size)->lZ K w.1.size w->kn K w (.slice a 4 cap) l->wU K w (.agg #[U 2,U ci,U S,.slice ra rl rc,U d]) (2,(ci:Int),(S:Int),g,d)->kn K j v (if dm c (f,m) (g,d)=0 then l.set ci (true,dt c (f,m) (g,d),(g,d)) else []):=by
 have HL:=Z λj (h:bL w j)=>hl.l h hB
 have HC:=Z λj (h:bL w j)=>ad▸fR B _ l j (hl.l h hB) (h.u hB)
 have HR:=Z λj (h:bL w j)=>bd▸eR B _ _ j (hr.l h hB) (h.u hB)
 have af:Hid (∀j,bL w j->aX B j (.agg #[.slice ra rl rc,U d]) (g,d)):=λj h=>by obtain⟨rv,e,-,-,-,hp⟩:=hr.l h hB;simp at e;rw[<-e] at hp;exact hp
 have⟨cp,C⟩:=nM (dm c (f,m) (g,d));rw[<-C];have⟨R,ak⟩:=nM ((if cp=0 then l.set ci (true,dt c (f,m) (g,d),(g,d)) else []));rw[<-ak];have u:=Z ak;have al:=Z C;clear ak C;have D:=Z ((f7.1 ad).1);have cs:ci<4:=by have:=(K9.1 ae).1;rw[D.o] at this;exact this
 have dp:(ci:Int)<4:=by omega
 have dq:(0:Int)<=(ci:Int):=by omega
 have cv:4<=cap:=by obtain⟨_,_,e,T,-⟩:=hl;simp at e;rw[D.o] at T;omega
 have ao:=Z ae;clear hl hr ad bd ae;have⟨W1,E⟩:=nM (w.alloc (.cells #[U 2,U ci,U S,.slice ra rl rc,U d] 70));have av:=bA E;have cx:=sA E;have g1:=hA E;have HG:=Z λj (h:bL W1 j)=>Q2 (h.bk g1) (av.th h)
 have d0:=Z E;have d1:=Z av;have n:=Z hB;clear E g1 av cx hB;go_enter func35,ntmps35;go_wp2_with fail;rw[<-d0.o];go_at_call 63;refine(HC.o _ d1.o).mono ?_;rintro e w2 ⟨rfl,b0⟩;have⟨g2,a6⟩:=HG.o w2 b0;have⟨y0,y1,y2,y3,y4⟩:=aF g2;have b1:=Z2 b0 a6;clear g2 b0 a6 HC;go_wp2_with fail;go_at_call 64;refine(HR.o _ b1.o.2).mono ?_;rintro e q ⟨rfl,bf⟩;have⟨g3,i⟩:=HG.o q (b1.o.1.th bf);clear y0 y1 y2 y3 y4 HR bf b1;have⟨y0,y1,y2,y3,y4⟩:=aF g3;obtain⟨_,_,e1,-,-,bg⟩:=HL.o _ i;obtain⟨b,o,e,d2,bk⟩:=bg ci _ ao.o;simp at e1;obtain⟨rfl,-⟩:=e1;subst e;obtain⟨la,lc,pa,pc,c0,c1,c2,c3,V,W⟩:=bk.vals;simp only at c0 c1 c2 c3 V W;have⟨X,a7⟩:=nM (c.length);have⟨bm,a8⟩:=nM (f.length);rw[<-a7] at c1 V;rw[<-a8] at c2 W;clear a7 a8;have b2:=Z λj (h:bL q j)=>Q2 (V.l h (i.u n.o)) (W.l h (i.u n.o))
 have d5:Hid (∀K:Nat->Prop,(∀k,K k->k<w.1.size)->lZ K w.1.size w->kn K w (.slice (some ⟨b,o,none⟩) 4 cap) l->ym K q (.slice la X lc) c):=λK O P Y=>((Y.l i (λ_ _ e=>e)).vals ((HL.o _ i).wide n.o) (P.l i) ao.o c1 c2).1
 clear V W;have eg:=Kd d2 (i.u n.o);clear bg bk ao;have F:=io g3;have bo:=Z g3;have a9:=Z i;clear g3 i;have⟨W4,z⟩:=nM ((q.alloc (.cells #[.bool true,.slice la X lc,.slice pa bm pc,U m] 46)).alloc (.cells #[.slice ra rl rc,U d] 30));have H:=bB z;have bp:=sB z;have g4:=gB z;have bq:=gC z;have x:=a9.o.th H;have b4:Hid (cL 66 #[.slice la X lc,.agg #[.slice pa bm pc,U m],.agg #[.slice ra rl rc,U d]] W4 λe j=>∃v,e=.returned (.tuple #[v,U cp])/\tB B W4.1.size j v (dt c (f,m) (g,d))/\bL W4 j/\∀G:Nat->Prop,(∀k,G k->k<W4.1.size)->lZ G B W4->ym G W4 (.slice la X lc) c->ym G j v (dt c (f,m) (g,d))):=by rw[al.o];exact Cb B _ _ _ c (f,m) (g,d) W4 (b2.o _ H).1 (b2.o _ H).2 (af.o _ x) (x.u n.o)
 have A:=Z2 H x;have br:=Z2 g4 bq;have d6:=Z z;have s:=Z bp;clear z H g4 bq x bp cv b2;go_wp2_with fail;rw[<-d6.o];go_at_call 66;refine b4.o.mono ?_;rintro e w5 ⟨fv,rfl,b5,r,bs⟩;have y:=A.o.2.th r;obtain⟨fa,fc,da,-⟩:=b5.at.shape;subst da
 have bz:Hid (∀K:Nat->Prop,(∀k,K k->k<w.1.size)->lZ K w.1.size w->kn K w (.slice (some ⟨b,o,none⟩) 4 cap) l->ym (λk=>K k\/k=q.1.size) w5 (.slice fa (dt c (f,m) (g,d)).length fc) (dt c (f,m) (g,d))):=λK O P Y=>bs _ (λk Q=>by
   rcases Q with Q|rfl
   ·exact Kd (O k Q) A.o.2.size
   ·rw[s.o];omega) (λk Q=>by
   rcases Q with Q|rfl
   ·rcases P k Q with h|h
    ·exact .inl (h.l A.o.2)
    exact absurd (O k Q) (by omega)
   ·exact .inr (a9.o.u n.o)) ((d5.o K O P Y).l A.o.1 (λk Q e=>by
   rcases e with e|e
   ·exact e
   exact absurd Q (by omega)))
 have a0:=Z b5;clear b5
 by_cases I:cp=0
 case neg=>
  have hq:(cp != 0)=true:=by simpa using I
  have HZ:=Z (by rw[u.o,iO I]:R=[]);have dc:=Z y;clear a0 r y b4 I al u;generalize (dt c (f,m) (g,d)).length=fl at*;go_wp2_with fail;go_ret2;exact⟨_,rfl,by rw[HZ.o];exact eZ _ _,dc.o,λK _ _ _ _=>by rw[HZ.o];exact ib _ _⟩
 have HZ:=Z (by rw[u.o,Io I]:R=l.set ci (true,dt c (f,m) (g,d),(g,d)));subst I;clear u al b4;have s5:=r.size;rw[s.o] at s5;have J:=(r.block _ (by rw[s.o];omega)).trans br.o.1;have a1:=(r.block _ (by rw[s.o];omega)).trans br.o.2;have⟨z0,z1⟩:=Q2 (J0 a1) (J1 a1);have x0:=J0 J;have x1:=J1 J;have x2:=J2 J;have x3:=J3 J;have ej:=fZ J 0;have ek:=fZ J 1;have el:=fZ J 2;have em:=fZ J 3;have l5:=io J;have en:=io a1;have⟨fl,c5⟩:=nM ((dt c (f,m) (g,d)).length)
 rw[<-c5] at a0 bz |-
 clear c5;have⟨WT,b7⟩:=nM ((((w5.setCell (pW q 1) (.slice fa fl fc)).setCell (pW q 2) (.slice ra rl rc)).setCell (pW q 3) (U d)).drew);obtain⟨gT,b8,b9,a2,c6,c7,c8⟩:=CU (p:=(g,d)) n.o y (Mc F) (by rw[s.o];omega) J a0.o af.o b7
 have L:Hid (∀K:Nat->Prop,(∀k,K k->k<w.1.size)->lZ K w.1.size w->kn K w (.slice (some ⟨b,o,none⟩) 4 cap) l->wU K w (.agg #[U 2,U ci,U S,.slice ra rl rc,U d]) (2,(ci:Int),(S:Int),g,d)->ym K WT (.slice fa fl fc) (dt c (f,m) (g,d))/\Id K WT (.agg #[.slice ra rl rc,U d]) (g,d)):=λK O P Y hr=>⟨λwX hX=>bz.o K O P Y wX ⟨c8.trans hX.1,λk T h2=>(hX.2 k (λe=>T (.inl e)) (by rw[b9];exact h2)).trans (b8 k (λe=>T (.inr e)))⟩,(wU.pol (d':=d) hr).l a2 (λ_ _ e=>e)⟩
 have aa:=Z2 c6 c7;have ac:Hid (∃G gc M,(Builtin.append_ #[22,22] 22 #[.slice (MZ w5) 0 0,.slice (some ⟨b,o,none⟩) 4 cap]).run prog (WT.alloc (.cells #[] 46))=.ok (.slice (sO G) 4 gc) M/\nX w.1.size q.1.size WT w M G gc ci l (.slice (some ⟨b,o,none⟩) 4 cap)/\M.cell? (pW w 1)=some (U ci)/\M.cell? (pW q 0)=some (.bool true)/\M.cell? (pW q 1)=some (.slice fa fl fc)/\M.cell? (pW q 2)=some (.slice ra rl rc)/\M.cell? (pW q 3)=some (U d)):=by have N:=io gT;obtain⟨G,gc,M,T,h2,h3⟩:=sF B b o cap l ci WT w q.1.size n.o D.o (HL.o _ a2) a2 F N cs;have a3:=(h3.block _ N).trans gT;have de:=(r.block _ (by rw[s.o];omega)).trans ((A.o.1.block _ F).trans bo.o);have df:=(h3.block _ (MT F N)).trans ((b8 _ (by omega)).trans de);rw[b9] at T;exact⟨G,gc,M,T,h2,(aF df).2.1,J0 a3,J1 a3,J2 a3,J3 a3⟩
 have di:Hid (((((w5.setCell (pW q 1) (.slice fa fl fc)).setCell (pW q 2) (.slice ra rl rc)).setCell (pW q 3) (U d)).alloc (.cells #[] 46)).drew=WT.alloc (.cells #[] 46)):=by rw[b7];rfl
 have ba:=(r.block _ (by rw[s.o];omega)).trans ((A.o.1.block _ F).trans bo.o);obtain⟨er,es,-,-,-⟩:=aF ba;have et:=io ba;clear c8 bs b7 gT b8 b9 a2 c6 c7 J a1 a0 r y HL HG n s5 ba af;go_wp2_with fail;go_region;go_wp2_with (first|(at_builtin;go_must (rw[di.o];obtain⟨G,gc,M,ca,t,r1,t0,t1,t2,t3⟩:=ac.o;refine Kw _ rfl _ _ _ _ rfl _ _ rfl rfl _ _ ca ?_;obtain⟨u0,p0,f0⟩:=t.cells (ci*4) (by omega);obtain⟨u1,p1,f1⟩:=t.cells (ci*4+1) (by omega);obtain⟨u2,p2,f2⟩:=t.cells (ci*4+2) (by omega);obtain⟨u3,p3,f3⟩:=t.cells (ci*4+3) (by omega);have bb:Hid (nX w.1.size q.1.size WT w M G gc ci l (.slice (some ⟨b,o,none⟩) 4 cap)):=t;have eu:=t.cap;clear ca t ac)));go_ret2;obtain⟨T,h2⟩:=bb.o.done (true,dt c (f,m) (g,d),(g,d)) _ _ _ rfl aa.o.1 aa.o.2;have cb:=bb.o.ahead;exact⟨_,rfl,by rw[HZ.o];exact T,h2,λK O P Y hr=>by rw[HZ.o];exact bb.o.doneK K O (P.l cb) (Y.l cb (λ_ _ e=>e)) (true,dt c (f,m) (g,d),(g,d)) _ _ _ rfl (L.o K O P Y hr).1 (L.o K O P Y hr).2⟩
theorem vS(B lv rv l r w)(s:aE B w lv l)(t:cI B w rv r)(j:B<=w.1.size)(c:bC l≠0\/aZ r≠0):
  cL 35 #[lv,rv] w λe d=>∃v,e=.returned (.tuple #[v,U (if bC l=0 then aZ r else bC l)])/\aE d.1.size d v []/\bL w d:=by
 have F:=Z λd (h:bL w d)=>fR B lv l d (s.l h j) (h.u j)
 have u:=Z λd (h:bL w d)=>eR B rv r d (t.l h j) (h.u j)
 obtain⟨N,O,x,-⟩:=t.shape;subst x;obtain⟨a,P,y,-,-⟩:=s.shape;subst y;clear s t;generalize l.length=Q at*;generalize r.2.2.2.1.length=R at*;have⟨E,z⟩:=nM (if bC l=0 then aZ r else bC l);rw[<-z];have q:=Z z;clear z;have⟨S,f⟩:=nM (w.alloc (.cells #[U r.1,U r.2.1,U r.2.2.1,.slice N R O,U r.2.2.2.2] 70));have k:=bA f;have A:=sA f;have G:=hA f;have T:=Z λd (h:bL S d)=>Q2 (h.bk G) (k.th h)
 have C:=Z f;clear f G A j;go_enter func35,ntmps35;go_wp2_with fail;rw[<-C.o];go_at_call 63;refine(F.o _ k).mono ?_;rintro e V ⟨rfl,m⟩;have⟨H,i⟩:=T.o V m;have⟨I,J,K,L,M⟩:=aF H;have g:=Z i;clear H m i F
 by_cases b:bC l=0
 ·have n:aZ r≠0:=c.resolve_left (λh=>h b);have D:=Z (by rw[q.o,Io b]:E=aZ r);rw[b];clear q c b;go_wp2_with fail;go_at_call 64;refine(u.o _ g.o).mono ?_;rintro e Y ⟨rfl,o⟩;have p:=Z (g.o.th o);have W:(aZ r != 0)=true:=by simpa using n
  generalize aZ r=X at*;clear n o u I J K L M;go_wp2_with fail;go_ret2;exact⟨_,by rw[D.o];rfl,eZ _ _,p.o⟩
 have D:=Z (by rw[q.o,iO b]:E=bC l);have W:(bC l != 0)=true:=by simpa using b
 generalize bC l=X at*;clear q c b u I J K L M;go_wp2_with fail;go_ret2;exact⟨_,by rw[D.o];rfl,eZ _ _,g.o⟩
theorem Bk(B a cap ra rl rc l k)(ci y:Nat)(P:List aq)(d w)(G:aE B w (.slice a 4 cap) l)(Q:cI B w (.agg #[U k,U ci,U y,.slice ra rl rc,U d]) (k,(ci:Int),(y:Int),P,d))(q:B<=w.1.size)(r:bC l=0)(z:aZ (k,(ci:Int),(y:Int),P,d)=0)(c:aG)(s:l[ci]?=some c)(I:k=1\/k=2\/k=3\/k=4)(f:decide (k=1\/k=3)=c.1):
  cL 35 #[.slice a 4 cap,.agg #[U k,U ci,U y,.slice ra rl rc,U d]] w λe i=>∃v,e=.returned (.tuple #[v,U 6])/\aE i.1.size i v []/\bL w i:=by
 have HL:=Z λi (h:bL w i)=>G.l h q
 have R:=Z λi (h:bL w i)=>r▸fR B _ l i (G.l h q) (h.u q)
 have S:=Z λi (h:bL w i)=>z▸eR B _ _ i (Q.l h q) (h.u q)
 have m:=Z ((f7.1 r).1);have a7:ci<4:=by have:=(K9.1 s).1;rw[m.o] at this;exact this
 have T:(ci:Int)<4:=by omega
 have V:(0:Int)<=(ci:Int):=by omega
 have J:4<=cap:=by obtain⟨_,_,e,h1,-⟩:=G;simp at e;rw[m.o] at h1;omega
 have A:=Z s;clear G Q r z s;have⟨W1,j⟩:=nM (w.alloc (.cells #[U k,U ci,U y,.slice ra rl rc,U d] 70));have t:=bA j;have K:=sA j;have W:=hA j;have X:=Z λi (h:bL W1 i)=>Q2 (h.bk W) (t.th h)
 have L:=Z j;have M:=Z t;have N:=Z q;clear j W t K q;go_enter func35,ntmps35;go_wp2_with fail;rw[<-L.o];go_at_call 63;refine(R.o _ M.o).mono ?_;rintro e w2 ⟨rfl,u⟩;have⟨Y,n⟩:=X.o w2 u;have⟨y0,y1,y2,y3,y4⟩:=aF Y;have x:=Z2 u n;clear Y u n R;go_wp2_with fail;go_at_call 64;refine(S.o _ x.o.2).mono ?_;rintro e w3 ⟨rfl,C⟩;have⟨H,g⟩:=X.o w3 (x.o.1.th C);clear y0 y1 y2 y3 y4 S C x;have⟨y0,y1,y2,y3,y4⟩:=aF H;obtain⟨_,_,e1,-,-,D⟩:=HL.o _ g;have⟨b,o,e,O,E⟩:=D ci c A.o;simp at e1;obtain⟨rfl,-⟩:=e1;subst e;obtain⟨la,lc,pa,pc,c0,c1,c2,c3,-,-⟩:=E.vals;have⟨co,F⟩:=nM (c.1);rw[<-F] at c0 f;have ae:=Kd O (g.u N.o);generalize c.2.1.length=af at*;generalize c.2.2.1.length=ak at*;generalize c.2.2.2=cd at*;clear D E F A J;have al:=io H;have ao:=Z H;have p:=Z g;clear H g
 rcases I with rfl|rfl|rfl|rfl
 all_goals
  simp at f;subst f;go_wp2_with fail;go_ret2;exact⟨_,rfl,eZ _ _,p.o.alloc p.o.size _⟩
theorem DX(B a cap ra rl rc l)(ci m:Nat)(V:List aq)(d w)(L:aE B w (.slice a 4 cap) l)(W:cI B w (.agg #[U 3,U ci,U m,.slice ra rl rc,U d]) (3,(ci:Int),(m:Int),V,d))(r:B<=w.1.size)(s:bC l=0)(C:aZ (3,(ci:Int),(m:Int),V,d)=0)(c:aG)(t:l[ci]?=some c)(D:c.1=false)(E:ie)(X:List aq)(fd:Int)(u:l[m]?=some (false,E,X,fd)):
  cL 35 #[.slice a 4 cap,.agg #[U 3,U ci,U m,.slice ra rl rc,U d]] w λe g=>∃v,e=.returned (.tuple #[v,U 5])/\aE g.1.size g v []/\bL w g:=by
 have HL:=Z λg (h:bL w g)=>L.l h r
 have Y:=Z λg (h:bL w g)=>s▸fR B _ l g (L.l h r) (h.u r)
 have HR:=Z λg (h:bL w g)=>C▸eR B _ _ g (W.l h r) (h.u r)
 have i:=Z ((f7.1 s).1);have av:ci<4:=by have:=(K9.1 t).1;rw[i.o] at this;exact this
 have a1:(ci:Int)<4:=by omega
 have a2:(0:Int)<=(ci:Int):=by omega
 have N:4<=cap:=by obtain⟨_,_,e,h1,-⟩:=L;simp at e;rw[i.o] at h1;omega
 have F:=Z t;have O:=Z u;have b1:m<4:=by have:=(K9.1 u).1;rw[i.o] at this;exact this
 have a3:(m:Int)<4:=by omega
 have a4:(0:Int)<=(m:Int):=by omega
 clear L W s C t u;have⟨W1,j⟩:=nM (w.alloc (.cells #[U 3,U ci,U m,.slice ra rl rc,U d] 70));have x:=bA j;have P:=sA j;have g1:=hA j;have HG:=Z λg (h:bL W1 g)=>Q2 (h.bk g1) (x.th h)
 have Q:=Z j;have R:=Z x;have G:=Z r;clear j g1 x P r;go_enter func35,ntmps35;go_wp2_with fail;rw[<-Q.o];go_at_call 63;refine(Y.o _ R.o).mono ?_;rintro e w2 ⟨rfl,y⟩;have⟨g2,p⟩:=HG.o w2 y;have⟨y0,y1,y2,y3,y4⟩:=aF g2;have z:=Z2 y p;clear g2 y p Y;go_wp2_with fail;go_at_call 64;refine(HR.o _ z.o.2).mono ?_;rintro e w3 ⟨rfl,H⟩;have⟨M,f⟩:=HG.o w3 (z.o.1.th H);clear y0 y1 y2 y3 y4 HR H z;have⟨y0,y1,y2,y3,y4⟩:=aF M;obtain⟨_,_,e1,-,-,A⟩:=HL.o _ f;have⟨b,o,e,S,I⟩:=A ci c F.o;obtain⟨b2,o2,T,-,J⟩:=A m _ O.o;simp at e1;obtain⟨rfl,-⟩:=e1;rw[e] at T;simp at T;obtain⟨rfl,rfl⟩:=T;subst e;obtain⟨la,lc,pa,pc,c0,c1,c2,c3,-,-⟩:=I.vals;obtain⟨b6,b7,b8,b9,d0,d1,d2,d3,-,n⟩:=J.vals;simp only at d0 d1 d2 d3 n;have⟨bd,q⟩:=nM (X.length);rw[<-q] at d2 n;clear q;generalize E.length=bf at*;have K:=Z λg (h:bL w3 g)=>n.l h (f.u G.o)
 clear n J;rw[D] at c0;have bg:=Kd S (f.u G.o);generalize c.2.1.length=bk at*;generalize c.2.2.1.length=bm at*;generalize c.2.2.2=cd at*;clear A I D F;have bo:=io M;have bp:=Z M;have k:=Z f;clear M f;clear N K;go_wp2_with fail;go_ret2;exact⟨_,rfl,eZ _ _,(k.o.alloc k.o.size _).alloc (by simp;have:=k.o.size;omega) _⟩
theorem pS{K:Nat->Prop}{B w v}(h:aE B w v []):kn K w v []:=λj _=>by obtain⟨a,b,e,d,f,-⟩:=h;exact⟨a,b,e,d,f,λi c g=>by simp at g⟩
theorem AY(B lv rv l r w)(G:aE B w lv l)(I:cI B w rv r)(J:B<=w.1.size):
  cL 35 #[lv,rv] w λe H=>∃v,e=.returned (.tuple #[v,U (cQ l r)])/\aE H.1.size H v (dI l r)/\bL w H/\∀K:Nat->Prop,(∀k,K k->k<w.1.size)->lZ K w.1.size w->kn K w lv l->wU K w rv r->kn K H v (dI l r):=by
 by_cases i:bC l=0
 case neg=>
  have o:cQ l r=bC l:=by unfold cQ;rw[iO i]
  have x:dI l r=[]:=by unfold dI;rw[o,iO i]
  have:=vS B lv rv l r w G I J (.inl i);rw[iO i] at this;rw[o,x]
  exact this.mono λe H ⟨v,C,y,D⟩=>⟨v,C,y,D,λ_ _ _ _ _=>pS y⟩
 by_cases m:aZ r=0
 case neg=>
  have o:cQ l r=aZ r:=by unfold cQ;rw[Io i,iO m]
  have x:dI l r=[]:=by unfold dI;rw[o,iO m]
  have:=vS B lv rv l r w G I J (.inr m);rw[Io i] at this;rw[o,x]
  exact this.mono λe H ⟨v,C,y,D⟩=>⟨v,C,y,D,λ_ _ _ _ _=>pS y⟩
 have Q:=(f7.1 i).1;have a4:=(iB m).1;have⟨a5,a6⟩:=zg m;obtain⟨N,O,W,-⟩:=I.shape;subst W;obtain⟨a,A,X,-,-⟩:=G.shape;subst X
 rw[Q] at G |-
 have n:cQ l r=if decide (r.1=1\/r.1=3)=(bW l r.2.1).1 then 6 else (j6 l r).2:=by unfold cQ;rw[Io i,Io m]
 have q:dI l r=if cQ l r=0 then l.set r.2.1.toNat (j6 l r).1 else []:=rfl
 obtain⟨k,ce,P,b,d⟩:=r;simp only at*;obtain⟨f,rfl⟩:∃f:Nat,ce=(f:Int):=⟨ce.toNat,by omega⟩;obtain⟨j,rfl⟩:∃j:Nat,P=(j:Int):=⟨P.toNat,by omega⟩;obtain⟨c,z⟩:∃c,l[f]?=some c:=⟨l[f]'(by omega),by simp⟩;obtain⟨cf,M⟩:∃c,l[j]?=some c:=⟨l[j]'(by omega),by simp⟩;have R:bW l (f:Int)=c:=by unfold bW;rw[L3,Kn,z];rfl
 have S:bW l (j:Int)=cf:=by unfold bW;rw[L3,Kn,M];rfl
 have T:k=1\/k=2\/k=3\/k=4:=by omega
 rw[R] at n;rw[L3] at q
 by_cases g:decide (k=1\/k=3)=c.1
 ·have o:cQ l (k,(f:Int),(j:Int),b,d)=6:=by rw[n,Io g]
  have x:dI l (k,(f:Int),(j:Int),b,d)=[]:=by rw[q,o];rfl
  rw[o,x]
  exact(Bk B a A N _ O l k f j b d w G I J i m c z T g).mono λe H ⟨v,C,y,D⟩=>⟨v,C,y,D,λ_ _ _ _ _=>pS y⟩
 rw[iO g] at n
 have E:∀p:aD,j6 l (k,(f:Int),(j:Int),b,d)=fS p->cQ l (k,(f:Int),(j:Int),b,d)=cB p/\dI l (k,(f:Int),(j:Int),b,d)=if cB p=0 then l.set f (true,[cm p],p) else []:=λp e=>by
  rw[e] at n q
  have o:cQ l (k,(f:Int),(j:Int),b,d)=cB p:=by
   rw[n];unfold fS
   split
   ·rename_i h;exact h.symm
   rfl
  refine⟨o,?_⟩;rw[q,o]
  by_cases F:cB p=0
  ·rw[Io F,Io F];unfold fS;rw[Io F]
  rw[iO F,iO F]
 rcases T with rfl|rfl|rfl|rfl
 ·have s:c.1=false:=by simpa using g
  have⟨o,x⟩:=E (b,d) rfl;rw[o,x];exact BN B a A N _ O l f j b d w G I J i m c z s
 ·obtain⟨co,t,u,L⟩:=c;have s:co=true:=by simpa using g
  subst s;have e:j6 l (2,(f:Int),(j:Int),b,d)=if dm t (u,L) (b,d)=0 then (((true,dt t (u,L) (b,d),(b,d)):aG),(0:Int)) else (bn,dm t (u,L) (b,d)):=by show (if dm (bW l (f:Int)).2.1 (bW l (f:Int)).2.2 (b,d)=0 then (((true,dt (bW l (f:Int)).2.1 (bW l (f:Int)).2.2 (b,d),(b,d)):aG),(0:Int)) else (bn,dm (bW l (f:Int)).2.1 (bW l (f:Int)).2.2 (b,d)))=_;rw[R]
  rw[e] at n q
  have o:cQ l (2,(f:Int),(j:Int),b,d)=dm t (u,L) (b,d):=by
   rw[n]
   split
   ·rename_i h;exact h.symm
   rfl
  have x:dI l (2,(f:Int),(j:Int),b,d)=if dm t (u,L) (b,d)=0 then l.set f (true,dt t (u,L) (b,d),(b,d)) else []:=by
   rw[q,o]
   by_cases F:dm t (u,L) (b,d)=0
   ·rw[Io F,Io F,Io F]
   rw[iO F,iO F]
  rw[o,x];exact zF B a A N _ O l f j b d w G I J i m t u L z
 ·have s:c.1=false:=by simpa using g
  obtain⟨fo,V,P,Y⟩:=cf
  cases fo with
  |true=>
   obtain⟨o,x⟩:=E (P,Y) (by
    show (if (bW l (j:Int)).1=true then fS (bW l (j:Int)).2.2 else (bn,5))=_;rw[S]
    rfl)
   rw[o,x]
   exact(AI B a A N _ O l f j b d w G I J i m c z s V P Y M).mono λe H ⟨v,C,y,D,g4⟩=>⟨v,C,y,D,λK hK hO hC _=>g4 K hK hO hC⟩
  |false=>
   have e:j6 l (3,(f:Int),(j:Int),b,d)=(bn,5):=by show (if (bW l (j:Int)).1=true then fS (bW l (j:Int)).2.2 else (bn,5))=_;rw[S];rfl
   rw[e] at n;have x:dI l (3,(f:Int),(j:Int),b,d)=[]:=by rw[q,n];rfl
   rw[n,x]
   exact(DX B a A N _ O l f j b d w G I J i m c z s V P Y M).mono λe H ⟨v,C,y,D⟩=>⟨v,C,y,D,λ_ _ _ _ _=>pS y⟩
 have s:c.1=true:=by simpa using g
 have o:cQ l (4,(f:Int),(j:Int),b,d)=0:=by rw[n];rfl
 have x:dI l (4,(f:Int),(j:Int),b,d)=l.set f bn:=by rw[q,o];rfl
 rw[o,x]
 exact(AL B a A N _ O l f j b d w G I J i m c z s).mono λe H ⟨v,C,y,D,g4⟩=>⟨v,C,y,D,λK hK hO hC _=>g4 K hK hO hC⟩
theorem kT(w:World):(Instr.makeSlice 22 (U 4) (U 4)).run prog w=.ok (.slice (sO w.1.size) 4 4) (w.alloc (.cells (madeCells #[.bool false,nL,nL,U 0] 16) 46)):=by
 obtain⟨a,b,c,d,e⟩:=sk;have:=MQ (P:=prog) w 22 46 a _ Tryz.underlying22 b c .i64 .i64 4 4 (by omega) (LH _) (by rw[e];omega) (by omega);rw[d] at this
 simpa [Value.cells] using this
theorem je{w:World}{g:Nat}(b:w.1[g]?=some (.cells (madeCells #[.bool false,nL,nL,U 0] 16) 46 (0,0))):aE (g+1) w (.slice (sO g) 4 4) aA:=by
 have e:madeCells #[.bool false,nL,nL,U 0] 16=#[.bool false,nL,nL,U 0,.bool false,nL,nL,U 0,.bool false,nL,nL,U 0,.bool false,nL,nL,U 0]:=by kernel_rfl
 rw[e] at b;refine⟨_,4,rfl,by decide,by rw[ai];omega,λi c a=>⟨g,0,rfl,by omega,?_⟩⟩
 have d:c=bn/\(i=0\/i=1\/i=2\/i=3):=by
  match i,a with
  |0,a=>simp[aA] at a;exact⟨a.symm,.inl rfl⟩
  |1,a=>simp[aA] at a;exact⟨a.symm,.inr (.inl rfl)⟩
  |2,a=>simp[aA] at a;exact⟨a.symm,.inr (.inr (.inl rfl))⟩
  |3,a=>simp[aA] at a;exact⟨a.symm,.inr (.inr (.inr rfl))⟩
  |i+4,a=>simp[aA] at a
 obtain⟨rfl,f⟩:=d
 rcases f with rfl|rfl|rfl|rfl
 all_goals exact⟨_,_,ab b _ rfl,ab b _ rfl,ab b _ rfl,ab b _ rfl,kJ _ _,bV _ _⟩
theorem uA(w:World):aE (w.1.size+1) (w.alloc (.cells (madeCells #[.bool false,nL,nL,U 0] 16) 46)) (.slice (sO w.1.size) 4 4) aA:=je (ah w _)
theorem tJ(a:List az)(k:Nat)(r:az)(h:a[k]?=some r)(s:List aG × Int):(a.take (k+1)).foldl db s=db ((a.take k).foldl db s) r:=by rw[KN,h];simp[Mu]
theorem ug(a:List az)(k:Nat)(e:Int)(b:e≠0)(s:List aG × Int)(h:(a.take k).foldl db s=([],e)):a.foldl db s=([],e):=by
 conv=>lhs;rw[<-Ms k a]
 rw[Mu,h];exact tD _ e b
def Gd(K:Nat->Prop)(w:World)(v:Value)(b:List az):Prop:=∀a,Kx K w a->dh a.1.size a v b
theorem Gd.l{K a:Nat->Prop}{w w' v rs}(h:Gd K w v rs)(b:bL w w')(c:∀k,k<w.1.size->a k->K k):Gd a w' v rs:=λd e=>h d (e.back b c)
theorem Gd.vals{K:Nat->Prop}{B w}{b o n cap:Nat}{rs}(h:Gd K w (.slice (some ⟨b,o,none⟩) n cap) rs)(t:dh B w (.slice (some ⟨b,o,none⟩) n cap) rs)(u:lZ K B w){i:Nat}{r:az}{a m c}(f:rs[i]?=some r)(g:w.cell? ⟨b,o+i*5+3,none⟩=some (.slice a m c)):wU K w (.agg #[U r.1,U r.2.1,U r.2.2.1,.slice a m c,U r.2.2.2.2]) r:=by
 obtain⟨C,D,j,-,-,v⟩:=t;have⟨E,F,k,d,x⟩:=v i r f;simp at j;obtain⟨rfl,-⟩:=j;simp at k;obtain⟨rfl,rfl⟩:=k;have e:=u.slice d g;intro y l;obtain⟨G,H,p,-,-,z⟩:=h y l;obtain⟨I,J,q,-,L,-,-,-,s,-,A⟩:=z i r f;simp at p;obtain⟨rfl,-⟩:=p;simp at q;obtain⟨rfl,rfl⟩:=q;rw[l.cell e g] at s
 cases s;exact A
theorem lZ.all{K:Nat->Prop}{w w':World}{B}(h:lZ K w.1.size w)(b:∀k,K k->k<w.1.size)(c:bL w w'):lZ K B w':=λk a=>by
 rcases h k a with h|h
 ·exact .inl (h.l c)
 exact absurd (b k a) (by omega)
theorem uR{K:Nat->Prop}{w:World}{g:Nat}(a:w.1[g]?=some (.cells (madeCells #[.bool false,nL,nL,U 0] 16) 46 (0,0)))(b:¬K g):kn K w (.slice (sO g) 4 4) aA:=λd c=>by have h:=(c.2 g b (io a)).trans a;exact(je h).wide (io h)
theorem wC(B lv rs w)(hl:dh B w lv rs)(hB:B<=w.1.size):
  cL 20 #[lv] w λe c=>∃v,e=.returned (.tuple #[v,U (ay rs).2])/\aE c.1.size c v (ay rs).1/\bL w c/\∀K:Nat->Prop,(∀k,K k->k<w.1.size)->lZ K w.1.size w->Gd K w lv rs->kn K c v (ay rs).1:=by
 have HL:=Z λc (h:bL w c)=>hl.l h hB
 have b1:Hid (∀c G Y b r,aE c.1.size c G b->cI c.1.size c Y r->cL 35 #[G,Y] c λe d=>∃v,e=.returned (.tuple #[v,U (cQ b r)])/\aE d.1.size d v (dI b r)/\bL c d/\∀K:Nat->Prop,(∀k,K k->k<c.1.size)->lZ K c.1.size c->kn K c G b->wU K c Y r->kn K d v (dI b r)):=λc G Y b r h1 h2=>AY c.1.size G Y b r c h1 h2 lE
 have HP:Hid (ay rs=if 40<rs.length then ([],2) else rs.foldl db (aA,0)):=rfl;obtain⟨a,H,rfl,b2,c3,-⟩:=hl;have c4:=ai;have⟨n,hn⟩:=nM (rs.length);have HN:=Z hn.symm
 rw[<-hn] at HP HL b2 |-
 clear hn;have⟨RV,P⟩:=nM ((ay rs).1);have⟨RE,Q⟩:=nM ((ay rs).2);have x:Hid ((RV,RE)=ay rs):=by rw[P,Q];rfl
 rw[<-P,<-Q];clear P Q
 by_cases a2:40<n
 ·have a3:(40:Int)<(n:Int):=by omega
  have y:Hid (RV=[]/\RE=2):=by
   have:=x.o;rw[HP.o,Io a2] at this;unfold Hid
   simpa using this
  go_enter func20,ntmps20;go_wp2_with fail;go_ret2;exact⟨_,by rw[y.o.2];rfl,by rw[y.o.1];exact eZ _ _,Kf _ _,λK _ _ _=>by rw[y.o.1];exact ib _ _⟩
 have a3:¬(40:Int)<(n:Int):=by omega
 have a4:=Z (by rw[x.o,HP.o,iO a2]:(RV,RE)=rs.foldl db (aA,0));clear HP x;have a5:=kT;have⟨mc,I⟩:=nM (madeCells #[.bool false,nL,nL,U 0] 16);rw[<-I] at a5;have z:=uA w;rw[<-I] at z;have⟨W1,p⟩:=nM (w.alloc (.cells mc 46));have b6:=bA p;have a6:=sA p;have a7:Hid (aE W1.1.size W1 (.slice (MZ w) 4 4) aA):=by rw[a6,p];exact z
 have R:Hid (∀K:Nat->Prop,(∀k,K k->k<w.1.size)->kn K W1 (.slice (MZ w) 4 4) aA):=λK f=>uR (by rw[p,I];exact ah _ _) (λe=>absurd (f _ e) (by omega))
 have b7:=Z p;clear p z I a6;go_enter func20,ntmps20;go_wp2_with fail;rw[<-b7.o];clear a5;go_loopw [4,15] (λG iv wr=>∃k:Nat,k<=n/\iv=U k/\(∃ca cc,G=.slice ca 4 cc)/\Hid (∃b,(rs.take k).foldl db (aA,0)=(b,0)/\aE wr.1.size wr G b/\b.length=4/\∀K:Nat->Prop,(∀k,K k->k<w.1.size)->lZ K w.1.size w->Gd K w (.slice a n H) rs->kn K wr G b)/\Hid (bL w wr)) (λ_ iv _=>n-(intOf iv).toNat)
 case atStart=>exact⟨0,by omega,rfl,⟨_,_,rfl⟩,⟨aA,rfl,a7.o,rfl,λK f _ _=>R.o K f⟩,b6⟩
 case round=>
  obtain⟨k,hk,rfl,⟨ca,cc,rfl⟩,HS,l⟩:=hrel;have⟨wo,b9⟩:=nM (wr);subst b9;have i0:(0:Int)<=(k:Int):=by omega
  have c6:=l.o.size
  by_cases c7:k<n
  ·have i1:(k:Int)<(n:Int):=by omega
   obtain⟨r,J⟩:∃r,rs[k]?=some r:=⟨rs[k]'(by rw[HN.o];omega),by simp⟩;obtain⟨b,q,g,L,A⟩:=HS.o;have S:=tJ rs k r J (aA,0);rw[q] at S;obtain⟨_,_,O,-,-,aa⟩:=HL.o _ l.o;have⟨b3,o3,e,bz,bc⟩:=aa k r J;simp at O;obtain⟨rfl,-,-⟩:=O;subst e;obtain⟨Y,q0,q1,q2,q3,q4,T⟩:=bc;obtain⟨ra,C,er,-⟩:=T.shape;simp at er;subst er;have ad:Hid (∀K:Nat->Prop,(∀k,K k->k<w.1.size)->lZ K w.1.size w->Gd K w (.slice (some ⟨b3,o3,none⟩) n H) rs->wU K wo (.agg #[U r.1,U r.2.1,U r.2.2.1,.slice ra r.2.2.2.1.length C,U r.2.2.2.2]) r):=λK f u D=>(D.l l.o (λ_ _ e=>e)).vals (HL.o _ l.o) (u.all f l.o) J q3
   generalize bd:r.2.2.2.1.length=rl at*;clear aa J bd;have⟨s,V⟩:=nM (wo.alloc (.cells #[U r.1,U r.2.1,U r.2.2.1,.slice ra rl C,U r.2.2.2.2] 70));have i:=bA V;have m:Hid (cL 35 #[.slice ca 4 cc,.agg #[U r.1,U r.2.1,U r.2.2.1,.slice ra rl C,U r.2.2.2.2]] s λe d=>∃v,e=.returned (.tuple #[v,U (cQ b r)])/\aE d.1.size d v (dI b r)/\bL s d/\∀K:Nat->Prop,(∀k,K k->k<s.1.size)->lZ K s.1.size s->kn K s (.slice ca 4 cc) b->wU K s (.agg #[U r.1,U r.2.1,U r.2.2.1,.slice ra rl C,U r.2.2.2.2]) r->kn K d v (dI b r)):=b1.o s _ _ b r ((g.l i lE).wide i.size) (iW (T.l i (by omega)) (by have:=i.size;omega));have E:=Z (l.o.th i);have bf:=Z V;have ae:=Z S;have bg:=Z L
   have t:Hid (∀K:Nat->Prop,(∀k,K k->k<w.1.size)->lZ K w.1.size w->Gd K w (.slice (some ⟨b3,o3,none⟩) n H) rs->(∀k,K k->k<s.1.size)/\lZ K s.1.size s/\kn K s (.slice ca 4 cc) b/\wU K s (.agg #[U r.1,U r.2.1,U r.2.2.1,.slice ra rl C,U r.2.2.2.2]) r):=λK f u D=>⟨λk hk=>Kd (f k hk) E.o.size,u.all f E.o,(A K f u D).l i (λ_ _ e=>e),(ad.o K f u D).l i (λ_ _ e=>e)⟩
   clear V i T g q S L HS A ad;go_wp2_with fail;rw[<-bf.o];go_at_call 35;refine m.o.mono ?_;rintro e w6 ⟨v6,rfl,F,W,M⟩;have o:=E.o.th W;obtain⟨na,nc,ev,-,-⟩:=F.shape;subst ev
   by_cases j:cQ b r=0
   ·have O:(rs.take (k+1)).foldl db (aA,0)=(dI b r,0):=by rw[ae.o];unfold db;rw[Io rfl];simp only;rw[Io j]
    have e2:(dI b r).length=4:=by rw[vK j,List.length_set];exact bg.o
    rw[e2] at F M |-
    rw[j];have af:Hid (∃N,(rs.take (k+1)).foldl db (aA,0)=(N,0)/\aE w6.1.size w6 (.slice na 4 nc) N/\N.length=4/\∀K:Nat->Prop,(∀k,K k->k<w.1.size)->lZ K w.1.size w->Gd K w (.slice (some ⟨b3,o3,none⟩) n H) rs->kn K w6 (.slice na 4 nc) N):=⟨_,O,F,e2,λK f u D=>M K (t.o K f u D).1 (t.o K f u D).2.1 (t.o K f u D).2.2.1 (t.o K f u D).2.2.2⟩;have X:=Z o;clear O e2 F W o j m M t;go_wp2_with fail;exact⟨⟨k+1,by omega,by go_num,⟨na,nc,rfl⟩,af,X⟩,by simp[intOf];omega⟩
   have O:(rs.take (k+1)).foldl db (aA,0)=([],cQ b r):=by rw[ae.o];unfold db;rw[Io rfl];simp only;rw[iO j]
   have y:Hid (RV=[]/\RE=cQ b r):=by
    have:=a4.o;rw[ug rs (k+1) _ j _ O] at this;unfold Hid
    simpa using this
   have X:=Z o;have hq:(cQ b r != 0)=true:=by simpa using j
   generalize (dI b r).length=nl at*;generalize cQ b r=ne at*;clear O F W o j m M t;go_wp2_with fail;go_ret2;exact⟨_,by rw[y.o.2];rfl,by rw[y.o.1];exact eZ _ _,X.o,λK _ _ _=>by rw[y.o.1];exact ib _ _⟩
  obtain⟨b,q,g,L,A⟩:=HS.o
  have y:Hid (RV=b/\RE=0):=by
   have:=a4.o;rw[Ki (by rw[HN.o];omega)] at q;rw[q] at this;unfold Hid
   simpa using this
  have bq:=Z g;have ak:=Z A;clear q g L HS A;go_wp2_with fail;go_ret2;exact⟨_,by rw[y.o.2];rfl,by rw[y.o.1];exact bq.o,l.o,λK f u D=>by rw[y.o.1];exact ak.o K f u D⟩
theorem Am(B lv rs w)(b:dh B w lv rs)(c:B<=w.1.size):
  cL 20 #[lv] w λe a=>∃v,e=.returned (.tuple #[v,U (ay rs).2])/\aE a.1.size a v (ay rs).1/\bL w a:=
 (wC B lv rs w b c).mono λ_ _ ⟨v,d,f,g,_⟩=>⟨v,d,f,g⟩
section
theorem GD{p:aD}{x:Nat->Int}(a:aj p=0):0<=kP p x/\kP p x<=120:=by
 have b:=(cY a).1;unfold kP eH;rw[Io a]
 split
 ·show 0<=(cP p (aR (bu x) 0 p.1)).2/\(cP p (aR (bu x) 0 p.1)).2<=120;unfold cP
  split
  ·show (0:Int)<=(p.1.length:Int)/\(p.1.length:Int)<=120;omega
  rename_i h;have:=qK (bu x) p.1 0 (by omega);show (0:Int)<=aR (bu x) 0 p.1/\aR (bu x) 0 p.1<=120;omega
 show (0:Int)<=0/\(0:Int)<=120;omega
theorem AS{p:aD}(h:aT [p]=0)(i:Int):gt p i=decide (0<pU p ((bj [p]).map qM) i):=by
 have b:bj [p]=dG [p]:=by rw[bj,Io h]
 have a:=Hv p ((bj [p]).map qM) i;have c:(((bj [p]).map qM).any λx=>kP p (Ep x)==i)=gt p i:=by unfold gt;rw[b,List.any_map];rfl
 rw[c] at a
 cases hk:gt p i with
 |true=>exact(KS (a.2 hk)).symm
 |false=>
  refine(KD λh=>?_).symm;have:=a.1 h;rw[hk] at this
  cases this
theorem zT{B g:Nat}{w v rs}(h:bD B w v rs)(I:B<=g):bD g w v rs:=by obtain⟨a,f,j,k,l,m⟩:=h;refine⟨a,f,j,k,l,λi r n=>?_⟩;have⟨b,o,e,J,p,q,s,t,u,d,x,y,z,A⟩:=m i r n;refine⟨b,o,e,by omega,p,q,s,t,u,d,x,y,z,λi c C=>?_⟩;have⟨D,E,F,G,H⟩:=A i c C;exact⟨D,E,F,by omega,H⟩
def DV(W:World)(rb:Nat):Type:={ w':World // Below rb W w' }
theorem DV.ne(W rb):Nonempty (DV W rb):=⟨⟨W,Kf _ _⟩⟩
theorem DV.cell{W rb}(x:DV W rb){b o:Nat}{v:Value}(h:W.cell? ⟨b,o,none⟩=some v)(a:b<rb):x.1.cell? ⟨b,o,none⟩=some v:=(x.2.cell (p:=⟨b,o,none⟩) a).trans h
structure E3 (W:World) (rb:Nat) (P:aD) (fs:Nat->Value->Prop) (w:World):Prop where
 below:Below rb W w
 early:(∀u,¬fs 8 u)->bL W w
 one:∀u u',fs 7 u->fs 7 u'->u=u'
 copied:∀u,fs 7 u->bE W.1.size w u P
 stored:∀u,fs 8 u->∃v d,fs 7 (.agg #[v,d])/\w.1[rb]?=some (.cells #[v,d] 30 (0,0))
 first:∀u,fs 7 u->∃u',fs 3 u'
section
variable {W w w':World} {rb:Nat} {P:aD} {fs:Nat->Value->Prop}
theorem E3.start:E3 W rb P (λ_ _=>False) W.drew:=⟨bR.drew,λ_=>bR.drew,λ_ _ h=>h.elim,λ_ h=>h.elim,λ_ h=>h.elim,λ_ h=>h.elim⟩
theorem E3.other(h:E3 W rb P fs w)(u):E3 W rb P (d9 fs 3 u) w:=by refine⟨h.below,λc=>h.early λu a=>c u (.inl a),λu e a b=>h.one u e (aC (by decide) a) (aC (by decide) b),λu a=>h.copied u (aC (by decide) a),λf a=>?_,λ_ _=>⟨u,.inr ⟨rfl,rfl⟩⟩⟩;obtain⟨v,d,g,i⟩:=h.stored f (aC (by decide) a);exact⟨v,d,.inl g,i⟩
theorem E3.copy(h:E3 W rb P fs w)(b:∀u,¬fs 7 u){u3:Value}(j:fs 3 u3)(k:rb<W.1.size)(i:bL w w')(u)(l:bE w.1.size w' u P):E3 W rb P (d9 fs 7 u) w':=by
 have c:∀u,¬fs 8 u:=λu m=>by have⟨v,d,a,_⟩:=h.stored u m;exact b _ a
 have f:=h.early c;refine⟨Below.tO h.below i (by have:=f.size;omega),λ_=>f.th i,λe n a g=>?_,λe a=>?_,λe a=>absurd (aC (by decide) a) (c e),λ_ _=>⟨u3,.inl j⟩⟩
 ·rcases a with a|⟨_,rfl⟩
  ·exact absurd a (b e)
  rcases g with g|⟨_,rfl⟩
  ·exact absurd g (b n)
  rfl
 rcases a with a|⟨_,rfl⟩
 ·exact absurd a (b e)
 exact l.keep f.size (λ_ _ _=>rfl) lE
theorem E3.store(h:E3 W rb P fs w)(f:∀u,¬fs 8 u)(a:rb<W.1.size)(v d g:Value)(i:fs 7 (.agg #[v,d])){x y:Value}(e:W.1[rb]?=some (.cells #[x,y] 30 (0,0))):E3 W rb P (d9 fs 8 g) ((w.setCell (pA rb 0) v).setCell (pA rb 1) d):=by have j:=h.early f;have k:=(j.block rb a).trans e;refine⟨h.below.s2 lE,λl=>absurd (.inr ⟨rfl,rfl⟩) (l g),λb m c n=>h.one b m (aC (by decide) c) (aC (by decide) n),λb c=>((h.copied b (aC (by decide) c)).put (.inl a)).put (.inl a),λb c=>⟨v,d,.inl i,?_⟩,λb c=>(h.first b (aC (by decide) c)).imp λ_ h=>.inl h⟩;have p:=ap (o:=0) (u:=v) k;have q:=ap (o:=1) (u:=d) p;rw[q];rfl
end
def JT(b:Value)(d:Int)(k:Nat)(v:Value):Prop:=if k=3 then v=b else if k=7 then ∃a n c,v=.agg #[.slice a n c,U d] else True
theorem Gf(cut d k):∃v,JT cut d k v:=by
 unfold JT
 split
 ·exact⟨_,rfl⟩
 split
 ·exact⟨_,none,0,0,rfl⟩
 exact⟨undef,trivial⟩
theorem Dt(B pv p w)(hp:aX B w pv p)(hB:B<=w.1.size):
  cL 224 #[pv] w λe w'=>∃v,e=.returned (.tuple #[v,U (aT [p])])/\bE w.1.size w' v (iL p)/\bL w w':=by
 obtain⟨gj,e6,e7,e8,ea⟩:=jY;have HP:=Z λw' (h:bL w w')=>hp.l h hB
 obtain⟨f,d⟩:=p;obtain⟨rv,e1,hd,bs⟩:=hp;have bv:=Z λw' (h:bL w w')=>bs.l h hB
 obtain⟨a,E,e3,go,gq,-⟩:=bs;simp only at e1 e3 hd;subst e3 e1;have bx:=Z hd;clear hd;generalize bz:f.length=F at*;have I:=Z bz;clear bz;have gv:=ai;have⟨W2,G⟩:=nM ((w.alloc (.cells #[.slice a F E,U d] 30)).alloc (.cells #[nL,U 0] 30));have bF:=sB G;have ak:=bB G
 have al:Hid (∀w',Below (w.1.size+1+1) W2 w'->Na w' w.1.size #[.slice a F E,U d] 30/\Na w' (w.1.size+1) #[nL,U 0] 30/\bL w w'):=by
  intro w' h;have e0:Na W2 w.1.size #[.slice a F E,U d] 30:=by rw[G];exact aS _ (be _ _ rfl)
  have e1:Na W2 (w.1.size+1) #[nL,U 0] 30:=by rw[G];exact be _ _ (by simp only[Kg])
  exact⟨h.bk e0,h.bk e1,ak.trans (h.mono (by omega))⟩
 have c1:=AT (p:=(f,d)) (ak.u hB) (bv.o _ ak) bx.o 30;have ao:=uf _ _ _ _ c1 (by simp) (by simp);rw[bF] at ao;have a8:Hid _:=ao;have c2:Below (w.1.size+1+1) W2 (W2.alloc (.cells #[.slice a F E,U d] 30)):=bR.alloc (by omega) _;have av:(W2.alloc (.cells #[.slice a F E,U d] 30)).1.size=w.1.size+1+1+1:=by simp[bF]
 have ec:=Z G;clear ao c1 G;go_enter func224,ntmps224;go_wp2_with fail;rw[<-ec.o];go_at_call 230;refine Calls.mono a8.o ?_;rintro e w5 ⟨v5,rfl,b2,J⟩
 try unfold bL at J
 rw[av] at J;have L:Below (w.1.size+1+1) W2 w5:=Mj c2 (J.mono (by omega));have ed:=J.size;rw[av] at ed;obtain⟨b0,b1,A⟩:=al.o _ L;have l5:w.1.size<w5.1.size:=by omega
 have l6:w.1.size+1<w5.1.size:=by omega
 obtain⟨a5,c3,e5,ee,g4,-⟩:=id b2;subst e5;have c4:=Z b2;clear b2 c2 av a8 J
 by_cases g:aT [(f,d)]=0
 case neg=>
  have HE:Hid (iL (f,d)=([],0)):=by unfold Hid iL;rw[iO g]
  have hq:(aT [(f,d)] != 0)=true:=by simpa using g
  have⟨pe,M⟩:=nM (aT [(f,d)])
  rw[<-M] at hq |-
  have c5:=Z M.symm;have r0:=J0 b1;have r1:=J1 b1;have f0:=fZ b1 0;have f1:=fZ b1 1;have b3:=Z A;clear g M b0 b1 A;go_wp2_with fail;refine Ka (v:=.tuple #[.agg #[nL,U 0],U pe]) ?_ rfl ⟨_,by rw[c5.o],by rw[HE.o];exact kA _ _,?_⟩
  ·rw[K8 rfl];go_simp
  repeat(first|exact b3.o|refine Ky ?_ (by simp) _)
 have c6:Hid (iL (f,d)=(cF d (bN (f,d) 0 f),d)):=by unfold Hid iL;rw[Io g];rfl
 have c8:=(kM.1 g).1;have X:aj (f,d)=0:=c8 _ (by simp);have eg:F<=120:=by rw[<-I.o];exact(cY X).1
 have ej:Hid (∀r∈f,r.1.length<=10):=λr Y=>(dy (cM (cY X).2.2 r Y)).1
 have ca:((bj [(f,d)]).map qM).length<=1000:=by rw[Lw,bj,Io g];exact(kM.1 g).2
 have cb:=Z (AS g);have b4:Hid (cL 236 #[.agg #[.slice a F E,U d],.slice a5 ((bj [(f,d)]).map qM).length c3] w5 λe w'=>∃b,e=.returned (.map (some b))/\∃D,w'.ownsMap (H:=Unit) prog 3 (plainElem prog 3) b 1000 D/\(∀i,wf i->D.atKey (.int .i64 i) (.lit (.int .i64 0))=.lit (.int .i64 (pU (f,d) ((bj [(f,d)]).map qM) i)))/\bL w5 w'):=xR w5.1.size _ _ (f,d) _ w5 (by have⟨rv,h1,h2,h3⟩:=HP.o w5 A;exact⟨rv,h1,h2,(zT h3 (by omega))⟩) c4.o lE ca (λx _=>by have:=GD (x:=Ep x) X;exact L4 (by omega));have ce:=Z g;rw[g];have⟨PL,cf⟩:=nM ((bj [(f,d)]).map qM)
 rw[<-cf] at cb b4 ca ee |-
 generalize em:PL.length=PN at*;clear cf c8 X g c4;have p0:=J0 b0;have p1:=J1 b0;go_wp2_with fail;go_at_call 236;refine Calls.mono b4.o ?_;rintro e w6 ⟨mb,rfl,D,b5,j,b6⟩;have eq:=Z b5;have es:Hid (∀i:Nat,i<1000->D.atKey (.int .i64 i) (.lit (.int .i64 0))=.lit (.int .i64 (pU (f,d) PL i))):=λi hi=>j i (L4 (by omega))
 have h6:=b6.size;have ci:Hid (∀v,bL w6 v->Below (w.1.size+1+1) W2 v):=λv h=>L.trans ((b6.th h).mono (by omega))
 have h9:=b5.lt;obtain⟨ck,et,cl⟩:=al.o _ (ci.o w6 bR);have c0:=J0 ck;clear b5 j b6 b4 p0 p1 b0 b1 A ck et cl L em;go_wp2_with fail;clear c0;go_loopw [7,26] (λrv iv wr=>∃ (i:Nat) (xs:List Value),i<=F/\iv=U i/\Hid (wr.ownsRow w6.1.size 131 2 rv (bN (f,d) 0 (f.take i)).length xs)/\Hid (lB B wr xs (bN (f,d) 0 (f.take i)))/\Hid (bL w6 wr)) (λ_ iv _=>F-(intOf iv).toNat)
 case atStart=>exact⟨0,[],by omega,rfl,⟨rfl,.inl ⟨rfl,rfl⟩⟩,⟨rfl,(λu hu=>by cases hu),(λi r Y=>by simp[bN] at Y)⟩,Kf _ _⟩
 case round=>
  obtain⟨i,xs,hi,rfl,HO,y,O⟩:=hrel;have⟨C,ew⟩:=nM (wr);subst ew;have i0:(0:Int)<=(i:Int):=by omega
  have co:=O.o.size;obtain⟨gp,gr,P⟩:=al.o _ (ci.o _ O.o);have Q:(bN (f,d) 0 (f.take i)).length<=F:=by have:=kD (f,d) (f.take i) 0;rw[Kt,I.o] at this;omega
  obtain⟨va,vc,ev,R,eN,-⟩:=an HO.o;subst ev
  by_cases he:i<F
  ·have i1:(i:Int)<(F:Int):=by omega
   obtain⟨r,b7⟩:∃r,f[i]?=some r:=⟨f[i]'(by rw[I.o];omega),by simp⟩;have eO:=Z (by rw[KN,b7];rfl:f.take (i+1)=f.take i++[r]);have cp:(f.take i).length=i:=by rw[Kt,I.o];omega
   have S:Hid (bN (f,d) 0 (f.take (i+1))=bN (f,d) 0 (f.take i)++if gt (f,d) (i:Int) then [r] else []):=by unfold Hid;rw[eO.o,mp,cp,Kp]
   obtain⟨_,_,e1,-,-,j⟩:=bv.o _ P;have⟨b,o,e,hh,cv,k0,k1,cx,cT⟩:=j i r b7;simp at e1;obtain⟨rfl,-,-⟩:=e1;subst e;clear j cp b7;have b8:Hid (∀w',Below w6.1.size C w'->bG B w' cv r.1):=λw' h=>cT.l h (by omega)
   obtain⟨a9,c9,f3,-⟩:=cT;subst f3;have ae:=Z cx;obtain⟨cs,vd⟩:=r;simp only[] at k0 k1 b8 ae;have⟨n9,d1⟩:=nM (cs.length);rw[<-d1] at k0 b8;clear d1 cx;have⟨K,hK⟩:=nM (bN (f,d) 0 (f.take i))
   rw[<-hK] at S HO y Q R |-
   clear hK;have⟨N,hN⟩:=nM (K.length);have HN:=Z hN.symm
   rw[<-hN] at HO Q R |-
   clear hN;have⟨W7,T⟩:=nM (C.alloc (.cells #[.slice a9 n9 c9,U vd] 131));have a1:=bA T;have d2:=Z (aw HO.o a1);have d3:Hid (W7.ownsMap (H:=Unit) prog 3 (plainElem prog 3) mb 1000 D):=eq.o.kept (iq (Below.tO O.o a1 co) none) (by simp);have g7:=hA T;have y0:=J0 g7;have y1:=J1 g7;have hl:=sA T;have b9:=Z (a1.mono co);have d4:=Z T;have⟨m,hm⟩:=nM (pU (f,d) PL (i:Int));have ba:=Z (by rw[hm];exact es.o i (by omega):D.atKey (.int .i64 (i:Int)) (.lit (.int .i64 0))=.lit (.int .i64 (m:Int)));have a2:=Z (by rw[hm];exact cb.o _:gt (f,d) (i:Int)=decide (0<m));have d5:(Lit.int .i64 (i:Int)).wf=true:=L4 (by omega);have hn:6=6:=rfl;clear hm T a1 g7 gp gr HO
   by_cases bb:0<m
   ·have gb:(0:Int)<(m:Int):=by omega
    have q:Hid (bN (f,d) 0 (f.take (i+1))=K++[(cs,vd)]):=by unfold Hid;rw[S.o,a2.o,KS bb];rfl
    clear S a2
    go_wp2_with (first
     |(at_lookup;rw[<-d4.o];go_must (refine wpList_lookup_own_int _ rfl _ _ 110 rfl 3 3 .i64 iK Tryz.underlying110 underlying3 (jj _) mb 1000 D rfl d3.o _ _ rfl (KF underlying3 d5) ?_;intro cc j bc;have a3:=j.symm.trans ba.o;simp only[Mp,Lit.int.injEq,true_and] at a3;subst a3;clear j bc))
     |(at_builtin;go_must (refine ir _ rfl _ _ rfl Tryz.underlying28 e6 e7 e8 ea rfl (by decide) w6.1.size _ _ _ rfl _ 1 [.slice a9 n9 c9,U vd] rfl W7 rfl (by first|rfl|omega) W7 bR d2.o rfl (by simp[Value.oneCell']) (by omega) (by omega) (by omega) ?_;intro v9 w9 fe d6 V;have bd:Hid _:=d6;clear d6 V)))
    have bf:=b9.o.trans bd.o;refine⟨⟨i+1,xs++[.slice a9 n9 c9,U vd],by omega,by go_num,?_,?_,O.o.trans bf⟩,by simp[intOf];omega⟩
    ·unfold Hid;rw[q.o,Kj,HN.o];exact fe.o
    unfold Hid;rw[q.o];exact(y.o.l bf (by omega)).append (Dj (r:=(cs,vd)) (b8.o _ bf) ae.o)
   have da:m=0:=by omega
   have fi:=Z (by rw[ba.o,da];rfl:D.atKey (.int .i64 (i:Int)) (.lit (.int .i64 0))=.lit (.int .i64 0));have q:Hid (bN (f,d) 0 (f.take (i+1))=K):=by unfold Hid;rw[S.o,a2.o,KD bb];simp
   clear S a2 ba da bb
   go_wp2_with (first
    |(at_lookup;rw[<-d4.o];go_must (refine wpList_lookup_own_int _ rfl _ _ 110 rfl 3 3 .i64 iK Tryz.underlying110 underlying3 (jj _) mb 1000 D rfl d3.o _ _ rfl (KF underlying3 d5) ?_;intro cc j bc;obtain rfl:cc=0:=(by have a3:=j.symm.trans fi.o;simpa using a3);clear j bc)))
   refine⟨⟨i+1,xs,by omega,by go_num,?_,?_,O.o.trans b9.o⟩,by simp[intOf];omega⟩
   ·unfold Hid;rw[q.o,HN.o];exact d2.o
   unfold Hid;rw[q.o];exact y.o.l b9.o (by omega)
  have e:i=F:=by omega
  subst e;have HE:=Z (by rw[<-I.o,L6]:f.take i=f)
  rw[HE.o] at HO y Q R |-
  have⟨K,hK⟩:=nM (bN (f,d) 0 f);have fl:Hid (∀r∈K,r.1.length<=1000):=λr Y=>by rw[hK] at Y;have:=ej.o r (kq _ _ _ r Y);omega
  rw[<-hK] at HO y Q R c6 |-
  clear hK;have hR:bD C.1.size C (.slice va K.length vc) K:=rG HO.o y.o (by omega);have bg:=Z λw' (h:bL C w')=>vR C.1.size va K.length vc K d w' (hR.l h lE) (by omega)
  have dc:Hid (∀w',bL C w'->cL 108 #[.agg #[.slice va (cF d K).length vc,U d]] w' λe de=>∃v,e=.returned v/\bE w'.1.size de v (cF d K,d)/\bL w' de):=λw' h=>by
   have ht:=oL d K;have fp:(cF d K).length<=K.length:=by rw[ht,Kt];omega
   refine pH C.1.size _ (cF d K,d) w' ⟨_,rfl,bx.o,?_⟩ h.size (by show (cF d K).length<=1000;omega) (λr Y=>fl.o r (by rw[ht] at Y;exact KZ Y));have:=sf (hR.l h lE) (cF d K).length fp;rw[<-ht] at this;exact this
  have i1:¬((i:Int)<(i:Int)):=by omega
  have df:=Z gr;have b3:=Z P;have bk:=DV.ne C (w.1.size+1);have q1:∀z:DV C (w.1.size+1),z.1.cell? (pW w 1)=some (U d):=λz=>z.cell (J1 gp) (Nat.lt_succ_self _)
  have a4:=Z (by omega:w.1.size+1<C.1.size)
  have W:Hid (∀fs w',E3 C (w.1.size+1) (cF d K,d) fs w'->∃z:DV C (w.1.size+1),w'=z.1):=λfs w' h=>⟨⟨w',h.below⟩,rfl⟩
  have⟨KL,di⟩:=nM (K.length);have⟨CL,dk⟩:=nM ((cF d K).length)
  rw[<-di] at bg |-
  rw[<-dk] at bg dc;clear hR HO y gp gr P di dk Q R eN;go_wp2_with fail;refine bJ [_,_,_,_,_,_,_,_,_] _ rfl (λk=>k==3||k==7||k==8) (E3 C (w.1.size+1) (cF d K,d)) (JT (.slice va CL vc) d) (Gf _ _) (by kernel_rfl) (by kernel_rfl) E3.start ?_;iterate 3(refine aP W.o rfl rfl ?_;go_big_quiet_step (fail);refine Km ?_)
  refine bw 237 #[.slice va KL vc,U d] rfl rfl (λw'=>by kernel_rfl) (λgs w' l s t=>?_) (λv3 fr=>?_)
  ·have fv:∀u,¬gs 7 u:=λu h7=>by have⟨u',h3⟩:=l.first u h7;exact t _ h3
   have bm:∀u,¬gs 8 u:=λu h8=>by have⟨v,d',h1,_⟩:=l.stored u h8;exact fv _ h1
   refine(bg.o w' (l.early bm)).mono ?_;rintro e w2 ⟨rfl,rfl⟩;exact⟨_,rfl,rfl,l.other _⟩
  go_frame;obtain rfl:v3=.slice va CL vc:=fr;iterate 2(refine aP W.o rfl rfl ?_;go_big_quiet_step (fail);refine Km ?_)
  refine fD (.agg #[.slice va CL vc,U d]) rfl rfl (λw'=>?_) ?_
  ·clear q1 W bk;go_simp
  go_frame;refine bw 108 #[.agg #[.slice va CL vc,U d]] rfl rfl (λw'=>by kernel_rfl) (λgs w' l s t=>?_) (λv7 fT=>?_)
  ·have bm:∀u,¬gs 8 u:=λu h8=>by have⟨v,d',h1,_⟩:=l.stored u h8;exact t _ h1
   refine(dc.o w' (l.early bm)).mono ?_;rintro e w2 ⟨v,rfl,dn,hb⟩;obtain⟨vr,ev,hC,a7,c7,er,-⟩:=dn.at;exact⟨v,rfl,⟨a7,_,c7,by rw[ev,er]⟩,l.copy t (s 3 _ (.inr ⟨rfl,rfl⟩) (au (by kernel_rfl))) a4.o hb v dn⟩
  go_frame;obtain⟨a7,n7,c7,rfl⟩:∃a n c,v7=.agg #[.slice a n c,U d]:=fT;refine fL rfl rfl (λgs w' l s t=>⟨(w'.setCell (pA (w.1.size+1) 0) (.slice a7 n7 c7)).setCell (pA (w.1.size+1) 1) (U d),?_,trivial,l.store t a4.o _ _ _ (s 7 _ (.inr ⟨rfl,rfl⟩) (au (by kernel_rfl))) df.o⟩) (λv8 hE=>?_)
  ·have hg:=((l.early t).block _ a4.o).trans df.o;have r0:=J0 hg;have r1:=J1 hg;have f0:=fZ hg 0;have f1:=fZ hg 1;clear l s t q1 W bk hg;go_simp
  go_frame;refine ei ?_;intro w9 l;obtain⟨vv,dd,bo,V⟩:=l.stored _ (.inr ⟨rfl,rfl⟩);have e9:=l.one _ _ bo (.inl (.inr ⟨rfl,rfl⟩));simp at e9;obtain⟨rfl,rfl⟩:=e9;have g1:Hid (bE w.1.size w9 (.agg #[.slice a7 n7 c7,U d]) (cF d K,d)):=(l.copied _ bo).keep (by have:=a4.o;omega) (λ_ _ _=>rfl) lE;have bd:Hid (bL w w9):=b3.o.trans (l.below.mono (Mb _));have r0:=J0 V;have r1:=J1 V;clear l V bo q1 W bk;go_wp2_with fail;refine Ka (v:=.tuple #[.agg #[.slice a7 n7 c7,U d],U 0]) ?_ rfl ⟨_,by rw[ce.o],by rw[c6.o];exact g1.o,bd.o⟩;rw[K8 rfl];go_simp
end
def gm(s:Bs):az × Int:=
 if bt kN ((ar s).getD 0 [])<0\/(bt kN ((ar s).getD 0 [])=3/\(ar s).length≠2)\/(bt kN ((ar s).getD 0 [])<3/\(ar s).length≠3) then (cu,1)
 else match cS ((ar s).getD 1 []) with
  |none=>(cu,1)
  |some c=>if bt kN ((ar s).getD 0 [])=2 then (match cS ((ar s).getD 2 []) with
    |none=>(cu,1)
    |some f=>((3,c,f,[],0),0))
   else if bt kN ((ar s).getD 0 [])=3 then ((4,c,0,[],0),0)
   else ((bt kN ((ar s).getD 0 [])+1,c,0,(cG ((ar s).getD 2 [])).1),(cG ((ar s).getD 2 [])).2)
theorem I2(s:Bs):ch s=if (gm s).2=0 then gP (gm s).1 else (cu,(gm s).2):=by
 unfold ch gm
 split
 ·rfl
 cases cS ((ar s).getD 1 []) with
 |none=>rfl
 |some c=>
  simp only[]
  split
  ·cases cS ((ar s).getD 2 []) with
   |none=>rfl
   |some f=>rfl
  split
  ·rfl
  rfl
abbrev oU(s:ByteArray)(w:World):Prop:=cL 139 #[.string s] w λe a=>∃v,e=.returned (.tuple #[v,U (gm s.1.1).2])/\gi w.1.size a v (gm s.1.1).1/\bL w a
theorem Ft(s:ByteArray)(A:s.size<=60000)(w)(S:dD w)(c:bt kN ((ar s.1.1).getD 0 [])<0\/(bt kN ((ar s.1.1).getD 0 [])=3/\(ar s.1.1).length≠2)\/(bt kN ((ar s.1.1).getD 0 [])<3/\(ar s.1.1).length≠3)):oU s w:=by
 have b:Hid (gm s.1.1=(cu,1)):=by unfold Hid gm;rw[Io c]
 have HE:=Z λi (h:bL w i)=>S.l h
 clear S;have⟨I,f,af,ak,q,B⟩:=il s A;have HM:=Z f;have al:=Z q;obtain⟨r,n⟩:∃u,I[0]?=some u:=⟨I[0]'(by omega),by simp⟩;have J:=q r (Kb n);have C:(ar s.1.1).getD 0 []=r.1.1:=by rw[<-f,Kn,Ku,n];rfl
 have j:(ar s.1.1).length=I.length:=by rw[<-f];simp
 have⟨K,o⟩:=nM (w.alloc (.cells #[U 0,U 0,U 0,nL,U 0] 70));have T:=hA o;have t:=bA o;have L:=Z λi (h:bL K i)=>Q2 (h.bl T) (t.th h)
 have⟨mm,V⟩:=(HE.o K t).1;have p:Hid _:=B mm K V;have W:=Z o;clear o T t B V f q;rw[C,j] at c;have M:=Z λi=>kt r i
 have x:=jh kN r.1.1;have y:=D8 r.1.1;have N:=Z n;clear C j n J;generalize bt kN r.1.1=D at*;generalize E:I.length=O at*;have av:=Z E;clear E;go_enter func139,ntmps139;go_wp2_with fail;rw[<-W.o];go_at_call 106;refine Calls.mono p.o ?_;rintro e w1 ⟨SB,b0,rfl,b1,b2,F,G,X,k⟩;have x0:=k 0 r N.o;have n0:(0:Int)<(O:Int):=by omega
 clear k p W G;go_wp2_with fail;go_at_call 173;refine Calls.mono (M.o _) ?_;rintro e w2 ⟨rfl,H⟩;have g:=F.th H;clear H F x0
 by_cases l:D<0
 ·have P:decide (0<=D)=false:=by simp;omega
  rw[P];clear c x y l;have⟨a,d⟩:=L.o w2 g;have Y:=io a;have⟨z0,z1,z2,z3,z4⟩:=aF a;have f0:=fZ a 0;have f1:=fZ a 1;have f2:=fZ a 2;have f3:=fZ a 3;have f4:=fZ a 4;have m:=Z d;clear a d g;go_wp2_with fail;refine Ka (v:=.tuple #[.agg #[U 0,U 0,U 0,nL,U 0],U 1]) ?_ rfl ⟨_,by rw[b.o],by rw[b.o];exact dg _ _,?_⟩
  ·rw[K8 rfl];go_simp
  exact(m.o.s5 lE)
 have P:decide (0<=D)=true:=by simp;omega
 rw[P]
 by_cases h3:D=3
 ·have ac:((O:Int) != 2)=true:=by simp;omega
  subst h3;have z:=Z λi=>sq i
  clear c x y l;go_wp2_with fail;go_at_call 174;refine Calls.mono (z.o _) ?_;rintro e Q ⟨rfl,rfl⟩;have⟨a,d⟩:=L.o Q g;have Y:=io a;have⟨z0,z1,z2,z3,z4⟩:=aF a;have f0:=fZ a 0;have f1:=fZ a 1;have f2:=fZ a 2;have f3:=fZ a 3;have f4:=fZ a 4;have m:=Z d;clear a d g;go_wp2_with fail;refine Ka (v:=.tuple #[.agg #[U 0,U 0,U 0,nL,U 0],U 1]) ?_ rfl ⟨_,by rw[b.o],by rw[b.o];exact dg _ _,?_⟩
  ·rw[K8 rfl];go_simp
  exact(m.o.s5 lE)
 have ad:((O:Int) != 3)=true:=by simp;omega
 have z:Hid (∀i,cL 174 #[U (1+D)] i λe R=>e=.returned (U 3)/\R=i):=λi=>ni (by omega) i
 clear c x y l h3;go_wp2_with fail;go_at_call 174;refine Calls.mono (z.o _) ?_;rintro e Q ⟨rfl,rfl⟩;have⟨a,d⟩:=L.o Q g;have Y:=io a;have⟨z0,z1,z2,z3,z4⟩:=aF a;have f0:=fZ a 0;have f1:=fZ a 1;have f2:=fZ a 2;have f3:=fZ a 3;have f4:=fZ a 4;have m:=Z d;clear a d g;go_wp2_with fail;refine Ka (v:=.tuple #[.agg #[U 0,U 0,U 0,nL,U 0],U 1]) ?_ rfl ⟨_,by rw[b.o],by rw[b.o];exact dg _ _,?_⟩
 ·rw[K8 rfl];go_simp
 exact(m.o.s5 lE)
