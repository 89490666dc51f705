import Derived.Test.YtjdnfhkkkejcfaaGreatDoorWd39
import Derived.Test.YtjdnfhkkkejcfaaGreatDoorWd41
set_option linter.all false
set_option maxRecDepth 100000
set_option maxHeartbeats 4000000
namespace Go.Proofs.YtjdnfhkkkejcfaaGreatDoor
open Go.RowKit Go.Maps Go.Proofs.Tryz
theorem Fy(B v d w)(he:dD w)(hd:cJ B w v d)(R:B<=w.1.size)(F:sW d):
  cL 71 #[v] w λe n=>∃v',e=.returned (.tuple #[v',U (fm d)])/\cV w.1.size n v' (i7 d)/\bL w n:=by
 obtain⟨sv,tv,rfl,S,T⟩:=id hd;obtain⟨s,t⟩:=d;simp only[] at S T;obtain⟨a,c,e1,-,-,-⟩:=id S;obtain⟨b,c2,e2,V,Y,-⟩:=id T;subst e1 e2;have⟨W,L⟩:=nM ((w.alloc (.cells #[.slice a s.length c,.slice b t.length c2] 25)).alloc (.cells #[nL,nL] 25));have k:=bB L;have g0:Na W w.1.size #[.slice a s.length c,.slice b t.length c2] 25:=by rw[L];exact dF _ (aY _ _ rfl)
 have g1:Na W (w.1.size+1) #[nL,nL] 25:=by rw[L];exact aY _ _ (by simp only[Kg])
 have b2:=sB L;have f:Hid _:=jD B _ (s,t) W (he.l k) (hd.l k R) (by omega) F;obtain⟨y0,y1,-,-⟩:=ag g0;have HW:=Z L;have c1:=Z k;generalize a1:aB (s,t)=DE at*;have l:=Z a1;have⟨N,M⟩:=nM (s.length);have⟨m,O⟩:=nM (t.length)
 rw[<-M] at HW f y0 g0 |-
 rw[<-O] at HW f y1 g0 |-
 have HN:=Z M;have HM:=Z O;clear L a1 M O;go_enter func71,ntmps71;go_wp2_with fail;rw[<-HW.o];go_at_call 26;refine Calls.mono f.o ?_;rintro e w1 ⟨rfl,z⟩;have G0:=z.bl g0;have G1:=z.bl g1;have h:=k.th z;have a4:=io G1;have⟨z0,z1,f0,f1⟩:=ag G1;obtain⟨x0,x1,-,-⟩:=ag G0;clear y0 y1 f g0 g1 b2 z HW
 by_cases hE:DE=0
 ·subst hE;have O:=HM.o;have M:=HN.o;obtain⟨-,-,a6,-⟩:=dE l.o;simp only[] at a6;have A:=Z h;have c7:=Z G0;have b3:=Z G1
  have a7:Hid (∀n,bL w n->cL 91 #[.slice a N c,.slice b m c2] n λe G=>∃v,e=.returned v/\cg n.1.size G v (s++t)/\bL n G):=λn hb=>by
   rw[M,O]
   exact(kK B _ _ s t n (S.l hb R) (T.l hb R) (hb.u R) (by omega)).mono λe G ⟨v,h1,_,h3,h4⟩=>⟨v,h1,h3,h4⟩
  have HE:=Z λn (hb:bL w n)=>he.l hb
  have g:Hid (fm (s,t)=aB (s++t,[])/\i7 (s,t)=if aB (s++t,[])=0 then (s++t,[]) else ([],[])):=by
   have e:fm (s,t)=aB (s++t,[]):=by unfold fm km;rw[Io l.o]
   exact⟨e,by unfold i7;rw[e]⟩
  have a9:Hid (sW (s++t,[])):=by unfold Hid sW;simp;omega
  clear G0 G1 h S T hd l F V Y k M O a6;go_wp2_with fail;go_at_call 91;refine Calls.mono (a7.o w1 A.o) ?_;rintro e w2 ⟨jv,rfl,i,H⟩;obtain⟨P,Q,ej⟩:=i.shape;subst ej;have⟨X,hX⟩:=nM (s++t)
  rw[<-hX] at i g a9 |-
  have⟨W3,C⟩:=nM (w2.alloc (.cells #[.slice P X.length Q,nL] 25));have I:=bA C;have g3:=hA C;have o:=H.th I;have D:=A.o.th o;have p:=i.l I;have f:Hid _:=jD W3.1.size (.agg #[.slice P X.length Q,nL]) (X,[]) W3 (HE.o W3 D) ⟨_,_,rfl,p.at,ip _ _⟩ lE a9.o;have J:=Z p;have b5:=Z C;have aa:=Z o;have K:=Z g3;have br:=H.size;generalize ac:X.length=xl at*;have cd:=Z ac;clear ac hX i H C I g3 o D p a7 x0 x1;generalize aB (X,[])=de at*;go_wp2_with fail;rw[<-b5.o];go_at_call 26;refine Calls.mono f.o ?_;rintro e w4 ⟨rfl,q⟩;have j:=aa.o.th q;have r:=A.o.th j;have G4:=(j.block _ a4).trans b3.o;have G5:=q.bl K.o;have⟨u0,u1,ce,cf⟩:=ag G4;obtain⟨v0,v1,-,-⟩:=ag G5;have HF:Hid (∀x y,bL w ((w4.setCell (pA (w.1.size+1) 0) x).setCell (pA (w.1.size+1) 1) y)):=λx y=>dS r (by omega) x y
  by_cases h0:de=0
  ·subst h0;have⟨k0,k1,k2⟩:=ic (u:=.slice P xl Q) (v:=nL) G4;have ad:Hid (cV w.1.size ((w4.setCell (pA (w.1.size+1) 0) (.slice P xl Q)).setCell (pA (w.1.size+1) 1) nL) (.agg #[.slice P xl Q,nL]) (X,[])):=kS (((J.o.l q).keep k1 a4 k2).mono A.o.size) (zD _ _);have E:=Z2 g.o.1 (by rw[g.o.2,Io rfl]:i7 (s,t)=(X,[]));have bz:w2.1.size≠w.1.size+1:=by omega
   clear G4 G5 j r q k0 k1 k2 f J K g z0 z1 f0 f1;go_wp2_with fail;refine Ka (v:=.tuple #[.agg #[.slice P xl Q,nL],U 0]) ?_ rfl ⟨_,by rw[E.o.1],by rw[E.o.2];exact ad.o,HF.o _ _⟩;rw[K8 rfl];go_simp
  have hq:(de != 0)=true:=by simpa using h0
  have E:=Z2 g.o.1 (by rw[g.o.2,iO h0]:i7 (s,t)=([],[]));clear G4 G5 j r q f J K g z0 z1 f0 f1 h0 v0 v1;go_wp2_with fail;refine Ka (v:=.tuple #[.agg #[nL,nL],U de]) ?_ rfl ⟨_,by rw[E.o.1],by rw[E.o.2];exact eX _ _,HF.o _ _⟩;rw[K8 rfl];go_simp
 have hq:(DE != 0)=true:=by simpa using hE
 have E:Hid (fm (s,t)=DE/\i7 (s,t)=([],[])):=by
  have e:fm (s,t)=DE:=by unfold fm;rw[iO (by rw[l.o];exact hE),l.o]
  exact⟨e,by unfold i7;rw[e,iO hE]⟩
 have HF:Hid (∀x y,bL w ((w1.setCell (pA (w.1.size+1) 0) x).setCell (pA (w.1.size+1) 1) y)):=λx y=>dS h (by omega) x y
 clear G0 G1 h S T hd l R F V Y k hE;go_wp2_with fail;refine Ka (v:=.tuple #[.agg #[nL,nL],U DE]) ?_ rfl ⟨_,by rw[E.o.1],by rw[E.o.2];exact eX _ _,HF.o _ _⟩;rw[K8 rfl];go_simp
theorem GJ(B v rv d r w)(he:dD w)(hd:cJ B w v d)(hr:cI B w rv r)(hB:B<=w.1.size)(b4:sW d):
  cL 100 #[v,rv] w λe f=>∃v',e=.returned (.tuple #[v',U (f8 d r)])/\cV w.1.size f v' (fu d r)/\bL w f:=by
 obtain⟨sv,tv,rfl,hs,ht⟩:=id hd;obtain⟨s,t⟩:=d;simp only[] at hs ht;obtain⟨a,c,e1,-,-,-⟩:=id hs;obtain⟨b,c2,e2,bz,bF,-⟩:=id ht;subst e1 e2;obtain⟨r1,r2,r3,rr,r4⟩:=r;obtain⟨ra,rc,er,-⟩:=hr.shape;subst er;simp only[] at*;have b5:=Z λf (hb:bL w f)=>hr.l hb hB
 obtain⟨r,c4⟩:∃r:az,r=(r1,r2,r3,rr,r4):=⟨_,rfl⟩
 rw[<-c4] at b5 |-
 have⟨W,hW⟩:=nM (((w.alloc (.cells #[.slice a s.length c,.slice b t.length c2] 25)).alloc (.cells #[U r1,U r2,U r3,.slice ra rr.length rc,U r4] 70)).alloc (.cells #[nL,nL] 25));have K:bL w W:=by rw[hW];exact((bR.alloc lE _).alloc (by simp) _).alloc (by simp;omega) _
 have g0:Na W w.1.size #[.slice a s.length c,.slice b t.length c2] 25:=by rw[hW];exact dF _ (dF _ (aY _ _ rfl))
 have gr:Na W (w.1.size+1) #[U r1,U r2,U r3,.slice ra rr.length rc,U r4] 70:=by rw[hW];exact dF _ (aY _ _ (by simp only[Kg]))
 have g1:Na W (w.1.size+1+1) #[nL,nL] 25:=by rw[hW];exact aY _ _ (by simp only[Kg])
 have e6:W.1.size=w.1.size+1+1+1:=by rw[hW];simp
 have ac:Hid _:=jD B _ (s,t) W (he.l K) (hd.l K hB) (by omega) b4;obtain⟨y0,y1,-,-⟩:=ag g0;have HW:=Z hW;have gb:=Z K;generalize c7:aB (s,t)=DE at*;have L:=Z c7;have⟨N,hN⟩:=nM (s.length);have⟨m,hm⟩:=nM (t.length);have⟨rl,c9⟩:=nM (rr.length)
 rw[<-c9] at HW gr b5 |-
 rw[<-hN] at HW ac y0 g0 |-
 rw[<-hm] at HW ac y1 g0 |-
 have HN:=Z hN;have HM:=Z hm;have⟨t0,t1,t2,t3,t4⟩:=aF gr;clear hW c7 hN hm c9 hr;go_enter func100,ntmps100;go_wp2_with fail;rw[<-HW.o];go_at_call 26;refine Calls.mono ac.o ?_;rintro e w1 ⟨rfl,Y⟩;have Q:=Y.bl g0;have I:=Y.bl g1;have A:=K.th Y;have Gr:=Y.bl gr;have eg:=io I;have⟨z0,z1,f0,f1⟩:=ag I;obtain⟨x0,x1,-,-⟩:=ag Q;have⟨p0,p1,p2,p3,p4⟩:=aF Gr;clear y0 y1 ac g0 g1 e6 Y HW gr t0 t1 t2 t3 t4
 by_cases hE:DE=0
 ·subst hE;have hm:=HM.o;have hN:=HN.o;obtain⟨-,-,cd,-⟩:=dE L.o;simp only[] at cd;have ej:=Z A;have ce:=Z Q;have cf:=Z I;have ad:Hid _:=CA B _ r w1 (he.l A) (b5.o w1 A) (by omega);have ci:Hid (f8 (s,t) r=lz (s,t) r):=by unfold Hid f8;rw[Io L.o]
  have⟨P,hP⟩:=nM (fP r);have⟨E,b9⟩:=nM (aZ r);have F:=Z (by rw[ci.o];unfold lz;rw[<-hP,<-b9,<-hN,<-hm]:f8 (s,t) r=if E=0 then (if 60000<N+m+P.length+1 then 2 else 0) else E);have C:Hid (fu (s,t) r=if f8 (s,t) r=0 then (s,t++(P++[10])) else ([],[])):=by unfold Hid fu;rw[<-hP]
  have ba:P.length<=100000000:=by rw[hP];exact uZ r
  rw[<-hP,<-b9] at ad;have⟨pn,ae⟩:=nM (P.length);have cl:=Z ae.symm;rw[<-ae] at ba F;have⟨PS,bc⟩:=nM (dU P);have bd:=Z (by rw[bc];exact⟨by rw[ae];simp[dU,ByteArray.size],Ee P⟩:PS.size=pn/\PS++⟨#[10]⟩=dU (P++[10]));rw[<-bc] at ad;have co:N+m<=60000:=by omega
  have el:Hid (∀f,bL w f->cL 91 #[.slice a N c,nL] f λe g=>∃v,e=.returned v/\cg f.1.size g v s/\bL f g):=λf a1=>by
   have:=kK B _ _ s [] f (hs.l a1 hB) (ip B f) (a1.u hB) (by simp;omega);rw[LI] at this;rw[hN]
   exact this.mono λe g ⟨v,h1,_,h3,h4⟩=>⟨v,h1,h3,h4⟩
  have en:Hid (∀f u x,bL w f->aI f.1.size f u x->x.length<=60001->cL 91 #[.slice b m c2,u] f λe g=>∃v,e=.returned v/\cg f.1.size g v (t++x)/\bL f g):=λf u x a1 hu hx=>by
   have:=kK f.1.size _ _ t x f ((ht.l a1 hB).wide (a1.u hB)) hu lE (by omega);rw[hm]
   exact this.mono λe g ⟨v,h1,_,h3,h4⟩=>⟨v,h1,h3,h4⟩
  have cv:=Z λf=>yS a b N c m c2 f (by omega)
  have Hl:=Z eg;clear Q I Gr A hd L b4 bz bF K hN hm hP b9 ae bc ci cd hs ht c4;go_wp2_with fail;go_at_call 128;refine Calls.mono ad.o ?_;rintro e w2 ⟨rfl,af⟩;have av:=ej.o.th af;have Q:=af.bl ce.o;have I:=af.bl cf.o;have gT:=io I;clear z0 z1 f0 f1 x0 x1 p0 p1 p2 p3 p4 ad;have⟨z0,z1,f0,f1⟩:=ag I;obtain⟨x0,x1,-,-⟩:=ag Q;have bf:=Z av;have cx:=Z Q;have cT:=Z I;clear ce cf Q I af av
  by_cases hE:E=0
  ·subst hE;have eq:=bd.o.1;have D:=Z (by rw[F.o,Io rfl]:f8 (s,t) r=if 60000<N+m+pn+1 then 2 else 0);clear F;go_wp2_with fail;go_at_call 55;refine Calls.mono (cv.o w2) ?_;rintro e T ⟨rfl,ak⟩;rw[bd.o.2];have⟨XS,al⟩:=nM (dU (P++[10]));have bg:=Z al;have d1:XS.size=pn+1:=by rw[al];simp[dU,ByteArray.size,cl.o]
   rw[<-al];clear al eq bd cv;have b0:=bf.o.th ak;have Q:=ak.bl cx.o;have I:=ak.bl cT.o;have ao:=io I;clear z0 z1 f0 f1 x0 x1;have⟨z0,z1,f0,f1⟩:=ag I;obtain⟨x0,x1,-,-⟩:=ag Q;have M:=Z b0;have d2:=Z Q;have d3:=Z I;clear cx cT Q I ak b0 bf;obtain⟨zz,bk⟩:∃zz:Int,zz=(N:Int)+(m:Int)+((pn:Int)+1):=⟨_,rfl⟩;have bm:=Z bk;have es:IntKind.i64.wrap ((N:Int)+(m:Int)+((pn:Int)+1))=zz:=by rw[bk];exact KA _ (by omega)
   have et:(XS.size:Int)=(pn:Int)+1:=by omega
   clear bk
   by_cases fo:60000<zz
   ·have V:Hid (f8 (s,t) r=2/\fu (s,t) r=([],[])):=by
     have hz:=bm.o;have e:f8 (s,t) r=2:=by rw[D.o,Io (by omega)]
     exact⟨e,by rw[C.o,e,iO (by decide)]⟩
    have HF:Hid (∀x y,bL w ((T.setCell (pA (w.1.size+1+1) 0) x).setCell (pA (w.1.size+1+1) 1) y)):=λx y=>dS M.o (by omega) x y
    clear D C d1 ba co;go_wp2_with fail;refine Ka (v:=.tuple #[.agg #[nL,nL],U 2]) ?_ rfl ⟨_,by rw[V.o.1],by rw[V.o.2];exact eX _ _,HF.o _ _⟩;rw[K8 rfl];go_simp
   have V:Hid (f8 (s,t) r=0/\fu (s,t) r=(s,t++(P++[10]))):=by
    have hz:=bm.o;have e:f8 (s,t) r=0:=by rw[D.o,iO (by omega)]
    exact⟨e,by rw[C.o,e,Io rfl]⟩
   have b1:Hid (pn+1<=60001):=by have hz:=bm.o;unfold Hid;omega
   clear D C ba co;have⟨X,hX⟩:=nM (P++[10]);have ew:Hid (X.length<=60001):=by have:=b1.o;unfold Hid;rw[hX,Kj,cl.o];exact this
   rw[<-hX] at V bg
   have ex:Hid (∀f,∃a n a3 g,(convert 9 23 (.string XS)).run prog f=.ok (.slice a n a3) g/\aI g.1.size g (.slice a n a3) X/\bL f g):=λf=>by
    obtain⟨a3,g,h1,h2,h3⟩:=wB XS f (by have:=b1.o;omega);have e:XS.1.1=X:=by rw[bg.o];simp[dU]
    rw[e] at h2;exact⟨_,_,a3,g,h1,h2,h3⟩
   clear hX bg
   obtain⟨G,hG⟩:∃G:Nat->World->Value->Prop,G=λj f u=>(j=2->cg T.1.size f u s)/\(j=6->aI f.1.size f u X)/\(j=7->cg T.1.size f u (t++X)):=⟨_,rfl⟩
   have bo:Hid (∀j u w f,bL w f->G j w u->G j f u):=λj u w f hb h=>by
    rw[hG] at h |-
    exact⟨λe=>(h.1 e).l hb,λe=>((h.2.1 e).l hb lE).wide hb.size,λe=>(h.2.2 e).l hb⟩
   have d5:Hid (∀f u,G 2 f u ↔ cg T.1.size f u s):=λf u=>by rw[hG];simp
   have d6:Hid (∀f u,G 6 f u ↔ aI f.1.size f u X):=λf u=>by rw[hG];simp
   have da:Hid (∀f u,G 7 f u ↔ cg T.1.size f u (t++X)):=λf u=>by rw[hG];simp
   obtain⟨R,hR⟩:∃R:Value->Value->World->Prop,R=λp q f=>cg T.1.size f p s/\cg T.1.size f q (t++X):=⟨_,rfl⟩
   have HR:Hid (∀p q f,R p q f ↔ cg T.1.size f p s/\cg T.1.size f q (t++X)):=λp q f=>by rw[hR]
   obtain⟨S,hS⟩:∃S:Nat->Value->Prop,S=λj v=>j≠9->∃a n c,v=.slice a n c:=⟨_,rfl⟩
   have O:Hid (∀j v,j≠9->(S j v ↔ ∃a n c,v=.slice a n c)):=λj v hj=>by rw[hS];simp[hj]
   have ey:=Z (by rw[hS];exact λe=>absurd rfl e:S 9 undef)
   have eF:Hid (∀j,∃v,S j v):=λj=>⟨nL,by rw[hS];exact λ_=>⟨_,_,_,rfl⟩⟩
   clear hG hR hS;have q0:∀z:uL w.1.size (.slice a N c) (.slice b m c2),z.1.cell? (pW w 0)=some (.slice a N c):=λz=>z.2.1
   have q1:∀z:uL w.1.size (.slice a N c) (.slice b m c2),z.1.cell? (pW w 1)=some (.slice b m c2):=λz=>z.2.2
   have dc:Nonempty (uL w.1.size (.slice a N c) (.slice b m c2)):=⟨⟨T,x0,x1⟩⟩
   have a5:Hid (∀fs f,JD (w.1.size+1+1) 9 [2,6,7] T G R fs f->∃z:uL w.1.size (.slice a N c) (.slice b m c2),f=z.1):=λfs f h=>⟨⟨f,J0 (h.box d2.o (by omega)),J1 (h.box d2.o (by omega))⟩,rfl⟩
   go_wp2_with fail;clear d1 et es;refine bJ [_,_,_,_,_,_,_,_,_,_] _ rfl (λk=>k==2||k==6||k==7||k==9) (JD (w.1.size+1+1) 9 [2,6,7] T G R) S eF.o (by kernel_rfl) (by kernel_rfl) (JD.start _ _ _ _ _ _) ?_;iterate 2(refine aP a5.o rfl rfl ?_;go_big_quiet_step (fail);refine Km ?_)
   refine bw 91 #[.slice a N c,nL] rfl rfl (λf=>by kernel_rfl) (λgs f J i o=>?_) (λv2 eO=>?_)
   ·obtain⟨-,l,-⟩:=J.ahead (.inr (by simp)) o;refine(el.o f (M.o.th l)).mono ?_;rintro e w4 ⟨u,rfl,H,hb⟩;obtain⟨ua,uc,eu⟩:=H.shape;exact⟨_,rfl,(O.o 2 _ (by decide)).2 ⟨_,_,_,eu⟩,J.put bo.o (by simp) (by decide) o hb ((d5.o _ _).2 (H.mono l.size))⟩
   go_frame;obtain⟨a2,n2,k2,rfl⟩:=(O.o 2 _ (by decide)).1 eO;iterate 3(refine aP a5.o rfl rfl ?_;go_big_quiet_step (fail);refine Km ?_)
   refine cz rfl rfl (λgs f J i o=>?_) (λv6 f3=>?_)
   ·have⟨ca,cn,a3,g,r1,r2,r3⟩:=ex.o f;refine⟨_,g,?_,(O.o 6 _ (by decide)).2 ⟨_,_,_,rfl⟩,J.put bo.o (by simp) (by decide) o r3 ((d6.o _ _).2 r2)⟩;unfold execOp;simp only[resolve,invoke,builtin,Lj,My,LW,M4,Lt,Mz];exact(congrArg (λr=>Result.andThen r λv w=>.ok (Next.value v) w) r1)
   go_frame;obtain⟨a6,n6,k6,rfl⟩:=(O.o 6 _ (by decide)).1 f3;refine bw 91 #[.slice b m c2,.slice a6 n6 k6] rfl rfl (λf=>by kernel_rfl) (λgs f J i o=>?_) (λv7 f4=>?_)
   ·have h6:=i 6 _ (.inr ⟨rfl,rfl⟩) (au (by kernel_rfl));obtain⟨-,l,hG⟩:=J.ahead (.inr (by simp)) o;refine(en.o f _ X (M.o.th l) ((d6.o _ _).1 (hG 6 _ h6)) ew.o).mono ?_;rintro e w4 ⟨u,rfl,H,hb⟩;obtain⟨ua,uc,eu⟩:=H.shape;exact⟨_,rfl,(O.o 7 _ (by decide)).2 ⟨_,_,_,eu⟩,J.put bo.o (by simp) (by decide) o hb ((da.o _ _).2 (H.mono l.size))⟩
   go_frame;obtain⟨a7,n7,k7,rfl⟩:=(O.o 7 _ (by decide)).1 f4;refine aP a5.o rfl rfl ?_;go_big_quiet_step (fail);refine Km ?_;refine fL rfl rfl (λgs f J i o=>?_) (λv9 hh=>?_)
   ·have h2:=i 2 _ (.inl (.inl (.inr ⟨rfl,rfl⟩))) (au (by kernel_rfl));have h6:=i 6 _ (.inl (.inr ⟨rfl,rfl⟩)) (au (by kernel_rfl));have h7:=i 7 _ (.inr ⟨rfl,rfl⟩) (au (by kernel_rfl));obtain⟨-,l,hG⟩:=J.ahead (.inl rfl) o;have a8:=(l.block _ ao).trans d3.o;have⟨hi,hl,hn,ho⟩:=ag a8
    refine⟨(f.setCell (pA (w.1.size+1+1) 0) (.slice a2 n2 k2)).setCell (pA (w.1.size+1+1) 1) (.slice a7 n7 k7),?_,ey.o,J.store o (λk hk=>by
     simp at hk
     rcases hk with rfl|rfl|rfl
     ·exact⟨_,h2⟩
     ·exact⟨_,h6⟩
     exact⟨_,h7⟩) ((HR.o _ _ _).2 ⟨(d5.o _ _).1 (hG 2 _ h2),(da.o _ _).1 (hG 7 _ h7)⟩)⟩
    clear J i o q0 q1 a5 dc h2 h6 h7 l hG a8;go_simp
   go_frame;refine ei ?_;intro w4 J;have⟨w0,p,q,e4,l,dd⟩:=J.done (.inr ⟨rfl,rfl⟩);obtain⟨bp,bq⟩:=(HR.o _ _ _).1 dd;have a8:=(l.block _ ao).trans d3.o;have⟨k0,k1,k2⟩:=ic (u:=p) (v:=q) a8;rw[<-e4] at k0 k1 k2;obtain⟨ea,ec,ee⟩:=bp.shape;obtain⟨eb,ek,ef⟩:=bq.shape;subst ee ef;obtain⟨y0,y1,-,-⟩:=ag k0;have b2:Hid (cV w.1.size w4 (.agg #[.slice ea s.length ec,.slice eb (t++X).length ek]) (s,t++X)/\bL w w4):=by refine⟨kS ((bp.keep k1 ao k2).mono M.o.size) ((bq.keep k1 ao k2).mono M.o.size),?_⟩;rw[e4];exact dS (M.o.th l) (by omega) _ _
   generalize s.length=n1 at*;generalize (t++X).length=n2 at*;clear J e4 l dd bp bq a8 k0 k1 k2 q0 q1 a5 dc;go_wp2_with fail;refine Ka (v:=.tuple #[.agg #[.slice ea n1 ec,.slice eb n2 ek],U 0]) ?_ rfl ⟨_,by rw[V.o.1],by rw[V.o.2];exact b2.o.1,b2.o.2⟩;rw[K8 rfl];go_simp
  have hq:(E != 0)=true:=by simpa using hE
  have V:Hid (f8 (s,t) r=E/\fu (s,t) r=([],[])):=by
   have e:f8 (s,t) r=E:=by rw[F.o,iO hE]
   exact⟨e,by rw[C.o,e,iO hE]⟩
  have HF:Hid (∀x y,bL w ((w2.setCell (pA (w.1.size+1+1) 0) x).setCell (pA (w.1.size+1+1) 1) y)):=λx y=>dS bf.o (by omega) x y
  clear hE F C;go_wp2_with fail;refine Ka (v:=.tuple #[.agg #[nL,nL],U E]) ?_ rfl ⟨_,by rw[V.o.1],by rw[V.o.2];exact eX _ _,HF.o _ _⟩;rw[K8 rfl];go_simp
 have hq:(DE != 0)=true:=by simpa using hE
 have V:Hid (f8 (s,t) r=DE/\fu (s,t) r=([],[])):=by
  have e:f8 (s,t) r=DE:=by unfold f8;rw[iO (by rw[L.o];exact hE),L.o]
  exact⟨e,by unfold fu;rw[e,iO hE]⟩
 have HF:Hid (∀x y,bL w ((w1.setCell (pA (w.1.size+1+1) 0) x).setCell (pA (w.1.size+1+1) 1) y)):=λx y=>dS A (by omega) x y
 clear Q I Gr A hs ht hd L hB b4 bz bF K hE;go_wp2_with fail;refine Ka (v:=.tuple #[.agg #[nL,nL],U DE]) ?_ rfl ⟨_,by rw[V.o.1],by rw[V.o.2];exact eX _ _,HF.o _ _⟩;rw[K8 rfl];go_simp
section
structure AV (L1:Nat) (W:World) (lb:Option Nat) (X:Bs) (G10:World->Value->Prop) (fs:Nat->Value->Prop) (w:World):Prop where
 below:Below L1 W w
 grown:W.grownBy w lb
 still:(∀u,¬fs 10 u)->bL W w
 row6:∀u,fs 6 u->cg W.1.size w u X
 row10:∀u,fs 10 u->G10 w u
 need:∀u,fs 10 u->∃u',fs 6 u'
def JV(bo L1:Nat)(W:World)(lb:Option Nat)(X:Bs)(G10:World->Value->Prop)(fs:Nat->Value->Prop)(w:World):Prop:=
 ((∀u,¬fs 11 u)/\AV L1 W lb X G10 fs w)\/((∃u,fs 11 u)/\(∃u,fs 6 u)/\(∃u,fs 10 u)/\∃a p,w=(a.setCell (pA bo 0) p).setCell (pA bo 1) nL/\cg W.1.size a p X/\AV L1 W lb X G10 (λk u=>k≠11/\fs k u) a)
section
variable {bo L1:Nat} {W w w':World} {lb:Option Nat} {X:Bs} {G10:World->Value->Prop} {fs:Nat->Value->Prop}
theorem JV.start(bo L1 W lb X)(G10:World->Value->Prop):JV bo L1 W lb X G10 (λ_ _=>False) W.drew:=
 .inl ⟨λ_ h=>h,bR.drew,⟨rfl,rfl,rfl,Ke _,λ_ _ _=>rfl⟩,λ_=>bR.drew,λ_ h=>h.elim,λ_ h=>h.elim,λ_ h=>h.elim⟩
theorem JV.ahead(h:JV bo L1 W lb X G10 fs w){k:Nat}(e:k=6\/k=10\/k=11)(d:∀v,¬fs k v):(∀u,¬fs 11 u)/\AV L1 W lb X G10 fs w:=by
 rcases h with h|⟨⟨a,f⟩,⟨b,g⟩,⟨c,i⟩,_⟩
 ·exact h
 rcases e with rfl|rfl|rfl
 ·exact absurd g (d _)
 ·exact absurd i (d _)
 exact absurd f (d _)
theorem JV.box(h:JV bo L1 W lb X G10 fs w){b:Nat}{o:Obj}(c:W.1[b]?=some o)(a:b≠bo)(d:b<L1):w.1[b]?=some o:=by
 rcases h with ⟨_,h⟩|⟨_,_,_,e,p,rfl,_,h⟩
 ·exact(h.below.block b d).trans c
 exact((Kc _ _ _ _ a).trans (Kc _ _ _ _ a)).trans ((h.below.block b d).trans c)
theorem JV.put6(h:JV bo L1 W lb X G10 fs w)(c:∀v,¬fs 6 v)(i:L1<=W.1.size)(j:bL w w'){v}(f:cg W.1.size w' v X):JV bo L1 W lb X G10 (d9 fs 6 v) w':=by
 have⟨g,h⟩:=h.ahead (.inl rfl) c;have b:∀v,¬fs 10 v:=λv f=>by have⟨u,a⟩:=h.need v f;exact c u a
 have k:=h.still b;have d:=k.th j;refine .inl ⟨λu a=>?_,d.mono i,fX d lb,λ_=>d,λu a=>?_,λu a=>?_,λu a=>⟨v,.inr ⟨rfl,rfl⟩⟩⟩
 ·rcases a with a|⟨e,_⟩
  ·exact g u a
  cases e
 ·rcases a with a|⟨_,rfl⟩
  ·exact absurd a (c _)
  exact f
 rcases a with a|⟨e,_⟩
 ·exact absurd a (b _)
 cases e
theorem JV.put10(h:JV bo L1 W lb X G10 fs w)(b:∀v,¬fs 10 v){n:Value}(o:fs 6 n)(p:L1<=W.1.size)(c:∀k,lb=some k->k<W.1.size/\L1<=k)(d:w.grownBy w' lb){v:Value}(q:G10 w' v):JV bo L1 W lb X G10 (d9 fs 10 v) w':=by
 have⟨l,h⟩:=h.ahead (.inr (.inl rfl)) b;refine .inl ⟨λu a=>?_,h.below.grown d (Kl p h.grown.size) λk r=>(c k r).2,Li h.grown d λj s=>.inr s,λf=>absurd (.inr ⟨rfl,rfl⟩) (f v),λu a=>?_,λu a=>?_,λu a=>⟨n,.inl o⟩⟩
 ·rcases a with a|⟨e,_⟩
  ·exact l u a
  cases e
 ·rcases a with a|⟨e,_⟩
  ·exact λt x y=>h.row6 u a t (λg m i=>(x g m (Kd i d.size)).trans (d.block g i λe=>by have:=(c g e.symm).1;omega)) (Kl d.size y)
  cases e
 rcases a with a|⟨_,rfl⟩
 ·exact absurd a (b _)
 exact q
theorem JV.store(h:JV bo L1 W lb X G10 fs w)(d:∀v,¬fs 11 v){p b:Value}(f:fs 6 p)(c:fs 10 b):JV bo L1 W lb X G10 (d9 fs 11 undef) ((w.setCell (pA bo 0) p).setCell (pA bo 1) nL):=by
 have⟨g,h⟩:=h.ahead (.inr (.inr rfl)) d;refine .inr ⟨⟨undef,.inr ⟨rfl,rfl⟩⟩,⟨p,.inl f⟩,⟨b,.inl c⟩,w,p,rfl,h.row6 p f,h.below,h.grown,λi=>absurd ⟨by decide,.inl c⟩ (i b),λu a=>?_,λu a=>?_,λu a=>⟨p,by decide,.inl f⟩⟩
 ·rcases a.2 with a|⟨e,_⟩
  ·exact h.row6 u a
  cases e
 rcases a.2 with a|⟨e,_⟩
 ·exact h.row10 u a
 cases e
theorem JV.done(h:JV bo L1 W lb X G10 fs w){u a:Value}(d:fs 11 u)(c:fs 10 a):∃b p,w=(b.setCell (pA bo 0) p).setCell (pA bo 1) nL/\cg W.1.size b p X/\Below L1 W b/\W.grownBy b lb/\G10 b a:=by
 rcases h with ⟨f,_⟩|⟨_,_,_,b,p,e,g,h⟩
 ·exact absurd d (f _)
 exact⟨b,p,e,g,h.below,h.grown,h.row10 a ⟨by decide,c⟩⟩
end
theorem A5(B v d w)(he:dD w)(hd:cJ B w v d)(hB:B<=w.1.size)(b7:sW d):
  cL 58 #[v] w λe w'=>∃v' E,e=.returned (.tuple #[v',E,U (aB d)])/\cV w.1.size w' v' (gE d)/\dh w'.1.size w' E (cK d)/\bL w w':=by
 obtain⟨sv,tv,rfl,hs,ht⟩:=id hd;obtain⟨s,t⟩:=d;simp only[] at hs ht;obtain⟨a,c,e1,-,-,-⟩:=id hs;obtain⟨b,Q,e2,bv,bx,-⟩:=id ht;subst e1 e2;have⟨W,hW⟩:=nM ((w.alloc (.cells #[.slice a s.length c,.slice b t.length Q] 25)).alloc (.cells #[nL,nL] 25));have K:=bB hW;have g0:Na W w.1.size #[.slice a s.length c,.slice b t.length Q] 25:=by rw[hW];exact dF _ (aY _ _ rfl)
 have g1:Na W (w.1.size+1) #[nL,nL] 25:=by rw[hW];exact aY _ _ (by simp only[Kg])
 have ef:=sB hW;have ae:Hid _:=jD B _ (s,t) W (he.l K) (hd.l K hB) (by omega) b7;obtain⟨y0,y1,-,-⟩:=ag g0;have HW:=Z hW;have go:=Z K;generalize bF:aB (s,t)=DE at*;have F:=Z bF;have⟨N,hN⟩:=nM (s.length);have⟨m,hm⟩:=nM (t.length)
 rw[<-hN] at HW ae y0 g0 |-
 rw[<-hm] at HW ae y1 g0 |-
 have HN:=Z hN;have HM:=Z hm;clear hW bF hN hm;go_enter func58,ntmps58;go_wp2_with fail;rw[<-HW.o];go_at_call 26;refine Calls.mono ae.o ?_;rintro e H ⟨rfl,af⟩;have G0:=af.bl g0;have G1:=af.bl g1;have J:=K.th af;have ak:=io G1;have⟨z0,z1,f0,f1⟩:=ag G1;obtain⟨x0,x1,-,-⟩:=ag G0;clear y0 y1 ae g0 g1 ef af HW
 by_cases hE:DE=0
 ·subst hE;have hm:=HM.o;have hN:=HN.o;have⟨c5,c7,en,c8⟩:=dE F.o;simp only[] at c5 c7 en c8;have b9:Hid (gE (s,t)=(jB (s,t),[])/\cK (s,t)=iF (s,t)):=⟨by unfold gE;rw[Io F.o],by unfold cK;rw[Io F.o]⟩;have c9:=Z J;have ca:=Z G0;have cb:=Z G1;have cc:Hid (∀w',bL w w'->cL 56 #[.slice a N c,U 40] w' λe f=>∃E C,e=.returned (.tuple #[E,U (aM 40 s).2.1,U (aM 40 s).2.2])/\f.ownsRow w'.1.size 70 5 E (aM 40 s).1.length C/\vj (gd w'.1.size E.ownBlock f) C (aM 40 s).1/\bL w' f):=λw' l=>by rw[hN];exact mx B _ s c5 40 (by omega) w' (he.l l) (hs.l l hB) (l.u hB)
  have cd:Hid (∀w' aO,aO<=40->bL w w'->cL 56 #[.slice b m Q,U (aO:Nat)] w' λe f=>∃E C,e=.returned (.tuple #[E,U (aM aO t).2.1,U (aM aO t).2.2])/\f.ownsRow w'.1.size 70 5 E (aM aO t).1.length C/\vj (gd w'.1.size E.ownBlock f) C (aM aO t).1/\bL w' f):=λw' aO eq l=>by rw[hm];exact mx B _ t c7 aO eq w' (he.l l) (ht.l l hB) (l.u hB)
  clear G0 G1 J hd F b7 bv bx K hN hm;go_wp2_with fail;go_at_call 56;refine Calls.mono (cc.o H c9.o) ?_;obtain⟨⟨L,k1,e1⟩,Y⟩:∃LL,LL=aM 40 s:=⟨_,rfl⟩;have er:L.length<=40:=by have:=o8 40 s;rw[<-Y] at this;exact this
  obtain⟨⟨M,k2,e2⟩,a1⟩:∃MM,MM=aM (40-L.length) t:=⟨_,rfl⟩;have ce:M.length<=40-L.length:=by have:=o8 (40-L.length) t;rw[<-a1] at this;exact this
  have cf:k2<=t.length:=by have:=sw (40-L.length) t;rw[<-a1] at this;exact this
  have a2:Hid (gE (s,t)=(s++t.take k2,[])/\cK (s,t)=L++M):=by
   have e:mu (s,t)=(M,k2,e2):=by unfold mu;simp only[];rw[<-Y,a1]
   rw[b9.o.1,b9.o.2];unfold Hid jB iF;rw[e];simp only[];rw[<-Y]
   refine⟨?_,?_⟩<;>first|trivial|rfl
  have a3:Hid (∀w',bL w w'->cL 56 #[.slice b m Q,U ((40-L.length:Nat):Int)] w' λe f=>∃E C,e=.returned (.tuple #[E,U k2,U e2])/\f.ownsRow w'.1.size 70 5 E M.length C/\vj (gd w'.1.size E.ownBlock f) C M/\bL w' f):=λw' l=>by have:=cd.o w' (40-L.length) (by omega) l;rw[<-a1] at this;exact this
  rw[<-Y];simp only[];clear Y a1 b9 cc cd c8;rintro e w2 ⟨E,C,rfl,al,ba,a4⟩;obtain⟨la,lc,el,es,gF,-⟩:=an al;subst el;have⟨D,bb⟩:=nM (L.length);have et:=Z bb.symm
  rw[<-bb] at al ba er ce a3 es |-
  have fl:(40:Int)-(D:Int)=((40-D:Nat):Int):=by omega
  have av:=c9.o.th a4;have P0:=a4.bl ca.o;have P1:=a4.bl cb.o;have gM:=io P1;have fn:=a4.size;clear z0 z1 f0 f1 x0 x1 bb;obtain⟨x0,x1,-,-⟩:=ag P0;have b0:=Z av;have ci:=Z P0;have ck:=Z P1;have ao:=Z al;have cl:=Z ba;have gT:¬(40<D):=by omega
  clear P0 P1 al ba av ca cb a4;go_wp2_with fail;go_at_call 56;refine Calls.mono (a3.o w2 b0.o) ?_;rintro e R ⟨mv,ys,rfl,O,bf,I⟩;obtain⟨ma,mc,em,ev,fq,-⟩:=an O;subst em;have⟨T,bg⟩:=nM (M.length);have ew:=Z bg.symm
  rw[<-bg] at O bf ce ev |-
  have b1:=b0.o.th I;have P0:=I.bl ci.o;have P1:=I.bl ck.o;have gY:=io P1;have fr:=I.size;clear x0 x1 bg;obtain⟨x0,x1,-,-⟩:=ag P0;have a5:=Z b1;have cn:=Z P0;have co:=Z P1;have cp:=Z (aw ao.o I);have cs:Hid (vj (gd H.1.size (Value.slice la D lc).ownBlock R) C L):=cl.o.imp λ_ _ h=>h.grown (fX I _) (.inl rfl)
  have ex:=Z O;have cv:=Z bf;have cx:Hid (∀k,(Value.slice la D lc).ownBlock=some k->k<w2.1.size/\H.1.size<=k):=λk hk=>by have⟨cT,hc⟩:=cX ao.o k hk;exact⟨io hc,eh ao.o k hk⟩
  have h0:Hid (∀k,(Value.slice ma T mc).ownBlock=some k->k<R.1.size/\w2.1.size<=k):=λk hk=>by have⟨cT,hc⟩:=cX O k hk;exact⟨io hc,eh O k hk⟩
  have⟨a',ey,d0⟩:=vQ ht k2 cf;have d1:=HM.o;have d2:=HN.o;rw[<-d1] at ey cf
  have d3:Hid (∀w',bL w w'->cL 91 #[.slice a N c,.slice a' k2 Q] w' λe f=>∃v,e=.returned v/\cg w'.1.size f v (s++t.take k2)/\bL w' f):=λw' l=>by
   rw[d2]
   exact(kK B _ _ s (t.take k2) w' (hs.l l hB) (d0.l l hB) (l.u hB) (by rw[Kt];omega)).mono λe f ⟨v,h1,_,h3,h4⟩=>⟨v,h1,h3,h4⟩
  have h8:(k2:Int)<=(Q:Int):=by obtain⟨_,_,e,h,_⟩:=ht;simp at e;omega
  have q:=Z4 (by omega:(D+T)*56<=140737488355328) (by omega:H.1.size<=w2.1.size) (by omega:w2.1.size<=R.1.size) ak;clear P0 P1 O bf b1 ci ck I ao cl a3 d1 d2 d0 hs ht;have⟨X,hX⟩:=nM (s++t.take k2);rw[<-hX] at d3 a2;have⟨lb,P⟩:=nM ((Value.slice la D lc).ownBlock)
  obtain⟨G,hG⟩:∃G:World->Value->Prop,G=λw' u=>w'.ownsRow H.1.size 70 5 u (D+T) (C++ys)/\(u.ownBlock=lb\/∃k,u.ownBlock=some k/\R.1.size<=k):=⟨_,rfl⟩
  have HG:Hid (∀w' u,G w' u ↔ (w'.ownsRow H.1.size 70 5 u (D+T) (C++ys)/\(u.ownBlock=lb\/∃k,u.ownBlock=some k/\R.1.size<=k))):=λw' u=>by rw[hG]
  have d4:Hid (∀w',bL R w'->∃u f,(Builtin.append_ #[52,52] 52 #[.slice la D lc,.slice ma T mc]).run prog w'=.ok u f/\G f u/\w'.grownBy f lb/\∃a c,u=.slice a (D+T) c):=λw' l=>by
   obtain⟨u,f,r1,r2,r3,r4⟩:=uF H.1.size w2.1.size _ _ D T C ys w' (aw cp.o l) (aw ex.o l) cv.o.2.1 q.o.1 (by have:=q.o;have:=l.size;omega);obtain⟨ua,uc,eu,-⟩:=an r2;refine⟨u,f,r1,(HG.o _ _).2 ⟨r2,?_⟩,by rw[P];exact r3,ua,uc,eu⟩
   rcases r4 with e|⟨k,e,hk⟩
   ·exact .inl (by rw[P];exact e)
   exact .inr ⟨k,e,Kl l.size hk⟩
  have d5:Hid (∀k,lb=some k->k<R.1.size/\H.1.size<=k):=λk hk=>by have:=cx.o k (by rw[<-P];exact hk);have:=q.o;omega
  have d6:Hid (∀w' u,R.grownBy w' lb->G w' u->vj (gd H.1.size u.ownBlock w') (C++ys) (L++M)/\w'.ownsRow H.1.size 70 5 u (L++M).length (C++ys)):=λw' u a8 f2=>by
   obtain⟨g1,g2⟩:=(HG.o _ _).1 f2;have g7:=q.o;refine⟨(cs.o.imp λ_ _ h=>?_).append (cv.o.imp λ_ _ h=>?_),by rw[Kj,et.o,ew.o];exact g1⟩
   ·rw[<-P] at h;exact h.grown a8 g2
   refine(h.beside a8 (λk hk=>?_) g2).mono (by omega);have:=(cx.o k (by rw[<-P];exact hk)).1;omega
  obtain⟨S,hS⟩:∃S:Nat->Value->Prop,S=λj v=>(j=6->∃a n c,v=.slice a n c)/\(j=10->∃a c,v=.slice a (D+T) c):=⟨_,rfl⟩
  have dc:Hid (∀v,S 6 v ↔ ∃a n c,v=.slice a n c):=λv=>by rw[hS];simp
  have b2:Hid (∀v,S 10 v ↔ ∃a c,v=.slice a (D+T) c):=λv=>by rw[hS];simp
  have dd:=Z (by rw[hS];exact⟨λe=>(by cases e),λe=>(by cases e)⟩:S 11 undef)
  have f3:Hid (∀j,∃v,S j v):=λj=>⟨.slice none (D+T) 0,by rw[hS];exact⟨λ_=>⟨_,_,_,rfl⟩,λ_=>⟨_,_,rfl⟩⟩⟩
  clear hG hS hX P;have q0:∀z:uL w.1.size (.slice a N c) (.slice b m Q),z.1.cell? (pW w 0)=some (.slice a N c):=λz=>z.2.1
  have q1:∀z:uL w.1.size (.slice a N c) (.slice b m Q),z.1.cell? (pW w 1)=some (.slice b m Q):=λz=>z.2.2
  have de:Nonempty (uL w.1.size (.slice a N c) (.slice b m Q)):=⟨⟨R,x0,x1⟩⟩
  have a9:Hid (∀fs w',JV (w.1.size+1) H.1.size R lb X G fs w'->∃z:uL w.1.size (.slice a N c) (.slice b m Q),w'=z.1):=λfs w' h=>⟨⟨w',J0 (h.box cn.o (by omega) (by omega)),J1 (h.box cn.o (by omega) (by omega))⟩,rfl⟩
  have aa:Hid (H.1.size<=R.1.size):=by have:=q.o;unfold Hid;omega
  go_wp2_with fail;refine bJ [_,_,_,_,_,_,_,_,_,_,_,_,_] _ rfl (λk=>k==6||k==10||k==11) (JV (w.1.size+1) H.1.size R lb X G) S f3.o (by kernel_rfl) (by kernel_rfl) (JV.start _ _ _ _ _ _) ?_;iterate 6(refine aP a9.o rfl rfl ?_;go_big_quiet_step (fail);refine Km ?_)
  refine bw 91 #[.slice a N c,.slice a' k2 Q] rfl rfl (λw'=>by kernel_rfl) (λgs w' V A o=>?_) (λv6 f4=>?_)
  ·obtain⟨-,hA⟩:=V.ahead (.inl rfl) o;have b3:=aa.o;refine(d3.o w' (a5.o.trans (hA.below.mono (by have:=q.o;omega)))).mono ?_;rintro e w4 ⟨u,rfl,b4,l⟩;obtain⟨ua,uc,eu⟩:=b4.shape;exact⟨_,rfl,(dc.o _).2 ⟨_,_,_,eu⟩,V.put6 o b3 l (b4.mono hA.grown.size)⟩
  go_frame;obtain⟨a6,n6,c6,rfl⟩:=(dc.o _).1 f4;iterate 3(refine aP a9.o rfl rfl ?_;go_big_quiet_step (fail);refine Km ?_)
  refine cz rfl rfl (λgs w' V A o=>?_) (λhg di=>?_)
  ·have h6:=A 6 _ (.inr ⟨rfl,rfl⟩) (au (by kernel_rfl));obtain⟨-,hA⟩:=V.ahead (.inr (.inl rfl)) o;have⟨u,f,r1,r2,r3,r4⟩:=d4.o w' (hA.still o);refine⟨u,f,?_,(b2.o _).2 r4,V.put10 o h6 aa.o d5.o r3 r2⟩;unfold execOp;simp only[resolve,invoke,builtin,Lj,My,LW,M4,Lt,Mz];exact(congrArg (λr=>Result.andThen r λv w=>.ok (Next.value v) w) r1)
  go_frame;obtain⟨dk,dl,rfl⟩:=(b2.o _).1 di;refine fL rfl rfl (λgs w' V A o=>?_) (λhh gc=>?_)
  ·have h6:=A 6 _ (.inl (.inr ⟨rfl,rfl⟩)) (au (by kernel_rfl));have dn:=A 10 _ (.inr ⟨rfl,rfl⟩) (au (by kernel_rfl));obtain⟨-,hA⟩:=V.ahead (.inr (.inr rfl)) o;have ac:=(hA.below.block _ ak).trans co.o;have⟨hi,hj,hl,hn⟩:=ag ac;refine⟨(w'.setCell (pA (w.1.size+1) 0) (.slice a6 n6 c6)).setCell (pA (w.1.size+1) 1) nL,?_,dd.o,V.store o h6 dn⟩;clear V A o q0 q1 a9 de h6 dn hA ac;go_simp
  go_frame;refine aP a9.o rfl rfl ?_;go_big_quiet_step (fail);refine Km ?_;refine ei ?_;intro w4 V;have⟨w0,p,e4,hp,bk,a8,b5⟩:=V.done (.inr ⟨rfl,rfl⟩) (.inl (.inr ⟨rfl,rfl⟩));obtain⟨dp,b6⟩:=d6.o _ _ a8 b5;have ac:=(bk.block _ ak).trans co.o;have⟨j0,j1,j2⟩:=ic (u:=p) (v:=nL) ac;rw[<-e4] at j0 j1 j2;obtain⟨ea,ec,ee⟩:=hp.shape;subst ee;obtain⟨y0,y1,-,-⟩:=ag j0;have b3:=aa.o
  have HE:Hid (cV w.1.size w4 (.agg #[.slice ea X.length ec,nL]) (X,[])/\dh w4.1.size w4 (.slice dk (D+T) dl) (L++M)/\bL w w4):=by
   refine⟨kS ((hp.keep j1 (by omega) j2).mono a5.o.size) (zD _ _),?_,?_⟩
   ·refine DS (L:=H.1.size) (xs:=C++ys) ?_ (dp.imp λ_ _ h=>(h.keep j1 ak j2).kept).toR;exact bT b6 λg cT hr hc=>j1 g (by omega)
   rw[e4];exact dS (a5.o.trans (bk.mono (by omega))) (by omega) _ _
  generalize X.length=n1 at*;clear V e4 bk a8 b5 dp b6 hp ac j0 j1 j2 q0 q1 a9 de;go_wp2_with fail;refine Ka (v:=.tuple #[.agg #[.slice ea n1 ec,nL],.slice dk (D+T) dl,U 0]) ?_ rfl ⟨_,_,rfl,by rw[a2.o.1];exact HE.o.1,by rw[a2.o.2];exact HE.o.2.1,HE.o.2.2⟩;rw[eY rfl];go_simp
 have hq:(DE != 0)=true:=by simpa using hE
 have HS:Hid (gE (s,t)=([],[])/\cK (s,t)=[]):=⟨by unfold gE;rw[iO (by rw[F.o];exact hE)],by unfold cK;rw[iO (by rw[F.o];exact hE)]⟩;have HF:Hid (∀x y,bL w ((H.setCell (pA (w.1.size+1) 0) x).setCell (pA (w.1.size+1) 1) y)):=λx y=>dS J (by omega) x y
 clear G0 G1 J hs ht hd F hB b7 bv bx K hE;go_wp2_with fail;refine Ka (v:=.tuple #[.agg #[nL,nL],nL,U DE]) ?_ rfl ⟨_,_,rfl,by rw[HS.o.1];exact eX _ _,by rw[HS.o.2];exact⟨none,0,rfl,Ke _,Ks _,λi b l=>by simp at l⟩,HF.o _ _⟩;rw[eY rfl];go_simp
end
theorem Kx.put{K:Nat->Prop}{w w' wF}(h:Kx K w' wF)(b:Below 0 w w')(c:∀g,¬K g->w'.1[g]?=w.1[g]?)(d:w'.1.size=w.1.size):Kx K w wF:=⟨b.trans h.1,λg a e=>(h.2 g a (by omega)).trans (c g a)⟩
theorem kG.at{K:Nat->Prop}{w v x}(h:kG K w v x):bi w.1.size w v x:=h w (Kx.refl _ _)
def EP(K:Nat->Prop)(w:World)(v:Value)(d:bQ):Prop:=∀a,Kx K w a->cJ a.1.size a v d
theorem EP.at{K:Nat->Prop}{w v d}(h:EP K w v d):cJ w.1.size w v d:=h w (Kx.refl _ _)
theorem EP.l{K a:Nat->Prop}{w w' v d}(h:EP K w v d)(b:bL w w')(c:∀k,k<w.1.size->a k->K k):EP a w' v d:=λe f=>h e (f.back b c)
theorem cV.k{L w v d}(h:cV L w v d):EP (λk=>k<L) w v d:=λb a=>h b (λg c e=>a.2 g (Nat.not_lt.2 c) e) a.size
theorem xq{K:Nat->Prop}{w}{cv sv tv:Value}{x:aH}{u:Bool}(c:kn K w cv x.1)(d:EP K w (.agg #[sv,tv]) x.2.1)(f:x.2.2=u):kG K w (.agg #[cv,sv,tv,.bool u]) x:=λa b=>by have⟨s,t,e,g,h⟩:=d a b;simp at e;obtain⟨rfl,rfl⟩:=e;exact⟨_,_,_,by rw[f],c a b,g,h⟩
theorem iC{K:Nat->Prop}{w a:World}{b L:Nat}{T}{f h i j cv sv tv:Value}{u x}(g:w.1[b]?=some (.cells #[f,h,i,j] T (0,0)))(l:kG K w (.agg #[cv,sv,tv,.bool u]) x)(m:K b)(n:Below L a w)(o:L<=b)(p:∀k,k<a.1.size->K k):
  ∃W,W=(((w.setCell (pA b 0) cv).setCell (pA b 1) sv).setCell (pA b 2) tv).setCell (pA b 3) (.bool u)/\W.1[b]?=some (.cells #[cv,sv,tv,.bool u] T (0,0))/\Hid (kG (λk=>k<a.1.size) W (.agg #[cv,sv,tv,.bool u]) x/\Below L a W):=by
 have⟨q,r,s,c⟩:=eK (u0:=cv) (u1:=sv) (u2:=tv) (u3:=.bool u) g;refine⟨_,rfl,q,λt d=>l t (Kx.put ⟨d.1,λg v y=>d.2 g (λe=>v (p g e)) y⟩ (c 0 (Ks _)) (λg z=>r g λe=>z (by rw[e];exact m)) s),n.trans (c _ o)⟩
theorem kR{w a:World}{b L:Nat}{T}{c d e f:Value}(g:w.1[b]?=some (.cells #[c,d,e,f] T (0,0)))(h:Below L a w)(i:L<=b):
  ∃W,W=(((w.setCell (pA b 0) nL).setCell (pA b 1) nL).setCell (pA b 2) nL).setCell (pA b 3) (.bool false)/\W.1[b]?=some (.cells #[nL,nL,nL,.bool false] T (0,0))/\Hid (kG (λk=>k<a.1.size) W (.agg #[nL,nL,nL,.bool false]) fg/\Below L a W):=iC (K:=λ_=>True) g (jX _ _) trivial h i λ_ _=>trivial
theorem Cg(w):cL 11 #[] w λe d=>∃v,e=.returned v/\bi d.1.size d v kz/\bL w d:=by have⟨o,a⟩:=nM (w.alloc (.cells #[nL,nL,nL,.bool false] 27));have b:=bA a;have f:=hA a;have g:=Z a;clear a;go_enter func11,ntmps11;go_wp2_with fail;rw[<-g.o];go_at_call 32;refine(A8 o).mono ?_;rintro e s ⟨t,rfl,i,c⟩;obtain⟨p,q,rfl,-,-⟩:=i.at.shape;have j:=c.bl f;obtain⟨W,l,k,m⟩:=iC (x:=kz) (sv:=nL) (tv:=nL) (u:=true) j (xq i (eX _ _).k rfl) (io f) (b.th c) lE (λk h=>Kd h b.size);have⟨y,z,A,B,C,D,E,F⟩:=aL j;have r:=Z l;obtain⟨G,H,I,J,-⟩:=aL k;generalize aA.length=n at*;clear l k i c f j b;go_wp2_with fail;rw[<-r.o];refine Ka (v:=.agg #[.slice p n q,nL,nL,.bool true]) ?_ rfl ⟨_,rfl,m.o.1.at,m.o.2⟩;rw[cN rfl];go_simp
theorem xE(B xv y w)(q:cI B w xv y)(r:B<=w.1.size):
  cL 69 #[xv] w λe j=>∃v,e=.returned v/\cI B j v (bU y)/\bL w j:=by
 obtain⟨a,c,rfl,s⟩:=q.shape;obtain⟨-,-,-,t,u,-⟩:=id q;obtain⟨k,b,f,i,d⟩:=y;simp only at*;have x:∀n:Int,0<=n/\n<=4->wf n:=λn h=>cR (by omega)
 have A:=Z λj (h:bL w j)=>s.l h r
 have g:Hid (wf b/\wf f/\∀n:Int,0<=n/\n<=4->wf n):=⟨t,u,x⟩;generalize i.length=n at*;clear s q t u x r
 by_cases l:k=3
 ·subst l;go_enter func69,ntmps69;go_wp2;refine Ka (v:=.agg #[U 3,U b,U f,nL,U 0]) ?_ rfl ⟨_,rfl,⟨_,rfl,g.o.2.2 3 (by omega),g.o.1,g.o.2.1,bV _ _⟩,?_⟩
  ·rw[cN rfl];go_simp
  repeat(first|refine Ky ?_ (by simp) _|refine Lc ?_ (by simp) _|exact Kf _ _)
 by_cases o:k=4
 ·subst o;go_enter func69,ntmps69;go_wp2;refine Ka (v:=.agg #[U 4,U b,U 0,nL,U 0]) ?_ rfl ⟨_,rfl,⟨_,rfl,g.o.2.2 4 (by omega),g.o.1,g.o.2.2 0 (by omega),bV _ _⟩,?_⟩
  ·rw[cN rfl];go_simp
  repeat(first|refine Ky ?_ (by simp) _|refine Lc ?_ (by simp) _|exact Kf _ _)
 have z:Hid (∀ (W:World) (m:Int),0<=m/\m<=4->bU (k,b,f,i,d)=(m,b,0,i,d)->bL w W->cI B W (.agg #[U m,U b,U 0,.slice a n c,U d]) (bU (k,b,f,i,d))/\bL w W):=λW m C e h=>⟨by rw[e];exact⟨_,rfl,g.o.2.2 m C,g.o.1,g.o.2.2 0 (by omega),A.o W h⟩,h⟩
 by_cases p:k=1
 ·subst p;go_enter func69,ntmps69;go_wp2;refine Ka (v:=.agg #[U 1,U b,U 0,.slice a n c,U d]) ?_ rfl ⟨_,rfl,z.o _ 1 (by omega) rfl ?_⟩
  ·rw[cN rfl];go_simp
  repeat(first|refine Ky ?_ (by simp) _|refine Lc ?_ (by simp) _|exact Kf _ _)
 have D:Hid (bU (k,b,f,i,d)=(2,b,0,i,d)):=by unfold Hid bU;simp only;rw[iO l,iO o,iO p]
 have E:(k==3)=false:=by simpa using l
 have F:(k==4)=false:=by simpa using o
 have G:(k==1)=false:=by simpa using p
 clear p l o;go_enter func69,ntmps69;go_wp2;refine Ka (v:=.agg #[U 2,U b,U 0,.slice a n c,U d]) ?_ rfl ⟨_,rfl,z.o _ 2 (by omega) D.o ?_⟩
 ·rw[cN rfl];go_simp
 repeat(first|refine Ky ?_ (by simp) _|refine Lc ?_ (by simp) _|exact Kf _ _)
theorem FE(B v u x y w)(R:bi B w v x)(S:bi B w u y)(e:B<=w.1.size):
  cL 9 #[v,u] w (rT w (.bool (decide (x=y)))):=by
 obtain⟨T,V,z,A,C,D,rfl,W,X⟩:=R.shape;obtain⟨F,G,j,k,l,m,rfl,n,o⟩:=S.shape;have HC:=Z λa (h:bL w a)=>xt B _ _ x.1 y.1 a (W.l h e) (n.l h e) (h.u e)
 have HD:=Z λa (h:bL w a)=>FO B _ _ x.2.1 y.2.1 a (X.l h e) (o.l h e) (h.u e)
 clear R S W X n o;obtain⟨p,f,c⟩:=x;obtain⟨q,g,i⟩:=y;simp only at*;have H:Hid (decide (((p,f,c):aH)=(q,g,i))=(decide (p=q)&&decide (f=g)&&(c==i))):=by unfold Hid;rw[LX];simp only[L9,KU,Prod.mk.injEq,MN];exact and_assoc.symm
 generalize decide (p=q)=s1 at*;generalize decide (f=g)=s2 at*;generalize decide (((p,f,c):aH)=(q,g,i))=E at*;generalize p.length=Y at*;generalize q.length=m2 at*;generalize f.1.length=I at*;generalize f.2.length=J at*;generalize g.1.length=m5 at*;generalize g.2.length=m6 at*;have⟨W0,b⟩:=nM ((w.alloc (.cells #[.slice T Y V,.slice z I A,.slice C J D,.bool c] 27)).alloc (.cells #[.slice F m2 G,.slice j m5 k,.slice l m6 m,.bool i] 27));have d:=bB b;have g0:Na W0 w.1.size #[.slice T Y V,.slice z I A,.slice C J D,.bool c] 27:=by rw[b];exact dF _ (aY _ _ rfl)
 have g1:=gC b;have K:=Z b;have HG:Hid (∀a,bL W0 a->(a.cell? (pW w 1)=some (.slice z I A)/\a.cell? (pW w 2)=some (.slice C J D)/\a.cell? (pW w 3)=some (.bool c))/\(a.cell? (pA (w.1.size+1) 1)=some (.slice j m5 k)/\a.cell? (pA (w.1.size+1) 2)=some (.slice l m6 m)/\a.cell? (pA (w.1.size+1) 3)=some (.bool i))/\bL w a):=λa h=>by have L:=h.bl g0;have M:=h.bl g1;exact⟨⟨J1 L,J2 L,J3 L⟩,⟨J1 M,J2 M,J3 M⟩,d.th h⟩
 have N:=Z d;clear b g0 g1 d;go_enter func9,ntmps9;go_wp2_with fail;rw[<-K.o];go_at_call 29;refine(HC.o _ N.o).mono ?_;rintro e2 w2 ⟨rfl,r⟩;have⟨⟨q1,q2,q3⟩,⟨p1,p2,p3⟩,s⟩:=HG.o w2 r
 cases s1 with
 |false=>
  go_wp2_with fail;go_ret;exact⟨by rw[H.o];rfl,s⟩
 |true=>
  have O:=q2;have P:=p2;go_wp2_with fail;go_at_call 30;refine(HD.o _ s).mono ?_;rintro e3 w3 ⟨rfl,Q⟩;obtain⟨⟨-,-,q4⟩,⟨-,-,p4⟩,t⟩:=HG.o w3 (r.th Q);clear q1 q2 q3 p1 p2 p3 O P
  cases s2 with
  |false=>
   go_wp2_with fail;go_ret;exact⟨by rw[H.o];rfl,t⟩
  |true=>
   cases c<;>cases i
   all_goals
    go_wp2_with fail;go_ret;exact⟨by rw[H.o];rfl,t⟩
theorem JG.start(W)(G:Nat->World->Value->Prop):JG W G (λ_ _=>False) W.drew:=⟨bR.drew,λ_ _ h=>h.elim⟩
theorem JG.put{W w w':World}{G:Nat->World->Value->Prop}{b:Nat->Value->Prop}(h:JG W G b w)(d:∀k u w w',bL w w'->G k w u->G k w' u){k:Nat}{v:Value}(c:bL w w')(e:G k w' v):JG W G (d9 b k v) w':=by
 refine⟨h.1.th c,λm u a=>?_⟩
 rcases a with a|⟨rfl,rfl⟩
 ·exact d m u w w' c (h.2 m u a)
 exact e
def Hi(a b L:Nat)(C:List aG)(d:bQ)(k:Nat)(w:World)(u:Value):Prop:=(k=a->wG L w u C)/\(k=b->EP (λk=>k<L) w u d)
theorem Hi.l{kc kd L C d}:∀k u w a,bL w a->Hi kc kd L C d k w u->Hi kc kd L C d k a u:=λk u w a b h=>⟨λe=>(h.1 e).l b λ_ _ e=>e,λe=>(h.2 e).l b λ_ _ e=>e⟩
def JR(e f:Nat)(C:List aG)(d:bQ)(k:Nat)(v:Value):Prop:=(k=e->∃a c,v=.slice a C.length c)/\(k=f->∃a c b l,v=.agg #[.slice a d.1.length c,.slice b d.2.length l])
theorem Bj(a b:Nat)(h:a≠b)(C d k):∃v,JR a b C d k v:=by
 by_cases c:k=a
 ·exact⟨.slice none C.length 0,λ_=>⟨_,_,rfl⟩,λe=>absurd (c.symm.trans e) h⟩
 exact⟨.agg #[.slice none d.1.length 0,.slice none d.2.length 0],λe=>absurd e c,λ_=>⟨_,_,_,_,rfl⟩⟩
theorem tq(B v d w)(D:cJ B w v d)(M:B<=w.1.size)(o:d.1.length<=60000/\d.2.length<=60000):
  cL 27 #[v] w λe f=>∃N,e=.returned N/\kG (λk=>k<w.1.size) f N (aA,d,false)/\bL w f:=by
 obtain⟨a,c,b,C,rfl⟩:=D.shapeS;have p:=Z λf (h:bL w f)=>t5 B _ d f (D.l h M) (h.u M) o
 have⟨n,q⟩:=nM (d.1.length);have⟨m,O⟩:=nM (d.2.length)
 rw[<-q,<-O] at p |-
 have⟨W,r⟩:=nM ((w.alloc (.cells #[.slice a n c,.slice b m C] 25)).alloc (.cells #[nL,nL,nL,.bool false] 27));have s:=bB r;have E:Na W w.1.size #[.slice a n c,.slice b m C] 25:=by rw[r];exact dF _ (aY _ _ rfl)
 have P:=gC r;obtain⟨Q,R,-,-⟩:=ag E;have F:=io E;have Y:=Z r;have i:=Z s;have t:=Z P;have q0:∀z:ax W,z.1.cell? (pW w 0)=some (.slice a n c):=λz=>z.cell Q F
 have q1:∀z:ax W,z.1.cell? (pW w 1)=some (.slice b m C):=λz=>z.cell R F
 have G:=ax.ne W
 have j:Hid (∀S f,JG W (Hi 0 2 W.1.size aA d) S f->∃z:ax W,f=z.1):=λS f h=>⟨⟨f,h.1⟩,rfl⟩
 clear r s E P Q R F D o q O;go_enter func27,ntmps27;go_wp2_with fail;rw[<-Y.o];refine bJ [_,_,_,_] _ rfl (λk=>k==0||k==2) (JG W (Hi 0 2 W.1.size aA d)) (JR 0 2 aA d) (Bj 0 2 (by decide) _ _) (by kernel_rfl) (by kernel_rfl) (JG.start _ _) ?_;refine bw 32 #[] rfl rfl (λf=>by kernel_rfl) (λgs f g y H=>?_) (λv0 I=>?_)
 ·refine(A8 f).mono ?_;rintro e w3 ⟨u,rfl,T,J⟩;obtain⟨a',c',eu,-⟩:=T.at.shape;exact⟨_,rfl,⟨λ_=>⟨a',c',eu⟩,λe=>by cases e⟩,g.put Hi.l J ⟨λ_=>T.l bR λk _ h=>Kd h g.1.size,λe=>by cases e⟩⟩
 go_frame;obtain⟨a0,c0,rfl⟩:=I.1 rfl;refine aP j.o rfl rfl ?_;go_big_quiet_step (fail);refine Km ?_;refine bw 57 #[.agg #[.slice a n c,.slice b m C]] rfl rfl (λf=>by kernel_rfl) (λgs f g y H=>?_) (λv2 K=>?_)
 ·refine(p.o f (i.o.th g.1)).mono ?_;rintro e w3 ⟨u,rfl,q,J⟩;exact⟨_,rfl,⟨λe=>(by cases e),λ_=>q.at.shapeS⟩,g.put Hi.l J ⟨λe=>(by cases e),λ_=>(q.mono g.1.size).k⟩⟩
 go_frame;obtain⟨a2,c3,b2,c4,rfl⟩:=K.2 rfl;refine aP j.o rfl rfl ?_;go_big_quiet_step (fail);refine Km ?_;refine ei ?_;intro w4 g;have l:=g.1.bl t.o;have V:=(g.2 0 _ (.inl (.inr ⟨rfl,rfl⟩))).1 rfl;have X:=(g.2 2 _ (.inr ⟨rfl,rfl⟩)).2 rfl;obtain⟨W5,A,k,HF⟩:=iC (x:=(aA,d,false)) l (xq V X rfl) (io t.o) (i.o.th g.1) (Mb _) (λk h=>Kd h i.o.size);have L:=Z A;have⟨z0,z1,z2,z3,f0,f1,f2,f3⟩:=aL l;obtain⟨x0,x1,x2,x3,-⟩:=aL k;generalize aA.length=n1 at*;generalize d.1.length=n2 at*;generalize d.2.length=n3 at*;clear g l V X A k q0 q1 G j;go_wp2_with fail;rw[<-L.o];refine Ka (v:=.agg #[.slice a0 n1 c0,.slice a2 n2 c3,.slice b2 n3 c4,.bool false]) ?_ rfl ⟨_,rfl,HF.o⟩;rw[cN rfl];go_simp
theorem kO{x:aH}(h:cr x=0):mM x.1/\aB x.2.1=0:=by
 obtain⟨c,d,u⟩:=x
 cases u with
 |true=>
  have⟨l,f⟩:=x8 h rfl;obtain⟨e,g,i,j,k⟩:=f
  cases e;exact⟨iD k,gN (t:=[]) g i (by simpa using j)⟩
 |false=>
  rw[ng] at h
  by_cases a:aB d=0
  ·rw[Io a] at h
   by_cases b:aA=c
   ·subst b;exact⟨BH,a⟩
   rw[iO b] at h
   cases h
  rw[iO a] at h;exact absurd h a
theorem CX(B v x w)(hx:bi B w v x)(r:B<=w.1.size)(hr:cr x=0):
  cL 53 #[v] w λe f=>∃s,e=.returned s/\kG (λk=>k<w.1.size) f s x/\bL w f:=by
 obtain⟨t,y,a,c,b,A,rfl,q,hd⟩:=hx.shape;have⟨M,Q⟩:=kO hr;obtain⟨C,d,u⟩:=x;simp only at*
 have D:Hid (∀f,bL w f->cL 84 #[.slice t C.length y] f λe g=>∃a c,e=.returned (.slice a C.length c)/\wG f.1.size g (.slice a C.length c) C/\bL f g):=λf h=>(ww B _ C f (q.l h r) (h.u r) (by rw[M.1];decide) (λc q=>yL (M.2 c q).1)).mono λe g ⟨N,O,h3⟩=>⟨_,_,N,Gl O lE (by rw[M.1];decide),h3⟩
 have E:Hid (∀f,bL w f->cL 57 #[.agg #[.slice a d.1.length c,.slice b d.2.length A]] f λe g=>∃s,e=.returned s/\cV f.1.size g s d/\bL f g):=λf h=>t5 B _ d f (hd.l h r) (h.u r) ⟨(dE Q).1,(dE Q).2.1⟩
 have⟨l,P⟩:=nM (C.length);have⟨n,F⟩:=nM (d.1.length);have⟨m,hm⟩:=nM (d.2.length);rw[<-P] at D;have HL:=Z P
 rw[<-F,<-hm] at E |-
 rw[<-P];have⟨W,G⟩:=nM ((w.alloc (.cells #[.slice t l y,.slice a n c,.slice b m A,.bool u] 27)).alloc (.cells #[nL,nL,nL,.bool false] 27));have H:=bB G;have R:Na W w.1.size #[.slice t l y,.slice a n c,.slice b m A,.bool u] 27:=by rw[G];exact dF _ (aY _ _ rfl)
 have g1:=gC G;obtain⟨y0,y1,y2,y3,-⟩:=aL R;have I:=io R;have HW:=Z G;have j:=Z H;have J:=Z g1;have q0:∀z:ax W,z.1.cell? (pW w 0)=some (.slice t l y):=λz=>z.cell y0 I
 have q1:∀z:ax W,z.1.cell? (pW w 1)=some (.slice a n c):=λz=>z.cell y1 I
 have q2:∀z:ax W,z.1.cell? (pW w 2)=some (.slice b m A):=λz=>z.cell y2 I
 have S:=q2;have q3:∀z:ax W,z.1.cell? (pW w 3)=some (.bool u):=λz=>z.cell y3 I
 have T:=ax.ne W
 have o:Hid (∀fs f,JG W (Hi 2 5 W.1.size C d) fs f->∃z:ax W,f=z.1):=λfs f h=>⟨⟨f,h.1⟩,rfl⟩
 clear G H R g1 y0 y1 y2 y3 I hd F hm P hx q M Q hr r;go_enter func53,ntmps53;go_wp2_with fail;rw[<-HW.o];refine bJ [_,_,_,_,_,_,_,_,_] _ rfl (λk=>k==2||k==5) (JG W (Hi 2 5 W.1.size C d)) (JR 2 5 C d) (Bj 2 5 (by decide) _ _) (by kernel_rfl) (by kernel_rfl) (JG.start _ _) ?_;iterate 2(refine aP o.o rfl rfl ?_;go_big_quiet_step (fail);refine Km ?_)
 refine bw 84 #[.slice t l y] rfl rfl (λf=>by kernel_rfl) (λgs f i K V=>?_) (λv0 X=>?_)
 ·refine(D.o f (j.o.th i.1)).mono ?_;rintro e w3 ⟨a',c',rfl,q,Y⟩;exact⟨_,rfl,⟨λ_=>⟨a',c',by rw[HL.o]⟩,λe=>by cases e⟩,i.put Hi.l Y ⟨λ_=>q.l bR λk _ h=>Kd h i.1.size,λe=>by cases e⟩⟩
 go_frame;obtain⟨a0,c0,rfl⟩:=X.1 rfl;iterate 2(refine aP o.o rfl rfl ?_;go_big_quiet_step (fail);refine Km ?_)
 refine bw 57 #[.agg #[.slice a n c,.slice b m A]] rfl rfl (λf=>by kernel_rfl) (λgs f i K V=>?_) (λv2 a1=>?_)
 ·refine(E.o f (j.o.th i.1)).mono ?_;rintro e w3 ⟨u,rfl,F,Y⟩;exact⟨_,rfl,⟨λe=>(by cases e),λ_=>F.at.shapeS⟩,i.put Hi.l Y ⟨λe=>(by cases e),λ_=>(F.mono i.1.size).k⟩⟩
 go_frame;obtain⟨a2,c3,b2,c4,rfl⟩:=a1.2 rfl;iterate 3(refine aP o.o rfl rfl ?_;go_big_quiet_step (fail);refine Km ?_)
 refine ei ?_;intro w4 i;have p:=i.1.bl J.o;have N:=(i.2 2 _ (.inl (.inr ⟨rfl,rfl⟩))).1 rfl;have O:=(i.2 5 _ (.inr ⟨rfl,rfl⟩)).2 rfl;obtain⟨W5,L,k,HF⟩:=iC (x:=(C,d,u)) p (xq N O rfl) (io J.o) (j.o.th i.1) (Mb _) (λk h=>Kd h j.o.size);have a3:=Z L;have⟨z0,z1,z2,z3,f0,f1,f2,f3⟩:=aL p;obtain⟨x0,x1,x2,x3,-⟩:=aL k;generalize C.length=n1 at*;generalize d.1.length=n2 at*;generalize d.2.length=n3 at*;clear i p N O L k q0 q1 q2 S q3 T o;go_wp2_with fail;rw[<-a3.o];refine Ka (v:=.agg #[.slice a0 n1 c0,.slice a2 n2 c3,.slice b2 n3 c4,.bool u]) ?_ rfl ⟨_,rfl,HF.o⟩;rw[cN rfl];go_simp
theorem oX{c:Func}{p u d:Tmp}{e:TypeId}(h:c.results=#[.tmp u,.cell p e,.tmp d])(b:Array Value)(P:Program)(w:World):
  (results c b).run P w=((asAddr (b.getD p undef)).run P w).andThen λa f=>((loadVar e a).run P f).andThen λv g=>.ok (.tuple #[b.getD u undef,v,b.getD d undef]) g:=by
 simp only[results,h];simp[Lj,Result.andThen]
def eo(x:aH)(r:az):Int:=if cQ x.1 r=0 then f8 x.2.1 r else cQ x.1 r
def kg(x:aH)(r:az):List aG:=if eo x r=0 then dI x.1 r else []
def dL(x:aH)(r:az):bQ:=if eo x r=0 then fu x.2.1 r else ([],[])
def Ie(K:Nat->Prop)(C:List aG)(D:bQ)(E:Int)(w:World)(u:Value):Prop:=∃a n c b d e f g h,u=.tuple #[.slice a n c,.agg #[.slice b d e,.slice f g h],U E]/\kn K w (.slice a n c) C/\EP K w (.agg #[.slice b d e,.slice f g h]) D
theorem Ie.of{K d:Nat->Prop}{C D E w w' u}(h:Ie K C D E w u)(f:∀b,Kx d w' b->Kx K w b):Ie d C D E w' u:=by obtain⟨a,n,c,g,i,j,k,l,m,e,o,p⟩:=h;exact⟨a,n,c,g,i,j,k,l,m,e,λb h=>o b (f b h),λb h=>p b (f b h)⟩
theorem Fm(w)(g:Nat)(x y:Value):Below 0 w ((w.setCell (pA g 0) x).setCell (pA g 1) y):=dS bR (Ks _) x y
theorem Kx.disk{K:Nat->Prop}{w wF:World}{g:Nat}{x y u v:Value}{T}(a:w.1[g]?=some (.cells #[x,y] T (0,0)))(c:K g)(h:Kx K ((w.setCell (pA g 0) u).setCell (pA g 1) v) wF):Kx K w wF:=by obtain⟨-,d,f⟩:=ic (u:=u) (v:=v) a;exact h.put (Fm _ _ _ _) (λb i=>d b λe=>i (by rw[e];exact c)) f
theorem AM(K:Nat->Prop)(w):EP K w (.agg #[nL,nL]) ([],[]):=λ_ _=>(eX 0 _).at
theorem sY{w:World}{g:Nat}{x y:Value}{T}(a:w.1[g]?=some (.cells #[x,y] T (0,0)))(u v:Value):((w.setCell (pA g 0) u).setCell (pA g 1) v).1[g]?=some (.cells #[u,v] T (0,0)):=(ic a).1
theorem xc(B wv rv x r w)(he:dD w)(hx:bi B w wv x)(hr:cI B w rv r)(G:B<=w.1.size)(T:sW x.2.1):
  cL 68 #[wv,rv] w λe g=>∃v,e=.returned v/\Ie (λk=>k<w.1.size) (kg x r) (dL x r) (eo x r) g v/\bL w g:=by
 obtain⟨ca,cc,a,c,b,H,rfl,hc,hd⟩:=hx.shape;obtain⟨pa,pc,ak,-⟩:=hr.shape;have I:Hid (∀g,bL w g->cL 92 #[.slice ca x.1.length cc,rv] g λe i=>∃a n c,e=.returned (.tuple #[.slice a n c,U (cQ x.1 r)])/\wG g.1.size i (.slice a n c) (dI x.1 r)/\bL g i):=λg h=>(Bd B _ rv x.1 r g (hc.l h G) (hr.l h G) (h.u G)).mono λe i ⟨v,h1,V,h3⟩=>by obtain⟨a,c,e,-⟩:=V.at.shape;subst e;exact⟨_,_,_,h1,V,h3⟩
 have J:Hid (∀g,bL w g->cL 100 #[.agg #[.slice a x.2.1.1.length c,.slice b x.2.1.2.length H],rv] g λe i=>∃O X P Y n2 H,e=.returned (.tuple #[.agg #[.slice O X P,.slice Y n2 H],U (f8 x.2.1 r)])/\cV g.1.size i (.agg #[.slice O X P,.slice Y n2 H]) (fu x.2.1 r)/\bL g i):=λg h=>(GJ B _ rv x.2.1 r g (he.l h) (hd.l h G) (hr.l h G) (h.u G) T).mono λe i ⟨v,h1,V,h3⟩=>by obtain⟨O,P,b1,H,e⟩:=V.at.shapeS;subst e;exact⟨_,_,_,_,_,_,h1,V,h3⟩
 have D:Hid (eo x r=if cQ x.1 r=0 then f8 x.2.1 r else cQ x.1 r):=rfl;have Q:Hid (kg x r=if eo x r=0 then dI x.1 r else []):=rfl;have R:Hid (dL x r=if eo x r=0 then fu x.2.1 r else ([],[])):=rfl;obtain⟨C,d,u⟩:=x;obtain⟨k,s,f,E,t⟩:=r;subst ak;simp only at*;clear hd hc hx hr he T G;generalize cQ C (k,s,f,E,t)=NE at*;generalize dI C (k,s,f,E,t)=NR at*;generalize f8 d (k,s,f,E,t)=PE at*;generalize fu d (k,s,f,E,t)=PR at*;generalize eo (C,d,u) (k,s,f,E,t)=WE at*;generalize kg (C,d,u) (k,s,f,E,t)=WC at*;generalize dL (C,d,u) (k,s,f,E,t)=WD at*;generalize C.length=l at*;generalize d.1.length=n at*;generalize d.2.length=m at*;generalize E.length=ln at*;have⟨W,S⟩:=nM (((w.alloc (.cells #[.slice ca l cc,.slice a n c,.slice b m H,.bool u] 27)).alloc (.cells #[U k,U s,U f,.slice pa ln pc,U t] 70)).alloc (.cells #[nL,nL] 25));have K:bL w W:=by rw[S];exact((bR.alloc lE _).alloc (by simp) _).alloc (by simp;omega) _
 have g0:Na W w.1.size #[.slice ca l cc,.slice a n c,.slice b m H,.bool u] 27:=by rw[S];exact dF _ (dF _ (aY _ _ rfl))
 have g1:Na W (w.1.size+1) #[U k,U s,U f,.slice pa ln pc,U t] 70:=by rw[S];exact dF _ (aY _ _ (by simp only[Kg]))
 have g2:Na W (w.1.size+1+1) #[nL,nL] 25:=by rw[S];exact aY _ _ (by simp only[Kg])
 have HW:=Z S;have HG:=Z λg (h:bL W g)=>Q4 (h.bl g0) (h.bl g1) (h.bl g2) (K.th h)
 have a4:=Z K;clear S K g0 g1 g2;go_enter func68,ntmps68;go_wp2_with fail;rw[<-HW.o];go_at_call 92;refine Calls.mono (I.o _ a4.o) ?_;rintro e w1 ⟨na,nn,nc,rfl,L,j⟩;have⟨G0,G1,q,y⟩:=HG.o w1 j;obtain⟨x0,x1,x2,x3,-⟩:=aL G0;have b5:=x2;have⟨y0,y1,y2,y3,y4⟩:=aF G1;have⟨z0,z1,f0,f1⟩:=ag q
 by_cases o:NE=0
 case neg=>
  rw[iO o] at D;rw[D.o,iO o] at Q R;have hq:(NE != 0)=true:=by simpa using o
  obtain⟨v0,v1,-,-⟩:=ag (sY q nL nL);have HF:Hid (bL w ((w1.setCell (pA (w.1.size+1+1) 0) nL).setCell (pA (w.1.size+1+1) 1) nL)):=dS y (by omega) _ _;clear G0 G1 q o L j y I J HG;go_wp2_with fail;refine Ka (v:=.tuple #[nL,.agg #[nL,nL],U NE]) ?_ rfl ⟨_,rfl,⟨_,_,_,_,_,_,_,_,_,by rw[D.o],by rw[Q.o];exact ib _ _,by rw[R.o];exact AM _ _⟩,HF.o⟩;rw[oX rfl];go_simp
 subst o;rw[Io rfl] at D;have F:Hid _:=J.o w1 y;have a5:=Z L;clear G0 G1 q L I J y;go_wp2_with fail;go_at_call 100;refine Calls.mono F.o ?_;rintro e w2 ⟨O,X,P,Y,n2,c3,rfl,a7,M⟩;have a8:=j.th M;obtain⟨-,-,q,a9⟩:=HG.o w2 a8;clear x0 x1 x2 b5 x3 y0 y1 y2 y3 y4 z0 z1 f0 f1;have⟨z0,z1,f0,f1⟩:=ag q;have l2:=io q;obtain⟨v0,v1,-,-⟩:=ag (sY q (.slice O X P) (.slice Y n2 c3));have lW:w.1.size+1+1<W.1.size:=io (HG.o W bR).2.2.1;have aa:Hid (∀u v W',Below ((w2.setCell (pA (w.1.size+1+1) 0) u).setCell (pA (w.1.size+1+1) 1) v).1.size ((w2.setCell (pA (w.1.size+1+1) 0) u).setCell (pA (w.1.size+1+1) 1) v) W'->bL w W'/\∀z,Kx (λk=>k<w.1.size) W' z->Kx (λk=>k<W.1.size) w2 z):=λu v W' h=>by have:=dS a9 (p:=w.1.size+1+1) (by omega) u v;exact⟨this.th h,λz hk=>Kx.disk q lW (hk.back h λk _ e=>MT e (by omega))⟩
 have N:=Z2 (a5.o.l M λ_ _ e=>e:wG W.1.size w2 (.slice na nn nc) NR) ((a7.mono j.size).k);clear q a9 lW a8 j M a7 a5 F HG a4 HW
 by_cases A:PE=0
 case neg=>
  rw[D.o,iO A] at Q R;have hq:(PE != 0)=true:=by simpa using A
  clear A N;go_wp2_with fail;refine Ka (v:=.tuple #[nL,.agg #[nL,nL],U PE]) ?_ rfl ⟨_,rfl,⟨_,_,_,_,_,_,_,_,_,by rw[D.o],by rw[Q.o];exact ib _ _,by rw[R.o];exact AM _ _⟩,?_⟩
  ·rw[oX rfl];go_simp
  exact(aa.o _ _ _ (bR.alloc lE _)).1
 subst A;rw[D.o,Io rfl] at Q R;go_wp2_with fail;go_region
 all_goals
  go_wp2_with fail;refine Ka (v:=.tuple #[.slice na nn nc,.agg #[.slice O X P,.slice Y n2 c3],U 0]) ?_ rfl ⟨_,rfl,?_⟩
  ·rw[oX rfl];go_simp
  obtain⟨k1,k2⟩:=aa.o _ _ _ ((bR.alloc lE _).drew);exact⟨⟨_,_,_,_,_,_,_,_,_,by rw[D.o],by rw[Q.o];exact λz h=>N.o.1 z (k2 z h),by rw[R.o];exact λz h=>N.o.2 z (k2 z h)⟩,k1⟩
section
structure uP (B:Nat) (W:World) (r:az) (C:List aG) (D:bQ) (E:Int) (fs:Nat->Value->Prop) (w:World):Prop where
 below:bL W w
 rcd:∀u,fs 2 u->cI B w u r
 wr:∀u,fs 3 u->∀K:Nat->Prop,(∀k,K k->k<W.1.size\/fs 8 (.pointer (sO k)))->Ie K C D E w u
 box:∀u,fs 8 u->∃ (g:Nat) (a1:Option Addr) (n1 c1:Nat) (a2:Option Addr) (n2 c2:Nat),u=.pointer (sO g)/\W.1.size<=g/\w.1[g]?=some (.cells #[.slice a1 n1 c1,.slice a2 n2 c2] 25 (0,0))/\((∃x,fs 10 x)->EP (λk=>k<W.1.size\/k=g) w (.agg #[.slice a1 n1 c1,.slice a2 n2 c2]) D)
 one:∀u v,fs 8 u->fs 8 v->u=v
 need:(∃x,fs 10 x)->∃u,fs 8 u
section
variable {B:Nat} {W w w':World} {r:az} {C:List aG} {D:bQ} {E:Int} {fs:Nat->Value->Prop}
theorem uP.start(B W r C D E):uP B W r C D E (λ_ _=>False) W.drew:=⟨bR.drew,λ_ h=>h.elim,λ_ h=>h.elim,λ_ h=>h.elim,λ_ _ h=>h.elim,λ⟨_,h⟩=>h.elim⟩
theorem uP.l(h:uP B W r C D E fs w)(c:B<=W.1.size)(a:bL w w'):uP B W r C D E fs w':=
 ⟨h.below.th a,λu b=>(h.rcd u b).l a (Kl c h.below.size),λu b K f=>(h.wr u b K f).of λt k=>k.back a λ_ _ e=>e,λu b=>by
  have⟨g,i,j,l,m,n,o,e,p,d,q⟩:=h.box u b
  exact⟨g,i,j,l,m,n,o,e,p,(a.block g (io d)).trans d,λs=>(q s).l a λ_ _ e=>e⟩,h.one,h.need⟩
theorem uP.lt(h:uP B W r C D E fs w){k:Nat}(a:k<W.1.size\/fs 8 (.pointer (sO k))):k<w.1.size:=by
 rcases a with a|a
 ·exact Kd a h.below.size
 obtain⟨g,c,d,f,i,j,l,e,m,b,n⟩:=h.box _ a;simp at e;rw[e];exact io b
theorem uP.more(h:uP B W r C D E fs w)(i:B<=W.1.size)(o:bL w w'){k:Nat}{v}(c:8≠k)(d:10≠k)(p:2=k->cI B w' v r)(q:3=k->Ie (λk=>k<w.1.size) C D E w' v):uP B W r C D E (d9 fs k v) w':=by
 have b:∀ {m u},m≠k->d9 fs k v m u->fs m u:=λs a=>dj a s
 have f:=h.l i o;refine⟨f.below,λu a=>?_,λu a K n=>?_,λu a=>?_,λu t a j=>h.one u t (b c a) (b c j),λ⟨x,l⟩=>?_⟩
 ·rcases a with a|⟨e,rfl⟩
  ·exact f.rcd u a
  exact p e
 ·rcases a with a|⟨e,rfl⟩
  ·exact f.wr u a K λk e=>(n k e).imp id (b c)
  exact(q e).of λM k=>k.back bR λk _ e=>h.lt ((n k e).imp id (b c))
 ·have⟨g,y,z,A,F,G,H,e,I,J,L⟩:=f.box u (b c a);exact⟨g,y,z,A,F,G,H,e,I,J,λ⟨x,l⟩=>L ⟨x,b d l⟩⟩
 have⟨u,a⟩:=h.need ⟨x,b d l⟩;exact⟨u,.inl a⟩
theorem uP.made(h:uP B W r C D E fs w)(d:B<=W.1.size)(b:∀v,¬fs 8 v):uP B W r C D E (d9 fs 8 (.pointer (sO w.1.size))) (w.alloc (.cells #[nL,nL] 25)):=by
 have f:=(Kf w.1.size w).alloc lE (.cells #[nL,nL] 25);have g:=h.l d f;refine⟨g.below,λu a=>g.rcd u (dj a (by decide)),λu a K i=>?_,λu a=>?_,λu j a c=>?_,λ_=>⟨_,.inr ⟨rfl,rfl⟩⟩⟩
 ·refine(h.wr u (dj a (by decide)) (λk=>K k/\k<W.1.size) λk e=>.inl e.2).of λo l=>l.back f λk m e=>⟨e,?_⟩
  rcases i k e with e|e|⟨_,e⟩
  ·exact e
  ·exact absurd e (b _)
  cases e;exact absurd m (Nat.lt_irrefl _)
 ·rcases a with a|⟨_,rfl⟩
  ·exact absurd a (b u)
  refine⟨_,_,_,_,_,_,_,rfl,h.below.size,ah _ _,λ⟨x,n⟩=>?_⟩;obtain⟨u,a⟩:=h.need ⟨x,dj n (by decide)⟩;exact absurd a (b u)
 rcases a with a|⟨_,rfl⟩
 ·exact absurd a (b u)
 rcases c with c|⟨_,rfl⟩
 ·exact absurd c (b j)
 rfl
theorem uP.store(h:uP B W r C D E fs w)(f:B<=W.1.size)(A:∀v,¬fs 10 v){g:Nat}{a1 a2 n1 c1 n2 c2}{F G:Value}(H:fs 3 (.tuple #[F,.agg #[.slice a1 n1 c1,.slice a2 n2 c2],G]))(d:fs 8 (.pointer (sO g))):(∃m o p q s t,w.1[g]?=some (.cells #[.slice m o p,.slice q s t] 25 (0,0)))/\uP B W r C D E (d9 fs 10 undef) ((w.setCell (pA g 0) (.slice a1 n1 c1)).setCell (pA g 1) (.slice a2 n2 c2)):=by
 obtain⟨S,m,o,p,q,s,t,e,x,i,-⟩:=h.box _ d;simp at e;subst e;have y:=dS (Kf W.1.size w) x (.slice a1 n1 c1) (.slice a2 n2 c2)
 have z:∀u,fs 3 u->∀K:Nat->Prop,(∀k,K k->k<W.1.size\/k=g)->Ie K C D E ((w.setCell (pA g 0) (.slice a1 n1 c1)).setCell (pA g 1) (.slice a2 n2 c2)) u:=λu b K j=>
  (h.wr u b (λk=>k<W.1.size\/k=g) λk e=>e.imp id (λe=>by rw[e];exact d)).of λT I=>Kx.disk i (.inr rfl) (I.back bR λk _ e=>j k e)
 refine⟨⟨_,_,_,_,_,_,i⟩,h.below.trans y,λu b=>(h.rcd u (dj b (by decide))).l y f,λu b K j=>z u (dj b (by decide)) K λk e=>(j k e).imp id λe=>?_,λu b=>?_,λu J b l=>h.one u J (dj b (by decide)) (dj l (by decide)),λ_=>⟨_,.inl d⟩⟩
 ·have:=h.one _ _ (dj e (by decide)) d
  simpa using this
 refine⟨g,a1,n1,c1,a2,n2,c2,h.one _ _ (dj b (by decide)) d,x,sY i _ _,λ_=>?_⟩;obtain⟨a,n,c,L,M,N,O,P,Q,e,-,R⟩:=z _ H _ λ_ e=>e
 simp at e;obtain⟨-,⟨⟨rfl,rfl,rfl⟩,rfl,rfl,rfl⟩,-⟩:=e;exact R
theorem uP.done(h:uP B W r C D E fs w){x u3:Value}{g:Nat}(j:fs 10 x)(m:fs 3 u3)(l:fs 8 (.pointer (sO g))):∃a b c d f i,w.1[g]?=some (.cells #[.slice a b c,.slice d f i] 25 (0,0))/\W.1.size<=g/\EP (λk=>k<W.1.size\/k=g) w (.agg #[.slice a b c,.slice d f i]) D/\Ie (λk=>k<W.1.size\/k=g) C D E w u3:=by obtain⟨q,a,b,c,d,f,i,e,n,o,p⟩:=h.box _ l;simp at e;subst e;exact⟨a,b,c,d,f,i,o,n,p ⟨_,j⟩,h.wr _ m _ λk e=>e.imp id λe=>by rw[e];exact l⟩
end
def JP(r:az)(E:Int)(k:Nat)(v:Value):Prop:=(k=2->∃a c,v=.agg #[U r.1,U r.2.1,U r.2.2.1,.slice a r.2.2.2.1.length c,U r.2.2.2.2])/\(k=3->∃a n c b d e f h i,v=.tuple #[.slice a n c,.agg #[.slice b d e,.slice f h i],U E])/\(k=8->∃g:Nat,v=.pointer (sO g))
theorem AJ(r E k):∃v,JP r E k v:=by
 by_cases a:k=2
 ·subst a;exact⟨_,λ_=>⟨none,0,rfl⟩,λe=>(by cases e),λe=>(by cases e)⟩
 by_cases b:k=3
 ·subst b;exact⟨_,λe=>(by cases e),λ_=>⟨none,0,0,none,0,0,none,0,0,rfl⟩,λe=>(by cases e)⟩
 exact⟨_,λe=>absurd e a,λe=>absurd e b,λ_=>⟨0,rfl⟩⟩
end
def tg(x:aH)(r:az):Int:=if eo x r=0 then fm (dL x r) else eo x r
def AP(x:aH)(r:az):aH:=if tg x r=0 then (kg x r,i7 (dL x r),true) else fg
theorem sN(x r):sW (dL x r):=by
 unfold dL
 split
 ·exact IA
 unfold sW;decide
theorem BO(B wv xv x y w)(he:dD w)(hx:bi B w wv x)(hy:cI B w xv y)(hB:B<=w.1.size)(hr:cr x=0):
  cL 41 #[wv,xv] w λe b=>∃v,e=.returned (.tuple #[v,U (tg x (bU y))])/\kG (λk=>k<w.1.size) b v (AP x (bU y))/\bL w b:=by
 have⟨hg,hk⟩:=kO hr;have af:=Z λb (h:bL w b)=>xE B xv y b (hy.l h hB) (h.u hB)
 have ak:=Z λb rv (h:bL w b) (h1:cI B b rv (bU y))=>xc B wv rv x (bU y) b (he.l h) (hx.l h hB) h1 (h.u hB) (Al hk)
 have T:Hid (∀b v,bL w b->cJ b.1.size b v (dL x (bU y))->cL 71 #[v] b λe V=>∃a1 n1 c1 a2 n2 c2,e=.returned (.tuple #[.agg #[.slice a1 n1 c1,.slice a2 n2 c2],U (fm (dL x (bU y)))])/\cV b.1.size V (.agg #[.slice a1 n1 c1,.slice a2 n2 c2]) (i7 (dL x (bU y)))/\bL b V):=λb v h h1=>(Fy _ v _ b (he.l h) h1 lE (sN _ _)).mono λe V ⟨v,h1,h2,h3⟩=>by obtain⟨a1,c1,b1,c2,e⟩:=h2.at.shapeS;subst e;exact⟨_,_,_,_,_,_,h1,h2,h3⟩
 have Q:Hid (tg x (bU y)=if eo x (bU y)=0 then fm (dL x (bU y)) else eo x (bU y)):=rfl;have HR:Hid (AP x (bU y)=if tg x (bU y)=0 then (kg x (bU y),i7 (dL x (bU y)),true) else fg):=rfl;obtain⟨ca,cc,sa,sc,ta,tc,rfl,-,-⟩:=hx.shape;obtain⟨pa,pc,rfl,-⟩:=hy.shape;have HB:=Z hB;clear he hx hy hr hg hk hB;generalize bU y=R at*;generalize kg x R=WC at*;generalize eo x R=WE at*;generalize dL x R=WD at*;generalize tg x R=CE at*;generalize AP x R=CR at*;generalize fm WD=SE at*;generalize i7 WD=SR at*;obtain⟨C,⟨s,t⟩,u⟩:=x;obtain⟨k,ci,f,rs,d⟩:=y;simp only at*;generalize C.length=nC at*;generalize s.length=nS at*;generalize t.length=nT at*;generalize rs.length=nP at*;have⟨G,g0,g1,g2⟩:=lF w #[.slice ca nC cc,.slice sa nS sc,.slice ta nT tc,.bool u] #[U k,U ci,U f,.slice pa nP pc,U d];have⟨W,hW⟩:=nM (sU w #[.slice ca nC cc,.slice sa nS sc,.slice ta nT tc,.bool u] #[U k,U ci,U f,.slice pa nP pc,U d]);rw[<-hW] at G g0 g1 g2;have HW:Hid (W=((w.alloc (.cells #[.slice ca nC cc,.slice sa nS sc,.slice ta nT tc,.bool u] 27)).alloc (.cells #[U k,U ci,U f,.slice pa nP pc,U d] 32)).alloc (.cells #[nL,nL,nL,.bool false] 27)):=hW;obtain⟨x0,x1,x2,x3,-⟩:=aL g0;have⟨y0,y1,y2,y3,y4⟩:=aF g1;have l0:=io g0;have l1:=io g1;have q0:∀z:ax W,z.1.cell? (pW w 0)=some (.slice ca nC cc):=λz=>z.cell x0 l0
 have q1:∀z:ax W,z.1.cell? (pW w 1)=some (.slice sa nS sc):=λz=>z.cell x1 l0
 have q2:∀z:ax W,z.1.cell? (pW w 2)=some (.slice ta nT tc):=λz=>z.cell x2 l0
 have q3:∀z:ax W,z.1.cell? (pW w 3)=some (.bool u):=λz=>z.cell x3 l0
 have p0:∀z:ax W,z.1.cell? (pA (w.1.size+1) 0)=some (U k):=λz=>z.cell y0 l1
 have p1:∀z:ax W,z.1.cell? (pA (w.1.size+1) 1)=some (U ci):=λz=>z.cell y1 l1
 have p2:∀z:ax W,z.1.cell? (pA (w.1.size+1) 2)=some (U f):=λz=>z.cell y2 l1
 have p3:∀z:ax W,z.1.cell? (pA (w.1.size+1) 3)=some (.slice pa nP pc):=λz=>z.cell y3 l1
 have p4:∀z:ax W,z.1.cell? (pA (w.1.size+1) 4)=some (U d):=λz=>z.cell y4 l1
 have X:=ax.ne W
 have l:Hid (∀fs b,uP B W R WC WD WE fs b->∃z:ax W,b=z.1):=λfs b h=>⟨⟨b,h.below⟩,rfl⟩
 have H:=Z (G.u HB.o);have bp:=Z g2;have I:=Z G;clear hW G g0 g1 g2 x0 x1 x2 x3 y0 y1 y2 y3 y4 l0 l1;go_enter func41,ntmps41;go_wp2_with fail;rw[<-HW.o];refine bJ [_,_,_,_,_,_,_,_,_,_,_] _ rfl (λk=>k==2||k==3||k==8||k==10) (uP B W R WC WD WE) (JP R WE) (AJ _ _) (by kernel_rfl) (by kernel_rfl) (uP.start _ _ _ _ _ _) ?_;iterate 2(refine aP l.o rfl rfl ?_;go_big_quiet_step (fail);refine Km ?_)
 refine bw 69 #[.agg #[U k,U ci,U f,.slice pa nP pc,U d]] rfl rfl (λb=>by kernel_rfl) (λgs b i g j=>?_) (λv2 dq=>?_)
 ·refine(af.o b (I.o.th i.below)).mono ?_;rintro e w3 ⟨v,rfl,hv,hb⟩;obtain⟨a,c,ev,-⟩:=hv.shape;exact⟨_,rfl,⟨λ_=>⟨a,c,ev⟩,λe=>(by cases e),λe=>(by cases e)⟩,i.more H.o hb (by decide) (by decide) (λ_=>hv) (λe=>by cases e)⟩
 go_frame;obtain⟨ra,rc,rfl⟩:=dq.1 rfl;obtain⟨rk,ri,rf,rr,rd⟩:=R;simp only at*;generalize rr.length=nR at*;refine bw 68 #[.agg #[.slice ca nC cc,.slice sa nS sc,.slice ta nT tc,.bool u],.agg #[U rk,U ri,U rf,.slice ra nR rc,U rd]] rfl rfl (λb=>by kernel_rfl) (λgs b i g j=>?_) (λv3 e2=>?_)
 ·have h2:=g 2 _ (.inr ⟨rfl,rfl⟩) (au (by kernel_rfl));refine(ak.o b _ (I.o.th i.below) (i.rcd _ h2)).mono ?_;rintro e w3 ⟨v,rfl,hv,hb⟩;obtain⟨a,n,c,a1,n1,c1,a2,n2,c2,ev,-,-⟩:=id hv;exact⟨_,rfl,⟨λe=>(by cases e),λ_=>⟨a,n,c,a1,n1,c1,a2,n2,c2,ev⟩,λe=>(by cases e)⟩,i.more H.o hb (by decide) (by decide) (λe=>by cases e) (λ_=>hv)⟩
 go_frame;obtain⟨a3,n3,c3,a4,n4,c4,a5,n5,c5,rfl⟩:=e2.2.1 rfl;iterate 4(refine aP l.o rfl rfl ?_;go_big_quiet_step (fail);refine Km ?_)
 refine cz rfl rfl (λgs b i g j=>⟨.pointer (MZ b),_,?_,⟨λe=>(by cases e),λe=>(by cases e),λ_=>⟨_,rfl⟩⟩,i.made H.o j⟩) (λv8 e3=>?_)
 ·clear i g j q0 q1 q2 q3 p0 p1 p2 p3 p4 l X;go_simp
 go_frame;obtain⟨S,rfl⟩:=e3.2.2 rfl;refine aP l.o rfl rfl ?_;go_big_quiet_step (fail);refine Km ?_;refine fL rfl rfl (λgs b i g j=>?_) (λgo eN=>?_)
 ·have h3:=g 3 _ (.inl (.inr ⟨rfl,rfl⟩)) (au (by kernel_rfl));have h8:=g 8 _ (.inr ⟨rfl,rfl⟩) (au (by kernel_rfl));have⟨⟨b1,m1,d1,b2,m2,d2,br⟩,bs⟩:=i.store H.o j h3 h8;have⟨z0,z1,f0,f1⟩:=ag br;refine⟨_,?_,⟨λe=>(by cases e),λe=>(by cases e),λe=>(by cases e)⟩,bs⟩;clear i g j q0 q1 q2 q3 p0 p1 p2 p3 p4 l X h3 h8 br bs;go_simp
 go_frame;refine ei ?_;intro w4 i;have⟨b1,m1,d1,b2,m2,d2,m,J,L,o⟩:=i.done (.inr ⟨rfl,rfl⟩) (.inl (.inl (.inr ⟨rfl,rfl⟩))) (.inl (.inr ⟨rfl,rfl⟩));obtain⟨_,_,_,_,_,_,_,_,_,ec,o,-⟩:=o;simp at ec;obtain⟨⟨rfl,rfl,rfl⟩,-⟩:=ec;have p:=I.o.th i.below;have lW:=io bp.o;have G4:=(i.below.block _ lW).trans bp.o;have⟨z0,z1,z2,z3,f0,f1,f2,f3⟩:=aL G4;have⟨x0,x1,e0,e1⟩:=ag m;clear i l X q0 q1 q2 q3 p0 p1 p2 p3 p4 af ak
 by_cases A:WE=0
 case neg=>
  rw[iO A] at Q;rw[Q.o,iO A] at HR;have hq:(WE != 0)=true:=by simpa using A
  obtain⟨W5,bx,k5,HF⟩:=kR G4 p (by omega);have e8:=Z bx;obtain⟨v0,v1,v2,v3,-⟩:=aL k5;clear A bx k5 G4 m J L o p lW;go_wp2_with fail;rw[<-e8.o];refine Ka (v:=.tuple #[.agg #[nL,nL,nL,.bool false],U WE]) ?_ rfl ⟨_,by rw[Q.o],by rw[HR.o];exact HF.o⟩;rw[K8 rfl];go_simp
 subst A;rw[Io rfl] at Q;have D:Hid _:=T.o w4 _ p L.at;have l8:=io m;go_wp2_with fail;go_at_call 71;refine Calls.mono D.o ?_;rintro e w5 ⟨a6,n6,c6,a7,n7,c7,rfl,Y,q⟩;have E:=(q.block _ l8).trans m;have G5:=q.bl G4;have a0:=p.th q;have⟨k0,k1,k2⟩:=ic (u:=.slice a6 n6 c6) (v:=.slice a7 n7 c7) E;have⟨W6,r⟩:=nM ((w5.setCell (pA S 0) (.slice a6 n6 c6)).setCell (pA S 1) (.slice a7 n7 c7));have M:∀N,Kx (λk=>k<W.1.size\/k=S) W6 N->Kx (λk=>k<W.1.size\/k=S) w5 N:=λN h=>by rw[r] at h;exact Kx.disk E (.inr rfl) h
 have O:bL w W6:=by rw[r];exact dS a0 (Kl I.o.size J) _ _
 rw[<-r] at k0 k1 k2;have G6:=(k1 (w.1.size+1+1) (by omega)).trans G5;clear x0 x1 e0 e1 z0 z1 z2 z3 f0 f1 f2 f3;have⟨x0,x1,e0,e1⟩:=ag E;have⟨z0,z1,z2,z3,f0,f1,f2,f3⟩:=aL G5;have gD:¬S=w.1.size+1+1:=by omega
 have gF:¬w.1.size+1+1=S:=by omega
 have bF:=Z r
 by_cases P:SE=0
 case neg=>
  rw[Q.o,iO P] at HR;have hq:(SE != 0)=true:=by simpa using P
  obtain⟨W7,F,k7,HF⟩:=kR G6 O (by omega);have a8:=Z F;obtain⟨v0,v1,v2,v3,-⟩:=aL k7;clear P F k7 G4 G5 G6 m E J L o p a0 O Y q k0 k1 k2 r M lW l8 D T;go_wp2_with fail;rw[<-bF.o,<-a8.o];refine Ka (v:=.tuple #[.agg #[nL,nL,nL,.bool false],U SE]) ?_ rfl ⟨_,by rw[Q.o],by rw[HR.o];exact HF.o⟩;rw[K8 rfl];go_simp
 subst P;rw[Q.o,Io rfl] at HR;have c8:∀k,k<W.1.size\/k=S->k<w4.1.size:=λk h=>by omega
 obtain⟨W7,F,k7,HF⟩:=iC (K:=λk=>k<W.1.size\/k=S) (x:=(WC,SR,true)) G6 (xq (λN h=>(o.l q λ_ _ e=>e) N (M N h)) (λN h=>Y.k N ((M N h).back bR λk _ e=>c8 k e)) rfl) (.inl lW) O (by omega) (λk h=>.inl (by omega));have a8:=Z F;obtain⟨v0,v1,v2,v3,-⟩:=aL k7;clear F k7 G4 G5 G6 m E J L o p a0 O Y q k0 k1 k2 r M c8 lW l8 D T;go_wp2_with fail;rw[<-bF.o,<-a8.o];refine Ka (v:=.tuple #[.agg #[.slice a3 n3 c3,.slice a6 n6 c6,.slice a7 n7 c7,.bool true],U 0]) ?_ rfl ⟨_,by rw[Q.o],by rw[HR.o];exact HF.o⟩;rw[K8 rfl];go_simp
def tG(x:aH)(r:az)(f:Int):aH:=if eo x r=0 then (aA,((dL x r).1,(dL x r).2.take (ig f (dL x r).2.length)),false) else fg
theorem uv{d:bQ}(f:Int)(h:aB d=0):i9 d (min (max f 0) d.2.length)=0/\kE d (min (max f 0) d.2.length)=(d.1,d.2.take (ig f d.2.length)):=by
 have e:i9 d (min (max f 0) d.2.length)=0:=by unfold i9;rw[Io h,iO (by omega)]
 refine⟨e,?_⟩;unfold kE ig;rw[Io e];congr 2;omega
theorem FI(B wv xv x y w)(he:dD w)(hx:bi B w wv x)(hy:cI B w xv y)(V:B<=w.1.size)(hr:cr x=0)(q:eo x (bU y)=0->aB (dL x (bU y))=0):
  cL 40 #[wv,xv] w λe b=>∃v,e=.returned (.tuple #[v,U (eo x (bU y))])/\kG (λk=>k<w.1.size) b v (tG x (bU y) y.2.2.1)/\bL w b:=by
 have⟨hg,hk⟩:=kO hr;have ad:=Z λb (h:bL w b)=>xE B xv y b (hy.l h V) (h.u V)
 have ae:=Z λb rv (h:bL w b) (X:cI B b rv (bU y))=>xc B wv rv x (bU y) b (he.l h) (hx.l h V) X (h.u V) (Al hk)
 have af:Hid (eo x (bU y)=0->∀b v,bL w b->cJ b.1.size b v (dL x (bU y))->cL 70 #[v,U (min (max y.2.2.1 0) (dL x (bU y)).2.length)] b λe L=>∃a1 n1 c1 a2 n2 c2,e=.returned (.tuple #[.agg #[.slice a1 n1 c1,.slice a2 n2 c2],U 0])/\cV b.1.size L (.agg #[.slice a1 n1 c1,.slice a2 n2 c2]) ((dL x (bU y)).1,(dL x (bU y)).2.take (ig y.2.2.1 (dL x (bU y)).2.length))/\bL b L):=λh0 b v h X=>(Dl _ v _ _ b (he.l h) (cR (by have:=sN x (bU y);unfold sW at this;omega)) X lE (sN _ _)).mono λe L ⟨v,X,h2,h3⟩=>by rw[(uv _ (q h0)).1] at X;rw[(uv _ (q h0)).2] at h2;obtain⟨a1,c1,b1,c2,e⟩:=h2.at.shapeS;subst e;exact⟨_,_,_,_,_,_,X,h2,h3⟩
 have b0:Hid (eo x (bU y)=0->(((dL x (bU y)).1,(dL x (bU y)).2.take (ig y.2.2.1 (dL x (bU y)).2.length)):bQ).1.length<=60000/\(((dL x (bU y)).1,(dL x (bU y)).2.take (ig y.2.2.1 (dL x (bU y)).2.length)):bQ).2.length<=60000):=λh0=>by have:=dE (q h0);exact⟨this.1,by show (List.take _ _).length<=_;rw[Kt];omega⟩
 have HR:Hid (tG x (bU y) y.2.2.1=if eo x (bU y)=0 then (aA,((dL x (bU y)).1,(dL x (bU y)).2.take (ig y.2.2.1 (dL x (bU y)).2.length)),false) else fg):=rfl;obtain⟨ca,cc,sa,sc,ta,tc,rfl,-,-⟩:=hx.shape;obtain⟨pa,pc,rfl,-⟩:=hy.shape;have HB:=Z V;clear he hx hy hr hg hk V q;generalize bU y=R at*;generalize kg x R=WC at*;generalize eo x R=Y at*;generalize dL x R=M at*;generalize tG x R y.2.2.1=CR at*;generalize ((M.1,M.2.take (ig y.2.2.1 M.2.length)):bQ)=TD at*;obtain⟨C,⟨s,t⟩,u⟩:=x;obtain⟨k,ci,f,rs,d⟩:=y;simp only at*;generalize C.length=nC at*;generalize s.length=nS at*;generalize t.length=nT at*;generalize rs.length=nP at*;have⟨r,g0,g1,g2⟩:=lF w #[.slice ca nC cc,.slice sa nS sc,.slice ta nT tc,.bool u] #[U k,U ci,U f,.slice pa nP pc,U d];have⟨W,hW⟩:=nM (sU w #[.slice ca nC cc,.slice sa nS sc,.slice ta nT tc,.bool u] #[U k,U ci,U f,.slice pa nP pc,U d]);rw[<-hW] at r g0 g1 g2;have HW:Hid (W=((w.alloc (.cells #[.slice ca nC cc,.slice sa nS sc,.slice ta nT tc,.bool u] 27)).alloc (.cells #[U k,U ci,U f,.slice pa nP pc,U d] 32)).alloc (.cells #[nL,nL,nL,.bool false] 27)):=hW;obtain⟨x0,x1,x2,x3,-⟩:=aL g0;have⟨y0,y1,y2,y3,y4⟩:=aF g1;have l0:=io g0;have l1:=io g1;have q0:∀z:ax W,z.1.cell? (pW w 0)=some (.slice ca nC cc):=λz=>z.cell x0 l0
 have q1:∀z:ax W,z.1.cell? (pW w 1)=some (.slice sa nS sc):=λz=>z.cell x1 l0
 have q2:∀z:ax W,z.1.cell? (pW w 2)=some (.slice ta nT tc):=λz=>z.cell x2 l0
 have q3:∀z:ax W,z.1.cell? (pW w 3)=some (.bool u):=λz=>z.cell x3 l0
 have p0:∀z:ax W,z.1.cell? (pA (w.1.size+1) 0)=some (U k):=λz=>z.cell y0 l1
 have p1:∀z:ax W,z.1.cell? (pA (w.1.size+1) 1)=some (U ci):=λz=>z.cell y1 l1
 have p2:∀z:ax W,z.1.cell? (pA (w.1.size+1) 2)=some (U f):=λz=>z.cell y2 l1
 have p3:∀z:ax W,z.1.cell? (pA (w.1.size+1) 3)=some (.slice pa nP pc):=λz=>z.cell y3 l1
 have p4:∀z:ax W,z.1.cell? (pA (w.1.size+1) 4)=some (U d):=λz=>z.cell y4 l1
 have N:=ax.ne W
 have l:Hid (∀fs b,uP B W R WC M Y fs b->∃z:ax W,b=z.1):=λfs b h=>⟨⟨b,h.below⟩,rfl⟩
 have A:=Z (r.u HB.o);have bo:=Z g2;have D:=Z r;have di:=Z λb (h:bL W b)=>h.bl g1
 clear hW r g0 g1 g2 x0 x1 x2 x3 y0 y1 y2 y3 y4 l0 l1;go_enter func40,ntmps40;go_wp2_with fail;rw[<-HW.o];refine bJ [_,_,_,_,_,_,_,_,_,_,_] _ rfl (λk=>k==2||k==3||k==8||k==10) (uP B W R WC M Y) (JP R Y) (AJ _ _) (by kernel_rfl) (by kernel_rfl) (uP.start _ _ _ _ _ _) ?_;iterate 2(refine aP l.o rfl rfl ?_;go_big_quiet_step (fail);refine Km ?_)
 refine bw 69 #[.agg #[U k,U ci,U f,.slice pa nP pc,U d]] rfl rfl (λb=>by kernel_rfl) (λgs b i g j=>?_) (λv2 dl=>?_)
 ·refine(ad.o b (D.o.th i.below)).mono ?_;rintro e w3 ⟨v,rfl,hv,hb⟩;obtain⟨a,c,ev,-⟩:=hv.shape;exact⟨_,rfl,⟨λ_=>⟨a,c,ev⟩,λe=>(by cases e),λe=>(by cases e)⟩,i.more A.o hb (by decide) (by decide) (λ_=>hv) (λe=>by cases e)⟩
 go_frame;obtain⟨ra,rc,rfl⟩:=dl.1 rfl;obtain⟨rk,ri,rf,rr,rd⟩:=R;simp only at*;generalize rr.length=nR at*;refine bw 68 #[.agg #[.slice ca nC cc,.slice sa nS sc,.slice ta nT tc,.bool u],.agg #[U rk,U ri,U rf,.slice ra nR rc,U rd]] rfl rfl (λb=>by kernel_rfl) (λgs b i g j=>?_) (λv3 dq=>?_)
 ·have h2:=g 2 _ (.inr ⟨rfl,rfl⟩) (au (by kernel_rfl));refine(ae.o b _ (D.o.th i.below) (i.rcd _ h2)).mono ?_;rintro e w3 ⟨v,rfl,hv,hb⟩;obtain⟨a,n,c,a1,n1,c1,a2,n2,c2,ev,-,-⟩:=id hv;exact⟨_,rfl,⟨λe=>(by cases e),λ_=>⟨a,n,c,a1,n1,c1,a2,n2,c2,ev⟩,λe=>(by cases e)⟩,i.more A.o hb (by decide) (by decide) (λe=>by cases e) (λ_=>hv)⟩
 go_frame;obtain⟨a3,n3,c3,a4,n4,c4,a5,n5,c5,rfl⟩:=dq.2.1 rfl;iterate 4(refine aP l.o rfl rfl ?_;go_big_quiet_step (fail);refine Km ?_)
 refine cz rfl rfl (λgs b i g j=>⟨.pointer (MZ b),_,?_,⟨λe=>(by cases e),λe=>(by cases e),λ_=>⟨_,rfl⟩⟩,i.made A.o j⟩) (λv8 dr=>?_)
 ·clear i g j q0 q1 q2 q3 p0 p1 p2 p3 p4 l N;go_simp
 go_frame;obtain⟨g8,rfl⟩:=dr.2.2 rfl;refine aP l.o rfl rfl ?_;go_big_quiet_step (fail);refine Km ?_;refine fL rfl rfl (λgs b i g j=>?_) (λgM fa=>?_)
 ·have h3:=g 3 _ (.inl (.inr ⟨rfl,rfl⟩)) (au (by kernel_rfl));have h8:=g 8 _ (.inr ⟨rfl,rfl⟩) (au (by kernel_rfl));have⟨⟨b1,m1,d1,b2,m2,d2,bq⟩,br⟩:=i.store A.o j h3 h8;have⟨z0,z1,f0,f1⟩:=ag bq;refine⟨_,?_,⟨λe=>(by cases e),λe=>(by cases e),λe=>(by cases e)⟩,br⟩;clear i g j q0 q1 q2 q3 p0 p1 p2 p3 p4 l N h3 h8 bq br;go_simp
 go_frame;refine ei ?_;intro w4 i;have⟨b1,m1,d1,b2,m2,d2,m,O,E,F⟩:=i.done (.inr ⟨rfl,rfl⟩) (.inl (.inl (.inr ⟨rfl,rfl⟩))) (.inl (.inr ⟨rfl,rfl⟩));obtain⟨_,_,_,_,_,_,_,_,_,ec,F,-⟩:=F;simp at ec;obtain⟨⟨rfl,rfl,rfl⟩,-⟩:=ec;have o:=D.o.th i.below;have lW:=io bo.o;have G4:=(i.below.block _ lW).trans bo.o;have⟨z0,z1,z2,z3,f0,f1,f2,f3⟩:=aL G4;have⟨x0,x1,e0,e1⟩:=ag m;have P:=i.below;clear i l N q0 q1 q2 q3 p0 p1 p2 p3 p4 ad ae
 by_cases G:Y=0
 case neg=>
  rw[iO G] at HR;have hq:(Y != 0)=true:=by simpa using G
  obtain⟨W5,bv,k5,HF⟩:=kR G4 o (by omega);have e8:=Z bv;obtain⟨v0,v1,v2,v3,-⟩:=aL k5;clear G bv k5 G4 m O E F o lW P;go_wp2_with fail;rw[<-e8.o];refine Ka (v:=.tuple #[.agg #[nL,nL,nL,.bool false],U Y]) ?_ rfl ⟨_,rfl,by rw[HR.o];exact HF.o⟩;rw[K8 rfl];go_simp
 subst G;rw[Io rfl] at HR;obtain⟨_,_,_,_,ed⟩:=E.at.shapeS;simp at ed;obtain⟨⟨rfl,rfl,rfl⟩,rfl,rfl,rfl⟩:=ed;have J:Hid _:=af.o rfl w4 _ o E.at;have K:Hid _:=b0.o rfl;have l8:=io m;have r2:=((aF (di.o w4 P)).2.2.1);generalize M.1.length=m1 at*;generalize M.2.length=m2 at*;clear af P b0;go_wp2_with fail;go_at_call 70;refine Calls.mono J.o ?_;rintro e w5 ⟨a6,n6,c6,a7,n7,c7,rfl,bx,H⟩;have Q:=(H.block _ l8).trans m;have G5:=H.bl G4;have bz:=o.th H;have⟨k0,k1,k2⟩:=ic (u:=.slice a6 n6 c6) (v:=.slice a7 n7 c7) Q;have⟨W6,I⟩:=nM ((w5.setCell (pA g8 0) (.slice a6 n6 c6)).setCell (pA g8 1) (.slice a7 n7 c7));have bF:bL w W6:=by rw[I];exact dS bz (Kl D.o.size O) _ _
 rw[<-I] at k0 k1 k2;have G6:=(k1 (w.1.size+1+1) (by omega)).trans G5;have c0:Hid _:=tq W6.1.size _ _ W6 (bx.keep k1 l8 k2).at lE K.o;clear x0 x1 e0 e1 z0 z1 z2 z3 f0 f1 f2 f3 r2;have⟨x0,x1,e0,e1⟩:=ag Q;have ee:=Z I;have p:=Z2 bF G6;clear G4 G5 G6 m Q O E F o bz bF bx H k0 k1 k2 I lW l8 J K;go_wp2_with fail;rw[<-ee.o];go_at_call 27;refine Calls.mono c0.o ?_;rintro e w7 ⟨v7,rfl,S,T⟩;obtain⟨a8,c8,a9,c9,ef,eg,rfl,-⟩:=S.at.shape;have G7:=T.bl p.o.2;clear x0 x1 e0 e1;have⟨z0,z1,z2,z3,f0,f1,f2,f3⟩:=aL G7;obtain⟨W7,cb,k7,HF⟩:=iC G7 S (io p.o.2) (p.o.1.th T) (by omega) (λk h=>Kd h p.o.1.size);have ek:=Z cb;obtain⟨v0,v1,v2,v3,-⟩:=aL k7;simp only at*;generalize aA.length=n8 at*;generalize TD.1.length=n9 at*;generalize TD.2.length=el at*;clear cb k7 G7 S T p c0;go_wp2_with fail;rw[<-ek.o];refine Ka (v:=.tuple #[.agg #[.slice a8 n8 c8,.slice a9 n9 c9,.slice ef el eg,.bool false],U 0]) ?_ rfl ⟨_,rfl,by rw[HR.o];exact HF.o⟩;rw[K8 rfl];go_simp
def mV(d:bQ):Int:=if aB d=0 then (ay (cK d)).2 else aB d
def oh(d:bQ):aH:=if mV d=0 then ((ay (cK d)).1,gE d,true) else fg
theorem yu(B v d w)(he:dD w)(hd:cJ B w v d)(hB:B<=w.1.size)(O:sW d):
  cL 28 #[v] w λe g=>∃v',e=.returned (.tuple #[v',U (mV d)])/\kG (λk=>k<w.1.size) g v' (oh d)/\bL w g:=by
 obtain⟨a,c,b,F,rfl⟩:=hd.shapeS;have P:Hid (∀g,bL w g->cL 58 #[.agg #[.slice a d.1.length c,.slice b d.2.length F]] g λe f=>∃G L H a2 n2 F la ln lc,e=.returned (.tuple #[.agg #[.slice G L H,.slice a2 n2 F],.slice la ln lc,U (aB d)])/\cV g.1.size f (.agg #[.slice G L H,.slice a2 n2 F]) (gE d)/\dh f.1.size f (.slice la ln lc) (cK d)/\bL g f):=λg h=>(A5 B _ d g (he.l h) (hd.l h hB) (h.u hB) O).mono λe f ⟨v',Q,h1,R,h3,h4⟩=>by obtain⟨G,H,b1,F,e1⟩:=R.at.shapeS;obtain⟨la,lc,e2,-⟩:=id h3;subst e1 e2;exact⟨_,_,_,_,_,_,_,_,_,h1,R,h3,h4⟩
 have S:Hid (∀Q g,dh g.1.size g Q (cK d)->cL 59 #[Q] g λe f=>∃a n c,e=.returned (.tuple #[.slice a n c,U (ay (cK d)).2])/\wG g.1.size f (.slice a n c) (ay (cK d)).1/\bL g f):=λQ g h=>(CZ _ Q _ g h lE).mono λe f ⟨v',h1,R,h3⟩=>by obtain⟨a,c,e,-⟩:=R.at.shape;subst e;exact⟨_,_,_,h1,R,h3⟩
 have z:Hid (mV d=if aB d=0 then (ay (cK d)).2 else aB d):=rfl;have M:Hid (oh d=if mV d=0 then ((ay (cK d)).1,gE d,true) else fg):=rfl;clear hd O he hB;generalize cK d=rs at*;generalize gE d=D at*;generalize aB d=de at*;generalize mV d=BE at*;generalize oh d=BR at*;generalize (ay rs).1=C at*;generalize (ay rs).2=E at*;generalize d.1.length=n at*;generalize d.2.length=m at*;have⟨W,T⟩:=nM ((w.alloc (.cells #[.slice a n c,.slice b m F] 25)).alloc (.cells #[nL,nL,nL,.bool false] 27));have I:=bB T;have g0:Na W w.1.size #[.slice a n c,.slice b m F] 25:=by rw[T];exact dF _ (aY _ _ rfl)
 have g1:=gC T;have HW:=Z T;clear T;go_enter func28,ntmps28;go_wp2_with fail;rw[<-HW.o];go_at_call 58;refine Calls.mono (P.o W I) ?_;rintro e w1 ⟨G,L,H,a3,n3,c3,la,ln,lc,rfl,V,X,o⟩;have A:=o.bl g0;have s:=o.bl g1;have⟨k0,Y,k2⟩:=ic (u:=.slice G L H) (v:=.slice a3 n3 c3) A;have⟨W2,t⟩:=nM ((w1.setCell (pW w 0) (.slice G L H)).setCell (pW w 1) (.slice a3 n3 c3));have⟨x0,x1,f0,f1⟩:=ag A;have⟨z0,z1,z2,z3,e0,e1,e2,e3⟩:=aL s;have a0:bL w W2:=by rw[t];exact dS (I.th o) lE _ _
 have l1:=io s;rw[<-t] at k0 Y k2;have K1:=(Y (w.1.size+1) (by omega)).trans s;have b7:=Z (V.keep Y (io g0) k2);have J:=X.box Y (gw.of A);rw[<-k2] at J;have j:Hid _:=S.o _ W2 J;have N:=Z2 k0 K1;have p:Hid (bL w W2/\W.1.size<=W2.1.size/\w.1.size+1<W.1.size):=⟨a0,by have:=o.size;omega,io g1⟩;have K:=Z t;clear t k0 Y k2 K1 J V X A s P S I o g0 g1 a0 HW
 by_cases q:de=0
 ·subst q;rw[Io rfl] at z;go_wp2_with fail;rw[<-K.o];go_at_call 59;refine Calls.mono j.o ?_;rintro e w3 ⟨ra,rn,rc,rfl,hc,l⟩;have A:=l.bl N.o.1;have s:=l.bl N.o.2;have y:=p.o.1.th l;obtain⟨y0,y1,-,-⟩:=ag A;clear x0 x1 f0 f1 z0 z1 z2 z3 e0 e1 e2 e3 l1 K;have⟨z0,z1,z2,z3,e0,e1,e2,e3⟩:=aL s
  by_cases hE:E=0
  ·subst hE;rw[z.o,Io rfl] at M;obtain⟨W5,i,k,HF⟩:=iC (x:=(C,D,true)) s (xq (hc.l bR λk _ h=>Kd h p.o.2.1) (b7.o.l l).k rfl) p.o.2.2 y (Mb _) (λk h=>by have:=p.o.2.2;omega);have r:=Z i;obtain⟨v0,v1,v2,v3,-⟩:=aL k;clear A s y hc i k l N j;go_wp2_with fail;rw[<-r.o];refine Ka (v:=.tuple #[.agg #[.slice ra rn rc,.slice G L H,.slice a3 n3 c3,.bool true],U 0]) ?_ rfl ⟨_,by rw[z.o],by rw[M.o];exact HF.o⟩;rw[K8 rfl];go_simp
  rw[z.o,iO hE] at M;have hq:(E != 0)=true:=by simpa using hE
  obtain⟨W5,i,k,HF⟩:=kR s y (Mb _);have r:=Z i;obtain⟨v0,v1,v2,v3,-⟩:=aL k;clear A s y hc i k l N hE j;go_wp2_with fail;rw[<-r.o];refine Ka (v:=.tuple #[.agg #[nL,nL,nL,.bool false],U E]) ?_ rfl ⟨_,by rw[z.o],by rw[M.o];exact HF.o⟩;rw[K8 rfl];go_simp
 rw[iO q] at z;rw[z.o,iO q] at M;have hq:(de != 0)=true:=by simpa using q
 obtain⟨W5,i,k,HF⟩:=kR N.o.2 p.o.1 (Mb _);have r:=Z i;obtain⟨v0,v1,v2,v3,-⟩:=aL k;clear i k q j N;go_wp2_with fail;rw[<-K.o,<-r.o];refine Ka (v:=.tuple #[.agg #[nL,nL,nL,.bool false],U de]) ?_ rfl ⟨_,by rw[z.o],by rw[M.o];exact HF.o⟩;rw[K8 rfl];go_simp
theorem nU(B v x w)(he:dD w)(hx:bi B w v x)(L:B<=w.1.size)(a3:sW x.2.1):
  cL 8 #[v] w (rT w (U (cr x))):=by
 obtain⟨ca,cc,sa,sc,ta,tc,rfl,hc,hd⟩:=hx.shape;obtain⟨b,d,u⟩:=x;simp only at*;have cT:=Z λa (h:bL w a)=>jD B _ d a (he.l h) (hd.l h L) (h.u L) a3
 have M:Hid (aB d=0->∀a,bL w a->cL 27 #[.agg #[.slice sa d.1.length sc,.slice ta d.2.length tc]] a λe f=>∃r N s t O y z P A Q,e=.returned (.agg #[.slice r N s,.slice t O y,.slice z P A,.bool Q])/\kG (λk=>k<a.1.size) f (.agg #[.slice r N s,.slice t O y,.slice z P A,.bool Q]) (aA,d,false)/\bL a f):=λh0 a h=>(tq B _ d a (hd.l h L) (h.u L) ⟨(dE h0).1,(dE h0).2.1⟩).mono λe f ⟨v',h1,h2,h3⟩=>by obtain⟨r,s,t,y,z,A,e,-⟩:=h2.at.shape;subst e;exact⟨_,_,_,_,_,_,_,_,_,_,h1,h2,h3⟩
 have R:Hid (aB d=0->∀a,bL w a->cL 28 #[.agg #[.slice sa d.1.length sc,.slice ta d.2.length tc]] a λe f=>∃r N s t O y z P A Q,e=.returned (.tuple #[.agg #[.slice r N s,.slice t O y,.slice z P A,.bool Q],U (ay (cK d)).2])/\kG (λk=>k<a.1.size) f (.agg #[.slice r N s,.slice t O y,.slice z P A,.bool Q]) (oh d)/\bL a f):=λh0 a h=>(yu B _ d a (he.l h) (hd.l h L) (h.u L) a3).mono λe f ⟨v',h1,h2,h3⟩=>by obtain⟨r,s,t,y,z,A,e,-⟩:=h2.at.shape;subst e;rw[show mV d=(ay (cK d)).2 from Io h0] at h1;exact⟨_,_,_,_,_,_,_,_,_,_,h1,h2,h3⟩
 have i:Hid (∀ (lv:Value) (ls:List aG) a,bL w a->aE a.1.size a lv ls->cL 29 #[.slice ca b.length cc,lv] a (rT a (.bool (decide (b=ls))))):=λlv ls a h h1=>xt a.1.size _ _ b ls a ((hc.l h L).wide (h.u L)) h1 lE
 have HT:Hid (d.2=[] ↔ d.2.length=0):=LA.symm;have HU:=Z (uO b d);have HD:=Z (ng b d);have S:Hid (aB d=0->(ay (cK d)).2=0->(oh d).1=(ay (cK d)).1):=λh0 h=>by unfold oh mV;rw[Io h0,Io h]
 clear hc hd hx he a3 L;generalize aB d=de at*;generalize cK d=rs at*;generalize (ay rs).1=C at*;generalize (ay rs).2=E at*;generalize oh d=BR at*;generalize b.length=nC at*;generalize d.1.length=nS at*;generalize d.2.length=nT at*;have⟨W0,T⟩:=nM (w.alloc (.cells #[.slice ca nC cc,.slice sa nS sc,.slice ta nT tc,.bool u] 27));have a8:=bA T;have g0:=hA T;have HG:Hid (∀a,bL W0 a->a.cell? (pW w 0)=some (.slice ca nC cc)/\a.cell? (pW w 1)=some (.slice sa nS sc)/\a.cell? (pW w 2)=some (.slice ta nT tc)/\a.cell? (pW w 3)=some (.bool u)/\a.cell? ⟨w.1.size,1+1,none⟩=some (.slice ta nT tc)/\w.1.size<a.1.size/\bL w a):=λa h=>by have k:=h.bl g0;exact⟨J0 k,J1 k,J2 k,J3 k,J2 k,io k,a8.th h⟩
 have d3:=Z T;have d4:=Z a8;clear T g0 a8;go_enter func8,ntmps8;go_wp2_with fail;rw[<-d3.o];go_at_call 26;refine Calls.mono (cT.o _ d4.o) ?_;rintro e w1 ⟨rfl,a9⟩;have⟨q0,q1,q2,q3,b9,l1,aa⟩:=HG.o w1 a9
 by_cases D:de=0
 case neg=>
  have hq:(de != 0)=true:=by simpa using D
  have e:Hid (cr (b,d,u)=de):=by
   unfold Hid
   cases u
   ·rw[HD.o,iO D]
   rw[HU.o,iO D]
  clear D HU HD M R i HT S;go_wp2_with fail;go_ret;exact⟨by rw[e.o];rfl,aa⟩
 subst D;have F:Hid _:=M.o rfl w1 aa
 cases u with
 |false=>
  have e:=Z (by rw[HD.o,Io rfl]:cr (b,d,false)=if aA=b then 0 else 4);clear HU HD M R HT S;go_wp2_with fail;go_at_call 27;refine Calls.mono F.o ?_;rintro e2 K ⟨r,N,s,t,O,y,z,P,A,Q,rfl,V,G⟩;have⟨p0,p1,p2,p3,ba,l2,ac⟩:=HG.o K (a9.th G);clear q0 q1 q2 q3 b9;have⟨W3,c⟩:=nM (K.alloc (.cells #[.slice r N s,.slice t O y,.slice z P A,.bool Q] 27));have j:=bA c;have m:=ac.th j;have bb:Hid _:=i.o _ _ W3 m (V.cells.l j λ_ _ h=>h).at;have ad:=Z c;have d6:=Z m;clear c j m V G i;go_wp2_with fail;rw[<-ad.o];go_at_call 29;refine Calls.mono bb.o ?_;rintro e3 w4 ⟨rfl,H⟩;have n:=d6.o.th H
  by_cases o:b=aA
  ·have p:=Z (by rw[e.o,Io o.symm]:cr (b,d,false)=0);rw[show decide (b=(aA,d,false).1)=true from KS o];clear o e;go_wp2_with fail;go_ret;exact⟨by rw[p.o];rfl,n⟩
  have p:=Z (by rw[e.o,iO λh=>o h.symm]:cr (b,d,false)=4);rw[show decide (b=(aA,d,false).1)=false from KD o];clear o e;go_wp2_with fail;go_ret;exact⟨by rw[p.o];rfl,n⟩
 |true=>
  have e:=Z (by rw[HU.o,Io rfl]:cr (b,d,true)=if d.2≠[] then 4 else if E=0 then (if C=b then 0 else 4) else E);have X:=R.o rfl;have I:Hid _:=X;have Y:=S.o rfl;have l:Hid _:=Y;clear HU HD M R X S Y
  by_cases ht:nT=0
  case neg=>
   have p:=Z (by rw[e.o,Io λh=>ht (HT.o.1 h)]:cr (b,d,true)=4);have h0:(0:Int)<(nT:Int):=by omega
   clear ht e HT I l i F;go_wp2_with fail;go_ret;exact⟨by rw[p.o];rfl,aa⟩
  have p:=Z (by rw[e.o,iO λh=>h (HT.o.2 ht)]:cr (b,d,true)=if E=0 then (if C=b then 0 else 4) else E);subst ht;clear e HT;go_wp2_with fail;go_at_call 27;refine Calls.mono F.o ?_;rintro e2 K ⟨r,N,s,t,O,y,z,P,A,Q,rfl,V,G⟩;have ae:=a9.th G;have⟨p0,p1,p2,p3,ba,l2,ac⟩:=HG.o K ae;clear q0 q1 q2 q3 b9 V;have⟨W3,c⟩:=nM (K.alloc (.cells #[.slice r N s,.slice t O y,.slice z P A,.bool Q] 27));have j:=bA c;have g3:=hA c;have bc:=ae.th j;have m:=ac.th j;have bd:Hid _:=I.o W3 m;have ad:=Z c;have da:=Z bc;have G3:=Z g3;clear c j m G I g3 ae bc;go_wp2_with fail;rw[<-ad.o];go_at_call 28;refine Calls.mono bd.o ?_;rintro e4 w4 ⟨a4,n4,c4,a5,n5,c5,a6,n6,c6,u4,rfl,af,H⟩;have bm:=da.o.th H;have⟨r0,r1,r2,r3,ev,l4,n⟩:=HG.o w4 bm;have g4:=H.bl G3.o;clear p0 p1 p2 p3 ba;have⟨W5,J⟩:=nM (w4.alloc (.cells #[.slice a4 n4 c4,.slice a5 n5 c5,.slice a6 n6 c6,.bool u4] 27));have W:=bA J;have ak:=n.th W;have bo:=Z J;have g5:=W.bl g4;have g6:=hA J
  by_cases hE:E=0
  case neg=>
   have hq:(E != 0)=true:=by simpa using hE
   have e6:=Z (by rw[p.o,iO hE]:cr (b,d,true)=E);have dc:=Z ak;clear hE p i l af J W g4 g5 g6 ak;go_wp2_with fail;rw[<-bo.o];go_ret;exact⟨by rw[e6.o];rfl,dc.o⟩
  subst hE;rw[Io rfl] at p;have l3:=io g4;have lw:w.1.size<=K.1.size:=by omega
  have⟨k1,k2,k3,k4⟩:=eK (u0:=.slice a4 n4 c4) (u1:=.slice a5 n5 c5) (u2:=.slice a6 n6 c6) (u3:=.bool u4) g4;have⟨W6,al⟩:=nM ((((w4.setCell (pW K 0) (.slice a4 n4 c4)).setCell (pW K 1) (.slice a5 n5 c5)).setCell (pW K 2) (.slice a6 n6 c6)).setCell (pW K 3) (.bool u4));rw[<-al] at k1 k2 k3 k4;have⟨W7,ao⟩:=nM (W6.alloc (.cells #[.slice a4 n4 c4,.slice a5 n5 c5,.slice a6 n6 c6,.bool u4] 27));have av:=bA ao;have bq:=n.trans (k4 _ lw);have q:=bq.th av;have br:aE W7.1.size W7 (.slice a4 n4 c4) C:=by rw[<-l.o rfl];exact af.cells W7 (Kx.put ((Kx.refl _ _).back av λ_ _ h=>h) (k4 0 (Ks _)) (λg hg=>k2 g λe=>hg (by rw[e];exact io G3.o)) k3)
  have bs:Hid _:=i.o _ _ W7 q br;have di:=Z al;have dk:=Z ao;have dl:=Z q;have⟨y0,y1,y2,y3,f0,f1,f2,f3⟩:=aL g4;clear al J ao W ak bq av q br i l af k1 k2 k3 k4 g4 g5 g6 H bm lw n bo;go_wp2_with fail;rw[<-di.o,<-dk.o];go_at_call 29;refine Calls.mono bs.o ?_;rintro e3 w7 ⟨rfl,dn⟩;have q:=dl.o.th dn
  by_cases o:b=C
  ·have e6:=Z (by rw[p.o,Io o.symm]:cr (b,d,true)=0);rw[KS o];clear o p;go_wp2_with fail;go_ret;exact⟨by rw[e6.o];rfl,q⟩
  have e6:=Z (by rw[p.o,iO λh=>o h.symm]:cr (b,d,true)=4);rw[KD o];clear o p;go_wp2_with fail;go_ret;exact⟨by rw[e6.o];rfl,q⟩
