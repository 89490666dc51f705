import Derived.Test.YtffnfdfjojidfaaGreatDoorWr34
import Derived.Test.YtffnfdfjojidfaaGreatDoorWr35
import Derived.Test.YtffnfdfjojidfaaGreatDoorWr36
set_option linter.all false
set_option maxRecDepth 100000
set_option maxHeartbeats 16000000
namespace Go.Proofs.YtffnfdfjojidfaaGreatDoor
open Go.RowKit Go.Maps Go.Proofs.Tryz
def JN(n q:Nat)(k:Nat)(v:Value):Prop:=if k=6 then ∃a c,v=.slice a n c else if k=7 then ∃g:Nat,v=.slice (sO g) 2 2 else if k=8 then ∃a c,v=.slice a q c else True
theorem Hr(n q k):∃v,JN n q k v:=by
 unfold JN
 split
 ·exact⟨_,none,0,rfl⟩
 split
 ·exact⟨_,0,rfl⟩
 split
 ·exact⟨_,none,0,rfl⟩
 exact⟨undef,trivial⟩
theorem Jh{a b c:Nat}(d:a<=60000)(e:b<=60000)(f:c<=100000000):IntKind.i64.wrap ((a:Int)+(b:Int))=(a:Int)+(b:Int)/\IntKind.i64.wrap ((a:Int)+(b:Int)+(c:Int))=(a:Int)+(b:Int)+(c:Int)/\IntKind.i64.wrap ((a:Int)+(b:Int)+(c:Int)+1)=(a:Int)+(b:Int)+(c:Int)+1:=
 ⟨KA _ (by omega),KA _ (by omega),KA _ (by omega)⟩
theorem Ee(p:Bs):dU p++⟨#[10]⟩=dU (p++[10]):=by unfold dU;apply ByteArray.ext;simp[ByteArray.data_append]
theorem Ex(B v rv d r w)(he:dD w)(af:Lib.TabIs prog w "strings.asciiSpace" .u8 Lib.asciiSpaceTab)(hd:cJ B w v d)(hr:cI B w rv r)(hB:B<=w.1.size)(h1:d.1.length<=60000)(h2:d.2.length<=60000):
  cL 37 #[v,rv] w λe f=>∃dv,e=.returned (.tuple #[dv,U (lz d r)])/\cJ f.1.size f dv (gf d r)/\bL w f:=by
 obtain⟨sv,tv,rfl,hs,ht⟩:=hd;obtain⟨s,t⟩:=d;simp only[] at hs ht h1 h2;have C:=Z λf (h:bL w f)=>Q2 (hs.l h hB) (ht.l h hB)
 have K:=Z λf (h:bL w f)=>C8 B rv r f (he.l h) (jG af h) (hr.l h hB) (h.u hB)
 have⟨P,hP⟩:=nM (fP r);have⟨E,Q⟩:=nM (aZ r);have al:P.length<=100000000:=by rw[hP];exact uZ r
 have m:Hid (lz (s,t) r=if E=0 then (if 60000<s.length+t.length+P.length+1 then 2 else 0) else E):=by unfold Hid lz;rw[hP,Q]
 have A:Hid (gf (s,t) r=if lz (s,t) r=0 then (s,t++(P++[10])) else ([],[])):=by unfold Hid gf;rw[hP]
 rw[<-hP,<-Q] at K;obtain⟨a,c,e1,-,-,-⟩:=id hs;obtain⟨b,J,e2,-,-,-⟩:=id ht;subst e1 e2;obtain⟨ra,rc,e3,-⟩:=hr.shape;subst e3;have⟨W,ao⟩:=nM (lz (s,t) r);have⟨pr,b0⟩:=nM (gf (s,t) r)
 rw[<-ao] at m A |-
 rw[<-b0] at A |-
 clear ao b0 hP Q hs ht hr he af;obtain⟨k1,k2,k3,rs,k4⟩:=r
 simp only[] at K |-
 have⟨rn,b1⟩:=nM (rs.length);have⟨D,b2⟩:=nM (s.length);have⟨q,Y⟩:=nM (t.length);have⟨G,a0⟩:=nM (P.length);have HN:=Z2 Y.symm a0.symm
 rw[<-b1] at K |-
 rw[<-b2] at C m h1 |-
 rw[<-Y] at C m h2 |-
 rw[<-a0] at m al;clear b1 b2 Y a0;have⟨n1,n2,b3⟩:=Jh h1 h2 al;obtain⟨z,hz⟩:∃z:Int,z=(D:Int)+(q:Int)+(G:Int)+1:=⟨_,rfl⟩;have n3:=b3.trans hz.symm;have Hz:=Z hz;clear hz b3;have⟨W1,H⟩:=nM (((w.alloc (.cells #[.slice a D c,.slice b q J] 25)).alloc (.cells #[U k1,U k2,U k3,.slice ra rn rc,U k4] 71)).alloc (.cells #[nL,nL] 25));have o:bL w W1:=by rw[H];exact((bR.alloc lE _).alloc (by simp) _).alloc (by simp;omega) _
 have ee:W1.1.size=w.1.size+1+1+1:=by rw[H];simp
 have b5:W1.1[w.1.size]?=some (.cells #[.slice a D c,.slice b q J] 25 (0,0)):=by rw[H,Kq _ _ _ (by simp;omega),Kq _ _ _ (by simp)];exact ah _ _
 have b6:W1.1[w.1.size+1+1]?=some (.cells #[nL,nL] 25 (0,0)):=by have:=ah ((w.alloc (.cells #[.slice a D c,.slice b q J] 25)).alloc (.cells #[U k1,U k2,U k3,.slice ra rn rc,U k4] 71)) (.cells #[nL,nL] 25);rw[Kg,Kg] at this;rw[H];exact this
 have a1:Hid _:=K.o W1 o;have b7:=Z H;have b8:Hid _:=b5;have b9:Hid _:=b6;have ba:=Z o;have⟨PS,a2⟩:=nM (dU P);have L:=Z (by rw[a2];exact⟨by rw[<-HN.o.2];simp[dU,ByteArray.size],Ee P⟩:PS.size=G/\PS++⟨#[10]⟩=dU (P++[10]));rw[<-a2] at a1;clear a2 H b5 b6 o K;go_enter func37,ntmps37;go_wp2_with fail;rw[<-b7.o];refine Calls.mono a1.o ?_;rintro e w1 ⟨rfl,o⟩;have g0:=o.bk b8.o;have g2:=o.bk b9.o;have V:=ba.o.th o;have bb:w.1.size+1+1<w1.1.size:=by have:=o.size;omega
 obtain⟨y0,y1,-,-⟩:=ag g0;have⟨x0,x1,cf,ci⟩:=ag g2;have j:=Z V;have a3:Hid _:=g0;have a4:Hid _:=g2;clear o g0 g2 V a1 b7 b8 b9 ba;have ej:=L.o.1
 by_cases Q:E=0
 ·subst Q
  by_cases M:60000<D+q+G+1
  ·have p:Hid (W=2/\pr=([],[])):=by
    have e:W=2:=by rw[m.o,Io rfl,Io M]
    exact⟨e,by rw[A.o,iO (by rw[e];decide)]⟩
   have hq:(60000:Int)<z:=by have:=Hz.o;omega
   clear m A L C;go_wp2_with fail;refine Ka (v:=.tuple #[.agg #[nL,nL],U 2]) ?_ rfl ⟨_,by rw[p.o.1],by rw[p.o.2];exact oH _ _,?_⟩
   ·rw[K8 rfl];go_simp
   exact j.o.s2 (by show w.1.size<=w.1.size+1+1;omega)
  have hq:¬((60000:Int)<z):=by have:=Hz.o;omega
  have p:Hid (W=0/\pr=(s,t++(P++[10]))):=by
   have e:W=0:=by rw[m.o,Io rfl,iO M]
   exact⟨e,by rw[A.o,Io e]⟩
  clear m A M;go_wp2_with fail;have bc:=Z L.o.2;have⟨X,hX⟩:=nM (P++[10]);have⟨XS,a5⟩:=nM (PS++(⟨#[10]⟩:ByteArray));have⟨R,hR⟩:=nM (t++X);have HX:Hid (XS.1.1=X/\XS.size=G+1):=by unfold Hid;rw[a5,bc.o,hX];exact⟨by simp[dU],by simp[dU,ByteArray.size,HN.o.2]⟩
  have bd:Hid (X.length=G+1/\R.length=q+(G+1)):=by unfold Hid;rw[hR,hX];simp[HN.o.1,HN.o.2]
  have bf:Hid (∀f:World,∃F l,(convert 9 23 (.string XS)).run prog f=.ok (.slice (MZ f) (G+1) F) l/\aI l.1.size l (.slice (MZ f) (G+1) F) X/\bL f l):=λf=>by have h:=wB XS f (by rw[HX.o.2];omega);rw[HX.o.1,HX.o.2] at h;exact h
  have bg:Hid (∀g f u,(∃T fr,f.1[g]?=some (.cells #[.slice b q J,u] T fr))->aI f.1.size f u X->bL w1 f->cL 49 #[.slice (sO g) 2 2] f λe l=>∃v,e=.returned v/\aI l.1.size l v R/\bL f l):=by rintro g f u ⟨T,fr,hg⟩ hu hb;have bk:=j.o.th hb;refine(pq f.1.size _ _ t X g f ((C.o f bk).2.wide (bk.u hB)) hu lE (io hg) (J0 hg) (J1 hg) (by rw[bd.o.1,HN.o.1];omega)).mono ?_;rintro e l ⟨v,rfl,ho,cp⟩;exact⟨v,rfl,by rw[hR];exact pk ho,cp⟩
  have a7:=Z2 p.o.1 (by rw[p.o.2,hR,hX]:pr=(s,R));have bm:=Z ((C.o w1 j.o).1);have bo:=a5.symm;clear a5 hX hR bc p L C HN;have q0:∀z:uL w.1.size (.slice a D c) (.slice b q J),z.1.cell? (pW w 0)=some (.slice a D c):=λz=>z.2.1
  have q1:∀z:uL w.1.size (.slice a D c) (.slice b q J),z.1.cell? (pW w 1)=some (.slice b q J):=λz=>z.2.2
  have a9:Nonempty (uL w.1.size (.slice a D c) (.slice b q J)):=⟨⟨w1,y0,y1⟩⟩
  have N:Hid (∀fs f,zZ (w.1.size+1+1) w1 (.slice a D c) (.slice b q J) X R fs f->∃z:uL w.1.size (.slice a D c) (.slice b q J),f=z.1):=λfs f h=>⟨⟨f,J0 (h.cells a3.o (by omega)),J1 (h.cells a3.o (by omega))⟩,rfl⟩
  refine bJ [_,_,_,_,_,_,_,_,_,_,_] _ rfl (λk=>k==6||k==7||k==8||k==10) (zZ (w.1.size+1+1) w1 (.slice a D c) (.slice b q J) X R) (JN (G+1) (q+(G+1))) (Hr _ _) (by kernel_rfl) (by kernel_rfl) (zZ.start _ _ _ _ _ _) ?_;iterate 6(refine aP N.o rfl rfl ?_;go_big_quiet_step (fail);refine Km ?_)
  try rw[bo]
  refine cz rfl rfl (λgs f I i n=>?_) (λv6 cT=>?_)
  ·have⟨F,l,r1,r2,r3⟩:=bf.o f;have⟨aa,hA⟩:=I.ahead (.inl rfl) n;refine⟨_,l,?_,⟨_,_,rfl⟩,zZ.of aa (by decide) ((hA.l r3).put6 _ r2)⟩;unfold execOp;simp only[resolve,invoke,builtin,Lj,My,LW,M4,Lt,Mz];exact(congrArg (λr=>Result.andThen r λv w=>.ok (Next.value v) w) r1)
  go_frame;obtain⟨a6,c6,rfl⟩:∃a F,v6=.slice a (G+1) F:=cT;refine cz rfl rfl (λgs f I i n=>⟨.slice (MZ f) 2 2,f.alloc (.cells #[.slice b q J,.slice a6 (G+1) c6] 23),?_,⟨_,rfl⟩,zZ.of (I.ahead (.inr (.inl rfl)) n).1 (by decide) (((I.ahead (.inr (.inl rfl)) n).2.l ((Kf f.1.size f).alloc lE _)).put7 _ _ (i 6 _ (.inr ⟨rfl,rfl⟩) (au (by kernel_rfl))) ⟨_,_,_,rfl,ah f _⟩)⟩) (λv7 d0=>?_)
  ·clear I i n q0 q1 N a9;go_simp
  go_frame;obtain⟨g7,rfl⟩:∃g:Nat,v7=.slice (sO g) 2 2:=d0;refine bw 49 #[.slice (sO g7) 2 2] rfl rfl (λf=>by kernel_rfl) (λgs f I i n=>?_) (λv8 d1=>?_)
  ·have h7:=i 7 _ (.inr ⟨rfl,rfl⟩) (au (by kernel_rfl));have⟨aa,hA⟩:=I.ahead (.inr (.inr (.inl rfl))) n;obtain⟨u,hu,g,T0,fr,e,S⟩:=hA.lit7 _ h7;simp at e;subst e;refine(bg.o g7 f u ⟨T0,fr,S⟩ hu hA.below).mono ?_;rintro e w3 ⟨u8,rfl,ho,hb⟩;obtain⟨a',c',e7,-,-,-⟩:=id ho;rw[bd.o.2] at e7;exact⟨_,rfl,⟨a',c',e7⟩,zZ.of aa (by decide) ((hA.l hb).put8 _ ho)⟩
  go_frame;obtain⟨a8,c8,rfl⟩:∃a F,v8=.slice a (q+(G+1)) F:=d1;refine aP N.o rfl rfl ?_;go_big_quiet_step (fail);refine Km ?_;refine fL rfl rfl (λgs f I i n=>?_) (λeN e4=>?_)
  ·have h6:=i 6 _ (.inl (.inl (.inr ⟨rfl,rfl⟩))) (au (by kernel_rfl));have h7:=i 7 _ (.inl (.inr ⟨rfl,rfl⟩)) (au (by kernel_rfl));have h8:=i 8 _ (.inr ⟨rfl,rfl⟩) (au (by kernel_rfl));have⟨bp,bq⟩:=I.stored n h6 h7 h8;have br:=(bp.block _ bb).trans a4.o;have⟨z0,z1,f0,f1⟩:=ag br;refine⟨(f.setCell (pA (w.1.size+1+1) 0) (.slice a D c)).setCell (pA (w.1.size+1+1) 1) (.slice a8 (q+(G+1)) c8),?_,by simp[JN],bq⟩;clear I i n q0 q1 N a9 h6 h7 h8 bp bq br;go_simp
  go_frame;refine ei ?_;intro w4 I;have⟨u8,O,hD,S⟩:=I.done (.inr ⟨rfl,rfl⟩) a4.o bm.o (j.o.u hB);have eO:=J0 O;have eV:=J1 O;have HE:Hid (W=0/\cJ w4.1.size w4 (.agg #[.slice a D c,u8]) pr/\bL w w4):=⟨a7.o.1,by rw[a7.o.2];exact hD,Mj j.o (S _ (by omega) j.o.size)⟩;obtain⟨ua,uc,eu⟩:∃ua uc,u8=.slice ua R.length uc:=by obtain⟨x,y,e,-,⟨ua,uc,e',-,-,-⟩⟩:=hD;simp at e;exact⟨ua,uc,by rw[e.2];exact e'⟩
  subst eu;clear I O hD S q0 q1 N a9 bg bf a7 bm a3 a4 y0 y1 x0 x1 cf ci;go_wp2_with fail;refine Ka (v:=.tuple #[.agg #[.slice a D c,.slice ua R.length uc],U 0]) ?_ rfl ⟨_,by rw[HE.o.1],HE.o.2⟩;rw[K8 rfl];go_simp
 have p:Hid (W=E/\pr=([],[])):=by
  have e:W=E:=by rw[m.o,iO Q]
  exact⟨e,by rw[A.o,iO (by rw[e];exact Q)]⟩
 have hq:(E != 0)=true:=by simpa using Q
 clear m A L C Q;go_wp2_with fail;refine Ka (v:=.tuple #[.agg #[nL,nL],U E]) ?_ rfl ⟨_,by rw[p.o.1],by rw[p.o.2];exact oH _ _,?_⟩
 ·rw[K8 rfl];go_simp
 exact j.o.s2 (by show w.1.size<=w.1.size+1+1;omega)
def f8(d:bQ)(r:az):Int:=if aB d=0 then lz d r else aB d
def fu(d:bQ)(r:az):bQ:=if f8 d r=0 then (d.1,d.2++(fP r++[10])) else ([],[])
def fm(d:bQ):Int:=if aB d=0 then km d else aB d
def i7(d:bQ):bQ:=if fm d=0 then (d.1++d.2,[]) else ([],[])
def i9(d:bQ)(n:Int):Int:=if aB d=0 then (if n<0\/(d.2.length:Int)<n then 3 else 0) else aB d
def kE(d:bQ)(n:Int):bQ:=if i9 d n=0 then (d.1,d.2.take n.toNat) else ([],[])
def gE(d:bQ):bQ:=if aB d=0 then (jB d,[]) else ([],[])
def cK(d:bQ):List az:=if aB d=0 then iF d else []
theorem dE{d:bQ}(h:aB d=0):d.1.length<=60000/\d.2.length<=60000/\d.1.length+d.2.length<=60000/\(aM 40 d.1).2.2=0:=by
 unfold aB at h
 split at h
 ·cases h
 exact⟨by omega,by omega,by omega,h⟩
def sW(d:bQ):Prop:=d.1.length+d.2.length<=300000000000000
theorem Al{d:bQ}(h:aB d=0):sW d:=by have:=dE h;unfold sW;omega
theorem IA{d r}:sW (fu d r):=by
 unfold fu
 by_cases h:f8 d r=0
 ·rw[Io h];unfold f8 at h
  by_cases a:aB d=0
  ·rw[Io a] at h;unfold lz at h
   by_cases b:aZ r=0
   ·rw[Io b] at h
    by_cases c:60000<d.1.length+d.2.length+(fP r).length+1
    ·rw[Io c] at h
     cases h
    unfold sW;simp only[Kj,Kv,Lf];omega
   rw[iO b] at h;exact absurd h b
  rw[iO a] at h;exact absurd h a
 rw[iO h];unfold sW;decide
theorem wA{d:bQ}(b:d.1.length+d.2.length<=60000)(a:(aM 40 d.1).2.2=0):aB d=0:=by unfold aB;rw[iO (by omega)];exact a
theorem A4{B a:Nat}{w v d}(h:cJ B w v d)(b:B<=a):cJ a w v d:=by obtain⟨c,f,e,g,i⟩:=h;exact⟨c,f,e,g.wide b,i.wide b⟩
def cV(L:Nat)(w:World)(v:Value)(d:bQ):Prop:=∀a:World,(∀g,L<=g->g<w.1.size->a.1[g]?=w.1[g]?)->w.1.size<=a.1.size->cJ a.1.size a v d
theorem cV.at{L w v d}(h:cV L w v d):cJ w.1.size w v d:=h w (λ_ _ _=>rfl) lE
theorem Da(B:Nat)(pv qv:Value)(p q:aD)(w:World)(hp:aX B w pv p)(hq:aX B w qv q)(P:B<=w.1.size):
  cL 209 #[pv,qv] w λe c=>∃v,e=.returned (.tuple #[v,U (fQ p q)])/\bE w.1.size c v (fE p q)/\bL w c:=by
 have HF:Hid (∀c,bL w c->cL 223 #[qv,pv] c (rT c (.tuple #[.bool (dN q p).isSome,.agg #[U (fj q p 0),U (fj q p 1),U (fj q p 2),U (fj q p 3),U (fj q p 4)],U (aT [q,p])]))):=λc h=>AH B qv pv q p c (hq.l h P) (hp.l h P) (h.u P)
 have r:Hid (∀c,bL w c->cL 224 #[qv,pv] c λe a9=>∃v,e=.returned (.tuple #[v,U (eJ true q p)])/\bE c.1.size a9 v (eI true q p)/\bL c a9):=λc h=>BY B qv pv q p c (hq.l h P) (hp.l h P) (h.u P)
 have n:Hid (fQ p q=if aT [q,p]=0 then (if (dN q p).isSome then 7 else if eJ true q p=0 then aT [eI true q p] else eJ true q p) else aT [q,p]):=rfl;have i:Hid (fE p q=if fQ p q=0 then j9 (eI true q p) else ([],0)):=rfl;obtain⟨F,d⟩:=p;obtain⟨G,f⟩:=q;obtain⟨rv,rfl,-,a,Q,rfl,-⟩:=hp;obtain⟨sv,rfl,-,b,s,rfl,-⟩:=hq;simp only at HF r;generalize fj (G,f) (F,d)=c1 at*;generalize (dN (G,f) (F,d)).isSome=lo at*;generalize aT [(G,f),(F,d)]=pe at*;generalize eJ true (G,f) (F,d)=R at*;generalize eI true (G,f) (F,d)=H at*;generalize fQ (F,d) (G,f)=y at*;generalize fE (F,d) (G,f)=dr at*;generalize F.length=n1 at*;generalize G.length=n2 at*;clear P;have⟨S,j⟩:=nM (((w.alloc (.cells #[.slice a n1 Q,U d] 30)).alloc (.cells #[.slice b n2 s,U f] 30)).alloc (.cells #[nL,U 0] 30));have bs:S.1.size=w.1.size+1+1+1:=by rw[j];simp
 have ac:bL w S:=by rw[j];exact((bR.alloc lE _).alloc (by simp) _).alloc (by simp;omega) _
 have g0:S.1[w.1.size]?=some (.cells #[.slice a n1 Q,U d] 30 (0,0)):=by rw[j];exact aS _ (aS _ (be _ _ rfl))
 have g1:S.1[w.1.size+1]?=some (.cells #[.slice b n2 s,U f] 30 (0,0)):=by rw[j];exact aS _ (be _ _ (by simp only[Kg]))
 have k:S.1[w.1.size+1+1]?=some (.cells #[nL,U 0] 30 (0,0)):=by rw[j];exact be _ _ (by simp only[Kg])
 have HG:Hid (∀c,bL S c->c.1[w.1.size]?=some (.cells #[.slice a n1 Q,U d] 30 (0,0))/\c.1[w.1.size+1]?=some (.cells #[.slice b n2 s,U f] 30 (0,0))/\c.1[w.1.size+1+1]?=some (.cells #[nL,U 0] 30 (0,0))):=λc h=>⟨h.bk g0,h.bk g1,h.bk k⟩
 have HW:=Z j;clear j g0 g1 k;go_enter func209,ntmps209;go_wp2_with fail;rw[<-HW.o];go_at_call 223;refine(HF.o _ ac).mono ?_;rintro e T ⟨rfl,t⟩;have ad:=t.size;have l:bL w T:=ac.th t;have⟨g0,g1,k⟩:=HG.o T t;have l2:w.1.size+1+1<T.1.size:=by omega
 have z0:=J0 k;have z1:=J1 k;have ae:=fZ k 0;have af:=fZ k 1;have y0:=J0 g0;have y1:=J1 g0;have x0:=J0 g1;have x1:=J1 g1;have l0:w.1.size<T.1.size:=by omega
 have l1:w.1.size+1<T.1.size:=by omega
 have I:∀X,bL w (T.alloc X):=λX=>l.alloc l.size X
 have J:∀X,bL S (T.alloc X):=λX=>t.alloc ad X
 have z:Hid _:=I;have K:=Z l;have u:Hid _:=J;clear g0 g1 k HF I J t l ad
 by_cases hz:pe=0
 ·subst hz
  cases lo with
  |true=>
   have x:Hid (y=7/\dr=([],0)):=by
    have e:y=7:=by rw[n.o];rfl
    exact⟨e,by rw[i.o,iO (by rw[e];decide)]⟩
   clear n i r;go_wp2_with fail;refine Ka (v:=.tuple #[.agg #[nL,U 0],U 7]) ?_ rfl ⟨_,by rw[x.o.1],by rw[x.o.2];exact kA _ _,?_⟩
   ·rw[K8 rfl];go_simp
   repeat(first|exact K.o|refine Ky ?_ (by show w.1.size<=w.1.size+1+1;omega) _|refine Lc ?_ (by simp;omega) _)
  |false=>
   have m:Hid (y=if R=0 then aT [H] else R):=by unfold Hid;rw[n.o];rfl
   clear n;go_wp2_with fail;go_at_call 224;refine(r.o _ (z.o _)).mono ?_;rintro e o ⟨dv,rfl,V,A⟩;have b5:=A.size;rw[Kg] at b5;have M:bL w o:=Below.tO (z.o _) A (z.o _).size;obtain⟨-,-,k⟩:=HG.o o (Below.tO (u.o _) A (u.o _).size);have N:∀X,bL o (o.alloc X):=λX=>bR.alloc lE X
   have C:Hid (∀X,cL 225 #[dv] (o.alloc X) λe c=>∃rv,e=.returned (.tuple #[rv,U (aT [H])])/\bE (o.alloc X).1.size c rv (iL H)/\Below (o.alloc X).1.size (o.alloc X) c):=λX=>Dt o.1.size dv H (o.alloc X) (V.at.l (N X) lE) (N X).size
   have W:Hid (iL H=if aT [H]=0 then j9 H else ([],0)):=rfl;obtain⟨ms,md⟩:=H;obtain⟨rv,rfl,-,a5,c5,rfl,-⟩:=V.at;simp only at C;generalize ms.length=n5 at*;generalize aT [(ms,md)]=pm at*;generalize ak:iL (ms,md)=sr at*;have bo:=Z ak;clear ak;have z0:=J0 k;have z1:=J1 k;have ae:=fZ k 0;have af:=fZ k 1;have l2:w.1.size+1+1<o.1.size:=by omega
   have Y:Hid _:=M;have b9:Hid _:=k;clear z u A M k r V
   by_cases hm:R=0
   ·subst hm
    have x:Hid (y=pm/\dr=sr):=by
     have e:y=pm:=by rw[m.o];rfl
     refine⟨e,?_⟩;rw[i.o,e,W.o]
    clear m i W;go_wp2_with fail;go_at_call 225;refine(C.o _).mono ?_;rintro e w6 ⟨sv,rfl,D,E⟩;have ba:=E.size;rw[Kg] at ba D;have b6:w6.1[w.1.size+1+1]?=some (.cells #[nL,U 0] 30 (0,0)):=(E.block _ (by simp;omega)).trans ((Kq _ _ _ (by omega)).trans b9.o);have O:bL w w6:=Below.tO (Y.o.alloc Y.o.size _) E (by simp;omega);have q0:=J0 b6;have q1:=J1 b6;have bz:=fZ b6 0;have bF:=fZ b6 1;have av:Hid _:=D;obtain⟨ts,td⟩:=sr;obtain⟨rv,e1,-,a6,c6,e2,-⟩:=D.at;subst e2 e1;simp only at av;generalize ts.length=n6 at*;have bb:Hid _:=O;clear D E O b6 C z0 z1 ae af;go_wp2_with fail;refine Ka (v:=.tuple #[.agg #[.slice a6 n6 c6,U td],U pm]) ?_ rfl ⟨_,by rw[x.o.1],?_,?_⟩
    ·rw[K8 rfl];go_simp
    ·rw[x.o.2];refine bE.keep (L:=o.1.size+1) ?_ (by omega) (λg _ _=>rfl) lE;repeat(first|exact av.o|refine bE.put ?_ (.inl (by omega)))
    exact bb.o.s2 (by show w.1.size<=w.1.size+1+1;omega)
   have x:Hid (y=R/\dr=([],0)):=by
    have e:y=R:=by rw[m.o,iO hm]
    exact⟨e,by rw[i.o,iO (by rw[e];exact hm)]⟩
   have hq:(R != 0)=true:=by simpa using hm
   clear m i W hm C;go_wp2_with fail;refine Ka (v:=.tuple #[.agg #[nL,U 0],U R]) ?_ rfl ⟨_,by rw[x.o.1],by rw[x.o.2];exact kA _ _,?_⟩
   ·rw[K8 rfl];go_simp
   repeat(first|exact Y.o|refine Ky ?_ (by show w.1.size<=w.1.size+1+1;omega) _|refine Lc ?_ (by simp;omega) _)
 have x:Hid (y=pe/\dr=([],0)):=by
  have e:y=pe:=by rw[n.o,iO hz]
  exact⟨e,by rw[i.o,iO (by rw[e];exact hz)]⟩
 have hq:(pe != 0)=true:=by simpa using hz
 have ca:(pe==0)=false:=by simpa using hz
 clear n i r hz;go_wp2_with fail;refine Ka (v:=.tuple #[.agg #[nL,U 0],U pe]) ?_ rfl ⟨_,by rw[x.o.1],by rw[x.o.2];exact kA _ _,?_⟩
 ·rw[K8 rfl];go_simp
 repeat(first|exact K.o|refine Ky ?_ (by show w.1.size<=w.1.size+1+1;omega) _|refine Lc ?_ (by simp;omega) _)
theorem D6(B pv qv p q w)(b:aX B w pv p)(c:aX B w qv q)(d:B<=w.1.size):
  cL 209 #[pv,qv] w λe a=>∃v,e=.returned (.tuple #[v,U (fQ p q)])/\aX a.1.size a v (fE p q)/\bL w a:=
 (Da B pv qv p q w b c d).mono λ_ _ ⟨v,f,g,h⟩=>⟨v,f,g.at,h⟩
theorem Ap(B lv pv qv ls p q w)(hl:cD B w lv ls)(hp:aX B w pv p)(hq:aX B w qv q)(K:B<=w.1.size):
  cL 181 #[lv,pv,qv] w λe o=>∃v,e=.returned (.tuple #[v,U (dm ls p q)])/\eA w.1.size o v (dt ls p q)/\bL w o:=by
 have HL:=Z λo (h:bL w o)=>hl.l h K
 have HC:=Z λo (h:bL w o)=>ro B lv ls o (hl.l h K) (h.u K)
 have HD:=Z λo (h:bL w o)=>D6 B pv qv p q o (hp.l h K) (hq.l h K) (h.u K)
 have C:Hid (dm ls p q=if bl ls=0 then (if fQ p q=0 then (if ls.length=6 then 2 else cB (fE p q)) else fQ p q) else bl ls):=rfl;have j:Hid (dt ls p q=if dm ls p q=0 then ls++[cm (fE p q)] else []):=rfl
 have D:Hid (bl ls=0->ls.length<=6/\∀f∈ls,f.length<=100000):=λh=>⟨(fA.1 h).1,λf hf=>Kl (nK ((fA.1 h).2 f hf)).2.1 (by decide)⟩
 have R:=Z λo (h:bL w o) (h1:ls.length<=1000) (h2:(∀f∈ls,f.length<=100000))=>vH B lv ls o (hl.l h K) (h.u K) h1 h2
 obtain⟨la,a8,rfl,bp,cn,-⟩:=hl;obtain⟨rs,d⟩:=p;obtain⟨ss,f⟩:=q;obtain⟨rv,rfl,-,a,ac,rfl,-⟩:=hp;obtain⟨sv,rfl,-,b,L,rfl,-⟩:=hq;simp only at HC HD;have cs:=ai;have⟨F,S⟩:=nM (ls.length);have ad:=Z S.symm
 rw[<-S] at HL HC C D R bp |-
 clear S;generalize bl ls=ce at*;generalize fQ (rs,d) (ss,f)=T at*;generalize fE (rs,d) (ss,f)=dr at*;generalize dm ls (rs,d) (ss,f)=E at*;generalize dt ls (rs,d) (ss,f)=tr at*;generalize rs.length=n1 at*;generalize ss.length=n2 at*;have⟨W2,y⟩:=nM ((w.alloc (.cells #[.slice a n1 ac,U d] 30)).alloc (.cells #[.slice b n2 L,U f] 30));have cv:=sB y;have af:=bB y;have g0:Na W2 w.1.size #[.slice a n1 ac,U d] 30:=by rw[y];exact aS _ (be _ _ rfl)
 have g1:Na W2 (w.1.size+1) #[.slice b n2 L,U f] 30:=by rw[y];exact be _ _ (by simp only[Kg])
 have HG:=Z λo (h:bL W2 o)=>Q2 (h.bk g0) (h.bk g1)
 have HW:=Z y;clear y g0 g1;go_enter func181,ntmps181;go_wp2_with fail;rw[<-HW.o];go_at_call 44;refine(HC.o _ af).mono ?_;rintro e w3 ⟨rfl,G⟩;have d1:=G.size;have s:=af.th G;clear HC
 by_cases M:ce=0
 ·subst M;have d2:=(D.o rfl).1;have N:Hid (∀f∈ls,f.length<=100000):=(D.o rfl).2;have⟨g0,g1⟩:=HG.o w3 G;have y0:=J0 g0;have y1:=J1 g0;have x0:=J0 g1;have x1:=J1 g1;have l:=Z (by rw[C.o,Io rfl]:E=if T=0 then (if F=6 then 2 else cB dr) else T);clear g0 g1 C D;go_wp2_with fail;go_at_call 209;refine(HD.o _ s).mono ?_;rintro e w4 ⟨dv,rfl,ak,al⟩;have O:=s.th al;have P:∀X,bL w4 (w4.alloc X):=λX=>bR.alloc lE X
  have z:=Z λX=>tQ w4.1.size dv dr (w4.alloc X) (ak.l (P X) lE) (P X).size
  have V:Hid (cB dr=0->dW dr=cm dr):=λh=>by rw[dW,Io h]
  obtain⟨m,n⟩:=dr;obtain⟨rv,rfl,-,a4,c4,rfl,-⟩:=ak;simp only at z;generalize m.length=n4 at*;have c:Hid _:=O;clear al O s G y0 y1 x0 x1 HD
  by_cases hd:T=0
  ·subst hd
   by_cases h6:F=6
   ·subst h6
    have t:Hid (E=2/\tr=[]):=by
     have e:E=2:=by rw[l.o];rfl
     exact⟨e,by rw[j.o,iO (by rw[e];decide)]⟩
    clear l j z;go_wp2_with fail;go_ret2;exact⟨_,by rw[t.o.1];rfl,by rw[t.o.2];exact kL _ _,c.o.alloc c.o.size _⟩
   have bs:¬(F:Int)=6:=by omega
   have dc:((F:Int)==6)=false:=by simpa using bs
   have x:=Z (by rw[l.o,Io rfl,iO h6]:E=cB (m,n));clear l h6;go_wp2_with fail;go_at_call 180;refine(z.o _).mono ?_;rintro e H ⟨fv,rfl,A,I,J⟩
   by_cases r:cB (m,n)=0
   ·have t:Hid (E=0/\tr=ls++[cm (m,n)]):=by
     have e:E=0:=by rw[x.o,r]
     exact⟨e,by rw[j.o,Io e]⟩
    rw[V.o r] at A I;rw[r];clear r x j V z;obtain⟨fa,fc,W,-,-⟩:=an A;subst W;have g:bL w H:=Below.tO (c.o.alloc c.o.size _) J (by simp;have:=c.o.size;omega);have b0:=g.size;have b1:Hid (H.ownsRow w.1.size 113 4 (.slice fa (cm (m,n)).length fc) (cm (m,n)).length (aJ (cm (m,n)))/\∀i∈cm (m,n),gH i):=⟨cU A (by have:=c.o.size;simp;omega),I⟩;have Q:Hid (cL 101 #[.slice la F a8] H λe Y=>∃v,e=.returned v/\∃xs,Y.ownsRow H.1.size 78 1 v F xs/\k9 H.1.size Y xs ls/\bL H Y):=R.o H g (by omega) N.o;have b3:Hid _:=g;obtain⟨dd,bv,bx,bz,bF⟩:=uS;clear A I J g R N;generalize b4:(cm (m,n)).length=fl at*;have b5:=Z b4;clear b4;go_wp2_with fail;go_at_call 101;refine Q.o.mono ?_;rintro e w6 ⟨v6,rfl,xs,a0,b6,a1⟩;have c0:=a1.size;have b7:=Z a0;have c1:=Z b6;have b8:=Z a1;obtain⟨va,vc,ev,-⟩:=an a0;subst ev;have c2:(F+1)*24<=140737488355328:=by omega
    have c3:F+1<=maxLen:=by omega
    clear a0 b6 a1 Q;go_wp2_with (first|(at_builtin;go_must (refine ir _ rfl _ _ rfl Tryz.underlying44 bv bx bz bF rfl (by decide) H.1.size _ _ _ rfl _ 1 [.slice fa fl fc] rfl _ rfl (by simp) w6 bR b7.o rfl (by intro u hu;simp at hu;subst hu;rfl) c3 c2 c0 ?_;intro v8 w8 ho8 hb8 hg8)))
    have b9:dB 113 w6 w8:=λk di fr hk=>(hg8.o.block k (io hk) (λe=>by
     have⟨cd,M⟩:=cX b7.o k e.symm;rw[hk] at M
     cases M)).trans hk
    have ba:=(dB.of_below b8.o).trans b9;have e8:(ls++[cm (m,n)]).length=F+1:=by simp[ad.o]
    have c6:eA w.1.size w8 v8 (ls++[cm (m,n)]):=by
     refine qW (xs:=xs++[.slice fa fl fc]) (by rw[e8];exact cU ho8.o b0) ?_;have h2:w8.ownsRow w.1.size 113 4 (.slice fa fl fc) (cm (m,n)).length (aJ (cm (m,n))):=by have:=eQ b1.o.1 ba;rw[b5.o];exact this
     exact(((c1.o.keep b9).base b0).snoc h2 b1.o.2)
    have bb:=b3.o.th (b8.o.trans hb8);go_ret2;exact⟨_,by rw[t.o.1];rfl,by rw[t.o.2];exact c6,bb⟩
   have t:Hid (E=cB (m,n)/\tr=[]):=by have e:=x.o;exact⟨e,by rw[j.o,iO (by rw[e];exact r)]⟩
   have hq:(cB (m,n) != 0)=true:=by simpa using r
   clear r x j V z;generalize cB (m,n)=cp at*;have g:bL w H:=Below.tO (c.o.alloc c.o.size _) J (by simp;have:=c.o.size;omega);obtain⟨fa,fc,W,-⟩:=an A;subst W;have c7:Hid _:=g;clear A I J g;generalize (dW (m,n)).length=fl at*;go_wp2_with fail;go_ret2;exact⟨_,by rw[t.o.1];rfl,by rw[t.o.2];exact kL _ _,c7.o⟩
  have t:Hid (E=T/\tr=[]):=by
   have e:E=T:=by rw[l.o,iO hd]
   exact⟨e,by rw[j.o,iO (by rw[e];exact hd)]⟩
  have hq:(T != 0)=true:=by simpa using hd
  have dl:(T==0)=false:=by simpa using hd
  clear l j z hd;go_wp2_with fail;go_ret2;exact⟨_,by rw[t.o.1];rfl,by rw[t.o.2];exact kL _ _,c.o.alloc c.o.size _⟩
 have t:Hid (E=ce/\tr=[]):=by
  have e:E=ce:=by rw[C.o,iO M]
  exact⟨e,by rw[j.o,iO (by rw[e];exact M)]⟩
 have hq:(ce != 0)=true:=by simpa using M
 clear C j M HD D;go_wp2_with fail;go_ret2;exact⟨_,by rw[t.o.1];rfl,by rw[t.o.2];exact kL _ _,s⟩
