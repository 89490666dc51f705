import Derived.Test.YtffnfdfjojidfaaGreatDoorWr14
set_option linter.all false
set_option maxRecDepth 100000
set_option maxHeartbeats 8000000
namespace Go.Proofs.YtffnfdfjojidfaaGreatDoor
open Go.RowKit Go.Maps Go.Proofs.Tryz
theorem rg{l}{x:List Int}(h:x∈bj l):∃a b c d e,x=[a,b,c,d,e]:=by
 unfold bj at h
 split at h
 ·have f:=(mA _ _).1 h;unfold lI at f
  match x,f with
  |[a,b,c,d,e],_=>exact⟨a,b,c,d,e,rfl⟩
 cases h
theorem mw:∀ (l:List (List Int)),(∀x∈l,∃a b c d e,x=[a,b,c,d,e])->∀ (i:Nat) (a b c d e:Int),l[i]?=some [a,b,c,d,e]->
  (cj l)[i*5]?=some (U a)/\(cj l)[i*5+1]?=some (U b)/\(cj l)[i*5+2]?=some (U c)/\(cj l)[i*5+3]?=some (U d)/\(cj l)[i*5+4]?=some (U e)
 |[],_,_,_,_,_,_,_,h=>by simp at h
 |x :: l,f,0,a,b,c,d,e,h=>by simp at h;subst h;simp[cj]
 |x :: l,f,i+1,a,b,c,d,e,h=>by obtain⟨g,j,k,m,n,rfl⟩:=f x (by simp);have o:=mw l (λy p=>f y (by simp[p])) i a b c d e (by simpa using h);have q:cj ([g,j,k,m,n] :: l)=U g :: U j :: U k :: U m :: U n :: cj l:=rfl;rw[q,show (i+1)*5=i*5+5 by omega];exact o
def fj(p q:aD):Nat->Int:=match dN p q with
 |some x=>Cn x
 |none=>λ_=>0
theorem zf{α:Type}(f:α->Bool)(l:List α)(i:Nat)(h:∀x∈l.take i,f x=false)(x:α)(a:l[i]?=some x)(b:f x=true):l.find? f=some x:=by
 have e:l=l.take i++x :: l.drop (i+1):=by obtain⟨c,rfl⟩:=K9.1 a;rw[<-KM c,Ms]
 rw[e,List.find?_append,MO.2 (λy d=>by simp[h y d])];simp[b]
theorem uI(B pv qv p q w)(hp:aX B w pv p)(hq:aX B w qv q)(hB:B<=w.1.size):
  cL 124 #[pv,qv] w (rT w (.tuple #[.bool (dN p q).isSome,jm (fj p q),U (aT [p,q])])):=by
 have HP:Hid (∀j,bL w j->aX B j pv p):=λj h=>hp.l h hB
 have HQ:Hid (∀j,bL w j->aX B j qv q):=λj h=>hq.l h hB
 obtain⟨n,d⟩:=p;obtain⟨o,f⟩:=q;obtain⟨rv,e1,hd,bc⟩:=hp;obtain⟨sv,e2,hf,bd⟩:=hq;have cb:Hid (∀j,bL w j->bD B j rv n):=λj h=>bc.l h hB
 have cc:Hid (∀j,bL w j->bD B j sv o):=λj h=>bd.l h hB
 obtain⟨a,G,e3,ef,eg,-⟩:=bc;obtain⟨b,r,e4,dl,dn,-⟩:=bd;simp only at e1 e2 e3 e4 hd hf;subst e3 e4 e1 e2;have cd:=Z hd;have ce:=Z hf;clear hd hf;generalize cf:n.length=n1 at*;generalize ci:o.length=n2 at*;clear cf ci;go_enter func124,ntmps124;have⟨O,J⟩:=nM (((w.alloc (.cells #[.slice a n1 G,U d] 30)).alloc (.cells #[.slice b n2 r,U f] 30)).alloc (.cells #[U 0,U 0,U 0,U 0,U 0] 34));have bf:O.1.size=w.1.size+1+1+1:=by rw[J];simp
 have a0:bL w O:=by rw[J];exact((bR.alloc lE _).alloc (by simp) _).alloc (by simp;omega) _
 have a1:Hid (∀j,Below (w.1.size+3) O j->j.1[w.1.size]?=some (.cells #[.slice a n1 G,U d] 30 (0,0))/\j.1[w.1.size+1]?=some (.cells #[.slice b n2 r,U f] 30 (0,0))/\j.1[w.1.size+1+1]?=some (.cells (fJ λ_=>0) 34 (0,0))):=by
  intro j h;have e0:O.1[w.1.size]?=some (.cells #[.slice a n1 G,U d] 30 (0,0)):=by rw[J,Kq _ _ _ (by simp;omega),Kq _ _ _ (by simp)];exact ah _ _
  have e1:O.1[w.1.size+1]?=some (.cells #[.slice b n2 r,U f] 30 (0,0)):=by rw[J,Kq _ _ _ (by simp)];have:=ah (w.alloc (.cells #[.slice a n1 G,U d] 30)) (.cells #[.slice b n2 r,U f] 30);rw[Kg] at this;exact this
  have e2:O.1[w.1.size+1+1]?=some (.cells (fJ λ_=>0) 34 (0,0)):=by rw[J];have:=ah ((w.alloc (.cells #[.slice a n1 G,U d] 30)).alloc (.cells #[.slice b n2 r,U f] 30)) (.cells (fJ λ_=>0) 34);rw[Kg,Kg] at this;exact this
  exact⟨h.bk e0,h.bk e1,h.bk e2⟩
 have bg:=wJ (p:=(n,d)) (q:=(o,f)) (a0.u hB) (cb.o _ a0) cd.o (cc.o _ a0) ce.o 30;have ad:=sH _ _ _ _ bg (by simp) (by simp);rw[bf] at ad;have a7:Hid _:=ad;have bk:Below (w.1.size+3) O (O.alloc (.cells #[.slice a n1 G,U d,.slice b n2 r,U f] 30)):=bR.alloc (by omega) _;have ae:(O.alloc (.cells #[.slice a n1 G,U d,.slice b n2 r,U f] 30)).1.size=w.1.size+4:=by simp[bf]
 clear ad bg;go_wp2_with fail;rw[<-J];clear J;go_at_call 147;refine Calls.mono a7.o ?_;rintro e w5 ⟨v5,rfl,z,P⟩
 try unfold bL at P
 rw[ae] at P z;have bm:Below (w.1.size+3) O w5:=Mj bk (P.mono (by omega));have ck:=P.size;rw[ae] at ck;obtain⟨a5,dp,rfl,cl,dq,af⟩:=an z;have bo:Hid (aT [(n,d),(o,f)]≠0->bj [(n,d),(o,f)]=[]):=λh=>by rw[bj,iO h]
 have Q:Hid (∀x∈bj [(n,d),(o,f)],aT [(n,d),(o,f)]=0/\eC (Cn x)=0/\aj (n,d)=0/\aj (o,f)=0):=by
  intro x u;unfold bj at u
  split at u
  ·rename_i h0;have ak:=(kM.1 h0).1;obtain⟨y,rfl,hy,_⟩:=uo ak u;refine⟨h0,?_,ak _ (by simp),ak _ (by simp)⟩;have:eC (Cn (iQ y))=eC y:=by unfold eC;rw[fF y 0 (by omega),fF y 1 (by omega),fF y 2 (by omega),fF y 3 (by omega),fF y 4 (by omega)]
   rw[this];exact hy
  cases u
 have H5:Hid (∀x∈bj [(n,d),(o,f)],∃a b c d e,x=[a,b,c,d,e]):=λx u=>rg u
 have al:Hid (dN (n,d) (o,f)=(bj [(n,d),(o,f)]).find? (eB (n,d) (o,f))):=rfl;have bp:Hid (fj (n,d) (o,f)=match dN (n,d) (o,f) with|some x=>Cn x|none=>λ_=>0):=rfl;have⟨PL,bq⟩:=nM (bj [(n,d),(o,f)])
 rw[<-bq] at z cl af bo Q H5 al |-
 clear bq;have co:Hid (∀ (i:Nat) (A C D E F:Int),PL[i]?=some [A,C,D,E,F]->∃g,a5=some (pA g 0)/\g<w5.1.size/\w5.cell? ⟨g,i*5,none⟩=some (U A)/\w5.cell? ⟨g,i*5+1,none⟩=some (U C)/\w5.cell? ⟨g,i*5+2,none⟩=some (U D)/\w5.cell? ⟨g,i*5+3,none⟩=some (U E)/\w5.cell? ⟨g,i*5+4,none⟩=some (U F)):=by intro i A C D E F u;have hi:=(K9.1 u).1;obtain⟨g,rfl,_,hg⟩:=af (by omega);have⟨h0,h1,h2,h3,h4⟩:=mw PL H5.o i A C D E F u;exact⟨g,rfl,hg,aK z _ _ h0,aK z _ _ h1,aK z _ _ h2,aK z _ _ h3,aK z _ _ h4⟩
 clear z af P a7 bk ae;have eu:=ai;have⟨pe,ao⟩:=nM (aT [(n,d),(o,f)]);have aa:=Z ao.symm
 rw[<-ao] at bo Q |-
 clear ao;generalize hN:PL.length=N at*;have br:=Z hN;clear hN;go_wp2_with fail;go_loopw [24] (λiv wr=>∃i:Nat,i<=N/\iv=U i/\Hid (∀x∈PL.take i,eB (n,d) (o,f) x=false)/\bL w5 wr) (λiv _=>N-(intOf iv).toNat)
 case atStart=>exact⟨0,by omega,rfl,λx u=>by simp at u,Kf _ _⟩
 case round=>
  obtain⟨i,hi,rfl,av,H⟩:=hrel;have⟨M,cs⟩:=nM (wr);subst cs;have i0:(0:Int)<=(i:Int):=by omega
  have cv:=H.size;have l0:w.1.size<M.1.size:=by omega
  have l1:w.1.size+1<M.1.size:=by omega
  have l2:w.1.size+1+1<M.1.size:=by omega
  have I:Below (w.1.size+3) O M:=bm.trans (H.mono (by omega));have K:bL w M:=a0.trans (I.mono (by omega))
  by_cases ev:i<N
  ·have i1:(i:Int)<(N:Int):=by omega
   obtain⟨x,u⟩:∃x,PL[i]?=some x:=⟨PL[i]'(by rw[br.o];omega),by simp⟩;have b3:=Kb u;obtain⟨A,C,D,E,F,rfl⟩:=H5.o x b3;obtain⟨bs,bv,b4,b5⟩:=Q.o _ b3;have R:eC (oz A C D E F)=0:=bv;obtain⟨g,rfl,S,z0,z1,z2,z3,z4⟩:=co.o i A C D E F u;have y0:=(H.cell (p:=⟨g,i*5,none⟩) S).trans z0;have y1:=(H.cell (p:=⟨g,i*5+1,none⟩) S).trans z1;have y2:=(H.cell (p:=⟨g,i*5+2,none⟩) S).trans z2;have y3:=(H.cell (p:=⟨g,i*5+3,none⟩) S).trans z3;have y4:=(H.cell (p:=⟨g,i*5+4,none⟩) S).trans z4;have⟨va,b6⟩:=nM (vP (n,d) (oz A C D E F));have⟨vb,b7⟩:=nM (vP (o,f) (oz A C D E F));have bx:Hid (eB (n,d) (o,f) [A,C,D,E,F]=decide (vb<va)):=by unfold Hid;rw[b6,b7];rfl
   have d0:Hid (∀j,bL w j->cL 148 #[.agg #[.slice a n1 G,U d],.agg #[U A,U C,U D,U E,U F]] j λe T=>∃k,e=.returned (.tuple #[U va,U k])/\bL j T):=by intro j h;refine(rm B _ _ (oz A C D E F) j (HP.o j h) (h.u hB) b4).mono ?_;rintro e T ⟨rfl,hb⟩;refine⟨(cP (n,d) (aR (bu (oz A C D E F)) 0 n)).2,?_,hb⟩;rw[b6,vP,gV b4 R]
   have d2:Hid (∀j,bL w j->cL 148 #[.agg #[.slice b n2 r,U f],.agg #[U A,U C,U D,U E,U F]] j λe T=>∃k,e=.returned (.tuple #[U vb,U k])/\bL j T):=by intro j h;refine(rm B _ _ (oz A C D E F) j (HQ.o j h) (h.u hB) b5).mono ?_;rintro e T ⟨rfl,hb⟩;refine⟨(cP (o,f) (aR (bu (oz A C D E F)) 0 o)).2,?_,hb⟩;rw[b7,vP,gV b5 R]
   have bz:=Z u;have e9:=Z bs;clear b6 b7 z0 z1 z2 z3 z4 u b3 bs bv R b4 b5;obtain⟨b0,b1,V⟩:=a1.o _ I;have c0:=J0 b0;have c1:=J1 b0;have bF:∀X,bL M (M.alloc X):=λX=>bR.alloc lE _
   clear b0 b1 V;go_wp2_with fail;go_at_call 148;refine Calls.mono (d0.o _ (K.th (bF _))) ?_;rintro e w6 ⟨ka,rfl,b8⟩;have s:=(b8.block M.1.size (by simp)).trans (ah M _);have W:bL M w6:=Below.tO (bF _) b8 (by simp);have d3:=io s;have m0:=J0 s;have m1:=J1 s;have m2:=J2 s;have m3:=J3 s;have m4:=J4 s;obtain⟨b0,b1,V⟩:=a1.o _ (I.trans (W.mono (by omega)));have c2:=J0 b1;have c3:=J1 b1;have b9:Hid _:=s;clear b0 b1 V c0 c1 b8 s y0 y1 y2 y3 y4;go_wp2_with fail;go_at_call 148;refine Calls.mono (d2.o _ (K.th W)) ?_;rintro e w7 ⟨kb,rfl,ba⟩;have t:=(ba.block M.1.size d3).trans b9.o;have Y:bL M w7:=W.th ba;clear m0 m1 m2 m3 m4 c2 c3 ba
   by_cases c4:vb<va
   ·have fl:=J0 t;have fn:=J1 t;have fo:=J2 t;have fp:=J3 t;have fq:=J4 t;have l:Hid (dN (n,d) (o,f)=some [A,C,D,E,F]):=by unfold Hid;rw[al.o];exact zf _ PL i av.o _ bz.o (by rw[bx.o];exact KS c4)
    have bb:Hid (fj (n,d) (o,f)=oz A C D E F):=by unfold Hid;rw[bp.o,l.o];rfl
    obtain⟨b0,b1,V⟩:=a1.o _ (I.trans (Y.mono (by omega)));have L:=(eD V).1;have m:=(eD V).2;have r0:=L 0 (by omega);have r1:=L 1 (by omega);have r2:=L 2 (by omega);have r3:=L 3 (by omega);have r4:=L 4 (by omega);have f0:=m 0;have f1:=m 1;have f2:=m 2;have f3:=m 3;have f4:=m 4;clear L m b0 b1 V t;go_wp2_with fail;go_region;go_wp2_with fail;refine Ka (v:=.tuple #[.bool true,.agg #[U A,U C,U D,U E,U F],U pe]) ?_ rfl ⟨by rw[l.o,bb.o,aa.o];rfl,?_⟩
    ·simp[results,Tryz.results124,go_sem,r0,r1,r2,r3,r4]
    have c5:bL w w7:=K.th Y;refine Below.drew ?_;repeat(first|exact c5|refine Ky ?_ (by simp;omega) _)
   have dd:Hid (∀x∈PL.take (i+1),eB (n,d) (o,f) x=false):=by
    intro x u;rw[KN,bz.o] at u
    rcases KB.1 u with h|h
    ·exact av.o x h
    simp at h;subst h;rw[bx.o];exact KD c4
   clear t;go_wp2_with fail;exact⟨⟨i+1,by omega,by go_num,dd,Below.tO H Y cv⟩,by simp[intOf];omega⟩
  obtain rfl:i=N:=by omega
  have l:Hid (dN (n,d) (o,f)=none):=by unfold Hid;rw[al.o,MO];intro x u;have:=av.o x (by rw[Ki (by rw[br.o];omega)];exact u);simp[this]
  have bb:Hid (fj (n,d) (o,f)=λ_=>0):=by unfold Hid;rw[bp.o,l.o]
  obtain⟨b0,b1,V⟩:=a1.o _ I;have L:=(eD V).1;have m:=(eD V).2;have r0:=L 0 (by omega);have r1:=L 1 (by omega);have r2:=L 2 (by omega);have r3:=L 3 (by omega);have r4:=L 4 (by omega);have f0:=m 0;have f1:=m 1;have f2:=m 2;have f3:=m 3;have f4:=m 4;clear L m b0 b1 V;go_wp2_with fail;refine Ka (v:=.tuple #[.bool false,.agg #[U 0,U 0,U 0,U 0,U 0],U pe]) ?_ rfl ⟨by rw[l.o,bb.o,aa.o];rfl,?_⟩
  ·simp[results,Tryz.results124,go_sem,r0,r1,r2,r3,r4]
  repeat(first|exact K|refine Ky ?_ (by simp;omega) _)
theorem mp(p)(r:aq):∀ (l:List aq) (k:Nat),bN p k (l++[r])=bN p k l++if gt p ((k+l.length:Nat):Int) then [r] else []
 |[],k=>by show bN p k [r]=_;unfold bN;simp[bN]
 |s :: l,k=>by
  have a:=mp p r l (k+1);rw[show k+1+l.length=k+(s :: l).length by simp;omega] at a;show bN p k (s :: (l++[r]))=_;unfold bN
  split
  ·rw[a];rfl
  rw[a]
theorem oW(d)(r:aq):∀l:List aq,cF d (l++[r])=if r.2=d then cF d l else l++[r]
 |[]=>by
  show (if cF d []=[]/\r.2=d then [] else r :: cF d [])=_
  by_cases h:r.2=d<;>simp[h,cF]
 |s :: l=>by
  have a:=oW d r l;show (if cF d (l++[r])=[]/\s.2=d then [] else s :: cF d (l++[r]))=_;rw[a]
  by_cases h:r.2=d
  ·rw[Io h,Io h];rfl
  rw[iO h,iO h,iO (by simp)];rfl
theorem oL(d)(l:List aq):cF d l=l.take (cF d l).length:=by
 have⟨n,h⟩:=lX d l;rw[h,Kt]
 by_cases a:n<=l.length
 ·rw[MJ a]
 rw[Nat.min_eq_right (by omega),Ki (by omega),L6]
theorem Dj{B w a n c}{r:aq}(h:bG B w (.slice a n c) r.1)(e:wf r.2):lB B w [.slice a n c,U r.2] [r]:=by
 refine⟨rfl,λu d=>?_,λi s b=>?_⟩
 ·simp at d
  rcases d with rfl|rfl<;>rfl
 match i,b with
 |0,b=>
  simp at b;subst b;exact⟨_,rfl,rfl,e,h⟩
 |i+1,b=>simp at b
theorem bD.take{B w a n c rs}(h:bD B w (.slice a n c) rs)(m:Nat)(d:m<=rs.length):bD B w (.slice a m c) (rs.take m):=by
 obtain⟨j,k,e,l,f,g⟩:=h;simp at e;obtain⟨rfl,rfl,rfl⟩:=e;refine⟨a,c,by rw[Kt,MJ d],by rw[Kt];omega,f,λi r b=>?_⟩;rw[LO] at b
 split at b
 ·exact g i r b
 cases b
def iL(p:aD):aD:=if aT [p]=0 then j9 p else ([],0)
theorem Jg{w:World}{base a n:Nat}{e:TypeId}{v:Value}{xs:List Value}(h:w.ownsRow base e a v n xs):∀k,v.ownBlock=some k->k<w.1.size:=λk b=>by have⟨c,d⟩:=cX h k b;exact io d
def E8(L:Nat)(v:Value):Prop:=∀ (b o n c:Nat) (d:Value),v=.agg #[.slice (some ⟨b,o,none⟩) n c,d]->L<=b
theorem Cm(B pv p w)(hp:aX B w pv p)(hB:B<=w.1.size):
  cL 126 #[pv] w λe m=>∃rv,e=.returned (.tuple #[rv,U (aT [p])])/\aX m.1.size m rv (iL p)/\E8 w.1.size rv/\bL w m:=by
 obtain⟨he,da,dc,dd,de⟩:=jY;have HP:Hid (∀m,bL w m->aX B m pv p):=λm h=>hp.l h hB
 obtain⟨f,d⟩:=p;obtain⟨rv,e1,hd,df⟩:=hp;have di:Hid (∀m,bL w m->bD B m rv f):=λm h=>df.l h hB
 obtain⟨a,L,e3,hh,hl,-⟩:=df;simp only at e1 e3 hd;subst e3 e1;have dk:Hid (wf d):=hd;clear hd;generalize dl:f.length=M at*;have a8:Hid (f.length=M):=dl;clear dl;have hm:=ai;have⟨W2,a0⟩:=nM ((w.alloc (.cells #[.slice a M L,U d] 30)).alloc (.cells #[nL,U 0] 30));have dn:=sB a0;have ca:=bB a0
 have a1:Hid (∀m,Below (w.1.size+2) W2 m->m.1[w.1.size]?=some (.cells #[.slice a M L,U d] 30 (0,0))/\m.1[w.1.size+1]?=some (.cells #[nL,U 0] 30 (0,0))):=by
  intro m h;have e0:W2.1[w.1.size]?=some (.cells #[.slice a M L,U d] 30 (0,0)):=by rw[a0,Kq _ _ _ (by simp)];exact ah _ _
  have e1:W2.1[w.1.size+1]?=some (.cells #[nL,U 0] 30 (0,0)):=by rw[a0];have:=ah (w.alloc (.cells #[.slice a M L,U d] 30)) (.cells #[nL,U 0] 30);rw[Kg] at this;exact this
  exact⟨h.bk e0,h.bk e1⟩
 have dp:=AT (p:=(f,d)) (ca.u hB) (di.o _ ca) dk.o 30;have cb:=sH _ _ _ _ dp (by simp) (by simp);rw[dn] at cb;have aa:Hid _:=cb;have dq:Below (w.1.size+2) W2 (W2.alloc (.cells #[.slice a M L,U d] 30)):=bR.alloc (by omega) _;have cc:(W2.alloc (.cells #[.slice a M L,U d] 30)).1.size=w.1.size+3:=by simp[dn]
 clear cb dp;go_enter func126,ntmps126;go_wp2_with fail;rw[<-a0];clear a0;go_at_call 147;refine Calls.mono aa.o ?_;rintro e k ⟨v5,rfl,t,ac⟩
 try unfold bL at ac
 rw[cc] at ac t;have A:Below (w.1.size+2) W2 k:=Mj dq (ac.mono (by omega));have ad:bL w k:=ca.trans (A.mono (by omega));have f4:=ac.size;rw[cc] at f4;have l5:w.1.size<k.1.size:=by omega
 have l6:w.1.size+1<k.1.size:=by omega
 obtain⟨a5,gv,rfl,f5,gz,ba⟩:=an t
 by_cases C:aT [(f,d)]=0
 case neg=>
  have HE:Hid (iL (f,d)=([],0)):=by unfold Hid iL;rw[iO C]
  have hq:(aT [(f,d)] != 0)=true:=by simpa using C
  have⟨pe,ae⟩:=nM (aT [(f,d)])
  rw[<-ae] at hq |-
  have dr:Hid (aT [(f,d)]=pe):=ae.symm;clear C ae t ba aa;obtain⟨b0,b1⟩:=a1.o _ A;have r0:=J0 b1;have r1:=J1 b1;have f0:=fZ b1 0;have f1:=fZ b1 1;clear b0 b1;go_wp2_with fail;refine Ka (v:=.tuple #[.agg #[nL,U 0],U pe]) ?_ rfl ⟨_,by rw[dr.o],?_,λb o n c d h=>by simp at h,?_⟩
  ·rw[K8 rfl];go_simp
  ·rw[HE.o];exact⟨_,rfl,L4 (by simp only[];omega),none,0,rfl,Ke _,Ks _,λi r h=>by simp at h⟩
  repeat(first|exact ad|refine Ky ?_ (by simp) _)
 have ds:Hid (iL (f,d)=(cF d (bN (f,d) 0 f),d)):=by unfold Hid iL;rw[Io C];rfl
 have cd:gn [(f,d)]:=(kM.1 C).1;have ce:aj (f,d)=0:=cd _ (by simp);have bp:Hid (aj (f,d)=0):=ce;have fb:M<=120:=by rw[<-a8.o];exact(cY ce).1
 have ak:bj [(f,d)]=dG [(f,d)]:=by rw[bj,Io C]
 have H5:Hid (∀x∈bj [(f,d)],∃a b c d e,x=[a,b,c,d,e]):=λx D=>rg D
 have dv:Hid (∀x∈bj [(f,d)],eC (Cn x)=0):=by
  intro x D;rw[ak] at D;obtain⟨y,rfl,hy,_⟩:=uo cd D;have:eC (Cn (iQ y))=eC y:=by unfold eC;rw[fF y 0 (by omega),fF y 1 (by omega),fF y 2 (by omega),fF y 3 (by omega),fF y 4 (by omega)]
  rw[this];exact hy
 have cf:Hid (∀i:Int,gt (f,d) i=(bj [(f,d)]).any λx=>kP (f,d) (Cn x)==i):=λi=>by rw[ak];rfl
 have e2:Hid (aT [(f,d)]=0):=C;rw[C];have⟨PL,e4⟩:=nM (bj [(f,d)])
 rw[<-e4] at t f5 ba H5 dv cf |-
 clear ak e4 cd ce C;have fd:Hid (∀ (i:Nat) (R S T V W:Int),PL[i]?=some [R,S,T,V,W]->∃g,a5=some (pA g 0)/\g<k.1.size/\k.cell? ⟨g,i*5,none⟩=some (U R)/\k.cell? ⟨g,i*5+1,none⟩=some (U S)/\k.cell? ⟨g,i*5+2,none⟩=some (U T)/\k.cell? ⟨g,i*5+3,none⟩=some (U V)/\k.cell? ⟨g,i*5+4,none⟩=some (U W)):=by intro i R S T V W D;have hi:=(K9.1 D).1;obtain⟨g,rfl,_,hg⟩:=ba (by omega);have⟨h0,h1,h2,h3,h4⟩:=mw PL H5.o i R S T V W D;exact⟨g,rfl,hg,aK t _ _ h0,aK t _ _ h1,aK t _ _ h2,aK t _ _ h3,aK t _ _ h4⟩
 clear t ba ac aa dq cc;generalize hN:PL.length=N at*;have e5:Hid (PL.length=N):=hN;clear hN;obtain⟨b0,b1⟩:=a1.o _ A;have p0:=J0 b0;have p1:=J1 b0;clear b0 b1;have fe:Hid ((k.alloc (.cells #[nL,U d] 30)).1[k.1.size]?=some (.cells #[nL,U d] 30 (0,0))):=ah _ _;have fi:Hid (∀X,bL k (k.alloc X)):=λX=>bR.alloc lE _
 go_wp2_with fail;go_loopw [7,30] (λnv iv wr=>∃ (i:Nat) (ao:Option Addr) (ko co:Nat) (xs:List Value),i<=M/\iv=U i/\nv=U ((cF d (bN (f,d) 0 (f.take i))).length:Int)/\Hid (wr.1[k.1.size]?=some (.cells #[.slice ao ko co,U d] 30 (0,0)))/\Hid (wr.ownsRow k.1.size 133 2 (.slice ao ko co) (bN (f,d) 0 (f.take i)).length xs)/\Hid (lB B wr xs (bN (f,d) 0 (f.take i)))/\bL k wr) (λ_ iv _=>M-(intOf iv).toNat)
 case atStart=>exact⟨0,none,0,0,[],by omega,rfl,rfl,fe,⟨rfl,.inl ⟨rfl,rfl⟩⟩,⟨rfl,(λu hu=>by cases hu),(λi r hr=>by simp[bN] at hr)⟩,fi.o _⟩
 case round=>
  obtain⟨i,ao,ko,co,xs,hi,rfl,rfl,HO,E,O,P⟩:=hrel;have⟨z,fo⟩:=nM (wr);subst fo;have i0:(0:Int)<=(i:Int):=by omega
  have ck:=P.size;have bs:=io HO.o;have bv:Below (w.1.size+2) W2 z:=A.trans (P.mono (by omega));have bx:bL w z:=ad.trans (P.mono (by omega));have bb:(bN (f,d) 0 (f.take i)).length<=M:=by have:=kD (f,d) (f.take i) 0;rw[Kt,a8.o] at this;omega
  by_cases hP:i<M
  ·have i1:(i:Int)<(M:Int):=by omega
   obtain⟨r,cl⟩:∃r,f[i]?=some r:=⟨f[i]'(by rw[a8.o];omega),by simp⟩;have fp:Hid (f.take (i+1)=f.take i++[r]):=by unfold Hid;rw[KN,cl];rfl
   have e6:(f.take i).length=i:=by rw[Kt,a8.o];omega
   have cn:Hid (bN (f,d) 0 (f.take (i+1))=bN (f,d) 0 (f.take i)++if gt (f,d) (i:Int) then [r] else []):=by unfold Hid;rw[fp.o,mp,e6,Kp]
   obtain⟨_,_,e1,-,-,e7⟩:=di.o _ bx;have⟨b,o,e,e8,cv,k0,k1,e9,ea⟩:=e7 i r cl;simp at e1;obtain⟨rfl,-,-⟩:=e1;subst e;clear e7 e6 cl;have bc:Hid (∀m,Below k.1.size z m->bG B m cv r.1):=λm h=>ea.l h (by omega)
   obtain⟨a9,c9,fr,-⟩:=ea;subst fr;have al:Hid (wf r.2):=e9;obtain⟨cs,vd⟩:=r;simp only[] at k0 k1 bc al;have⟨n9,ee⟩:=nM (cs.length);rw[<-ee] at k0 bc;clear ee e9;have⟨K,hK⟩:=nM (bN (f,d) 0 (f.take i))
   rw[<-hK] at cn E O bb |-
   clear hK;have⟨W7,bd⟩:=nM (z.alloc (.cells #[.slice a9 n9 c9,U vd] 133));have fv:=bA bd;have eg:=Z (hA bd);have fx:z.1.size<W7.1.size:=io eg.o;go_wp2_with fail;rw[<-bd];clear bd;go_loopw [7,37] (λnv jv wr=>∃j:Nat,j<=N/\nv=U ((cF d K).length:Int)/\jv=U j/\Hid (∀x∈PL.take j,(kP (f,d) (Cn x)==(i:Int))=false)/\bL W7 wr) (λ_ jv _=>N-(intOf jv).toNat)
   case atStart=>exact⟨0,by omega,rfl,rfl,λx D=>by simp at D,Kf _ _⟩
   case round=>
    obtain⟨j,hj,rfl,rfl,ej,cp⟩:=hrel;have⟨wj,g2⟩:=nM (wr);subst g2;have j0:(0:Int)<=(j:Int):=by omega
    have g3:=cp.size;have G:bL z wj:=fv.th cp;have s:bL k wj:=P.trans (G.mono (by omega))
    by_cases hR:j<N
    ·have j1:(j:Int)<(N:Int):=by omega
     obtain⟨x,D⟩:∃x,PL[j]?=some x:=⟨PL[j]'(by rw[e5.o];omega),by simp⟩;have bf:=Kb D;obtain⟨R,S,T,V,W,rfl⟩:=H5.o x bf;have bF:eC (oz R S T V W)=0:=dv.o _ bf;obtain⟨g,rfl,av,z0,z1,z2,z3,z4⟩:=fd.o j R S T V W D;have y0:=(s.cell (p:=⟨g,j*5,none⟩) av).trans z0;have y1:=(s.cell (p:=⟨g,j*5+1,none⟩) av).trans z1;have y2:=(s.cell (p:=⟨g,j*5+2,none⟩) av).trans z2;have y3:=(s.cell (p:=⟨g,j*5+3,none⟩) av).trans z3;have y4:=(s.cell (p:=⟨g,j*5+4,none⟩) av).trans z4;have g4:Hid (PL[j]?=some [R,S,T,V,W]):=D;have ek:Hid ([R,S,T,V,W]∈PL):=bf;have⟨ka,cx⟩:=nM (kP (f,d) (oz R S T V W));have c2:Hid (kP (f,d) (Cn [R,S,T,V,W])=ka):=cx.symm;have g5:Hid (∀m,bL w m->cL 148 #[.agg #[.slice (some ⟨b,o,none⟩) M L,U d],.agg #[U R,U S,U T,U V,U W]] m λe el=>∃v,e=.returned (.tuple #[U v,U ka])/\bL m el):=by intro m h;refine(rm B _ _ (oz R S T V W) m (HP.o m h) (h.u hB) bp.o).mono ?_;rintro e el ⟨rfl,hb⟩;refine⟨(cP (f,d) (aR (bu (oz R S T V W)) 0 f)).1,?_,hb⟩;rw[cx,JA bp.o bF]
     have l0:w.1.size<wj.1.size:=by omega
     have em:bL w wj:=ad.trans (s.mono (by omega));obtain⟨b0,_⟩:=a1.o _ (A.trans (s.mono (by omega)));have c0:=J0 b0;have c1:=J1 b0;have cT:∀X,bL wj (wj.alloc X):=λX=>bR.alloc lE _
     clear b0 z0 z1 z2 z3 z4 D bf cx bF p0 p1;go_wp2_with fail;go_at_call 148;refine Calls.mono (g5.o _ (em.th (cT _))) ?_;rintro e w8 ⟨va,rfl,en⟩;have b2:bL wj w8:=Below.tO (cT _) en (by simp);have H:bL z w8:=G.th b2;have c3:bL W7 w8:=Below.tO cp b2 g3;have i2:=b2.size;clear y0 y1 y2 y3 y4 c0 c1 en cT
     by_cases bg:ka=(i:Int)
     ·have bk:Hid (gt (f,d) (i:Int)=true):=by unfold Hid;rw[cf.o,List.any_eq_true];exact⟨_,ek.o,by rw[c2.o,bg];simp⟩
      have l:Hid (bN (f,d) 0 (f.take (i+1))=K++[(cs,vd)]):=by unfold Hid;rw[cn.o,Io bk.o]
      subst bg;have d0:=(H.block k.1.size bs).trans HO.o;have bm:=(c3.block z.1.size fx).trans eg.o;have Y:Hid (w8.ownsRow k.1.size 133 2 (.slice ao ko co) K.length xs):=aw E.o H;have o0:=J0 d0;have g0:=J0 bm;have g1:=J1 bm;have c4:Hid _:=d0;have c5:Hid _:=bm;have h8:k.1.size≠z.1.size:=by omega
      clear d0 bm;have c6:∀q,(Value.slice ao ko co).ownBlock=some q->q<z.1.size:=Jg E.o;have b3:Hid _:=c6;clear c6;have eq:z.1.size<w8.1.size:=by omega
      have er:Hid (w8.1[w.1.size]?=_):=(a1.o _ (A.trans ((P.trans (H.mono ck)).mono (by omega)))).1;have es:w.1.size≠k.1.size:=by omega
      by_cases a6:vd=d
      ·have g6:(vd != d)=false:=by simpa using a6
       have d1:Hid (vd=d):=a6;clear a6;go_wp2_with (first|(at_builtin;go_must (refine ir _ rfl _ _ rfl Tryz.underlying28 da dc dd de rfl (by decide) k.1.size _ _ _ rfl _ 1 [.slice a9 n9 c9,U vd] rfl _ rfl (by simp) w8 bR Y.o rfl (by simp[Value.oneCell']) (by omega) (by omega) (by omega) ?_;intro v9 w9 b4 b5 d3;obtain⟨a10,c10,e10,-⟩:=an b4.o;subst e10;have I:w8.grownBy w9 (Value.slice ao ko co).ownBlock:=d3.o;have F:=(fh.grown Y.o I) _ _ _ _ c4.o (by decide);have o9:=J0 F;have f9:w9.frozen? (pA k.1.size 0)=false:=(fZ F _);have b6:=(I.block z.1.size eq (λh=>Nat.lt_irrefl _ (b3.o _ h.symm))).trans c5.o;have g7:=J1 b6;have b7:=(b5.block w.1.size l5).trans er.o;have g8:=J1 b7;have J:Hid _:=F;clear F b6 b7)));have Q:Below k.1.size z (w9.setCell (pA k.1.size 0) (.slice a10 (K.length+1) c10)):=((H.mono ck).trans b5).setCell (p:=pA k.1.size 0) lE _;refine⟨⟨i+1,a10,K.length+1,c10,xs++[.slice a9 n9 c9,U vd],by omega,by go_num,?_,?_,?_,?_,P.trans Q⟩,by simp[intOf];omega⟩
       ·rw[l.o,oW,Io d1.o]
       ·unfold Hid;rw[ap J.o];rfl
       ·unfold Hid;rw[l.o,Kj];exact jx b4.o J.o (by decide)
       unfold Hid;rw[l.o];exact(O.o.l Q (by omega)).append (Dj (r:=(cs,vd)) (bc.o _ Q) al.o)
      have g6:(vd != d)=true:=by simpa using a6
      have d1:Hid (¬vd=d):=a6;clear a6;go_wp2_with (first|(at_builtin;go_must (refine ir _ rfl _ _ rfl Tryz.underlying28 da dc dd de rfl (by decide) k.1.size _ _ _ rfl _ 1 [.slice a9 n9 c9,U vd] rfl _ rfl (by simp) w8 bR Y.o rfl (by simp[Value.oneCell']) (by omega) (by omega) (by omega) ?_;intro v9 w9 b4 b5 d3;obtain⟨a10,c10,e10,-⟩:=an b4.o;subst e10;have I:w8.grownBy w9 (Value.slice ao ko co).ownBlock:=d3.o;have F:=(fh.grown Y.o I) _ _ _ _ c4.o (by decide);have o9:=J0 F;have f9:w9.frozen? (pA k.1.size 0)=false:=(fZ F _);have b6:=(I.block z.1.size eq (λh=>Nat.lt_irrefl _ (b3.o _ h.symm))).trans c5.o;have g7:=J1 b6;have b7:=(b5.block w.1.size l5).trans er.o;have g8:=J1 b7;have J:Hid _:=F;clear F b6 b7)));have Q:Below k.1.size z (w9.setCell (pA k.1.size 0) (.slice a10 (K.length+1) c10)):=((H.mono ck).trans b5).setCell (p:=pA k.1.size 0) lE _;refine⟨⟨i+1,a10,K.length+1,c10,xs++[.slice a9 n9 c9,U vd],by omega,by go_num,?_,?_,?_,?_,P.trans Q⟩,by simp[intOf];omega⟩
      ·rw[l.o,oW,iO d1.o,Kj];rfl
      ·unfold Hid;rw[ap J.o];rfl
      ·unfold Hid;rw[l.o,Kj];exact jx b4.o J.o (by decide)
      unfold Hid;rw[l.o];exact(O.o.l Q (by omega)).append (Dj (r:=(cs,vd)) (bc.o _ Q) al.o)
     have hq:(ka==(i:Int))=false:=by simpa using bg
     have g9:Hid (∀x∈PL.take (j+1),(kP (f,d) (Cn x)==(i:Int))=false):=by
      intro x D;rw[KN,g4.o] at D
      rcases KB.1 D with h|h
      ·exact ej.o x h
      simp at h;subst h;rw[c2.o];exact hq
     clear bg;go_wp2_with fail;exact⟨⟨j+1,by omega,by trivial,by go_num,g9,c3⟩,by simp[intOf];omega⟩
    obtain rfl:j=N:=by omega
    have bk:gt (f,d) (i:Int)=false:=by
     rw[cf.o,Bool.eq_false_iff];intro h;rw[List.any_eq_true] at h;obtain⟨x,D,hk⟩:=h;have:=ej.o x (by rw[Ki (by rw[e5.o];omega)];exact D);rw[hk] at this
     cases this
    have l:Hid (bN (f,d) 0 (f.take (i+1))=K):=by unfold Hid;rw[cn.o,bk];simp
    have gb:Hid (wj.1[k.1.size]?=_):=(G.block k.1.size bs).trans HO.o;clear bk;go_wp2_with fail;refine⟨⟨i+1,ao,ko,co,xs,by omega,by go_num,by rw[l.o],gb,?_,?_,s⟩,by simp[intOf];omega⟩
    ·rw[l.o];exact aw E.o G
    rw[l.o];exact O.o.l G (by omega)
  obtain rfl:i=M:=by omega
  have et:f.take i=f:=Ki (by rw[a8.o];omega)
  rw[et] at E O bb |-
  have⟨K,hK⟩:=nM (bN (f,d) 0 f)
  rw[<-hK] at E O bb ds |-
  clear hK et;have d4:Hid (cF d K=K.take (cF d K).length):=oL d K;have d5:(cF d K).length<=K.length:=by have:=d4.o;rw[this,Kt];omega
  have⟨nd,ev⟩:=nM ((cF d K).length)
  rw[<-ev] at d4 d5 |-
  clear ev;obtain⟨a',c',e',gc,ha,-⟩:=an E.o;simp at e';obtain⟨rfl,rfl,rfl⟩:=e'
  have ew:Hid (∀u0 u1 u2,bD z.1.size (((z.setCell (pA k.1.size 0) u0).setCell (pA (w.1.size+1) 0) u1).setCell (pA (w.1.size+1) 1) u2) (.slice ao K.length co) K):=by
   intro u0 u1 u2;have ge:=(a1.o _ bv).2;have k1:=jx (o:=0) (u:=u0) E.o HO.o (by decide);have m1:(z.setCell (pA k.1.size 0) u0).1[w.1.size+1]?=_:=(Kc _ _ _ _ (by show w.1.size+1≠k.1.size;omega)).trans ge;have k2:=jx (o:=0) (u:=u1) k1 m1 (by decide);have k3:=jx (o:=1) (u:=u2) k2 (ap m1) (by decide);have e8:Below B z (((z.setCell (pA k.1.size 0) u0).setCell (pA (w.1.size+1) 0) u1).setCell (pA (w.1.size+1) 1) u2):=(((Kf B z).setCell (p:=pA k.1.size 0) (by show B<=k.1.size;omega) _).setCell (p:=pA (w.1.size+1) 0) (by show B<=w.1.size+1;omega) _).setCell (p:=pA (w.1.size+1) 1) (by show B<=w.1.size+1;omega) _;have⟨g,_,gj⟩:=C9 k3 (O.o.l e8 lE);have:=gj.rulesAt (by simp;omega)
   simpa using this
  have gk:Hid (∀b o:Nat,ao=some ⟨b,o,none⟩->w.1.size<=b):=λb o e=>by have:=eh E.o b (by rw[e];rfl);omega
  have q0:=J0 HO.o;have q1:=J1 HO.o;have q2:=fZ HO.o 0;obtain⟨b0,b1⟩:=a1.o _ bv;have r0:=J0 b1;have r1:=J1 b1;have f0:=fZ b1 0;have f1:=fZ b1 1;have es:¬w.1.size+1=k.1.size:=by omega
  have go:¬k.1.size=w.1.size+1:=by omega
  clear b0 b1 p0 p1;have ey:Hid (nd<=K.length):=d5;have j2:Hid (K.length=K.length):=rfl
  generalize c7:K.length=kl at d5 gc bb q0 HO |-
  have gp:Hid (K.length=kl):=c7;clear c7;go_wp2_with fail;refine Ka (v:=.tuple #[.agg #[.slice ao nd co,U d],U 0]) ?_ rfl ⟨_,by rw[e2.o],?_,λb o n c d h=>gk.o b o (by simp at h;exact h.1.1),?_⟩
  ·rw[K8 rfl];go_simp
  ·rw[ds.o];have hF:=ew.o (.slice ao nd co) (.slice ao nd co) (U d);refine⟨_,rfl,dk.o,?_⟩;have:=hF.take nd ey.o;rw[d4.o]
   simpa using this
  exact((bx.setCell (p:=pA k.1.size 0) (by show w.1.size<=k.1.size;omega) _).setCell (p:=pA (w.1.size+1) 0) (by show w.1.size<=w.1.size+1;omega) _).setCell (p:=pA (w.1.size+1) 1) (by show w.1.size<=w.1.size+1;omega) _
