import Derived.Test.YtjdnfhkkkejcfaaGreatDoorWd20
set_option linter.all false
set_option maxRecDepth 100000
set_option maxHeartbeats 8000000
namespace Go.Proofs.YtjdnfhkkkejcfaaGreatDoor
open Go.RowKit Go.Maps Go.Proofs.Tryz
theorem mp(p)(r:aq):∀ (l:List aq) (k:Nat),bN p k (l++[r])=bN p k l++if gt p ((k+l.length:Nat):Int) then [r] else []
 |[],k=>by show bN p k [r]=_;unfold bN;simp[bN]
 |s :: l,k=>by
  have a:=mp p r l (k+1);rw[show k+1+l.length=k+(s :: l).length by simp;omega] at a;show bN p k (s :: (l++[r]))=_;unfold bN
  split
  ·rw[a];rfl
  rw[a]
theorem oW(d)(r:aq):∀l:List aq,cF d (l++[r])=if r.2=d then cF d l else l++[r]
 |[]=>by
  show (if cF d []=[]/\r.2=d then [] else r :: cF d [])=_
  by_cases h:r.2=d<;>simp[h,cF]
 |s :: l=>by
  have a:=oW d r l;show (if cF d (l++[r])=[]/\s.2=d then [] else s :: cF d (l++[r]))=_;rw[a]
  by_cases h:r.2=d
  ·rw[Io h,Io h];rfl
  rw[iO h,iO h,iO (by simp)];rfl
theorem oL(d)(l:List aq):cF d l=l.take (cF d l).length:=by
 have⟨n,h⟩:=lX d l;rw[h,Kt]
 by_cases a:n<=l.length
 ·rw[MJ a]
 rw[Nat.min_eq_right (by omega),Ki (by omega),L6]
theorem Dj{B w a n c}{r:aq}(h:bG B w (.slice a n c) r.1)(e:wf r.2):lB B w [.slice a n c,U r.2] [r]:=by
 refine⟨rfl,λu d=>?_,λi s b=>?_⟩
 ·simp at d
  rcases d with rfl|rfl<;>rfl
 match i,b with
 |0,b=>
  simp at b;subst b;exact⟨_,rfl,rfl,e,h⟩
 |i+1,b=>simp at b
theorem bD.take{B w a n c rs}(h:bD B w (.slice a n c) rs)(m:Nat)(d:m<=rs.length):bD B w (.slice a m c) (rs.take m):=by
 obtain⟨j,k,e,l,f,g⟩:=h;simp at e;obtain⟨rfl,rfl,rfl⟩:=e;refine⟨a,c,by rw[Kt,MJ d],by rw[Kt];omega,f,λi r b=>?_⟩;rw[LO] at b
 split at b
 ·exact g i r b
 cases b
def iL(p:aD):aD:=if aT [p]=0 then j9 p else ([],0)
theorem Jg{w:World}{base a n:Nat}{e:TypeId}{v:Value}{xs:List Value}(h:w.ownsRow base e a v n xs):∀k,v.ownBlock=some k->k<w.1.size:=λk b=>by have⟨c,d⟩:=cX h k b;exact io d
def E8(L:Nat)(v:Value):Prop:=∀ (b o n c:Nat) (d:Value),v=.agg #[.slice (some ⟨b,o,none⟩) n c,d]->L<=b
theorem Cm(B pv p w)(hp:aX B w pv p)(hB:B<=w.1.size):
  cL 125 #[pv] w λe s=>∃rv,e=.returned (.tuple #[rv,U (aT [p])])/\aX s.1.size s rv (iL p)/\E8 w.1.size rv/\bL w s:=by
 obtain⟨hc,d6,da,dc,dd⟩:=jY;have HP:=Z λs (h:bL w s)=>hp.l h hB
 obtain⟨f,d⟩:=p;obtain⟨rv,e1,hd,de⟩:=hp;have df:=Z λs (h:bL w s)=>de.l h hB
 obtain⟨a,L,e3,hf,hh,-⟩:=de;simp only at e1 e3 hd;subst e3 e1;have di:=Z hd;clear hd;generalize dk:f.length=Q at*;have a6:=Z dk;clear dk;have hl:=ai;have⟨W2,S⟩:=nM ((w.alloc (.cells #[.slice a Q L,U d] 30)).alloc (.cells #[nL,U 0] 30));have dl:=sB S;have c7:=bB S
 have T:Hid (∀s,Below (w.1.size+2) W2 s->s.1[w.1.size]?=some (.cells #[.slice a Q L,U d] 30 (0,0))/\s.1[w.1.size+1]?=some (.cells #[nL,U 0] 30 (0,0))):=by
  intro s h;have e0:W2.1[w.1.size]?=some (.cells #[.slice a Q L,U d] 30 (0,0)):=by rw[S,Kq _ _ _ (by simp)];exact ah _ _
  have e1:W2.1[w.1.size+1]?=some (.cells #[nL,U 0] 30 (0,0)):=by rw[S];have:=ah (w.alloc (.cells #[.slice a Q L,U d] 30)) (.cells #[nL,U 0] 30);rw[Kg] at this;exact this
  exact⟨h.bk e0,h.bk e1⟩
 have dn:=AT (p:=(f,d)) (c7.u hB) (df.o _ c7) di.o 30;have c8:=sH _ _ _ _ dn (by simp) (by simp);rw[dl] at c8;have a7:Hid _:=c8;have dp:Below (w.1.size+2) W2 (W2.alloc (.cells #[.slice a Q L,U d] 30)):=bR.alloc (by omega) _;have ca:(W2.alloc (.cells #[.slice a Q L,U d] 30)).1.size=w.1.size+3:=by simp[dl]
 clear c8 dn;go_enter func125,ntmps125;go_wp2_with fail;rw[<-S];clear S;go_at_call 146;refine Calls.mono a7.o ?_;rintro e k ⟨v5,rfl,t,a8⟩
 try unfold bL at a8
 rw[ca] at a8 t;have A:Below (w.1.size+2) W2 k:=Mj dp (a8.mono (by omega));have aa:bL w k:=c7.trans (A.mono (by omega));have f4:=a8.size;rw[ca] at f4;have l5:w.1.size<k.1.size:=by omega
 have l6:w.1.size+1<k.1.size:=by omega
 obtain⟨a5,gv,rfl,f5,gz,b8⟩:=an t
 by_cases C:aT [(f,d)]=0
 case neg=>
  have HE:Hid (iL (f,d)=([],0)):=by unfold Hid iL;rw[iO C]
  have hq:(aT [(f,d)] != 0)=true:=by simpa using C
  have⟨pe,ac⟩:=nM (aT [(f,d)])
  rw[<-ac] at hq |-
  have dq:=Z ac.symm;clear C ac t b8 a7;obtain⟨b0,V⟩:=T.o _ A;have r0:=J0 V;have r1:=J1 V;have f0:=fZ V 0;have f1:=fZ V 1;clear b0 V;go_wp2_with fail;refine Ka (v:=.tuple #[.agg #[nL,U 0],U pe]) ?_ rfl ⟨_,by rw[dq.o],?_,λb o n c d h=>by simp at h,?_⟩
  ·rw[K8 rfl];go_simp
  ·rw[HE.o];exact⟨_,rfl,L4 (by simp only[];omega),none,0,rfl,Ke _,Ks _,λi r h=>by simp at h⟩
  repeat(first|exact aa|refine Ky ?_ (by simp) _)
 have dr:Hid (iL (f,d)=(cF d (bN (f,d) 0 f),d)):=by unfold Hid iL;rw[Io C];rfl
 have cb:gn [(f,d)]:=(kM.1 C).1;have cc:aj (f,d)=0:=cb _ (by simp);have bo:Hid (aj (f,d)=0):=cc;have fb:Q<=120:=by rw[<-a6.o];exact(cY cc).1
 have ae:bj [(f,d)]=dG [(f,d)]:=by rw[bj,Io C]
 have H5:Hid (∀x∈bj [(f,d)],∃a b c d e,x=[a,b,c,d,e]):=λx D=>rg D
 have ds:Hid (∀x∈bj [(f,d)],eC (Cn x)=0):=by
  intro x D;rw[ae] at D;obtain⟨y,rfl,hy,_⟩:=uo cb D;have:eC (Cn (iQ y))=eC y:=by unfold eC;rw[fF y 0 (by omega),fF y 1 (by omega),fF y 2 (by omega),fF y 3 (by omega),fF y 4 (by omega)]
  rw[this];exact hy
 have cd:Hid (∀i:Int,gt (f,d) i=(bj [(f,d)]).any λx=>kP (f,d) (Cn x)==i):=λi=>by rw[ae];rfl
 have dv:=Z C;rw[C];have⟨PL,e2⟩:=nM (bj [(f,d)])
 rw[<-e2] at t f5 b8 H5 ds cd |-
 clear ae e2 cb cc C;have fd:Hid (∀ (i:Nat) (W Y x2 x3 x4:Int),PL[i]?=some [W,Y,x2,x3,x4]->∃g,a5=some (pA g 0)/\g<k.1.size/\k.cell? ⟨g,i*5,none⟩=some (U W)/\k.cell? ⟨g,i*5+1,none⟩=some (U Y)/\k.cell? ⟨g,i*5+2,none⟩=some (U x2)/\k.cell? ⟨g,i*5+3,none⟩=some (U x3)/\k.cell? ⟨g,i*5+4,none⟩=some (U x4)):=by intro i W Y x2 x3 x4 D;have hi:=(K9.1 D).1;obtain⟨g,rfl,_,hg⟩:=b8 (by omega);have⟨h0,h1,h2,h3,h4⟩:=mw PL H5.o i W Y x2 x3 x4 D;exact⟨g,rfl,hg,aK t _ _ h0,aK t _ _ h1,aK t _ _ h2,aK t _ _ h3,aK t _ _ h4⟩
 clear t b8 a8 a7 dp ca;generalize hN:PL.length=N at*;have e4:=Z hN;clear hN;obtain⟨b0,V⟩:=T.o _ A;have p0:=J0 b0;have p1:=J1 b0;clear b0 V;have fe:Hid ((k.alloc (.cells #[nL,U d] 30)).1[k.1.size]?=some (.cells #[nL,U d] 30 (0,0))):=ah _ _;have fi:Hid (∀X,bL k (k.alloc X)):=λX=>bR.alloc lE _
 go_wp2_with fail;go_loopw [7,30] (λnv iv wr=>∃ (i:Nat) (ao:Option Addr) (ko co:Nat) (xs:List Value),i<=Q/\iv=U i/\nv=U ((cF d (bN (f,d) 0 (f.take i))).length:Int)/\Hid (wr.1[k.1.size]?=some (.cells #[.slice ao ko co,U d] 30 (0,0)))/\Hid (wr.ownsRow k.1.size 131 2 (.slice ao ko co) (bN (f,d) 0 (f.take i)).length xs)/\Hid (lB B wr xs (bN (f,d) 0 (f.take i)))/\bL k wr) (λ_ iv _=>Q-(intOf iv).toNat)
 case atStart=>exact⟨0,none,0,0,[],by omega,rfl,rfl,fe,⟨rfl,.inl ⟨rfl,rfl⟩⟩,⟨rfl,(λu hu=>by cases hu),(λi r hr=>by simp[bN] at hr)⟩,fi.o _⟩
 case round=>
  obtain⟨i,ao,ko,co,xs,hi,rfl,rfl,HO,E,M,O⟩:=hrel;have⟨z,fo⟩:=nM (wr);subst fo;have i0:(0:Int)<=(i:Int):=by omega
  have cf:=O.size;have br:=io HO.o;have bs:Below (w.1.size+2) W2 z:=A.trans (O.mono (by omega));have bv:bL w z:=aa.trans (O.mono (by omega));have b9:(bN (f,d) 0 (f.take i)).length<=Q:=by have:=kD (f,d) (f.take i) 0;rw[Kt,a6.o] at this;omega
  by_cases hP:i<Q
  ·have i1:(i:Int)<(Q:Int):=by omega
   obtain⟨r,ci⟩:∃r,f[i]?=some r:=⟨f[i]'(by rw[a6.o];omega),by simp⟩;have fp:=Z (by rw[KN,ci];rfl:f.take (i+1)=f.take i++[r]);have e5:(f.take i).length=i:=by rw[Kt,a6.o];omega
   have ck:Hid (bN (f,d) 0 (f.take (i+1))=bN (f,d) 0 (f.take i)++if gt (f,d) (i:Int) then [r] else []):=by unfold Hid;rw[fp.o,mp,e5,Kp]
   obtain⟨_,_,e1,-,-,e6⟩:=df.o _ bv;have⟨b,o,e,e7,cv,k0,k1,e8,e9⟩:=e6 i r ci;simp at e1;obtain⟨rfl,-,-⟩:=e1;subst e;clear e6 e5 ci;have ba:Hid (∀s,Below k.1.size z s->bG B s cv r.1):=λs h=>e9.l h (by omega)
   obtain⟨a9,c9,fr,-⟩:=e9;subst fr;have ak:=Z e8;obtain⟨cs,vd⟩:=r;simp only[] at k0 k1 ba ak;have⟨n9,ed⟩:=nM (cs.length);rw[<-ed] at k0 ba;clear ed e8;have⟨K,hK⟩:=nM (bN (f,d) 0 (f.take i))
   rw[<-hK] at ck E M b9 |-
   clear hK;have⟨W7,bb⟩:=nM (z.alloc (.cells #[.slice a9 n9 c9,U vd] 131));have fv:=bA bb;have ef:=Z (hA bb);have fx:z.1.size<W7.1.size:=io ef.o;go_wp2_with fail;rw[<-bb];clear bb;go_loopw [7,37] (λnv jv wr=>∃j:Nat,j<=N/\nv=U ((cF d K).length:Int)/\jv=U j/\Hid (∀x∈PL.take j,(kP (f,d) (Cn x)==(i:Int))=false)/\bL W7 wr) (λ_ jv _=>N-(intOf jv).toNat)
   case atStart=>exact⟨0,by omega,rfl,rfl,λx D=>by simp at D,Kf _ _⟩
   case round=>
    obtain⟨j,hj,rfl,rfl,eg,cl⟩:=hrel;have⟨wj,g2⟩:=nM (wr);subst g2;have j0:(0:Int)<=(j:Int):=by omega
    have g3:=cl.size;have G:bL z wj:=fv.th cl;have m:bL k wj:=O.trans (G.mono (by omega))
    by_cases hR:j<N
    ·have j1:(j:Int)<(N:Int):=by omega
     obtain⟨x,D⟩:∃x,PL[j]?=some x:=⟨PL[j]'(by rw[e4.o];omega),by simp⟩;have bc:=Kb D;obtain⟨W,Y,x2,x3,x4,rfl⟩:=H5.o x bc;have bx:eC (oz W Y x2 x3 x4)=0:=ds.o _ bc;obtain⟨g,rfl,av,z0,z1,z2,z3,z4⟩:=fd.o j W Y x2 x3 x4 D;have y0:=(m.cell (p:=⟨g,j*5,none⟩) av).trans z0;have y1:=(m.cell (p:=⟨g,j*5+1,none⟩) av).trans z1;have y2:=(m.cell (p:=⟨g,j*5+2,none⟩) av).trans z2;have y3:=(m.cell (p:=⟨g,j*5+3,none⟩) av).trans z3;have y4:=(m.cell (p:=⟨g,j*5+4,none⟩) av).trans z4;have g4:=Z D;have ej:Hid ([W,Y,x2,x3,x4]∈PL):=bc;have⟨ka,cp⟩:=nM (kP (f,d) (oz W Y x2 x3 x4));have bz:Hid (kP (f,d) (Cn [W,Y,x2,x3,x4])=ka):=cp.symm;have g5:Hid (∀s,bL w s->cL 147 #[.agg #[.slice (some ⟨b,o,none⟩) Q L,U d],.agg #[U W,U Y,U x2,U x3,U x4]] s λe ek=>∃v,e=.returned (.tuple #[U v,U ka])/\bL s ek):=by intro s h;refine(rm B _ _ (oz W Y x2 x3 x4) s (HP.o s h) (h.u hB) bo.o).mono ?_;rintro e ek ⟨rfl,hb⟩;refine⟨(cP (f,d) (aR (bu (oz W Y x2 x3 x4)) 0 f)).1,?_,hb⟩;rw[cp,JA bo.o bx]
     have l0:w.1.size<wj.1.size:=by omega
     have el:bL w wj:=aa.trans (m.mono (by omega));obtain⟨b0,_⟩:=T.o _ (A.trans (m.mono (by omega)));have c0:=J0 b0;have c1:=J1 b0;have cx:∀X,bL wj (wj.alloc X):=λX=>bR.alloc lE _
     clear b0 z0 z1 z2 z3 z4 D bc cp bx p0 p1;go_wp2_with fail;go_at_call 147;refine Calls.mono (g5.o _ (el.th (cx _))) ?_;rintro e w8 ⟨va,rfl,em⟩;have b2:bL wj w8:=Below.tO (cx _) em (by simp);have H:bL z w8:=G.th b2;have bF:bL W7 w8:=Below.tO cl b2 g3;have i2:=b2.size;clear y0 y1 y2 y3 y4 c0 c1 em cx
     by_cases bf:ka=(i:Int)
     ·have bg:Hid (gt (f,d) (i:Int)=true):=by unfold Hid;rw[cd.o,List.any_eq_true];exact⟨_,ej.o,by rw[bz.o,bf];simp⟩
      have l:Hid (bN (f,d) 0 (f.take (i+1))=K++[(cs,vd)]):=by unfold Hid;rw[ck.o,Io bg.o]
      subst bf;have cT:=(H.block k.1.size br).trans HO.o;have bk:=(bF.block z.1.size fx).trans ef.o;have R:=Z (aw E.o H);have o0:=J0 cT;have g0:=J0 bk;have g1:=J1 bk;have c2:Hid _:=cT;have c3:Hid _:=bk;have h7:k.1.size≠z.1.size:=by omega
      clear cT bk;have c4:∀q,(Value.slice ao ko co).ownBlock=some q->q<z.1.size:=Jg E.o;have b3:Hid _:=c4;clear c4;have en:z.1.size<w8.1.size:=by omega
      have eq:Hid (w8.1[w.1.size]?=_):=(T.o _ (A.trans ((O.trans (H.mono cf)).mono (by omega)))).1;have er:w.1.size≠k.1.size:=by omega
      by_cases a3:vd=d
      ·have g6:(vd != d)=false:=by simpa using a3
       have d0:=Z a3;clear a3;go_wp2_with (first|(at_builtin;go_must (refine ir _ rfl _ _ rfl Tryz.underlying28 d6 da dc dd rfl (by decide) k.1.size _ _ _ rfl _ 1 [.slice a9 n9 c9,U vd] rfl _ rfl (by simp) w8 bR R.o rfl (by simp[Value.oneCell']) (by omega) (by omega) (by omega) ?_;intro v9 w9 b4 b5 d2;obtain⟨a10,c10,e10,-⟩:=an b4.o;subst e10;have I:w8.grownBy w9 (Value.slice ao ko co).ownBlock:=d2.o;have F:=(fh.grown R.o I) _ _ _ _ c2.o (by decide);have o9:=J0 F;have f9:w9.frozen? (pA k.1.size 0)=false:=(fZ F _);have b6:=(I.block z.1.size en (λh=>Nat.lt_irrefl _ (b3.o _ h.symm))).trans c3.o;have g7:=J1 b6;have b7:=(b5.block w.1.size l5).trans eq.o;have g8:=J1 b7;have J:Hid _:=F;clear F b6 b7)));have P:Below k.1.size z (w9.setCell (pA k.1.size 0) (.slice a10 (K.length+1) c10)):=((H.mono cf).trans b5).setCell (p:=pA k.1.size 0) lE _;refine⟨⟨i+1,a10,K.length+1,c10,xs++[.slice a9 n9 c9,U vd],by omega,by go_num,?_,?_,?_,?_,O.trans P⟩,by simp[intOf];omega⟩
       ·rw[l.o,oW,Io d0.o]
       ·unfold Hid;rw[ap J.o];rfl
       ·unfold Hid;rw[l.o,Kj];exact jx b4.o J.o (by decide)
       unfold Hid;rw[l.o];exact(M.o.l P (by omega)).append (Dj (r:=(cs,vd)) (ba.o _ P) ak.o)
      have g6:(vd != d)=true:=by simpa using a3
      have d0:=Z a3;clear a3;go_wp2_with (first|(at_builtin;go_must (refine ir _ rfl _ _ rfl Tryz.underlying28 d6 da dc dd rfl (by decide) k.1.size _ _ _ rfl _ 1 [.slice a9 n9 c9,U vd] rfl _ rfl (by simp) w8 bR R.o rfl (by simp[Value.oneCell']) (by omega) (by omega) (by omega) ?_;intro v9 w9 b4 b5 d2;obtain⟨a10,c10,e10,-⟩:=an b4.o;subst e10;have I:w8.grownBy w9 (Value.slice ao ko co).ownBlock:=d2.o;have F:=(fh.grown R.o I) _ _ _ _ c2.o (by decide);have o9:=J0 F;have f9:w9.frozen? (pA k.1.size 0)=false:=(fZ F _);have b6:=(I.block z.1.size en (λh=>Nat.lt_irrefl _ (b3.o _ h.symm))).trans c3.o;have g7:=J1 b6;have b7:=(b5.block w.1.size l5).trans eq.o;have g8:=J1 b7;have J:Hid _:=F;clear F b6 b7)));have P:Below k.1.size z (w9.setCell (pA k.1.size 0) (.slice a10 (K.length+1) c10)):=((H.mono cf).trans b5).setCell (p:=pA k.1.size 0) lE _;refine⟨⟨i+1,a10,K.length+1,c10,xs++[.slice a9 n9 c9,U vd],by omega,by go_num,?_,?_,?_,?_,O.trans P⟩,by simp[intOf];omega⟩
      ·rw[l.o,oW,iO d0.o,Kj];rfl
      ·unfold Hid;rw[ap J.o];rfl
      ·unfold Hid;rw[l.o,Kj];exact jx b4.o J.o (by decide)
      unfold Hid;rw[l.o];exact(M.o.l P (by omega)).append (Dj (r:=(cs,vd)) (ba.o _ P) ak.o)
     have hq:(ka==(i:Int))=false:=by simpa using bf
     have g9:Hid (∀x∈PL.take (j+1),(kP (f,d) (Cn x)==(i:Int))=false):=by
      intro x D;rw[KN,g4.o] at D
      rcases KB.1 D with h|h
      ·exact eg.o x h
      simp at h;subst h;rw[bz.o];exact hq
     clear bf;go_wp2_with fail;exact⟨⟨j+1,by omega,by trivial,by go_num,g9,bF⟩,by simp[intOf];omega⟩
    obtain rfl:j=N:=by omega
    have bg:gt (f,d) (i:Int)=false:=by
     rw[cd.o,Bool.eq_false_iff];intro h;rw[List.any_eq_true] at h;obtain⟨x,D,hk⟩:=h;have:=eg.o x (by rw[Ki (by rw[e4.o];omega)];exact D);rw[hk] at this
     cases this
    have l:Hid (bN (f,d) 0 (f.take (i+1))=K):=by unfold Hid;rw[ck.o,bg];simp
    have gb:=Z ((G.block k.1.size br).trans HO.o);clear bg;go_wp2_with fail;refine⟨⟨i+1,ao,ko,co,xs,by omega,by go_num,by rw[l.o],gb,?_,?_,m⟩,by simp[intOf];omega⟩
    ·rw[l.o];exact aw E.o G
    rw[l.o];exact M.o.l G (by omega)
  obtain rfl:i=Q:=by omega
  have es:f.take i=f:=Ki (by rw[a6.o];omega)
  rw[es] at E M b9 |-
  have⟨K,hK⟩:=nM (bN (f,d) 0 f)
  rw[<-hK] at E M b9 dr |-
  clear hK es;have d3:=Z (oL d K);have d4:(cF d K).length<=K.length:=by have:=d3.o;rw[this,Kt];omega
  have⟨nd,et⟩:=nM ((cF d K).length)
  rw[<-et] at d3 d4 |-
  clear et;obtain⟨a',c',e',gc,h9,-⟩:=an E.o;simp at e';obtain⟨rfl,rfl,rfl⟩:=e'
  have eu:Hid (∀u0 u1 u2,bD z.1.size (((z.setCell (pA k.1.size 0) u0).setCell (pA (w.1.size+1) 0) u1).setCell (pA (w.1.size+1) 1) u2) (.slice ao K.length co) K):=by
   intro u0 u1 u2;have ge:=(T.o _ bs).2;have k1:=jx (o:=0) (u:=u0) E.o HO.o (by decide);have m1:(z.setCell (pA k.1.size 0) u0).1[w.1.size+1]?=_:=(Kc _ _ _ _ (by show w.1.size+1≠k.1.size;omega)).trans ge;have k2:=jx (o:=0) (u:=u1) k1 m1 (by decide);have k3:=jx (o:=1) (u:=u2) k2 (ap m1) (by decide);have e7:Below B z (((z.setCell (pA k.1.size 0) u0).setCell (pA (w.1.size+1) 0) u1).setCell (pA (w.1.size+1) 1) u2):=(((Kf B z).setCell (p:=pA k.1.size 0) (by show B<=k.1.size;omega) _).setCell (p:=pA (w.1.size+1) 0) (by show B<=w.1.size+1;omega) _).setCell (p:=pA (w.1.size+1) 1) (by show B<=w.1.size+1;omega) _;have⟨g,_,gj⟩:=C9 k3 (M.o.l e7 lE);have:=gj.rulesAt (by simp;omega)
   simpa using this
  have gk:Hid (∀b o:Nat,ao=some ⟨b,o,none⟩->w.1.size<=b):=λb o e=>by have:=eh E.o b (by rw[e];rfl);omega
  have q0:=J0 HO.o;have q1:=J1 HO.o;have q2:=fZ HO.o 0;obtain⟨b0,V⟩:=T.o _ bs;have r0:=J0 V;have r1:=J1 V;have f0:=fZ V 0;have f1:=fZ V 1;have er:¬w.1.size+1=k.1.size:=by omega
  have go:¬k.1.size=w.1.size+1:=by omega
  clear b0 V p0 p1;have ew:=Z d4;have j2:Hid (K.length=K.length):=rfl
  generalize c5:K.length=kl at d4 gc b9 q0 HO |-
  have gp:=Z c5;clear c5;go_wp2_with fail;refine Ka (v:=.tuple #[.agg #[.slice ao nd co,U d],U 0]) ?_ rfl ⟨_,by rw[dv.o],?_,λb o n c d h=>gk.o b o (by simp at h;exact h.1.1),?_⟩
  ·rw[K8 rfl];go_simp
  ·rw[dr.o];have hF:=eu.o (.slice ao nd co) (.slice ao nd co) (U d);refine⟨_,rfl,di.o,?_⟩;have:=hF.take nd ew.o;rw[d3.o]
   simpa using this
  exact((bv.setCell (p:=pA k.1.size 0) (by show w.1.size<=k.1.size;omega) _).setCell (p:=pA (w.1.size+1) 0) (by show w.1.size<=w.1.size+1;omega) _).setCell (p:=pA (w.1.size+1) 1) (by show w.1.size<=w.1.size+1;omega) _
theorem Gj{exc}{p q:aD}(h:eJ exc p q=0):aj p=0/\aj q=0/\aj (gI exc p q)=0:=by
 unfold eJ at h
 split at h
 ·rename_i a;exact⟨(oY a).1,(oY a).2,h⟩
 rename_i a;exact absurd h a
abbrev ie:=List (List cO)
def dK:ie->Int
 |[]=>0
 |f :: r=>if aV f=0 then dK r else aV f
def bl(a:ie):Int:=if 6<a.length then 2 else dK a
theorem us:∀ {b:ie},dK b=0 ↔ ∀f∈b,aV f=0
 |[]=>by simp[dK]
 |f :: r=>by
  unfold dK
  by_cases h:aV f=0
  ·rw[Io h,us];simp[h]
  rw[iO h];constructor
  ·intro a;exact absurd a h
  intro a;exact absurd (a f (by simp)) h
theorem qn(a:ie)(k:Nat)(f:List cO)(h:a[k]?=some f):dK (a.drop k)=if aV f=0 then dK (a.drop (k+1)) else aV f:=by obtain⟨b,rfl⟩:=K9.1 h;rw[KM b];rfl
theorem fA{b:ie}:bl b=0 ↔ b.length<=6/\∀f∈b,aV f=0:=by
 unfold bl
 by_cases h:6<b.length
 ·rw[Io h];constructor
  ·intro a;omega
  intro a;omega
 rw[iO h,us];constructor
 ·intro a;exact⟨by omega,a⟩
 exact λa=>a.2
def fB(x:Nat->Int)(v:Int)(a:ie):Int:=a.foldl (λv f=>if (dJ x 0 0 f).1<v then (dJ x 0 0 f).1 else v) v
theorem ES(x:Nat->Int)(v)(a:ie)(f:List cO):fB x v (a++[f])=if (dJ x 0 0 f).1<fB x v a then (dJ x 0 0 f).1 else fB x v a:=by unfold fB;rw[Mu];rfl
theorem nu(x:Nat->Int):∀ (d:ie) (v:Int),fB x v d<=v/\(∀f∈d,fB x v d<=(dJ x 0 0 f).1)/\(fB x v d=v\/∃f∈d,fB x v d=(dJ x 0 0 f).1)
 |[],v=>⟨LH _,by simp,.inl rfl⟩
 |f :: r,v=>by
  have e:fB x v (f :: r)=fB x (if (dJ x 0 0 f).1<v then (dJ x 0 0 f).1 else v) r:=rfl;have j:=nu x r (if (dJ x 0 0 f).1<v then (dJ x 0 0 f).1 else v);rw[e];obtain⟨i,h,a⟩:=j
  split at i
  ·rename_i c
   rw[Io c] at h a |-
   refine⟨by omega,?_,?_⟩
   ·intro g b
    rcases Kz.1 b with rfl|b
    ·exact i
    exact h g b
   rcases a with a|⟨g,b,a⟩
   ·exact .inr ⟨f,by simp,a⟩
   exact .inr ⟨g,by simp[b],a⟩
  rename_i c
  rw[iO c] at h a |-
  refine⟨i,?_,?_⟩
  ·intro g b
   rcases Kz.1 b with rfl|b
   ·omega
   exact h g b
  rcases a with a|⟨g,b,a⟩
  ·exact .inl a
  exact .inr ⟨g,by simp[b],a⟩
theorem Fc(x:Nat->Int)(l m:ie)(v):fB x v (l++m)=min (fB x v l) (fB x v m):=by
 have⟨j,g,b⟩:=nu x l v;have⟨k,i,c⟩:=nu x m v;have⟨n,e,d⟩:=nu x (l++m) v
 have o:fB x v (l++m)<=fB x v l:=by
  rcases b with b|⟨f,a,b⟩
  ·omega
  rw[b];exact e f (by simp[a])
 have p:fB x v (l++m)<=fB x v m:=by
  rcases c with c|⟨f,a,c⟩
  ·omega
  rw[c];exact e f (by simp[a])
 have q:min (fB x v l) (fB x v m)<=fB x v (l++m):=by
  rcases d with d|⟨f,a,d⟩
  ·omega
  rcases KB.1 a with h|h
  ·have:=g f h;omega
  have:=i f h;omega
 omega
def mQ(a:ie)(x:Nat->Int):Int:=if bl a=0 then eC x else bl a
def t6(a:ie)(x:Nat->Int):Int:=if mQ a x=0 then fB x 4 a else 0
def fQ(p q:aD):Int:=if aT [q,p]=0 then (if (dN q p).isSome then 7 else if eJ true q p=0 then aT [eI true q p] else eJ true q p) else aT [q,p]
def fE(p q:aD):aD:=if fQ p q=0 then j9 (eI true q p) else ([],0)
def dm(a:ie)(p q:aD):Int:=if bl a=0 then (if fQ p q=0 then (if a.length=6 then 2 else cB (fE p q)) else fQ p q) else bl a
def dt(a:ie)(p q:aD):ie:=if dm a p q=0 then a++[cm (fE p q)] else []
theorem Cf{p q:aD}(h:fQ p q=0):aT [q,p]=0/\dN q p=none/\eJ true q p=0/\aT [eI true q p]=0/\fE p q=j9 (eI true q p)/\aj p=0/\aj q=0/\aj (eI true q p)=0/\aj (fE p q)=0:=by
 have d:fE p q=j9 (eI true q p):=by rw[fE,Io h]
 unfold fQ at h
 split at h
 ·rename_i c
  split at h
  ·cases h
  rename_i e
  split at h
  ·rename_i a
   have f:dN q p=none:=by
    cases hl:dN q p with
    |none=>rfl
    |some y=>rw[hl] at e;simp at e
   have⟨g,i,j⟩:=Gj a;have b:aj (eI true q p)=0:=by rw[eI,Io a];exact j
   exact⟨c,f,a,h,d,i,g,b,by rw[d];exact yK b⟩
  rename_i a;exact absurd h a
 rename_i c;exact absurd h c
theorem Dv{p q:aD}(h:fQ p q=0){x:Nat->Int}(a:eC x=0):vP q x<=vP p x/\vP (fE p q) x=if vP q x<vP p x then vP q x else 4:=by
 have⟨c,d,f,k,g,i,j,b,l⟩:=Cf h;refine⟨BZ c d a,?_⟩;have e:eI true q p=gI true q p:=by rw[eI,Io f]
 rw[g,H8 b a,e,IH true j i (by rw[<-e];exact b) a];rfl
theorem GV{p:aD}(c:aj p=0){x:Nat->Int}(e:eC x=0):0<=vP p x/\vP p x<=4:=by
 have:=B9 c e;have f:vP p x=(dJ x 0 0 (cm p)).1:=this.symm
 have g:∀ (d:Int) (a:List aq),(0<=d/\d<=4)->(∀r∈a,bH r=0)->0<=Ad x d a/\Ad x d a<=4:=by
  intro d a h b
  induction a with
  |nil=>exact h
  |cons r s i=>
   unfold Ad
   split
   ·exact jk (dy (b r (by simp))).2.1
   exact i λt j=>b t (by simp[j])
 rw[f];unfold cm;rw[rh];exact g _ _ (jk (cY c).2.1) (cM (cY c).2.2)
section
open Go.ChangeShapes Go.WideShapes Go.ChangeAt Go.Deep
def cD(B:Nat)(w:World)(v:Value)(d:ie):Prop:=
 ∃a c,v=.slice a d.length c/\d.length<=c/\c<=maxLen/\∀ (i:Nat) f,d[i]?=some f->∃b o e,a=some ⟨b,o,none⟩/\b<B/\w.cell? ⟨b,o+i,none⟩=some e/\dR B w e f
theorem cD.l{B B' w w' v ls}(h:cD B w v ls)(d:Below B' w w')(g:B<=B'):cD B w' v ls:=by obtain⟨a,c,j,l,m,n⟩:=h;refine⟨a,c,j,l,m,λi f q=>?_⟩;have⟨b,o,r,e,s,k,t⟩:=n i f q;exact⟨b,o,r,e,s,(d.cell (p:=⟨b,o+i,none⟩) (by show b<B';omega)).trans k,t.l d g⟩
theorem cD.mono{B d:Nat}{w v ls}(h:cD B w v ls)(g:B<=d):cD d w v ls:=by obtain⟨a,c,j,l,m,n⟩:=h;refine⟨a,c,j,l,m,λi f p=>?_⟩;have⟨b,o,q,e,s,k,r⟩:=n i f p;exact⟨b,o,q,e,by omega,k,r.mono g⟩
theorem cD.shape{B w v ls}(h:cD B w v ls):∃a b,v=.slice a ls.length b/\ls.length<=b/\b<=maxLen:=by obtain⟨a,b,c,d,e,-⟩:=h;exact⟨a,b,c,d,e⟩
theorem kJ(B w):cD B w nL []:=⟨none,0,rfl,Ke _,by rw[ai];omega,λi c h=>by simp at h⟩
theorem cD.take{B w a n c ls}(h:cD B w (.slice a n c) ls)(m:Nat)(k:m<=ls.length):cD B w (.slice a m c) (ls.take m):=by
 obtain⟨l,e,d,o,g,j⟩:=h;simp at d;obtain⟨rfl,rfl,rfl⟩:=d;refine⟨a,c,by simp;omega,by simp;omega,g,λi f b=>?_⟩
 exact j i f (by
  rw[LO] at b
  split at b
  ·exact b
  cases b)
theorem EM{H:Type}{r:TypeId × Value->H}{W:World}{base:Nat}{K:Nat->Bool}{j:Bool}{k:Nat}{cv:Value}{x:DataW H × List MemPlace}(h:DataW.trod r prog W base K j k 44 [cv]=some x):∃s,cD W.1.size W cv s:=by
 rcases open_slice Tryz.underlying44 h with ⟨l,_⟩|⟨a,e,t,m,n,D,Q,l,_,R,L,u,_,w⟩
 ·simp at l;subst l;exact⟨[],none,0,rfl,Ke _,Ks _,λi c y=>by simp at y⟩
 simp at l;subst l;have M:prog.cellsOf 77=1:=by kernel_rfl
 rw[M] at w;have N:e<=m:=by rw[u];split<;>omega
 have o:∀i,i<e->∃f:List cO,a=⟨a.block,a.off,none⟩/\a.block<W.1.size/\∃p,W.cell? ⟨a.block,a.off+i,none⟩=some p/\dR W.1.size W p f:=by
  intro i I
  have z:W.cell? (a.add 0)≠none:=by
   obtain⟨g,A,_⟩:=w 0 (by omega);have⟨_,d,b⟩:=Lh A;have:=b 0 (by omega);rw[add_add] at this;simp at this
   match g,d with
   |[J],_=>simp at this |-;rw[this];simp
  have⟨v,O⟩:=Lp.1 z;have⟨q,B⟩:=iX O;obtain⟨g,A,P⟩:=w i (by omega);have⟨_,d,b⟩:=Lh A
  match g,d with
  |[J],_=>
   have⟨f,C⟩:=Fz P;have E:=b 0 (by omega);rw[add_add,q,eM] at E;simp at E;exact⟨f,q,B,J,E,C⟩
 obtain⟨s,F,G⟩:=iU _ e o;refine⟨s,some a,t,by rw[F],by omega,L,λi f C=>?_⟩;have⟨q,B,p,y,I⟩:=G i f C;exact⟨a.block,a.off,p,by rw[<-q],B,y,I⟩
end
theorem JC(d:Nat)(a b c e a2 b2 c2 e2)(w:World):(Op.equalIn (d+3) 112 (.agg #[U a,U b,U c,U e]) (.agg #[U a2,U b2,U c2,U e2])).run prog w=.ok (decide (((a,b,c,e):cO)=(a2,b2,c2,e2))) w:=by
 have l:=underlying3;have m:=Tryz.isAgg3;have n:=Tryz.sizeOf3;have f:prog.underlying 112=some (.struct (prog.fieldsOf 112)):=by kernel_rfl
 have g:prog.stoodInHeld 112=false:=by kernel_rfl
 rw[run_equalIn_agg w (d+2) 112 _ _ f g];simp only[Program.fieldsOf,Tryz.underlying112];go_simp
 by_cases h:a=a2<;>by_cases i:b=b2<;>by_cases j:c=c2<;>by_cases k:e=e2<;>simp[h,i,j,k]
theorem IW(a b c e a2 b2 c2 e2)(w:World):(binOp .neq 112 (.agg #[U a,U b,U c,U e]) (.agg #[U a2,U b2,U c2,U e2])).run prog w=.ok (.bool (!decide (((a,b,c,e):cO)=(a2,b2,c2,e2)))) w:=by rw[run_neq_struct,show (10000:Nat)=9997+3 from rfl,JC];rfl
theorem Hs(a:BinOp)(x y:Operand)(xs ys:Array Value)(w:World):(eqGuard a 112 x y (.agg xs) (.agg ys)).run prog w=.ok () w:=run_eqGuard_agg _ _ _ _ _ _ _ (by kernel_rfl)
theorem pE{c:Array Oper}{C:World->Prop}{Q:Act->Prop}{a:Act}{o:Oper}{b:List Oper}(x y:Operand)(t:TypeId)(iY:o.op=.binOp .neq 112 x y t)(d:Region.wanted o (yielded c a.tmps)=true)
  (f op v u f2 op2 v2 u2) (g:a.eval x=.agg #[U f,U op,U v,U u]) (i:a.eval y=.agg #[U f2,U op2,U v2,U u2])
  (q:Bool) (j:(!decide (((f,op,v,u):cO)=(f2,op2,v2,u2)))=q) (h:wpQuiet prog c C Q b (a.put o.dst (.bool q))):wpQuiet prog c C Q (o :: b) a:=by
 subst j
 refine BigFrame.wpQuiet_want d λK k=>⟨_,λw _=>?_,k _ h⟩
 unfold Oper.quietAt execOp;rw[iY];simp only[g,i];have e:((do eqGuard .neq 112 x y (.agg #[U f,U op,U v,U u]) (.agg #[U f2,U op2,U v2,U u2]);binOp .neq 112 (.agg #[U f,U op,U v,U u]) (.agg #[U f2,U op2,U v2,U u2])):Sem Value).run prog w=.ok (.bool (!decide (((f,op,v,u):cO)=(f2,op2,v2,u2)))) w:=by simp only[Lj,Hs,IW,Result.andThen]
 simp only[Lj,e,Result.andThen];exact⟨rfl,rfl⟩
theorem qj(B cv dv cs ds w)(hc:dR B w cv cs)(F:dR B w dv ds)(hB:B<=w.1.size):
  cL 82 #[cv,dv] w (rT w (.bool (decide (cs=ds)))):=by
 obtain⟨a,a9,rfl,aa,ac,G⟩:=hc;obtain⟨a2,R,rfl,I,S,J⟩:=F;have K:=Z G;have L:=Z J;clear G J
 by_cases l:cs.length=ds.length
 ·generalize hn:cs.length=n at*;have T:=l.symm;clear l;rw[T] at I;simp only[T];have ad:n<=9223372036854775807:=by have:=ai;omega
  go_enter func82,ntmps82;go_wp2;go_loopw [13] (λi wr=>∃k:Nat,k<=n/\i=U k/\Hid (∀i,i<k->cs[i]?=ds[i]?)/\bL w wr) (λi _=>n-(intOf i).toNat)
  case atStart=>exact⟨0,by omega,rfl,λi h=>absurd h (by omega),Kf _ _⟩
  case round=>
   obtain⟨k,hk,rfl,H,e⟩:=hrel;have i0:(0:Int)<=(k:Int):=by omega
   by_cases ae:k<n
   ·have i1:(k:Int)<(n:Int):=by omega
    obtain⟨c,s⟩:∃c,cs[k]?=some c:=⟨cs[k]'(by omega),by simp⟩;obtain⟨d,t⟩:∃d,ds[k]?=some d:=⟨ds[k]'(by omega),by simp⟩;obtain⟨b,o,rfl,af,M⟩:=K.o k c s;obtain⟨N,O,rfl,V,p⟩:=L.o k d t;have q:=Z s;have r:=Z t;clear s t;obtain⟨W,X,Y,c3,_⟩:=M.l e (by omega);obtain⟨d0,d1,d2,d3,_⟩:=p.l e (by omega);obtain⟨f,A,v,u⟩:=c;obtain⟨C,g,D,E⟩:=d;simp only[] at W X Y c3 d0 d1 d2 d3;clear M p;go_wp2;have ak:=e.size;have l:=ax.ne wr;have al:∀x:ax wr,x.1.cell? ⟨b,o+k*4,none⟩=some (U f):=λx=>x.cell W (by omega)
    have ao:∀x:ax wr,x.1.cell? ⟨b,o+k*4+1,none⟩=some (U A):=λx=>x.cell X (by omega)
    have av:∀x:ax wr,x.1.cell? ⟨b,o+k*4+2,none⟩=some (U v):=λx=>x.cell Y (by omega)
    have b0:∀x:ax wr,x.1.cell? ⟨b,o+k*4+3,none⟩=some (U u):=λx=>x.cell c3 (by omega)
    have b1:∀x:ax wr,x.1.cell? ⟨N,O+k*4+3,none⟩=some (U E):=λx=>x.cell d3 (by omega)
    have b3:∀x:ax wr,x.1.cell? ⟨N,O+k*4,none⟩=some (U C):=λx=>x.cell d0 (by omega)
    have b4:∀x:ax wr,x.1.cell? ⟨N,O+k*4+1,none⟩=some (U g):=λx=>x.cell d1 (by omega)
    have b5:∀x:ax wr,x.1.cell? ⟨N,O+k*4+2,none⟩=some (U D):=λx=>x.cell d2 (by omega)
    by_cases j:((f,A,v,u):cO)=(C,g,D,E)
    ·have y:=Z j;have F:=Z (by simp[j]:(!decide (((f,A,v,u):cO)=(C,g,D,E)))=false);clear j;refine aW (by kernel_rfl) (by kernel_rfl) ?_;repeat(go_big_quiet_step (fail))
     refine pE _ _ _ rfl rfl f A v u C g D E rfl rfl _ F.o ?_;refine Km ?_;rintro wx ⟨⟨_,P⟩,rfl⟩;have z:=e.th P;go_wp2;refine⟨⟨k+1,by omega,by go_num,λi hi=>?_,z⟩,by simp[intOf];omega⟩
     by_cases Q:i=k
     ·subst Q;rw[q.o,r.o,y.o]
     exact H.o i (by omega)
    have y:=Z j;have F:=Z (by rw[KD j];rfl:(!decide (((f,A,v,u):cO)=(C,g,D,E)))=true);clear j;refine aW (by kernel_rfl) (by kernel_rfl) ?_;repeat(go_big_quiet_step (fail))
    refine pE _ _ _ rfl rfl f A v u C g D E rfl rfl _ F.o ?_;refine Km ?_;rintro wx ⟨⟨_,P⟩,rfl⟩;have z:=e.th P;go_wp2;go_ret;refine⟨?_,z⟩;have:cs≠ds:=by intro h;have h1:=q.o;rw[h,r.o] at h1;exact y.o (KG h1).symm
    simp[this]
   go_wp2;go_ret;refine⟨?_,e⟩
   have:cs=ds:=by
    refine LD λi=>?_
    by_cases hi:i<k
    ·exact H.o i hi
    rw[KP (by omega),KP (by omega)]
   simp[this]
 have b7:((cs.length:Int) != (ds.length:Int))=true:=by simp;omega
 have hf:=Z (by simp;intro h;rw[h] at l;exact l rfl:decide (cs=ds)=false);generalize cs.length=n at*;generalize ds.length=m at*;go_enter func82,ntmps82;go_wp2;go_ret;exact⟨by rw[hf.o];rfl,Kf _ _⟩
theorem uS:∃i,prog.info? 77=some i/\i.zero=some nL/\i.size=1/\i.bytes=24:=jL (by kernel_rfl)
def ii(B:Nat)(w:World)(xs:List Value)(a:ie):Prop:=xs.length=a.length/\∀ (i:Nat) x f,xs[i]?=some x->a[i]?=some f->dR B w x f
theorem ii.l{B B' w w' xs ls}(h:ii B w xs ls)(a:Below B' w w')(b:B<=B'):ii B w' xs ls:=⟨h.1,λi x f c d=>(h.2 i x f c d).l a b⟩
theorem ii.mono{B a:Nat}{w xs ls}(h:ii B w xs ls)(b:B<=a):ii a w xs ls:=⟨h.1,λi x f c d=>(h.2 i x f c d).mono b⟩
theorem ii.nil(B w):ii B w [] []:=⟨rfl,λi x f a=>by simp at a⟩
theorem ii.append{B w xs ys ls ms}(h:ii B w xs ls)(c:ii B w ys ms):ii B w (xs++ys) (ls++ms):=by
 refine⟨by simp[h.1,c.1],λi x f a b=>?_⟩
 by_cases d:i<xs.length
 ·rw[Kh d] at a;rw[Kh (by rw[<-h.1];exact d)] at b;exact h.2 i x f a b
 rw[Kk (by omega)] at a;rw[Kk (by rw[<-h.1];omega),<-h.1] at b;exact c.2 _ x f a b
theorem ii.one{B w x f}(h:dR B w x f):ii B w [x] [f]:=by
 refine⟨rfl,λi y g a b=>?_⟩
 match i,a,b with
 |0,a,b=>
  simp at a b;subst a b;exact h
 |i+1,a,_=>simp at a
theorem ii.slices{B w xs ls}(h:ii B w xs ls):∀u∈xs,u.oneCell'=true:=by
 intro u d;obtain⟨i,b⟩:=List.getElem?_of_mem d;have e:i<ls.length:=by rw[<-h.1];exact(K9.1 b).1
 obtain⟨a,c,rfl,-⟩:=(h.2 i u ls[i] b (by simp)).shape;rfl
theorem DO{B w a n cap ls}(h:cD B w (.slice a n cap) ls):∃d,ii B w d ls/\∀ (j:Nat) u,d[j]?=some u->∃b o,a=some ⟨b,o,none⟩/\b<B/\w.cell? ⟨b,o+j,none⟩=some u:=by
 obtain⟨A,p,e,-,-,r⟩:=h;simp at e;obtain⟨rfl,rfl,rfl⟩:=e
 obtain⟨d,s,q⟩:=iU (λi x=>∃b o,a=some ⟨b,o,none⟩/\b<B/\w.cell? ⟨b,o+i,none⟩=some x/\∀f,ls[i]?=some f->dR B w x f) ls.length (λi t=>by
  obtain⟨b,o,v,e,g,l,m⟩:=r i ls[i] (by simp)
  exact⟨v,b,o,e,g,l,λf c=>by rw[Lu t] at c;cases c;exact m⟩)
 refine⟨d,⟨s,λi x f y m=>?_⟩,λj u z=>?_⟩
 ·have⟨b,o,e,g,l,k⟩:=q i x y;exact k f m
 have⟨b,o,e,g,l,k⟩:=q j u z;exact⟨b,o,e,g,l⟩
theorem sR{L:Nat}{w:World}{v:Value}{xs:List Value}{c:ie}(h:w.ownsRow L 77 1 v c.length xs)(j:ii w.1.size w xs c):cD w.1.size w v c:=by
 obtain⟨a,d,rfl,l,m,n⟩:=an h;refine⟨a,d,rfl,l,m,λi f k=>?_⟩;have o:i<c.length:=(K9.1 k).1;obtain⟨g,rfl,p,e⟩:=n (by omega);have b:xs[i]?=some (xs[i]'(by rw[j.1];exact o)):=by simp
 exact⟨g,0,_,rfl,e,by rw[Kp];exact aK h i _ b,j.2 i _ f b k⟩
def tB(B L:Nat)(w:World)(v:Value)(b:ie):Prop:=∀a:World,Below B w a->(∀g,L<=g->g<w.1.size->a.1[g]?=w.1[g]?)->cD a.1.size a v b
theorem tB.at{B L w v ls}(h:tB B L w v ls):cD w.1.size w v ls:=h w bR (λ_ _ _=>rfl)
theorem pO(B L w):tB B L w nL []:=λa _ _=>kJ _ _
theorem xw(base:Nat)(C:TypeId)(v:Value)(n:Nat)(xs:List Value)(a:Option Addr)(m cap:Nat)(d:List Value)(W:World)(f:W.ownsRow base 77 1 v n xs)(D:d.length=m)(E:∀ (j:Nat) u,d[j]?=some u->∃b o,a=some ⟨b,o,none⟩/\W.cell? ⟨b,o+j,none⟩=some u)(H:∀u∈d,u.oneCell'=true)(I:(n+m)*24<=140737488355328)(i:base<=W.1.size):
  ∃w s,(Builtin.append_ #[44,44] C #[v,.slice a m cap]).run prog W=.ok w s/\s.ownsRow base 77 1 w (n+m) (xs++d)/\Below base W s:=by
 obtain⟨t,p,x,y,z⟩:=uS
 cases a with
 |none=>
  have J:d=[]:=by
   cases d with
   |nil=>rfl
   |cons r l=>have⟨b,o,e,_⟩:=E 0 r rfl;cases e
  subst J;simp at D;subst D;refine⟨v,W,?_,by simpa using f,Kf _ _⟩
  have A:v=nL\/∃g c,v=.slice (some g) n c/\n<=c:=by
   rcases f.2 with ⟨h,_⟩|⟨g,c,K,h,_,_,L,_⟩
   ·exact .inl h
   exact .inr ⟨_,c,h,L⟩
  have F:=Lk (P:=prog) W t.size 0 0 cap
  rcases A with rfl|⟨g,c,rfl,B⟩
  ·simp[Builtin.append_,KY Tryz.underlying44,sizeOf,typeInfo,p,Builtin.lenOf,F]
  simp[Builtin.append_,KY Tryz.underlying44,sizeOf,typeInfo,p,Builtin.lenOf,F,B,storeCells]
 |some G=>
  have q:∀j u,d[j]?=some u->W.cell? (G.add j)=some u:=by
   intro j u M;have⟨b,o,e,A⟩:=E j u M
   cases e;rw[eM];exact A
  obtain⟨w,s,N,O,Q,S⟩:=LB (P:=prog) W base 44 C 77 t _ 1 24 Tryz.underlying44 p x y z rfl (by decide) v n xs f G m cap d (by omega) q H (by rw[ai];omega) I i;exact⟨w,s,N,O,bR.grown Q i λk R=>eh f k R⟩
def Kx(G:Nat->Prop)(w wF:World):Prop:=Below 0 w wF/\∀k,¬G k->k<w.1.size->wF.1[k]?=w.1[k]?
theorem Kx.refl(G:Nat->Prop)(w):Kx G w w:=⟨Kf _ _,λ_ _ _=>rfl⟩
theorem Kx.size{G:Nat->Prop}{w wF}(h:Kx G w wF):w.1.size<=wF.1.size:=h.1.size
theorem Kx.back{G c:Nat->Prop}{w w' wF}(h:Kx c w' wF)(a:bL w w')(d:∀k,k<w.1.size->c k->G k):Kx G w wF:=
 ⟨(a.mono (Ks _)).trans h.1,λk f b=>(h.2 k (λe=>f (d k b e)) (Kd b a.size)).trans (a.block k b)⟩
theorem Kx.below{G:Nat->Prop}{w wF}{B:Nat}(h:Kx G w wF)(a:∀k,k<B->¬G k)(i:B<=w.1.size):Below B w wF:=by obtain⟨⟨b,c,d,e,-⟩,f⟩:=h;exact⟨b,c,d,e,λk g=>f k (a k g) (by omega)⟩
theorem Kx.cell{G:Nat->Prop}{b o:Nat}{w wF}{u:Value}(h:Kx G w wF)(c:¬G b)(a:w.cell? ⟨b,o,none⟩=some u):wF.cell? ⟨b,o,none⟩=some u:=by have d:=KE _ _ a;have e:=h.2 b c d;rw[<-a];simp only[World.cell?,e]
def FT(g:Nat)(w:World):Prop:=∃a T b,w.1[g]?=some (.cells a T b)/\∀ (j:Nat) u,a[j]?=some u->∃n,u=U n
theorem FT.l{g w w'}(h:FT g w)(c:bL w w'):FT g w':=by obtain⟨a,T,d,b,e⟩:=h;exact⟨a,T,d,(c.block g (KK.1 b).1).trans b,e⟩
theorem FT.cell{g o:Nat}{w}{u:Value}(h:FT g w)(a:w.cell? ⟨g,o,none⟩=some u):∃n,u=U n:=by
 obtain⟨b,T,e,c,d⟩:=h;refine d o u ?_
 simpa [World.cell?,c] using a
def lZ(G:Nat->Prop)(B:Nat)(w:World):Prop:=∀k,G k->FT k w\/B<=k
theorem lZ.l{G:Nat->Prop}{B w w'}(h:lZ G B w)(a:bL w w'):lZ G B w':=λk b=>(h k b).imp (λe=>e.l a) id
theorem lZ.slice{G:Nat->Prop}{B b o:Nat}{w a n c}(h:lZ G B w)(g:b<B)(d:w.cell? ⟨b,o,none⟩=some (.slice a n c)):¬G b:=λf=>by
 rcases h b f with h|h
 ·have⟨m,e⟩:=h.cell d
  cases e
 omega
theorem lZ.bool{G:Nat->Prop}{B b o:Nat}{w x}(h:lZ G B w)(d:b<B)(a:w.cell? ⟨b,o,none⟩=some (.bool x)):¬G b:=λc=>by
 rcases h b c with h|h
 ·have⟨m,e⟩:=h.cell a
  cases e
 omega
def K7(G:Nat->Prop)(w:World)(v:Value)(f:List cO):Prop:=∀a,Kx G w a->dR a.1.size a v f
def ym(G:Nat->Prop)(w:World)(v:Value)(b:ie):Prop:=∀a,Kx G w a->cD a.1.size a v b
def Id(G:Nat->Prop)(w:World)(v:Value)(p:aD):Prop:=∀a,Kx G w a->aX a.1.size a v p
theorem ym.l{G a:Nat->Prop}{w w' v ls}(h:ym G w v ls)(b:bL w w')(c:∀k,k<w.1.size->a k->G k):ym a w' v ls:=λd e=>h d (e.back b c)
theorem Id.l{G a:Nat->Prop}{w w' v p}(h:Id G w v p)(b:bL w w')(c:∀k,k<w.1.size->a k->G k):Id a w' v p:=λd e=>h d (e.back b c)
theorem rQ(G:Nat->Prop)(w):ym G w nL []:=λ_ _=>kJ _ _
theorem ym.vals{G:Nat->Prop}{B w a n cap ls}(h:ym G w (.slice a n cap) ls)(y:cD B w (.slice a n cap) ls)(z:lZ G B w){b o j:Nat}{u:Value}{f:List cO}(q:a=some ⟨b,o,none⟩)(r:w.cell? ⟨b,o+j,none⟩=some u)(s:ls[j]?=some f):K7 G w u f:=by
 intro A t;obtain⟨H,I,v,-,-,C⟩:=y;have⟨J,K,D,e,g,c,i⟩:=C j f s;simp at v;obtain⟨rfl,-⟩:=v;rw[q] at e;simp at e;obtain⟨rfl,rfl⟩:=e;obtain⟨L,M,k,-,-⟩:=i.shape;rw[k] at c;have l:=z.slice g c;rw[r] at c
 cases c;obtain⟨N,O,x,-,-,E⟩:=h A t;obtain⟨P,Q,F,m,-,d,p⟩:=E j f s;simp at x;obtain⟨rfl,-⟩:=x;rw[q] at m;simp at m;obtain⟨rfl,rfl⟩:=m;rw[t.cell l r] at d
 cases d;exact p
def gu(c:kh):List Int:=[c.1,c.2.1,c.2.2.1,c.2.2.2.1,c.2.2.2.2]
theorem vt(B L s t:Nat)(a b n cap n2 cap2 d f p q lv cs w)(hl:ia L w lv cs)(hL:L<=w.1.size)(P:aX B w (.agg #[.slice a n cap,U d]) p)(Q:aX B w (.agg #[.slice b n2 cap2,U f]) q)(I:B<=w.1.size)
  (R:w.cell? (pA s 0)=some (.slice a n cap)) (T:w.cell? (pA s 1)=some (U d)) (V:w.cell? (pA t 0)=some (.slice b n2 cap2)) (W:w.cell? (pA t 1)=some (U f)) (m:s<w.1.size) (o:t<w.1.size):
  cL 231 #[lv,.func (.func 232) #[] #[.pointer (sO s),.pointer (sO t)]] w λe u=>e=.returned (U (aR (λc=>eB p q (gu c)) 0 cs))/\bL w u:=by
 have HC:Hid (∀x y z A C u,bL w u->cL 232 #[.agg #[U x,U y,U z,U A,U C],.pointer (sO s),.pointer (sO t)] u (rT u (.bool (eB p q [x,y,z,A,C])))):=λx y z A C u h=>
  Ay B s t a b n cap n2 cap2 d f p q x y z A C u (P.l h I) (Q.l h I) (h.u I) ((h.cell (p:=pA s 0) m).trans R) ((h.cell (p:=pA s 1) m).trans T) ((h.cell (p:=pA t 0) o).trans V) ((h.cell (p:=pA t 1) o).trans W) (Kd m h.size) (Kd o h.size)
 obtain⟨g,X,rfl,a3,a4,D⟩:=hl;have J:=Z D;clear D P Q R T V W m o;have a5:=ai;generalize Y:cs.length=N at*;have E:=Z Y;clear Y;go_enter func231,ntmps231;go_wp2;go_loopw [8] (λi wr=>∃k:Nat,k<=N/\i=U k/\Hid (aR (λc=>eB p q (gu c)) 0 cs=aR (λc=>eB p q (gu c)) k (cs.drop k))/\bL w wr) (λi _=>N-(intOf i).toNat)
 case atStart=>exact⟨0,by omega,rfl,rfl,Kf _ _⟩
 case round=>
  obtain⟨k,hk,rfl,H,j⟩:=hrel;have⟨wo,K⟩:=nM (wr);subst K;have i0:(0:Int)<=(k:Int):=by omega
  have a7:=j.size
  by_cases a8:k<N
  ·have i1:(k:Int)<(N:Int):=by omega
   obtain⟨c,v⟩:∃c,cs[k]?=some c:=⟨cs[k]'(by rw[E.o];omega),by simp⟩;obtain⟨gb,go,rfl,a9,F⟩:=J.o k c v;have S:Hid (aR (λc=>eB p q (gu c)) k (cs.drop k)=if eB p q (gu c)=true then (k:Int) else aR (λc=>eB p q (gu c)) (k+1) (cs.drop (k+1))):=ku (λc=>eB p q (gu c)) cs k c v;obtain⟨c0,c1,c2,c3,c4⟩:=F.l j (by omega);have l:=HC.o c.1 c.2.1 c.2.2.1 c.2.2.2.1 c.2.2.2.2 wo j;have HF:Hid (eB p q (gu c)=eB p q [c.1,c.2.1,c.2.2.1,c.2.2.2.1,c.2.2.2.2]):=rfl;generalize eB p q [c.1,c.2.1,c.2.2.1,c.2.2.2.1,c.2.2.2.2]=lo at*;have r:Hid _:=l;clear l F v;generalize c.1=x at*;generalize c.2.1=y at*;generalize c.2.2.1=z at*;generalize c.2.2.2.1=A at*;generalize c.2.2.2.2=C at*;go_wp2_with (first|(go_at_call 232;go_must (refine Calls.mono r.o ?_;rintro e w2 ⟨rfl,M⟩)))
   all_goals have G:bL w w2:=j.th M
   ·have O:eB p q (gu c)=true:=by rw[HF.o];assumption
    go_ret;exact⟨by rw[H.o,S.o,Io O];rfl,G⟩
   have O:¬eB p q (gu c)=true:=by rw[HF.o];simp_all
   exact⟨⟨k+1,by omega,by go_num,by unfold Hid;rw[H.o,S.o,iO O],G⟩,by simp[intOf];omega⟩
  go_wp2;go_ret;exact⟨by rw[H.o,KJ (by rw[E.o];omega)];rfl,j⟩
