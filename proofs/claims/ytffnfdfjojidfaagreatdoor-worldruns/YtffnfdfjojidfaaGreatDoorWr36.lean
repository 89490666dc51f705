import Derived.Test.YtffnfdfjojidfaaGreatDoorWr32
set_option linter.all false
set_option maxRecDepth 100000
set_option maxHeartbeats 8000000
namespace Go.Proofs.YtffnfdfjojidfaaGreatDoor
open Go.RowKit Go.Maps Go.Proofs.Tryz
theorem I1{x:List Int}(h:∃a b c d e,x=[a,b,c,d,e]):gu (qM x)=x:=by obtain⟨a,b,c,d,e,rfl⟩:=h;rfl
theorem Fd(p q):(aR (λc=>eB p q (gu c)) 0 ((bj [p,q]).map qM) = -1/\dN p q=none)\/∃ (j:Nat) (c:kh),aR (λc=>eB p q (gu c)) 0 ((bj [p,q]).map qM)=(j:Int)/\((bj [p,q]).map qM)[j]?=some c/\dN p q=some (gu c):=by
 have e:∀x∈bj [p,q],gu (qM x)=x:=λx a=>I1 (rg a)
 rcases ui (λc=>eB p q (gu c)) ((bj [p,q]).map qM) 0 with ⟨f,b⟩|⟨j,c,f,b,k,n⟩
 ·refine .inl ⟨f,?_⟩;unfold dN;rw[MO];intro x a;have:=b (qM x) (List.mem_map_of_mem a);simp only[e x a] at this;simp[this]
 refine .inr ⟨j,c,by rw[f];simp,b,?_⟩;rw[Ku] at b;obtain⟨x,a,rfl⟩:=Option.map_eq_some_iff.1 b;have d:=Kb a;simp only[e x d] at k;rw[e x d];refine zf _ _ j (λy o=>?_) _ a k;obtain⟨i,l,rfl⟩:=List.getElem_of_mem o;have g:i<j:=by simp at l;omega
 have h:i<(bj [p,q]).length:=by simp at l;omega
 have m:(bj [p,q])[i]?=some (bj [p,q])[i]:=by simp[h]
 have:=n i g (qM (bj [p,q])[i]) (by rw[Ku,m];rfl);simp only[e _ (Kb m)] at this
 simpa using this
theorem AH(B pv qv p q w)(hp:aX B w pv p)(hq:aX B w qv q)(hB:B<=w.1.size):
  cL 223 #[pv,qv] w (rT w (.tuple #[.bool (dN p q).isSome,jm (fj p q),U (aT [p,q])])):=by
 have HP:=Z λy (h:bL w y)=>hp.l h hB
 have HQ:=Z λy (h:bL w y)=>hq.l h hB
 obtain⟨m,d⟩:=p;obtain⟨n,f⟩:=q;obtain⟨rv,e1,hd,a3⟩:=hp;obtain⟨sv,e2,hf,a4⟩:=hq;have ba:=Z λy (h:bL w y)=>a3.l h hB
 have bb:=Z λy (h:bL w y)=>a4.l h hB
 obtain⟨a,o,e3,cc,cd,-⟩:=a3;obtain⟨b,i,e4,c0,c1,-⟩:=a4;simp only at e1 e2 e3 e4 hd hf;subst e3 e4 e1 e2;have bc:=Z hd;have bd:=Z hf;clear hd hf;generalize bf:m.length=P at*;generalize bg:n.length=Q at*;clear bf bg;go_enter func223,ntmps223;have⟨J,A⟩:=nM (((w.alloc (.cells #[.slice a P o,U d] 30)).alloc (.cells #[.slice b Q i,U f] 30)).alloc (.cells #[U 0,U 0,U 0,U 0,U 0] 34));have a5:J.1.size=w.1.size+1+1+1:=by rw[A];simp
 have K:bL w J:=by rw[A];exact((bR.alloc lE _).alloc (by simp) _).alloc (by simp;omega) _
 have L:Hid (∀y,Below (w.1.size+3) J y->y.1[w.1.size]?=some (.cells #[.slice a P o,U d] 30 (0,0))/\y.1[w.1.size+1]?=some (.cells #[.slice b Q i,U f] 30 (0,0))/\y.1[w.1.size+1+1]?=some (.cells (fJ λ_=>0) 34 (0,0))):=by
  intro y h;have e0:J.1[w.1.size]?=some (.cells #[.slice a P o,U d] 30 (0,0)):=by rw[A,Kq _ _ _ (by simp;omega),Kq _ _ _ (by simp)];exact ah _ _
  have e1:J.1[w.1.size+1]?=some (.cells #[.slice b Q i,U f] 30 (0,0)):=by rw[A,Kq _ _ _ (by simp)];have:=ah (w.alloc (.cells #[.slice a P o,U d] 30)) (.cells #[.slice b Q i,U f] 30);rw[Kg] at this;exact this
  have e2:J.1[w.1.size+1+1]?=some (.cells (fJ λ_=>0) 34 (0,0)):=by rw[A];have:=ah ((w.alloc (.cells #[.slice a P o,U d] 30)).alloc (.cells #[.slice b Q i,U f] 30)) (.cells (fJ λ_=>0) 34);rw[Kg,Kg] at this;exact this
  exact⟨h.bk e0,h.bk e1,h.bk e2⟩
 have a6:=wJ (p:=(m,d)) (q:=(n,f)) (K.u hB) (ba.o _ K) bc.o (bb.o _ K) bd.o 30;have T:=uf _ _ _ _ a6 (by simp) (by simp);rw[a5] at T;have R:Hid _:=T;have a7:Below (w.1.size+3) J (J.alloc (.cells #[.slice a P o,U d,.slice b Q i,U f] 30)):=bR.alloc (by omega) _;have V:(J.alloc (.cells #[.slice a P o,U d,.slice b Q i,U f] 30)).1.size=w.1.size+4:=by simp[a5]
 clear T a6;go_wp2_with fail;rw[<-A];clear A;go_at_call 231;refine Calls.mono R.o ?_;rintro e W ⟨v5,rfl,a8,M⟩
 try unfold bL at M
 rw[V] at M;have r:Below (w.1.size+3) J W:=Mj a7 (M.mono (by omega));have bk:=M.size;rw[V] at bk;have s:bL w W:=K.trans (r.mono (by omega));have a9:=Fd (m,d) (n,f);have D:Hid (aT [(m,d),(n,f)]≠0->dN (m,d) (n,f)=none):=CJ;have E:Hid (fj (m,d) (n,f)=match dN (m,d) (n,f) with|some x=>Cn x|none=>λ_=>0):=rfl;obtain⟨b0,b1,-⟩:=L.o _ r
 have O:Hid (cL 232 #[v5,.func (.func 233) #[] #[.pointer (sO w.1.size),.pointer (sO (w.1.size+1))]] W λe y=>e=.returned (U (aR (λc=>eB (m,d) (n,f) (gu c)) 0 ((bj [(m,d),(n,f)]).map qM)))/\bL W y):=
  vt B W.1.size w.1.size (w.1.size+1) a b P o Q i d f (m,d) (n,f) v5 _ W a8 lE (HP.o _ s) (HQ.o _ s) (s.u hB) (J0 b0) (J1 b0) (J0 b1) (J1 b1) (by omega) (by omega)
 obtain⟨g5,c3,rfl,aa,c4,S⟩:=a8;have F:=Z S;have t:Hid _:=a9;have X:Hid _:=s;have cf:=ai;clear S R a7 V b0 b1 a9 HP HQ s;generalize aR (λc=>eB (m,d) (n,f) (gu c)) 0 ((bj [(m,d),(n,f)]).map qM)=z at*;have⟨cs,ac⟩:=nM ((bj [(m,d),(n,f)]).map qM)
 rw[<-ac] at O F t aa |-
 clear ac;have⟨pe,Y⟩:=nM (aT [(m,d),(n,f)]);have G:=Z Y.symm
 rw[<-Y] at D |-
 clear Y;generalize hN:cs.length=N at*;have bq:=Z hN;clear hN;have l2:w.1.size+1+1<W.1.size:=by omega
 by_cases hz:pe=0
 ·have HZ:=Z hz
  rcases t.o with ⟨rfl,a1⟩|⟨j,c,rfl,hj,C⟩
  ·have u:=Z2 a1 (by rw[E.o,a1]:fj (m,d) (n,f)=λ_=>0);subst hz;clear a1 t E D F;go_wp2_with fail;go_at_call 232;refine Calls.mono O.o ?_;rintro e w6 ⟨rfl,l⟩;obtain⟨-,-,H⟩:=L.o _ (r.trans (l.mono (by omega)));have k:=(eD H).1;have g:=(eD H).2;have r0:=k 0 (by omega);have r1:=k 1 (by omega);have r2:=k 2 (by omega);have r3:=k 3 (by omega);have r4:=k 4 (by omega);have f0:=g 0;have f1:=g 1;have f2:=g 2;have f3:=g 3;have f4:=g 4;have I:bL w w6:=X.o.th l;clear k g H l;go_wp2_with fail;refine Ka (v:=.tuple #[.bool false,.agg #[U 0,U 0,U 0,U 0,U 0],U 0]) ?_ rfl ⟨by rw[u.o.1,u.o.2,G.o];rfl,?_⟩
   ·simp[results,Tryz.results223,go_sem,r0,r1,r2,r3,r4]
   repeat(first|exact I|refine Ky ?_ (by simp;omega) _)
  have u:=Z2 C (by rw[E.o,C]:fj (m,d) (n,f)=Cn (gu c));have ck:j<N:=by rw[<-bq.o];exact(K9.1 hj).1
  obtain⟨gb,go,rfl,ao,av⟩:=F.o j c hj;subst hz;have j0:(0:Int)<=(j:Int):=by omega
  have j1:(j:Int)<(N:Int):=by omega
  clear C t E D F hj;go_wp2_with fail;go_at_call 232;refine Calls.mono O.o ?_;rintro e w6 ⟨rfl,l⟩;obtain⟨-,-,H⟩:=L.o _ (r.trans (l.mono (by omega)));have⟨k0,k1,k2,k3,k4⟩:=av.l l ao;have cb:gb<w6.1.size:=Kd ao l.size;have k:=(eD H).1;have g:=(eD H).2;have r0:=k 0 (by omega);have r1:=k 1 (by omega);have r2:=k 2 (by omega);have r3:=k 3 (by omega);have r4:=k 4 (by omega);have f0:=g 0;have f1:=g 1;have f2:=g 2;have f3:=g 3;have f4:=g 4;have I:bL w w6:=X.o.th l;have b3:=Z (by rw[u.o.2];rfl:jm (fj (m,d) (n,f))=.agg #[U c.1,U c.2.1,U c.2.2.1,U c.2.2.2.1,U c.2.2.2.2]);clear k g H l av;generalize c.1=x0 at*;generalize c.2.1=x1 at*;generalize c.2.2.1=x2 at*;generalize c.2.2.2.1=x3 at*;generalize c.2.2.2.2=x4 at*;go_wp2_with fail;go_region;go_wp2_with fail;refine Ka (v:=.tuple #[.bool true,.agg #[U x0,U x1,U x2,U x3,U x4],U 0]) ?_ rfl ⟨by rw[u.o.1,b3.o,G.o];rfl,?_⟩
  ·simp[results,Tryz.results223,go_sem,r0,r1,r2,r3,r4]
  refine Below.drew ?_;repeat(first|exact I|refine Ky ?_ (by simp;omega) _)
 have u:=Z2 (D.o hz) (by rw[E.o,D.o hz]:fj (m,d) (n,f)=λ_=>0);have hq:(pe != 0)=true:=by simpa using hz
 obtain⟨-,-,H⟩:=L.o _ r;have k:=(eD H).1;have g:=(eD H).2;have r0:=k 0 (by omega);have r1:=k 1 (by omega);have r2:=k 2 (by omega);have r3:=k 3 (by omega);have r4:=k 4 (by omega);have f0:=g 0;have f1:=g 1;have f2:=g 2;have f3:=g 3;have f4:=g 4;clear k g H hz t E D F O;go_wp2_with fail;refine Ka (v:=.tuple #[.bool false,.agg #[U 0,U 0,U 0,U 0,U 0],U pe]) ?_ rfl ⟨by rw[u.o.1,u.o.2,G.o];rfl,?_⟩
 ·simp[results,Tryz.results223,go_sem,r0,r1,r2,r3,r4]
 repeat(first|exact X.o|refine Ky ?_ (by simp;omega) _)
def ke(p:aD):Bs × Int:=if aj p=0 then (cW p,0) else ([],aj p)
theorem EH(B0 pv p w)(he:dD w)(hp:aX B0 w pv p)(F:B0<=w.1.size):
  cL 156 #[pv] w (rT w (.tuple #[.string (dU (ke p).1),U (ke p).2])):=by
 have B:∀X,bL w (w.alloc X):=λX=>bR.alloc lE _
 have HC:=Z λj (h:bL w j)=>gZ B0 pv p j (hp.l h F) (h.u F)
 obtain⟨g,d⟩:=p;obtain⟨rv,rfl,bq,a,m,rfl,bs,d5,G⟩:=hp;simp only[] at bs G;have a6:=Z G;have H:Hid (∀e:Int,aj (g,d)=e->e≠0->ke (g,d)=([],e)):=by intro e h1 h2;unfold ke;rw[h1,iO h2]
 have I:Hid (aj (g,d)=0->ke (g,d)=(cW (g,d),0)):=by intro h;unfold ke;rw[Io h]
 have J:=Z λ(h:aj (g,d)=0)=>jF h
 clear G bq;show cL 156 #[.agg #[.slice a g.length m,U d]] w _;have a8:=Z HC.o;clear HC;generalize hn:g.length=n at*;have K:=Z hn;clear hn;generalize bx:aj (g,d)=pe at*;clear bx;have d6:=ai
 by_cases h0:pe=0
 ·subst h0;have⟨bz,hd,L⟩:=J.o rfl;have a9:Hid _:=L;have aa:Hid (ke (g,d)=(cW (g,d),0)):=I.o rfl;have bF:Hid (cW (g,d)=g.flatMap ct++d7 d):=rfl
  have c2:Hid (∀i:Nat,((g.take i).flatMap ct).length<=96000000):=by
   intro i;have h1:=iT (g.take i) λc hc=>L c (KZ hc)
   have h2:(g.take i).length<=120:=by rw[Kt,K.o];omega
   exact Kl h1 (Lz 800000 h2)
  obtain⟨f,rfl⟩:∃i:Nat,d=i:=⟨d.toNat,by omega⟩;have ac:f<5:=by omega
  have ad:Hid (d7 (f:Int)=vN.getD f []):=by unfold Hid d7;simp
  have dc:=jM (f:Int)
  have ae:Hid (d7 (f:Int)≠[]):=by
   unfold Hid;rw[ad.o];have:f=0\/f=1\/f=2\/f=3\/f=4:=by omega
   rcases this with rfl|rfl|rfl|rfl|rfl<;>decide
  clear L I H J;go_enter func156,ntmps156;go_wp2_with fail;go_at_call 144;refine(a8.o _ (B _)).mono ?_;rintro e t ⟨rfl,q⟩;have c3:Na t w.1.size #[.slice a n m,U f] 30:=(q.block _ (by simp)).trans (Kr w _).1;have u:bL w t:=Below.tO (B _) q (by simp);have dd:w.1.size+1<=t.1.size:=by have:=q.size;simpa using this
  clear q;have⟨W3,s⟩:=nM (t.alloc (.cells #[.pointer none,nL] 227));have M:=bA s;have c4:=sA s;have v:dY t.1.size t.1.size (Lib.byteCells []) W3:=.inl ⟨Ke _,nL,by rw[s];exact(Kr t _).1,⟨rfl,.inl ⟨rfl,rfl⟩⟩,by simp[Value.ownBlock]⟩;have af:=M.bk c3;have⟨b,N⟩:=nM (t.1.size);rw[<-N] at v M c4;have cs:w.1.size+1<=b:=by omega
  have ak:bL w W3:=u.trans (M.mono (by omega));have⟨p0,p1,_,_⟩:=ag af;have al:∀X,X=.cells #[.pointer none,nL] 227->(t.alloc X).cell? (pW w 0)=some (.slice a n m):=λX hX=>by rw[hX,<-s];exact p0
  have ao:=al _ rfl;clear al;go_wp2_with fail;rw[<-s,<-N];clear s N ao;have O:Hid _:=v;clear v;go_loopw [16] (λiv wr=>∃i:Nat,i<=n/\iv=U i/\Hid (dY b b (Lib.byteCells ((g.take i).flatMap ct)) wr)/\Below b W3 wr/\b+1<=wr.1.size) (λiv _=>n-(intOf iv).toNat)
  case atStart=>exact⟨0,by omega,rfl,O,Kf _ _,by omega⟩
  case round=>
   obtain⟨i,hi,rfl,x,P,dk⟩:=hrel;have⟨Q,c6⟩:=nM (wr);subst c6;have i0:(0:Int)<=(i:Int):=by omega
   have R:=c2.o i;have S:bL w Q:=ak.trans (P.mono (by omega))
   by_cases c7:i<n
   ·have i1:(i:Int)<(n:Int):=by omega
    obtain⟨r,T⟩:∃r,g[i]?=some r:=⟨g[i]'(by rw[K.o];exact c7),by simp⟩;obtain⟨br,or,rfl,av,b0⟩:=a6.o i r T;have⟨cv,c0,c1,w0,y⟩:=b0.l S F av;have V:Hid ((g.take (i+1)).flatMap ct=(g.take i).flatMap ct++ct r):=by unfold Hid;rw[LC,T];simp
    have b2:=a9.o r (Kb T);obtain⟨a2,m2,o,rfl⟩:∃a2 m2 o,cv=.slice a2 m2 o:=by obtain⟨a2,o,e2,_⟩:=y;exact⟨a2,_,o,e2⟩
    have c9:Hid (∀j,bL Q j->cL 186 #[.pointer (sO b),.agg #[.slice a2 m2 o,U r.2]] j λe W=>e=.returned (.tuple #[])/\dY b b (Lib.byteCells ((g.take i).flatMap ct++ct r)) W/\Below b j W):=λj h=>
     ya B0 b b _ _ r j (λW h2=>he.l (S.trans ((h.mono (by omega)).trans (h2.mono (by omega))))) (y.l h (by omega)) (by omega) (dY.l x.o h) (by omega) (by have:=h.size;omega) b2
    clear b0 y w0;have Y:∀X,bL Q (Q.alloc X):=λX=>bR.alloc lE _
    go_wp2_with fail;go_at_call 186;refine(c9.o _ (Y _)).mono ?_;rintro e w4 ⟨rfl,D,b5⟩;have a0:Hid (dY b b (Lib.byteCells ((g.take (i+1)).flatMap ct)) w4):=by unfold Hid;rw[V.o];exact D
    have b6:Below b W3 w4:=P.trans (((Y _).mono (by omega)).trans b5);have cb:b+1<=w4.1.size:=by have:=b5.size;simp at this;omega
    clear D Y;go_wp2_with fail;exact⟨⟨i+1,by omega,by go_num,a0,b6,cb⟩,by simp[intOf];omega⟩
   obtain rfl:i=n:=by omega
   have hT:Hid ((g.take i).flatMap ct=g.flatMap ct):=by unfold Hid;rw[Ki (by rw[K.o];exact Ke _)]
   have⟨L0,a1⟩:=nM ((g.take i).flatMap ct);rw[<-a1] at x R;have b7:Hid _:=a1;clear a1;have b8:=P.bk af;have hO:∀b9 fr,Obj.cells #[.slice a i m,U f] 30 (0,0)≠.cells b9 5 fr:=λb9 fr e=>by simp at e
   go_wp2_with fail;have ba:Nonempty (rK w.1.size (.cells #[.slice a i m,U f] 30 (0,0))):=⟨⟨Q,b8⟩⟩
   have a3:Hid (∀fs j,sX b b vC 0 3 5 f w.1.size (.cells #[.slice a i m,U f] 30 (0,0)) L0 (d7 f) Q fs j->∃z:rK w.1.size (.cells #[.slice a i m,U f] 30 (0,0)),j=z.1):=λfs j h=>⟨⟨j,h.1⟩,rfl⟩
   have q1:∀z:rK w.1.size (.cells #[.slice a i m,U f] 30 (0,0)),z.1.cell? (pW w 1)=some (U f):=λz=>(ag z.2).2.1
   refine iP (λk=>k==0||k==3||k==4||k==5) (sX b b vC 0 3 5 f w.1.size (.cells #[.slice a i m,U f] 30 (0,0)) L0 (d7 f) Q) (Jx 0 3 4 f (d7 f)) (vh _ _ _ _ _) (by kernel_rfl) (by kernel_rfl) (sX.start b8) ?_;refine bw 188 #[] rfl rfl (λj=>by kernel_rfl) (λgs j C l A=>?_) (λv1 cd=>?_)
   ·refine(jE j).mono ?_;rintro e t ⟨rfl,rfl⟩;exact⟨_,rfl,⟨_,rfl⟩,C.call (by decide) (by decide) (by omega) (by omega)⟩
   go_frame;obtain⟨b1,rfl⟩:∃b:Nat,v1=.slice (sO b) 5 5:=cd;iterate 2(refine aP a3.o rfl rfl ?_;go_big_quiet_step (fail);refine Km ?_)
   refine cz rfl rfl (λgs j C l A=>⟨.pointer (some ⟨b1,f,none⟩),j,gg (np f b1 ac j),⟨b1,rfl⟩,C.idx (by decide) (by decide) (l 0 _ (.inr ⟨rfl,rfl⟩) (au (by kernel_rfl)))⟩) (λv4 cf=>?_);go_frame;obtain⟨b4,rfl⟩:∃b:Nat,v4=.pointer (some ⟨b,f,none⟩):=cf;refine cz rfl rfl (λgs j C l A=>⟨.string (dU (d7 f)),j,?_,rfl,C.other (by decide) (by decide) (by decide)⟩) (λv5 ci=>?_)
   ·have a4:=C.name (l 3 _ (.inr ⟨rfl,rfl⟩) (au (by kernel_rfl))) (GH ac);rw[<-ad.o] at a4;clear C l A q1 a3 ba hO;go_simp
   go_frame;obtain rfl:v5=.string (dU (d7 f)):=ci;refine bw 187 #[.pointer (sO b),.string (dU (d7 f))] rfl rfl (λj=>by kernel_rfl) (λgs j C l A=>C.write (by decide) (by decide) A x.o hO (by omega) (by omega) (by omega)) (λv6 e1=>?_);go_frame;refine ei ?_;intro w6 bb;have⟨E,bc,d3⟩:=bb.2.2.2.2 ⟨v6,.inr ⟨rfl,rfl⟩⟩;have a5:Hid _:=E;have bd:bL w w6:=S.trans (bc.mono (by omega));clear bb q1 a3 ba E;go_wp2_with fail;go_at_call 189;refine(Tryz.Builder_String b b (L0++d7 f) w6 a5.o (λe=>ae.o (MY.1 e).2)).mono ?_;rintro e w7 ⟨rfl,ck⟩;have bf:bL w w7:=bd.trans (ck.mono (by omega));have bg:=Z (by rw[bF.o,b7.o,hT.o]:L0++d7 f=cW (g,(f:Int)));go_wp2_with fail;go_ret2;exact⟨by rw[aa.o,<-bg.o];rfl,bf⟩
 have cl:Hid (ke (g,d)=([],pe)):=H.o pe rfl h0;have hq:(pe != 0)=true:=by simpa using h0
 clear H I J h0;go_enter func156,ntmps156;go_wp2_with fail;go_at_call 144;refine(a8.o _ (B _)).mono ?_;rintro e t ⟨rfl,q⟩;have u:bL w t:=Below.tO (B _) q (by simp);go_wp2_with fail;go_ret2;exact⟨by rw[cl.o];rfl,u⟩
