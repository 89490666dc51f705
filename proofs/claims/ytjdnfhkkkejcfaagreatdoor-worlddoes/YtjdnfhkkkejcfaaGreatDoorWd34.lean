import Derived.Test.YtjdnfhkkkejcfaaGreatDoorWd31
set_option linter.all false
set_option maxRecDepth 100000
set_option maxHeartbeats 8000000
namespace Go.Proofs.YtjdnfhkkkejcfaaGreatDoor
open Go.RowKit Go.Maps Go.Proofs.Tryz
theorem I1{x:List Int}(h:∃a b c d e,x=[a,b,c,d,e]):gu (qM x)=x:=by obtain⟨a,b,c,d,e,rfl⟩:=h;rfl
theorem Fd(p q):(aR (λc=>eB p q (gu c)) 0 ((bj [p,q]).map qM) = -1/\dN p q=none)\/∃ (j:Nat) (c:kh),aR (λc=>eB p q (gu c)) 0 ((bj [p,q]).map qM)=(j:Int)/\((bj [p,q]).map qM)[j]?=some c/\dN p q=some (gu c):=by
 have e:∀x∈bj [p,q],gu (qM x)=x:=λx a=>I1 (rg a)
 rcases ui (λc=>eB p q (gu c)) ((bj [p,q]).map qM) 0 with ⟨f,b⟩|⟨j,c,f,b,k,n⟩
 ·refine .inl ⟨f,?_⟩;unfold dN;rw[MO];intro x a;have:=b (qM x) (List.mem_map_of_mem a);simp only[e x a] at this;simp[this]
 refine .inr ⟨j,c,by rw[f];simp,b,?_⟩;rw[Ku] at b;obtain⟨x,a,rfl⟩:=Option.map_eq_some_iff.1 b;have d:=Kb a;simp only[e x d] at k;rw[e x d];refine zf _ _ j (λy o=>?_) _ a k;obtain⟨i,l,rfl⟩:=List.getElem_of_mem o;have g:i<j:=by simp at l;omega
 have h:i<(bj [p,q]).length:=by simp at l;omega
 have m:(bj [p,q])[i]?=some (bj [p,q])[i]:=by simp[h]
 have:=n i g (qM (bj [p,q])[i]) (by rw[Ku,m];rfl);simp only[e _ (Kb m)] at this
 simpa using this
theorem AH(B pv qv p q w)(hp:aX B w pv p)(hq:aX B w qv q)(hB:B<=w.1.size):
  cL 222 #[pv,qv] w (rT w (.tuple #[.bool (dN p q).isSome,jm (fj p q),U (aT [p,q])])):=by
 have HP:=Z λy (h:bL w y)=>hp.l h hB
 have HQ:=Z λy (h:bL w y)=>hq.l h hB
 obtain⟨m,d⟩:=p;obtain⟨n,f⟩:=q;obtain⟨rv,e1,hd,a3⟩:=hp;obtain⟨sv,e2,hf,a4⟩:=hq;have ba:=Z λy (h:bL w y)=>a3.l h hB
 have bb:=Z λy (h:bL w y)=>a4.l h hB
 obtain⟨a,o,e3,cc,cd,-⟩:=a3;obtain⟨b,i,e4,c0,c1,-⟩:=a4;simp only at e1 e2 e3 e4 hd hf;subst e3 e4 e1 e2;have bc:=Z hd;have bd:=Z hf;clear hd hf;generalize bf:m.length=P at*;generalize bg:n.length=Q at*;clear bf bg;go_enter func222,ntmps222;have⟨J,A⟩:=nM (((w.alloc (.cells #[.slice a P o,U d] 30)).alloc (.cells #[.slice b Q i,U f] 30)).alloc (.cells #[U 0,U 0,U 0,U 0,U 0] 34));have a5:J.1.size=w.1.size+1+1+1:=by rw[A];simp
 have K:bL w J:=by rw[A];exact((bR.alloc lE _).alloc (by simp) _).alloc (by simp;omega) _
 have L:Hid (∀y,Below (w.1.size+3) J y->y.1[w.1.size]?=some (.cells #[.slice a P o,U d] 30 (0,0))/\y.1[w.1.size+1]?=some (.cells #[.slice b Q i,U f] 30 (0,0))/\y.1[w.1.size+1+1]?=some (.cells (fJ λ_=>0) 34 (0,0))):=by
  intro y h;have e0:J.1[w.1.size]?=some (.cells #[.slice a P o,U d] 30 (0,0)):=by rw[A,Kq _ _ _ (by simp;omega),Kq _ _ _ (by simp)];exact ah _ _
  have e1:J.1[w.1.size+1]?=some (.cells #[.slice b Q i,U f] 30 (0,0)):=by rw[A,Kq _ _ _ (by simp)];have:=ah (w.alloc (.cells #[.slice a P o,U d] 30)) (.cells #[.slice b Q i,U f] 30);rw[Kg] at this;exact this
  have e2:J.1[w.1.size+1+1]?=some (.cells (fJ λ_=>0) 34 (0,0)):=by rw[A];have:=ah ((w.alloc (.cells #[.slice a P o,U d] 30)).alloc (.cells #[.slice b Q i,U f] 30)) (.cells (fJ λ_=>0) 34);rw[Kg,Kg] at this;exact this
  exact⟨h.bk e0,h.bk e1,h.bk e2⟩
 have a6:=wJ (p:=(m,d)) (q:=(n,f)) (K.u hB) (ba.o _ K) bc.o (bb.o _ K) bd.o 30;have T:=uf _ _ _ _ a6 (by simp) (by simp);rw[a5] at T;have R:Hid _:=T;have a7:Below (w.1.size+3) J (J.alloc (.cells #[.slice a P o,U d,.slice b Q i,U f] 30)):=bR.alloc (by omega) _;have V:(J.alloc (.cells #[.slice a P o,U d,.slice b Q i,U f] 30)).1.size=w.1.size+4:=by simp[a5]
 clear T a6;go_wp2_with fail;rw[<-A];clear A;go_at_call 230;refine Calls.mono R.o ?_;rintro e W ⟨v5,rfl,a8,M⟩
 try unfold bL at M
 rw[V] at M;have r:Below (w.1.size+3) J W:=Mj a7 (M.mono (by omega));have bk:=M.size;rw[V] at bk;have s:bL w W:=K.trans (r.mono (by omega));have a9:=Fd (m,d) (n,f);have D:Hid (aT [(m,d),(n,f)]≠0->dN (m,d) (n,f)=none):=CJ;have E:Hid (fj (m,d) (n,f)=match dN (m,d) (n,f) with|some x=>Cn x|none=>λ_=>0):=rfl;obtain⟨b0,b1,-⟩:=L.o _ r
 have O:Hid (cL 231 #[v5,.func (.func 232) #[] #[.pointer (sO w.1.size),.pointer (sO (w.1.size+1))]] W λe y=>e=.returned (U (aR (λc=>eB (m,d) (n,f) (gu c)) 0 ((bj [(m,d),(n,f)]).map qM)))/\bL W y):=
  vt B W.1.size w.1.size (w.1.size+1) a b P o Q i d f (m,d) (n,f) v5 _ W a8 lE (HP.o _ s) (HQ.o _ s) (s.u hB) (J0 b0) (J1 b0) (J0 b1) (J1 b1) (by omega) (by omega)
 obtain⟨g5,c3,rfl,aa,c4,S⟩:=a8;have F:=Z S;have t:Hid _:=a9;have X:Hid _:=s;have cf:=ai;clear S R a7 V b0 b1 a9 HP HQ s;generalize aR (λc=>eB (m,d) (n,f) (gu c)) 0 ((bj [(m,d),(n,f)]).map qM)=z at*;have⟨cs,ac⟩:=nM ((bj [(m,d),(n,f)]).map qM)
 rw[<-ac] at O F t aa |-
 clear ac;have⟨pe,Y⟩:=nM (aT [(m,d),(n,f)]);have G:=Z Y.symm
 rw[<-Y] at D |-
 clear Y;generalize hN:cs.length=N at*;have bq:=Z hN;clear hN;have l2:w.1.size+1+1<W.1.size:=by omega
 by_cases hz:pe=0
 ·have HZ:=Z hz
  rcases t.o with ⟨rfl,a1⟩|⟨j,c,rfl,hj,C⟩
  ·have u:=Z2 a1 (by rw[E.o,a1]:fj (m,d) (n,f)=λ_=>0);subst hz;clear a1 t E D F;go_wp2_with fail;go_at_call 231;refine Calls.mono O.o ?_;rintro e w6 ⟨rfl,l⟩;obtain⟨-,-,H⟩:=L.o _ (r.trans (l.mono (by omega)));have k:=(eD H).1;have g:=(eD H).2;have r0:=k 0 (by omega);have r1:=k 1 (by omega);have r2:=k 2 (by omega);have r3:=k 3 (by omega);have r4:=k 4 (by omega);have f0:=g 0;have f1:=g 1;have f2:=g 2;have f3:=g 3;have f4:=g 4;have I:bL w w6:=X.o.th l;clear k g H l;go_wp2_with fail;refine Ka (v:=.tuple #[.bool false,.agg #[U 0,U 0,U 0,U 0,U 0],U 0]) ?_ rfl ⟨by rw[u.o.1,u.o.2,G.o];rfl,?_⟩
   ·simp[results,Tryz.results222,go_sem,r0,r1,r2,r3,r4]
   repeat(first|exact I|refine Ky ?_ (by simp;omega) _)
  have u:=Z2 C (by rw[E.o,C]:fj (m,d) (n,f)=Cn (gu c));have ck:j<N:=by rw[<-bq.o];exact(K9.1 hj).1
  obtain⟨gb,go,rfl,ao,av⟩:=F.o j c hj;subst hz;have j0:(0:Int)<=(j:Int):=by omega
  have j1:(j:Int)<(N:Int):=by omega
  clear C t E D F hj;go_wp2_with fail;go_at_call 231;refine Calls.mono O.o ?_;rintro e w6 ⟨rfl,l⟩;obtain⟨-,-,H⟩:=L.o _ (r.trans (l.mono (by omega)));have⟨k0,k1,k2,k3,k4⟩:=av.l l ao;have cb:gb<w6.1.size:=Kd ao l.size;have k:=(eD H).1;have g:=(eD H).2;have r0:=k 0 (by omega);have r1:=k 1 (by omega);have r2:=k 2 (by omega);have r3:=k 3 (by omega);have r4:=k 4 (by omega);have f0:=g 0;have f1:=g 1;have f2:=g 2;have f3:=g 3;have f4:=g 4;have I:bL w w6:=X.o.th l;have b3:=Z (by rw[u.o.2];rfl:jm (fj (m,d) (n,f))=.agg #[U c.1,U c.2.1,U c.2.2.1,U c.2.2.2.1,U c.2.2.2.2]);clear k g H l av;generalize c.1=x0 at*;generalize c.2.1=x1 at*;generalize c.2.2.1=x2 at*;generalize c.2.2.2.1=x3 at*;generalize c.2.2.2.2=x4 at*;go_wp2_with fail;go_region;go_wp2_with fail;refine Ka (v:=.tuple #[.bool true,.agg #[U x0,U x1,U x2,U x3,U x4],U 0]) ?_ rfl ⟨by rw[u.o.1,b3.o,G.o];rfl,?_⟩
  ·simp[results,Tryz.results222,go_sem,r0,r1,r2,r3,r4]
  refine Below.drew ?_;repeat(first|exact I|refine Ky ?_ (by simp;omega) _)
 have u:=Z2 (D.o hz) (by rw[E.o,D.o hz]:fj (m,d) (n,f)=λ_=>0);have hq:(pe != 0)=true:=by simpa using hz
 obtain⟨-,-,H⟩:=L.o _ r;have k:=(eD H).1;have g:=(eD H).2;have r0:=k 0 (by omega);have r1:=k 1 (by omega);have r2:=k 2 (by omega);have r3:=k 3 (by omega);have r4:=k 4 (by omega);have f0:=g 0;have f1:=g 1;have f2:=g 2;have f3:=g 3;have f4:=g 4;clear k g H hz t E D F O;go_wp2_with fail;refine Ka (v:=.tuple #[.bool false,.agg #[U 0,U 0,U 0,U 0,U 0],U pe]) ?_ rfl ⟨by rw[u.o.1,u.o.2,G.o];rfl,?_⟩
 ·simp[results,Tryz.results222,go_sem,r0,r1,r2,r3,r4]
 repeat(first|exact X.o|refine Ky ?_ (by simp;omega) _)
