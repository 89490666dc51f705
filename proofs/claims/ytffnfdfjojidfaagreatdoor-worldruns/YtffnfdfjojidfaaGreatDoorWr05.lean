import Derived.Test.YtffnfdfjojidfaaGreatDoorWr02
import Derived.Test.YtffnfdfjojidfaaGreatDoorWr03
set_option linter.all false
set_option maxRecDepth 100000
set_option maxHeartbeats 4000000
namespace Go.Proofs.YtffnfdfjojidfaaGreatDoor
open Go.RowKit Go.Maps Go.Proofs.Tryz
@[go_sem] theorem Ix {P:Program} {w:World} {a:Addr} {m:Mode} (b:Fn) (first captured:Array Value):(store a (.func b first captured) m).run P w=stored P w a (.func b first captured) m:=run_store P w a _ m rfl
def cP(p:aD)(i:Int):Int × Int:=if i<0 then (p.2,p.1.length) else ((p.1.getD i.toNat ([],0)).2,i)
def eH(p:aD)(x:Nat->Int):Int × Int × Int:=
 if aj p=0 then (if eC x=0 then ((cP p (aR (bu x) 0 p.1)).1,(cP p (aR (bu x) 0 p.1)).2,0) else (0,0,eC x)) else (0,0,aj p)
theorem qK{α:Type}(f:α->Bool):∀ (l:List α) (k:Nat),0<=aR f k l->(k:Int)<=aR f k l/\aR f k l<(k:Int)+l.length
 |[],_,h=>by simp[aR] at h
 |c :: r,k,h=>by
  unfold aR at h |-
  by_cases a:f c=true
  ·simp[a];omega
  simp only[iO a] at h |-
  have:=qK f r (k+1) h
  simp at this |-
  omega
theorem yD(B pv p)(x:Nat->Int)(w)(P:aX B w pv p)(hB:B<=w.1.size):
  cL 254 #[pv,jm x] w (rT w (.tuple #[U (eH p x).1,U (eH p x).2.1,U (eH p x).2.2])):=by
 have t:Hid (∀u,bL w u->cL 144 #[pv] u (rT u (U (aj p)))):=λu h=>gZ B pv p u (P.l h hB) (by have:=h.size;omega)
 have v:Hid (∀u,cL 45 #[jm x] u (rT u (U (eC x)))):=λu=>pN (x 0) (x 1) (x 2) (x 3) (x 4) u
 have K:=Z P;obtain⟨g,d⟩:=p;obtain⟨M,rfl,_,a,m,rfl,Q,af,_⟩:=P;show cL 254 #[.agg #[.slice a g.length m,U d],.agg #[U (x 0),U (x 1),U (x 2),U (x 3),U (x 4)]] w _;have v:=Z v;simp only[] at t Q;have l:∀X Y,bL w ((w.alloc X).alloc Y):=λX Y=>(bR.alloc lE _).alloc (by simp) _
 by_cases H:aj (g,d)=0
 ·have R:(aj (g,d) != 0)=false:=by simpa using H
  have I:Hid (∀X Y y,X=.cells #[.slice a g.length m,U d] 30->Below ((w.alloc X).alloc Y).1.size ((w.alloc X).alloc Y) y->y.cell? (pW w 0)=some (.slice a g.length m)/\y.cell? (pW w 1)=some (U d)):=by intro X Y y hX E;subst hX;exact⟨(E.cell (p:=pW w 0) (by simp;omega)).trans (by simp[go_sem]),(E.cell (p:=pW w 1) (by simp;omega)).trans (by simp[go_sem])⟩
  have q:Hid (∀X y,Below ((w.alloc X).alloc (.cells #[U (x 0),U (x 1),U (x 2),U (x 3),U (x 4)] 34)).1.size ((w.alloc X).alloc (.cells #[U (x 0),U (x 1),U (x 2),U (x 3),U (x 4)] 34)) y->rA y (w.1.size+1) x):=by
   intro X y E;have:=(rA.made x (w.alloc X) 34).l E (by simp)
   simpa using this
  by_cases N:eC x=0
  ·have S:(eC x != 0)=false:=by simpa using N
   have J:Hid (eH (g,d) x=((cP (g,d) (aR (bu x) 0 g)).1,(cP (g,d) (aR (bu x) 0 g)).2,0)):=by unfold Hid;rw[eH,Io H,Io N]
   have T:∀r∈g,bH r=0:=cM (cY H).2.2
   have A:Hid (∀C L,bL w C->rA C (w.1.size+1) x->w.1.size+1<C.1.size->C.cell? (pA L 0)=some (nt (w.1.size+1))->L<C.1.size->cL 272 #[.slice a g.length m,.func (.func 273) #[] #[.pointer (sO L)]] C (rT C (U (aR (bu x) 0 g)))):=by
    intro C L E h2 h3 h4 h5;obtain⟨M,W,_,F⟩:=K.o;obtain rfl:M=.slice a g.length m:=by simpa using W.symm
    exact xB B _ g x (w.1.size+1) L C (F.l E hB) (by have:=E.size;omega) T h2 h3 h4 h5
   by_cases hz:aR (bu x) 0 g<0
   ·have V:Hid (eH (g,d) x=(d,(g.length:Int),0)):=by unfold Hid;rw[J.o,cP,Io hz]
    generalize aR (bu x) 0 g=z at*;generalize hn:g.length=n at*;go_enter func254,ntmps254
    go_wp2_with (first
     |(go_at_call 144;refine(t.o _ (l _ _)).mono ?_;rintro e y ⟨rfl,f⟩;have x0:=q.o _ _ f 0 (by omega);have x1:=q.o _ _ f 1 (by omega);have x2:=q.o _ _ f 2 (by omega);have x3:=q.o _ _ f 3 (by omega);have x4:=q.o _ _ f 4 (by omega))
     |(go_at_call 45;refine(v.o _).mono ?_;rintro e O ⟨rfl,i⟩;have c:=f.th i;have pz:∀X,(O.alloc X).cell? (pW w 0)=some (.slice a n m):=λX=>(I.o _ _ _ rfl (f.th (i.alloc i.size X))).1)
     |(go_at_call 272;refine(A.o _ _ (Below.tO (l _ _) (c.alloc c.size _) (by simp;omega)) (q.o _ _ (c.alloc c.size _)) (by have:=c.size;simp at this |-;omega) (by simp[go_sem,nt]) (by simp)).mono ?_;rintro e w4 ⟨rfl,G⟩;have j:=Below.tO (c.alloc c.size _) G (by have:=c.size;simp at this |-;omega);have q0:=(I.o _ _ _ rfl j).1;have q1:=(I.o _ _ _ rfl j).2;have s:=Below.tO (l _ _) j (by simp;omega)))
    go_quiet (fail);go_wp2;go_ret3;exact⟨by rw[V.o];rfl,Below.drewN_ s _⟩
   obtain⟨k,hk⟩:∃k:Nat,aR (bu x) 0 g=k:=⟨(aR (bu x) 0 g).toNat,by omega⟩;have a2:k<g.length:=by have:=qK (bu x) g 0 (by omega);omega
   obtain⟨r,hr⟩:∃r,g[k]?=some r:=⟨g[k],by simp[a2]⟩;have V:Hid (eH (g,d) x=(r.2,(k:Int),0)):=by unfold Hid;rw[J.o,cP,hk,iO (by omega)];simp[List.getD,hr]
   rw[hk] at A;have i0:(0:Int)<=(k:Int):=by omega
   obtain⟨b,o,rfl,b5,D⟩:∃b o,a=some ⟨b,o,none⟩/\b<B/\gO B w b (o+k*2) r:=by
    obtain⟨M,W,_,a',ad,e2,_,_,F⟩:=K.o;obtain rfl:M=.slice a g.length m:=by simpa using W.symm
    simp only[Value.slice.injEq] at e2;obtain⟨rfl,_,rfl⟩:=e2;exact F k r hr
   have a3:Hid (w.cell? ⟨b,o+k*2+1,none⟩=some (U r.2)):=by obtain⟨_,_,h,_⟩:=D;exact h
   clear D hk hz;generalize hn:g.length=n at*;have i1:(k:Int)<(n:Int):=by omega
   go_enter func254,ntmps254
   go_wp2_with (first
    |(go_at_call 144;refine(t.o _ (l _ _)).mono ?_;rintro e y ⟨rfl,f⟩;have x0:=q.o _ _ f 0 (by omega);have x1:=q.o _ _ f 1 (by omega);have x2:=q.o _ _ f 2 (by omega);have x3:=q.o _ _ f 3 (by omega);have x4:=q.o _ _ f 4 (by omega))
    |(go_at_call 45;refine(v.o _).mono ?_;rintro e O ⟨rfl,i⟩;have c:=f.th i;have pz:∀X,(O.alloc X).cell? (pW w 0)=some (.slice (some ⟨b,o,none⟩) n m):=λX=>(I.o _ _ _ rfl (f.th (i.alloc i.size X))).1)
    |(go_at_call 272;refine(A.o _ _ (Below.tO (l _ _) (c.alloc c.size _) (by simp;omega)) (q.o _ _ (c.alloc c.size _)) (by have:=c.size;simp at this |-;omega) (by simp[go_sem,nt]) (by simp)).mono ?_;rintro e w4 ⟨rfl,G⟩;have j:=Below.tO (c.alloc c.size _) G (by have:=c.size;simp at this |-;omega);have q0:=(I.o _ _ _ rfl j).1;have q1:=(I.o _ _ _ rfl j).2;have s:=Below.tO (l _ _) j (by simp;omega);have q2:=(s.cell (p:=⟨b,o+k*2+1,none⟩) (by show b<w.1.size;omega)).trans a3.o))
   go_ret3;exact⟨by rw[V.o];rfl,s⟩
  have J:Hid (eH (g,d) x=(0,0,eC x)):=by unfold Hid;rw[eH,Io H,iO N]
  have S:(eC x != 0)=true:=by simpa using N
  generalize hn:g.length=n at*;go_enter func254,ntmps254
  go_wp2_with (first
   |(go_at_call 144;refine(t.o _ (l _ _)).mono ?_;rintro e y ⟨rfl,f⟩;have x0:=q.o _ _ f 0 (by omega);have x1:=q.o _ _ f 1 (by omega);have x2:=q.o _ _ f 2 (by omega);have x3:=q.o _ _ f 3 (by omega);have x4:=q.o _ _ f 4 (by omega))
   |(go_at_call 45;refine(v.o _).mono ?_;rintro e O ⟨rfl,i⟩))
  go_ret3;exact⟨by rw[J.o];rfl,Below.tO (Below.tO (l _ _) f (by simp;omega)) i (by have:=f.size;simp at this;omega)⟩
 have J:Hid (eH (g,d) x=(0,0,aj (g,d))):=by unfold Hid;rw[eH,iO H]
 have R:(aj (g,d) != 0)=true:=by simpa using H
 generalize hn:g.length=n at*;go_enter func254,ntmps254;go_wp2_with (first|(go_at_call 144;refine(t.o _ (l _ _)).mono ?_;rintro e u ⟨rfl,i⟩));go_ret3;exact⟨by rw[J.o];rfl,Below.tO (l _ _) i (by simp;omega)⟩
def jf(p:aD)(x:Nat->Int)(m:Nat):Int × Int:=cP p (aR (bu x) m (p.1.drop m))
theorem Dm(p)(x:Nat->Int):jf p x p.1.length=(p.2,(p.1.length:Int)):=by unfold jf;rw[KJ lE];rfl
theorem Cd(p:aD)(x:Nat->Int)(m:Nat)(r:aq)(h:p.1[m]?=some r):jf p x m=if bu x r=true then (r.2,(m:Int)) else jf p x (m+1):=by
 unfold jf;rw[ku _ _ _ _ h]
 split
 ·rw[cP,iO (by omega)];simp[List.getD,h]
 rfl
theorem I5(f:aN->Bool)(cs:List aN)(j:Nat)(c:aN)(h:cs[j]?=some c):(cs.take (j+1)).all f=((cs.take j).all f&&f c):=by rw[LC,h,List.all_append];simp
theorem rm(B pv p)(x:Nat->Int)(w)(hp:aX B w pv p)(hB:B<=w.1.size)(Q:aj p=0):
  cL 148 #[pv,jm x] w λe H=>e=.returned (.tuple #[U (cP p (aR (bu x) 0 p.1)).1,U (cP p (aR (bu x) 0 p.1)).2])/\bL w H:=by
 have R:Hid (cP p (aR (bu x) 0 p.1)=jf p x 0):=rfl;have V:=cM (cY Q).2.2;have I:=(cY Q).1;obtain⟨l,d⟩:=p;obtain⟨rv,rfl,_,a,q,rfl,ao,c4,J⟩:=hp;simp only[] at J ao V I;have X:=Z J;clear J;have F:=Z (Dm (l,d) x);have K:=Z λ(m:Nat) r (h:l[m]?=some r)=>Cd (l,d) x m r h
 show cL 148 #[.agg #[.slice a l.length q,U d],.agg #[U (x 0),U (x 1),U (x 2),U (x 3),U (x 4)]] w _
 have HW:Hid (∀H,Below (w.1.size+2) ((w.alloc (.cells #[.slice a l.length q,U d] 30)).alloc (.cells #[U (x 0),U (x 1),U (x 2),U (x 3),U (x 4)] 34)) H->H.cell? (pW w 0)=some (.slice a l.length q)/\rA H (w.1.size+1) x/\bL w H):=by
  intro H h;refine⟨(h.cell (p:=pW w 0) (by simp)).trans (by simp[go_sem]),?_,?_⟩
  ·have:=(rA.made x (w.alloc (.cells #[.slice a l.length q,U d] 30)) 34);rw[Kg] at this;exact this.l h (by omega)
  exact((bR.alloc lE _).alloc (by simp) _).trans (h.mono (by omega))
 have av:Below (w.1.size+2) ((w.alloc (.cells #[.slice a l.length q,U d] 30)).alloc (.cells #[U (x 0),U (x 1),U (x 2),U (x 3),U (x 4)] 34)) ((w.alloc (.cells #[.slice a l.length q,U d] 30)).alloc (.cells #[U (x 0),U (x 1),U (x 2),U (x 3),U (x 4)] 34)):=Kf _ _;have b0:w.1.size+2<=((w.alloc (.cells #[.slice a l.length q,U d] 30)).alloc (.cells #[U (x 0),U (x 1),U (x 2),U (x 3),U (x 4)] 34)).1.size:=by simp
 generalize hn:l.length=n at*;go_enter func148,ntmps148;go_wp2;go_quiet (fail);go_wp2;go_loopw [8,6,7] (λi vv kk wr=>∃m:Nat,m<=n/\i=U ((m:Int)-1)/\vv=U (jf (l,d) x m).1/\kk=U (jf (l,d) x m).2/\Below (w.1.size+2) ((w.alloc (.cells #[.slice a n q,U d] 30)).alloc (.cells #[U (x 0),U (x 1),U (x 2),U (x 3),U (x 4)] 34)) wr) (λi _ _ _=>(intOf i+1).toNat)
 case atStart=>
  refine⟨n,by omega,by go_num,by rw[F.o],by rw[F.o],Below.drewN_ av _⟩
 case round=>
  obtain⟨m,hm,rfl,rfl,rfl,L⟩:=hrel;have⟨wo,b1⟩:=nM (wr);subst b1;obtain⟨p0,hX,M⟩:=HW.o _ L;have b3:=Z hX;clear hX
  by_cases b4:m=0
  ·subst b4;go_wp2;go_ret2;exact⟨by rw[R.o];rfl,M⟩
  obtain⟨k,rfl⟩:∃k,m=k+1:=⟨m-1,by omega⟩;have e1:((k+1:Nat):Int)-1=(k:Int):=by omega
  rw[e1];have i0:(0:Int)<=(k:Int):=by omega
  have i1:(k:Int)<(n:Int):=by omega
  obtain⟨r,D⟩:∃r,l[k]?=some r:=⟨l[k]'(by omega),by simp⟩;have Y:=V r (Kb D);have S:=K.o k r D;have S':Hid _:=S;clear S;obtain⟨b,o,rfl,b6,a0⟩:=X.o k r D;have c7:=M.size;have a1:=L.size;have b7:=Kl b0 a1;have⟨cv,c0,c1,w0,a3⟩:=a0.l M hB b6;obtain⟨z,vd⟩:=r;obtain⟨a2,bo,rfl,a4,bp,N⟩:=a3;simp only[] at N a4 c0 c1;have b9:=fy (dy Y).2.2;have ca:=(dy Y).1;have a5:=Z N;clear N a0 D;have HA:Hid (bu x (z,vd)=(z.take z.length).all (dQ x)):=by unfold Hid bu;simp
  generalize cb:z.length=m2 at*;go_wp2;go_loopw [32,9] (λi al A=>∃j:Nat,j<=m2/\i=U j/\al=.bool ((z.take j).all (dQ x))/\bL wo A) (λi _ _=>m2-(intOf i).toNat)
  case atStart=>exact⟨0,by omega,rfl,by simp,Kf _ _⟩
  case round=>
   obtain⟨j,hj,rfl,rfl,u⟩:=hrel;have⟨A,ba⟩:=nM (wr);subst ba;have j0:(0:Int)<=(j:Int):=by omega
   have a7:=u.size
   by_cases cd:j<m2
   ·have j1:(j:Int)<(m2:Int):=by omega
    obtain⟨c,E⟩:∃c,z[j]?=some c:=⟨z[j]'(by omega),by simp⟩;have T:=I5 (dQ x) z j c E;have T':Hid _:=T;clear T;have a8:=ft (b9 c (Kb E));obtain⟨b2,o2,rfl,bs,G⟩:=a5.o j c E;clear E;obtain⟨f,O,v⟩:=c;simp only[] at a8;obtain⟨e0,e1,e2,w0,w1,w2⟩:=G.l u (by omega);simp only[] at e0 e1 e2;clear G;obtain⟨s,rfl⟩:∃s:Nat,f=s:=⟨f.toNat,by omega⟩;have f0:(0:Int)<=(s:Int):=by omega
    have f1:(s:Int)<5:=by omega
    have iY:=a8.2.1;go_wp2;have hC:=Hl (s:Int) O v A 136;have a9:bL A (A.alloc (.cells #[U (s:Int),U O,U v] 136)):=bR.alloc lE _;have hz:(A.alloc (.cells #[U (s:Int),U O,U v] 136)).1.size=A.1.size+1:=by simp
    generalize A.alloc (.cells #[U (s:Int),U O,U v] 136)=W at*;have aa:=ax.ne W;have q0:∀y:ax W,y.1.cell? (pW A 0)=some (U (s:Int)):=λy=>y.cell hC.1 (by omega)
    have q1:∀y:ax W,y.1.cell? (pW A 1)=some (U O):=λy=>y.cell hC.2.1 (by omega)
    have q2:∀y:ax W,y.1.cell? (pW A 2)=some (U v):=λy=>y.cell hC.2.2 (by omega)
    have ac:rA W (w.1.size+1) x:=(b3.o.l u (by omega)).l a9 (by omega);have q3:∀y:ax W,y.1.cell? ⟨w.1.size+1,s,none⟩=some (U (x s)):=λy=>y.cell (ac s (by omega)) (by omega)
    have ad:Hid (∀P,bL W P->bL wo P):=λP hx=>Below.tO (Below.tO u a9 a7) hx (by omega)
    have bb:Hid (dQ x ((s:Int),O,v)=iG O v (x s)):=by unfold Hid dQ;simp
    clear hC ac
    by_cases g:(z.take j).all (dQ x)=true
    ·rw[g];refine aW (by kernel_rfl) (by kernel_rfl) ?_;repeat(go_big_quiet_step (first|(go_at_call 183;exact Calls.l (vy _ _ _ _ iY _))))
     refine Km ?_;rintro P ⟨⟨_,hx⟩,rfl⟩;have g1:=ad.o P hx;clear q0 q1 q2 q3 aa;go_wp2;exact⟨⟨j+1,by omega,by go_num,by rw[T'.o,g,bb.o];simp,g1⟩,by simp[intOf];omega⟩
    have t:(z.take j).all (dQ x)=false:=by simpa using g
    rw[t];clear g;refine aW (by kernel_rfl) (by kernel_rfl) ?_;repeat(go_big_quiet_step (first|(go_at_call 183;exact Calls.l (vy _ _ _ _ iY _))))
    refine Km ?_;rintro P ⟨⟨_,hx⟩,rfl⟩;have g1:=ad.o P hx;clear q0 q1 q2 q3 aa;go_wp2;exact⟨⟨j+1,by omega,by go_num,by rw[T'.o,t];simp,g1⟩,by simp[intOf];omega⟩
   obtain rfl:j=m2:=by omega
   have C:=Below.tO L u b7;obtain⟨p1,_,_⟩:=HW.o _ C;have d1:A.cell? ⟨b,o+k*2+1,none⟩=some (U vd):=(u.cell (p:=⟨b,o+k*2+1,none⟩) (by show b<_;omega)).trans c1
   by_cases g:(z.take j).all (dQ x)=true
   ·have hS:=Z (by rw[S'.o,Io (by rw[HA.o];exact g)]:jf (l,d) x k=(vd,(k:Int)));rw[g];go_wp2;exact⟨⟨k,by omega,by go_num,by rw[hS.o],by rw[hS.o],C⟩,by simp[intOf]⟩
   have t:(z.take j).all (dQ x)=false:=by simpa using g
   have hS:=Z (by rw[S'.o,iO (by rw[HA.o];exact g)]:jf (l,d) x k=jf (l,d) x (k+1));rw[t];clear g;go_wp2;exact⟨⟨k,by omega,by go_num,by rw[hS.o],by rw[hS.o],C⟩,by simp[intOf]⟩
theorem bG.shape{B w v cs}(h:bG B w v cs):∃a n b,v=.slice a n b:=by obtain⟨a,b,e,_⟩:=h;exact⟨a,_,b,e⟩
theorem bD.shape{B w v rs}(h:bD B w v rs):∃a b,v=.slice a rs.length b:=by obtain⟨a,b,e,_⟩:=h;exact⟨a,b,e⟩
theorem zk(B cv dv)(r s:aq)(w)(h:bG B w cv r.1)(i:bG B w dv s.1)(m:B<=w.1.size):
  cL 122 #[.agg #[cv,U r.2],.agg #[dv,U s.2]] w (rT w (.bool (decide (r=s)))):=by
 obtain⟨d,g⟩:=r;obtain⟨f,j⟩:=s;have b:∀X Y,bL w ((w.alloc X).alloc Y):=λX Y=>(bR.alloc lE _).alloc (by simp) _
 have c:Hid (∀X Y,cL 85 #[cv,dv] ((w.alloc X).alloc Y) λe o=>e=.returned (.bool (decide (d=f)))/\Below ((w.alloc X).alloc Y).1.size ((w.alloc X).alloc Y) o):=λX Y=>oM B cv dv d f _ (h.l (b X Y) m) (i.l (b X Y) m) (by simp;omega)
 obtain⟨a,n,t,rfl⟩:=h.shape;obtain⟨v,x,p,rfl⟩:=i.shape;clear h i;simp only[]
 by_cases k:g=j
 ·subst k;have E:=Z (by simp:decide (((d,g):aq)=(f,g))=decide (d=f));generalize decide (d=f)=q at*;go_enter func122,ntmps122;go_wp2_with (first|(go_at_call 85;refine(c.o _ _).mono ?_;rintro e o ⟨rfl,l⟩));go_ret;exact⟨by rw[E.o];rfl,Below.tO (b _ _) l (by simp;omega)⟩
 have E:=Z (by simp;intro _;exact k:decide (((d,g):aq)=(f,j))=false);have u:(g==j)=false:=by simpa using k
 go_enter func122,ntmps122;go_wp2;go_ret;exact⟨by first|rfl|(rw[E.o];rfl),b _ _⟩
theorem xb(B rv sv rs ss w)(hr:bD B w rv rs)(hs:bD B w sv ss)(V:B<=w.1.size):
  cL 121 #[rv,sv,.func (.func 122) #[] #[]] w (rT w (.bool (decide (rs=ss)))):=by
 obtain⟨a,ae,rfl,af,ak,A⟩:=hr;obtain⟨a2,W,rfl,C,a0,D⟩:=hs;have E:=Z A;have F:=Z D;clear A D
 by_cases c:rs.length=ss.length
 ·generalize hn:rs.length=n at*;have hm:=c.symm;clear c;rw[hm] at C;simp only[hm];have al:n<=9223372036854775807:=by have:=ai;omega
  go_enter func121,ntmps121;go_wp2;go_loopw [17] (λi wr=>∃k:Nat,k<=n/\i=U k/\Hid (∀i,i<k->rs[i]?=ss[i]?)/\bL w wr) (λi _=>n-(intOf i).toNat)
  case atStart=>exact⟨0,by omega,rfl,λi h=>absurd h (by omega),Kf _ _⟩
  case round=>
   obtain⟨k,hk,rfl,H,d⟩:=hrel;have i0:(0:Int)<=(k:Int):=by omega
   by_cases ao:k<n
   ·have i1:(k:Int)<(n:Int):=by omega
    obtain⟨r,u⟩:∃r,rs[k]?=some r:=⟨rs[k]'(by omega),by simp⟩;obtain⟨s,v⟩:∃s,ss[k]?=some s:=⟨ss[k]'(by omega),by simp⟩;obtain⟨b,o,rfl,N,G⟩:=E.o k r u;obtain⟨z,M,rfl,I,j⟩:=F.o k s v;have l:=Z u;have t:=Z v;clear u v;have O:=d.size;have⟨cv,c0,c1,w0,f⟩:=G.l d V N;have⟨dv,d0,d1,w1,g⟩:=j.l d V I;have x:∀X Y,bL wr ((wr.alloc X).alloc Y):=λX Y=>(bR.alloc lE _).alloc (by simp) _
    have y:Hid (∀X Y,cL 122 #[.agg #[cv,U r.2],.agg #[dv,U s.2]] ((wr.alloc X).alloc Y) λe P=>e=.returned (.bool (decide (r=s)))/\Below ((wr.alloc X).alloc Y).1.size ((wr.alloc X).alloc Y) P):=λX Y=>zk B cv dv r s _ (f.l (x X Y) (by omega)) (g.l (x X Y) (by omega)) (by simp;omega)
    obtain⟨a3,n3,a7,rfl⟩:=f.shape;obtain⟨a4,n4,J,rfl⟩:=g.shape;clear G j f g;generalize r.2=b4 at*;generalize s.2=Q at*;have ha:∀X,(wr.alloc X).cell? ⟨z,M+k*2,none⟩=some (.slice a4 n4 J):=λX=>(((Kf wr.1.size wr).alloc lE X).cell (p:=⟨z,M+k*2,none⟩) (by show z<wr.1.size;omega)).trans d0
    have b5:∀X,(wr.alloc X).cell? ⟨z,M+k*2+1,none⟩=some (U Q):=λX=>(((Kf wr.1.size wr).alloc lE X).cell (p:=⟨z,M+k*2+1,none⟩) (by show z<wr.1.size;omega)).trans d1
    generalize hq:decide (r=s)=q at*;have K:=Z hq;clear hq;go_wp2_with (first|(go_at_call 122;refine(y.o _ _).mono ?_;rintro e P ⟨rfl,R⟩))
    all_goals have L:bL w P:=Below.tO (Below.tO d (x _ _) O) R (by simp;omega)
    ·go_ret;refine⟨?_,L⟩;have c:r≠s:=by have h:=K.o;rw[(by simpa using (by assumption:(!q)=true):q=false)] at h;simpa using h
     have:rs≠ss:=by intro h;have h1:=l.o;rw[h,t.o] at h1;exact c (KG h1).symm
     simp[this]
    have S:r=s:=by have h:=K.o;rw[(by simpa using (by assumption:(!q)=false):q=true)] at h;simpa using h
    refine⟨⟨k+1,by omega,by go_num,λi hi=>?_,L⟩,by simp[intOf];omega⟩
    by_cases T:i=k
    ·subst T;rw[l.o,t.o,S]
    exact H.o i (by omega)
   go_wp2;go_ret;refine⟨?_,d⟩
   have:rs=ss:=by
    refine LD λi=>?_
    by_cases hi:i<k
    ·exact H.o i hi
    rw[KP (by omega),KP (by omega)]
   simp[this]
 have b6:((rs.length:Int) != (ss.length:Int))=true:=by simp;omega
 have hf:=Z (by simp;intro h;rw[h] at c;exact c rfl:decide (rs=ss)=false);generalize rs.length=n at*;generalize ss.length=m at*;go_enter func121,ntmps121;go_wp2;go_ret;exact⟨by rw[hf.o];rfl,Kf _ _⟩
theorem BX(B pv qv p q w)(t:aX B w pv p)(u:aX B w qv q)(m:B<=w.1.size):
  cL 95 #[pv,qv] w (rT w (.bool (decide (p=q)))):=by
 obtain⟨d,g⟩:=p;obtain⟨f,h⟩:=q;obtain⟨n,rfl,_,i⟩:=t;obtain⟨o,rfl,_,j⟩:=u;have b:∀X Y,bL w ((w.alloc X).alloc Y):=λX Y=>(bR.alloc lE _).alloc (by simp) _
 have c:Hid (∀X Y,cL 121 #[n,o,.func (.func 122) #[] #[]] ((w.alloc X).alloc Y) λe r=>e=.returned (.bool (decide (d=f)))/\Below ((w.alloc X).alloc Y).1.size ((w.alloc X).alloc Y) r):=λX Y=>xb B n o d f _ (i.l (b X Y) m) (j.l (b X Y) m) (by simp;omega)
 obtain⟨a,v,rfl⟩:=i.shape;obtain⟨y,s,rfl⟩:=j.shape;clear i j;simp only[]
 by_cases k:g=h
 ·subst k;have E:=Z (by simp:decide (((d,g):aD)=(f,g))=decide (d=f));generalize decide (d=f)=q at*;go_enter func95,ntmps95;go_wp2_with (first|(go_at_call 121;refine(c.o _ _).mono ?_;rintro e r ⟨rfl,l⟩));go_ret;exact⟨by rw[E.o];rfl,Below.tO (b _ _) l (by simp;omega)⟩
 have E:=Z (by simp;intro _;exact k:decide (((d,g):aD)=(f,h))=false);have x:(g==h)=false:=by simpa using k
 go_enter func95,ntmps95;go_wp2;go_ret;exact⟨by first|rfl|(rw[E.o];rfl),b _ _⟩
theorem xh(B pv qv p q w)(hp:aX B w pv p)(hq:aX B w qv q)(hB:B<=w.1.size):
  cL 54 #[pv,qv] w (rT w (.bool (decide (p=q)))):=by
 obtain⟨f,I⟩:=p;obtain⟨g,d2⟩:=q;obtain⟨rv,rfl,_,a,bx,rfl,ao,bz,Q⟩:=hp;obtain⟨sv,rfl,_,a2,l,rfl,K,bc,R⟩:=hq;simp only[] at Q R ao K;have a7:=Z Q;have a8:=Z R;clear Q R;have S:∀X Y,bL w ((w.alloc X).alloc Y):=λX Y=>(bR.alloc lE _).alloc (by simp) _
 simp only[]
 by_cases hv:I=d2
 ·subst hv;have E:=Z (by simp:decide (((f,I):aD)=(g,I))=decide (f=g));have hd:(I != I)=false:=by simp
  by_cases d:f.length=g.length
  ·generalize hn:f.length=n at*;have hm:=d.symm;clear d;rw[hm] at K;simp only[hm];have c2:n<=9223372036854775807:=by have:=ai;omega
   go_enter func54,ntmps54;go_wp2;go_loopw [24] (λi wr=>∃k:Nat,k<=n/\i=U k/\Hid (∀i,i<k->f[i]?=g[i]?)/\bL w wr/\Hid (wr.cell? (pA (w.1.size+1) 0)=some (.slice a2 n l))/\w.1.size+1<wr.1.size) (λi _=>n-(intOf i).toNat)
   case atStart=>exact⟨0,by omega,rfl,λi h=>absurd h (by omega),S _ _,by unfold Hid;simp[go_sem],by simp⟩
   case round=>
    obtain⟨k,hk,rfl,H,t,Hq,b0⟩:=hrel;have i0:(0:Int)<=(k:Int):=by omega
    by_cases c4:k<n
    ·have i1:(k:Int)<(n:Int):=by omega
     obtain⟨r,T⟩:∃r,f[k]?=some r:=⟨f[k]'(by omega),by simp⟩;obtain⟨s,V⟩:∃s,g[k]?=some s:=⟨g[k]'(by omega),by simp⟩;obtain⟨b,o,rfl,b1,a9⟩:=a7.o k r T;obtain⟨L,o2,rfl,aa,M⟩:=a8.o k s V;have u:=Z T;have v:=Z V;clear T V;have b3:=t.size;have⟨cv,c0,c1,w0,y⟩:=a9.l t hB b1;have⟨dv,d0,I,w1,z⟩:=M.l t hB aa;obtain⟨N,O,c,rfl⟩:=y.shape;obtain⟨a4,n4,P,rfl⟩:=z.shape;have A:=Z y;have C:=Z z;clear a9 M y z;obtain⟨cs,D⟩:=r;obtain⟨ds,vs⟩:=s;simp only[] at c1 I A C;go_wp2;have b5:(wr.alloc (.cells #[.slice N O c,U D] 133)).cell? (pW wr 0)=some (.slice N O c):=by simp[go_sem]
     have b6:(wr.alloc (.cells #[.slice N O c,U D] 133)).cell? (pW wr 1)=some (U D):=by simp[go_sem]
     have j:bL wr (wr.alloc (.cells #[.slice N O c,U D] 133)):=bR.alloc lE _;have hz:(wr.alloc (.cells #[.slice N O c,U D] 133)).1.size=wr.1.size+1:=by simp
     generalize wr.alloc (.cells #[.slice N O c,U D] 133)=W at*;have d:=ax.ne W;have f0:∀x:ax W,x.1.cell? (pW wr 0)=some (.slice N O c):=λx=>x.cell b5 (by omega)
     have f1:∀x:ax W,x.1.cell? (pW wr 1)=some (U D):=λx=>x.cell b6 (by omega)
     have f2:∀x:ax W,x.1.cell? (pA (w.1.size+1) 0)=some (.slice (some ⟨L,o2,none⟩) n l):=λx=>x.cell ((j.cell (p:=pA (w.1.size+1) 0) b0).trans Hq.o) (by omega)
     have f3:∀x:ax W,x.1.cell? ⟨L,o2+k*2,none⟩=some (.slice a4 n4 P):=λx=>x.cell ((j.cell (p:=⟨L,o2+k*2,none⟩) (by show L<_;omega)).trans d0) (by omega)
     have f4:∀x:ax W,x.1.cell? ⟨L,o2+k*2+1,none⟩=some (U vs):=λx=>x.cell ((j.cell (p:=⟨L,o2+k*2+1,none⟩) (by show L<_;omega)).trans I) (by omega)
     have F:Hid (∀x:ax W,cL 85 #[.slice N O c,.slice a4 n4 P] x.1 λe w'=>e=.returned (.bool (decide (cs=ds)))/\Below x.1.1.size x.1 w'):=λx=>oM B _ _ cs ds _ (A.o.l (j.th x.2) (by omega)) (C.o.l (j.th x.2) (by omega)) (by have:=x.2.size;omega)
     have G:Hid (∀J,bL W J->bL w J/\J.cell? (pA (w.1.size+1) 0)=some (.slice (some ⟨L,o2,none⟩) n l)/\w.1.size+1<J.1.size):=λJ hx=>⟨Below.tO (Below.tO t j b3) hx (by omega),f2 ⟨J,hx⟩,by have:=hx.size;omega⟩
     by_cases a1:D=vs
     ·subst a1;have b8:(D != D)=false:=by simp
      generalize hq:decide (cs=ds)=q at*;have ae:=Z hq;clear hq;refine aW (by kernel_rfl) (by kernel_rfl) ?_;repeat(go_big_quiet_step (first|(go_at_call 85;exact Calls.l (F.o _))))
      refine Km ?_;rintro J ⟨⟨_,hx⟩,rfl⟩;have⟨g1,g2,g3⟩:=G.o J hx;clear f0 f1 f2 f3 f4 d;go_wp2
      ·have d:¬cs=ds:=by have h:=ae.o;rw[(by first|assumption|simpa using (by assumption:(!q)=true):q=false)] at h;simpa using h
       go_ret;refine⟨?_,g1⟩;have:f≠g:=by intro h;have h1:=u.o;rw[h,v.o] at h1;simp at h1;exact d h1.symm
       rw[E.o];simp[this]
      have b9:cs=ds:=by have h:=ae.o;rw[(by first|assumption|simpa using (by assumption:(!q)=false):q=true)] at h;simpa using h
      refine⟨⟨k+1,by omega,by go_num,λi hi=>?_,g1,g2,g3⟩,by simp[intOf];omega⟩
      by_cases ba:i=k
      ·subst ba;rw[u.o,v.o,b9]
      exact H.o i (by omega)
     have b8:(D != vs)=true:=by simpa using a1
     refine aW (by kernel_rfl) (by kernel_rfl) ?_;repeat(go_big_quiet_step (first|(go_at_call 85;exact Calls.l (F.o _))))
     refine Km ?_;rintro J ⟨⟨_,hx⟩,rfl⟩;have⟨g1,g2,g3⟩:=G.o J hx;clear f0 f1 f2 f3 f4 d;go_wp2;go_ret;refine⟨?_,g1⟩;have:f≠g:=by intro h;have h1:=u.o;rw[h,v.o] at h1;simp at h1;exact a1 h1.2.symm
     rw[E.o];simp[this]
    go_wp2;go_ret;refine⟨?_,t⟩
    have:f=g:=by
     refine LD λi=>?_
     by_cases hi:i<k
     ·exact H.o i hi
     rw[KP (by omega),KP (by omega)]
    simp[this]
  have c8:((f.length:Int) != (g.length:Int))=true:=by simp;omega
  have hf:=Z (by simp;intro h;rw[h] at d;exact d rfl:decide (f=g)=false);generalize f.length=n at*;generalize g.length=m at*;go_enter func54,ntmps54;go_wp2;go_ret;exact⟨by rw[hf.o];rfl,S _ _⟩
 have E:=Z (by simp;intro _;exact hv:decide (((f,I):aD)=(g,d2))=false);have ca:(I != d2)=true:=by simpa using hv
 go_enter func54,ntmps54;go_wp2;go_ret;exact⟨by first|rfl|(rw[E.o];rfl),S _ _⟩
theorem ui{α:Type}(f:α->Bool):∀ (l:List α) (b:Nat),(aR f b l = -1/\∀c∈l,f c=false)\/∃j c,aR f b l=((b+j:Nat):Int)/\l[j]?=some c/\f c=true/\∀i,i<j->∀c,l[i]?=some c->f c=false
 |[],_=>.inl ⟨rfl,λc a=>by cases a⟩
 |d :: r,b=>by
  by_cases h:f d=true
  ·exact .inr ⟨0,d,by simp[aR,h],rfl,h,λi n=>by omega⟩
  have g:f d=false:=by simpa using h
  have e:aR f b (d :: r)=aR f (b+1) r:=by show (if f d then (b:Int) else _)=_;rw[iO h]
  rcases ui f r (b+1) with ⟨k,m⟩|⟨j,c,k,m,o,p⟩
  ·refine .inl ⟨e.trans k,λc a=>?_⟩
   rcases Kz.1 a with rfl|a
   ·exact g
   exact m c a
  refine .inr ⟨j+1,c,?_,by simpa using m,o,λi n c a=>?_⟩
  ·rw[e,k];congr 1;omega
  cases i with
  |zero=>simp at a;subst a;exact g
  |succ i=>exact p i (by omega) c (by simpa using a)
theorem Bb{a:List aq}(h:∀r∈a,bH r=0):eE a=0:=by
 induction a with
 |nil=>rfl
 |cons r s b=>
  unfold eE;rw[Io (h r (by simp))];exact b λr c=>h r (by simp[c])
theorem ED{p:aD}(c:p.1.length<=120)(a:cA p.2=true)(b:∀r∈p.1,bH r=0):aj p=0:=by unfold aj;rw[iO (by omega),Io a];exact Bb b
theorem gV{p:aD}{x:Nat->Int}(a:aj p=0)(b:eC x=0):eH p x=((cP p (aR (bu x) 0 p.1)).1,(cP p (aR (bu x) 0 p.1)).2,0):=by unfold eH;rw[Io a,Io b]
def uG(n:Int):List Int->List Int
 |[]=>[n]
 |m :: r=>if n<m then n :: m :: r else if n=m then m :: r else m :: uG n r
def uw(l:List Int):List Int:=l.foldr uG []
def iJ(l:List Int):Prop:=l.Pairwise (·<·)
theorem vO(n x:Int):∀l:List Int,x∈uG n l ↔ x=n\/x∈l
 |[]=>by simp[uG]
 |m :: r=>by
  unfold uG
  split
  ·simp
  split
  ·rename_i h;subst h;simp
  simp only[Kz,vO n x r];constructor
  ·rintro (h|h|h)<;>simp[h]
  rintro (h|h|h)<;>simp[h]
theorem u9(n):∀l:List Int,iJ l->iJ (uG n l)
 |[],_=>by simp[uG,iJ]
 |m :: r,h=>by
  have b:=Lx.1 h;unfold uG
  split
  ·rename_i c;refine Lx.2 ⟨λx a=>?_,h⟩
   rcases Kz.1 a with rfl|a
   ·exact c
   have:=b.1 x a;omega
  split
  ·exact h
  rename_i d e;refine Lx.2 ⟨λx a=>?_,u9 n r b.2⟩
  rcases (vO n x r).1 a with rfl|a
  ·omega
  exact b.1 x a
theorem mU(x:Int):∀l:List Int,x∈uw l ↔ x∈l
 |[]=>by simp[uw]
 |n :: l=>by show x∈uG n (uw l) ↔ _;rw[vO,mU x l,Kz]
theorem nj:∀l:List Int,iJ (uw l)
 |[]=>List.Pairwise.nil
 |n :: l=>u9 n _ (nj l)
theorem qJ:∀ (l m:List Int),iJ l->iJ m->(∀x,x∈l ↔ x∈m)->l=m
 |[],[],_,_,_=>rfl
 |[],b :: m,_,_,h=>by have:=(h b).2 (by simp);simp at this
 |a :: l,[],_,_,h=>by have:=(h a).1 (by simp);simp at this
 |a :: l,b :: m,j,k,h=>by
  have c:=Lx.1 j;have d:=Lx.1 k
  have g:a=b:=by
   rcases Kz.1 ((h a).1 (by simp)) with e|e
   ·exact e
   rcases Kz.1 ((h b).2 (by simp)) with i|i
   ·exact i.symm
   have:=c.1 b i;have:=d.1 a e;omega
  subst g;congr 1;refine qJ l m c.2 d.2 λx=>?_
  constructor
  ·intro f
   rcases Kz.1 ((h x).1 (by simp[f])) with e|e
   ·have:=c.1 x f;omega
   exact e
  intro f
  rcases Kz.1 ((h x).2 (by simp[f])) with e|e
  ·have:=d.1 x f;omega
  exact e
def vx(f:Int)(c:aN):List Int:=if c.1=f then (if c.2.1=1\/c.2.1=2 then [c.2.2,c.2.2+1] else [c.2.2]) else []
def oV(p:aD):List aN:=p.1.flatMap (·.1)
def bh(l:List aD):List aN:=l.flatMap oV
def Eg(f:Int)(cs:List aN):List Int:=0 :: cs.flatMap (vx f)
def cw(l:List aD)(f:Int):List Int:=uw ((Eg f (bh l)).filter λn=>decide (n<=aO f))
theorem kI{l}{f n:Int}:n∈cw l f ↔ (n=0\/∃c∈bh l,c.1=f/\(c.2.2=n\/c.2.2+1=n/\(c.2.1=1\/c.2.1=2)))/\n<=aO f:=by
 unfold cw Eg;rw[mU,List.mem_filter,Kz,Ll,L9];constructor
 ·rintro⟨h,b⟩;refine⟨?_,b⟩
  rcases h with h|⟨c,d,h⟩
  ·exact .inl h
  refine .inr ⟨c,d,?_⟩;unfold vx at h
  split at h
  ·rename_i a
   split at h
   ·rename_i e;simp at h;refine⟨a,?_⟩
    rcases h with h|h
    ·exact .inl h.symm
    exact .inr ⟨h.symm,e⟩
   simp at h;exact⟨a,.inl h.symm⟩
  simp at h
 rintro⟨h,b⟩;refine⟨?_,b⟩
 rcases h with h|⟨c,d,a,h⟩
 ·exact .inl h
 refine .inr ⟨c,d,?_⟩;unfold vx;rw[Io a]
 rcases h with h|⟨h,e⟩
 ·split<;>simp[h]
 rw[Io e];simp[h]
theorem kx(l f):iJ (cw l f):=nj _
theorem zQ(f):0<=aO f:=by
 unfold aO
 split
 ·omega
 split<;>omega
theorem BF(l f):0∈cw l f:=kI.2 ⟨.inl rfl,zQ f⟩
theorem Bo(l)(f:Int):cw l f≠[]:=λh=>by have:=BF l f;rw[h] at this;simp at this
def gn(l:List aD):Prop:=∀p∈l,aj p=0
theorem wV{l}(h:gn l):∀c∈bh l,bS c=0:=by intro c a;have⟨p,b,a⟩:=Ll.1 a;have⟨r,d,a⟩:=Ll.1 a;exact fy (dy (cM (cY (h p b)).2.2 r d)).2.2 c a
theorem gX{l}(h:gn l){f n:Int}(b:n∈cw l f):0<=n/\n<=aO f:=by
 have⟨a,d⟩:=kI.1 b;refine⟨?_,d⟩
 rcases a with a|⟨c,e,_,a⟩
 ·omega
 have:=(ft (wV h c e)).2.2.1
 rcases a with a|⟨a,_⟩<;>omega
def mg(x:Int):Int->List Int->Int
 |a,[]=>a
 |a,n :: r=>mg x (if n<=x then n else a) r
theorem vT(x):∀ (l:List Int) (a:Int),mg x a l=a\/mg x a l∈l
 |[],a=>.inl rfl
 |n :: r,a=>by
  unfold mg
  rcases vT x r (if n<=x then n else a) with h|h
  ·rw[h]
   split
   ·right;simp
   left;rfl
  right;simp[h]
theorem yO(x:Int):∀ (l:List Int) (a:Int),a<=x->mg x a l<=x
 |[],a,h=>h
 |n :: r,a,h=>by
  unfold mg;apply yO
  split<;>omega
theorem tj(x):∀ (l:List Int) (a:Int),iJ l->(∀m∈l,a<=m)->a<=mg x a l/\∀n∈l,n<=x->n<=mg x a l
 |[],a,_,_=>⟨LH _,λn h=>by simp at h⟩
 |n :: r,a,j,g=>by
  have c:=Lx.1 j;have k:=g n (by simp);unfold mg
  by_cases i:n<=x
  ·rw[Io i];obtain⟨e,f⟩:=tj x r n c.2 λm b=>by have:=c.1 m b;omega
   refine⟨by omega,λm b d=>?_⟩
   rcases Kz.1 b with rfl|b
   ·exact e
   exact f m b d
  rw[iO i];obtain⟨e,f⟩:=tj x r a c.2 λm b=>g m (by simp[b])
  refine⟨e,λm b d=>?_⟩
  rcases Kz.1 b with rfl|b
  ·omega
  exact f m b d
def nh(l:List aD)(x:Nat->Int)(j:Nat):Int:=mg (x j) 0 (cw l j)
theorem jH{l}(a:gn l){x:Nat->Int}{j:Nat}(b:0<=x j):nh l x j∈cw l j/\nh l x j<=x j/\∀n∈cw l j,n<=x j->n<=nh l x j:=by
 unfold nh;refine⟨?_,yO _ _ _ b,(tj (x j) (cw l j) 0 (kx l j) λm c=>(gX a c).1).2⟩
 rcases vT (x j) (cw l j) 0 with h|h
 ·rw[h];exact BF l j
 exact h
theorem E9{k v:Int}:FS k v=true ↔ 0<=v/\v<=aO k:=by unfold FS;simp
theorem pQ{x:Nat->Int}:eC x=0 ↔ ∀j,j<5->0<=x j/\x j<=aO j:=by
 unfold eC Iu;constructor
 ·intro h
  split at h
  ·rename_i a;simp only[fI,KU,E9] at a;intro j g;have:j=0\/j=1\/j=2\/j=3\/j=4:=by omega
   obtain⟨b,c,d,e,f,_⟩:=a
   rcases this with rfl|rfl|rfl|rfl|rfl
   ·exact b
   ·exact c
   ·exact d
   ·exact e
   exact f
  cases h
 intro h;have a:fI 0 [x 0,x 1,x 2,x 3,x 4]=true:=by simp only[fI,KU,E9];exact⟨h 0 (by omega),h 1 (by omega),h 2 (by omega),h 3 (by omega),h 4 (by omega),trivial⟩
 rw[Io a]
theorem Ds{l}(a:gn l){x:Nat->Int}(b:eC x=0):eC (nh l x)=0:=by
 rw[pQ] at b |-
 intro j c;exact gX a (jH a (b j c).1).1
theorem FQ{l}(k:gn l){x:Nat->Int}(n:eC x=0){c:aN}(d:c∈bh l):dQ (nh l x) c=dQ x c:=by
 have⟨⟨t,u⟩,⟨v,w⟩,⟨y,o⟩⟩:=ft (wV k c d);obtain⟨j,b⟩:∃j:Nat,c.1=j:=⟨c.1.toNat,by omega⟩;have f:=(pQ.1 n) j (by omega);have⟨z,A,g⟩:=jH k f.1;have p:c.2.2∈cw l j:=kI.2 ⟨.inr ⟨c,d,b,.inl rfl⟩,by rw[<-b];exact o⟩;have a:(c.2.1=1\/c.2.1=2)->c.2.2+1<=aO j->c.2.2+1∈cw l j:=λq r=>kI.2 ⟨.inr ⟨c,d,b,.inr ⟨rfl,q⟩⟩,r⟩
 have s:=g _ p;unfold dQ;rw[b,L3];unfold iG
 by_cases h:c.2.1=1
 ·simp only[Io h];rw[LX];simp only[MN]
  by_cases e:c.2.2+1<=x j
  ·have:=g _ (a (.inl h) (by omega)) e;omega
  omega
 simp only[iO h]
 by_cases i:c.2.1=2
 ·simp only[Io i];rw[LX];simp only[bne_iff_ne,ne_eq]
  by_cases e:c.2.2+1<=x j
  ·have:=g _ (a (.inr i) (by omega)) e;omega
  omega
 simp only[iO i]
 by_cases m:c.2.1=3
 ·simp only[Io m];rw[LX];simp only[L9];omega
 simp only[iO m];rw[LX];simp only[L9];omega
theorem EN{l}(d:gn l){x:Nat->Int}(e:eC x=0){p:aD}(f:p∈l){r:aq}(g:r∈p.1):bu (nh l x) r=bu x r:=by
 unfold bu;rw[LX,MB,MB];have h:∀c∈r.1,dQ (nh l x) c=dQ x c:=λc a=>FQ d e (Ll.2 ⟨p,f,Ll.2 ⟨r,g,a⟩⟩)
 constructor
 ·intro b c a;rw[<-h c a];exact b c a
 intro b c a;rw[h c a];exact b c a
theorem mh{α:Type}(f g:α->Bool):∀ (l:List α) (k:Nat),(∀c∈l,f c=g c)->aR f k l=aR g k l
 |[],_,_=>rfl
 |c :: r,k,h=>by unfold aR;rw[h c (by simp),mh f g r (k+1) λd a=>h d (by simp[a])]
theorem vM{l}(a:gn l){x:Nat->Int}(b:eC x=0){p:aD}(c:p∈l):eH p (nh l x)=eH p x:=by rw[gV (a p c) b,gV (a p c) (Ds a b),mh (bu (nh l x)) (bu x) p.1 0 λr d=>EN a b c d]
def fz:List (List Int)->List (List Int)
 |[]=>[[]]
 |L :: b=>L.flatMap λa=>(fz b).map (a :: ·)
def lI(l:List aD):List (List Int):=[cw l 0,cw l 1,cw l 2,cw l 3,cw l 4]
def dG(l:List aD):List (List Int):=fz (lI l)
def IK:List Int->List (List Int)->Prop
 |[],[]=>True
 |a :: x,L :: b=>a∈L/\IK x b
 |_,_=>False
theorem jw(L:List Int)(b:List (List Int)):fz (L :: b)=L.flatMap λa=>(fz b).map (a :: ·):=rfl
theorem mA:∀ (b:List (List Int)) (x:List Int),x∈fz b ↔ IK x b
 |[],x=>by
  show x∈[[]] ↔ _;rw[KO];constructor
  ·rintro rfl;trivial
  intro h
  cases x with
  |nil=>rfl
  |cons a y=>exact h.elim
 |L :: b,x=>by
  rw[jw,Ll];constructor
  ·rintro⟨a,c,h⟩;obtain⟨y,d,rfl⟩:=Md.1 h;exact⟨c,(mA b y).1 d⟩
  intro h
  cases x with
  |nil=>exact h.elim
  |cons a y=>exact⟨a,h.1,Md.2 ⟨y,(mA b y).2 h.2,rfl⟩⟩
theorem ij{α β:Type}(f:α->List β)(n:Nat):∀ (L:List α),(∀a∈L,(f a).length=n)->(L.flatMap f).length=L.length*n
 |[],_=>by simp
 |a :: L,h=>by rw[KQ,Kj,h a (by simp),ij f n L λb c=>h b (by simp[c]),Kv,Mi];omega
theorem kF(L:List Int)(b:List (List Int)):(fz (L :: b)).length=L.length*(fz b).length:=by rw[jw];exact ij _ _ _ λa _=>by simp
theorem ut{α β:Type}(f:α->List β)(n:Nat)(d:0<n):∀ (L:List α),(∀a∈L,(f a).length=n)->∀ (i:Nat) (a:α),L[i / n]?=some a->(L.flatMap f)[i]?=(f a)[i % n]?
 |[],_,i,a,h=>by simp at h
 |b :: L,e,i,a,h=>by
  rw[KQ];have l:=e b (by simp)
  by_cases g:i<n
  ·rw[Nat.div_eq_of_lt g] at h;simp at h;subst h;rw[Kh (by omega),Nat.mod_eq_of_lt g]
  obtain⟨j,rfl⟩:∃j,i=j+n:=⟨i-n,by omega⟩;rw[Nat.add_div_right _ d] at h;rw[Kk (by omega),Nat.add_mod_right,show j+n-(f b).length=j by omega];exact ut f n d L (λc k=>e c (by simp[k])) j a (by simpa using h)
theorem FL(L:List Int)(b:List (List Int))(i:Nat)(a:Int)(x:List Int)(d:L[i / (fz b).length]?=some a)(c:(fz b)[i % (fz b).length]?=some x):(fz (L :: b))[i]?=some (a :: x):=by
 have e:0<(fz b).length:=by have:=(K9.1 c).1;omega
 rw[jw,ut _ _ e L (λa _=>by simp) i a d];simp[c]
def iQ(x:Nat->Int):List Int:=[x 0,x 1,x 2,x 3,x 4]
theorem xa{l}(a:gn l){x:Nat->Int}(b:eC x=0):iQ (nh l x)∈dG l:=by have h:=pQ.1 b;refine(mA _ _).2 ?_;exact⟨(jH a (h 0 (by omega)).1).1,(jH a (h 1 (by omega)).1).1,(jH a (h 2 (by omega)).1).1,(jH a (h 3 (by omega)).1).1,(jH a (h 4 (by omega)).1).1,trivial⟩
theorem uo{l}(f:gn l){x:List Int}(o:x∈dG l):∃y:Nat->Int,x=iQ y/\eC y=0/\∀j:Nat,j<5->y j∈cw l j:=by
 have h:=(mA _ _).1 o;unfold lI at h
 match x,h with
 |[a,b,c,d,e],h=>
  obtain⟨g,i,k,m,n,_⟩:=h;refine⟨oz a b c d e,rfl,?_,?_⟩
  ·rw[pQ];intro j p;have:j=0\/j=1\/j=2\/j=3\/j=4:=by omega
   rcases this with rfl|rfl|rfl|rfl|rfl
   ·exact gX f g
   ·exact gX f i
   ·exact gX f k
   ·exact gX f m
   exact gX f n
  intro j p;have:j=0\/j=1\/j=2\/j=3\/j=4:=by omega
  rcases this with rfl|rfl|rfl|rfl|rfl
  ·exact g
  ·exact i
  ·exact k
  ·exact m
  exact n
theorem qI:∀ (l m:List Int),iJ l->iJ m->(∀x∈l,x∈m)->l.length<=m.length
 |[],m,_,_,_=>by simp
 |a :: l,[],_,_,h=>by have:=h a (by simp);simp at this
 |a :: l,b :: m,i,j,h=>by
  have c:=Lx.1 i;have d:=Lx.1 j
  have:l.length<=m.length:=by
   refine qI l m c.2 d.2 λx f=>?_
   rcases Kz.1 (h x (by simp[f])) with e|e
   ·exfalso;have k:=c.1 x f
    rcases Kz.1 (h a (by simp)) with g|g
    ·omega
    have:=d.1 a g;omega
   exact e
  simp;omega
def vP(p:aD)(x:Nat->Int):Int:=(eH p x).1
def kP(p:aD)(x:Nat->Int):Int:=(eH p x).2.1
def Cn(l:List Int):Nat->Int:=oz (l.getD 0 0) (l.getD 1 0) (l.getD 2 0) (l.getD 3 0) (l.getD 4 0)
theorem rF{p}{x y:Nat->Int}(h:∀j,j<5->x j=y j):eH p x=eH p y:=by
 have e:eC x=eC y:=by unfold eC;rw[h 0 (by omega),h 1 (by omega),h 2 (by omega),h 3 (by omega),h 4 (by omega)]
 by_cases b:aj p=0
 ·by_cases d:eC x=0
  ·rw[gV b d,gV b (e▸d)]
   have f:∀r∈p.1,bu x r=bu y r:=by
    intro r f;have g:=fy (dy (cM (cY b).2.2 r f)).2.2;unfold bu;rw[LX,MB,MB];have:∀c∈r.1,dQ x c=dQ y c:=λc a=>by have:=(ft (g c a)).1;unfold dQ;rw[h c.1.toNat (by omega)]
    constructor
    ·intro i c a;rw[<-this c a];exact i c a
    intro i c a;rw[this c a];exact i c a
   rw[mh _ _ p.1 0 f]
  unfold eH;rw[Io b,iO d,Io b,iO (e▸d),e]
 unfold eH;rw[iO b,iO b]
theorem fF(x:Nat->Int):∀j,j<5->Cn (iQ x) j=x j:=by
 intro j a;have:j=0\/j=1\/j=2\/j=3\/j=4:=by omega
 rcases this with rfl|rfl|rfl|rfl|rfl<;>rfl
def bM:List aD->Int
 |[]=>0
 |p :: r=>if aj p=0 then bM r else aj p
theorem jz:∀ {l:List aD},bM l=0 ↔ gn l
 |[]=>by simp[bM,gn]
 |p :: r=>by
  unfold bM
  by_cases h:aj p=0
  ·rw[Io h,jz];constructor
   ·intro a q b
    rcases Kz.1 b with rfl|b
    ·exact h
    exact a q b
   intro a q b;exact a q (by simp[b])
  rw[iO h];constructor
  ·intro c;exact absurd c h
  intro a;exact a p (by simp)
def aT(l:List aD):Int:=if bM l=0 then (if 1000<(dG l).length then 2 else 0) else bM l
def bj(l:List aD):List (List Int):=if aT l=0 then dG l else []
theorem kM{l:List aD}:aT l=0 ↔ gn l/\(dG l).length<=1000:=by
 unfold aT
 by_cases h:bM l=0
 ·rw[Io h];constructor
  ·intro a;refine⟨jz.1 h,?_⟩
   split at a
   ·cases a
   omega
  rintro⟨_,a⟩;rw[iO (by omega)]
 rw[iO h];constructor
 ·intro a;exact absurd a h
 rintro⟨a,_⟩;exact absurd (jz.2 a) h
def eB(p q:aD)(x:List Int):Bool:=decide (vP q (Cn x)<vP p (Cn x))
def dN(p q:aD):Option (List Int):=(bj [p,q]).find? (eB p q)
theorem BZ{p q:aD}(c:aT [p,q]=0)(h:dN p q=none){x:Nat->Int}(d:eC x=0):vP p x<=vP q x:=by
 have⟨a,_⟩:=kM.1 c;unfold dN bj at h;rw[Io c,MO] at h;have b:=h _ (xa a d);unfold eB at b;rw[L9] at b;have e:∀r∈[p,q],vP r (Cn (iQ (nh [p,q] x)))=vP r x:=λr f=>by unfold vP;rw[rF (fF _),vM a d f]
 rw[e p (by simp),e q (by simp)] at b;omega
def mG(c:Bool)(a b:Int):Int:=if a<b then a else if c then 4 else b
def dX(a:Bool)(r s:aq):aq:=(r.1++s.1,mG a r.2 s.2)
def gh(a:Bool)(p q:aD):List aq:=p.1.flatMap (λr=>q.1.map (dX a r)++[dX a r ([],q.2)])++q.1.map (dX a ([],p.2))
def gI(a:Bool)(p q:aD):aD:=(gh a p q,mG a p.2 q.2)
def eP(x:Nat->Int)(d:Int):List aq->Int
 |[]=>d
 |r :: s=>if bu x r then r.2 else eP x d s
theorem uy(x:Nat->Int)(d)(a:List aq):∀ (c:List aq) (k:Nat),a.drop k=c->eP x d c=(cP (a,d) (aR (bu x) k c)).1
 |[],k,_=>by simp[eP,aR,cP]
 |r :: s,k,h=>by
  have e:a[k]?=some r:=by
   have:(a.drop k)[0]?=some r:=by rw[h];rfl
   simpa using this
  rw[eP,aR]
  by_cases b:bu x r=true
  ·rw[Io b,Io b,cP,iO (by omega)];simp[e]
  rw[iO b,iO b];refine uy x d a s (k+1) ?_;rw[<-Mv,h];rfl
theorem rJ{p:aD}{x:Nat->Int}(a:aj p=0)(b:eC x=0):vP p x=eP x p.2 p.1:=by unfold vP;rw[gV a b];exact(uy x p.2 p.1 p.1 0 rfl).symm
theorem lO(x:Nat->Int)(exc r s):bu x (dX exc r s)=(bu x r&&bu x s):=by unfold bu dX;rw[List.all_append]
theorem nV(x:Nat->Int)(d):∀ (l m:List aq),eP x d (l++m)=eP x (eP x d m) l
 |[],m=>rfl
 |r :: l,m=>by
  show (if bu x r then r.2 else eP x d (l++m))=if bu x r then r.2 else eP x (eP x d m) l
  rw[nV x d l m]
theorem BC(x:Nat->Int)(d):∀l:List aq,(∀r∈l,bu x r=false)->eP x d l=d
 |[],_=>rfl
 |r :: l,h=>by rw[eP,iO (by simp[h r (by simp)])];exact BC x d l λs a=>h s (by simp[a])
theorem pi(x:Nat->Int)(a:Bool)(r:aq)(c:bu x r=true)(b d:Int):∀l:List aq,eP x (mG a r.2 b) (l.map (dX a r))=mG a r.2 (eP x b l)
 |[]=>rfl
 |s :: l=>by
  rw[Lt,eP,eP,lO,c,Bool.true_and,pi x a r c b d l]
  split<;>rfl
theorem xz(x:Nat->Int)(exc)(q:aD)(dp):∀b:List aq,eP x (mG exc dp q.2) (gh exc (b,dp) q)=mG exc (eP x dp b) (eP x q.2 q.1)
 |[]=>by unfold gh;simp only[List.flatMap_nil,MK];exact pi x exc ([],dp) rfl q.2 0 q.1
 |r :: b=>by
  have e:=xz x exc q dp b
  unfold gh at e |-
  simp only[KQ] at e |-
  rw[KI,nV,e]
  by_cases c:bu x r=true
  ·have f:eP x (mG exc (eP x dp b) (eP x q.2 q.1)) [dX exc r ([],q.2)]=mG exc r.2 q.2:=by rw[eP,lO,c];rfl
   rw[nV,f,pi x exc r c q.2 0 q.1,eP,Io c]
  rw[BC,eP,iO c];intro s a;have d:bu x r=false:=by simpa using c
  rcases KB.1 a with a|a
  ·obtain⟨t,_,rfl⟩:=Md.1 a;rw[lO,d];rfl
  rw[KO] at a;subst a;rw[lO,d];rfl
theorem IH{p q:aD}{x:Nat->Int}(exc)(b:aj p=0)(c:aj q=0)(d:aj (gI exc p q)=0)(a:eC x=0):vP (gI exc p q) x=mG exc (vP p x) (vP q x):=by rw[rJ d a,rJ b a,rJ c a];exact xz x exc q p.2 p.1
def vq(f:Int)(cs:List aN)(n:Int):Bool:=decide (n=0)||cs.any λc=>decide (c.1=f)&&(decide (c.2.2=n)||decide (c.2.2+1=n)&&(decide (c.2.1=1)||decide (c.2.1=2)))
theorem E5{f cs}{n:Int}:vq f cs n=true ↔ n=0\/∃c∈cs,c.1=f/\(c.2.2=n\/c.2.2+1=n/\(c.2.1=1\/c.2.1=2)):=by unfold vq;simp only[Bool.or_eq_true,L9,List.any_eq_true,KU]
theorem oZ{l}{f n:Int}:n∈cw l f ↔ vq f (bh l) n=true/\n<=aO f:=by rw[kI,E5]
theorem EW{f:Int}{cs:List aN}{c:aN}(h:c.1≠f)(n:Int):vq f (cs++[c]) n=vq f cs n:=by unfold vq;rw[List.any_append];simp[h]
theorem Gy{f:Int}{cs:List aN}{c:aN}(h:c.1=f)(n:Int):vq f (cs++[c]) n=(vq f cs n||decide (c.2.2=n)||decide (c.2.2+1=n)&&(decide (c.2.1=1)||decide (c.2.1=2))):=by unfold vq;rw[List.any_append];simp only[List.any_cons,List.any_nil,h,decide_true,Bool.true_and,Bool.or_false,Bool.or_assoc]
theorem ul(n:Int):∀l:List Int,n ∉ l->(uG n l).length=l.length+1
 |[],_=>rfl
 |m :: r,h=>by
  have b:n≠m:=λe=>h (by simp[e])
  have a:n ∉ r:=λe=>h (by simp[e])
  unfold uG
  split
  ·rfl
  rw[Kv,ul n r a,Kv]
theorem sx:∀l:List Int,l.Nodup->(uw l).length=l.length
 |[],_=>rfl
 |n :: l,h=>by have a:=List.nodup_cons.1 h;show (uG n (uw l)).length=_;rw[ul n _ (λe=>a.1 ((mU n l).1 e)),sx l a.2,Kv]
def DQ(N:Nat):List Int:=(List.range N).map λi:Nat=>(i:Int)
theorem up(N):iJ (DQ N):=by unfold DQ iJ;rw[List.pairwise_map];exact List.pairwise_lt_range.imp λh=>by omega
theorem BA{N:Nat}{x:Int}(a:0<=x)(b:x<N):x∈DQ N:=Md.2 ⟨x.toNat,List.mem_range.2 (by omega),by omega⟩
theorem FM{l:List Int}(h:l.Nodup){N:Nat}(a:∀x∈l,0<=x/\x<N):l.length<=N:=by
 have:=qI (uw l) (DQ N) (nj l) (up N) λx b=>BA (a x ((mU x l).1 b)).1 (a x ((mU x l).1 b)).2
 rw[sx l h] at this
 simpa [DQ] using this
theorem Dp{l}(h:iJ l){N:Nat}(a:∀x∈l,0<=x/\x<N):l.length<=N:=by
 have:=qI l (DQ N) h (up N) λx b=>BA (a x b).1 (a x b).2
 simpa [DQ] using this
theorem AR(xs:List Int)(h:xs.Nodup):iJ (xs.mergeSort λx y=>decide (x<=y)):=by
 have d:(xs.mergeSort λx y=>decide (x<=y)).Pairwise λa b=>decide (a<=b)=true:=List.pairwise_mergeSort (λa b c=>by simp only[L9];omega) (λa b=>by simp only[Bool.or_eq_true,L9];omega) xs
 have e:(xs.mergeSort λx y=>decide (x<=y)).Nodup:=(List.mergeSort_perm xs _).nodup_iff.2 h;exact(d.and e).imp λ⟨a,b⟩=>by rw[L9] at a;omega
theorem FZ{l}{f:Int}{xs:List Int}(h:xs.Nodup)(a:∀n,n∈xs ↔ vq f (bh l) n=true/\n<=aO f):(xs.mergeSort λx y=>decide (x<=y))=cw l f:=
 qJ _ _ (AR xs h) (kx l f) λx=>by rw[List.mem_mergeSort,a,oZ]
theorem Bf{l}(h:gn l)(f):(cw l f).length<=65536:=Dp (kx l f) λx a=>by
 have b:=gX h a
 have c:aO f<=65535:=by
  unfold aO
  split
  ·omega
  split<;>omega
 omega
def yH(L:List Int)(i:Nat):Int:=L.getD (i % L.length) 0
theorem rY:∀ (b:List (List Int)) (i:Nat),(∀L∈b,L≠[])->i<(fz b).length->∃x,(fz b)[i]?=some x/\x.length=b.length/\∀k L,b[k]?=some L->x[k]?=some (yH L (i / (fz (b.drop (k+1))).length))
 |[],i,_,h=>by
  have:i=0:=by have:(fz []).length=1:=rfl;omega
  subst this;exact⟨[],rfl,rfl,λk L h=>by simp at h⟩
 |L :: b,i,d,h=>by
  rw[kF] at h;have z:0<L.length:=LY.2 (d L (by simp))
  have l:0<(fz b).length:=by
   rcases Nat.eq_zero_or_pos (fz b).length with e|e
   ·rw[e,Nat.mul_zero] at h;omega
   exact e
  obtain⟨x,p,r,s⟩:=rY b (i % (fz b).length) (λM f=>d M (by simp[f])) (Nat.mod_lt _ l);have m:i / (fz b).length<L.length:=by rw[Nat.div_lt_iff_lt_mul l];exact h
  obtain⟨a,o⟩:∃a,L[i / (fz b).length]?=some a:=⟨L[i / (fz b).length],by simp[m]⟩;refine⟨a :: x,FL L b i a x o p,by simp[r],λk M f=>?_⟩
  cases k with
  |zero=>
   simp at f;subst f;simp only[List.getElem?_cons_zero,MF,List.drop_zero,yH,Nat.mod_eq_of_lt m];rw[Kn,o];rfl
  |succ k=>
   have g:b[k]?=some M:=by simpa using f
   rw[List.getElem?_cons_succ,s k M g,MF];congr 1
   have j:(fz (b.drop (k+1))).length*M.length ∣ (fz b).length:=by
    have e:b.drop k=M :: b.drop (k+1):=by obtain⟨t,rfl⟩:=K9.1 g;exact KM t
    have u:(fz (b.drop k)).length=M.length*(fz (b.drop (k+1))).length:=by rw[e,kF]
    have v:∀ (n:Nat) (c:List (List Int)),(fz (c.drop n)).length ∣ (fz c).length:=by
     intro n
     induction n with
     |zero=>intro c;simp
     |succ n w=>
      intro c
      cases c with
      |nil=>simp
      |cons A c=>
       rw[MF,kF];exact Nat.dvd_trans (w c) (Nat.dvd_mul_left _ _)
    have:=v k b;rw[u,Nat.mul_comm] at this;exact this
   unfold yH;congr 1;obtain⟨q,y⟩:=j;rw[y,Nat.mul_assoc,Nat.mod_mul_right_div_self,Nat.mod_mul_right_mod]
theorem Ja{B w}{d:List aq}{b o:Nat}(h:∀i r,d[i]?=some r->gO B w b (o+i*2) r):∃c,lB B w c d/\∀j u,c[j]?=some u->w.cell? ⟨b,o+j,none⟩=some u:=by
 have e:∀j,j<d.length*2->∃v,w.cell? ⟨b,o+j,none⟩=some v/\v.oneCell'=true:=by
  intro j f;obtain⟨r,g⟩:∃r,d[j / 2]?=some r:=⟨d[j / 2]'(by omega),by simp⟩;obtain⟨l,m,n,_,p⟩:=h _ r g
  by_cases D:j % 2=0
  ·refine⟨l,?_,?_⟩
   ·rw[show o+j=o+j / 2*2 by omega];exact m
   obtain⟨a,y,rfl,_⟩:=p;rfl
  exact⟨_,by rw[show o+j=o+j / 2*2+1 by omega];exact n,rfl⟩
 obtain⟨c,z,k⟩:=iU _ _ e;refine⟨c,⟨z,λu A=>?_,λi r g=>?_⟩,λj u f=>(k j u f).1⟩
 ·have⟨j,f⟩:=LJ.1 A;exact(k j u f).2
 have E:i<d.length:=(K9.1 g).1;have⟨l,m,n,C,p⟩:=h i r g;obtain⟨F,q⟩:∃v,c[i*2]?=some v:=⟨c[i*2]'(by omega),by simp⟩;obtain⟨G,s⟩:∃v,c[i*2+1]?=some v:=⟨c[i*2+1]'(by omega),by simp⟩;have t:=(k _ _ q).1;have x:=(k _ _ s).1;rw[m] at t;rw[show o+(i*2+1)=o+i*2+1 by omega,n] at x
 cases t
 cases x;exact⟨l,q,s,C,p⟩
theorem rG{B L:Nat}{w:World}{v:Value}{xs:List Value}{f:List aq}(h:w.ownsRow L 133 2 v f.length xs)(p:lB B w xs f)(H:B<=w.1.size):bD w.1.size w v f:=by
 obtain⟨a,j,rfl,q,s,t⟩:=an h;refine⟨a,j,rfl,q,s,λi r n=>?_⟩;have I:i<f.length:=(K9.1 n).1;obtain⟨g,rfl,u,l⟩:=t (by omega);have⟨x,y,z,A,m⟩:=p.2.2 i r n;refine⟨g,0,rfl,l,x,?_,?_,A,?_⟩
 ·rw[Kp];exact aK h _ _ y
 ·rw[Kp];exact aK h _ _ z
 obtain⟨C,d,D,E,F,G⟩:=m;refine⟨C,d,D,E,F,λi c m=>?_⟩;have⟨b,o,e,J,k⟩:=G i c m;exact⟨b,o,e,by omega,k⟩
theorem EX(n:Nat)(w)(u:n*32<=140737488355328):
  cL 279 #[nL,U n] w λe q=>∃v,e=.returned v/\q.ownsRow w.1.size 133 2 v 0 []/\bL w q:=by
 have j:=ai
 by_cases r:n=0
 ·subst r;go_enter func279,ntmps279;go_wp2;go_ret;exact⟨_,rfl,⟨rfl,.inl ⟨rfl,rfl⟩⟩,Kf _ _⟩
 obtain⟨b,k,c,s,d⟩:=jY;have x:¬((n:Int)<0):=by omega
 have y:(n:Int)>0:=by omega
 have⟨G,i⟩:=nM (grownCap w n 0 133);have t:n<=G:=by rw[i];exact grownCap_ge w _ _ _
 have a:G<=maxLen:=by rw[i];exact Mm w n 0 _ (by omega)
 obtain⟨z,l⟩:∃z:Value,z=.agg #[nL,U 0]:=⟨_,rfl⟩;have m:z.cells.size=2:=by rw[l];rfl
 rw[<-l] at c
 have o:∀p,(Builtin.append_ #[28,3] p #[nL,U n]).run prog w=
   .ok (.slice (MZ w) n G) (w.drew.alloc (.cells ((Builtin.zeroCells z.cells n)++Builtin.zeroCells z.cells (G-n)) 133)):=λp=>by
  have h:=Ma w 28 3 p 133 b z .i64 .i64 Tryz.underlying28 Tryz.underlying3 k c none 0 0 [] (Lk w.drew b.size 0 0 0) n (by omega) (by omega) (by omega) (by omega)
   (by rw[d];omega)
   (by rw[Kp];exact MV (by omega) (by rw[d];omega))
  simpa [<-i] using h
 have f:Hid ((w.drew.alloc (.cells ((Builtin.zeroCells z.cells n)++Builtin.zeroCells z.cells (G-n)) 133)).ownsRow w.1.size 133 2 (.slice (MZ w) 0 G) 0 []):=by refine⟨rfl,.inr ⟨w.1.size,G,_,rfl,Ke _,(Kr w.drew _).1,Ks _,a,?_,by simp⟩⟩;rw[MX,M7,M7,m,<-Mi];congr 1;omega
 have g:Hid (bL w (w.drew.alloc (.cells ((Builtin.zeroCells z.cells n)++Builtin.zeroCells z.cells (G-n)) 133))):=bR.drew.alloc lE _;clear i l;rw[j] at a;generalize (Builtin.zeroCells z.cells n)++Builtin.zeroCells z.cells (G-n)=A at*;go_enter func279,ntmps279;go_wp2_with (at_builtin;refine Kw _ rfl _ _ _ _ rfl _ _ rfl rfl _ _ (o _) ?_);go_ret;exact⟨_,rfl,f.o,g.o⟩
def ju(B:Nat)(w:World)(v:Value)(d:List aq):Prop:=
 ∃a c,v=.slice a d.length c/\d.length<=c/\c<=maxLen/\∀i r,d[i]?=some r->∃b o,a=some ⟨b,o,none⟩/\gO B w b (o+i*2) r
theorem bD.conds{B w v rs}(h:bD B w v rs):ju B w v rs:=by obtain⟨a,c,d,f,g,j⟩:=h;refine⟨a,c,d,f,g,λi r l=>?_⟩;have⟨b,o,e,_,k⟩:=j i r l;exact⟨b,o,e,k⟩
theorem ju.l{B w w' v rs}(h:ju B w v rs)(c:bL w w')(j:B<=w.1.size):ju B w' v rs:=by obtain⟨a,d,k,l,m,n⟩:=h;refine⟨a,d,k,l,m,λi r q=>?_⟩;have⟨b,o,e,s,f,g,t,u⟩:=n i r q;exact⟨b,o,e,s,(c.cell (p:=⟨b,o+i*2,none⟩) (KE _ _ f)).trans f,(c.cell (p:=⟨b,o+i*2+1,none⟩) (KE _ _ g)).trans g,t,u.l c j⟩
theorem lD(B base:Nat)(N:TypeId)(v sv:Value)(n:Nat)(xs:List Value)(rs)(W:World)(d:W.ownsRow base 133 2 v n xs)(R:ju B W sv rs)(S:(n+rs.length)*32<=140737488355328)(f:base<=W.1.size):
  ∃C w x,(Builtin.append_ #[28,28] N #[v,sv]).run prog W=.ok C w/\w.ownsRow base 133 2 C (n+rs.length) (xs++x)/\lB B W x rs/\Below base W w:=by
 obtain⟨y,m,E,F,G⟩:=jY;obtain⟨a,z,rfl,T,V,p⟩:=R
 cases a with
 |none=>
  have X:rs=[]:=by
   cases rs with
   |nil=>rfl
   |cons r l=>have⟨b,o,e,_⟩:=p 0 r rfl;cases e
  subst X;refine⟨v,W,[],?_,by simpa using d,⟨rfl,λu H=>(by cases H),λi r q=>(by simp at q)⟩,Kf _ _⟩
  have Y:v=nL\/∃g c,v=.slice (some g) n c/\n<=c:=by
   rcases d.2 with ⟨h,_⟩|⟨g,c,I,h,_,_,h',_⟩
   ·exact .inl h
   exact .inr ⟨_,c,h,h'⟩
  have O:=Lk (P:=prog) W y.size 0 0 z
  rcases Y with rfl|⟨g,c,rfl,J⟩
  ·simp[Builtin.append_,KY Tryz.underlying28,sizeOf,typeInfo,m,Builtin.lenOf,O]
  simp[Builtin.append_,KY Tryz.underlying28,sizeOf,typeInfo,m,Builtin.lenOf,O,J,storeCells]
 |some Q=>
  obtain⟨x,s,t⟩:∃xs,lB B W xs rs/\∀j u,xs[j]?=some u->W.cell? (Q.add j)=some u:=by
   by_cases A:rs=[]
   ·subst A;exact⟨[],⟨rfl,λu H=>(by cases H),λi r q=>(by simp at q)⟩,λj u K=>(by simp at K)⟩
   obtain⟨r,q⟩:∃r,rs[0]?=some r:=by
    cases rs with
    |nil=>exact absurd rfl A
    |cons r l=>exact⟨r,rfl⟩
   have⟨b,o,e,_⟩:=p 0 r q
   cases e
   obtain⟨xs,L,M⟩:=Ja (b:=b) (o:=o) λi r q=>by
    have⟨b',o',e,k⟩:=p i r q
    cases e;exact k
   exact⟨xs,L,λj u K=>by rw[eM];exact M j u K⟩
  obtain⟨C,w,L,M,h3,h4⟩:=LB (P:=prog) W base 28 N 133 y _ 2 32 Tryz.underlying28 m E F G rfl (by decide) v n xs d Q rs.length z x s.1 t s.2.1 (by rw[ai];omega) S f;refine⟨C,w,x,L,M,s,bR.grown h3 f λk D=>?_⟩
  rcases d.2 with ⟨h,_⟩|⟨g,c,I,h,hg,_⟩
  ·rw[h] at D;simp[Value.ownBlock] at D
  rw[h] at D;simp[Value.ownBlock] at D;omega
theorem ju.shapeR{B w v rs}(h:ju B w v rs):∃a b,v=.slice a rs.length b/\rs.length<=b:=by obtain⟨a,b,rfl,h,_⟩:=h;exact⟨a,b,rfl,h⟩
theorem Bz(B v0 v1 r0 r1)(bs:Nat)(w)(N:ju B w v0 r0)(t:ju B w v1 r1)(M:B<=w.1.size)(A:bs<w.1.size)(C:w.cell? (pA bs 0)=some v0)(D:w.cell? (pA bs 1)=some v1)(hn:(r0.length+r1.length)*32<=140737488355328):
  cL 275 #[.slice (sO bs) 2 2] w λe f=>∃v,e=.returned v/\∃l,f.ownsRow w.1.size 133 2 v (r0++r1).length l/\lB B f l (r0++r1)/\bL w f:=by
 have H0:=Z N;have H1:=Z t;obtain⟨a0,E,O,X⟩:=N.shapeR;obtain⟨a1,F,P,Y⟩:=t.shapeR;have E0:=Z O;have E1:=Z P;rw[O] at C;rw[P] at D
 have HC:Hid (∀f,bL w f->f.cell? (pA bs 0)=some (.slice a0 r0.length E)/\f.cell? (pA bs 1)=some (.slice a1 r1.length F)):=λf h=>⟨(h.cell (p:=pA bs 0) A).trans C,(h.cell (p:=pA bs 1) A).trans D⟩
 clear O P N t
 have ad:∀k:Nat,k<=2->Hid ((([r0,r1].take k).flatten).length<=r0.length+r1.length):=λk hk=>by
  have m:k=0\/k=1\/k=2:=by omega
  rcases m with rfl|rfl|rfl<;>(unfold Hid;simp)
 generalize G:r0.length=q at*;generalize H:r1.length=s at*;have I:=Z G;have Q:=Z H;clear G H;go_enter func275,ntmps275;go_wp2;go_loop [3,11] (λsz i=>∃k:Nat,k<=2/\i=U k/\sz=U (if k=0 then 0 else if k=1 then (q:Int) else ((q:Int)+s))) (λ_ i=>2-(intOf i).toNat)
 case atStart=>exact⟨0,by omega,rfl,rfl⟩
 case round=>
  obtain⟨k,hk,rfl,rfl⟩:=hrel;have m:k=0\/k=1\/k=2:=by omega
  rcases m with rfl|rfl|rfl
  ·go_wp2;exact⟨⟨1,by omega,rfl,by simp⟩,by simp[intOf]⟩
  ·have a3:¬((q:Int)+(s:Int)<0):=by omega
   have af:wrap64 ((q:Int)+(s:Int))=(q:Int)+s:=by unfold wrap64;omega
   go_wp2;exact⟨⟨2,by omega,rfl,by simp⟩,by simp[intOf]⟩
  have hG:Hid (∀f,cL 279 #[nL,U ((q:Int)+s)] f λe J=>∃v,e=.returned v/\J.ownsRow f.1.size 133 2 v 0 []/\bL f J):=λf=>by have:=EX (q+s) f hn;rw[show ((q+s:Nat):Int)=(q:Int)+s by omega] at this;exact this
  go_wp2_with fail;go_at_call 279;refine(hG.o _).mono ?_;rintro e w1 ⟨v,rfl,n,R⟩;have HO:=Z n;clear n;go_wp2_with fail;go_loopw [6,27] (λnv i wr=>∃ (k:Nat) (l:List Value),k<=2/\i=U k/\Hid (wr.ownsRow w.1.size 133 2 nv (([r0,r1].take k).flatten).length l)/\Hid (lB B wr l ([r0,r1].take k).flatten)/\bL w wr) (λ_ i _=>2-(intOf i).toNat)
  case atStart=>exact⟨0,[],by omega,rfl,HO,⟨rfl,λu hu=>(by cases hu),λi r hr=>(by simp at hr)⟩,R⟩
  case round=>
   obtain⟨k,l,hk,rfl,g,j,c⟩:=hrel;obtain⟨c0,c1⟩:=HC.o _ c;have m:k=0\/k=1\/k=2:=by omega
   rcases m with rfl|rfl|rfl
   ·obtain⟨S,K,L,d,a,o,b⟩:=lD B w.1.size 28 _ _ 0 l r0 wr g.o (H0.o.l c M) (by rw[I.o];omega) c.size;rw[E0.o] at d
    have x:Hid (K.ownsRow w.1.size 133 2 S (([r0,r1].take 1).flatten).length (l++L)):=by
     unfold Hid;have e:(([r0,r1].take 1).flatten).length=0+r0.length:=by simp
     rw[e];exact a
    have y:Hid (lB B K (l++L) ([r0,r1].take 1).flatten):=by
     have:=(j.o.append o).l b M;unfold Hid
     simpa using this
    have z:=c.trans b;clear a o b g j;go_wp2_with (at_builtin;refine Kw _ rfl _ _ _ _ rfl _ _ rfl rfl _ _ d ?_);exact⟨⟨1,_,by omega,rfl,x,y,z⟩,by simp[intOf]⟩
   ·obtain⟨S,K,L,d,a,o,b⟩:=lD B w.1.size 28 _ _ r0.length l r1 wr (by have:=g.o;simpa using this) (H1.o.l c M) (by rw[I.o,Q.o];omega) c.size;rw[E1.o] at d
    have x:Hid (K.ownsRow w.1.size 133 2 S (([r0,r1].take 2).flatten).length (l++L)):=by
     unfold Hid;have e:(([r0,r1].take 2).flatten).length=r0.length+r1.length:=by simp
     rw[e];exact a
    have y:Hid (lB B K (l++L) ([r0,r1].take 2).flatten):=by
     have:=(j.o.append o).l b M;unfold Hid
     simpa using this
    have z:=c.trans b;clear a o b g j;go_wp2_with (at_builtin;refine Kw _ rfl _ _ _ _ rfl _ _ rfl rfl _ _ d ?_);exact⟨⟨2,_,by omega,rfl,x,y,z⟩,by simp[intOf]⟩
   have t:=g.o;have T:=j.o;have e:([r0,r1].take 2).flatten=r0++r1:=by simp
   rw[e] at t T;have V:Hid _:=t;have W:Hid _:=T;clear g j t T e;go_wp2;go_ret;exact⟨_,rfl,_,V.o,W.o,c⟩
