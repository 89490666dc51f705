import Derived.Test.YtjdnfhkkkejcfaaGreatDoorWd02
import Derived.Test.YtjdnfhkkkejcfaaGreatDoorWd03
import Derived.Lib.AppendZerosOnto
set_option linter.all false
set_option maxRecDepth 100000
set_option maxHeartbeats 2000000
namespace Go.Proofs.YtjdnfhkkkejcfaaGreatDoor
open Go.RowKit Go.Maps Go.Proofs.Tryz
theorem zL(x:Nat->Int)(cs)(v:Int):(!decide (0<=aR (λc=>!dQ x c) 0 cs))=bu x (cs,v):=by rw[s8];unfold bu;simp[List.all_eq_not_any_not]
theorem zM(B cv cs)(x:Nat->Int)(bx w)(d:bG B w cv cs)(h:B<=w.1.size)(a:∀c∈cs,0<=c.1/\c.1<5)(f:rA w bx x)(i:bx<w.1.size):
  cL 273 #[cv,.func (.func 269) #[] #[.pointer (sO bx)]] w λe g=>e=.returned (.bool (decide (0<=aR (λc=>!dQ x c) 0 cs)))/\bL w g:=by
 have j:=xf B cv cs x bx w d h a f i;generalize aR (λc=>!dQ x c) 0 cs=z at*;clear f d a;go_enter func273,ntmps273;go_wp2_with (first|(go_at_call 277;refine j.mono ?_;rintro e g ⟨rfl,b⟩));go_ret;exact⟨rfl,b⟩
def nt(a:Nat):Value:=.func (.func 269) #[] #[.pointer (sO a)]
theorem xI(B cv)(r:aq)(x:Nat->Int)(g h:Nat)(w)(q:bG B w cv r.1)(y:B<=w.1.size)(i:bH r=0)(s:rA w g x)(A:g<w.1.size)(t:w.cell? (pA h 0)=some (nt g))(k:h<w.1.size):
  cL 272 #[.agg #[cv,U r.2],.pointer (sO h)] w (rT w (.bool (bu x r))):=by
 obtain⟨f,u⟩:=r;have b:∀c∈f,0<=c.1/\c.1<5:=λc C=>(ft (fy (dy i).2.2 c C)).1
 have j:∀X,bL w (w.alloc X):=λX=>bR.alloc lE _
 have d:∀X,cL 273 #[cv,nt g] (w.alloc X) λe v=>e=.returned (.bool (decide (0<=aR (λc=>!dQ x c) 0 f)))/\Below (w.alloc X).1.size (w.alloc X) v:=λX=>zM B cv f x g _ (q.l (j X) y) (by simp;omega) b (s.l (j X) A) (by simp;omega)
 have E:=Z (zL x f u);obtain⟨a,l,rfl,_,_,_⟩:=q;clear s i b;show cL 272 #[.agg #[.slice a f.length l,U u],.pointer (sO h)] w _;have m:∀X,(w.alloc X).cell? (pA h 0)=some (nt g):=λX=>((j X).cell (p:=pA h 0) k).trans t
 clear t;generalize f.length=n at*;generalize aR (λc=>!dQ x c) 0 f=z at*;unfold nt at m d;go_enter func272,ntmps272;go_wp2_with (first|(go_at_call 273;refine(d _).mono ?_;rintro e v ⟨rfl,o⟩));go_ret;exact⟨by rw[<-E.o];rfl,Below.tO (j _) o (by simp)⟩
theorem xB(B rv rs)(x:Nat->Int)(u j:Nat)(w)(L:bD B w rv rs)(M:B<=w.1.size)(v:∀r∈rs,bH r=0)(G:rA w u x)(N:u<w.1.size)(I:w.cell? (pA j 0)=some (nt u))(y:j<w.1.size):
  cL 271 #[rv,.func (.func 272) #[] #[.pointer (sO j)]] w (rT w (U (aR (bu x) 0 rs))):=by
 obtain⟨a,O,rfl,P,Q,l⟩:=L;have m:=Z l;have z:=Z G;have A:=Z I;clear l G I;generalize X:rs.length=n at*;have R:n<=9223372036854775807:=by have:=ai;omega
 go_enter func271,ntmps271;go_wp2;go_loopw [8] (λi wr=>∃k:Nat,k<=n/\i=U k/\Hid (aR (bu x) 0 rs=aR (bu x) k (rs.drop k))/\bL w wr) (λi _=>n-(intOf i).toNat)
 case atStart=>exact⟨0,by omega,rfl,rfl,Kf _ _⟩
 case round=>
  obtain⟨k,Y,rfl,H,d⟩:=hrel;have i0:(0:Int)<=(k:Int):=by omega
  by_cases T:k<n
  ·have i1:(k:Int)<(n:Int):=by omega
   obtain⟨c,g⟩:∃c,rs[k]?=some c:=⟨rs[k]'(by omega),by simp⟩;have q:=Kb g;obtain⟨b,o,rfl,C,s⟩:=m.o k c g;have S:=Z (ku (bu x) rs k c g);have D:=v c q;have⟨J,c0,c1,w0,f⟩:=s.l d M C;have V:=d.size
   have h:Hid (cL 272 #[.agg #[J,U c.2],.pointer (sO j)] wr (rT wr (.bool (bu x c)))):=
    xI B J c x u j wr f (by omega) D (z.o.l d N) (by omega) ((d.cell (p:=pA j 0) y).trans A.o) (by omega)
   obtain⟨a2,K,rfl,_,_,_⟩:=f;clear s;generalize c.1.length=m2 at*;go_wp2_with (first|(go_at_call 272;refine h.o.mono ?_;rintro e W ⟨rfl,E⟩))
   all_goals have t:bL w W:=d.th E
   ·have F:bu x c=true:=by assumption
    go_ret;exact⟨by rw[H.o,S.o,Io F];rfl,t⟩
   have F:¬bu x c=true:=by simp_all
   exact⟨⟨k+1,by omega,by go_num,by unfold Hid;rw[H.o,S.o,iO F],t⟩,by simp[intOf];omega⟩
  go_wp2;go_ret;exact⟨by rw[H.o,KJ (by omega)];rfl,d⟩
@[go_sem] theorem Ix {P:Program} {w:World} {a:Addr} {m:Mode} (b:Fn) (first captured:Array Value):(store a (.func b first captured) m).run P w=stored P w a (.func b first captured) m:=run_store P w a _ m rfl
def cP(p:aD)(i:Int):Int × Int:=if i<0 then (p.2,p.1.length) else ((p.1.getD i.toNat ([],0)).2,i)
def eH(p:aD)(x:Nat->Int):Int × Int × Int:=
 if aj p=0 then (if eC x=0 then ((cP p (aR (bu x) 0 p.1)).1,(cP p (aR (bu x) 0 p.1)).2,0) else (0,0,eC x)) else (0,0,aj p)
theorem qK{α:Type}(f:α->Bool):∀ (l:List α) (k:Nat),0<=aR f k l->(k:Int)<=aR f k l/\aR f k l<(k:Int)+l.length
 |[],_,h=>by simp[aR] at h
 |c :: r,k,h=>by
  unfold aR at h |-
  by_cases a:f c=true
  ·simp[a];omega
  simp only[iO a] at h |-
  have:=qK f r (k+1) h
  simp at this |-
  omega
theorem yD(B pv p)(x:Nat->Int)(w)(P:aX B w pv p)(hB:B<=w.1.size):
  cL 253 #[pv,jm x] w (rT w (.tuple #[U (eH p x).1,U (eH p x).2.1,U (eH p x).2.2])):=by
 have t:Hid (∀u,bL w u->cL 143 #[pv] u (rT u (U (aj p)))):=λu h=>gZ B pv p u (P.l h hB) (by have:=h.size;omega)
 have v:Hid (∀u,cL 43 #[jm x] u (rT u (U (eC x)))):=λu=>pN (x 0) (x 1) (x 2) (x 3) (x 4) u
 have K:=Z P;obtain⟨g,d⟩:=p;obtain⟨M,rfl,_,a,m,rfl,Q,af,_⟩:=P;show cL 253 #[.agg #[.slice a g.length m,U d],.agg #[U (x 0),U (x 1),U (x 2),U (x 3),U (x 4)]] w _;have v:=Z v;simp only[] at t Q;have l:∀X Y,bL w ((w.alloc X).alloc Y):=λX Y=>(bR.alloc lE _).alloc (by simp) _
 by_cases H:aj (g,d)=0
 ·have R:(aj (g,d) != 0)=false:=by simpa using H
  have I:Hid (∀X Y y,X=.cells #[.slice a g.length m,U d] 30->Below ((w.alloc X).alloc Y).1.size ((w.alloc X).alloc Y) y->y.cell? (pA w.1.size 0)=some (.slice a g.length m)/\y.cell? (pA w.1.size 1)=some (U d)):=by intro X Y y hX E;subst hX;exact⟨(E.cell (p:=pA w.1.size 0) (by simp;omega)).trans (by simp[go_sem]),(E.cell (p:=pA w.1.size 1) (by simp;omega)).trans (by simp[go_sem])⟩
  have q:Hid (∀X y,Below ((w.alloc X).alloc (.cells #[U (x 0),U (x 1),U (x 2),U (x 3),U (x 4)] 34)).1.size ((w.alloc X).alloc (.cells #[U (x 0),U (x 1),U (x 2),U (x 3),U (x 4)] 34)) y->rA y (w.1.size+1) x):=by
   intro X y E;have:=(rA.made x (w.alloc X) 34).l E (by simp)
   simpa using this
  by_cases N:eC x=0
  ·have S:(eC x != 0)=false:=by simpa using N
   have J:Hid (eH (g,d) x=((cP (g,d) (aR (bu x) 0 g)).1,(cP (g,d) (aR (bu x) 0 g)).2,0)):=by unfold Hid;rw[eH,Io H,Io N]
   have T:∀r∈g,bH r=0:=cM (cY H).2.2
   have A:Hid (∀C L,bL w C->rA C (w.1.size+1) x->w.1.size+1<C.1.size->C.cell? (pA L 0)=some (nt (w.1.size+1))->L<C.1.size->cL 271 #[.slice a g.length m,.func (.func 272) #[] #[.pointer (sO L)]] C (rT C (U (aR (bu x) 0 g)))):=by
    intro C L E h2 h3 h4 h5;obtain⟨M,W,_,F⟩:=K.o;obtain rfl:M=.slice a g.length m:=by simpa using W.symm
    exact xB B _ g x (w.1.size+1) L C (F.l E hB) (by have:=E.size;omega) T h2 h3 h4 h5
   by_cases hz:aR (bu x) 0 g<0
   ·have V:Hid (eH (g,d) x=(d,(g.length:Int),0)):=by unfold Hid;rw[J.o,cP,Io hz]
    generalize aR (bu x) 0 g=z at*;generalize hn:g.length=n at*;go_enter func253,ntmps253
    go_wp2_with (first
     |(go_at_call 143;refine(t.o _ (l _ _)).mono ?_;rintro e y ⟨rfl,f⟩;have x0:=q.o _ _ f 0 (by omega);have x1:=q.o _ _ f 1 (by omega);have x2:=q.o _ _ f 2 (by omega);have x3:=q.o _ _ f 3 (by omega);have x4:=q.o _ _ f 4 (by omega))
     |(go_at_call 43;refine(v.o _).mono ?_;rintro e O ⟨rfl,i⟩;have c:=f.th i;have pz:∀X,(O.alloc X).cell? (pA w.1.size 0)=some (.slice a n m):=λX=>(I.o _ _ _ rfl (f.th (i.alloc i.size X))).1)
     |(go_at_call 271;refine(A.o _ _ (Below.tO (l _ _) (c.alloc c.size _) (by simp;omega)) (q.o _ _ (c.alloc c.size _)) (by have:=c.size;simp at this |-;omega) (by simp[go_sem,nt]) (by simp)).mono ?_;rintro e w4 ⟨rfl,G⟩;have j:=Below.tO (c.alloc c.size _) G (by have:=c.size;simp at this |-;omega);have q0:=(I.o _ _ _ rfl j).1;have q1:=(I.o _ _ _ rfl j).2;have s:=Below.tO (l _ _) j (by simp;omega)))
    go_quiet (fail);go_wp2;go_ret3;exact⟨by rw[V.o];rfl,Below.drewN_ s _⟩
   obtain⟨k,hk⟩:∃k:Nat,aR (bu x) 0 g=k:=⟨(aR (bu x) 0 g).toNat,by omega⟩;have a2:k<g.length:=by have:=qK (bu x) g 0 (by omega);omega
   obtain⟨r,hr⟩:∃r,g[k]?=some r:=⟨g[k],by simp[a2]⟩;have V:Hid (eH (g,d) x=(r.2,(k:Int),0)):=by unfold Hid;rw[J.o,cP,hk,iO (by omega)];simp[List.getD,hr]
   rw[hk] at A;have i0:(0:Int)<=(k:Int):=by omega
   obtain⟨b,o,rfl,b5,D⟩:∃b o,a=some ⟨b,o,none⟩/\b<B/\gO B w b (o+k*2) r:=by
    obtain⟨M,W,_,a',ad,e2,_,_,F⟩:=K.o;obtain rfl:M=.slice a g.length m:=by simpa using W.symm
    simp only[Value.slice.injEq] at e2;obtain⟨rfl,_,rfl⟩:=e2;exact F k r hr
   have a3:Hid (w.cell? ⟨b,o+k*2+1,none⟩=some (U r.2)):=by obtain⟨_,_,h,_⟩:=D;exact h
   clear D hk hz;generalize hn:g.length=n at*;have i1:(k:Int)<(n:Int):=by omega
   go_enter func253,ntmps253
   go_wp2_with (first
    |(go_at_call 143;refine(t.o _ (l _ _)).mono ?_;rintro e y ⟨rfl,f⟩;have x0:=q.o _ _ f 0 (by omega);have x1:=q.o _ _ f 1 (by omega);have x2:=q.o _ _ f 2 (by omega);have x3:=q.o _ _ f 3 (by omega);have x4:=q.o _ _ f 4 (by omega))
    |(go_at_call 43;refine(v.o _).mono ?_;rintro e O ⟨rfl,i⟩;have c:=f.th i;have pz:∀X,(O.alloc X).cell? (pA w.1.size 0)=some (.slice (some ⟨b,o,none⟩) n m):=λX=>(I.o _ _ _ rfl (f.th (i.alloc i.size X))).1)
    |(go_at_call 271;refine(A.o _ _ (Below.tO (l _ _) (c.alloc c.size _) (by simp;omega)) (q.o _ _ (c.alloc c.size _)) (by have:=c.size;simp at this |-;omega) (by simp[go_sem,nt]) (by simp)).mono ?_;rintro e w4 ⟨rfl,G⟩;have j:=Below.tO (c.alloc c.size _) G (by have:=c.size;simp at this |-;omega);have q0:=(I.o _ _ _ rfl j).1;have q1:=(I.o _ _ _ rfl j).2;have s:=Below.tO (l _ _) j (by simp;omega);have q2:=(s.cell (p:=⟨b,o+k*2+1,none⟩) (by show b<w.1.size;omega)).trans a3.o))
   go_ret3;exact⟨by rw[V.o];rfl,s⟩
  have J:Hid (eH (g,d) x=(0,0,eC x)):=by unfold Hid;rw[eH,Io H,iO N]
  have S:(eC x != 0)=true:=by simpa using N
  generalize hn:g.length=n at*;go_enter func253,ntmps253
  go_wp2_with (first
   |(go_at_call 143;refine(t.o _ (l _ _)).mono ?_;rintro e y ⟨rfl,f⟩;have x0:=q.o _ _ f 0 (by omega);have x1:=q.o _ _ f 1 (by omega);have x2:=q.o _ _ f 2 (by omega);have x3:=q.o _ _ f 3 (by omega);have x4:=q.o _ _ f 4 (by omega))
   |(go_at_call 43;refine(v.o _).mono ?_;rintro e O ⟨rfl,i⟩))
  go_ret3;exact⟨by rw[J.o];rfl,Below.tO (Below.tO (l _ _) f (by simp;omega)) i (by have:=f.size;simp at this;omega)⟩
 have J:Hid (eH (g,d) x=(0,0,aj (g,d))):=by unfold Hid;rw[eH,iO H]
 have R:(aj (g,d) != 0)=true:=by simpa using H
 generalize hn:g.length=n at*;go_enter func253,ntmps253;go_wp2_with (first|(go_at_call 143;refine(t.o _ (l _ _)).mono ?_;rintro e u ⟨rfl,i⟩));go_ret3;exact⟨by rw[J.o];rfl,Below.tO (l _ _) i (by simp;omega)⟩
theorem xh(B pv qv p q w)(hp:aX B w pv p)(hq:aX B w qv q)(hB:B<=w.1.size):
  cL 52 #[pv,qv] w (rT w (.bool (decide (p=q)))):=by
 obtain⟨f,I⟩:=p;obtain⟨g,d2⟩:=q;obtain⟨rv,rfl,_,a,bx,rfl,ao,bz,Q⟩:=hp;obtain⟨sv,rfl,_,a2,l,rfl,K,bc,R⟩:=hq;simp only[] at Q R ao K;have a7:=Z Q;have a8:=Z R;clear Q R;have S:∀X Y,bL w ((w.alloc X).alloc Y):=λX Y=>(bR.alloc lE _).alloc (by simp) _
 simp only[]
 by_cases hv:I=d2
 ·subst hv;have E:=Z (by simp:decide (((f,I):aD)=(g,I))=decide (f=g));have hd:(I != I)=false:=by simp
  by_cases d:f.length=g.length
  ·generalize hn:f.length=n at*;have hm:=d.symm;clear d;rw[hm] at K;simp only[hm];have c2:n<=9223372036854775807:=by have:=ai;omega
   go_enter func52,ntmps52;go_wp2;go_loopw [24] (λi wr=>∃k:Nat,k<=n/\i=U k/\Hid (∀i,i<k->f[i]?=g[i]?)/\bL w wr/\Hid (wr.cell? (pA (w.1.size+1) 0)=some (.slice a2 n l))/\w.1.size+1<wr.1.size) (λi _=>n-(intOf i).toNat)
   case atStart=>exact⟨0,by omega,rfl,λi h=>absurd h (by omega),S _ _,by unfold Hid;simp[go_sem],by simp⟩
   case round=>
    obtain⟨k,hk,rfl,H,t,Hq,b0⟩:=hrel;have i0:(0:Int)<=(k:Int):=by omega
    by_cases c4:k<n
    ·have i1:(k:Int)<(n:Int):=by omega
     obtain⟨r,T⟩:∃r,f[k]?=some r:=⟨f[k]'(by omega),by simp⟩;obtain⟨s,V⟩:∃s,g[k]?=some s:=⟨g[k]'(by omega),by simp⟩;obtain⟨b,o,rfl,b1,a9⟩:=a7.o k r T;obtain⟨L,o2,rfl,aa,M⟩:=a8.o k s V;have u:=Z T;have v:=Z V;clear T V;have b3:=t.size;have⟨cv,c0,c1,w0,y⟩:=a9.l t hB b1;have⟨dv,d0,I,w1,z⟩:=M.l t hB aa;obtain⟨N,O,c,rfl⟩:=y.shape;obtain⟨a4,n4,P,rfl⟩:=z.shape;have A:=Z y;have C:=Z z;clear a9 M y z;obtain⟨cs,D⟩:=r;obtain⟨ds,vs⟩:=s;simp only[] at c1 I A C;go_wp2;have b5:(wr.alloc (.cells #[.slice N O c,U D] 131)).cell? (pW wr 0)=some (.slice N O c):=by simp[go_sem]
     have b6:(wr.alloc (.cells #[.slice N O c,U D] 131)).cell? (pW wr 1)=some (U D):=by simp[go_sem]
     have j:bL wr (wr.alloc (.cells #[.slice N O c,U D] 131)):=bR.alloc lE _;have hz:(wr.alloc (.cells #[.slice N O c,U D] 131)).1.size=wr.1.size+1:=by simp
     generalize wr.alloc (.cells #[.slice N O c,U D] 131)=W at*;have d:=ax.ne W;have f0:∀x:ax W,x.1.cell? (pW wr 0)=some (.slice N O c):=λx=>x.cell b5 (by omega)
     have f1:∀x:ax W,x.1.cell? (pW wr 1)=some (U D):=λx=>x.cell b6 (by omega)
     have f2:∀x:ax W,x.1.cell? (pA (w.1.size+1) 0)=some (.slice (some ⟨L,o2,none⟩) n l):=λx=>x.cell ((j.cell (p:=pA (w.1.size+1) 0) b0).trans Hq.o) (by omega)
     have f3:∀x:ax W,x.1.cell? ⟨L,o2+k*2,none⟩=some (.slice a4 n4 P):=λx=>x.cell ((j.cell (p:=⟨L,o2+k*2,none⟩) (by show L<_;omega)).trans d0) (by omega)
     have f4:∀x:ax W,x.1.cell? ⟨L,o2+k*2+1,none⟩=some (U vs):=λx=>x.cell ((j.cell (p:=⟨L,o2+k*2+1,none⟩) (by show L<_;omega)).trans I) (by omega)
     have F:Hid (∀x:ax W,cL 83 #[.slice N O c,.slice a4 n4 P] x.1 λe w'=>e=.returned (.bool (decide (cs=ds)))/\Below x.1.1.size x.1 w'):=λx=>oM B _ _ cs ds _ (A.o.l (j.th x.2) (by omega)) (C.o.l (j.th x.2) (by omega)) (by have:=x.2.size;omega)
     have G:Hid (∀J,bL W J->bL w J/\J.cell? (pA (w.1.size+1) 0)=some (.slice (some ⟨L,o2,none⟩) n l)/\w.1.size+1<J.1.size):=λJ hx=>⟨Below.tO (Below.tO t j b3) hx (by omega),f2 ⟨J,hx⟩,by have:=hx.size;omega⟩
     by_cases a1:D=vs
     ·subst a1;have b8:(D != D)=false:=by simp
      generalize hq:decide (cs=ds)=q at*;have ae:=Z hq;clear hq;refine aW (by kernel_rfl) (by kernel_rfl) ?_;repeat(go_big_quiet_step (first|(go_at_call 83;exact Calls.l (F.o _))))
      refine Km ?_;rintro J ⟨⟨_,hx⟩,rfl⟩;have⟨g1,g2,g3⟩:=G.o J hx;clear f0 f1 f2 f3 f4 d;go_wp2
      ·have d:¬cs=ds:=by have h:=ae.o;rw[(by first|assumption|simpa using (by assumption:(!q)=true):q=false)] at h;simpa using h
       go_ret;refine⟨?_,g1⟩;have:f≠g:=by intro h;have h1:=u.o;rw[h,v.o] at h1;simp at h1;exact d h1.symm
       rw[E.o];simp[this]
      have b9:cs=ds:=by have h:=ae.o;rw[(by first|assumption|simpa using (by assumption:(!q)=false):q=true)] at h;simpa using h
      refine⟨⟨k+1,by omega,by go_num,λi hi=>?_,g1,g2,g3⟩,by simp[intOf];omega⟩
      by_cases ba:i=k
      ·subst ba;rw[u.o,v.o,b9]
      exact H.o i (by omega)
     have b8:(D != vs)=true:=by simpa using a1
     refine aW (by kernel_rfl) (by kernel_rfl) ?_;repeat(go_big_quiet_step (first|(go_at_call 83;exact Calls.l (F.o _))))
     refine Km ?_;rintro J ⟨⟨_,hx⟩,rfl⟩;have⟨g1,g2,g3⟩:=G.o J hx;clear f0 f1 f2 f3 f4 d;go_wp2;go_ret;refine⟨?_,g1⟩;have:f≠g:=by intro h;have h1:=u.o;rw[h,v.o] at h1;simp at h1;exact a1 h1.2.symm
     rw[E.o];simp[this]
    go_wp2;go_ret;refine⟨?_,t⟩
    have:f=g:=by
     refine LD λi=>?_
     by_cases hi:i<k
     ·exact H.o i hi
     rw[KP (by omega),KP (by omega)]
    simp[this]
  have c8:((f.length:Int) != (g.length:Int))=true:=by simp;omega
  have hf:=Z (by simp;intro h;rw[h] at d;exact d rfl:decide (f=g)=false);generalize f.length=n at*;generalize g.length=m at*;go_enter func52,ntmps52;go_wp2;go_ret;exact⟨by rw[hf.o];rfl,S _ _⟩
 have E:=Z (by simp;intro _;exact hv:decide (((f,I):aD)=(g,d2))=false);have ca:(I != d2)=true:=by simpa using hv
 go_enter func52,ntmps52;go_wp2;go_ret;exact⟨by first|rfl|(rw[E.o];rfl),S _ _⟩
theorem fX{w w'}(a:bL w w')(row:Option Nat):w.grownBy w' row:=⟨a.os,a.tape,a.output,a.size,λk b _=>a.block k b⟩
theorem gy{P:Program}{t e:TypeId}{i:TypeInfo}{z:Value}{b f:Nat}{B:Array Oper}{q:List Oper}{o:Oper}{a:Act}{Q:Exit->Act->World->Prop}(w:World)(D:o.guard=none)(s x:Operand)
  (iY:o.op=.call { callee:=.builtin .append,args:=#[s,x],argTypes:=#[t,t] })
  (M:P.underlying t=some (.slice e)) (N:P.info? e=some i) (O:i.zero=some z) (y:i.size=b) (E:i.bytes=f) (F:z.cells.size=b) (G:0<b)
  (d:Nat) (v:Value) (n:Nat) (H:List Value) (R:a.eval s=v) (g m:Nat) (c:List Value) (S:a.eval x=.slice (sO g) m m)
  (W:World) {T0} (T:w=W.alloc (.cells c.toArray T0)) (V:g=W.1.size) (wo) (J:bL wo W) (r:wo.ownsRow d e b v n H) (X:c.length=m*b) (Y:∀u∈c,u.oneCell'=true) (hm:n+m<=maxLen) (hn:(n+m)*f<=140737488355328) (l:d<=wo.1.size)
  (h:∀A C,Hid (C.ownsRow d e b A (n+m) (H++c))->Below d wo C->Hid (wo.grownBy C v.ownBlock)->Hid (A.ownBlock=v.ownBlock\/∃k,A.ownBlock=some k/\wo.1.size<=k)->wpList P B Q q (a.put o.dst A) C):wpList P B Q (o :: q) a w:=by
 subst T;subst V;have p:bL wo (W.alloc (.cells c.toArray T0)):=J.alloc J.size _;obtain⟨A,K,r1,r2,r3,_,r5⟩:=Mt (P:=P) (W.alloc (.cells c.toArray T0)) d t o.type e i z b f M N O y E F G v n H (aw r p) (pW W 0) m m c X (λj u I=>by rw[eM,Kp];exact ab (ah W _) j (by simpa using I)) Y hm hn (p.u l);have L:wo.grownBy K v.ownBlock:=Li (fX p v.ownBlock) r3 λj I=>.inr I
 exact Kw _ D s x _ _ iY _ _ R S _ _ r1 (h A K r2 (bR.grown L l λk hk=>eh r k hk) L (by
  rcases r5 with e|e
  ·exact .inl e
  exact .inr ⟨_,e,p.size⟩))
def lB(B:Nat)(w:World)(xs:List Value)(a:List aq):Prop:=
 xs.length=a.length*2/\(∀u∈xs,u.oneCell'=true)/\∀i r,a[i]?=some r->∃b,xs[i*2]?=some b/\xs[i*2+1]?=some (U r.2)/\wf r.2/\bG B w b r.1
theorem lB.l{B B' w w' xs rs}(h:lB B w xs rs)(e:Below B' w w')(f:B<=B'):lB B w' xs rs:=by obtain⟨g,j,k⟩:=h;refine⟨g,j,λi r l=>?_⟩;have⟨m,a,b,c,d⟩:=k i r l;exact⟨m,a,b,c,d.l e f⟩
def im(B g:Nat)(w:World)(v:Value)(c:List aq):Prop:=
 ∃a b,v=.slice a c.length b/\c.length<=b/\b<=maxLen/\∀i r,c[i]?=some r->a=some (pA g 0)/\∃d,w.cell? ⟨g,i*2,none⟩=some d/\w.cell? ⟨g,i*2+1,none⟩=some (U r.2)/\wf r.2/\bG B w d r.1
theorem im.keep{B g w w' v rs}(h:im B g w v rs)(d:Below B w w')(c:∀j u,w.cell? ⟨g,j,none⟩=some u->w'.cell? ⟨g,j,none⟩=some u):im B g w' v rs:=by obtain⟨a,b,f,k,l,m⟩:=h;refine⟨a,b,f,k,l,λi r n=>?_⟩;have⟨e,o,p,q,s,t⟩:=m i r n;exact⟨e,o,c _ _ p,c _ _ q,s,t.l d lE⟩
theorem im.l{B g w w' v rs}(h:im B g w v rs)(a:bL w w')(c:B<=w.1.size):im B g w' v rs:=
 h.keep (a.mono c) λj u b=>(a.cell (p:=⟨g,j,none⟩) (KE _ _ b)).trans b
theorem im.lt{B g w v rs}(h:im B g w v rs)(b:rs≠[]):g<w.1.size:=by
 obtain⟨a,c,f,i,j,d⟩:=h
 cases rs with
 |nil=>exact absurd rfl b
 |cons r l=>
  have⟨_,k,e,_⟩:=d 0 r rfl;exact KE _ _ e
theorem im.rulesAt{B g w v rs}(h:im B g w v rs)(H:B<=w.1.size):bD w.1.size w v rs:=by have l:=h;obtain⟨a,f,m,n,p,q⟩:=h;refine⟨a,f,m,n,p,λi r j=>?_⟩;have⟨e,s,t,u,x,y⟩:=q i r j;refine⟨g,0,e,l.lt (by intro z;rw[z] at j;simp at j),s,by rw[Kp];exact t,by rw[Kp];exact u,x,?_⟩;obtain⟨A,d,C,D,E,F⟩:=y;refine⟨A,d,C,D,E,λi c G=>?_⟩;have⟨b,o,e,I,k⟩:=F i c G;exact⟨b,o,e,by omega,k⟩
theorem C9{B L:Nat}{w:World}{v:Value}{xs:List Value}{a:List aq}(h:w.ownsRow L 131 2 v a.length xs)(j:lB B w xs a):∃g,L<=g/\im B g w v a:=by
 have k:=h
 rcases h.2 with ⟨b,l⟩|⟨g,e,m,b,n,z,f,o,p,q⟩
 ·refine⟨L,Ke _,none,0,by rw[b,l],by omega,Ks _,λi r d=>?_⟩;have:=(K9.1 d).1;omega
 refine⟨g,n,some (pA g 0),e,b,f,o,λi r d=>⟨rfl,?_⟩⟩;have A:i<a.length:=(K9.1 d).1;have⟨s,t,u,x,y⟩:=j.2.2 i r d;subst b;have c:=aK k;exact⟨s,c _ _ t,c _ _ u,x,y⟩
theorem lB.append{B w xs ys rs ss}(h:lB B w xs rs)(k:lB B w ys ss):lB B w (xs++ys) (rs++ss):=by
 obtain⟨f,g,j⟩:=h;obtain⟨l,m,n⟩:=k;refine⟨by simp[f,l];omega,λu o=>?_,λi r a=>?_⟩
 ·rcases KB.1 o with h|h
  ·exact g u h
  exact m u h
 by_cases p:i<rs.length
 ·rw[Kh p] at a;have⟨b,c,d,e⟩:=j i r a;exact⟨b,by rw[Kh (by omega)];exact c,by rw[Kh (by omega)];exact d,e⟩
 rw[Kk (by omega)] at a;obtain⟨b,c,d,e⟩:=n _ r a;refine⟨b,?_,?_,e⟩
 ·rw[Kk (by omega),show i*2-xs.length=(i-rs.length)*2 by omega];exact c
 rw[Kk (by omega),show i*2+1-xs.length=(i-rs.length)*2+1 by omega];exact d
section
open Go.ChangeShapes Go.WideShapes Go.ChangeAt Go.Deep
abbrev cO:=Int × Int × Int × Int
def J6(c:cO):Value:=.agg #[U c.1,U c.2.1,U c.2.2.1,U c.2.2.2]
def gH(c:cO):Prop:=wf c.1/\wf c.2.1/\wf c.2.2.1/\wf c.2.2.2
def lm(w:World)(b o:Nat)(c:cO):Prop:=
 w.cell? ⟨b,o,none⟩=some (U c.1)/\w.cell? ⟨b,o+1,none⟩=some (U c.2.1)/\w.cell? ⟨b,o+2,none⟩=some (U c.2.2.1)/\w.cell? ⟨b,o+3,none⟩=some (U c.2.2.2)/\gH c
def dR(B:Nat)(w:World)(v:Value)(cs:List cO):Prop:=
 ∃a d,v=.slice a cs.length d/\cs.length<=d/\d<=maxLen/\∀i c,cs[i]?=some c->∃b o,a=some ⟨b,o,none⟩/\b<B/\lm w b (o+i*4) c
theorem lm.l{B w w' b o c}(h:lm w b o c)(a:Below B w w')(d:b<B):lm w' b o c:=by unfold lm;rw[a.cell (p:=⟨b,o,none⟩) d,a.cell (p:=⟨b,o+1,none⟩) d,a.cell (p:=⟨b,o+2,none⟩) d,a.cell (p:=⟨b,o+3,none⟩) d];exact h
theorem dR.l{B B' w w' v cs}(h:dR B w v cs)(f:Below B' w w')(q:B<=B'):dR B w' v cs:=by obtain⟨a,d,g,j,l,m⟩:=h;refine⟨a,d,g,j,l,λi c n=>?_⟩;have⟨b,o,e,p,k⟩:=m i c n;exact⟨b,o,e,p,k.l f (by omega)⟩
theorem dR.mono{B f:Nat}{w v cs}(h:dR B w v cs)(p:B<=f):dR f w v cs:=by obtain⟨a,d,g,j,l,m⟩:=h;refine⟨a,d,g,j,l,λi c n=>?_⟩;have⟨b,o,e,q,k⟩:=m i c n;exact⟨b,o,e,by omega,k⟩
theorem dR.shape{B w v cs}(h:dR B w v cs):∃a b,v=.slice a cs.length b/\cs.length<=b/\b<=maxLen:=by obtain⟨a,b,rfl,h,c,_⟩:=h;exact⟨a,b,rfl,h,c⟩
def d8(c:cO)(a:Int):Int:=
 if c.1=1\/c.1=4 then (if c.2.2.1≠0\/c.2.2.2≠0 then 4 else if c.2.1<0\/4<c.2.1 then 3 else 0)
 else if c.1=2\/c.1=3 then (if c.2.1<0\/65535<c.2.1 then 3 else if c.2.2.1<0\/a<=c.2.2.1\/c.2.2.2<0\/a<=c.2.2.2 then 5 else 0)
 else 4
def bK:List cO->Int
 |[]=>0
 |c :: r=>if d8 c r.length=0 then bK r else d8 c r.length
def eS:List cO->Int
 |[]=>0
 |[c]=>c.1
 |_ :: c :: r=>eS (c :: r)
def aV(l:List cO):Int:=if l.length<1\/1500<l.length then 2 else if bK l=0 then (if eS l=4 then 0 else 4) else bK l
theorem rH(l:List cO)(k:Nat)(c:cO)(h:l[k]?=some c):bK (l.drop k)=if d8 c ((l.length:Int)-1-k)=0 then bK (l.drop (k+1)) else d8 c ((l.length:Int)-1-k):=by obtain⟨a,rfl⟩:=K9.1 h;rw[KM a,bK,show (((l.drop (k+1)).length:Nat):Int)=(l.length:Int)-1-k by rw[MA];omega]
theorem lS:∀ (l:List cO) (c:cO),l[l.length-1]?=some c->eS l=c.1
 |[],_,h=>by simp at h
 |[d],c,h=>by simp at h;subst h;rfl
 |_ :: d :: r,c,h=>by rw[eS];exact lS (d :: r) c (by simpa using h)
theorem px:∀ (l:List cO) (k:Nat) (c:cO),bK l=0->l[k]?=some c->d8 c ((l.length:Int)-1-k)=0
 |[],_,_,_,h=>by simp at h
 |d :: r,k,c,h,b=>by
  rw[bK] at h
  by_cases a:d8 d r.length=0
  ·rw[Io a] at h
   cases k with
   |zero=>
    simp at b;subst b;rw[show (((d :: r).length:Nat):Int)-1-((0:Nat):Int)=r.length by simp];exact a
   |succ k=>
    have:=px r k c h (by simpa using b);rw[show (((d :: r).length:Nat):Int)-1-((k+1:Nat):Int)=(r.length:Int)-1-k by simp;omega];exact this
  rw[iO a] at h;exact absurd h a
theorem nK{l:List cO}(h:aV l=0):1<=l.length/\l.length<=1500/\bK l=0/\eS l=4:=by
 unfold aV at h
 by_cases b:l.length<1\/1500<l.length
 ·rw[Io b] at h;cases h
 rw[iO b] at h
 by_cases a:bK l=0
 ·rw[Io a] at h
  by_cases c:eS l=4
  ·exact⟨by omega,by omega,a,c⟩
  rw[iO c] at h;cases h
 rw[iO a] at h;exact absurd h a
theorem ud{c}{n:Int}(h:d8 c n=0):(c.1=1\/c.1=4)/\(0<=c.2.1/\c.2.1<=4)\/(c.1=2\/c.1=3)/\(0<=c.2.2.1/\c.2.2.1<n/\0<=c.2.2.2/\c.2.2.2<n):=by
 unfold d8 at h
 by_cases a:c.1=1\/c.1=4
 ·rw[Io a] at h
  split at h
  ·cases h
  split at h
  ·cases h
  exact .inl ⟨a,by omega⟩
 rw[iO a] at h
 by_cases b:c.1=2\/c.1=3
 ·rw[Io b] at h
  split at h
  ·cases h
  split at h
  ·cases h
  exact .inr ⟨b,by omega⟩
 rw[iO b] at h
 cases h
def Jo(p:Int × Int):Int × Int:=(p.1,p.2+1)
def iY(n:Int)(c:cO):Nat:=(if (if c.1=2 then n=c.2.1 else n<c.2.1) then c.2.2.1 else c.2.2.2).toNat
def dJ(x:Nat->Int):Int->Nat->List cO->Int × Int
 |_,_,[]=>(0,0)
 |n,k+1,_ :: r=>dJ x n k r
 |n,0,c :: r=>if c.1=1 then Jo (dJ x (x c.2.1.toNat) 0 r) else if c.1=2\/c.1=3 then Jo (dJ x n (iY n c) r) else (c.2.1,1)
theorem sQ(x:Nat->Int):∀ (l:List cO) (n:Int) (k:Nat),dJ x n k l=dJ x n 0 (l.drop k)
 |[],n,k=>by cases k<;>simp[dJ]
 |c :: r,n,0=>by simp
 |c :: r,n,k+1=>by rw[MF,dJ];exact sQ x r n k
theorem Fz{H:Type}{r:TypeId × Value->H}{W:World}{base:Nat}{V:Nat->Bool}{g:Bool}{j:Nat}{cv:Value}{x:DataW H × List MemPlace}(h:DataW.trod r prog W base V g j 77 [cv]=some x):∃s,dR W.1.size W cv s:=by
 rcases open_slice Tryz.underlying77 h with ⟨l,_⟩|⟨a,e,t,m,n,D,Pl,l,_,hl,X,u,_,w⟩
 ·simp at l;subst l;exact⟨[],none,0,rfl,Ke _,Ks _,λi c y=>by simp at y⟩
 simp at l;subst l;have Y:prog.cellsOf 112=4:=by kernel_rfl
 have h1:prog.cellsOf 3=1:=by kernel_rfl
 rw[Y] at w;have a1:e<=m:=by rw[u];split<;>omega
 have o:∀i,i<e->∃c:cO,a=⟨a.block,a.off,none⟩/\a.block<W.1.size/\lm W a.block (a.off+i*4) c:=by
  intro i hi
  have z:W.cell? (a.add 0)≠none:=by
   obtain⟨f,A,_⟩:=w 0 (by omega);have⟨_,d,b⟩:=Lh A;have:=b 0 (by omega);rw[add_add] at this;simp at this
   match f,d with
   |[v0,v1,v2,v3],_=>simp at this |-;rw[this];simp
  have⟨v,hv⟩:=Lp.1 z;have⟨p,B⟩:=iX hv;obtain⟨f,A,g2⟩:=w i (by omega);have⟨_,d,b⟩:=Lh A;have⟨xs,k,_,_,_,C,q⟩:=DataW.trod_struct Tryz.underlying112 g2
  match xs,C with
  |[y0,y1,y2,y3],_=>
   have I:=q 0 _ rfl;have J:=q 1 _ rfl;have K:=q 2 _ rfl;have L:=q 3 _ rfl
   match f,d with
   |[v0,v1,v2,v3],_=>
    simp[h1] at I J K L;have⟨k0,M,_,w0⟩:=KV Tryz.underlying3 I;have⟨k1,N,_,w1⟩:=KV Tryz.underlying3 J;have⟨k2,O,_,w2⟩:=KV Tryz.underlying3 K;have⟨k3,P,_,w3⟩:=KV Tryz.underlying3 L;simp at M N O P;subst M N O P;have Q:=b 0 (by omega);have R:=b 1 (by omega);have S:=b 2 (by omega);have T:=b 3 (by omega);rw[add_add,p,eM] at Q R S T;exact⟨(k0,k1,k2,k3),p,B,by simpa using Q,by simpa [KX] using R,by simpa [KX] using S,by simpa [KX] using T,w0,w1,w2,w3⟩
 obtain⟨s,E,F⟩:=iU _ e o;refine⟨s,some a,t,by rw[E],by omega,X,λi c y=>?_⟩;have⟨p,B,G⟩:=F i c y;exact⟨a.block,a.off,by rw[<-p],B,G⟩
end
theorem rV:∃i,prog.info? 112=some i/\i.zero=some (.agg #[U 0,U 0,U 0,U 0])/\i.size=4/\i.bytes=32:=jL (by kernel_rfl)
def aJ(l:List cO):List Value:=l.flatMap λc=>[U c.1,U c.2.1,U c.2.2.1,U c.2.2.2]
theorem iR(c:cO)(l:List cO):aJ (c :: l)=U c.1 :: U c.2.1 :: U c.2.2.1 :: U c.2.2.2 :: aJ l:=rfl
theorem dM(l m:List cO):aJ (l++m)=aJ l++aJ m:=by unfold aJ;exact Mg
theorem f6:∀l:List cO,(aJ l).length=l.length*4
 |[]=>rfl
 |c :: r=>by rw[iR];simp[f6 r];omega
theorem iA:∀ (l:List cO),∀u∈aJ l,u.oneCell'=true
 |[],u,h=>by cases h
 |c :: r,u,h=>by
  rw[iR] at h;simp at h
  rcases h with rfl|rfl|rfl|rfl|h
  ·rfl
  ·rfl
  ·rfl
  ·rfl
  exact iA r u h
theorem rW:∀ (l:List cO) (i:Nat) (c:cO),l[i]?=some c->(aJ l)[i*4]?=some (U c.1)/\(aJ l)[i*4+1]?=some (U c.2.1)/\(aJ l)[i*4+2]?=some (U c.2.2.1)/\(aJ l)[i*4+3]?=some (U c.2.2.2)
 |[],_,_,h=>by simp at h
 |a :: r,0,c,h=>by simp at h;subst h;simp[iR]
 |a :: r,i+1,c,h=>by have b:=rW r i c (by simpa using h);rw[iR,show (i+1)*4=i*4+4 by omega];exact b
theorem qx{w}{b o:Nat}:∀ (l:List cO) (o:Nat),(∀i c,l[i]?=some c->lm w b (o+i*4) c)->∀j u,(aJ l)[j]?=some u->w.cell? ⟨b,o+j,none⟩=some u
 |[],_,_,j,u,h=>by simp[aJ] at h
 |c :: r,o,a,j,u,h=>by
  have⟨d,e,f,g,_⟩:=a 0 c rfl;simp only[Nat.zero_mul,Nat.add_zero] at d e f g;rw[iR] at h
  match j,h with
  |0,h=>simp at h;subst h;simpa using d
  |1,h=>simp at h;subst h;exact e
  |2,h=>simp at h;subst h;exact f
  |3,h=>simp at h;subst h;exact g
  |j+4,h=>
   have:=qx (b:=b) (o:=o) r (o+4) (λi c k=>by
    have:=a (i+1) c (by simpa using k);rw[show o+(i+1)*4=o+4+i*4 by omega] at this
    exact this) j u (by simpa using h)
   rw[show o+(j+4)=o+4+j by omega];exact this
theorem jA{L:Nat}{w:World}{v:Value}{l:List cO}(h:w.ownsRow L 112 4 v l.length (aJ l))(b:∀c∈l,gH c):dR w.1.size w v l:=by
 obtain⟨a,d,rfl,j,k,m⟩:=an h;refine⟨a,d,rfl,j,k,λi c e=>?_⟩;have s:i<l.length:=(K9.1 e).1;obtain⟨g,rfl,n,f⟩:=m (by omega);have⟨o,p,q,r⟩:=rW l i c e;refine⟨g,0,rfl,f,?_,?_,?_,?_,b c (Kb e)⟩
 all_goals rw[Kp]
 ·exact aK h _ _ o
 ·exact aK h _ _ p
 ·exact aK h _ _ q
 exact aK h _ _ r
theorem dR.wf{B w v l}(h:dR B w v l):∀c∈l,gH c:=by intro c a;have⟨i,b⟩:=LJ.1 a;obtain⟨_,_,_,_,_,d⟩:=h;have⟨_,_,_,_,k⟩:=d i c b;exact k.2.2.2.2
