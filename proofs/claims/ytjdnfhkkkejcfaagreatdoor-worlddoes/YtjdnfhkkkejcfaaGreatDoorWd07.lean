import Derived.Test.YtjdnfhkkkejcfaaGreatDoorWd06
set_option linter.all false
set_option maxRecDepth 100000
set_option maxHeartbeats 16000000
namespace Go.Proofs.YtjdnfhkkkejcfaaGreatDoor
open Go.RowKit Go.Maps Go.Proofs.Tryz
def jf(p:aD)(x:Nat->Int)(m:Nat):Int × Int:=cP p (aR (bu x) m (p.1.drop m))
theorem Dm(p)(x:Nat->Int):jf p x p.1.length=(p.2,(p.1.length:Int)):=by unfold jf;rw[KJ lE];rfl
theorem Cd(p:aD)(x:Nat->Int)(m:Nat)(r:aq)(h:p.1[m]?=some r):jf p x m=if bu x r=true then (r.2,(m:Int)) else jf p x (m+1):=by
 unfold jf;rw[ku _ _ _ _ h]
 split
 ·rw[cP,iO (by omega)];simp[List.getD,h]
 rfl
theorem I5(f:aN->Bool)(cs:List aN)(j:Nat)(c:aN)(h:cs[j]?=some c):(cs.take (j+1)).all f=((cs.take j).all f&&f c):=by rw[LC,h,List.all_append];simp
theorem rm(B pv p)(x:Nat->Int)(w)(hp:aX B w pv p)(hB:B<=w.1.size)(Q:aj p=0):
  cL 147 #[pv,jm x] w λe H=>e=.returned (.tuple #[U (cP p (aR (bu x) 0 p.1)).1,U (cP p (aR (bu x) 0 p.1)).2])/\bL w H:=by
 have R:Hid (cP p (aR (bu x) 0 p.1)=jf p x 0):=rfl;have V:=cM (cY Q).2.2;have I:=(cY Q).1;obtain⟨l,d⟩:=p;obtain⟨rv,rfl,_,a,q,rfl,ao,c4,J⟩:=hp;simp only[] at J ao V I;have X:=Z J;clear J;have F:=Z (Dm (l,d) x);have K:=Z λ(m:Nat) r (h:l[m]?=some r)=>Cd (l,d) x m r h
 show cL 147 #[.agg #[.slice a l.length q,U d],.agg #[U (x 0),U (x 1),U (x 2),U (x 3),U (x 4)]] w _
 have HW:Hid (∀H,Below (w.1.size+2) ((w.alloc (.cells #[.slice a l.length q,U d] 30)).alloc (.cells #[U (x 0),U (x 1),U (x 2),U (x 3),U (x 4)] 34)) H->H.cell? (pW w 0)=some (.slice a l.length q)/\rA H (w.1.size+1) x/\bL w H):=by
  intro H h;refine⟨(h.cell (p:=pW w 0) (by simp)).trans (by simp[go_sem]),?_,?_⟩
  ·have:=(rA.made x (w.alloc (.cells #[.slice a l.length q,U d] 30)) 34);rw[Kg] at this;exact this.l h (by omega)
  exact((bR.alloc lE _).alloc (by simp) _).trans (h.mono (by omega))
 have av:Below (w.1.size+2) ((w.alloc (.cells #[.slice a l.length q,U d] 30)).alloc (.cells #[U (x 0),U (x 1),U (x 2),U (x 3),U (x 4)] 34)) ((w.alloc (.cells #[.slice a l.length q,U d] 30)).alloc (.cells #[U (x 0),U (x 1),U (x 2),U (x 3),U (x 4)] 34)):=Kf _ _;have b0:w.1.size+2<=((w.alloc (.cells #[.slice a l.length q,U d] 30)).alloc (.cells #[U (x 0),U (x 1),U (x 2),U (x 3),U (x 4)] 34)).1.size:=by simp
 generalize hn:l.length=n at*;go_enter func147,ntmps147;go_wp2;go_quiet (fail);go_wp2;go_loopw [8,6,7] (λi vv kk wr=>∃m:Nat,m<=n/\i=U ((m:Int)-1)/\vv=U (jf (l,d) x m).1/\kk=U (jf (l,d) x m).2/\Below (w.1.size+2) ((w.alloc (.cells #[.slice a n q,U d] 30)).alloc (.cells #[U (x 0),U (x 1),U (x 2),U (x 3),U (x 4)] 34)) wr) (λi _ _ _=>(intOf i+1).toNat)
 case atStart=>
  refine⟨n,by omega,by go_num,by rw[F.o],by rw[F.o],Below.drewN_ av _⟩
 case round=>
  obtain⟨m,hm,rfl,rfl,rfl,L⟩:=hrel;have⟨wo,b1⟩:=nM (wr);subst b1;obtain⟨p0,hX,M⟩:=HW.o _ L;have b3:=Z hX;clear hX
  by_cases b4:m=0
  ·subst b4;go_wp2;go_ret2;exact⟨by rw[R.o];rfl,M⟩
  obtain⟨k,rfl⟩:∃k,m=k+1:=⟨m-1,by omega⟩;have e1:((k+1:Nat):Int)-1=(k:Int):=by omega
  rw[e1];have i0:(0:Int)<=(k:Int):=by omega
  have i1:(k:Int)<(n:Int):=by omega
  obtain⟨r,D⟩:∃r,l[k]?=some r:=⟨l[k]'(by omega),by simp⟩;have Y:=V r (Kb D);have S:=K.o k r D;have S':Hid _:=S;clear S;obtain⟨b,o,rfl,b6,a0⟩:=X.o k r D;have c7:=M.size;have a1:=L.size;have b7:=Kl b0 a1;have⟨cv,c0,c1,w0,a3⟩:=a0.l M hB b6;obtain⟨z,vd⟩:=r;obtain⟨a2,bo,rfl,a4,bp,N⟩:=a3;simp only[] at N a4 c0 c1;have b9:=fy (dy Y).2.2;have ca:=(dy Y).1;have a5:=Z N;clear N a0 D;have HA:Hid (bu x (z,vd)=(z.take z.length).all (dQ x)):=by unfold Hid bu;simp
  generalize cb:z.length=m2 at*;go_wp2;go_loopw [32,9] (λi al A=>∃j:Nat,j<=m2/\i=U j/\al=.bool ((z.take j).all (dQ x))/\bL wo A) (λi _ _=>m2-(intOf i).toNat)
  case atStart=>exact⟨0,by omega,rfl,by simp,Kf _ _⟩
  case round=>
   obtain⟨j,hj,rfl,rfl,u⟩:=hrel;have⟨A,ba⟩:=nM (wr);subst ba;have j0:(0:Int)<=(j:Int):=by omega
   have a7:=u.size
   by_cases cd:j<m2
   ·have j1:(j:Int)<(m2:Int):=by omega
    obtain⟨c,E⟩:∃c,z[j]?=some c:=⟨z[j]'(by omega),by simp⟩;have T:=I5 (dQ x) z j c E;have T':Hid _:=T;clear T;have a8:=ft (b9 c (Kb E));obtain⟨b2,o2,rfl,bs,G⟩:=a5.o j c E;clear E;obtain⟨f,O,v⟩:=c;simp only[] at a8;obtain⟨e0,e1,e2,w0,w1,w2⟩:=G.l u (by omega);simp only[] at e0 e1 e2;clear G;obtain⟨s,rfl⟩:∃s:Nat,f=s:=⟨f.toNat,by omega⟩;have f0:(0:Int)<=(s:Int):=by omega
    have f1:(s:Int)<5:=by omega
    have iY:=a8.2.1;go_wp2;have hC:=Hl (s:Int) O v A 134;have a9:bL A (A.alloc (.cells #[U (s:Int),U O,U v] 134)):=bR.alloc lE _;have hz:(A.alloc (.cells #[U (s:Int),U O,U v] 134)).1.size=A.1.size+1:=by simp
    generalize A.alloc (.cells #[U (s:Int),U O,U v] 134)=W at*;have aa:=ax.ne W;have q0:∀y:ax W,y.1.cell? (pW A 0)=some (U (s:Int)):=λy=>y.cell hC.1 (by omega)
    have q1:∀y:ax W,y.1.cell? (pW A 1)=some (U O):=λy=>y.cell hC.2.1 (by omega)
    have q2:∀y:ax W,y.1.cell? (pW A 2)=some (U v):=λy=>y.cell hC.2.2 (by omega)
    have ac:rA W (w.1.size+1) x:=(b3.o.l u (by omega)).l a9 (by omega);have q3:∀y:ax W,y.1.cell? ⟨w.1.size+1,s,none⟩=some (U (x s)):=λy=>y.cell (ac s (by omega)) (by omega)
    have ad:Hid (∀P,bL W P->bL wo P):=λP hx=>Below.tO (Below.tO u a9 a7) hx (by omega)
    have bb:Hid (dQ x ((s:Int),O,v)=iG O v (x s)):=by unfold Hid dQ;simp
    clear hC ac
    by_cases g:(z.take j).all (dQ x)=true
    ·rw[g];refine aW (by kernel_rfl) (by kernel_rfl) ?_;repeat(go_big_quiet_step (first|(go_at_call 182;exact Calls.l (vy _ _ _ _ iY _))))
     refine Km ?_;rintro P ⟨⟨_,hx⟩,rfl⟩;have g1:=ad.o P hx;clear q0 q1 q2 q3 aa;go_wp2;exact⟨⟨j+1,by omega,by go_num,by rw[T'.o,g,bb.o];simp,g1⟩,by simp[intOf];omega⟩
    have t:(z.take j).all (dQ x)=false:=by simpa using g
    rw[t];clear g;refine aW (by kernel_rfl) (by kernel_rfl) ?_;repeat(go_big_quiet_step (first|(go_at_call 182;exact Calls.l (vy _ _ _ _ iY _))))
    refine Km ?_;rintro P ⟨⟨_,hx⟩,rfl⟩;have g1:=ad.o P hx;clear q0 q1 q2 q3 aa;go_wp2;exact⟨⟨j+1,by omega,by go_num,by rw[T'.o,t];simp,g1⟩,by simp[intOf];omega⟩
   obtain rfl:j=m2:=by omega
   have C:=Below.tO L u b7;obtain⟨p1,_,_⟩:=HW.o _ C;have d1:A.cell? ⟨b,o+k*2+1,none⟩=some (U vd):=(u.cell (p:=⟨b,o+k*2+1,none⟩) (by show b<_;omega)).trans c1
   by_cases g:(z.take j).all (dQ x)=true
   ·have hS:=Z (by rw[S'.o,Io (by rw[HA.o];exact g)]:jf (l,d) x k=(vd,(k:Int)));rw[g];go_wp2;exact⟨⟨k,by omega,by go_num,by rw[hS.o],by rw[hS.o],C⟩,by simp[intOf]⟩
   have t:(z.take j).all (dQ x)=false:=by simpa using g
   have hS:=Z (by rw[S'.o,iO (by rw[HA.o];exact g)]:jf (l,d) x k=jf (l,d) x (k+1));rw[t];clear g;go_wp2;exact⟨⟨k,by omega,by go_num,by rw[hS.o],by rw[hS.o],C⟩,by simp[intOf]⟩
def kN:List Bs:=[[111,112,101,110],[116,105,103,104,116],[102,111,114,107],[115,104,117,116]]
def aU(r:az):Bs:=kN.getD (r.1-1).toNat []++32 :: (Lib.itoa r.2.1++(if r.1=3 then 32 :: Lib.itoa r.2.2.1 else if r.1=4 then [] else 32 :: cW r.2.2.2))
def fP(r:az):Bs:=if aZ r=0 then aU r else []
def js:Bs->Option (Bs × Bs)
 |[]=>none
 |b :: l=>if b=32 then some ([],l) else match js l with
  |none=>none
  |some (a,t)=>some (b :: a,t)
def ar(s:Bs):List Bs:=match js s with
 |none=>[s]
 |some (a,t)=>match js t with
  |none=>[a,t]
  |some (b,u)=>[a,b,u]
def gP(r:az):az × Int:=if aZ r=0 then (r,0) else (cu,aZ r)
def ch(s:Bs):az × Int:=
 if bt kN ((ar s).getD 0 [])<0\/(bt kN ((ar s).getD 0 [])=3/\(ar s).length≠2)\/(bt kN ((ar s).getD 0 [])<3/\(ar s).length≠3) then (cu,1)
 else match cS ((ar s).getD 1 []) with
  |none=>(cu,1)
  |some c=>if bt kN ((ar s).getD 0 [])=2 then (match cS ((ar s).getD 2 []) with
    |none=>(cu,1)
    |some f=>gP (3,c,f,[],0))
   else if bt kN ((ar s).getD 0 [])=3 then gP (4,c,0,[],0)
   else if (cG ((ar s).getD 2 [])).2=0 then gP (bt kN ((ar s).getD 0 [])+1,c,0,(cG ((ar s).getD 2 [])).1)
   else (cu,(cG ((ar s).getD 2 [])).2)
theorem mD:∀ (a t:Bs),(32:UInt8) ∉ a->js (a++32 :: t)=some (a,t)
 |[],t,_=>rfl
 |b :: a,t,h=>by
  have c:b≠32:=λe=>h (by simp[e])
  show (if b=32 then some ([],a++32 :: t) else match js (a++32 :: t) with|none=>none|some (a,t)=>some (b :: a,t))=_;rw[iO c,mD a t λe=>h (by simp[e])]
theorem ru:∀ (a:Bs),(32:UInt8) ∉ a->js a=none
 |[],_=>rfl
 |b :: a,h=>by
  have c:b≠32:=λe=>h (by simp[e])
  show (if b=32 then some ([],a) else match js a with|none=>none|some (a,t)=>some (b :: a,t))=_;rw[iO c,ru a λe=>h (by simp[e])]
theorem nA:∀ {s a t:Bs},js s=some (a,t)->s=a++32 :: t/\(32:UInt8) ∉ a
 |[],a,t,h=>by cases h
 |b :: s,a,t,h=>by
  have c:(if b=32 then some ([],s) else match js s with|none=>none|some (a,t)=>some (b :: a,t))=some (a,t):=h
  by_cases d:b=32
  ·rw[Io d] at c
   cases c;exact⟨by rw[d];rfl,by simp⟩
  rw[iO d] at c
  cases hc:js s with
  |none=>rw[hc] at c;cases c
  |some x=>
   obtain⟨g,i⟩:=x;rw[hc] at c
   cases c;have⟨e,f⟩:=nA hc;exact⟨by rw[e];rfl,by simp;exact⟨λe=>d e.symm,f⟩⟩
theorem De{s:Bs}(h:js s=none):(32:UInt8) ∉ s:=by
 intro c
 obtain⟨a,t,e,d⟩:∃a t,s=a++32 :: t/\(32:UInt8) ∉ a:=by
  clear h
  induction s with
  |nil=>cases c
  |cons b s g=>
   by_cases f:b=32
   ·exact⟨[],s,by rw[f];rfl,by simp⟩
   rcases Kz.1 c with e|c
   ·exact absurd e.symm f
   have⟨a,t,e,d⟩:=g c;exact⟨b :: a,t,by rw[e];rfl,by simp;exact⟨λe=>f e.symm,d⟩⟩
 rw[e,mD a t d] at h
 cases h
theorem D9{n:Int}(h:0<=n):(32:UInt8) ∉ Lib.itoa n:=by
 have e:Lib.itoa n=Lib.decDigits n.toNat:=by unfold Lib.itoa;rw[iO (by omega)]
 rw[e];intro a;have:=iV _ _ a;have b:(32:UInt8).toNat=32:=rfl;omega
theorem Gh:∀k,k<4->(32:UInt8) ∉ kN.getD k []:=by decide
theorem J9:∀k,k<4->bt kN (kN.getD k [])=(k:Int):=by decide
theorem Cu{a b:Bs}(c:(32:UInt8) ∉ a)(d:(32:UInt8) ∉ b):ar (a++32 :: b)=[a,b]:=by unfold ar;rw[mD a b c];simp only[ru b d]
theorem s7{a b c:Bs}(d:(32:UInt8) ∉ a)(e:(32:UInt8) ∉ b):ar (a++32 :: (b++32 :: c))=[a,b,c]:=by unfold ar;rw[mD a _ d];simp only[mD b c e]
theorem lN{s:Bs}:(∃a,ar s=[a]/\s=a)\/(∃a b,ar s=[a,b]/\s=a++32 :: b)\/∃a b c,ar s=[a,b,c]/\s=a++32 :: (b++32 :: c):=by
 unfold ar
 cases h:js s with
 |none=>exact .inl ⟨s,rfl,rfl⟩
 |some x=>
  obtain⟨a,t⟩:=x;obtain⟨e,-⟩:=nA h
  cases h2:js t with
  |none=>exact .inr (.inl ⟨a,t,by simp only[h2],e⟩)
  |some x=>
   obtain⟨b,u⟩:=x;obtain⟨d,-⟩:=nA h2;exact .inr (.inr ⟨a,b,u,by simp only[h2],by rw[e,d]⟩)
theorem BW{w:Bs}{n:Int}(h:cS w=some n):Lib.itoa n=w:=by
 unfold cS at h
 split at h
 ·split at h
  ·rename_i e
   cases h;exact e
  cases h
 cases h
theorem t7{r x:az}(h:gP r=(x,0)):x=r/\aZ r=0:=by
 unfold gP at h
 split at h
 ·rename_i a
  cases h;exact⟨rfl,a⟩
 rename_i a;simp at h;exact absurd h.2 a
theorem nD{r:az}(h:aZ r=0):gP r=(r,0):=by unfold gP;rw[Io h]
theorem y6{p:aD}(h:aj p=0)(a:(cW p).length<=60000):cG (cW p)=(p,0):=by rw[qA a (GK h),Io h]
theorem xU{r:az}(h:aZ r=0):∃k:Nat,k<4/\r.1=(k:Int)+1/\(ar (aU r)).getD 0 []=kN.getD k []/\(ar (aU r)).getD 1 []=Lib.itoa r.2.1/\
  (k=3->(ar (aU r)).length=2)/\(k<3->(ar (aU r)).length=3/\(ar (aU r)).getD 2 []=if k=2 then Lib.itoa r.2.2.1 else cW r.2.2.2):=by
 obtain⟨m,i,n,-,-⟩:=iB h;obtain⟨k,c,j⟩:∃k:Nat,k<4/\r.1=(k:Int)+1:=⟨(r.1-1).toNat,by omega,by omega⟩;refine⟨k,c,j,?_⟩;have e:=Gh k c;have f:=D9 i.1;have l:(r.1-1).toNat=k:=by omega
 unfold aU;rw[l]
 by_cases g:k=3
 ·have d:¬r.1=3:=by omega
  have a:r.1=4:=by omega
  rw[iO d,Io a,LI,Cu e f];exact⟨rfl,rfl,λ_=>rfl,λh=>by omega⟩
 by_cases d:k=2
 ·have b:r.1=3:=by omega
  rw[Io b,s7 e f];exact⟨rfl,rfl,λh=>absurd h g,λ_=>⟨rfl,by rw[Io d];rfl⟩⟩
 have b:¬r.1=3:=by omega
 have a:¬r.1=4:=by omega
 rw[iO b,iO a,s7 e f];exact⟨rfl,rfl,λh=>absurd h g,λ_=>⟨rfl,by rw[iO d];rfl⟩⟩
theorem wH{r:az}(h:aZ r=0)(J:(aU r).length<=60000):ch (aU r)=(r,0):=by
 have⟨k,o,u,w,x,y,a⟩:=xU h;have⟨z,A,B,p,n⟩:=iB h;have i:=J9 k o;have j:cS (Lib.itoa r.2.1)=some r.2.1:=qz _ (by omega);unfold ch;rw[w,i,x,j]
 have b:¬((k:Int)<0\/((k:Int)=3/\(ar (aU r)).length≠2)\/((k:Int)<3/\(ar (aU r)).length≠3)):=by
  rintro (h|⟨h,q⟩|⟨h,q⟩)
  ·omega
  ·exact q (y (by omega))
  exact q (a (by omega)).1
 rw[iO b];obtain⟨l,C,v,g⟩:=r
 simp only at u z A B p n a |-
 by_cases s:k=2
 ·have c:(k:Int)=2:=by omega
  rw[Io c,(a (by omega)).2,Io s,qz _ (by omega)]
  have d:g=([],0):=by
   rcases n with ⟨h,-⟩|⟨-,h⟩
   ·omega
   exact h
  have D:l=3:=by omega
  subst D d;exact nD h
 have c:¬(k:Int)=2:=by omega
 rw[iO c];have m:v=0:=by omega
 by_cases K:k=3
 ·have f:(k:Int)=3:=by omega
  rw[Io f]
  have d:g=([],0):=by
   rcases n with ⟨h,-⟩|⟨-,h⟩
   ·omega
   exact h
  have E:l=4:=by omega
  subst E d m;exact nD h
 have f:¬(k:Int)=3:=by omega
 have F:aj g=0:=by
  rcases n with ⟨-,h⟩|⟨h,-⟩
  ·exact h
  omega
 have t:(cW g).length<=60000:=by
  have e:=(a (by omega)).2;rw[iO s] at e
  have G:(cW g).length<=(aU (l,C,v,g)).length:=by
   unfold aU;have H:¬l=3:=by omega
   have I:¬l=4:=by omega
   simp only[iO H,iO I];simp;omega
  omega
 rw[iO f,(a (by omega)).2,iO s,y6 F t];simp only[Lr];subst m;rw[<-u];exact nD h
theorem Ha{s:Bs}{r:az}(h:ch s=(r,0))(B:s.length<=60000):aZ r=0/\aU r=s:=by
 unfold ch at h
 split at h
 ·cases h
 rename_i v;have n:0<=bt kN ((ar s).getD 0 []):=by apply L8;intro e;exact v (.inl (by omega))
 have w:=jO kN ((ar s).getD 0 []);have d:=mz kN ((ar s).getD 0 []) n;have D:kN.length=4:=rfl;rw[D] at w;generalize E:bt kN ((ar s).getD 0 [])=k at*;have o:k=3->(ar s).length=2:=λe=>by apply L8;intro x;exact v (.inr (.inl ⟨e,x⟩))
 have i:k<3->(ar s).length=3:=λe=>by apply L8;intro x;exact v (.inr (.inr ⟨e,x⟩))
 cases hn:cS ((ar s).getD 1 []) with
 |none=>rw[hn] at h;cases h
 |some c=>
  rw[hn] at h;have j:=BW hn;simp only at h
  split at h
  ·rename_i C
   cases hn2:cS ((ar s).getD 2 []) with
   |none=>rw[hn2] at h;cases h
   |some f=>
    rw[hn2] at h;obtain⟨rfl,q⟩:=t7 h;refine⟨q,?_⟩;have y:=BW hn2
    rcases lN (s:=s) with ⟨a,e,g⟩|⟨a,b,e,g⟩|⟨a,b,m,e,g⟩
    ·have:=i (by omega);rw[e] at this;simp at this
    ·have:=i (by omega);rw[e] at this;simp at this
    rw[e] at d j y;simp at d j y;rw[g,<-d,<-j,<-y,C];rfl
  rename_i C
  split at h
  ·rename_i u;obtain⟨rfl,q⟩:=t7 h;refine⟨q,?_⟩
   rcases lN (s:=s) with ⟨a,e,g⟩|⟨a,b,e,g⟩|⟨a,b,m,e,g⟩
   ·have:=o u;rw[e] at this;simp at this
   ·rw[e] at d j;simp at d j;rw[g,<-d,<-j,u];show _++32 :: (Lib.itoa c++[])=_;rw[LI];rfl
   have:=o u;rw[e] at this;simp at this
  rename_i u
  split at h
  ·rename_i l;obtain⟨rfl,q⟩:=t7 h;refine⟨q,?_⟩
   rcases lN (s:=s) with ⟨a,e,g⟩|⟨a,b,e,g⟩|⟨a,b,m,e,g⟩
   ·have:=i (by omega);rw[e] at this;simp at this
   ·have:=i (by omega);rw[e] at this;simp at this
   rw[e] at d j l |-
   simp at d j l |-
   have t:m.length<=60000:=by rw[g] at B;simp at B;omega
   have z:cW (cG m).1=m:=by
    cases hpo:gS m with
    |none=>rw[wR t hpo] at l;cases l
    |some p=>
     rw[qA t hpo] at l |-
     split at l
     ·rename_i A;rw[Io A];exact I7 hpo
     rename_i A;exact absurd l A
   unfold aU;have F:¬k+1=3:=by omega
   have G:¬k+1=4:=by omega
   simp only[iO F,iO G,z];rw[g,<-d,<-j,show (k+1-1).toNat=k.toNat by omega];simp
  rename_i l;exact absurd (Prod.mk.inj h).2 l
section
theorem zc(exc a b)(f:Nat)(w:World)(g:w.cell? (pA f 0)=some (.bool exc)):
  cL 149 #[U a,U b,.pointer (sO f)] w λe w'=>e=.returned (U (mG exc a b))/\w'=w:=by
 by_cases c:a<b
 ·have d:Hid (mG exc a b=a):=by unfold Hid mG;rw[Io c]
  go_enter func149,ntmps149;go_wp2;go_ret;exact⟨by rw[d.o];rfl,rfl⟩
 cases exc with
 |true=>
  have d:Hid (mG true a b=4):=by unfold Hid mG;rw[iO c];rfl
  go_enter func149,ntmps149;go_wp2;go_ret;exact⟨by rw[d.o];rfl,rfl⟩
 |false=>
  have d:Hid (mG false a b=b):=by unfold Hid mG;rw[iO c];rfl
  go_enter func149,ntmps149;go_wp2;go_ret;exact⟨by rw[d.o];rfl,rfl⟩
theorem tW{w w'}(a:bL w w')(row:Option Nat):w.grownBy w' row:=⟨a.os,a.tape,a.output,a.size,λk b _=>a.block k b⟩
theorem be(w:World)(o:Obj){n:Nat}(h:n=w.1.size):(w.alloc o).1[n]?=some o:=by subst h;exact ah _ _
theorem aS{w:World}(o:Obj){n:Nat}{x:Obj}(h:w.1[n]?=some x):(w.alloc o).1[n]?=some x:=(Below.block ((Kf w.1.size w).alloc lE o) n (KK.1 h).1).trans h
def dB(T:TypeId)(w w':World):Prop:=∀ (k:Nat) (a:Array Value) (b:Nat × Nat),w.1[k]?=some (.cells a T b)->w'.1[k]?=some (.cells a T b)
theorem dB.of_below{T w w'}(h:bL w w'):dB T w w':=λk b c a=>(h.block k (io a)).trans a
theorem dB.trans{T a b c}(h:dB T a b)(f:dB T b c):dB T a c:=λk d e g=>f k d e (h k d e g)
theorem eQ{w w':World}{base a n:Nat}{e:TypeId}{v:Value}{xs:List Value}(h:w.ownsRow base e a v n xs)(d:dB e w w'):w'.ownsRow base e a v n xs:=bT h λg b _ c=>(d g b _ c).trans c.symm
def uN(L:Nat)(w:World)(xs:List Value)(a:List aq):Prop:=
 xs.length=a.length*2/\(∀u∈xs,u.oneCell'=true)/\∀i r,a[i]?=some r->∃b,xs[i*2]?=some b/\xs[i*2+1]?=some (U r.2)/\wf r.2/\(∀c∈r.1,wf c.1/\wf c.2.1/\wf c.2.2)/\w.ownsRow L 134 3 b r.1.length (bO r.1)
theorem uN.keep{L w w' xs rs}(h:uN L w xs rs)(f:dB 134 w w'):uN L w' xs rs:=by obtain⟨g,j,k⟩:=h;refine⟨g,j,λi r l=>?_⟩;have⟨m,a,b,c,d,e⟩:=k i r l;exact⟨m,a,b,c,d,eQ e f⟩
theorem uN.snoc{L w xs rs}{cv:Value}{r:aq}(h:uN L w xs rs)(n:wf r.2)(o:∀c∈r.1,wf c.1/\wf c.2.1/\wf c.2.2)(m:w.ownsRow L 134 3 cv r.1.length (bO r.1)):uN L w (xs++[cv,U r.2]) (rs++[r]):=by
 obtain⟨j,p,q⟩:=h;refine⟨by simp[j];omega,λu g=>?_,λi s f=>?_⟩
 ·rcases KB.1 g with g|g
  ·exact p u g
  obtain⟨a,t,rfl,_⟩:=an m;simp at g
  rcases g with rfl|rfl<;>rfl
 by_cases v:i<rs.length
 ·rw[Kh v] at f;have⟨k,a,b,c,d,e⟩:=q i s f;exact⟨k,by rw[Kh (by omega)];exact a,by rw[Kh (by omega)];exact b,c,d,e⟩
 have l:i=rs.length:=by have:=(K9.1 f).1;simp at this;omega
 subst l;simp at f;subst f;exact⟨cv,by rw[Kk (by omega)];simp[j],by rw[Kk (by omega)];simp[j],n,o,m⟩
def K4(L d e b:Nat)(a:Bool)(c:List aq)(v:Value)(xs:List Value)(w:World):Prop:=
 w.1[b]?=some (.cells #[.bool a] 4 (0,0))/\w.1[e]?=some (.cells #[.func (.func 149) #[] #[.pointer (sO b)]] 186 (0,0))/\
 w.1[d]?=some (.cells #[v,U 0] 30 (0,0))/\w.ownsRow L 131 2 v c.length xs/\uN L w xs c
def It(L b c d:Nat)(a:Bool)(e:List aq)(w:World):Prop:=∃v xs,K4 L b c d a e v xs w
theorem It.l{L bo bf bx exc rs w w'}(h:It L bo bf bx exc rs w)(a:bL w w'):It L bo bf bx exc rs w':=by obtain⟨v,xs,b,c,d,e,f⟩:=h;exact⟨v,xs,(a.block bx (io b)).trans b,(a.block bf (io c)).trans c,(a.block bo (io d)).trans d,aw e a,f.keep (dB.of_below a)⟩
structure tH (L:Nat) (W:World) (v:Value) (n:Nat) (xs:List Value) (rc sc:Value) (N:Nat) (cc:List Value) (vd:Int) (fs:Nat->Value->Prop) (w:World):Prop where
 grown:W.grownBy w v.ownBlock
 lits:∀u,fs 6 u->∃g T0 fr,u=.slice (sO g) 2 2/\W.1.size<=g/\w.1[g]?=some (.cells #[rc,sc] T0 fr)
 one:∀u u',fs 7 u->fs 7 u'->u=u'
 join:∀u,fs 7 u->w.ownsRow W.1.size 134 3 u N cc
 build:∀u,fs 14 u->∃u7,fs 7 u7/\u=.agg #[u7,U vd]
 made:∀u,fs 15 u->∃g T0 fr u7,u=.slice (sO g) 1 1/\W.1.size<=g/\fs 7 u7/\w.1[g]?=some (.cells #[u7,U vd] T0 fr)
 row:(∀u,¬fs 16 u)->w.ownsRow L 131 2 v n xs
 app:∀u,fs 16 u->∃u7,fs 7 u7/\w.ownsRow L 131 2 u (n+1) (xs++[u7,U vd])/\(u.ownBlock=v.ownBlock\/∃k,u.ownBlock=some k/\W.1.size<=k)
section
variable {L:Nat} {W w w':World} {v:Value} {n:Nat} {xs:List Value} {rc sc:Value} {N:Nat} {cc:List Value} {vd:Int} {fs:Nat->Value->Prop}
theorem aC{fs:Nat->Value->Prop}{i k:Nat}{v u}(b:k≠i)(a:d9 fs i v k u):fs k u:=by
 rcases a with a|⟨e,_⟩
 ·exact a
 exact absurd e b
theorem tH.start(h:W.ownsRow L 131 2 v n xs):tH L W v n xs rc sc N cc vd (λ_ _=>False) W.drew:=
 ⟨⟨rfl,rfl,rfl,Ke _,λ_ _ _=>rfl⟩,λ_ h=>h.elim,λ_ _ h=>h.elim,λ_ h=>h.elim,λ_ h=>h.elim,λ_ h=>h.elim,λ_=>h,λ_ h=>h.elim⟩
theorem tH.l(h:tH L W v n xs rc sc N cc vd fs w)(b:bL w w'):tH L W v n xs rc sc N cc vd fs w':=by
 refine⟨Li h.grown (tW b v.ownBlock) λj m=>.inr m,λu a=>?_,h.one,λu a=>aw (h.join u a) b,h.build,λu a=>?_,λo=>aw (h.row o) b,λu a=>?_⟩
 ·have⟨g,f,i,d,e,c⟩:=h.lits u a;exact⟨g,f,i,d,e,(b.block g (io c)).trans c⟩
 ·have⟨g,f,i,k,d,e,c,l⟩:=h.made u a;exact⟨g,f,i,k,d,e,c,(b.block g (io l)).trans l⟩
 have⟨k,d,e,c⟩:=h.app u a;exact⟨k,d,aw e b,c⟩
theorem tH.other(h:tH L W v n xs rc sc N cc vd fs w)(k:Nat)(u)(m:6≠k)(e:7≠k)(f:14≠k)(i:15≠k)(j:16≠k):tH L W v n xs rc sc N cc vd (d9 fs k u) w:=by
 refine⟨h.grown,λu a=>h.lits u (aC m a),λu o a l=>h.one u o (aC e a) (aC e l),λu a=>h.join u (aC e a),λu a=>?_,λu a=>?_,λp=>h.row λu a=>p u (.inl a),λu a=>?_⟩
 ·have⟨b,c,d⟩:=h.build u (aC f a);exact⟨b,.inl c,d⟩
 ·have⟨g,q,r,b,c,d,s,t⟩:=h.made u (aC i a);exact⟨g,q,r,b,c,d,.inl s,t⟩
 have⟨b,c,d⟩:=h.app u (aC j a);exact⟨b,.inl c,d⟩
theorem tH.lists(h:tH L W v n xs rc sc N cc vd fs w)(b):tH L W v n xs rc sc N cc vd (d9 fs 6 (.slice (sO w.1.size) 2 2)) (w.alloc (.cells #[rc,sc] b)):=by
 have f:=h.grown.size;have h:=h.l ((Kf w.1.size w).alloc lE (.cells #[rc,sc] b));refine⟨h.grown,λu a=>?_,λu j a i=>h.one u j (aC (by decide) a) (aC (by decide) i),λu a=>h.join u (aC (by decide) a),λu a=>?_,λu a=>?_,λk=>h.row λu a=>k u (.inl a),λu a=>?_⟩
 ·rcases a with a|⟨_,rfl⟩
  ·exact h.lits u a
  exact⟨w.1.size,b,(0,0),rfl,f,ah _ _⟩
 ·obtain⟨c,d,e⟩:=h.build u (aC (by decide) a);exact⟨c,.inl d,e⟩
 ·obtain⟨g,b,l,c,d,e,m,o⟩:=h.made u (aC (by decide) a);exact⟨g,b,l,c,d,e,.inl m,o⟩
 obtain⟨c,d,e⟩:=h.app u (aC (by decide) a);exact⟨c,.inl d,e⟩
theorem tH.joined(h:tH L W v n xs rc sc N cc vd fs w)(b:∀u,¬fs 7 u)(j:bL w w')(u:Value)(k:w'.ownsRow w.1.size 134 3 u N cc):tH L W v n xs rc sc N cc vd (d9 fs 7 u) w':=by
 have f:=h.grown.size;have h:=h.l j;refine⟨h.grown,λu a=>h.lits u (aC (by decide) a),λi l a c=>?_,λi a=>?_,λu a=>?_,λu a=>?_,λm=>h.row λu a=>m u (.inl a),λu a=>?_⟩
 ·rcases a with a|⟨_,rfl⟩
  ·exact absurd a (b i)
  rcases c with c|⟨_,rfl⟩
  ·exact absurd c (b l)
  rfl
 ·rcases a with a|⟨_,rfl⟩
  ·exact absurd a (b i)
  exact cU k f
 ·obtain⟨d,e,_⟩:=h.build u (aC (by decide) a);exact absurd e (b d)
 ·obtain⟨g,q,r,d,e,o,p,s⟩:=h.made u (aC (by decide) a);exact absurd p (b d)
 obtain⟨d,e,o⟩:=h.app u (aC (by decide) a);exact absurd e (b d)
theorem tH.built(h:tH L W v n xs rc sc N cc vd fs w)(d:Value)(e:fs 7 d):tH L W v n xs rc sc N cc vd (d9 fs 14 (.agg #[d,U vd])) w:=by
 refine⟨h.grown,λu a=>h.lits u (aC (by decide) a),λu i a f=>h.one u i (aC (by decide) a) (aC (by decide) f),λu a=>h.join u (aC (by decide) a),λu a=>?_,λu a=>?_,λj=>h.row λu a=>j u (.inl a),λu a=>?_⟩
 ·rcases a with a|⟨_,rfl⟩
  ·have⟨y,b,c⟩:=h.build u a;exact⟨y,.inl b,c⟩
  exact⟨d,.inl e,rfl⟩
 ·obtain⟨g,k,l,y,b,c,m,o⟩:=h.made u (aC (by decide) a);exact⟨g,k,l,y,b,c,.inl m,o⟩
 obtain⟨y,b,c⟩:=h.app u (aC (by decide) a);exact⟨y,.inl b,c⟩
theorem tH.rule(h:tH L W v n xs rc sc N cc vd fs w)(e:∀u,¬fs 15 u)(b:Value)(a:fs 14 (.agg #[b,U vd]))(T0):tH L W v n xs rc sc N cc vd (d9 fs 15 (.slice (sO w.1.size) 1 1)) (w.alloc (.cells #[b,U vd] T0)):=by
 have f:=h.grown.size
 have g:fs 7 b:=by
  obtain⟨y,c,d⟩:=h.build _ a;have:b=y:=by simpa using d
  rw[this];exact c
 have h:=h.l ((Kf w.1.size w).alloc lE (.cells #[b,U vd] T0));refine⟨h.grown,λu a=>h.lits u (aC (by decide) a),λu j a i=>h.one u j (aC (by decide) a) (aC (by decide) i),λu a=>h.join u (aC (by decide) a),λu a=>?_,λu a=>?_,λk=>h.row λu a=>k u (.inl a),λu a=>?_⟩
 ·obtain⟨y,c,d⟩:=h.build u (aC (by decide) a);exact⟨y,.inl c,d⟩
 ·rcases a with a|⟨_,rfl⟩
  ·exact absurd a (e u)
  exact⟨w.1.size,T0,(0,0),b,rfl,f,.inl g,ah _ _⟩
 obtain⟨y,c,d⟩:=h.app u (aC (by decide) a);exact⟨y,.inl c,d⟩
theorem tH.append(h:tH L W v n xs rc sc N cc vd fs w)(q:∀u,¬fs 16 u)(D:∀k,v.ownBlock=some k->k<W.1.size)(hL:L<=W.1.size)(c:Value)(r:fs 15 c)(T:n<=100000)(V:TypeId):
  ∃o w',(Builtin.append_ #[28,28] V #[v,c]).run prog w=.ok o w'/\(∃a s,o=.slice a (n+1) s)/\tH L W v n xs rc sc N cc vd (d9 fs 16 o) w':=by
 have a3:=ai;obtain⟨g,T0,fr,C,rfl,hg,t,E⟩:=h.made c r;have z:=h.row q;have F:C.oneCell'=true:=by obtain⟨a,s,rfl,_⟩:=an (h.join C t);rfl
 obtain⟨G,H,I,J,K⟩:∃i,prog.info? 131=some i/\i.zero=some (.agg #[nL,U 0])/\i.size=2/\i.bytes=32:=jL (by kernel_rfl);obtain⟨o,w',r1,X,Y,_,r5⟩:=Mt (P:=prog) w L 28 V 131 G _ 2 32 Tryz.underlying28 H I J K rfl (by decide) v n xs z (pA g 0) 1 1 [C,U vd] rfl (λj u M=>by rw[eM,Kp];exact ab E j (by simpa using M)) (by intro u b;simp at b;rcases b with rfl|rfl;exact F;rfl) (by omega) (by omega) (Kl hL h.grown.size);have d:∀p,W.1.size<=p->∀ {x},w.1[p]?=some x->w'.1[p]?=some x:=λp a6 x hx=>by refine(Y.block p (KK.1 hx).1 λe=>?_).trans hx;have:=D p e.symm;omega
 have⟨a',A,e',_⟩:=an X;refine⟨o,w',r1,⟨a',A,e'⟩,Li h.grown Y λj M=>.inr M,λu b=>?_,λu u' b O=>h.one u u' (aC (by decide) b) (aC (by decide) O),λu b=>?_,λu b=>?_,λu b=>?_,λT=>absurd (.inr ⟨rfl,rfl⟩) (T o),λu b=>?_⟩
 ·obtain⟨f,Q,l,B,m,R⟩:=h.lits u (aC (by decide) b);exact⟨f,Q,l,B,m,d f m R⟩
 ·exact bT (h.join u (aC (by decide) b)) λf aa S hc=>(d f S hc).trans hc.symm
 ·obtain⟨y,B,m⟩:=h.build u (aC (by decide) b);exact⟨y,.inl B,m⟩
 ·obtain⟨f,Q,l,y7,B,m,R,e4⟩:=h.made u (aC (by decide) b);exact⟨f,Q,l,y7,B,m,.inl R,d f m e4⟩
 rcases b with b|⟨_,rfl⟩
 ·exact absurd b (q u)
 refine⟨C,.inl t,X,?_⟩
 rcases r5 with e|e
 ·exact .inl e
 exact .inr ⟨_,e,h.grown.size⟩
end
end
def AB(W:World)(row:Option Nat):Type:={ w':World // W.grownBy w' row }
theorem AB.ne(W row):Nonempty (AB W row):=⟨⟨W,rfl,rfl,rfl,Ke _,λ_ _ _=>rfl⟩⟩
theorem AB.cell{W row}(x:AB W row){b o:Nat}{a:Array Value}{T}{d:Nat × Nat}{u:Value}(h:W.1[b]?=some (.cells a T d))(c:some b≠row)(e:a[o]?=some u):x.1.cell? ⟨b,o,none⟩=some u:=ab ((x.2.block b (io h) c).trans h) o e
def JX(N n:Nat)(c:Int)(k:Nat)(v:Value):Prop:=if k=6 then ∃g:Nat,v=.slice (sO g) 2 2 else if k=7 then ∃a b,v=.slice a N b else if k=13 then v=U c else if k=14 then ∃a b,v=.agg #[.slice a N b,U c] else if k=15 then ∃g:Nat,v=.slice (sO g) 1 1 else if k=16 then ∃a b,v=.slice a (n+1) b else True
theorem Hp(N n vd k):∃v,JX N n vd k v:=by
 unfold JX
 split
 ·exact⟨_,0,rfl⟩
 split
 ·exact⟨_,none,0,rfl⟩
 split
 ·exact⟨_,rfl⟩
 split
 ·exact⟨_,none,0,rfl⟩
 split
 ·exact⟨_,0,rfl⟩
 split
 ·exact⟨_,none,0,rfl⟩
 exact⟨undef,trivial⟩
theorem Ai{exc a b}(c:wf a)(d:wf b):wf (mG exc a b):=by
 unfold mG
 split
 ·exact c
 split
 ·unfold wf;decide
 exact d
def jI(w:World)(a b:Nat):Prop:=∀v d,w.1[a]?=some (.cells #[v,d] 30 (0,0))->v.ownBlock≠some b
theorem jI.l{w w' bo b}(h:jI w bo b)(c:bL w w')(a:bo<w.1.size):jI w' bo b:=λv d e=>h v d ((c.block bo a).symm.trans e)
theorem Et(L C bf X B:Nat)(E:Bool)(r s:aq)(rc sc:Value)(l:List aq)(w:World)(hS:It L C bf X E l w)(hr:bG B w rc r.1)(ce:wf r.2)(hs:bG B w sc s.1)(cf:wf s.2)(al:B<=L)(hL:L<=w.1.size)(ci:L<=C)(hn:l.length<=20000)(ed:r.1.length<=10)(ee:s.1.length<=10):
  cL 150 #[.agg #[rc,U r.2],.agg #[sc,U s.2],.pointer (sO C),.pointer (sO bf)] w λe i=>e=.returned (.tuple #[])/\It L C bf X E (l++[dX E r s]) i/\Below L w i/\∀ (b:Nat) (j:Array Value) (T:TypeId) (I:Nat × Nat),w.1[b]?=some (.cells j T I)->b≠C->jI w C b->i.1[b]?=some (.cells j T I)/\jI i C b:=by
 have ck:Hid (∀c∈r.1++s.1,wf c.1/\wf c.2.1/\wf c.2.2):=λc Y=>by
  rcases KB.1 Y with Y|Y
  ·exact hr.wfs c Y
  exact hs.wfs c Y
 have ao:Hid (wf (mG E r.2 s.2)):=Ai ce cf
 have cl:Hid (∀i,Below L w i->bG B i rc r.1/\bG B i sc s.1):=λi h=>⟨hr.l h al,hs.l h al⟩
 obtain⟨ra,n,cn,-,-⟩:=hr.full;obtain⟨sa,o,co,-,-⟩:=hs.full;subst cn;subst co;obtain⟨v,xs,hV⟩:=hS;obtain⟨D,f,ev,eg,ej,-⟩:=an hV.2.2.2.1;subst ev;have⟨x,Q⟩:=nM ((w.alloc (.cells #[.slice ra r.1.length n,U r.2] 131)).alloc (.cells #[.slice sa s.1.length o,U s.2] 131));have J:=bB Q;have cp:=sB Q;have ad:x.1[w.1.size]?=some (.cells #[.slice ra r.1.length n,U r.2] 131 (0,0)):=by rw[Q,Kq _ _ _ (by simp)];exact ah _ _
 have ae:x.1[w.1.size+1]?=some (.cells #[.slice sa s.1.length o,U s.2] 131 (0,0)):=by have:=ah (w.alloc (.cells #[.slice ra r.1.length n,U r.2] 131)) (.cells #[.slice sa s.1.length o,U s.2] 131);rw[Kg] at this;rw[Q];exact this
 have a3:∀k,(Value.slice D l.length f).ownBlock=some k->k<w.1.size:=λk O=>by have⟨j,Y⟩:=cX hV.2.2.2.1 k O;exact io Y
 have y:K4 L C bf X E l (.slice D l.length f) xs x:=by obtain⟨h1,h2,h3,h4,h5⟩:=hV;exact⟨(J.block X (io h1)).trans h1,(J.block bf (io h2)).trans h2,(J.block C (io h3)).trans h3,aw h4 J,h5.keep (dB.of_below J)⟩
 have A:∀ {b:Nat} {j:Array Value} {T:TypeId} {I:Nat × Nat},x.1[b]?=some (.cells j T I)->T≠131->some b≠(Value.slice D l.length f).ownBlock:=by
  intro b j T I K hT e;have⟨e2,Y⟩:=cX y.2.2.2.1 b e.symm;rw[K] at Y
  cases Y;exact hT rfl
 have nx:=A y.1 (by decide);have nf:=A y.2.1 (by decide);have no:=A y.2.2.1 (by decide);have n0:some w.1.size≠(Value.slice D l.length f).ownBlock:=λe=>by have:=a3 _ e.symm;omega
 have n1:some (w.1.size+1)≠(Value.slice D l.length f).ownBlock:=λe=>by have:=a3 _ e.symm;omega
 have b2:Hid _:=y;have d0:Hid (∀i,x.grownBy i (Value.slice D l.length f).ownBlock->i.cell? (pA X 0)=some (.bool E)):=λi h=>J0 ((h.block X (io y.1) nx).trans y.1)
 have b3:Hid (∀i,x.grownBy i (Value.slice D l.length f).ownBlock->i.1[C]?=some (.cells #[.slice D l.length f,U 0] 30 (0,0))):=λi h=>(h.block C (io y.2.2.1) no).trans y.2.2.1
 have b4:Hid (∀i,x.grownBy i (Value.slice D l.length f).ownBlock->Below L w i):=λi h=>(J.mono hL).grown h (by omega) λk O=>eh y.2.2.2.1 k O
 have d1:Hid (∀i,x.grownBy i (Value.slice D l.length f).ownBlock->(∀ (b:Nat) (j:Array Value) (T:TypeId),T≠131->x.1[b]?=some (Obj.cells j T (0,0))->i.1[b]?=some (Obj.cells j T (0,0)))/\dB 134 x i):=λi h=>⟨λb j T hT K=>(h.block b (io K) (A K hT)).trans K,λk j I O=>(h.block k (io O) (A O (by decide))).trans O⟩
 have q0:∀z:AB x (Value.slice D l.length f).ownBlock,z.1.cell? (pA C 0)=some (.slice D l.length f):=λz=>z.cell y.2.2.1 no rfl
 have q1:∀z:AB x (Value.slice D l.length f).ownBlock,z.1.cell? (pA w.1.size 0)=some (.slice ra r.1.length n):=λz=>z.cell ad n0 rfl
 have q2:∀z:AB x (Value.slice D l.length f).ownBlock,z.1.cell? (pA w.1.size 1)=some (U r.2):=λz=>z.cell ad n0 rfl
 have q3:∀z:AB x (Value.slice D l.length f).ownBlock,z.1.cell? (pA (w.1.size+1) 0)=some (.slice sa s.1.length o):=λz=>z.cell ae n1 rfl
 have q4:∀z:AB x (Value.slice D l.length f).ownBlock,z.1.cell? (pA (w.1.size+1) 1)=some (U s.2):=λz=>z.cell ae n1 rfl
 have q5:∀z:AB x (Value.slice D l.length f).ownBlock,z.1.cell? (pA bf 0)=some (.func (.func 149) #[] #[.pointer (sO X)]):=λz=>z.cell y.2.1 nf rfl
 have d2:Hid (∀ (M:World) (u:Value),x.grownBy M (Value.slice D l.length f).ownBlock->(u.ownBlock=(Value.slice D l.length f).ownBlock\/∃k,u.ownBlock=some k/\x.1.size<=k)->∀ (b:Nat) (j:Array Value) (T:TypeId) (I:Nat × Nat),w.1[b]?=some (.cells j T I)->b≠C->jI w C b->(M.setCell (pA C 0) u).1[b]?=some (.cells j T I)/\jI (M.setCell (pA C 0) u) C b):=by
  intro M u hg hu b j T I K b5 d3;have b6:some b≠(Value.slice D l.length f).ownBlock:=λe=>d3 _ _ hV.2.2.1 e.symm
  have h1:x.1[b]?=some (.cells j T I):=(J.block b (io K)).trans K;have h4:M.1[b]?=some (.cells j T I):=(hg.block b (io h1) b6).trans h1;refine⟨(Kc _ _ _ _ b5).trans h4,λv d hv=>?_⟩;rw[ap (b3.o M hg)] at hv;simp at hv;rw[<-hv.1]
  rcases hu with e|⟨k,e,O⟩
  ·rw[e];exact λe'=>b6 e'.symm
  rw[e];intro e';have:=KG e';have:=io h1;omega
 have d6:Hid (∀k,(Value.slice D l.length f).ownBlock=some k->k<x.1.size):=λk O=>by have:=a3 k O;omega
 have HW:Hid (x=(w.alloc (.cells #[.slice ra r.1.length n,U r.2] 131)).alloc (.cells #[.slice sa s.1.length o,U s.2] 131)):=Q;have b7:Hid (L<=x.1.size):=by unfold Hid;omega
 have da:Hid (∀g i,(∃T0 I,i.1[g]?=some (.cells #[.slice ra r.1.length n,.slice sa s.1.length o] T0 I))->Below L w i->cL 151 #[.slice (sO g) 2 2] i λe a5=>∃v,e=.returned v/\a5.ownsRow i.1.size 134 3 v (r.1++s.1).length (bO (r.1++s.1))/\bL i a5):=by rintro g i ⟨T0,I,hg⟩ K;have⟨c1,c2⟩:=cl.o i K;exact tT B _ _ r.1 s.1 g i c1 c2 (by have:=K.size;omega) (io hg) (J0 hg) (J1 hg) (by omega)
 clear Q ad ae y hV A nx nf no n0 n1 a3 hr hs J cp;obtain⟨q,r2⟩:=r;obtain⟨t,s2⟩:=s;simp only[] at*;have⟨vd,a6⟩:=nM (mG E r2 s2);have dc:Hid (dX E (q,r2) (t,s2)=(q++t,vd)):=by unfold Hid dX;rw[a6]
 have dd:=Z a6.symm;rw[<-a6] at ao;clear a6;generalize q.length=rl at*;generalize t.length=sl at*;go_enter func150,ntmps150;go_wp2_with fail;rw[<-HW.o];have a8:=AB.ne x (Value.slice D l.length f).ownBlock
 have N:Hid (∀fs i,tH L x (.slice D l.length f) l.length xs (.slice ra rl n) (.slice sa sl o) (q++t).length (bO (q++t)) vd fs i->∃z:AB x (Value.slice D l.length f).ownBlock,i=z.1):=λfs i h=>⟨⟨i,h.grown⟩,rfl⟩
 refine bJ [_,_,_,_,_,_,_,_,_,_,_,_,_,_,_,_,_,_] _ rfl (λk=>k==6||k==7||k==13||k==14||k==15||k==16) (tH L x (.slice D l.length f) l.length xs (.slice ra rl n) (.slice sa sl o) (q++t).length (bO (q++t)) vd) (JX (q++t).length l.length vd) (Hp _ _ _) (by kernel_rfl) (by kernel_rfl) (tH.start b2.o.2.2.2.1) ?_;iterate 6(refine aP N.o rfl rfl ?_;go_big_quiet_step (fail);refine Km ?_)
 refine cz rfl rfl (λgs i G m F=>⟨.slice (sO i.1.size) 2 2,i.alloc (.cells #[.slice ra rl n,.slice sa sl o] 129),?_,⟨_,rfl⟩,G.lists _⟩) (λv6 di=>?_)
 ·clear G m F q0 q1 q2 q3 q4 q5 N a8;go_simp
 go_frame;obtain⟨g6,rfl⟩:∃g:Nat,v6=.slice (sO g) 2 2:=di;refine bw 151 #[.slice (sO g6) 2 2] rfl rfl (λi=>by kernel_rfl) (λgs i G m F=>?_) (λv7 dk=>?_)
 ·obtain⟨g,T0,I,e,es,dl⟩:=G.lits _ (m 6 _ (.inr ⟨rfl,rfl⟩) (au (by kernel_rfl)));simp at e;subst e;refine(da.o g6 i ⟨T0,I,dl⟩ (b4.o i G.grown)).mono ?_;rintro e w2 ⟨u,rfl,ho,K⟩;have⟨a,c,e7,_⟩:=an ho;exact⟨_,rfl,⟨a,c,e7⟩,G.joined F K _ ho⟩
 go_frame;obtain⟨a7,c7,rfl⟩:∃a R,v7=.slice a (q++t).length R:=dk;iterate 5(refine aP N.o rfl rfl ?_;go_big_quiet_step (fail);refine Km ?_)
 refine bw 149 #[U r2,U s2,.pointer (sO X)] rfl rfl (λi=>by kernel_rfl) (λgs i G m F=>?_) (λdn bb=>?_)
 ·refine(zc E r2 s2 X i (d0.o i G.grown)).mono ?_;rintro e w2 ⟨rfl,rfl⟩;exact⟨_,rfl,by rw[dd.o];rfl,G.other _ _ (by decide) (by decide) (by decide) (by decide) (by decide)⟩
 go_frame;obtain rfl:dn=U vd:=bb;refine cz rfl rfl (λgs i G m F=>⟨.agg #[.slice a7 (q++t).length c7,U vd],i,?_,⟨_,_,rfl⟩,G.built _ (m 7 _ (.inl (.inr ⟨rfl,rfl⟩)) (au (by kernel_rfl)))⟩) (λdp bc=>?_)
 ·clear G m F q0 q1 q2 q3 q4 q5 N a8;go_simp
 go_frame;obtain⟨dq,dr,rfl⟩:∃a R,dp=.agg #[.slice a (q++t).length R,U vd]:=bc;refine cz rfl rfl (λgs i G m F=>⟨.slice (sO i.1.size) 1 1,i.alloc (.cells #[.slice dq (q++t).length dr,U vd] 131),?_,⟨_,rfl⟩,G.rule F _ (m 14 _ (.inr ⟨rfl,rfl⟩) (au (by kernel_rfl))) _⟩) (λds bd=>?_)
 ·clear G m F q0 q1 q2 q3 q4 q5 N a8;go_simp
 go_frame;obtain⟨ey,rfl⟩:∃g:Nat,ds=.slice (sO g) 1 1:=bd;refine cz rfl rfl (λgs i G m F=>?_) (λdv bg=>?_)
 ·obtain⟨v',a5,r1,e0,r3⟩:=G.append F d6.o b7.o _ (m 15 _ (.inr ⟨rfl,rfl⟩) (au (by kernel_rfl))) (by omega) 28;refine⟨v',a5,?_,e0,r3⟩;unfold execOp;simp only[resolve,invoke,builtin,Lj,My,LW,M4,Lt,Mz];exact(congrArg (λr=>Result.andThen r λv w=>.ok (Next.value v) w) r1)
 go_frame;obtain⟨S,V,rfl⟩:∃a R,dv=.slice a (l.length+1) R:=bg;refine aP N.o rfl rfl ?_;go_big_quiet_step (fail);refine Km ?_;refine ei ?_;intro M G;have W:=G.grown;obtain⟨u7,bk,a9,P⟩:=G.app _ (.inr ⟨rfl,rfl⟩);have e1:Hid _:=d2.o M _ W P;have bm:=G.join u7 bk;have H:=b3.o M W;have⟨af,bp⟩:=d1.o M W;have bq:=b4.o M W;have y0:=J0 H;have yf:=fZ H 0
 have aa:Hid (It L C bf X E (l++[dX E (q,r2) (t,s2)]) (M.setCell (pA C 0) (.slice S (l.length+1) V))/\Below L w (M.setCell (pA C 0) (.slice S (l.length+1) V))):=by
  obtain⟨h1,h2,h3,h4,h5⟩:=b2.o
  have nb:∀ {b:Nat} {j:Array Value} {T:TypeId},x.1[b]?=some (Obj.cells j T (0,0))->T≠30->b≠C:=λK hT e=>by
   subst e;rw[h3] at K
   cases K;exact hT rfl
  refine⟨⟨.slice S (l.length+1) V,xs++[u7,U vd],(Kc _ _ _ _ (nb h1 (by decide))).trans (af _ _ _ (by decide) h1),(Kc _ _ _ _ (nb h2 (by decide))).trans (af _ _ _ (by decide) h2),?_,?_,?_⟩,bq.setCell (p:=pA C 0) ci _⟩
  ·rw[ap H];rfl
  ·have:=bT (w':=M.setCell (pA C 0) (.slice S (l.length+1) V)) a9 λg j _ br=>Kc _ _ _ _ (by
    show g≠C;intro e;subst e;rw[H] at br
    cases br)
   simpa using this
  have bs:dB 134 M (M.setCell (pA C 0) (.slice S (l.length+1) V)):=λk j I O=>(Kc _ _ _ _ (by
   show k≠C;intro e;subst e;rw[H] at O
   cases O)).trans O
  rw[dc.o];exact(h5.keep (bp.trans bs)).snoc (r:=(q++t,vd)) ao.o ck.o (eQ (cU bm b7.o) bs)
 clear G W bk a9 P bm H af bp bq q0 q1 q2 q3 q4 q5 N a8;go_wp2_with fail;go_end0;exact⟨rfl,aa.o.1,aa.o.2,e1.o⟩
section
theorem Ah(a b w):
  cL 235 #[.agg #[U a,U b]] w (rT w (U (mG true a b))):=by
 by_cases c:a<b
 ·have d:Hid (mG true a b=a):=by unfold Hid mG;rw[Io c]
  go_enter func235,ntmps235;go_wp2;go_ret;exact⟨by rw[d.o];rfl,bR.alloc lE _⟩
 have d:Hid (mG true a b=4):=by unfold Hid mG;rw[iO c];rfl
 go_enter func235,ntmps235;go_wp2;go_ret;exact⟨by rw[d.o];rfl,bR.alloc lE _⟩
structure tI (L:Nat) (W:World) (v:Value) (n:Nat) (xs:List Value) (rc sc:Value) (N:Nat) (cc:List Value) (vd:Int) (fs:Nat->Value->Prop) (w:World):Prop where
 grown:W.grownBy w v.ownBlock
 lits:∀u,fs 5 u->∃g T0 fr,u=.slice (sO g) 2 2/\W.1.size<=g/\w.1[g]?=some (.cells #[rc,sc] T0 fr)
 one:∀u u',fs 6 u->fs 6 u'->u=u'
 join:∀u,fs 6 u->w.ownsRow W.1.size 134 3 u N cc
 build:∀u,fs 14 u->∃u7,fs 6 u7/\u=.agg #[u7,U vd]
 made:∀u,fs 15 u->∃g T0 fr u7,u=.slice (sO g) 1 1/\W.1.size<=g/\fs 6 u7/\w.1[g]?=some (.cells #[u7,U vd] T0 fr)
 row:(∀u,¬fs 16 u)->w.ownsRow L 131 2 v n xs
 app:∀u,fs 16 u->∃u7,fs 6 u7/\w.ownsRow L 131 2 u (n+1) (xs++[u7,U vd])/\(u.ownBlock=v.ownBlock\/∃k,u.ownBlock=some k/\W.1.size<=k)
section
variable {L:Nat} {W w w':World} {v:Value} {n:Nat} {xs:List Value} {rc sc:Value} {N:Nat} {cc:List Value} {vd:Int} {fs:Nat->Value->Prop}
theorem tI.start(h:W.ownsRow L 131 2 v n xs):tI L W v n xs rc sc N cc vd (λ_ _=>False) W.drew:=
 ⟨⟨rfl,rfl,rfl,Ke _,λ_ _ _=>rfl⟩,λ_ h=>h.elim,λ_ _ h=>h.elim,λ_ h=>h.elim,λ_ h=>h.elim,λ_ h=>h.elim,λ_=>h,λ_ h=>h.elim⟩
theorem tI.l(h:tI L W v n xs rc sc N cc vd fs w)(b:bL w w'):tI L W v n xs rc sc N cc vd fs w':=by
 refine⟨Li h.grown (tW b v.ownBlock) λj m=>.inr m,λu a=>?_,h.one,λu a=>aw (h.join u a) b,h.build,λu a=>?_,λo=>aw (h.row o) b,λu a=>?_⟩
 ·have⟨g,f,i,d,e,c⟩:=h.lits u a;exact⟨g,f,i,d,e,(b.block g (io c)).trans c⟩
 ·have⟨g,f,i,k,d,e,c,l⟩:=h.made u a;exact⟨g,f,i,k,d,e,c,(b.block g (io l)).trans l⟩
 have⟨k,d,e,c⟩:=h.app u a;exact⟨k,d,aw e b,c⟩
theorem tI.other(h:tI L W v n xs rc sc N cc vd fs w)(k:Nat)(u)(m:5≠k)(e:6≠k)(f:14≠k)(i:15≠k)(j:16≠k):tI L W v n xs rc sc N cc vd (d9 fs k u) w:=by
 refine⟨h.grown,λu a=>h.lits u (aC m a),λu o a l=>h.one u o (aC e a) (aC e l),λu a=>h.join u (aC e a),λu a=>?_,λu a=>?_,λp=>h.row λu a=>p u (.inl a),λu a=>?_⟩
 ·have⟨b,c,d⟩:=h.build u (aC f a);exact⟨b,.inl c,d⟩
 ·have⟨g,q,r,b,c,d,s,t⟩:=h.made u (aC i a);exact⟨g,q,r,b,c,d,.inl s,t⟩
 have⟨b,c,d⟩:=h.app u (aC j a);exact⟨b,.inl c,d⟩
theorem tI.lists(h:tI L W v n xs rc sc N cc vd fs w)(b):tI L W v n xs rc sc N cc vd (d9 fs 5 (.slice (sO w.1.size) 2 2)) (w.alloc (.cells #[rc,sc] b)):=by
 have f:=h.grown.size;have h:=h.l ((Kf w.1.size w).alloc lE (.cells #[rc,sc] b));refine⟨h.grown,λu a=>?_,λu j a i=>h.one u j (aC (by decide) a) (aC (by decide) i),λu a=>h.join u (aC (by decide) a),λu a=>?_,λu a=>?_,λk=>h.row λu a=>k u (.inl a),λu a=>?_⟩
 ·rcases a with a|⟨_,rfl⟩
  ·exact h.lits u a
  exact⟨w.1.size,b,(0,0),rfl,f,ah _ _⟩
 ·obtain⟨c,d,e⟩:=h.build u (aC (by decide) a);exact⟨c,.inl d,e⟩
 ·obtain⟨g,b,l,c,d,e,m,o⟩:=h.made u (aC (by decide) a);exact⟨g,b,l,c,d,e,.inl m,o⟩
 obtain⟨c,d,e⟩:=h.app u (aC (by decide) a);exact⟨c,.inl d,e⟩
theorem tI.joined(h:tI L W v n xs rc sc N cc vd fs w)(b:∀u,¬fs 6 u)(j:bL w w')(u:Value)(k:w'.ownsRow w.1.size 134 3 u N cc):tI L W v n xs rc sc N cc vd (d9 fs 6 u) w':=by
 have f:=h.grown.size;have h:=h.l j;refine⟨h.grown,λu a=>h.lits u (aC (by decide) a),λi l a c=>?_,λi a=>?_,λu a=>?_,λu a=>?_,λm=>h.row λu a=>m u (.inl a),λu a=>?_⟩
 ·rcases a with a|⟨_,rfl⟩
  ·exact absurd a (b i)
  rcases c with c|⟨_,rfl⟩
  ·exact absurd c (b l)
  rfl
 ·rcases a with a|⟨_,rfl⟩
  ·exact absurd a (b i)
  exact cU k f
 ·obtain⟨d,e,_⟩:=h.build u (aC (by decide) a);exact absurd e (b d)
 ·obtain⟨g,q,r,d,e,o,p,s⟩:=h.made u (aC (by decide) a);exact absurd p (b d)
 obtain⟨d,e,o⟩:=h.app u (aC (by decide) a);exact absurd e (b d)
theorem tI.built(h:tI L W v n xs rc sc N cc vd fs w)(d:Value)(e:fs 6 d):tI L W v n xs rc sc N cc vd (d9 fs 14 (.agg #[d,U vd])) w:=by
 refine⟨h.grown,λu a=>h.lits u (aC (by decide) a),λu i a f=>h.one u i (aC (by decide) a) (aC (by decide) f),λu a=>h.join u (aC (by decide) a),λu a=>?_,λu a=>?_,λj=>h.row λu a=>j u (.inl a),λu a=>?_⟩
 ·rcases a with a|⟨_,rfl⟩
  ·have⟨y,b,c⟩:=h.build u a;exact⟨y,.inl b,c⟩
  exact⟨d,.inl e,rfl⟩
 ·obtain⟨g,k,l,y,b,c,m,o⟩:=h.made u (aC (by decide) a);exact⟨g,k,l,y,b,c,.inl m,o⟩
 obtain⟨y,b,c⟩:=h.app u (aC (by decide) a);exact⟨y,.inl b,c⟩
theorem tI.rule(h:tI L W v n xs rc sc N cc vd fs w)(e:∀u,¬fs 15 u)(b:Value)(a:fs 14 (.agg #[b,U vd]))(T0):tI L W v n xs rc sc N cc vd (d9 fs 15 (.slice (sO w.1.size) 1 1)) (w.alloc (.cells #[b,U vd] T0)):=by
 have f:=h.grown.size
 have g:fs 6 b:=by
  obtain⟨y,c,d⟩:=h.build _ a;have:b=y:=by simpa using d
  rw[this];exact c
 have h:=h.l ((Kf w.1.size w).alloc lE (.cells #[b,U vd] T0));refine⟨h.grown,λu a=>h.lits u (aC (by decide) a),λu j a i=>h.one u j (aC (by decide) a) (aC (by decide) i),λu a=>h.join u (aC (by decide) a),λu a=>?_,λu a=>?_,λk=>h.row λu a=>k u (.inl a),λu a=>?_⟩
 ·obtain⟨y,c,d⟩:=h.build u (aC (by decide) a);exact⟨y,.inl c,d⟩
 ·rcases a with a|⟨_,rfl⟩
  ·exact absurd a (e u)
  exact⟨w.1.size,T0,(0,0),b,rfl,f,.inl g,ah _ _⟩
 obtain⟨y,c,d⟩:=h.app u (aC (by decide) a);exact⟨y,.inl c,d⟩
theorem tI.append(h:tI L W v n xs rc sc N cc vd fs w)(q:∀u,¬fs 16 u)(D:∀k,v.ownBlock=some k->k<W.1.size)(hL:L<=W.1.size)(c:Value)(r:fs 15 c)(T:n<=100000)(V:TypeId):
  ∃o w',(Builtin.append_ #[28,28] V #[v,c]).run prog w=.ok o w'/\(∃a s,o=.slice a (n+1) s)/\tI L W v n xs rc sc N cc vd (d9 fs 16 o) w':=by
 have a3:=ai;obtain⟨g,T0,fr,C,rfl,hg,t,E⟩:=h.made c r;have z:=h.row q;have F:C.oneCell'=true:=by obtain⟨a,s,rfl,_⟩:=an (h.join C t);rfl
 obtain⟨G,H,I,J,K⟩:∃i,prog.info? 131=some i/\i.zero=some (.agg #[nL,U 0])/\i.size=2/\i.bytes=32:=jL (by kernel_rfl);obtain⟨o,w',r1,X,Y,_,r5⟩:=Mt (P:=prog) w L 28 V 131 G _ 2 32 Tryz.underlying28 H I J K rfl (by decide) v n xs z (pA g 0) 1 1 [C,U vd] rfl (λj u M=>by rw[eM,Kp];exact ab E j (by simpa using M)) (by intro u b;simp at b;rcases b with rfl|rfl;exact F;rfl) (by omega) (by omega) (Kl hL h.grown.size);have d:∀p,W.1.size<=p->∀ {x},w.1[p]?=some x->w'.1[p]?=some x:=λp a6 x hx=>by refine(Y.block p (KK.1 hx).1 λe=>?_).trans hx;have:=D p e.symm;omega
 have⟨a',A,e',_⟩:=an X;refine⟨o,w',r1,⟨a',A,e'⟩,Li h.grown Y λj M=>.inr M,λu b=>?_,λu u' b O=>h.one u u' (aC (by decide) b) (aC (by decide) O),λu b=>?_,λu b=>?_,λu b=>?_,λT=>absurd (.inr ⟨rfl,rfl⟩) (T o),λu b=>?_⟩
 ·obtain⟨f,Q,l,B,m,R⟩:=h.lits u (aC (by decide) b);exact⟨f,Q,l,B,m,d f m R⟩
 ·exact bT (h.join u (aC (by decide) b)) λf aa S hc=>(d f S hc).trans hc.symm
 ·obtain⟨y,B,m⟩:=h.build u (aC (by decide) b);exact⟨y,.inl B,m⟩
 ·obtain⟨f,Q,l,y7,B,m,R,e4⟩:=h.made u (aC (by decide) b);exact⟨f,Q,l,y7,B,m,.inl R,d f m e4⟩
 rcases b with b|⟨_,rfl⟩
 ·exact absurd b (q u)
 refine⟨C,.inl t,X,?_⟩
 rcases r5 with e|e
 ·exact .inl e
 exact .inr ⟨_,e,h.grown.size⟩
end
def JU(N n:Nat)(vd:Int)(k:Nat)(v:Value):Prop:=if k=5 then ∃g:Nat,v=.slice (sO g) 2 2 else if k=6 then ∃a b,v=.slice a N b else if k=13 then v=U vd else if k=14 then ∃a b,v=.agg #[.slice a N b,U vd] else if k=15 then ∃g:Nat,v=.slice (sO g) 1 1 else if k=16 then ∃a b,v=.slice a (n+1) b else True
theorem GN(N n vd k):∃v,JU N n vd k v:=by
 unfold JU
 split
 ·exact⟨_,0,rfl⟩
 split
 ·exact⟨_,none,0,rfl⟩
 split
 ·exact⟨_,rfl⟩
 split
 ·exact⟨_,none,0,rfl⟩
 split
 ·exact⟨_,0,rfl⟩
 split
 ·exact⟨_,none,0,rfl⟩
 exact⟨undef,trivial⟩
end
