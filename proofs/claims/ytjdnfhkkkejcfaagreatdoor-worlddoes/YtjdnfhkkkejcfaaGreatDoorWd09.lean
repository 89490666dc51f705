import Derived.Test.YtjdnfhkkkejcfaaGreatDoorWd05
set_option linter.all false
set_option maxRecDepth 100000
set_option maxHeartbeats 4000000
namespace Go.Proofs.YtjdnfhkkkejcfaaGreatDoor
open Go.RowKit Go.Maps Go.Proofs.Tryz
def iy(a b c m:Int):Int:=if b≠0\/c≠0 then 4 else if a<0\/m<a then 3 else 0
def iw(a b c m:Int):Int:=if a<0\/65535<a then 3 else if b<0\/m<=b\/c<0\/m<=c then 5 else 0
theorem yq(k a b c m w):
  cL 129 #[.agg #[U k,U a,U b,U c],U m] w (rT w (U (iy a b c m))):=by
 have d:∀x,bL w (w.alloc x):=λx=>bR.alloc lE _
 by_cases f:b≠0\/c≠0
 ·have e:=Z (by rw[iy,Io f]:iy a b c m=4)
  by_cases h:b=0
  ·have j:c≠0:=by omega
   have g:(b != 0)=false:=by simpa using h
   have l:(c != 0)=true:=by simpa using j
   clear f;go_enter func129,ntmps129;go_wp2
   all_goals
    go_ret;exact⟨by rw[e.o];rfl,d _⟩
  have g:(b != 0)=true:=by simpa using h
  clear f;go_enter func129,ntmps129;go_wp2
  all_goals
   go_ret;exact⟨by rw[e.o];rfl,d _⟩
 obtain⟨rfl,rfl⟩:b=0/\c=0:=by omega
 by_cases i:a<0\/m<a
 ·have e:=Z (by rw[iy,iO f,Io i]:iy a 0 0 m=3);go_enter func129,ntmps129;go_wp2
  all_goals
   go_ret;exact⟨by rw[e.o];rfl,d _⟩
 have e:=Z (by rw[iy,iO f,iO i]:iy a 0 0 m=0);go_enter func129,ntmps129;go_wp2
 all_goals
  go_ret;exact⟨by rw[e.o];rfl,d _⟩
theorem xY(k a b c m w):
  cL 130 #[.agg #[U k,U a,U b,U c],U m] w (rT w (U (iw a b c m))):=by
 have d:∀x,bL w (w.alloc x):=λx=>bR.alloc lE _
 by_cases g:a<0\/65535<a
 ·have e:=Z (by rw[iw,Io g]:iw a b c m=3);go_enter func130,ntmps130;go_wp2
  all_goals
   go_ret;exact⟨by rw[e.o];rfl,d _⟩
 by_cases f:b<0\/m<=b\/c<0\/m<=c
 ·have e:=Z (by rw[iw,iO g,Io f]:iw a b c m=5);have h:¬a<0:=by omega
  have i:¬65535<a:=by omega
  clear g
  by_cases j:b<0
  ·clear f;go_enter func130,ntmps130;go_wp2
   all_goals
    go_ret;exact⟨by rw[e.o];rfl,d _⟩
  by_cases l:m<=b
  ·clear f;go_enter func130,ntmps130;go_wp2
   all_goals
    go_ret;exact⟨by rw[e.o];rfl,d _⟩
  by_cases n:c<0
  ·clear f;go_enter func130,ntmps130;go_wp2
   all_goals
    go_ret;exact⟨by rw[e.o];rfl,d _⟩
  have o:m<=c:=by omega
  clear f;go_enter func130,ntmps130;go_wp2
  all_goals
   go_ret;exact⟨by rw[e.o];rfl,d _⟩
 have e:=Z (by rw[iw,iO g,iO f]:iw a b c m=0);have h:¬a<0:=by omega
 have i:¬65535<a:=by omega
 have j:¬b<0:=by omega
 have l:¬m<=b:=by omega
 have n:¬c<0:=by omega
 have o:¬m<=c:=by omega
 clear g f;go_enter func130,ntmps130;go_wp2
 all_goals
  go_ret;exact⟨by rw[e.o];rfl,d _⟩
theorem rZ(k a b c m:Int)(h:k=1\/k=4):d8 (k,a,b,c) m=iy a b c 4:=by unfold d8;rw[Io h];rfl
theorem uj(k a b c m:Int)(h:k=2\/k=3):d8 (k,a,b,c) m=iw a b c m:=by unfold d8;rw[iO (by simp only[];omega),Io h];rfl
theorem zJ(k a b c m w):
  cL 101 #[.agg #[U k,U a,U b,U c],U m] w (rT w (U (d8 (k,a,b,c) m))):=by
 have d:∀x,bL w (w.alloc x):=λx=>bR.alloc lE _
 by_cases g:k=1\/k=4
 ·have h:=Z (rZ k a b c m g)
  rcases g with rfl|rfl
  all_goals
   go_enter func101,ntmps101;go_wp2_with (first|(go_at_call 129;go_must (refine(yq _ _ _ _ _ _).mono ?_;rintro e j ⟨rfl,f⟩)));go_ret;exact⟨by rw[h.o];rfl,Below.tO (d _) f (by simp)⟩
 by_cases i:k=2\/k=3
 ·have h:=Z (uj k a b c m i);clear g
  rcases i with rfl|rfl
  all_goals
   go_enter func101,ntmps101;go_wp2_with (first|(go_at_call 130;go_must (refine(xY _ _ _ _ _ _).mono ?_;rintro e j ⟨rfl,f⟩)));go_ret;exact⟨by rw[h.o];rfl,Below.tO (d _) f (by simp)⟩
 have h:Hid (d8 (k,a,b,c) m=4):=by unfold Hid d8;rw[iO g,iO i]
 have l:(k==1)=false:=by simp;omega
 have n:(k==2)=false:=by simp;omega
 have o:(k==3)=false:=by simp;omega
 have p:(k==4)=false:=by simp;omega
 clear g i;go_enter func101,ntmps101;go_wp2;go_ret;exact⟨by rw[h.o];rfl,d _⟩
theorem lH(k a b c h w):
  cL 102 #[.agg #[U k,U a,U b,U c],.bool h] w (rT w (U (if h=true then b else c))):=by
 have d:∀x,bL w (w.alloc x):=λx=>bR.alloc lE _
 cases h
 all_goals
  go_enter func102,ntmps102;go_wp2;go_ret;exact⟨rfl,d _⟩
theorem qF(B cv l w)(M:dR B w cv l)(hB:B<=w.1.size):
  cL 72 #[cv] w (rT w (U (aV l))):=by
 obtain⟨a,N,rfl,O,P,r⟩:=M;have g:=Z r;clear r;have K:Hid ((l.length<1\/1500<l.length)->aV l=2):=by intro h;rw[aV,Io h]
 have L:Hid (¬(l.length<1\/1500<l.length)->aV l=if bK l=0 then (if eS l=4 then 0 else 4) else bK l):=by intro h;rw[aV,iO h]
 have Q:=Z (lS l);have R:=Z (rH l);generalize hn:l.length=n at*;have T:=ai
 by_cases s:n<1\/1500<n
 ·have j:=Z (K.o s)
  by_cases h1:n<1
  ·obtain rfl:n=0:=by omega
   clear s;go_enter func72,ntmps72;go_wp2;go_ret;exact⟨by rw[j.o];rfl,Kf _ _⟩
  have V:¬((n:Int)<1):=by omega
  have W:(1500:Int)<(n:Int):=by omega
  clear s;go_enter func72,ntmps72;go_wp2;go_ret;exact⟨by rw[j.o];rfl,Kf _ _⟩
 have j:=Z (L.o s);have V:¬((n:Int)<1):=by omega
 have W:¬((1500:Int)<(n:Int)):=by omega
 have i3:IntKind.i64.wrap ((n:Int)-1)=(n:Int)-1:=KA _ (by omega);have X:1<=n/\n<=1500:=by omega
 clear s K L;go_enter func72,ntmps72;go_wp2;go_loopw [20] (λi wr=>∃k:Nat,k<=n/\i=U k/\Hid (bK l=bK (l.drop k))/\bL w wr) (λi _=>n-(intOf i).toNat)
 case atStart=>exact⟨0,by omega,rfl,rfl,Kf _ _⟩
 case round=>
  obtain⟨k,hk,rfl,H,d⟩:=hrel;have i0:(0:Int)<=(k:Int):=by omega
  by_cases Y:k<n
  ·have i4:(k:Int)<(n:Int):=by omega
   have i5:IntKind.i64.wrap ((n:Int)-1-k)=(n:Int)-1-k:=KA _ (by omega);obtain⟨c,f⟩:∃c,l[k]?=some c:=⟨l[k]'(by omega),by simp⟩;obtain⟨b,o,rfl,D,m⟩:=g.o k c f;have S:=Z (R.o k c f);obtain⟨t,u,v,x⟩:=c;obtain⟨E,F,c2,c3,_⟩:=m.l d (by omega);simp only[] at E F c2 c3;go_wp2_with (first|(go_at_call 101;go_must (refine(zJ _ _ _ _ _ _).mono ?_;rintro e w' ⟨rfl,G⟩)))
   all_goals have y:bL w w':=Below.tO (d.alloc d.size _) G (by simp;have:=d.size;omega)
   ·have z:d8 (t,u,v,x) ((n:Int)-1-k)≠0:=by simpa using (by assumption:(d8 (t,u,v,x) ((n:Int)-1-k) != 0)=true)
    have C:bK l=d8 (t,u,v,x) ((n:Int)-1-k):=by rw[H.o,S.o,iO z]
    go_ret;exact⟨by rw[j.o,C,iO z];rfl,y⟩
   have he:d8 (t,u,v,x) ((n:Int)-1-k)=0:=by simpa using (by assumption:(d8 (t,u,v,x) ((n:Int)-1-k) != 0)=false)
   exact⟨⟨k+1,by omega,by go_num,by unfold Hid;rw[H.o,S.o,Io he],y⟩,by simp[intOf];omega⟩
  have C:=Z (by rw[H.o,KJ (by omega)];rfl:bK l=0);obtain⟨c,f⟩:∃c,l[n-1]?=some c:=⟨l[n-1]'(by omega),by simp⟩;obtain⟨b,o,rfl,D,m⟩:=g.o (n-1) c f;have A:=Z (Q.o c f);obtain⟨E,_⟩:=m.l d (by omega);obtain⟨q,rfl⟩:∃q:Nat,n=q+1:=⟨n-1,by omega⟩;simp only[M8] at E;have e0:(((q+1:Nat):Int)-1)=(q:Int):=by omega
  by_cases p:c.1=4
  ·have I:(c.1 != 4)=false:=by simpa using p
   have J:=Z (by rw[j.o,Io C.o,A.o,Io p]:aV l=0);generalize c.1=F at*;clear p j;go_wp2;go_ret;exact⟨by rw[J.o];rfl,d⟩
  have I:(c.1 != 4)=true:=by simpa using p
  have J:=Z (by rw[j.o,Io C.o,A.o,iO p]:aV l=4);generalize c.1=F at*;clear p j;go_wp2;go_ret;exact⟨by rw[J.o];rfl,d⟩
def sV(m:Int)(p:Int × Int):Int × Int:=(p.1,p.2+m)
theorem rE(m)(p:Int × Int):sV m (Jo p)=sV (m+1) p:=by unfold sV Jo;simp;omega
theorem DY{l:List cO}(h:eS l=4){k:Nat}{c:cO}(a:l[k]?=some c)(b:c.1≠4):k+1<l.length:=by
 have d:=(K9.1 a).1
 by_cases e:k=l.length-1
 ·exfalso;rw[e] at a;exact b ((lS l c a).symm.trans h)
 omega
theorem Ea(x:Nat->Int){l:List cO}{k:Nat}{c:cO}(h:l[k]?=some c)(n):
  dJ x n 0 (l.drop k)=if c.1=1 then Jo (dJ x (x c.2.1.toNat) 0 (l.drop (k+1))) else if c.1=2\/c.1=3 then Jo (dJ x n 0 (l.drop (k+1+iY n c))) else (c.2.1,1):=by
 obtain⟨a,rfl⟩:=K9.1 h;rw[KM a,dJ,sQ x _ n (iY n _),Mv]
theorem Dc(B cv l)(x:Nat->Int)(w)(hc:dR B w cv l)(hB:B<=w.1.size)(I:aV l=0):
  cL 74 #[cv,jm x] w (rT w (.tuple #[U (dJ x 0 0 l).1,U (dJ x 0 0 l).2])):=by
 obtain⟨a,R,rfl,a2,a3,J⟩:=hc;have⟨a4,a5,K,L⟩:=nK I;have M:=Z J;have HG:=Z λ(k:Nat) (c:cO) (h:l[k]?=some c)=>px l k c K h
 have HL:=Z λ(k:Nat) (c:cO) (h:l[k]?=some c) (h4:c.1≠4)=>DY L h h4
 have HX:Hid (∀T i,Below (w.1.size+1) (w.alloc (.cells #[U (x 0),U (x 1),U (x 2),U (x 3),U (x 4)] T)) i->rA i w.1.size x):=λT i h=>(rA.made x w T).l h (by omega)
 clear J I K L;generalize hn:l.length=p at*;have aa:=ai;show cL 74 #[.slice a p R,.agg #[U (x 0),U (x 1),U (x 2),U (x 3),U (x 4)]] w _;go_enter func74,ntmps74;go_wp2;go_loopw [6,7,8] (λld E dn wr=>∃ (n:Int) (k m:Nat),ld=U n/\E=U k/\dn=U ((m:Int)+1)/\k<p/\m<=k/\Hid (dJ x 0 0 l=sV m (dJ x n 0 (l.drop k)))/\bL w wr/\Hid (rA wr w.1.size x)/\w.1.size<wr.1.size) (λ_ E _ _=>p-(intOf E).toNat)
 case atStart=>exact⟨0,0,0,rfl,rfl,rfl,by omega,by omega,by unfold Hid sV;simp,bR.alloc lE _,HX.o _ _ bR,by simp⟩
 case round=>
  obtain⟨n,k,m,rfl,rfl,rfl,hk,hm,H,F,hX,hz⟩:=hrel;have i0:(0:Int)<=(k:Int):=by omega
  have i4:(k:Int)<(p:Int):=by omega
  have i5:IntKind.i64.wrap ((k:Int)+1)=(k:Int)+1:=KA _ (by omega);have i6:IntKind.i64.wrap ((m:Int)+1+1)=(m:Int)+1+1:=KA _ (by omega);obtain⟨c,v⟩:∃c,l[k]?=some c:=⟨l[k]'(by omega),by simp⟩;obtain⟨b,o,rfl,af,V⟩:=M.o k c v;have N:=ud (HG.o k c v);have q:=HL.o k c v;have S:=Ea x v n;obtain⟨G,r,O,P⟩:=c;obtain⟨c0,c1,c2,c3,_⟩:=V.l F (by omega);simp only[] at c0 c1 c2 c3 N q S;have W:=F.size
  have f:∀X i,Below (wr.alloc X).1.size (wr.alloc X) i->Hid (bL w i/\rA i w.1.size x/\w.1.size<i.1.size):=λX i h=>⟨Below.tO (F.alloc W _) h (by simp;omega),(hX.o.l ((Kf wr.1.size _).alloc lE X) (by omega)).l h (by simp;omega),by have:=h.size;simp at this;omega⟩
  by_cases Q:G=1
  ·subst Q;obtain⟨j,rfl⟩:∃j:Nat,r=j:=⟨r.toNat,by omega⟩;have hj:j<5:=by omega
   have Y:=q (by omega);have s:Hid (dJ x 0 0 l=sV ((m+1:Nat):Int) (dJ x (x j) 0 (l.drop (k+1)))):=by unfold Hid;rw[H.o,S,Io rfl,rE];simp
   have b1:∀X,(wr.alloc X).cell? ⟨w.1.size,j,none⟩=some (U (x j)):=λX=>((f X _ bR).o.2.1) j hj
   have j0:(0:Int)<=(j:Int):=by omega
   have j1:(j:Int)<5:=by omega
   clear S N q;generalize x j=xj at*;go_wp2;obtain⟨y,z,A⟩:=(f _ _ bR).o;exact⟨⟨xj,k+1,m+1,rfl,by simp,by simp,by omega,by omega,s,y,z,A⟩,by simp[intOf];omega⟩
  by_cases C:G=2\/G=3
  ·have Y:=q (by omega)
   obtain⟨b3,b4,b5,b6⟩:0<=O/\O<(p:Int)-1-k/\0<=P/\P<(p:Int)-1-k:=by
    rcases N with ⟨h,_⟩|⟨_,h⟩
    ·omega
    exact h
   obtain⟨t,rfl⟩:∃j:Nat,O=j:=⟨O.toNat,by omega⟩;obtain⟨u,rfl⟩:∃j:Nat,P=j:=⟨P.toNat,by omega⟩;have wb:IntKind.i64.wrap ((k:Int)+1+t)=(k:Int)+1+t:=KA _ (by omega);have wc:IntKind.i64.wrap ((k:Int)+1+u)=(k:Int)+1+u:=KA _ (by omega);have s:Hid (dJ x 0 0 l=sV ((m+1:Nat):Int) (dJ x n 0 (l.drop (k+1+iY n (G,r,t,u))))):=by unfold Hid;rw[H.o,S,iO Q,Io C,rE];simp
   clear S N q
   rcases C with rfl|rfl
   ·by_cases D:n=r
    ·have d:iY n (2,r,t,u)=t:=by unfold iY;simp[D]
     rw[d] at s;clear d;subst D;go_wp2_with (first|(go_at_call 102;go_must (refine(lH _ _ _ _ _ _).mono ?_;rintro e i ⟨rfl,g⟩;obtain⟨y,z,A⟩:=(f _ _ g).o)));exact⟨⟨n,k+1+t,m+1,rfl,by simp,by simp,by omega,by omega,s,y,z,A⟩,by simp[intOf];omega⟩
    have d:iY n (2,r,t,u)=u:=by unfold iY;simp[D]
    rw[d] at s;have hq:(n==r)=false:=by simpa using D
    clear d;go_wp2_with (first|(go_at_call 102;go_must (refine(lH _ _ _ _ _ _).mono ?_;rintro e i ⟨rfl,g⟩;obtain⟨y,z,A⟩:=(f _ _ g).o)));exact⟨⟨n,k+1+u,m+1,rfl,by simp,by simp,by omega,by omega,s,y,z,A⟩,by simp[intOf];omega⟩
   by_cases D:n<r
   ·have d:iY n (3,r,t,u)=t:=by unfold iY;simp[D]
    rw[d] at s;have hq:decide (n<r)=true:=by simpa using D
    clear d;go_wp2_with (first|(go_at_call 102;go_must (refine(lH _ _ _ _ _ _).mono ?_;rintro e i ⟨rfl,g⟩;obtain⟨y,z,A⟩:=(f _ _ g).o)));exact⟨⟨n,k+1+t,m+1,rfl,by simp,by simp,by omega,by omega,s,y,z,A⟩,by simp[intOf];omega⟩
   have d:iY n (3,r,t,u)=u:=by unfold iY;simp[D]
   rw[d] at s;have hq:decide (n<r)=false:=by simpa using D
   clear d;go_wp2_with (first|(go_at_call 102;go_must (refine(lH _ _ _ _ _ _).mono ?_;rintro e i ⟨rfl,g⟩;obtain⟨y,z,A⟩:=(f _ _ g).o)));exact⟨⟨n,k+1+u,m+1,rfl,by simp,by simp,by omega,by omega,s,y,z,A⟩,by simp[intOf];omega⟩
  have s:Hid (dJ x 0 0 l=(r,(m:Int)+1)):=by unfold Hid;rw[H.o,S,iO Q,iO C];unfold sV;simp;omega
  have q1:(G==1)=false:=by simp;omega
  have q2:(G==2)=false:=by simp;omega
  have q3:(G==3)=false:=by simp;omega
  clear S N q C Q;go_wp2;go_ret2;exact⟨by rw[s.o];rfl,(f _ _ bR).o.1⟩
def rt(l:List cO)(x:Nat->Int):Int:=if aV l=0 then eC x else aV l
def og(l:List cO)(x:Nat->Int):Int × Int:=if rt l x=0 then dJ x 0 0 l else (0,0)
theorem Ir(B cv l)(x:Nat->Int)(w)(A:dR B w cv l)(C:B<=w.1.size):
  cL 45 #[cv,jm x] w (rT w (.tuple #[U (og l x).1,U (og l x).2,U (rt l x)])):=by
 have D:Hid (∀b,bL w b->cL 72 #[cv] b (rT b (U (aV l)))):=λb h=>qF B cv l b (A.l h C) (h.u C)
 have E:Hid (aV l=0->∀b,bL w b->cL 74 #[cv,.agg #[U (x 0),U (x 1),U (x 2),U (x 3),U (x 4)]] b (rT b (.tuple #[U (dJ x 0 0 l).1,U (dJ x 0 0 l).2]))):=λi b h=>Dc B cv l x b (A.l h C) (h.u C) i
 have O:Hid (∀T b,Below (w.1.size+1) (w.alloc (.cells #[U (x 0),U (x 1),U (x 2),U (x 3),U (x 4)] T)) b->rA b w.1.size x):=λT b h=>(rA.made x w T).l h (by omega)
 obtain⟨a,q,rfl,_,_⟩:=A.shape;clear A;have j:∀X,bL w (w.alloc X):=λX=>bR.alloc lE _
 generalize l.length=s at*;show cL 45 #[.slice a s q,.agg #[U (x 0),U (x 1),U (x 2),U (x 3),U (x 4)]] w _
 by_cases i:aV l=0
 ·have S:=Z i;have v:Hid (∀b,bL w b->cL 74 #[.slice a s q,.agg #[U (x 0),U (x 1),U (x 2),U (x 3),U (x 4)]] b (rT b (.tuple #[U (dJ x 0 0 l).1,U (dJ x 0 0 l).2]))):=E.o i;have y:Hid (∀b,bL w b->cL 72 #[.slice a s q] b (rT b (U 0))):=by have:=D.o;rw[i] at this;exact this
  by_cases u:eC x=0
  ·have m:rt l x=0:=by rw[rt,Io i,u]
   have n:og l x=dJ x 0 0 l:=by rw[og,Io m]
   have o:Hid (rt l x=0/\og l x=dJ x 0 0 l):=⟨m,n⟩;have F:Hid (∀b,cL 43 #[.agg #[U (x 0),U (x 1),U (x 2),U (x 3),U (x 4)]] b (rT b (U 0))):=λb=>by have:=pN (x 0) (x 1) (x 2) (x 3) (x 4) b;rw[show Iu (x 0) (x 1) (x 2) (x 3) (x 4)=0 from u] at this;exact this
   clear m n u i D E;generalize P:dJ x 0 0 l=r at*;go_enter func45,ntmps45;go_wp2_with fail;go_at_call 72;refine(y.o _ (j _)).mono ?_;rintro e t ⟨rfl,c⟩;have k:=O.o _ t (by simpa using c);have G:=k 0 (by omega);have H:=k 1 (by omega);have I:=k 2 (by omega);have J:=k 3 (by omega);have K:=k 4 (by omega);clear k;have L:=c.size;simp at L;have d:bL w t:=Below.tO (j _) c (by simp);go_wp2_with fail;go_at_call 43;refine(F.o _).mono ?_;rintro e M ⟨rfl,f⟩;have V:=(f.cell (p:=pA w.1.size 0) (by show w.1.size<_;omega)).trans G;have W:=(f.cell (p:=pA w.1.size 1) (by show w.1.size<_;omega)).trans H;have Y:=(f.cell (p:=pA w.1.size 2) (by show w.1.size<_;omega)).trans I;have y3:=(f.cell (p:=pA w.1.size 3) (by show w.1.size<_;omega)).trans J;have y4:=(f.cell (p:=pA w.1.size 4) (by show w.1.size<_;omega)).trans K;have g:bL w M:=Below.tO d f (by omega);clear G H I J K;go_wp2_with fail;go_at_call 74;refine(v.o _ g).mono ?_;rintro e Q ⟨rfl,N⟩;have z:bL w Q:=g.th N;go_wp2_with fail;go_ret3;exact⟨by rw[o.o.1,o.o.2];rfl,z⟩
  have m:rt l x=eC x:=by rw[rt,Io i]
  have n:og l x=(0,0):=by rw[og,iO (by rw[m];exact u)]
  have o:Hid (rt l x=eC x/\og l x=(0,0)):=⟨m,n⟩;have F:Hid (∀b,cL 43 #[.agg #[U (x 0),U (x 1),U (x 2),U (x 3),U (x 4)]] b (rT b (U (eC x)))):=λb=>pN (x 0) (x 1) (x 2) (x 3) (x 4) b
  have R:(eC x != 0)=true:=by simpa using u
  clear m n u i D E v;generalize P:eC x=r at*;go_enter func45,ntmps45;go_wp2_with fail;go_at_call 72;refine(y.o _ (j _)).mono ?_;rintro e t ⟨rfl,c⟩;have k:=O.o _ t (by simpa using c);have G:=k 0 (by omega);have H:=k 1 (by omega);have I:=k 2 (by omega);have J:=k 3 (by omega);have K:=k 4 (by omega);clear k;have d:bL w t:=Below.tO (j _) c (by simp);go_wp2_with fail;go_at_call 43;refine(F.o _).mono ?_;rintro e M ⟨rfl,f⟩;have g:bL w M:=d.th f;go_wp2_with fail;go_ret3;exact⟨by rw[o.o.1,o.o.2];rfl,g⟩
 have m:rt l x=aV l:=by rw[rt,iO i]
 have n:og l x=(0,0):=by rw[og,iO (by rw[m];exact i)]
 have o:Hid (rt l x=aV l/\og l x=(0,0)):=⟨m,n⟩;have R:(aV l != 0)=true:=by simpa using i
 clear m n i E;generalize P:aV l=r at*;go_enter func45,ntmps45;go_wp2_with fail;go_at_call 72;refine(D.o _ (j _)).mono ?_;rintro e t ⟨rfl,c⟩;have d:bL w t:=Below.tO (j _) c (by simp);go_wp2_with fail;go_ret3;exact⟨by rw[o.o.1,o.o.2];rfl,d⟩
