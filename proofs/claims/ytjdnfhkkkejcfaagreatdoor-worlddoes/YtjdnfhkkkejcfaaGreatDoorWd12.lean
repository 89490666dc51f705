import Derived.Test.YtjdnfhkkkejcfaaGreatDoorWd08
import Derived.Test.YtjdnfhkkkejcfaaGreatDoorWd09
set_option linter.all false
set_option maxRecDepth 100000
set_option maxHeartbeats 4000000
namespace Go.Proofs.YtjdnfhkkkejcfaaGreatDoor
open Go.RowKit Go.Maps Go.Proofs.Tryz
theorem xQ(B cv l w)(hc:dR B w cv l)(hB:B<=w.1.size):
  cL 122 #[cv] w (rT w (U (aV l))):=by
 obtain⟨a,ad,rfl,ae,af,L⟩:=hc;have A:=Z L;clear L;have HR:Hid ((l.length<1\/1500<l.length)->aV l=2):=by intro h;rw[aV,Io h]
 have HN:Hid (¬(l.length<1\/1500<l.length)->aV l=if bK l=0 then (if eS l=4 then 0 else 4) else bK l):=by intro h;rw[aV,iO h]
 have HL:=Z (lS l);have HS:=Z (rH l);generalize hn:l.length=n at*;have ao:=ai
 by_cases R:n<1\/1500<n
 ·have C:=Z (HR.o R);have E:=Z (by omega:¬((1:Int)<=(n:Int)/\(n:Int)<=1500));clear R;go_enter func122,ntmps122;go_wp2_with (first|(go_at_call 34;go_must (refine(xm E.o _).mono ?_;rintro e J ⟨rfl,rfl⟩)));go_ret;exact⟨by rw[C.o];rfl,Kf _ _⟩
 have C:=Z (HN.o R);have E:=Z (by omega:(1:Int)<=(n:Int)/\(n:Int)<=1500);have i3:IntKind.i64.wrap ((n:Int)-1)=(n:Int)-1:=KA _ (by omega);have av:1<=n/\n<=1500:=by omega
 clear R HR HN;go_enter func122,ntmps122;go_wp2_with (first|(go_at_call 34;go_must (refine(mt E.o _).mono ?_;rintro e J ⟨rfl,rfl⟩)));have⟨w,hw⟩:=nM (J);subst hw;go_loopw [14] (λi wr=>∃k:Nat,k<=n/\i=U k/\Hid (bK l=bK (l.drop k))/\bL w wr) (λi _=>n-(intOf i).toNat)
 case atStart=>exact⟨0,by omega,rfl,rfl,Kf _ _⟩
 case round=>
  obtain⟨k,hk,rfl,H,u⟩:=hrel;have i0:(0:Int)<=(k:Int):=by omega
  by_cases b1:k<n
  ·have i4:(k:Int)<(n:Int):=by omega
   have i5:IntKind.i64.wrap ((n:Int)-1-k)=(n:Int)-1-k:=KA _ (by omega);obtain⟨c,x⟩:∃c,l[k]?=some c:=⟨l[k]'(by omega),by simp⟩;obtain⟨b,o,rfl,W,F⟩:=A.o k c x;have S:=Z (HS.o k c x)
   have f:Hid (∀e:Int,d8 c ((n:Int)-1-k)=e->e≠0->aV l=e):=by
    intro e h1 h2;have T:bK l=e:=by rw[H.o,S.o,h1,iO h2]
    rw[C.o,T,iO h2]
   have d:Hid (d8 c ((n:Int)-1-k)=0->bK l=bK (l.drop (k+1))):=by intro h1;rw[H.o,S.o,Io h1]
   obtain⟨y,m,p,s⟩:=c;obtain⟨c0,c1,c2,c3,_⟩:=F.l u (by omega);simp only[] at c0 c1 c2 c3;have a3:=u.size;have t:∀X,bL w (wr.alloc X):=λX=>u.alloc a3 X
   have G:∀X Y,bL w ((wr.alloc X).alloc Y):=λX Y=>(t X).alloc (by simp;omega) Y
   clear H S C
   by_cases D:y=1\/y=4
   ·have v:Hid (d8 (y,m,p,s) ((n:Int)-1-k)=iy m p s 4):=rZ _ _ _ _ _ D
    by_cases I:p≠0\/s≠0
    ·have r:Hid (aV l=4):=f.o 4 (by rw[v.o,iy,Io I]) (by omega);clear f d v
     by_cases hq:p=0
     ·have b4:(s != 0)=true:=by simp;omega
      subst hq;clear I
      rcases D with rfl|rfl
      all_goals
       go_wp2;go_ret;exact⟨by rw[r.o];rfl,t _⟩
     have b5:(p != 0)=true:=by simpa using hq
     clear I hq
     rcases D with rfl|rfl
     all_goals
      go_wp2;go_ret;exact⟨by rw[r.o];rfl,t _⟩
    obtain⟨rfl,rfl⟩:p=0/\s=0:=by omega
    by_cases z:m<0\/4<m
    ·have r:Hid (aV l=3):=f.o 3 (by rw[v.o,iy,iO I,Io z]) (by omega);have g:=Z (by omega:¬((0:Int)<=m/\m<=4));clear f d v I z
     rcases D with rfl|rfl
     all_goals
      go_wp2_with (first|(go_at_call 34;go_must (refine(xm g.o _).mono ?_;rintro e J ⟨rfl,rfl⟩)));go_ret;exact⟨by rw[r.o];rfl,t _⟩
    have r:Hid (bK l=bK (l.drop (k+1))):=d.o (by rw[v.o,iy,iO I,iO z]);have g:=Z (by omega:(0:Int)<=m/\m<=4);clear f d v I z
    rcases D with rfl|rfl
    all_goals
     go_wp2_with (first|(go_at_call 34;go_must (refine(mt g.o _).mono ?_;rintro e J ⟨rfl,rfl⟩)));exact⟨⟨k+1,by omega,by go_num,r,t _⟩,by simp[intOf];omega⟩
   by_cases M:y=2\/y=3
   ·have v:Hid (d8 (y,m,p,s) ((n:Int)-1-k)=iw m p s ((n:Int)-1-k)):=uj _ _ _ _ _ M;clear D
    by_cases z:m<0\/65535<m
    ·have r:Hid (aV l=3):=f.o 3 (by rw[v.o,iw,Io z]) (by omega);have g:=Z (by omega:¬((0:Int)<=m/\m<=65535));clear f d v z
     rcases M with rfl|rfl
     all_goals
      go_wp2_with (first|(go_at_call 34;go_must (refine(xm g.o _).mono ?_;rintro e J ⟨rfl,rfl⟩)));go_ret;exact⟨by rw[r.o];rfl,t _⟩
    have g:=Z (by omega:(0:Int)<=m/\m<=65535);have HB:Hid ((p<0\/(n:Int)-1-k<=p\/s<0\/(n:Int)-1-k<=s)->aV l=5):=λh=>f.o 5 (by rw[v.o,iw,iO z,Io h]) (by omega)
    have r:Hid (¬(p<0\/(n:Int)-1-k<=p\/s<0\/(n:Int)-1-k<=s)->bK l=bK (l.drop (k+1))):=λh=>d.o (by rw[v.o,iw,iO z,iO h])
    clear f d v z
    rcases M with rfl|rfl
    all_goals
     go_wp2_with (first|(go_at_call 34;go_must (refine(mt g.o _).mono ?_;rintro e J ⟨rfl,rfl⟩)));go_loop [54] (λi=>∃j:Nat,j<=2/\i=U j/\(0<j->¬(p<0\/(n:Int)-1-k<=p))/\(1<j->¬(s<0\/(n:Int)-1-k<=s))) (λi=>2-(intOf i).toNat)
     case atStart=>exact⟨0,by omega,rfl,by omega,by omega⟩
     case round=>
      obtain⟨j,hj,rfl,N,V⟩:=hrel;have a5:j=0\/j=1\/j=2:=by omega
      rcases a5 with rfl|rfl|rfl
      ·clear N V
       by_cases q:p<0\/(n:Int)-1-k<=p
       ·have O:Hid (aV l=5):=HB.o (by omega);go_wp2
        all_goals
         go_ret;exact⟨by rw[O.o];rfl,G _ _⟩
       go_wp2
       all_goals exact⟨⟨1,by omega,rfl,λ_=>q,by omega⟩,by simp[intOf]⟩
      ·have P:=N (by omega);have G1:=Z P;clear N V P
       by_cases q:s<0\/(n:Int)-1-k<=s
       ·have O:Hid (aV l=5):=HB.o (by omega);go_wp2
        all_goals
         go_ret;exact⟨by rw[O.o];rfl,G _ _⟩
       go_wp2
       all_goals exact⟨⟨2,by omega,rfl,λ_=>G1.o,λ_=>q⟩,by simp[intOf]⟩
      have O:Hid (bK l=bK (l.drop (k+1))):=r.o (by have:=N (by omega);have:=V (by omega);omega);clear N V;go_wp2;exact⟨⟨k+1,by omega,by go_num,O,G _ _⟩,by simp[intOf];omega⟩
   have r:Hid (aV l=4):=f.o 4 (by unfold d8;rw[iO D,iO M]) (by omega);have k1:(y==1)=false:=by simp;omega
   have k2:(y==2)=false:=by simp;omega
   have k3:(y==3)=false:=by simp;omega
   have k4:(y==4)=false:=by simp;omega
   clear f d D M;go_wp2;go_ret;exact⟨by rw[r.o];rfl,t _⟩
  have T:=Z (by rw[H.o,KJ (by omega)];rfl:bK l=0);obtain⟨c,x⟩:∃c,l[n-1]?=some c:=⟨l[n-1]'(by omega),by simp⟩;obtain⟨b,o,rfl,W,F⟩:=A.o (n-1) c x;have Q:=Z (HL.o c x);obtain⟨c0,_⟩:=F.l u (by omega);obtain⟨q,rfl⟩:∃q:Nat,n=q+1:=⟨n-1,by omega⟩;simp only[M8] at c0;have e0:(((q+1:Nat):Int)-1)=(q:Int):=by omega
  by_cases K:c.1=4
  ·have a6:(c.1 != 4)=false:=by simpa using K
   have r:=Z (by rw[C.o,Io T.o,Q.o,Io K]:aV l=0);generalize c.1=c1 at*;clear K C;go_wp2;go_ret;exact⟨by rw[r.o];rfl,u⟩
  have a6:(c.1 != 4)=true:=by simpa using K
  have r:=Z (by rw[C.o,Io T.o,Q.o,iO K]:aV l=4);generalize c.1=c1 at*;clear K C;go_wp2;go_ret;exact⟨by rw[r.o];rfl,u⟩
