import Derived.Test.YtjdnfhkkkejcfaaGreatDoorWd11
import Derived.Test.YtjdnfhkkkejcfaaGreatDoorWd12
set_option linter.all false
set_option maxRecDepth 100000
set_option maxHeartbeats 4000000
namespace Go.Proofs.YtjdnfhkkkejcfaaGreatDoor
open Go.RowKit Go.Maps Go.Proofs.Tryz
def i8:Bs->Option (Bs × Bs)
 |[]=>none
 |b :: l=>if b=10 then some ([],l) else match i8 l with
  |none=>none
  |some (a,t)=>some (b :: a,t)
theorem th:∀ (a t:Bs),(10:UInt8) ∉ a->i8 (a++10 :: t)=some (a,t)
 |[],t,_=>rfl
 |b :: a,t,h=>by
  have c:b≠10:=λe=>h (by simp[e])
  show (if b=10 then some ([],a++10 :: t) else match i8 (a++10 :: t) with|none=>none|some (a,t)=>some (b :: a,t))=_;rw[iO c,th a t λe=>h (by simp[e])]
theorem o6:∀ (a:Bs),(10:UInt8) ∉ a->i8 a=none
 |[],_=>rfl
 |b :: a,h=>by
  have c:b≠10:=λe=>h (by simp[e])
  show (if b=10 then some ([],a) else match i8 a with|none=>none|some (a,t)=>some (b :: a,t))=_;rw[iO c,o6 a λe=>h (by simp[e])]
theorem gL:∀ {s a t:Bs},i8 s=some (a,t)->s=a++10 :: t/\(10:UInt8) ∉ a
 |[],a,t,h=>by cases h
 |b :: s,a,t,h=>by
  have c:(if b=10 then some ([],s) else match i8 s with|none=>none|some (a,t)=>some (b :: a,t))=some (a,t):=h
  by_cases d:b=10
  ·rw[Io d] at c
   cases c;exact⟨by rw[d];rfl,by simp⟩
  rw[iO d] at c
  cases hc:i8 s with
  |none=>rw[hc] at c;cases c
  |some x=>
   obtain⟨g,i⟩:=x;rw[hc] at c
   cases c;have⟨e,f⟩:=gL hc;exact⟨by rw[e];rfl,by simp;exact⟨λe=>d e.symm,f⟩⟩
theorem qP{s:Bs}(h:i8 s=none):(10:UInt8) ∉ s:=by
 intro c
 obtain⟨a,t,e,d⟩:∃a t,s=a++10 :: t/\(10:UInt8) ∉ a:=by
  clear h
  induction s with
  |nil=>cases c
  |cons b s g=>
   by_cases f:b=10
   ·exact⟨[],s,by rw[f];rfl,by simp⟩
   rcases Kz.1 c with e|c
   ·exact absurd e.symm f
   have⟨a,t,e,d⟩:=g c;exact⟨b :: a,t,by rw[e];rfl,by simp;exact⟨λe=>f e.symm,d⟩⟩
 rw[e,th a t d] at h
 cases h
theorem mY{s a t:Bs}(h:i8 s=some (a,t)):s.length=a.length+1+t.length:=by rw[(gL h).1];simp;omega
def fG:Nat->Bs->List Bs
 |0,s=>[s]
 |k+1,s=>match i8 s with
  |none=>[s]
  |some (a,t)=>(a++[10]) :: fG k t
def fH(aO:Nat):List Bs->List az × Nat × Int
 |[]=>([],0,0)
 |t :: a=>if t=[] then ([],0,0) else if t.getLast?=some 10 then
   (if (ch t.dropLast).2=0 then
    (match aO with
     |0=>([],0,2)
     |m+1=>((ch t.dropLast).1 :: (fH m a).1,t.length+(fH m a).2.1,(fH m a).2.2))
    else ([],0,(ch t.dropLast).2)) else ([],0,8)
def aM(aO:Nat)(s:Bs):List az × Nat × Int:=fH aO (fG s.length s)
theorem tF:∀ (k j:Nat) (s:Bs),s.length<=k->s.length<=j->fG k s=fG j s
 |0,0,s,_,_=>rfl
 |0,j+1,s,h,_=>by obtain rfl:s=[]:=LV (by omega);rfl
 |k+1,0,s,_,h=>by obtain rfl:s=[]:=LV (by omega);rfl
 |k+1,j+1,s,b,c=>by
  unfold fG
  cases h:i8 s with
  |none=>rfl
  |some x=>
   obtain⟨a,t⟩:=x;have:=mY h;simp only;rw[tF k j t (by omega) (by omega)]
theorem jJ(aO):aM aO []=([],0,0):=by unfold aM fG fH;simp
theorem jZ(aO)(a t:Bs)(h:(10:UInt8) ∉ a):aM aO (a++10 :: t)=(if (ch a).2=0 then (match aO with|0=>([],0,2)|m+1=>((ch a).1 :: (aM m t).1,a.length+1+(aM m t).2.1,(aM m t).2.2)) else ([],0,(ch a).2)):=by
 unfold aM;have b:(a++10 :: t).length=(a.length+t.length)+1:=by simp;omega
 rw[b]
 conv=>lhs;unfold fG
 rw[th a t h];simp only;rw[tF (a.length+t.length) t.length t (by omega) lE]
 conv=>lhs;unfold fH
 rw[iO (by simp),Io (by simp)];simp
theorem oT(aO)(s:Bs)(h:(10:UInt8) ∉ s)(a:s≠[]):aM aO s=([],0,8):=by
 unfold aM
 obtain⟨k,c⟩:∃k,s.length=k+1:=by
  cases s with
  |nil=>exact absurd rfl a
  |cons b l=>exact⟨l.length,rfl⟩
 rw[c];unfold fG;rw[o6 s h];simp only;unfold fH;rw[iO a,iO];intro e;exact h (List.mem_of_getLast? e)
theorem DM(B cv l)(x:Nat->Int)(w)(hc:dR B w cv l)(hB:B<=w.1.size)(L:aV l=0):
  cL 39 #[cv,jm x] w (rT w (.tuple #[U (dJ x 0 0 l).1,U (dJ x 0 0 l).2])):=by
 obtain⟨a,I,rfl,ac,ad,J⟩:=hc;have⟨ae,af,M,N⟩:=nK L;obtain⟨b,o,rfl,ak⟩:∃b o,a=some ⟨b,o,none⟩/\b<B:=by obtain⟨c,s⟩:∃c,l[0]?=some c:=⟨l[0]'(by omega),by simp⟩;have⟨b,o,h1,h2,_⟩:=J 0 c s;exact⟨b,o,h1,h2⟩
 have O:Hid (∀ (i:Nat) (c:cO),l[i]?=some c->lm w b (o+i*4) c):=λi c h=>by have⟨b',A,e,_,C⟩:=J i c h;simp at e;obtain⟨rfl,rfl⟩:=e;exact C
 have HG:=Z λ(k:Nat) (c:cO) (h:l[k]?=some c)=>px l k c M h
 have HL:=Z λ(k:Nat) (c:cO) (h:l[k]?=some c) (h4:c.1≠4)=>DY N h h4
 have HX:Hid (∀T w',Below (w.1.size+1) (w.alloc (.cells #[U (x 0),U (x 1),U (x 2),U (x 3),U (x 4)] T)) w'->rA w' w.1.size x):=λT w' h=>(rA.made x w T).l h (by omega)
 clear J L M N;generalize hn:l.length=y at*;have b3:=ai;show cL 39 #[.slice (some ⟨b,o,none⟩) y I,.agg #[U (x 0),U (x 1),U (x 2),U (x 3),U (x 4)]] w _;go_enter func39,ntmps39;go_wp2;go_loopw [0,6,7] (λlv ld dn wr=>∃ (n:Int) (k m q p A:Nat),lv=.slice (some ⟨b,A,none⟩) (q+1) (p+1)/\q+1+k=y/\q<=p/\p+1+k=I/\Hid (A=o+k*4)/\ld=U n/\dn=U ((m:Int)+1)/\m<=k/\Hid (dJ x 0 0 l=sV m (dJ x n 0 (l.drop k)))/\bL w wr/\Hid (rA wr w.1.size x)/\w.1.size<wr.1.size) (λlv _ _ _=>match lv with|.slice _ n _=>n|_=>0)
 case atStart=>exact⟨0,0,0,y-1,I-1,o,by rw[Nat.sub_add_cancel (by omega),Nat.sub_add_cancel (by omega)],by omega,by omega,by omega,by unfold Hid;omega,rfl,rfl,by omega,by unfold Hid sV;simp,bR.alloc lE _,HX.o _ _ bR,by simp⟩
 case round=>
  obtain⟨n,k,m,q,p,A,rfl,b6,b7,b8,t,rfl,rfl,hm,H,K,hX,hz⟩:=hrel;have i6:IntKind.i64.wrap ((m:Int)+1+1)=(m:Int)+1+1:=KA _ (by omega);obtain⟨c,s⟩:∃c,l[k]?=some c:=⟨l[k]'(by omega),by simp⟩;have C:=O.o k c s;rw[<-t.o] at C;have P:=ud (HG.o k c s);have z:=HL.o k c s;have S:=Ea x s n;obtain⟨Q,u,V,W⟩:=c;obtain⟨c0,c1,c2,c3,_⟩:=C.l K (by omega);simp only[] at c0 c1 c2 c3 P z S;have a3:=K.size
  have r:∀X,Hid (bL w (wr.alloc X)/\rA (wr.alloc X) w.1.size x/\w.1.size<(wr.alloc X).1.size):=λX=>⟨K.alloc a3 _,hX.o.l ((Kf wr.1.size _).alloc lE X) (by omega),by simp;omega⟩
  have f1:(1:Int)<=((q+1:Nat):Int):=by omega
  by_cases k4:Q=4
  ·subst k4;have v:Hid (dJ x 0 0 l=(u,(m:Int)+1)):=by unfold Hid;rw[H.o,S,iO (by omega),iO (by omega)];unfold sV;simp;omega
   clear S P z
   by_cases hp:p=0
   ·subst hp;obtain rfl:q=0:=by omega
    go_wp2;go_ret2;exact⟨by rw[v.o];rfl,(r _).o.1⟩
   have a4:¬(p+1=1):=by omega
   go_wp2;go_ret2;exact⟨by rw[v.o];rfl,(r _).o.1⟩
  have bg:=z k4;obtain⟨q,rfl⟩:∃q',q=q'+1:=⟨q-1,by omega⟩;obtain⟨p,rfl⟩:∃p',p=p'+1:=⟨p-1,by omega⟩;have a4:¬(p+1+1=1):=by omega
  by_cases k1:Q=1
  ·subst k1;obtain⟨j,rfl⟩:∃j:Nat,u=j:=⟨u.toNat,by omega⟩;have hj:j<5:=by omega
   have v:Hid (dJ x 0 0 l=sV ((m+1:Nat):Int) (dJ x (x j) 0 (l.drop (k+1)))):=by unfold Hid;rw[H.o,S,Io rfl,rE];simp
   have bp:∀X,(wr.alloc X).cell? ⟨w.1.size,j,none⟩=some (U (x j)):=λX=>((r X).o.2.1) j hj
   have j0:(0:Int)<=(j:Int):=by omega
   have j1:(j:Int)<5:=by omega
   clear S P z;generalize x j=xj at*;go_wp2;obtain⟨D,E,F⟩:=(r _).o;exact⟨⟨xj,k+1,m+1,q,p,A+4,rfl,by omega,by omega,by omega,by unfold Hid;rw[t.o];omega,rfl,by simp,by omega,v,D,E,F⟩,by simp⟩
  have R:Q=2\/Q=3:=by omega
  obtain⟨br,bs,bv,bx⟩:0<=V/\V<(y:Int)-1-k/\0<=W/\W<(y:Int)-1-k:=by
   rcases P with ⟨h,_⟩|⟨_,h⟩
   ·omega
   exact h
  obtain⟨f,rfl⟩:∃j:Nat,V=j:=⟨V.toNat,by omega⟩;obtain⟨g,rfl⟩:∃j:Nat,W=j:=⟨W.toNat,by omega⟩;have ub:f<=q:=by omega
  have uc:g<=q:=by omega
  have bz:(f:Int)<=((q+1:Nat):Int):=by omega
  have bF:(g:Int)<=((q+1:Nat):Int):=by omega
  have c4:¬(p+1=f):=by omega
  have c5:¬(p+1=g):=by omega
  have c6:(0:Int)<=(f:Int):=by omega
  have c7:(0:Int)<=(g:Int):=by omega
  have v:Hid (dJ x 0 0 l=sV ((m+1:Nat):Int) (dJ x n 0 (l.drop (k+1+iY n (Q,u,f,g))))):=by unfold Hid;rw[H.o,S,iO k1,Io R,rE];simp
  have fb:q+1-f=(q-f)+1/\p+1-f=(p-f)+1:=by omega
  have fc:q+1-g=(q-g)+1/\p+1-g=(p-g)+1:=by omega
  have Y:=Z fb;have FC:=Z fc;clear S P z fb fc
  rcases R with rfl|rfl
  ·by_cases G:n=u
   ·have d:iY n (2,u,f,g)=f:=by unfold iY;simp[G]
    rw[d] at v;clear d;subst G;go_wp2;obtain⟨D,E,F⟩:=(r _).o;exact⟨⟨n,k+1+f,m+1,q-f,p-f,A+4+f*4,by rw[Y.o.1,Y.o.2],by omega,by omega,by omega,by unfold Hid;rw[t.o];omega,rfl,by simp,by omega,v,D,E,F⟩,by simp;omega⟩
   have d:iY n (2,u,f,g)=g:=by unfold iY;simp[G]
   rw[d] at v;have hq:(n==u)=false:=by simpa using G
   clear d;go_wp2;obtain⟨D,E,F⟩:=(r _).o;exact⟨⟨n,k+1+g,m+1,q-g,p-g,A+4+g*4,by rw[FC.o.1,FC.o.2],by omega,by omega,by omega,by unfold Hid;rw[t.o];omega,rfl,by simp,by omega,v,D,E,F⟩,by simp;omega⟩
  by_cases G:n<u
  ·have d:iY n (3,u,f,g)=f:=by unfold iY;simp[G]
   rw[d] at v;have hq:decide (n<u)=true:=by simpa using G
   clear d;go_wp2;obtain⟨D,E,F⟩:=(r _).o;exact⟨⟨n,k+1+f,m+1,q-f,p-f,A+4+f*4,by rw[Y.o.1,Y.o.2],by omega,by omega,by omega,by unfold Hid;rw[t.o];omega,rfl,by simp,by omega,v,D,E,F⟩,by simp;omega⟩
  have d:iY n (3,u,f,g)=g:=by unfold iY;simp[G]
  rw[d] at v;have hq:decide (n<u)=false:=by simpa using G
  clear d;go_wp2;obtain⟨D,E,F⟩:=(r _).o;exact⟨⟨n,k+1+g,m+1,q-g,p-g,A+4+g*4,by rw[FC.o.1,FC.o.2],by omega,by omega,by omega,by unfold Hid;rw[t.o];omega,rfl,by simp,by omega,v,D,E,F⟩,by simp;omega⟩
theorem Ja{B w}{d:List aq}{b o:Nat}(h:∀i r,d[i]?=some r->gO B w b (o+i*2) r):∃c,lB B w c d/\∀j u,c[j]?=some u->w.cell? ⟨b,o+j,none⟩=some u:=by
 have e:∀j,j<d.length*2->∃v,w.cell? ⟨b,o+j,none⟩=some v/\v.oneCell'=true:=by
  intro j f;obtain⟨r,g⟩:∃r,d[j / 2]?=some r:=⟨d[j / 2]'(by omega),by simp⟩;obtain⟨l,m,n,_,p⟩:=h _ r g
  by_cases D:j % 2=0
  ·refine⟨l,?_,?_⟩
   ·rw[show o+j=o+j / 2*2 by omega];exact m
   obtain⟨a,y,rfl,_⟩:=p;rfl
  exact⟨_,by rw[show o+j=o+j / 2*2+1 by omega];exact n,rfl⟩
 obtain⟨c,z,k⟩:=iU _ _ e;refine⟨c,⟨z,λu A=>?_,λi r g=>?_⟩,λj u f=>(k j u f).1⟩
 ·have⟨j,f⟩:=LJ.1 A;exact(k j u f).2
 have E:i<d.length:=(K9.1 g).1;have⟨l,m,n,C,p⟩:=h i r g;obtain⟨F,q⟩:∃v,c[i*2]?=some v:=⟨c[i*2]'(by omega),by simp⟩;obtain⟨G,s⟩:∃v,c[i*2+1]?=some v:=⟨c[i*2+1]'(by omega),by simp⟩;have t:=(k _ _ q).1;have x:=(k _ _ s).1;rw[m] at t;rw[show o+(i*2+1)=o+i*2+1 by omega,n] at x
 cases t
 cases x;exact⟨l,q,s,C,p⟩
theorem rG{B L:Nat}{w:World}{v:Value}{xs:List Value}{f:List aq}(h:w.ownsRow L 131 2 v f.length xs)(p:lB B w xs f)(H:B<=w.1.size):bD w.1.size w v f:=by
 obtain⟨a,j,rfl,q,s,t⟩:=an h;refine⟨a,j,rfl,q,s,λi r n=>?_⟩;have I:i<f.length:=(K9.1 n).1;obtain⟨g,rfl,u,l⟩:=t (by omega);have⟨x,y,z,A,m⟩:=p.2.2 i r n;refine⟨g,0,rfl,l,x,?_,?_,A,?_⟩
 ·rw[Kp];exact aK h _ _ y
 ·rw[Kp];exact aK h _ _ z
 obtain⟨C,d,D,E,F,G⟩:=m;refine⟨C,d,D,E,F,λi c m=>?_⟩;have⟨b,o,e,J,k⟩:=G i c m;exact⟨b,o,e,by omega,k⟩
theorem EX(n:Nat)(w)(u:n*32<=140737488355328):
  cL 278 #[nL,U n] w λe q=>∃v,e=.returned v/\q.ownsRow w.1.size 131 2 v 0 []/\bL w q:=by
 have j:=ai
 by_cases r:n=0
 ·subst r;go_enter func278,ntmps278;go_wp2;go_ret;exact⟨_,rfl,⟨rfl,.inl ⟨rfl,rfl⟩⟩,Kf _ _⟩
 obtain⟨b,k,c,s,d⟩:=jY;have x:¬((n:Int)<0):=by omega
 have y:(n:Int)>0:=by omega
 have⟨G,i⟩:=nM (grownCap w n 0 131);have t:n<=G:=by rw[i];exact grownCap_ge w _ _ _
 have a:G<=maxLen:=by rw[i];exact Mm w n 0 _ (by omega)
 obtain⟨z,l⟩:∃z:Value,z=.agg #[nL,U 0]:=⟨_,rfl⟩;have m:z.cells.size=2:=by rw[l];rfl
 rw[<-l] at c
 have o:∀p,(Builtin.append_ #[28,3] p #[nL,U n]).run prog w=
   .ok (.slice (MZ w) n G) (w.drew.alloc (.cells ((Builtin.zeroCells z.cells n)++Builtin.zeroCells z.cells (G-n)) 131)):=λp=>by
  have h:=Ma w 28 3 p 131 b z .i64 .i64 Tryz.underlying28 Tryz.underlying3 k c none 0 0 [] (Lk w.drew b.size 0 0 0) n (by omega) (by omega) (by omega) (by omega)
   (by rw[d];omega)
   (by rw[Kp];exact MV (by omega) (by rw[d];omega))
  simpa [<-i] using h
 have f:Hid ((w.drew.alloc (.cells ((Builtin.zeroCells z.cells n)++Builtin.zeroCells z.cells (G-n)) 131)).ownsRow w.1.size 131 2 (.slice (MZ w) 0 G) 0 []):=by refine⟨rfl,.inr ⟨w.1.size,G,_,rfl,Ke _,(Kr w.drew _).1,Ks _,a,?_,by simp⟩⟩;rw[MX,M7,M7,m,<-Mi];congr 1;omega
 have g:Hid (bL w (w.drew.alloc (.cells ((Builtin.zeroCells z.cells n)++Builtin.zeroCells z.cells (G-n)) 131))):=bR.drew.alloc lE _;clear i l;rw[j] at a;generalize (Builtin.zeroCells z.cells n)++Builtin.zeroCells z.cells (G-n)=A at*;go_enter func278,ntmps278;go_wp2_with (at_builtin;refine Kw _ rfl _ _ _ _ rfl _ _ rfl rfl _ _ (o _) ?_);go_ret;exact⟨_,rfl,f.o,g.o⟩
def ju(B:Nat)(w:World)(v:Value)(d:List aq):Prop:=
 ∃a c,v=.slice a d.length c/\d.length<=c/\c<=maxLen/\∀i r,d[i]?=some r->∃b o,a=some ⟨b,o,none⟩/\gO B w b (o+i*2) r
theorem bD.conds{B w v rs}(h:bD B w v rs):ju B w v rs:=by obtain⟨a,c,d,f,g,j⟩:=h;refine⟨a,c,d,f,g,λi r l=>?_⟩;have⟨b,o,e,_,k⟩:=j i r l;exact⟨b,o,e,k⟩
theorem ju.l{B w w' v rs}(h:ju B w v rs)(c:bL w w')(j:B<=w.1.size):ju B w' v rs:=by obtain⟨a,d,k,l,m,n⟩:=h;refine⟨a,d,k,l,m,λi r q=>?_⟩;have⟨b,o,e,s,f,g,t,u⟩:=n i r q;exact⟨b,o,e,s,(c.cell (p:=⟨b,o+i*2,none⟩) (KE _ _ f)).trans f,(c.cell (p:=⟨b,o+i*2+1,none⟩) (KE _ _ g)).trans g,t,u.l c j⟩
theorem lD(B base:Nat)(N:TypeId)(v sv:Value)(n:Nat)(xs:List Value)(rs)(W:World)(d:W.ownsRow base 131 2 v n xs)(R:ju B W sv rs)(S:(n+rs.length)*32<=140737488355328)(f:base<=W.1.size):
  ∃C w x,(Builtin.append_ #[28,28] N #[v,sv]).run prog W=.ok C w/\w.ownsRow base 131 2 C (n+rs.length) (xs++x)/\lB B W x rs/\Below base W w:=by
 obtain⟨y,m,E,F,G⟩:=jY;obtain⟨a,z,rfl,T,V,p⟩:=R
 cases a with
 |none=>
  have X:rs=[]:=by
   cases rs with
   |nil=>rfl
   |cons r l=>have⟨b,o,e,_⟩:=p 0 r rfl;cases e
  subst X;refine⟨v,W,[],?_,by simpa using d,⟨rfl,λu H=>(by cases H),λi r q=>(by simp at q)⟩,Kf _ _⟩
  have Y:v=nL\/∃g c,v=.slice (some g) n c/\n<=c:=by
   rcases d.2 with ⟨h,_⟩|⟨g,c,I,h,_,_,h',_⟩
   ·exact .inl h
   exact .inr ⟨_,c,h,h'⟩
  have O:=Lk (P:=prog) W y.size 0 0 z
  rcases Y with rfl|⟨g,c,rfl,J⟩
  ·simp[Builtin.append_,KY Tryz.underlying28,sizeOf,typeInfo,m,Builtin.lenOf,O]
  simp[Builtin.append_,KY Tryz.underlying28,sizeOf,typeInfo,m,Builtin.lenOf,O,J,storeCells]
 |some Q=>
  obtain⟨x,s,t⟩:∃xs,lB B W xs rs/\∀j u,xs[j]?=some u->W.cell? (Q.add j)=some u:=by
   by_cases A:rs=[]
   ·subst A;exact⟨[],⟨rfl,λu H=>(by cases H),λi r q=>(by simp at q)⟩,λj u K=>(by simp at K)⟩
   obtain⟨r,q⟩:∃r,rs[0]?=some r:=by
    cases rs with
    |nil=>exact absurd rfl A
    |cons r l=>exact⟨r,rfl⟩
   have⟨b,o,e,_⟩:=p 0 r q
   cases e
   obtain⟨xs,L,M⟩:=Ja (b:=b) (o:=o) λi r q=>by
    have⟨b',o',e,k⟩:=p i r q
    cases e;exact k
   exact⟨xs,L,λj u K=>by rw[eM];exact M j u K⟩
  obtain⟨C,w,L,M,h3,h4⟩:=LB (P:=prog) W base 28 N 131 y _ 2 32 Tryz.underlying28 m E F G rfl (by decide) v n xs d Q rs.length z x s.1 t s.2.1 (by rw[ai];omega) S f;refine⟨C,w,x,L,M,s,bR.grown h3 f λk D=>?_⟩
  rcases d.2 with ⟨h,_⟩|⟨g,c,I,h,hg,_⟩
  ·rw[h] at D;simp[Value.ownBlock] at D
  rw[h] at D;simp[Value.ownBlock] at D;omega
theorem ju.shapeR{B w v rs}(h:ju B w v rs):∃a b,v=.slice a rs.length b/\rs.length<=b:=by obtain⟨a,b,rfl,h,_⟩:=h;exact⟨a,b,rfl,h⟩
theorem Bz(B v0 v1 r0 r1)(bs:Nat)(w)(N:ju B w v0 r0)(t:ju B w v1 r1)(M:B<=w.1.size)(A:bs<w.1.size)(C:w.cell? (pA bs 0)=some v0)(D:w.cell? (pA bs 1)=some v1)(hn:(r0.length+r1.length)*32<=140737488355328):
  cL 274 #[.slice (sO bs) 2 2] w λe f=>∃v,e=.returned v/\∃l,f.ownsRow w.1.size 131 2 v (r0++r1).length l/\lB B f l (r0++r1)/\bL w f:=by
 have H0:=Z N;have H1:=Z t;obtain⟨a0,E,O,X⟩:=N.shapeR;obtain⟨a1,F,P,Y⟩:=t.shapeR;have E0:=Z O;have E1:=Z P;rw[O] at C;rw[P] at D
 have HC:Hid (∀f,bL w f->f.cell? (pA bs 0)=some (.slice a0 r0.length E)/\f.cell? (pA bs 1)=some (.slice a1 r1.length F)):=λf h=>⟨(h.cell (p:=pA bs 0) A).trans C,(h.cell (p:=pA bs 1) A).trans D⟩
 clear O P N t
 have ad:∀k:Nat,k<=2->Hid ((([r0,r1].take k).flatten).length<=r0.length+r1.length):=λk hk=>by
  have m:k=0\/k=1\/k=2:=by omega
  rcases m with rfl|rfl|rfl<;>(unfold Hid;simp)
 generalize G:r0.length=q at*;generalize H:r1.length=s at*;have I:=Z G;have Q:=Z H;clear G H;go_enter func274,ntmps274;go_wp2;go_loop [3,11] (λsz i=>∃k:Nat,k<=2/\i=U k/\sz=U (if k=0 then 0 else if k=1 then (q:Int) else ((q:Int)+s))) (λ_ i=>2-(intOf i).toNat)
 case atStart=>exact⟨0,by omega,rfl,rfl⟩
 case round=>
  obtain⟨k,hk,rfl,rfl⟩:=hrel;have m:k=0\/k=1\/k=2:=by omega
  rcases m with rfl|rfl|rfl
  ·go_wp2;exact⟨⟨1,by omega,rfl,by simp⟩,by simp[intOf]⟩
  ·have a3:¬((q:Int)+(s:Int)<0):=by omega
   have af:wrap64 ((q:Int)+(s:Int))=(q:Int)+s:=by unfold wrap64;omega
   go_wp2;exact⟨⟨2,by omega,rfl,by simp⟩,by simp[intOf]⟩
  have hG:Hid (∀f,cL 278 #[nL,U ((q:Int)+s)] f λe J=>∃v,e=.returned v/\J.ownsRow f.1.size 131 2 v 0 []/\bL f J):=λf=>by have:=EX (q+s) f hn;rw[show ((q+s:Nat):Int)=(q:Int)+s by omega] at this;exact this
  go_wp2_with fail;go_at_call 278;refine(hG.o _).mono ?_;rintro e w1 ⟨v,rfl,n,R⟩;have HO:=Z n;clear n;go_wp2_with fail;go_loopw [6,27] (λnv i wr=>∃ (k:Nat) (l:List Value),k<=2/\i=U k/\Hid (wr.ownsRow w.1.size 131 2 nv (([r0,r1].take k).flatten).length l)/\Hid (lB B wr l ([r0,r1].take k).flatten)/\bL w wr) (λ_ i _=>2-(intOf i).toNat)
  case atStart=>exact⟨0,[],by omega,rfl,HO,⟨rfl,λu hu=>(by cases hu),λi r hr=>(by simp at hr)⟩,R⟩
  case round=>
   obtain⟨k,l,hk,rfl,g,j,c⟩:=hrel;obtain⟨c0,c1⟩:=HC.o _ c;have m:k=0\/k=1\/k=2:=by omega
   rcases m with rfl|rfl|rfl
   ·obtain⟨S,K,L,d,a,o,b⟩:=lD B w.1.size 28 _ _ 0 l r0 wr g.o (H0.o.l c M) (by rw[I.o];omega) c.size;rw[E0.o] at d
    have x:Hid (K.ownsRow w.1.size 131 2 S (([r0,r1].take 1).flatten).length (l++L)):=by
     unfold Hid;have e:(([r0,r1].take 1).flatten).length=0+r0.length:=by simp
     rw[e];exact a
    have y:Hid (lB B K (l++L) ([r0,r1].take 1).flatten):=by
     have:=(j.o.append o).l b M;unfold Hid
     simpa using this
    have z:=c.trans b;clear a o b g j;go_wp2_with (at_builtin;refine Kw _ rfl _ _ _ _ rfl _ _ rfl rfl _ _ d ?_);exact⟨⟨1,_,by omega,rfl,x,y,z⟩,by simp[intOf]⟩
   ·obtain⟨S,K,L,d,a,o,b⟩:=lD B w.1.size 28 _ _ r0.length l r1 wr (by have:=g.o;simpa using this) (H1.o.l c M) (by rw[I.o,Q.o];omega) c.size;rw[E1.o] at d
    have x:Hid (K.ownsRow w.1.size 131 2 S (([r0,r1].take 2).flatten).length (l++L)):=by
     unfold Hid;have e:(([r0,r1].take 2).flatten).length=r0.length+r1.length:=by simp
     rw[e];exact a
    have y:Hid (lB B K (l++L) ([r0,r1].take 2).flatten):=by
     have:=(j.o.append o).l b M;unfold Hid
     simpa using this
    have z:=c.trans b;clear a o b g j;go_wp2_with (at_builtin;refine Kw _ rfl _ _ _ _ rfl _ _ rfl rfl _ _ d ?_);exact⟨⟨2,_,by omega,rfl,x,y,z⟩,by simp[intOf]⟩
   have t:=g.o;have T:=j.o;have e:([r0,r1].take 2).flatten=r0++r1:=by simp
   rw[e] at t T;have V:Hid _:=t;have W:Hid _:=T;clear g j t T e;go_wp2;go_ret;exact⟨_,rfl,_,V.o,W.o,c⟩
