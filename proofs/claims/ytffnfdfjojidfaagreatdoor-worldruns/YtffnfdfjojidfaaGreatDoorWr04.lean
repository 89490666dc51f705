import Derived.Test.YtffnfdfjojidfaaGreatDoorWr02
import Derived.Test.YtffnfdfjojidfaaGreatDoorWr03
set_option linter.all false
set_option maxRecDepth 100000
set_option maxHeartbeats 2000000
namespace Go.Proofs.YtffnfdfjojidfaaGreatDoor
open Go.RowKit Go.Maps Go.Proofs.Tryz
theorem qr:∀ (cs:List aN) (i:Nat) (c:aN),cs[i]?=some c->(dP cs)[i*3]?=some (U c.1)/\(dP cs)[i*3+1]?=some (U c.2.1)/\(dP cs)[i*3+2]?=some (U c.2.2)
 |[],_,_,h=>by simp at h
 |a :: r,0,c,h=>by simp at h;subst h;simp[dP]
 |a :: r,i+1,c,h=>by
  have b:=qr r i c (by simpa using h);have e:dP (a :: r)=U a.1 :: U a.2.1 :: U a.2.2 :: dP r:=rfl;rw[e];refine⟨?_,?_,?_⟩
  ·rw[show (i+1)*3=i*3+1+1+1 by omega];simpa using b.1
  ·rw[show (i+1)*3+1=i*3+1+1+1+1 by omega];simpa using b.2.1
  rw[show (i+1)*3+2=i*3+2+1+1+1 by omega];simpa using b.2.2
theorem cH.get{B w}:∀ (a:List aq) (xs:List Value) (i:Nat) (r:aq),cH B w a xs->a[i]?=some r->∃b,xs[i*2]?=some b/\xs[i*2+1]?=some (U r.2)/\w.ownsRow B 136 3 b r.1.length (dP r.1)
 |[],_,_,_,_,h=>by simp at h
 |j :: a,xs,0,r,h,c=>by obtain⟨b,e,rfl,f,g⟩:=h;simp at c;subst c;exact⟨b,rfl,rfl,f⟩
 |j :: a,xs,i+1,r,h,c=>by
  obtain⟨b,e,rfl,f,g⟩:=h;have⟨d,k,l,m⟩:=cH.get a e i r g (by simpa using c);refine⟨d,?_,?_,m⟩
  ·rw[show (i+1)*2=i*2+1+1 by omega];simpa using k
  rw[show (i+1)*2+1=i*2+1+1+1 by omega];simpa using l
def bE(L:Nat)(w:World)(b:Value)(p:aD):Prop:=∀a:World,(∀g,L<=g->g<w.1.size->a.1[g]?=w.1[g]?)->w.1.size<=a.1.size->aX a.1.size a b p
theorem bE.at{L w pv p}(h:bE L w pv p):aX w.1.size w pv p:=h w (λ_ _ _=>rfl) lE
theorem bE.keep{L a:Nat}{w w':World}{pv p}(h:bE L w pv p)(i:a<=L)(b:∀g,L<=g->g<w.1.size->w'.1[g]?=w.1[g]?)(j:w.1.size<=w'.1.size):bE a w' pv p:=
 λc d k=>h c (λg e f=>(d g (by omega) (by omega)).trans (b g e f)) (by omega)
theorem bE.l{L a:Nat}{w w' pv p}(h:bE L w pv p)(c:a<=L)(b:bL w w'):bE a w' pv p:=h.keep c (λg _ d=>b.block g d) b.size
theorem bE.put{L w pv p}{b o:Nat}{u:Value}(h:bE L w pv p)(a:b<L\/w.1.size<=b):bE L (w.setCell ⟨b,o,none⟩ u) pv p:=h.keep lE (λg c d=>Kc _ _ _ _ (by show g≠b;omega)) (by simp)
def DL:Value->Nat
 |.string s=>s.size
 |_=>0
def Jv(w W:World)(b c d e a:Nat):Prop:=
 Below b w W/\W.1[b]?=some (.cells #[nL,U 0] 30 (0,0))/\
 W.ownsMap prog 9 (plainElem prog 3) c 5 D1/\W.ownsMap prog 9 (plainElem prog 3) d 5 D2/\W.ownsMap prog 5 (plainElem prog 3) e 4 D3/\
 W.1[a]?=some (.cells #[nL,U 0] 30 (0,0))/\b=w.1.size/\b<a/\c<a/\d<a/\e<a/\a<W.1.size
abbrev az:=Int × Int × Int × aD
def Gk:DecidableEq aD:=λp q=>inferInstance
instance decRec:DecidableEq az:=@instDecidableEqProd _ _ inferInstance (@instDecidableEqProd _ _ inferInstance (@instDecidableEqProd _ _ inferInstance Gk))
def aZ(r:az):Int:=
 if r.1<1\/4<r.1 then 4
 else if (r.2.1<0\/3<r.2.1)\/(r.2.2.1<0\/3<r.2.2.1) then 3
 else if (0<r.2.2.1/\r.1≠3)\/(¬(r.1=1\/r.1=2)/\¬(r.2.2.2.2=0/\r.2.2.2.1=[])) then 4
 else if r.1=1\/r.1=2 then aj r.2.2.2 else 0
def cu:az:=(0,0,0,[],0)
theorem iB{r:az}(h:aZ r=0):(1<=r.1/\r.1<=4)/\(0<=r.2.1/\r.2.1<=3)/\(0<=r.2.2.1/\r.2.2.1<=3)/\(r.1=3\/r.2.2.1=0)/\((r.1=1\/r.1=2)/\aj r.2.2.2=0\/(r.1=3\/r.1=4)/\r.2.2.2=([],0)):=by
 unfold aZ at h
 split at h
 ·cases h
 rename_i j
 split at h
 ·cases h
 rename_i l
 split at h
 ·cases h
 rename_i g;have m:r.1=1\/r.1=2\/r.1=3\/r.1=4:=by omega
 have i:¬(0<r.2.2.1/\r.1≠3):=λe=>g (.inl e)
 refine⟨by omega,by omega,by omega,by omega,?_⟩
 by_cases a:r.1=1\/r.1=2
 ·rw[Io a] at h;exact .inl ⟨a,h⟩
 refine .inr ⟨by omega,?_⟩;have b:r.2.2.2.2=0/\r.2.2.2.1=[]:=by apply L8;intro e;exact g (.inr ⟨a,e⟩)
 obtain⟨k,c,f,n,d⟩:=r;simp only at b;rw[b.1,b.2]
theorem bV(B w):aX B w (.agg #[nL,U 0]) ([],0):=
 ⟨_,rfl,by unfold wf;decide,none,0,rfl,Ke _,Ks _,λi r h=>by simp at h⟩
def d7(v:Int):Bs:=vN.getD v.toNat []
def fK(f:Int):Bs:=fN.getD f.toNat []
def gl(o:Int):UInt8:=fU.getD (o-1).toNat 0
def cq(c:aN):Bs:=32 :: (fK c.1++(gl c.2.1 :: Lib.itoa c.2.2))
def ct(r:aq):Bs:=d7 r.2++r.1.flatMap cq++[59]
def cW(p:aD):Bs:=p.1.flatMap ct++d7 p.2
theorem jS:∀u:Nat,(Lib.decDigits u).length<=u+1:=by
 intro u
 induction u using Nat.strongRecOn with
 |_ u a=>
  rw[Lib.decDigits]
  split
  ·simp
  rename_i h;have:=a (u / 10) (by omega);simp;omega
theorem jM(v):(d7 v).length<=5:=by
 unfold d7;generalize v.toNat=k
 match k with
 |0=>decide
 |1=>decide
 |2=>decide
 |3=>decide
 |4=>decide
 |k+5=>simp[vN]
theorem t9(v):(fK v).length<=4:=by
 unfold fK;generalize v.toNat=k
 match k with
 |0=>decide
 |1=>decide
 |2=>decide
 |3=>decide
 |4=>decide
 |k+5=>simp[fN]
theorem lT{c:aN}(h:bS c=0):(0<=c.1/\c.1<5)/\(1<=c.2.1/\c.2.1<=4)/\(0<=c.2.2/\c.2.2<=65535):=by
 unfold bS at h
 split at h
 ·cases h
 split at h
 ·cases h
 split at h
 ·cases h
 have:=nq c.1;omega
theorem zI{c:aN}(h:bS c=0):(cq c).length<=70000:=by
 have⟨_,_,a⟩:=lT h;have b:=t9 c.1;have d:(Lib.itoa c.2.2).length<=65536:=by unfold Lib.itoa;rw[iO (by omega)];have:=jS c.2.2.toNat;omega
 unfold cq;simp;omega
theorem jQ:∀ (cs:List aN),(∀c∈cs,bS c=0)->(cs.flatMap cq).length<=cs.length*70000
 |[],_=>by simp
 |c :: r,h=>by
  have:=jQ r λd a=>h d (by simp[a])
  have:=zI (h c (by simp));simp only[KQ,Kj,Kv];omega
theorem qw:∀ (cs:List aN),eW cs=0->∀c∈cs,bS c=0
 |[],_,c,h=>by cases h
 |d :: r,h,c,b=>by
  unfold eW at h
  by_cases a:bS d=0
  ·rw[Io a] at h
   rcases Kz.1 b with rfl|b
   ·exact a
   exact qw r h c b
  rw[iO a] at h;exact absurd h a
theorem lV{r:aq}(h:bH r=0):r.1.length<=10/\(0<=r.2/\r.2<=4)/\∀c∈r.1,bS c=0:=by
 unfold bH at h
 split at h
 ·cases h
 split at h
 ·rename_i a;unfold cA at a;simp at a;exact⟨by omega,a,qw _ h⟩
 cases h
theorem qh:∀ (e:List aq),eE e=0->∀r∈e,bH r=0
 |[],_,c,h=>by cases h
 |d :: r,h,c,b=>by
  unfold eE at h
  by_cases a:bH d=0
  ·rw[Io a] at h
   rcases Kz.1 b with rfl|b
   ·exact a
   exact qh r h c b
  rw[iO a] at h;exact absurd h a
theorem jF{p:aD}(h:aj p=0):p.1.length<=120/\(0<=p.2/\p.2<=4)/\∀r∈p.1,bH r=0:=by
 unfold aj at h
 split at h
 ·cases h
 split at h
 ·rename_i a;unfold cA at a;simp at a;exact⟨by omega,a,qh _ h⟩
 cases h
theorem zW{r:aq}(h:bH r=0):(ct r).length<=800000:=by have⟨b,_,a⟩:=lV h;have:=jQ r.1 a;have:=jM r.2;unfold ct;simp only[Kj,Kv,Lf];omega
theorem iT:∀ (a:List aq),(∀r∈a,bH r=0)->(a.flatMap ct).length<=a.length*800000
 |[],_=>by simp
 |c :: r,h=>by
  have:=iT r λd b=>h d (by simp[b])
  have:=zW (h c (by simp));simp only[KQ,Kj,Kv];omega
def iy(a b c m:Int):Int:=if b≠0\/c≠0 then 4 else if a<0\/m<a then 3 else 0
def iw(a b c m:Int):Int:=if a<0\/65535<a then 3 else if b<0\/m<=b\/c<0\/m<=c then 5 else 0
theorem yq(k a b c m w):
  cL 130 #[.agg #[U k,U a,U b,U c],U m] w (rT w (U (iy a b c m))):=by
 have d:∀x,bL w (w.alloc x):=λx=>bR.alloc lE _
 by_cases f:b≠0\/c≠0
 ·have e:=Z (by rw[iy,Io f]:iy a b c m=4)
  by_cases h:b=0
  ·have j:c≠0:=by omega
   have g:(b != 0)=false:=by simpa using h
   have l:(c != 0)=true:=by simpa using j
   clear f;go_enter func130,ntmps130;go_wp2
   all_goals
    go_ret;exact⟨by rw[e.o];rfl,d _⟩
  have g:(b != 0)=true:=by simpa using h
  clear f;go_enter func130,ntmps130;go_wp2
  all_goals
   go_ret;exact⟨by rw[e.o];rfl,d _⟩
 obtain⟨rfl,rfl⟩:b=0/\c=0:=by omega
 by_cases i:a<0\/m<a
 ·have e:=Z (by rw[iy,iO f,Io i]:iy a 0 0 m=3);go_enter func130,ntmps130;go_wp2
  all_goals
   go_ret;exact⟨by rw[e.o];rfl,d _⟩
 have e:=Z (by rw[iy,iO f,iO i]:iy a 0 0 m=0);go_enter func130,ntmps130;go_wp2
 all_goals
  go_ret;exact⟨by rw[e.o];rfl,d _⟩
theorem xY(k a b c m w):
  cL 131 #[.agg #[U k,U a,U b,U c],U m] w (rT w (U (iw a b c m))):=by
 have d:∀x,bL w (w.alloc x):=λx=>bR.alloc lE _
 by_cases g:a<0\/65535<a
 ·have e:=Z (by rw[iw,Io g]:iw a b c m=3);go_enter func131,ntmps131;go_wp2
  all_goals
   go_ret;exact⟨by rw[e.o];rfl,d _⟩
 by_cases f:b<0\/m<=b\/c<0\/m<=c
 ·have e:=Z (by rw[iw,iO g,Io f]:iw a b c m=5);have h:¬a<0:=by omega
  have i:¬65535<a:=by omega
  clear g
  by_cases j:b<0
  ·clear f;go_enter func131,ntmps131;go_wp2
   all_goals
    go_ret;exact⟨by rw[e.o];rfl,d _⟩
  by_cases l:m<=b
  ·clear f;go_enter func131,ntmps131;go_wp2
   all_goals
    go_ret;exact⟨by rw[e.o];rfl,d _⟩
  by_cases n:c<0
  ·clear f;go_enter func131,ntmps131;go_wp2
   all_goals
    go_ret;exact⟨by rw[e.o];rfl,d _⟩
  have o:m<=c:=by omega
  clear f;go_enter func131,ntmps131;go_wp2
  all_goals
   go_ret;exact⟨by rw[e.o];rfl,d _⟩
 have e:=Z (by rw[iw,iO g,iO f]:iw a b c m=0);have h:¬a<0:=by omega
 have i:¬65535<a:=by omega
 have j:¬b<0:=by omega
 have l:¬m<=b:=by omega
 have n:¬c<0:=by omega
 have o:¬m<=c:=by omega
 clear g f;go_enter func131,ntmps131;go_wp2
 all_goals
  go_ret;exact⟨by rw[e.o];rfl,d _⟩
theorem rZ(k a b c m:Int)(h:k=1\/k=4):d8 (k,a,b,c) m=iy a b c 4:=by unfold d8;rw[Io h];rfl
theorem uj(k a b c m:Int)(h:k=2\/k=3):d8 (k,a,b,c) m=iw a b c m:=by unfold d8;rw[iO (by simp only[];omega),Io h];rfl
theorem zJ(k a b c m w):
  cL 104 #[.agg #[U k,U a,U b,U c],U m] w (rT w (U (d8 (k,a,b,c) m))):=by
 have d:∀x,bL w (w.alloc x):=λx=>bR.alloc lE _
 by_cases g:k=1\/k=4
 ·have h:=Z (rZ k a b c m g)
  rcases g with rfl|rfl
  all_goals
   go_enter func104,ntmps104;go_wp2_with (first|(go_at_call 130;go_must (refine(yq _ _ _ _ _ _).mono ?_;rintro e j ⟨rfl,f⟩)));go_ret;exact⟨by rw[h.o];rfl,Below.tO (d _) f (by simp)⟩
 by_cases i:k=2\/k=3
 ·have h:=Z (uj k a b c m i);clear g
  rcases i with rfl|rfl
  all_goals
   go_enter func104,ntmps104;go_wp2_with (first|(go_at_call 131;go_must (refine(xY _ _ _ _ _ _).mono ?_;rintro e j ⟨rfl,f⟩)));go_ret;exact⟨by rw[h.o];rfl,Below.tO (d _) f (by simp)⟩
 have h:Hid (d8 (k,a,b,c) m=4):=by unfold Hid d8;rw[iO g,iO i]
 have l:(k==1)=false:=by simp;omega
 have n:(k==2)=false:=by simp;omega
 have o:(k==3)=false:=by simp;omega
 have p:(k==4)=false:=by simp;omega
 clear g i;go_enter func104,ntmps104;go_wp2;go_ret;exact⟨by rw[h.o];rfl,d _⟩
theorem lH(k a b c h w):
  cL 105 #[.agg #[U k,U a,U b,U c],.bool h] w (rT w (U (if h=true then b else c))):=by
 have d:∀x,bL w (w.alloc x):=λx=>bR.alloc lE _
 cases h
 all_goals
  go_enter func105,ntmps105;go_wp2;go_ret;exact⟨rfl,d _⟩
theorem qF(B cv l w)(M:dR B w cv l)(hB:B<=w.1.size):
  cL 74 #[cv] w (rT w (U (aV l))):=by
 obtain⟨a,N,rfl,O,P,r⟩:=M;have g:=Z r;clear r;have K:Hid ((l.length<1\/1500<l.length)->aV l=2):=by intro h;rw[aV,Io h]
 have L:Hid (¬(l.length<1\/1500<l.length)->aV l=if bK l=0 then (if eS l=4 then 0 else 4) else bK l):=by intro h;rw[aV,iO h]
 have Q:=Z (lS l);have R:=Z (rH l);generalize hn:l.length=n at*;have T:=ai
 by_cases s:n<1\/1500<n
 ·have j:=Z (K.o s)
  by_cases h1:n<1
  ·obtain rfl:n=0:=by omega
   clear s;go_enter func74,ntmps74;go_wp2;go_ret;exact⟨by rw[j.o];rfl,Kf _ _⟩
  have V:¬((n:Int)<1):=by omega
  have W:(1500:Int)<(n:Int):=by omega
  clear s;go_enter func74,ntmps74;go_wp2;go_ret;exact⟨by rw[j.o];rfl,Kf _ _⟩
 have j:=Z (L.o s);have V:¬((n:Int)<1):=by omega
 have W:¬((1500:Int)<(n:Int)):=by omega
 have i3:IntKind.i64.wrap ((n:Int)-1)=(n:Int)-1:=KA _ (by omega);have X:1<=n/\n<=1500:=by omega
 clear s K L;go_enter func74,ntmps74;go_wp2;go_loopw [20] (λi wr=>∃k:Nat,k<=n/\i=U k/\Hid (bK l=bK (l.drop k))/\bL w wr) (λi _=>n-(intOf i).toNat)
 case atStart=>exact⟨0,by omega,rfl,rfl,Kf _ _⟩
 case round=>
  obtain⟨k,hk,rfl,H,d⟩:=hrel;have i0:(0:Int)<=(k:Int):=by omega
  by_cases Y:k<n
  ·have i4:(k:Int)<(n:Int):=by omega
   have i5:IntKind.i64.wrap ((n:Int)-1-k)=(n:Int)-1-k:=KA _ (by omega);obtain⟨c,f⟩:∃c,l[k]?=some c:=⟨l[k]'(by omega),by simp⟩;obtain⟨b,o,rfl,D,m⟩:=g.o k c f;have S:=Z (R.o k c f);obtain⟨t,u,v,x⟩:=c;have⟨E,F,c2,c3,_⟩:=m.l d (by omega);simp only[] at E F c2 c3;go_wp2_with (first|(go_at_call 104;go_must (refine(zJ _ _ _ _ _ _).mono ?_;rintro e w' ⟨rfl,G⟩)))
   all_goals have y:bL w w':=Below.tO (d.alloc d.size _) G (by simp;have:=d.size;omega)
   ·have z:d8 (t,u,v,x) ((n:Int)-1-k)≠0:=by simpa using (by assumption:(d8 (t,u,v,x) ((n:Int)-1-k) != 0)=true)
    have C:bK l=d8 (t,u,v,x) ((n:Int)-1-k):=by rw[H.o,S.o,iO z]
    go_ret;exact⟨by rw[j.o,C,iO z];rfl,y⟩
   have he:d8 (t,u,v,x) ((n:Int)-1-k)=0:=by simpa using (by assumption:(d8 (t,u,v,x) ((n:Int)-1-k) != 0)=false)
   exact⟨⟨k+1,by omega,by go_num,by unfold Hid;rw[H.o,S.o,Io he],y⟩,by simp[intOf];omega⟩
  have C:=Z (by rw[H.o,KJ (by omega)];rfl:bK l=0);obtain⟨c,f⟩:∃c,l[n-1]?=some c:=⟨l[n-1]'(by omega),by simp⟩;obtain⟨b,o,rfl,D,m⟩:=g.o (n-1) c f;have A:=Z (Q.o c f);have⟨E,_⟩:=m.l d (by omega);obtain⟨q,rfl⟩:∃q:Nat,n=q+1:=⟨n-1,by omega⟩;simp only[M8] at E;have e0:(((q+1:Nat):Int)-1)=(q:Int):=by omega
  by_cases p:c.1=4
  ·have I:(c.1 != 4)=false:=by simpa using p
   have J:=Z (by rw[j.o,Io C.o,A.o,Io p]:aV l=0);generalize c.1=F at*;clear p j;go_wp2;go_ret;exact⟨by rw[J.o];rfl,d⟩
  have I:(c.1 != 4)=true:=by simpa using p
  have J:=Z (by rw[j.o,Io C.o,A.o,iO p]:aV l=4);generalize c.1=F at*;clear p j;go_wp2;go_ret;exact⟨by rw[J.o];rfl,d⟩
