import Derived.Test.YtffnfdfjojidfaaGreatDoorWr09
import Derived.Test.YtffnfdfjojidfaaGreatDoorWr08
set_option linter.all false
set_option maxRecDepth 100000
set_option maxHeartbeats 4000000
namespace Go.Proofs.YtffnfdfjojidfaaGreatDoor
open Go.RowKit Go.Maps Go.Proofs.Tryz
def vf(B:Nat)(w:World)(b o:Nat)(r:az):Prop:=
 ∃a,w.cell? ⟨b,o,none⟩=some (U r.1)/\w.cell? ⟨b,o+1,none⟩=some (U r.2.1)/\w.cell? ⟨b,o+2,none⟩=some (U r.2.2.1)/\w.cell? ⟨b,o+3,none⟩=some a/\w.cell? ⟨b,o+4,none⟩=some (U r.2.2.2.2)/\
  cI B w (.agg #[U r.1,U r.2.1,U r.2.2.1,a,U r.2.2.2.2]) r
def dh(B:Nat)(w:World)(v:Value)(d:List az):Prop:=
 ∃a c,v=.slice a d.length c/\d.length<=c/\c<=maxLen/\∀i r,d[i]?=some r->∃b o,a=some ⟨b,o,none⟩/\b<B/\vf B w b (o+i*5) r
theorem vf.l{B B' w w' b o r}(h:vf B w b o r)(c:Below B' w w')(d:B<=B')(m:b<B):vf B w' b o r:=by
 obtain⟨e,f,g,i,j,k,l⟩:=h;have a:b<B':=by omega
 exact⟨e,(c.cell (p:=⟨b,o,none⟩) a).trans f,(c.cell (p:=⟨b,o+1,none⟩) a).trans g,(c.cell (p:=⟨b,o+2,none⟩) a).trans i,(c.cell (p:=⟨b,o+3,none⟩) a).trans j,(c.cell (p:=⟨b,o+4,none⟩) a).trans k,l.l c d⟩
theorem dh.l{B B' w w' v rs}(h:dh B w v rs)(g:Below B' w w')(j:B<=B'):dh B w' v rs:=by obtain⟨a,d,l,m,n,p⟩:=h;refine⟨a,d,l,m,n,λi c q=>?_⟩;have⟨b,o,e,f,k⟩:=p i c q;exact⟨b,o,e,f,k.l g j f⟩
theorem iW{B k:Nat}{w v r}(h:cI B w v r)(Q:B<=k):cI k w v r:=by obtain⟨l,m,n,p,q,f,e,s,a,g,t,u,x,y⟩:=h;refine⟨l,m,n,p,q,f,e,s,a,g,t,u,x,λi r z=>?_⟩;have⟨b,o,A,R,C,D,E,F,G,d,H,I,J,K⟩:=y i r z;refine⟨b,o,A,by omega,C,D,E,F,G,d,H,I,J,λj c L=>?_⟩;have⟨M,N,O,S,P⟩:=K j c L;exact⟨M,N,O,by omega,P⟩
theorem dh.wide{B d:Nat}{w v rs}(h:dh B w v rs)(f:B<=d):dh d w v rs:=by obtain⟨a,c,g,j,k,l⟩:=h;refine⟨a,c,g,j,k,λi r m=>?_⟩;have⟨b,o,e,n,p,q,s,t,u,x,y⟩:=l i r m;exact⟨b,o,e,Kd n f,p,q,s,t,u,x,iW y f⟩
theorem bG.mono{B f:Nat}{w v cs}(h:bG B w v cs)(p:B<=f):bG f w v cs:=by obtain⟨a,d,g,j,l,m⟩:=h;refine⟨a,d,g,j,l,λi c n=>?_⟩;have⟨b,o,e,q,k⟩:=m i c n;exact⟨b,o,e,by omega,k⟩
theorem bD.mono{B f:Nat}{w v rs}(h:bD B w v rs)(g:B<=f):bD f w v rs:=by obtain⟨a,d,j,k,l,m⟩:=h;refine⟨a,d,j,k,l,λi c n=>?_⟩;have⟨b,o,e,u,p,q,r,s,t⟩:=m i c n;exact⟨b,o,e,by omega,p,q,r,s,t.mono g⟩
theorem wJ{B:Nat}{w:World}{rv sv}{p q:aD}(e:B<=w.1.size)(g:bD B w rv p.1)(c:wf p.2)(h:bD B w sv q.1)(d:wf q.2)(T):
  iH (w.1.size+1) (w.alloc (.cells #[rv,U p.2,sv,U q.2] T)) (.slice (sO w.1.size) 2 2) [p,q]:=by
 have f:bL w (w.alloc (.cells #[rv,U p.2,sv,U q.2] T)):=bR.alloc lE _;have b:=ah w (.cells #[rv,U p.2,sv,U q.2] T);refine⟨some (pW w 0),2,rfl,Ke _,by rw[ai];omega,λi r a=>⟨w.1.size,0,rfl,by omega,?_⟩⟩
 match i,a with
 |0,a=>
  simp at a;subst a;exact⟨rv,J0 b,J1 b,c,(g.l f e).mono (by omega)⟩
 |1,a=>
  simp at a;subst a;exact⟨sv,J2 b,J3 b,d,(h.l f e).mono (by omega)⟩
 |i+2,a=>simp at a
theorem AT{B:Nat}{w:World}{rv}{p:aD}(d:B<=w.1.size)(e:bD B w rv p.1)(b:wf p.2)(T):
  iH (w.1.size+1) (w.alloc (.cells #[rv,U p.2] T)) (.slice (sO w.1.size) 1 1) [p]:=by
 have f:bL w (w.alloc (.cells #[rv,U p.2] T)):=bR.alloc lE _;have c:=ah w (.cells #[rv,U p.2] T);refine⟨some (pW w 0),1,rfl,Ke _,by rw[ai];omega,λi r a=>⟨w.1.size,0,rfl,by omega,?_⟩⟩
 match i,a with
 |0,a=>
  simp at a;subst a;exact⟨rv,J0 c,J1 c,b,(e.l f d).mono (by omega)⟩
 |i+1,a=>simp at a
def ox(c:aN)(left:Int):cO:=if c.2.1=1 then (2,c.2.2,0,left) else if c.2.1=2 then (2,c.2.2,left,0) else if c.2.1=3 then (3,c.2.2,0,left) else (3,c.2.2,left,0)
def dA:List aN->List cO
 |[]=>[]
 |c :: r=>(1,c.1,0,0) :: ox c (2*(r.length:Int)+1) :: dA r
def jt(r:aq):List cO:=dA r.1++[(4,r.2,0,0)]
def dV(a:List aq):List cO:=a.flatMap jt
def cm(p:aD):List cO:=dV p.1++[(4,p.2,0,0)]
theorem iM:∀a:List aN,(dA a).length=2*a.length
 |[]=>rfl
 |c :: r=>by rw[dA];simp[iM r];omega
theorem nO(r):(jt r).length=2*r.1.length+1:=by rw[jt];simp[iM]
theorem oC(r:aq)(s:List aq):dV (r :: s)=jt r++dV s:=by simp[dV]
theorem IC(p:aD):cm p≠[]:=by unfold cm;simp
theorem qo:∀ (l:List cO) (c:cO),eS (l++[c])=c.1
 |[],c=>rfl
 |[d],c=>rfl
 |d :: e :: r,c=>by show eS (d :: e :: (r++[c]))=c.1;rw[eS];exact qo (e :: r) c
theorem tE{v n:Int}(a:0<=v)(b:v<=4):d8 (4,v,0,0) n=0:=by simp[d8];omega
theorem CF{v n:Int}(a:0<=v)(b:v<5):d8 (1,v,0,0) n=0:=by simp[d8];omega
theorem lR{k v b c n:Int}(a:k=2\/k=3)(f:0<=v)(g:v<=65535)(h:0<=b)(d:b<n)(i:0<=c)(e:c<n):d8 (k,v,b,c) n=0:=by unfold d8;simp only[];rw[iO (by omega),Io a,iO (by omega),iO (by omega)]
theorem DJ{c:aN}{left n:Int}(e:bS c=0)(a:0<=left)(b:left<n):d8 (ox c left) n=0:=by
 have⟨_,_,d,f⟩:=ft e;have:=nq c.1;unfold ox
 split
 ·exact lR (.inl rfl) d (by omega) (by omega) (by omega) a b
 split
 ·exact lR (.inl rfl) d (by omega) a b (by omega) (by omega)
 split
 ·exact lR (.inr rfl) d (by omega) (by omega) (by omega) a b
 exact lR (.inr rfl) d (by omega) a b (by omega) (by omega)
theorem jk{v:Int}(h:cA v=true):0<=v/\v<=4:=by
 unfold cA at h
 simpa using h
theorem rU(v:Int)(b:0<=v/\v<=4)(a:List cO)(e:a≠[]):∀f:List aN,(∀c∈f,bS c=0)->bK (dA f++(4,v,0,0) :: a)=bK a
 |[],_=>by show bK ((4,v,0,0) :: a)=_;rw[bK,Io (tE b.1 b.2)]
 |c :: r,h=>by
  have j:=LY.2 e;have g:=ft (h c (by simp));rw[dA];show bK ((1,c.1,0,0) :: ox c (2*(r.length:Int)+1) :: (dA r++(4,v,0,0) :: a))=_
  rw[bK,Io (CF g.1.1 g.1.2),bK,Io (DJ (h c (by simp)) (by omega) (by
   rw[Kj,iM,Kv]
   omega))]
  exact rU v b a e r λd i=>h d (by simp[i])
theorem qe(a:List cO)(b:a≠[]):∀c:List aq,(∀r∈c,bH r=0)->bK (dV c++a)=bK a
 |[],_=>rfl
 |r :: s,h=>by obtain⟨_,e,f⟩:=dy (h r (by simp));rw[oC,jt,KI,KI];show bK (dA r.1++(4,r.2,0,0) :: (dV s++a))=_;rw[rU r.2 (jk e) _ (by simp[b]) r.1 (fy f)];exact qe a b s λd g=>h d (by simp[g])
theorem uk{p:aD}(h:aj p=0):aV (cm p)=if 1500<(cm p).length then 2 else 0:=by
 have⟨_,a,c⟩:=cY h;have a:=jk a;have f:=LY.2 (IC p);have d:bK (cm p)=0:=by unfold cm;rw[qe _ (by simp) p.1 (cM c),bK,Io (tE a.1 a.2)];rfl
 have e:eS (cm p)=4:=by unfold cm;rw[qo]
 unfold aV
 by_cases b:1500<(cm p).length
 ·rw[Io (.inr b),Io b]
 rw[iO (by omega),Io d,Io e,iO b]
def Ad(x:Nat->Int)(d:Int):List aq->Int
 |[]=>d
 |r :: s=>if bu x r then r.2 else Ad x d s
theorem Im(n c left):iY n (ox c left)=if iG c.2.1 c.2.2 n then 0 else left.toNat:=by
 unfold ox iG iY
 by_cases b:c.2.1=1
 ·simp only[Io b]
  by_cases e:n=c.2.2<;>simp[e]
 simp only[iO b]
 by_cases d:c.2.1=2
 ·simp only[Io d]
  by_cases e:n=c.2.2<;>simp[e]
 simp only[iO d]
 by_cases f:c.2.1=3
 ·simp only[Io f]
  by_cases e:n<c.2.2<;>simp[e]
 simp only[iO f]
 by_cases e:n<c.2.2
 ·have a:¬c.2.2<=n:=by omega
  simp[e,a]
 have a:c.2.2<=n:=by omega
 simp[e,a]
theorem F8(c left):(ox c left).1=2\/(ox c left).1=3:=by
 unfold ox
 split
 ·exact .inl rfl
 split
 ·exact .inl rfl
 split<;>exact .inr rfl
theorem z5(x:Nat->Int)(v:Int)(a:List cO):∀ (cs:List aN) (n:Int),∃b,(dJ x n 0 (dA cs++(4,v,0,0) :: a)).1=if cs.all (dQ x) then v else (dJ x b 0 a).1
 |[],n=>⟨n,by
  show (dJ x n 0 ((4,v,0,0) :: a)).1=_;rw[dJ,iO (by simp),iO (by simp)]
  rfl⟩
 |c :: r,n=>by
  rw[dA];show ∃b,(dJ x n 0 ((1,c.1,0,0) :: ox c (2*(r.length:Int)+1) :: (dA r++(4,v,0,0) :: a))).1=_;have f:=F8 c (2*(r.length:Int)+1);rw[dJ,Io rfl,dJ,iO (by omega),Io f,Im]
  by_cases h:dQ x c=true
  ·have d:iG c.2.1 c.2.2 (x c.1.toNat)=true:=h;have⟨b,e⟩:=z5 x v a r (x c.1.toNat);refine⟨b,?_⟩;simp only[];rw[Io d];show (dJ x (x c.1.toNat) 0 (dA r++(4,v,0,0) :: a)).1=_;rw[e,List.all_cons,h,Bool.true_and]
  have d:¬iG c.2.1 c.2.2 (x c.1.toNat)=true:=h;refine⟨x c.1.toNat,?_⟩;simp only[];rw[iO d];show (dJ x (x c.1.toNat) (2*(r.length:Int)+1).toNat (dA r++(4,v,0,0) :: a)).1=_;have g:(dA r++(4,v,0,0) :: a).drop (2*(r.length:Int)+1).toNat=a:=by rw[show (2*(r.length:Int)+1).toNat=(dA r).length+1 by rw[iM];omega,<-Mv,List.drop_left];rfl
  rw[sQ,g,List.all_cons];simp[h]
theorem rh(x:Nat->Int)(d:Int):∀ (a:List aq) (n:Int),(dJ x n 0 (dV a++[(4,d,0,0)])).1=Ad x d a
 |[],n=>by show (dJ x n 0 [(4,d,0,0)]).1=_;rw[dJ,iO (by simp),iO (by simp)];rfl
 |r :: s,n=>by rw[oC,jt,KI,KI];show (dJ x n 0 (dA r.1++(4,r.2,0,0) :: (dV s++[(4,d,0,0)]))).1=_;have⟨b,e⟩:=z5 x r.2 (dV s++[(4,d,0,0)]) r.1 n;rw[e,rh x d s b,Ad];rfl
theorem wK(x:Nat->Int)(d)(a:List aq):∀ (c:List aq) (k:Nat),a.drop k=c->Ad x d c=(cP (a,d) (aR (bu x) k c)).1
 |[],k,_=>by simp[Ad,aR,cP]
 |r :: s,k,h=>by
  have e:a[k]?=some r:=by
   have:(a.drop k)[0]?=some r:=by rw[h];rfl
   simpa using this
  rw[Ad,aR]
  by_cases b:bu x r=true
  ·rw[Io b,Io b,cP,iO (by omega)];simp[e]
  rw[iO b,iO b];refine wK x d a s (k+1) ?_;rw[<-Mv,h];rfl
theorem B9{p:aD}{x:Nat->Int}(a:aj p=0)(b:eC x=0):(dJ x 0 0 (cm p)).1=(eH p x).1:=by rw[gV a b,cm,rh];exact wK x p.2 p.1 p.1 0 rfl
def cB(p:aD):Int:=if aj p=0 then (if 1500<(cm p).length then 2 else 0) else aj p
def dW(p:aD):List cO:=if cB p=0 then cm p else []
theorem pb:∀ (cs:List aN) (k:Nat) (c:aN),cs[k]?=some c->(dA cs).take (2*(k+1))=(dA cs).take (2*k)++[(1,c.1,0,0),ox c (2*((cs.length:Int)-k-1)+1)]
 |[],_,_,h=>by simp at h
 |d :: r,0,c,h=>by simp at h;subst h;rw[dA];simp
 |d :: r,k+1,c,h=>by
  have a:=pb r k c (by simpa using h);rw[dA,show 2*(k+1+1)=2*(k+1)+1+1 by omega,show 2*(k+1)=2*k+1+1 by omega,Mf,Mf,Mf,Mf,show 2*k+1+1=2*(k+1) by omega,a];have e:(2*((r.length:Int)-k-1)+1)=(2*(((d :: r).length:Int)-(k+1:Nat)-1)+1):=by simp;omega
  rw[e];rfl
theorem xA(cs):(dA cs).take (2*cs.length)=dA cs:=Ki (by rw[iM];omega)
theorem BQ(v w):
  cL 208 #[U v] w (rT w (.agg #[U 4,U v,U 0,U 0])):=by
 go_enter func208,ntmps208;go_wp2;refine Ka (v:=.agg #[U 4,U v,U 0,U 0]) ?_ rfl ⟨rfl,?_⟩
 ·rw[cN rfl];go_simp
 repeat(first|exact Kf _ _|refine Ky ?_ (by simp) _|refine Lc ?_ (by simp) _)
theorem Ih(f op v left w):
  cL 222 #[.agg #[U f,U op,U v],U left] w (rT w (J6 (ox (f,op,v) left))):=by
 by_cases a:op=1
 ·subst a;go_enter func222,ntmps222;go_wp2;refine Ka (v:=.agg #[U 2,U v,U 0,U left]) ?_ rfl ⟨rfl,?_⟩
  ·rw[cN rfl];go_simp
  repeat(first|exact Kf _ _|refine Ky ?_ (by simp) _|refine Lc ?_ (by simp) _)
 by_cases b:op=2
 ·subst b;clear a;go_enter func222,ntmps222;go_wp2;refine Ka (v:=.agg #[U 2,U v,U left,U 0]) ?_ rfl ⟨rfl,?_⟩
  ·rw[cN rfl];go_simp
  repeat(first|exact Kf _ _|refine Ky ?_ (by simp) _|refine Lc ?_ (by simp) _)
 by_cases c:op=3
 ·subst c;clear a b;go_enter func222,ntmps222;go_wp2;refine Ka (v:=.agg #[U 3,U v,U 0,U left]) ?_ rfl ⟨rfl,?_⟩
  ·rw[cN rfl];go_simp
  repeat(first|exact Kf _ _|refine Ky ?_ (by simp) _|refine Lc ?_ (by simp) _)
 have d:Hid (ox (f,op,v) left=(3,v,left,0)):=by unfold Hid ox;simp[a,b,c]
 have e:(op==1)=false:=by simpa using a
 have g:(op==2)=false:=by simpa using b
 have h:(op==3)=false:=by simpa using c
 clear a b c;go_enter func222,ntmps222;go_wp2;refine Ka (v:=.agg #[U 3,U v,U left,U 0]) ?_ rfl ⟨by rw[d.o];rfl,?_⟩
 ·rw[cN rfl];go_simp
 repeat(first|exact Kf _ _|refine Ky ?_ (by simp) _|refine Lc ?_ (by simp) _)
theorem FK(s w)(he:dD w):
  cL 177 #[.string s] w λe k=>∃R,e=.returned (.tuple #[R,U (cG s.1.1).2])/\nW w.1.size k R (cG s.1.1).1/\bL w k:=by
 have E:∀X,bL w (w.alloc X):=λX=>bR.alloc lE _
 have HB:Hid (∀k T,Below (w.1.size+1) (w.alloc (.cells #[nL,U 0] T)) k->Na k w.1.size #[nL,U 0] T/\bL w k):=λk T h=>⟨(h.block w.1.size (by omega)).trans (Kr w _).1,(E _).trans (h.mono (by omega))⟩
 have K:=KR s
 by_cases F:60000<s.size
 ·have G:Hid (cG s.1.1=(([],0),2)):=by unfold Hid cG;rw[Io (by omega)]
  have hl:(60000:Int)<(s.size:Int):=by omega
  have t:=(Kr w (.cells #[nL,U 0] 30)).1;have L:=E (.cells #[nL,U 0] 30);clear K;go_enter func177,ntmps177;go_wp2;refine Ka (v:=.tuple #[.agg #[nL,U 0],U 2]) ?_ rfl ⟨_,by rw[G.o],by rw[G.o];exact nW.zero _ _,?_⟩
  ·rw[K8 rfl];go_simp
  first|exact L|exact L.s2 lE
 have hl:¬((60000:Int)<(s.size:Int)):=by omega
 have M:=wI s (by omega) (w.alloc (.cells #[nL,U 0] 30)) (he.l (E _));have N:Hid _:=M
 have G:Hid (cG s.1.1=match gS s.1.1 with
  |none=>(([],0),1)
  |some p=>if aj p=0 then (p,0) else (([],0),aj p)):=by unfold Hid cG;rw[iO (by omega)];rfl
 clear M K F;generalize gS s.1.1=po at*
 cases po with
 |none=>
  have l:=Z G.o;clear G;go_enter func177,ntmps177;go_wp2_with fail;go_at_call 205;refine Calls.mono N.o ?_;rintro e m ⟨R,rfl,f,A⟩
  try unfold bL at A
  simp only[Kg] at A f;obtain⟨t,H⟩:=HB.o _ _ A;obtain⟨a,n,j,rfl⟩:=f.shape;have a0:w.1.size+1<=m.1.size:=by have:=A.size;simpa using this
  have c:∀X,Na (m.alloc X) w.1.size #[nL,U 0] 30:=λX=>(Kq _ _ _ (by omega)).trans t
  have t0:∀X,(m.alloc X).cell? (pW w 0)=some nL:=λX=>(ag (c X)).1
  have t1:∀X,(m.alloc X).cell? (pW w 1)=some (U 0):=λX=>(ag (c X)).2.1
  have t2:∀X,(m.alloc X).frozen? (pW w 0)=false:=λX=>(ag (c X)).2.2.1
  have t3:∀X,(m.alloc X).frozen? (pW w 1)=false:=λX=>(ag (c X)).2.2.2
  have I:Hid _:=c;clear t c f;go_wp2_with fail;have x:=du (u:=U 0) (dC (u:=nL) (I.o (.cells #[.slice a n j,U 0] 30)));have⟨z0,z1,_,_⟩:=ag x;refine Ka (v:=.tuple #[.agg #[nL,U 0],U 1]) ?_ rfl ⟨_,by rw[l.o],by rw[l.o];exact nW.zero _ _,((H.alloc (by omega) _).setCell (p:=pW w 0) lE _).setCell (p:=pW w 1) lE _⟩;rw[K8 rfl];go_simp
 |some p=>
  obtain⟨S,d⟩:=p;have l:=Z G.o;clear G;go_enter func177,ntmps177;go_wp2_with fail;go_at_call 205;refine Calls.mono N.o ?_;rintro e m ⟨R,rfl,f,A⟩
  try unfold bL at A
  simp only[Kg] at A f;obtain⟨t,H⟩:=HB.o _ _ A;obtain⟨a,n,j,rfl⟩:=f.shape;have a0:w.1.size+1<=m.1.size:=by have:=A.size;simpa using this
  have B:=Z f;have a1:Hid (∀k,bL m k->cL 144 #[.agg #[.slice a n j,U d]] k (rT k (U (aj (S,d))))):=λk h=>gZ k.1.size _ (S,d) k (B.o.keep (λg h1 h2=>h.block g h2) h.size).at lE
  have I:Hid _:=t;clear t f;generalize al:aj (S,d)=V at*;have y:bL m (m.alloc (.cells #[.slice a n j,U d] 30)):=bR.alloc lE _;go_wp2_with fail;go_at_call 144;refine Calls.mono (a1.o _ y) ?_;rintro e W ⟨rfl,J⟩;have q:=Below.tO y J (by simp);have c:Na W w.1.size #[nL,U 0] 30:=q.bk I.o;have⟨t0,t1,t2,t3⟩:=ag c;have O:Na W m.1.size #[.slice a n j,U d] 30:=(J.block _ (by simp)).trans (Kr m _).1;have⟨b0,b1,_,_⟩:=ag O;have C:bL w W:=H.th q;have D:Hid _:=c;have a6:¬(m.1.size=w.1.size):=by omega
  have a7:¬(w.1.size=m.1.size):=by omega
  have P:=q.size;clear c O J y
  by_cases Y:V=0
  ·subst Y;have z:Hid (cG s.1.1=((S,d),0)):=by unfold Hid;rw[l.o,Io rfl]
   clear l;go_wp2_with fail;have x:=du (u:=U d) (dC (u:=.slice a n j) D.o);have⟨z0,z1,_,_⟩:=ag x;refine Ka (v:=.tuple #[.agg #[.slice a n j,U d],U 0]) ?_ rfl ⟨_,by rw[z.o],?_,C.s2 lE⟩
   ·rw[K8 rfl];go_simp
   rw[z.o];have h3:=B.o.keep (w':=(W.setCell (pW w 0) (.slice a n j)).setCell (pW w 1) (U d)) (λg h1 h2=>(pR 0 _ _ (by omega)).trans (q.block g h2)) (by simp;exact P);obtain⟨rv,e1,e2,a',Q,e3,e4,e5,e6⟩:=h3;refine⟨rv,e1,e2,a',Q,e3,e4,e5,λi r hr=>?_⟩;have⟨b,o,k1,k2,k3,cv,k4,k5,k6,k7⟩:=e6 i r hr;exact⟨b,o,k1,by omega,k3,cv,k4,k5,k6,k7.mono (by omega)⟩
  have hq:(V != 0)=true:=by simpa using Y
  have z:Hid (cG s.1.1=(([],0),V)):=by unfold Hid;rw[l.o,iO Y]
  clear l Y;go_wp2_with fail;have x:=du (u:=U 0) (dC (u:=nL) D.o);have⟨z0,z1,_,_⟩:=ag x;refine Ka (v:=.tuple #[.agg #[nL,U 0],U V]) ?_ rfl ⟨_,by rw[z.o],by rw[z.o];exact nW.zero _ _,C.s2 lE⟩;rw[K8 rfl];go_simp
