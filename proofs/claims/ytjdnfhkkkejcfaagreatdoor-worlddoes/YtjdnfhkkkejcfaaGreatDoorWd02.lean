import Derived.Test.YtjdnfhkkkejcfaaGreatDoorWd01
set_option linter.all false
set_option maxRecDepth 100000
set_option maxHeartbeats 1000000
namespace Go.Proofs.YtjdnfhkkkejcfaaGreatDoor
open Go.RowKit Go.Maps Go.Proofs.Tryz
def iG(a v n:Int):Bool:=if a=1 then n==v else if a=2 then n != v else if a=3 then decide (n<v) else decide (v<=n)
def dQ(x:Nat->Int)(c:aN):Bool:=iG c.2.1 c.2.2 (x c.1.toNat)
def bu(x:Nat->Int)(r:aq):Bool:=r.1.all (dQ x)
def aR{α:Type}(f:α->Bool):Nat->List α->Int
 |_,[]=>-1
 |k,c :: r=>if f c then k else aR f (k+1) r
theorem ku{α:Type}(f:α->Bool)(l:List α)(k:Nat)(c:α)(h:l[k]?=some c):aR f k (l.drop k)=if f c then (k:Int) else aR f (k+1) (l.drop (k+1)):=by obtain⟨a,rfl⟩:=K9.1 h;rw[KM a];rfl
theorem s8{α:Type}(f:α->Bool):∀ (l:List α) (k:Nat),(decide (0<=aR f k l))=l.any f
 |[],_=>rfl
 |c :: r,k=>by
  unfold aR
  by_cases h:f c=true
  ·simp[h]
  simp[h,s8 f r (k+1)]
theorem ft{c:aN}(h:bS c=0):(0<=c.1/\c.1<5)/\(1<=c.2.1/\c.2.1<=4)/\(0<=c.2.2/\c.2.2<=aO c.1):=by
 unfold bS at h
 split at h
 ·cases h
 split at h
 ·cases h
 split at h
 ·cases h
 omega
theorem fy{cs:List aN}(h:eW cs=0):∀c∈cs,bS c=0:=by
 induction cs with
 |nil=>intro c b;cases b
 |cons a r e=>
  unfold eW at h
  split at h
  ·rename_i d;intro c b
   rcases Kz.1 b with rfl|b
   ·exact d
   exact e h c b
  rename_i d;exact absurd h d
theorem cM{d:List aq}(h:eE d=0):∀r∈d,bH r=0:=by
 induction d with
 |nil=>intro c b;cases b
 |cons a r f=>
  unfold eE at h
  split at h
  ·rename_i e;intro c b
   rcases Kz.1 b with rfl|b
   ·exact e
   exact f h c b
  rename_i e;exact absurd h e
theorem dy{r:aq}(h:bH r=0):r.1.length<=10/\cA r.2=true/\eW r.1=0:=by
 unfold bH at h
 split at h
 ·cases h
 split at h
 ·exact⟨by omega,by assumption,h⟩
 cases h
theorem cY{p:aD}(h:aj p=0):p.1.length<=120/\cA p.2=true/\eE p.1=0:=by
 unfold aj at h
 split at h
 ·cases h
 split at h
 ·exact⟨by omega,by assumption,h⟩
 cases h
theorem I6(a v f g h i j:Int)(k:Int)(y:Int)(l:(k=0/\y=f)\/(k=1/\y=g)\/(k=2/\y=h)\/(k=3/\y=i)\/(k=4/\y=j))(w):
  cL 270 #[.agg #[U k,U a,U v],.agg #[U f,U g,U h,U i,U j]] w (rT w (.bool (iG a v y))):=by
 have e:bL w ((w.alloc (.cells #[U k,U a,U v] 134)).alloc (.cells #[U f,U g,U h,U i,U j] 34)):=(bR.alloc lE _).alloc (by simp) _;have F:Hid (a≠1->a≠2->a≠3->iG a v y=decide (v<=y)):=by intro b c d;rw[iG,iO b,iO c,iO d]
 rcases l with ⟨rfl,rfl⟩|⟨rfl,rfl⟩|⟨rfl,rfl⟩|⟨rfl,rfl⟩|⟨rfl,rfl⟩
 all_goals
  by_cases b:a=1
  ·subst b;go_enter func270,ntmps270;go_wp2;go_ret;exact⟨rfl,e⟩
  have m:(a==1)=false:=by simpa using b
  by_cases c:a=2
  ·subst c;go_enter func270,ntmps270;go_wp2;go_ret;exact⟨rfl,e⟩
  have n:(a==2)=false:=by simpa using c
  by_cases d:a=3
  ·subst d;go_enter func270,ntmps270;go_wp2;go_ret;exact⟨rfl,e⟩
  have o:(a==3)=false:=by simpa using d
  have G:=F.o b c d;clear F b c d;have G:Hid _:=G;go_enter func270,ntmps270;go_wp2;go_ret;exact⟨by rw[G.o];rfl,e⟩
theorem Em(c:aN)(x:Nat->Int)(a:0<=c.1/\c.1<5)(w):
  cL 270 #[Gv c,jm x] w (rT w (.bool (dQ x c))):=by
 refine I6 c.2.1 c.2.2 (x 0) (x 1) (x 2) (x 3) (x 4) c.1 (x c.1.toNat) ?_ w;have:c.1=0\/c.1=1\/c.1=2\/c.1=3\/c.1=4:=by omega
 rcases this with h|h|h|h|h<;>simp[h]
theorem FJ(c:aN)(x:Nat->Int)(h:0<=c.1/\c.1<5)(bx w)(g:rA w bx x)(i:bx<w.1.size):
  cL 269 #[Gv c,.pointer (sO bx)] w (rT w (.bool (!dQ x c))):=by
 obtain⟨f,b,v⟩:=c;show cL 269 #[.agg #[U f,U b,U v],.pointer (sO bx)] w _;have a:=g.l ((Kf w.1.size w).alloc lE (.cells #[U f,U b,U v] 134)) i;have j:=a 0 (by omega);have k:=a 1 (by omega);have l:=a 2 (by omega);have m:=a 3 (by omega);have n:=a 4 (by omega);clear a g;go_enter func269,ntmps269;go_wp2_with (first|(go_at_call 270;refine(Em (f,b,v) x h _).mono ?_;rintro e o ⟨rfl,d⟩));go_ret;exact⟨rfl,Below.tO (bR.alloc lE _) d (by simp)⟩
theorem xf(B cv cs)(x:Nat->Int)(bx w)(C:bG B w cv cs)(R:B<=w.1.size)(p:∀c∈cs,0<=c.1/\c.1<5)(z:rA w bx x)(A:bx<w.1.size):
  cL 277 #[cv,.func (.func 269) #[] #[.pointer (sO bx)]] w (rT w (U (aR (λc=>!dQ x c) 0 cs))):=by
 obtain⟨a,D,rfl,E,F,h⟩:=C;have j:=Z h;have q:=Z z;clear h z;generalize T:cs.length=n at*;have G:n<=9223372036854775807:=by have:=ai;omega
 go_enter func277,ntmps277;go_wp2;go_loopw [8] (λi wr=>∃k:Nat,k<=n/\i=U k/\Hid (aR (λc=>!dQ x c) 0 cs=aR (λc=>!dQ x c) k (cs.drop k))/\bL w wr) (λi _=>n-(intOf i).toNat)
 case atStart=>exact⟨0,by omega,rfl,rfl,Kf _ _⟩
 case round=>
  obtain⟨k,V,rfl,H,d⟩:=hrel;have W:(0:Int)<=(k:Int):=by omega
  by_cases I:k<n
  ·have X:(k:Int)<(n:Int):=by omega
   obtain⟨c,g⟩:∃c,cs[k]?=some c:=⟨cs[k]'(by omega),by simp⟩;have l:=Kb g;obtain⟨b,o,rfl,J,r⟩:=j.o k c g;have S:Hid (aR (λc=>!dQ x c) k (cs.drop k)=if (!dQ x c)=true then (k:Int) else aR (λc=>!dQ x c) (k+1) (cs.drop (k+1))):=ku (λc=>!dQ x c) cs k c g;have s:=p c l;obtain⟨f,t,v⟩:=c;obtain⟨K,L,M,N,O,P⟩:=r.l d (by omega);simp only[] at K L M N O P;go_wp2_with (first|(go_at_call 269;refine(FJ (f,t,v) x s bx _ (q.o.l d A) (Kd A d.size)).mono ?_;rintro e Q ⟨rfl,u⟩))
   all_goals have m:bL w Q:=d.th u
   ·have y:(!dQ x (f,t,v))=true:=by first|assumption|(simp_all;done)
    go_ret;exact⟨by rw[H.o,S.o,Io y];rfl,m⟩
   have y:¬(!dQ x (f,t,v))=true:=by first|assumption|(simp_all;done)
   exact⟨⟨k+1,by omega,by go_num,by unfold Hid;rw[H.o,S.o,iO y],m⟩,by simp[intOf];omega⟩
  go_wp2;go_ret;exact⟨by rw[H.o,KJ (by omega)];rfl,d⟩
