import Derived.Test.YtjdnfhkkkejcfaaGreatDoorWd05
set_option linter.all false
set_option maxRecDepth 100000
set_option maxHeartbeats 8000000
namespace Go.Proofs.YtjdnfhkkkejcfaaGreatDoor
open Go.RowKit Go.Maps Go.Proofs.Tryz
def cI(B:Nat)(w:World)(v:Value)(r:az):Prop:=
 ∃a,v=.agg #[U r.1,U r.2.1,U r.2.2.1,a,U r.2.2.2.2]/\wf r.1/\wf r.2.1/\wf r.2.2.1/\aX B w (.agg #[a,U r.2.2.2.2]) r.2.2.2
theorem cI.l{B B' w w' v r}(h:cI B w v r)(b:Below B' w w')(c:B<=B'):cI B w' v r:=by obtain⟨d,f,g,i,j,k⟩:=h;refine⟨d,f,g,i,j,?_⟩;obtain⟨a,e,l,m⟩:=k;exact⟨a,e,l,m.l b c⟩
theorem cI.shape{B w v r}(h:cI B w v r):∃a c,v=.agg #[U r.1,U r.2.1,U r.2.2.1,.slice a r.2.2.2.1.length c,U r.2.2.2.2]/\aX B w (.agg #[.slice a r.2.2.2.1.length c,U r.2.2.2.2]) r.2.2.2:=by obtain⟨j,b,k,l,m,d,e,f,a,c,g,i⟩:=h;simp at e;subst e g;exact⟨a,c,b,_,rfl,f,a,c,rfl,i⟩
theorem Dz(B w):cI B w (.agg #[U 0,U 0,U 0,nL,U 0]) cu:=by
 have a:wf (0:Int):=by unfold wf;decide
 exact⟨_,rfl,a,a,a,bV B w⟩
def gi(L:Nat)(w:World)(v:Value)(r:az):Prop:=∀a:World,(∀g,L<=g->g<w.1.size->a.1[g]?=w.1[g]?)->w.1.size<=a.1.size->cI a.1.size a v r
theorem gi.at{L w v r}(h:gi L w v r):cI w.1.size w v r:=h w (λ_ _ _=>rfl) lE
theorem dg(L w):gi L w (.agg #[U 0,U 0,U 0,nL,U 0]) cu:=λa _ _=>Dz _ _
theorem aF{w:World}{b:Nat}{k c f d}{sv:Value}{T}{a:Nat × Nat}(h:w.1[b]?=some (.cells #[U k,U c,U f,sv,U d] T a)):w.cell? (pA b 0)=some (U k)/\w.cell? (pA b 1)=some (U c)/\w.cell? (pA b 2)=some (U f)/\w.cell? (pA b 3)=some sv/\w.cell? (pA b 4)=some (U d):=
 ⟨J0 h,J1 h,J2 h,J3 h,J4 h⟩
theorem mt{n a b:Int}(h:a<=n/\n<=b)(w):cL 34 #[U n,U a,U b] w λe c=>e=.returned (.bool true)/\c=w:=by
 have:=lp n a b w
 simpa [h.1,h.2] using this
theorem xm{n a b:Int}(h:¬(a<=n/\n<=b))(w):cL 34 #[U n,U a,U b] w λe d=>e=.returned (.bool false)/\d=w:=by
 have:=lp n a b w;refine this.mono ?_;rintro e d ⟨rfl,rfl⟩;refine⟨?_,rfl⟩
 by_cases c:a<=n
 ·have f:¬n<=b:=λe=>h ⟨c,e⟩
  simp[c,f]
 simp[c]
theorem Bv(a n c d w):
  cL 95 #[.agg #[.slice a n c,U d]] w (rT w (.bool (decide (d=0/\n=0)))):=by
 have e:∀X,bL w (w.alloc X):=λX=>bR.alloc lE _
 by_cases b:d=0
 ·subst b;go_enter func95,ntmps95;go_wp2;go_ret;refine⟨?_,e _⟩
  by_cases f:n=0
  ·subst f;rfl
  simp[f]
 have g:(d==0)=false:=by simpa using b
 go_enter func95,ntmps95;go_wp2;go_ret;exact⟨by simp[b],e _⟩
theorem eR(B v r w)(Y:cI B w v r)(hB:B<=w.1.size):
  cL 64 #[v] w (rT w (U (aZ r))):=by
 obtain⟨a,c,rfl,x⟩:=Y.shape;have m:=Z λb (h:bL w b)=>fW B _ r.2.2.2 b (x.l h hB) (h.u hB)
 have M:Hid (aZ r=if r.1<1\/4<r.1 then 4 else if (r.2.1<0\/3<r.2.1)\/(r.2.2.1<0\/3<r.2.2.1) then 3 else if (0<r.2.2.1/\r.1≠3)\/(¬(r.1=1\/r.1=2)/\¬(r.2.2.2.2=0/\r.2.2.2.1=[])) then 4 else if r.1=1\/r.1=2 then aj r.2.2.2 else 0):=rfl;have HN:Hid (r.2.2.2.1=[] ↔ r.2.2.2.1.length=0):=LA.symm;clear Y x;obtain⟨k,C,l,G,d⟩:=r;simp only at*;generalize aZ (k,C,l,G,d)=E at*;generalize aj (G,d)=Q at*;have R:=Z HN.o;generalize hn:G.length=n at*;clear hn HN;have I:∀X,bL w (w.alloc X):=λX=>bR.alloc lE _
 by_cases S:k<1\/4<k
 ·have e:=Z (by rw[M.o,Io S]:E=4);have s:Hid (∀b,cL 34 #[U k,U 1,U 4] b λe f=>e=.returned (.bool false)/\f=b):=λb=>xm (by omega) b
  clear M m;go_enter func64,ntmps64;go_wp2_with (first|(go_at_call 34;go_must (refine(s.o _).mono ?_;rintro e t ⟨rfl,rfl⟩)));go_ret;exact⟨by rw[e.o];rfl,I _⟩
 have hk:k=1\/k=2\/k=3\/k=4:=by omega
 have s:Hid (∀b,cL 34 #[U k,U 1,U 4] b λe f=>e=.returned (.bool true)/\f=b):=λb=>mt (by omega) b
 have u:=Z (by rw[M.o,iO S]:E=if (C<0\/3<C)\/(l<0\/3<l) then 3 else if (0<l/\k≠3)\/(¬(k=1\/k=2)/\¬(d=0/\G=[])) then 4 else if k=1\/k=2 then Q else 0);have Hk:=Z hk;clear M S hk
 by_cases N:C<0\/3<C
 ·have e:=Z (by rw[u.o,Io (.inl N)]:E=3);have i:Hid (∀b,cL 34 #[U C,U 0,U 3] b λe f=>e=.returned (.bool false)/\f=b):=λb=>xm (by omega) b
  clear u m N;go_enter func64,ntmps64;go_wp2_with fail;go_at_call 34;refine(s.o _).mono ?_;rintro e t ⟨rfl,rfl⟩;go_wp2_with fail;go_at_call 34;refine(i.o _).mono ?_;rintro e t ⟨rfl,rfl⟩;go_wp2_with fail;go_ret;exact⟨by rw[e.o];rfl,I _⟩
 have i:Hid (∀b,cL 34 #[U C,U 0,U 3] b λe f=>e=.returned (.bool true)/\f=b):=λb=>mt (by omega) b
 by_cases T:l<0\/3<l
 ·have e:=Z (by rw[u.o,Io (.inr T)]:E=3);have q:Hid (∀b,cL 34 #[U l,U 0,U 3] b λe f=>e=.returned (.bool false)/\f=b):=λb=>xm (by omega) b
  clear u m N T;go_enter func64,ntmps64;go_wp2_with fail;go_at_call 34;refine(s.o _).mono ?_;rintro e t ⟨rfl,rfl⟩;go_wp2_with fail;go_at_call 34;refine(i.o _).mono ?_;rintro e t ⟨rfl,rfl⟩;go_wp2_with fail;go_at_call 34;refine(q.o _).mono ?_;rintro e t ⟨rfl,rfl⟩;go_wp2_with fail;go_ret;exact⟨by rw[e.o];rfl,I _⟩
 have q:Hid (∀b,cL 34 #[U l,U 0,U 3] b λe f=>e=.returned (.bool true)/\f=b):=λb=>mt (by omega) b
 have j:=Z (by rw[u.o,iO (by omega)]:E=if (0<l/\k≠3)\/(¬(k=1\/k=2)/\¬(d=0/\G=[])) then 4 else if k=1\/k=2 then Q else 0);clear u N T;have o:=Z λb=>Bv a n c d b
 have J:=Z (by rw[R.o]:(d=0/\G=[]) ↔ (d=0/\n=0));go_enter func64,ntmps64;go_wp2_with fail;go_at_call 34;refine(s.o _).mono ?_;rintro e t ⟨rfl,rfl⟩;go_wp2_with fail;go_at_call 34;refine(i.o _).mono ?_;rintro e t ⟨rfl,rfl⟩;go_wp2_with fail;go_at_call 34;refine(q.o _).mono ?_;rintro e t ⟨rfl,rfl⟩;have⟨W0,z⟩:=nM (w.alloc (.cells #[U k,U C,U l,.slice a n c,U d] 70));have O:=hA z;have K:bL w W0:=by rw[z];exact I _
 have p:=Z K;have HG:=Z λb (h:bL W0 b)=>h.bl O
 have⟨q0,q1,q2,q3,q4⟩:=aF O;have l0:=io O;rw[<-z];clear z O K I s i q
 by_cases y:0<l/\k≠3
 ·have e:=Z (by rw[j.o,Io (.inl y)]:E=4);obtain⟨a6,V⟩:=y;have a7:(k != 3)=true:=by simpa using V
  clear j m o;have a8:=Hk.o;have L:k=1\/k=2\/k=4:=by omega
  rcases L with rfl|rfl|rfl
  all_goals
   go_wp2_with fail;go_ret;exact⟨by rw[e.o];rfl,p.o⟩
 by_cases x:k=1\/k=2
 ·have e:=Z (by rw[j.o,iO (by rintro (h|⟨h,-⟩)<;>first|exact y h|exact h x),Io x]:E=Q);have A:¬0<l:=λh=>y ⟨h,by omega⟩
  clear j y
  rcases x with rfl|rfl
  all_goals
   go_wp2_with fail;go_at_call 89;refine(m.o _ p.o).mono ?_;rintro P t ⟨rfl,g⟩;go_wp2_with fail;go_ret;exact⟨by rw[e.o];rfl,p.o.th g⟩
 have D:k=3\/k=4:=by have:=Hk.o;omega
 by_cases H:d=0/\n=0
 ·have e:=Z (by rw[j.o,iO (by rintro (h|⟨-,h⟩)<;>first|exact y h|exact h (J.o.2 H)),iO x]:E=0);rw[KS H] at o;obtain⟨rfl,rfl⟩:=H;have A:k=4->¬0<l:=λh W=>y ⟨W,by omega⟩
  clear j x y m
  rcases D with rfl|rfl
  ·by_cases F:0<l
   all_goals
    go_wp2_with fail;go_at_call 95;refine(o.o _).mono ?_;rintro P t ⟨rfl,g⟩;go_wp2_with fail;go_ret;exact⟨by rw[e.o];rfl,p.o.th g⟩
  have F:=A rfl;go_wp2_with fail;go_at_call 95;refine(o.o _).mono ?_;rintro P t ⟨rfl,g⟩;go_wp2_with fail;go_ret;exact⟨by rw[e.o];rfl,p.o.th g⟩
 have e:=Z (by rw[j.o,Io (.inr ⟨x,λh=>H (J.o.1 h)⟩)]:E=4);rw[KD H] at o;have A:k=4->¬0<l:=λh W=>y ⟨W,by omega⟩
 clear j x y m H
 rcases D with rfl|rfl
 ·by_cases F:0<l
  all_goals
   go_wp2_with fail;go_at_call 95;refine(o.o _).mono ?_;rintro P t ⟨rfl,g⟩;go_wp2_with fail;go_ret;exact⟨by rw[e.o];rfl,p.o.th g⟩
 have F:=A rfl;go_wp2_with fail;go_at_call 95;refine(o.o _).mono ?_;rintro P t ⟨rfl,g⟩;go_wp2_with fail;go_ret;exact⟨by rw[e.o];rfl,p.o.th g⟩
