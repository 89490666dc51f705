import Derived.Test.YtffnfdfjojidfaaGreatDoorWr22
import Derived.Test.YtffnfdfjojidfaaGreatDoorWr25
set_option linter.all false
set_option maxRecDepth 100000
set_option maxHeartbeats 4000000
namespace Go.Proofs.YtffnfdfjojidfaaGreatDoor
open Go.RowKit Go.Maps Go.Proofs.Tryz
section
theorem np(i b:Nat)(h:i<5)(w:World):(Instr.indexAt 120 (.slice (sO b) 5 5) (U i)).run prog w=.ok (.pointer (some ⟨b,i,none⟩)) w:=by
 have a:(i:Int)<5:=by omega
 have c:(0:Int)<=(i:Int):=by omega
 go_simp
theorem GH{i:Nat}(h:i<5):vC[i]?=some (.string (dU (vN.getD i []))):=by
 have:i=0\/i=1\/i=2\/i=3\/i=4:=by omega
 rcases this with rfl|rfl|rfl|rfl|rfl<;>rfl
theorem IQ{i:Nat}(h:i<5):fC[i]?=some (.string (dU (fN.getD i []))):=by
 have:i=0\/i=1\/i=2\/i=3\/i=4:=by omega
 rcases this with rfl|rfl|rfl|rfl|rfl<;>rfl
theorem Ao(l):Lib.strCells (dU l)=Lib.byteCells l:=by unfold dU;simp[Lib.strCells,Lib.byteCells]
theorem mI(l m:Bs):Lib.byteCells (l++m)=Lib.byteCells l++Lib.byteCells m:=by simp[Lib.byteCells]
theorem qd(l:Bs):(Lib.byteCells l).length=l.length:=by simp[Lib.byteCells]
theorem ph(l):(dU l).size=l.length:=by simp[dU,ByteArray.size]
theorem j8(B b)(l m:Bs)(w)(h:dY B b (Lib.byteCells l) w)(a:l.length+m.length<=140737488355328)(d:B<=w.1.size):
  cL 187 #[.pointer (sO b),.string (dU m)] w λe c=>(∃n:Int,e=.returned (.tuple #[U n,.nilIface]))/\dY B b (Lib.byteCells (l++m)) c/\Below B w c/\iN b w c:=by
 refine(DI B b (Lib.byteCells l) (dU m) w h (by rw[qd,ph];exact a) d).mono ?_;rintro e c ⟨rfl,f,g,i⟩;rw[Ao,<-mI] at f;exact⟨⟨_,rfl⟩,.inr f,g,i⟩
theorem wT(B b)(l:Bs)(x:UInt8)(w)(h:dY B b (Lib.byteCells l) w)(a:l.length+1<=140737488355328)(d:B<=w.1.size):
  cL 213 #[.pointer (sO b),.int .u8 x.toNat] w λe c=>e=.returned .nilIface/\dY B b (Lib.byteCells (l++[x])) c/\Below B w c/\iN b w c:=by
 refine(FY B b (Lib.byteCells l) x.toNat w h (by rw[qd];exact a) d).mono ?_;rintro e c ⟨rfl,f,g,i⟩;refine⟨rfl,.inr ?_,g,i⟩;rw[mI];exact f
def sX(B b:Nat)(cs:Array Value)(kc ki kw i R:Nat)(O:Obj)(l nm:Bs)(W:World)(fs:Nat->Value->Prop)(w:World):Prop:=
 w.1[R]?=some O/\
 (∀v,fs kc v->∃a:Nat,v=.slice (sO a) 5 5/\w.1[a]?=some (.cells cs 9 (0,0))/\a≠b)/\
 (∀v,fs ki v->∃a:Nat,v=.pointer (some ⟨a,i,none⟩)/\w.1[a]?=some (.cells cs 9 (0,0))/\a≠b)/\
 ((∀v,¬fs kw v)->bL W w)/\((∃v,fs kw v)->dY B b (Lib.byteCells (l++nm)) w/\Below B W w/\W.1.size<=w.1.size)
def Jx(kc ki a i:Nat)(nm:Bs)(k:Nat)(v:Value):Prop:=if k=kc then ∃b:Nat,v=.slice (sO b) 5 5 else if k=ki then ∃b:Nat,v=.pointer (some ⟨b,i,none⟩) else if k=a then v=.string (dU nm) else ∃n:Int,v=.tuple #[U n,.nilIface]
theorem vh(kc ki kl i nm k):∃v,Jx kc ki kl i nm k v:=by
 unfold Jx
 split
 ·exact⟨_,0,rfl⟩
 split
 ·exact⟨_,0,rfl⟩
 split
 ·exact⟨_,rfl⟩
 exact⟨_,0,rfl⟩
def rK(R:Nat)(O:Obj):Type:={ w':World // w'.1[R]?=some O }
section
variable {B b:Nat} {cs:Array Value} {kc ki kw i R:Nat} {O:Obj} {l nm:Bs} {W w:World} {fs:Nat->Value->Prop}
theorem sX.start(h:W.1[R]?=some O):sX B b cs kc ki kw i R O l nm W (λ_ _=>False) W.drew:=⟨h,λ_ h=>h.elim,λ_ h=>h.elim,λ_=>bR.drew,λh=>h.elim λ_ h=>h.elim⟩
theorem sX.size(h:sX B b cs kc ki kw i R O l nm W fs w):W.1.size<=w.1.size:=by
 by_cases a:∃v,fs kw v
 ·exact(h.2.2.2.2 a).2.2
 exact(h.2.2.2.1 λv c=>a ⟨v,c⟩).size
theorem sX.call(h:sX B b cs kc ki kw i R O l nm W fs w)(p:ki≠kc)(q:kw≠kc)(s:b<W.1.size)(t:B<=W.1.size):sX B b cs kc ki kw i R O l nm W (d9 fs kc (.slice (sO w.1.size) 5 5)) (w.alloc (.cells cs 9)):=by
 have r:=h.size;have a:bL w (w.alloc (.cells cs 9)):=bR.alloc lE _;have d:∀k o,w.1[k]?=some o->(w.alloc (.cells cs 9)).1[k]?=some o:=λk o n=>(a.block k (io n)).trans n
 refine⟨d _ _ h.1,λv c=>?_,λv c=>?_,λj=>?_,λj=>?_⟩
 ·rcases c with c|⟨_,rfl⟩
  ·have⟨m,e,f,g⟩:=h.2.1 v c;exact⟨m,e,d _ _ f,g⟩
  exact⟨_,rfl,(Kr w _).1,by omega⟩
 ·rcases c with c|⟨e,_⟩
  ·have⟨m,e,f,g⟩:=h.2.2.1 v c;exact⟨m,e,d _ _ f,g⟩
  exact absurd e p
 ·exact Below.tO (h.2.2.2.1 λv c=>j v (.inl c)) a r
 obtain⟨v,c⟩:=j
 rcases c with c|⟨e,_⟩
 ·have⟨f,g,u⟩:=h.2.2.2.2 ⟨v,c⟩;exact⟨dY.l f a,g.trans (a.mono (by omega)),by simp;omega⟩
 exact absurd e q
theorem sX.idx{c:Nat}(h:sX B b cs kc ki kw i R O l nm W fs w)(g:kc≠ki)(j:kw≠ki)(d:fs kc (.slice (sO c) 5 5)):sX B b cs kc ki kw i R O l nm W (d9 fs ki (.pointer (some ⟨c,i,none⟩))) w:=by
 refine⟨h.1,λv a=>?_,λv a=>?_,λf=>h.2.2.2.1 λv a=>f v (.inl a),λf=>?_⟩
 ·rcases a with a|⟨e,_⟩
  ·exact h.2.1 v a
  exact absurd e g
 ·rcases a with a|⟨_,rfl⟩
  ·exact h.2.2.1 v a
  obtain⟨n,e,k,m⟩:=h.2.1 _ d;simp at e;subst e;exact⟨c,rfl,k,m⟩
 obtain⟨v,a⟩:=f
 rcases a with a|⟨e,_⟩
 ·exact h.2.2.2.2 ⟨v,a⟩
 exact absurd e j
theorem sX.other{k:Nat}{u}(h:sX B b cs kc ki kw i R O l nm W fs w)(d:kc≠k)(f:ki≠k)(g:kw≠k):sX B b cs kc ki kw i R O l nm W (d9 fs k u) w:=by
 refine⟨h.1,λv a=>?_,λv a=>?_,λc=>h.2.2.2.1 λv a=>c v (.inl a),λc=>?_⟩
 ·rcases a with a|⟨e,_⟩
  ·exact h.2.1 v a
  exact absurd e d
 ·rcases a with a|⟨e,_⟩
  ·exact h.2.2.1 v a
  exact absurd e f
 obtain⟨v,a⟩:=c
 rcases a with a|⟨e,_⟩
 ·exact h.2.2.2.2 ⟨v,a⟩
 exact absurd e g
theorem sX.name{v:Value}{d:Nat}(h:sX B b cs kc ki kw i R O l nm W fs w)(a:fs ki (.pointer (some ⟨d,i,none⟩)))(c:cs[i]?=some v):w.cell? ⟨d,i,none⟩=some v:=by obtain⟨g,e,f,_⟩:=h.2.2.1 _ a;simp at e;subst e;simp[World.cell?,f,c]
theorem sX.write(h:sX B b cs kc ki kw i R O l nm W fs w)(u:kc≠kw)(x:ki≠kw)(o:∀v,¬fs kw v)(f:dY B b (Lib.byteCells l) W)(y:∀c k,O≠.cells c 5 k)(z:R≠b)(g:l.length+nm.length<=140737488355328)(r:B<=W.1.size):
  cL 187 #[.pointer (sO b),.string (dU nm)] w λe s=>∃v,e=.returned v/\(∃n:Int,v=.tuple #[U n,.nilIface])/\sX B b cs kc ki kw i R O l nm W (d9 fs kw v) s:=by
 have a:=h.2.2.2.1 o;refine(j8 B b l nm w (dY.l f a) g (a.u r)).mono ?_;rintro e s ⟨⟨n,rfl⟩,A,C,m⟩;have t:∀c k,Obj.cells cs 9 (0,0)≠.cells c 5 k:=λc k e=>by simp at e
 refine⟨_,rfl,⟨n,rfl⟩,m.2 _ _ z h.1 y,λv d=>?_,λv d=>?_,λD=>absurd (.inr ⟨rfl,rfl⟩) (D _),λ_=>⟨A,(a.mono r).trans C,Kl a.size m.1⟩⟩
 ·rcases d with d|⟨e,_⟩
  ·have⟨p,e,q,j⟩:=h.2.1 v d;exact⟨p,e,m.2 _ _ j q t,j⟩
  exact absurd e u
 rcases d with d|⟨e,_⟩
 ·have⟨p,e,q,j⟩:=h.2.2.1 v d;exact⟨p,e,m.2 _ _ j q t,j⟩
 exact absurd e x
end
end
theorem ro(B lv ls w)(C:cD B w lv ls)(s:B<=w.1.size):
  cL 44 #[lv] w (rT w (U (bl ls))):=by
 have F:=Z λr (h:bL w r)=>C.l h s
 obtain⟨a,G,rfl,I,J,-⟩:=C;have K:=ai;have t:Hid (bl ls=if 6<ls.length then 2 else dK ls):=rfl;generalize l:ls.length=c at*;have d:=Z l;clear l
 by_cases D:6<c
 ·have u:(6:Int)<(c:Int):=by omega
  have i:=Z (by rw[t.o,Io D]:bl ls=2);go_enter func44,ntmps44;go_wp2;go_ret;exact⟨by rw[i.o];rfl,Kf _ _⟩
 have u:¬(6:Int)<(c:Int):=by omega
 have i:=Z (by rw[t.o,iO D]:bl ls=dK ls);clear t;go_enter func44,ntmps44;go_wp2;go_loopw [11] (λv wr=>∃k:Nat,k<=c/\v=U k/\Hid (dK ls=dK (ls.drop k))/\bL w wr) (λv _=>c-(intOf v).toNat)
 case atStart=>exact⟨0,by omega,rfl,rfl,Kf _ _⟩
 case round=>
  obtain⟨k,Q,rfl,H,g⟩:=hrel;have⟨L,x⟩:=nM (wr);subst x;have R:(0:Int)<=(k:Int):=by omega
  have j:=g.size
  by_cases M:k<c
  ·have T:(k:Int)<(c:Int):=by omega
   obtain⟨f,y⟩:∃f,ls[k]?=some f:=⟨ls[k]'(by rw[d.o];omega),by simp⟩;have S:=Z (qn ls k f y);obtain⟨_,_,E,-,-,q⟩:=F.o _ g;have⟨b,o,N,e,O,V,z⟩:=q k f y;simp at E;obtain⟨rfl,-,-⟩:=E;subst e;clear q;have m:=Z λr (h:bL L r)=>qF B N f r (z.l h (Kl s j)) (Kl s (h.u j))
   obtain⟨W,X,rfl,-,-⟩:=z.shape;clear z y;generalize f.length=Y at*
   by_cases p:aV f=0
   ·rw[p] at m;have A:=Z (by rw[H.o,S.o,Io p]:dK ls=dK (ls.drop (k+1)));clear p S;go_wp2_with (first|(go_at_call 74;go_must (refine(m.o _ bR).mono ?_;rintro e P ⟨rfl,n⟩)));exact⟨⟨k+1,by omega,by go_num,A,Below.tO g n j⟩,by simp[intOf];omega⟩
   have A:=Z (by rw[H.o,S.o,iO p]:dK ls=aV f);have hq:(aV f != 0)=true:=by simpa using p
   clear p S;generalize aV f=pe at*;go_wp2_with (first|(go_at_call 74;go_must (refine(m.o _ bR).mono ?_;rintro e P ⟨rfl,n⟩)));go_ret;exact⟨by rw[i.o,A.o];rfl,Below.tO g n j⟩
  go_wp2;go_ret;exact⟨by rw[i.o,H.o,KJ (by rw[d.o];omega)];rfl,g⟩
theorem uC(B cv dv cs b w)(d:dR B w cv cs)(f:dR B w dv b)(h:B<=w.1.size):
  cL 120 #[cv,dv] w (rT w (.bool (decide (cs=b)))):=by
 have i:=Z (qj B cv dv cs b w d f h);obtain⟨a,c,rfl,-,-⟩:=d.shape;obtain⟨j,k,rfl,-,-⟩:=f.shape;clear d f;generalize decide (cs=b)=eq at*;generalize cs.length=n at*;generalize b.length=l at*;go_enter func120,ntmps120;go_wp2_with (first|(go_at_call 84;go_must (refine i.o.mono ?_;rintro e m ⟨rfl,g⟩)));go_ret;exact⟨rfl,g⟩
theorem xi(B lv mv ls ms w)(L:cD B w lv ls)(M:cD B w mv ms)(E:B<=w.1.size):
  cL 82 #[lv,mv,.func (.func 120) #[] #[]] w (rT w (.bool (decide (ls=ms)))):=by
 have T:=Z λF (h:bL w F)=>L.l h E
 have V:=Z λF (h:bL w F)=>M.l h E
 obtain⟨a,W,rfl,X,Y,-⟩:=L;obtain⟨a',N,rfl,O,P,-⟩:=M;have a0:=ai;have Q:Hid (ls.length≠ms.length->decide (ls=ms)=false):=λh=>KD λe=>h (by rw[e])
 generalize p:ls.length=n at*;generalize i:ms.length=m at*;have j:=Z p;have c:=Z i;clear p i
 by_cases x:n=m
 ·subst x;clear Q;go_enter func82,ntmps82;go_wp2;go_loopw [17] (λG wr=>∃k:Nat,k<=n/\G=U k/\Hid (ls.take k=ms.take k)/\bL w wr) (λG _=>n-(intOf G).toNat)
  case atStart=>exact⟨0,by omega,rfl,by unfold Hid;simp,Kf _ _⟩
  case round=>
   obtain⟨k,hk,rfl,H,d⟩:=hrel;have⟨wo,I⟩:=nM (wr);subst I;have i0:(0:Int)<=(k:Int):=by omega
   have r:=d.size
   by_cases a4:k<n
   ·have i1:(k:Int)<(n:Int):=by omega
    obtain⟨f,y⟩:∃f,ls[k]?=some f:=⟨ls[k]'(by rw[j.o];omega),by simp⟩;obtain⟨g,D⟩:∃g,ms[k]?=some g:=⟨ms[k]'(by rw[c.o];omega),by simp⟩;have S:=Z (sD ls ms k f g y D H.o);have J:Hid (f≠g->decide (ls=ms)=false):=λh=>KD λe=>h (by rw[e,D] at y;simpa using y.symm)
    obtain⟨_,_,z,-,-,A⟩:=T.o _ d;have⟨b,o,fv,e,a6,hc,K⟩:=A k f y;simp at z;obtain⟨rfl,-,-⟩:=z;subst e;obtain⟨_,_,z,-,-,q⟩:=V.o _ d;have⟨b',o',gv,e,R,a8,s⟩:=q k g D;simp at z;obtain⟨rfl,-,-⟩:=z;subst e;clear A q;have l:=Z (uC B fv gv f g wo K s (Kl E r));obtain⟨a2,c2,rfl,-,-⟩:=K.shape;obtain⟨a3,c3,rfl,-,-⟩:=s.shape;clear K s y D;generalize f.length=n2 at*;generalize g.length=n3 at*
    by_cases v:f=g
    ·have t:=Z (S.o.2 v);rw[KS v] at l;clear v S J;go_wp2_with (first|(go_at_call 120;go_must (refine l.o.mono ?_;rintro e w2 ⟨rfl,u⟩)));exact⟨⟨k+1,by omega,by go_num,t,Below.tO d u r⟩,by simp[intOf];omega⟩
    have t:=Z (J.o v);rw[KD v] at l;clear v S J;go_wp2_with (first|(go_at_call 120;go_must (refine l.o.mono ?_;rintro e w2 ⟨rfl,u⟩)));go_ret;exact⟨by rw[t.o];rfl,Below.tO d u r⟩
   have t:Hid (decide (ls=ms)=true):=by apply KS;have:=H.o;rw[Ki (by rw[j.o];omega),Ki (by rw[c.o];omega)] at this;exact this
   go_wp2;go_ret;exact⟨by rw[t.o];rfl,d⟩
 have C:¬(n:Int)=(m:Int):=by omega
 have t:=Z (Q.o x);have hq:((n:Int) != (m:Int))=true:=by simpa using C
 go_enter func82,ntmps82;go_wp2;go_ret;exact⟨by rw[t.o];rfl,Kf _ _⟩
theorem EI(B lv mv ls b w)(d:cD B w lv ls)(f:cD B w mv b)(h:B<=w.1.size):
  cL 94 #[lv,mv] w (rT w (.bool (decide (ls=b)))):=by
 have i:=Z (xi B lv mv ls b w d f h);obtain⟨a,c,rfl,-,-⟩:=d.shape;obtain⟨j,k,rfl,-,-⟩:=f.shape;clear d f;generalize decide (ls=b)=eq at*;generalize ls.length=n at*;generalize b.length=l at*;go_enter func94,ntmps94;go_wp2_with (first|(go_at_call 82;go_must (refine i.o.mono ?_;rintro e m ⟨rfl,g⟩)));go_ret;exact⟨rfl,g⟩
theorem Fi(B h:Nat)(fv f)(x:Nat->Int)(w)(d:dR B w fv f)(j:B<=w.1.size)(i:w.1[h]?=some (.cells (fJ x) 34 (0,0))):
  cL 46 #[fv,.pointer (sO h)] w (rT w (U (og f x).1)):=by
 have k:=Z (Ir B fv f x w d j);obtain⟨a,c,rfl,-,-⟩:=d.shape;have b:=(eD i).1;have l:=b 0 (by omega);have m:=b 1 (by omega);have o:=b 2 (by omega);have p:=b 3 (by omega);have q:=b 4 (by omega);clear d b i;generalize f.length=n at*;generalize (og f x).1=r at*;generalize (og f x).2=s at*;generalize rt f x=t at*;go_enter func46,ntmps46;go_wp2_with (first|(go_at_call 47;go_must (refine k.o.mono ?_;rintro e u ⟨rfl,g⟩)));go_ret;exact⟨rfl,g⟩
theorem Hn(B lv ls)(x:Nat->Int)(w)(W:cD B w lv ls)(V:B<=w.1.size):
  cL 20 #[lv,jm x] w (rT w (.tuple #[U (t6 ls x),U (mQ ls x)])):=by
 have HL:Hid (∀c,bL w c->cD B c lv ls):=λc h=>W.l h V
 have HC:Hid (∀c,bL w c->cL 44 #[lv] c (rT c (U (bl ls)))):=λc h=>ro B lv ls c (W.l h V) (h.u V)
 have r:Hid (∀c,cL 45 #[.agg #[U (x 0),U (x 1),U (x 2),U (x 3),U (x 4)]] c (rT c (U (eC x)))):=λc=>pN (x 0) (x 1) (x 2) (x 3) (x 4) c
 have s:Hid (mQ ls x=if bl ls=0 then eC x else bl ls):=rfl;have j:Hid (t6 ls x=if mQ ls x=0 then fB x 4 ls else 0):=rfl;have D:Hid (bl ls=0->∀f∈ls,aV f=0):=λh=>(fA.1 h).2
 have t:Hid (eC x=0->∀f,aV f=0->(og f x).1=(dJ x 0 0 f).1):=λh f H=>by
  have hE:rt f x=0:=by rw[rt,Io H,h]
  rw[og,Io hE]
 obtain⟨a,X,rfl,b0,b1,-⟩:=W;have b2:=ai;generalize v:ls.length=l at*;have m:=Z v;clear v;show cL 20 #[.slice a l X,.agg #[U (x 0),U (x 1),U (x 2),U (x 3),U (x 4)]] w _;have⟨Y,n⟩:=nM (w.alloc (.cells #[U (x 0),U (x 1),U (x 2),U (x 3),U (x 4)] 34));have u:=bA n;have b3:=sA n;have hm:=hA n;have HX:Hid (∀c,bL Y c->Na c w.1.size (fJ x) 34):=λc h=>(h.block w.1.size (by omega)).trans hm
 have HW:Hid _:=n;clear n hm;go_enter func20,ntmps20;go_wp2_with fail;rw[<-HW.o];go_at_call 44;refine(HC.o _ u).mono ?_;rintro e w1 ⟨rfl,p⟩;have a0:=p.size;have y:bL w w1:=u.th p;have I:=(eD (HX.o w1 p)).1;have y0:=I 0 (by omega);have y1:=I 1 (by omega);have y2:=I 2 (by omega);have y3:=I 3 (by omega);have y4:=I 4 (by omega);clear I HC
 by_cases d:bl ls=0
 ·have J:Hid (∀f∈ls,aV f=0):=D.o d;have i:Hid (mQ ls x=eC x):=by unfold Hid;rw[s.o,Io d]
  rw[d];clear d D s;go_wp2_with fail;go_at_call 45;refine(r.o _).mono ?_;rintro e w2 ⟨rfl,E⟩;have ba:=E.size;have z:bL Y w2:=Below.tO p E a0;have K:bL w w2:=u.th z;clear y0 y1 y2 y3 y4 p E y
  by_cases g:eC x=0
  ·have A:Hid (mQ ls x=0/\t6 ls x=fB x 4 ls):=by
    have e:mQ ls x=0:=by rw[i.o,g]
    exact⟨e,by rw[j.o,Io e]⟩
   have L:Hid (∀f,aV f=0->(og f x).1=(dJ x 0 0 f).1):=t.o g;rw[g];clear g i j t r;go_wp2_with fail;go_loopw [9,25] (λvv iv wr=>∃k:Nat,k<=l/\iv=U k/\vv=U (fB x 4 (ls.take k))/\Hid (bL Y wr)) (λ_ iv _=>l-(intOf iv).toNat)
   case atStart=>exact⟨0,by omega,rfl,rfl,z⟩
   case round=>
    obtain⟨k,hk,rfl,rfl,q⟩:=hrel;have⟨M,a3⟩:=nM (wr);subst a3;have i0:(0:Int)<=(k:Int):=by omega
    have N:=q.o.size;have F:Hid (bL w M):=u.th q.o
    by_cases bc:k<l
    ·have i1:(k:Int)<(l:Int):=by omega
     obtain⟨f,H⟩:∃f,ls[k]?=some f:=⟨ls[k]'(by rw[m.o];omega),by simp⟩;have S:Hid (fB x 4 (ls.take (k+1))=if (dJ x 0 0 f).1<fB x 4 (ls.take k) then (dJ x 0 0 f).1 else fB x 4 (ls.take k)):=yA x ls k f H;obtain⟨_,_,e1,-,-,O⟩:=HL.o _ F.o;have⟨b,o,fv,e,bd,hc,hi⟩:=O k f H;simp at e1;obtain⟨rfl,-,-⟩:=e1;subst e;have P:=J.o f (Kb H);clear O;have Q:Hid (cL 46 #[fv,.pointer (MZ w)] M (rT M (U (dJ x 0 0 f).1))):=by have:=Fi B w.1.size fv f x M hi (F.o.u V) (HX.o M q.o);rw[L.o f P] at this;exact this
     obtain⟨a2,c2,rfl,-,-⟩:=hi.shape;clear hi H P;generalize f.length=n2 at*;generalize (dJ x 0 0 f).1=R at*;generalize fB x 4 (ls.take k)=C at*
     by_cases he:R<C
     ·have S':Hid (R=fB x 4 (ls.take (k+1))):=by unfold Hid;rw[S.o,Io he]
      have T:min C R=R:=by omega
      clear S;go_wp2_with (first|(go_at_call 46;go_must (refine Q.o.mono ?_;rintro e w3 ⟨rfl,G⟩)))
      all_goals first|(exfalso;omega)|skip
      exact⟨⟨k+1,by omega,by go_num,by rw[S'.o],Below.tO q.o G N⟩,by simp[intOf];omega⟩
     have S':Hid (C=fB x 4 (ls.take (k+1))):=by unfold Hid;rw[S.o,iO he]
     have T:min C R=C:=by omega
     clear S;go_wp2_with (first|(go_at_call 46;go_must (refine Q.o.mono ?_;rintro e w3 ⟨rfl,G⟩)))
     all_goals first|(exfalso;omega)|skip
     exact⟨⟨k+1,by omega,by go_num,by rw[S'.o],Below.tO q.o G N⟩,by simp[intOf];omega⟩
    have e:ls.take k=ls:=Ki (by rw[m.o];omega);rw[e];have HV:Hid (∃C,C=fB x 4 ls):=⟨_,rfl⟩;obtain⟨C,hv⟩:=HV.o;rw[<-hv];have a7:=Z hv;clear hv HV;go_wp2_with fail;go_ret2;exact⟨by rw[A.o.1,A.o.2,<-a7.o];rfl,F.o⟩
  have A:Hid (mQ ls x=eC x/\t6 ls x=0):=by have e:mQ ls x=eC x:=i.o;exact⟨e,by rw[j.o,iO (by rw[e];exact g)]⟩
  have hq:(eC x != 0)=true:=by simpa using g
  clear g i j t r;generalize eC x=cx at*;go_wp2_with fail;go_ret2;exact⟨by rw[A.o.1,A.o.2];rfl,K⟩
 have A:Hid (mQ ls x=bl ls/\t6 ls x=0):=by
  have e:mQ ls x=bl ls:=by rw[s.o,iO d]
  exact⟨e,by rw[j.o,iO (by rw[e];exact d)]⟩
 have hq:(bl ls != 0)=true:=by simpa using d
 clear d s j t r D;generalize bl ls=ce at*;go_wp2_with fail;go_ret2;exact⟨by rw[A.o.1,A.o.2];rfl,y⟩
