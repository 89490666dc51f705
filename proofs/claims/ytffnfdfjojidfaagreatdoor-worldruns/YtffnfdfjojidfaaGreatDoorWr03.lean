import Derived.Test.YtffnfdfjojidfaaGreatDoorWr01
import Derived.Lib.AppendZerosOnto
set_option linter.all false
set_option maxRecDepth 100000
set_option maxHeartbeats 1000000
namespace Go.Proofs.YtffnfdfjojidfaaGreatDoor
open Go.RowKit Go.Maps Go.Proofs.Tryz
theorem zL(x:Nat->Int)(cs)(v:Int):(!decide (0<=aR (λc=>!dQ x c) 0 cs))=bu x (cs,v):=by rw[s8];unfold bu;simp[List.all_eq_not_any_not]
theorem zM(B cv cs)(x:Nat->Int)(bx w)(d:bG B w cv cs)(h:B<=w.1.size)(a:∀c∈cs,0<=c.1/\c.1<5)(f:rA w bx x)(i:bx<w.1.size):
  cL 274 #[cv,.func (.func 270) #[] #[.pointer (sO bx)]] w λe g=>e=.returned (.bool (decide (0<=aR (λc=>!dQ x c) 0 cs)))/\bL w g:=by
 have j:=xf B cv cs x bx w d h a f i;generalize aR (λc=>!dQ x c) 0 cs=z at*;clear f d a;go_enter func274,ntmps274;go_wp2_with (first|(go_at_call 278;refine j.mono ?_;rintro e g ⟨rfl,b⟩));go_ret;exact⟨rfl,b⟩
def nt(a:Nat):Value:=.func (.func 270) #[] #[.pointer (sO a)]
theorem xI(B cv)(r:aq)(x:Nat->Int)(g h:Nat)(w)(q:bG B w cv r.1)(y:B<=w.1.size)(i:bH r=0)(s:rA w g x)(A:g<w.1.size)(t:w.cell? (pA h 0)=some (nt g))(k:h<w.1.size):
  cL 273 #[.agg #[cv,U r.2],.pointer (sO h)] w (rT w (.bool (bu x r))):=by
 obtain⟨f,u⟩:=r;have b:∀c∈f,0<=c.1/\c.1<5:=λc C=>(ft (fy (dy i).2.2 c C)).1
 have j:∀X,bL w (w.alloc X):=λX=>bR.alloc lE _
 have d:∀X,cL 274 #[cv,nt g] (w.alloc X) λe v=>e=.returned (.bool (decide (0<=aR (λc=>!dQ x c) 0 f)))/\Below (w.alloc X).1.size (w.alloc X) v:=λX=>zM B cv f x g _ (q.l (j X) y) (by simp;omega) b (s.l (j X) A) (by simp;omega)
 have E:=Z (zL x f u);obtain⟨a,l,rfl,_,_,_⟩:=q;clear s i b;show cL 273 #[.agg #[.slice a f.length l,U u],.pointer (sO h)] w _;have m:∀X,(w.alloc X).cell? (pA h 0)=some (nt g):=λX=>((j X).cell (p:=pA h 0) k).trans t
 clear t;generalize f.length=n at*;generalize aR (λc=>!dQ x c) 0 f=z at*;unfold nt at m d;go_enter func273,ntmps273;go_wp2_with (first|(go_at_call 274;refine(d _).mono ?_;rintro e v ⟨rfl,o⟩));go_ret;exact⟨by rw[<-E.o];rfl,Below.tO (j _) o (by simp)⟩
theorem xB(B rv rs)(x:Nat->Int)(u j:Nat)(w)(L:bD B w rv rs)(M:B<=w.1.size)(v:∀r∈rs,bH r=0)(G:rA w u x)(N:u<w.1.size)(I:w.cell? (pA j 0)=some (nt u))(y:j<w.1.size):
  cL 272 #[rv,.func (.func 273) #[] #[.pointer (sO j)]] w (rT w (U (aR (bu x) 0 rs))):=by
 obtain⟨a,O,rfl,P,Q,l⟩:=L;have m:=Z l;have z:=Z G;have A:=Z I;clear l G I;generalize X:rs.length=n at*;have R:n<=9223372036854775807:=by have:=ai;omega
 go_enter func272,ntmps272;go_wp2;go_loopw [8] (λi wr=>∃k:Nat,k<=n/\i=U k/\Hid (aR (bu x) 0 rs=aR (bu x) k (rs.drop k))/\bL w wr) (λi _=>n-(intOf i).toNat)
 case atStart=>exact⟨0,by omega,rfl,rfl,Kf _ _⟩
 case round=>
  obtain⟨k,Y,rfl,H,d⟩:=hrel;have i0:(0:Int)<=(k:Int):=by omega
  by_cases T:k<n
  ·have i1:(k:Int)<(n:Int):=by omega
   obtain⟨c,g⟩:∃c,rs[k]?=some c:=⟨rs[k]'(by omega),by simp⟩;have q:=Kb g;obtain⟨b,o,rfl,C,s⟩:=m.o k c g;have S:=Z (ku (bu x) rs k c g);have D:=v c q;have⟨J,c0,c1,w0,f⟩:=s.l d M C;have V:=d.size
   have h:Hid (cL 273 #[.agg #[J,U c.2],.pointer (sO j)] wr (rT wr (.bool (bu x c)))):=
    xI B J c x u j wr f (by omega) D (z.o.l d N) (by omega) ((d.cell (p:=pA j 0) y).trans A.o) (by omega)
   obtain⟨a2,K,rfl,_,_,_⟩:=f;clear s;generalize c.1.length=m2 at*;go_wp2_with (first|(go_at_call 273;refine h.o.mono ?_;rintro e W ⟨rfl,E⟩))
   all_goals have t:bL w W:=d.th E
   ·have F:bu x c=true:=by assumption
    go_ret;exact⟨by rw[H.o,S.o,Io F];rfl,t⟩
   have F:¬bu x c=true:=by simp_all
   exact⟨⟨k+1,by omega,by go_num,by unfold Hid;rw[H.o,S.o,iO F],t⟩,by simp[intOf];omega⟩
  go_wp2;go_ret;exact⟨by rw[H.o,KJ (by omega)];rfl,d⟩
theorem J5(d:Nat)(f op v f2 op2 v2)(w:World):(Op.equalIn (d+3) 136 (.agg #[U f,U op,U v]) (.agg #[U f2,U op2,U v2])).run prog w=.ok (decide (((f,op,v):aN)=(f2,op2,v2))) w:=by
 have h:=underlying3;have i:=Tryz.isAgg3;have j:=Tryz.sizeOf3;have a:prog.underlying 136=some (.struct (prog.fieldsOf 136)):=by kernel_rfl
 have b:prog.stoodInHeld 136=false:=by kernel_rfl
 rw[run_equalIn_agg w (d+2) 136 _ _ a b];simp only[Program.fieldsOf,Tryz.underlying136];go_simp
 by_cases c:f=f2<;>by_cases e:op=op2<;>by_cases g:v=v2<;>simp[c,e,g]
theorem Ij(f op v f2 op2 v2)(w:World):(binOp .neq 136 (.agg #[U f,U op,U v]) (.agg #[U f2,U op2,U v2])).run prog w=.ok (.bool (!decide (((f,op,v):aN)=(f2,op2,v2)))) w:=by rw[run_neq_struct,show (10000:Nat)=9997+3 from rfl,J5];rfl
theorem F9(a:BinOp)(x y:Operand)(xs ys:Array Value)(w:World):(eqGuard a 136 x y (.agg xs) (.agg ys)).run prog w=.ok () w:=run_eqGuard_agg _ _ _ _ _ _ _ (by kernel_rfl)
theorem oo{c:Array Oper}{C:World->Prop}{Q:Act->Prop}{a:Act}{o:Oper}{b:List Oper}(x y:Operand)(t:TypeId)(iY:o.op=.binOp .neq 136 x y t)(d:Region.wanted o (yielded c a.tmps)=true)
  (f op v f2 op2 v2) (g:a.eval x=.agg #[U f,U op,U v]) (i:a.eval y=.agg #[U f2,U op2,U v2])
  (q:Bool) (j:(!decide (((f,op,v):aN)=(f2,op2,v2)))=q) (h:wpQuiet prog c C Q b (a.put o.dst (.bool q))):wpQuiet prog c C Q (o :: b) a:=by
 subst j
 refine BigFrame.wpQuiet_want d λK k=>⟨_,λw _=>?_,k _ h⟩
 unfold Oper.quietAt execOp;rw[iY];simp only[g,i];have e:((do eqGuard .neq 136 x y (.agg #[U f,U op,U v]) (.agg #[U f2,U op2,U v2]);binOp .neq 136 (.agg #[U f,U op,U v]) (.agg #[U f2,U op2,U v2])):Sem Value).run prog w=.ok (.bool (!decide (((f,op,v):aN)=(f2,op2,v2)))) w:=by simp only[Lj,F9,Ij,Result.andThen]
 simp only[Lj,e,Result.andThen];exact⟨rfl,rfl⟩
theorem oM(B cv dv cs ds w)(hc:bG B w cv cs)(D:bG B w dv ds)(hB:B<=w.1.size):
  cL 85 #[cv,dv] w (rT w (.bool (decide (cs=ds)))):=by
 obtain⟨a,a5,rfl,a6,a7,E⟩:=hc;obtain⟨a2,P,rfl,F,Q,G⟩:=D;have I:=Z E;have J:=Z G;clear E G
 by_cases l:cs.length=ds.length
 ·generalize hn:cs.length=n at*;have R:=l.symm;clear l;rw[R] at F;simp only[R];have a8:n<=9223372036854775807:=by have:=ai;omega
  go_enter func85,ntmps85;go_wp2;go_loopw [13] (λi wr=>∃k:Nat,k<=n/\i=U k/\Hid (∀i,i<k->cs[i]?=ds[i]?)/\bL w wr) (λi _=>n-(intOf i).toNat)
  case atStart=>exact⟨0,by omega,rfl,λi h=>absurd h (by omega),Kf _ _⟩
  case round=>
   obtain⟨k,hk,rfl,H,e⟩:=hrel;have i0:(0:Int)<=(k:Int):=by omega
   by_cases a9:k<n
   ·have i1:(k:Int)<(n:Int):=by omega
    obtain⟨c,s⟩:∃c,cs[k]?=some c:=⟨cs[k]'(by omega),by simp⟩;obtain⟨d,t⟩:∃d,ds[k]?=some d:=⟨ds[k]'(by omega),by simp⟩;obtain⟨b,o,rfl,aa,K⟩:=I.o k c s;obtain⟨L,M,rfl,S,p⟩:=J.o k d t;have q:=Z s;have r:=Z t;clear s t;have⟨T,V,W,w0,w1,w2⟩:=K.l e (by omega);have⟨X,Y,d2,_,_,_⟩:=p.l e (by omega);obtain⟨f,z,v⟩:=c;obtain⟨A,g,C⟩:=d;simp only[] at T V W X Y d2;clear K p;go_wp2;have ac:=e.size;have l:=ax.ne wr;have ad:∀x:ax wr,x.1.cell? ⟨b,o+k*3,none⟩=some (U f):=λx=>x.cell T (by omega)
    have ae:∀x:ax wr,x.1.cell? ⟨b,o+k*3+1,none⟩=some (U z):=λx=>x.cell V (by omega)
    have af:∀x:ax wr,x.1.cell? ⟨b,o+k*3+2,none⟩=some (U v):=λx=>x.cell W (by omega)
    have ak:∀x:ax wr,x.1.cell? ⟨L,M+k*3,none⟩=some (U A):=λx=>x.cell X (by omega)
    have al:∀x:ax wr,x.1.cell? ⟨L,M+k*3+1,none⟩=some (U g):=λx=>x.cell Y (by omega)
    have ao:∀x:ax wr,x.1.cell? ⟨L,M+k*3+2,none⟩=some (U C):=λx=>x.cell d2 (by omega)
    by_cases j:((f,z,v):aN)=(A,g,C)
    ·have u:=Z j;have D:=Z (by simp[j]:(!decide (((f,z,v):aN)=(A,g,C)))=false);clear j;refine aW (by kernel_rfl) (by kernel_rfl) ?_;repeat(go_big_quiet_step (fail))
     refine oo _ _ _ rfl rfl f z v A g C rfl rfl _ D.o ?_;refine Km ?_;rintro wx ⟨⟨_,N⟩,rfl⟩;have y:=e.th N;go_wp2;refine⟨⟨k+1,by omega,by go_num,λi hi=>?_,y⟩,by simp[intOf];omega⟩
     by_cases O:i=k
     ·subst O;rw[q.o,r.o,u.o]
     exact H.o i (by omega)
    have u:=Z j;have D:=Z (by rw[KD j];rfl:(!decide (((f,z,v):aN)=(A,g,C)))=true);clear j;refine aW (by kernel_rfl) (by kernel_rfl) ?_;repeat(go_big_quiet_step (fail))
    refine oo _ _ _ rfl rfl f z v A g C rfl rfl _ D.o ?_;refine Km ?_;rintro wx ⟨⟨_,N⟩,rfl⟩;have y:=e.th N;go_wp2;go_ret;refine⟨?_,y⟩;have:cs≠ds:=by intro h;have h1:=q.o;rw[h,r.o] at h1;exact u.o (KG h1).symm
    simp[this]
   go_wp2;go_ret;refine⟨?_,e⟩
   have:cs=ds:=by
    refine LD λi=>?_
    by_cases hi:i<k
    ·exact H.o i hi
    rw[KP (by omega),KP (by omega)]
   simp[this]
 have b0:((cs.length:Int) != (ds.length:Int))=true:=by simp;omega
 have hf:=Z (by simp;intro h;rw[h] at l;exact l rfl:decide (cs=ds)=false);generalize cs.length=n at*;generalize ds.length=m at*;go_enter func85,ntmps85;go_wp2;go_ret;exact⟨by rw[hf.o];rfl,Kf _ _⟩
section
theorem ab{w:World}{b:Nat}{a:Array Value}{T}{c:Nat × Nat}(h:w.1[b]?=some (.cells a T c))(o:Nat){u:Value}(d:a[o]?=some u):w.cell? ⟨b,o,none⟩=some u:=by simp[World.cell?,h,d]
theorem ah(w:World)(o:Obj):(w.alloc o).1[w.1.size]?=some o:=(Kr w o).1
def fh(T:TypeId)(W d:World):Prop:=∀ (k:Nat) (a:Array Value) (b:TypeId) (c:Nat × Nat),W.1[k]?=some (.cells a b c)->b≠T->d.1[k]?=some (.cells a b c)
theorem fh.refl(T W):fh T W W:=λ_ _ _ _ h _=>h
theorem fh.trans{T A B C}(h:fh T A B)(e:fh T B C):fh T A C:=λk a b c f d=>e k a b c (h k a b c f d) d
theorem fh.of_below{T W W'}(h:bL W W'):fh T W W':=λk b c d a _=>(h.block k (io a)).trans a
theorem fh.drew{T W W'}(h:fh T W W'):fh T W W'.drew:=h
theorem fh.alloc{T W W'}(h:fh T W W')(o:Obj):fh T W (W'.alloc o):=h.trans (fh.of_below (bR.alloc lE _))
theorem fh.grown{T:TypeId}{W b:World}{base size n:Nat}{v:Value}{xs:List Value}(e:W.ownsRow base T size v n xs)(f:W.grownBy b v.ownBlock):fh T W b:=by
 intro k g j l a i;refine(f.block k (io a) λh=>?_).trans a;have⟨c,d⟩:=cX e k h.symm;rw[a] at d
 cases d;exact i rfl
section
variable {P:Program} {t e:TypeId} {inf:TypeInfo} {z:Value} {size bytes:Nat}
theorem uM(s:P.underlying t=some (.slice e))(w:P.info? e=some inf)(x:inf.zero=some z)(f:inf.size=size)(l:inf.bytes=bytes)(o:z.cells.size=size)(p:0<size)
  (base:Nat) (q:TypeId) (v:Value) (n m g:Nat) (xs a:List Value) (W:World) {T0} {y:Nat × Nat} (b:W.ownsRow base e size v n xs) (A:W.1[g]?=some (.cells a.toArray T0 y)) (B:a.length=m*size) (C:∀u∈a,u.oneCell'=true)
  (D:n+m<=maxLen) (E:(n+m)*bytes<=140737488355328) (d:base<=W.1.size) (c):
  ∃i h,(Builtin.append_ #[t,t] q #[v,.slice (sO g) m c]).run P W=.ok i h/\h.ownsRow base e size i (n+m) (xs++a)/\Below base W h/\fh e W h:=by
 have⟨i,h,F,G,r,_⟩:=LB (P:=P) W base t q e inf z size bytes s w x f l o p v n xs b (pA g 0) m c a B (λj u H=>by rw[eM];simpa [World.cell?,A] using H) C D E d;exact⟨i,h,F,G,bR.grown r d λk I=>eh b k I,fh.grown b r⟩
def lA(e:TypeId)(size base:Nat)(W:World)(v:Value)(n m:Nat)(xs a:List Value)(d c:Nat)(b:Nat->Value->Prop)(w:World):Prop:=
 Below base W w/\fh e W w/\
 ((∀u,¬b c u)->w.ownsRow base e size v n xs/\bL W w/\∀u,b d u->∃g f h,u=.slice (sO g) m m/\w.1[g]?=some (.cells a.toArray f h))/\
 (∀u,b c u->w.ownsRow base e size u (n+m) (xs++a))
theorem lA.start{base:Nat}{W:World}{v:Value}{n m:Nat}{xs a:List Value}{k1 k2}(h:W.ownsRow base e size v n xs):lA e size base W v n m xs a k1 k2 (λ_ _=>False) W.drew:=
 ⟨bR.drew,fh.refl _ _,λ_=>⟨h,bR.drew,λ_ h=>h.elim⟩,λ_ h=>h.elim⟩
theorem lA.l{base W w w' v n m xs news k1 k2}{j:Nat->Value->Prop}(h:lA e size base W v n m xs news k1 k2 j w)(d:base<=W.1.size)(f:bL w w'):lA e size base W v n m xs news k1 k2 j w':=by obtain⟨k,o,p,q⟩:=h;refine⟨Below.tO k f (k.u d),o.trans (fh.of_below f),λr=>?_,λu i=>aw (q u i) f⟩;have⟨a,b,c⟩:=p r;refine⟨aw a f,b.th f,λu i=>?_⟩;have⟨g,s,t,x,l⟩:=c u i;exact⟨g,s,t,x,(f.block g (io l)).trans l⟩
theorem lA.other{base W w v n m xs news k1 k2}{i:Nat->Value->Prop}(h:lA e size base W v n m xs news k1 k2 i w)(k:Nat)(u)(f:k1≠k)(g:k2≠k):lA e size base W v n m xs news k1 k2 (d9 i k u) w:=by
 obtain⟨j,l,o,p⟩:=h;refine⟨j,l,λq=>?_,λy d=>?_⟩
 ·have⟨a,b,c⟩:=o λy d=>q y (.inl d)
  refine⟨a,b,λy d=>?_⟩
  rcases d with d|⟨h,_⟩
  ·exact c y d
  exact absurd h f
 rcases d with d|⟨h,_⟩
 ·exact p y d
 exact absurd h g
theorem lA.call{base W w w' v n m xs news k1 k2}{d:Nat->Value->Prop}(h:lA e size base W v n m xs news k1 k2 d w)(a:base<=W.1.size)(f:bL w w')(k:Nat)(u)(b:k1≠k)(c:k2≠k):lA e size base W v n m xs news k1 k2 (d9 d k u) w':=(h.l a f).other k u b c
theorem lA.lit{base W w v n m xs news k1 k2}{g:Nat->Value->Prop}(h:lA e size base W v n m xs news k1 k2 g w)(f:base<=W.1.size)(i:k2≠k1)(T0):lA e size base W v n m xs news k1 k2 (d9 g k1 (.slice (sO w.1.size) m m)) (w.alloc (.cells news.toArray T0)):=by
 have⟨j,k,l,o⟩:=h.l f ((Kf w.1.size w).alloc lE (.cells news.toArray T0));refine⟨j,k,λp=>?_,λy d=>?_⟩
 ·have⟨a,b,c⟩:=l λy d=>p y (.inl d)
  refine⟨a,b,λy d=>?_⟩
  rcases d with d|⟨_,rfl⟩
  ·exact c y d
  exact⟨w.1.size,T0,(0,0),rfl,(Kr w _).1⟩
 rcases d with d|⟨h,_⟩
 ·exact o y d
 exact absurd h i
theorem lA.app(F:P.underlying t=some (.slice e))(G:P.info? e=some inf)(H:inf.zero=some z)(d:inf.size=size)(r:inf.bytes=bytes)(s:z.cells.size=size)(x:0<size)
  {base W w v n m xs news k1 k2} {p:Nat->Value->Prop} (h:lA e size base W v n m xs news k1 k2 p w) (f:base<=W.1.size) (I:news.length=m*size) (J:∀u∈news,u.oneCell'=true)
  (K:n+m<=maxLen) (A:(n+m)*bytes<=140737488355328) (C:TypeId) (i:Value) (l:p k1 i) (o:∀u,¬p k2 u):
  ∃k q,(Builtin.append_ #[t,t] C #[v,i]).run P w=.ok k q/\(∃a j,k=.slice a (n+m) j)/\lA e size base W v n m xs news k1 k2 (d9 p k2 k) q:=by
 obtain⟨D,L,M,S⟩:=h;have⟨a,b,c⟩:=M o;obtain⟨g,T,V,rfl,N⟩:=c i l;have⟨k,q,O,E,Q,R⟩:=uM F G H d r s x base C v n m g xs news w a N I J K A (D.u f) m;refine⟨k,q,O,?_,D.trans Q,L.trans R,λA=>absurd (.inr ⟨rfl,rfl⟩) (A k),λy B=>?_⟩
 ·have⟨a,j,h,_⟩:=an E;exact⟨a,j,h⟩
 rcases B with B|⟨_,rfl⟩
 ·exact absurd B (o y)
 exact E
def Ax(T:TypeId)(W:World):Type:={ w':World // fh T W w' }
theorem Ax.ne(T W):Nonempty (Ax T W):=⟨⟨W,fh.refl _ _⟩⟩
theorem Ax.cell{T W}(x:Ax T W){b o:Nat}{a:Array Value}{T'}{c:Nat × Nat}{v:Value}(h:W.1[b]?=some (.cells a T' c))(e:T'≠T)(d:W.cell? ⟨b,o,none⟩=some v):x.1.cell? ⟨b,o,none⟩=some v:=by have f:=x.2 b a T' c h e;simp only[World.cell?,h] at d;simp only[World.cell?,f];exact d
theorem lA.seen{base W v n m xs news k1 k2}:∀a w,lA e size base W v n m xs news k1 k2 a w->∃x:Ax e W,w=x.1:=λ_ w h=>⟨⟨w,h.2.1⟩,rfl⟩
end
end
theorem fX{w w'}(a:bL w w')(row:Option Nat):w.grownBy w' row:=⟨a.os,a.tape,a.output,a.size,λk b _=>a.block k b⟩
theorem gy{P:Program}{t e:TypeId}{i:TypeInfo}{z:Value}{b f:Nat}{B:Array Oper}{q:List Oper}{o:Oper}{a:Act}{Q:Exit->Act->World->Prop}(w:World)(D:o.guard=none)(s x:Operand)
  (iY:o.op=.call { callee:=.builtin .append,args:=#[s,x],argTypes:=#[t,t] })
  (M:P.underlying t=some (.slice e)) (N:P.info? e=some i) (O:i.zero=some z) (y:i.size=b) (E:i.bytes=f) (F:z.cells.size=b) (G:0<b)
  (d:Nat) (v:Value) (n:Nat) (H:List Value) (R:a.eval s=v) (g m:Nat) (c:List Value) (S:a.eval x=.slice (sO g) m m)
  (W:World) {T0} (T:w=W.alloc (.cells c.toArray T0)) (V:g=W.1.size) (wo) (J:bL wo W) (r:wo.ownsRow d e b v n H) (X:c.length=m*b) (Y:∀u∈c,u.oneCell'=true) (hm:n+m<=maxLen) (hn:(n+m)*f<=140737488355328) (l:d<=wo.1.size)
  (h:∀A C,Hid (C.ownsRow d e b A (n+m) (H++c))->Below d wo C->Hid (wo.grownBy C v.ownBlock)->Hid (A.ownBlock=v.ownBlock\/∃k,A.ownBlock=some k/\wo.1.size<=k)->wpList P B Q q (a.put o.dst A) C):wpList P B Q (o :: q) a w:=by
 subst T;subst V;have p:bL wo (W.alloc (.cells c.toArray T0)):=J.alloc J.size _;have⟨A,K,r1,r2,r3,_,r5⟩:=Mt (P:=P) (W.alloc (.cells c.toArray T0)) d t o.type e i z b f M N O y E F G v n H (aw r p) (pW W 0) m m c X (λj u I=>by rw[eM,Kp];exact ab (ah W _) j (by simpa using I)) Y hm hn (p.u l);have L:wo.grownBy K v.ownBlock:=Li (fX p v.ownBlock) r3 λj I=>.inr I
 exact Kw _ D s x _ _ iY _ _ R S _ _ r1 (h A K r2 (bR.grown L l λk hk=>eh r k hk) L (by
  rcases r5 with e|e
  ·exact .inl e
  exact .inr ⟨_,e,p.size⟩))
def lB(B:Nat)(w:World)(xs:List Value)(a:List aq):Prop:=
 xs.length=a.length*2/\(∀u∈xs,u.oneCell'=true)/\∀i r,a[i]?=some r->∃b,xs[i*2]?=some b/\xs[i*2+1]?=some (U r.2)/\wf r.2/\bG B w b r.1
theorem lB.l{B B' w w' xs rs}(h:lB B w xs rs)(e:Below B' w w')(f:B<=B'):lB B w' xs rs:=by obtain⟨g,j,k⟩:=h;refine⟨g,j,λi r l=>?_⟩;have⟨m,a,b,c,d⟩:=k i r l;exact⟨m,a,b,c,d.l e f⟩
def im(B g:Nat)(w:World)(v:Value)(c:List aq):Prop:=
 ∃a b,v=.slice a c.length b/\c.length<=b/\b<=maxLen/\∀i r,c[i]?=some r->a=some (pA g 0)/\∃d,w.cell? ⟨g,i*2,none⟩=some d/\w.cell? ⟨g,i*2+1,none⟩=some (U r.2)/\wf r.2/\bG B w d r.1
theorem im.keep{B g w w' v rs}(h:im B g w v rs)(d:Below B w w')(c:∀j u,w.cell? ⟨g,j,none⟩=some u->w'.cell? ⟨g,j,none⟩=some u):im B g w' v rs:=by obtain⟨a,b,f,k,l,m⟩:=h;refine⟨a,b,f,k,l,λi r n=>?_⟩;have⟨e,o,p,q,s,t⟩:=m i r n;exact⟨e,o,c _ _ p,c _ _ q,s,t.l d lE⟩
theorem im.l{B g w w' v rs}(h:im B g w v rs)(a:bL w w')(c:B<=w.1.size):im B g w' v rs:=
 h.keep (a.mono c) λj u b=>(a.cell (p:=⟨g,j,none⟩) (KE _ _ b)).trans b
theorem im.lt{B g w v rs}(h:im B g w v rs)(b:rs≠[]):g<w.1.size:=by
 obtain⟨a,c,f,i,j,d⟩:=h
 cases rs with
 |nil=>exact absurd rfl b
 |cons r l=>
  have⟨_,k,e,_⟩:=d 0 r rfl;exact KE _ _ e
theorem im.rulesAt{B g w v rs}(h:im B g w v rs)(H:B<=w.1.size):bD w.1.size w v rs:=by have l:=h;obtain⟨a,f,m,n,p,q⟩:=h;refine⟨a,f,m,n,p,λi r j=>?_⟩;have⟨e,s,t,u,x,y⟩:=q i r j;refine⟨g,0,e,l.lt (by intro z;rw[z] at j;simp at j),s,by rw[Kp];exact t,by rw[Kp];exact u,x,?_⟩;obtain⟨A,d,C,D,E,F⟩:=y;refine⟨A,d,C,D,E,λi c G=>?_⟩;have⟨b,o,e,I,k⟩:=F i c G;exact⟨b,o,e,by omega,k⟩
theorem C9{B L:Nat}{w:World}{v:Value}{xs:List Value}{a:List aq}(h:w.ownsRow L 133 2 v a.length xs)(j:lB B w xs a):∃g,L<=g/\im B g w v a:=by
 have k:=h
 rcases h.2 with ⟨b,l⟩|⟨g,e,m,b,n,z,f,o,p,q⟩
 ·refine⟨L,Ke _,none,0,by rw[b,l],by omega,Ks _,λi r d=>?_⟩;have:=(K9.1 d).1;omega
 refine⟨g,n,some (pA g 0),e,b,f,o,λi r d=>⟨rfl,?_⟩⟩;have A:i<a.length:=(K9.1 d).1;have⟨s,t,u,x,y⟩:=j.2.2 i r d;subst b;have c:=aK k;exact⟨s,c _ _ t,c _ _ u,x,y⟩
theorem lB.append{B w xs ys rs ss}(h:lB B w xs rs)(k:lB B w ys ss):lB B w (xs++ys) (rs++ss):=by
 obtain⟨f,g,j⟩:=h;obtain⟨l,m,n⟩:=k;refine⟨by simp[f,l];omega,λu o=>?_,λi r a=>?_⟩
 ·rcases KB.1 o with h|h
  ·exact g u h
  exact m u h
 by_cases p:i<rs.length
 ·rw[Kh p] at a;have⟨b,c,d,e⟩:=j i r a;exact⟨b,by rw[Kh (by omega)];exact c,by rw[Kh (by omega)];exact d,e⟩
 rw[Kk (by omega)] at a;have⟨b,c,d,e⟩:=n _ r a;refine⟨b,?_,?_,e⟩
 ·rw[Kk (by omega),show i*2-xs.length=(i-rs.length)*2 by omega];exact c
 rw[Kk (by omega),show i*2+1-xs.length=(i-rs.length)*2+1 by omega];exact d
section
open Go.ChangeShapes Go.WideShapes Go.ChangeAt Go.Deep
abbrev cO:=Int × Int × Int × Int
def J6(c:cO):Value:=.agg #[U c.1,U c.2.1,U c.2.2.1,U c.2.2.2]
def gH(c:cO):Prop:=wf c.1/\wf c.2.1/\wf c.2.2.1/\wf c.2.2.2
def lm(w:World)(b o:Nat)(c:cO):Prop:=
 w.cell? ⟨b,o,none⟩=some (U c.1)/\w.cell? ⟨b,o+1,none⟩=some (U c.2.1)/\w.cell? ⟨b,o+2,none⟩=some (U c.2.2.1)/\w.cell? ⟨b,o+3,none⟩=some (U c.2.2.2)/\gH c
def dR(B:Nat)(w:World)(v:Value)(cs:List cO):Prop:=
 ∃a d,v=.slice a cs.length d/\cs.length<=d/\d<=maxLen/\∀i c,cs[i]?=some c->∃b o,a=some ⟨b,o,none⟩/\b<B/\lm w b (o+i*4) c
theorem lm.l{B w w' b o c}(h:lm w b o c)(a:Below B w w')(d:b<B):lm w' b o c:=by unfold lm;rw[a.cell (p:=⟨b,o,none⟩) d,a.cell (p:=⟨b,o+1,none⟩) d,a.cell (p:=⟨b,o+2,none⟩) d,a.cell (p:=⟨b,o+3,none⟩) d];exact h
theorem dR.l{B B' w w' v cs}(h:dR B w v cs)(f:Below B' w w')(q:B<=B'):dR B w' v cs:=by obtain⟨a,d,g,j,l,m⟩:=h;refine⟨a,d,g,j,l,λi c n=>?_⟩;have⟨b,o,e,p,k⟩:=m i c n;exact⟨b,o,e,p,k.l f (by omega)⟩
theorem dR.mono{B f:Nat}{w v cs}(h:dR B w v cs)(p:B<=f):dR f w v cs:=by obtain⟨a,d,g,j,l,m⟩:=h;refine⟨a,d,g,j,l,λi c n=>?_⟩;have⟨b,o,e,q,k⟩:=m i c n;exact⟨b,o,e,by omega,k⟩
theorem dR.shape{B w v cs}(h:dR B w v cs):∃a b,v=.slice a cs.length b/\cs.length<=b/\b<=maxLen:=by obtain⟨a,b,rfl,h,c,_⟩:=h;exact⟨a,b,rfl,h,c⟩
def d8(c:cO)(a:Int):Int:=
 if c.1=1\/c.1=4 then (if c.2.2.1≠0\/c.2.2.2≠0 then 4 else if c.2.1<0\/4<c.2.1 then 3 else 0)
 else if c.1=2\/c.1=3 then (if c.2.1<0\/65535<c.2.1 then 3 else if c.2.2.1<0\/a<=c.2.2.1\/c.2.2.2<0\/a<=c.2.2.2 then 5 else 0)
 else 4
def bK:List cO->Int
 |[]=>0
 |c :: r=>if d8 c r.length=0 then bK r else d8 c r.length
def eS:List cO->Int
 |[]=>0
 |[c]=>c.1
 |_ :: c :: r=>eS (c :: r)
def aV(l:List cO):Int:=if l.length<1\/1500<l.length then 2 else if bK l=0 then (if eS l=4 then 0 else 4) else bK l
theorem rH(l:List cO)(k:Nat)(c:cO)(h:l[k]?=some c):bK (l.drop k)=if d8 c ((l.length:Int)-1-k)=0 then bK (l.drop (k+1)) else d8 c ((l.length:Int)-1-k):=by obtain⟨a,rfl⟩:=K9.1 h;rw[KM a,bK,show (((l.drop (k+1)).length:Nat):Int)=(l.length:Int)-1-k by rw[MA];omega]
theorem lS:∀ (l:List cO) (c:cO),l[l.length-1]?=some c->eS l=c.1
 |[],_,h=>by simp at h
 |[d],c,h=>by simp at h;subst h;rfl
 |_ :: d :: r,c,h=>by rw[eS];exact lS (d :: r) c (by simpa using h)
theorem px:∀ (l:List cO) (k:Nat) (c:cO),bK l=0->l[k]?=some c->d8 c ((l.length:Int)-1-k)=0
 |[],_,_,_,h=>by simp at h
 |d :: r,k,c,h,b=>by
  rw[bK] at h
  by_cases a:d8 d r.length=0
  ·rw[Io a] at h
   cases k with
   |zero=>
    simp at b;subst b;rw[show (((d :: r).length:Nat):Int)-1-((0:Nat):Int)=r.length by simp];exact a
   |succ k=>
    have:=px r k c h (by simpa using b);rw[show (((d :: r).length:Nat):Int)-1-((k+1:Nat):Int)=(r.length:Int)-1-k by simp;omega];exact this
  rw[iO a] at h;exact absurd h a
theorem nK{l:List cO}(h:aV l=0):1<=l.length/\l.length<=1500/\bK l=0/\eS l=4:=by
 unfold aV at h
 by_cases b:l.length<1\/1500<l.length
 ·rw[Io b] at h;cases h
 rw[iO b] at h
 by_cases a:bK l=0
 ·rw[Io a] at h
  by_cases c:eS l=4
  ·exact⟨by omega,by omega,a,c⟩
  rw[iO c] at h;cases h
 rw[iO a] at h;exact absurd h a
theorem ud{c}{n:Int}(h:d8 c n=0):(c.1=1\/c.1=4)/\(0<=c.2.1/\c.2.1<=4)\/(c.1=2\/c.1=3)/\(0<=c.2.2.1/\c.2.2.1<n/\0<=c.2.2.2/\c.2.2.2<n):=by
 unfold d8 at h
 by_cases a:c.1=1\/c.1=4
 ·rw[Io a] at h
  split at h
  ·cases h
  split at h
  ·cases h
  exact .inl ⟨a,by omega⟩
 rw[iO a] at h
 by_cases b:c.1=2\/c.1=3
 ·rw[Io b] at h
  split at h
  ·cases h
  split at h
  ·cases h
  exact .inr ⟨b,by omega⟩
 rw[iO b] at h
 cases h
def Jo(p:Int × Int):Int × Int:=(p.1,p.2+1)
def iY(n:Int)(c:cO):Nat:=(if (if c.1=2 then n=c.2.1 else n<c.2.1) then c.2.2.1 else c.2.2.2).toNat
def dJ(x:Nat->Int):Int->Nat->List cO->Int × Int
 |_,_,[]=>(0,0)
 |n,k+1,_ :: r=>dJ x n k r
 |n,0,c :: r=>if c.1=1 then Jo (dJ x (x c.2.1.toNat) 0 r) else if c.1=2\/c.1=3 then Jo (dJ x n (iY n c) r) else (c.2.1,1)
theorem sQ(x:Nat->Int):∀ (l:List cO) (n:Int) (k:Nat),dJ x n k l=dJ x n 0 (l.drop k)
 |[],n,k=>by cases k<;>simp[dJ]
 |c :: r,n,0=>by simp
 |c :: r,n,k+1=>by rw[MF,dJ];exact sQ x r n k
theorem Fz{H:Type}{r:TypeId × Value->H}{W:World}{base:Nat}{V:Nat->Bool}{g:Bool}{j:Nat}{cv:Value}{x:DataW H × List MemPlace}(h:DataW.trod r prog W base V g j 78 [cv]=some x):∃s,dR W.1.size W cv s:=by
 rcases open_slice Tryz.underlying78 h with ⟨l,_⟩|⟨a,e,t,m,n,D,Pl,l,_,hl,X,u,_,w⟩
 ·simp at l;subst l;exact⟨[],none,0,rfl,Ke _,Ks _,λi c y=>by simp at y⟩
 simp at l;subst l;have Y:prog.cellsOf 113=4:=by kernel_rfl
 have h1:prog.cellsOf 3=1:=by kernel_rfl
 rw[Y] at w;have a1:e<=m:=by rw[u];split<;>omega
 have o:∀i,i<e->∃c:cO,a=⟨a.block,a.off,none⟩/\a.block<W.1.size/\lm W a.block (a.off+i*4) c:=by
  intro i hi
  have z:W.cell? (a.add 0)≠none:=by
   have⟨f,A,_⟩:=w 0 (by omega);have⟨_,d,b⟩:=Lh A;have:=b 0 (by omega);rw[add_add] at this;simp at this
   match f,d with
   |[v0,v1,v2,v3],_=>simp at this |-;rw[this];simp
  have⟨v,hv⟩:=Lp.1 z;have⟨p,B⟩:=iX hv;have⟨f,A,g2⟩:=w i (by omega);have⟨_,d,b⟩:=Lh A;have⟨xs,k,_,_,_,C,q⟩:=DataW.trod_struct Tryz.underlying113 g2
  match xs,C with
  |[y0,y1,y2,y3],_=>
   have I:=q 0 _ rfl;have J:=q 1 _ rfl;have K:=q 2 _ rfl;have L:=q 3 _ rfl
   match f,d with
   |[v0,v1,v2,v3],_=>
    simp[h1] at I J K L;have⟨k0,M,_,w0⟩:=KV Tryz.underlying3 I;have⟨k1,N,_,w1⟩:=KV Tryz.underlying3 J;have⟨k2,O,_,w2⟩:=KV Tryz.underlying3 K;have⟨k3,P,_,w3⟩:=KV Tryz.underlying3 L;simp at M N O P;subst M N O P;have Q:=b 0 (by omega);have R:=b 1 (by omega);have S:=b 2 (by omega);have T:=b 3 (by omega);rw[add_add,p,eM] at Q R S T;exact⟨(k0,k1,k2,k3),p,B,by simpa using Q,by simpa [KX] using R,by simpa [KX] using S,by simpa [KX] using T,w0,w1,w2,w3⟩
 have⟨s,E,F⟩:=iU _ e o;refine⟨s,some a,t,by rw[E],by omega,X,λi c y=>?_⟩;have⟨p,B,G⟩:=F i c y;exact⟨a.block,a.off,by rw[<-p],B,G⟩
end
theorem rV:∃i,prog.info? 113=some i/\i.zero=some (.agg #[U 0,U 0,U 0,U 0])/\i.size=4/\i.bytes=32:=jL (by kernel_rfl)
def aJ(l:List cO):List Value:=l.flatMap λc=>[U c.1,U c.2.1,U c.2.2.1,U c.2.2.2]
theorem iR(c:cO)(l:List cO):aJ (c :: l)=U c.1 :: U c.2.1 :: U c.2.2.1 :: U c.2.2.2 :: aJ l:=rfl
theorem dM(l m:List cO):aJ (l++m)=aJ l++aJ m:=by unfold aJ;exact Mg
theorem f6:∀l:List cO,(aJ l).length=l.length*4
 |[]=>rfl
 |c :: r=>by rw[iR];simp[f6 r];omega
theorem iA:∀ (l:List cO),∀u∈aJ l,u.oneCell'=true
 |[],u,h=>by cases h
 |c :: r,u,h=>by
  rw[iR] at h;simp at h
  rcases h with rfl|rfl|rfl|rfl|h
  ·rfl
  ·rfl
  ·rfl
  ·rfl
  exact iA r u h
theorem rW:∀ (l:List cO) (i:Nat) (c:cO),l[i]?=some c->(aJ l)[i*4]?=some (U c.1)/\(aJ l)[i*4+1]?=some (U c.2.1)/\(aJ l)[i*4+2]?=some (U c.2.2.1)/\(aJ l)[i*4+3]?=some (U c.2.2.2)
 |[],_,_,h=>by simp at h
 |a :: r,0,c,h=>by simp at h;subst h;simp[iR]
 |a :: r,i+1,c,h=>by have b:=rW r i c (by simpa using h);rw[iR,show (i+1)*4=i*4+4 by omega];exact b
theorem qx{w}{b o:Nat}:∀ (l:List cO) (o:Nat),(∀i c,l[i]?=some c->lm w b (o+i*4) c)->∀j u,(aJ l)[j]?=some u->w.cell? ⟨b,o+j,none⟩=some u
 |[],_,_,j,u,h=>by simp[aJ] at h
 |c :: r,o,a,j,u,h=>by
  have⟨d,e,f,g,_⟩:=a 0 c rfl;simp only[Nat.zero_mul,Nat.add_zero] at d e f g;rw[iR] at h
  match j,h with
  |0,h=>simp at h;subst h;simpa using d
  |1,h=>simp at h;subst h;exact e
  |2,h=>simp at h;subst h;exact f
  |3,h=>simp at h;subst h;exact g
  |j+4,h=>
   have:=qx (b:=b) (o:=o) r (o+4) (λi c k=>by
    have:=a (i+1) c (by simpa using k);rw[show o+(i+1)*4=o+4+i*4 by omega] at this
    exact this) j u (by simpa using h)
   rw[show o+(j+4)=o+4+j by omega];exact this
theorem jA{L:Nat}{w:World}{v:Value}{l:List cO}(h:w.ownsRow L 113 4 v l.length (aJ l))(b:∀c∈l,gH c):dR w.1.size w v l:=by
 obtain⟨a,d,rfl,j,k,m⟩:=an h;refine⟨a,d,rfl,j,k,λi c e=>?_⟩;have s:i<l.length:=(K9.1 e).1;obtain⟨g,rfl,n,f⟩:=m (by omega);have⟨o,p,q,r⟩:=rW l i c e;refine⟨g,0,rfl,f,?_,?_,?_,?_,b c (Kb e)⟩
 all_goals rw[Kp]
 ·exact aK h _ _ o
 ·exact aK h _ _ p
 ·exact aK h _ _ q
 exact aK h _ _ r
theorem dR.wf{B w v l}(h:dR B w v l):∀c∈l,gH c:=by intro c a;have⟨i,b⟩:=LJ.1 a;obtain⟨_,_,_,_,_,d⟩:=h;have⟨_,_,_,_,k⟩:=d i c b;exact k.2.2.2.2
section
section
variable {P:Program} {ops:Array Oper} {md:Region.Mode} {J:(Nat->Value->Prop)->World->Prop} {S:Nat->Value->Prop} {ks:Nat->Bool} {B:(Nat->Value->Prop)->Act->Prop}
def qO(P:Program)(md:Region.Mode)(ops:Array Oper)(J:(Nat->Value->Prop)->World->Prop)(S:Nat->Value->Prop)(ks:Nat->Bool)(B:(Nat->Value->Prop)->Act->Prop):Nat->Array Bool->(Nat->Value->Prop)->Act->Prop
 |0,b,d,a=>Region.ready md ops b=[]/\B d a
 |c+1,b,d,a=>Region.ready md ops b≠[]/\∀i∈Region.ready md ops b,Cs P ops md J S ks i (qO P md ops J S ks B c (b.setIfInBounds i true)) d a
theorem kZ{Q:Exit->Act->World->Prop}
  (p:∀f a w,J f w->B f a->Q .normal a w):
  ∀ (c:Nat) (b:Array Bool) (f:Nat->Value->Prop) (a:Act) (w:World),J f w->(∀m v,f m v->b.getD m true=true)->qO P md ops J S ks B c b f a->wpAny P md ops Q c b a w
 |0,b,f,a,w,j,n,h=>⟨h.1,p f a w j h.2⟩
 |c+1,b,f,a,w,j,n,h=>by
  obtain⟨C,D⟩:=h;refine⟨λE=>absurd E C,λi A=>?_⟩;have k:=D i A;have⟨g,_,_,_⟩:=Mq.1 A
  have e:∀m,b.getD m true=true->(b.setIfInBounds i true).getD m true=true:=λm d=>by
   by_cases q:i=m
   ·subst q;rw[g] at d
    cases d
   rw[Mh true q];exact d
  have l:(b.setIfInBounds i true).getD i true=true:=by
   rcases MU i b.size with t|t
   ·simp[t]
   simp[LZ t]
  unfold Cs at k;unfold wpOp
  split
  ·rename_i x;simp only[x] at k;exact kZ p c _ _ _ _ j (λm v d=>e m (n m v d)) k
  rename_i o x;simp only[x] at k
  split at k
  ·obtain⟨⟨r,z⟩,s⟩:=k;simp only[r,Lr];refine .inl (za (z f w j (λm v d _=>d) λv F=>?_) λv G ⟨H,I⟩=>?_)
   ·have:=n i v F;rw[g] at this
    cases this
   refine kZ p c _ (d9 f i v) _ G I (λm u d=>?_) (s v H)
   rcases d with d|⟨rfl,rfl⟩
   ·exact e m (n m u d)
   exact l
  obtain⟨v,y,s⟩:=k
  rcases y with ⟨r,z⟩|⟨r,rfl⟩
  ·simp only[r,Lr];exact .inl (o7 (z w ⟨f,j⟩) (kZ p c _ _ _ _ j (λm v d=>e m (n m v d)) s))
  simp only[r,Bool.false_eq_true,if_false];exact kZ p c _ _ _ _ j (λm v d=>e m (n m v d)) s
theorem Be{i:Nat}{n:Oper}{v}(L:ops[i]?=some n)(q:ks i=false)(s:∀ (j:Nat) (o:Oper) A b,ops[j]?=some o->o.op≠.select A b):
  ∀ (f:Nat) (c:Array Bool) (C:Nat->Value->Prop) (a:Act),
   (∀j l,ops[j]?=some l->j≠i->c.getD j true=false->(∀e∈l.after,Region.binds md e=true->e.on≠i)->n.apart ops l=true)->
   i∈Region.ready md ops c->YR P ops (FV J) n v a->
   qO P md ops J S ks B f (c.setIfInBounds i true) C (a.put n.dst v)->qO P md ops J S ks B (f+1) c C a:=by
 intro f
 induction f with
 |zero=>
  intro c C a _ t K H;refine⟨λh=>(by rw[h] at t;cases t),λj D=>?_⟩
  by_cases d:j=i
  ·subst d;unfold Cs;simp only[L,q];exact⟨v,K,H⟩
  have:=ready_mono D d;rw[H.1] at this
  cases this
 |succ f Q=>
  intro c C a p t K H;refine⟨λh=>(by rw[h] at t;cases t),λj D=>?_⟩
  by_cases d:j=i
  ·subst d;unfold Cs;simp only[L,q];exact⟨v,K,H⟩
  have z:=H.2 j (ready_mono D d);have⟨w,l,r,R⟩:=Mq.1 D;have E:∀e∈l.after,Region.binds md e=true->e.on≠i:=λe he hb M=>bX r ⟨e,he,hb,M⟩ t D
  have⟨T,V,W⟩:=Mo (p j l r d w E)
  have g:∀k ok,ops[k]?=some ok->k≠i->(c.setIfInBounds j true).getD k true=false->
    (∀e∈ok.after,Region.binds md e=true->e.on≠i)->n.apart ops ok=true:=λk ok F q G N=>by
   refine p k ok F q ?_ N
   by_cases I:j=k
   ·subst I;exact w
   rw[Mh true I] at G;exact G
  have x:∀u,YR P ops (FV J) n v (a.put l.dst u):=λu=>K.of_same (M6 n (λA b=>s i n A b L) a l.dst u W) (M5 n a l.dst u W)
  have X:=M6 l (λA b=>s j l A b r) a n.dst v T;have Y:=M5 l a n.dst v T
  unfold Cs at z |-
  simp only[r] at z |-
  split
  ·rename_i F;simp only[F,Lr] at z;obtain⟨y,O⟩:=z;refine⟨y.of_same X.symm Y.symm λm u hm _=>hm,λu hu=>Q (c.setIfInBounds j true) _ _ g (ready_mono t (LQ d)) (x u) ?_⟩;rw[KW _ _ d,<-LR a v u V];exact O u hu
  rename_i F;simp only[F] at z;obtain⟨u,y,O⟩:=z;refine⟨u,y.of_same X.symm Y.symm,Q (c.setIfInBounds j true) C _ g (ready_mono t (LQ d)) (x u) ?_⟩;rw[KW _ _ d,<-LR a v u V];exact O
theorem Aw(hS:∀k,∃v,S k v)(X:∃w,FV J w){i:Nat}{l:Oper}(V:ops[i]?=some l)(q:ks i=true)(t:∀ (j:Nat) (o:Oper) N b,ops[j]?=some o->o.op≠.select N b):
  ∀ (f:Nat) (c:Array Bool) (E:Nat->Value->Prop) (a:Act),
   (∀j n,ops[j]?=some n->j≠i->c.getD j true=false->(∀e∈n.after,Region.binds md e=true->e.on≠i)->l.apart ops n=true)->
   i∈Region.ready md ops c->YG P ops md J S l i E a->
   (∀v,S i v->qO P md ops J S ks B f (c.setIfInBounds i true) (d9 E i v) (a.put l.dst v))->qO P md ops J S ks B (f+1) c E a:=by
 intro f;have⟨F,G⟩:=hS i
 induction f with
 |zero=>
  intro c E a _ r W H;refine⟨λh=>(by rw[h] at r;cases r),λj M=>?_⟩
  by_cases d:j=i
  ·subst d;unfold Cs;simp only[V,q,Lr];exact⟨W,H⟩
  have:=ready_mono M d;rw[(H F G).1] at this
  cases this
 |succ f ih=>
  intro c E a p r W H;refine⟨λh=>(by rw[h] at r;cases r),λj M=>?_⟩
  by_cases d:j=i
  ·subst d;unfold Cs;simp only[V,q,Lr];exact⟨W,H⟩
  have z:=λv O=>(H v O).2 j (ready_mono M d)
  have⟨A,n,s,aa⟩:=Mq.1 M;have C:∀e∈n.after,Region.binds md e=true->e.on≠i:=λe Y hb I=>bX s ⟨e,Y,hb,I⟩ r M
  have a4:¬dZ md n i:=λ⟨e,Y,hb,I⟩=>C e Y hb I
  have ac:¬dZ md l j:=λh=>bX V h M r
  have⟨a1,a2,a3⟩:=Mo (p j n s d A C)
  have g:∀k ok,ops[k]?=some ok->k≠i->(c.setIfInBounds j true).getD k true=false->
    (∀e∈ok.after,Region.binds md e=true->e.on≠i)->l.apart ops ok=true:=λk ok Q q R a5=>by
   refine p k ok Q q ?_ a5
   by_cases T:j=k
   ·subst T;exact A
   rw[Mh true T] at R;exact R
  have D:∀u K,(∀m x,E m x->dZ md l m->K m x)->YG P ops md J S l i K (a.put n.dst u):=λu K a6=>W.of_same (M6 l (λN b=>t i l N b V) a n.dst u a3) (M5 l a n.dst u a3) a6
  have e1:=λv=>M6 n (λN b=>t j n N b s) a l.dst v a1
  have e2:=λv=>M5 n a l.dst v a1
  unfold Cs at z |-
  simp only[s] at z |-
  split
  ·rename_i Q;simp only[Q,Lr] at z;refine⟨(z F G).1.of_same (e1 F).symm (e2 F).symm λm u L hw=>?_,λu hu=>ih (c.setIfInBounds j true) _ _ g (ready_mono r (LQ d)) (D u _ λm x L _=>.inl L) λv O=>?_⟩
   ·rcases L with L|⟨rfl,rfl⟩
    ·exact L
    exact absurd hw a4
   rw[KW _ _ d,<-LR a v u a2,yN];exact(z v O).2 u hu
  rename_i Q;simp only[Q] at z;have⟨u,y,_⟩:=z F G;have y0:=y.of_same (e1 F).symm (e2 F).symm;refine⟨u,y0,ih (c.setIfInBounds j true) E _ g (ready_mono r (LQ d)) (D u _ λm x L _=>L) λv O=>?_⟩;have⟨u',y',hK⟩:=z v O;have:=YR.one X y0 (y'.of_same (e1 v).symm (e2 v).symm);subst this;rw[KW _ _ d,<-LR a v u a2];exact hK
theorem qE(p:∀k,∃v,S k v)(c:∃w,FV J w)(i:Region.noSelect ops=true):∀ (l:List Oper) (k:Nat) (b:Array Bool) (e:Nat->Value->Prop) (a:Act),(∀j,j<l.length->l[j]?=ops[k+j]?)->
  Region.lexFrom md ops l.length k b=true->uU P ops md J S ks B l k e a->qO P md ops J S ks B l.length b e a
 |[],k,b,e,a,_,m,h=>⟨by simpa [Region.lexFrom] using m,h⟩
 |o :: l,k,b,e,a,s,m,h=>by
  have n:ops[k]?=some o:=by simpa using (s 0 (by simp)).symm
  simp only[Kv,Region.lexFrom,KU] at m;obtain⟨⟨t,u⟩,f⟩:=m;have g:∀j,j<l.length->l[j]?=ops[k+1+j]?:=λj y=>by have:=s (j+1) (by simp;omega);simpa [KX,Mk 1 j] using this
  unfold uU at h
  split at h
  ·rename_i d;obtain⟨q,r⟩:=h
   exact Aw p c n d (Ly i) l.length b e a (M0 n u) (by simpa using t) q
    (λv x=>qE p c i l (k+1) _ _ _ g f (r v x))
  rename_i d;obtain⟨v,q,r⟩:=h
  exact Be n (by simpa using d) (Ly i) l.length b e a (M0 n u) (by simpa using t) q
   (qE p c i l (k+1) _ _ _ g f r)
theorem iP{id:Nat}{Q:Exit->Act->World->Prop}{a}{w:World}{l:List Oper}(ks:Nat->Bool)(J:(Nat->Value->Prop)->World->Prop)(S:Nat->Value->Prop)(i:∀k,∃v,S k v)(d:P.follows .mixedOrders=true)(c:Region.lexB .any l.toArray=true)(e:J (λ_ _=>False) w.drew)
  (h:uU P l.toArray .any J S ks (λf n=>∀g,J f g->Q .normal n g) l 0 (λ_ _=>False) a):(Code.region id l.toArray true).wp P Q a w:=by
 simp only[Region.lexB,KU] at c;have b:l.toArray.size=l.length:=by simp
 rw[b] at c;have o:=qE (md:=.any) i ⟨_,_,e⟩ c.1 l 0 (Array.replicate l.length false) (λ_ _=>False) a (λj r=>by simp) c.2 h;refine wp_region_any d ?_;rw[b];exact kZ (λf a w p q=>q w p) l.length _ (λ_ _=>False) a { w with drawn:=w.drawn+1 } e (λm v d=>d.elim) o
end
end
