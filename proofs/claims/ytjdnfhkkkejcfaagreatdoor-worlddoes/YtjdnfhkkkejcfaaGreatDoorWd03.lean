import Derived.Test.YtjdnfhkkkejcfaaGreatDoorWd01
import Derived.Lib.AppendIntMem
set_option linter.all false
set_option maxRecDepth 100000
set_option maxHeartbeats 4000000
namespace Go.Proofs.YtjdnfhkkkejcfaaGreatDoor
open Go.RowKit Go.Maps Go.Proofs.Tryz
theorem mZ(w:World)(t:TypeId)(x:ByteArray):∀W,W=Lib.bytesWorld w t x->bL w W:=by intro W h;subst h;exact⟨rfl,rfl,rfl,by rw[Lib.bytesWorld_size];omega,λj a=>Lib.bytesWorld_at_old w t x j a⟩
abbrev az:=Int × Int × Int × aD
def Gk:DecidableEq aD:=λp q=>inferInstance
instance decRec:DecidableEq az:=@instDecidableEqProd _ _ inferInstance (@instDecidableEqProd _ _ inferInstance (@instDecidableEqProd _ _ inferInstance Gk))
def aZ(r:az):Int:=
 if r.1<1\/4<r.1 then 4
 else if (r.2.1<0\/3<r.2.1)\/(r.2.2.1<0\/3<r.2.2.1) then 3
 else if (0<r.2.2.1/\r.1≠3)\/(¬(r.1=1\/r.1=2)/\¬(r.2.2.2.2=0/\r.2.2.2.1=[])) then 4
 else if r.1=1\/r.1=2 then aj r.2.2.2 else 0
def cu:az:=(0,0,0,[],0)
theorem iB{r:az}(h:aZ r=0):(1<=r.1/\r.1<=4)/\(0<=r.2.1/\r.2.1<=3)/\(0<=r.2.2.1/\r.2.2.1<=3)/\(r.1=3\/r.2.2.1=0)/\((r.1=1\/r.1=2)/\aj r.2.2.2=0\/(r.1=3\/r.1=4)/\r.2.2.2=([],0)):=by
 unfold aZ at h
 split at h
 ·cases h
 rename_i j
 split at h
 ·cases h
 rename_i l
 split at h
 ·cases h
 rename_i g;have m:r.1=1\/r.1=2\/r.1=3\/r.1=4:=by omega
 have i:¬(0<r.2.2.1/\r.1≠3):=λe=>g (.inl e)
 refine⟨by omega,by omega,by omega,by omega,?_⟩
 by_cases a:r.1=1\/r.1=2
 ·rw[Io a] at h;exact .inl ⟨a,h⟩
 refine .inr ⟨by omega,?_⟩;have b:r.2.2.2.2=0/\r.2.2.2.1=[]:=by apply L8;intro e;exact g (.inr ⟨a,e⟩)
 obtain⟨k,c,f,n,d⟩:=r;simp only at b;rw[b.1,b.2]
theorem bV(B w):aX B w (.agg #[nL,U 0]) ([],0):=
 ⟨_,rfl,by unfold wf;decide,none,0,rfl,Ke _,Ks _,λi r h=>by simp at h⟩
theorem J5(d:Nat)(f op v f2 op2 v2)(w:World):(Op.equalIn (d+3) 134 (.agg #[U f,U op,U v]) (.agg #[U f2,U op2,U v2])).run prog w=.ok (decide (((f,op,v):aN)=(f2,op2,v2))) w:=by
 have h:=underlying3;have i:=Tryz.isAgg3;have j:=Tryz.sizeOf3;have a:prog.underlying 134=some (.struct (prog.fieldsOf 134)):=by kernel_rfl
 have b:prog.stoodInHeld 134=false:=by kernel_rfl
 rw[run_equalIn_agg w (d+2) 134 _ _ a b];simp only[Program.fieldsOf,Tryz.underlying134];go_simp
 by_cases c:f=f2<;>by_cases e:op=op2<;>by_cases g:v=v2<;>simp[c,e,g]
theorem Ij(f op v f2 op2 v2)(w:World):(binOp .neq 134 (.agg #[U f,U op,U v]) (.agg #[U f2,U op2,U v2])).run prog w=.ok (.bool (!decide (((f,op,v):aN)=(f2,op2,v2)))) w:=by rw[run_neq_struct,show (10000:Nat)=9997+3 from rfl,J5];rfl
theorem F9(a:BinOp)(x y:Operand)(xs ys:Array Value)(w:World):(eqGuard a 134 x y (.agg xs) (.agg ys)).run prog w=.ok () w:=run_eqGuard_agg _ _ _ _ _ _ _ (by kernel_rfl)
theorem oo{c:Array Oper}{C:World->Prop}{Q:Act->Prop}{a:Act}{o:Oper}{b:List Oper}(x y:Operand)(t:TypeId)(iY:o.op=.binOp .neq 134 x y t)(d:Region.wanted o (yielded c a.tmps)=true)
  (f op v f2 op2 v2) (g:a.eval x=.agg #[U f,U op,U v]) (i:a.eval y=.agg #[U f2,U op2,U v2])
  (q:Bool) (j:(!decide (((f,op,v):aN)=(f2,op2,v2)))=q) (h:wpQuiet prog c C Q b (a.put o.dst (.bool q))):wpQuiet prog c C Q (o :: b) a:=by
 subst j
 refine BigFrame.wpQuiet_want d λK k=>⟨_,λw _=>?_,k _ h⟩
 unfold Oper.quietAt execOp;rw[iY];simp only[g,i];have e:((do eqGuard .neq 134 x y (.agg #[U f,U op,U v]) (.agg #[U f2,U op2,U v2]);binOp .neq 134 (.agg #[U f,U op,U v]) (.agg #[U f2,U op2,U v2])):Sem Value).run prog w=.ok (.bool (!decide (((f,op,v):aN)=(f2,op2,v2)))) w:=by simp only[Lj,F9,Ij,Result.andThen]
 simp only[Lj,e,Result.andThen];exact⟨rfl,rfl⟩
theorem oM(B cv dv cs ds w)(hc:bG B w cv cs)(D:bG B w dv ds)(hB:B<=w.1.size):
  cL 83 #[cv,dv] w (rT w (.bool (decide (cs=ds)))):=by
 obtain⟨a,a5,rfl,a6,a7,E⟩:=hc;obtain⟨a2,P,rfl,F,Q,G⟩:=D;have I:=Z E;have J:=Z G;clear E G
 by_cases l:cs.length=ds.length
 ·generalize hn:cs.length=n at*;have R:=l.symm;clear l;rw[R] at F;simp only[R];have a8:n<=9223372036854775807:=by have:=ai;omega
  go_enter func83,ntmps83;go_wp2;go_loopw [13] (λi wr=>∃k:Nat,k<=n/\i=U k/\Hid (∀i,i<k->cs[i]?=ds[i]?)/\bL w wr) (λi _=>n-(intOf i).toNat)
  case atStart=>exact⟨0,by omega,rfl,λi h=>absurd h (by omega),Kf _ _⟩
  case round=>
   obtain⟨k,hk,rfl,H,e⟩:=hrel;have i0:(0:Int)<=(k:Int):=by omega
   by_cases a9:k<n
   ·have i1:(k:Int)<(n:Int):=by omega
    obtain⟨c,s⟩:∃c,cs[k]?=some c:=⟨cs[k]'(by omega),by simp⟩;obtain⟨d,t⟩:∃d,ds[k]?=some d:=⟨ds[k]'(by omega),by simp⟩;obtain⟨b,o,rfl,aa,K⟩:=I.o k c s;obtain⟨L,M,rfl,S,p⟩:=J.o k d t;have q:=Z s;have r:=Z t;clear s t;obtain⟨T,V,W,w0,w1,w2⟩:=K.l e (by omega);obtain⟨X,Y,d2,_,_,_⟩:=p.l e (by omega);obtain⟨f,z,v⟩:=c;obtain⟨A,g,C⟩:=d;simp only[] at T V W X Y d2;clear K p;go_wp2;have ac:=e.size;have l:=ax.ne wr;have ad:∀x:ax wr,x.1.cell? ⟨b,o+k*3,none⟩=some (U f):=λx=>x.cell T (by omega)
    have ae:∀x:ax wr,x.1.cell? ⟨b,o+k*3+1,none⟩=some (U z):=λx=>x.cell V (by omega)
    have af:∀x:ax wr,x.1.cell? ⟨b,o+k*3+2,none⟩=some (U v):=λx=>x.cell W (by omega)
    have ak:∀x:ax wr,x.1.cell? ⟨L,M+k*3,none⟩=some (U A):=λx=>x.cell X (by omega)
    have al:∀x:ax wr,x.1.cell? ⟨L,M+k*3+1,none⟩=some (U g):=λx=>x.cell Y (by omega)
    have ao:∀x:ax wr,x.1.cell? ⟨L,M+k*3+2,none⟩=some (U C):=λx=>x.cell d2 (by omega)
    by_cases j:((f,z,v):aN)=(A,g,C)
    ·have u:=Z j;have D:=Z (by simp[j]:(!decide (((f,z,v):aN)=(A,g,C)))=false);clear j;refine aW (by kernel_rfl) (by kernel_rfl) ?_;repeat(go_big_quiet_step (fail))
     refine oo _ _ _ rfl rfl f z v A g C rfl rfl _ D.o ?_;refine Km ?_;rintro wx ⟨⟨_,N⟩,rfl⟩;have y:=e.th N;go_wp2;refine⟨⟨k+1,by omega,by go_num,λi hi=>?_,y⟩,by simp[intOf];omega⟩
     by_cases O:i=k
     ·subst O;rw[q.o,r.o,u.o]
     exact H.o i (by omega)
    have u:=Z j;have D:=Z (by rw[KD j];rfl:(!decide (((f,z,v):aN)=(A,g,C)))=true);clear j;refine aW (by kernel_rfl) (by kernel_rfl) ?_;repeat(go_big_quiet_step (fail))
    refine oo _ _ _ rfl rfl f z v A g C rfl rfl _ D.o ?_;refine Km ?_;rintro wx ⟨⟨_,N⟩,rfl⟩;have y:=e.th N;go_wp2;go_ret;refine⟨?_,y⟩;have:cs≠ds:=by intro h;have h1:=q.o;rw[h,r.o] at h1;exact u.o (KG h1).symm
    simp[this]
   go_wp2;go_ret;refine⟨?_,e⟩
   have:cs=ds:=by
    refine LD λi=>?_
    by_cases hi:i<k
    ·exact H.o i hi
    rw[KP (by omega),KP (by omega)]
   simp[this]
 have b0:((cs.length:Int) != (ds.length:Int))=true:=by simp;omega
 have hf:=Z (by simp;intro h;rw[h] at l;exact l rfl:decide (cs=ds)=false);generalize cs.length=n at*;generalize ds.length=m at*;go_enter func83,ntmps83;go_wp2;go_ret;exact⟨by rw[hf.o];rfl,Kf _ _⟩
theorem bG.shape{B w v cs}(h:bG B w v cs):∃a n b,v=.slice a n b:=by obtain⟨a,b,e,_⟩:=h;exact⟨a,_,b,e⟩
theorem bD.shape{B w v rs}(h:bD B w v rs):∃a b,v=.slice a rs.length b:=by obtain⟨a,b,e,_⟩:=h;exact⟨a,b,e⟩
theorem zk(B cv dv)(r s:aq)(w)(h:bG B w cv r.1)(i:bG B w dv s.1)(m:B<=w.1.size):
  cL 121 #[.agg #[cv,U r.2],.agg #[dv,U s.2]] w (rT w (.bool (decide (r=s)))):=by
 obtain⟨d,g⟩:=r;obtain⟨f,j⟩:=s;have b:∀X Y,bL w ((w.alloc X).alloc Y):=λX Y=>(bR.alloc lE _).alloc (by simp) _
 have c:Hid (∀X Y,cL 83 #[cv,dv] ((w.alloc X).alloc Y) λe o=>e=.returned (.bool (decide (d=f)))/\Below ((w.alloc X).alloc Y).1.size ((w.alloc X).alloc Y) o):=λX Y=>oM B cv dv d f _ (h.l (b X Y) m) (i.l (b X Y) m) (by simp;omega)
 obtain⟨a,n,t,rfl⟩:=h.shape;obtain⟨v,x,p,rfl⟩:=i.shape;clear h i;simp only[]
 by_cases k:g=j
 ·subst k;have E:=Z (by simp:decide (((d,g):aq)=(f,g))=decide (d=f));generalize decide (d=f)=q at*;go_enter func121,ntmps121;go_wp2_with (first|(go_at_call 83;refine(c.o _ _).mono ?_;rintro e o ⟨rfl,l⟩));go_ret;exact⟨by rw[E.o];rfl,Below.tO (b _ _) l (by simp;omega)⟩
 have E:=Z (by simp;intro _;exact k:decide (((d,g):aq)=(f,j))=false);have u:(g==j)=false:=by simpa using k
 go_enter func121,ntmps121;go_wp2;go_ret;exact⟨by first|rfl|(rw[E.o];rfl),b _ _⟩
theorem xb(B rv sv rs ss w)(hr:bD B w rv rs)(hs:bD B w sv ss)(V:B<=w.1.size):
  cL 120 #[rv,sv,.func (.func 121) #[] #[]] w (rT w (.bool (decide (rs=ss)))):=by
 obtain⟨a,ae,rfl,af,ak,A⟩:=hr;obtain⟨a2,W,rfl,C,a0,D⟩:=hs;have E:=Z A;have F:=Z D;clear A D
 by_cases c:rs.length=ss.length
 ·generalize hn:rs.length=n at*;have hm:=c.symm;clear c;rw[hm] at C;simp only[hm];have al:n<=9223372036854775807:=by have:=ai;omega
  go_enter func120,ntmps120;go_wp2;go_loopw [17] (λi wr=>∃k:Nat,k<=n/\i=U k/\Hid (∀i,i<k->rs[i]?=ss[i]?)/\bL w wr) (λi _=>n-(intOf i).toNat)
  case atStart=>exact⟨0,by omega,rfl,λi h=>absurd h (by omega),Kf _ _⟩
  case round=>
   obtain⟨k,hk,rfl,H,d⟩:=hrel;have i0:(0:Int)<=(k:Int):=by omega
   by_cases ao:k<n
   ·have i1:(k:Int)<(n:Int):=by omega
    obtain⟨r,u⟩:∃r,rs[k]?=some r:=⟨rs[k]'(by omega),by simp⟩;obtain⟨s,v⟩:∃s,ss[k]?=some s:=⟨ss[k]'(by omega),by simp⟩;obtain⟨b,o,rfl,N,G⟩:=E.o k r u;obtain⟨z,M,rfl,I,j⟩:=F.o k s v;have l:=Z u;have t:=Z v;clear u v;have O:=d.size;have⟨cv,c0,c1,w0,f⟩:=G.l d V N;have⟨dv,d0,d1,w1,g⟩:=j.l d V I;have x:∀X Y,bL wr ((wr.alloc X).alloc Y):=λX Y=>(bR.alloc lE _).alloc (by simp) _
    have y:Hid (∀X Y,cL 121 #[.agg #[cv,U r.2],.agg #[dv,U s.2]] ((wr.alloc X).alloc Y) λe P=>e=.returned (.bool (decide (r=s)))/\Below ((wr.alloc X).alloc Y).1.size ((wr.alloc X).alloc Y) P):=λX Y=>zk B cv dv r s _ (f.l (x X Y) (by omega)) (g.l (x X Y) (by omega)) (by simp;omega)
    obtain⟨a3,n3,a7,rfl⟩:=f.shape;obtain⟨a4,n4,J,rfl⟩:=g.shape;clear G j f g;generalize r.2=b4 at*;generalize s.2=Q at*;have ha:∀X,(wr.alloc X).cell? ⟨z,M+k*2,none⟩=some (.slice a4 n4 J):=λX=>(((Kf wr.1.size wr).alloc lE X).cell (p:=⟨z,M+k*2,none⟩) (by show z<wr.1.size;omega)).trans d0
    have b5:∀X,(wr.alloc X).cell? ⟨z,M+k*2+1,none⟩=some (U Q):=λX=>(((Kf wr.1.size wr).alloc lE X).cell (p:=⟨z,M+k*2+1,none⟩) (by show z<wr.1.size;omega)).trans d1
    generalize hq:decide (r=s)=q at*;have K:=Z hq;clear hq;go_wp2_with (first|(go_at_call 121;refine(y.o _ _).mono ?_;rintro e P ⟨rfl,R⟩))
    all_goals have L:bL w P:=Below.tO (Below.tO d (x _ _) O) R (by simp;omega)
    ·go_ret;refine⟨?_,L⟩;have c:r≠s:=by have h:=K.o;rw[(by simpa using (by assumption:(!q)=true):q=false)] at h;simpa using h
     have:rs≠ss:=by intro h;have h1:=l.o;rw[h,t.o] at h1;exact c (KG h1).symm
     simp[this]
    have S:r=s:=by have h:=K.o;rw[(by simpa using (by assumption:(!q)=false):q=true)] at h;simpa using h
    refine⟨⟨k+1,by omega,by go_num,λi hi=>?_,L⟩,by simp[intOf];omega⟩
    by_cases T:i=k
    ·subst T;rw[l.o,t.o,S]
    exact H.o i (by omega)
   go_wp2;go_ret;refine⟨?_,d⟩
   have:rs=ss:=by
    refine LD λi=>?_
    by_cases hi:i<k
    ·exact H.o i hi
    rw[KP (by omega),KP (by omega)]
   simp[this]
 have b6:((rs.length:Int) != (ss.length:Int))=true:=by simp;omega
 have hf:=Z (by simp;intro h;rw[h] at c;exact c rfl:decide (rs=ss)=false);generalize rs.length=n at*;generalize ss.length=m at*;go_enter func120,ntmps120;go_wp2;go_ret;exact⟨by rw[hf.o];rfl,Kf _ _⟩
theorem BX(B pv qv p q w)(t:aX B w pv p)(u:aX B w qv q)(m:B<=w.1.size):
  cL 94 #[pv,qv] w (rT w (.bool (decide (p=q)))):=by
 obtain⟨d,g⟩:=p;obtain⟨f,h⟩:=q;obtain⟨n,rfl,_,i⟩:=t;obtain⟨o,rfl,_,j⟩:=u;have b:∀X Y,bL w ((w.alloc X).alloc Y):=λX Y=>(bR.alloc lE _).alloc (by simp) _
 have c:Hid (∀X Y,cL 120 #[n,o,.func (.func 121) #[] #[]] ((w.alloc X).alloc Y) λe r=>e=.returned (.bool (decide (d=f)))/\Below ((w.alloc X).alloc Y).1.size ((w.alloc X).alloc Y) r):=λX Y=>xb B n o d f _ (i.l (b X Y) m) (j.l (b X Y) m) (by simp;omega)
 obtain⟨a,v,rfl⟩:=i.shape;obtain⟨y,s,rfl⟩:=j.shape;clear i j;simp only[]
 by_cases k:g=h
 ·subst k;have E:=Z (by simp:decide (((d,g):aD)=(f,g))=decide (d=f));generalize decide (d=f)=q at*;go_enter func94,ntmps94;go_wp2_with (first|(go_at_call 120;refine(c.o _ _).mono ?_;rintro e r ⟨rfl,l⟩));go_ret;exact⟨by rw[E.o];rfl,Below.tO (b _ _) l (by simp;omega)⟩
 have E:=Z (by simp;intro _;exact k:decide (((d,g):aD)=(f,h))=false);have x:(g==h)=false:=by simpa using k
 go_enter func94,ntmps94;go_wp2;go_ret;exact⟨by first|rfl|(rw[E.o];rfl),b _ _⟩
section
theorem ab{w:World}{b:Nat}{a:Array Value}{T}{c:Nat × Nat}(h:w.1[b]?=some (.cells a T c))(o:Nat){u:Value}(d:a[o]?=some u):w.cell? ⟨b,o,none⟩=some u:=by simp[World.cell?,h,d]
theorem ah(w:World)(o:Obj):(w.alloc o).1[w.1.size]?=some o:=(Kr w o).1
def fh(T:TypeId)(W d:World):Prop:=∀ (k:Nat) (a:Array Value) (b:TypeId) (c:Nat × Nat),W.1[k]?=some (.cells a b c)->b≠T->d.1[k]?=some (.cells a b c)
theorem fh.refl(T W):fh T W W:=λ_ _ _ _ h _=>h
theorem fh.trans{T A B C}(h:fh T A B)(e:fh T B C):fh T A C:=λk a b c f d=>e k a b c (h k a b c f d) d
theorem fh.of_below{T W W'}(h:bL W W'):fh T W W':=λk b c d a _=>(h.block k (io a)).trans a
theorem fh.drew{T W W'}(h:fh T W W'):fh T W W'.drew:=h
theorem fh.alloc{T W W'}(h:fh T W W')(o:Obj):fh T W (W'.alloc o):=h.trans (fh.of_below (bR.alloc lE _))
theorem fh.grown{T:TypeId}{W b:World}{base size n:Nat}{v:Value}{xs:List Value}(e:W.ownsRow base T size v n xs)(f:W.grownBy b v.ownBlock):fh T W b:=by
 intro k g j l a i;refine(f.block k (io a) λh=>?_).trans a;have⟨c,d⟩:=cX e k h.symm;rw[a] at d
 cases d;exact i rfl
section
variable {P:Program} {t e:TypeId} {inf:TypeInfo} {z:Value} {size bytes:Nat}
theorem uM(s:P.underlying t=some (.slice e))(w:P.info? e=some inf)(x:inf.zero=some z)(f:inf.size=size)(l:inf.bytes=bytes)(o:z.cells.size=size)(p:0<size)
  (base:Nat) (q:TypeId) (v:Value) (n m g:Nat) (xs a:List Value) (W:World) {T0} {y:Nat × Nat} (b:W.ownsRow base e size v n xs) (A:W.1[g]?=some (.cells a.toArray T0 y)) (B:a.length=m*size) (C:∀u∈a,u.oneCell'=true)
  (D:n+m<=maxLen) (E:(n+m)*bytes<=140737488355328) (d:base<=W.1.size) (c):
  ∃i h,(Builtin.append_ #[t,t] q #[v,.slice (sO g) m c]).run P W=.ok i h/\h.ownsRow base e size i (n+m) (xs++a)/\Below base W h/\fh e W h:=by
 obtain⟨i,h,F,G,r,_⟩:=LB (P:=P) W base t q e inf z size bytes s w x f l o p v n xs b (pA g 0) m c a B (λj u H=>by rw[eM];simpa [World.cell?,A] using H) C D E d;exact⟨i,h,F,G,bR.grown r d λk I=>eh b k I,fh.grown b r⟩
def lA(e:TypeId)(size base:Nat)(W:World)(v:Value)(n m:Nat)(xs a:List Value)(d c:Nat)(b:Nat->Value->Prop)(w:World):Prop:=
 Below base W w/\fh e W w/\
 ((∀u,¬b c u)->w.ownsRow base e size v n xs/\bL W w/\∀u,b d u->∃g f h,u=.slice (sO g) m m/\w.1[g]?=some (.cells a.toArray f h))/\
 (∀u,b c u->w.ownsRow base e size u (n+m) (xs++a))
theorem lA.start{base:Nat}{W:World}{v:Value}{n m:Nat}{xs a:List Value}{k1 k2}(h:W.ownsRow base e size v n xs):lA e size base W v n m xs a k1 k2 (λ_ _=>False) W.drew:=
 ⟨bR.drew,fh.refl _ _,λ_=>⟨h,bR.drew,λ_ h=>h.elim⟩,λ_ h=>h.elim⟩
theorem lA.l{base W w w' v n m xs news k1 k2}{j:Nat->Value->Prop}(h:lA e size base W v n m xs news k1 k2 j w)(d:base<=W.1.size)(f:bL w w'):lA e size base W v n m xs news k1 k2 j w':=by obtain⟨k,o,p,q⟩:=h;refine⟨Below.tO k f (k.u d),o.trans (fh.of_below f),λr=>?_,λu i=>aw (q u i) f⟩;have⟨a,b,c⟩:=p r;refine⟨aw a f,b.th f,λu i=>?_⟩;have⟨g,s,t,x,l⟩:=c u i;exact⟨g,s,t,x,(f.block g (io l)).trans l⟩
theorem lA.other{base W w v n m xs news k1 k2}{i:Nat->Value->Prop}(h:lA e size base W v n m xs news k1 k2 i w)(k:Nat)(u)(f:k1≠k)(g:k2≠k):lA e size base W v n m xs news k1 k2 (d9 i k u) w:=by
 obtain⟨j,l,o,p⟩:=h;refine⟨j,l,λq=>?_,λy d=>?_⟩
 ·have⟨a,b,c⟩:=o λy d=>q y (.inl d)
  refine⟨a,b,λy d=>?_⟩
  rcases d with d|⟨h,_⟩
  ·exact c y d
  exact absurd h f
 rcases d with d|⟨h,_⟩
 ·exact p y d
 exact absurd h g
theorem lA.call{base W w w' v n m xs news k1 k2}{d:Nat->Value->Prop}(h:lA e size base W v n m xs news k1 k2 d w)(a:base<=W.1.size)(f:bL w w')(k:Nat)(u)(b:k1≠k)(c:k2≠k):lA e size base W v n m xs news k1 k2 (d9 d k u) w':=(h.l a f).other k u b c
theorem lA.lit{base W w v n m xs news k1 k2}{g:Nat->Value->Prop}(h:lA e size base W v n m xs news k1 k2 g w)(f:base<=W.1.size)(i:k2≠k1)(T0):lA e size base W v n m xs news k1 k2 (d9 g k1 (.slice (sO w.1.size) m m)) (w.alloc (.cells news.toArray T0)):=by
 have⟨j,k,l,o⟩:=h.l f ((Kf w.1.size w).alloc lE (.cells news.toArray T0));refine⟨j,k,λp=>?_,λy d=>?_⟩
 ·have⟨a,b,c⟩:=l λy d=>p y (.inl d)
  refine⟨a,b,λy d=>?_⟩
  rcases d with d|⟨_,rfl⟩
  ·exact c y d
  exact⟨w.1.size,T0,(0,0),rfl,(Kr w _).1⟩
 rcases d with d|⟨h,_⟩
 ·exact o y d
 exact absurd h i
theorem lA.app(F:P.underlying t=some (.slice e))(G:P.info? e=some inf)(H:inf.zero=some z)(d:inf.size=size)(r:inf.bytes=bytes)(s:z.cells.size=size)(x:0<size)
  {base W w v n m xs news k1 k2} {p:Nat->Value->Prop} (h:lA e size base W v n m xs news k1 k2 p w) (f:base<=W.1.size) (I:news.length=m*size) (J:∀u∈news,u.oneCell'=true)
  (K:n+m<=maxLen) (A:(n+m)*bytes<=140737488355328) (C:TypeId) (i:Value) (l:p k1 i) (o:∀u,¬p k2 u):
  ∃k q,(Builtin.append_ #[t,t] C #[v,i]).run P w=.ok k q/\(∃a j,k=.slice a (n+m) j)/\lA e size base W v n m xs news k1 k2 (d9 p k2 k) q:=by
 obtain⟨D,L,M,S⟩:=h;have⟨a,b,c⟩:=M o;obtain⟨g,T,V,rfl,N⟩:=c i l;have⟨k,q,O,E,Q,R⟩:=uM F G H d r s x base C v n m g xs news w a N I J K A (D.u f) m;refine⟨k,q,O,?_,D.trans Q,L.trans R,λA=>absurd (.inr ⟨rfl,rfl⟩) (A k),λy B=>?_⟩
 ·have⟨a,j,h,_⟩:=an E;exact⟨a,j,h⟩
 rcases B with B|⟨_,rfl⟩
 ·exact absurd B (o y)
 exact E
def Ax(T:TypeId)(W:World):Type:={ w':World // fh T W w' }
theorem Ax.ne(T W):Nonempty (Ax T W):=⟨⟨W,fh.refl _ _⟩⟩
theorem Ax.cell{T W}(x:Ax T W){b o:Nat}{a:Array Value}{T'}{c:Nat × Nat}{v:Value}(h:W.1[b]?=some (.cells a T' c))(e:T'≠T)(d:W.cell? ⟨b,o,none⟩=some v):x.1.cell? ⟨b,o,none⟩=some v:=by have f:=x.2 b a T' c h e;simp only[World.cell?,h] at d;simp only[World.cell?,f];exact d
theorem lA.seen{base W v n m xs news k1 k2}:∀a w,lA e size base W v n m xs news k1 k2 a w->∃x:Ax e W,w=x.1:=λ_ w h=>⟨⟨w,h.2.1⟩,rfl⟩
end
end
def d7(v:Int):Bs:=vN.getD v.toNat []
def fK(f:Int):Bs:=fN.getD f.toNat []
def gl(o:Int):UInt8:=fU.getD (o-1).toNat 0
def cq(c:aN):Bs:=32 :: (fK c.1++(gl c.2.1 :: Lib.itoa c.2.2))
def ct(r:aq):Bs:=d7 r.2++r.1.flatMap cq++[59]
def cW(p:aD):Bs:=p.1.flatMap ct++d7 p.2
theorem jS:∀u:Nat,(Lib.decDigits u).length<=u+1:=by
 intro u
 induction u using Nat.strongRecOn with
 |_ u a=>
  rw[Lib.decDigits]
  split
  ·simp
  rename_i h;have:=a (u / 10) (by omega);simp;omega
theorem jM(v):(d7 v).length<=5:=by
 unfold d7;generalize v.toNat=k
 match k with
 |0=>decide
 |1=>decide
 |2=>decide
 |3=>decide
 |4=>decide
 |k+5=>simp[vN]
theorem t9(v):(fK v).length<=4:=by
 unfold fK;generalize v.toNat=k
 match k with
 |0=>decide
 |1=>decide
 |2=>decide
 |3=>decide
 |4=>decide
 |k+5=>simp[fN]
theorem lT{c:aN}(h:bS c=0):(0<=c.1/\c.1<5)/\(1<=c.2.1/\c.2.1<=4)/\(0<=c.2.2/\c.2.2<=65535):=by
 unfold bS at h
 split at h
 ·cases h
 split at h
 ·cases h
 split at h
 ·cases h
 have:=nq c.1;omega
theorem zI{c:aN}(h:bS c=0):(cq c).length<=70000:=by
 have⟨_,_,a⟩:=lT h;have b:=t9 c.1;have d:(Lib.itoa c.2.2).length<=65536:=by unfold Lib.itoa;rw[iO (by omega)];have:=jS c.2.2.toNat;omega
 unfold cq;simp;omega
theorem jQ:∀ (cs:List aN),(∀c∈cs,bS c=0)->(cs.flatMap cq).length<=cs.length*70000
 |[],_=>by simp
 |c :: r,h=>by
  have:=jQ r λd a=>h d (by simp[a])
  have:=zI (h c (by simp));simp only[KQ,Kj,Kv];omega
theorem qw:∀ (cs:List aN),eW cs=0->∀c∈cs,bS c=0
 |[],_,c,h=>by cases h
 |d :: r,h,c,b=>by
  unfold eW at h
  by_cases a:bS d=0
  ·rw[Io a] at h
   rcases Kz.1 b with rfl|b
   ·exact a
   exact qw r h c b
  rw[iO a] at h;exact absurd h a
theorem lV{r:aq}(h:bH r=0):r.1.length<=10/\(0<=r.2/\r.2<=4)/\∀c∈r.1,bS c=0:=by
 unfold bH at h
 split at h
 ·cases h
 split at h
 ·rename_i a;unfold cA at a;simp at a;exact⟨by omega,a,qw _ h⟩
 cases h
theorem qh:∀ (e:List aq),eE e=0->∀r∈e,bH r=0
 |[],_,c,h=>by cases h
 |d :: r,h,c,b=>by
  unfold eE at h
  by_cases a:bH d=0
  ·rw[Io a] at h
   rcases Kz.1 b with rfl|b
   ·exact a
   exact qh r h c b
  rw[iO a] at h;exact absurd h a
theorem jF{p:aD}(h:aj p=0):p.1.length<=120/\(0<=p.2/\p.2<=4)/\∀r∈p.1,bH r=0:=by
 unfold aj at h
 split at h
 ·cases h
 split at h
 ·rename_i a;unfold cA at a;simp at a;exact⟨by omega,a,qh _ h⟩
 cases h
theorem zW{r:aq}(h:bH r=0):(ct r).length<=800000:=by have⟨b,_,a⟩:=lV h;have:=jQ r.1 a;have:=jM r.2;unfold ct;simp only[Kj,Kv,Lf];omega
theorem iT:∀ (a:List aq),(∀r∈a,bH r=0)->(a.flatMap ct).length<=a.length*800000
 |[],_=>by simp
 |c :: r,h=>by
  have:=iT r λd b=>h d (by simp[b])
  have:=zW (h c (by simp));simp only[KQ,Kj,Kv];omega
theorem Cv{s:ByteArray}{i:Nat}(h:Lib.NoAny s.1.1 fU i)(f:i<s.size)(g:128<=(s[i]'f).toNat):Lib.NoAny s.1.1 fU (i+(Utf8.decode s i).2):=by
 intro j b m d
 by_cases k:j<i
 ·exact h j b k d
 have a:j<s.size:=by have:=(K9.1 d).1;rw[<-KR] at this;exact this
 have c:b=s[j]'a:=by rw[Lib.data_getElem? s j a] at d;exact(KG d).symm
 apply GG
 by_cases l:j=i
 ·subst l;rw[c];exact g
 have:=BV s i (j-i) (by omega) (by omega);rw[show i+(j-i)=j by omega] at this;rw[c];have e:=get_at s j a;rw[<-e];exact this
theorem vp(s:ByteArray)(R:s.size<=8)(w):
  cL 248 #[.string s,.string jC] w (rT w (U (Lib.indexAny s.1.1 fU))):=by
 have L:jC.size=4:=rfl;have E:decide ((8:Int)<(s.size:Int))=false:=KD (by omega);have G:jC.toList.isEmpty=false:=by rw[ML];rfl
 have F:bL w (w.iter s 0):=bR.alloc lE _;go_enter func248,ntmps248;go_wp2_with (first|(go_at_call 263;go_must (refine(Tryz.strings_shouldUseASCIISet _ _).mono ?_;rintro e k ⟨rfl,H⟩;rw[H,E];clear H)));go_loopw [9,10] (λ_ _ wr=>∃i,Hid (wr.1[w.1.size]?=some (.stringIter s i))/\bL w wr/\Hid (Lib.NoAny s.1.1 fU i)) (λ_ _ wr=>s.size-wr.iterPos w.1.size)
 case atStart=>exact⟨0,World.iter_heap w s 0,F,Lib.NoAny.zero _ _⟩
 case round=>
  obtain⟨i,n,o,D⟩:=hrel;have u:wr.iterPos w.1.size=i:=by unfold World.iterPos;rw[n.o]
  have M:=io n.o
  by_cases m:i<s.size
  ·obtain⟨x,t⟩:∃x:UInt8,s[i]'m=x:=⟨_,rfl⟩;have p:Hid (s.1.1[i]?=some x):=by rw[<-t];exact Lib.data_getElem? s i m
   by_cases v:x.toNat<128
   ·have q:=λy=>Lib.run_next_ascii_at (P:=prog) wr w.1.size s i y n.o m (by rw[t];exact v)
    rw[t] at q;have f:=Z (Lib.iterAt_heap wr _ s i (i+1) n.o);have l:bL w (wr.iterAt w.1.size s (i+1)):=Lib.below_iterAt o lE _ _;have a:=Mw fU x;have g:((x.toNat:Int)).toNat.toUInt8=x:=by simp
    generalize wr.iterAt w.1.size s (i+1)=W at*;clear t
    cases hin:fU.contains x
    ·rw[hin] at a;have I:=of_decide_eq_false a.symm;have c:=Z (D.o.succ p.o hin);clear a;have z:Hid (∀w,cL 262 #[.string jC,.int .i32 x.toNat] w λe k=>e=.returned (U (Lib.indexByte fU x))/\k=w):=λw=>by have:=Tryz.strings_IndexRune_ascii jC x.toNat w (by omega) (by omega);rw[g] at this;exact this
     generalize Lib.indexByte fU x=N at*;go_wp2_with (first|(go_at_call 262;go_must (refine(z.o _).mono ?_;rintro e k ⟨rfl,rfl⟩)));have h:k.iterPos w.1.size=i+1:=by unfold World.iterPos;rw[f.o]
     exact⟨⟨i+1,f,l,c⟩,by rw[u,h];omega⟩
    rw[hin] at a;have J:=of_decide_eq_true a.symm;have c:=Z (Lib.indexAny_hit D.o p.o hin);clear a;have z:Hid (∀w,cL 262 #[.string jC,.int .i32 x.toNat] w λe k=>e=.returned (U (Lib.indexByte fU x))/\k=w):=λw=>by have:=Tryz.strings_IndexRune_ascii jC x.toNat w (by omega) (by omega);rw[g] at this;exact this
    generalize Lib.indexByte fU x=N at*;go_wp2_with (first|(go_at_call 262;go_must (refine(z.o _).mono ?_;rintro e k ⟨rfl,rfl⟩)));go_ret;exact⟨by rw[c.o];rfl,l⟩
   have d:128<=(s[i]'m).toNat:=by rw[t];omega
   have⟨S,T⟩:=decode_high s i m d;have V:=decode_le s i;have c:=Z (Cv D.o m d);have q:=λy=>Lib.run_next_any_at (P:=prog) wr w.1.size s i y n.o m
   have f:Hid ((wr.iterAt w.1.size s (i+(Utf8.decode s i).2)).1[w.1.size]?=some (.stringIter s (i+(Utf8.decode s i).2))):=Lib.iterAt_heap wr _ s i _ n.o;have l:bL w (wr.iterAt w.1.size s (i+(Utf8.decode s i).2)):=Lib.below_iterAt o lE _ _;generalize wr.iterAt w.1.size s (i+(Utf8.decode s i).2)=W at*;have z:Hid (∀w,cL 262 #[.string jC,.int .i32 (Utf8.decode s i).1] w (rT w (U (-1)))):=λw=>vY _ (by omega) (by omega) w
   generalize (Utf8.decode s i).1=r at*;generalize (Utf8.decode s i).2=K at*;clear t d p;have A:=io f.o;go_wp2_with (first|(go_at_call 262;go_must (refine(z.o _).mono ?_;rintro e k ⟨rfl,B⟩)));have C:=(B.block w.1.size A).trans f.o;have h:k.iterPos w.1.size=i+K:=by unfold World.iterPos;rw[C]
   exact⟨⟨i+K,C,l.th B,c⟩,by rw[u,h];omega⟩
  have q:=λy=>Lib.run_next_end_at (P:=prog) wr w.1.size s i y n.o m
  have c:Hid (Lib.indexAny s.1.1 fU = -1):=Lib.indexAny_none (λj b O Q=>D.o j b (by rw[<-KR] at O;omega) Q);go_wp2;go_ret;exact⟨by rw[c.o];rfl,o⟩
theorem A9(s:ByteArray)(c:s.size<4294967281)(w):
  cL 248 #[.string s,.string jC] w (rT w (U (Lib.indexAny s.1.1 fU))):=by
 by_cases d:s.size<=8
 ·exact vp s d w
 refine(Tryz.strings_IndexAny_long (λw=>by kernel_rfl) s jC w (by decide) (by omega) c (by decide) (λj b f=>?_)).mono ?_
 ·have a:=Kb f;rw[BL] at a;simp[fU] at a
  rcases a with rfl|rfl|rfl|rfl<;>decide
 rintro e g ⟨rfl,rfl⟩;exact⟨rfl,(bR.alloc lE _).alloc (by simp) _⟩
theorem qD{l:Bs}{v:Int}(h:Lib.atoiAll l=.ok v) : -9223372036854775808<=v/\v<=9223372036854775807:=by
 unfold Lib.atoiAll at h
 split at h
 ·cases h
 simp only[] at h
 split at h
 ·cases h
 ·cases h
 split at h
 ·cases h
 split at h
 ·cases h
 cases h
 split<;>omega
theorem kV(s:ByteArray)(D:s.size<=4294967280)(w)(x:dD w):
  cL 175 #[.string s] w λe d=>∃n ok,e=.returned (.tuple #[U n,.bool ok])/\(cS s.1.1=if ok=true then some n else none)/\wf n/\bL w d:=by
 cases hA:Lib.atoiAll s.1.1 with
 |ok v=>
  have⟨A,B⟩:=qD hA;have b:wf v:=by unfold wf;exact L4 (by omega)
  have l:Hid (∀d,bL w d->cL 98 #[U v] d (rT d (.string ⟨(Lib.itoa v).toArray⟩))):=λd m=>
   (Tryz.strconv_Itoa v A B d (x.l m).2.2.2).mono (by rintro e o ⟨rfl,k,E,rfl⟩;exact⟨rfl,LT _ _ lE _ _⟩)
  have c:Hid (cL 203 #[.string s] w (rT w (.tuple #[U v,.nilIface]))):=
   (Tryz.strconv_Atoi_ok s (by omega) v hA w).mono (λe o h=>⟨h.1,by rcases h.2 with rfl|⟨t,h⟩;(exact Kf _ _);(exact mZ _ _ _ _ h)⟩)
  have u:Hid (cS s.1.1=if Lib.itoa v=s.1.1 then some v else none):=by unfold Hid cS;rw[hA]
  have f:=Z b;clear b hA
  by_cases j:Lib.itoa v=s.1.1
  ·have C:(Lib.itoa v).toArray=s.data:=by rw[j]
   have g:=Z (by rw[u.o,Io j]:cS s.1.1=some v);clear u j;go_enter func175,ntmps175;go_wp2_with fail;go_at_call 203;refine c.o.mono ?_;rintro e y ⟨rfl,a⟩;go_wp2_with fail;go_at_call 98;refine(l.o _ a).mono ?_;rintro e o ⟨rfl,i⟩;go_wp2_with fail;go_ret2;exact⟨v,true,rfl,by rw[g.o];rfl,f.o,a.th i⟩
  have C:(Lib.itoa v==s.toList)=false:=by
   rw[ML]
   simpa using j
  have g:=Z (by rw[u.o,iO j]:cS s.1.1=none);clear u j;go_enter func175,ntmps175;go_wp2_with fail;go_at_call 203;refine c.o.mono ?_;rintro e y ⟨rfl,a⟩;go_wp2_with fail;go_at_call 98;refine(l.o _ a).mono ?_;rintro e o ⟨rfl,i⟩;go_wp2_with fail;go_ret2;exact⟨0,false,rfl,by rw[g.o];rfl,by unfold wf;decide,a.th i⟩
 |«syntax»=>
  obtain⟨z,q,r⟩:=x.2.1
  have c:Hid (cL 203 #[.string s] w λe d=>∃n t p,e=.returned (.tuple #[U n,.iface t (.pointer (some p))])/\wf n/\bL w d):=
   (Tryz.strconv_Atoi_syntax s (by omega) hA z w q r).mono (by rintro e o ⟨N,rfl,_,_,m⟩;exact⟨0,_,_,rfl,by unfold wf;decide,m⟩)
  have g:Hid (cS s.1.1=none):=by unfold Hid cS;rw[hA]
  clear hA q r;go_enter func175,ntmps175;go_wp2_with fail;go_at_call 203;refine c.o.mono ?_;rintro e y ⟨n,t,p,rfl,b,a⟩;have f:=Z b;clear b;go_wp2_with fail;go_ret2;exact⟨0,false,rfl,by rw[g.o];rfl,by unfold wf;decide,a⟩
 |range=>
  obtain⟨z,q,r⟩:=x.2.2.1
  have c:Hid (cL 203 #[.string s] w λe d=>∃n t p,e=.returned (.tuple #[U n,.iface t (.pointer (some p))])/\wf n/\bL w d):=
   (Tryz.strconv_Atoi_range s (by omega) hA z w q r).mono (by rintro e o ⟨N,rfl,_,_,m⟩;exact⟨_,_,_,rfl,by unfold wf Lib.atoiSat;split<;>decide,m⟩)
  have g:Hid (cS s.1.1=none):=by unfold Hid cS;rw[hA]
  clear hA q r;go_enter func175,ntmps175;go_wp2_with fail;go_at_call 203;refine c.o.mono ?_;rintro e y ⟨n,t,p,rfl,b,a⟩;have f:=Z b;clear b;go_wp2_with fail;go_ret2;exact⟨0,false,rfl,by rw[g.o];rfl,by unfold wf;decide,a⟩
def dU(l:Bs):ByteArray:=⟨l.toArray⟩
theorem uh:∀ (a:List Bs) (x:ByteArray),Lib.idxOfS (a.map dU) x=bt a x.1.1:=by
 have c:∀ (a:List Bs) (x:ByteArray) (i:Nat),Lib.idxFromS (a.map dU) x i=if bt a x.1.1 = -1 then -1 else bt a x.1.1+i:=by
  intro a x
  induction a with
  |nil=>intro i;simp[Lib.idxFromS,bt]
  |cons n r f=>
   intro i;have g:=jh r x.1.1
   have b:(dU n=x) ↔ n=x.1.1:=by
    constructor
    ·intro h;rw[<-h];simp[dU]
    intro h;rw[h];cases x;simp[dU]
   rw[Lt,Lib.idxFromS,f (i+1),bt]
   by_cases h:n=x.1.1
   ·rw[Io (b.2 h),Io h];simp
   have j:¬(dU n=x):=λe=>h (b.1 e)
   simp only[h,j,if_false]
   by_cases d:bt r x.1.1 = -1
   ·simp[d]
   simp only[d,if_false]
   split<;>omega
 intro a x;have:=c a x 0;unfold Lib.idxOfS;rw[this]
 split
 ·rename_i h;exact h.symm
 simp
