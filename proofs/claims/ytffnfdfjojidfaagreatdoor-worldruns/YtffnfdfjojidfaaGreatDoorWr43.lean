import Derived.Test.YtffnfdfjojidfaaGreatDoorWr37
import Derived.Test.YtffnfdfjojidfaaGreatDoorWr42
set_option linter.all false
set_option maxRecDepth 100000
set_option maxHeartbeats 8000000
namespace Go.Proofs.YtffnfdfjojidfaaGreatDoor
open Go.RowKit Go.Maps Go.Proofs.Tryz
theorem Do(s w)(he:dD w):
  cL 114 #[.string s] w λe L=>∃v,e=.returned (.tuple #[v,U (gR s.1.1).2])/\gi w.1.size L v (gR s.1.1).1/\bL w L:=by
 have M:=KR s;have⟨W0,q⟩:=nM (w.alloc (.cells #[U 0,U 0,U 0,nL,U 0] 71));have g0:=hA q;have B:=bA q;have N:=Z λL (h:bL W0 L)=>Q2 (h.bl g0) (B.th h)
 have HW:=Z q
 by_cases r:60000<s.size
 ·have b:Hid (gR s.1.1=(cu,2)):=by unfold Hid gR;rw[Io (by omega)]
  have hl:(60000:Int)<(s.size:Int):=by omega
  have a6:bL w (w.alloc (.cells #[U 0,U 0,U 0,nL,U 0] 71)):=bR.alloc lE _;have gW:=ah w (.cells #[U 0,U 0,U 0,nL,U 0] 71);have⟨z0,z1,z2,z3,z4⟩:=aF gW;clear M r he q g0 B HW N gW;go_enter func114,ntmps114;go_wp2;refine Ka (v:=.tuple #[.agg #[U 0,U 0,U 0,nL,U 0],U 2]) ?_ rfl ⟨_,by rw[b.o],by rw[b.o];exact dg _ _,?_⟩
  ·rw[K8 rfl];go_simp
  exact a6
 have hl:¬((60000:Int)<(s.size:Int)):=by omega
 have O:=F1 s (by omega) W0 (he.l B);have C:Hid _:=O;have f:Hid (gR s.1.1=if (gm s.1.1).2=0 then gP (gm s.1.1).1 else (cu,(gm s.1.1).2)):=by unfold Hid gR;rw[iO (by omega)];exact I2 _
 clear M r he q g0 B O;go_enter func114,ntmps114;go_wp2_with fail;rw[<-HW.o];go_at_call 140;refine Calls.mono C.o ?_;rintro e w1 ⟨v,rfl,j,t⟩;have⟨RR,D⟩:=nM ((gm s.1.1).1);have⟨P,F⟩:=nM ((gm s.1.1).2);rw[<-D] at j
 rw[<-F] at |-
 rw[<-D,<-F] at f;clear D F C;have Q:=Z j;obtain⟨a,c,rfl,-⟩:=j.at.shape;obtain⟨k,o,p,A,d⟩:=RR;simp only[] at*;have HL:Hid (w.1.size<W0.1.size):=io (N.o W0 bR).1;have⟨n,hn⟩:=nM (A.length)
 rw[<-hn] at Q |-
 clear hn j;have⟨R,u⟩:=nM (w1.alloc (.cells #[U k,U o,U p,.slice a n c,U d] 71));have l:=bA u;have S:=hA u;have G:=t.th l;have H:=Z λL (h:bL R L)=>Q3 (h.bl S) (G.th h) (l.th h)
 have b7:¬w.1.size=w1.1.size:=by have:=io (N.o w1 t).1;omega
 have I:=Z Q.o;have J:Hid (cL 116 #[.agg #[U k,U o,U p,.slice a n c,U d]] R (rT R (U (aZ (k,o,p,A,d))))):=jy _ _ (k,o,p,A,d) R (I.o R (λg _ hl=>l.block g hl) l.size) lE;have T:=Z u;have x:Hid (gP (k,o,p,A,d)=if aZ (k,o,p,A,d)=0 then ((k,o,p,A,d),0) else (cu,aZ (k,o,p,A,d))):=rfl;have⟨q0,q1,q2,q3,q4⟩:=aF S;have l2:=io S;generalize aZ (k,o,p,A,d)=E at*
 by_cases m:P=0
 ·have b:Hid (gR s.1.1=if E=0 then ((k,o,p,A,d),0) else (cu,E)):=by unfold Hid;rw[f.o,Io m,x.o]
  subst m;clear u l S t G f x;go_wp2_with fail;rw[<-T.o];go_at_call 116;refine Calls.mono J.o ?_;rintro e w3 ⟨rfl,V⟩;have⟨g3,W,X⟩:=H.o w3 V;have⟨r0,r1,r2,r3,r4⟩:=aF g3;have l3:=io g3;have K:=Z X;have⟨i,y⟩:=N.o w3 W;have lb:=io i;have⟨z0,z1,z2,z3,z4⟩:=aF i;have f0:=fZ i 0;have f1:=fZ i 1;have f2:=fZ i 2;have f3:=fZ i 3;have f4:=fZ i 4;have z:=Z y;clear i y W g3 X V T J H q0 q1 q2 q3 q4 l2
  by_cases Y:E=0
  ·have HR:Hid (gR s.1.1=((k,o,p,A,d),0)):=by unfold Hid;rw[b.o,Io Y]
   subst Y;go_wp2_with fail;refine Ka (v:=.tuple #[.agg #[U k,U o,U p,.slice a n c,U d],U 0]) ?_ rfl ⟨_,by rw[HR.o],by rw[HR.o];have hL:=HL.o;exact λwF k1 k2=>I.o wF (λg h1 h2=>(k1 g (by omega) (by simp;exact Kd h2 K.o.size)).trans <| ((((Kc _ _ _ _ (by show g≠w.1.size;omega)).trans (Kc _ _ _ _ (by show g≠w.1.size;omega))).trans (Kc _ _ _ _ (by show g≠w.1.size;omega))).trans (Kc _ _ _ _ (by show g≠w.1.size;omega))).trans ((Kc _ _ _ _ (by show g≠w.1.size;omega)).trans (K.o.block g h2))) (Kl (by simp;exact K.o.size) k2),?_⟩
   ·rw[K8 rfl];go_simp
   exact z.o.s5 lE
  have HR:Hid (gR s.1.1=(cu,E)):=by unfold Hid;rw[b.o,iO Y]
  have hq:(E != 0)=true:=by simpa using Y
  clear Y;go_wp2_with fail;refine Ka (v:=.tuple #[.agg #[U 0,U 0,U 0,nL,U 0],U E]) ?_ rfl ⟨_,by rw[HR.o],by rw[HR.o];exact dg _ _,?_⟩
  ·rw[K8 rfl];go_simp
  exact z.o.s5 lE
 have b:Hid (gR s.1.1=(cu,P)):=by unfold Hid;rw[f.o,iO m]
 have hq:(P != 0)=true:=by simpa using m
 have bo:(P==0)=false:=by simpa using m
 have⟨i,y⟩:=N.o w1 t;have lb:=io i;have⟨z0,z1,z2,z3,z4⟩:=aF i;have f0:=fZ i 0;have f1:=fZ i 1;have f2:=fZ i 2;have f3:=fZ i 3;have f4:=fZ i 4;have z:=Z y;clear u l S t G f x i y H J I m q0 q1 q2 q3 q4 l2;go_wp2_with fail;refine Ka (v:=.tuple #[.agg #[U 0,U 0,U 0,nL,U 0],U P]) ?_ rfl ⟨_,by rw[b.o],by rw[b.o];exact dg _ _,?_⟩
 ·rw[K8 rfl];go_simp
 exact(z.o.s5 lE).alloc (by simp;exact z.o.size) _
def Jm(bs:Bs):Int:=match i8 bs with
 |none=>-1
 |some (a,_)=>a.length
theorem GY:∀e:Bs,Lib.indexByte e 10=Jm e
 |[]=>rfl
 |b :: l=>by
  have c:=GY l
  unfold Jm at c |-
  show (if (b==10)=true then (0:Int) else if (Lib.indexByte l 10==-1)=true then -1 else Lib.indexByte l 10+1)=_
  show _=match (if b=10 then some ([],l) else match i8 l with|none=>none|some (a,t)=>some (b :: a,t)) with|none=>(-1:Int)|some (a,_)=>(a.length:Int)
  by_cases d:b=10
  ·rw[Io (by simpa using d),Io d];rfl
  rw[iO (by simpa using d),iO d]
  cases hc:i8 l with
  |none=>
   rw[hc] at c
   simp only[] at c |-
   rw[c];rfl
  |some x=>
   obtain⟨a,t⟩:=x;rw[hc] at c
   simp only[] at c |-
   rw[c,iO (by simp<;>omega)];simp
theorem BI(bs:Bs):Lib.bytesOf (bs.map λb=>(b.toNat:Int))=bs:=by
 unfold Lib.bytesOf;rw[List.map_map]
 conv=>rhs;rw[<-List.map_id bs]
 refine ME λb _=>?_
 simp
theorem uq(B v bs w)(h:aI B w v bs):
  cL 113 #[v,.int .u8 10] w λe j=>e=.returned (U (Jm bs))/\j=w:=by
 obtain⟨a,d,rfl,t,u,f⟩:=h
 cases a with
 |none=>
  have m:bs=[]:=by
   cases bs with
   |nil=>rfl
   |cons r l=>have⟨b,o,e,_⟩:=f 0 r rfl;cases e
  subst m;have c:=Lib.run_indexByteNil (P:=prog) w 0 d 10;go_enter func113,ntmps113;go_wp2;rw[MD func139 (by kernel_rfl) (by kernel_rfl) (by kernel_rfl) (e:=Extern.BytealgIndexByte.indexByte) (by kernel_rfl),c];simp only[Result.andThen];rw[MI];go_wp2;go_ret;exact⟨rfl,rfl⟩
 |some p=>
  have c:=Lib.run_indexByteAt (P:=prog) w p bs.length d (bs.map λb=>(b.toNat:Int)) (by simp) (λi q=>by
   obtain⟨g,o,e,_,k⟩:=f i bs[i] (by simp);have s:=KG e;subst s;rw[eM,k,Kn,Ku,Lu q]
   rfl) 10
  rw[BI,show (10:Int).toNat.toUInt8=10 by decide,GY] at c;generalize bs.length=n at*;generalize Jm bs=z at*;clear f;go_enter func113,ntmps113;go_wp2;rw[MD func139 (by kernel_rfl) (by kernel_rfl) (by kernel_rfl) (e:=Extern.BytealgIndexByte.indexByte) (by kernel_rfl),c];simp only[Result.andThen];rw[MI];go_wp2;go_ret;exact⟨rfl,rfl⟩
theorem DD{B w a n c bs}(h:aI B w (.slice a n c) bs)(k:Nat)(C:k<=bs.length):∃m,(∀d,(Instr.slice 23 (.slice a n c) (some (U k)) none none).run prog d=.ok (.slice m (n-k) (c-k)) d)/\aI B w (.slice m (n-k) (c-k)) (bs.drop k):=by
 obtain⟨D,E,e,F,G,p⟩:=h;simp at e;obtain⟨rfl,rfl,rfl⟩:=e;obtain⟨q,f,r,j,s⟩:=mo;refine⟨if c=k then a else a.map (·.add (k*1)),λd=>?_,?_⟩
 ·have t:(0:Int)<=(k:Int):=by omega
  have u:(k:Int)<=(bs.length:Int):=by omega
  have v:((k:Int)).toNat=k:=by omega
  simp[Instr.slice,Instr.sliceBounds,Instr.sliceBound,KY Tryz.underlying23,sizeOf,typeInfo,f,j,asIntOf,t,u,v];intro x;exact absurd x (by omega)
 refine⟨_,_,by rw[MA],by rw[MA];omega,by omega,λi b l=>?_⟩;rw[List.getElem?_drop] at l;have y:=(K9.1 l).1;have⟨g,o,e,z,A⟩:=p (k+i) b l;subst e;refine⟨g,o+k,?_,z,by rw[KX];exact A⟩;rw[iO (by omega)];simp[eM]
theorem vQ{B w a n c bs}(h:aI B w (.slice a n c) bs)(k:Nat)(i:k<=bs.length):∃g,(∀b,(Instr.slice 23 (.slice a n c) none (some (U k)) none).run prog b=.ok (.slice g k c) b)/\aI B w (.slice g k c) (bs.take k):=by
 have j:=h.take k i;obtain⟨t,u,e,v,x,y⟩:=h;simp at e;obtain⟨rfl,rfl,rfl⟩:=e;obtain⟨l,d,m,f,o⟩:=mo;refine⟨a,λb=>?_,j⟩;have p:(0:Int)<=(k:Int):=by omega
 have q:(k:Int)<=(c:Int):=by omega
 have r:((k:Int)).toNat=k:=by omega
 simp[Instr.slice,Instr.sliceBounds,Instr.sliceBound,KY Tryz.underlying23,sizeOf,typeInfo,d,f,asIntOf,p,q,r];go_simp;intro s;exact absurd s (by omega)
def cg(L:Nat)(w:World)(v:Value)(bs:Bs):Prop:=∀a:World,(∀g,L<=g->g<w.1.size->a.1[g]?=w.1[g]?)->w.1.size<=a.1.size->aI a.1.size a v bs
theorem AZ{L g:Nat}{w:World}{bs:Bs}(a:L<=g)(f:bs.length<=140737488355328)(h:w.1[g]?=some (.cells (dz bs).toArray 5 (0,0))):cg L w (.slice (sO g) bs.length bs.length) bs:=by intro j c k;have d:=io h;refine⟨_,_,rfl,Ke _,by rw[ai];omega,λi b e=>⟨g,0,rfl,by omega,?_⟩⟩;refine ab ((c g a d).trans h) _ ?_;rw[Kp,LK];unfold dz;rw[Ku,e];rfl
theorem CT(n:Nat)(f:n<=140737488355328)(w:World):(Instr.makeSlice 23 (U n) (U n)).run prog w=.ok (.slice (sO w.1.size) n n) (w.alloc (.cells (madeCells #[.int .u8 0] n) 5)):=by
 obtain⟨a,b,c,d,e⟩:=mo;have:=MQ (P:=prog) w 23 5 a _ Tryz.underlying23 b c .i64 .i64 n n (by omega) (LH _) (by rw[e];omega) (by omega);rw[d] at this
 simpa [Value.cells] using this
theorem oG(B g o f n:Nat)(d:Option Addr)(sv y)(m:Array Value)(w)(h:aI B w sv y)(J:y≠[]->d=some ⟨g,o,none⟩)(D:w.1[g]?=some (.cells m 5 (0,0)))(E:y.length<=f)(x:o+y.length<=m.size):
  ∃z,(∀q,(Builtin.copy_ #[23,23] q #[.slice d f n,sv]).run prog w=.ok (U y.length) z)/\z.1[g]?=some (.cells (m.toList.take o++dz y++m.toList.drop (o+y.length)).toArray 5 (0,0))/\z.1.size=w.1.size/\Below g w z:=by
 obtain⟨K,F,L,G,M⟩:=mo;obtain⟨a,H,rfl,N,O,s⟩:=h;have I:(prog.info? 5).map (·.size)=some 1:=by rw[F];simp[G]
 by_cases A:y=[]
 ·subst A;refine⟨w,λq=>run_copy_none w _ _ q 5 _ _ _ _ _ _ Tryz.underlying23 I (by simp),?_,rfl,Kf _ _⟩;rw[D];simp[dz]
 rw[J A]
 obtain⟨C,e⟩:∃C,a=some C:=by
  cases y with
  |nil=>exact absurd rfl A
  |cons r l=>have⟨b,o,e,_⟩:=s 0 r rfl;exact⟨_,e⟩
 subst e
 have t:∀j u,(dz y)[j]?=some u->w.cell? (C.add j)=some u:=by
  cases y with
  |nil=>exact absurd rfl A
  |cons r l=>
   have⟨b,o,e,_,_⟩:=s 0 r rfl
   cases e;intro j u Q;rw[eM];refine rD (r :: l) o (λi c R=>?_) j u Q;have⟨S,T,e,_,k⟩:=s i c R
   cases e;exact k
 have v:(dz y).length=y.length:=by rw[li,Nat.mul_one]
 have p:=λq=>run_copy_row (P:=prog) w 23 23 q 5 g o f n C y.length H m 5 (dz y) Tryz.underlying23 I D (by rw[v];exact(MJ E).symm) t (by rw[v];exact x) (ue y)
 rw[v] at p;exact⟨_,λq=>p q,setRow_heap w g _ _ _ _ D,by simp[World.setRow],⟨rfl,rfl,rfl,by simp[World.setRow],λk V=>Mx w g k _ (by omega)⟩⟩
theorem kK(B av bv x y w)(M:aI B w av x)(N:aI B w bv y)(O:B<=w.1.size)(A:x.length+y.length<=140737488355328):
  cL 92 #[av,bv] w λe o=>∃v,e=.returned v/\(∃a,v=.slice a (x.length+y.length) (x.length+y.length))/\cg w.1.size o v (x++y)/\bL w o:=by
 have⟨p,j⟩:=nM (madeCells #[.int .u8 0] (x.length+y.length));have h:p.size=x.length+y.length:=by rw[j,LS]
 have b:=λw=>CT (x.length+y.length) A w
 rw[<-j] at b;have⟨Y,f⟩:=nM (w.alloc (.cells p 5));have C:=bA f;have P:=hA f;obtain⟨Q,R,S,s2,T⟩:=oG B w.1.size 0 (x.length+y.length) (x.length+y.length) (sO w.1.size) av x p Y (M.l C O) (λ_=>rfl) P (by omega) (by omega);have k:bL w Q:=C.trans T;have i:(p.toList.take 0++dz x++p.toList.drop (0+x.length)).toArray.size=x.length+y.length:=by simp[dz,h]
 obtain⟨d,D⟩:∃d:Option Addr,d=if x.length+y.length=x.length then some (pA w.1.size 0) else some (((pA w.1.size 0):Addr).add (x.length*1)):=⟨_,rfl⟩
 obtain⟨q,V,W,s3,X⟩:=oG B w.1.size x.length y.length y.length d bv y _ Q (N.l k O) (λhy=>by
  have:y.length≠0:=λe=>hy (LV e)
  rw[D,iO (by omega),eM]
  simp) S lE (by rw[i];omega)
 have r:bL w q:=k.trans X
 have s:q.1[w.1.size]?=some (.cells (dz (x++y)).toArray 5 (0,0)):=by
  rw[W];congr 2;rw[oS];have E:(dz x).length=x.length:=by rw[li,Nat.mul_one]
  simp[List.take_append,List.drop_append,E];omega
 have c:Hid (cg w.1.size q (.slice (sO w.1.size) (x.length+y.length) (x.length+y.length)) (x++y)/\bL w q):=⟨by
  have:=AZ (L:=w.1.size) (w:=q) (bs:=x++y) lE (by rw[Kj];exact A) s;rw[Kj] at this
  exact this,r⟩
 obtain⟨a3,F,a4,G,a5⟩:=mo
 have g:∀o,(Instr.slice 23 (.slice (sO w.1.size) (x.length+y.length) (x.length+y.length)) (some (U (x.length:Int))) none none).run prog o=.ok (.slice d y.length y.length) o:=λo=>by
  have e1:(0:Int)<=(x.length:Int):=by omega
  have e2:(x.length:Int)<=((x.length+y.length:Nat):Int):=by omega
  have e3:((x.length:Int)).toNat=x.length:=by omega
  rw[D];simp[Instr.slice,Instr.sliceBounds,Instr.sliceBound,KY Tryz.underlying23,sizeOf,typeInfo,F,G,asIntOf,e1,e2,e3]
 obtain⟨aa,ac,ea,-,-,-⟩:=M;obtain⟨ba,bc,eb,-,-,-⟩:=N;subst ea eb;have H:=Z f;have l:Hid _:=R;have t:Hid _:=V;have⟨n,u⟩:=nM (x.length);have⟨m,z⟩:=nM (y.length)
 rw[<-u] at b c g l A |-
 rw[<-z] at b c g l t A |-
 have I:∀w,(Instr.makeSlice 23 (U ((n:Int)+(m:Int))) (U ((n:Int)+(m:Int)))).run prog w=.ok (.slice (sO w.1.size) (n+m) (n+m)) (w.alloc (.cells p 5)):=λw=>by have:=b w;rw[show ((n+m:Nat):Int)=(n:Int)+m by omega] at this;exact this
 have J:Hid _:=g;have K:IntKind.i64.wrap ((n:Int)+(m:Int))=(n:Int)+(m:Int):=KA _ (by omega);clear f R V b j h D i P S W s C T X k r s2 s3 u z;go_enter func92,ntmps92;go_wp2_with fail;rw[<-H.o,l.o];clear I K;have g:=J.o;go_wp2_with fail;rw[t.o];go_wp2_with fail;go_ret;exact⟨_,rfl,⟨_,rfl⟩,c.o.1,c.o.2⟩
theorem AU{w:World}{k:Nat}{a b c d e:Value}{T}(h:w.1[k]?=some (.cells #[a,b,c,d,e] T (0,0))):w.frozen? (pA k 0)=false/\w.frozen? (pA k 1)=false/\w.frozen? (pA k 2)=false/\w.frozen? (pA k 3)=false/\w.frozen? (pA k 4)=false:=
 ⟨fZ h _,fZ h _,fZ h _,fZ h _,fZ h _⟩
theorem eY{c:Func}{p u d:Tmp}{e:TypeId}(h:c.results=#[.cell p e,.tmp u,.tmp d])(b:Array Value)(P:Program)(w:World):
  (results c b).run P w=((asAddr (b.getD p undef)).run P w).andThen λa f=>((loadVar e a).run P f).andThen λv g=>.ok (.tuple #[v,b.getD u undef,b.getD d undef]) g:=by
 simp only[results,h];simp[Lj,Result.andThen]
theorem yW{L w w1}{p:Nat}(h:Below L w w1)(a:L<=p)(b c d e f:Value):Below L w (((((w1.setCell (pA p 0) b).setCell (pA p 1) c).setCell (pA p 2) d).setCell (pA p 3) e).setCell (pA p 4) f):=
 h.s5 a
theorem Gm(b:World)(p g:Nat)(a:g≠p)(c d e f h:Value):(((((b.setCell (pA p 0) c).setCell (pA p 1) d).setCell (pA p 2) e).setCell (pA p 3) f).setCell (pA p 4) h).1[g]?=b.1[g]?:=
 (((((Kc _ _ _ _ a).trans (Kc _ _ _ _ a)).trans (Kc _ _ _ _ a)).trans (Kc _ _ _ _ a)).trans (Kc _ _ _ _ a))
theorem xK(B v bs w)(h:aI B w v bs)(m:B<=w.1.size)(l:i8 bs=none):
  cL 91 #[v] w (rT w (.tuple #[.agg #[U 0,U 0,U 0,nL,U 0],U 0,U 8])):=by
 have g:Hid (∀f,aI B f v bs->cL 113 #[v,.int .u8 10] f λe i=>e=.returned (U (-1))/\i=f):=λf o=>by have:=uq B v bs f o;unfold Jm at this;rw[l] at this;exact this
 have⟨r,b⟩:=nM (w.alloc (.cells #[U 0,U 0,U 0,nL,U 0] 71));have j:=hA b;have d:=bA b;have p:=Z (h.l d m);have⟨s,t,u,x,y⟩:=aF j;have⟨z,A,C,D,E⟩:=AU j;have q:=Z b;have k:=Z d;obtain⟨a,c,rfl,-,-,-⟩:=h;clear b j d;generalize bs.length=n at*;clear l;go_enter func91,ntmps91;go_wp2_with fail;rw[<-q.o];go_at_call 113;refine Calls.mono (g.o _ p.o) ?_;rintro e F ⟨rfl,rfl⟩;go_wp2_with fail;refine Ka (v:=.tuple #[.agg #[U 0,U 0,U 0,nL,U 0],U 0,U 8]) ?_ rfl ⟨rfl,yW k.o lE _ _ _ _ _⟩;rw[eY rfl];go_simp
theorem yn(B v)(bs x t:Bs)(w)(R:dD w)(h:aI B w v bs)(S:B<=w.1.size)(H:bs.length<=60000)(F:i8 bs=some (x,t)):
  cL 91 #[v] w λe b=>∃I,e=.returned (.tuple #[I,U ((x.length:Int)+1),U (ch x).2])/\gi w.1.size b I (ch x).1/\bL w b:=by
 have J:=mY F;have i:Hid (∀b,aI B b v bs->cL 113 #[v,.int .u8 10] b λe j=>e=.returned (U (x.length:Int))/\j=b):=λb h'=>by have:=uq B v bs b h';unfold Jm at this;rw[F] at this;exact this
 have⟨W0,l⟩:=nM (w.alloc (.cells #[U 0,U 0,U 0,nL,U 0] 71));have T:=hA l;have p:=bA l;have K:=Z (h.l p S);have HW:=Z l;have G:=Z λb (h:bL W0 b)=>Q2 (h.bl T) (p.th h)
 obtain⟨a,c,rfl,V,L,-⟩:=id h;obtain⟨a',q,r⟩:=vQ h x.length (by omega);have y:bs.take x.length=x:=by rw[(gL F).1];simp
 rw[y] at r;have s:=Z λb (M:bL w b)=>iz (r.l M S)
 have o:Hid (∀b,bL w b->cL 114 #[.string ⟨x.toArray⟩] b λe j=>∃v,e=.returned (.tuple #[v,U (ch x).2])/\gi b.1.size j v (ch x).1/\bL b j):=λb M=>by
  have:=Do ⟨x.toArray⟩ b (R.l M);have e:gR (⟨x.toArray⟩:ByteArray).1.1=ch x:=by unfold gR;rw[iO (by simp;omega)]
  rw[e] at this;exact this
 obtain⟨⟨⟨k,W,X,rs,d⟩,RE⟩,z⟩:∃RR,RR=ch x:=⟨_,rfl⟩
 rw[<-z] at o |-
 clear z
 simp only[] at o |-
 have⟨n,Y⟩:=nM (bs.length);have⟨m,hm⟩:=nM (x.length)
 rw[<-Y] at J H q i K |-
 rw[<-hm] at J q i s |-
 have ac:IntKind.i64.wrap ((m:Int)+1)=(m:Int)+1:=KA _ (by omega);have m0:¬((m:Int)<0):=by omega
 have mc:(m:Int)<=(c:Int):=by omega
 clear F r y V L Y hm R J l T p;go_enter func91,ntmps91;go_wp2_with fail;rw[<-HW.o];go_at_call 113;refine Calls.mono (i.o _ K.o) ?_;rintro e w1 ⟨rfl,rfl⟩;go_wp2_with fail;rw[s.o _ (G.o _ bR).2];go_wp2_with fail;go_at_call 114;refine Calls.mono (o.o _ (G.o _ bR).2) ?_;rintro e N ⟨I,rfl,f,u⟩;have⟨A,C⟩:=G.o N u;obtain⟨ra,rc,rfl,-⟩:=f.at.shape;simp only[] at*;have⟨rn,D⟩:=nM (rs.length)
 rw[<-D] at f |-
 clear D;have O:=Z f;have E:=Z C;have P:=Z A;have af:w.1.size<N.1.size:=io A;have⟨z0,z1,z2,z3,z4⟩:=aF A;have⟨f0,f1,f2,f3,f4⟩:=AU A;have Q:=Z2 u (io (G.o w1 bR).1:w.1.size<w1.1.size);clear f u C A K i o s m0 mc q P;go_wp2_with fail;refine Ka (v:=.tuple #[.agg #[U k,U W,U X,.slice ra rn rc,U d],U ((m:Int)+1),U RE]) ?_ rfl ⟨_,rfl,λwF k1 k2=>?_,?_⟩
 ·rw[eY rfl];go_simp
 ·have av:=Q.o.2;refine O.o wF (λg V L=>?_) (Kl (by simp) k2);have e1:=k1 g (by omega) (by simp;omega);have e2:=Gm N w.1.size g (by omega) (U k) (U W) (U X) (.slice ra rn rc) (U d);rw[e1,Kq _ _ _ (by simp;exact L),e2]
 exact(yW E.o lE _ _ _ _ _).alloc (by simp;exact E.o.size) _
def gd(L:Nat)(g:Option Nat)(w:World)(v:Value)(r:az):Prop:=∀a:World,(∀k,L<=k->some k≠g->k<w.1.size->a.1[k]?=w.1[k]?)->w.1.size<=a.1.size->cI a.1.size a v r
theorem gd.of_new{L a:Nat}{g:Option Nat}{w v r}(h:gi a w v r)(j:L<=a)(b:∀k,g=some k->k<a):gd L g w v r:=λc d f=>h c (λk l i=>d k (by omega) (λe=>by have:=b k e.symm;omega) i) f
theorem gd.grown{L}{g a:Option Nat}{w w':World}{v r}(h:gd L g w v r)(b:w.grownBy w' g)(c:a=g\/∃k,a=some k/\w.1.size<=k):gd L a w' v r:=λl m n=>h l (λk o f i=>by
 have d:some k≠a:=by
  rcases c with e|⟨j,e,q⟩
  ·rw[e];exact f
  rw[e];intro p;have:=KG p;omega
 exact(m k o d (Kd i b.size)).trans (b.block k i f)) (Kl b.size n)
theorem gd.beside{L}{g b c:Option Nat}{w w':World}{v r}(h:gd L g w v r)(d:w.grownBy w' b)(m:∀k,b=some k->k<L)(f:c=b\/∃k,c=some k/\w.1.size<=k):gd L c w' v r:=λn o p=>h n (λk q t l=>by
 have a:some k≠b:=λe=>by have:=m k e.symm;omega
 have i:some k≠c:=by
  rcases f with e|⟨j,e,u⟩
  ·rw[e];exact a
  rw[e];intro s;have:=KG s;omega
 exact(o k q i (Kd l d.size)).trans (d.block k l a)) (Kl d.size p)
theorem gd.mono{L a:Nat}{g w v r}(h:gd a g w v r)(b:L<=a):gd L g w v r:=λc d e=>h c (λk f=>d k (Kl b f)) e
theorem gd.keep{L b g w w' v r}(h:gd L g w v r)(c:iE b w w')(i:b<L)(j:w'.1.size=w.1.size):gd L g w' v r:=λd e l=>h d (λk f a m=>(e k f a (by omega)).trans (c k (by omega))) (by omega)
theorem gd.kept{L g w v r}(h:gd L g w v r):jn L g w v r:=λb c d=>h b (λk e a f=>c k e a f) d
def vj(P:Value->az->Prop)(xs:List Value)(a:List az):Prop:=
 xs.length=a.length*5/\(∀u∈xs,u.oneCell'=true)/\∀i r,a[i]?=some r->∃b,xs[i*5]?=some (U r.1)/\xs[i*5+1]?=some (U r.2.1)/\xs[i*5+2]?=some (U r.2.2.1)/\xs[i*5+3]?=some b/\xs[i*5+4]?=some (U r.2.2.2.2)/\P (.agg #[U r.1,U r.2.1,U r.2.2.1,b,U r.2.2.2.2]) r
theorem vj.imp{P Q:Value->az->Prop}{xs rs}(h:vj P xs rs)(a:∀v r,P v r->Q v r):vj Q xs rs:=by obtain⟨b,c,d⟩:=h;refine⟨b,c,λi r e=>?_⟩;have⟨f,g,j,k,l,m,n⟩:=d i r e;exact⟨f,g,j,k,l,m,a _ _ n⟩
theorem vj.snoc{P:Value->az->Prop}{xs rs ra rn rc}{r:az}(h:vj P xs rs)(f:P (.agg #[U r.1,U r.2.1,U r.2.2.1,.slice ra rn rc,U r.2.2.2.2]) r):vj P (xs++[U r.1,U r.2.1,U r.2.2.1,.slice ra rn rc,U r.2.2.2.2]) (rs++[r]):=by
 obtain⟨b,g,j⟩:=h;refine⟨by simp[b];omega,λu c=>?_,λi k a=>?_⟩
 ·rcases KB.1 c with c|c
  ·exact g u c
  simp at c
  rcases c with rfl|rfl|rfl|rfl|rfl<;>rfl
 by_cases l:i<rs.length
 ·rw[Kh l] at a;have⟨d,m,n,o,p,q,s⟩:=j i k a;exact⟨d,by rw[Kh (by omega)];exact m,by rw[Kh (by omega)];exact n,by rw[Kh (by omega)];exact o,by rw[Kh (by omega)];exact p,by rw[Kh (by omega)];exact q,s⟩
 have e:=(K9.1 a).1;simp at e;obtain rfl:i=rs.length:=by omega
 simp at a;subst a;refine⟨.slice ra rn rc,?_,?_,?_,?_,?_,f⟩
 ·rw[Kk (by omega),b];simp
 ·rw[Kk (by omega),b];simp
 ·rw[Kk (by omega),b];simp
 ·rw[Kk (by omega),b];simp
 rw[Kk (by omega),b];simp
theorem vj.append{P:Value->az->Prop}{xs ys rs ss}(h:vj P xs rs)(k:vj P ys ss):vj P (xs++ys) (rs++ss):=by
 obtain⟨l,m,n⟩:=h;obtain⟨o,p,q⟩:=k;refine⟨by simp[l,o];omega,λu s=>?_,λi r a=>?_⟩
 ·rcases KB.1 s with h|h
  ·exact m u h
  exact p u h
 by_cases t:i<rs.length
 ·rw[Kh t] at a;have⟨b,c,d,e,f,g,j⟩:=n i r a;exact⟨b,by rw[Kh (by omega)];exact c,by rw[Kh (by omega)];exact d,by rw[Kh (by omega)];exact e,by rw[Kh (by omega)];exact f,by rw[Kh (by omega)];exact g,j⟩
 rw[Kk (by omega)] at a;obtain⟨b,c,d,e,f,g,j⟩:=q _ r a;refine⟨b,?_,?_,?_,?_,?_,j⟩
 ·rw[Kk (by omega),show i*5-xs.length=(i-rs.length)*5 by omega];exact c
 ·rw[Kk (by omega),show i*5+1-xs.length=(i-rs.length)*5+1 by omega];exact d
 ·rw[Kk (by omega),show i*5+2-xs.length=(i-rs.length)*5+2 by omega];exact e
 ·rw[Kk (by omega),show i*5+3-xs.length=(i-rs.length)*5+3 by omega];exact f
 rw[Kk (by omega),show i*5+4-xs.length=(i-rs.length)*5+4 by omega];exact g
theorem vj.toR{L g w xs rs}(h:vj (jn L g w) xs rs):Ed L g w xs rs:=h
theorem uF(base b:Nat)(v B:Value)(n m:Nat)(xs ys:List Value)(W:World)(a:W.ownsRow base 71 5 v n xs)(D:W.ownsRow b 71 5 B m ys)(E:∀u∈ys,u.oneCell'=true)(F:(n+m)*56<=140737488355328)(d:base<=W.1.size):
  ∃i l,(Builtin.append_ #[58,58] 58 #[v,B]).run prog W=.ok i l/\l.ownsRow base 71 5 i (n+m) (xs++ys)/\W.grownBy l v.ownBlock/\(i.ownBlock=v.ownBlock\/∃k,i.ownBlock=some k/\W.1.size<=k):=by
 obtain⟨o,f,t,w,x⟩:=so;obtain⟨p,y⟩:=D
 rcases y with ⟨rfl,G⟩|⟨g,c,z,rfl,S,q,H,I,J,r⟩
 ·subst G;obtain rfl:ys=[]:=LV (by simpa using p);refine⟨v,W,?_,by simpa using a,⟨rfl,rfl,rfl,Ke _,λ_ _ _=>rfl⟩,.inl rfl⟩
  have K:v=nL\/∃g c,v=.slice (some g) n c/\n<=c:=by
   rcases a.2 with ⟨h,_⟩|⟨g,c,z,h,_,_,L,_⟩
   ·exact .inl h
   exact .inr ⟨_,c,h,L⟩
  have C:=Lk (P:=prog) W o.size 0 0 0
  rcases K with rfl|⟨g,c,rfl,A⟩
  ·simp[Builtin.append_,KY Tryz.underlying58,sizeOf,typeInfo,f,Builtin.lenOf,C]
  simp[Builtin.append_,KY Tryz.underlying58,sizeOf,typeInfo,f,Builtin.lenOf,C,A,storeCells]
 obtain⟨i,l,M,N,O,_,Q⟩:=Mt (P:=prog) W base 58 58 71 o _ 5 56 Tryz.underlying58 f t w x rfl (by decide) v n xs a (pA g 0) m c ys p (λj u s=>by
  rw[eM,Kp];have R:=(K9.1 s).1;refine ab q j ?_;rw[<-r,LO] at s
  split at s
  ·simpa using s
  cases s) E (by rw[ai];omega) F d
 exact⟨i,l,M,N,O,by
  rcases Q with e|e
  ·exact .inl e
  exact .inr ⟨_,e,Ke _⟩⟩
theorem qR(aO)(s a t:Bs)(h:i8 s=some (a,t)):aM aO s=(if (ch a).2=0 then (match aO with|0=>([],0,2)|m+1=>((ch a).1 :: (aM m t).1,a.length+1+(aM m t).2.1,(aM m t).2.2)) else ([],0,(ch a).2)):=by obtain⟨rfl,b⟩:=gL h;exact jZ aO a t b
theorem mx(B v)(bs:Bs)(a9:bs.length<=60000)(aO:Nat)(aa:aO<=40)(w)(M:dD w)(h:aI B w v bs)(hB:B<=w.1.size):
  cL 57 #[v,U aO] w λe Q=>∃lv q,e=.returned (.tuple #[lv,U (aM aO bs).2.1,U (aM aO bs).2.2])/\Q.ownsRow w.1.size 71 5 lv (aM aO bs).1.length q/\vj (gd w.1.size lv.ownBlock Q) q (aM aO bs).1/\bL w Q:=by
 obtain⟨cd,bd,bf,bg,bk⟩:=so;have HE:=Z λQ (h:bL w Q)=>M.l h
 have HB:=Z λQ (hb:bL w Q)=>h.l hb hB
 have ac:=ai;obtain⟨a,c,rfl,-,-,-⟩:=h;have⟨N,hN⟩:=nM (bs.length);have HN:=Z hN.symm
 rw[<-hN] at HB a9 |-
 clear hN M;go_enter func57,ntmps57;go_wp2_with fail;go_loopw [7,8] (λlv nv wr=>∃ (k:Nat) (b:List az) (q:List Value),k<=N/\b.length<=aO/\nv=U k/\Hid (aM aO bs=(b++(aM (aO-b.length) (bs.drop k)).1,k+(aM (aO-b.length) (bs.drop k)).2.1,(aM (aO-b.length) (bs.drop k)).2.2))/\Hid (wr.ownsRow w.1.size 71 5 lv b.length q)/\Hid (vj (gd w.1.size lv.ownBlock wr) q b)/\Hid (bL w wr)) (λ_ iv _=>N-(intOf iv).toNat)
 case atStart=>exact⟨0,[],[],by omega,by simp,rfl,by unfold Hid;simp,⟨rfl,.inl ⟨rfl,rfl⟩⟩,⟨rfl,(λu hu=>by cases hu),(λi r hr=>by simp at hr)⟩,Kf _ _⟩
 case round=>
  obtain⟨k,b,q,hk,hd,rfl,J,O,HX,z⟩:=hrel;have⟨wo,bp⟩:=nM (wr);subst bp;have i0:(0:Int)<=(k:Int):=by omega
  have C:=z.o.size;obtain⟨va,vc,ev,ad,bq,-⟩:=an O.o;subst ev
  by_cases ae:k<N
  ·have i1:(k:Int)<(N:Int):=by omega
   obtain⟨a',af,F⟩:=DD (HB.o wo z.o) k (by rw[HN.o];exact hk);have⟨D,hD⟩:=nM (bs.drop k);have K:D.length=N-k:=by rw[hD,MA,HN.o]
   rw[<-hD] at F J;have HD:=Z hD;clear hD
   cases hcut:i8 D with
   |none=>
    have o:Hid (aM aO bs=(b,k,8)):=by unfold Hid;rw[J.o,oT _ D (qP hcut) (λe=>by rw[e] at K;simp at K;omega)];simp
    have l:Hid _:=xK B _ D wo F (Kl hB C) hcut;clear J HD F hcut K;generalize j:b.length=A at*;have n:=Z j;clear j;go_wp2_with fail;go_at_call 91;refine Calls.mono l.o ?_;rintro e w2 ⟨rfl,p⟩;have HF:Hid (∀X,(w2.alloc X).ownsRow w.1.size 71 5 (.slice va A vc) A q/\vj (gd w.1.size (Value.slice va A vc).ownBlock (w2.alloc X)) q b/\bL w (w2.alloc X)):=λX=>by have R:bL wo (w2.alloc X):=p.alloc p.size X;exact⟨aw O.o R,HX.o.imp λ_ _ h=>h.grown (fX R _) (.inl rfl),z.o.th R⟩
    clear l af p O HX;go_wp2_with fail;go_ret3;obtain⟨f1,f2,f3⟩:=HF.o _;exact⟨_,q,by rw[o.o];rfl,by rw[o.o];exact n.o▸f1,by rw[o.o];exact f2,f3⟩
   |some y=>
    obtain⟨x,t⟩:=y;have P:=mY hcut;have HT:Hid (t=bs.drop (k+(x.length+1))):=by unfold Hid;have:=(gL hcut).1;rw[HD.o] at this;rw[<-Mv,this];simp
    have l:Hid _:=yn B _ D x t wo (HE.o wo z.o) F (Kl hB C) (by omega) hcut;have g:Hid (¬(ch x).2=0->aM aO bs=(b,k,(ch x).2)):=λM=>by rw[J.o,qR _ _ _ _ hcut,iO M];simp
    have f:Hid ((ch x).2=0->aO=b.length->aM aO bs=(b,k,2)):=λM hm=>by rw[J.o,qR _ _ _ _ hcut,Io M,hm,Nat.sub_self];simp
    have d:Hid ((ch x).2=0->b.length<aO->aM aO bs=((b++[(ch x).1])++(aM (aO-(b++[(ch x).1]).length) (bs.drop (k+(x.length+1)))).1,(k+(x.length+1))+(aM (aO-(b++[(ch x).1]).length) (bs.drop (k+(x.length+1)))).2.1,(aM (aO-(b++[(ch x).1]).length) (bs.drop (k+(x.length+1)))).2.2)):=λM hm=>by rw[J.o,qR _ _ _ _ hcut,Io M,show aO-b.length=(aO-(b++[(ch x).1]).length)+1 by simp;omega,<-HT.o];simp;omega
    obtain⟨⟨⟨S,T,V,xr,W⟩,E⟩,al⟩:∃RR,RR=ch x:=⟨_,rfl⟩;rw[<-al] at l g f d;simp only[] at l g f d;have⟨A,j⟩:=nM (b.length);have n:=Z j.symm
    rw[<-j] at O HX ad hd f d |-
    have⟨m,hm⟩:=nM (x.length);rw[<-hm] at l d P;have ao:k+(m+1)<=N:=by omega
    clear al j hm J HT hcut F HD P K;go_wp2_with fail;go_at_call 91;refine Calls.mono l.o ?_;rintro e w2 ⟨v2,rfl,G,p⟩;obtain⟨ra,rc,er,-⟩:=G.at.shape;subst er
    simp only[] at G |-
    have⟨rn,av⟩:=nM (xr.length)
    rw[<-av] at G |-
    have bv:=p.size;have⟨Y,H⟩:=nM (w2.alloc (.cells #[U S,U T,U V,.slice ra rn rc,U W] 71));have a0:=bA H;have s:bL wo Y:=p.th a0;have a1:=Z (aw O.o s);have a2:Hid (vj (gd w.1.size (Value.slice va A vc).ownBlock Y) q b):=HX.o.imp λ_ _ h=>h.grown (fX s _) (.inl rfl)
    have bx:Hid (gd w.1.size (Value.slice va A vc).ownBlock Y (.agg #[U S,U T,U V,.slice ra rn rc,U W]) (S,T,V,xr,W)):=gd.of_new (nI G a0) C λk hk=>by have⟨d2,hc⟩:=cX O.o k hk;exact io hc
    have L:=Z (Below.tO z.o s C);have g3:=hA H;have⟨g0,g1,g2,d4,g4⟩:=aF g3;have b0:w.1.size<=Y.1.size:=L.o.size;have cb:=sA H;have a3:=Z H;clear H a0 s G av g3 p bv O HX af l
    by_cases hE:E=0
    case neg=>
     have d5:(E==0)=false:=by simpa using hE
     have cc:(E != 0)=true:=by simpa using hE
     have o:=Z (g.o hE);clear hE g f d;go_wp2_with fail;rw[<-a3.o];go_ret3;exact⟨_,q,by rw[o.o];rfl,by rw[o.o];exact n.o.symm▸a1.o,by rw[o.o];exact a2.o,L.o⟩
    subst hE
    by_cases a4:aO=A
    ·have o:Hid (aM aO bs=(b,k,2)):=f.o rfl a4;have bz:(A:Int)=(aO:Int):=by omega
     clear g f d;go_wp2_with fail;rw[<-a3.o];go_ret3;exact⟨_,q,by rw[o.o];rfl,by rw[o.o];exact n.o.symm▸a1.o,by rw[o.o];exact a2.o,L.o⟩
    have I:A<aO:=by omega
    have bz:¬((A:Int)=(aO:Int)):=by omega
    have bF:Hid _:=d.o rfl I;have HA:Hid (A+1<=maxLen/\(A+1)*56<=140737488355328/\w.1.size<=Y.1.size):=⟨by rw[ac];omega,by omega,b0⟩;have b2:=Z3 ao I ae;have d6:IntKind.i64.wrap ((k:Int)+((m:Int)+1))=(k:Int)+((m:Int)+1):=KA _ (by omega);clear g f d hd ad bq I aa C hk ae ac ao a9 b0
    go_wp2_with (first
     |(at_builtin;rw[<-a3.o];go_must (refine gy _ rfl _ _ rfl Tryz.underlying58 bd bf bg bk rfl (by decide) w.1.size _ _ _ rfl _ 1 [U S,U T,U V,.slice ra rn rc,U W] rfl Y rfl (by first|rfl|omega) Y bR a1.o rfl (by simp[Value.oneCell']) HA.o.1 HA.o.2.1 HA.o.2.2 ?_;intro v9 w9 c1 b3 c2 c3;have c4:Hid _:=b3;clear b3)))
    obtain⟨c5,c6,da⟩:=b2.o;refine⟨⟨k+(m+1),b++[(S,T,V,xr,W)],q++[U S,U T,U V,.slice ra rn rc,U W],c5,by rw[Kj,n.o];exact c6,by go_num,bF,?_,?_,L.o.trans c4.o⟩,by simp[intOf];omega⟩
    ·unfold Hid;rw[Kj,n.o];exact c1.o
    exact(a2.o.snoc (r:=(S,T,V,xr,W)) bx.o).imp λ_ _ h=>h.grown c2.o c3.o
  have e:k=N:=by omega
  subst e;have o:Hid (aM aO bs=(b,k,0)):=by unfold Hid;have:bs.drop k=[]:=LG (by rw[HN.o];exact Ke _);rw[J.o,this,jJ];simp
  have i1:¬((k:Int)<(k:Int)):=by omega
  clear J;generalize j:b.length=A at*;have n:=Z j;clear j;go_wp2_with fail;go_ret3;exact⟨_,by rw[o.o];rfl,q,by rw[o.o];exact n.o.symm▸O.o,by rw[o.o];exact HX.o,z.o⟩
theorem cJ.shapeS{B w v d}(h:cJ B w v d):∃a c b k,v=.agg #[.slice a d.1.length c,.slice b d.2.length k]:=by obtain⟨e,f,rfl,⟨a,c,rfl,_⟩,⟨b,k,rfl,_⟩⟩:=h;exact⟨a,c,b,k,rfl⟩
theorem yS(a b)(n c m k:Nat)(w)(d:n+m<=300000000000000):
  cL 56 #[.agg #[.slice a n c,.slice b m k]] w (rT w (U ((n:Int)+(m:Int)))):=by
 have e:IntKind.i64.wrap ((n:Int)+(m:Int))=(n:Int)+(m:Int):=KA _ (by omega);have f:Hid (∀X,bL w (w.alloc X)):=λX=>bR.alloc lE X
 clear d;go_enter func56,ntmps56;go_wp2_with fail;go_ret;exact⟨rfl,f.o _⟩
theorem jD(B v d w)(O:dD w)(V:cJ B w v d)(P:B<=w.1.size)(f:sW d):
  cL 27 #[v] w (rT w (U (aB d))):=by
 obtain⟨sv,tv,rfl,A,D⟩:=V;obtain⟨s,t⟩:=d;simp only[] at A D;unfold sW at f;simp only[] at f;have h:Hid (aB (s,t)=if 60000<s.length\/60000<s.length+t.length then 2 else (aM 40 s).2.2):=rfl;obtain⟨a,c,W,-,-,-⟩:=id A;obtain⟨b,E,X,-,-,-⟩:=id D;subst W X;have⟨Y,g⟩:=nM (w.alloc (.cells #[.slice a s.length c,.slice b t.length E] 25));have p:=bA g;have q:=hA g;have j:Hid _:=yS a b s.length c t.length E Y f
 have i:Hid (s.length<=60000->∀r,bL w r->cL 57 #[.slice a s.length c,U 40] r λe u=>∃C,e=.returned (.tuple #[C,U (aM 40 s).2.1,U (aM 40 s).2.2])/\bL r u):=λF r G=>(mx B _ s F 40 (by omega) r (O.l G) (A.l G P) (G.u P)).mono λe u ⟨C,xs,h1,_,_,h4⟩=>⟨C,h1,h4⟩
 have⟨n,Q⟩:=nM (s.length);have⟨m,R⟩:=nM (t.length)
 rw[<-Q] at g q j i h f |-
 rw[<-R] at g q j h f |-
 have⟨LN,x⟩:=nM ((aM 40 s).2.1);have⟨LE,k⟩:=nM ((aM 40 s).2.2);rw[<-x,<-k] at i;rw[<-k] at h;have H:=Z g;have I:=Z p;have J:=Z q;obtain⟨y0,y1,-,-⟩:=ag q;clear Q R x k g q A D O;go_enter func27,ntmps27;go_wp2_with fail;rw[<-H.o];go_at_call 56;refine Calls.mono j.o ?_;rintro e S ⟨rfl,l⟩;have o:=Z (I.o.th l);have T:S.1[w.1.size]?=some (.cells #[.slice a n c,.slice b m E] 25 (0,0)):=l.bl J.o;obtain⟨q0,q1,-,-⟩:=ag T;clear y0 y1 T l p
 by_cases K:60000<n+m
 ·have L:Hid (aB (s,t)=2):=by unfold Hid;rw[h.o,Io (.inr K)]
  have M:(60000:Int)<(n:Int)+(m:Int):=by omega
  clear K f;go_wp2_with fail;go_ret;exact⟨by rw[L.o];rfl,o.o⟩
 have L:Hid (aB (s,t)=LE):=by unfold Hid;rw[h.o,iO (by omega)]
 have M:¬((60000:Int)<(n:Int)+(m:Int)):=by omega
 have y:Hid _:=i.o (by omega) S o.o;clear K f i;go_wp2_with fail;go_at_call 57;refine Calls.mono y.o ?_;rintro e w3 ⟨C,rfl,z⟩;have N:=Z (o.o.th z);clear z;go_wp2_with fail;go_ret;exact⟨by rw[L.o];rfl,N.o⟩
theorem dF{w:World}{b:Nat}{o:Obj}(X:Obj)(h:w.1[b]?=some o):(w.alloc X).1[b]?=some o:=(Kq _ _ _ (KK.1 h).1).trans h
theorem cg.at{L w v x}(h:cg L w v x):aI w.1.size w v x:=h w (λ_ _ _=>rfl) lE
theorem cg.mono{L a:Nat}{w v x}(h:cg a w v x)(b:L<=a):cg L w v x:=λc d e=>h c (λg f i=>d g (Kl b f) i) e
theorem cg.l{L w w' v x}(h:cg L w v x)(a:bL w w'):cg L w' v x:=λc d e=>h c (λg f b=>(d g f (Kd b a.size)).trans (a.block g b)) (Kl a.size e)
theorem cg.keep{L k w w' v x}(h:cg L w v x)(a:iE k w w')(f:k<L)(i:w'.1.size=w.1.size):cg L w' v x:=λb c j=>h b (λg d e=>(c g d (by omega)).trans (a g (by omega))) (by omega)
theorem cg.shape{L w v x}(h:cg L w v x):∃a c,v=.slice a x.length c:=by obtain⟨a,c,e,_⟩:=h.at;exact⟨a,c,e⟩
theorem kS{L w sv tv}{d:bQ}(e:cg L w sv d.1)(f:cg L w tv d.2):cV L w (.agg #[sv,tv]) d:=λa b c=>⟨sv,tv,rfl,e a b c,f a b c⟩
theorem zD(L w):cg L w nL []:=λa _ _=>ip _ _
theorem eX(L w):cV L w (.agg #[nL,nL]) ([],[]):=kS (d:=([],[])) (zD _ _) (zD _ _)
def JB(W:World)(F:Nat->Option Bs)(a:Nat->Value->Prop)(w:World):Prop:=bL W w/\∀k u x,a k u->F k=some x->cg W.1.size w u x
def SB(F:Nat->Option Bs)(k:Nat)(v:Value):Prop:=∃a c,v=.slice a ((F k).getD []).length c
theorem ID(F:Nat->Option Bs)(k):∃v,SB F k v:=⟨_,none,0,rfl⟩
theorem JB.start(W)(F:Nat->Option Bs):JB W F (λ_ _=>False) W.drew:=⟨bR.drew,λ_ _ _ h=>h.elim⟩
theorem JB.put{W w w'}{F:Nat->Option Bs}{c:Nat->Value->Prop}{k:Nat}{v}{x:Bs}(h:JB W F c w)(d:bL w w')(e:F k=some x)(f:cg W.1.size w' v x):JB W F (d9 c k v) w':=by
 refine⟨h.1.th d,λm u y a b=>?_⟩
 rcases a with a|⟨rfl,rfl⟩
 ·exact(h.2 m u y a b).l d
 rw[e] at b
 cases b;exact f
theorem JB.box{W w}{F:Nat->Option Bs}{c:Nat->Value->Prop}(h:JB W F c w){b:Nat}{o:Obj}(a:W.1[b]?=some o):w.1[b]?=some o:=(h.1.block b ((KK.1 a).1)).trans a
theorem t5(B v d w)(hd:cJ B w v d)(P:B<=w.1.size)(E:d.1.length<=60000/\d.2.length<=60000):
  cL 58 #[v] w λe f=>∃v',e=.returned v'/\cV w.1.size f v' d/\bL w f:=by
 obtain⟨sv,tv,rfl,Q,R⟩:=hd;obtain⟨s,t⟩:=d;simp only[] at Q R E;obtain⟨a,c,e1,-,-,-⟩:=id Q;obtain⟨b,o,S,-,-,-⟩:=id R;subst e1 S;have⟨W,x⟩:=nM ((w.alloc (.cells #[.slice a s.length c,.slice b t.length o] 25)).alloc (.cells #[nL,nL] 25));have q:=bB x;have G:W.1[w.1.size]?=some (.cells #[.slice a s.length c,.slice b t.length o] 25 (0,0)):=by rw[x];exact dF _ (aY _ _ rfl)
 have g1:W.1[w.1.size+1]?=some (.cells #[nL,nL] 25 (0,0)):=by rw[x];exact aY _ _ (by simp only[Kg])
 have A:=sB x
 have H:Hid (∀f,bL W f->cL 92 #[.slice a s.length c,nL] f λe i=>∃v,e=.returned v/\cg f.1.size i v s/\bL f i):=λf C=>by
  have l:=q.th C;have:=kK B _ _ s [] f (Q.l l P) (ip B f) (l.u P) (by simp;omega);rw[LI] at this
  exact this.mono λe i ⟨v,X,_,Y,h4⟩=>⟨v,X,Y,h4⟩
 have I:Hid (∀f,bL W f->cL 92 #[.slice b t.length o,nL] f λe i=>∃v,e=.returned v/\cg f.1.size i v t/\bL f i):=λf C=>by
  have l:=q.th C;have:=kK B _ _ t [] f (R.l l P) (ip B f) (l.u P) (by simp;omega);rw[LI] at this
  exact this.mono λe i ⟨v,X,_,Y,h4⟩=>⟨v,X,Y,h4⟩
 have⟨n,hn⟩:=nM (s.length);have⟨m,hm⟩:=nM (t.length)
 rw[<-hn] at x G H |-
 rw[<-hm] at x G I |-
 obtain⟨y0,y1,-,-⟩:=ag G;have HW:=Z x;have a1:=Z q;have J:=Z G;have a3:=Z g1;have a4:=Z A;have q0:∀z:uL w.1.size (.slice a n c) (.slice b m o),z.1.cell? (pA w.1.size 0)=some (.slice a n c):=λz=>z.2.1
 have q1:∀z:uL w.1.size (.slice a n c) (.slice b m o),z.1.cell? (pA w.1.size 1)=some (.slice b m o):=λz=>z.2.2
 have a6:Nonempty (uL w.1.size (.slice a n c) (.slice b m o)):=⟨⟨W,y0,y1⟩⟩
 obtain⟨F,hF⟩:∃F:Nat->Option Bs,F=λk=>if k=2 then some s else if k=5 then some t else none:=⟨_,rfl⟩
 have T:Hid (F 2=some s):=by unfold Hid;rw[hF];rfl
 have V:Hid (F 5=some t):=by unfold Hid;rw[hF];rfl
 have r:Hid (∀fs f,JB W F fs f->∃z:uL w.1.size (.slice a n c) (.slice b m o),f=z.1):=λfs f h=>⟨⟨f,J0 (h.box J.o),J1 (h.box J.o)⟩,rfl⟩
 clear hn hm hF x q G g1 A Q R E y0 y1;go_enter func58,ntmps58;go_wp2_with fail;rw[<-HW.o];refine bJ [_,_,_,_,_,_,_] _ rfl (λk=>k==2||k==5) (JB W F) (SB F) (ID F) (by kernel_rfl) (by kernel_rfl) (JB.start W F) ?_;iterate 2(refine aP r.o rfl rfl ?_;go_big_quiet_step (fail);refine Km ?_)
 refine bw 92 #[.slice a n c,nL] rfl rfl (λf=>by kernel_rfl) (λgs f j K a8=>?_) (λv2 a9=>?_)
 ·refine(H.o f j.1).mono ?_;rintro e w3 ⟨u,rfl,g,C⟩;have:=j.put C T.o (g.mono j.1.size);obtain⟨a',c',eu⟩:=g.shape;exact⟨_,rfl,⟨a',c',by rw[T.o];exact eu⟩,this⟩
 go_frame;obtain⟨L,M,S⟩:=a9;rw[T.o] at S;subst S;iterate 2(refine aP r.o rfl rfl ?_;go_big_quiet_step (fail);refine Km ?_)
 refine bw 92 #[.slice b m o,nL] rfl rfl (λf=>by kernel_rfl) (λgs f j K a8=>?_) (λv5 ae=>?_)
 ·refine(I.o f j.1).mono ?_;rintro e w3 ⟨u,rfl,g,C⟩;have:=j.put C V.o (g.mono j.1.size);obtain⟨a',c',eu⟩:=g.shape;exact⟨_,rfl,⟨a',c',by rw[V.o];exact eu⟩,this⟩
 go_frame;obtain⟨N,O,e5⟩:=ae;rw[V.o] at e5;subst e5;refine aP r.o rfl rfl ?_;go_big_quiet_step (fail);refine Km ?_;refine ei ?_;intro w4 j;have D:=j.box a3.o;have⟨z0,z1,f0,f1⟩:=ag D;have H2:=j.2 2 _ s (.inl (.inr ⟨rfl,rfl⟩)) T.o;have H5:=j.2 5 _ t (.inr ⟨rfl,rfl⟩) V.o;have⟨k0,k1,k2⟩:=ic (u:=.slice L ((some s).getD []).length M) (v:=.slice N ((some t).getD []).length O) D;have y:Hid (cV w.1.size ((w4.setCell (pA (w.1.size+1) 0) (.slice L ((some s).getD []).length M)).setCell (pA (w.1.size+1) 1) (.slice N ((some t).getD []).length O)) (.agg #[.slice L ((some s).getD []).length M,.slice N ((some t).getD []).length O]) (s,t)/\bL w ((w4.setCell (pA (w.1.size+1) 0) (.slice L ((some s).getD []).length M)).setCell (pA (w.1.size+1) 1) (.slice N ((some t).getD []).length O))):=by have A:=a4.o;refine⟨kS ((H2.keep k1 (by omega) k2).mono (by omega)) ((H5.keep k1 (by omega) k2).mono (by omega)),?_⟩;exact((a1.o.th j.1).setCell (p:=pA (w.1.size+1) 0) (by show w.1.size<=w.1.size+1;omega) _).setCell (p:=pA (w.1.size+1) 1) (by show w.1.size<=w.1.size+1;omega) _
 clear j D H2 H5 k0 k1 k2 q0 q1 a6 r;go_wp2_with fail;refine Ka (v:=.agg #[.slice L ((some s).getD []).length M,.slice N ((some t).getD []).length O]) ?_ rfl ⟨_,rfl,y.o.1,y.o.2⟩;rw[cN rfl];go_simp
section
theorem cV.mono{L a:Nat}{w v d}(h:cV a w v d)(b:L<=a):cV L w v d:=λc e f=>h c (λg i j=>e g (Kl b i) j) f
theorem cV.l{L w w' v d}(h:cV L w v d)(a:bL w w'):cV L w' v d:=λc e f=>h c (λg i b=>(e g i (Kd b a.size)).trans (a.block g b)) (Kl a.size f)
theorem cV.keep{L k w w' v d}(h:cV L w v d)(a:iE k w w')(i:k<L)(j:w'.1.size=w.1.size):cV L w' v d:=λb c l=>h b (λg e f=>(c g e (by omega)).trans (a g (by omega))) (by omega)
theorem dS{L w w1}{p:Nat}(h:Below L w w1)(a:L<=p)(b c:Value):Below L w ((w1.setCell (pA p 0) b).setCell (pA p 1) c):=h.s2 a
def JG(W:World)(G:Nat->World->Value->Prop)(fs:Nat->Value->Prop)(w:World):Prop:=bL W w/\∀k u,fs k u->G k w u
def JD(bo st:Nat)(ws:List Nat)(W:World)(G:Nat->World->Value->Prop)(R:Value->Value->World->Prop)(fs:Nat->Value->Prop)(w:World):Prop:=
 ((∀u,¬fs st u)/\JG W G fs w)\/((∃u,fs st u)/\(∀k,k∈ws->∃u,fs k u)/\∃a p q,w=(a.setCell (pA bo 0) p).setCell (pA bo 1) q/\bL W a/\R p q a)
section
variable {bo st:Nat} {ws:List Nat} {W w w':World} {G:Nat->World->Value->Prop} {R:Value->Value->World->Prop} {fs:Nat->Value->Prop}
theorem JD.start(bo st ws W)(G:Nat->World->Value->Prop)(R:Value->Value->World->Prop):JD bo st ws W G R (λ_ _=>False) W.drew:=.inl ⟨λ_ h=>h,bR.drew,λ_ _ h=>h.elim⟩
theorem JD.ahead(h:JD bo st ws W G R fs w){k:Nat}(b:k=st\/k∈ws)(a:∀v,¬fs k v):(∀u,¬fs st u)/\JG W G fs w:=by
 rcases h with h|⟨⟨u,d⟩,e,_⟩
 ·exact h
 rcases b with rfl|b
 ·exact absurd d (a _)
 have⟨f,c⟩:=e k b;exact absurd c (a _)
theorem JD.put(h:JD bo st ws W G R fs w)(f:∀k u w w',bL w w'->G k w u->G k w' u){k:Nat}(g:k∈ws)(b:st≠k)(c:∀v,¬fs k v){v:Value}(d:bL w w')(i:G k w' v):JD bo st ws W G R (d9 fs k v) w':=by
 have⟨j,l,n⟩:=h.ahead (.inr g) c;refine .inl ⟨λu a=>?_,l.th d,λm u a=>?_⟩
 ·rcases a with a|⟨e,_⟩
  ·exact j u a
  exact b e
 rcases a with a|⟨rfl,rfl⟩
 ·exact f m u w w' d (n m u a)
 exact i
theorem JD.store(h:JD bo st ws W G R fs w)(b:∀v,¬fs st v)(a:∀k,k∈ws->∃u,fs k u){p q:Value}(c:R p q w):JD bo st ws W G R (d9 fs st undef) ((w.setCell (pA bo 0) p).setCell (pA bo 1) q):=by have⟨g,d,i⟩:=h.ahead (.inl rfl) b;refine .inr ⟨⟨undef,.inr ⟨rfl,rfl⟩⟩,λk e=>?_,w,p,q,rfl,d,c⟩;have⟨u,f⟩:=a k e;exact⟨u,.inl f⟩
theorem JD.box(h:JD bo st ws W G R fs w){b:Nat}{o:Obj}(c:W.1[b]?=some o)(a:b≠bo):w.1[b]?=some o:=by
 have e:=(KK.1 c).1
 rcases h with ⟨_,d,_⟩|⟨_,_,f,p,q,rfl,d,_⟩
 ·exact(d.block b e).trans c
 exact((Kc _ _ _ _ a).trans (Kc _ _ _ _ a)).trans ((d.block b e).trans c)
theorem JD.done(h:JD bo st ws W G R fs w){u:Value}(b:fs st u):∃a p q,w=(a.setCell (pA bo 0) p).setCell (pA bo 1) q/\bL W a/\R p q a:=by
 rcases h with ⟨c,_⟩|⟨_,_,h⟩
 ·exact absurd b (c _)
 exact h
end
end
theorem Dl(B v d n w)(he:dD w)(hn:wf n)(hd:cJ B w v d)(hB:B<=w.1.size)(I:sW d):
  cL 72 #[v,U n] w λe f=>∃v',e=.returned (.tuple #[v',U (i9 d n)])/\cV w.1.size f v' (kE d n)/\bL w f:=by
 obtain⟨sv,tv,rfl,hs,ht⟩:=id hd;obtain⟨s,t⟩:=d;simp only[] at hs ht;obtain⟨a,c,e1,-,-,-⟩:=id hs;obtain⟨b,H,e2,V,X,-⟩:=id ht;subst e1 e2;have⟨W,hW⟩:=nM ((w.alloc (.cells #[.slice a s.length c,.slice b t.length H] 25)).alloc (.cells #[nL,nL] 25));have o:=bB hW;have g0:W.1[w.1.size]?=some (.cells #[.slice a s.length c,.slice b t.length H] 25 (0,0)):=by rw[hW];exact dF _ (aY _ _ rfl)
 have g1:W.1[w.1.size+1]?=some (.cells #[nL,nL] 25 (0,0)):=by rw[hW];exact aY _ _ (by simp only[Kg])
 have bq:=sB hW;have J:Hid _:=jD B _ (s,t) W (he.l o) (hd.l o hB) (by omega) I;obtain⟨y0,y1,-,-⟩:=ag g0;have HW:=Z hW;have cs:=Z o;generalize b0:aB (s,t)=DE at*;have l:=Z b0;have⟨N,Y⟩:=nM (s.length);have⟨m,K⟩:=nM (t.length)
 rw[<-Y] at HW J y0 g0 |-
 rw[<-K] at HW J y1 g0 |-
 have HN:=Z Y;have HM:=Z K;clear hW b0 Y K;go_enter func72,ntmps72;go_wp2_with fail;rw[<-HW.o];go_at_call 27;refine Calls.mono J.o ?_;rintro e A ⟨rfl,L⟩;have G0:=L.bl g0;have G1:=L.bl g1;have g:bL w A:=o.th L;have a0:w.1.size+1<A.1.size:=io G1;have⟨z0,z1,f0,f1⟩:=ag G1;obtain⟨x0,x1,-,-⟩:=ag G0;clear y0 y1 J g0 g1 bq L HW
 by_cases hE:DE=0
 ·subst hE;have K:=HM.o;have Y:=HN.o
  by_cases hr:n<0\/(m:Int)<n
  ·have C:Hid (i9 (s,t) n=3/\kE (s,t) n=([],[])):=by
    have e:i9 (s,t) n=3:=by unfold i9;rw[Io l.o,Io (by rw[<-K];exact hr)]
    exact⟨e,by unfold kE;rw[e,iO (by decide)]⟩
   have M:=Z g;have HF:Hid (∀x y,bL w ((A.setCell (pA (w.1.size+1) 0) x).setCell (pA (w.1.size+1) 1) y)):=λx y=>dS g (by omega) x y
   clear G0 G1 g hs ht hd l hB I V X o Y K
   by_cases h0:n<0
   ·clear hr;go_wp2_with fail;refine Ka (v:=.tuple #[.agg #[nL,nL],U 3]) ?_ rfl ⟨_,by rw[C.o.1],by rw[C.o.2];exact eX _ _,HF.o _ _⟩;rw[K8 rfl];go_simp
   have h1:(m:Int)<n:=hr.resolve_left h0;clear hr;go_wp2_with fail;refine Ka (v:=.tuple #[.agg #[nL,nL],U 3]) ?_ rfl ⟨_,by rw[C.o.1],by rw[C.o.2];exact eX _ _,HF.o _ _⟩;rw[K8 rfl];go_simp
  obtain⟨k,hk⟩:∃k:Nat,(k:Int)=n:=⟨n.toNat,by omega⟩;have b5:k<=t.length:=by omega
  have C:Hid (i9 (s,t) n=0/\kE (s,t) n=(s,t.take k)):=by
   have e:i9 (s,t) n=0:=by unfold i9;rw[Io l.o,iO (by rw[<-K];exact hr)]
   exact⟨e,by unfold kE;rw[e,Io rfl];simp only[];rw[<-hk];rfl⟩
  subst hk;obtain⟨a1,b6,-,-⟩:=dE l.o;simp only[] at a1 b6;have⟨a',bv,b7⟩:=vQ ht k b5;have b8:Hid (∀f,bL w f->cL 58 #[.agg #[.slice a N c,.slice a' k H]] f λe b9=>∃v',e=.returned v'/\cV f.1.size b9 v' (s,t.take k)/\bL f b9):=λf hb=>by refine t5 B _ (s,t.take k) f ⟨_,_,rfl,?_,b7.l hb hB⟩ (hb.u hB) ⟨a1,by simp only[Kt];omega⟩;rw[Y];exact hs.l hb hB
  have h0:¬((k:Int)<0):=by omega
  have h1:¬((m:Int)<(k:Int)):=by omega
  have h2:(k:Int)<=(H:Int):=by omega
  have M:=Z g;have ba:=Z G0;have bb:=Z G1;rw[<-K] at bv;clear G0 G1 g hs ht hd l I V X o Y K b7 b5 a1 b6 hr;have bc:=Z ba.o;obtain⟨D,hD⟩:∃D:bQ,D=(s,t.take k):=⟨_,rfl⟩;rw[<-hD] at b8 C;clear hD
  obtain⟨G,hG⟩:∃G:Nat->World->Value->Prop,G=λj f u=>j=7->cV A.1.size f u D:=⟨_,rfl⟩
  have bx:Hid (∀j u w f,bL w f->G j w u->G j f u):=λj u w f hb h=>by rw[hG] at h |-;exact λe=>(h e).l hb
  have bd:Hid (∀f u,G 7 f u ↔ cV A.1.size f u D):=λf u=>by rw[hG];simp
  obtain⟨R,hR⟩:∃R:Value->Value->World->Prop,R=λp q f=>cV A.1.size f (.agg #[p,q]) D:=⟨_,rfl⟩
  have HR:Hid (∀p q f,R p q f ↔ cV A.1.size f (.agg #[p,q]) D):=λp q f=>by rw[hR]
  obtain⟨S,hS⟩:∃S:Nat->Value->Prop,S=λj v=>j=7->∃a n c b m k,v=.agg #[.slice a n c,.slice b m k]:=⟨_,rfl⟩
  have bf:Hid (∀v,S 7 v ↔ ∃a n c b m k,v=.agg #[.slice a n c,.slice b m k]):=λv=>by rw[hS];simp
  have bz:Hid (S 8 undef):=by unfold Hid;rw[hS];exact λe=>by cases e
  have bF:Hid (∀j,∃v,S j v):=λj=>⟨.agg #[nL,nL],by rw[hS];exact λ_=>⟨_,_,_,_,_,_,rfl⟩⟩
  clear hG hR hS;have q0:∀z:uL w.1.size (.slice a N c) (.slice b m H),z.1.cell? (pA w.1.size 0)=some (.slice a N c):=λz=>z.2.1
  have q1:∀z:uL w.1.size (.slice a N c) (.slice b m H),z.1.cell? (pA w.1.size 1)=some (.slice b m H):=λz=>z.2.2
  have bg:Nonempty (uL w.1.size (.slice a N c) (.slice b m H)):=⟨⟨A,x0,x1⟩⟩
  have a3:Hid (∀fs f,JD (w.1.size+1) 8 [7] A G R fs f->∃z:uL w.1.size (.slice a N c) (.slice b m H),f=z.1):=λfs f h=>⟨⟨f,J0 (h.box bc.o (by omega)),J1 (h.box bc.o (by omega))⟩,rfl⟩
  go_wp2_with fail;refine bJ [_,_,_,_,_,_,_,_,_] _ rfl (λk=>k==7||k==8) (JD (w.1.size+1) 8 [7] A G R) S bF.o (by kernel_rfl) (by kernel_rfl) (JD.start _ _ _ _ _ _) ?_;iterate 7(refine aP a3.o rfl rfl ?_;go_big_quiet_step (fail);refine Km ?_)
  refine bw 58 #[.agg #[.slice a N c,.slice a' k H]] rfl rfl (λf=>by kernel_rfl) (λgs f O E r=>?_) (λv7 c0=>?_)
  ·obtain⟨-,i,-⟩:=O.ahead (.inr (by simp)) r;refine(b8.o f (M.o.th i)).mono ?_;rintro e w3 ⟨u,rfl,P,hb⟩;obtain⟨ea,en,ec,eb,em,ek,Q⟩:∃a n c b m k,u=.agg #[.slice a n c,.slice b m k]:=by obtain⟨ea,ec,eb,ek,Q⟩:=P.at.shapeS;exact⟨_,_,_,_,_,_,Q⟩
   exact⟨_,rfl,(bf.o _).2 ⟨_,_,_,_,_,_,Q⟩,O.put bx.o (by simp) (by decide) r hb ((bd.o _ _).2 (P.mono i.size))⟩
  go_frame;obtain⟨ea,en,ec,eb,em,ek,Q⟩:=(bf.o _).1 c0;subst Q;refine fL rfl rfl (λgs f O E r=>?_) (λv8 d3=>?_)
  ·have h7:=E 7 _ (.inr ⟨rfl,rfl⟩) (au (by kernel_rfl));obtain⟨-,i,hG⟩:=O.ahead (.inl rfl) r;have F:=(i.block _ a0).trans bb.o;have⟨d4,d5,d6,da⟩:=ag F;refine⟨(f.setCell (pA (w.1.size+1) 0) (.slice ea en ec)).setCell (pA (w.1.size+1) 1) (.slice eb em ek),?_,bz.o,O.store r (λk hk=>by simp at hk;subst hk;exact⟨_,h7⟩) ((HR.o _ _ _).2 ((bd.o _ _).1 (hG 7 _ h7)))⟩;clear O E r q0 q1 a3 bg h7 i hG F;go_simp
  go_frame;refine ei ?_;intro w4 O;have⟨w0,p,q,e4,i,bk⟩:=O.done (.inr ⟨rfl,rfl⟩);have a4:=(HR.o _ _ _).1 bk;have F:=(i.block _ a0).trans bb.o;have⟨k0,k1,k2⟩:=ic (u:=p) (v:=q) F;rw[<-e4] at k0 k1 k2;obtain⟨ea,ec,eb,ek,Q⟩:=a4.at.shapeS;simp at Q;obtain⟨rfl,rfl⟩:=Q;obtain⟨y0,y1,-,-⟩:=ag k0;have T:Hid (cV w.1.size w4 (.agg #[.slice ea D.1.length ec,.slice eb D.2.length ek]) D/\bL w w4):=by refine⟨(a4.keep k1 a0 k2).mono M.o.size,?_⟩;rw[e4];exact dS (M.o.th i) (by omega) _ _
  generalize D.1.length=n1 at*;generalize D.2.length=n2 at*;clear O e4 i bk a4 F k0 k1 k2 q0 q1 a3 bg;go_wp2_with fail;refine Ka (v:=.tuple #[.agg #[.slice ea n1 ec,.slice eb n2 ek],U 0]) ?_ rfl ⟨_,by rw[C.o.1],by rw[C.o.2];exact T.o.1,T.o.2⟩;rw[K8 rfl];go_simp
 have hq:(DE != 0)=true:=by simpa using hE
 have C:Hid (i9 (s,t) n=DE/\kE (s,t) n=([],[])):=by
  have e:i9 (s,t) n=DE:=by unfold i9;rw[iO (by rw[l.o];exact hE),l.o]
  exact⟨e,by unfold kE;rw[e,iO hE]⟩
 have HF:Hid (∀x y,bL w ((A.setCell (pA (w.1.size+1) 0) x).setCell (pA (w.1.size+1) 1) y)):=λx y=>dS g (by omega) x y
 clear G0 G1 g hs ht hd l hB I V X o hE;go_wp2_with fail;refine Ka (v:=.tuple #[.agg #[nL,nL],U DE]) ?_ rfl ⟨_,by rw[C.o.1],by rw[C.o.2];exact eX _ _,HF.o _ _⟩;rw[K8 rfl];go_simp
theorem Fy(B v d w)(he:dD w)(hd:cJ B w v d)(S:B<=w.1.size)(F:sW d):
  cL 73 #[v] w λe n=>∃v',e=.returned (.tuple #[v',U (fm d)])/\cV w.1.size n v' (i7 d)/\bL w n:=by
 obtain⟨sv,tv,rfl,T,V⟩:=id hd;obtain⟨s,t⟩:=d;simp only[] at T V;obtain⟨a,c,e1,-,-,-⟩:=id T;obtain⟨b,c2,e2,Y,a0,-⟩:=id V;subst e1 e2;have⟨W,L⟩:=nM ((w.alloc (.cells #[.slice a s.length c,.slice b t.length c2] 25)).alloc (.cells #[nL,nL] 25));have k:=bB L;have g0:W.1[w.1.size]?=some (.cells #[.slice a s.length c,.slice b t.length c2] 25 (0,0)):=by rw[L];exact dF _ (aY _ _ rfl)
 have g1:W.1[w.1.size+1]?=some (.cells #[nL,nL] 25 (0,0)):=by rw[L];exact aY _ _ (by simp only[Kg])
 have b5:=sB L;have f:Hid _:=jD B _ (s,t) W (he.l k) (hd.l k S) (by omega) F;obtain⟨y0,y1,-,-⟩:=ag g0;have HW:=Z L;have c1:=Z k;generalize a2:aB (s,t)=DE at*;have l:=Z a2;have⟨N,M⟩:=nM (s.length);have⟨m,O⟩:=nM (t.length)
 rw[<-M] at HW f y0 g0 |-
 rw[<-O] at HW f y1 g0 |-
 have HN:=Z M;have HM:=Z O;clear L a2 M O;go_enter func73,ntmps73;go_wp2_with fail;rw[<-HW.o];go_at_call 27;refine Calls.mono f.o ?_;rintro e P ⟨rfl,z⟩;have G0:=z.bl g0;have G1:=z.bl g1;have h:bL w P:=k.th z;have a5:w.1.size+1<P.1.size:=io G1;have⟨z0,z1,f0,f1⟩:=ag G1;obtain⟨x0,x1,-,-⟩:=ag G0;clear y0 y1 f g0 g1 b5 z HW
 by_cases hE:DE=0
 ·subst hE;have O:=HM.o;have M:=HN.o;obtain⟨-,-,a7,-⟩:=dE l.o;simp only[] at a7;have A:=Z h;have c7:=Z G0;have b6:=Z G1
  have a8:Hid (∀n,bL w n->cL 92 #[.slice a N c,.slice b m c2] n λe G=>∃v,e=.returned v/\cg n.1.size G v (s++t)/\bL n G):=λn hb=>by
   rw[M,O]
   exact(kK B _ _ s t n (T.l hb S) (V.l hb S) (hb.u S) (by omega)).mono λe G ⟨v,h1,_,h3,h4⟩=>⟨v,h1,h3,h4⟩
  have HE:=Z λn (hb:bL w n)=>he.l hb
  have g:Hid (fm (s,t)=aB (s++t,[])/\i7 (s,t)=if aB (s++t,[])=0 then (s++t,[]) else ([],[])):=by
   have e:fm (s,t)=aB (s++t,[]):=by unfold fm km;rw[Io l.o]
   exact⟨e,by unfold i7;rw[e]⟩
  have aa:Hid (sW (s++t,[])):=by unfold Hid sW;simp;omega
  clear G0 G1 h T V hd l F Y a0 k M O a7;go_wp2_with fail;go_at_call 92;refine Calls.mono (a8.o P A.o) ?_;rintro e w2 ⟨jv,rfl,i,H⟩;obtain⟨Q,R,ej⟩:=i.shape;subst ej;have⟨X,hX⟩:=nM (s++t)
  rw[<-hX] at i g aa |-
  have⟨W3,C⟩:=nM (w2.alloc (.cells #[.slice Q X.length R,nL] 25));have I:=bA C;have g3:=hA C;have o:bL P W3:=H.th I;have D:bL w W3:=A.o.th o;have p:=i.l I;have f:Hid _:=jD W3.1.size (.agg #[.slice Q X.length R,nL]) (X,[]) W3 (HE.o W3 D) ⟨_,_,rfl,p.at,ip _ _⟩ lE aa.o;have J:=Z p;have b7:=Z C;have ad:=Z o;have K:=Z g3;have bs:=H.size;generalize ae:X.length=xl at*;have cd:=Z ae;clear ae hX i H C I g3 o D p a8 x0 x1;generalize aB (X,[])=de at*;go_wp2_with fail;rw[<-b7.o];go_at_call 27;refine Calls.mono f.o ?_;rintro e w4 ⟨rfl,q⟩;have j:bL P w4:=ad.o.th q;have r:bL w w4:=A.o.th j;have G4:=(j.block _ a5).trans b6.o;have G5:=q.bl K.o;have⟨u0,u1,ce,cf⟩:=ag G4;obtain⟨v0,v1,-,-⟩:=ag G5;have HF:Hid (∀x y,bL w ((w4.setCell (pA (w.1.size+1) 0) x).setCell (pA (w.1.size+1) 1) y)):=λx y=>dS r (by omega) x y
  by_cases h0:de=0
  ·subst h0;have⟨k0,k1,k2⟩:=ic (u:=.slice Q xl R) (v:=nL) G4;have af:Hid (cV w.1.size ((w4.setCell (pA (w.1.size+1) 0) (.slice Q xl R)).setCell (pA (w.1.size+1) 1) nL) (.agg #[.slice Q xl R,nL]) (X,[])):=kS (((J.o.l q).keep k1 a5 k2).mono A.o.size) (zD _ _);have E:=Z2 g.o.1 (by rw[g.o.2,Io rfl]:i7 (s,t)=(X,[]));have bz:w2.1.size≠w.1.size+1:=by omega
   clear G4 G5 j r q k0 k1 k2 f J K g z0 z1 f0 f1;go_wp2_with fail;refine Ka (v:=.tuple #[.agg #[.slice Q xl R,nL],U 0]) ?_ rfl ⟨_,by rw[E.o.1],by rw[E.o.2];exact af.o,HF.o _ _⟩;rw[K8 rfl];go_simp
  have hq:(de != 0)=true:=by simpa using h0
  have E:=Z2 g.o.1 (by rw[g.o.2,iO h0]:i7 (s,t)=([],[]));clear G4 G5 j r q f J K g z0 z1 f0 f1 h0 v0 v1;go_wp2_with fail;refine Ka (v:=.tuple #[.agg #[nL,nL],U de]) ?_ rfl ⟨_,by rw[E.o.1],by rw[E.o.2];exact eX _ _,HF.o _ _⟩;rw[K8 rfl];go_simp
 have hq:(DE != 0)=true:=by simpa using hE
 have E:Hid (fm (s,t)=DE/\i7 (s,t)=([],[])):=by
  have e:fm (s,t)=DE:=by unfold fm;rw[iO (by rw[l.o];exact hE),l.o]
  exact⟨e,by unfold i7;rw[e,iO hE]⟩
 have HF:Hid (∀x y,bL w ((P.setCell (pA (w.1.size+1) 0) x).setCell (pA (w.1.size+1) 1) y)):=λx y=>dS h (by omega) x y
 clear G0 G1 h T V hd l S F Y a0 k hE;go_wp2_with fail;refine Ka (v:=.tuple #[.agg #[nL,nL],U DE]) ?_ rfl ⟨_,by rw[E.o.1],by rw[E.o.2];exact eX _ _,HF.o _ _⟩;rw[K8 rfl];go_simp
theorem GJ(B v rv d r w)(he:dD w)(hd:cJ B w v d)(hr:cI B w rv r)(hB:B<=w.1.size)(b5:sW d):
  cL 103 #[v,rv] w λe f=>∃v',e=.returned (.tuple #[v',U (f8 d r)])/\cV w.1.size f v' (fu d r)/\bL w f:=by
 obtain⟨sv,tv,rfl,hs,ht⟩:=id hd;obtain⟨s,t⟩:=d;simp only[] at hs ht;obtain⟨a,c,e1,-,-,-⟩:=id hs;obtain⟨b,c2,e2,bz,bF,-⟩:=id ht;subst e1 e2;obtain⟨r1,r2,r3,rr,r4⟩:=r;obtain⟨ra,rc,er,-⟩:=hr.shape;subst er;simp only[] at*;have b6:=Z λf (hb:bL w f)=>hr.l hb hB
 obtain⟨r,c4⟩:∃r:az,r=(r1,r2,r3,rr,r4):=⟨_,rfl⟩
 rw[<-c4] at b6 |-
 have⟨W,hW⟩:=nM (((w.alloc (.cells #[.slice a s.length c,.slice b t.length c2] 25)).alloc (.cells #[U r1,U r2,U r3,.slice ra rr.length rc,U r4] 71)).alloc (.cells #[nL,nL] 25));have L:bL w W:=by rw[hW];exact((bR.alloc lE _).alloc (by simp) _).alloc (by simp;omega) _
 have g0:W.1[w.1.size]?=some (.cells #[.slice a s.length c,.slice b t.length c2] 25 (0,0)):=by rw[hW];exact dF _ (dF _ (aY _ _ rfl))
 have gr:W.1[w.1.size+1]?=some (.cells #[U r1,U r2,U r3,.slice ra rr.length rc,U r4] 71 (0,0)):=by rw[hW];exact dF _ (aY _ _ (by simp only[Kg]))
 have g1:W.1[w.1.size+1+1]?=some (.cells #[nL,nL] 25 (0,0)):=by rw[hW];exact aY _ _ (by simp only[Kg])
 have e8:W.1.size=w.1.size+1+1+1:=by rw[hW];simp
 have ac:Hid _:=jD B _ (s,t) W (he.l L) (hd.l L hB) (by omega) b5;obtain⟨y0,y1,-,-⟩:=ag g0;have HW:=Z hW;have gb:=Z L;generalize c7:aB (s,t)=DE at*;have M:=Z c7;have⟨N,hN⟩:=nM (s.length);have⟨m,hm⟩:=nM (t.length);have⟨rl,c9⟩:=nM (rr.length)
 rw[<-c9] at HW gr b6 |-
 rw[<-hN] at HW ac y0 g0 |-
 rw[<-hm] at HW ac y1 g0 |-
 have HN:=Z hN;have HM:=Z hm;have⟨t0,t1,t2,t3,t4⟩:=aF gr;clear hW c7 hN hm c9 hr;go_enter func103,ntmps103;go_wp2_with fail;rw[<-HW.o];go_at_call 27;refine Calls.mono ac.o ?_;rintro e w1 ⟨rfl,Y⟩;have T:=Y.bl g0;have I:=Y.bl g1;have A:bL w w1:=L.th Y;have Gr:=Y.bl gr;have ej:w.1.size+1+1<w1.1.size:=io I;have⟨z0,z1,f0,f1⟩:=ag I;obtain⟨x0,x1,-,-⟩:=ag T;have⟨p0,p1,p2,p3,p4⟩:=aF Gr;clear y0 y1 ac g0 g1 e8 Y HW gr t0 t1 t2 t3 t4
 by_cases hE:DE=0
 ·subst hE;have hm:=HM.o;have hN:=HN.o;obtain⟨-,-,ce,-⟩:=dE M.o;simp only[] at ce;have el:=Z A;have cf:=Z T;have ci:=Z I;have ad:Hid _:=CA B _ r w1 (he.l A) (b6.o w1 A) (by omega);have ck:Hid (f8 (s,t) r=lz (s,t) r):=by unfold Hid f8;rw[Io M.o]
  have⟨P,hP⟩:=nM (fP r);have⟨E,ba⟩:=nM (aZ r);have F:Hid (f8 (s,t) r=if E=0 then (if 60000<N+m+P.length+1 then 2 else 0) else E):=by unfold Hid;rw[ck.o];unfold lz;rw[<-hP,<-ba,<-hN,<-hm]
  have C:Hid (fu (s,t) r=if f8 (s,t) r=0 then (s,t++(P++[10])) else ([],[])):=by unfold Hid fu;rw[<-hP]
  have bb:P.length<=100000000:=by rw[hP];exact uZ r
  rw[<-hP,<-ba] at ad;have⟨pn,ae⟩:=nM (P.length);have co:=Z ae.symm;rw[<-ae] at bb F;have⟨PS,bc⟩:=nM (dU P);have bd:Hid (PS.size=pn/\PS++⟨#[10]⟩=dU (P++[10])):=by unfold Hid;rw[bc];exact⟨by rw[ae];simp[dU,ByteArray.size],Ee P⟩
  rw[<-bc] at ad;have cp:N+m<=60000:=by omega
  have en:Hid (∀f,bL w f->cL 92 #[.slice a N c,nL] f λe g=>∃v,e=.returned v/\cg f.1.size g v s/\bL f g):=λf a1=>by
   have:=kK B _ _ s [] f (hs.l a1 hB) (ip B f) (a1.u hB) (by simp;omega);rw[LI] at this;rw[hN]
   exact this.mono λe g ⟨v,h1,_,h3,h4⟩=>⟨v,h1,h3,h4⟩
  have es:Hid (∀f u x,bL w f->aI f.1.size f u x->x.length<=60001->cL 92 #[.slice b m c2,u] f λe g=>∃v,e=.returned v/\cg f.1.size g v (t++x)/\bL f g):=λf u x a1 hu hx=>by
   have:=kK f.1.size _ _ t x f ((ht.l a1 hB).wide (a1.u hB)) hu lE (by omega);rw[hm]
   exact this.mono λe g ⟨v,h1,_,h3,h4⟩=>⟨v,h1,h3,h4⟩
  have cx:=Z λf=>yS a b N c m c2 f (by omega)
  have Hl:=Z ej;clear T I Gr A hd M b5 bz bF L hN hm hP ba ae bc ck ce hs ht c4;go_wp2_with fail;go_at_call 129;refine Calls.mono ad.o ?_;rintro e w2 ⟨rfl,af⟩;have b0:bL w w2:=el.o.th af;have T:=af.bl cf.o;have I:=af.bl ci.o;have gT:w.1.size+1+1<w2.1.size:=io I;clear z0 z1 f0 f1 x0 x1 p0 p1 p2 p3 p4 ad;have⟨z0,z1,f0,f1⟩:=ag I;obtain⟨x0,x1,-,-⟩:=ag T;have bf:=Z b0;have cT:=Z T;have d0:=Z I;clear cf ci T I af b0
  by_cases hE:E=0
  ·subst hE;have et:PS.size=pn:=bd.o.1;have D:Hid (f8 (s,t) r=if 60000<N+m+pn+1 then 2 else 0):=by unfold Hid;rw[F.o,Io rfl]
   clear F;go_wp2_with fail;go_at_call 56;refine Calls.mono (cx.o w2) ?_;rintro e J ⟨rfl,ak⟩;rw[bd.o.2];have⟨XS,al⟩:=nM (dU (P++[10]));have bg:=Z al;have d2:XS.size=pn+1:=by rw[al];simp[dU,ByteArray.size,co.o]
   rw[<-al];clear al et bd cx;have b1:bL w J:=bf.o.th ak;have T:=ak.bl cT.o;have I:=ak.bl d0.o;have ao:w.1.size+1+1<J.1.size:=io I;clear z0 z1 f0 f1 x0 x1;have⟨z0,z1,f0,f1⟩:=ag I;obtain⟨x0,x1,-,-⟩:=ag T;have O:=Z b1;have d3:=Z T;have d4:=Z I;clear cT d0 T I ak b1 bf;obtain⟨zz,bk⟩:∃zz:Int,zz=(N:Int)+(m:Int)+((pn:Int)+1):=⟨_,rfl⟩;have bm:=Z bk;have ev:IntKind.i64.wrap ((N:Int)+(m:Int)+((pn:Int)+1))=zz:=by rw[bk];exact KA _ (by omega)
   have ew:(XS.size:Int)=(pn:Int)+1:=by omega
   clear bk
   by_cases fo:60000<zz
   ·have V:Hid (f8 (s,t) r=2/\fu (s,t) r=([],[])):=by
     have hz:=bm.o;have e:f8 (s,t) r=2:=by rw[D.o,Io (by omega)]
     exact⟨e,by rw[C.o,e,iO (by decide)]⟩
    have HF:Hid (∀x y,bL w ((J.setCell (pA (w.1.size+1+1) 0) x).setCell (pA (w.1.size+1+1) 1) y)):=λx y=>dS O.o (by omega) x y
    clear D C d2 bb cp;go_wp2_with fail;refine Ka (v:=.tuple #[.agg #[nL,nL],U 2]) ?_ rfl ⟨_,by rw[V.o.1],by rw[V.o.2];exact eX _ _,HF.o _ _⟩;rw[K8 rfl];go_simp
   have V:Hid (f8 (s,t) r=0/\fu (s,t) r=(s,t++(P++[10]))):=by
    have hz:=bm.o;have e:f8 (s,t) r=0:=by rw[D.o,iO (by omega)]
    exact⟨e,by rw[C.o,e,Io rfl]⟩
   have b2:Hid (pn+1<=60001):=by have hz:=bm.o;unfold Hid;omega
   clear D C bb cp;have⟨X,hX⟩:=nM (P++[10]);have ey:Hid (X.length<=60001):=by have:=b2.o;unfold Hid;rw[hX,Kj,co.o];exact this
   rw[<-hX] at V bg
   have eF:Hid (∀f,∃a n a3 g,(convert 9 23 (.string XS)).run prog f=.ok (.slice a n a3) g/\aI g.1.size g (.slice a n a3) X/\bL f g):=λf=>by
    obtain⟨a3,g,h1,h2,h3⟩:=wB XS f (by have:=b2.o;omega);have e:XS.1.1=X:=by rw[bg.o];simp[dU]
    rw[e] at h2;exact⟨_,_,a3,g,h1,h2,h3⟩
   clear hX bg
   obtain⟨G,hG⟩:∃G:Nat->World->Value->Prop,G=λj f u=>(j=2->cg J.1.size f u s)/\(j=6->aI f.1.size f u X)/\(j=7->cg J.1.size f u (t++X)):=⟨_,rfl⟩
   have bo:Hid (∀j u w f,bL w f->G j w u->G j f u):=λj u w f hb h=>by
    rw[hG] at h |-
    exact⟨λe=>(h.1 e).l hb,λe=>((h.2.1 e).l hb lE).wide hb.size,λe=>(h.2.2 e).l hb⟩
   have d6:Hid (∀f u,G 2 f u ↔ cg J.1.size f u s):=λf u=>by rw[hG];simp
   have da:Hid (∀f u,G 6 f u ↔ aI f.1.size f u X):=λf u=>by rw[hG];simp
   have dc:Hid (∀f u,G 7 f u ↔ cg J.1.size f u (t++X)):=λf u=>by rw[hG];simp
   obtain⟨R,hR⟩:∃R:Value->Value->World->Prop,R=λp q f=>cg J.1.size f p s/\cg J.1.size f q (t++X):=⟨_,rfl⟩
   have HR:Hid (∀p q f,R p q f ↔ cg J.1.size f p s/\cg J.1.size f q (t++X)):=λp q f=>by rw[hR]
   obtain⟨S,hS⟩:∃S:Nat->Value->Prop,S=λj v=>j≠9->∃a n c,v=.slice a n c:=⟨_,rfl⟩
   have Q:Hid (∀j v,j≠9->(S j v ↔ ∃a n c,v=.slice a n c)):=λj v hj=>by rw[hS];simp[hj]
   have eN:Hid (S 9 undef):=by unfold Hid;rw[hS];exact λe=>absurd rfl e
   have eO:Hid (∀j,∃v,S j v):=λj=>⟨nL,by rw[hS];exact λ_=>⟨_,_,_,rfl⟩⟩
   clear hG hR hS;have q0:∀z:uL w.1.size (.slice a N c) (.slice b m c2),z.1.cell? (pA w.1.size 0)=some (.slice a N c):=λz=>z.2.1
   have q1:∀z:uL w.1.size (.slice a N c) (.slice b m c2),z.1.cell? (pA w.1.size 1)=some (.slice b m c2):=λz=>z.2.2
   have dd:Nonempty (uL w.1.size (.slice a N c) (.slice b m c2)):=⟨⟨J,x0,x1⟩⟩
   have a5:Hid (∀fs f,JD (w.1.size+1+1) 9 [2,6,7] J G R fs f->∃z:uL w.1.size (.slice a N c) (.slice b m c2),f=z.1):=λfs f h=>⟨⟨f,J0 (h.box d3.o (by omega)),J1 (h.box d3.o (by omega))⟩,rfl⟩
   go_wp2_with fail;clear d2 ew ev;refine bJ [_,_,_,_,_,_,_,_,_,_] _ rfl (λk=>k==2||k==6||k==7||k==9) (JD (w.1.size+1+1) 9 [2,6,7] J G R) S eO.o (by kernel_rfl) (by kernel_rfl) (JD.start _ _ _ _ _ _) ?_;iterate 2(refine aP a5.o rfl rfl ?_;go_big_quiet_step (fail);refine Km ?_)
   refine bw 92 #[.slice a N c,nL] rfl rfl (λf=>by kernel_rfl) (λgs f K i o=>?_) (λv2 f2=>?_)
   ·obtain⟨-,l,-⟩:=K.ahead (.inr (by simp)) o;refine(en.o f (O.o.th l)).mono ?_;rintro e w4 ⟨u,rfl,H,hb⟩;obtain⟨ua,uc,eu⟩:=H.shape;exact⟨_,rfl,(Q.o 2 _ (by decide)).2 ⟨_,_,_,eu⟩,K.put bo.o (by simp) (by decide) o hb ((d6.o _ _).2 (H.mono l.size))⟩
   go_frame;obtain⟨a2,n2,k2,rfl⟩:=(Q.o 2 _ (by decide)).1 f2;iterate 3(refine aP a5.o rfl rfl ?_;go_big_quiet_step (fail);refine Km ?_)
   refine cz rfl rfl (λgs f K i o=>?_) (λv6 f5=>?_)
   ·have⟨ca,cn,a3,g,r1,r2,r3⟩:=eF.o f;refine⟨_,g,?_,(Q.o 6 _ (by decide)).2 ⟨_,_,_,rfl⟩,K.put bo.o (by simp) (by decide) o r3 ((da.o _ _).2 r2)⟩;unfold execOp;simp only[resolve,invoke,builtin,Lj,My,LW,M4,Lt,Mz];exact(congrArg (λr=>Result.andThen r λv w=>.ok (Next.value v) w) r1)
   go_frame;obtain⟨a6,n6,k6,rfl⟩:=(Q.o 6 _ (by decide)).1 f5;refine bw 92 #[.slice b m c2,.slice a6 n6 k6] rfl rfl (λf=>by kernel_rfl) (λgs f K i o=>?_) (λv7 f9=>?_)
   ·have h6:=i 6 _ (.inr ⟨rfl,rfl⟩) (au (by kernel_rfl));obtain⟨-,l,hG⟩:=K.ahead (.inr (by simp)) o;refine(es.o f _ X (O.o.th l) ((da.o _ _).1 (hG 6 _ h6)) ey.o).mono ?_;rintro e w4 ⟨u,rfl,H,hb⟩;obtain⟨ua,uc,eu⟩:=H.shape;exact⟨_,rfl,(Q.o 7 _ (by decide)).2 ⟨_,_,_,eu⟩,K.put bo.o (by simp) (by decide) o hb ((dc.o _ _).2 (H.mono l.size))⟩
   go_frame;obtain⟨a7,n7,k7,rfl⟩:=(Q.o 7 _ (by decide)).1 f9;refine aP a5.o rfl rfl ?_;go_big_quiet_step (fail);refine Km ?_;refine fL rfl rfl (λgs f K i o=>?_) (λv9 hh=>?_)
   ·have h2:=i 2 _ (.inl (.inl (.inr ⟨rfl,rfl⟩))) (au (by kernel_rfl));have h6:=i 6 _ (.inl (.inr ⟨rfl,rfl⟩)) (au (by kernel_rfl));have h7:=i 7 _ (.inr ⟨rfl,rfl⟩) (au (by kernel_rfl));obtain⟨-,l,hG⟩:=K.ahead (.inl rfl) o;have a8:=(l.block _ ao).trans d4.o;have⟨hi,hl,hn,ho⟩:=ag a8
    refine⟨(f.setCell (pA (w.1.size+1+1) 0) (.slice a2 n2 k2)).setCell (pA (w.1.size+1+1) 1) (.slice a7 n7 k7),?_,eN.o,K.store o (λk hk=>by
     simp at hk
     rcases hk with rfl|rfl|rfl
     ·exact⟨_,h2⟩
     ·exact⟨_,h6⟩
     exact⟨_,h7⟩) ((HR.o _ _ _).2 ⟨(d6.o _ _).1 (hG 2 _ h2),(dc.o _ _).1 (hG 7 _ h7)⟩)⟩
    clear K i o q0 q1 a5 dd h2 h6 h7 l hG a8;go_simp
   go_frame;refine ei ?_;intro w4 K;have⟨w0,p,q,e4,l,de⟩:=K.done (.inr ⟨rfl,rfl⟩);obtain⟨bp,bq⟩:=(HR.o _ _ _).1 de;have a8:=(l.block _ ao).trans d4.o;have⟨k0,k1,k2⟩:=ic (u:=p) (v:=q) a8;rw[<-e4] at k0 k1 k2;obtain⟨ea,ec,ee⟩:=bp.shape;obtain⟨eb,ek,ef⟩:=bq.shape;subst ee ef;obtain⟨y0,y1,-,-⟩:=ag k0;have b3:Hid (cV w.1.size w4 (.agg #[.slice ea s.length ec,.slice eb (t++X).length ek]) (s,t++X)/\bL w w4):=by refine⟨kS ((bp.keep k1 ao k2).mono O.o.size) ((bq.keep k1 ao k2).mono O.o.size),?_⟩;rw[e4];exact dS (O.o.th l) (by omega) _ _
   generalize s.length=n1 at*;generalize (t++X).length=n2 at*;clear K e4 l de bp bq a8 k0 k1 k2 q0 q1 a5 dd;go_wp2_with fail;refine Ka (v:=.tuple #[.agg #[.slice ea n1 ec,.slice eb n2 ek],U 0]) ?_ rfl ⟨_,by rw[V.o.1],by rw[V.o.2];exact b3.o.1,b3.o.2⟩;rw[K8 rfl];go_simp
  have hq:(E != 0)=true:=by simpa using hE
  have V:Hid (f8 (s,t) r=E/\fu (s,t) r=([],[])):=by
   have e:f8 (s,t) r=E:=by rw[F.o,iO hE]
   exact⟨e,by rw[C.o,e,iO hE]⟩
  have HF:Hid (∀x y,bL w ((w2.setCell (pA (w.1.size+1+1) 0) x).setCell (pA (w.1.size+1+1) 1) y)):=λx y=>dS bf.o (by omega) x y
  clear hE F C;go_wp2_with fail;refine Ka (v:=.tuple #[.agg #[nL,nL],U E]) ?_ rfl ⟨_,by rw[V.o.1],by rw[V.o.2];exact eX _ _,HF.o _ _⟩;rw[K8 rfl];go_simp
 have hq:(DE != 0)=true:=by simpa using hE
 have V:Hid (f8 (s,t) r=DE/\fu (s,t) r=([],[])):=by
  have e:f8 (s,t) r=DE:=by unfold f8;rw[iO (by rw[M.o];exact hE),M.o]
  exact⟨e,by unfold fu;rw[e,iO hE]⟩
 have HF:Hid (∀x y,bL w ((w1.setCell (pA (w.1.size+1+1) 0) x).setCell (pA (w.1.size+1+1) 1) y)):=λx y=>dS A (by omega) x y
 clear T I Gr A hs ht hd M hB b5 bz bF L hE;go_wp2_with fail;refine Ka (v:=.tuple #[.agg #[nL,nL],U DE]) ?_ rfl ⟨_,by rw[V.o.1],by rw[V.o.2];exact eX _ _,HF.o _ _⟩;rw[K8 rfl];go_simp
section
structure AV (L1:Nat) (W:World) (lb:Option Nat) (X:Bs) (G10:World->Value->Prop) (fs:Nat->Value->Prop) (w:World):Prop where
 below:Below L1 W w
 grown:W.grownBy w lb
 still:(∀u,¬fs 10 u)->bL W w
 row6:∀u,fs 6 u->cg W.1.size w u X
 row10:∀u,fs 10 u->G10 w u
 need:∀u,fs 10 u->∃u',fs 6 u'
def JV(bo L1:Nat)(W:World)(lb:Option Nat)(X:Bs)(G10:World->Value->Prop)(fs:Nat->Value->Prop)(w:World):Prop:=
 ((∀u,¬fs 11 u)/\AV L1 W lb X G10 fs w)\/((∃u,fs 11 u)/\(∃u,fs 6 u)/\(∃u,fs 10 u)/\∃a p,w=(a.setCell (pA bo 0) p).setCell (pA bo 1) nL/\cg W.1.size a p X/\AV L1 W lb X G10 (λk u=>k≠11/\fs k u) a)
section
variable {bo L1:Nat} {W w w':World} {lb:Option Nat} {X:Bs} {G10:World->Value->Prop} {fs:Nat->Value->Prop}
theorem JV.start(bo L1 W lb X)(G10:World->Value->Prop):JV bo L1 W lb X G10 (λ_ _=>False) W.drew:=
 .inl ⟨λ_ h=>h,bR.drew,⟨rfl,rfl,rfl,Ke _,λ_ _ _=>rfl⟩,λ_=>bR.drew,λ_ h=>h.elim,λ_ h=>h.elim,λ_ h=>h.elim⟩
theorem JV.ahead(h:JV bo L1 W lb X G10 fs w){k:Nat}(e:k=6\/k=10\/k=11)(d:∀v,¬fs k v):(∀u,¬fs 11 u)/\AV L1 W lb X G10 fs w:=by
 rcases h with h|⟨⟨a,f⟩,⟨b,g⟩,⟨c,i⟩,_⟩
 ·exact h
 rcases e with rfl|rfl|rfl
 ·exact absurd g (d _)
 ·exact absurd i (d _)
 exact absurd f (d _)
theorem JV.box(h:JV bo L1 W lb X G10 fs w){b:Nat}{o:Obj}(c:W.1[b]?=some o)(a:b≠bo)(d:b<L1):w.1[b]?=some o:=by
 rcases h with ⟨_,h⟩|⟨_,_,_,e,p,rfl,_,h⟩
 ·exact(h.below.block b d).trans c
 exact((Kc _ _ _ _ a).trans (Kc _ _ _ _ a)).trans ((h.below.block b d).trans c)
theorem JV.put6(h:JV bo L1 W lb X G10 fs w)(c:∀v,¬fs 6 v)(i:L1<=W.1.size)(j:bL w w'){v}(f:cg W.1.size w' v X):JV bo L1 W lb X G10 (d9 fs 6 v) w':=by
 have⟨g,h⟩:=h.ahead (.inl rfl) c;have b:∀v,¬fs 10 v:=λv f=>by have⟨u,a⟩:=h.need v f;exact c u a
 have k:=h.still b;have d:bL W w':=k.th j;refine .inl ⟨λu a=>?_,d.mono i,fX d lb,λ_=>d,λu a=>?_,λu a=>?_,λu a=>⟨v,.inr ⟨rfl,rfl⟩⟩⟩
 ·rcases a with a|⟨e,_⟩
  ·exact g u a
  cases e
 ·rcases a with a|⟨_,rfl⟩
  ·exact absurd a (c _)
  exact f
 rcases a with a|⟨e,_⟩
 ·exact absurd a (b _)
 cases e
theorem JV.put10(h:JV bo L1 W lb X G10 fs w)(b:∀v,¬fs 10 v){n:Value}(o:fs 6 n)(p:L1<=W.1.size)(c:∀k,lb=some k->k<W.1.size/\L1<=k)(d:w.grownBy w' lb){v:Value}(q:G10 w' v):JV bo L1 W lb X G10 (d9 fs 10 v) w':=by
 have⟨l,h⟩:=h.ahead (.inr (.inl rfl)) b;refine .inl ⟨λu a=>?_,h.below.grown d (Kl p h.grown.size) λk r=>(c k r).2,Li h.grown d λj s=>.inr s,λf=>absurd (.inr ⟨rfl,rfl⟩) (f v),λu a=>?_,λu a=>?_,λu a=>⟨n,.inl o⟩⟩
 ·rcases a with a|⟨e,_⟩
  ·exact l u a
  cases e
 ·rcases a with a|⟨e,_⟩
  ·exact λt x y=>h.row6 u a t (λg m i=>(x g m (Kd i d.size)).trans (d.block g i λe=>by have:=(c g e.symm).1;omega)) (Kl d.size y)
  cases e
 rcases a with a|⟨_,rfl⟩
 ·exact absurd a (b _)
 exact q
theorem JV.store(h:JV bo L1 W lb X G10 fs w)(d:∀v,¬fs 11 v){p b:Value}(f:fs 6 p)(c:fs 10 b):JV bo L1 W lb X G10 (d9 fs 11 undef) ((w.setCell (pA bo 0) p).setCell (pA bo 1) nL):=by
 have⟨g,h⟩:=h.ahead (.inr (.inr rfl)) d;refine .inr ⟨⟨undef,.inr ⟨rfl,rfl⟩⟩,⟨p,.inl f⟩,⟨b,.inl c⟩,w,p,rfl,h.row6 p f,h.below,h.grown,λi=>absurd ⟨by decide,.inl c⟩ (i b),λu a=>?_,λu a=>?_,λu a=>⟨p,by decide,.inl f⟩⟩
 ·rcases a.2 with a|⟨e,_⟩
  ·exact h.row6 u a
  cases e
 rcases a.2 with a|⟨e,_⟩
 ·exact h.row10 u a
 cases e
theorem JV.done(h:JV bo L1 W lb X G10 fs w){u a:Value}(d:fs 11 u)(c:fs 10 a):∃b p,w=(b.setCell (pA bo 0) p).setCell (pA bo 1) nL/\cg W.1.size b p X/\Below L1 W b/\W.grownBy b lb/\G10 b a:=by
 rcases h with ⟨f,_⟩|⟨_,_,_,b,p,e,g,h⟩
 ·exact absurd d (f _)
 exact⟨b,p,e,g,h.below,h.grown,h.row10 a ⟨by decide,c⟩⟩
end
theorem A5(B v d w)(he:dD w)(hd:cJ B w v d)(hB:B<=w.1.size)(b8:sW d):
  cL 59 #[v] w λe w'=>∃v' F,e=.returned (.tuple #[v',F,U (aB d)])/\cV w.1.size w' v' (gE d)/\dh w'.1.size w' F (cK d)/\bL w w':=by
 obtain⟨sv,tv,rfl,hs,ht⟩:=id hd;obtain⟨s,t⟩:=d;simp only[] at hs ht;obtain⟨a,c,e1,-,-,-⟩:=id hs;obtain⟨b,R,e2,bv,bx,-⟩:=id ht;subst e1 e2;have⟨W,hW⟩:=nM ((w.alloc (.cells #[.slice a s.length c,.slice b t.length R] 25)).alloc (.cells #[nL,nL] 25));have O:=bB hW;have g0:W.1[w.1.size]?=some (.cells #[.slice a s.length c,.slice b t.length R] 25 (0,0)):=by rw[hW];exact dF _ (aY _ _ rfl)
 have g1:W.1[w.1.size+1]?=some (.cells #[nL,nL] 25 (0,0)):=by rw[hW];exact aY _ _ (by simp only[Kg])
 have ef:=sB hW;have ae:Hid _:=jD B _ (s,t) W (he.l O) (hd.l O hB) (by omega) b8;obtain⟨y0,y1,-,-⟩:=ag g0;have HW:=Z hW;have go:=Z O;generalize bF:aB (s,t)=DE at*;have H:=Z bF;have⟨N,hN⟩:=nM (s.length);have⟨m,hm⟩:=nM (t.length)
 rw[<-hN] at HW ae y0 g0 |-
 rw[<-hm] at HW ae y1 g0 |-
 have HN:=Z hN;have HM:=Z hm;clear hW bF hN hm;go_enter func59,ntmps59;go_wp2_with fail;rw[<-HW.o];go_at_call 27;refine Calls.mono ae.o ?_;rintro e C ⟨rfl,af⟩;have G0:=af.bl g0;have G1:=af.bl g1;have J:bL w C:=O.th af;have ak:w.1.size+1<C.1.size:=io G1;have⟨z0,z1,f0,f1⟩:=ag G1;obtain⟨x0,x1,-,-⟩:=ag G0;clear y0 y1 ae g0 g1 ef af HW
 by_cases hE:DE=0
 ·subst hE;have hm:=HM.o;have hN:=HN.o;have⟨c5,c7,en,c8⟩:=dE H.o;simp only[] at c5 c7 en c8;have ba:Hid (gE (s,t)=(jB (s,t),[])/\cK (s,t)=iF (s,t)):=⟨by unfold gE;rw[Io H.o],by unfold cK;rw[Io H.o]⟩;have c9:=Z J;have ca:=Z G0;have cb:=Z G1;have cc:Hid (∀w',bL w w'->cL 57 #[.slice a N c,U 40] w' λe f=>∃F D,e=.returned (.tuple #[F,U (aM 40 s).2.1,U (aM 40 s).2.2])/\f.ownsRow w'.1.size 71 5 F (aM 40 s).1.length D/\vj (gd w'.1.size F.ownBlock f) D (aM 40 s).1/\bL w' f):=λw' l=>by rw[hN];exact mx B _ s c5 40 (by omega) w' (he.l l) (hs.l l hB) (l.u hB)
  have cd:Hid (∀w' aO,aO<=40->bL w w'->cL 57 #[.slice b m R,U (aO:Nat)] w' λe f=>∃F D,e=.returned (.tuple #[F,U (aM aO t).2.1,U (aM aO t).2.2])/\f.ownsRow w'.1.size 71 5 F (aM aO t).1.length D/\vj (gd w'.1.size F.ownBlock f) D (aM aO t).1/\bL w' f):=λw' aO eq l=>by rw[hm];exact mx B _ t c7 aO eq w' (he.l l) (ht.l l hB) (l.u hB)
  clear G0 G1 J hd H b8 bv bx O hN hm;go_wp2_with fail;go_at_call 57;refine Calls.mono (cc.o C c9.o) ?_;obtain⟨⟨L,k1,e1⟩,Y⟩:∃LL,LL=aM 40 s:=⟨_,rfl⟩;have er:L.length<=40:=by have:=o8 40 s;rw[<-Y] at this;exact this
  obtain⟨⟨M,k2,e2⟩,a1⟩:∃MM,MM=aM (40-L.length) t:=⟨_,rfl⟩;have ce:M.length<=40-L.length:=by have:=o8 (40-L.length) t;rw[<-a1] at this;exact this
  have cf:k2<=t.length:=by have:=sw (40-L.length) t;rw[<-a1] at this;exact this
  have a2:Hid (gE (s,t)=(s++t.take k2,[])/\cK (s,t)=L++M):=by
   have e:mu (s,t)=(M,k2,e2):=by unfold mu;simp only[];rw[<-Y,a1]
   rw[ba.o.1,ba.o.2];unfold Hid jB iF;rw[e];simp only[];rw[<-Y]
   refine⟨?_,?_⟩<;>first|trivial|rfl
  have a3:Hid (∀w',bL w w'->cL 57 #[.slice b m R,U ((40-L.length:Nat):Int)] w' λe f=>∃F D,e=.returned (.tuple #[F,U k2,U e2])/\f.ownsRow w'.1.size 71 5 F M.length D/\vj (gd w'.1.size F.ownBlock f) D M/\bL w' f):=λw' l=>by have:=cd.o w' (40-L.length) (by omega) l;rw[<-a1] at this;exact this
  rw[<-Y];simp only[];clear Y a1 ba cc cd c8;rintro e w2 ⟨F,D,rfl,al,bb,a4⟩;obtain⟨la,lc,el,es,gF,-⟩:=an al;subst el;have⟨E,bc⟩:=nM (L.length);have et:=Z bc.symm
  rw[<-bc] at al bb er ce a3 es |-
  have fl:(40:Int)-(E:Int)=((40-E:Nat):Int):=by omega
  have b0:bL w w2:=c9.o.th a4;have P0:=a4.bl ca.o;have P1:=a4.bl cb.o;have gM:w.1.size+1<w2.1.size:=io P1;have fn:=a4.size;clear z0 z1 f0 f1 x0 x1 bc;obtain⟨x0,x1,-,-⟩:=ag P0;have b1:=Z b0;have ci:=Z P0;have ck:=Z P1;have ao:=Z al;have cl:=Z bb;have gT:¬(40<E):=by omega
  clear P0 P1 al bb b0 ca cb a4;go_wp2_with fail;go_at_call 57;refine Calls.mono (a3.o w2 b1.o) ?_;rintro e K ⟨mv,ys,rfl,P,bg,I⟩;obtain⟨ma,mc,em,ev,fq,-⟩:=an P;subst em;have⟨T,bk⟩:=nM (M.length);have ew:=Z bk.symm
  rw[<-bk] at P bg ce ev |-
  have b2:bL w K:=b1.o.th I;have P0:=I.bl ci.o;have P1:=I.bl ck.o;have gY:w.1.size+1<K.1.size:=io P1;have fr:=I.size;clear x0 x1 bk;obtain⟨x0,x1,-,-⟩:=ag P0;have a5:=Z b2;have cn:=Z P0;have co:=Z P1;have cp:=Z (aw ao.o I);have cs:Hid (vj (gd C.1.size (Value.slice la E lc).ownBlock K) D L):=cl.o.imp λ_ _ h=>h.grown (fX I _) (.inl rfl)
  have ex:=Z P;have cv:=Z bg;have cx:Hid (∀k,(Value.slice la E lc).ownBlock=some k->k<w2.1.size/\C.1.size<=k):=λk hk=>by have⟨cT,hc⟩:=cX ao.o k hk;exact⟨io hc,eh ao.o k hk⟩
  have h0:Hid (∀k,(Value.slice ma T mc).ownBlock=some k->k<K.1.size/\w2.1.size<=k):=λk hk=>by have⟨cT,hc⟩:=cX P k hk;exact⟨io hc,eh P k hk⟩
  have⟨a',ey,d0⟩:=vQ ht k2 cf;have d1:=HM.o;have d2:=HN.o;rw[<-d1] at ey cf
  have d3:Hid (∀w',bL w w'->cL 92 #[.slice a N c,.slice a' k2 R] w' λe f=>∃v,e=.returned v/\cg w'.1.size f v (s++t.take k2)/\bL w' f):=λw' l=>by
   rw[d2]
   exact(kK B _ _ s (t.take k2) w' (hs.l l hB) (d0.l l hB) (l.u hB) (by rw[Kt];omega)).mono λe f ⟨v,h1,_,h3,h4⟩=>⟨v,h1,h3,h4⟩
  have h8:(k2:Int)<=(R:Int):=by obtain⟨_,_,e,h,_⟩:=ht;simp at e;omega
  have q:=Z4 (by omega:(E+T)*56<=140737488355328) (by omega:C.1.size<=w2.1.size) (by omega:w2.1.size<=K.1.size) ak;clear P0 P1 P bg b2 ci ck I ao cl a3 d1 d2 d0 hs ht;have⟨X,hX⟩:=nM (s++t.take k2);rw[<-hX] at d3 a2;have⟨lb,Q⟩:=nM ((Value.slice la E lc).ownBlock)
  obtain⟨G,hG⟩:∃G:World->Value->Prop,G=λw' u=>w'.ownsRow C.1.size 71 5 u (E+T) (D++ys)/\(u.ownBlock=lb\/∃k,u.ownBlock=some k/\K.1.size<=k):=⟨_,rfl⟩
  have HG:Hid (∀w' u,G w' u ↔ (w'.ownsRow C.1.size 71 5 u (E+T) (D++ys)/\(u.ownBlock=lb\/∃k,u.ownBlock=some k/\K.1.size<=k))):=λw' u=>by rw[hG]
  have d4:Hid (∀w',bL K w'->∃u f,(Builtin.append_ #[58,58] 58 #[.slice la E lc,.slice ma T mc]).run prog w'=.ok u f/\G f u/\w'.grownBy f lb/\∃a c,u=.slice a (E+T) c):=λw' l=>by
   obtain⟨u,f,r1,r2,r3,r4⟩:=uF C.1.size w2.1.size _ _ E T D ys w' (aw cp.o l) (aw ex.o l) cv.o.2.1 q.o.1 (by have:=q.o;have:=l.size;omega);obtain⟨ua,uc,eu,-⟩:=an r2;refine⟨u,f,r1,(HG.o _ _).2 ⟨r2,?_⟩,by rw[Q];exact r3,ua,uc,eu⟩
   rcases r4 with e|⟨k,e,hk⟩
   ·exact .inl (by rw[Q];exact e)
   exact .inr ⟨k,e,Kl l.size hk⟩
  have d5:Hid (∀k,lb=some k->k<K.1.size/\C.1.size<=k):=λk hk=>by have:=cx.o k (by rw[<-Q];exact hk);have:=q.o;omega
  have d6:Hid (∀w' u,K.grownBy w' lb->G w' u->vj (gd C.1.size u.ownBlock w') (D++ys) (L++M)/\w'.ownsRow C.1.size 71 5 u (L++M).length (D++ys)):=λw' u a8 f2=>by
   obtain⟨g1,g2⟩:=(HG.o _ _).1 f2;have g7:=q.o;refine⟨(cs.o.imp λ_ _ h=>?_).append (cv.o.imp λ_ _ h=>?_),by rw[Kj,et.o,ew.o];exact g1⟩
   ·rw[<-Q] at h;exact h.grown a8 g2
   refine(h.beside a8 (λk hk=>?_) g2).mono (by omega);have:=(cx.o k (by rw[<-Q];exact hk)).1;omega
  obtain⟨S,hS⟩:∃S:Nat->Value->Prop,S=λj v=>(j=6->∃a n c,v=.slice a n c)/\(j=10->∃a c,v=.slice a (E+T) c):=⟨_,rfl⟩
  have dc:Hid (∀v,S 6 v ↔ ∃a n c,v=.slice a n c):=λv=>by rw[hS];simp
  have b3:Hid (∀v,S 10 v ↔ ∃a c,v=.slice a (E+T) c):=λv=>by rw[hS];simp
  have dd:Hid (S 11 undef):=by unfold Hid;rw[hS];exact⟨λe=>(by cases e),λe=>(by cases e)⟩
  have f3:Hid (∀j,∃v,S j v):=λj=>⟨.slice none (E+T) 0,by rw[hS];exact⟨λ_=>⟨_,_,_,rfl⟩,λ_=>⟨_,_,rfl⟩⟩⟩
  clear hG hS hX Q;have q0:∀z:uL w.1.size (.slice a N c) (.slice b m R),z.1.cell? (pA w.1.size 0)=some (.slice a N c):=λz=>z.2.1
  have q1:∀z:uL w.1.size (.slice a N c) (.slice b m R),z.1.cell? (pA w.1.size 1)=some (.slice b m R):=λz=>z.2.2
  have de:Nonempty (uL w.1.size (.slice a N c) (.slice b m R)):=⟨⟨K,x0,x1⟩⟩
  have a9:Hid (∀fs w',JV (w.1.size+1) C.1.size K lb X G fs w'->∃z:uL w.1.size (.slice a N c) (.slice b m R),w'=z.1):=λfs w' h=>⟨⟨w',J0 (h.box cn.o (by omega) (by omega)),J1 (h.box cn.o (by omega) (by omega))⟩,rfl⟩
  have aa:Hid (C.1.size<=K.1.size):=by have:=q.o;unfold Hid;omega
  go_wp2_with fail;refine bJ [_,_,_,_,_,_,_,_,_,_,_,_,_] _ rfl (λk=>k==6||k==10||k==11) (JV (w.1.size+1) C.1.size K lb X G) S f3.o (by kernel_rfl) (by kernel_rfl) (JV.start _ _ _ _ _ _) ?_;iterate 6(refine aP a9.o rfl rfl ?_;go_big_quiet_step (fail);refine Km ?_)
  refine bw 92 #[.slice a N c,.slice a' k2 R] rfl rfl (λw'=>by kernel_rfl) (λgs w' V A o=>?_) (λv6 f4=>?_)
  ·obtain⟨-,hA⟩:=V.ahead (.inl rfl) o;have b4:=aa.o;refine(d3.o w' (a5.o.trans (hA.below.mono (by have:=q.o;omega)))).mono ?_;rintro e w4 ⟨u,rfl,b5,l⟩;obtain⟨ua,uc,eu⟩:=b5.shape;exact⟨_,rfl,(dc.o _).2 ⟨_,_,_,eu⟩,V.put6 o b4 l (b5.mono hA.grown.size)⟩
  go_frame;obtain⟨a6,n6,c6,rfl⟩:=(dc.o _).1 f4;iterate 3(refine aP a9.o rfl rfl ?_;go_big_quiet_step (fail);refine Km ?_)
  refine cz rfl rfl (λgs w' V A o=>?_) (λhg di=>?_)
  ·have h6:=A 6 _ (.inr ⟨rfl,rfl⟩) (au (by kernel_rfl));obtain⟨-,hA⟩:=V.ahead (.inr (.inl rfl)) o;have⟨u,f,r1,r2,r3,r4⟩:=d4.o w' (hA.still o);refine⟨u,f,?_,(b3.o _).2 r4,V.put10 o h6 aa.o d5.o r3 r2⟩;unfold execOp;simp only[resolve,invoke,builtin,Lj,My,LW,M4,Lt,Mz];exact(congrArg (λr=>Result.andThen r λv w=>.ok (Next.value v) w) r1)
  go_frame;obtain⟨dk,dl,rfl⟩:=(b3.o _).1 di;refine fL rfl rfl (λgs w' V A o=>?_) (λhh gc=>?_)
  ·have h6:=A 6 _ (.inl (.inr ⟨rfl,rfl⟩)) (au (by kernel_rfl));have dn:=A 10 _ (.inr ⟨rfl,rfl⟩) (au (by kernel_rfl));obtain⟨-,hA⟩:=V.ahead (.inr (.inr rfl)) o;have ac:=(hA.below.block _ ak).trans co.o;have⟨hi,hj,hl,hn⟩:=ag ac;refine⟨(w'.setCell (pA (w.1.size+1) 0) (.slice a6 n6 c6)).setCell (pA (w.1.size+1) 1) nL,?_,dd.o,V.store o h6 dn⟩;clear V A o q0 q1 a9 de h6 dn hA ac;go_simp
  go_frame;refine aP a9.o rfl rfl ?_;go_big_quiet_step (fail);refine Km ?_;refine ei ?_;intro w4 V;have⟨w0,p,e4,hp,bm,a8,b6⟩:=V.done (.inr ⟨rfl,rfl⟩) (.inl (.inr ⟨rfl,rfl⟩));obtain⟨dp,b7⟩:=d6.o _ _ a8 b6;have ac:=(bm.block _ ak).trans co.o;have⟨j0,j1,j2⟩:=ic (u:=p) (v:=nL) ac;rw[<-e4] at j0 j1 j2;obtain⟨ea,ec,ee⟩:=hp.shape;subst ee;obtain⟨y0,y1,-,-⟩:=ag j0;have b4:=aa.o
  have HE:Hid (cV w.1.size w4 (.agg #[.slice ea X.length ec,nL]) (X,[])/\dh w4.1.size w4 (.slice dk (E+T) dl) (L++M)/\bL w w4):=by
   refine⟨kS ((hp.keep j1 (by omega) j2).mono a5.o.size) (zD _ _),?_,?_⟩
   ·refine DS (L:=C.1.size) (xs:=D++ys) ?_ (dp.imp λ_ _ h=>(h.keep j1 ak j2).kept).toR;exact bT b7 λg cT hr hc=>j1 g (by omega)
   rw[e4];exact dS (a5.o.trans (bm.mono (by omega))) (by omega) _ _
  generalize X.length=n1 at*;clear V e4 bm a8 b6 dp b7 hp ac j0 j1 j2 q0 q1 a9 de;go_wp2_with fail;refine Ka (v:=.tuple #[.agg #[.slice ea n1 ec,nL],.slice dk (E+T) dl,U 0]) ?_ rfl ⟨_,_,rfl,by rw[a2.o.1];exact HE.o.1,by rw[a2.o.2];exact HE.o.2.1,HE.o.2.2⟩;rw[eY rfl];go_simp
 have hq:(DE != 0)=true:=by simpa using hE
 have HS:Hid (gE (s,t)=([],[])/\cK (s,t)=[]):=⟨by unfold gE;rw[iO (by rw[H.o];exact hE)],by unfold cK;rw[iO (by rw[H.o];exact hE)]⟩;have HF:Hid (∀x y,bL w ((C.setCell (pA (w.1.size+1) 0) x).setCell (pA (w.1.size+1) 1) y)):=λx y=>dS J (by omega) x y
 clear G0 G1 J hs ht hd H hB b8 bv bx O hE;go_wp2_with fail;refine Ka (v:=.tuple #[.agg #[nL,nL],nL,U DE]) ?_ rfl ⟨_,_,rfl,by rw[HS.o.1];exact eX _ _,by rw[HS.o.2];exact⟨none,0,rfl,Ke _,Ks _,λi b l=>by simp at l⟩,HF.o _ _⟩;rw[eY rfl];go_simp
end
