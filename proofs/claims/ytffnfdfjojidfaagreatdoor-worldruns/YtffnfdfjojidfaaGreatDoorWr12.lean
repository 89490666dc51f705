import Derived.Test.YtffnfdfjojidfaaGreatDoorWr10
import Derived.Test.YtffnfdfjojidfaaGreatDoorWr11
set_option linter.all false
set_option maxRecDepth 100000
set_option maxHeartbeats 4000000
namespace Go.Proofs.YtffnfdfjojidfaaGreatDoor
open Go.RowKit Go.Maps Go.Proofs.Tryz
def gR(s:Bs):az × Int:=if 60000<s.length then (cu,2) else ch s
def lu(ps:List aD):Nat->Nat
 |0=>1
 |k+1=>lu ps k*(cw ps k).length
def mK(ps:List aD)(k:Nat):Nat:=(fz ((lI ps).drop k)).length
theorem tf(ps)(k:Nat)(a:k<5):(lI ps)[k]?=some (cw ps k):=by
 have:k=0\/k=1\/k=2\/k=3\/k=4:=by omega
 rcases this with rfl|rfl|rfl|rfl|rfl<;>rfl
theorem rz(ps)(k:Nat)(b:k<5):mK ps k=(cw ps k).length*mK ps (k+1):=by unfold mK;have h:=tf ps k b;have⟨a,e⟩:=K9.1 h;rw[KM a,e,kF]
theorem vB(ps):mK ps 5=1:=rfl
theorem zm(ps k):0<(cw ps k).length:=LY.2 (Bo ps k)
theorem yY(ps):∀m k:Nat,k+m=5->0<mK ps k
 |0,k,h=>by
  obtain rfl:k=5:=by omega
  exact Nat.one_pos
 |m+1,k,h=>by rw[rz ps k (by omega)];exact Nat.mul_pos (zm ps k) (yY ps m (k+1) (by omega))
theorem tm(ps):∀k,k<=5->lu ps k*mK ps k=(dG ps).length
 |0,_=>by show 1*mK ps 0=_;rw[Nat.one_mul];rfl
 |k+1,h=>by rw[<-tm ps k (by omega),rz ps k (by omega),lu,Nat.mul_assoc]
theorem E2(ps)(k:Nat)(a:k<=5):lu ps k<=(dG ps).length:=by rw[<-tm ps k a];exact Nat.le_mul_of_pos_right _ (yY ps (5-k) k (by omega))
theorem yV(ps):lu ps 5=(dG ps).length:=by rw[<-tm ps 5 (by omega),vB,Nat.mul_one]
def pt(ps:List aD)(i j:Nat):Int:=yH (cw ps j) (i / mK ps (j+1))
def Jn(ps:List aD)(i:Nat):List Int:=[pt ps i 0,pt ps i 1,pt ps i 2,pt ps i 3,pt ps i 4]
theorem Fs(ps)(i:Nat)(h:i<(dG ps).length):(dG ps)[i]?=some (Jn ps i):=by
 obtain⟨x,b,f,c⟩:=rY (lI ps) i (by
  intro L a;unfold lI at a;simp at a
  rcases a with rfl|rfl|rfl|rfl|rfl<;>exact Bo _ _) h
 have e:x=Jn ps i:=by
  refine LD λk=>?_
  by_cases d:k<5
  ·rw[c k _ (tf ps k d)];have:k=0\/k=1\/k=2\/k=3\/k=4:=by omega
   rcases this with rfl|rfl|rfl|rfl|rfl<;>rfl
  have g:(lI ps).length=5:=rfl;rw[KP (by omega),KP (by simp[Jn];omega)]
 rw[<-e];exact b
def cj(l:List (List Int)):List Value:=l.flatMap λx=>x.map (.int .i64)
theorem mP(l m:List (List Int)):cj (l++m)=cj l++cj m:=by unfold cj;exact Mg
def Jb(c:Value)(m k:Nat)(v:Value):Prop:=if k=6 then v=c else if k=7 then ∃g,v=.slice (sO g) 2 2 else ∃a b,v=.slice a m b
theorem EV(c m k):∃v,Jb c m k v:=by
 unfold Jb
 split
 ·exact⟨_,rfl⟩
 split
 ·exact⟨_,0,rfl⟩
 exact⟨_,none,0,rfl⟩
theorem xy(B base:Nat)(lv cv:Value)(n:Nat)(xs:List Value)(r:aq)(w:World)(G:w.ownsRow base 113 4 lv n xs)(hc:bG B w cv r.1)(hB:B<=base)(i:base<=w.1.size)(hn:n<=1000000)(hl:r.1.length<=10):
  cL 207 #[lv,.agg #[cv,U r.2]] w λe g=>∃y,e=.returned y/\g.ownsRow base 113 4 y (n+(jt r).length) (xs++aJ (jt r))/\Below base w g/\fh 113 w g:=by
 obtain⟨ce,Y,a4,a5,a6⟩:=rV;obtain⟨l,L⟩:=r;have HC:Hid (∀g,Below base w g->bG B g cv l):=λg h=>hc.l h hB
 obtain⟨a,a7,rfl,a8,ci,_⟩:=hc
 simp only[] at hl a8 |-
 have a9:=Z G;clear G;have⟨d,p⟩:=nM (l.length);have m:=Z p.symm
 rw[<-p] at hl a8 |-
 have ck:=ai;have b9:Hid ((jt (l,L)).length=2*d+1):=by unfold Hid;rw[nO,p]
 clear p;have⟨H,x⟩:=nM (w.alloc (.cells #[.slice a d a7,U L] 133));have q:=bA x;have ba:H.1[w.1.size]?=some (.cells #[.slice a d a7,U L] 133 (0,0)):=by rw[x];exact(Kr w _).1
 have cl:=sA x;have aa:Hid (H.ownsRow base 113 4 lv n xs):=aw a9.o q;have S:Hid (fh 113 w H):=fh.of_below q;go_enter func207,ntmps207;go_wp2;rw[<-x];clear x;have bb:Hid (H.ownsRow base 113 4 lv (n+2*0) (xs++aJ ((dA l).take (2*0)))):=by unfold Hid;simpa [aJ] using aa.o
 have bc:Below base w H:=q.mono i;clear q aa a9;go_loopw [0,5,16] (λnv left iv wr=>∃k:Nat,k<=d/\iv=U k/\left=U (2*((d:Int)-k)+1)/\Hid (wr.ownsRow base 113 4 nv (n+2*k) (xs++aJ ((dA l).take (2*k))))/\Below base w wr/\Hid (fh 113 H wr)/\w.1.size<wr.1.size) (λ_ _ iv _=>d-(intOf iv).toNat)
 case atStart=>exact⟨0,by omega,rfl,by simp,bb,bc,fh.refl _ _,by omega⟩
 case round=>
  obtain⟨k,hk,rfl,rfl,ac,A,M,co⟩:=hrel;have⟨T,bf⟩:=nM (wr);subst bf;have i0:(0:Int)<=(k:Int):=by omega
  have I:=M.o _ _ _ _ ba (by decide);have N:=A.size
  by_cases cp:k<d
  ·have i1:(k:Int)<(d:Int):=by omega
   obtain⟨c,ad⟩:∃c,l[k]?=some c:=⟨l[k]'(by rw[m.o];omega),by simp⟩;obtain⟨_,_,e0,_,_,ae⟩:=HC.o _ A;have⟨b,o,e,cx,bg,bk,bm,_⟩:=ae k c ad;simp at e0;obtain⟨rfl,_,_⟩:=e0;subst e;clear ae;have S:Hid ((dA l).take (2*(k+1))=(dA l).take (2*k)++[(1,c.1,0,0),ox c (2*((d:Int)-k-1)+1)]):=by have:=pb l k c ad;rw[m.o] at this;exact this
   obtain⟨f,V,v⟩:=c;simp only[] at bg bk bm S;have⟨C,D⟩:=nM (T.alloc (.cells #[U f,U V,U v] 136));have t:=bA D;have u:=hA D;have bo:Hid (C.ownsRow base 113 4 u0 (n+2*k) (xs++aJ ((dA l).take (2*k)))):=aw ac.o t;have cT:=t.size;have j:base<=C.1.size:=by omega
   have bp:Hid (Below base w C):=Below.tO A t (Kl i N);have bq:Hid (fh 113 H C):=M.o.trans (fh.of_below t);obtain⟨J,O⟩:∃J:Int,J=2*((d:Int)-k-1)+1:=⟨_,rfl⟩;have af:2*((d:Int)-k)+1-2=J:=by omega
   have d0:IntKind.i64.wrap (2*((d:Int)-k)+1-2)=J:=by rw[af];exact KA _ (by omega)
   rw[<-O] at S;have al:=Z O;clear O;have⟨ak,Q⟩:=nM (ox (f,V,v) J);rw[<-Q] at S;have ao:Hid (∀g,cL 222 #[.agg #[U f,U V,U v],U J] g (rT g (J6 ak))):=λg=>by rw[Q];exact Ih f V v J g
   clear Q;obtain⟨a0,a1,a2,a3⟩:=ak;go_wp2;rw[<-D];clear D;have b3:=Ax.ne 113 C;have q0:∀z:Ax 113 C,z.1.cell? (pA T.1.size 0)=some (U f):=λz=>z.cell u (by decide) (J0 u)
   have q1:∀z:Ax 113 C,z.1.cell? (pA T.1.size 1)=some (U V):=λz=>z.cell u (by decide) (J1 u)
   have q2:∀z:Ax 113 C,z.1.cell? (pA T.1.size 2)=some (U v):=λz=>z.cell u (by decide) (J2 u)
   refine bJ [_,_,_,_,_,_,_,_,_] _ rfl (λk=>k==6||k==7||k==8) (lA 113 4 base C u0 (n+2*k) 2 (xs++aJ ((dA l).take (2*k))) (aJ [(1,f,0,0),(a0,a1,a2,a3)]) 7 8) (Jb (J6 (a0,a1,a2,a3)) (n+2*k+2)) (EV _ _) (by kernel_rfl) (by kernel_rfl) (lA.start bo.o) ?_;iterate 6(refine aP lA.seen rfl rfl ?_;go_big_quiet_step (fail);refine Km ?_)
   refine bw 222 #[.agg #[U f,U V,U v],U J] rfl rfl (λg=>by kernel_rfl) (λgs g K s E=>?_) (λv6 b4=>?_)
   ·refine(ao.o g).mono ?_;rintro e b5 ⟨rfl,hb⟩;exact⟨_,rfl,rfl,K.call j hb 6 _ (by decide) (by decide)⟩
   have e6:v6=.agg #[U a0,U a1,U a2,U a3]:=b4;clear b4;subst e6;go_frame;refine cz rfl rfl (λgs g K s E=>⟨.slice (sO g.1.size) 2 2,g.alloc (.cells (aJ [(1,f,0,0),(a0,a1,a2,a3)]).toArray 113),?_,⟨_,rfl⟩,K.lit j (by decide) _⟩) (λv7 d5=>?_)
   ·show _=Result.ok _ (g.alloc (.cells #[U 1,U f,U 0,U 0,U a0,U a1,U a2,U a3] 113));clear K s E q0 q1 q2 b3;go_simp
   go_frame;refine cz rfl rfl (λgs g K s E=>?_) (λv8 d6=>?_)
   ·obtain⟨y,b5,r1,r2,r3⟩:=K.app Tryz.underlying78 Y a4 a5 a6 rfl (by decide) j rfl (iA _) (by omega) (by omega) 78 v7 (s 7 _ (.inr ⟨rfl,rfl⟩) (au (by kernel_rfl))) E;refine⟨y,b5,?_,r2,r3⟩;unfold execOp;simp only[resolve,invoke,builtin,Lj,My,LW,M4,Lt,Mz];exact(congrArg (λr=>Result.andThen r λv w=>.ok (Next.value v) w) r1)
   go_frame;refine ei ?_;intro w4 K;obtain⟨j1,j2,_,j4⟩:=K;have bz:Hid (w4.ownsRow base 113 4 v8 (n+2*(k+1)) (xs++aJ ((dA l).take (2*(k+1))))):=by unfold Hid;have:=j4 v8 (.inr ⟨rfl,rfl⟩);rw[S.o,dM,<-KI];exact this
   have bF:Below base w w4:=bp.o.trans j1;have c0:Hid (fh 113 H w4):=bq.o.trans j2;have da:=j1.size;clear j1 j2 j4 q0 q1 q2 b3;go_wp2;exact⟨⟨k+1,by omega,by go_num,by rw[al.o];go_num,bz,bF,c0,by omega⟩,by simp[intOf];omega⟩
  obtain rfl:k=d:=by omega
  have t1:=J1 I
  have c1:Hid (∀W X,X=W.alloc (.cells #[U 4,U L,U 0,U 0] 113)->bL T W->∃y R,(Builtin.append_ #[78,78] 78 #[u0,.slice (sO W.1.size) 1 1]).run prog X=.ok y R/\Hid (R.ownsRow base 113 4 y (n+(jt (l,L)).length) (xs++aJ (jt (l,L))))/\Below base w R/\fh 113 w R):=by
   intro W X hX hW;have F:bL T X:=by rw[hX];exact hW.alloc hW.size _
   have hg:=hA hX;obtain⟨y,R,r1,r2,r3,r4⟩:=uM (P:=prog) Tryz.underlying78 Y a4 a5 a6 rfl (by decide) base 78 u0 (n+2*k) 1 W.1.size _ (aJ [(4,L,0,0)]) X (aw ac.o F) hg rfl (iA _) (by omega) (by omega) (F.u (Kl i N)) 1;refine⟨y,R,r1,?_,(Below.tO A F (Kl i N)).trans r3,((S.o.trans M.o).trans (fh.of_below F)).trans r4⟩;unfold Hid;have e:(dA l).take (2*k)=dA l:=by rw[<-m.o];exact xA l
   rw[e,KI,<-dM] at r2;rw[b9.o];exact r2
  clear I;go_wp2_with (first|(go_at_call 208;go_must (refine(BQ _ _).mono ?_;rintro e w2 ⟨rfl,t⟩))|(at_builtin;go_must (obtain⟨y,R,hrun,q1,q2,q3⟩:=c1.o _ _ rfl t;refine Kw _ rfl _ _ _ _ rfl _ _ rfl rfl _ _ hrun ?_)));go_ret;exact⟨_,rfl,q1.o,q2,q3⟩
theorem tK(a:List aq)(k:Nat)(r:aq)(h:a[k]?=some r):dV (a.take (k+1))=dV (a.take k)++jt r:=by rw[KN,h];simp[dV]
theorem yy:∀ (cs:List aN),cs.length<=10->(∀c∈cs,bS c=0)->∀i∈dA cs,gH i
 |[],_,_,i,h=>by simp[dA] at h
 |c :: r,b,a,i,h=>by
  obtain⟨g,j,k⟩:=ft (a c (by simp));have l:=nq c.1;have e:r.length+1<=10:=by simpa using b
  rw[dA] at h
  rcases Kz.1 h with rfl|h
  ·exact⟨cR (by simp only[];omega),cR (by simp only[];omega),cR (by simp only[];omega),cR (by simp only[];omega)⟩
  rcases Kz.1 h with rfl|h
  ·unfold ox
   split
   ·exact⟨cR (by simp only[];omega),cR (by simp only[];omega),cR (by simp only[];omega),cR (by simp only[];omega)⟩
   split
   ·exact⟨cR (by simp only[];omega),cR (by simp only[];omega),cR (by simp only[];omega),cR (by simp only[];omega)⟩
   split
   ·exact⟨cR (by simp only[];omega),cR (by simp only[];omega),cR (by simp only[];omega),cR (by simp only[];omega)⟩
   exact⟨cR (by simp only[];omega),cR (by simp only[];omega),cR (by simp only[];omega),cR (by simp only[];omega)⟩
  exact yy r (by omega) (λd f=>a d (by simp[f])) i h
theorem Ec{v:Int}(h:cA v=true):gH (4,v,0,0):=by have:=jk h;exact⟨cR (by simp only[];omega),cR (by simp only[];omega),cR (by simp only[];omega),cR (by simp only[];omega)⟩
theorem E6{p:aD}(h:aj p=0):∀i∈cm p,gH i:=by
 have⟨_,c,d⟩:=cY h;intro i a;unfold cm at a
 rcases KB.1 a with a|a
 ·unfold dV at a;have⟨r,b,a⟩:=Ll.1 a;have⟨e,f,g⟩:=dy (cM d r b);unfold jt at a
  rcases KB.1 a with a|a
  ·exact yy r.1 e (fy g) i a
  rw[KO] at a;subst a;exact Ec f
 rw[KO] at a;subst a;exact Ec c
theorem qG:∀ (a:List aq),(∀r∈a,bH r=0)->(dV a).length<=a.length*21
 |[],_=>by simp[dV]
 |r :: s,h=>by
  obtain⟨c,_,_⟩:=dy (h r (by simp));have:=qG s λd b=>h d (by simp[b])
  rw[oC,Kj,nO,Kv];omega
section
theorem Ah(a b w):
  cL 236 #[.agg #[U a,U b]] w (rT w (U (mG true a b))):=by
 by_cases c:a<b
 ·have d:Hid (mG true a b=a):=by unfold Hid mG;rw[Io c]
  go_enter func236,ntmps236;go_wp2;go_ret;exact⟨by rw[d.o];rfl,bR.alloc lE _⟩
 have d:Hid (mG true a b=4):=by unfold Hid mG;rw[iO c];rfl
 go_enter func236,ntmps236;go_wp2;go_ret;exact⟨by rw[d.o];rfl,bR.alloc lE _⟩
structure tI (L:Nat) (W:World) (v:Value) (n:Nat) (xs:List Value) (rc sc:Value) (N:Nat) (cc:List Value) (vd:Int) (fs:Nat->Value->Prop) (w:World):Prop where
 grown:W.grownBy w v.ownBlock
 lits:∀u,fs 5 u->∃g T0 fr,u=.slice (sO g) 2 2/\W.1.size<=g/\w.1[g]?=some (.cells #[rc,sc] T0 fr)
 one:∀u u',fs 6 u->fs 6 u'->u=u'
 join:∀u,fs 6 u->w.ownsRow W.1.size 136 3 u N cc
 build:∀u,fs 14 u->∃u7,fs 6 u7/\u=.agg #[u7,U vd]
 made:∀u,fs 15 u->∃g T0 fr u7,u=.slice (sO g) 1 1/\W.1.size<=g/\fs 6 u7/\w.1[g]?=some (.cells #[u7,U vd] T0 fr)
 row:(∀u,¬fs 16 u)->w.ownsRow L 133 2 v n xs
 app:∀u,fs 16 u->∃u7,fs 6 u7/\w.ownsRow L 133 2 u (n+1) (xs++[u7,U vd])/\(u.ownBlock=v.ownBlock\/∃k,u.ownBlock=some k/\W.1.size<=k)
section
variable {L:Nat} {W w w':World} {v:Value} {n:Nat} {xs:List Value} {rc sc:Value} {N:Nat} {cc:List Value} {vd:Int} {fs:Nat->Value->Prop}
theorem tI.start(h:W.ownsRow L 133 2 v n xs):tI L W v n xs rc sc N cc vd (λ_ _=>False) W.drew:=
 ⟨⟨rfl,rfl,rfl,Ke _,λ_ _ _=>rfl⟩,λ_ h=>h.elim,λ_ _ h=>h.elim,λ_ h=>h.elim,λ_ h=>h.elim,λ_ h=>h.elim,λ_=>h,λ_ h=>h.elim⟩
theorem tI.l(h:tI L W v n xs rc sc N cc vd fs w)(b:bL w w'):tI L W v n xs rc sc N cc vd fs w':=by
 refine⟨Li h.grown (tW b v.ownBlock) λj m=>.inr m,λu a=>?_,h.one,λu a=>aw (h.join u a) b,h.build,λu a=>?_,λo=>aw (h.row o) b,λu a=>?_⟩
 ·have⟨g,f,i,d,e,c⟩:=h.lits u a;exact⟨g,f,i,d,e,(b.block g (io c)).trans c⟩
 ·have⟨g,f,i,k,d,e,c,l⟩:=h.made u a;exact⟨g,f,i,k,d,e,c,(b.block g (io l)).trans l⟩
 have⟨k,d,e,c⟩:=h.app u a;exact⟨k,d,aw e b,c⟩
theorem tI.other(h:tI L W v n xs rc sc N cc vd fs w)(k:Nat)(u)(m:5≠k)(e:6≠k)(f:14≠k)(i:15≠k)(j:16≠k):tI L W v n xs rc sc N cc vd (d9 fs k u) w:=by
 refine⟨h.grown,λu a=>h.lits u (aC m a),λu o a l=>h.one u o (aC e a) (aC e l),λu a=>h.join u (aC e a),λu a=>?_,λu a=>?_,λp=>h.row λu a=>p u (.inl a),λu a=>?_⟩
 ·have⟨b,c,d⟩:=h.build u (aC f a);exact⟨b,.inl c,d⟩
 ·have⟨g,q,r,b,c,d,s,t⟩:=h.made u (aC i a);exact⟨g,q,r,b,c,d,.inl s,t⟩
 have⟨b,c,d⟩:=h.app u (aC j a);exact⟨b,.inl c,d⟩
theorem tI.lists(h:tI L W v n xs rc sc N cc vd fs w)(b):tI L W v n xs rc sc N cc vd (d9 fs 5 (.slice (sO w.1.size) 2 2)) (w.alloc (.cells #[rc,sc] b)):=by
 have f:=h.grown.size;have h:=h.l ((Kf w.1.size w).alloc lE (.cells #[rc,sc] b));refine⟨h.grown,λu a=>?_,λu j a i=>h.one u j (aC (by decide) a) (aC (by decide) i),λu a=>h.join u (aC (by decide) a),λu a=>?_,λu a=>?_,λk=>h.row λu a=>k u (.inl a),λu a=>?_⟩
 ·rcases a with a|⟨_,rfl⟩
  ·exact h.lits u a
  exact⟨w.1.size,b,(0,0),rfl,f,ah _ _⟩
 ·obtain⟨c,d,e⟩:=h.build u (aC (by decide) a);exact⟨c,.inl d,e⟩
 ·obtain⟨g,b,l,c,d,e,m,o⟩:=h.made u (aC (by decide) a);exact⟨g,b,l,c,d,e,.inl m,o⟩
 obtain⟨c,d,e⟩:=h.app u (aC (by decide) a);exact⟨c,.inl d,e⟩
theorem tI.joined(h:tI L W v n xs rc sc N cc vd fs w)(b:∀u,¬fs 6 u)(j:bL w w')(u:Value)(k:w'.ownsRow w.1.size 136 3 u N cc):tI L W v n xs rc sc N cc vd (d9 fs 6 u) w':=by
 have f:=h.grown.size;have h:=h.l j;refine⟨h.grown,λu a=>h.lits u (aC (by decide) a),λi l a c=>?_,λi a=>?_,λu a=>?_,λu a=>?_,λm=>h.row λu a=>m u (.inl a),λu a=>?_⟩
 ·rcases a with a|⟨_,rfl⟩
  ·exact absurd a (b i)
  rcases c with c|⟨_,rfl⟩
  ·exact absurd c (b l)
  rfl
 ·rcases a with a|⟨_,rfl⟩
  ·exact absurd a (b i)
  exact cU k f
 ·obtain⟨d,e,_⟩:=h.build u (aC (by decide) a);exact absurd e (b d)
 ·obtain⟨g,q,r,d,e,o,p,s⟩:=h.made u (aC (by decide) a);exact absurd p (b d)
 obtain⟨d,e,o⟩:=h.app u (aC (by decide) a);exact absurd e (b d)
theorem tI.built(h:tI L W v n xs rc sc N cc vd fs w)(d:Value)(e:fs 6 d):tI L W v n xs rc sc N cc vd (d9 fs 14 (.agg #[d,U vd])) w:=by
 refine⟨h.grown,λu a=>h.lits u (aC (by decide) a),λu i a f=>h.one u i (aC (by decide) a) (aC (by decide) f),λu a=>h.join u (aC (by decide) a),λu a=>?_,λu a=>?_,λj=>h.row λu a=>j u (.inl a),λu a=>?_⟩
 ·rcases a with a|⟨_,rfl⟩
  ·have⟨y,b,c⟩:=h.build u a;exact⟨y,.inl b,c⟩
  exact⟨d,.inl e,rfl⟩
 ·obtain⟨g,k,l,y,b,c,m,o⟩:=h.made u (aC (by decide) a);exact⟨g,k,l,y,b,c,.inl m,o⟩
 obtain⟨y,b,c⟩:=h.app u (aC (by decide) a);exact⟨y,.inl b,c⟩
theorem tI.rule(h:tI L W v n xs rc sc N cc vd fs w)(e:∀u,¬fs 15 u)(b:Value)(a:fs 14 (.agg #[b,U vd]))(T0):tI L W v n xs rc sc N cc vd (d9 fs 15 (.slice (sO w.1.size) 1 1)) (w.alloc (.cells #[b,U vd] T0)):=by
 have f:=h.grown.size
 have g:fs 6 b:=by
  obtain⟨y,c,d⟩:=h.build _ a;have:b=y:=by simpa using d
  rw[this];exact c
 have h:=h.l ((Kf w.1.size w).alloc lE (.cells #[b,U vd] T0));refine⟨h.grown,λu a=>h.lits u (aC (by decide) a),λu j a i=>h.one u j (aC (by decide) a) (aC (by decide) i),λu a=>h.join u (aC (by decide) a),λu a=>?_,λu a=>?_,λk=>h.row λu a=>k u (.inl a),λu a=>?_⟩
 ·obtain⟨y,c,d⟩:=h.build u (aC (by decide) a);exact⟨y,.inl c,d⟩
 ·rcases a with a|⟨_,rfl⟩
  ·exact absurd a (e u)
  exact⟨w.1.size,T0,(0,0),b,rfl,f,.inl g,ah _ _⟩
 obtain⟨y,c,d⟩:=h.app u (aC (by decide) a);exact⟨y,.inl c,d⟩
theorem tI.append(h:tI L W v n xs rc sc N cc vd fs w)(q:∀u,¬fs 16 u)(D:∀k,v.ownBlock=some k->k<W.1.size)(hL:L<=W.1.size)(c:Value)(r:fs 15 c)(T:n<=100000)(V:TypeId):
  ∃o w',(Builtin.append_ #[28,28] V #[v,c]).run prog w=.ok o w'/\(∃a s,o=.slice a (n+1) s)/\tI L W v n xs rc sc N cc vd (d9 fs 16 o) w':=by
 have a3:=ai;obtain⟨g,T0,fr,C,rfl,hg,t,E⟩:=h.made c r;have z:=h.row q;have F:C.oneCell'=true:=by obtain⟨a,s,rfl,_⟩:=an (h.join C t);rfl
 obtain⟨G,H,I,J,K⟩:∃i,prog.info? 133=some i/\i.zero=some (.agg #[nL,U 0])/\i.size=2/\i.bytes=32:=jL (by kernel_rfl);obtain⟨o,w',r1,X,Y,_,r5⟩:=Mt (P:=prog) w L 28 V 133 G _ 2 32 Tryz.underlying28 H I J K rfl (by decide) v n xs z (pA g 0) 1 1 [C,U vd] rfl (λj u M=>by rw[eM,Kp];exact ab E j (by simpa using M)) (by intro u b;simp at b;rcases b with rfl|rfl;exact F;rfl) (by omega) (by omega) (Kl hL h.grown.size);have d:∀p,W.1.size<=p->∀ {x},w.1[p]?=some x->w'.1[p]?=some x:=λp a6 x hx=>by refine(Y.block p (KK.1 hx).1 λe=>?_).trans hx;have:=D p e.symm;omega
 have⟨a',A,e',_⟩:=an X;refine⟨o,w',r1,⟨a',A,e'⟩,Li h.grown Y λj M=>.inr M,λu b=>?_,λu u' b O=>h.one u u' (aC (by decide) b) (aC (by decide) O),λu b=>?_,λu b=>?_,λu b=>?_,λT=>absurd (.inr ⟨rfl,rfl⟩) (T o),λu b=>?_⟩
 ·obtain⟨f,Q,l,B,m,R⟩:=h.lits u (aC (by decide) b);exact⟨f,Q,l,B,m,d f m R⟩
 ·exact bT (h.join u (aC (by decide) b)) λf aa S hc=>(d f S hc).trans hc.symm
 ·obtain⟨y,B,m⟩:=h.build u (aC (by decide) b);exact⟨y,.inl B,m⟩
 ·obtain⟨f,Q,l,y7,B,m,R,e4⟩:=h.made u (aC (by decide) b);exact⟨f,Q,l,y7,B,m,.inl R,d f m e4⟩
 rcases b with b|⟨_,rfl⟩
 ·exact absurd b (q u)
 refine⟨C,.inl t,X,?_⟩
 rcases r5 with e|e
 ·exact .inl e
 exact .inr ⟨_,e,h.grown.size⟩
end
def JU(N n:Nat)(vd:Int)(k:Nat)(v:Value):Prop:=if k=5 then ∃g:Nat,v=.slice (sO g) 2 2 else if k=6 then ∃a b,v=.slice a N b else if k=13 then v=U vd else if k=14 then ∃a b,v=.agg #[.slice a N b,U vd] else if k=15 then ∃g:Nat,v=.slice (sO g) 1 1 else if k=16 then ∃a b,v=.slice a (n+1) b else True
theorem GN(N n vd k):∃v,JU N n vd k v:=by
 unfold JU
 split
 ·exact⟨_,0,rfl⟩
 split
 ·exact⟨_,none,0,rfl⟩
 split
 ·exact⟨_,rfl⟩
 split
 ·exact⟨_,none,0,rfl⟩
 split
 ·exact⟨_,0,rfl⟩
 split
 ·exact⟨_,none,0,rfl⟩
 exact⟨undef,trivial⟩
end
