import Derived.Test.YtjdnfhkkkejcfaaGreatDoorWd06
set_option linter.all false
set_option maxRecDepth 100000
set_option maxHeartbeats 4000000
namespace Go.Proofs.YtjdnfhkkkejcfaaGreatDoor
open Go.RowKit Go.Maps Go.Proofs.Tryz
theorem pb:∀ (cs:List aN) (k:Nat) (c:aN),cs[k]?=some c->(dA cs).take (2*(k+1))=(dA cs).take (2*k)++[(1,c.1,0,0),ox c (2*((cs.length:Int)-k-1)+1)]
 |[],_,_,h=>by simp at h
 |d :: r,0,c,h=>by simp at h;subst h;rw[dA];simp
 |d :: r,k+1,c,h=>by
  have a:=pb r k c (by simpa using h);rw[dA,show 2*(k+1+1)=2*(k+1)+1+1 by omega,show 2*(k+1)=2*k+1+1 by omega,Mf,Mf,Mf,Mf,show 2*k+1+1=2*(k+1) by omega,a];have e:(2*((r.length:Int)-k-1)+1)=(2*(((d :: r).length:Int)-(k+1:Nat)-1)+1):=by simp;omega
  rw[e];rfl
theorem xA(cs):(dA cs).take (2*cs.length)=dA cs:=Ki (by rw[iM];omega)
theorem BQ(v w):
  cL 207 #[U v] w (rT w (.agg #[U 4,U v,U 0,U 0])):=by
 go_enter func207,ntmps207;go_wp2;refine Ka (v:=.agg #[U 4,U v,U 0,U 0]) ?_ rfl ⟨rfl,?_⟩
 ·rw[cN rfl];go_simp
 repeat(first|exact Kf _ _|refine Ky ?_ (by simp) _|refine Lc ?_ (by simp) _)
theorem Ih(f op v left w):
  cL 221 #[.agg #[U f,U op,U v],U left] w (rT w (J6 (ox (f,op,v) left))):=by
 by_cases a:op=1
 ·subst a;go_enter func221,ntmps221;go_wp2;refine Ka (v:=.agg #[U 2,U v,U 0,U left]) ?_ rfl ⟨rfl,?_⟩
  ·rw[cN rfl];go_simp
  repeat(first|exact Kf _ _|refine Ky ?_ (by simp) _|refine Lc ?_ (by simp) _)
 by_cases b:op=2
 ·subst b;clear a;go_enter func221,ntmps221;go_wp2;refine Ka (v:=.agg #[U 2,U v,U left,U 0]) ?_ rfl ⟨rfl,?_⟩
  ·rw[cN rfl];go_simp
  repeat(first|exact Kf _ _|refine Ky ?_ (by simp) _|refine Lc ?_ (by simp) _)
 by_cases c:op=3
 ·subst c;clear a b;go_enter func221,ntmps221;go_wp2;refine Ka (v:=.agg #[U 3,U v,U 0,U left]) ?_ rfl ⟨rfl,?_⟩
  ·rw[cN rfl];go_simp
  repeat(first|exact Kf _ _|refine Ky ?_ (by simp) _|refine Lc ?_ (by simp) _)
 have d:Hid (ox (f,op,v) left=(3,v,left,0)):=by unfold Hid ox;simp[a,b,c]
 have e:(op==1)=false:=by simpa using a
 have g:(op==2)=false:=by simpa using b
 have h:(op==3)=false:=by simpa using c
 clear a b c;go_enter func221,ntmps221;go_wp2;refine Ka (v:=.agg #[U 3,U v,U left,U 0]) ?_ rfl ⟨by rw[d.o];rfl,?_⟩
 ·rw[cN rfl];go_simp
 repeat(first|exact Kf _ _|refine Ky ?_ (by simp) _|refine Lc ?_ (by simp) _)
def Jb(c:Value)(m k:Nat)(v:Value):Prop:=if k=6 then v=c else if k=7 then ∃g,v=.slice (sO g) 2 2 else ∃a b,v=.slice a m b
theorem EV(c m k):∃v,Jb c m k v:=by
 unfold Jb
 split
 ·exact⟨_,rfl⟩
 split
 ·exact⟨_,0,rfl⟩
 exact⟨_,none,0,rfl⟩
theorem xy(B base:Nat)(lv cv:Value)(n:Nat)(xs:List Value)(r:aq)(w:World)(F:w.ownsRow base 112 4 lv n xs)(hc:bG B w cv r.1)(hB:B<=base)(g:base<=w.1.size)(hn:n<=1000000)(hl:r.1.length<=10):
  cL 206 #[lv,.agg #[cv,U r.2]] w λe j=>∃y,e=.returned y/\j.ownsRow base 112 4 y (n+(jt r).length) (xs++aJ (jt r))/\Below base w j/\fh 112 w j:=by
 obtain⟨ce,V,Y,a4,a5⟩:=rV;obtain⟨l,J⟩:=r;have HC:=Z λj (h:Below base w j)=>hc.l h hB
 obtain⟨a,a6,rfl,a7,ci,_⟩:=hc
 simp only[] at hl a7 |-
 have a8:=Z F;clear F;have⟨d,p⟩:=nM (l.length);have m:=Z p.symm
 rw[<-p] at hl a7 |-
 have ck:=ai;have b9:=Z (by rw[nO,p]:(jt (l,J)).length=2*d+1);clear p;have⟨W1,x⟩:=nM (w.alloc (.cells #[.slice a d a6,U J] 131));have q:=bA x;have ba:W1.1[w.1.size]?=some (.cells #[.slice a d a6,U J] 131 (0,0)):=by rw[x];exact(Kr w _).1
 have cl:=sA x;have aa:=Z (aw a8.o q);have Q:Hid (fh 112 w W1):=fh.of_below q;go_enter func206,ntmps206;go_wp2;rw[<-x];clear x;have bb:=Z (by simpa [aJ] using aa.o:W1.ownsRow base 112 4 lv (n+2*0) (xs++aJ ((dA l).take (2*0))));have bc:Below base w W1:=q.mono g;clear q aa a8;go_loopw [0,5,16] (λnv left iv wr=>∃k:Nat,k<=d/\iv=U k/\left=U (2*((d:Int)-k)+1)/\Hid (wr.ownsRow base 112 4 nv (n+2*k) (xs++aJ ((dA l).take (2*k))))/\Below base w wr/\Hid (fh 112 W1 wr)/\w.1.size<wr.1.size) (λ_ _ iv _=>d-(intOf iv).toNat)
 case atStart=>exact⟨0,by omega,rfl,by simp,bb,bc,fh.refl _ _,by omega⟩
 case round=>
  obtain⟨k,hk,rfl,rfl,ac,A,K,co⟩:=hrel;have⟨R,bf⟩:=nM (wr);subst bf;have i0:(0:Int)<=(k:Int):=by omega
  have G:=K.o _ _ _ _ ba (by decide);have L:=A.size
  by_cases cp:k<d
  ·have i1:(k:Int)<(d:Int):=by omega
   obtain⟨c,ad⟩:∃c,l[k]?=some c:=⟨l[k]'(by rw[m.o];omega),by simp⟩;obtain⟨_,_,e0,_,_,ae⟩:=HC.o _ A;have⟨b,o,e,cx,bg,bk,bm,_⟩:=ae k c ad;simp at e0;obtain⟨rfl,_,_⟩:=e0;subst e;clear ae;have Q:Hid ((dA l).take (2*(k+1))=(dA l).take (2*k)++[(1,c.1,0,0),ox c (2*((d:Int)-k-1)+1)]):=by have:=pb l k c ad;rw[m.o] at this;exact this
   obtain⟨f,S,v⟩:=c;simp only[] at bg bk bm Q;have⟨T,C⟩:=nM (R.alloc (.cells #[U f,U S,U v] 134));have t:=bA C;have u:=hA C;have bo:=Z (aw ac.o t);have cT:=t.size;have i:base<=T.1.size:=by omega
   have bp:=Z (Below.tO A t (Kl g L));have bq:=Z (K.o.trans (fh.of_below t));obtain⟨H,M⟩:∃H:Int,H=2*((d:Int)-k-1)+1:=⟨_,rfl⟩;have af:2*((d:Int)-k)+1-2=H:=by omega
   have d0:IntKind.i64.wrap (2*((d:Int)-k)+1-2)=H:=by rw[af];exact KA _ (by omega)
   rw[<-M] at Q;have al:=Z M;clear M;have⟨ak,N⟩:=nM (ox (f,S,v) H);rw[<-N] at Q;have ao:Hid (∀j,cL 221 #[.agg #[U f,U S,U v],U H] j (rT j (J6 ak))):=λj=>by rw[N];exact Ih f S v H j
   clear N;obtain⟨a0,a1,a2,a3⟩:=ak;go_wp2;rw[<-C];clear C;have b3:=Ax.ne 112 T;have q0:∀z:Ax 112 T,z.1.cell? (pA R.1.size 0)=some (U f):=λz=>z.cell u (by decide) (J0 u)
   have q1:∀z:Ax 112 T,z.1.cell? (pA R.1.size 1)=some (U S):=λz=>z.cell u (by decide) (J1 u)
   have q2:∀z:Ax 112 T,z.1.cell? (pA R.1.size 2)=some (U v):=λz=>z.cell u (by decide) (J2 u)
   refine bJ [_,_,_,_,_,_,_,_,_] _ rfl (λk=>k==6||k==7||k==8) (lA 112 4 base T u0 (n+2*k) 2 (xs++aJ ((dA l).take (2*k))) (aJ [(1,f,0,0),(a0,a1,a2,a3)]) 7 8) (Jb (J6 (a0,a1,a2,a3)) (n+2*k+2)) (EV _ _) (by kernel_rfl) (by kernel_rfl) (lA.start bo.o) ?_;iterate 6(refine aP lA.seen rfl rfl ?_;go_big_quiet_step (fail);refine Km ?_)
   refine bw 221 #[.agg #[U f,U S,U v],U H] rfl rfl (λj=>by kernel_rfl) (λgs j I s D=>?_) (λv6 b4=>?_)
   ·refine(ao.o j).mono ?_;rintro e b5 ⟨rfl,hb⟩;exact⟨_,rfl,rfl,I.call i hb 6 _ (by decide) (by decide)⟩
   have e6:v6=.agg #[U a0,U a1,U a2,U a3]:=b4;clear b4;subst e6;go_frame;refine cz rfl rfl (λgs j I s D=>⟨.slice (sO j.1.size) 2 2,j.alloc (.cells (aJ [(1,f,0,0),(a0,a1,a2,a3)]).toArray 112),?_,⟨_,rfl⟩,I.lit i (by decide) _⟩) (λv7 d5=>?_)
   ·show _=Result.ok _ (j.alloc (.cells #[U 1,U f,U 0,U 0,U a0,U a1,U a2,U a3] 112));clear I s D q0 q1 q2 b3;go_simp
   go_frame;refine cz rfl rfl (λgs j I s D=>?_) (λv8 d6=>?_)
   ·obtain⟨y,b5,r1,r2,r3⟩:=I.app Tryz.underlying77 V Y a4 a5 rfl (by decide) i rfl (iA _) (by omega) (by omega) 77 v7 (s 7 _ (.inr ⟨rfl,rfl⟩) (au (by kernel_rfl))) D;refine⟨y,b5,?_,r2,r3⟩;unfold execOp;simp only[resolve,invoke,builtin,Lj,My,LW,M4,Lt,Mz];exact(congrArg (λr=>Result.andThen r λv w=>.ok (Next.value v) w) r1)
   go_frame;refine ei ?_;intro w4 I;obtain⟨j1,j2,_,j4⟩:=I;have bx:Hid (w4.ownsRow base 112 4 v8 (n+2*(k+1)) (xs++aJ ((dA l).take (2*(k+1))))):=by unfold Hid;have:=j4 v8 (.inr ⟨rfl,rfl⟩);rw[Q.o,dM,<-KI];exact this
   have bz:Below base w w4:=bp.o.trans j1;have bF:=Z (bq.o.trans j2);have da:=j1.size;clear j1 j2 j4 q0 q1 q2 b3;go_wp2;exact⟨⟨k+1,by omega,by go_num,by rw[al.o];go_num,bx,bz,bF,by omega⟩,by simp[intOf];omega⟩
  obtain rfl:k=d:=by omega
  have t1:=J1 G
  have c0:Hid (∀W X,X=W.alloc (.cells #[U 4,U J,U 0,U 0] 112)->bL R W->∃y O,(Builtin.append_ #[77,77] 77 #[u0,.slice (sO W.1.size) 1 1]).run prog X=.ok y O/\Hid (O.ownsRow base 112 4 y (n+(jt (l,J)).length) (xs++aJ (jt (l,J))))/\Below base w O/\fh 112 w O):=by
   intro W X hX hW;have E:bL R X:=by rw[hX];exact hW.alloc hW.size _
   have hg:=hA hX;obtain⟨y,O,r1,r2,r3,r4⟩:=uM (P:=prog) Tryz.underlying77 V Y a4 a5 rfl (by decide) base 77 u0 (n+2*k) 1 W.1.size _ (aJ [(4,J,0,0)]) X (aw ac.o E) hg rfl (iA _) (by omega) (by omega) (E.u (Kl g L)) 1;refine⟨y,O,r1,?_,(Below.tO A E (Kl g L)).trans r3,((Q.o.trans K.o).trans (fh.of_below E)).trans r4⟩;unfold Hid;have e:(dA l).take (2*k)=dA l:=by rw[<-m.o];exact xA l
   rw[e,KI,<-dM] at r2;rw[b9.o];exact r2
  clear G;go_wp2_with (first|(go_at_call 207;go_must (refine(BQ _ _).mono ?_;rintro e w2 ⟨rfl,t⟩))|(at_builtin;go_must (obtain⟨y,O,hrun,q1,q2,q3⟩:=c0.o _ _ rfl t;refine Kw _ rfl _ _ _ _ rfl _ _ rfl rfl _ _ hrun ?_)));go_ret;exact⟨_,rfl,q1.o,q2,q3⟩
