import Derived.Test.YtffnfdfjojidfaaGreatDoorWr39
set_option linter.all false
set_option maxRecDepth 100000
set_option maxHeartbeats 8000000
namespace Go.Proofs.YtffnfdfjojidfaaGreatDoor
open Go.RowKit Go.Maps Go.Proofs.Tryz
section
open Go.ChangeShapes Go.WideShapes Go.ChangeAt Go.Deep
theorem Dd{H:Type}{q:TypeId × Value->H}{W:World}{base:Nat}{G:Nat->Bool}{j:Bool}{k:Nat}{cv:Value}{x:DataW H × List MemPlace}(h:DataW.trod q prog W base G j k 23 [cv]=some x):∃I,aI W.1.size W cv I:=by
 rcases open_slice Tryz.underlying23 h with ⟨l,_⟩|⟨a,e,r,m,n,D,V,l,_,X,J,s,_,t⟩
 ·simp at l;subst l;exact⟨[],none,0,rfl,Ke _,Ks _,λi c u=>by simp at u⟩
 simp at l;subst l;have K:prog.cellsOf 5=1:=by kernel_rfl
 rw[K] at t;have L:e<=m:=by rw[s];split<;>omega
 have o:∀i,i<e->∃c:UInt8,a=⟨a.block,a.off,none⟩/\a.block<W.1.size/\W.cell? ⟨a.block,a.off+i,none⟩=some (.int .u8 (c.toNat:Int)):=by
  intro i Y
  have w:W.cell? (a.add 0)≠none:=by
   obtain⟨g,y,_⟩:=t 0 (by omega);have⟨_,d,b⟩:=Lh y;have:=b 0 (by omega);rw[add_add] at this;simp at this
   match g,d with
   |[M],_=>simp at this |-;rw[this];simp
  have⟨v,N⟩:=Lp.1 w;have⟨p,z⟩:=iX N;obtain⟨g,y,O⟩:=t i (by omega);have⟨_,d,b⟩:=Lh y
  match g,d with
  |[M],_=>
   have⟨A,F,_,P⟩:=KV Tryz.underlying5 O;simp at F;subst F;have B:=b 0 (by omega);rw[add_add,p,eM] at B;simp at B
   have hw:0<=A/\A<256:=by
    have Q:IntKind.u8.min=0:=by decide
    have R:IntKind.u8.max=255:=by decide
    simp only[Lit.wf,KU,L9,Q,R] at P;omega
   refine⟨UInt8.ofNat A.toNat,p,z,?_⟩;rw[B];congr 2;rw[UInt8.toNat_ofNat'];omega
 obtain⟨S,C,E⟩:=iU _ e o;refine⟨S,some a,r,by rw[C],by omega,J,λi f T=>?_⟩;have⟨p,z,u⟩:=E i f T;exact⟨a.block,a.off,by rw[<-p],z,u⟩
theorem tZ{H:Type}{f:TypeId × Value->H}{W:World}{base:Nat}{o:Nat->Bool}{a:Bool}{b:Nat}{cv:Value}{x:DataW H × List MemPlace}(h:DataW.trod f prog W base o a b 23 [cv]=some x)(i:∀n∈x.1.weights prog 23,n<=140737488351232):∃d,aI W.1.size W cv d/\d.length<=140737488351232:=by
 have⟨d,c⟩:=Dd h;refine⟨d,c,?_⟩;obtain⟨r,j,e,_⟩:=c;subst e
 rcases open_slice Tryz.underlying23 h with ⟨g,_⟩|⟨s,k,l,m,n,D,t,g,_,_,_,_,p,_⟩
 ·simp at g;omega
 simp at g;rw[p] at i;have q:prog.bytesOf 5=1:=by kernel_rfl
 have:=i _ (by simp only[DataW.weights,Tryz.underlying23];exact List.mem_cons_self);rw[q] at this;simp at this;omega
end
section
open Go.ChangeShapes Go.WideShapes Go.ChangeAt Go.Deep
theorem CG{H:Type}{t:TypeId × Value->H}{W:World}{base:Nat}{sp:Nat->Bool}{j:Bool}{l:Nat}{cv:Value}{x:DataW H × List MemPlace}(h:DataW.trod t prog W base sp j l 50 [cv]=some x):∃u,dh W.1.size W cv u:=by
 rcases open_slice Tryz.underlying50 h with ⟨o,_⟩|⟨a,f,w,m,n,D,Pl,o,_,hl,hm,y,_,z⟩
 ·simp at o;subst o;exact⟨[],none,0,rfl,Ke _,Ks _,λi c A=>by simp at A⟩
 simp at o;subst o;have h5:prog.cellsOf 32=5:=by kernel_rfl
 have B:prog.cellsOf 30=2:=by kernel_rfl
 have C:prog.cellsOf 3=1:=by kernel_rfl
 rw[h5] at z;have a4:f<=m:=by rw[y];split<;>omega
 have p:∀i,i<f->∃r:az,a=⟨a.block,a.off,none⟩/\a.block<W.1.size/\vf W.1.size W a.block (a.off+i*5) r:=by
  intro i hi
  have E:W.cell? (a.add 0)≠none:=by
   obtain⟨g,F,_⟩:=z 0 (by omega);have⟨_,d,b⟩:=Lh F;have:=b 0 (by omega);rw[add_add] at this;simp at this
   match g,d with
   |[v0,v1,v2,G,v4],_=>simp at this |-;rw[this];simp
  have⟨v,hv⟩:=Lp.1 E;have⟨s,I⟩:=iX hv;obtain⟨g,F,g2⟩:=z i (by omega);have⟨_,d,b⟩:=Lh F;have⟨y0,y1,y2,y3,k,_,_,M,N,O,P⟩:=Go.Joins.trod_struct4 Tryz.underlying32 g2
  match g,d with
  |[v0,v1,v2,G,v4],_=>
   simp[B,C] at M N O P;have⟨k0,Q,_,w0⟩:=KV Tryz.underlying3 M;have⟨k1,R,_,w1⟩:=KV Tryz.underlying3 N;have⟨k2,S,_,w2⟩:=KV Tryz.underlying3 O;simp at Q R S;subst Q R S;have⟨pp,q⟩:=oN P;have⟨rv,e,hd,av⟩:=id q;simp at e;obtain⟨rfl,rfl⟩:=e;have T:=b 0 (by omega);have V:=b 1 (by omega);have X:=b 2 (by omega);have Y:=b 3 (by omega);have c4:=b 4 (by omega);rw[add_add,s,eM] at T V X Y c4;exact⟨(k0,k1,k2,pp),s,I,G,by simpa using T,by simpa [KX] using V,by simpa [KX] using X,by simpa [KX] using Y,by simpa [KX] using c4,G,rfl,w0,w1,w2,q⟩
 obtain⟨u,J,K⟩:=iU _ f p;refine⟨u,some a,w,by rw[J],by omega,hm,λi c A=>?_⟩;have⟨s,I,L⟩:=K i c A;exact⟨a.block,a.off,by rw[<-s],I,L⟩
theorem Jp{H:Type}{c:TypeId × Value->H}{W:World}{r:Reach}{g base:Nat}{i:Nat->Bool}{b:Bool}{v:Value}{d:DataW H}{p:List MemPlace}
  (j:Value.okWide prog W r g 50 v) (h:DataW.Trod c prog W base i b 50 v d p):∃k,dh W.1.size W v k:=by
 obtain⟨a,l,m,rfl⟩:=okWide_slice Tryz.underlying50 j;obtain⟨f,n⟩:=h;have e:=n;exact CG e
theorem IL{H:Type}{i:TypeId × Value->H}{W:World}{r:Reach}{J base:Nat}{K:Nat->Bool}{c:Bool}{v:Value}{d:DataW H}{p:List MemPlace}
  (L:Value.okWide prog W r J 27 v) (h:DataW.Trod i prog W base K c 27 v d p) (y:∀n∈d.weights prog 27,n<=140737488351232):∃x,bi W.1.size W v x/\x.2.1.1.length+x.2.1.2.length<=300000000000000:=by
 obtain⟨M,rfl,f⟩:=qi Tryz.underlying27 L;obtain⟨z,N⟩:=h;have⟨O,j,P,n,e,_,A,B,C⟩:=trod_struct3 Tryz.underlying27 N;have Q:prog.cellsOf 27=4:=by kernel_rfl
 have R:prog.cellsOf 25=2:=by kernel_rfl
 have k:prog.cellsOf 23=1:=by kernel_rfl
 have o:prog.cellsOf 22=1:=by kernel_rfl
 have q:prog.cellsOf 4=1:=by kernel_rfl
 rw[Q] at f;have S:d=.agg [O.1,j.1,P.1]:=congrArg Prod.fst e;rw[S] at y;have u:∀n∈j.1.weights prog 25,n<=140737488351232:=λn g=>y n (by simp[DataW.weights,Tryz.underlying27,DataW.weightsEach,g])
 obtain⟨l⟩:=M
 match l,f with
 |[T,V,X,c3],_=>
  simp[Value.cells,o,R,q] at A B C;have⟨b,a⟩:=B3 A;have⟨Y,D,_⟩:=DataW.trod_bool Tryz.underlying4 C;simp at D;subst D;have⟨E,F,m,ee,_,G,I⟩:=trod_struct2 Tryz.underlying25 B;have w:j.1=.agg [E.1,F.1]:=congrArg Prod.fst ee;rw[w] at u;have v0:∀n∈E.1.weights prog 23,n<=140737488351232:=λn g=>u n (by simp[DataW.weights,Tryz.underlying25,DataW.weightsEach,g])
  have v1:∀n∈F.1.weights prog 23,n<=140737488351232:=λn g=>u n (by simp[DataW.weights,Tryz.underlying25,DataW.weightsEach,g])
  simp[k] at G I;have⟨s,hs,a4⟩:=tZ G v0;have⟨t,ht,a6⟩:=tZ I v1;exact⟨(b,(s,t),Y),⟨T,V,X,rfl,a,hs,ht⟩,by simp only[];omega⟩
end
theorem rL(B cv dv cs ds w)(Q:gx B w cv cs)(E:gx B w dv ds)(hB:B<=w.1.size):
  cL 18 #[cv,dv] w (rT w (.bool (decide (cs=ds)))):=by
 obtain⟨a,R,rfl,S,T,v⟩:=Q;obtain⟨a2,J,rfl,y,K,z⟩:=E;have A:=Z v;have C:=Z z;clear v z
 by_cases g:cs.length=ds.length
 ·generalize hn:cs.length=n at*;have L:=g.symm;clear g;rw[L] at y;simp only[L];have V:n<=9223372036854775807:=by have:=ai;omega
  go_enter func18,ntmps18;go_wp2;go_loopw [13] (λi wr=>∃k:Nat,k<=n/\i=U k/\Hid (∀i,i<k->cs[i]?=ds[i]?)/\bL w wr) (λi _=>n-(intOf i).toNat)
  case atStart=>exact⟨0,by omega,rfl,λi h=>absurd h (by omega),Kf _ _⟩
  case round=>
   obtain⟨k,hk,rfl,H,e⟩:=hrel;have i0:(0:Int)<=(k:Int):=by omega
   by_cases W:k<n
   ·have i1:(k:Int)<(n:Int):=by omega
    obtain⟨c,r⟩:∃c,cs[k]?=some c:=⟨cs[k]'(by omega),by simp⟩;obtain⟨d,s⟩:∃d,ds[k]?=some d:=⟨ds[k]'(by omega),by simp⟩;obtain⟨b,o,rfl,X,D⟩:=A.o k c r;obtain⟨F,M,rfl,N,j⟩:=C.o k d s;have l:=Z r;have q:=Z s;clear r s;have Y:=(e.cell (p:=⟨b,o+k,none⟩) (by show b<_;omega)).trans D;have d0:=(e.cell (p:=⟨F,M+k,none⟩) (by show F<_;omega)).trans j;clear D j;go_wp2;have a1:=e.size;have g:=ax.ne wr;have a3:∀x:ax wr,x.1.cell? ⟨b,o+k,none⟩=some (U c):=λx=>x.cell Y (by omega)
    have a4:∀x:ax wr,x.1.cell? ⟨F,M+k,none⟩=some (U d):=λx=>x.cell d0 (by omega)
    by_cases f:c=d
    ·have t:=Z f;have E:(c != d)=false:=by simp[f]
     clear f;refine aW (by kernel_rfl) (by kernel_rfl) ?_;repeat(go_big_quiet_step (fail))
     refine Km ?_;rintro wx ⟨⟨_,G⟩,rfl⟩;have u:=e.th G;go_wp2;refine⟨⟨k+1,by omega,by go_num,λi O=>?_,u⟩,by simp[intOf];omega⟩
     by_cases I:i=k
     ·subst I;rw[l.o,q.o,t.o]
     exact H.o i (by omega)
    have t:=Z f;have E:(c != d)=true:=by simpa using f
    clear f;refine aW (by kernel_rfl) (by kernel_rfl) ?_;repeat(go_big_quiet_step (fail))
    refine Km ?_;rintro wx ⟨⟨_,G⟩,rfl⟩;have u:=e.th G;go_wp2;go_ret;refine⟨?_,u⟩;have:cs≠ds:=by intro h;have P:=l.o;rw[h,q.o] at P;exact t.o (KG P).symm
    simp[this]
   go_wp2;go_ret;refine⟨?_,e⟩
   have:cs=ds:=by
    refine LD λi=>?_
    by_cases O:i<k
    ·exact H.o i O
    rw[KP (by omega),KP (by omega)]
   simp[this]
 have a6:((cs.length:Int) != (ds.length:Int))=true:=by simp;omega
 have hf:=Z (by simp;intro h;rw[h] at g;exact g rfl:decide (cs=ds)=false);generalize cs.length=n at*;generalize ds.length=m at*;go_enter func18,ntmps18;go_wp2;go_ret;exact⟨by rw[hf.o];rfl,Kf _ _⟩
theorem E7:∃i,prog.info? 35=some i/\i.zero=some (U 0)/\i.size=1/\i.bytes=8:=jL (by kernel_rfl)
def eG(l:List Int):List Value:=l.map λb=>U b
theorem oP(l m:List Int):eG (l++m)=eG l++eG m:=by unfold eG;exact List.map_append
theorem lq(l):(eG l).length=l.length*1:=by unfold eG;simp
theorem Cp{L:Nat}{w:World}{v:Value}{l:List Int}(h:w.ownsRow L 35 1 v l.length (eG l)):gx w.1.size w v l:=by obtain⟨a,c,rfl,f,j,k⟩:=an h;refine⟨a,c,rfl,f,j,λi b e=>?_⟩;have n:i<l.length:=(K9.1 e).1;obtain⟨g,rfl,m,d⟩:=k (by omega);refine⟨g,0,rfl,d,?_⟩;rw[Kp];exact aK h i _ (by unfold eG;rw[Ku,e];rfl)
theorem gx.full{B w v l}(h:gx B w v l):∃a b,v=.slice a l.length b/\l.length<=b/\b<=maxLen:=by obtain⟨a,b,c,d,e,_⟩:=h;exact⟨a,b,c,d,e⟩
def gJ:List az:=[(1,1,0,kj),(2,1,0,gQ),(2,1,0,kj),(5,0,0,[],0),(4,1,0,[],0),(6,0,0,[],0)]
theorem EU:(fk kz gJ).2=[0,0,7,0,6,0]:=by decide +kernel
theorem vW:qU kz gJ=0:=by decide +kernel
theorem Ii:(nz kz gJ).2.2=true:=by decide +kernel
theorem yt:kp (nz kz gJ) 1 (oz 0 0 0 8 0)=0/\qu (nz kz gJ) 1 (oz 0 0 0 8 0)=2:=by decide +kernel
theorem Fk:kp (nz kz gJ) 2 (oz 0 0 0 0 0)=6:=by decide +kernel
theorem C4{x:aH}(h:cr x=0):aB x.2.1=0:=by
 unfold cr at h
 by_cases a:aB x.2.1=0
 ·exact a
 rw[iO a] at h;exact h
theorem JY{x:aH}(h:cr x=0):sW x.2.1:=Al (C4 h)
theorem bi.wide{B b:Nat}{w v x}(h:bi B w v x)(a:B<=b):bi b w v x:=by obtain⟨c,d,e,f,g,i,j⟩:=h;exact⟨c,d,e,f,g.wide a,i.wide a,j.wide a⟩
section
structure K5 (kc ka:Nat) (W:World) (G:World->Value->Prop) (fs:Nat->Value->Prop) (w:World):Prop where
 below:bL W w
 call:∀u,fs kc u->G w u
 box:∀u,fs ka u->∃g:Nat,u=.pointer (sO g)/\W.1.size<=g/\w.1[g]?=some (.cells #[nL,nL,nL,.bool false] 27 (0,0))
 oneC:∀u v,fs kc u->fs kc v->u=v
 oneA:∀u v,fs ka u->fs ka v->u=v
def Cl(kc ka ks:Nat)(W:World)(G:World->Value->Prop)(fs:Nat->Value->Prop)(w:World):Prop:=
 ((∀u,¬fs ks u)/\K5 kc ka W G fs w)\/((∃u,fs ks u)/\(∃u,fs kc u)/\(∃u,fs ka u)/\bL W w/\(∀u,fs kc u->G w u)/\∀u a b c d e f,fs ka u->fs kc (.tuple #[.agg #[a,b,c,d],e,f])->∃g:Nat,u=.pointer (sO g)/\W.1.size<=g/\w.1[g]?=some (.cells #[a,b,c,d] 27 (0,0)))
section
variable {kc ka ks:Nat} {W w w':World} {G:World->Value->Prop} {fs:Nat->Value->Prop}
theorem Cl.start(kc ka ks W)(G:World->Value->Prop):Cl kc ka ks W G (λ_ _=>False) W.drew:=.inl ⟨λ_ h=>h,bR.drew,λ_ h=>h.elim,λ_ h=>h.elim,λ_ _ h=>h.elim,λ_ _ h=>h.elim⟩
theorem Cl.below(h:Cl kc ka ks W G fs w):bL W w:=by
 rcases h with ⟨_,h⟩|⟨_,_,_,h,_⟩
 ·exact h.below
 exact h
theorem Cl.ahead(h:Cl kc ka ks W G fs w){k:Nat}(e:k=kc\/k=ka\/k=ks)(d:∀v,¬fs k v):(∀u,¬fs ks u)/\K5 kc ka W G fs w:=by
 rcases h with h|⟨⟨a,f⟩,⟨b,g⟩,⟨c,i⟩,_⟩
 ·exact h
 rcases e with rfl|rfl|rfl
 ·exact absurd g (d _)
 ·exact absurd i (d _)
 exact absurd f (d _)
theorem Cl.call(h:Cl kc ka ks W G fs w)(o:∀w w' u,bL w w'->G w u->G w' u)(k:ks≠kc)(d:ka≠kc)(c:∀v,¬fs kc v)(f:bL w w'){v:Value}(l:G w' v):Cl kc ka ks W G (d9 fs kc v) w':=by
 have⟨m,h⟩:=h.ahead (.inl rfl) c;refine .inl ⟨λu a=>?_,h.below.th f,λu a=>?_,λu a=>?_,λu i a b=>?_,λu i a b=>?_⟩
 ·rcases a with a|⟨e,_⟩
  ·exact m u a
  exact k e
 ·rcases a with a|⟨_,rfl⟩
  ·exact absurd a (c _)
  exact l
 ·rcases a with a|⟨e,_⟩
  ·have⟨g,e,n,j⟩:=h.box u a;exact⟨g,e,n,(f.block g (io j)).trans j⟩
  exact absurd e d
 ·rcases a with a|⟨_,rfl⟩
  ·exact absurd a (c _)
  rcases b with b|⟨_,rfl⟩
  ·exact absurd b (c _)
  rfl
 rcases a with a|⟨e,_⟩
 ·rcases b with b|⟨e,_⟩
  ·exact h.oneA u i a b
  exact absurd e d
 exact absurd e d
theorem Cl.made(h:Cl kc ka ks W G fs w)(i:∀w w' u,bL w w'->G w u->G w' u)(j:ks≠ka)(d:kc≠ka)(c:∀v,¬fs ka v):Cl kc ka ks W G (d9 fs ka (.pointer (sO w.1.size))) (w.alloc (.cells #[nL,nL,nL,.bool false] 27)):=by
 have⟨k,h⟩:=h.ahead (.inr (.inl rfl)) c;have f:=(Kf w.1.size w).alloc lE (.cells #[nL,nL,nL,.bool false] 27);refine .inl ⟨λu a=>?_,h.below.th f,λu a=>?_,λu a=>?_,λu g a b=>?_,λu g a b=>?_⟩
 ·rcases a with a|⟨e,_⟩
  ·exact k u a
  exact j e
 ·rcases a with a|⟨e,_⟩
  ·exact i _ _ u f (h.call u a)
  exact absurd e d
 ·rcases a with a|⟨_,rfl⟩
  ·exact absurd a (c _)
  exact⟨_,rfl,h.below.size,ah _ _⟩
 ·rcases a with a|⟨e,_⟩
  ·rcases b with b|⟨e,_⟩
   ·exact h.oneC u g a b
   exact absurd e d
  exact absurd e d
 rcases a with a|⟨_,rfl⟩
 ·exact absurd a (c _)
 rcases b with b|⟨_,rfl⟩
 ·exact absurd b (c _)
 rfl
theorem Cl.store(h:Cl kc ka ks W G fs w)(b:∀w w' u g,G w u->w.1[g]?=some (.cells #[nL,nL,nL,.bool false] 27 (0,0))->iE g w w'->w'.1.size=w.1.size->G w' u)(n:kc≠ks)(r:ka≠ks)(c:∀v,¬fs ks v){d f i j s t:Value}(o:fs kc (.tuple #[.agg #[d,f,i,j],s,t])){g:Nat}(k:fs ka (.pointer (sO g))):w.1[g]?=some (.cells #[nL,nL,nL,.bool false] 27 (0,0))/\Cl kc ka ks W G (d9 fs ks undef) ((((w.setCell (pA g 0) d).setCell (pA g 1) f).setCell (pA g 2) i).setCell (pA g 3) j):=by
 have⟨C,h⟩:=h.ahead (.inr (.inr rfl)) c;obtain⟨D,e,p,l⟩:=h.box _ k;simp at e;subst e;have⟨x,y,z,A⟩:=eK (u0:=d) (u1:=f) (u2:=i) (u3:=j) l;refine⟨l,.inr ⟨⟨undef,.inr ⟨rfl,rfl⟩⟩,⟨_,.inl o⟩,⟨_,.inl k⟩,h.below.trans (A _ p),λu a=>?_,λu E F H I J K a m=>?_⟩⟩
 ·rcases a with a|⟨e,_⟩
  ·exact b _ _ u g (h.call u a) l y z
  exact absurd e n
 rcases a with a|⟨e,_⟩
 ·rcases m with m|⟨e,_⟩
  ·have B:=h.oneA _ _ a k;have q:=h.oneC _ _ m o;simp at q;obtain⟨⟨rfl,rfl,rfl,rfl⟩,-⟩:=q;exact⟨g,B,p,x⟩
  exact absurd e n
 exact absurd e r
theorem Cl.done(h:Cl kc ka ks W G fs w){u a b c d f i:Value}{g:Nat}(k:fs ks u)(j:fs kc (.tuple #[.agg #[a,b,c,d],f,i]))(l:fs ka (.pointer (sO g))):bL W w/\G w (.tuple #[.agg #[a,b,c,d],f,i])/\W.1.size<=g/\w.1[g]?=some (.cells #[a,b,c,d] 27 (0,0)):=by
 rcases h with ⟨m,_⟩|⟨_,_,_,n,o,p⟩
 ·exact absurd k (m _)
 obtain⟨s,e,q,r⟩:=p _ _ _ _ _ _ _ l j;simp at e;subst e;exact⟨n,o _ j,q,r⟩
end
def uE(Y:aH)(h:List Int)(E:Int)(w:World)(u:Value):Prop:=∃a b c d e f g,u=.tuple #[.agg #[a,b,c,d],.slice e f g,U E]/\bi w.1.size w (.agg #[a,b,c,d]) Y/\gx w.1.size w (.slice e f g) h
theorem uE.l{Y YL E}:∀w w' u,bL w w'->uE Y YL E w u->uE Y YL E w' u:=by
 rintro w w' u d ⟨g,h,j,l,m,n,p,e,q,r⟩;refine⟨g,h,j,l,m,n,p,e,?_,?_⟩
 ·have⟨s,t,v,e,x,y,z⟩:=q.l d lE;exact⟨s,t,v,e,x.wide d.size,y.wide d.size,z.wide d.size⟩
 have⟨a,f,e,A,B,C⟩:=r.l d lE
 exact⟨a,f,e,A,B,λi c D=>by
  have⟨b,o,e,F,k⟩:=C i c D
  exact⟨b,o,e,Kd F d.size,k⟩⟩
theorem uE.box{Y:aH}{YL E}(m:∀c∈Y.1,∀f∈c.2.1,f≠[]):∀w w' u (g:Nat),uE Y YL E w u->w.1[g]?=some (.cells #[nL,nL,nL,.bool false] 27 (0,0))->iE g w w'->w'.1.size=w.1.size->uE Y YL E w' u:=by
 rintro w w' u g ⟨n,p,q,r,s,t,v,e,x,y⟩ z d l;have h:=om.of z;refine⟨n,p,q,r,s,t,v,e,?_,?_⟩
 ·obtain⟨A,B,C,e,D,F,G⟩:=x;rw[l];exact⟨A,B,C,e,D.boxK d h m,F.box d h.1,G.box d h.1⟩
 obtain⟨a,j,e,H,I,J⟩:=y;rw[l]
 exact⟨a,j,e,H,I,λi c K=>by
  have⟨b,o,e,L,k⟩:=J i c K
  exact⟨b,o,e,L,d.cell h.1 k⟩⟩
theorem uE.shape{Y YL E w u}(h:uE Y YL E w u):∃a l b c m d f n g o i j k,u=.tuple #[.agg #[.slice a l b,.slice c m d,.slice f n g,.bool o],.slice i j k,U E]:=by obtain⟨r,s,t,v,i,j,k,e,p,x⟩:=h;obtain⟨a,b,c,d,f,g,q,-,-⟩:=p.shape;rw[q] at e;exact⟨_,_,_,_,_,_,_,_,_,_,_,_,_,e⟩
theorem xd{x:aH}(h:cr x=0):∀c∈x.1,∀f∈c.2.1,f≠[]:=by
 obtain⟨j,d,u⟩:=x
 cases u with
 |true=>
  obtain⟨l,e,-,-,-,k⟩:=x8 h rfl;rw[e];exact mN (iD k)
 |false=>
  rw[ng] at h
  by_cases a:aB d=0
  ·rw[Io a] at h
   by_cases g:aA=j
   ·intro c b f i;simp only[<-g] at b;simp[aA,bn] at b;rw[b] at i
    cases i
   rw[iO g] at h
   cases h
  rw[iO a] at h;exact absurd h a
end
theorem xD(B wv xv x y w)(hx:bi B w wv x)(hy:cI B w xv y)(hB:B<=w.1.size)(hk:y.1=5)(hu:x.2.2=true)(A:aB x.2.1=0):s9 wv xv x y w:=by
 obtain⟨M,N,l,m,g,i,rfl,hc,T⟩:=hx.shape;obtain⟨V,W,rfl,hp⟩:=hy.shape;obtain⟨O,p,u⟩:=x;obtain⟨k,c,f,P,d⟩:=y;simp only at*;subst hu hk;have X:=A;clear hp hx hy hc
 have Y:Hid (aQ (O,p,true) (5,c,f,P,d)=0/\bP (O,p,true) (5,c,f,P,d)=(aA,p,false)):=by
  have h0:aQ (O,p,true) (5,c,f,P,d)=0:=by unfold aQ;simp only;rw[iO (by omega),iO (by simp),Io trivial]
  refine⟨h0,?_⟩;unfold bP;rw[Io h0];unfold gK;simp only;rw[Io trivial]
 generalize O.length=Q at*;have⟨n,C⟩:=nM (p.1.length);have⟨j,D⟩:=nM (p.2.length)
 rw[<-C,<-D] at T |-
 generalize P.length=nP at*;have⟨r,E,R,s⟩:=lF w #[.slice M Q N,.slice l n m,.slice g j i,.bool true] #[U 5,U c,U f,.slice V nP W,U d];have⟨F,t⟩:=nM (sU w #[.slice M Q N,.slice l n m,.slice g j i,.bool true] #[U 5,U c,U f,.slice V nP W,U d]);rw[<-t] at r E R s;have a1:Hid (F=((w.alloc (.cells #[.slice M Q N,.slice l n m,.slice g j i,.bool true] 27)).alloc (.cells #[U 5,U c,U f,.slice V nP W,U d] 32)).alloc (.cells #[nL,nL,nL,.bool false] 27)):=(t);obtain⟨⟨q0,q1,q2,q3⟩,-⟩:=bY E;have b3:F.cell? ⟨w.1.size,1+1,none⟩=some (.slice g j i):=q2;have r0:=(aF R).1;have l0:=io E;have l1:=io R;have G2:Hid (F.1[w.1.size+1+1]?=some (.cells #[nL,nL,nL,.bool false] 27 (0,0))):=s
 have G0:Hid (∀a,bL F a->a.1[w.1.size]?=some (.cells #[.slice M Q N,.slice l n m,.slice g j i,.bool true] 27 (0,0))/\a.1[w.1.size+1+1]?=some (.cells #[nL,nL,nL,.bool false] 27 (0,0))/\bL w a):=λa h=>⟨(h.block _ l0).trans E,h.bl s,r.th h⟩
 have G:Hid (bL w F):=r;have a2:Hid (∀a,cL 35 #[U 5,U 1,U 7] a λe a3=>e=.returned (.bool true)/\a3=a):=λa=>mt (by omega) a
 clear t r E R s C D;go_enter func14,ntmps14;go_wp2_with fail;rw[<-a1.o];go_at_call 35;refine Calls.mono (a2.o _) ?_;rintro e o ⟨rfl,rfl⟩;have hm:=kT;have s:=G2.o;have⟨⟨z0,z1,z2,z3⟩,f0,f1,f2,f3⟩:=bY s;have lb:=io s;go_wp2_with fail;have H:Hid (∀a,bL w a->aI B a (.slice l n m) p.1/\aI B a (.slice g j i) p.2):=λa h=>by have⟨sv,tv,ed,I,J⟩:=T.l h hB;simp at ed;obtain⟨rfl,rfl⟩:=ed;exact⟨I,J⟩
 clear T A X s;go_region
 all_goals
  go_wp2_with fail;have⟨k1,k2,k3,k4⟩:=eK (u0:=.slice (sO o.1.size) 4 4) (u1:=.slice l n m) (u2:=.slice g j i) (u3:=.bool false) G2.o;have⟨q,b⟩:=nM (((((o.setCell (pA (w.1.size+1+1) 0) (.slice (sO o.1.size) 4 4)).setCell (pA (w.1.size+1+1) 1) (.slice l n m)).setCell (pA (w.1.size+1+1) 2) (.slice g j i)).setCell (pA (w.1.size+1+1) 3) (.bool false)).alloc (.cells (madeCells #[.bool false,nL,nL,U 0] 16) 46));have gF:q.1[w.1.size+1+1]?=some (.cells #[.slice (sO o.1.size) 4 4,.slice l n m,.slice g j i,.bool false] 27 (0,0)):=by rw[b,Kq _ _ _ (by rw[k3];exact lb)];exact k1
  have S:q.1[o.1.size]?=some (.cells (madeCells #[.bool false,nL,nL,U 0] 16) 46 (0,0)):=by rw[b];have:=ah ((((o.setCell (pA (w.1.size+1+1) 0) (.slice (sO o.1.size) 4 4)).setCell (pA (w.1.size+1+1) 1) (.slice l n m)).setCell (pA (w.1.size+1+1) 2) (.slice g j i)).setCell (pA (w.1.size+1+1) 3) (.bool false)) (.cells (madeCells #[.bool false,nL,nL,U 0] 16) 46);rw[k3] at this;exact this
  have z:bL w q:=by rw[b];have h1:=G.o.trans (k4 _ (Kl (Nat.le_add_right _ 1) (Nat.le_add_right _ 1)));exact h1.alloc h1.size _
  rw[<-b];clear b k1 k2 k3 k4 z0 z1 z2 z3 f0 f1 f2 f3 hm;have gD:q.drew.1[w.1.size+1+1]?=some (.cells #[.slice (sO o.1.size) 4 4,.slice l n m,.slice g j i,.bool false] 27 (0,0)):=gF;obtain⟨⟨y0,y1,y2,y3⟩,-⟩:=bY gF;refine Ka (v:=.tuple #[.agg #[.slice (sO o.1.size) 4 4,.slice l n m,.slice g j i,.bool false],U 0]) ?_ rfl ⟨_,by rw[Y.o.1],?_,z.drew,?_⟩
  ·rw[K8 rfl];clear gF S z gD;go_simp
  ·rw[Y.o.2];have hl:=io S;have⟨I,J⟩:=H.o q z;have L:B<=q.1.size:=z.u hB;have hW:bi q.1.size q (.agg #[.slice (sO o.1.size) 4 4,.slice l n m,.slice g j i,.bool false]) (aA,p,false):=⟨_,_,_,rfl,(je S).wide hl,I.wide L,J.wide L⟩;exact hW
  rw[Y.o.2];intro K hK hO hW hR;have⟨I,J⟩:=H.o q z;have bp:w.1.size<=o.1.size:=G.o.size;have b:kG K q (.agg #[.slice (sO o.1.size) 4 4,.slice l n m,.slice g j i,.bool false]) (aA,p,false):=zK (x:=(aA,p,false)) (uR S (λe=>absurd (hK _ e) (by omega))) I J (uT hO hK z);exact b.l bR.drew (λ_ _ e=>e)
theorem xJ(B wv xv x y w)(he:dD w)(hx:bi B w wv x)(hy:cI B w xv y)(hB:B<=w.1.size)(hk:y.1=6)(hu:x.2.2=false)(o:aB x.2.1=0):s9 wv xv x y w:=by
 obtain⟨ca,cc,sa,sc,ta,tc,rfl,hc,hd⟩:=hx.shape;obtain⟨pa,pc,rfl,hp⟩:=hy.shape;obtain⟨N,i,u⟩:=x;obtain⟨k,c,f,O,d⟩:=y;simp only at*;subst hu hk;have c5:=o;clear hp hx hy hc
 have HE:Hid (aQ (N,i,false) (6,c,f,O,d)=(ay (cK i)).2/\bP (N,i,false) (6,c,f,O,d)=if (ay (cK i)).2=0 then ((ay (cK i)).1,gE i,true) else fg):=by
  have h0:aQ (N,i,false) (6,c,f,O,d)=(ay (cK i)).2:=by unfold aQ;simp only;rw[iO (by omega),iO (by simp),iO (by omega),Io trivial]
  refine⟨h0,?_⟩;unfold bP;rw[h0];have hw:gK (N,i,false) (6,c,f,O,d)=((ay (cK i)).1,gE i,true):=by unfold gK;simp only;rw[iO (by omega),Io trivial]
  rw[hw]
 have p:Hid (∀j,bL w j->cL 22 #[.agg #[.slice sa i.1.length sc,.slice ta i.2.length tc]] j λe b=>∃q G r s H t P ln Q,e=.returned (.tuple #[.agg #[.slice q G r,.slice s H t],.slice P ln Q])/\cJ b.1.size b (.agg #[.slice q G r,.slice s H t]) (gE i)/\(dh b.1.size b (.slice P ln Q) (cK i)/\qt j.1.size b (.slice P ln Q) (cK i))/\bL j b):=λj h=>by
  have I:=dE o;refine(tY B _ i j (he.l h) (hd.l h hB) (h.u hB) I.1 I.2.1).mono λe b ⟨dv,lv,h1,J,L,h4,h5⟩=>?_
  have⟨s1,t1,R,S,z⟩:=id J;obtain⟨q,r,es,-⟩:=S;obtain⟨s,t,et,-⟩:=z;obtain⟨P,Q,el,-⟩:=id L;subst es et R el;have e1:cK i=iF i:=by unfold cK;rw[Io o]
  have e2:gE i=(jB i,[]):=by unfold gE;rw[Io o]
  refine⟨_,_,_,_,_,_,P,_,Q,h1,?_,?_,h4⟩
  ·rw[e2];exact J
  rw[e1];exact⟨L,h5⟩
 clear hd he o c5;have⟨T,ae⟩:=nM (cK i);have⟨RD,af⟩:=nM (gE i);rw[<-ae,<-af] at p HE;clear ae af;generalize N.length=nC at*;have⟨nS,ak⟩:=nM (i.1.length);have⟨nT,ao⟩:=nM (i.2.length)
 rw[<-ak,<-ao] at p |-
 generalize O.length=nP at*;have⟨A,g0,g1,g2⟩:=lF w #[.slice ca nC cc,.slice sa nS sc,.slice ta nT tc,.bool false] #[U 6,U c,U f,.slice pa nP pc,U d];have⟨WX,V⟩:=nM (sU w #[.slice ca nC cc,.slice sa nS sc,.slice ta nT tc,.bool false] #[U 6,U c,U f,.slice pa nP pc,U d]);rw[<-V] at A g0 g1 g2;have cd:Hid (WX=((w.alloc (.cells #[.slice ca nC cc,.slice sa nS sc,.slice ta nT tc,.bool false] 27)).alloc (.cells #[U 6,U c,U f,.slice pa nP pc,U d] 32)).alloc (.cells #[nL,nL,nL,.bool false] 27)):=(V);obtain⟨⟨q0,q1,q2,q3⟩,-⟩:=bY g0;have ce:WX.cell? ⟨w.1.size,1+1,none⟩=some (.slice ta nT tc):=q2;have r0:=(aF g1).1;have l0:=io g0;have l1:=io g1;have G2:=Z g2;have G0:=Z λj (h:bL WX j)=>Q3 ((h.block _ l0).trans g0:j.1[w.1.size]?=some (.cells #[.slice ca nC cc,.slice sa nS sc,.slice ta nT tc,.bool false] 27 (0,0))) (h.bl g2) (A.th h)
 have b1:=Z A;have cf:Hid (∀j,cL 35 #[U 6,U 1,U 7] j λe b=>e=.returned (.bool true)/\b=j):=λj=>mt (by omega) j
 clear V A g0 g1 g2 ak ao;go_enter func14,ntmps14;go_wp2_with fail;rw[<-cd.o];go_at_call 35;refine Calls.mono (cf.o _) ?_;rintro e w2 ⟨rfl,rfl⟩;go_wp2_with fail;go_at_call 22;refine Calls.mono (p.o _ b1.o) ?_;rintro e M ⟨q,G,r,s,H,t,P,ln,Q,rfl,b2,W,C⟩;have⟨W4,D⟩:=nM (M.alloc (.cells #[.slice q G r,.slice s H t] 25));have m:=bA D;have g4:=hA D
 have b3:Hid (cL 23 #[.slice P ln Q] W4 λe b=>∃a n c,e=.returned (.tuple #[.slice a n c,U (ay T).2])/\aE b.1.size b (.slice a n c) (ay T).1/\bL W4 b/\∀K:Nat->Prop,(∀k,K k->k<w.1.size)->lZ K w.1.size w->kn K b (.slice a n c) (ay T).1):=by
  have ci:=(G0.o M C).2.2;have b4:=ci.th m;have en:w.1.size<=w2.1.size:=b1.o.size;refine(wC M.1.size _ T W4 (W.1.l m lE) m.size).mono λe b ⟨v,h1,J,L,h4⟩=>?_
  obtain⟨a,c,ev,-,-⟩:=J.shape;subst ev;exact⟨a,_,c,h1,J,L,λK X hO=>h4 K (λk hk=>Kd (X k hk) b4.size) (hO.all X b4) (λwF hk=>((W.2.l m).keep (λg hg I=>hk.2 g (λe=>absurd (X _ e) (by omega)) I) hk.size).recs)⟩
 have b5:Hid (∀j,bL W4 j->cJ M.1.size j (.agg #[.slice q G r,.slice s H t]) RD/\j.1[M.1.size]?=some (.cells #[.slice q G r,.slice s H t] 25 (0,0))/\j.1[w.1.size+1+1]?=some (.cells #[nL,nL,nL,.bool false] 27 (0,0))/\bL w j/\M.1.size<=j.1.size):=λj h=>by have L:=m.th h;have J:=C.th L;exact⟨b2.l L lE,h.bl g4,(G0.o j J).2.1,(G0.o j J).2.2,L.size⟩
 have ck:=Z (io (G0.o M C).2.1);have cl:=Z D;clear D m g4 b2 W C q0 q1 q2 ce q3 r0;go_wp2_with fail;rw[<-cl.o];go_at_call 23;refine Calls.mono b3.o ?_;rintro e w5 ⟨ra,rn,rc,rfl,b6,b7,b8⟩;have⟨b9,g5,E,ba,bb⟩:=b5.o w5 b7;have x0:=J0 g5;have x1:=J1 g5;have lx:=io g5;have⟨⟨z0,z1,z2,z3⟩,f0,f1,f2,f3⟩:=bY E;have lb:=io E;have cn:=Z λ(h:(ay T).2=0)=>iD h
 have co:=Z b6;have bc:=Z b8;have bd:=Z2 b9 bb;have G5:=Z E;have Y:=Z ba;clear b8 b6 b9 bb E ba b7 g5 b5 b3 p G0 G2;generalize (ay T).2=re at*;generalize (ay T).1=a0 at*;have ey:¬w.1.size+1+1=M.1.size:=by have:=ck.o;omega
 by_cases F:re=0
 ·subst F;have bg:Hid (mM a0):=cn.o rfl;have l:=Z2 HE.o.1 (by rw[HE.o.2,Io rfl]:bP (N,i,false) (6,c,f,O,d)=(a0,RD,true));go_wp2_with fail;have⟨S,z,k3,k4⟩:=eK (u0:=.slice ra rn rc) (u1:=.slice q G r) (u2:=.slice s H t) (u3:=.bool true) G5.o;obtain⟨⟨y0,y1,y2,y3⟩,-⟩:=bY S;refine Ka (v:=.tuple #[.agg #[.slice ra rn rc,.slice q G r,.slice s H t,.bool true],U 0]) ?_ rfl ⟨_,by rw[l.o.1],?_,Y.o.trans (k4 _ (by omega)),?_⟩
  ·rw[K8 rfl];clear S z k3 k4;go_simp
  ·rw[l.o.2,k3];have hz:=om.of G5.o;obtain⟨⟨sv,tv,R,hs,ht⟩,I⟩:=bd.o;simp at R;obtain⟨rfl,rfl⟩:=R;exact⟨_,_,_,rfl,co.o.boxK z hz (mN bg.o),(hs.box z hz.1).wide I,(ht.box z hz.1).wide I⟩
  rw[l.o.2];intro K X hO hW hR;have hz:=om.of G5.o;obtain⟨⟨sv,tv,R,hs,ht⟩,I⟩:=bd.o;simp at R;obtain⟨rfl,rfl⟩:=R;exact zK (x:=(a0,RD,true)) ((bc.o K X hO).box G5.o (λe=>absurd (X _ e) (by omega)) z k3 (k4 0 (Ks _)) (mN bg.o)) (hs.box z hz.1) (ht.box z hz.1) (uT hO X (Y.o.trans (k4 _ (by omega))))
 have l:=Z2 HE.o.1 (by rw[HE.o.2,iO F]:bP (N,i,false) (6,c,f,O,d)=fg);have hq:(re != 0)=true:=by simpa using F
 clear F;go_wp2_with fail;go_at_call 34;refine Calls.mono (mH re _) ?_;rintro e w6 ⟨rfl,a4⟩;have g3:=a4.bl G5.o;clear z0 z1 z2 z3 f0 f1 f2 f3 lb x0 x1 lx;have⟨⟨z0,z1,z2,z3⟩,f0,f1,f2,f3⟩:=bY g3;have lb:=io g3;have G3:=Z g3;have cx:=Z (Y.o.th a4);clear a4 g3;go_wp2_with fail;obtain⟨S,-,k3,k4⟩:=eK (u0:=nL) (u1:=nL) (u2:=nL) (u3:=.bool false) G3.o;obtain⟨⟨y0,y1,y2,y3⟩,-⟩:=bY S;refine Ka (v:=.tuple #[.agg #[nL,nL,nL,.bool false],U re]) ?_ rfl ⟨_,by rw[l.o.1],by rw[l.o.2];exact ga _ _,cx.o.trans (k4 _ (by omega)),λK _ _ _ _=>by rw[l.o.2];exact jX _ _⟩;rw[K8 rfl];clear S k3 k4;go_simp
def wM:Value->Option (DataW Value × List MemPlace):=λv=>some (.held v,[])
theorem Ff{v u:Value}{ps:List MemPlace}(h:wM v=some (.held u,ps)):v=u:=DataW.held.inj (Prod.mk.inj (KG h)).1
theorem H3(w:World):(zeroValue 71).run prog w=.ok (.agg #[U 0,U 0,U 0,nL,U 0]) w:=by kernel_rfl
theorem ER{cs:List aG}{b:bQ}{k c f:Int}{a:List aq}{d:Int}(h:k=1\/k=2\/k=3\/k=4\/k=7):aQ (cs,b,true) (k,c,f,a,d)=if cQ cs (bU (k,c,f,a,d))=0 then (if f8 b (bU (k,c,f,a,d))=0 then (if k=7 then 0 else fm (fu b (bU (k,c,f,a,d)))) else f8 b (bU (k,c,f,a,d))) else cQ cs (bU (k,c,f,a,d)):=by rcases h with rfl|rfl|rfl|rfl|rfl<;>(unfold aQ;simp)
theorem FR{cs:List aG}{a:bQ}{k c f:Int}{b:List aq}{d:Int}(h:k=1\/k=2\/k=3\/k=4\/k=7):bP (cs,a,true) (k,c,f,b,d)=if aQ (cs,a,true) (k,c,f,b,d)=0 then (if k=7 then (aA,(a.1,(fu a (bU (k,c,f,b,d))).2.take (ig f (fu a (bU (k,c,f,b,d))).2.length)),false) else (dI cs (bU (k,c,f,b,d)),i7 (fu a (bU (k,c,f,b,d))),true)) else fg:=by rcases h with rfl|rfl|rfl|rfl|rfl<;>(unfold bP gK;simp)
theorem IY{d:bQ}{r:az}(b:aB d=0)(h:lz d r=0):aB (gf d r)=0:=by
 have⟨g,i,j,c⟩:=dE b;have e:gf d r=(d.1,d.2++(fP r++[10])):=by unfold gf;rw[Io h]
 rw[e];refine wA ?_ c;unfold lz at h
 by_cases a:aZ r=0
 ·rw[Io a] at h
  by_cases f:60000<d.1.length+d.2.length+(fP r).length+1
  ·rw[Io f] at h
   cases h
  simp only[Kj,Kv,Lf];omega
 rw[iO a] at h;exact absurd h a
theorem JQ{p:Prop}(h:p):Hid p:=h
theorem kQ(B wv xv x y w)(he:dD w)(fq:Lib.TabIs prog w "strings.asciiSpace" .u8 Lib.asciiSpaceTab)(hx:bi B w wv x)(hy:cI B w xv y)(hB:B<=w.1.size)(C:y.1=1\/y.1=2\/y.1=3\/y.1=4\/y.1=7)(hu:x.2.2=true)(bk:aB x.2.1=0)(hG:mM x.1):s9 wv xv x y w:=by
 obtain⟨ca,cc,sa,sc,ta,tc,rfl,hc,hd⟩:=hx.shape;obtain⟨T,V,rfl,hp⟩:=hy.shape;obtain⟨l,a,u⟩:=x;obtain⟨k,c,f,o,d⟩:=y;simp only at*;subst hu;obtain⟨mf,ey,-,J,bm,bo⟩:=id hy;simp only at ey J bm bo;simp at ey;subst ey;have⟨nC,dc⟩:=nM (l.length);have⟨nS,dd⟩:=nM (a.1.length);have⟨nT,de⟩:=nM (a.2.length);have⟨W,df⟩:=nM (o.length);have hl:=dE bk;rw[<-dd,<-de] at hd;rw[<-dc] at hc;rw[<-df] at bo;rw[<-dc,<-dd,<-de,<-df]
 obtain⟨q,X,qa,nQ,qc,qs,Y,ae⟩:∃ (q X:Int) (qa:Option Addr) (nQ qc:Nat) (qs:List aq) (Y:Int),(((k=1/\q=1\/k=2/\q=2\/k=7/\q=2)/\X=0/\qa=T/\nQ=W/\qc=V/\qs=o/\Y=d)\/((k=3/\q=3/\X=f\/k=4/\q=4/\X=0)/\qa=none/\nQ=0/\qc=0/\qs=[]/\Y=0)):=by
  rcases C with h|h|h|h|h
  ·exact⟨1,0,T,W,V,o,d,.inl ⟨.inl ⟨h,rfl⟩,rfl,rfl,rfl,rfl,rfl,rfl⟩⟩
  ·exact⟨2,0,T,W,V,o,d,.inl ⟨.inr (.inl ⟨h,rfl⟩),rfl,rfl,rfl,rfl,rfl,rfl⟩⟩
  ·exact⟨3,f,none,0,0,[],0,.inr ⟨.inl ⟨h,rfl,rfl⟩,rfl,rfl,rfl,rfl,rfl⟩⟩
  ·exact⟨4,0,none,0,0,[],0,.inr ⟨.inr ⟨h,rfl,rfl⟩,rfl,rfl,rfl,rfl,rfl⟩⟩
  exact⟨2,0,T,W,V,o,d,.inl ⟨.inr (.inr ⟨h,rfl⟩),rfl,rfl,rfl,rfl,rfl,rfl⟩⟩
 have k5:Hid ((Lit.int .i64 k).wf=true):=by rcases C with rfl|rfl|rfl|rfl|rfl<;>exact rfl
 have c6:(k != 6)=true:=by rcases C with rfl|rfl|rfl|rfl|rfl<;>rfl
 have d6:(k==6)=false:=by rcases C with rfl|rfl|rfl|rfl|rfl<;>rfl
 have c5:(k==5)=false:=by rcases C with rfl|rfl|rfl|rfl|rfl<;>rfl
 have HC:=JQ ae
 have bs:Hid (∀i,bL w i->cI B i (.agg #[U q,U c,U X,.slice qa nQ qc,U Y]) (q,c,X,qs,Y)):=λi L=>by
  rcases ae with ⟨⟨rfl,rfl⟩|⟨rfl,rfl⟩|⟨rfl,rfl⟩,rfl,rfl,rfl,rfl,rfl,rfl⟩|⟨⟨rfl,rfl,rfl⟩|⟨rfl,rfl,rfl⟩,rfl,rfl,rfl,rfl,rfl⟩
  all_goals first|exact⟨_,rfl,(by show wf (_:Int);unfold wf;rfl),J,(by show wf (0:Int);unfold wf;decide),bo.l L hB⟩|exact⟨_,rfl,(by show wf (_:Int);unfold wf;rfl),J,bm,bV _ _⟩|exact⟨_,rfl,(by show wf (_:Int);unfold wf;rfl),J,(by show wf (0:Int);unfold wf;decide),bV _ _⟩
 have af:Hid (∀K:Nat->Prop,wU K w (.agg #[U k,U c,U f,.slice T W V,U d]) (k,c,f,o,d)->wU K w (.agg #[U q,U c,U X,.slice qa nQ qc,U Y]) (q,c,X,qs,Y)):=λK hR wF k6=>by
  rcases ae with ⟨⟨rfl,rfl⟩|⟨rfl,rfl⟩|⟨rfl,rfl⟩,rfl,rfl,rfl,rfl,rfl,rfl⟩|⟨⟨rfl,rfl,rfl⟩|⟨rfl,rfl,rfl⟩,rfl,rfl,rfl,rfl,rfl⟩
  all_goals first|exact⟨_,rfl,(by show wf (_:Int);unfold wf;rfl),J,(by show wf (0:Int);unfold wf;decide),(wU.pol (d':=0) hR) wF k6⟩|exact⟨_,rfl,(by show wf (_:Int);unfold wf;rfl),J,bm,bV _ _⟩|exact⟨_,rfl,(by show wf (_:Int);unfold wf;rfl),J,(by show wf (0:Int);unfold wf;decide),bV _ _⟩
 obtain⟨R,hR⟩:∃R:az,R=(q,c,X,qs,Y):=⟨_,rfl⟩
 have fs:Hid (bU (k,c,f,o,d)=R):=by rw[hR];rcases ae with ⟨⟨rfl,rfl⟩|⟨rfl,rfl⟩|⟨rfl,rfl⟩,rfl,rfl,rfl,rfl,rfl,rfl⟩|⟨⟨rfl,rfl,rfl⟩|⟨rfl,rfl,rfl⟩,rfl,rfl,rfl,rfl,rfl⟩<;>rfl
 rw[<-hR] at bs af;clear hR;have fv:Hid (∀i,bL w i->cL 36 #[.slice ca nC cc,.agg #[U q,U c,U X,.slice qa nQ qc,U Y]] i λe j=>∃la ln lc,e=.returned (.tuple #[.slice la ln lc,U (cQ l R)])/\aE j.1.size j (.slice la ln lc) (dI l R)/\bL i j/\∀K:Nat->Prop,(∀k,K k->k<w.1.size)->lZ K w.1.size w->kG K w (.agg #[.slice ca nC cc,.slice sa nS sc,.slice ta nT tc,.bool true]) (l,a,true)->wU K w (.agg #[U k,U c,U f,.slice T W V,U d]) (k,c,f,o,d)->kn K j (.slice la ln lc) (dI l R)):=λi L=>(AY B _ _ l R i (hc.l L hB) (bs.o i L) (L.u hB)).mono λe j ⟨v,h1,h2,h3,h4⟩=>by obtain⟨la,lc,ev,-,-⟩:=h2.shape;subst ev;exact⟨la,_,lc,h1,h2,h3,λK hK hO hW hR=>h4 K (λk C=>Kd (hK k C) L.size) (hO.all hK L) (hW.cells.l L (λ_ _ e=>e)) ((af.o K hR).l L (λ_ _ e=>e))⟩
 have fT:Hid (∀i,bL w i->cL 37 #[.agg #[.slice sa nS sc,.slice ta nT tc],.agg #[U q,U c,U X,.slice qa nQ qc,U Y]] i λe j=>∃E P F G n2 s,e=.returned (.tuple #[.agg #[.slice E P F,.slice G n2 s],U (lz a R)])/\cJ j.1.size j (.agg #[.slice E P F,.slice G n2 s]) (gf a R)/\n2=(gf a R).2.length/\bL i j):=λi L=>(Ex B _ _ a R i (he.l L) (jG fq L) (hd.l L hB) (bs.o i L) (L.u hB) hl.1 hl.2.1).mono λe j ⟨v,h1,h2,h3⟩=>by have⟨s1,t1,t,I,z⟩:=id h2;obtain⟨E,F,es,-⟩:=I;obtain⟨G,s,et,-⟩:=z;subst es et t;exact⟨E,_,F,G,_,s,h1,h2,rfl,h3⟩
 have di:Hid (∀i v D,bL w i->cJ i.1.size i v D->D.1.length<=60000->D.2.length<=60000->cL 38 #[v] i λe j=>∃E P F G n2 s,e=.returned (.tuple #[.agg #[.slice E P F,.slice G n2 s],U (km D)])/\cJ j.1.size j (.agg #[.slice E P F,.slice G n2 s]) (p6 D)/\bL i j):=λi v D L hD h1 h2=>(Dg i.1.size v D i (he.l L) hD lE h1 h2).mono λe j ⟨v,h1,h2,h3⟩=>by have⟨s1,t1,t,I,z⟩:=id h2;obtain⟨E,F,es,-⟩:=I;obtain⟨G,s,et,-⟩:=z;subst es et t;exact⟨E,_,F,G,_,s,h1,h2,h3⟩
 have HE:Hid (aQ (l,a,true) (k,c,f,o,d)=if cQ l R=0 then (if f8 a R=0 then (if k=7 then 0 else fm (fu a R)) else f8 a R) else cQ l R):=by rw[<-fs.o];exact ER C
 have A:Hid (bP (l,a,true) (k,c,f,o,d)=if aQ (l,a,true) (k,c,f,o,d)=0 then (if k=7 then (aA,(a.1,(fu a R).2.take (ig f (fu a R).2.length)),false) else (dI l R,i7 (fu a R),true)) else fg):=by rw[<-fs.o];exact FR C
 have c0:Hid (f8 a R=lz a R/\fu a R=gf a R):=by
  have e1:f8 a R=lz a R:=by unfold f8;rw[Io bk]
  exact⟨e1,by unfold fu gf;rw[e1]⟩
 have c8:=Z λ(h:lz a R=0)=>IY bk h
 rw[c0.o.1,c0.o.2] at HE;rw[c0.o.2] at A;clear hp hx hy hc hd he fq dc dd de df J bm bo bs af hl bk c0;have⟨dl,g0,g1,g2⟩:=lF w #[.slice ca nC cc,.slice sa nS sc,.slice ta nT tc,.bool true] #[U k,U c,U f,.slice T W V,U d];have⟨WX,dp⟩:=nM (sU w #[.slice ca nC cc,.slice sa nS sc,.slice ta nT tc,.bool true] #[U k,U c,U f,.slice T W V,U d]);rw[<-dp] at dl g0 g1 g2;have ka:Hid (WX=((w.alloc (.cells #[.slice ca nC cc,.slice sa nS sc,.slice ta nT tc,.bool true] 27)).alloc (.cells #[U k,U c,U f,.slice T W V,U d] 32)).alloc (.cells #[nL,nL,nL,.bool false] 27)):=(dp);obtain⟨⟨q0,q1,q2,q3⟩,-⟩:=bY g0;have⟨r0,r1,r2,r3,r4⟩:=aF g1;have l0:=io g0;have r:=io g1;have G0:=Z λi (h:bL WX i)=>Q4 ((h.block _ l0).trans g0:i.1[w.1.size]?=some (.cells #[.slice ca nC cc,.slice sa nS sc,.slice ta nT tc,.bool true] 27 (0,0))) (h.bl g2) ((h.block _ r).trans g1:i.1[w.1.size+1]?=some (.cells #[U k,U c,U f,.slice T W V,U d] 32 (0,0))) (dl.th h)
 have kb:Hid (∀i,cL 35 #[U k,U 1,U 7] i λe j=>e=.returned (.bool true)/\j=i):=λi=>mt (by omega) i
 clear C ae;clear dp dl g0 g1 g2;go_enter func14,ntmps14;go_wp2_with fail;rw[<-ka.o];go_at_call 35;refine Calls.mono (kb.o _) ?_;rintro e w2 ⟨rfl,rfl⟩;have mv:=@run_makeMap prog;have g5:=Le (H:=Value) w2 prog 3 wM
 go_wp2_with (first
  |(refine am (H:=Value) _ rfl _ _ _ 72 rfl 3 71 iK Tryz.underlying72 wM w2.1.size 0 _ rfl g5 (by decide) _ _ _ rfl rfl (KF underlying3 (by decide)) (.held (.agg #[U 1,U c,U 0,.slice T W V,U d])) [] rfl ?_;go_must (intro mC ak kc;clear g5;have b:=((Kf w2.1.size w2).alloc lE _).grown kc (by simp) (λk C=>by cases C;exact Ke _);have s0:=(b.cell (p:=pA (w.1.size+1) 1) r).trans r1;have s1:=(b.cell (p:=pA (w.1.size+1) 2) r).trans r2;have s2:=(b.cell (p:=pA (w.1.size+1) 3) r).trans r3;have s3:=(b.cell (p:=⟨w.1.size+1,3+1,none⟩) r).trans r4;have s4:=(b.cell (p:=pA (w.1.size+1) 0) r).trans r0))
  |(refine am (H:=Value) _ rfl _ _ _ 72 rfl 3 71 iK Tryz.underlying72 wM w2.1.size 1 _ rfl ak (by decide) _ _ _ rfl rfl (KF underlying3 (by decide)) (.held (.agg #[U 2,U c,U 0,.slice T W V,U d])) [] rfl ?_;go_must (intro mS al kd;clear ak;replace b:=b.grown kd b.size (λk C=>by cases C;exact Ke _);have s0:=(b.cell (p:=pA (w.1.size+1) 1) r).trans r1;have s1:=(b.cell (p:=pA (w.1.size+1) 2) r).trans r2;have s2:=(b.cell (p:=pA (w.1.size+1) 3) r).trans r3;have s3:=(b.cell (p:=⟨w.1.size+1,3+1,none⟩) r).trans r4;have s4:=(b.cell (p:=pA (w.1.size+1) 0) r).trans r0))
  |(refine am (H:=Value) _ rfl _ _ _ 72 rfl 3 71 iK Tryz.underlying72 wM w2.1.size 2 _ rfl al (by decide) _ _ _ rfl rfl (KF underlying3 (by decide)) (.held (.agg #[U 2,U c,U 0,.slice T W V,U d])) [] rfl ?_;go_must (intro mT ao kf;clear al;replace b:=b.grown kf b.size (λk C=>by cases C;exact Ke _);have s0:=(b.cell (p:=pA (w.1.size+1) 1) r).trans r1;have s1:=(b.cell (p:=pA (w.1.size+1) 2) r).trans r2;have s2:=(b.cell (p:=pA (w.1.size+1) 3) r).trans r3;have s3:=(b.cell (p:=⟨w.1.size+1,3+1,none⟩) r).trans r4;have s4:=(b.cell (p:=pA (w.1.size+1) 0) r).trans r0))
  |(refine am (H:=Value) _ rfl _ _ _ 72 rfl 3 71 iK Tryz.underlying72 wM w2.1.size 3 _ rfl ao (by decide) _ _ _ rfl rfl (KF underlying3 (by decide)) (.held (.agg #[U 3,U c,U f,nL,U 0])) [] rfl ?_;go_must (intro n0 av ki;clear ao;replace b:=b.grown ki b.size (λk C=>by cases C;exact Ke _);have s0:=(b.cell (p:=pA (w.1.size+1) 1) r).trans r1;have s1:=(b.cell (p:=pA (w.1.size+1) 2) r).trans r2;have s2:=(b.cell (p:=pA (w.1.size+1) 3) r).trans r3;have s3:=(b.cell (p:=⟨w.1.size+1,3+1,none⟩) r).trans r4;have s4:=(b.cell (p:=pA (w.1.size+1) 0) r).trans r0))
  |(refine am (H:=Value) _ rfl _ _ _ 72 rfl 3 71 iK Tryz.underlying72 wM w2.1.size 4 _ rfl av (by decide) _ _ _ rfl rfl (KF underlying3 (by decide)) (.held (.agg #[U 4,U c,U 0,nL,U 0])) [] rfl ?_;go_must (intro c9 b0 kk;clear av;replace b:=b.grown kk b.size (λk C=>by cases C;exact Ke _);have s0:=(b.cell (p:=pA (w.1.size+1) 1) r).trans r1;have s1:=(b.cell (p:=pA (w.1.size+1) 2) r).trans r2;have s2:=(b.cell (p:=pA (w.1.size+1) 3) r).trans r3;have s3:=(b.cell (p:=⟨w.1.size+1,3+1,none⟩) r).trans r4;have s4:=(b.cell (p:=pA (w.1.size+1) 0) r).trans r0;obtain⟨v6,n6,kl,hR⟩:=b0.lookup iK Tryz.underlying72 (H3 _) (zd:=.held (.agg #[U 0,U 0,U 0,nL,U 0])) (zp:=[]) rfl (KF underlying3 k5.o);have ko:v6=.agg #[U q,U c,U X,.slice qa nQ qc,U Y]:=(by rcases HC.o with ⟨⟨rfl,rfl⟩|⟨rfl,rfl⟩|⟨rfl,rfl⟩,rfl,rfl,rfl,rfl,rfl,rfl⟩|⟨⟨rfl,rfl,rfl⟩|⟨rfl,rfl,rfl⟩,rfl,rfl,rfl,rfl,rfl⟩<;>exact Ff hR);subst ko;clear hR;have t0:=(b.cell (p:=pA w.1.size 0) l0).trans q0;have t1:=(b.cell (p:=pA w.1.size 1) l0).trans q1;have t2:=(b.cell (p:=pA w.1.size 2) l0).trans q2;have t3:=(b.cell (p:=pA w.1.size 3) l0).trans q3;have n7:w.1.size<c9.1.size:=Kd l0 b.size;have b1:Hid (bL w2 c9):=b;clear b s0 s1 s2 s3)))
 have⟨WA,cb⟩:=nM (c9.alloc (.cells #[U q,U c,U X,.slice qa nQ qc,U Y] 71));rw[<-cb];have g8:bL w2 WA:=by rw[cb];exact b1.o.alloc b1.o.size _
 have gA:=hA cb;have dq:=Z λi (h:bL WA i)=>Q2 (G0.o i (g8.th h)) (h.bl gA)
 clear cb g8 gA b1 t0 t1 t2 t3 q0 q1 q2 q3 r0 r1 r2 r3 r4 s4 kl b0;go_at_call 36;refine Calls.mono (fv.o WA (dq.o WA bR).1.2.2.2) ?_;rintro e w4 ⟨la,ln,lc,rfl,g9,b4,gb⟩;have⟨⟨g0,g2,g1,dr⟩,gr⟩:=dq.o w4 b4;have kv:=Z g9;have gc:=Z gb;obtain⟨⟨t0,t1,t2,t3⟩,-⟩:=bY g0;have⟨s0,s1,s2,s3,s4⟩:=aF gr;have k0:=(aF g1).1;have z:=(aF g1).2.2.1;have ge:=Z dr;have gj:=Z g2;have a6:=Z λi (h:bL w4 i)=>Q3 (h.bl g2) (h.bl g1) (dr.th h)
 have kw:=Z gr;have gk:=Z λ(h:cQ l R=0)=>hG.next h
 clear gb g9 b4 g0 g2 g1 dr gr dq G0 fv;generalize cQ l R=ne at*;generalize dI l R=nr at*
 by_cases b2:ne=0
 case neg=>
  have g:Hid (aQ (l,a,true) (k,c,f,o,d)=ne/\bP (l,a,true) (k,c,f,o,d)=fg):=by
   have e:aQ (l,a,true) (k,c,f,o,d)=ne:=by rw[HE.o,iO b2]
   exact⟨e,by rw[A.o,e,iO b2]⟩
  have hq:(ne != 0)=true:=by simpa using b2
  clear b2 HE A;go_wp2_with fail;go_at_call 34;refine Calls.mono (mH ne _) ?_;rintro e wz ⟨rfl,bz⟩;have M:=ge.o.th bz;have Q:=bz.bl gj.o;clear t0 t1 t2 t3 s0 s1 s2 s3 s4 k0 z;have⟨⟨z0,z1,z2,z3⟩,f0,f1,f2,f3⟩:=bY Q;have lb:=io Q;have GZ:=Z Q;have b6:=Z M;clear bz Q M;go_wp2_with fail;obtain⟨I,-,S,N⟩:=eK (u0:=nL) (u1:=nL) (u2:=nL) (u3:=.bool false) GZ.o;obtain⟨⟨y0,y1,y2,y3⟩,-⟩:=bY I;refine Ka (v:=.tuple #[.agg #[nL,nL,nL,.bool false],U ne]) ?_ rfl ⟨_,by rw[g.o.1],by rw[g.o.2];exact ga _ _,b6.o.trans (N _ (by omega)),λK _ _ _ _=>by rw[g.o.2];exact jX _ _⟩;rw[K8 rfl];clear I S N;go_simp
 subst b2;have gp:Hid (mM nr):=gk.o rfl;have a7:Hid (aQ (l,a,true) (k,c,f,o,d)=if lz a R=0 then (if k=7 then 0 else fm (gf a R)) else lz a R):=by unfold Hid;rw[HE.o,Io rfl]
 have ds:=Z λ(h:lz a R=0)=>Q3 ((dE (c8.o h)).1) ((dE (c8.o h)).2.1) (c8.o h)
 have l4:w.1.size+1+1<w4.1.size:=io gj.o;have n8:c9.1.size<w4.1.size:=by have:=io kw.o;exact this
 clear gk HE c8;go_wp2_with fail;go_at_call 37;refine Calls.mono (fT.o w4 ge.o) ?_;rintro e n ⟨E,P,F,G,n2,s,rfl,dv,gq,b5⟩;have e2:=Z gq;clear gq;have⟨W6,ce⟩:=nM (n.alloc (.cells #[.slice E P F,.slice G n2 s] 25));have cf:=bA ce;have g6:=hA ce;have e3:bL w4 W6:=b5.th cf;have⟨h2,h1,gs⟩:=a6.o W6 e3;have e4:=Z gs;have gv:=Z h2;have e5:=Z (A4 (dv.l cf lE) cf.size);have gT:=Z e3;have l6:=Z g6;have⟨x0,x1,ci,ck⟩:=ag g6;have gW:=(aF (a6.o n b5).2.1).1;have gY:=(aF (a6.o n b5).2.1).2.2.1;have n9:w.1.size+1<n.1.size:=io (a6.o n b5).2.1;have h0:w4.1.size<=n.1.size:=b5.size;have h5:=Z ce;have l7:=Z b5;have h6:=Z dv;have d5:Hid (lz a R=0->(gf a R).1=a.1):=λh=>by unfold gf;rw[Io h]
 clear t0 t1 t2 t3 s0 s1 s2 s3 s4 k0 z dv b5 ce cf g6 e3 h2 h1 gs fT;generalize lz a R=pe at*
 by_cases b8:pe=0
 case neg=>
  have g:Hid (aQ (l,a,true) (k,c,f,o,d)=pe/\bP (l,a,true) (k,c,f,o,d)=fg):=by
   have e:aQ (l,a,true) (k,c,f,o,d)=pe:=by rw[a7.o,iO b8]
   exact⟨e,by rw[A.o,e,iO b8]⟩
  have hq:(pe != 0)=true:=by simpa using b8
  clear b8 a7 A ds;go_wp2_with fail;rw[<-h5.o];go_at_call 34;refine Calls.mono (mH pe _) ?_;rintro e wz ⟨rfl,bz⟩;have M:=e4.o.th bz;have Q:=bz.bl gv.o;clear x0 x1 ci ck gW gY;have⟨⟨z0,z1,z2,z3⟩,f0,f1,f2,f3⟩:=bY Q;have lb:=io Q;have GZ:=Z Q;have b6:=Z M;clear bz Q M;go_wp2_with fail;obtain⟨I,-,S,N⟩:=eK (u0:=nL) (u1:=nL) (u2:=nL) (u3:=.bool false) GZ.o;obtain⟨⟨y0,y1,y2,y3⟩,-⟩:=bY I;refine Ka (v:=.tuple #[.agg #[nL,nL,nL,.bool false],U pe]) ?_ rfl ⟨_,by rw[g.o.1],by rw[g.o.2];exact ga _ _,b6.o.trans (N _ (by omega)),λK _ _ _ _=>by rw[g.o.2];exact jX _ _⟩;rw[K8 rfl];clear I S N;go_simp
 subst b8
 by_cases a8:k=7
 case pos=>
  have c7:(k==7)=true:=by simpa using a8
  have g:Hid (aQ (l,a,true) (k,c,f,o,d)=0/\bP (l,a,true) (k,c,f,o,d)=(aA,(a.1,(gf a R).2.take (ig f (gf a R).2.length)),false)):=by
   have e:aQ (l,a,true) (k,c,f,o,d)=0:=by rw[a7.o,Io rfl,Io a8]
   exact⟨e,by rw[A.o,e,Io rfl,Io a8]⟩
  have h7:Hid ((gf a R).1=a.1):=d5.o rfl;clear d5;have⟨m,hm⟩:=nM (ig f n2);have h8:Hid (ig f (gf a R).2.length=m):=by unfold Hid;rw[hm,e2.o]
  have nb:max 0 (min f (n2:Int))=(m:Int):=by rw[hm];unfold ig;omega
  have nc:m<=n2:=by rw[hm];unfold ig;omega
  have nd:n2<=s:=by obtain⟨_,_,t,-,⟨_,_,e,h,_⟩⟩:=e5.o;simp at t;rw[<-t.2] at e;simp at e;have:=e2.o;omega
  have m0:(0:Int)<=(m:Int):=by omega
  have mc:(m:Int)<=(s:Int):=by omega
  rw[h8.o] at g;clear a7 A di hm h8;have l9:=kT;obtain⟨cl,-,h9⟩:=a6.o n l7.o;have⟨⟨z0,z1,z2,z3⟩,f0,f1,f2,f3⟩:=bY cl;have lb:=io cl;have ld:¬w.1.size+1+1=n.1.size:=by omega
  have ha:¬n.1.size=w.1.size+1+1:=by omega
  have e6:=Z cl;have e7:=Z h9;have hf:Hid (m<=(gf a R).2.length):=by have:=e2.o;unfold Hid;omega
  clear cl h9;go_wp2_with fail;go_region
  all_goals
   go_wp2_with fail;have⟨I,z,S,N⟩:=eK (u0:=.slice (sO (n.1.size+1)) 4 4) (u1:=.slice E P F) (u2:=.slice G m s) (u3:=.bool false) e6.o;have⟨WS,hg⟩:=nM ((((n.setCell (pA (w.1.size+1+1) 0) (.slice (sO (n.1.size+1)) 4 4)).setCell (pA (w.1.size+1+1) 1) (.slice E P F)).setCell (pA (w.1.size+1+1) 2) (.slice G m s)).setCell (pA (w.1.size+1+1) 3) (.bool false))
   rw[<-hg] at I z S N |-
   have⟨WF,O⟩:=nM ((WS.alloc (.cells #[.slice E P F,.slice G m s] 25)).alloc (.cells (madeCells #[.bool false,nL,nL,U 0] 16) 46));have nf:WF.1.size=n.1.size+1+1:=by rw[O];simp[S]
   have gF:WF.1[w.1.size+1+1]?=some (.cells #[.slice (sO (n.1.size+1)) 4 4,.slice E P F,.slice G m s,.bool false] 27 (0,0)):=by rw[O,Kq _ _ _ (by simp;omega),Kq _ _ _ (by omega)];exact I
   have gM:WF.1[n.1.size+1]?=some (.cells (madeCells #[.bool false,nL,nL,U 0] 16) 46 (0,0)):=by rw[O];have:=ah (WS.alloc (.cells #[.slice E P F,.slice G m s] 25)) (.cells (madeCells #[.bool false,nL,nL,U 0] 16) 46);rw[Kg,S] at this;exact this
   have a9:Below n.1.size WS WF:=by rw[O];exact(bR.alloc (by omega) _).alloc (by simp;omega) _
   have bF:bL w WF:=(e7.o.trans (N _ (by omega))).trans (a9.mono e7.o.size);rw[<-O];clear O hg z0 z1 z2 z3 f0 f1 f2 f3 l9;have gD:WF.drew.1[w.1.size+1+1]?=some (.cells #[.slice (sO (n.1.size+1)) 4 4,.slice E P F,.slice G m s,.bool false] 27 (0,0)):=gF;obtain⟨⟨y0,y1,y2,y3⟩,-⟩:=bY gF;refine Ka (v:=.tuple #[.agg #[.slice (sO (n.1.size+1)) 4 4,.slice E P F,.slice G m s,.bool false],U 0]) ?_ rfl ⟨_,by rw[g.o.1],?_,bF.drew,?_⟩
   ·rw[K8 rfl];clear gF gM bF gD a9 I z S N;go_simp
   ·rw[g.o.2];have hz:=om.of e6.o;obtain⟨sv,tv,t,hs,ht⟩:=h6.o;simp at t;obtain⟨rfl,rfl⟩:=t;have ba:=((hs.box z hz.1).l a9 lE).wide (show n.1.size<=WF.1.size by omega);have e8:=((((ht.take m hf.o).box z hz.1).l a9 lE).wide (show n.1.size<=WF.1.size by omega));rw[h7.o] at ba;have hW:bi WF.1.size WF (.agg #[.slice (sO (n.1.size+1)) 4 4,.slice E P F,.slice G m s,.bool false]) (aA,(a.1,(gf a R).2.take m),false):=⟨_,_,_,rfl,(je gM).wide (by omega),ba,e8⟩;exact hW
   rw[g.o.2];intro K hK hO hW hR;have hz:=om.of e6.o;obtain⟨sv,tv,t,hs,ht⟩:=h6.o;simp at t;obtain⟨rfl,rfl⟩:=t;have ba:=((hs.box z hz.1).l a9 lE);have e8:=((((ht.take m hf.o).box z hz.1).l a9 lE));rw[h7.o] at ba;have nm:w.1.size<=n.1.size:=e7.o.size;have O:kG K WF (.agg #[.slice (sO (n.1.size+1)) 4 4,.slice E P F,.slice G m s,.bool false]) (aA,(a.1,(gf a R).2.take m),false):=zK (x:=(aA,(a.1,(gf a R).2.take m),false)) (uR gM (λe=>absurd (hK _ e) (by omega))) ba e8 (uT hO hK bF);exact O.l bR.drew (λ_ _ e=>e)
 have c7:(k==7)=false:=by simpa using a8
 rw[iO a8] at A;have⟨hh,hi,hj⟩:=ds.o rfl;have hn:Hid (aQ (l,a,true) (k,c,f,o,d)=fm (gf a R)):=by unfold Hid;rw[a7.o,Io rfl,iO a8]
 have da:Hid _:=di.o W6 _ (gf a R) e4.o e5.o hh hi
 have e9:Hid (fm (gf a R)=km (gf a R)/\i7 (gf a R)=p6 (gf a R)):=by
  have e1:fm (gf a R)=km (gf a R):=by unfold fm;rw[Io hj]
  exact⟨e1,by unfold i7 p6;rw[e1]⟩
 clear ds hh hi hj a7 di;go_wp2_with fail;rw[<-h5.o];go_at_call 38;refine Calls.mono da.o ?_;rintro e w7 ⟨a3,n3,c3,a4,n4,c4,rfl,hF,b7⟩;have g7:=b7.bl l6.o;have hJ:=b7.bl gv.o;have hL:=gT.o.th b7;have lo:=e4.o.th b7;clear x0 x1 ci ck gW gY;have⟨x0,x1,ci,ck⟩:=ag g7;have⟨j0,j1,j2⟩:=ic (u:=.slice a3 n3 c3) (v:=.slice a4 n4 c4) g7;have⟨W8,cp⟩:=nM ((w7.setCell (pA n.1.size 0) (.slice a3 n3 c3)).setCell (pA n.1.size 1) (.slice a4 n4 c4));rw[<-cp] at j0 j1 j2;have hM:Below w4.1.size w7 W8:=by rw[cp];exact(bR.setCell (p:=pA n.1.size 0) h0 _).setCell (p:=pA n.1.size 1) h0 _
 have ea:bL w4 W8:=hL.trans hM;obtain⟨hN,-,hP⟩:=a6.o W8 ea;have eb:=Z hP;have bb:=Z hN;have bc:=Z ea;have hQ:Hid (cJ W8.1.size W8 (.agg #[.slice a3 n3 c3,.slice a4 n4 c4]) (p6 (gf a R))):=by obtain⟨sv,tv,t,hs,ht⟩:=hF;simp at t;obtain⟨rfl,rfl⟩:=t;unfold Hid;rw[j2];exact⟨_,_,rfl,hs.box j1 (gw.of g7),ht.box j1 (gw.of g7)⟩
 obtain⟨v0,v1,-,-⟩:=ag j0;have l8:n.1.size<W8.1.size:=io j0;have hS:=Z cp;have ls:=Z hJ;clear hF b7 g7 hJ hL lo j0 j1 j2 cp hM ea hN hP e5 da
 have aa:Hid (aQ (l,a,true) (k,c,f,o,d)=km (gf a R)/\bP (l,a,true) (k,c,f,o,d)=if km (gf a R)=0 then (nr,p6 (gf a R),true) else fg):=by
  have e:aQ (l,a,true) (k,c,f,o,d)=km (gf a R):=by rw[hn.o,e9.o.1]
  exact⟨e,by rw[A.o,e,e9.o.2]⟩
 clear hn e9 A;generalize km (gf a R)=se at*;generalize p6 (gf a R)=sr at*
 by_cases cv:se=0
 case neg=>
  have g:=Z2 aa.o.1 (by rw[aa.o.2,iO cv]:bP (l,a,true) (k,c,f,o,d)=fg);have hq:(se != 0)=true:=by simpa using cv
  clear cv aa;go_wp2_with fail;rw[<-hS.o];go_at_call 34;refine Calls.mono (mH se _) ?_;rintro e wz ⟨rfl,bz⟩;have M:=eb.o.th bz;have Q:=bz.bl bb.o;clear x0 x1 ci ck v0 v1;have⟨⟨z0,z1,z2,z3⟩,f0,f1,f2,f3⟩:=bY Q;have lb:=io Q;have GZ:=Z Q;have b6:=Z M;clear bz Q M;go_wp2_with fail;obtain⟨I,-,S,N⟩:=eK (u0:=nL) (u1:=nL) (u2:=nL) (u3:=.bool false) GZ.o;obtain⟨⟨y0,y1,y2,y3⟩,-⟩:=bY I;refine Ka (v:=.tuple #[.agg #[nL,nL,nL,.bool false],U se]) ?_ rfl ⟨_,by rw[g.o.1],by rw[g.o.2];exact ga _ _,b6.o.trans (N _ (by omega)),λK _ _ _ _=>by rw[g.o.2];exact jX _ _⟩;rw[K8 rfl];clear I S N;go_simp
 subst cv;have g:=Z2 aa.o.1 (by rw[aa.o.2,Io rfl]:bP (l,a,true) (k,c,f,o,d)=(nr,sr,true));clear aa;have⟨⟨z0,z1,z2,z3⟩,f0,f1,f2,f3⟩:=bY ls.o;have ld:¬w.1.size+1+1=n.1.size:=by omega
 have ha:¬n.1.size=w.1.size+1+1:=by omega
 clear v0 v1;go_wp2_with fail;rw[<-hS.o];have⟨I,z,S,N⟩:=eK (u0:=.slice la ln lc) (u1:=.slice a3 n3 c3) (u2:=.slice a4 n4 c4) (u3:=.bool true) bb.o;obtain⟨⟨y0,y1,y2,y3⟩,-⟩:=bY I;refine Ka (v:=.tuple #[.agg #[.slice la ln lc,.slice a3 n3 c3,.slice a4 n4 c4,.bool true],U 0]) ?_ rfl ⟨_,by rw[g.o.1],?_,eb.o.trans (N _ (by omega)),?_⟩
 ·rw[K8 rfl];clear I z S N z0 z1 z2 z3 f0 f1 f2 f3;go_simp
 ·rw[g.o.2,S];have hz:=om.of bb.o;obtain⟨sv,tv,t,hs,ht⟩:=hQ.o;simp at t;obtain⟨rfl,rfl⟩:=t;exact⟨_,_,_,rfl,((kv.o.l bc.o lE).wide bc.o.size).boxK z hz (mN gp.o),hs.box z hz.1,ht.box z hz.1⟩
 rw[g.o.2];intro K hK hO hW hR;have hz:=om.of bb.o;obtain⟨sv,tv,t,hs,ht⟩:=hQ.o;simp at t;obtain⟨rfl,rfl⟩:=t;exact zK (x:=(nr,sr,true)) (((gc.o K hK hO hW hR).l bc.o (λ_ _ e=>e)).box bb.o (λe=>absurd (hK _ e) (by omega)) z S (N 0 (Ks _)) (mN gp.o)) (hs.box z hz.1) (ht.box z hz.1) (uT hO hK (eb.o.trans (N _ (by omega))))
theorem mW{x:aH}(h:cr x=0)(a:x.2.2=true):mM x.1:=by obtain⟨c,e,-,-,-,b⟩:=x8 h a;rw[e];exact iD b
theorem rC(B wv xv x y w)(i:dD w)(a:Lib.TabIs prog w "strings.asciiSpace" .u8 Lib.asciiSpaceTab)(d:bi B w wv x)(e:cI B w xv y)(f:B<=w.1.size)(j:cr x=0):s9 wv xv x y w:=by
 have g:=C4 j
 by_cases b:(y.1<1\/7<y.1)\/x.2.2=decide (y.1=6)
 ·exact zv B wv xv x y w d e f b
 have k:y.1=1\/y.1=2\/y.1=3\/y.1=4\/y.1=5\/y.1=6\/y.1=7:=by omega
 have c:y.1≠6->x.2.2=true:=λh=>by
  cases hb:x.2.2 with
  |true=>rfl
  |false=>exact absurd (.inr (by rw[hb,KD h])) b
 rcases k with h|h|h|h|h|h|h
 ·exact kQ B wv xv x y w i a d e f (.inl h) (c (by omega)) g (mW j (c (by omega)))
 ·exact kQ B wv xv x y w i a d e f (.inr (.inl h)) (c (by omega)) g (mW j (c (by omega)))
 ·exact kQ B wv xv x y w i a d e f (.inr (.inr (.inl h))) (c (by omega)) g (mW j (c (by omega)))
 ·exact kQ B wv xv x y w i a d e f (.inr (.inr (.inr (.inl h)))) (c (by omega)) g (mW j (c (by omega)))
 ·exact xD B wv xv x y w d e f h (c (by omega)) g
 ·refine xJ B wv xv x y w i d e f h ?_ g
  cases hb:x.2.2 with
  |false=>rfl
  |true=>exact absurd (.inr (by rw[hb,KS h])) b
 exact kQ B wv xv x y w i a d e f (.inr (.inr (.inr (.inr h)))) (c (by omega)) g (mW j (c (by omega)))
def IP(w:World)(k:Nat):Prop:=gw w k/\∀o a B f,w.cell? ⟨k,o,none⟩=some a->dR B w a f->f=[]
theorem wN{B w a n c f}(h:dR B w (.slice a n c) f)(g:f≠[]):∃b o z,a=some ⟨b,o,none⟩/\w.cell? ⟨b,o,none⟩=some (U z):=by
 obtain⟨p,j,e,-,-,k⟩:=h;simp at e;obtain⟨rfl,-,-⟩:=e
 cases f with
 |nil=>exact absurd rfl g
 |cons i l=>
  have⟨b,o,m,q,d⟩:=k 0 i rfl;unfold lm at d;exact⟨b,o,_,m,by simpa using d.1⟩
theorem IP.of{B}{w:World}{k:Nat}{cv sv tv:Value}{u T}{H:Nat × Nat}{x}(h:w.1[k]?=some (.cells #[cv,sv,tv,.bool u] T H))(I:bi B w (.agg #[cv,sv,tv,.bool u]) x):IP w k:=by
 obtain⟨J,L,M,e,D,E,F⟩:=I;simp at e;obtain⟨rfl,rfl,rfl,-⟩:=e
 have G:∀ {v:Value} {s:Bs},aI B w v s->∀j f,dR j w v f->f=[]:=by
  intro v s c j f i;obtain⟨a,t,rfl,-,-,A⟩:=c;refine L8 λn=>?_
  have⟨b,o,z,p,q⟩:=wN i n;obtain⟨_,_,e,-⟩:=i;simp at e
  cases s with
  |nil=>exact n (LA.1 (by simpa using e.2.1.symm))
  |cons y l=>
   obtain⟨g,N,m,-,r⟩:=A 0 y rfl;rw[p] at m;simp at m;obtain⟨rfl,rfl⟩:=m;rw[Nat.add_zero,q] at r;simp at r
 have C:∀j f,dR j w cv f->f=[]:=by
  intro j f i;obtain⟨a,t,rfl,-,-,A⟩:=D;refine L8 λn=>?_
  have⟨b,o,z,p,q⟩:=wN i n;obtain⟨_,_,e,-⟩:=i;simp at e
  cases hl:x.1 with
  |nil=>rw[hl] at e;exact n (LA.1 (by simpa using e.2.1.symm))
  |cons y l=>
   obtain⟨g,N,m,-,O,P,r,-⟩:=A 0 y (by rw[hl];rfl);rw[p] at m;simp at m;obtain⟨rfl,rfl⟩:=m;rw[Nat.zero_mul,Nat.add_zero,q] at r;simp at r
 have d:∀o v,w.cell? ⟨k,o,none⟩=some v->v=cv\/v=sv\/v=tv\/v=.bool u:=by
  intro o v c;have e:w.cell? ⟨k,o,none⟩=(#[cv,sv,tv,.bool u]:Array Value)[o]?:=by simp[World.cell?,h]
  rw[e] at c
  match o,c with
  |0,c=>simp at c;exact .inl c.symm
  |1,c=>simp at c;exact .inr (.inl c.symm)
  |2,c=>simp at c;exact .inr (.inr (.inl c.symm))
  |3,c=>simp at c;exact .inr (.inr (.inr c.symm))
  |o+4,c=>simp at c
 refine⟨λo K z e=>?_,λo Q j f e i=>?_⟩
 ·obtain⟨_,_,p,-⟩:=D;obtain⟨_,_,q,-⟩:=E;obtain⟨_,_,m,-⟩:=F
  rcases d o _ e with e|e|e|e
  ·rw[p] at e;cases e
  ·rw[q] at e;cases e
  ·rw[m] at e;cases e
  cases e
 rcases d o _ e with rfl|rfl|rfl|rfl
 ·exact C j f i
 ·exact G E j f i
 ·exact G F j f i
 obtain⟨_,_,e,-⟩:=i
 cases e
theorem DT{B k w w' v ls}(h:cD B w v ls)(d:iE k w w')(e:IP w k)(m:∀f∈ls,f≠[]):cD B w' v ls:=by
 obtain⟨a,c,n,p,q,r⟩:=h;refine⟨a,c,n,p,q,λi f g=>?_⟩;have⟨b,o,s,t,u,j,l⟩:=r i f g;refine⟨b,o,s,t,u,?_,tU l d e.1⟩;have x:b≠k:=by rintro rfl;exact m f (Kb g) (e.2 _ _ _ _ j l)
 rw[<-j];simp[World.cell?,d b x]
theorem aE.boxC{B k w w' v l}(h:aE B w v l)(d:iE k w w')(e:IP w k)(n:∀c∈l,∀f∈c.2.1,f≠[]):aE B w' v l:=by obtain⟨a,j,p,q,r,s⟩:=h;refine⟨a,j,p,q,r,λi c m=>?_⟩;have⟨b,o,t,u,x,y,z,A,C,g,D,E⟩:=s i c m;exact⟨b,o,t,u,x,y,d.near e.1 g z,d.near e.1 g A,d.near e.1 g C,d.cell e.1 g,DT D d e (n c (Kb m)),xC E d e.1⟩
theorem bi.boxC{B k w w' v x}(h:bi B w v x)(a:iE k w w')(b:IP w k)(d:∀c∈x.1,∀f∈c.2.1,f≠[]):bi B w' v x:=by obtain⟨g,i,j,e,l,m,n⟩:=h;exact⟨g,i,j,e,l.boxC a b d,m.box a b.1,n.box a b.1⟩
theorem Fo(n j:Nat)(u:Value)(h:(Builtin.zeroCells (Value.int .i64 0).cells n)[j]?=some u):∃m,u=U m:=by have a:=Array.mem_of_getElem? h;unfold Builtin.zeroCells at a;simp[Value.cells] at a;obtain⟨i,-,b⟩:=a;rw[Nat.mod_one] at b;exact⟨0,b.symm⟩
theorem Is(l)(j:Nat)(u:Value)(h:(eG l)[j]?=some u):∃m,u=U m:=by
 unfold eG at h;rw[Ku] at h
 cases hl:l[j]? with
 |none=>rw[hl] at h;cases h
 |some m=>rw[hl] at h;exact⟨m,(KG h).symm⟩
theorem uH(base:Nat)(G:TypeId)(v:Value)(l:List Int)(f)(g:Nat)(T0)(fr:Nat × Nat)(W:World)(c:W.ownsRow base 35 1 v l.length (eG l))(hI:∀k,v.ownBlock=some k->FT k W)(hg:W.1[g]?=some (.cells #[U f] T0 fr))(hn:l.length<=1000)(w:base<=W.1.size):
  ∃H L,(Builtin.append_ #[51,51] G #[v,.slice (sO g) 1 1]).run prog W=.ok H L/\L.ownsRow base 35 1 H (l++[f]).length (eG (l++[f]))/\W.grownBy L v.ownBlock/\(∀k,H.ownBlock=some k->FT k L)/\(H.ownBlock=v.ownBlock\/∃k,H.ownBlock=some k/\W.1.size<=k):=by
 obtain⟨d,o,x,b,y⟩:=E7;have a3:=ai;have a:∀j u,[Value.int .i64 f][j]?=some u->W.cell? (((pA g 0):Addr).add j)=some u:=λj u z=>by rw[eM,Kp];exact ab hg j (by simpa using z)
 have S:∀u∈[Value.int .i64 f],u.oneCell'=true:=λu T=>by simp at T;subst T;rfl
 obtain⟨V,X,i,o1,g1,-⟩:=LB (P:=prog) W base 51 G 35 d _ 1 8 Tryz.underlying51 o x b y rfl (by decide) v l.length (eG l) c (pA g 0) 1 1 [Value.int .i64 f] rfl a S (by omega) (by omega) w
 have M:X.ownsRow base 35 1 V (l++[f]).length (eG (l++[f])):=by
  have e:(l++[f]).length=l.length+1:=by simp
  rw[e,oP];exact o1
 have r:∀ (N:List Value) (j:Nat) (u:Value) (n:Nat),(∀j u,N[j]?=some u->∃m,u=Value.int .i64 m)->(N.toArray++[Value.int .i64 f].toArray++Builtin.zeroCells (Value.int .i64 0).cells n)[j]?=some u->∃m,u=Value.int .i64 m:=λN j u n hx h=>by
  rw[Array.getElem?_append] at h
  split at h
  ·rw[Array.getElem?_append] at h
   split at h
   ·exact hx j u (by simpa using h)
   have:=Kb (l:=[Value.int .i64 f]) (by simpa using h);simp at this;exact⟨f,this⟩
  exact Fo n _ u h
 refine⟨V,X,i,M,g1,?_⟩
 rcases c.2 with ⟨rfl,a7⟩|⟨F,A,p,rfl,a8,B,a9,aa,O,Q⟩
 ·have I:=run_append_nil (P:=prog) W 51 G 35 d _ Tryz.underlying51 o x (pA g 0) 1 1 [Value.int .i64 f] (by rw[b];rfl) a (by omega) (by omega) (by rw[y];omega);rw[I] at i;simp at i;obtain⟨rfl,rfl⟩:=i;refine⟨λk s=>?_,.inr ⟨W.1.size,rfl,Ke _⟩⟩;simp[Value.ownBlock] at s;subst s;exact⟨_,_,_,(Kr W.drew _).1,λj u z=>r [] j u _ (λj u h=>by simp at h) (by simpa using z)⟩
 by_cases C:l.length+1<=A
 ·have J:l.length*d.size+[Value.int .i64 f].length<=p.size:=by rw[b,O];simp;omega
  have I:=run_append_room (P:=prog) W 51 G 35 d Tryz.underlying51 o F l.length A p B (pA g 0) 1 1 [Value.int .i64 f] (by rw[b];rfl) a S C J;rw[I] at i;simp at i;obtain⟨rfl,rfl⟩:=i;refine⟨λk s=>?_,.inl rfl⟩;simp[Value.ownBlock] at s;subst s;have⟨Y,T',ac,D,R⟩:=hI F rfl;rw[B] at D;simp at D;obtain⟨rfl,-,-⟩:=D;refine⟨_,_,_,setRow_heap W F p _ _ _ B,λj u z=>?_⟩;have t:=Kb (by simpa using z);simp only[KB,Kz,List.not_mem_nil,or_false] at t;have K:u∈p.toList->∃m,u=U m:=λh=>by have⟨q,hq⟩:=LJ.1 h;exact R q u (by simpa using hq)
  rcases t with t|t|t
  ·exact K (KZ t)
  ·exact⟨f,t⟩
  exact K (List.mem_of_mem_drop t)
 have E:∀j u,(eG l)[j]?=some u->W.cell? (((pA F 0):Addr).add j)=some u:=c.cells (g:=F) rfl;have I:=run_append_grow (P:=prog) W 51 G 35 d _ Tryz.underlying51 o x (pA F 0) l.length A (eG l) (by rw[b,lq]) E (pA g 0) 1 1 [Value.int .i64 f] (by rw[b];rfl) a (by omega) (by omega) (MV (by omega) (by rw[y];omega));rw[I] at i;simp at i;obtain⟨rfl,rfl⟩:=i;refine⟨λk s=>?_,.inr ⟨W.1.size,rfl,Ke _⟩⟩;simp[Value.ownBlock] at s;subst s;exact⟨_,_,_,(Kr W.drew _).1,λj u z=>r (eG l) j u _ (Is l) (by simpa using z)⟩
theorem kG.boxC{K:Nat->Prop}{w n:World}{v cv sv tv:Value}{u x X}{a:Nat}{T}{o:Nat × Nat}(h:kG K w v x)(j:w.1[a]?=some (.cells #[cv,sv,tv,.bool u] T o))(C:kG K w (.agg #[cv,sv,tv,.bool u]) X)(M:¬K a)(p:∀g,g≠a->n.1[g]?=w.1[g]?)(q:n.1.size=w.1.size)(r:Below 0 w n)(D:∀c∈x.1,∀f∈c.2.1,f≠[]):kG K n v x:=by
 intro e l;have E:a<w.1.size:=(KK.1 j).1;have s:a<e.1.size:=Kd E (by rw[<-q];exact l.size);obtain⟨b,i⟩:∃b:World,b={ e with heap:=e.heap.setIfInBounds a (.cells #[cv,sv,tv,.bool u] T o) }:=⟨_,rfl⟩;have z:b.1[a]?=some (.cells #[cv,sv,tv,.bool u] T o):=by rw[i];simp[KC,s]
 have A:∀g,g≠a->b.1[g]?=e.1[g]?:=λg t=>by rw[i];simp[KC,LQ t]
 have B:b.1.size=e.1.size:=by rw[i];simp
 have m:Kx K w b:=by
  obtain⟨⟨F,G,H,I,-⟩,y⟩:=l;refine⟨⟨?_,?_,?_,?_,λk p=>absurd p (Nat.not_lt_zero k)⟩,λk J L=>?_⟩
  ·rw[i];exact F.trans r.os
  ·rw[i];exact G.trans r.tape
  ·rw[i];exact H.trans r.output
  ·rw[B,<-q];exact I
  by_cases d:k=a
  ·subst d;rw[z,j]
  rw[A k d,y k J (by rw[q];exact L),p k d]
 have:=(h b m).boxC (k:=a) (w':=e) (λg t=>(A g t).symm) (IP.of z (C b m)) D;rw[B] at this;exact this
