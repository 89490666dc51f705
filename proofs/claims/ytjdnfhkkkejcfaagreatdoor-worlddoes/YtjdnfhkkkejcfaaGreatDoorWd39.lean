import Derived.Test.YtjdnfhkkkejcfaaGreatDoorWd37
import Derived.Test.YtjdnfhkkkejcfaaGreatDoorWd38
import Derived.Lib.SmallJoins
set_option linter.all false
set_option maxRecDepth 100000
set_option maxHeartbeats 8000000
namespace Go.Proofs.YtjdnfhkkkejcfaaGreatDoor
open Go.RowKit Go.Maps Go.Proofs.Tryz
section
open Go.ChangeShapes Go.WideShapes Go.ChangeAt Go.Deep
theorem JF{H:Type}{b:TypeId × Value->H}{W:World}{r:Reach}{g base:Nat}{f:Nat->Bool}{a:Bool}{v:Value}{d:DataW H}{p:List MemPlace}
  (i:Value.okWide prog W r g 3 v) (h:DataW.Trod b prog W base f a 3 v d p):∃n,v=U n/\wf n:=by
 obtain⟨n,rfl⟩:=okWide_int Tryz.underlying3 i;obtain⟨c,j⟩:=h;have e:DataW.trod b prog W base f a c 3 [U n]=some (d,p):=j;have⟨m,q,_,k⟩:=KV Tryz.underlying3 e;simp at q;subst q;exact⟨n,rfl,k⟩
end
section
open Go.ChangeShapes Go.WideShapes Go.ChangeAt Go.Deep
theorem oN{H:Type}{c:TypeId × Value->H}{W:World}{base a:Nat}{l:Nat->Bool}{b:Bool}{d h:Value}{x:DataW H × List MemPlace}
  (m:DataW.trod c prog W base l b a 30 [d,h]=some x):∃o,aX W.1.size W (.agg #[d,h]) o:=by
 have⟨s,t,n,_,_,i,j⟩:=trod_struct2 Tryz.underlying30 m;have e:prog.cellsOf 28=1:=by kernel_rfl
 have f:prog.cellsOf 3=1:=by kernel_rfl
 simp[e,f] at i j;have⟨p,g⟩:=CI i;have⟨q,k,_,r⟩:=KV Tryz.underlying3 j;simp at k;subst k;exact⟨(p,q),d,rfl,r,g⟩
end
section
open Go.ChangeShapes Go.WideShapes Go.ChangeAt Go.Deep
theorem Dd{H:Type}{q:TypeId × Value->H}{W:World}{base:Nat}{G:Nat->Bool}{j:Bool}{k:Nat}{cv:Value}{x:DataW H × List MemPlace}(h:DataW.trod q prog W base G j k 23 [cv]=some x):∃I,aI W.1.size W cv I:=by
 rcases open_slice Tryz.underlying23 h with ⟨l,_⟩|⟨a,e,r,m,n,D,V,l,_,X,J,s,_,t⟩
 ·simp at l;subst l;exact⟨[],none,0,rfl,Ke _,Ks _,λi c u=>by simp at u⟩
 simp at l;subst l;have K:prog.cellsOf 5=1:=by kernel_rfl
 rw[K] at t;have L:e<=m:=by rw[s];split<;>omega
 have o:∀i,i<e->∃c:UInt8,a=⟨a.block,a.off,none⟩/\a.block<W.1.size/\W.cell? ⟨a.block,a.off+i,none⟩=some (.int .u8 (c.toNat:Int)):=by
  intro i Y
  have w:W.cell? (a.add 0)≠none:=by
   obtain⟨g,y,_⟩:=t 0 (by omega);have⟨_,d,b⟩:=Lh y;have:=b 0 (by omega);rw[add_add] at this;simp at this
   match g,d with
   |[M],_=>simp at this |-;rw[this];simp
  have⟨v,N⟩:=Lp.1 w;have⟨p,z⟩:=iX N;obtain⟨g,y,O⟩:=t i (by omega);have⟨_,d,b⟩:=Lh y
  match g,d with
  |[M],_=>
   have⟨A,F,_,P⟩:=KV Tryz.underlying5 O;simp at F;subst F;have B:=b 0 (by omega);rw[add_add,p,eM] at B;simp at B
   have hw:0<=A/\A<256:=by
    have Q:IntKind.u8.min=0:=by decide
    have R:IntKind.u8.max=255:=by decide
    simp only[Lit.wf,KU,L9,Q,R] at P;omega
   refine⟨UInt8.ofNat A.toNat,p,z,?_⟩;rw[B];congr 2;rw[UInt8.toNat_ofNat'];omega
 obtain⟨S,C,E⟩:=iU _ e o;refine⟨S,some a,r,by rw[C],by omega,J,λi f T=>?_⟩;have⟨p,z,u⟩:=E i f T;exact⟨a.block,a.off,by rw[<-p],z,u⟩
theorem tZ{H:Type}{f:TypeId × Value->H}{W:World}{base:Nat}{o:Nat->Bool}{a:Bool}{b:Nat}{cv:Value}{x:DataW H × List MemPlace}(h:DataW.trod f prog W base o a b 23 [cv]=some x)(i:∀n∈x.1.weights prog 23,n<=140737488351232):∃d,aI W.1.size W cv d/\d.length<=140737488351232:=by
 have⟨d,c⟩:=Dd h;refine⟨d,c,?_⟩;obtain⟨r,j,e,_⟩:=c;subst e
 rcases open_slice Tryz.underlying23 h with ⟨g,_⟩|⟨s,k,l,m,n,D,t,g,_,_,_,_,p,_⟩
 ·simp at g;omega
 simp at g;rw[p] at i;have q:prog.bytesOf 5=1:=by kernel_rfl
 have:=i _ (by simp only[DataW.weights,Tryz.underlying23];exact List.mem_cons_self);rw[q] at this;simp at this;omega
end
section
open Go.ChangeShapes Go.WideShapes Go.ChangeAt Go.Deep
theorem B3{H:Type}{t:TypeId × Value->H}{W:World}{base:Nat}{Y:Nat->Bool}{j:Bool}{o:Nat}{cv:Value}{x:DataW H × List MemPlace}(h:DataW.trod t prog W base Y j o 22 [cv]=some x):∃l,aE W.1.size W cv l:=by
 rcases open_slice Tryz.underlying22 h with ⟨p,_⟩|⟨a,f,u,m,n,D,Pl,p,_,hl,hm,w,_,y⟩
 ·simp at p;subst p;exact⟨[],none,0,rfl,Ke _,Ks _,λi c z=>by simp at z⟩
 simp at p;subst p;have h4:prog.cellsOf 46=4:=by kernel_rfl
 have A:prog.cellsOf 30=2:=by kernel_rfl
 have B:prog.cellsOf 4=1:=by kernel_rfl
 have C:prog.cellsOf 44=1:=by kernel_rfl
 rw[h4] at y;have a2:f<=m:=by rw[w];split<;>omega
 have q:∀i,i<f->∃c:aG,a=⟨a.block,a.off,none⟩/\a.block<W.1.size/\jN W.1.size W a.block (a.off+i*4) c:=by
  intro i hi
  have E:W.cell? (a.add 0)≠none:=by
   obtain⟨g,F,_⟩:=y 0 (by omega);have⟨_,d,b⟩:=Lh F;have:=b 0 (by omega);rw[add_add] at this;simp at this
   match g,d with
   |[v0,M,N,v3],_=>simp at this |-;rw[this];simp
  have⟨v,hv⟩:=Lp.1 E;have⟨s,G⟩:=iX hv;obtain⟨g,F,g2⟩:=y i (by omega);have⟨_,d,b⟩:=Lh F;have⟨y0,y1,y2,k,_,_,O,P,Q⟩:=trod_struct3 Tryz.underlying46 g2
  match g,d with
  |[v0,M,N,v3],_=>
   simp[A,B,C] at O P Q;have⟨ob,R,_⟩:=DataW.trod_bool Tryz.underlying4 O;simp at R;subst R;have⟨ls,I⟩:=EM P;have⟨pp,r⟩:=oN Q;have⟨rv,e,hd,aa⟩:=id r;simp at e;obtain⟨rfl,rfl⟩:=e;have S:=b 0 (by omega);have T:=b 1 (by omega);have V:=b 2 (by omega);have X:=b 3 (by omega);rw[add_add,s,eM] at S T V X;exact⟨(ob,ls,pp),s,G,M,N,by simpa using S,by simpa [KX] using T,by simpa [KX] using V,by simpa [KX] using X,I,r⟩
 obtain⟨l,J,K⟩:=iU _ f q;refine⟨l,some a,u,by rw[J],by omega,hm,λi c z=>?_⟩;have⟨s,G,L⟩:=K i c z;exact⟨a.block,a.off,by rw[<-s],G,L⟩
end
section
open Go.ChangeShapes Go.WideShapes Go.ChangeAt Go.Deep
theorem Jt{H:Type}{f:TypeId × Value->H}{W:World}{r:Reach}{w base:Nat}{y:Nat->Bool}{a:Bool}{v:Value}{d:DataW H}{p:List MemPlace}
  (z:Value.okWide prog W r w 32 v) (h:DataW.Trod f prog W base y a 32 v d p):∃x,cI W.1.size W v x:=by
 obtain⟨A,rfl,b⟩:=qi Tryz.underlying32 z;obtain⟨j,B⟩:=h;have⟨N,O,P,Q,n,_,_,k,m,o,q⟩:=Go.Joins.trod_struct4 Tryz.underlying32 B;have C:prog.cellsOf 32=5:=by kernel_rfl
 have g:prog.cellsOf 30=2:=by kernel_rfl
 have i:prog.cellsOf 3=1:=by kernel_rfl
 rw[C] at b;obtain⟨l⟩:=A
 match l,b with
 |[R,S,T,D,V],_=>
  simp[Value.cells,g,i] at k m o q;have⟨E,s,_,F⟩:=KV Tryz.underlying3 k;have⟨G,t,_,I⟩:=KV Tryz.underlying3 m;have⟨J,u,_,K⟩:=KV Tryz.underlying3 o;simp at s t u;subst s t u;have⟨L,c⟩:=oN q;have⟨X,e,Y,M⟩:=id c;simp at e;obtain⟨rfl,rfl⟩:=e;exact⟨(E,G,J,L),D,rfl,F,I,K,c⟩
theorem IL{H:Type}{i:TypeId × Value->H}{W:World}{r:Reach}{J base:Nat}{K:Nat->Bool}{c:Bool}{v:Value}{d:DataW H}{p:List MemPlace}
  (L:Value.okWide prog W r J 27 v) (h:DataW.Trod i prog W base K c 27 v d p) (y:∀n∈d.weights prog 27,n<=140737488351232):∃x,bi W.1.size W v x/\x.2.1.1.length+x.2.1.2.length<=300000000000000:=by
 obtain⟨M,rfl,f⟩:=qi Tryz.underlying27 L;obtain⟨z,N⟩:=h;have⟨O,j,P,n,e,_,A,B,C⟩:=trod_struct3 Tryz.underlying27 N;have Q:prog.cellsOf 27=4:=by kernel_rfl
 have R:prog.cellsOf 25=2:=by kernel_rfl
 have k:prog.cellsOf 23=1:=by kernel_rfl
 have o:prog.cellsOf 22=1:=by kernel_rfl
 have q:prog.cellsOf 4=1:=by kernel_rfl
 rw[Q] at f;have S:d=.agg [O.1,j.1,P.1]:=congrArg Prod.fst e;rw[S] at y;have u:∀n∈j.1.weights prog 25,n<=140737488351232:=λn g=>y n (by simp[DataW.weights,Tryz.underlying27,DataW.weightsEach,g])
 obtain⟨l⟩:=M
 match l,f with
 |[T,V,X,c3],_=>
  simp[Value.cells,o,R,q] at A B C;have⟨b,a⟩:=B3 A;have⟨Y,D,_⟩:=DataW.trod_bool Tryz.underlying4 C;simp at D;subst D;have⟨E,F,m,ee,_,G,I⟩:=trod_struct2 Tryz.underlying25 B;have w:j.1=.agg [E.1,F.1]:=congrArg Prod.fst ee;rw[w] at u;have v0:∀n∈E.1.weights prog 23,n<=140737488351232:=λn g=>u n (by simp[DataW.weights,Tryz.underlying25,DataW.weightsEach,g])
  have v1:∀n∈F.1.weights prog 23,n<=140737488351232:=λn g=>u n (by simp[DataW.weights,Tryz.underlying25,DataW.weightsEach,g])
  simp[k] at G I;have⟨s,hs,a4⟩:=tZ G v0;have⟨t,ht,a6⟩:=tZ I v1;exact⟨(b,(s,t),Y),⟨T,V,X,rfl,a,hs,ht⟩,by simp only[];omega⟩
end
def om(w:World)(k:Nat):Prop:=gw w k/\∀o a n c,w.cell? ⟨k,o,none⟩=some (.slice a n c)->n=0
theorem om.of{w:World}{k:Nat}{u T}{f:Nat × Nat}(h:w.1[k]?=some (.cells #[nL,nL,nL,.bool u] T f)):om w k:=by
 have d:∀o v,w.cell? ⟨k,o,none⟩=some v->v=nL\/v=.bool u:=by
  intro o v b;have e:w.cell? ⟨k,o,none⟩=(#[nL,nL,nL,.bool u]:Array Value)[o]?:=by simp[World.cell?,h]
  rw[e] at b
  match o,b with
  |0,b=>simp at b;exact .inl b.symm
  |1,b=>simp at b;exact .inl b.symm
  |2,b=>simp at b;exact .inl b.symm
  |3,b=>simp at b;exact .inr b.symm
  |o+4,b=>simp at b
 refine⟨λo K x e=>?_,λo a n c e=>?_⟩
 ·rcases d o _ e with e|e<;>cases e
 rcases d o _ e with e|e
 ·cases e;rfl
 cases e
theorem xC{B k w w' v p}(h:aX B w v p)(d:iE k w w')(f:gw w k):aX B w' v p:=by obtain⟨n,e,q,a,l,s,t,u,x⟩:=h;refine⟨n,e,q,a,l,s,t,u,λi r y=>?_⟩;have⟨b,o,z,A,C,D,m,E,F,g,G,H,I,J⟩:=x i r y;refine⟨b,o,z,A,C,d.near f m D,d.cell f m,E,F,g,G,H,I,λj c K=>?_⟩;have⟨L,M,N,O,P,Q,R,S⟩:=J j c K;exact⟨L,M,N,O,d.cell f P,d.cell f Q,d.cell f R,S⟩
theorem tU{B k w w' v f}(h:dR B w v f)(d:iE k w w')(e:gw w k):dR B w' v f:=by
 obtain⟨a,g,l,m,n,p⟩:=h;refine⟨a,g,l,m,n,λi c q=>?_⟩;have⟨b,o,r,s,j⟩:=p i c q;refine⟨b,o,r,s,?_⟩
 unfold lm at j |-
 obtain⟨t,u,x,y,z⟩:=j;exact⟨d.cell e t,d.cell e u,d.cell e x,d.cell e y,z⟩
theorem Cy{B k w w' v ls}(h:cD B w v ls)(g:iE k w w')(j:om w k)(n:∀f∈ls,f≠[]):cD B w' v ls:=by
 obtain⟨a,c,p,q,r,s⟩:=h;refine⟨a,c,p,q,r,λi f l=>?_⟩;have⟨b,o,t,u,x,d,m⟩:=s i f l;refine⟨b,o,t,u,x,?_,tU m g j.1⟩;have y:b≠k:=by rintro rfl;obtain⟨z,A,e,-⟩:=m;rw[e] at d;have:=j.2 _ _ _ _ d;exact n f (Kb l) (LA.1 this)
 rw[<-d];simp[World.cell?,g b y]
theorem aE.boxK{B k w w' v l}(h:aE B w v l)(d:iE k w w')(e:om w k)(n:∀c∈l,∀f∈c.2.1,f≠[]):aE B w' v l:=by obtain⟨a,j,p,q,r,s⟩:=h;refine⟨a,j,p,q,r,λi c m=>?_⟩;have⟨b,o,t,u,x,y,z,A,C,g,D,E⟩:=s i c m;exact⟨b,o,t,u,x,y,d.near e.1 g z,d.near e.1 g A,d.near e.1 g C,d.cell e.1 g,Cy D d e (n c (Kb m)),xC E d e.1⟩
theorem mN{l}(h:mM l):∀c∈l,∀f∈c.2.1,f≠[]:=by
 intro c d f b;have a:=h.2 c d
 cases ho:c.1 with
 |false=>
  have:=zt a.1 ho;rw[this] at b
  cases b
 |true=>
  have e:=(fA.1 (sj a.1 ho).1).2 f b;rintro rfl
  revert e
  decide
theorem kn.box{K:Nat->Prop}{w m:World}{v l}{a:Nat}{u T}{n:Nat × Nat}(h:kn K w v l)(j:w.1[a]?=some (.cells #[nL,nL,nL,.bool u] T n))(L:¬K a)(o:∀g,g≠a->m.1[g]?=w.1[g]?)(p:m.1.size=w.1.size)(q:Below 0 w m)(C:∀c∈l,∀f∈c.2.1,f≠[]):kn K m v l:=by
 intro e y;have D:a<w.1.size:=(KK.1 j).1;have r:a<e.1.size:=Kd D (by rw[<-p];exact y.size);obtain⟨b,i⟩:∃b:World,b={ e with heap:=e.heap.setIfInBounds a (.cells #[nL,nL,nL,.bool u] T n) }:=⟨_,rfl⟩;have z:b.1[a]?=some (.cells #[nL,nL,nL,.bool u] T n):=by rw[i];simp[KC,r]
 have A:∀g,g≠a->b.1[g]?=e.1[g]?:=λg s=>by rw[i];simp[KC,LQ s]
 have B:b.1.size=e.1.size:=by rw[i];simp
 have t:Kx K w b:=by
  obtain⟨⟨E,F,G,H,-⟩,x⟩:=y;refine⟨⟨?_,?_,?_,?_,λk o=>absurd o (Nat.not_lt_zero k)⟩,λk I J=>?_⟩
  ·rw[i];exact E.trans q.os
  ·rw[i];exact F.trans q.tape
  ·rw[i];exact G.trans q.output
  ·rw[B,<-p];exact H
  by_cases d:k=a
  ·subst d;rw[z,j]
  rw[A k d,x k I (by rw[p];exact J),o k d]
 have:=(h b t).boxK (k:=a) (w':=e) (λg s=>(A g s).symm) (om.of z) C;rw[B] at this;exact this
theorem ga(B w):bi B w (.agg #[nL,nL,nL,.bool false]) fg:=⟨_,_,_,rfl,eZ _ _,ip _ _,ip _ _⟩
theorem mH(e w):cL 33 #[U e] w λr a=>r=.returned (.tuple #[.agg #[nL,nL,nL,.bool false],U e])/\bL w a:=by have b:bL w (w.alloc (.cells #[nL,nL,nL,.bool false] 27)):=bR.alloc lE _;have c:=ah w (.cells #[nL,nL,nL,.bool false] 27);obtain⟨⟨d,f,g,h⟩,-⟩:=bY c;go_enter func33,ntmps33;go_wp2;refine Ka (v:=.tuple #[.agg #[nL,nL,nL,.bool false],U e]) ?_ rfl ⟨rfl,b⟩;rw[K8 rfl];go_simp
def sU(w:World)(a b:Array Value):World:=((w.alloc (.cells a 27)).alloc (.cells b 32)).alloc (.cells #[nL,nL,nL,.bool false] 27)
theorem lF(w a b):bL w (sU w a b)/\(sU w a b).1[w.1.size]?=some (.cells a 27 (0,0))/\(sU w a b).1[w.1.size+1]?=some (.cells b 32 (0,0))/\(sU w a b).1[w.1.size+1+1]?=some (.cells #[nL,nL,nL,.bool false] 27 (0,0)):=by
 unfold sU;refine⟨((bR.alloc lE _).alloc (by simp) _).alloc (by simp;omega) _,?_,?_,?_⟩
 ·rw[Kq _ _ _ (by simp;omega),Kq _ _ _ (by simp)];exact ah _ _
 ·rw[Kq _ _ _ (by simp)];have:=ah (w.alloc (.cells a 27)) (.cells b 32);rw[Kg] at this;exact this
 have:=ah ((w.alloc (.cells a 27)).alloc (.cells b 32)) (.cells #[nL,nL,nL,.bool false] 27);rw[Kg,Kg] at this;exact this
abbrev s9(b c:Value)(x:aH)(y:az)(w:World):Prop:=cL 13 #[b,c] w λe a=>∃v,e=.returned (.tuple #[v,U (aQ x y)])/\bi a.1.size a v (bP x y)/\bL w a/\∀K:Nat->Prop,(∀k,K k->k<w.1.size)->lZ K w.1.size w->kG K w b x->wU K w c y->kG K a v (bP x y)
theorem zv(B wv xv x y w)(hx:bi B w wv x)(hy:cI B w xv y)(hB:B<=w.1.size)(a:(y.1<1\/7<y.1)\/x.2.2=decide (y.1=6)):s9 wv xv x y w:=by
 obtain⟨N,O,P,Q,R,S,rfl,hc,hd⟩:=hx.shape;obtain⟨T,V,rfl,hp⟩:=hy.shape;obtain⟨H,⟨s,t⟩,u⟩:=x;obtain⟨k,c,f,I,d⟩:=y;simp only at*;clear hc hd hp hx hy;have⟨E,W⟩:=nM (aQ (H,(s,t),u) (k,c,f,I,d))
 have z:Hid (aQ (H,(s,t),u) (k,c,f,I,d)=E/\bP (H,(s,t),u) (k,c,f,I,d)=fg):=by
  refine⟨W.symm,?_⟩;unfold bP;rw[iO];unfold aQ;simp only
  by_cases b:k<1\/7<k
  ·rw[Io b];decide
  rw[iO b]
  rcases a with h|h
  ·exact absurd h b
  rw[Io h];decide
 have j:Hid (if k<1\/7<k then E=4 else E=6):=by
  unfold Hid;rw[W];unfold aQ;simp only
  by_cases b:k<1\/7<k
  ·rw[Io b,Io b]
  rw[iO b,iO b]
  rcases a with h|h
  ·exact absurd h b
  rw[Io h]
 clear W;generalize H.length=X at*;generalize s.length=Y at*;generalize t.length=nT at*;generalize I.length=nP at*;have⟨n,J,L,g2⟩:=lF w #[.slice N X O,.slice P Y Q,.slice R nT S,.bool u] #[U k,U c,U f,.slice T nP V,U d];have⟨WX,o⟩:=nM (sU w #[.slice N X O,.slice P Y Q,.slice R nT S,.bool u] #[U k,U c,U f,.slice T nP V,U d]);rw[<-o] at n J L g2;have A:Hid (WX=((w.alloc (.cells #[.slice N X O,.slice P Y Q,.slice R nT S,.bool u] 27)).alloc (.cells #[U k,U c,U f,.slice T nP V,U d] 32)).alloc (.cells #[nL,nL,nL,.bool false] 27)):=(o);have q3:=(bY J).1.2.2.2;have r0:=(aF L).1;have l0:=io J;have l1:=io L;have G2:=Z g2;have C:=Z n;clear o n J L g2
 by_cases b:k<1\/7<k
 ·have p:Hid (∀l,cL 34 #[U k,U 1,U 7] l λe q=>e=.returned (.bool false)/\q=l):=λl=>xm (by omega) l
  have e4:Hid (E=4):=by have:=j.o;rw[Io b] at this;exact this
  clear b a j;go_enter func13,ntmps13;go_wp2_with fail;rw[<-A.o];go_at_call 34;refine(p.o _).mono ?_;rintro e w2 ⟨rfl,rfl⟩;go_wp2_with fail;go_at_call 33;refine(mH 4 _).mono ?_;rintro e w3 ⟨rfl,g⟩;have m:=g.bl G2.o;have⟨⟨z0,z1,z2,z3⟩,f0,f1,f2,f3⟩:=bY m;have lb:=io m;have i:=C.o.th g;have G3:=Z m;have r:=Z i;clear g m i;go_wp2_with fail;obtain⟨D,-,k3,F⟩:=eK (u0:=nL) (u1:=nL) (u2:=nL) (u3:=.bool false) G3.o;obtain⟨⟨y0,y1,y2,y3⟩,-⟩:=bY D;refine Ka (v:=.tuple #[.agg #[nL,nL,nL,.bool false],U 4]) ?_ rfl ⟨_,by rw[z.o.1,e4.o],by rw[z.o.2];exact ga _ _,r.o.trans (F _ (by omega)),λK _ _ _ _=>by rw[z.o.2];exact jX _ _⟩;rw[K8 rfl];clear D k3 F;go_simp
 have p:Hid (∀l,cL 34 #[U k,U 1,U 7] l λe q=>e=.returned (.bool true)/\q=l):=λl=>mt (by omega) l
 have e6:Hid (E=6):=by have:=j.o;rw[iO b] at this;exact this
 have hu:u=decide (k=6):=by
  rcases a with h|h
  ·exact absurd h b
  exact h
 clear b a j
 by_cases M:k=6
 all_goals
  first|(have G:u=true:=by rw[hu];simp[M])|(have G:u=false:=by rw[hu];simp[M])
  subst G
  first|subst M|(have bb:(k != 6)=true:=by simpa using M)
  clear hu;go_enter func13,ntmps13;go_wp2_with fail;rw[<-A.o];go_at_call 34;refine(p.o _).mono ?_;rintro e w2 ⟨rfl,rfl⟩;go_wp2_with fail;go_at_call 33;refine(mH 6 _).mono ?_;rintro e w3 ⟨rfl,g⟩;have m:=g.bl G2.o;have⟨⟨z0,z1,z2,z3⟩,f0,f1,f2,f3⟩:=bY m;have lb:=io m;have i:=C.o.th g;have G3:=Z m;have r:=Z i;clear g m i;go_wp2_with fail;obtain⟨D,-,k3,F⟩:=eK (u0:=nL) (u1:=nL) (u2:=nL) (u3:=.bool false) G3.o;obtain⟨⟨y0,y1,y2,y3⟩,-⟩:=bY D;refine Ka (v:=.tuple #[.agg #[nL,nL,nL,.bool false],U 6]) ?_ rfl ⟨_,by rw[z.o.1,e6.o],by rw[z.o.2];exact ga _ _,r.o.trans (F _ (by omega)),λK _ _ _ _=>by rw[z.o.2];exact jX _ _⟩;rw[K8 rfl];clear D k3 F;go_simp
theorem rR{w}{x:az}(h:lC w x=0):cr w=0/\aQ w x=0/\oA w x=gK w x:=by
 have b:=h;unfold lC at h
 by_cases a:cr w=0
 ·rw[Io a] at h;refine⟨a,h,?_⟩;unfold oA bP;rw[Io b,Io h]
 rw[iO a] at h;exact absurd h a
theorem kB{w}{x:az}(h:aQ w x=0):(1<=x.1/\x.1<=7)/\w.2.2≠decide (x.1=6)/\(x.1=6->(ay (cK w.2.1)).2=0)/\(x.1≠5->x.1≠6->cQ w.1 (bU x)=0/\f8 w.2.1 (bU x)=0/\(x.1≠7->fm (fu w.2.1 (bU x))=0)):=by
 unfold aQ at h
 by_cases d:x.1<1\/7<x.1
 ·rw[Io d] at h;cases h
 rw[iO d] at h
 by_cases c:w.2.2=decide (x.1=6)
 ·rw[Io c] at h;cases h
 rw[iO c] at h;refine⟨by omega,c,λe=>?_,λf g=>?_⟩
 ·rw[iO (by omega),Io e] at h;exact h
 rw[iO f,iO g] at h
 by_cases a:cQ w.1 (bU x)=0
 ·rw[Io a] at h
  by_cases b:f8 w.2.1 (bU x)=0
  ·rw[Io b] at h;refine⟨a,b,λi=>?_⟩;rw[iO i] at h;exact h
  rw[iO b] at h;exact absurd h b
 rw[iO a] at h;exact absurd h a
theorem GI{w:aH}{x:az}(h:w.2.2≠decide (x.1=6))(a:x.1≠6):w.2.2=true:=by
 cases hw:w.2.2 with
 |true=>rfl
 |false=>rw[hw] at h;simp[a] at h
theorem Jf{w}{x:az}(h:lC w x=0)(l:x.1≠5)(d:x.1≠6)(m:x.1≠7):∃a,yh w a/\cQ w.1 (bU x)=0/\yh (oA w x) (a++[bU x])/\(oA w x).1=dI w.1 (bU x):=by
 have⟨z,A,n⟩:=rR h;obtain⟨-,B,-,C⟩:=kB A;have⟨f,o,b⟩:=C l d;have b:=b m;have⟨a,p⟩:=x8 z (GI B d);obtain⟨rfl,g,q,i,j⟩:=id p
 simp only at f o b n |-
 have⟨r,s,t,u⟩:=CV g q i o;rw[t] at b;have⟨k,D⟩:=Iq g q r s u;rw[b] at k
 have v:a.length+1<=40:=by
  apply L8;intro e;rw[iO e] at k
  cases k
 have c:=BP v j f;have y:oA ((ay a).1,(bZ a,[]),true) x=(dI (ay a).1 (bU x),(bZ (a++[bU x]),[]),true):=by rw[n];unfold gK;rw[iO l,iO d,iO m];simp only;rw[t,D v]
 refine⟨a,p,f,⟨by rw[y,c],z9 g r s,by simp;omega,by rw[j7,Kj];exact u,by rw[c]⟩,by rw[y]⟩
theorem IJ{w:aH}{x:az}(h:lC w x=0)(z:x.1=7):∃a,yh w a/\cQ w.1 (bU x)=0/\(oA w x).1=aA/\(oA w x).2.2=false/\aB (oA w x).2.1=0/\
  (cK (oA w x).2.1=a/\gE (oA w x).2.1=(bZ a,[])\/a.length+1<=40/\cK (oA w x).2.1=a++[bU x]/\gE (oA w x).2.1=(bZ (a++[bU x]),[])/\aZ (bU x)=0/\(aU (bU x)).length<=60000/\(bZ a).length+(aU (bU x)++[10]).length<=60000/\f8 w.2.1 (bU x)=0):=by
 have⟨A,B,r⟩:=rR h;obtain⟨-,C,-,g⟩:=kB B;obtain⟨s,i,-⟩:=g (by omega) (by omega);obtain⟨a,u⟩:=x8 A (GI C (by omega));obtain⟨rfl,c,d,j,D⟩:=id u
 simp only at s i r |-
 have⟨f,v,E,F⟩:=CV c d j i;have⟨m,G⟩:=nM (ig x.2.2.1 (aU (bU x)++[10]).length);have H:oA ((ay a).1,(bZ a,[]),true) x=(aA,(bZ a,(aU (bU x)++[10]).take m),false):=by rw[r];unfold gK;rw[iO (by omega),iO (by omega),Io z];simp only;rw[E,G]
 rw[H]
 have b:(bZ a).length+((aU (bU x)++[10]).take m).length<=60000:=by
  have:((aU (bU x)++[10]).take m).length<=(aU (bU x)++[10]).length:=by rw[Kt];omega
  omega
 have l:=gN (t:=(aU (bU x)++[10]).take m) c d b;refine⟨a,u,s,rfl,rfl,l,?_⟩;have I:cK (bZ a,(aU (bU x)++[10]).take m)=a++(aM (40-a.length) ((aU (bU x)++[10]).take m)).1:=by unfold cK iF mu;rw[Io l];simp only;rw[pI c d]
 have J:gE (bZ a,(aU (bU x)++[10]).take m)=(bZ a++((aU (bU x)++[10]).take m).take (aM (40-a.length) ((aU (bU x)++[10]).take m)).2.1,[]):=by unfold gE jB mu;rw[Io l];simp only;rw[pI c d]
 rw[I,J]
 by_cases n:m<=(aU (bU x)).length
 ·
  left;have o:(aU (bU x)++[10]).take m=(aU (bU x)).take m:=List.take_append_of_le_length n;rw[o];have p:(10:UInt8) ∉ (aU (bU x)).take m:=λe=>zr f (KZ e)
  by_cases y:(aU (bU x)).take m=[]
  ·rw[y,jJ];simp
  rw[oT _ _ p y];simp
 have o:(aU (bU x)++[10]).take m=aU (bU x)++10 :: []:=by rw[Ki (by simp;omega)]
 rw[o,jZ _ _ _ (zr f),wH f v,Io rfl]
 by_cases q:a.length+1<=40
 ·right;obtain⟨k,g⟩:∃k,40-a.length=k+1:=⟨39-a.length,by omega⟩;rw[g];simp only;rw[jJ];refine⟨q,by simp,?_,f,v,F,i⟩;rw[j7,Ki (by simp)]
 left;rw[show 40-a.length=0 by omega];simp
theorem Hm{w}{x:az}(h:lC w x=0)(c:x.1=5):∃a,yh w a/\oA w x=(aA,(bZ a,[]),false):=by have⟨d,e,f⟩:=rR h;obtain⟨-,g,-,-⟩:=kB e;obtain⟨a,b⟩:=x8 d (GI g (by omega));refine⟨a,b,?_⟩;obtain⟨rfl,-⟩:=id b;rw[f];unfold gK;rw[Io c]
theorem Iv{w}{x:az}(h:lC w x=0)(c:x.1=6):w.2.2=false/\yh (oA w x) (cK w.2.1):=by
 have⟨d,i,j⟩:=rR h;obtain⟨-,g,k,-⟩:=kB i;have e:=k c
 have l:w.2.2=false:=by
  cases hv:w.2.2 with
  |false=>rfl
  |true=>rw[hv] at g;simp[c] at g
 have a:aB w.2.1=0:=by
  unfold cr at d
  by_cases a:aB w.2.1=0
  ·exact a
  rw[iO a] at d;exact d
 have⟨p,b,m,n,o,f⟩:=FF a;refine⟨l,?_,by rw[b];exact n,by rw[b];exact o,by rw[b];exact f,e⟩;rw[j];unfold gK;rw[iO (by omega),Io c,m,b]
theorem Ce{w}{x:az}(h:lC w x=0):cr (oA w x)=0:=by
 by_cases f:x.1=5
 ·obtain⟨g,⟨-,m,n,d,-⟩,e⟩:=Hm h f;rw[e];exact vu _ (gN m n (by simpa using d))
 by_cases d:x.1=6
 ·exact(Iv h d).2.right
 by_cases i:x.1=7
 ·obtain⟨g,-,-,j,k,l,-⟩:=IJ h i;generalize oA w x=y at*;obtain⟨a,b,c⟩:=y;simp only at j k l;subst j k;exact vu _ l
 obtain⟨g,-,-,o,-⟩:=Jf h f d i;exact o.right
def xp(s:aH × List Int)(x:az):aH × List Int:=(if lC s.1 x=0 then oA s.1 x else s.1,s.2++[lC s.1 x])
def fk(w:aH)(l:List az):aH × List Int:=l.foldl xp (w,[])
def qU(w:aH)(l:List az):Int:=if cr w=0 then (if 60<l.length then 2 else 0) else cr w
def nz(w:aH)(l:List az):aH:=if qU w l=0 then (fk w l).1 else fg
def qV(w:aH)(l:List az):List Int:=if qU w l=0 then (fk w l).2 else []
theorem yC(w)(a:List az)(x:az):fk w (a++[x])=xp (fk w a) x:=by unfold fk;rw[Mu];rfl
def Eb(w:aH):List aG:=(ay (cK w.2.1)).1
def kp(w:aH)(c:Int)(x:Nat->Int):Int:=if cr w=0 then (if c<0\/3<c then 5 else if (bW w.1 c).1=true then mQ (bW w.1 c).2.1 x else 6) else cr w
def qu(w:aH)(c:Int)(x:Nat->Int):Int:=if kp w c x=0 then t6 (bW w.1 c).2.1 x else 0
theorem yh.stored{w rs}(h:yh w rs):Eb w=w.1/\cK w.2.1=rs/\(ay rs).2=0/\mM w.1:=by obtain⟨rfl,b,c,d,a⟩:=h;have e:=(qQ b c d).1;exact⟨by unfold Eb;simp only;rw[e],e,a,iD a⟩
theorem CZ(B lv rs w)(hl:dh B w lv rs)(hB:B<=w.1.size):
  cL 59 #[lv] w λe f=>∃v,e=.returned (.tuple #[v,U (ay rs).2])/\wG w.1.size f v (ay rs).1/\bL w f:=by
 have HL:=Z λf (h:bL w f)=>hl.l h hB
 have a1:Hid (∀f z K b r,aE f.1.size f z b->cI f.1.size f K r->cL 92 #[z,K] f λe l=>∃v,e=.returned (.tuple #[v,U (cQ b r)])/\wG f.1.size l v (dI b r)/\bL f l):=λf z K b r h1 h2=>Bd f.1.size z K b r f h1 h2 lE
 have X:Hid (ay rs=if 40<rs.length then ([],2) else rs.foldl db (aA,0)):=rfl;obtain⟨a,ba,rfl,a2,bb,-⟩:=hl;have bc:=ai;have⟨n,hn⟩:=nM (rs.length);have HN:=Z hn.symm
 rw[<-hn] at X HL a2 |-
 clear hn;have⟨L,A⟩:=nM ((ay rs).1);have⟨M,C⟩:=nM ((ay rs).2);have m:Hid ((L,M)=ay rs):=by rw[A,C];rfl
 rw[<-A,<-C];clear A C
 by_cases N:40<n
 ·have O:(40:Int)<(n:Int):=by omega
  have u:Hid (L=[]/\M=2):=by
   have:=m.o;rw[X.o,Io N] at this;unfold Hid
   simpa using this
  go_enter func59,ntmps59;go_wp2_with fail;go_ret2;exact⟨_,by rw[u.o.2];rfl,by rw[u.o.1];exact ib _ _,Kf _ _⟩
 have O:¬(40:Int)<(n:Int):=by omega
 have P:=Z (by rw[m.o,X.o,iO N]:(L,M)=rs.foldl db (aA,0));clear X m;go_enter func59,ntmps59;go_wp2_with fail;go_at_call 32;refine(A8 w).mono ?_;rintro e W1 ⟨v1,rfl,o,a4⟩;obtain⟨bd,bf,Q,-,-⟩:=o.at.shape;have R:=Z o;have e4:aA.length=4:=rfl;rw[e4] at Q;subst Q;clear o e4;go_wp2_with fail;go_loopw [4,15] (λz iv wr=>∃k:Nat,k<=n/\iv=U k/\(∃ca cc,z=.slice ca 4 cc)/\Hid (∃b,(rs.take k).foldl db (aA,0)=(b,0)/\wG w.1.size wr z b/\b.length=4)/\Hid (bL w wr)) (λ_ iv _=>n-(intOf iv).toNat)
 case atStart=>exact⟨0,by omega,rfl,⟨_,_,rfl⟩,⟨aA,rfl,R.o,rfl⟩,a4⟩
 case round=>
  obtain⟨k,hk,rfl,⟨ca,cc,rfl⟩,Y,s⟩:=hrel;have⟨wo,a8⟩:=nM (wr);subst a8;have i0:(0:Int)<=(k:Int):=by omega
  have bk:=s.o.size
  by_cases bm:k<n
  ·have i1:(k:Int)<(n:Int):=by omega
   obtain⟨r,D⟩:∃r,rs[k]?=some r:=⟨rs[k]'(by rw[HN.o];omega),by simp⟩;obtain⟨b,j,c,t⟩:=Y.o;have E:=tJ rs k r D (aA,0);rw[j] at E;obtain⟨_,_,x,-,-,S⟩:=HL.o _ s.o;have⟨b3,o3,e,b0,a9⟩:=S k r D;simp at x;obtain⟨rfl,-,-⟩:=x;subst e;obtain⟨K,q0,q1,q2,q3,q4,F⟩:=a9;obtain⟨ra,T,er,-⟩:=F.shape;simp at er;subst er;generalize aa:r.2.2.2.1.length=rl at*;clear S D aa;have⟨W5,G⟩:=nM (wo.alloc (.cells #[U r.1,U r.2.1,U r.2.2.1,.slice ra rl T,U r.2.2.2.2] 70));have p:=bA G;have g:Hid (cL 92 #[.slice ca 4 cc,.agg #[U r.1,U r.2.1,U r.2.2.1,.slice ra rl T,U r.2.2.2.2]] W5 λe l=>∃v,e=.returned (.tuple #[v,U (cQ b r)])/\wG W5.1.size l v (dI b r)/\bL W5 l):=a1.o W5 _ _ b r (c.l p λ_ _ h=>h).at (iW (F.l p (by omega)) (by have:=p.size;omega));have y:=Z (s.o.th p);have ac:=Z G;have V:=Z E;have ad:=Z t;clear G p F c j E t Y;go_wp2_with fail;rw[<-ac.o];go_at_call 92;refine g.o.mono ?_;rintro e w6 ⟨v6,rfl,q,H⟩;have i:=y.o.th H;obtain⟨na,nc,ev,-,-⟩:=q.at.shape;subst ev
   by_cases d:cQ b r=0
   ·have x:(rs.take (k+1)).foldl db (aA,0)=(dI b r,0):=by rw[V.o];unfold db;rw[Io rfl];simp only;rw[Io d]
    have e2:(dI b r).length=4:=by rw[vK d,List.length_set];exact ad.o
    rw[e2] at q |-
    rw[d];have W:Hid (∃I,(rs.take (k+1)).foldl db (aA,0)=(I,0)/\wG w.1.size w6 (.slice na 4 nc) I/\I.length=4):=⟨_,x,q.l bR λk _ h=>Kd h y.o.size,e2⟩;have J:=Z i;clear x e2 q H i d g;go_wp2_with fail;exact⟨⟨k+1,by omega,by go_num,⟨na,nc,rfl⟩,W,J⟩,by simp[intOf];omega⟩
   have x:(rs.take (k+1)).foldl db (aA,0)=([],cQ b r):=by rw[V.o];unfold db;rw[Io rfl];simp only;rw[iO d]
   have u:Hid (L=[]/\M=cQ b r):=by
    have:=P.o;rw[ug rs (k+1) _ d _ x] at this;unfold Hid
    simpa using this
   have J:=Z i;have hq:(cQ b r != 0)=true:=by simpa using d
   generalize (dI b r).length=nl at*;generalize cQ b r=ne at*;clear x q H i d g;go_wp2_with fail;go_ret2;exact⟨_,by rw[u.o.2];rfl,by rw[u.o.1];exact ib _ _,J.o⟩
  obtain⟨b,j,c,t⟩:=Y.o
  have u:Hid (L=b/\M=0):=by
   have:=P.o;rw[Ki (by rw[HN.o];omega)] at j;rw[j] at this;unfold Hid
   simpa using this
  have af:=Z c;clear j c t Y;go_wp2_with fail;go_ret2;exact⟨_,by rw[u.o.2];rfl,by rw[u.o.1];exact af.o,s.o⟩
def gJ:List az:=[(1,1,0,kj),(2,1,0,gQ),(2,1,0,kj),(5,0,0,[],0),(4,1,0,[],0),(6,0,0,[],0)]
theorem EU:(fk kz gJ).2=[0,0,7,0,6,0]:=by decide +kernel
theorem vW:qU kz gJ=0:=by decide +kernel
theorem Ii:(nz kz gJ).2.2=true:=by decide +kernel
theorem yt:kp (nz kz gJ) 1 (oz 0 0 0 8 0)=0/\qu (nz kz gJ) 1 (oz 0 0 0 8 0)=2:=by decide +kernel
theorem Fk:kp (nz kz gJ) 2 (oz 0 0 0 0 0)=6:=by decide +kernel
theorem C4{x:aH}(h:cr x=0):aB x.2.1=0:=by
 unfold cr at h
 by_cases a:aB x.2.1=0
 ·exact a
 rw[iO a] at h;exact h
theorem JY{x:aH}(h:cr x=0):sW x.2.1:=Al (C4 h)
theorem bi.wide{B b:Nat}{w v x}(h:bi B w v x)(a:B<=b):bi b w v x:=by obtain⟨c,d,e,f,g,i,j⟩:=h;exact⟨c,d,e,f,g.wide a,i.wide a,j.wide a⟩
section
structure K5 (kc ka:Nat) (W:World) (G:World->Value->Prop) (fs:Nat->Value->Prop) (w:World):Prop where
 below:bL W w
 call:∀u,fs kc u->G w u
 box:∀u,fs ka u->∃g:Nat,u=.pointer (sO g)/\W.1.size<=g/\w.1[g]?=some (.cells #[nL,nL,nL,.bool false] 27 (0,0))
 oneC:∀u v,fs kc u->fs kc v->u=v
 oneA:∀u v,fs ka u->fs ka v->u=v
def Cl(kc ka ks:Nat)(W:World)(G:World->Value->Prop)(fs:Nat->Value->Prop)(w:World):Prop:=
 ((∀u,¬fs ks u)/\K5 kc ka W G fs w)\/((∃u,fs ks u)/\(∃u,fs kc u)/\(∃u,fs ka u)/\bL W w/\(∀u,fs kc u->G w u)/\∀u a b c d e f,fs ka u->fs kc (.tuple #[.agg #[a,b,c,d],e,f])->∃g:Nat,u=.pointer (sO g)/\W.1.size<=g/\w.1[g]?=some (.cells #[a,b,c,d] 27 (0,0)))
section
variable {kc ka ks:Nat} {W w w':World} {G:World->Value->Prop} {fs:Nat->Value->Prop}
theorem Cl.start(kc ka ks W)(G:World->Value->Prop):Cl kc ka ks W G (λ_ _=>False) W.drew:=.inl ⟨λ_ h=>h,bR.drew,λ_ h=>h.elim,λ_ h=>h.elim,λ_ _ h=>h.elim,λ_ _ h=>h.elim⟩
theorem Cl.below(h:Cl kc ka ks W G fs w):bL W w:=by
 rcases h with ⟨_,h⟩|⟨_,_,_,h,_⟩
 ·exact h.below
 exact h
theorem Cl.ahead(h:Cl kc ka ks W G fs w){k:Nat}(e:k=kc\/k=ka\/k=ks)(d:∀v,¬fs k v):(∀u,¬fs ks u)/\K5 kc ka W G fs w:=by
 rcases h with h|⟨⟨a,f⟩,⟨b,g⟩,⟨c,i⟩,_⟩
 ·exact h
 rcases e with rfl|rfl|rfl
 ·exact absurd g (d _)
 ·exact absurd i (d _)
 exact absurd f (d _)
theorem Cl.call(h:Cl kc ka ks W G fs w)(o:∀w w' u,bL w w'->G w u->G w' u)(k:ks≠kc)(d:ka≠kc)(c:∀v,¬fs kc v)(f:bL w w'){v:Value}(l:G w' v):Cl kc ka ks W G (d9 fs kc v) w':=by
 have⟨m,h⟩:=h.ahead (.inl rfl) c;refine .inl ⟨λu a=>?_,h.below.th f,λu a=>?_,λu a=>?_,λu i a b=>?_,λu i a b=>?_⟩
 ·rcases a with a|⟨e,_⟩
  ·exact m u a
  exact k e
 ·rcases a with a|⟨_,rfl⟩
  ·exact absurd a (c _)
  exact l
 ·rcases a with a|⟨e,_⟩
  ·have⟨g,e,n,j⟩:=h.box u a;exact⟨g,e,n,(f.block g (io j)).trans j⟩
  exact absurd e d
 ·rcases a with a|⟨_,rfl⟩
  ·exact absurd a (c _)
  rcases b with b|⟨_,rfl⟩
  ·exact absurd b (c _)
  rfl
 rcases a with a|⟨e,_⟩
 ·rcases b with b|⟨e,_⟩
  ·exact h.oneA u i a b
  exact absurd e d
 exact absurd e d
theorem Cl.made(h:Cl kc ka ks W G fs w)(i:∀w w' u,bL w w'->G w u->G w' u)(j:ks≠ka)(d:kc≠ka)(c:∀v,¬fs ka v):Cl kc ka ks W G (d9 fs ka (.pointer (sO w.1.size))) (w.alloc (.cells #[nL,nL,nL,.bool false] 27)):=by
 have⟨k,h⟩:=h.ahead (.inr (.inl rfl)) c;have f:=(Kf w.1.size w).alloc lE (.cells #[nL,nL,nL,.bool false] 27);refine .inl ⟨λu a=>?_,h.below.th f,λu a=>?_,λu a=>?_,λu g a b=>?_,λu g a b=>?_⟩
 ·rcases a with a|⟨e,_⟩
  ·exact k u a
  exact j e
 ·rcases a with a|⟨e,_⟩
  ·exact i _ _ u f (h.call u a)
  exact absurd e d
 ·rcases a with a|⟨_,rfl⟩
  ·exact absurd a (c _)
  exact⟨_,rfl,h.below.size,ah _ _⟩
 ·rcases a with a|⟨e,_⟩
  ·rcases b with b|⟨e,_⟩
   ·exact h.oneC u g a b
   exact absurd e d
  exact absurd e d
 rcases a with a|⟨_,rfl⟩
 ·exact absurd a (c _)
 rcases b with b|⟨_,rfl⟩
 ·exact absurd b (c _)
 rfl
theorem Cl.store(h:Cl kc ka ks W G fs w)(b:∀w w' u g,G w u->w.1[g]?=some (.cells #[nL,nL,nL,.bool false] 27 (0,0))->iE g w w'->w'.1.size=w.1.size->G w' u)(n:kc≠ks)(r:ka≠ks)(c:∀v,¬fs ks v){d f i j s t:Value}(o:fs kc (.tuple #[.agg #[d,f,i,j],s,t])){g:Nat}(k:fs ka (.pointer (sO g))):w.1[g]?=some (.cells #[nL,nL,nL,.bool false] 27 (0,0))/\Cl kc ka ks W G (d9 fs ks undef) ((((w.setCell (pA g 0) d).setCell (pA g 1) f).setCell (pA g 2) i).setCell (pA g 3) j):=by
 have⟨C,h⟩:=h.ahead (.inr (.inr rfl)) c;obtain⟨D,e,p,l⟩:=h.box _ k;simp at e;subst e;have⟨x,y,z,A⟩:=eK (u0:=d) (u1:=f) (u2:=i) (u3:=j) l;refine⟨l,.inr ⟨⟨undef,.inr ⟨rfl,rfl⟩⟩,⟨_,.inl o⟩,⟨_,.inl k⟩,h.below.trans (A _ p),λu a=>?_,λu E F H I J K a m=>?_⟩⟩
 ·rcases a with a|⟨e,_⟩
  ·exact b _ _ u g (h.call u a) l y z
  exact absurd e n
 rcases a with a|⟨e,_⟩
 ·rcases m with m|⟨e,_⟩
  ·have B:=h.oneA _ _ a k;have q:=h.oneC _ _ m o;simp at q;obtain⟨⟨rfl,rfl,rfl,rfl⟩,-⟩:=q;exact⟨g,B,p,x⟩
  exact absurd e n
 exact absurd e r
theorem Cl.done(h:Cl kc ka ks W G fs w){u a b c d f i:Value}{g:Nat}(k:fs ks u)(j:fs kc (.tuple #[.agg #[a,b,c,d],f,i]))(l:fs ka (.pointer (sO g))):bL W w/\G w (.tuple #[.agg #[a,b,c,d],f,i])/\W.1.size<=g/\w.1[g]?=some (.cells #[a,b,c,d] 27 (0,0)):=by
 rcases h with ⟨m,_⟩|⟨_,_,_,n,o,p⟩
 ·exact absurd k (m _)
 obtain⟨s,e,q,r⟩:=p _ _ _ _ _ _ _ l j;simp at e;subst e;exact⟨n,o _ j,q,r⟩
end
def uE(Y:aH)(h:List Int)(E:Int)(w:World)(u:Value):Prop:=∃a b c d e f g,u=.tuple #[.agg #[a,b,c,d],.slice e f g,U E]/\bi w.1.size w (.agg #[a,b,c,d]) Y/\gx w.1.size w (.slice e f g) h
theorem uE.l{Y YL E}:∀w w' u,bL w w'->uE Y YL E w u->uE Y YL E w' u:=by
 rintro w w' u d ⟨g,h,j,l,m,n,p,e,q,r⟩;refine⟨g,h,j,l,m,n,p,e,?_,?_⟩
 ·have⟨s,t,v,e,x,y,z⟩:=q.l d lE;exact⟨s,t,v,e,x.wide d.size,y.wide d.size,z.wide d.size⟩
 have⟨a,f,e,A,B,C⟩:=r.l d lE
 exact⟨a,f,e,A,B,λi c D=>by
  have⟨b,o,e,F,k⟩:=C i c D
  exact⟨b,o,e,Kd F d.size,k⟩⟩
theorem uE.box{Y:aH}{YL E}(m:∀c∈Y.1,∀f∈c.2.1,f≠[]):∀w w' u (g:Nat),uE Y YL E w u->w.1[g]?=some (.cells #[nL,nL,nL,.bool false] 27 (0,0))->iE g w w'->w'.1.size=w.1.size->uE Y YL E w' u:=by
 rintro w w' u g ⟨n,p,q,r,s,t,v,e,x,y⟩ z d l;have h:=om.of z;refine⟨n,p,q,r,s,t,v,e,?_,?_⟩
 ·obtain⟨A,B,C,e,D,F,G⟩:=x;rw[l];exact⟨A,B,C,e,D.boxK d h m,F.box d h.1,G.box d h.1⟩
 obtain⟨a,j,e,H,I,J⟩:=y;rw[l]
 exact⟨a,j,e,H,I,λi c K=>by
  have⟨b,o,e,L,k⟩:=J i c K
  exact⟨b,o,e,L,d.cell h.1 k⟩⟩
theorem uE.shape{Y YL E w u}(h:uE Y YL E w u):∃a l b c m d f n g o i j k,u=.tuple #[.agg #[.slice a l b,.slice c m d,.slice f n g,.bool o],.slice i j k,U E]:=by obtain⟨r,s,t,v,i,j,k,e,p,x⟩:=h;obtain⟨a,b,c,d,f,g,q,-,-⟩:=p.shape;rw[q] at e;exact⟨_,_,_,_,_,_,_,_,_,_,_,_,_,e⟩
end
