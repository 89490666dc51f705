import Derived.Test.YtjdnfhkkkejcfaaGreatDoorWd28
import Derived.Deep.DeepAppendRoom
set_option linter.all false
set_option maxRecDepth 100000
set_option maxHeartbeats 16000000
namespace Go.Proofs.YtjdnfhkkkejcfaaGreatDoor
open Go.RowKit Go.Maps Go.Proofs.Tryz
theorem Bw{P:Program}{t e:TypeId}{k:TypeInfo}{c:Nat}{q:Array Oper}{i:List Oper}{o:Oper}{a:Act}{Q:Exit->Act->World->Prop}(w:World)(y:o.guard=none)(s x:Operand)
  (iY:o.op=.call { callee:=.builtin .append,args:=#[s,x],argTypes:=#[t,t] })
  (E:P.underlying t=some (.slice e)) (F:P.info? e=some k) (l:k.size=c)
  (f g n d:Nat) (z:List Value) (G:a.eval s=.slice (sO g) n d) (C m:Nat) (b:List Value) (H:a.eval x=.slice (sO C) m m)
  (W:World) {T0} (I:w=W.alloc (.cells b.toArray T0)) (J:C=W.1.size) (r:W.ownsRow f e c (.slice (sO g) n d) n z) (K:b.length=m*c) (L:∀u∈b,u.oneCell'=true) (p:n+m<=d)
  (h:∀A,Hid (A.ownsRow f e c (.slice (sO g) (n+m) d) (n+m) (z++b))->Hid (W.grownBy A (some g))->wpList P q Q i (a.put o.dst (.slice (sO g) (n+m) d)) A):wpList P q Q (o :: i) a w:=by
 subst I;subst J;have v:bL W (W.alloc (.cells b.toArray T0)):=bR.alloc lE _;obtain⟨D,M,N,O⟩:=run_append_own_spare (P:=P) (W.alloc (.cells b.toArray T0)) f t o.type e k c E F l g n d z (aw r v) (pW W 0) m m b K (λj u B=>by rw[eM,Kp];exact ab (ah W _) j (by simpa using B)) L p;have R:W.grownBy D (some g):=Li (iq v (some g)) O λj B=>.inr B
 exact Kw _ y s x _ _ iY _ _ G H _ _ M (h D N R)
def B4(y:Nat->Int)(k:Nat)(c:Int)(j:Nat):Int:=if j=k then c else y j
theorem zC{x:List Int}(h:x.length=5):∃a b c d e,x=[a,b,c,d,e]:=by
 match x,h with
 |[a,b,c,d,e],_=>exact⟨a,b,c,d,e,rfl⟩
theorem Fq(y:Nat->Int)(k):B4 y k (y k)=y:=by
 funext j;unfold B4
 split
 ·rename_i h;subst h;rfl
 rfl
theorem Ba(y:Nat->Int)(k:Nat)(a:k<5)(b c):(fJ (B4 y k b)).setIfInBounds k (U c)=fJ (B4 y k c):=by
 have:k=0\/k=1\/k=2\/k=3\/k=4:=by omega
 rcases this with rfl|rfl|rfl|rfl|rfl<;>simp[fJ,B4]
theorem C7(xs:List (List Int))(g:List Int->List (List Int))(i:Nat)(x:List Int)(h:xs[i]?=some x):(xs.take (i+1)).flatMap g=(xs.take i).flatMap g++g x:=by rw[KN,h];simp
theorem y8(cs:List Int)(g:Int->List Int)(j:Nat)(c:Int)(h:cs[j]?=some c):(cs.take (j+1)).map g=(cs.take j).map g++[g c]:=by rw[KN,h];simp
theorem F7(B k:Nat)(J:Int)(g:(k=0/\J=0)\/(k=1/\J=1)\/(k=2/\J=2)\/(k=3/\J=3)\/(k=4/\J=4))(pv cv)(xs:List (List Int))(cs w)(hp:ia B w pv (xs.map qM))(hc:gx B w cv cs)(hB:B<=w.1.size)(h5:∀x∈xs,x.length=5)(hN:xs.length*cs.length<=1000)(ao:xs.length<=1000)(av:cs.length<=65536):
  cL 252 #[pv,U J,cv] w λe K=>∃v,e=.returned v/\K.ownsRow w.1.size 34 5 v (xs.length*cs.length) (cj (xs.flatMap λx=>cs.map λc=>x.set k c))/\bL w K:=by
 obtain⟨b0,L,b1,M,b2⟩:=Co;have HP:=Z λK (h:bL w K)=>hp.l h hB
 have O:=Z λK (h:bL w K)=>hc.l h hB
 have H5:=Z h5;obtain⟨pa,c8,rfl,Q,d0,-⟩:=hp;obtain⟨ca,c9,rfl,b4,d1,-⟩:=hc
 rw[Lw] at Q HP |-
 have d2:=ai;have⟨n,hn⟩:=nM (xs.length);have⟨m,hm⟩:=nM (cs.length);have R:=Z hn.symm;have S:=Z hm.symm
 rw[<-hn] at Q HP hN ao |-
 rw[<-hm] at b4 O hN av |-
 have⟨N,A⟩:=nM (n*m);have T:(N:Int)=(n:Int)*(m:Int):=by rw[A];simp
 rw[<-A] at hN |-
 have cb:IntKind.i64.wrap ((n:Int)*(m:Int))=(N:Int):=by rw[<-T];exact KA _ (by omega)
 have F:=Z A;clear hn hm A T h5;obtain⟨w1,b8,a,V⟩:=run_makeSlice_owned (P:=prog) w w.1.size 180 34 b0 _ 5 Tryz.underlying180 L b1 M .i64 .i64 N (by omega) (by rw[b2];omega) (by omega) lE;have b9:bL w w1:=bR.grown V lE (λk g=>by cases g)
 have W:w.1.size<w1.1.size:=by
  rcases a.2 with ⟨h0,_⟩|⟨g',c',d4,hv,_,hg,_⟩
  ·cases h0
  cases hv;exact io hg
 have ba:Hid (w1.ownsRow w.1.size 34 5 (.slice (MZ w) (0*m) N) (0*m) (cj ((xs.take 0).flatMap λx=>cs.map λc=>x.set k c))):=by unfold Hid;rw[Nat.zero_mul];exact a
 clear a V;have bc:k<5:=by omega
 rcases g with ⟨g,rfl⟩|⟨g,rfl⟩|⟨g,rfl⟩|⟨g,rfl⟩|⟨g,rfl⟩
 all_goals
  have HK:Hid _:=g;clear g;go_enter func252,ntmps252;go_wp2_with fail;clear b8;go_loopw [7,20] (λwv iv wr=>∃i:Nat,i<=n/\iv=U i/\wv=.slice (MZ w) (i*m) N/\Hid (wr.ownsRow w.1.size 34 5 (.slice (MZ w) (i*m) N) (i*m) (cj ((xs.take i).flatMap λx=>cs.map λc=>x.set k c)))/\bL w wr/\w.1.size<wr.1.size) (λ_ iv _=>n-(intOf iv).toNat)
  case atStart=>exact⟨0,by omega,rfl,by rw[Nat.zero_mul],ba,b9,W⟩
  case round=>
   obtain⟨i,hi,rfl,rfl,C,G,cd⟩:=hrel;have⟨d,bg⟩:=nM (wr);subst bg;have i0:(0:Int)<=(i:Int):=by omega
   by_cases da:i<n
   ·have i1:(i:Int)<(n:Int):=by omega
    obtain⟨x,hx⟩:∃x,xs[i]?=some x:=⟨xs[i]'(by rw[R.o];omega),by simp⟩;obtain⟨l,r,s,t,u,rfl⟩:=zC (H5.o x (Kb hx));obtain⟨_,_,Y,-,-,y⟩:=HP.o _ G;obtain⟨b,o,e,dc,z0,z1,z2,z3,z4⟩:=y i (l,r,s,t,u) (by simp[hx,qM]);simp at Y;obtain⟨rfl,-,-⟩:=Y;subst e;clear y;simp only[] at z0 z1 z2 z3 z4;have a5:Hid ((xs.take (i+1)).flatMap (λx=>cs.map λc=>x.set k c)=(xs.take i).flatMap (λx=>cs.map λc=>x.set k c)++cs.map λc=>[l,r,s,t,u].set k c):=C7 xs (λx=>cs.map λc=>x.set k c) i _ hx;clear hx;have H:i*m+m<=N:=by have h1:(i+1)*m<=n*m:=Lz _ (by omega);rw[Mi,Nat.one_mul] at h1;rw[F.o];exact h1
    have HI:=Z (by rw[Mi,Nat.one_mul]:(i+1)*m=i*m+m);have⟨q,hq⟩:=nM (i*m)
    rw[<-hq] at H HI C |-
    clear hq;have⟨a6,D⟩:=nM ((xs.take i).flatMap (λx=>cs.map λc=>x.set k c));rw[<-D] at C a5;clear D;have bm:Hid (Na (d.alloc (.cells #[U l,U r,U s,U t,U u] 34)) d.1.size (fJ (B4 (Ep (l,r,s,t,u)) k (Ep (l,r,s,t,u) k))) 34):=by unfold Hid;rw[Fq];exact ah _ _
    have bo:Hid (∀X,(d.alloc X).ownsRow w.1.size 34 5 (.slice (MZ w) (q+0) N) (q+0) (cj (a6++(cs.take 0).map λc=>[l,r,s,t,u].set k c))):=λX=>by
     have:=aw C.o ((Kf d.1.size d).alloc lE X)
     simpa using this
    have bp:Hid (∀X,bL w (d.alloc X)):=λX=>G.alloc (by omega) _
    have E:¬w.1.size=d.1.size:=by omega
    clear C HP;go_wp2_with fail;go_loopw [7,26] (λwv jv wr=>∃ (j:Nat) (b:Int),j<=m/\jv=U j/\wv=.slice (MZ w) (q+j) N/\Hid (Na wr d.1.size (fJ (B4 (Ep (l,r,s,t,u)) k b)) 34)/\Hid (wr.ownsRow w.1.size 34 5 (.slice (MZ w) (q+j) N) (q+j) (cj (a6++(cs.take j).map λc=>[l,r,s,t,u].set k c)))/\bL w wr) (λ_ jv _=>m-(intOf jv).toNat)
    case atStart=>exact⟨0,_,by omega,rfl,rfl,bm,bo.o _,bp.o _⟩
    case round=>
     obtain⟨j,bb,hj,rfl,rfl,HX,C,z⟩:=hrel;have⟨wi,bs⟩:=nM (wr);subst bs;have j0:(0:Int)<=(j:Int):=by omega
     have a7:=io HX.o
     by_cases dl:j<m
     ·have j1:(j:Int)<(m:Int):=by omega
      obtain⟨c,I⟩:∃c,cs[j]?=some c:=⟨cs[j]'(by rw[S.o];omega),by simp⟩;obtain⟨_,_,Y,-,-,y⟩:=O.o _ z;have⟨b3,o3,e,ci,q0⟩:=y j c I;simp at Y;obtain⟨rfl,-,-⟩:=Y;subst e;clear y;have bv:Hid ((cs.take (j+1)).map (λc=>[l,r,s,t,u].set k c)=(cs.take j).map (λc=>[l,r,s,t,u].set k c)++[[l,r,s,t,u].set k c]):=y8 cs _ j c I;clear I;have dp:=(eD HX.o).2;have f:=(eD HX.o).1;have t0:=f 0 (by omega);have t1:=f 1 (by omega);have t2:=f 2 (by omega);have t3:=f 3 (by omega);have t4:=f 4 (by omega);rw[HK.o] at t0 t1 t2 t3 t4;simp[B4,Ep,oz] at t0 t1 t2 t3 t4;have dq:B<=wi.1.size:=by have:=z.size;omega
      have dr:¬b3=d.1.size:=by omega
      have a8:∀o5,(Value.slice (MZ w) (q+j) N).ownBlock≠some (⟨d.1.size,o5,none⟩:Addr).block:=λo5 h=>E (KG h)
      have bx:Hid _:=a8;clear f a8
      go_wp2_with (first
       |(at_builtin;go_must (refine Bw _ rfl _ _ rfl Tryz.underlying180 L M w.1.size w.1.size (q+j) N _ rfl _ 1 _ rfl _ rfl (by simp) (Mr C.o (bx.o _) _) rfl (by simp[Value.oneCell']) (by omega) ?_;intro w9 bz a9)))
      have aa:bL w w9:=(z.setCell (p:=⟨d.1.size,_,none⟩) (by show w.1.size<=d.1.size;omega) _).grown a9.o (by have:=z.size;simpa using this) (λk g=>by cases g;exact Ke _);have ac:=(a9.o.block d.1.size (by simpa using a7) (λe=>E (KG e).symm)).trans (ap HX.o);have ad:=bz.o;have bF:=bv.o;have c0:=HK.o;subst c0;refine⟨⟨j+1,c,by omega,by go_num,rfl,?_,?_,aa⟩,by simp[intOf];omega⟩
      ·unfold Hid;rw[Ba _ _ bc] at ac;exact ac
      unfold Hid;rw[bF,<-KI,mP];exact ad
     obtain rfl:j=m:=by omega
     have c1:Hid (wi.ownsRow w.1.size 34 5 (.slice (MZ w) ((i+1)*j) N) ((i+1)*j) (cj ((xs.take (i+1)).flatMap λx=>cs.map λc=>x.set k c))):=by have:=C.o;rw[Ki (by rw[S.o];omega)] at this;unfold Hid;rw[HI.o,a5.o];exact this
     have c2:w.1.size<wi.1.size:=by omega
     have c3:Hid _:=HI.o;go_wp2;exact⟨⟨i+1,by omega,by go_num,by rw[c3.o],c1,z,c2⟩,by simp[intOf];omega⟩
   obtain rfl:i=n:=by omega
   go_wp2;go_ret;refine⟨_,rfl,?_,G⟩;have:=C.o;rw[Ki (by rw[R.o];omega),<-F.o] at this;rw[<-F.o];exact this
