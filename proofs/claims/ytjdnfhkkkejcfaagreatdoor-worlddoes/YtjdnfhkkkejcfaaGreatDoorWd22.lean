import Derived.Test.YtjdnfhkkkejcfaaGreatDoorWd11
set_option linter.all false
set_option maxRecDepth 100000
set_option maxHeartbeats 8000000
namespace Go.Proofs.YtjdnfhkkkejcfaaGreatDoor
open Go.RowKit Go.Maps Go.Proofs.Tryz
theorem jK{i:Array Oper}{f:List Oper}{o:Oper}{a:Act}{Q:Exit->Act->World->Prop}(w:World)(m:o.guard=none)(s x:Operand)
  (iY:o.op=.call { callee:=.builtin .append,args:=#[s,x],argTypes:=#[77,77] })
  (b:Nat) (v:Value) (n:Nat) (p:List Value) (z:a.eval s=v) (g:Nat) (c:List cO) (A:a.eval x=.slice (sO g) c.length c.length)
  (W:World) (B:w=W.alloc (.cells (aJ c).toArray 112)) (C:g=W.1.size) (wo) (y:bL wo W) (j:wo.ownsRow b 112 4 v n p) (J:n+c.length<=4000000) (d:b<=wo.1.size)
  (h:∀k l,Hid (l.ownsRow b 112 4 k (n+c.length) (p++aJ c))->Below b wo l->fh 112 wo l->wpList prog i Q f (a.put o.dst k) l):wpList prog i Q (o :: f) a w:=by
 obtain⟨D,q,r,t,u⟩:=rV;subst B;subst C;have e:bL wo (W.alloc (.cells (aJ c).toArray 112)):=y.alloc y.size _;obtain⟨k,E,F,G,H,I⟩:=uM (P:=prog) Tryz.underlying77 q r t u rfl (by decide) b o.type v n c.length W.1.size p (aJ c) _ (aw j e) (ah _ _) (f6 c) (iA _) (by rw[ai];omega) (by omega) (e.u d) c.length;exact Kw _ m s x _ _ iY _ _ z A _ _ F (h k E G ((e.mono d).trans H) ((fh.of_below e).trans I))
theorem qT(B pv p w)(hp:aX B w pv p)(hB:B<=w.1.size):
  cL 65 #[pv] w λe K=>∃lv,e=.returned (.tuple #[lv,U (cB p)])/\K.ownsRow w.1.size 112 4 lv (dW p).length (aJ (dW p))/\(∀i∈dW p,gH i)/\bL w K:=by
 have HP:=Z λK (h:bL w K)=>hp.l h hB
 have a4:=Z λK (h:bL w K)=>fW B pv p K (hp.l h hB) (h.u hB)
 obtain⟨g,d⟩:=p;obtain⟨rv,ak,hd,a,d0,al,br,d1,a5⟩:=hp;clear a5;simp only at ak al br hd;subst al;subst ak;have d2:=ai;have L:∀X,bL w (w.alloc X):=λX=>bR.alloc lE _
 by_cases M:aj (g,d)=0
 case neg=>
  have HE:Hid (cB (g,d)=aj (g,d)/\dW (g,d)=[]):=by
   have e:cB (g,d)=aj (g,d):=by rw[cB,iO M]
   refine⟨e,?_⟩;rw[dW,iO (by rw[e];exact M)]
  have hq:(aj (g,d) != 0)=true:=by simpa using M
  clear M;generalize aj (g,d)=pe at*;go_enter func65,ntmps65;go_wp2_with (first|(go_at_call 89;go_must (refine(a4.o _ (L _)).mono ?_;rintro e w1 ⟨rfl,x⟩)));go_ret2;rw[HE.o.1,HE.o.2];exact⟨_,rfl,⟨rfl,.inl ⟨rfl,rfl⟩⟩,(λi h=>by cases h),Below.tO (L _) x (by simp)⟩
 have⟨a6,av,a7⟩:=cY M;simp only[] at a6 av a7;have HR:=Z (cM a7);have HW:=Z (E6 M);have HE:=Z (by rw[cB,Io M]:cB (g,d)=if 1500<(cm (g,d)).length then 2 else 0)
 have bv:Hid (∀k,k<=g.length->(dV (g.take k)).length<=2520):=λk hk=>by
  have:=qG (g.take k) λr hr=>HR.o r (KZ hr)
  rw[Kt] at this;omega
 rw[M] at a4;clear M a7 av hd;generalize W:g.length=y at*;have z:=Z W;clear W;go_enter func65,ntmps65;go_wp2_with (first|(go_at_call 89;go_must (refine(a4.o _ (L _)).mono ?_;rintro e w1 ⟨rfl,x⟩;have N:=(x.block w.1.size (by simp)).trans (ah w _);have p0:=J0 N;have p1:=J1 N)));have bx:bL w w1:=Below.tO (L _) x (by simp);have bz:=io N;clear p0 p1 x;go_loopw [5,21] (λnv iv wr=>∃k:Nat,k<=y/\iv=U k/\Hid (wr.ownsRow w.1.size 112 4 nv (dV (g.take k)).length (aJ (dV (g.take k))))/\bL w wr/\Hid (fh 112 w1 wr)/\w.1.size<wr.1.size) (λ_ iv _=>y-(intOf iv).toNat)
 case atStart=>exact⟨0,by omega,rfl,⟨rfl,.inl ⟨rfl,rfl⟩⟩,bx,fh.refl _ _,bz⟩
 case round=>
  obtain⟨k,hk,rfl,b0,A,b1,d6⟩:=hrel;have⟨wo,c1⟩:=nM (wr);subst c1;have i0:(0:Int)<=(k:Int):=by omega
  have C:=b1.o _ _ _ _ N (by decide);have b4:=A.size;have c3:=bv.o k hk
  by_cases da:k<y
  ·have i1:(k:Int)<(y:Int):=by omega
   obtain⟨r,a8⟩:∃r,g[k]?=some r:=⟨g[k]'(by rw[z.o];omega),by simp⟩;have D:=dy (HR.o r (Kb a8));have Y:=D.1;have b5:=Z (fy D.2.2);clear D;obtain⟨_,e0,-,_,_,e1,-,-,E⟩:=HP.o _ A;have⟨b,o,e,dc,cv,b7,c4,_,b8⟩:=E k r a8;simp at e0;subst e0;simp at e1;obtain⟨rfl,-,-⟩:=e1;subst e;clear E;have HT:=Z (tK g k r a8);have aa:=Z λK (h:Below w.1.size wo K)=>b8.l h hB
   obtain⟨a2,c2,c5,a0,cn,-⟩:=b8;subst c5;obtain⟨F,vd⟩:=r;simp only[] at Y b7 c4 a0 b5 aa;have⟨O,ac⟩:=nM (F.length);have s:=Z ac.symm;rw[<-ac] at b7 a0 Y aa;clear ac;have⟨W2,P⟩:=nM (wo.alloc (.cells #[.slice a2 O c2,U vd] 131));have Q:=bA P;have b9:=hA P;have c6:=Z (Q.mono b4);have c7:=Z (b1.o.trans (fh.of_below Q))
   have ba:Hid (W2.ownsRow w.1.size 112 4 u5 ((dV (g.take k)).length+2*0) (aJ (dV (g.take k))++aJ ((dA F).take (2*0)))):=by
    have:=aw b0.o Q;unfold Hid
    simpa [aJ] using this
   have c8:=io b9;have⟨n0,R⟩:=nM ((dV (g.take k)).length);have⟨ys,ad⟩:=nM (aJ (dV (g.take k)));have bb:=Z R;have bc:=Z ad;rw[<-R,<-ad] at ba;rw[<-R] at c3;clear R ad;clear C Q;go_wp2_with fail;rw[<-P];clear P;go_loopw [5,33] (λnv jv wr=>∃j:Nat,j<=O/\jv=U j/\Hid (wr.ownsRow w.1.size 112 4 nv (n0+2*j) (ys++aJ ((dA F).take (2*j))))/\Below w.1.size wo wr/\Hid (fh 112 W2 wr)/\wo.1.size<wr.1.size) (λ_ jv _=>O-(intOf jv).toNat)
   case atStart=>exact⟨0,by omega,rfl,ba,c6.o,fh.refl _ _,c8⟩
   case round=>
    obtain⟨j,hj,rfl,G,t,u,dl⟩:=hrel;have⟨wi,ca⟩:=nM (wr);subst ca;have j0:(0:Int)<=(j:Int):=by omega
    have H:=u.o _ _ _ _ b9 (by decide);have q:w.1.size<=wi.1.size:=by omega
    by_cases dn:j<O
    ·have j1:(j:Int)<(O:Int):=by omega
     obtain⟨c,S⟩:∃c,F[j]?=some c:=⟨F[j]'(by rw[s.o];omega),by simp⟩;have a1:=ft (b5.o c (Kb S));have a3:=a1.2.1;clear a1;obtain⟨_,_,e1,-,-,E⟩:=aa.o _ t;have⟨b3,o3,e,cx,k0,k1,k2,_⟩:=E j c S;simp at e1;obtain⟨rfl,-,-⟩:=e1;subst e;clear E;obtain⟨T,bd⟩:∃T:Int,T=2*((O:Int)-j-1)+1:=⟨_,rfl⟩;have bf:2*(O:Int)+1-2*(j:Int)-2=T:=by omega
     have ds:IntKind.i64.wrap (2*(O:Int)+1-2*(j:Int)-2)=T:=by rw[bf];exact KA _ (by omega)
     have I:Hid ((dA F).take (2*(j+1))=(dA F).take (2*j)++[(1,c.1,0,0),ox c T]):=by have:=pb F j c S;rw[s.o,<-bd] at this;exact this
     clear bd;obtain⟨f,op,v⟩:=c;simp only[] at k0 k1 k2 a3 I;have bg:op=1\/op=2\/op=3\/op=4:=by omega
     clear a3 H S
     rcases bg with rfl|rfl|rfl|rfl
     ·go_wp2_with (first|(at_builtin;go_must (refine jK _ rfl _ _ rfl w.1.size _ _ _ rfl _ [(1,f,0,0),(2,v,0,T)] rfl _ rfl (by simp) wi (by repeat(first|exact Kf _ _|refine Ky ?_ (by simp) _|refine Lc ?_ (by simp) _)) G.o (by simp;omega) q ?_;intro v9 w9 m l n)));have V:=l.size;refine⟨⟨j+1,by omega,by go_num,?_,t.trans l,u.o.trans n,by omega⟩,by simp[intOf];omega⟩;unfold Hid;rw[I.o,dM,<-KI];exact m.o
     ·go_wp2_with (first|(at_builtin;go_must (refine jK _ rfl _ _ rfl w.1.size _ _ _ rfl _ [(1,f,0,0),(2,v,T,0)] rfl _ rfl (by simp) wi (by repeat(first|exact Kf _ _|refine Ky ?_ (by simp) _|refine Lc ?_ (by simp) _)) G.o (by simp;omega) q ?_;intro v9 w9 m l n)));have V:=l.size;refine⟨⟨j+1,by omega,by go_num,?_,t.trans l,u.o.trans n,by omega⟩,by simp[intOf];omega⟩;unfold Hid;rw[I.o,dM,<-KI];exact m.o
     ·go_wp2_with (first|(at_builtin;go_must (refine jK _ rfl _ _ rfl w.1.size _ _ _ rfl _ [(1,f,0,0),(3,v,0,T)] rfl _ rfl (by simp) wi (by repeat(first|exact Kf _ _|refine Ky ?_ (by simp) _|refine Lc ?_ (by simp) _)) G.o (by simp;omega) q ?_;intro v9 w9 m l n)));have V:=l.size;refine⟨⟨j+1,by omega,by go_num,?_,t.trans l,u.o.trans n,by omega⟩,by simp[intOf];omega⟩;unfold Hid;rw[I.o,dM,<-KI];exact m.o
     go_wp2_with (first|(at_builtin;go_must (refine jK _ rfl _ _ rfl w.1.size _ _ _ rfl _ [(1,f,0,0),(3,v,T,0)] rfl _ rfl (by simp) wi (by repeat(first|exact Kf _ _|refine Ky ?_ (by simp) _|refine Lc ?_ (by simp) _)) G.o (by simp;omega) q ?_;intro v9 w9 m l n)));have V:=l.size;refine⟨⟨j+1,by omega,by go_num,?_,t.trans l,u.o.trans n,by omega⟩,by simp[intOf];omega⟩;unfold Hid;rw[I.o,dM,<-KI];exact m.o
    obtain rfl:j=O:=by omega
    have t1:=J1 H;clear H;go_wp2_with (first|(at_builtin;go_must (refine jK _ rfl _ _ rfl w.1.size _ _ _ rfl _ [(4,vd,0,0)] rfl _ rfl (by simp) wi (by repeat(first|exact Kf _ _|refine Ky ?_ (by simp) _|refine Lc ?_ (by simp) _)) G.o (by simp;omega) q ?_;intro v9 w9 m l n)));have V:=l.size;refine⟨⟨k+1,by omega,by go_num,?_,A.trans (t.trans l),c7.o.trans (u.o.trans n),by omega⟩,by simp[intOf];omega⟩;unfold Hid;have h9:=m.o;have e:(dA F).take (2*j)=dA F:=by rw[<-s.o];exact xA F
    rw[HT.o,Kj,nO,<-bb.o,dM,<-bc.o];rw[e,KI,<-dM] at h9;unfold jt;simp only[];rw[s.o];exact h9
  obtain rfl:k=y:=by omega
  have p1:=J1 C;clear C;go_wp2_with (first|(at_builtin;go_must (refine jK _ rfl _ _ rfl w.1.size _ _ _ rfl _ [(4,d,0,0)] rfl _ rfl (by simp) wo (by repeat(first|exact Kf _ _|refine Ky ?_ (by simp) _|refine Lc ?_ (by simp) _)) b0.o (by simp;omega) b4 ?_;intro v9 w9 m l n;obtain⟨a9,cap9,e9,h9c,h9m,-⟩:=an m.o;subst e9)))
  all_goals
   have e:g.take k=g:=Ki (by rw[z.o];omega);have cb:(cm (g,d)).length=(dV (g.take k)).length+1:=by rw[e];unfold cm;simp
  ·have hl:1500<(cm (g,d)).length:=by omega
   have J:cB (g,d)=2/\dW (g,d)=[]:=by
    have e:cB (g,d)=2:=by rw[HE.o,Io hl]
    exact⟨e,by rw[dW,iO (by rw[e];decide)]⟩
   go_ret2;rw[J.1,J.2];exact⟨_,rfl,⟨rfl,.inl ⟨rfl,rfl⟩⟩,(λi h=>by cases h),A.trans l⟩
  have hl:¬1500<(cm (g,d)).length:=by omega
  have J:cB (g,d)=0/\dW (g,d)=cm (g,d):=by
   have e:cB (g,d)=0:=by rw[HE.o,iO hl]
   exact⟨e,by rw[dW,Io e]⟩
  go_ret2;rw[J.1,J.2];refine⟨_,rfl,?_,HW.o,A.trans l⟩;have h9:=m.o;rw[<-dM] at h9;rw[cb];unfold cm;simp only[]
  rw[e] at h9 |-
  exact h9
