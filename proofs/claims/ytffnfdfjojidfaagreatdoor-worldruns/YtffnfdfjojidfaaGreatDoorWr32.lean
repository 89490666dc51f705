import Derived.Test.YtffnfdfjojidfaaGreatDoorWr30
import Derived.Test.YtffnfdfjojidfaaGreatDoorWr31
set_option linter.all false
set_option maxRecDepth 100000
set_option maxHeartbeats 16000000
namespace Go.Proofs.YtffnfdfjojidfaaGreatDoor
open Go.RowKit Go.Maps Go.Proofs.Tryz
theorem xo{b k:Nat}{w w'}{cs:Array Value}{T:TypeId}(h:iN b w w')(a:k≠b)(c:T≠5)(d:w.1[k]?=some (.cells cs T (0,0))):w'.1[k]?=some (.cells cs T (0,0)):=
 h.2 k _ a d (λf g e=>by simp at e;exact c e.2.1)
theorem I4(o:Int)(h:1<=o/\o<=4)(w:World):(Instr.index 9 (.string ⟨#[61,33,60,62]⟩) (U (o-1))).run prog w=.ok (.int .u8 (gl o).toNat) w:=by
 have:o=1\/o=2\/o=3\/o=4:=by omega
 rcases this with rfl|rfl|rfl|rfl
 ·exact j5 jC 0 (by decide) w
 ·exact j5 jC 1 (by decide) w
 ·exact j5 jC 2 (by decide) w
 exact j5 jC 3 (by decide) w
theorem ya(Bc B b)(l:Bs)(cv)(r:aq)(w)(b7:∀g,Below B w g->dD g)(hc:bG Bc w cv r.1)(e3:Bc<=B)(C:dY B b (Lib.byteCells l) w)(hl:l.length<=1000000000)(hB:B<=w.1.size)(b8:bH r=0):
  cL 186 #[.pointer (sO b),.agg #[cv,U r.2]] w λe g=>e=.returned (.tuple #[])/\dY B b (Lib.byteCells (l++ct r)) g/\Below B w g:=by
 obtain⟨s,v⟩:=r;have⟨ci,hv,L⟩:=lV b8;simp only[] at ci hv L;obtain⟨a,t,rfl,ck,e6,a1⟩:=hc;simp only[] at ck a1;have HE:=Z b7;have b9:=Z a1;have ba:=Z L;have hT:Hid (ct (s,v)=d7 v++s.flatMap cq++[59]):=rfl;obtain⟨j,rfl⟩:∃i:Nat,v=i:=⟨v.toNat,by omega⟩;have bb:j<5:=by omega
 have cl:Hid (d7 (j:Int)=vN.getD j []):=by unfold Hid d7;simp
 have e9:=jM (j:Int)
 have cn:Hid (∀i:Nat,((s.take i).flatMap cq).length<=700000):=by
  intro i;have h1:=jQ (s.take i) λc hc=>L c (KZ hc)
  have h2:(s.take i).length<=10:=by rw[Kt];omega
  exact Kl h1 (Lz 70000 h2)
 have di:b<w.1.size:=by
  rcases C with h|h
  ·exact h.lt
  exact h.lt
 have ec:B<=b:=by
  rcases C with h|h
  ·exact h.1
  exact h.1
 have a2:Hid _:=C;clear a1 L b8 b7 C;show cL 186 #[.pointer (sO b),.agg #[.slice a s.length t,U j]] w _;generalize hn:s.length=n at*;have a3:=Z hn;clear hn;have ed:=ai;have⟨W0,E⟩:=nM (w.alloc (.cells #[.slice a n t,U j] 133));have bd:=bA E;have ee:=sA E;have M:Na W0 w.1.size #[.slice a n t,U j] 133:=by rw[E];exact(Kr w _).1
 have r1:=(ag M).2.1;go_enter func186,ntmps186;go_wp2_with fail;rw[<-E];clear E;have hO:∀F fr,Obj.cells #[.slice a n t,U j] 133 (0,0)≠.cells F 5 fr:=λF fr e=>by simp at e
 have G:Nonempty (rK w.1.size (.cells #[.slice a n t,U j] 133 (0,0))):=⟨⟨W0,M⟩⟩
 have u:Hid (∀fs g,sX B b vC 1 4 6 j w.1.size (.cells #[.slice a n t,U j] 133 (0,0)) l (d7 j) W0 fs g->∃z:rK w.1.size (.cells #[.slice a n t,U j] 133 (0,0)),g=z.1):=λfs g h=>⟨⟨g,h.1⟩,rfl⟩
 have q1:∀z:rK w.1.size (.cells #[.slice a n t,U j] 133 (0,0)),z.1.cell? (pW w 1)=some (U j):=λz=>(ag z.2).2.1
 have N:=Z (dY.l a2.o bd);refine iP (λk=>k==1||k==4||k==5||k==6) (sX B b vC 1 4 6 j w.1.size (.cells #[.slice a n t,U j] 133 (0,0)) l (d7 j) W0) (Jx 1 4 5 j (d7 j)) (vh _ _ _ _ _) (by kernel_rfl) (by kernel_rfl) (sX.start M) ?_;refine aP u.o rfl rfl ?_;go_big_quiet_step (fail);refine Km ?_;refine bw 188 #[] rfl rfl (λg=>by kernel_rfl) (λgs g x d q=>?_) (λv1 a5=>?_)
 ·refine(jE g).mono ?_;rintro e w2 ⟨rfl,rfl⟩;exact⟨_,rfl,⟨_,rfl⟩,x.call (by decide) (by decide) (by omega) (by omega)⟩
 go_frame;obtain⟨b1,rfl⟩:∃b:Nat,v1=.slice (sO b) 5 5:=a5;iterate 2(refine aP u.o rfl rfl ?_;go_big_quiet_step (fail);refine Km ?_)
 refine cz rfl rfl (λgs g x d q=>⟨.pointer (some ⟨b1,j,none⟩),g,gg (np j b1 bb g),⟨b1,rfl⟩,x.idx (by decide) (by decide) (d 1 _ (.inr ⟨rfl,rfl⟩) (au (by kernel_rfl)))⟩) (λv4 a7=>?_);go_frame;obtain⟨b4,rfl⟩:∃b:Nat,v4=.pointer (some ⟨b,j,none⟩):=a7;refine cz rfl rfl (λgs g x d q=>⟨.string (dU (d7 j)),g,?_,rfl,x.other (by decide) (by decide) (by decide)⟩) (λv5 a8=>?_)
 ·have A:=x.name (d 4 _ (.inr ⟨rfl,rfl⟩) (au (by kernel_rfl))) (GH bb);rw[<-cl.o] at A;clear x d q q1 u G hO;go_simp
 go_frame;obtain rfl:v5=.string (dU (d7 j)):=a8;refine bw 187 #[.pointer (sO b),.string (dU (d7 j))] rfl rfl (λg=>by kernel_rfl) (λgs g x d q=>x.write (by decide) (by decide) q N.o hO (by omega) (by omega) (by omega)) (λv6 d0=>?_);go_frame;refine ei ?_;intro w2 a9;have⟨Q,bo,dl⟩:=a9.2.2.2.2 ⟨v6,.inr ⟨rfl,rfl⟩⟩;have bp:=a9.1;have bq:=(bd.mono hB).trans bo;clear a9 q1 u G;have ej:w.1.size<=w2.1.size:=by omega
 have⟨x0,x1,_,_⟩:=ag bp;have aa:Hid _:=Q;clear Q bp r1 M;go_wp2_with fail;go_loopw [16] (λiv wr=>∃i:Nat,i<=n/\iv=U i/\Hid (dY B b (Lib.byteCells (l++d7 j++(s.take i).flatMap cq)) wr)/\Below B w wr/\w.1.size<=wr.1.size) (λiv _=>n-(intOf iv).toNat)
 case atStart=>exact⟨0,by omega,rfl,by unfold Hid;show dY B b (Lib.byteCells (l++d7 j++[])) w2;rw[LI];exact aa.o,bq,by omega⟩
 case round=>
  obtain⟨i,hi,rfl,R,ac,ek⟩:=hrel;have⟨D,d2⟩:=nM (wr);subst d2;have i0:(0:Int)<=(i:Int):=by omega
  have H:=cn.o i
  by_cases d3:i<n
  ·have i1:(i:Int)<(n:Int):=by omega
   obtain⟨c,ad⟩:∃c,s[i]?=some c:=⟨s[i]'(by rw[a3.o];exact d3),by simp⟩;obtain⟨bc,oc,rfl,el,d4⟩:=b9.o i c ad;have⟨hf,ho,d5⟩:=lT (ba.o c (Kb ad));have ae:Hid ((s.take (i+1)).flatMap cq=(s.take i).flatMap cq++cq c):=by unfold Hid;rw[LC,ad];simp
   obtain⟨f,o,m⟩:=c;obtain⟨c0,c1,c2,_⟩:=d4.l ac (by omega);simp only[] at c0 c1 c2 hf ho d5;obtain⟨p,rfl⟩:∃k:Nat,f=k:=⟨f.toNat,by omega⟩;have br:p<5:=by omega
   have d6:Hid (fK (p:Int)=fN.getD p []):=by unfold Hid fK;simp
   have es:=t9 (p:Int);have dp:IntKind.i64.wrap (o-1)=o-1:=KA _ (by omega);have dq:=I4 o ho;have da:Hid (cq ((p:Int),o,m)=32 :: (fK p++(gl o :: Lib.itoa m))):=rfl;have dr:(Lib.itoa m).length<=65536:=by unfold Lib.itoa;rw[iO (by omega)];have:=jS m.toNat;omega
   have⟨W3,I⟩:=nM (D.alloc (.cells #[U p,U o,U m] 136));have bs:=bA I;have et:=sA I;have bv:Na W3 D.1.size #[U p,U o,U m] 136:=by rw[I];exact(Kr D _).1
   have S:=Z (dY.l R.o bs);have bx:Below B w W3:=ac.trans (bs.mono (by omega));have⟨T,O⟩:=nM (l++d7 j++(s.take i).flatMap cq);have ds:T.length<=1000000000+5+700000:=by rw[O];simp only[Kj];omega
   rw[<-O] at S;have bz:Hid _:=O;clear O H;have af:D.1.size≠b:=by omega
   go_wp2_with fail;rw[<-I];clear I;go_at_call 213;refine(wT B b T 32 W3 S.o (by omega) (by omega)).mono ?_;rintro e w4 ⟨rfl,y,J,ak⟩;have P:=xo ak af (by decide) bv;have eu:=ak.1;have c3:=bx.trans J;have al:Hid _:=y;have⟨⟨y0,y1,y2⟩,_⟩:=eL P;clear y bv;go_wp2_with fail;have hO:∀F fr,Obj.cells #[U p,U o,U m] 136 (0,0)≠.cells F 5 fr:=λF fr e=>by simp at e
   have G:Nonempty (rK D.1.size (.cells #[U p,U o,U m] 136 (0,0))):=⟨⟨w4,P⟩⟩
   have u:Hid (∀fs g,sX B b fC 1 4 6 p D.1.size (.cells #[U p,U o,U m] 136 (0,0)) (T++[32]) (fK p) w4 fs g->∃z:rK D.1.size (.cells #[U p,U o,U m] 136 (0,0)),g=z.1):=λfs g h=>⟨⟨g,h.1⟩,rfl⟩
   have q1:∀z:rK D.1.size (.cells #[U p,U o,U m] 136 (0,0)),z.1.cell? (pW D 0)=some (U p):=λz=>(eL z.2).1.1
   refine iP (λk=>k==1||k==4||k==5||k==6) (sX B b fC 1 4 6 p D.1.size (.cells #[U p,U o,U m] 136 (0,0)) (T++[32]) (fK p) w4) (Jx 1 4 5 p (fK p)) (vh _ _ _ _ _) (by kernel_rfl) (by kernel_rfl) (sX.start P) ?_;refine aP u.o rfl rfl ?_;go_big_quiet_step (fail);refine Km ?_;refine bw 214 #[] rfl rfl (λg=>by kernel_rfl) (λgs g x d q=>?_) (λv1 a5=>?_)
   ·refine(oO g).mono ?_;rintro e w2 ⟨rfl,rfl⟩;exact⟨_,rfl,⟨_,rfl⟩,x.call (by decide) (by decide) (by omega) (by omega)⟩
   go_frame;obtain⟨b1,rfl⟩:∃b:Nat,v1=.slice (sO b) 5 5:=a5;iterate 2(refine aP u.o rfl rfl ?_;go_big_quiet_step (fail);refine Km ?_)
   refine cz rfl rfl (λgs g x d q=>⟨.pointer (some ⟨b1,p,none⟩),g,gg (np p b1 br g),⟨b1,rfl⟩,x.idx (by decide) (by decide) (d 1 _ (.inr ⟨rfl,rfl⟩) (au (by kernel_rfl)))⟩) (λv4 a7=>?_);go_frame;obtain⟨b4,rfl⟩:∃b:Nat,v4=.pointer (some ⟨b,p,none⟩):=a7;refine cz rfl rfl (λgs g x d q=>⟨.string (dU (fK p)),g,?_,rfl,x.other (by decide) (by decide) (by decide)⟩) (λv5 a8=>?_)
   ·have A:=x.name (d 4 _ (.inr ⟨rfl,rfl⟩) (au (by kernel_rfl))) (IQ br);rw[<-d6.o] at A;clear x d q q1 u G hO;go_simp
   go_frame;obtain rfl:v5=.string (dU (fK p)):=a8;refine bw 187 #[.pointer (sO b),.string (dU (fK p))] rfl rfl (λg=>by kernel_rfl) (λgs g x d q=>x.write (by decide) (by decide) q al.o hO af (by simp;omega) (by omega)) (λv6 d0=>?_);go_frame;refine ei ?_;intro w6 ao;have⟨V,c4,e0⟩:=ao.2.2.2.2 ⟨v6,.inr ⟨rfl,rfl⟩⟩;have av:=ao.1;clear ao q1 u G P y0 y1 y2;have ey:D.1.size<=w6.1.size:=by omega
   have c5:=c3.trans c4;have b0:Hid _:=V;have⟨⟨z0,z1,z2⟩,_⟩:=eL av;clear V;go_wp2_with fail;go_at_call 213;refine(wT B b (T++[32]++fK p) (gl o) w6 b0.o (by simp;omega) (by omega)).mono ?_;rintro e w7 ⟨rfl,W,c6,c7⟩;have dd:=xo c7 af (by decide) av;have eV:=c7.1;have X:=c5.trans c6;have b2:Hid _:=W;have⟨⟨u0,u1,u2⟩,_⟩:=eL dd;clear W av z0 z1 z2;go_wp2_with fail;go_at_call 99;refine(Tryz.strconv_Itoa m (by omega) (by omega) w7 (HE.o _ X).2.2.2).mono ?_;rintro e w8 ⟨rfl,k8,f0,c8⟩;have b3:bL w7 w8:=by rw[c8];exact LT _ _ lE _ _
   have f1:=b3.size;have c9:=Z (dY.l b2.o b3);have ca:Below B w w8:=X.trans (b3.mono (by omega));clear c8;go_wp2_with fail;go_at_call 187;refine(j8 B b (T++[32]++fK p++[gl o]) (Lib.itoa m) w8 c9.o (by simp;omega) (by omega)).mono ?_;rintro e w9 ⟨⟨n9,rfl⟩,Y,cb,df⟩;have f3:=df.1;have cc:=ca.trans cb
   have b5:Hid (dY B b (Lib.byteCells (l++d7 j++(s.take (i+1)).flatMap cq)) w9):=by
    unfold Hid;rw[ae.o,da.o,<-KI,<-bz.o];have e:T++(32 :: (fK ↑p++(gl o :: Lib.itoa m)))=T++[32]++fK ↑p++[gl o]++Lib.itoa m:=by simp
    rw[e];exact Y
   clear Y;go_wp2_with fail;exact⟨⟨i+1,by omega,by go_num,b5,cc,by omega⟩,by simp[intOf];omega⟩
  obtain rfl:i=n:=by omega
  have K:dY B b (Lib.byteCells (l++d7 j++s.flatMap cq)) D:=by have:=R.o;rw[Ki (by rw[a3.o];exact Ke _)] at this;exact this
  have e2:(s.flatMap cq).length<=700000:=by have:=H;rw[Ki (by rw[a3.o];exact Ke _)] at this;omega
  go_wp2_with fail;go_at_call 213;refine(wT B b (l++d7 j++s.flatMap cq) 59 D K (by simp only[Kj];omega) (by omega)).mono ?_;rintro e w4 ⟨rfl,y,J,ak⟩
  have a0:dY B b (Lib.byteCells (l++ct (s,(j:Int)))) w4:=by
   rw[hT.o];have e:l++(d7 ↑j++s.flatMap cq++[59])=l++d7 ↑j++s.flatMap cq++[59]:=by simp
   rw[e];exact y
  have b6:Hid _:=a0;clear a0 y K;go_wp2_with fail;go_end0;exact⟨rfl,b6.o,ac.trans J⟩
structure nX (k1 k2:Nat) (WT w w7:World) (G gc ci:Nat) (l:List aG) (av:Value):Prop where
 cells:∀j,j<16->∃u,w7.cell? ⟨G,j,none⟩=some u/\w7.frozen? ⟨G,j,none⟩=false
 ge:WT.1.size<=G
 lt:G<w7.1.size
 cap:4<=gc
 below:bL WT w7
 ahead:bL w WT
 done:∀ (c:aG) (lv rv:Value) (wF:World),wF=(((w7.setCell ⟨G,ci*4,none⟩ (.bool c.1)).setCell ⟨G,ci*4+1,none⟩ lv).setCell ⟨G,ci*4+2,none⟩ rv).setCell ⟨G,ci*4+3,none⟩ (U c.2.2.2)->cD WT.1.size WT lv c.2.1->aX WT.1.size WT (.agg #[rv,U c.2.2.2]) c.2.2->aE wF.1.size wF (.slice (sO G) 4 gc) (l.set ci c)/\bL w wF
 doneK:∀ (K:Nat->Prop),(∀k,K k->k<w.1.size)->lZ K w.1.size WT->kn K WT av l->∀ (c:aG) (lv rv:Value) (wF:World),wF=(((w7.setCell ⟨G,ci*4,none⟩ (.bool c.1)).setCell ⟨G,ci*4+1,none⟩ lv).setCell ⟨G,ci*4+2,none⟩ rv).setCell ⟨G,ci*4+3,none⟩ (U c.2.2.2)->ym K WT lv c.2.1->Id K WT (.agg #[rv,U c.2.2.2]) c.2.2->kn K wF (.slice (sO G) 4 gc) (l.set ci c)
theorem sF(B b o cap:Nat)(l:List aG)(ci:Nat)(m w:World)(D:Nat)(E:B<=w.1.size)(a:l.length=4)(W:aE B m (.slice (some ⟨b,o,none⟩) 4 cap) l)(O:bL w m)(a4:w.1.size<D)(a5:D<m.1.size)(F:ci<4):
  ∃G v x,(Builtin.append_ #[22,22] 22 #[.slice (sO m.1.size) 0 0,.slice (some ⟨b,o,none⟩) 4 cap]).run prog (m.alloc (.cells #[] 46))=.ok (.slice (sO G) 4 v) x/\nX w.1.size D m w x G v ci l (.slice (some ⟨b,o,none⟩) 4 cap)/\bL m x:=by
 have H:=O.u E;obtain⟨v7,x,ys,I,q,y,r,J⟩:=ti B 22 b o cap l m (by rw[a];exact W) (by rw[a];decide) H;rw[a] at I;obtain⟨G,v,X,f,Q,z,L,R⟩:=FD (ci:=ci) q y (by rw[a];exact F) H;rw[a] at X z L;subst X;have h:∀ (c:aG) (t u:Value) (n:World),n=(((x.setCell ⟨G,ci*4,none⟩ (.bool c.1)).setCell ⟨G,ci*4+1,none⟩ t).setCell ⟨G,ci*4+2,none⟩ u).setCell ⟨G,ci*4+3,none⟩ (U c.2.2.2)->bL m n:=λc t u n A=>by rw[A];exact(((r.setCell (p:=⟨G,ci*4,none⟩) f _).setCell (p:=⟨G,ci*4+1,none⟩) f _).setCell (p:=⟨G,ci*4+2,none⟩) f _).setCell (p:=⟨G,ci*4+3,none⟩) f _
 refine⟨G,v,x,I,⟨λj hj=>L j (by omega),f,Q,z,r,O,λc t u n A P C=>?_,λK hK hO hC c t u n A P C=>?_⟩,r⟩
 case refine_2=>
  have hs:=O.size;have s:=h c t u n A;obtain⟨-,-,S⟩:v<=maxLen/\True/\v<=maxLen:=by obtain⟨_,_,e,P,C,-⟩:=an q;simp at e;obtain⟨-,-,rfl⟩:=e;exact⟨C,trivial,C⟩
  have:=D7 (G:=K) (g:=G) (cap:=v) (xs:=ys) (l:=l) (base:=m.1.size) (ci:=ci) (w:=x) (wF:=n) (c:=c) (lv:=t) (rv:=u) (by rw[a] at q |-;exact q) y.1 (by rw[a];exact F) (λk hk=>Kd (hK k hk) hs) S (by rw[a];exact z) (λi d Y=>?_) (λM N=>⟨P M (N.back s (λ_ _ e=>e)),C M (N.back s (λ_ _ e=>e))⟩) A
  ·rw[a] at this;exact this
  obtain⟨T,V,e0,e1,e2,e3,-,-⟩:=y.2.2 i d Y;have c1:=J _ _ e1;have c2:=J _ _ e2;rw[<-KX] at c1 c2;have⟨k1,D⟩:=hC.vals (W.wide E) hO Y c1 c2;exact⟨T,V,e0,e1,e2,e3,λM N=>⟨k1 M (N.back s (λ_ _ e=>e)),D M (N.back s (λ_ _ e=>e))⟩⟩
 have h:bL m n:=by rw[A];exact(((r.setCell (p:=⟨G,ci*4,none⟩) f _).setCell (p:=⟨G,ci*4+1,none⟩) f _).setCell (p:=⟨G,ci*4+2,none⟩) f _).setCell (p:=⟨G,ci*4+3,none⟩) f _
 exact⟨R c t u n A λak e=>by subst e;exact⟨(P.l h lE).mono h.size,gG (C.l h lE) h.size⟩,O.th h⟩
theorem AL(B a cap ra rl rc l)(ci P:Nat)(rs:List aq)(d w)(hl:aE B w (.slice a 4 cap) l)(hr:cI B w (.agg #[U 4,U ci,U P,.slice ra rl rc,U d]) (4,(ci:Int),(P:Int),rs,d))(A:B<=w.1.size)(C:bC l=0)(Q:aZ (4,(ci:Int),(P:Int),rs,d)=0)(c:aG)(D:l[ci]?=some c)(R:c.1=true):
  cL 36 #[.slice a 4 cap,.agg #[U 4,U ci,U P,.slice ra rl rc,U d]] w λe g=>∃v,e=.returned (.tuple #[v,U 0])/\aE g.1.size g v (l.set ci bn)/\bL w g/\∀K:Nat->Prop,(∀k,K k->k<w.1.size)->lZ K w.1.size w->kn K w (.slice a 4 cap) l->kn K g v (l.set ci bn):=by
 have HL:=Z λg (h:bL w g)=>hl.l h A
 have HC:=Z λg (h:bL w g)=>C▸fR B _ l g (hl.l h A) (h.u A)
 have HR:=Z λg (h:bL w g)=>Q▸eR B _ _ g (hr.l h A) (h.u A)
 have j:=Z ((f7.1 C).1);have a5:ci<4:=by have:=(K9.1 D).1;rw[j.o] at this;exact this
 have b2:(ci:Int)<4:=by omega
 have b3:(0:Int)<=(ci:Int):=by omega
 have a6:4<=cap:=by obtain⟨_,_,e,N,-⟩:=hl;simp at e;rw[j.o] at N;omega
 have S:=Z D;clear hl hr C Q D;have⟨W1,m⟩:=nM (w.alloc (.cells #[U 4,U ci,U P,.slice ra rl rc,U d] 71));have E:=bA m;have a7:=sA m;have g1:=hA m;have HG:=Z λg (h:bL W1 g)=>Q2 (h.bk g1) (E.th h)
 have a9:=Z m;have aa:=Z E;have F:=Z A;clear m g1 E a7 A;go_enter func36,ntmps36;go_wp2_with fail;rw[<-a9.o];go_at_call 64;refine(HC.o _ aa.o).mono ?_;rintro e w2 ⟨rfl,H⟩;have⟨g2,t⟩:=HG.o w2 H;have⟨y0,y1,y2,y3,y4⟩:=aF g2;have I:=Z2 H t;clear g2 H t HC;go_wp2_with fail;go_at_call 65;refine(HR.o _ I.o.2).mono ?_;rintro e r ⟨rfl,T⟩;have⟨g3,i⟩:=HG.o r (I.o.1.th T);clear y0 y1 y2 y3 y4 HR T I;have⟨y0,y1,y2,y3,y4⟩:=aF g3;obtain⟨_,_,e1,-,-,V⟩:=HL.o _ i;have⟨b,o,e,ac,W⟩:=V ci c S.o;simp at e1;obtain⟨rfl,-⟩:=e1;subst e;obtain⟨la,lc,pa,pc,c0,c1,c2,c3,-,-⟩:=W.vals;rw[R] at c0;have bk:=Kd ac (i.u F.o);generalize c.2.1.length=bm at*;generalize c.2.2.1.length=bo at*;generalize c.2.2.2=cd at*;clear V W R S;have J:=io g3;have ad:=Z g3;have X:=Z i;clear g3 i;have⟨u,n⟩:=nM ((r.alloc (.cells #[.bool false,nL,nL,U 0] 46)).alloc (.cells #[.slice ra rl rc,U d] 30));have p:=bB n;have gT:=gB n;have x:=Z2 (kJ _ _:cD u.1.size u nL []) (bV _ _:aX u.1.size u (.agg #[nL,U 0]) ([],0));have Y:=sB n;have af:=Z n;clear n;have y:Hid (∃G O q,(Builtin.append_ #[22,22] 22 #[.slice (sO (r.1.size+1+1)) 0 0,.slice (some ⟨b,o,none⟩) 4 cap]).run prog (u.alloc (.cells #[] 46))=.ok (.slice (sO G) 4 O) q/\nX w.1.size r.1.size u w q G O ci l (.slice (some ⟨b,o,none⟩) 4 cap)/\q.cell? (pW w 1)=some (U ci)/\q.cell? (pW r 0)=some (.bool false)/\q.cell? (pW r 1)=some nL/\q.cell? (pW r 2)=some nL/\q.cell? (pW r 3)=some (U 0)):=by have L:=io gT;have z:=X.o.th p;obtain⟨G,O,q,N,h2,h3⟩:=sF B b o cap l ci u w r.1.size F.o j.o (HL.o _ z) z J L a5;have s:=(h3.block _ L).trans gT;have al:=(h3.block _ (MT J L)).trans ((p.block _ J).trans ad.o);rw[Y] at N;exact⟨G,O,q,N,h2,(aF al).2.1,J0 s,J1 s,J2 s,J3 s⟩
 clear p gT HL HG F a6 Y;go_wp2_with (first|(at_builtin;go_must (rw[<-af.o];obtain⟨G,O,q,a0,f,r1,t0,t1,t2,t3⟩:=y.o;refine Kw _ rfl _ _ _ _ rfl _ _ rfl rfl _ _ a0 ?_;obtain⟨u0,p0,f0⟩:=f.cells (ci*4) (by omega);obtain⟨u1,p1,f1⟩:=f.cells (ci*4+1) (by omega);obtain⟨u2,p2,f2⟩:=f.cells (ci*4+2) (by omega);obtain⟨u3,p3,f3⟩:=f.cells (ci*4+3) (by omega);have M:Hid (nX w.1.size r.1.size u w q G O ci l (.slice (some ⟨b,o,none⟩) 4 cap)):=f;have bp:=f.cap;clear a0 f y)));go_ret2;obtain⟨N,h2⟩:=M.o.done bn _ _ _ rfl x.o.1 x.o.2;have a1:=M.o.ahead;exact⟨_,rfl,N,h2,λK hK hO hC=>M.o.doneK K hK (hO.l a1) (hC.l a1 (λ_ _ e=>e)) bn _ _ _ rfl (rQ _ _) (λ_ _=>bV _ _)⟩
