import Derived.Test.YtjdnfhkkkejcfaaGreatDoorWd39
set_option linter.all false
set_option maxRecDepth 100000
set_option maxHeartbeats 8000000
namespace Go.Proofs.YtjdnfhkkkejcfaaGreatDoor
open Go.RowKit Go.Maps Go.Proofs.Tryz
theorem xD(B wv xv x y w)(hx:bi B w wv x)(hy:cI B w xv y)(hB:B<=w.1.size)(hk:y.1=5)(hu:x.2.2=true)(A:aB x.2.1=0):s9 wv xv x y w:=by
 obtain⟨L,M,b,g,i,j,rfl,hc,S⟩:=hx.shape;obtain⟨T,V,rfl,hp⟩:=hy.shape;obtain⟨N,o,u⟩:=x;obtain⟨k,c,f,O,d⟩:=y;simp only at*;subst hu hk;have W:=A;clear hp hx hy hc
 have X:Hid (aQ (N,o,true) (5,c,f,O,d)=0/\bP (N,o,true) (5,c,f,O,d)=(aA,o,false)):=by
  have h0:aQ (N,o,true) (5,c,f,O,d)=0:=by unfold aQ;simp only;rw[iO (by omega),iO (by simp),Io trivial]
  refine⟨h0,?_⟩;unfold bP;rw[Io h0];unfold gK;simp only;rw[Io trivial]
 generalize N.length=P at*;have⟨l,C⟩:=nM (o.1.length);have⟨m,D⟩:=nM (o.2.length)
 rw[<-C,<-D] at S |-
 generalize O.length=Y at*;have⟨q,E,Q,r⟩:=lF w #[.slice L P M,.slice b l g,.slice i m j,.bool true] #[U 5,U c,U f,.slice T Y V,U d];have⟨WX,t⟩:=nM (sU w #[.slice L P M,.slice b l g,.slice i m j,.bool true] #[U 5,U c,U f,.slice T Y V,U d]);rw[<-t] at q E Q r;have a0:Hid (WX=((w.alloc (.cells #[.slice L P M,.slice b l g,.slice i m j,.bool true] 27)).alloc (.cells #[U 5,U c,U f,.slice T Y V,U d] 32)).alloc (.cells #[nL,nL,nL,.bool false] 27)):=(t);obtain⟨⟨q0,q1,q2,q3⟩,-⟩:=bY E;have b3:=q2;have r0:=(aF Q).1;have l0:=io E;have l1:=io Q;have G2:=Z r;have G0:=Z λn (h:bL WX n)=>Q3 ((h.block _ l0).trans E:n.1[w.1.size]?=some (.cells #[.slice L P M,.slice b l g,.slice i m j,.bool true] 27 (0,0))) (h.bl r) (q.th h)
 have F:=Z q;have a1:Hid (∀n,cL 34 #[U 5,U 1,U 7] n λe a2=>e=.returned (.bool true)/\a2=n):=λn=>mt (by omega) n
 clear t q E Q r C D;go_enter func13,ntmps13;go_wp2_with fail;rw[<-a0.o];go_at_call 34;refine(a1.o _).mono ?_;rintro e p ⟨rfl,rfl⟩;have hm:=kT;have r:=G2.o;have⟨⟨z0,z1,z2,z3⟩,f0,f1,f2,f3⟩:=bY r;have lb:=io r;go_wp2_with fail;have G:Hid (∀n,bL w n->aI B n (.slice b l g) o.1/\aI B n (.slice i m j) o.2):=λn h=>by have⟨sv,tv,ed,H,I⟩:=S.l h hB;simp at ed;obtain⟨rfl,rfl⟩:=ed;exact⟨H,I⟩
 clear S A W r;go_region
 all_goals
  go_wp2_with fail;have⟨k1,k2,k3,k4⟩:=eK (u0:=.slice (MZ p) 4 4) (u1:=.slice b l g) (u2:=.slice i m j) (u3:=.bool false) G2.o;have⟨s,a⟩:=nM (((((p.setCell (pA (w.1.size+1+1) 0) (.slice (MZ p) 4 4)).setCell (pA (w.1.size+1+1) 1) (.slice b l g)).setCell (pA (w.1.size+1+1) 2) (.slice i m j)).setCell (pA (w.1.size+1+1) 3) (.bool false)).alloc (.cells (madeCells #[.bool false,nL,nL,U 0] 16) 46));have gF:s.1[w.1.size+1+1]?=some (.cells #[.slice (MZ p) 4 4,.slice b l g,.slice i m j,.bool false] 27 (0,0)):=by rw[a,Kq _ _ _ (by rw[k3];exact lb)];exact k1
  have R:s.1[p.1.size]?=some (.cells (madeCells #[.bool false,nL,nL,U 0] 16) 46 (0,0)):=by rw[a];have:=ah ((((p.setCell (pA (w.1.size+1+1) 0) (.slice (MZ p) 4 4)).setCell (pA (w.1.size+1+1) 1) (.slice b l g)).setCell (pA (w.1.size+1+1) 2) (.slice i m j)).setCell (pA (w.1.size+1+1) 3) (.bool false)) (.cells (madeCells #[.bool false,nL,nL,U 0] 16) 46);rw[k3] at this;exact this
  have z:bL w s:=by rw[a];have h1:=F.o.trans (k4 _ (Kl (Nat.le_add_right _ 1) (Nat.le_add_right _ 1)));exact h1.alloc h1.size _
  rw[<-a];clear a k1 k2 k3 k4 z0 z1 z2 z3 f0 f1 f2 f3 hm;have gD:=gF;obtain⟨⟨y0,y1,y2,y3⟩,-⟩:=bY gF;refine Ka (v:=.tuple #[.agg #[.slice (MZ p) 4 4,.slice b l g,.slice i m j,.bool false],U 0]) ?_ rfl ⟨_,by rw[X.o.1],?_,z.drew,?_⟩
  ·rw[K8 rfl];clear gF R z gD;go_simp
  ·rw[X.o.2];have hl:=io R;have⟨H,I⟩:=G.o s z;have J:=z.u hB;have hW:bi s.1.size s (.agg #[.slice (MZ p) 4 4,.slice b l g,.slice i m j,.bool false]) (aA,o,false):=⟨_,_,_,rfl,(je R).wide hl,H.wide J,I.wide J⟩;exact hW
  rw[X.o.2];intro K hK hO hW hR;have⟨H,I⟩:=G.o s z;have bp:=F.o.size;have a:kG K s (.agg #[.slice (MZ p) 4 4,.slice b l g,.slice i m j,.bool false]) (aA,o,false):=zK (x:=(aA,o,false)) (uR R (λe=>absurd (hK _ e) (by omega))) H I (uT hO hK z);exact a.l bR.drew (λ_ _ e=>e)
theorem xJ(B wv xv x y w)(he:dD w)(hx:bi B w wv x)(hy:cI B w xv y)(hB:B<=w.1.size)(hk:y.1=6)(hu:x.2.2=false)(o:aB x.2.1=0):s9 wv xv x y w:=by
 obtain⟨ca,cc,sa,sc,ta,tc,rfl,hc,hd⟩:=hx.shape;obtain⟨pa,pc,rfl,hp⟩:=hy.shape;obtain⟨N,i,u⟩:=x;obtain⟨k,c,f,O,d⟩:=y;simp only at*;subst hu hk;have c5:=o;clear hp hx hy hc
 have HE:Hid (aQ (N,i,false) (6,c,f,O,d)=(ay (cK i)).2/\bP (N,i,false) (6,c,f,O,d)=if (ay (cK i)).2=0 then ((ay (cK i)).1,gE i,true) else fg):=by
  have h0:aQ (N,i,false) (6,c,f,O,d)=(ay (cK i)).2:=by unfold aQ;simp only;rw[iO (by omega),iO (by simp),iO (by omega),Io trivial]
  refine⟨h0,?_⟩;unfold bP;rw[h0];have hw:gK (N,i,false) (6,c,f,O,d)=((ay (cK i)).1,gE i,true):=by unfold gK;simp only;rw[iO (by omega),Io trivial]
  rw[hw]
 have p:Hid (∀j,bL w j->cL 19 #[.agg #[.slice sa i.1.length sc,.slice ta i.2.length tc]] j λe b=>∃q G r s H t P ln Q,e=.returned (.tuple #[.agg #[.slice q G r,.slice s H t],.slice P ln Q])/\cJ b.1.size b (.agg #[.slice q G r,.slice s H t]) (gE i)/\(dh b.1.size b (.slice P ln Q) (cK i)/\qt j.1.size b (.slice P ln Q) (cK i))/\bL j b):=λj h=>by
  have I:=dE o;refine(tY B _ i j (he.l h) (hd.l h hB) (h.u hB) I.1 I.2.1).mono λe b ⟨dv,lv,h1,J,L,h4,h5⟩=>?_
  have⟨s1,t1,R,S,z⟩:=id J;obtain⟨q,r,es,-⟩:=S;obtain⟨s,t,et,-⟩:=z;obtain⟨P,Q,el,-⟩:=id L;subst es et R el;have e1:cK i=iF i:=by unfold cK;rw[Io o]
  have e2:gE i=(jB i,[]):=by unfold gE;rw[Io o]
  refine⟨_,_,_,_,_,_,P,_,Q,h1,?_,?_,h4⟩
  ·rw[e2];exact J
  rw[e1];exact⟨L,h5⟩
 clear hd he o c5;have⟨T,ae⟩:=nM (cK i);have⟨RD,af⟩:=nM (gE i);rw[<-ae,<-af] at p HE;clear ae af;generalize N.length=nC at*;have⟨nS,ak⟩:=nM (i.1.length);have⟨nT,al⟩:=nM (i.2.length)
 rw[<-ak,<-al] at p |-
 generalize O.length=nP at*;have⟨A,g0,g1,g2⟩:=lF w #[.slice ca nC cc,.slice sa nS sc,.slice ta nT tc,.bool false] #[U 6,U c,U f,.slice pa nP pc,U d];have⟨WX,V⟩:=nM (sU w #[.slice ca nC cc,.slice sa nS sc,.slice ta nT tc,.bool false] #[U 6,U c,U f,.slice pa nP pc,U d]);rw[<-V] at A g0 g1 g2;have cb:Hid (WX=((w.alloc (.cells #[.slice ca nC cc,.slice sa nS sc,.slice ta nT tc,.bool false] 27)).alloc (.cells #[U 6,U c,U f,.slice pa nP pc,U d] 32)).alloc (.cells #[nL,nL,nL,.bool false] 27)):=(V);obtain⟨⟨q0,q1,q2,q3⟩,-⟩:=bY g0;have cd:=q2;have r0:=(aF g1).1;have l0:=io g0;have l1:=io g1;have G2:=Z g2;have G0:=Z λj (h:bL WX j)=>Q3 ((h.block _ l0).trans g0:Na j w.1.size #[.slice ca nC cc,.slice sa nS sc,.slice ta nT tc,.bool false] 27) (h.bl g2) (A.th h)
 have b0:=Z A;have ce:Hid (∀j,cL 34 #[U 6,U 1,U 7] j λe b=>e=.returned (.bool true)/\b=j):=λj=>mt (by omega) j
 clear V A g0 g1 g2 ak al;go_enter func13,ntmps13;go_wp2_with fail;rw[<-cb.o];go_at_call 34;refine(ce.o _).mono ?_;rintro e w2 ⟨rfl,rfl⟩;go_wp2_with fail;go_at_call 19;refine(p.o _ b0.o).mono ?_;rintro e M ⟨q,G,r,s,H,t,P,ln,Q,rfl,b1,W,C⟩;have⟨W4,D⟩:=nM (M.alloc (.cells #[.slice q G r,.slice s H t] 25));have m:=bA D;have g4:=hA D
 have b2:Hid (cL 20 #[.slice P ln Q] W4 λe b=>∃a n c,e=.returned (.tuple #[.slice a n c,U (ay T).2])/\aE b.1.size b (.slice a n c) (ay T).1/\bL W4 b/\∀K:Nat->Prop,(∀k,K k->k<w.1.size)->lZ K w.1.size w->kn K b (.slice a n c) (ay T).1):=by
  have cf:=(G0.o M C).2.2;have b3:=cf.th m;have em:=b0.o.size;refine(wC M.1.size _ T W4 (W.1.l m lE) m.size).mono λe b ⟨v,h1,J,L,h4⟩=>?_
  obtain⟨a,c,ev,-,-⟩:=J.shape;subst ev;exact⟨a,_,c,h1,J,L,λK X hO=>h4 K (λk hk=>Kd (X k hk) b3.size) (hO.all X b3) (λwF hk=>((W.2.l m).keep (λg hg I=>hk.2 g (λe=>absurd (X _ e) (by omega)) I) hk.size).recs)⟩
 have b4:Hid (∀j,bL W4 j->cJ M.1.size j (.agg #[.slice q G r,.slice s H t]) RD/\Na j M.1.size #[.slice q G r,.slice s H t] 25/\Na j (w.1.size+1+1) #[nL,nL,nL,.bool false] 27/\bL w j/\M.1.size<=j.1.size):=λj h=>by have L:=m.th h;have J:=C.th L;exact⟨b1.l L lE,h.bl g4,(G0.o j J).2.1,(G0.o j J).2.2,L.size⟩
 have ci:=Z (io (G0.o M C).2.1);have ck:=Z D;clear D m g4 b1 W C q0 q1 q2 cd q3 r0;go_wp2_with fail;rw[<-ck.o];go_at_call 20;refine b2.o.mono ?_;rintro e w5 ⟨ra,rn,rc,rfl,b5,b6,b7⟩;have⟨b8,g5,E,b9,ba⟩:=b4.o w5 b6;have x0:=J0 g5;have x1:=J1 g5;have lx:=io g5;have⟨⟨z0,z1,z2,z3⟩,f0,f1,f2,f3⟩:=bY E;have lb:=io E;have cl:=Z λ(h:(ay T).2=0)=>iD h
 have cn:=Z b5;have bb:=Z b7;have bc:=Z2 b8 ba;have G5:=Z E;have Y:=Z b9;clear b7 b5 b8 ba E b9 b6 g5 b4 b2 p G0 G2;generalize (ay T).2=re at*;generalize (ay T).1=a0 at*;have ex:¬w.1.size+1+1=M.1.size:=by have:=ci.o;omega
 by_cases F:re=0
 ·subst F;have bf:Hid (mM a0):=cl.o rfl;have l:=Z2 HE.o.1 (by rw[HE.o.2,Io rfl]:bP (N,i,false) (6,c,f,O,d)=(a0,RD,true));go_wp2_with fail;have⟨S,z,k3,k4⟩:=eK (u0:=.slice ra rn rc) (u1:=.slice q G r) (u2:=.slice s H t) (u3:=.bool true) G5.o;obtain⟨⟨y0,y1,y2,y3⟩,-⟩:=bY S;refine Ka (v:=.tuple #[.agg #[.slice ra rn rc,.slice q G r,.slice s H t,.bool true],U 0]) ?_ rfl ⟨_,by rw[l.o.1],?_,Y.o.trans (k4 _ (by omega)),?_⟩
  ·rw[K8 rfl];clear S z k3 k4;go_simp
  ·rw[l.o.2,k3];have hz:=om.of G5.o;obtain⟨⟨sv,tv,R,hs,ht⟩,I⟩:=bc.o;simp at R;obtain⟨rfl,rfl⟩:=R;exact⟨_,_,_,rfl,cn.o.boxK z hz (mN bf.o),(hs.box z hz.1).wide I,(ht.box z hz.1).wide I⟩
  rw[l.o.2];intro K X hO hW hR;have hz:=om.of G5.o;obtain⟨⟨sv,tv,R,hs,ht⟩,I⟩:=bc.o;simp at R;obtain⟨rfl,rfl⟩:=R;exact zK (x:=(a0,RD,true)) ((bb.o K X hO).box G5.o (λe=>absurd (X _ e) (by omega)) z k3 (k4 0 (Ks _)) (mN bf.o)) (hs.box z hz.1) (ht.box z hz.1) (uT hO X (Y.o.trans (k4 _ (by omega))))
 have l:=Z2 HE.o.1 (by rw[HE.o.2,iO F]:bP (N,i,false) (6,c,f,O,d)=fg);have hq:(re != 0)=true:=by simpa using F
 clear F;go_wp2_with fail;go_at_call 33;refine(mH re _).mono ?_;rintro e w6 ⟨rfl,a4⟩;have g3:=a4.bl G5.o;clear z0 z1 z2 z3 f0 f1 f2 f3 lb x0 x1 lx;have⟨⟨z0,z1,z2,z3⟩,f0,f1,f2,f3⟩:=bY g3;have lb:=io g3;have G3:=Z g3;have cv:=Z (Y.o.th a4);clear a4 g3;go_wp2_with fail;obtain⟨S,-,k3,k4⟩:=eK (u0:=nL) (u1:=nL) (u2:=nL) (u3:=.bool false) G3.o;obtain⟨⟨y0,y1,y2,y3⟩,-⟩:=bY S;refine Ka (v:=.tuple #[.agg #[nL,nL,nL,.bool false],U re]) ?_ rfl ⟨_,by rw[l.o.1],by rw[l.o.2];exact ga _ _,cv.o.trans (k4 _ (by omega)),λK _ _ _ _=>by rw[l.o.2];exact jX _ _⟩;rw[K8 rfl];clear S k3 k4;go_simp
def wM:Value->Option (DataW Value × List MemPlace):=λv=>some (.held v,[])
theorem Ff{v u:Value}{ps:List MemPlace}(h:wM v=some (.held u,ps)):v=u:=DataW.held.inj (Prod.mk.inj (KG h)).1
theorem H3(w:World):(zeroValue 70).run prog w=.ok (.agg #[U 0,U 0,U 0,nL,U 0]) w:=by kernel_rfl
theorem ER{cs:List aG}{b:bQ}{k c f:Int}{a:List aq}{d:Int}(h:k=1\/k=2\/k=3\/k=4\/k=7):aQ (cs,b,true) (k,c,f,a,d)=if cQ cs (bU (k,c,f,a,d))=0 then (if f8 b (bU (k,c,f,a,d))=0 then (if k=7 then 0 else fm (fu b (bU (k,c,f,a,d)))) else f8 b (bU (k,c,f,a,d))) else cQ cs (bU (k,c,f,a,d)):=by rcases h with rfl|rfl|rfl|rfl|rfl<;>(unfold aQ;simp)
theorem FR{cs:List aG}{a:bQ}{k c f:Int}{b:List aq}{d:Int}(h:k=1\/k=2\/k=3\/k=4\/k=7):bP (cs,a,true) (k,c,f,b,d)=if aQ (cs,a,true) (k,c,f,b,d)=0 then (if k=7 then (aA,(a.1,(fu a (bU (k,c,f,b,d))).2.take (ig f (fu a (bU (k,c,f,b,d))).2.length)),false) else (dI cs (bU (k,c,f,b,d)),i7 (fu a (bU (k,c,f,b,d))),true)) else fg:=by rcases h with rfl|rfl|rfl|rfl|rfl<;>(unfold bP gK;simp)
theorem IY{d:bQ}{r:az}(b:aB d=0)(h:lz d r=0):aB (gf d r)=0:=by
 have⟨g,i,j,c⟩:=dE b;have e:gf d r=(d.1,d.2++(fP r++[10])):=by unfold gf;rw[Io h]
 rw[e];refine wA ?_ c;unfold lz at h
 by_cases a:aZ r=0
 ·rw[Io a] at h
  by_cases f:60000<d.1.length+d.2.length+(fP r).length+1
  ·rw[Io f] at h
   cases h
  simp only[Kj,Kv,Lf];omega
 rw[iO a] at h;exact absurd h a
theorem JQ{p:Prop}(h:p):Hid p:=h
theorem kQ(B wv xv x y w)(he:dD w)(fo:Lib.TabIs prog w "strings.asciiSpace" .u8 Lib.asciiSpaceTab)(hx:bi B w wv x)(hy:cI B w xv y)(hB:B<=w.1.size)(C:y.1=1\/y.1=2\/y.1=3\/y.1=4\/y.1=7)(hu:x.2.2=true)(bk:aB x.2.1=0)(hG:mM x.1):s9 wv xv x y w:=by
 obtain⟨ca,cc,sa,sc,ta,tc,rfl,hc,hd⟩:=hx.shape;obtain⟨T,V,rfl,hp⟩:=hy.shape;obtain⟨l,a,u⟩:=x;obtain⟨k,c,f,n,d⟩:=y;simp only at*;subst hu;obtain⟨mf,ey,-,J,bm,bo⟩:=id hy;simp only at ey J bm bo;simp at ey;subst ey;have⟨nC,da⟩:=nM (l.length);have⟨nS,dc⟩:=nM (a.1.length);have⟨nT,dd⟩:=nM (a.2.length);have⟨W,de⟩:=nM (n.length);have hl:=dE bk;rw[<-dc,<-dd] at hd;rw[<-da] at hc;rw[<-de] at bo;rw[<-da,<-dc,<-dd,<-de]
 obtain⟨q,X,qa,nQ,qc,qs,Y,ae⟩:∃ (q X:Int) (qa:Option Addr) (nQ qc:Nat) (qs:List aq) (Y:Int),(((k=1/\q=1\/k=2/\q=2\/k=7/\q=2)/\X=0/\qa=T/\nQ=W/\qc=V/\qs=n/\Y=d)\/((k=3/\q=3/\X=f\/k=4/\q=4/\X=0)/\qa=none/\nQ=0/\qc=0/\qs=[]/\Y=0)):=by
  rcases C with h|h|h|h|h
  ·exact⟨1,0,T,W,V,n,d,.inl ⟨.inl ⟨h,rfl⟩,rfl,rfl,rfl,rfl,rfl,rfl⟩⟩
  ·exact⟨2,0,T,W,V,n,d,.inl ⟨.inr (.inl ⟨h,rfl⟩),rfl,rfl,rfl,rfl,rfl,rfl⟩⟩
  ·exact⟨3,f,none,0,0,[],0,.inr ⟨.inl ⟨h,rfl,rfl⟩,rfl,rfl,rfl,rfl,rfl⟩⟩
  ·exact⟨4,0,none,0,0,[],0,.inr ⟨.inr ⟨h,rfl,rfl⟩,rfl,rfl,rfl,rfl,rfl⟩⟩
  exact⟨2,0,T,W,V,n,d,.inl ⟨.inr (.inr ⟨h,rfl⟩),rfl,rfl,rfl,rfl,rfl,rfl⟩⟩
 have k5:Hid ((Lit.int .i64 k).wf=true):=by rcases C with rfl|rfl|rfl|rfl|rfl<;>exact rfl
 have c6:(k != 6)=true:=by rcases C with rfl|rfl|rfl|rfl|rfl<;>rfl
 have d6:(k==6)=false:=by rcases C with rfl|rfl|rfl|rfl|rfl<;>rfl
 have c5:(k==5)=false:=by rcases C with rfl|rfl|rfl|rfl|rfl<;>rfl
 have HC:=JQ ae
 have bs:Hid (∀i,bL w i->cI B i (.agg #[U q,U c,U X,.slice qa nQ qc,U Y]) (q,c,X,qs,Y)):=λi L=>by
  rcases ae with ⟨⟨rfl,rfl⟩|⟨rfl,rfl⟩|⟨rfl,rfl⟩,rfl,rfl,rfl,rfl,rfl,rfl⟩|⟨⟨rfl,rfl,rfl⟩|⟨rfl,rfl,rfl⟩,rfl,rfl,rfl,rfl,rfl⟩
  all_goals first|exact⟨_,rfl,(by show wf (_:Int);unfold wf;rfl),J,(by show wf (0:Int);unfold wf;decide),bo.l L hB⟩|exact⟨_,rfl,(by show wf (_:Int);unfold wf;rfl),J,bm,bV _ _⟩|exact⟨_,rfl,(by show wf (_:Int);unfold wf;rfl),J,(by show wf (0:Int);unfold wf;decide),bV _ _⟩
 have af:Hid (∀K:Nat->Prop,wU K w (.agg #[U k,U c,U f,.slice T W V,U d]) (k,c,f,n,d)->wU K w (.agg #[U q,U c,U X,.slice qa nQ qc,U Y]) (q,c,X,qs,Y)):=λK hR wF k6=>by
  rcases ae with ⟨⟨rfl,rfl⟩|⟨rfl,rfl⟩|⟨rfl,rfl⟩,rfl,rfl,rfl,rfl,rfl,rfl⟩|⟨⟨rfl,rfl,rfl⟩|⟨rfl,rfl,rfl⟩,rfl,rfl,rfl,rfl,rfl⟩
  all_goals first|exact⟨_,rfl,(by show wf (_:Int);unfold wf;rfl),J,(by show wf (0:Int);unfold wf;decide),(wU.pol (d':=0) hR) wF k6⟩|exact⟨_,rfl,(by show wf (_:Int);unfold wf;rfl),J,bm,bV _ _⟩|exact⟨_,rfl,(by show wf (_:Int);unfold wf;rfl),J,(by show wf (0:Int);unfold wf;decide),bV _ _⟩
 obtain⟨R,hR⟩:∃R:az,R=(q,c,X,qs,Y):=⟨_,rfl⟩
 have fq:Hid (bU (k,c,f,n,d)=R):=by rw[hR];rcases ae with ⟨⟨rfl,rfl⟩|⟨rfl,rfl⟩|⟨rfl,rfl⟩,rfl,rfl,rfl,rfl,rfl,rfl⟩|⟨⟨rfl,rfl,rfl⟩|⟨rfl,rfl,rfl⟩,rfl,rfl,rfl,rfl,rfl⟩<;>rfl
 rw[<-hR] at bs af;clear hR;have fr:Hid (∀i,bL w i->cL 35 #[.slice ca nC cc,.agg #[U q,U c,U X,.slice qa nQ qc,U Y]] i λe j=>∃la ln lc,e=.returned (.tuple #[.slice la ln lc,U (cQ l R)])/\aE j.1.size j (.slice la ln lc) (dI l R)/\bL i j/\∀K:Nat->Prop,(∀k,K k->k<w.1.size)->lZ K w.1.size w->kG K w (.agg #[.slice ca nC cc,.slice sa nS sc,.slice ta nT tc,.bool true]) (l,a,true)->wU K w (.agg #[U k,U c,U f,.slice T W V,U d]) (k,c,f,n,d)->kn K j (.slice la ln lc) (dI l R)):=λi L=>(AY B _ _ l R i (hc.l L hB) (bs.o i L) (L.u hB)).mono λe j ⟨v,h1,h2,h3,h4⟩=>by obtain⟨la,lc,ev,-,-⟩:=h2.shape;subst ev;exact⟨la,_,lc,h1,h2,h3,λK hK hO hW hR=>h4 K (λk C=>Kd (hK k C) L.size) (hO.all hK L) (hW.cells.l L (λ_ _ e=>e)) ((af.o K hR).l L (λ_ _ e=>e))⟩
 have fv:Hid (∀i,bL w i->cL 36 #[.agg #[.slice sa nS sc,.slice ta nT tc],.agg #[U q,U c,U X,.slice qa nQ qc,U Y]] i λe j=>∃E P F G n2 s,e=.returned (.tuple #[.agg #[.slice E P F,.slice G n2 s],U (lz a R)])/\cJ j.1.size j (.agg #[.slice E P F,.slice G n2 s]) (gf a R)/\n2=(gf a R).2.length/\bL i j):=λi L=>(Ex B _ _ a R i (he.l L) (jG fo L) (hd.l L hB) (bs.o i L) (L.u hB) hl.1 hl.2.1).mono λe j ⟨v,h1,h2,h3⟩=>by have⟨s1,t1,t,I,z⟩:=id h2;obtain⟨E,F,es,-⟩:=I;obtain⟨G,s,et,-⟩:=z;subst es et t;exact⟨E,_,F,G,_,s,h1,h2,rfl,h3⟩
 have df:Hid (∀i v D,bL w i->cJ i.1.size i v D->D.1.length<=60000->D.2.length<=60000->cL 37 #[v] i λe j=>∃E P F G n2 s,e=.returned (.tuple #[.agg #[.slice E P F,.slice G n2 s],U (km D)])/\cJ j.1.size j (.agg #[.slice E P F,.slice G n2 s]) (p6 D)/\bL i j):=λi v D L hD h1 h2=>(Dg i.1.size v D i (he.l L) hD lE h1 h2).mono λe j ⟨v,h1,h2,h3⟩=>by have⟨s1,t1,t,I,z⟩:=id h2;obtain⟨E,F,es,-⟩:=I;obtain⟨G,s,et,-⟩:=z;subst es et t;exact⟨E,_,F,G,_,s,h1,h2,h3⟩
 have HE:Hid (aQ (l,a,true) (k,c,f,n,d)=if cQ l R=0 then (if f8 a R=0 then (if k=7 then 0 else fm (fu a R)) else f8 a R) else cQ l R):=by rw[<-fq.o];exact ER C
 have A:Hid (bP (l,a,true) (k,c,f,n,d)=if aQ (l,a,true) (k,c,f,n,d)=0 then (if k=7 then (aA,(a.1,(fu a R).2.take (ig f (fu a R).2.length)),false) else (dI l R,i7 (fu a R),true)) else fg):=by rw[<-fq.o];exact FR C
 have c0:Hid (f8 a R=lz a R/\fu a R=gf a R):=by
  have e1:f8 a R=lz a R:=by unfold f8;rw[Io bk]
  exact⟨e1,by unfold fu gf;rw[e1]⟩
 have c8:=Z λ(h:lz a R=0)=>IY bk h
 rw[c0.o.1,c0.o.2] at HE;rw[c0.o.2] at A;clear hp hx hy hc hd he fo da dc dd de J bm bo bs af hl bk c0;have⟨di,g0,g1,g2⟩:=lF w #[.slice ca nC cc,.slice sa nS sc,.slice ta nT tc,.bool true] #[U k,U c,U f,.slice T W V,U d];have⟨WX,dn⟩:=nM (sU w #[.slice ca nC cc,.slice sa nS sc,.slice ta nT tc,.bool true] #[U k,U c,U f,.slice T W V,U d]);rw[<-dn] at di g0 g1 g2;have ka:Hid (WX=((w.alloc (.cells #[.slice ca nC cc,.slice sa nS sc,.slice ta nT tc,.bool true] 27)).alloc (.cells #[U k,U c,U f,.slice T W V,U d] 32)).alloc (.cells #[nL,nL,nL,.bool false] 27)):=(dn);obtain⟨⟨q0,q1,q2,q3⟩,-⟩:=bY g0;have⟨r0,r1,r2,r3,r4⟩:=aF g1;have l0:=io g0;have o:=io g1;have G0:=Z λi (h:bL WX i)=>Q4 ((h.block _ l0).trans g0:i.1[w.1.size]?=some (.cells #[.slice ca nC cc,.slice sa nS sc,.slice ta nT tc,.bool true] 27 (0,0))) (h.bl g2) ((h.block _ o).trans g1:i.1[w.1.size+1]?=some (.cells #[U k,U c,U f,.slice T W V,U d] 32 (0,0))) (di.th h)
 have kb:Hid (∀i,cL 34 #[U k,U 1,U 7] i λe j=>e=.returned (.bool true)/\j=i):=λi=>mt (by omega) i
 clear C ae;clear dn di g0 g1 g2;go_enter func13,ntmps13;go_wp2_with fail;rw[<-ka.o];go_at_call 34;refine Calls.mono (kb.o _) ?_;rintro e w2 ⟨rfl,rfl⟩;have mv:=@run_makeMap prog;have g3:=Le (H:=Value) w2 prog 3 wM
 go_wp2_with (first
  |(refine am (H:=Value) _ rfl _ _ _ 71 rfl 3 70 iK Tryz.underlying71 wM w2.1.size 0 _ rfl g3 (by decide) _ _ _ rfl rfl (KF underlying3 (by decide)) (.held (.agg #[U 1,U c,U 0,.slice T W V,U d])) [] rfl ?_;go_must (intro mC ak kc;clear g3;have b:=((Kf w2.1.size w2).alloc lE _).grown kc (by simp) (λk C=>by cases C;exact Ke _);have s0:=(b.cell (p:=pA (w.1.size+1) 1) o).trans r1;have s1:=(b.cell (p:=pA (w.1.size+1) 2) o).trans r2;have s2:=(b.cell (p:=pA (w.1.size+1) 3) o).trans r3;have s3:=(b.cell (p:=⟨w.1.size+1,3+1,none⟩) o).trans r4;have s4:=(b.cell (p:=pA (w.1.size+1) 0) o).trans r0))
  |(refine am (H:=Value) _ rfl _ _ _ 71 rfl 3 70 iK Tryz.underlying71 wM w2.1.size 1 _ rfl ak (by decide) _ _ _ rfl rfl (KF underlying3 (by decide)) (.held (.agg #[U 2,U c,U 0,.slice T W V,U d])) [] rfl ?_;go_must (intro mS al kd;clear ak;replace b:=b.grown kd b.size (λk C=>by cases C;exact Ke _);have s0:=(b.cell (p:=pA (w.1.size+1) 1) o).trans r1;have s1:=(b.cell (p:=pA (w.1.size+1) 2) o).trans r2;have s2:=(b.cell (p:=pA (w.1.size+1) 3) o).trans r3;have s3:=(b.cell (p:=⟨w.1.size+1,3+1,none⟩) o).trans r4;have s4:=(b.cell (p:=pA (w.1.size+1) 0) o).trans r0))
  |(refine am (H:=Value) _ rfl _ _ _ 71 rfl 3 70 iK Tryz.underlying71 wM w2.1.size 2 _ rfl al (by decide) _ _ _ rfl rfl (KF underlying3 (by decide)) (.held (.agg #[U 2,U c,U 0,.slice T W V,U d])) [] rfl ?_;go_must (intro mT ao kf;clear al;replace b:=b.grown kf b.size (λk C=>by cases C;exact Ke _);have s0:=(b.cell (p:=pA (w.1.size+1) 1) o).trans r1;have s1:=(b.cell (p:=pA (w.1.size+1) 2) o).trans r2;have s2:=(b.cell (p:=pA (w.1.size+1) 3) o).trans r3;have s3:=(b.cell (p:=⟨w.1.size+1,3+1,none⟩) o).trans r4;have s4:=(b.cell (p:=pA (w.1.size+1) 0) o).trans r0))
  |(refine am (H:=Value) _ rfl _ _ _ 71 rfl 3 70 iK Tryz.underlying71 wM w2.1.size 3 _ rfl ao (by decide) _ _ _ rfl rfl (KF underlying3 (by decide)) (.held (.agg #[U 3,U c,U f,nL,U 0])) [] rfl ?_;go_must (intro n0 av ki;clear ao;replace b:=b.grown ki b.size (λk C=>by cases C;exact Ke _);have s0:=(b.cell (p:=pA (w.1.size+1) 1) o).trans r1;have s1:=(b.cell (p:=pA (w.1.size+1) 2) o).trans r2;have s2:=(b.cell (p:=pA (w.1.size+1) 3) o).trans r3;have s3:=(b.cell (p:=⟨w.1.size+1,3+1,none⟩) o).trans r4;have s4:=(b.cell (p:=pA (w.1.size+1) 0) o).trans r0))
  |(refine am (H:=Value) _ rfl _ _ _ 71 rfl 3 70 iK Tryz.underlying71 wM w2.1.size 4 _ rfl av (by decide) _ _ _ rfl rfl (KF underlying3 (by decide)) (.held (.agg #[U 4,U c,U 0,nL,U 0])) [] rfl ?_;go_must (intro c9 b0 kk;clear av;replace b:=b.grown kk b.size (λk C=>by cases C;exact Ke _);have s0:=(b.cell (p:=pA (w.1.size+1) 1) o).trans r1;have s1:=(b.cell (p:=pA (w.1.size+1) 2) o).trans r2;have s2:=(b.cell (p:=pA (w.1.size+1) 3) o).trans r3;have s3:=(b.cell (p:=⟨w.1.size+1,3+1,none⟩) o).trans r4;have s4:=(b.cell (p:=pA (w.1.size+1) 0) o).trans r0;obtain⟨v6,n6,kl,hR⟩:=b0.lookup iK Tryz.underlying71 (H3 _) (zd:=.held (.agg #[U 0,U 0,U 0,nL,U 0])) (zp:=[]) rfl (KF underlying3 k5.o);have ko:v6=.agg #[U q,U c,U X,.slice qa nQ qc,U Y]:=(by rcases HC.o with ⟨⟨rfl,rfl⟩|⟨rfl,rfl⟩|⟨rfl,rfl⟩,rfl,rfl,rfl,rfl,rfl,rfl⟩|⟨⟨rfl,rfl,rfl⟩|⟨rfl,rfl,rfl⟩,rfl,rfl,rfl,rfl,rfl⟩<;>exact Ff hR);subst ko;clear hR;have t0:=(b.cell (p:=pW w 0) l0).trans q0;have t1:=(b.cell (p:=pW w 1) l0).trans q1;have t2:=(b.cell (p:=pW w 2) l0).trans q2;have t3:=(b.cell (p:=pW w 3) l0).trans q3;have n7:w.1.size<c9.1.size:=Kd l0 b.size;have b1:Hid (bL w2 c9):=b;clear b s0 s1 s2 s3)))
 have⟨WA,cb⟩:=nM (c9.alloc (.cells #[U q,U c,U X,.slice qa nQ qc,U Y] 70));rw[<-cb];have g4:bL w2 WA:=by rw[cb];exact b1.o.alloc b1.o.size _
 have gA:=hA cb;have dp:=Z λi (h:bL WA i)=>Q2 (G0.o i (g4.th h)) (h.bl gA)
 clear cb g4 gA b1 t0 t1 t2 t3 q0 q1 q2 q3 r0 r1 r2 r3 r4 s4 kl b0;go_at_call 35;refine Calls.mono (fr.o WA (dp.o WA bR).1.2.2.2) ?_;rintro e w4 ⟨la,ln,lc,rfl,g8,b4,g9⟩;have⟨⟨g0,g2,g1,dq⟩,gr⟩:=dp.o w4 b4;have kv:=Z g8;have gb:=Z g9;obtain⟨⟨t0,t1,t2,t3⟩,-⟩:=bY g0;have⟨s0,s1,s2,s3,s4⟩:=aF gr;have k0:=(aF g1).1;have z:=(aF g1).2.2.1;have gc:=Z dq;have ge:=Z g2;have a6:=Z λi (h:bL w4 i)=>Q3 (h.bl g2) (h.bl g1) (dq.th h)
 have kw:=Z gr;have gj:=Z λ(h:cQ l R=0)=>hG.next h
 clear g9 g8 b4 g0 g2 g1 dq gr dp G0 fr;generalize cQ l R=ne at*;generalize dI l R=nr at*
 by_cases b2:ne=0
 case neg=>
  have g:Hid (aQ (l,a,true) (k,c,f,n,d)=ne/\bP (l,a,true) (k,c,f,n,d)=fg):=by
   have e:aQ (l,a,true) (k,c,f,n,d)=ne:=by rw[HE.o,iO b2]
   exact⟨e,by rw[A.o,e,iO b2]⟩
  have hq:(ne != 0)=true:=by simpa using b2
  clear b2 HE A;go_wp2_with fail;go_at_call 33;refine Calls.mono (mH ne _) ?_;rintro e wz ⟨rfl,bz⟩;have M:=gc.o.th bz;have Q:=bz.bl ge.o;clear t0 t1 t2 t3 s0 s1 s2 s3 s4 k0 z;have⟨⟨z0,z1,z2,z3⟩,f0,f1,f2,f3⟩:=bY Q;have lb:=io Q;have GZ:=Z Q;have b6:=Z M;clear bz Q M;go_wp2_with fail;obtain⟨I,-,S,N⟩:=eK (u0:=nL) (u1:=nL) (u2:=nL) (u3:=.bool false) GZ.o;obtain⟨⟨y0,y1,y2,y3⟩,-⟩:=bY I;refine Ka (v:=.tuple #[.agg #[nL,nL,nL,.bool false],U ne]) ?_ rfl ⟨_,by rw[g.o.1],by rw[g.o.2];exact ga _ _,b6.o.trans (N _ (by omega)),λK _ _ _ _=>by rw[g.o.2];exact jX _ _⟩;rw[K8 rfl];clear I S N;go_simp
 subst b2;have go:Hid (mM nr):=gj.o rfl;have a7:=Z (by rw[HE.o,Io rfl]:aQ (l,a,true) (k,c,f,n,d)=if lz a R=0 then (if k=7 then 0 else fm (gf a R)) else lz a R);have dr:=Z λ(h:lz a R=0)=>Q3 ((dE (c8.o h)).1) ((dE (c8.o h)).2.1) (c8.o h)
 have l4:=io ge.o;have n8:c9.1.size<w4.1.size:=by have:=io kw.o;exact this
 clear gj HE c8;go_wp2_with fail;go_at_call 36;refine Calls.mono (fv.o w4 gc.o) ?_;rintro e r ⟨E,P,F,G,n2,s,rfl,ds,gp,b5⟩;have e0:=Z gp;clear gp;have⟨W6,cd⟩:=nM (r.alloc (.cells #[.slice E P F,.slice G n2 s] 25));have ce:=bA cd;have g6:=hA cd;have e2:=b5.th ce;have⟨h2,h1,gq⟩:=a6.o W6 e2;have e3:=Z gq;have gs:=Z h2;have e4:=Z (A4 (ds.l ce lE) ce.size);have gv:=Z e2;have l5:=Z g6;have⟨x0,x1,cf,ci⟩:=ag g6;have gT:=(aF (a6.o r b5).2.1).1;have gW:=(aF (a6.o r b5).2.1).2.2.1;have n9:=io (a6.o r b5).2.1;have gY:=b5.size;have h0:=Z cd;have l6:=Z b5;have h5:=Z ds;have d4:Hid (lz a R=0->(gf a R).1=a.1):=λh=>by unfold gf;rw[Io h]
 clear t0 t1 t2 t3 s0 s1 s2 s3 s4 k0 z ds b5 cd ce g6 e2 h2 h1 gq fv;generalize lz a R=pe at*
 by_cases b8:pe=0
 case neg=>
  have g:Hid (aQ (l,a,true) (k,c,f,n,d)=pe/\bP (l,a,true) (k,c,f,n,d)=fg):=by
   have e:aQ (l,a,true) (k,c,f,n,d)=pe:=by rw[a7.o,iO b8]
   exact⟨e,by rw[A.o,e,iO b8]⟩
  have hq:(pe != 0)=true:=by simpa using b8
  clear b8 a7 A dr;go_wp2_with fail;rw[<-h0.o];go_at_call 33;refine Calls.mono (mH pe _) ?_;rintro e wz ⟨rfl,bz⟩;have M:=e3.o.th bz;have Q:=bz.bl gs.o;clear x0 x1 cf ci gT gW;have⟨⟨z0,z1,z2,z3⟩,f0,f1,f2,f3⟩:=bY Q;have lb:=io Q;have GZ:=Z Q;have b6:=Z M;clear bz Q M;go_wp2_with fail;obtain⟨I,-,S,N⟩:=eK (u0:=nL) (u1:=nL) (u2:=nL) (u3:=.bool false) GZ.o;obtain⟨⟨y0,y1,y2,y3⟩,-⟩:=bY I;refine Ka (v:=.tuple #[.agg #[nL,nL,nL,.bool false],U pe]) ?_ rfl ⟨_,by rw[g.o.1],by rw[g.o.2];exact ga _ _,b6.o.trans (N _ (by omega)),λK _ _ _ _=>by rw[g.o.2];exact jX _ _⟩;rw[K8 rfl];clear I S N;go_simp
 subst b8
 by_cases a8:k=7
 case pos=>
  have c7:(k==7)=true:=by simpa using a8
  have g:Hid (aQ (l,a,true) (k,c,f,n,d)=0/\bP (l,a,true) (k,c,f,n,d)=(aA,(a.1,(gf a R).2.take (ig f (gf a R).2.length)),false)):=by
   have e:aQ (l,a,true) (k,c,f,n,d)=0:=by rw[a7.o,Io rfl,Io a8]
   exact⟨e,by rw[A.o,e,Io rfl,Io a8]⟩
  have h6:Hid ((gf a R).1=a.1):=d4.o rfl;clear d4;have⟨m,hm⟩:=nM (ig f n2);have h7:=Z (by rw[hm,e0.o]:ig f (gf a R).2.length=m);have nb:max 0 (min f (n2:Int))=(m:Int):=by rw[hm];unfold ig;omega
  have nc:m<=n2:=by rw[hm];unfold ig;omega
  have nd:n2<=s:=by obtain⟨_,_,t,-,⟨_,_,e,h,_⟩⟩:=e4.o;simp at t;rw[<-t.2] at e;simp at e;have:=e0.o;omega
  have m0:(0:Int)<=(m:Int):=by omega
  have mc:(m:Int)<=(s:Int):=by omega
  rw[h7.o] at g;clear a7 A df hm h7;have l7:=kT;obtain⟨ck,-,h8⟩:=a6.o r l6.o;have⟨⟨z0,z1,z2,z3⟩,f0,f1,f2,f3⟩:=bY ck;have lb:=io ck;have l9:¬w.1.size+1+1=r.1.size:=by omega
  have h9:¬r.1.size=w.1.size+1+1:=by omega
  have e5:=Z ck;have e6:=Z h8;have ha:Hid (m<=(gf a R).2.length):=by have:=e0.o;unfold Hid;omega
  clear ck h8;go_wp2_with fail;go_region
  all_goals
   go_wp2_with fail;have⟨I,z,S,N⟩:=eK (u0:=.slice (sO (r.1.size+1)) 4 4) (u1:=.slice E P F) (u2:=.slice G m s) (u3:=.bool false) e5.o;have⟨WS,hf⟩:=nM ((((r.setCell (pA (w.1.size+1+1) 0) (.slice (sO (r.1.size+1)) 4 4)).setCell (pA (w.1.size+1+1) 1) (.slice E P F)).setCell (pA (w.1.size+1+1) 2) (.slice G m s)).setCell (pA (w.1.size+1+1) 3) (.bool false))
   rw[<-hf] at I z S N |-
   have⟨WF,O⟩:=nM ((WS.alloc (.cells #[.slice E P F,.slice G m s] 25)).alloc (.cells (madeCells #[.bool false,nL,nL,U 0] 16) 46));have nf:WF.1.size=r.1.size+1+1:=by rw[O];simp[S]
   have gF:WF.1[w.1.size+1+1]?=some (.cells #[.slice (sO (r.1.size+1)) 4 4,.slice E P F,.slice G m s,.bool false] 27 (0,0)):=by rw[O,Kq _ _ _ (by simp;omega),Kq _ _ _ (by omega)];exact I
   have gM:WF.1[r.1.size+1]?=some (.cells (madeCells #[.bool false,nL,nL,U 0] 16) 46 (0,0)):=by rw[O];have:=ah (WS.alloc (.cells #[.slice E P F,.slice G m s] 25)) (.cells (madeCells #[.bool false,nL,nL,U 0] 16) 46);rw[Kg,S] at this;exact this
   have a9:Below r.1.size WS WF:=by rw[O];exact(bR.alloc (by omega) _).alloc (by simp;omega) _
   have bF:bL w WF:=(e6.o.trans (N _ (by omega))).trans (a9.mono e6.o.size);rw[<-O];clear O hf z0 z1 z2 z3 f0 f1 f2 f3 l7;have gD:=gF;obtain⟨⟨y0,y1,y2,y3⟩,-⟩:=bY gF;refine Ka (v:=.tuple #[.agg #[.slice (sO (r.1.size+1)) 4 4,.slice E P F,.slice G m s,.bool false],U 0]) ?_ rfl ⟨_,by rw[g.o.1],?_,bF.drew,?_⟩
   ·rw[K8 rfl];clear gF gM bF gD a9 I z S N;go_simp
   ·rw[g.o.2];have hz:=om.of e5.o;obtain⟨sv,tv,t,hs,ht⟩:=h5.o;simp at t;obtain⟨rfl,rfl⟩:=t;have b9:=((hs.box z hz.1).l a9 lE).wide (show r.1.size<=WF.1.size by omega);have e7:=((((ht.take m ha.o).box z hz.1).l a9 lE).wide (show r.1.size<=WF.1.size by omega));rw[h6.o] at b9;have hW:bi WF.1.size WF (.agg #[.slice (sO (r.1.size+1)) 4 4,.slice E P F,.slice G m s,.bool false]) (aA,(a.1,(gf a R).2.take m),false):=⟨_,_,_,rfl,(je gM).wide (by omega),b9,e7⟩;exact hW
   rw[g.o.2];intro K hK hO hW hR;have hz:=om.of e5.o;obtain⟨sv,tv,t,hs,ht⟩:=h5.o;simp at t;obtain⟨rfl,rfl⟩:=t;have b9:=((hs.box z hz.1).l a9 lE);have e7:=((((ht.take m ha.o).box z hz.1).l a9 lE));rw[h6.o] at b9;have nm:=e6.o.size;have O:kG K WF (.agg #[.slice (sO (r.1.size+1)) 4 4,.slice E P F,.slice G m s,.bool false]) (aA,(a.1,(gf a R).2.take m),false):=zK (x:=(aA,(a.1,(gf a R).2.take m),false)) (uR gM (λe=>absurd (hK _ e) (by omega))) b9 e7 (uT hO hK bF);exact O.l bR.drew (λ_ _ e=>e)
 have c7:(k==7)=false:=by simpa using a8
 rw[iO a8] at A;have⟨hg,hh,hi⟩:=dr.o rfl;have hj:=Z (by rw[a7.o,Io rfl,iO a8]:aQ (l,a,true) (k,c,f,n,d)=fm (gf a R));have d5:Hid _:=df.o W6 _ (gf a R) e3.o e4.o hg hh
 have e8:Hid (fm (gf a R)=km (gf a R)/\i7 (gf a R)=p6 (gf a R)):=by
  have e1:fm (gf a R)=km (gf a R):=by unfold fm;rw[Io hi]
  exact⟨e1,by unfold i7 p6;rw[e1]⟩
 clear dr hg hh hi a7 df;go_wp2_with fail;rw[<-h0.o];go_at_call 37;refine Calls.mono d5.o ?_;rintro e w7 ⟨a3,n3,c3,a4,n4,c4,rfl,hE,b7⟩;have g7:=b7.bl l5.o;have hI:=b7.bl gs.o;have hJ:=gv.o.th b7;have lk:=e3.o.th b7;clear x0 x1 cf ci gT gW;have⟨x0,x1,cf,ci⟩:=ag g7;have⟨j0,j1,j2⟩:=ic (u:=.slice a3 n3 c3) (v:=.slice a4 n4 c4) g7;have⟨W8,co⟩:=nM ((w7.setCell (pW r 0) (.slice a3 n3 c3)).setCell (pW r 1) (.slice a4 n4 c4));rw[<-co] at j0 j1 j2;have hL:Below w4.1.size w7 W8:=by rw[co];exact(bR.setCell (p:=pW r 0) gY _).setCell (p:=pW r 1) gY _
 have e9:=hJ.trans hL;obtain⟨hM,-,hN⟩:=a6.o W8 e9;have ea:=Z hN;have ba:=Z hM;have bb:=Z e9;have hP:Hid (cJ W8.1.size W8 (.agg #[.slice a3 n3 c3,.slice a4 n4 c4]) (p6 (gf a R))):=by obtain⟨sv,tv,t,hs,ht⟩:=hE;simp at t;obtain⟨rfl,rfl⟩:=t;unfold Hid;rw[j2];exact⟨_,_,rfl,hs.box j1 (gw.of g7),ht.box j1 (gw.of g7)⟩
 obtain⟨v0,v1,-,-⟩:=ag j0;have l8:=io j0;have hQ:=Z co;have lr:=Z hI;clear hE b7 g7 hI hJ lk j0 j1 j2 co hL e9 hM hN e4 d5
 have aa:Hid (aQ (l,a,true) (k,c,f,n,d)=km (gf a R)/\bP (l,a,true) (k,c,f,n,d)=if km (gf a R)=0 then (nr,p6 (gf a R),true) else fg):=by
  have e:aQ (l,a,true) (k,c,f,n,d)=km (gf a R):=by rw[hj.o,e8.o.1]
  exact⟨e,by rw[A.o,e,e8.o.2]⟩
 clear hj e8 A;generalize km (gf a R)=se at*;generalize p6 (gf a R)=sr at*
 by_cases cp:se=0
 case neg=>
  have g:=Z2 aa.o.1 (by rw[aa.o.2,iO cp]:bP (l,a,true) (k,c,f,n,d)=fg);have hq:(se != 0)=true:=by simpa using cp
  clear cp aa;go_wp2_with fail;rw[<-hQ.o];go_at_call 33;refine Calls.mono (mH se _) ?_;rintro e wz ⟨rfl,bz⟩;have M:=ea.o.th bz;have Q:=bz.bl ba.o;clear x0 x1 cf ci v0 v1;have⟨⟨z0,z1,z2,z3⟩,f0,f1,f2,f3⟩:=bY Q;have lb:=io Q;have GZ:=Z Q;have b6:=Z M;clear bz Q M;go_wp2_with fail;obtain⟨I,-,S,N⟩:=eK (u0:=nL) (u1:=nL) (u2:=nL) (u3:=.bool false) GZ.o;obtain⟨⟨y0,y1,y2,y3⟩,-⟩:=bY I;refine Ka (v:=.tuple #[.agg #[nL,nL,nL,.bool false],U se]) ?_ rfl ⟨_,by rw[g.o.1],by rw[g.o.2];exact ga _ _,b6.o.trans (N _ (by omega)),λK _ _ _ _=>by rw[g.o.2];exact jX _ _⟩;rw[K8 rfl];clear I S N;go_simp
 subst cp;have g:=Z2 aa.o.1 (by rw[aa.o.2,Io rfl]:bP (l,a,true) (k,c,f,n,d)=(nr,sr,true));clear aa;have⟨⟨z0,z1,z2,z3⟩,f0,f1,f2,f3⟩:=bY lr.o;have l9:¬w.1.size+1+1=r.1.size:=by omega
 have h9:¬r.1.size=w.1.size+1+1:=by omega
 clear v0 v1;go_wp2_with fail;rw[<-hQ.o];have⟨I,z,S,N⟩:=eK (u0:=.slice la ln lc) (u1:=.slice a3 n3 c3) (u2:=.slice a4 n4 c4) (u3:=.bool true) ba.o;obtain⟨⟨y0,y1,y2,y3⟩,-⟩:=bY I;refine Ka (v:=.tuple #[.agg #[.slice la ln lc,.slice a3 n3 c3,.slice a4 n4 c4,.bool true],U 0]) ?_ rfl ⟨_,by rw[g.o.1],?_,ea.o.trans (N _ (by omega)),?_⟩
 ·rw[K8 rfl];clear I z S N z0 z1 z2 z3 f0 f1 f2 f3;go_simp
 ·rw[g.o.2,S];have hz:=om.of ba.o;obtain⟨sv,tv,t,hs,ht⟩:=hP.o;simp at t;obtain⟨rfl,rfl⟩:=t;exact⟨_,_,_,rfl,((kv.o.l bb.o lE).wide bb.o.size).boxK z hz (mN go.o),hs.box z hz.1,ht.box z hz.1⟩
 rw[g.o.2];intro K hK hO hW hR;have hz:=om.of ba.o;obtain⟨sv,tv,t,hs,ht⟩:=hP.o;simp at t;obtain⟨rfl,rfl⟩:=t;exact zK (x:=(nr,sr,true)) (((gb.o K hK hO hW hR).l bb.o (λ_ _ e=>e)).box ba.o (λe=>absurd (hK _ e) (by omega)) z S (N 0 (Ks _)) (mN go.o)) (hs.box z hz.1) (ht.box z hz.1) (uT hO hK (ea.o.trans (N _ (by omega))))
