import Derived.Test.YtffnfdfjojidfaaGreatDoorWr40
import Derived.Test.YtffnfdfjojidfaaGreatDoorWr44
set_option linter.all false
set_option maxRecDepth 100000
set_option maxHeartbeats 16000000
namespace Go.Proofs.YtffnfdfjojidfaaGreatDoor
open Go.RowKit Go.Maps Go.Proofs.Tryz
theorem vg(B w):gx B w nL []:=⟨none,0,rfl,Ke _,Ks _,λi c h=>by simp at h⟩
theorem F6(n:Nat)(f:n<=60)(w:World):(Instr.makeSlice 51 (U n) (U n)).run prog w=.ok (.slice (sO w.1.size) n n) (w.alloc (.cells (madeCells #[U 0] n) 35)):=by
 obtain⟨a,b,c,d,e⟩:=E7;have:=MQ (P:=prog) w 51 35 a _ Tryz.underlying51 b c .i64 .i64 n n (by omega) (LH _) (by rw[e];omega) (by omega);rw[d] at this
 simpa [Value.cells] using this
structure IS (w:World) (g n:Nat) (x:aH) (l:List az) (k:Nat) (wr:World) (v0 v1 v2 v3:Value):Prop where
 box:wr.1[g]?=some (.cells #[v0,v1,v2,v3] 27 (0,0))
 wok:kG (λj=>j=g\/j=g+1\/j=w.1.size+1) wr (.agg #[v0,v1,v2,v3]) (fk x (l.take k)).1
 right:cr (fk x (l.take k)).1=0
 row:∃ys:List Value,wr.1[g+1]?=some (.cells (eG (fk x (l.take k)).2++ys).toArray 35 (0,0))/\(fk x (l.take k)).2.length=k/\ys.length=n-k
 res:wr.1[w.1.size+1]?=some (.cells #[nL,nL,nL,.bool false] 27 (0,0))
 below:bL w wr
theorem IS.step{w g n k x l}{wr w6 W:World}{C D E F u0 u1 u2 u3:Value}{y:az}(h:IS w g n x l k wr C D E F)(L:l[k]?=some y)(P:k<n)(Q:w.1.size+1<g)(f:bL wr w6)
  (G:∀j,j≠g->j≠g+1->j<w6.1.size->W.1[j]?=w6.1[j]?) (u:Below w.1.size w6 W) (v:W.1[g]?=some (.cells #[u0,u1,u2,u3] 27 (0,0))) (i:∀ (xs:List Value),w6.1[g+1]?=some (.cells xs.toArray 35 (0,0))->W.1[g+1]?=some (.cells (xs.set k (U (lC (fk x (l.take k)).1 y))).toArray 35 (0,0)))
  (M:lC (fk x (l.take k)).1 y=0->kG (λj=>j<wr.1.size) w6 (.agg #[u0,u1,u2,u3]) (oA (fk x (l.take k)).1 y)) (N:lC (fk x (l.take k)).1 y≠0->u0=C/\u1=D/\u2=E/\u3=F):IS w g n x l (k+1) W u0 u1 u2 u3:=by
 have e:fk x (l.take (k+1))=xp (fk x (l.take k)) y:=by rw[KN,L];exact yC _ _ _
 have m:∀a,Kx (λj=>j=g\/j=g+1\/j=w.1.size+1) W a->Kx (λj=>j=g\/j=g+1\/j=w.1.size+1) w6 a:=λa d=>⟨(u.mono (Ks _)).trans d.1,λj o t=>(d.2 j o (Kd t u.size)).trans (G j (λe=>o (.inl e)) (λe=>o (.inr (.inl e))) t)⟩
 have O:=io h.box;obtain⟨H,p,q,r⟩:=h.row;have A:=io p
 obtain⟨z,c,rfl⟩:∃z c,H=z :: c:=by
  cases H with
  |nil=>simp at r;omega
  |cons z c=>exact⟨z,c,rfl⟩
 have I:=i _ ((f.block _ A).trans p);have s:=io h.res
 have B:(eG (fk x (l.take k)).2++z :: c).set k (U (lC (fk x (l.take k)).1 y))=eG ((fk x (l.take k)).2++[lC (fk x (l.take k)).1 y])++c:=by
  have t:(eG (fk x (l.take k)).2).length=k:=by rw[lq,q];omega
  rw[oP,List.set_append_right _ _ (by omega),t,Nat.sub_self];simp[eG]
 rw[B] at I;have J:(xp (fk x (l.take k)) y).1=if lC (fk x (l.take k)).1 y=0 then oA (fk x (l.take k)).1 y else (fk x (l.take k)).1:=rfl
 have K:(xp (fk x (l.take k)) y).2=(fk x (l.take k)).2++[lC (fk x (l.take k)).1 y]:=rfl;refine⟨v,?_,?_,⟨c,by rw[e,K];exact I,by rw[e,K];simp[q],by simp at r;omega⟩,?_,?_⟩
 ·rw[e,J]
  by_cases b:lC (fk x (l.take k)).1 y=0
  ·rw[Io b];exact λa d=>M b a ((m a d).back bR λj _ o=>by rcases o with rfl|rfl|rfl<;>assumption)
  rw[iO b];obtain⟨rfl,rfl,rfl,rfl⟩:=N b;exact λa d=>(h.wok.l f λ_ _ e=>e) a (m a d)
 ·rw[e,J]
  by_cases b:lC (fk x (l.take k)).1 y=0
  ·rw[Io b];exact Ce b
  rw[iO b];exact h.right
 ·exact(G _ (by omega) (by omega) (Kd s f.size)).trans ((f.block _ s).trans h.res)
 exact(h.below.trans (f.mono h.below.size)).trans u
theorem By(B v lv x l w)(he:dD w)(hx:bi B w v x)(hl:dh B w lv l)(hB:B<=w.1.size)(d0:sW x.2.1):
  cL 17 #[v,lv] w λe b=>∃v' ev,e=.returned (.tuple #[v',ev,U (qU x l)])/\bi b.1.size b v' (nz x l)/\gx b.1.size b ev (qV x l)/\bL w b:=by
 have b1:=Z λb (h:bL w b)=>nU B v x b (he.l h) (hx.l h hB) (h.u hB) d0
 have M:Hid (cr x=0->∀b,bL w b->cL 41 #[v] b λe D=>∃d n0 f m n1 q r n2 s t,e=.returned (.agg #[.slice d n0 f,.slice m n1 q,.slice r n2 s,.bool t])/\kG (λk=>k<b.1.size) D (.agg #[.slice d n0 f,.slice m n1 q,.slice r n2 s,.bool t]) x/\bL b D):=λh0 b h=>(CX B v x b (hx.l h hB) (h.u hB) h0).mono λe D ⟨v',h1,h2,h3⟩=>by obtain⟨d,f,m,q,r,s,e,-⟩:=h2.at.shape;subst e;exact⟨_,_,_,_,_,_,_,_,_,_,h1,h2,h3⟩
 have T:Hid (∀b nv yv X y,bL w b->bi b.1.size b nv X->cI b.1.size b yv y->cr X=0->cL 19 #[nv,yv] b λe D=>∃d n0 f m n1 q r n2 s t,e=.returned (.tuple #[.agg #[.slice d n0 f,.slice m n1 q,.slice r n2 s,.bool t],U (lC X y)])/\(lC X y=0->kG (λk=>k<b.1.size) D (.agg #[.slice d n0 f,.slice m n1 q,.slice r n2 s,.bool t]) (oA X y))/\bL b D):=λb nv yv X y h h1 h2 h3=>(yM _ nv yv X y b (he.l h) h1 h2 lE h3).mono λe D ⟨v',k1,k2,k3⟩=>by
  obtain⟨d,f,m,q,r,s,e,-⟩:=k2.at.shape;subst e;have e:lC X y=aQ X y:=by unfold lC;rw[Io h3]
  rw[e];exact⟨_,_,_,_,_,_,_,_,_,_,k1,λh0=>by unfold oA;rw[e,Io h0];exact k2,k3⟩
 have N:Hid (qU x l=if cr x=0 then (if 60<l.length then 2 else 0) else cr x):=rfl
 have HR:Hid (qU x l≠0->nz x l=fg/\qV x l=[]):=λh=>⟨by unfold nz;rw[iO h],by unfold qV;rw[iO h]⟩
 have V:Hid (qU x l=0->nz x l=(fk x l).1/\qV x l=(fk x l).2):=λh=>⟨by unfold nz;rw[Io h],by unfold qV;rw[Io h]⟩
 have HL:=Z λb (h:bL w b)=>hl.l h hB
 obtain⟨ca,cc,sa,sc,ta,tc,rfl,-,-⟩:=hx.shape;obtain⟨la,lc,rfl,-⟩:=hl;have b2:=Z hB;clear hx he d0 hB;have⟨n,hn⟩:=nM (l.length);have HN:=Z hn
 rw[<-hn] at N HL |-
 clear hn;have HX:Hid (cr x=0->cr x=0):=id;generalize z:cr x=WE at*;have d6:=Z z;clear z HX;generalize qU x l=RE at*;generalize nz x l=RW at*;generalize qV x l=RL at*;have⟨nC,da⟩:=nM (x.1.length);have⟨nS,dc⟩:=nM (x.2.1.1.length);have⟨nT,dd⟩:=nM (x.2.1.2.length);have⟨u,hu⟩:=nM (x.2.2)
 rw[<-da,<-dc,<-dd,<-hu] at b1 M |-
 clear da dc dd hu;have⟨W,hW⟩:=nM ((w.alloc (.cells #[.slice ca nC cc,.slice sa nS sc,.slice ta nT tc,.bool u] 27)).alloc (.cells #[nL,nL,nL,.bool false] 27));have b4:=bB hW;have g0:W.1[w.1.size]?=some (.cells #[.slice ca nC cc,.slice sa nS sc,.slice ta nT tc,.bool u] 27 (0,0)):=by rw[hW];exact dF _ (aY _ _ rfl)
 have g1:=gC hW;have HG:=Z λb (h:bL W b)=>Q3 (h.bl g0) (h.bl g1) (b4.th h)
 have HW:=Z hW;have Y:=Z2 b4 (io g1);obtain⟨x0,x1,x2,x3,-⟩:=aL g0;clear hW b4 g0 g1;have eq:=ai;go_enter func17,ntmps17;go_wp2_with fail;rw[<-HW.o];go_at_call 9;refine Calls.mono (b1.o _ Y.o.1) ?_;rintro e w1 ⟨rfl,b5⟩;have⟨G0,G1,b6⟩:=HG.o w1 b5;clear x0 x1 x2 x3 b1;obtain⟨x0,x1,x2,x3,-⟩:=aL G0;have⟨z0,z1,z2,z3,f0,f1,f2,f3⟩:=aL G1;have B1:=Z2 b5 b6;obtain⟨W5,I,k5,HF⟩:=kR G1 b6 (by omega);have O:=Z I;obtain⟨v0,v1,v2,v3,-⟩:=aL k5;clear G0 G1 b5 b6 I k5
 by_cases z:WE=0
 case neg=>
  have hq:(WE != 0)=true:=by simpa using z
  rw[iO z] at N;have HZ:Hid (RW=fg/\RL=[]):=HR.o (by rw[N.o];exact z);clear z M T HL HG HR V HN;go_wp2_with fail;rw[<-O.o];refine Ka (v:=.tuple #[.agg #[nL,nL,nL,.bool false],nL,U WE]) ?_ rfl ⟨_,_,by rw[N.o],by rw[HZ.o.1];exact HF.o.1.at,by rw[HZ.o.2];exact vg _ _,HF.o.2⟩;rw[eY rfl];go_simp
 subst z;rw[Io rfl] at N
 by_cases a3:60<n
 ·have di:(60:Int)<(n:Int):=by omega
  rw[Io a3] at N;have HZ:Hid (RW=fg/\RL=[]):=HR.o (by rw[N.o];decide);clear a3 M T HL HG HR V HN;go_wp2_with fail;rw[<-O.o];refine Ka (v:=.tuple #[.agg #[nL,nL,nL,.bool false],nL,U 2]) ?_ rfl ⟨_,_,by rw[N.o],by rw[HZ.o.1];exact HF.o.1.at,by rw[HZ.o.2];exact vg _ _,HF.o.2⟩;rw[eY rfl];go_simp
 have di:¬(60:Int)<(n:Int):=by omega
 rw[iO a3] at N;have dk:Hid _:=V.o N.o;have af:Hid _:=M.o rfl w1 B1.o.2;have P:=λw=>F6 n (by omega) w
 have⟨mc,b8⟩:=nM (madeCells #[U 0] n);rw[<-b8] at P;have ey:∀w,(Instr.makeSlice 51 (U n) (U n)).run prog w=.ok (.slice (sO w.1.size) n n) (w.alloc (.cells mc 35)):=P;have HM:Hid (mc.toList.length=n):=by unfold Hid;rw[b8];simp[LS]
 clear P b8 HR V M a3 HF O v0 v1 v2 v3 z0 z1 z2 z3 f0 f1 f2 f3;go_wp2_with fail;go_at_call 41;refine Calls.mono af.o ?_;rintro e a ⟨d,n0,f,m,n1,q,r,n2,s,t,rfl,dl,dn⟩;have⟨W3,Q⟩:=nM ((a.alloc (.cells #[.slice d n0 f,.slice m n1 q,.slice r n2 s,.bool t] 27)).alloc (.cells mc 35));have b9:=bB Q;have ba:=B1.o.1.th dn;have bb:=ba.th b9
 have C:Hid (IS w a.1.size n x l 0 W3 (.slice d n0 f) (.slice m n1 q) (.slice r n2 s) (.bool t)):=by
  refine⟨by rw[Q];exact dF _ (aY _ _ rfl),?_,d6.o,⟨mc.toList,?_,rfl,by rw[HM.o];rfl⟩,(HG.o W3 bb).2.1,(HG.o W3 bb).2.2⟩
  ·exact dl.l b9 λk hk e=>by have:=Kd Y.o.2 B1.o.1.size;omega
  rw[Q];refine(aY _ _ (by simp only[Kg])).trans ?_;rw[show mc=mc.toList.toArray from rfl];rfl
 have eN:w.1.size+1<a.1.size:=Kd Y.o.2 ba.size;have eO:=Z Q;clear Q b9 ba bb dl dn af HG Y B1 HM d6 HW;go_wp2_with fail;rw[<-eO.o];clear ey x0 x1 x2 x3;go_loopw [31] (λiv wr=>∃k:Nat,k<=n/\iv=U k/\∃d m0 f m m1 q r m2 s t,Hid (IS w a.1.size n x l k wr (.slice d m0 f) (.slice m m1 q) (.slice r m2 s) (.bool t))) (λiv _=>n-(intOf iv).toNat)
 case atStart=>exact⟨0,by omega,rfl,_,_,_,_,_,_,_,_,_,_,C⟩
 case round=>
  clear C;obtain⟨k,hk,rfl,d,m0,f,m,m1,q,r,m2,s,t,C⟩:=hrel;have⟨wo,f4⟩:=nM (wr);subst f4;have i0:(0:Int)<=(k:Int):=by omega
  obtain⟨x0,x1,x2,x3,-⟩:=aL C.o.box;have h8:a.1.size<wo.1.size:=io C.o.box
  by_cases f5:k<n
  ·have i1:(k:Int)<(n:Int):=by omega
   obtain⟨y,bd⟩:∃y,l[k]?=some y:=⟨l[k]'(by rw[<-HN.o];omega),by simp⟩;obtain⟨_,_,e1,-,-,dp⟩:=HL.o _ C.o.below;have⟨b3,o3,e,dq,f9⟩:=dp k y bd;simp at e1;obtain⟨rfl,-,rfl⟩:=e1;subst e;obtain⟨rv,q0,q1,q2,q3,q4,bf⟩:=f9;obtain⟨ra,fa,er,-⟩:=bf.shape;simp at er;subst er;have fb:=Z bd;have⟨W5,I⟩:=nM (wo.alloc (.cells #[U y.1,U y.2.1,U y.2.2.1,.slice ra y.2.2.2.1.length fa,U y.2.2.2.2] 32));have J:=bA I;have a4:=C.o.below.size;have E:Hid _:=T.o W5 _ _ _ y (Below.tO C.o.below J a4) (C.o.wok.l J λ_ _ e=>e).at (iW (bf.l J (Kl b2.o a4)) (Kl b2.o (J.u a4))) C.o.right;have⟨X,hX⟩:=nM ((fk x (l.take k)).1);rw[<-hX] at E;have HX:=Z hX;have O:=Z I;have dr:=Z J;generalize y.2.2.2.1.length=yl at*;clear I J bf dp bd hX dq;go_wp2_with fail;rw[<-O.o];go_at_call 19;refine Calls.mono E.o ?_;rintro e K ⟨a6,n6,c6,a7,n7,c7,a8,n8,c8,u6,rfl,ds,dv⟩;have A:bL wo K:=dr.o.th dv;have g6:=A.bl C.o.box;obtain⟨ys,F,G,a5⟩:=C.o.row;have gr:=A.bl F;clear x0 x1 x2 x3 q0 q1 q2 q3 q4;have⟨x0,x1,x2,x3,f0,f1,f2,f3⟩:=aL g6;have lg:a.1.size<K.1.size:=io g6;have lr:a.1.size+1<K.1.size:=io gr;obtain⟨rv,rk⟩:∃u,K.cell? ⟨a.1.size+1,k,none⟩=some u:=by refine⟨_,ab gr k (Lo ?_)⟩;simp[eG,G,a5];omega
   have rf:K.frozen? ⟨a.1.size+1,k,none⟩=false:=by simp[World.frozen?,gr]
   have bg:Hid (lC X y=0->kG (λj=>j<wo.1.size) K (.agg #[.slice a6 n6 c6,.slice a7 n7 c7,.slice a8 n8 c8,.bool u6]) (oA X y)):=λh0=>(ds h0).l bR λj _ e=>Kd e dr.o.size
   have L:=Z3 A (Below.tO C.o.below A a4) g6;clear ds dv A g6 gr F G a5 E;have hs:¬a.1.size+1=a.1.size:=by omega
   have bk:=Z3 f5 eN lr;have H:Hid (∀ (W8:World) (X8:Obj) (u0 u1 u2 u3:Value),(∀j,j≠a.1.size->j≠a.1.size+1->W8.1[j]?=K.1[j]?)->W8.1.size=K.1.size->Below w.1.size K W8->W8.1[a.1.size]?=some (.cells #[u0,u1,u2,u3] 27 (0,0))->(∀ (xs:List Value),K.1[a.1.size+1]?=some (.cells xs.toArray 35 (0,0))->W8.1[a.1.size+1]?=some (.cells (xs.set k (U (lC X y))).toArray 35 (0,0)))->(lC X y=0->kG (λj=>j<wo.1.size) K (.agg #[u0,u1,u2,u3]) (oA X y))->(lC X y≠0->u0=.slice d m0 f/\u1=.slice m m1 q/\u2=.slice r m2 s/\u3=.bool t)->IS w a.1.size n x l (k+1) (W8.alloc X8) u0 u1 u2 u3):=λW8 X8 u0 u1 u2 u3 h1 h2 h3 h4 h5 h6 h7=>by rw[HX.o] at h5 h6 h7;obtain⟨l1,l2,l3⟩:=bk.o;refine C.o.step fb.o l1 l2 L.o.1 (λj j1 S j3=>(Kq _ _ _ (by omega)).trans (h1 j j1 S)) (h3.alloc (by have:=L.o.2.1.size;omega) _) (dF _ h4) (λxs R=>dF _ (h5 xs R)) h6 h7
   generalize lC X y=DE at*
   by_cases a9:DE=0
   ·subst a9;have⟨k1,k2,k3,k4⟩:=eK (u0:=.slice a6 n6 c6) (u1:=.slice a7 n7 c7) (u2:=.slice a8 n8 c8) (u3:=.bool u6) L.o.2.2;have bs:Hid (IS w a.1.size n x l (k+1) ((((((K.setCell (pA a.1.size 0) (.slice a6 n6 c6)).setCell (pA a.1.size 1) (.slice a7 n7 c7)).setCell (pA a.1.size 2) (.slice a8 n8 c8)).setCell (pA a.1.size 3) (.bool u6)).setCell ⟨a.1.size+1,k,none⟩ (U 0)).alloc (.cells #[.slice a6 n6 c6,.slice a7 n7 c7,.slice a8 n8 c8,.bool u6] 27)) (.slice a6 n6 c6) (.slice a7 n7 c7) (.slice a8 n8 c8) (.bool u6)):=by refine H.o _ _ _ _ _ _ (λj j1 S=>(Kc _ _ _ _ S).trans (k2 j j1)) (by simp[k3]) ((k4 _ (by omega)).setCell (p:=⟨a.1.size+1,k,none⟩) (by show w.1.size<=a.1.size+1;omega) _) ((Kc _ _ _ _ (by show a.1.size≠a.1.size+1;omega)).trans k1) (λxs R=>?_) bg.o (λh=>absurd rfl h);have:=ap (o:=k) (u:=U 0) ((k2 (a.1.size+1) (by omega)).trans R);rw[List.setIfInBounds_toArray] at this;exact this
    clear k1 k2 k3 k4 H bg L bk;go_wp2_with fail;exact⟨⟨k+1,by omega,by go_num,_,_,_,_,_,_,_,_,_,_,bs⟩,by simp[intOf];omega⟩
   have hq:(DE==0)=false:=by simpa using a9
   have bs:Hid (IS w a.1.size n x l (k+1) ((K.setCell ⟨a.1.size+1,k,none⟩ (U DE)).alloc (.cells #[.slice a6 n6 c6,.slice a7 n7 c7,.slice a8 n8 c8,.bool u6] 27)) (.slice d m0 f) (.slice m m1 q) (.slice r m2 s) (.bool t)):=by refine H.o _ _ _ _ _ _ (λj j1 S=>Kc _ _ _ _ S) (by simp) (bR.setCell (p:=⟨a.1.size+1,k,none⟩) (by show w.1.size<=a.1.size+1;omega) _) ((Kc _ _ _ _ (by show a.1.size≠a.1.size+1;omega)).trans L.o.2.2) (λxs R=>?_) (λh=>absurd h a9) (λ_=>⟨rfl,rfl,rfl,rfl⟩);have:=ap (o:=k) (u:=U DE) R;rw[List.setIfInBounds_toArray] at this;exact this
   clear H bg L bk a9;go_wp2_with fail;exact⟨⟨k+1,by omega,by go_num,_,_,_,_,_,_,_,_,_,_,bs⟩,by simp[intOf];omega⟩
  have i1:¬(k:Int)<(n:Int):=by omega
  obtain rfl:k=n:=by omega
  have e:l.take k=l:=Ki (by rw[<-HN.o];exact Ke _);have hI:=C.o;obtain⟨ys,F,G,a5⟩:=hI.row;have aa:=hI.wok;rw[e] at F G aa;rw[<-dk.o.2] at F G;rw[<-dk.o.1] at aa;have⟨z0,z1,z2,z3,f0,f1,f2,f3⟩:=aL hI.res;have⟨j1,S,j3,j4⟩:=eK (u0:=.slice d m0 f) (u1:=.slice m m1 q) (u2:=.slice r m2 s) (u3:=.bool t) hI.res;have lo:w.1.size+1<wo.1.size:=io hI.res;have⟨WF,bx⟩:=nM ((((wo.setCell (pA (w.1.size+1) 0) (.slice d m0 f)).setCell (pA (w.1.size+1) 1) (.slice m m1 q)).setCell (pA (w.1.size+1) 2) (.slice r m2 s)).setCell (pA (w.1.size+1) 3) (.bool t));rw[<-bx] at j1 S j3 j4;have HF:Hid (bi WF.1.size WF (.agg #[.slice d m0 f,.slice m m1 q,.slice r m2 s,.bool t]) RW/\gx WF.1.size WF (.slice (sO (a.1.size+1)) k k) RL/\bL w WF):=by have hr:=(S (a.1.size+1) (by omega)).trans F;refine⟨aa WF (Kx.put (Kx.refl _ _) (j4 0 (Ks _)) (λg hg=>S g λe=>hg (.inr (.inr e))) j3),⟨_,_,by rw[G],by omega,by rw[eq];omega,λi c hc=>⟨_,_,rfl,io hr,ab hr _ ?_⟩⟩,hI.below.trans (j4 _ (by omega))⟩;have hi:=(K9.1 hc).1;rw[Kp,LK,Kh (by rw[lq];omega)];unfold eG;rw[Ku,hc];rfl
  have fd:=Z bx;obtain⟨y0,y1,y2,y3,-⟩:=aL j1;have hz:¬a.1.size=w.1.size+1:=by omega
  clear bx j1 S j3 j4 F G a5 aa hI e C HL T b2;go_wp2_with fail;rw[<-fd.o];refine Ka (v:=.tuple #[.agg #[.slice d m0 f,.slice m m1 q,.slice r m2 s,.bool t],.slice (sO (a.1.size+1)) k k,U 0]) ?_ rfl ⟨_,_,by rw[N.o],HF.o⟩;rw[eY rfl];go_simp
theorem kr:cr (nz kz gJ)=0:=by decide +kernel
theorem yU(w)(he:dD w):cL 8 #[] w (rT w (.bool true)):=by
 have Q:=Z λf (h:bL w f)=>he.l h
 clear he;go_enter func8,ntmps8;go_wp2_with fail;go_at_call 12;refine Calls.mono (Cg w) ?_;rintro e w1 ⟨v1,rfl,x,b1⟩;obtain⟨wa,wc,sa,sc,ta,tc,ev,-,-⟩:=x.shape;subst ev;have⟨z1,Y⟩:=nM (kz.1.length);have⟨z2,a0⟩:=nM (kz.2.1.1.length);have⟨z3,a5⟩:=nM (kz.2.1.2.length);have⟨z4,a6⟩:=nM (kz.2.2)
 rw[<-Y,<-a0,<-a5,<-a6] at x |-
 clear Y a0 a5 a6;go_wp2_with fail;go_at_call 25;refine Calls.mono (Bn _ (Q.o _ b1)) ?_;rintro e w2 ⟨p2,rfl,a7,b2⟩;have G:=a7.at;obtain⟨a2,c2,rfl⟩:∃a c,p2=.agg #[.slice a 2 c,U 4]:=by obtain⟨rv,m,-,da,dc,s,-⟩:=G;exact⟨da,dc,by rw[m,s];rfl⟩
 have H:=b1.th b2;clear a7;go_wp2_with fail;go_at_call 26;refine Calls.mono (DP _ (Q.o _ H)) ?_;rintro e w3 ⟨p3,rfl,aa,R⟩;have I:=aa.at;obtain⟨a3,c3,rfl⟩:∃a c,p3=.agg #[.slice a 3 c,U 4]:=by obtain⟨rv,m,-,da,dc,s,-⟩:=I;exact⟨da,dc,by rw[m,s];rfl⟩
 have J:=H.th R;clear aa;go_wp2_with fail;go_at_call 25;refine Calls.mono (Bn _ (Q.o _ J)) ?_;rintro e w4 ⟨p4,rfl,ac,D⟩;have K:=ac.at;obtain⟨a4,c4,rfl⟩:∃a c,p4=.agg #[.slice a 2 c,U 4]:=by obtain⟨rv,m,-,da,dc,s,-⟩:=K;exact⟨da,dc,by rw[m,s];rfl⟩
 have ad:=J.th D;clear ac;have⟨S,p⟩:=nM (w4.alloc (.cells #[U 1,U 1,U 0,.slice a2 2 c2,U 4,U 2,U 1,U 0,.slice a3 3 c3,U 4,U 2,U 1,U 0,.slice a4 2 c4,U 4,U 5,U 0,U 0,nL,U 0,U 4,U 1,U 0,nL,U 0,U 6,U 0,U 0,nL,U 0] 32));have T:=bA p;have s5:=sA p;have d:=hA p;have L:=ad.th T;have M:=b2.th (Below.tO R (Below.tO D T D.size) R.size);have t2:=b2.size;have t3:=R.size;have t4:=D.size
 have hR:dh S.1.size S (.slice (sO w4.1.size) 6 6) gJ:=by
  have l:∀n:Int,0<=n/\n<=6->wf n:=λn h=>L4 (by omega)
  refine⟨_,6,rfl,Ke _,by rw[ai];omega,λi r j=>⟨w4.1.size,0,rfl,by omega,?_⟩⟩
  match i,j with
  |0,j=>
   simp[gJ] at j;subst j;exact⟨_,J0 d,J1 d,J2 d,J3 d,J4 d,_,rfl,l _ (by decide),l _ (by decide),l _ (by decide),gG (G.l (R.th (Below.tO D T D.size)) lE) (by omega)⟩
  |1,j=>
   simp[gJ] at j;subst j;exact⟨_,ab d 5 rfl,ab d 6 rfl,ab d 7 rfl,ab d 8 rfl,ab d 9 rfl,_,rfl,l _ (by decide),l _ (by decide),l _ (by decide),gG (I.l (D.th T) lE) (by omega)⟩
  |2,j=>
   simp[gJ] at j;subst j;exact⟨_,ab d 10 rfl,ab d 11 rfl,ab d 12 rfl,ab d 13 rfl,ab d 14 rfl,_,rfl,l _ (by decide),l _ (by decide),l _ (by decide),gG (K.l T lE) (by omega)⟩
  |3,j=>
   simp[gJ] at j;subst j;exact⟨_,ab d 15 rfl,ab d 16 rfl,ab d 17 rfl,ab d 18 rfl,ab d 19 rfl,_,rfl,l _ (by decide),l _ (by decide),l _ (by decide),bV _ _⟩
  |4,j=>
   simp[gJ] at j;subst j;exact⟨_,ab d 20 rfl,ab d 21 rfl,ab d 22 rfl,ab d 23 rfl,ab d 24 rfl,_,rfl,l _ (by decide),l _ (by decide),l _ (by decide),bV _ _⟩
  |5,j=>
   simp[gJ] at j;subst j;exact⟨_,ab d 25 rfl,ab d 26 rfl,ab d 27 rfl,ab d 28 rfl,ab d 29 rfl,_,rfl,l _ (by decide),l _ (by decide),l _ (by decide),bV _ _⟩
  |i+6,j=>simp[gJ] at j
 have E:Hid (cL 17 #[.agg #[.slice wa z1 wc,.slice sa z2 sc,.slice ta z3 tc,.bool z4],.slice (sO w4.1.size) 6 6] S λe f=>∃v,e=.returned v/\uE (nz kz gJ) [0,0,7,0,6,0] 0 f v/\bL S f):=by
  have:=By S.1.size _ _ kz gJ S (Q.o _ L) ((x.l M lE).wide M.size) hR lE (by unfold sW kz;decide);have m:qV kz gJ=[0,0,7,0,6,0]:=by unfold qV;rw[Io vW,EU]
  rw[vW,m] at this;refine this.mono λe f ⟨v',ev,y,t,h3,h4⟩=>?_
  obtain⟨a1,c1,a2,c2,a3,c3,ee,-,-⟩:=t.shape;obtain⟨ea,ec,ef,-,-⟩:=h3.full;rw[ee] at y t;rw[ef] at y h3;exact⟨_,y,⟨_,_,_,_,ea,_,ec,rfl,t,h3⟩,h4⟩
 have af:=Z p;have ak:=Z L;clear p T s5 d L M t2 t3 t4 hR x G I K b1 b2 R D H J ad;go_wp2_with fail;rw[<-af.o];go_at_call 17;refine Calls.mono E.o ?_;rintro e u ⟨u6,rfl,al,b6⟩;obtain⟨d1,m1,m,d2,m2,s,d3,m3,e3,ub,ea,en,ec,rfl⟩:=al.shape;obtain⟨eN,eO,eV,f0,f1,f2,f3,ee,q,ao⟩:=al;simp at ee;obtain⟨⟨rfl,rfl,rfl,rfl⟩,rfl,rfl,rfl⟩:=ee;have⟨X,V⟩:=nM (nz kz gJ);have ci:ub=true:=by obtain⟨_,_,_,e,-⟩:=q;simp at e;rw[e.2.2.2];exact Ii
 subst ci;rw[<-V] at q;have A:bL w u:=ak.o.th b6;have av:Hid (∀f,bL u f->cL 6 #[.agg #[.slice d1 m1 m,.slice d2 m2 s,.slice d3 m3 e3,.bool true],U 1,.agg #[U 0,U 0,U 0,U 8,U 0]] f (rT f (.tuple #[U 2,U 0]))):=λf h=>by have:=vX f.1.size _ X 1 (oz 0 0 0 8 0) f (Q.o _ (A.th h)) ((q.l h lE).wide h.size) (by unfold wf;decide) lE (by rw[V];exact JY (kr));rw[V,yt.1,yt.2] at this;exact this
 have b0:Hid (∀f,bL u f->cL 6 #[.agg #[.slice d1 m1 m,.slice d2 m2 s,.slice d3 m3 e3,.bool true],U 2,.agg #[U 0,U 0,U 0,U 0,U 0]] f λe b7=>∃z,e=.returned (.tuple #[U z,U 6])/\bL f b7):=λf h=>by
  have:=vX f.1.size _ X 2 (oz 0 0 0 0 0) f (Q.o _ (A.th h)) ((q.l h lE).wide h.size) (by unfold wf;decide) lE (by rw[V];exact JY (kr));rw[V,Fk] at this
  exact this.mono λe b7 ⟨y,t⟩=>⟨_,y,t⟩
 have ba:=Z λf (h:bL u f)=>Q2 (ao.l h lE:gx u.1.size f (.slice ea en ec) [0,0,7,0,6,0]) (A.th h)
 have bb:∀X,bL u (u.alloc X):=λX=>bR.alloc lE X
 have ck:Hid _:=bb;clear q ao A b6 V E af ak bb;have⟨W7,B⟩:=nM (u.alloc (.cells #[.slice d1 m1 m,.slice d2 m2 s,.slice d3 m3 e3,.bool true] 27));have N:bL u W7:=by rw[B];exact ck.o _
 have g7:=hA B;have C:=Z λf (h:bL W7 f)=>Q2 (h.bl g7) (N.th h)
 have cn:=Z B;have co:=Z N;clear B N g7;go_wp2_with fail;rw[<-cn.o];go_at_call 6;refine Calls.mono (av.o W7 co.o) ?_;rintro e w8 ⟨rfl,b8⟩;have⟨g8,bc⟩:=C.o w8 b8;obtain⟨⟨x0,x1,x2,x3⟩,-⟩:=bY g8;have cs:=Z b8;have cv:=Z bc;clear b8 g8 bc;go_wp2_with fail;go_at_call 6;refine Calls.mono (b0.o w8 cv.o) ?_;rintro e W ⟨z,rfl,b9⟩;have O:=cs.o.th b9;have⟨g9,bd⟩:=C.o W O;clear x0 x1 x2 x3;obtain⟨⟨x0,x1,x2,x3⟩,-⟩:=bY g9;have l9:=io g9
 have bf:Hid (∀X:Value,X=U 0->cL 18 #[.slice ea en ec,.slice (sO W.1.size) 6 6] (W.alloc (.cells #[X,U 0,U 7,U 0,U 6,U 0] 35)) λe f=>e=.returned (.bool true)/\f.1[u.1.size]?=some (.cells #[.slice d1 m1 m,.slice d2 m2 s,.slice d3 m3 e3,.bool true] 27 (0,0))/\bL w f):=by
  rintro _ rfl;have⟨WA,P⟩:=nM (W.alloc (.cells #[U 0,U 0,U 7,U 0,U 6,U 0] 35));rw[<-P];have bk:=bA P;have gA:=hA P;have bm:=bd.th bk;have cT:=O.th bk;have⟨hi,d0⟩:=ba.o WA bm
  have hl:gx WA.1.size WA (.slice (sO W.1.size) 6 6) [0,0,7,0,6,0]:=by
   refine⟨_,6,rfl,Ke _,by rw[ai];omega,λi c g=>⟨W.1.size,0,rfl,io gA,?_⟩⟩;refine ab gA _ ?_
   match i,g with
   |0,g=>simp at g;subst g;rfl
   |1,g=>simp at g;subst g;rfl
   |2,g=>simp at g;subst g;rfl
   |3,g=>simp at g;subst g;rfl
   |4,g=>simp at g;subst g;rfl
   |5,g=>simp at g;subst g;rfl
   |i+6,g=>simp at g
  have:=rL WA.1.size _ _ [0,0,7,0,6,0] [0,0,7,0,6,0] WA (by
   obtain⟨a,d5,y,t,h3,h4⟩:=hi
   exact⟨a,d5,y,t,h3,λi c g=>by
    have⟨b,o,e,hl,k⟩:=h4 i c g
    exact⟨b,o,e,Kd hl bm.size,k⟩⟩) hl lE
  rw[KS rfl] at this
  exact this.mono λe f ⟨y,t⟩=>⟨y,(C.o f (cT.th t)).1,d0.th t⟩
 have F:Hid _:=bf.o _ rfl;clear b9 O g9 bd bf av b0 ba C;go_wp2_with fail;refine Calls.mono F.o ?_;rintro e f5 ⟨rfl,bo,bp⟩;clear x0 x1 x2 x3;obtain⟨⟨x0,x1,x2,x3⟩,-⟩:=bY bo;have bq:=Z bp;clear bp bo F;go_wp2_with fail;go_ret;exact⟨rfl,bq.o⟩
section
theorem Ge(x l):(fk x l).2.length=l.length:=by
 have a:∀ (l:List az) (s:aH × List Int),(l.foldl xp s).2.length=s.2.length+l.length:=by
  intro l
  induction l with
  |nil=>exact λs=>rfl
  |cons y l b=>
   intro s;rw[List.foldl_cons,b];simp[xp];omega
 have:=a l (x,[])
 simpa [fk] using this
structure mR (o w4:World) (X:aH) (L:List Int) (wr:World) (cv sv tv:Value) (ub:Bool) (wn:Value):Prop where
 world:kG (λk=>wn.ownBlock=some k) wr (.agg #[cv,sv,tv,.bool ub]) X
 ownz:wr.ownsRow w4.1.size 35 1 wn L.length (eG L)
 ints:∀k,wn.ownBlock=some k->FT k wr
 old:∀k,k<w4.1.size->k≠o.1.size->wr.1[k]?=w4.1[k]?
 box:wr.1[o.1.size]?=some (.cells #[cv,sv,tv,.bool ub] 27 (0,0))
 below:bL o wr
 low:o.1.size<w4.1.size
 big:w4.1.size<=wr.1.size
section
variable {o w4 wr w':World} {X Y:aH} {L:List Int} {cv sv tv:Value} {ub:Bool} {wn:Value}
theorem mR.start{B}(f:∀w',bL o w'->bi B w' (.agg #[cv,sv,tv,.bool ub]) X)(g:B<=o.1.size)(a:bL o w4)(b:w4.1[o.1.size]?=some (.cells #[cv,sv,tv,.bool ub] 27 (0,0))):mR o w4 X [] w4 cv sv tv ub nL where
 world:=λc h=>by have d:bL o c:=a.th (h.below (B:=w4.1.size) (λk _ e=>by cases e) lE);exact(f c d).wide (d.u g)
 ownz:=⟨rfl,.inl ⟨rfl,rfl⟩⟩
 ints:=λk e=>by cases e
 old:=λ_ _ _=>rfl
 box:=b
 below:=a
 low:=io b
 big:=Ke _
theorem mR.l(h:mR o w4 X L wr cv sv tv ub wn)(a:bL wr w'):mR o w4 X L w' cv sv tv ub wn where
 world:=h.world.l a λ_ _ e=>e
 ownz:=aw h.ownz a
 ints:=λk e=>(h.ints k e).l a
 old:=λk b c=>(a.block k (Kd b h.big)).trans (h.old k b c)
 box:=a.bl h.box
 below:=h.below.th a
 low:=h.low
 big:=a.u h.big
theorem mR.far(h:mR o w4 X L wr cv sv tv ub wn):¬wn.ownBlock=some o.1.size:=λe=>Nat.not_le.2 h.low (eh h.ownz _ e)
theorem mR.put{a b d:Value}{ub'}{i:World}(h:mR o w4 X L wr cv sv tv ub wn)(s:kG (λk=>wn.ownBlock=some k) wr (.agg #[a,b,d,.bool ub']) Y)(t:∀c∈Y.1,∀f∈c.2.1,f≠[])(l:i.1[o.1.size]?=some (.cells #[a,b,d,.bool ub'] 27 (0,0)))(j:∀g,g≠o.1.size->i.1[g]?=wr.1[g]?)(n:i.1.size=wr.1.size)(p:∀L,L<=o.1.size->Below L wr i):mR o w4 Y L i a b d ub' wn where
 world:=s.boxC h.box h.world h.far j n (p 0 (Ks _)) t
 ownz:=bT h.ownz λg _ l _=>j g λe=>Nat.not_le.2 h.low (by rw[<-e];exact l)
 ints:=λk e=>by have⟨m,T,u,q,v⟩:=h.ints k e;exact⟨m,T,u,(j k λw=>h.far (by rw[<-w];exact e)).trans q,v⟩
 old:=λk x r=>(j k r).trans (h.old k x r)
 box:=l
 below:=h.below.trans (p _ lE)
 low:=h.low
 big:=by rw[n];exact h.big
theorem mR.app(h:mR o w4 X L wr cv sv tv ub wn)(f)(g:Nat)(T0)(m:Nat × Nat)(n:TypeId)(p:wr.1[g]?=some (.cells #[U f] T0 m))(q:L.length<=1000):∃i w',(Builtin.append_ #[51,51] n #[wn,.slice (sO g) 1 1]).run prog wr=.ok i w'/\mR o w4 X (L++[f]) w' cv sv tv ub i:=by
 have⟨i,w',r,s,a,t,u⟩:=uH w4.1.size n wn L f g T0 m wr h.ownz h.ints p q h.big;have d:=eh h.ownz;refine⟨i,w',r,λv b=>h.world v ⟨⟨?_,?_,?_,?_,λk b=>absurd b (Nat.not_lt_zero k)⟩,λk c j=>?_⟩,s,t,λk c j=>?_,?_,?_,h.low,Kl h.big a.size⟩
 ·exact b.1.os.trans a.os
 ·exact b.1.tape.trans a.tape
 ·exact b.1.output.trans a.output
 ·exact Kl a.size b.1.size
 ·rw[b.2 k (λe=>?_) (Kd j a.size)]
  ·exact a.block k j λe=>c e.symm
  rcases u with l|⟨x,l,w⟩
  ·exact c (l.symm.trans e)
  rw[l] at e
  cases e;omega
 ·exact(a.block k (Kd c h.big) λe=>Nat.not_le.2 c (d k e.symm)).trans (h.old k c j)
 ·exact(a.block _ (io h.box) λe=>h.far e.symm).trans h.box
 exact h.below.grown a (Kl (Mc h.low) h.big) λk e=>Kl (Mc h.low) (d k e)
theorem mR.stands(h:mR o w4 X L wr cv sv tv ub wn){b c d:Value}{u0}{B m:Nat}{x0}(i:w4.1[o.1.size]?=some (.cells #[b,c,d,.bool u0] 27 (0,0)))(s:bi m w4 (.agg #[b,c,d,.bool u0]) x0)(j:m<=w4.1.size)(v:B<=w4.1.size)(l:o.os=w4.os/\o.tape=w4.tape/\o.output=w4.output):
  ∃a,bL w4 a/\iE o.1.size a wr/\IP a o.1.size/\a.1.size=wr.1.size:=by
 have t:o.1.size<wr.1.size:=Kd h.low h.big;obtain⟨a,f⟩:∃a:World,a={ wr with heap:=wr.heap.setIfInBounds o.1.size (.cells #[b,c,d,.bool u0] 27 (0,0)) }:=⟨_,rfl⟩;have n:a.1[o.1.size]?=some (.cells #[b,c,d,.bool u0] 27 (0,0)):=by rw[f];simp[KC,t]
 have p:∀g,g≠o.1.size->a.1[g]?=wr.1[g]?:=λg i=>by rw[f];simp[KC,LQ i]
 have q:a.1.size=wr.1.size:=by rw[f];simp
 have r:bL w4 a:=by
  refine⟨?_,?_,?_,?_,λk u=>?_⟩
  ·rw[f];exact h.below.os.trans l.1
  ·rw[f];exact h.below.tape.trans l.2.1
  ·rw[f];exact h.below.output.trans l.2.2
  ·rw[q];exact h.big
  by_cases e:k=o.1.size
  ·subst e;rw[n,i]
  rw[p k e,h.old k u e]
 exact⟨a,r,λg i=>(p g i).symm,IP.of n (s.l r j),q⟩
end
end
theorem Ia(B wv lv x l w)(he:dD w)(a4:Lib.TabIs prog w "strings.asciiSpace" .u8 Lib.asciiSpaceTab)(hx:bi B w wv x)(hl:dh B w lv l)(J:B<=w.1.size)(dl:sW x.2.1):
  cL 4 #[wv,lv] w (rT w (.bool true)):=by
 have HE:=Z λd (h:bL w d)=>Q2 (he.l h) (jG a4 h)
 have a5:=Z λd (h:bL w d)=>yU d (he.l h)
 have bb:Hid (∀d,bL w d->cL 17 #[wv,lv] d λe t=>∃v,e=.returned v/\uE (nz x l) (qV x l) (qU x l) t v/\bL d t):=λd h=>(By B wv lv x l d (he.l h) (hx.l h J) (hl.l h J) (h.u J) dl).mono λe t ⟨v',ev,h1,h2,h3,h4⟩=>by obtain⟨A,C,D,F,G,H,ee,-,-⟩:=h2.shape;obtain⟨ea,ec,ef,-,-⟩:=h3.full;rw[ee] at h1 h2;rw[ef] at h1 h3;exact⟨_,h1,⟨_,_,_,_,ea,_,ec,rfl,h2,h3⟩,h4⟩
 have dn:=Z λd (h:bL w d)=>py B wv x d (he.l h) (hx.l h J) (h.u J)
 have HL:=Z λd (h:bL w d)=>hl.l h J
 have HX:=Z λd (h:bL w d)=>hx.l h J
 obtain⟨ca,cc,sa,sc,ta,tc,rfl,-,-⟩:=hx.shape;obtain⟨la,lc,rfl,gq,ki,-⟩:=id hl;generalize x.1.length=nC at*;generalize x.2.1.1.length=nS at*;generalize x.2.1.2.length=nT at*;generalize x.2.2=u at*;have⟨K,a6⟩:=nM (l.length);have dp:=Z a6.symm
 rw[<-a6] at bb HL gq |-
 have⟨W0,a7⟩:=nM (w.alloc (.cells #[.slice ca nC cc,.slice sa nS sc,.slice ta nT tc,.bool u] 27));have b0:=bA a7;have g0:=hA a7;have HG:=Z λd (h:bL W0 d)=>Q2 (h.bl g0) (b0.th h)
 have dq:=Z a7;have dr:=Z b0;have ds:Hid (qU x l=if cr x=0 then (if 60<K then 2 else 0) else cr x):=by rw[a6];rfl
 have bg:Hid (qU x l≠0->nz x l=fg/\qV x l=[]):=λh=>⟨by unfold nz;rw[iO h],by unfold qV;rw[iO h]⟩
 have bk:Hid (qU x l=0->nz x l=(fk x l).1/\qV x l=(fk x l).2):=λh=>⟨by unfold nz;rw[Io h],by unfold qV;rw[Io h]⟩
 clear hx he a4 dl hl a6 a7 b0 g0;go_enter func4,ntmps4;go_wp2_with fail;rw[<-dq.o];go_at_call 17;refine Calls.mono (bb.o W0 dr.o) ?_;rintro e w1 ⟨v1,rfl,a8,b1⟩;obtain⟨d1,m1,e1,d2,m2,e2,d3,m3,e3,ub,ea,en,ec,rfl⟩:=a8.shape;have y:=Z λd (h:bL w1 d)=>uE.l _ _ _ h a8
 have a9:Hid (en=(qV x l).length):=by obtain⟨_,_,_,_,_,_,_,e,-,h3⟩:=a8;obtain⟨_,_,e',-⟩:=h3;simp at e e';rw[e.2.2.1];exact e'.2.1
 have⟨W2,aa⟩:=nM (w1.alloc (.cells #[.slice d1 m1 e1,.slice d2 m2 e2,.slice d3 m3 e3,.bool ub] 27));have bo:=bA aa;have bp:=b1.th bo;have g2:=hA aa;have HY:=Z λd (h:bL W2 d)=>Q3 (h.bl g2) (bo.th h) (bp.th h)
 have ej:=Z aa;have⟨bq,gz⟩:=HG.o w1 b1;obtain⟨⟨x0,x1,x2,x3⟩,-⟩:=bY bq;have l1:=io bq;have ao:Hid _:=dn.o W2 (HG.o W2 bp).2;have ek:=Z b1;clear a8 b1 aa bo bp g2 bq gz bb dn;generalize qU x l=re at*;go_wp2_with fail;rw[<-ej.o];go_at_call 7;refine Calls.mono ao.o ?_;rintro e w3 ⟨rfl,b3⟩;have⟨gA,gD,em⟩:=HY.o w3 b3;have⟨gF,eq⟩:=HG.o w3 em;clear x0 x1 x2 x3 l1
 have M:Hid ((cr x=0/\¬60<K/\re=0)\/((cr x=0/\60<K/\re=2)\/(cr x≠0/\re=cr x))):=by
  unfold Hid;rw[ds.o]
  by_cases I:cr x=0
  ·rw[Io I]
   by_cases h6:60<K
   ·exact .inr (.inl ⟨I,h6,by rw[Io h6]⟩)
   exact .inl ⟨I,h6,by rw[iO h6]⟩
  exact .inr (.inr ⟨I,by rw[iO I]⟩)
 have gM:Hid (∀P:Int->Prop,P (cr x)->P (cr x)):=λ_ h=>h
 have bs:=Z b3;have ac:=Z eq;have ad:Hid (cr x=0->∀i,cr (fk x (l.take i)).1=0):=λh i=>Fe h _
 generalize gT:cr x=we at*;clear gT gM ds b3 gA gD em gF eq ao
 rcases M.o with ⟨rfl,h6,rfl⟩|hb
 case inr=>
  have bv:re≠0:=by
   rcases hb with ⟨-,-,rfl⟩|⟨h,rfl⟩
   ·decide
   exact h
  have⟨z1,z2⟩:=bg.o bv;rw[z1,z2] at y;rw[z2] at a9;have h7:en=0:=a9.o;subst h7;have h8:Hid (∀d,bL w1 d->cL 11 #[.agg #[.slice d1 m1 e1,.slice d2 m2 e2,.slice d3 m3 e3,.bool ub],.agg #[nL,nL,nL,.bool false]] d (rT d (.bool true))):=λd h=>by obtain⟨_,_,_,_,_,_,_,e,hw,-⟩:=y.o d h;simp at e;obtain⟨⟨rfl,rfl,rfl,rfl⟩,-⟩:=e;have:=gU d.1.size _ _ fg fg d hw (ga _ _) lE;rw[KS rfl] at this;exact this
  have hq:(re != 0)=true:=by simpa using bv
  have a4:(we=0/\(60:Int)<(K:Int)/\re=2)\/((we==0)=false/\re=we):=by
   rcases hb with ⟨a,b,c⟩|⟨a,b⟩
   ·exact .inl ⟨a,by omega,c⟩
   exact .inr ⟨by simpa using a,b⟩
  clear hb M bg bk ad z1 z2 a9 y bv
  rcases a4 with ⟨rfl,h6,rfl⟩|⟨I,rfl⟩
  all_goals
   go_wp2_with fail;go_at_call 8;refine Calls.mono (a5.o w3 ac.o) ?_;rintro e w4 ⟨rfl,b4⟩;have es:=Z (ac.o.th b4);have bz:=Z (bs.o.th b4);clear b4;go_wp2_with fail;go_at_call 8;refine Calls.mono (a5.o w4 es.o) ?_;rintro e w5 ⟨rfl,b5⟩;have hd:=Z (es.o.th b5);obtain⟨et,eu,-⟩:=HY.o w5 (bz.o.th b5);obtain⟨⟨y0,y1,y2,y3⟩,-⟩:=bY et;have hf:=Z eu;clear b5 et eu;go_wp2_with fail;go_at_call 11;refine Calls.mono (h8.o w5 hf.o) ?_;rintro e w6 ⟨rfl,b6⟩;have hg:=Z (hd.o.th b6);clear b6;go_wp2_with fail;go_ret;exact⟨rfl,hg.o⟩
 case inl=>
  have kw:¬((60:Int)<(K:Int)):=by omega
  have⟨pW,pL⟩:=bk.o rfl;rw[pW,pL] at y;have ex:Hid (cr (fk x l).1=0):=by have:=ad.o rfl l.length;rw[L6] at this;exact this
  have hh:=J;go_wp2_with fail;go_at_call 8;refine Calls.mono (a5.o w3 ac.o) ?_;rintro e w4 ⟨rfl,b4⟩;have bz:=Z (bs.o.th b4);clear b4 bs ac bg bk M a5 pW pL a9;have N:=Z λi=>ad.o trivial i
  have⟨bF,ey,eF⟩:=HY.o w4 bz.o;have⟨c0,n⟩:=HG.o w4 eF;have eN:=Z (mR.start HX.o J n c0)
  have av:Hid (∀wr cv sv tv c4 wn X L,mR w w4 X L wr cv sv tv c4 wn->bi wr.1.size wr (.agg #[cv,sv,tv,.bool c4]) X/\gx wr.1.size wr wn L/\(wr.1[w1.1.size]?=some (.cells #[.slice d1 m1 e1,.slice d2 m2 e2,.slice d3 m3 e3,.bool ub] 27 (0,0)))/\bi wr.1.size wr (.agg #[.slice d1 m1 e1,.slice d2 m2 e2,.slice d3 m3 e3,.bool ub]) (fk x l).1/\gx wr.1.size wr (.slice ea en ec) (fk x l).2):=λwr cv sv tv c4 wn X L h=>by
   have⟨wY,p1,p2,p3,p4⟩:=h.stands c0 (HX.o w4 n) (n.u J) lE ⟨n.os.symm,n.tape.symm,n.output.symm⟩;have hp:w1.1.size≠w.1.size:=by have:=io (HG.o w1 ek.o).1;omega
   have⟨_,_,_,_,_,_,_,e,hw,hi⟩:=y.o wY (ey.th p1);simp at e;obtain⟨⟨rfl,rfl,rfl,rfl⟩,rfl,rfl,rfl⟩:=e;refine⟨h.world wr (Kx.refl _ _),Cp h.ownz,(h.old _ (io bF) hp).trans bF,?_,?_⟩
   ·rw[<-p4];exact hw.boxC p2 p3 (xd ex.o)
   obtain⟨a,hs,e,q1,q2,q3⟩:=hi;rw[<-p4]
   exact⟨a,hs,e,q1,q2,λi c hc=>by
    have⟨b,o,e,hl,k⟩:=q3 i c hc
    exact⟨b,o,e,hl,p2.cell p3.1 k⟩⟩
  clear bF ey eF c0 n y ad HG HY HX J dq dr ej ex ek;go_wp2_with fail;go_loopw [9,54] (λnv iv wr=>∃i:Nat,i<=K/\iv=U i/\(∃na nn nc,nv=.slice na nn nc)/\Hid (∃q1 k1 j1 q2 k2 j2 q3 k3 j3 ux,mR w w4 (fk x (l.take i)).1 (fk x (l.take i)).2 wr (.slice q1 k1 j1) (.slice q2 k2 j2) (.slice q3 k3 j3) ux nv)) (λ_ iv _=>K-(intOf iv).toNat)
  case atStart=>exact⟨0,by omega,rfl,⟨_,_,_,rfl⟩,⟨_,_,_,_,_,_,_,_,_,_,eN.o⟩⟩
  case round=>
   obtain⟨i,hi,rfl,⟨na,nn,nc,rfl⟩,HI⟩:=hrel;have⟨wo,hu⟩:=nM (wr);subst hu;have i0:(0:Int)<=(i:Int):=by omega
   obtain⟨q1,k1,j1,q2,k2,j2,q3,k3,j3,ux,z⟩:=HI.o;clear eN HI
   by_cases hv:i<K
   ·have i1:(i:Int)<(K:Int):=by omega
    obtain⟨r,c8⟩:∃r,l[i]?=some r:=⟨l[i]'(by rw[dp.o];omega),by simp⟩;have c9:fk x (l.take (i+1))=xp (fk x (l.take i)) r:=by rw[<-yC,KN,c8];rfl
    have O:=N.o i;have b2:=N.o (i+1);have cb:(fk x (l.take i)).2.length<=60:=by rw[Ge,Kt];omega
    have⟨X,hX⟩:=nM ((fk x (l.take i)).1);have⟨Ls,cd⟩:=nM ((fk x (l.take i)).2)
    have b9:(fk x (l.take (i+1))).1=if aQ X r=0 then bP X r else X:=by
     rw[c9,hX];unfold xp oA lC;simp only[O,Lr]
     split<;>rfl
    have ba:(fk x (l.take (i+1))).2=Ls++[aQ X r]:=by rw[c9,hX,cd];unfold xp lC;simp only[O,Lr]
    rw[<-hX] at z O;rw[<-cd] at z cb;obtain⟨_,_,f5,-,-,f9⟩:=HL.o wo z.below;have⟨b3,o3,e,j0,hy⟩:=f9 i r c8;simp at f5;obtain⟨rfl,-⟩:=f5;subst e;obtain⟨rv,t0,t1,t2,t3,t4,Q⟩:=hy;obtain⟨ra,fa,er,-⟩:=Q.shape;simp at er;subst er;have⟨rl,fb⟩:=nM (r.2.2.2.1.length);rw[<-fb] at t3 Q;have l9:=z.below.size;have lb:b3<wo.1.size:=by omega
    have⟨W5,ce⟩:=nM (wo.alloc (.cells #[U r.1,U r.2.1,U r.2.2.1,.slice ra rl fa,U r.2.2.2.2] 32));have R:=bA ce;have f:=z.l R
    have p:Hid (cL 14 #[.agg #[.slice q1 k1 j1,.slice q2 k2 j2,.slice q3 k3 j3,.bool ux],.agg #[U r.1,U r.2.1,U r.2.2.1,.slice ra rl fa,U r.2.2.2.2]] W5 λe t=>∃A n1 C D n2 F G n3 H u1,e=.returned (.tuple #[.agg #[.slice A n1 C,.slice D n2 F,.slice G n3 H,.bool u1],U (aQ X r)])/\kG (λk=>(Value.slice na nn nc).ownBlock=some k) t (.agg #[.slice A n1 C,.slice D n2 F,.slice G n3 H,.bool u1]) (bP X r)/\bL W5 t):=by
     have s:=f.below;refine(rC W5.1.size _ _ X r W5 (HE.o _ s).1 (HE.o _ s).2 (f.world W5 (Kx.refl _ _)) (iW (Q.l R (by omega)) (by have:=R.size;omega)) lE O).mono λe d ⟨v,h1,h2,h3,h4⟩=>?_
     obtain⟨A,C,D,F,G,H,ev,-,-⟩:=h2.shape;subst ev;refine⟨A,_,C,D,_,F,G,_,H,_,h1,h4 _ (λk hk=>?_) (λk hk=>.inl (f.ints k hk)) f.world (λwF hF=>?_),h3⟩
     ·obtain⟨_,_,_,h,-⟩:=f.ints k hk;exact io h
     have fc:Below w.1.size W5 wF:=hF.below (λk h1 h2=>Nat.not_le.2 h1 (Kl (Mc f.low) (eh f.ownz k h2))) s.size;exact iW ((Q.l R (by omega)).l fc hh) (by have:=hF.size;have:=s.size;omega)
    have cf:=Z f;have ci:=Z ce;have S:=Z4 b9 ba b2 cb;obtain⟨⟨x0,x1,x2,x3⟩,-⟩:=bY z.box;have lx:w.1.size<wo.1.size:=io z.box;clear ce R Q c8 f9 fb z f c9 b9 ba O b2 cb hX cd;go_wp2_with fail;rw[<-ci.o];go_at_call 14;refine Calls.mono p.o ?_;rintro e w6 ⟨A,n1,C,D,n2,F,G,n3,H,u1,rfl,ck,cl⟩;have q:=cf.o.l cl;have⟨⟨y0,y1,y2,y3⟩,f0,f1,f2,f3⟩:=bY q.box;have lf:=io q.box;clear x0 x1 x2 x3 lx t0 t1 t2 t3 t4;have⟨E,hE⟩:=nM (aQ X r)
    rw[<-hE] at S |-
    by_cases I:E=0
    ·obtain⟨j,T,V,cn⟩:=S.o;rw[Io I] at j;rw[j] at V;have⟨s1,s2,s3,s4⟩:=eK (u0:=.slice A n1 C) (u1:=.slice D n2 F) (u2:=.slice G n3 H) (u3:=.bool u1) q.box;have⟨WS,co⟩:=nM ((((w6.setCell (pA w.1.size 0) (.slice A n1 C)).setCell (pA w.1.size 1) (.slice D n2 F)).setCell (pA w.1.size 2) (.slice G n3 H)).setCell (pA w.1.size 3) (.bool u1));rw[<-co] at s1 s2 s3 s4;have fd:=q.put ck (xd V) s1 s2 s3 s4;have W:=fd.l (bR.alloc lE (.cells #[.slice A n1 C,.slice D n2 F,.slice G n3 H,.bool u1] 27));have Y:=W.l (bR.alloc lE (.cells #[U E] 35));obtain⟨v',d,m,g⟩:=Y.app E _ _ _ 51 (ah _ _) (by omega)
     have cp:∃na nn nc,v'=.slice na nn nc:=by
      rcases g.ownz.2 with ⟨e,-⟩|⟨_,_,_,e,-⟩
      ·exact⟨_,_,_,e⟩
      exact⟨_,_,_,e⟩
     obtain⟨cs,cx,cT,rfl⟩:=cp;rw[<-j,<-T] at g;have d0:Hid _:=g;have eg:(WS.alloc (.cells #[.slice A n1 C,.slice D n2 F,.slice G n3 H,.bool u1] 27)).1.size=w6.1.size+1:=by rw[Kg,s3]
     rw[eg,co] at m;clear eg;subst I;clear g Y W fd s1 s2 s3 s4 co j T V cn q S hE ck cl cf p ci;go_wp2_with (at_builtin;refine Kw _ rfl _ _ _ _ rfl _ _ rfl rfl _ _ m ?_);exact⟨⟨i+1,by omega,by go_num,⟨cs,cx,cT,rfl⟩,⟨_,_,_,_,_,_,_,_,_,_,d0.o⟩⟩,by simp[intOf];omega⟩
    obtain⟨j,T,V,cn⟩:=S.o;rw[iO I] at j;have W:=q.l (bR.alloc lE (.cells #[.slice A n1 C,.slice D n2 F,.slice G n3 H,.bool u1] 27));have Y:=W.l (bR.alloc lE (.cells #[U E] 35));obtain⟨v',d,m,g⟩:=Y.app E _ _ _ 51 (ah _ _) (by omega)
    have cp:∃na nn nc,v'=.slice na nn nc:=by
     rcases g.ownz.2 with ⟨e,-⟩|⟨_,_,_,e,-⟩
     ·exact⟨_,_,_,e⟩
     exact⟨_,_,_,e⟩
    obtain⟨cs,cx,cT,rfl⟩:=cp;rw[<-j,<-T] at g;have d0:Hid _:=g;have hq:(E==0)=false:=by simpa using I
    have eg:(w6.alloc (.cells #[.slice A n1 C,.slice D n2 F,.slice G n3 H,.bool u1] 27)).1.size=w6.1.size+1:=by exact Kg _ _
    rw[eg] at m;clear eg;clear g Y W j T V cn q S hE ck cl cf p ci I;go_wp2_with (at_builtin;refine Kw _ rfl _ _ _ _ rfl _ _ rfl rfl _ _ m ?_);exact⟨⟨i+1,by omega,by go_num,⟨cs,cx,cT,rfl⟩,⟨_,_,_,_,_,_,_,_,_,_,d0.o⟩⟩,by simp[intOf];omega⟩
   have hJ:i=K:=by omega
   subst hJ;rw[<-dp.o,L6] at z;obtain⟨p1,p2,p3,p4,p5⟩:=av.o _ _ _ _ _ _ _ _ z;have fi:Hid _:=rL wo.1.size _ _ _ _ wo p5 p2 lE;have hK:Hid (∀d,bL wo d->cL 11 #[.agg #[.slice d1 m1 e1,.slice d2 m2 e2,.slice d3 m3 e3,.bool ub],.agg #[.slice q1 k1 j1,.slice q2 k2 j2,.slice q3 k3 j3,.bool ux]] d (rT d (.bool true))):=λd h=>by have:=gU wo.1.size _ _ _ _ d (p4.l h lE) (p1.l h lE) h.size;rw[KS rfl] at this;exact this
   have hL:=Z λd (h:bL wo d)=>Q3 (h.bl p3) (h.bl z.box) (z.below.th h)
   rw[KS rfl] at fi;have i1:¬((i:Int)<(i:Int)):=by omega
   clear p1 p2 p3 p4 p5 z av hv hi N;go_wp2_with fail;go_at_call 18;refine Calls.mono fi.o ?_;rintro e w7 ⟨rfl,b7⟩;have⟨fl,fn,fo⟩:=hL.o w7 b7;obtain⟨⟨x0,x1,x2,x3⟩,-⟩:=bY fn;obtain⟨⟨y0,y1,y2,y3⟩,-⟩:=bY fl;have hN:=Z b7;have hO:=Z fo;clear b7 fn fl fo;go_wp2_with fail;go_at_call 11;refine Calls.mono (hK.o w7 hN.o) ?_;rintro e w8 ⟨rfl,b8⟩;have hP:=Z (hO.o.th b8);clear b8;go_wp2_with fail;go_ret;exact⟨rfl,hP.o⟩
