import Derived.Test.YtffnfdfjojidfaaGreatDoorWr19
import Derived.Test.YtffnfdfjojidfaaGreatDoorWr25
set_option linter.all false
set_option maxRecDepth 100000
set_option maxHeartbeats 8000000
namespace Go.Proofs.YtffnfdfjojidfaaGreatDoor
open Go.RowKit Go.Maps Go.Proofs.Tryz
theorem aX.setBox{B k j:Nat}{w}{v u u0 u1:Value}{p T}{C:Nat × Nat}(h:aX B w v p)(D:w.1[k]?=some (.cells #[u0,u1] T C))(E:∀ (b o n c:Nat) (d:Value),v=.agg #[.slice (some ⟨b,o,none⟩) n c,d]->b≠k):aX B (w.setCell ⟨k,j,none⟩ u) v p:=by
 obtain⟨rs,d⟩:=p;obtain⟨rv,rfl,F,a,x,rfl,G,H,I⟩:=h;refine⟨_,rfl,F,a,x,rfl,G,H,λi r J=>?_⟩;obtain⟨b,o,rfl,K,L,M,N,O,P⟩:=I i r J;have y:b≠k:=E b o _ _ _ rfl;have l:∀q,(w.setCell ⟨k,j,none⟩ u).cell? ⟨b,q,none⟩=w.cell? ⟨b,q,none⟩:=λq=>by unfold World.cell?;rw[Kc _ _ _ _ y]
 refine⟨b,o,rfl,K,L,(l _).trans M,(l _).trans N,O,?_⟩;obtain⟨Q,m,e,R,S,V⟩:=P;refine⟨Q,m,e,R,S,λW c z=>?_⟩;have⟨t,X,Y,A,g⟩:=V W c z;refine⟨t,X,Y,A,?_⟩
 by_cases s:t=k
 ·exfalso;subst s;have:=g.2.2.1;simp[World.cell?,D] at this
 have f:∀q,(w.setCell ⟨k,j,none⟩ u).cell? ⟨t,q,none⟩=w.cell? ⟨t,q,none⟩:=λq=>by unfold World.cell?;rw[Kc _ _ _ _ s]
 exact⟨(f _).trans g.1,(f _).trans g.2.1,(f _).trans g.2.2.1,g.2.2.2⟩
theorem AX(B:Nat)(pv qv:Value)(p q:aD)(w:World)(hp:aX B w pv p)(hq:aX B w qv q)(T:B<=w.1.size):
  cL 98 #[pv,qv] w λe g=>∃v,e=.returned (.tuple #[v,U (fQ p q)])/\aX g.1.size g v (fE p q)/\bL w g:=by
 have HF:Hid (∀g,bL w g->cL 124 #[qv,pv] g (rT g (.tuple #[.bool (dN q p).isSome,.agg #[U (fj q p 0),U (fj q p 1),U (fj q p 2),U (fj q p 3),U (fj q p 4)],U (aT [q,p])]))):=λg h=>uI B qv pv q p g (hq.l h T) (hp.l h T) (h.u T)
 have x:Hid (∀g,bL w g->cL 125 #[qv,pv,.bool true] g λe V=>∃v,e=.returned (.tuple #[v,U (eJ true q p)])/\aX V.1.size V v (eI true q p)/\bL g V):=λg h=>I0 B qv pv q p true g (hq.l h T) (hp.l h T) (h.u T)
 have t:Hid (fQ p q=if aT [q,p]=0 then (if (dN q p).isSome then 7 else if eJ true q p=0 then aT [eI true q p] else eJ true q p) else aT [q,p]):=rfl;have i:Hid (fE p q=if fQ p q=0 then j9 (eI true q p) else ([],0)):=rfl;obtain⟨J,d⟩:=p;obtain⟨K,f⟩:=q;obtain⟨rv,rfl,-,a,W,rfl,-⟩:=hp;obtain⟨sv,rfl,-,b,y,rfl,-⟩:=hq;simp only at HF x;generalize fj (K,f) (J,d)=c1 at*;generalize (dN (K,f) (J,d)).isSome=lo at*;generalize aT [(K,f),(J,d)]=pe at*;generalize eJ true (K,f) (J,d)=Y at*;generalize eI true (K,f) (J,d)=L at*;generalize fQ (J,d) (K,f)=E at*;generalize fE (J,d) (K,f)=dr at*;generalize J.length=n1 at*;generalize K.length=n2 at*;clear T;have⟨W3,k⟩:=nM (((w.alloc (.cells #[.slice a n1 W,U d] 30)).alloc (.cells #[.slice b n2 y,U f] 30)).alloc (.cells #[nL,U 0] 30));have c9:W3.1.size=w.1.size+1+1+1:=by rw[k];simp
 have ak:bL w W3:=by rw[k];exact((bR.alloc lE _).alloc (by simp) _).alloc (by simp;omega) _
 have g0:Na W3 w.1.size #[.slice a n1 W,U d] 30:=by rw[k];exact aS _ (aS _ (be _ _ rfl))
 have g1:Na W3 (w.1.size+1) #[.slice b n2 y,U f] 30:=by rw[k];exact aS _ (be _ _ (by simp only[Kg]))
 have l:Na W3 (w.1.size+1+1) #[nL,U 0] 30:=by rw[k];exact be _ _ (by simp only[Kg])
 have HG:Hid (∀g,bL W3 g->Na g w.1.size #[.slice a n1 W,U d] 30/\Na g (w.1.size+1) #[.slice b n2 y,U f] 30/\Na g (w.1.size+1+1) #[nL,U 0] 30):=λg h=>⟨h.bk g0,h.bk g1,h.bk l⟩
 have HW:=Z k;clear k g0 g1 l;go_enter func98,ntmps98;go_wp2_with fail;rw[<-HW.o];go_at_call 124;refine(HF.o _ ak).mono ?_;rintro e w4 ⟨rfl,z⟩;have al:=z.size;have m:bL w w4:=ak.th z;have⟨g0,g1,l⟩:=HG.o w4 z;have l2:w.1.size+1+1<w4.1.size:=by omega
 have z0:=J0 l;have z1:=J1 l;have ao:=fZ l 0;have av:=fZ l 1;have y0:=J0 g0;have y1:=J1 g0;have x0:=J0 g1;have x1:=J1 g1;have l0:w.1.size<w4.1.size:=by omega
 have l1:w.1.size+1<w4.1.size:=by omega
 have M:∀X,bL w (w4.alloc X):=λX=>m.alloc m.size X
 have N:∀X,bL W3 (w4.alloc X):=λX=>z.alloc al X
 have F:Hid _:=M;have O:=Z m;have A:Hid _:=N;clear g0 g1 l HF M N z m al
 by_cases hz:pe=0
 ·subst hz
  cases lo with
  |true=>
   have C:Hid (E=7/\dr=([],0)):=by
    have e:E=7:=by rw[t.o];rfl
    exact⟨e,by rw[i.o,iO (by rw[e];decide)]⟩
   clear t i x;go_wp2_with fail;refine Ka (v:=.tuple #[.agg #[nL,U 0],U 7]) ?_ rfl ⟨_,by rw[C.o.1],by rw[C.o.2];exact bV _ _,?_⟩
   ·rw[K8 rfl];go_simp
   repeat(first|exact O.o|refine Ky ?_ (by show w.1.size<=w.1.size+1+1;omega) _|refine Lc ?_ (by simp;omega) _)
  |false=>
   have r:Hid (E=if Y=0 then aT [L] else Y):=by unfold Hid;rw[t.o];rfl
   clear t;go_wp2_with fail;go_at_call 125;refine(x.o _ (F.o _)).mono ?_;rintro e D ⟨dv,rfl,b0,G⟩;have bm:=G.size;rw[Kg] at bm;have P:bL w D:=Below.tO (F.o _) G (F.o _).size;obtain⟨-,-,l⟩:=HG.o D (Below.tO (A.o _) G (A.o _).size);have Q:∀X,bL D (D.alloc X):=λX=>bR.alloc lE X
   have H:Hid (∀X,cL 126 #[dv] (D.alloc X) λe g=>∃rv,e=.returned (.tuple #[rv,U (aT [L])])/\aX g.1.size g rv (iL L)/\E8 (D.alloc X).1.size rv/\Below (D.alloc X).1.size (D.alloc X) g):=λX=>Cm D.1.size dv L (D.alloc X) (b0.l (Q X) lE) (Q X).size
   have a2:Hid (iL L=if aT [L]=0 then j9 L else ([],0)):=rfl;obtain⟨ms,md⟩:=L;obtain⟨rv,rfl,-,a5,c5,rfl,-⟩:=b0;simp only at H;generalize ms.length=n5 at*;generalize aT [(ms,md)]=pm at*;generalize b1:iL (ms,md)=sr at*;have c3:=Z b1;clear b1;have z0:=J0 l;have z1:=J1 l;have ao:=fZ l 0;have av:=fZ l 1;have l2:w.1.size+1+1<D.1.size:=by omega
   have a3:Hid _:=P;have bq:Hid _:=l;clear F A G P l x
   by_cases hm:Y=0
   ·subst hm
    have C:Hid (E=pm/\dr=sr):=by
     have e:E=pm:=by rw[r.o];rfl
     refine⟨e,?_⟩;rw[i.o,e,a2.o]
    clear r i a2;go_wp2_with fail;go_at_call 126;refine(H.o _).mono ?_;rintro e w6 ⟨sv,rfl,b3,s,I⟩;have br:=I.size;rw[Kg] at br s;have b6:Na w6 (w.1.size+1+1) #[nL,U 0] 30:=(I.block _ (by simp;omega)).trans ((Kq _ _ _ (by omega)).trans bq.o);have R:bL w w6:=Below.tO (a3.o.alloc a3.o.size _) I (by simp;omega);have q0:=J0 b6;have q1:=J1 b6;have cc:=fZ b6 0;have cd:=fZ b6 1;have b4:Hid _:=b3;obtain⟨ts,td⟩:=sr;obtain⟨rv,e1,-,a6,c6,e2,-⟩:=b3;subst e2 e1;simp only at b4 s;generalize ts.length=n6 at*;have S:Hid (∀ (b o n c:Nat) (d:Value),Value.agg #[.slice a6 n6 c6,U td]=.agg #[.slice (some ⟨b,o,none⟩) n c,d]->b≠w.1.size+1+1):=λb o n c d h=>by have:=s b o n c d h;omega
    have bs:Hid _:=R;have b7:Hid _:=b6;clear s I R b6 H z0 z1 ao av;go_wp2_with fail;refine Ka (v:=.tuple #[.agg #[.slice a6 n6 c6,U td],U pm]) ?_ rfl ⟨_,by rw[C.o.1],?_,?_⟩
    ·rw[K8 rfl];go_simp
    ·rw[C.o.2];have h0:aX w6.1.size w6 (.agg #[.slice a6 n6 c6,U td]) (ts,td):=b4.o;have h:=(h0.setBox (j:=0) (u:=.slice a6 n6 c6) b7.o S.o).setBox (j:=1) (u:=U td) (ap b7.o) S.o
     simpa using h
    exact bs.o.s2 (by show w.1.size<=w.1.size+1+1;omega)
   have C:Hid (E=Y/\dr=([],0)):=by
    have e:E=Y:=by rw[r.o,iO hm]
    exact⟨e,by rw[i.o,iO (by rw[e];exact hm)]⟩
   have hq:(Y != 0)=true:=by simpa using hm
   clear r i a2 hm H;go_wp2_with fail;refine Ka (v:=.tuple #[.agg #[nL,U 0],U Y]) ?_ rfl ⟨_,by rw[C.o.1],by rw[C.o.2];exact bV _ _,?_⟩
   ·rw[K8 rfl];go_simp
   repeat(first|exact a3.o|refine Ky ?_ (by show w.1.size<=w.1.size+1+1;omega) _|refine Lc ?_ (by simp;omega) _)
 have C:Hid (E=pe/\dr=([],0)):=by
  have e:E=pe:=by rw[t.o,iO hz]
  exact⟨e,by rw[i.o,iO (by rw[e];exact hz)]⟩
 have hq:(pe != 0)=true:=by simpa using hz
 have ck:(pe==0)=false:=by simpa using hz
 clear t i x hz;go_wp2_with fail;refine Ka (v:=.tuple #[.agg #[nL,U 0],U pe]) ?_ rfl ⟨_,by rw[C.o.1],by rw[C.o.2];exact bV _ _,?_⟩
 ·rw[K8 rfl];go_simp
 repeat(first|exact O.o|refine Ky ?_ (by show w.1.size<=w.1.size+1+1;omega) _|refine Lc ?_ (by simp;omega) _)
theorem uS:∃i,prog.info? 78=some i/\i.zero=some nL/\i.size=1/\i.bytes=24:=jL (by kernel_rfl)
def ii(B:Nat)(w:World)(xs:List Value)(a:ie):Prop:=xs.length=a.length/\∀ (i:Nat) x f,xs[i]?=some x->a[i]?=some f->dR B w x f
theorem ii.l{B B' w w' xs ls}(h:ii B w xs ls)(a:Below B' w w')(b:B<=B'):ii B w' xs ls:=⟨h.1,λi x f c d=>(h.2 i x f c d).l a b⟩
theorem ii.mono{B a:Nat}{w xs ls}(h:ii B w xs ls)(b:B<=a):ii a w xs ls:=⟨h.1,λi x f c d=>(h.2 i x f c d).mono b⟩
theorem ii.nil(B w):ii B w [] []:=⟨rfl,λi x f a=>by simp at a⟩
theorem ii.append{B w xs ys ls ms}(h:ii B w xs ls)(c:ii B w ys ms):ii B w (xs++ys) (ls++ms):=by
 refine⟨by simp[h.1,c.1],λi x f a b=>?_⟩
 by_cases d:i<xs.length
 ·rw[Kh d] at a;rw[Kh (by rw[<-h.1];exact d)] at b;exact h.2 i x f a b
 rw[Kk (by omega)] at a;rw[Kk (by rw[<-h.1];omega),<-h.1] at b;exact c.2 _ x f a b
theorem ii.one{B w x f}(h:dR B w x f):ii B w [x] [f]:=by
 refine⟨rfl,λi y g a b=>?_⟩
 match i,a,b with
 |0,a,b=>
  simp at a b;subst a b;exact h
 |i+1,a,_=>simp at a
theorem ii.slices{B w xs ls}(h:ii B w xs ls):∀u∈xs,u.oneCell'=true:=by
 intro u d;obtain⟨i,b⟩:=List.getElem?_of_mem d;have e:i<ls.length:=by rw[<-h.1];exact(K9.1 b).1
 obtain⟨a,c,rfl,-⟩:=(h.2 i u ls[i] b (by simp)).shape;rfl
theorem DO{B w a n cap ls}(h:cD B w (.slice a n cap) ls):∃d,ii B w d ls/\∀ (j:Nat) u,d[j]?=some u->∃b o,a=some ⟨b,o,none⟩/\b<B/\w.cell? ⟨b,o+j,none⟩=some u:=by
 obtain⟨A,p,e,-,-,r⟩:=h;simp at e;obtain⟨rfl,rfl,rfl⟩:=e
 obtain⟨d,s,q⟩:=iU (λi x=>∃b o,a=some ⟨b,o,none⟩/\b<B/\w.cell? ⟨b,o+i,none⟩=some x/\∀f,ls[i]?=some f->dR B w x f) ls.length (λi t=>by
  obtain⟨b,o,v,e,g,l,m⟩:=r i ls[i] (by simp)
  exact⟨v,b,o,e,g,l,λf c=>by rw[Lu t] at c;cases c;exact m⟩)
 refine⟨d,⟨s,λi x f y m=>?_⟩,λj u z=>?_⟩
 ·have⟨b,o,e,g,l,k⟩:=q i x y;exact k f m
 have⟨b,o,e,g,l,k⟩:=q j u z;exact⟨b,o,e,g,l⟩
theorem sR{L:Nat}{w:World}{v:Value}{xs:List Value}{c:ie}(h:w.ownsRow L 78 1 v c.length xs)(j:ii w.1.size w xs c):cD w.1.size w v c:=by
 obtain⟨a,d,rfl,l,m,n⟩:=an h;refine⟨a,d,rfl,l,m,λi f k=>?_⟩;have o:i<c.length:=(K9.1 k).1;obtain⟨g,rfl,p,e⟩:=n (by omega);have b:xs[i]?=some (xs[i]'(by rw[j.1];exact o)):=by simp
 exact⟨g,0,_,rfl,e,by rw[Kp];exact aK h i _ b,j.2 i _ f b k⟩
def tB(B L:Nat)(w:World)(v:Value)(b:ie):Prop:=∀a:World,Below B w a->(∀g,L<=g->g<w.1.size->a.1[g]?=w.1[g]?)->cD a.1.size a v b
theorem tB.at{B L w v ls}(h:tB B L w v ls):cD w.1.size w v ls:=h w bR (λ_ _ _=>rfl)
theorem pO(B L w):tB B L w nL []:=λa _ _=>kJ _ _
theorem xw(base:Nat)(C:TypeId)(v:Value)(n:Nat)(xs:List Value)(a:Option Addr)(m cap:Nat)(d:List Value)(W:World)(f:W.ownsRow base 78 1 v n xs)(D:d.length=m)(E:∀ (j:Nat) u,d[j]?=some u->∃b o,a=some ⟨b,o,none⟩/\W.cell? ⟨b,o+j,none⟩=some u)(H:∀u∈d,u.oneCell'=true)(I:(n+m)*24<=140737488355328)(i:base<=W.1.size):
  ∃w s,(Builtin.append_ #[44,44] C #[v,.slice a m cap]).run prog W=.ok w s/\s.ownsRow base 78 1 w (n+m) (xs++d)/\Below base W s:=by
 obtain⟨t,p,x,y,z⟩:=uS
 cases a with
 |none=>
  have J:d=[]:=by
   cases d with
   |nil=>rfl
   |cons r l=>have⟨b,o,e,_⟩:=E 0 r rfl;cases e
  subst J;simp at D;subst D;refine⟨v,W,?_,by simpa using f,Kf _ _⟩
  have A:v=nL\/∃g c,v=.slice (some g) n c/\n<=c:=by
   rcases f.2 with ⟨h,_⟩|⟨g,c,K,h,_,_,L,_⟩
   ·exact .inl h
   exact .inr ⟨_,c,h,L⟩
  have F:=Lk (P:=prog) W t.size 0 0 cap
  rcases A with rfl|⟨g,c,rfl,B⟩
  ·simp[Builtin.append_,KY Tryz.underlying44,sizeOf,typeInfo,p,Builtin.lenOf,F]
  simp[Builtin.append_,KY Tryz.underlying44,sizeOf,typeInfo,p,Builtin.lenOf,F,B,storeCells]
 |some G=>
  have q:∀j u,d[j]?=some u->W.cell? (G.add j)=some u:=by
   intro j u M;have⟨b,o,e,A⟩:=E j u M
   cases e;rw[eM];exact A
  obtain⟨w,s,N,O,Q,S⟩:=LB (P:=prog) W base 44 C 78 t _ 1 24 Tryz.underlying44 p x y z rfl (by decide) v n xs f G m cap d (by omega) q H (by rw[ai];omega) I i;exact⟨w,s,N,O,bR.grown Q i λk R=>eh f k R⟩
def Kx(G:Nat->Prop)(w wF:World):Prop:=Below 0 w wF/\∀k,¬G k->k<w.1.size->wF.1[k]?=w.1[k]?
theorem Kx.refl(G:Nat->Prop)(w):Kx G w w:=⟨Kf _ _,λ_ _ _=>rfl⟩
theorem Kx.size{G:Nat->Prop}{w wF}(h:Kx G w wF):w.1.size<=wF.1.size:=h.1.size
theorem Kx.back{G c:Nat->Prop}{w w' wF}(h:Kx c w' wF)(a:bL w w')(d:∀k,k<w.1.size->c k->G k):Kx G w wF:=
 ⟨(a.mono (Ks _)).trans h.1,λk f b=>(h.2 k (λe=>f (d k b e)) (Kd b a.size)).trans (a.block k b)⟩
theorem Kx.below{G:Nat->Prop}{w wF}{B:Nat}(h:Kx G w wF)(a:∀k,k<B->¬G k)(i:B<=w.1.size):Below B w wF:=by obtain⟨⟨b,c,d,e,-⟩,f⟩:=h;exact⟨b,c,d,e,λk g=>f k (a k g) (by omega)⟩
theorem Kx.cell{G:Nat->Prop}{b o:Nat}{w wF}{u:Value}(h:Kx G w wF)(c:¬G b)(a:w.cell? ⟨b,o,none⟩=some u):wF.cell? ⟨b,o,none⟩=some u:=by have d:=KE _ _ a;have e:=h.2 b c d;rw[<-a];simp only[World.cell?,e]
def FT(g:Nat)(w:World):Prop:=∃a T b,w.1[g]?=some (.cells a T b)/\∀ (j:Nat) u,a[j]?=some u->∃n,u=U n
theorem FT.l{g w w'}(h:FT g w)(c:bL w w'):FT g w':=by obtain⟨a,T,d,b,e⟩:=h;exact⟨a,T,d,(c.block g (KK.1 b).1).trans b,e⟩
theorem FT.cell{g o:Nat}{w}{u:Value}(h:FT g w)(a:w.cell? ⟨g,o,none⟩=some u):∃n,u=U n:=by
 obtain⟨b,T,e,c,d⟩:=h;refine d o u ?_
 simpa [World.cell?,c] using a
def lZ(G:Nat->Prop)(B:Nat)(w:World):Prop:=∀k,G k->FT k w\/B<=k
theorem lZ.l{G:Nat->Prop}{B w w'}(h:lZ G B w)(a:bL w w'):lZ G B w':=λk b=>(h k b).imp (λe=>e.l a) id
theorem lZ.slice{G:Nat->Prop}{B b o:Nat}{w a n c}(h:lZ G B w)(g:b<B)(d:w.cell? ⟨b,o,none⟩=some (.slice a n c)):¬G b:=λf=>by
 rcases h b f with h|h
 ·have⟨m,e⟩:=h.cell d
  cases e
 omega
theorem lZ.bool{G:Nat->Prop}{B b o:Nat}{w x}(h:lZ G B w)(d:b<B)(a:w.cell? ⟨b,o,none⟩=some (.bool x)):¬G b:=λc=>by
 rcases h b c with h|h
 ·have⟨m,e⟩:=h.cell a
  cases e
 omega
def K7(G:Nat->Prop)(w:World)(v:Value)(f:List cO):Prop:=∀a,Kx G w a->dR a.1.size a v f
def ym(G:Nat->Prop)(w:World)(v:Value)(b:ie):Prop:=∀a,Kx G w a->cD a.1.size a v b
def Id(G:Nat->Prop)(w:World)(v:Value)(p:aD):Prop:=∀a,Kx G w a->aX a.1.size a v p
theorem ym.l{G a:Nat->Prop}{w w' v ls}(h:ym G w v ls)(b:bL w w')(c:∀k,k<w.1.size->a k->G k):ym a w' v ls:=λd e=>h d (e.back b c)
theorem Id.l{G a:Nat->Prop}{w w' v p}(h:Id G w v p)(b:bL w w')(c:∀k,k<w.1.size->a k->G k):Id a w' v p:=λd e=>h d (e.back b c)
theorem rQ(G:Nat->Prop)(w):ym G w nL []:=λ_ _=>kJ _ _
theorem ym.vals{G:Nat->Prop}{B w a n cap ls}(h:ym G w (.slice a n cap) ls)(y:cD B w (.slice a n cap) ls)(z:lZ G B w){b o j:Nat}{u:Value}{f:List cO}(q:a=some ⟨b,o,none⟩)(r:w.cell? ⟨b,o+j,none⟩=some u)(s:ls[j]?=some f):K7 G w u f:=by
 intro A t;obtain⟨H,I,v,-,-,C⟩:=y;have⟨J,K,D,e,g,c,i⟩:=C j f s;simp at v;obtain⟨rfl,-⟩:=v;rw[q] at e;simp at e;obtain⟨rfl,rfl⟩:=e;obtain⟨L,M,k,-,-⟩:=i.shape;rw[k] at c;have l:=z.slice g c;rw[r] at c
 cases c;obtain⟨N,O,x,-,-,E⟩:=h A t;obtain⟨P,Q,F,m,-,d,p⟩:=E j f s;simp at x;obtain⟨rfl,-⟩:=x;rw[q] at m;simp at m;obtain⟨rfl,rfl⟩:=m;rw[t.cell l r] at d
 cases d;exact p
theorem Cb(B lv pv qv ls p q w)(hl:cD B w lv ls)(hp:aX B w pv p)(hq:aX B w qv q)(hB:B<=w.1.size):
  cL 67 #[lv,pv,qv] w λe E=>∃v,e=.returned (.tuple #[v,U (dm ls p q)])/\tB B w.1.size E v (dt ls p q)/\bL w E/\∀G:Nat->Prop,(∀k,G k->k<w.1.size)->lZ G B w->ym G w lv ls->ym G E v (dt ls p q):=by
 have HL:=Z λE (h:bL w E)=>hl.l h hB
 have HC:=Z λE (h:bL w E)=>oF B lv ls E (hl.l h hB) (h.u hB)
 have HD:=Z λE (h:bL w E)=>AX B pv qv p q E (hp.l h hB) (hq.l h hB) (h.u hB)
 have K:Hid (dm ls p q=if bl ls=0 then (if fQ p q=0 then (if ls.length=6 then 2 else cB (fE p q)) else fQ p q) else bl ls):=rfl;have n:Hid (dt ls p q=if dm ls p q=0 then ls++[cm (fE p q)] else []):=rfl;have P:=Z λ(h:bl ls=0)=>(fA.1 h).1
 obtain⟨la,M,rfl,c9,dl,-⟩:=hl;obtain⟨rs,d⟩:=p;obtain⟨ss,f⟩:=q;obtain⟨rv,rfl,-,a,b3,rfl,-⟩:=hp;obtain⟨sv,rfl,-,b,Y,rfl,-⟩:=hq;simp only at HC HD;have dp:=ai;have⟨N,a7⟩:=nM (ls.length);have a0:=Z a7.symm
 rw[<-a7] at HL HC K P c9 |-
 clear a7;generalize bl ls=ce at*;generalize fQ (rs,d) (ss,f)=de at*;generalize fE (rs,d) (ss,f)=dr at*;generalize dm ls (rs,d) (ss,f)=O at*;generalize dt ls (rs,d) (ss,f)=tr at*;generalize rs.length=n1 at*;generalize ss.length=n2 at*;have⟨W2,F⟩:=nM ((w.alloc (.cells #[.slice a n1 b3,U d] 30)).alloc (.cells #[.slice b n2 Y,U f] 30));have dq:=sB F;have b5:=bB F;have g0:Na W2 w.1.size #[.slice a n1 b3,U d] 30:=by rw[F];exact aS _ (be _ _ rfl)
 have g1:Na W2 (w.1.size+1) #[.slice b n2 Y,U f] 30:=by rw[F];exact be _ _ (by simp only[Kg])
 have HG:=Z λE (h:bL W2 E)=>Q2 (h.bk g0) (h.bk g1)
 have HW:=Z F;clear F g0 g1;go_enter func67,ntmps67;go_wp2_with fail;rw[<-HW.o];go_at_call 97;refine(HC.o _ b5).mono ?_;rintro e w3 ⟨rfl,Q⟩;have e2:=Q.size;have C:=b5.th Q;clear HC
 by_cases t:ce=0
 ·subst t;have e3:=P.o rfl;have⟨g0,g1⟩:=HG.o w3 Q;have y0:=J0 g0;have y1:=J1 g0;have x0:=J0 g1;have x1:=J1 g1;have r:=Z (by rw[K.o,Io rfl]:O=if de=0 then (if N=6 then 2 else cB dr) else de);clear g0 g1 K P;go_wp2_with fail;go_at_call 98;refine(HD.o _ C).mono ?_;rintro e w4 ⟨dv,rfl,b6,b7⟩;have a1:=C.th b7;have a2:∀X,bL w4 (w4.alloc X):=λX=>bR.alloc lE X
  have H:=Z λX=>qT w4.1.size dv dr (w4.alloc X) (b6.l (a2 X) lE) (a2 X).size
  have a9:Hid (cB dr=0->dW dr=cm dr):=λh=>by rw[dW,Io h]
  obtain⟨y,z⟩:=dr;obtain⟨rv,rfl,-,a4,c4,rfl,-⟩:=b6;simp only at H;generalize y.length=n4 at*;have m:Hid _:=a1;clear b7 a1 C Q y0 y1 x0 x1 HD
  by_cases hd:de=0
  ·subst hd
   by_cases h6:N=6
   ·subst h6
    have s:Hid (O=2/\tr=[]):=by
     have e:O=2:=by rw[r.o];rfl
     exact⟨e,by rw[n.o,iO (by rw[e];decide)]⟩
    clear r n H;go_wp2_with fail;go_ret2;exact⟨_,by rw[s.o.1];rfl,by rw[s.o.2];exact pO _ _ _,m.o.alloc m.o.size _,λG _ _ _=>by rw[s.o.2];exact rQ _ _⟩
   have cc:¬(N:Int)=6:=by omega
   have eb:((N:Int)==6)=false:=by simpa using cc
   have D:=Z (by rw[r.o,Io rfl,iO h6]:O=cB (y,z));clear r h6;go_wp2_with fail;go_at_call 66;refine(H.o _).mono ?_;rintro e x ⟨fv,rfl,I,R,S⟩
   by_cases A:cB (y,z)=0
   ·have s:Hid (O=0/\tr=ls++[cm (y,z)]):=by
     have e:O=0:=by rw[D.o,A]
     exact⟨e,by rw[n.o,Io e]⟩
    rw[a9.o A] at I R;rw[A];clear A D n a9 H;obtain⟨fa,fc,rfl,-,-⟩:=an I;have ba:Hid (x.ownsRow w.1.size 113 4 (.slice fa (cm (y,z)).length fc) (cm (y,z)).length (aJ (cm (y,z)))/\∀i∈cm (y,z),gH i):=⟨cU I (by have:=m.o.size;simp;omega),R⟩;have c:bL w x:=Below.tO (m.o.alloc m.o.size _) S (by simp;have:=m.o.size;omega);have cd:=c.size;obtain⟨xs,T,ac⟩:=DO (HL.o _ c);have cf:xs.length=N:=by rw[T.1,a0.o]
    have⟨W6,V⟩:=nM (x.alloc (.cells #[] 78));have W:=bA V;have bb:W6.ownsRow x.1.size 78 1 (.slice (MZ x) 0 0) 0 []:=by rw[V];exact⟨rfl,.inr ⟨x.1.size,0,#[],rfl,Ke _,ah x _,Ke _,Ks _,rfl,rfl⟩⟩
    obtain⟨v7,w7,ci,ck,bc⟩:=xw x.1.size 44 _ 0 [] la N M xs W6 bb cf (λj u hj=>by
     have⟨b,o,e,hb,t⟩:=ac j u hj
     exact⟨b,o,e,(W.cell (p:=⟨b,o+j,none⟩) (by show b<x.1.size;omega)).trans t⟩) T.slices (by omega) W.size
    have a3:=W.trans bc;have cl:=Z V;obtain⟨ee,cn,co,cs,cv⟩:=uS;have HF:=Z2 T trivial;have cx:Hid (∀G:Nat->Prop,(∀k,G k->k<w.1.size)->lZ G B w->ym G w (.slice la N M) ls->∀ (j:Nat) u f,xs[j]?=some u->ls[j]?=some f->K7 G x u f):=λG hG hO hC j u f hu hf=>by have⟨b,o,ea,eg,t⟩:=ac j u hu;exact(hC.l c (λ_ _ e=>e)).vals (HL.o _ c) (hO.l c) ea t hf
    have d0:(0+N+1)*24<=140737488355328:=by omega
    have d1:0+N+1<=maxLen:=by omega
    have bk:Hid _:=a3;have bm:Hid _:=c;clear I R T ac V W bb S bc a3 c;generalize bo:(cm (y,z)).length=fl at*;have a5:=Z bo;clear bo;go_wp2_with (first|(at_builtin;go_must (first|(rw[<-cl.o];refine Kw _ rfl _ _ _ _ rfl _ _ rfl rfl _ _ ci ?_)|(refine ir _ rfl _ _ rfl Tryz.underlying44 cn co cs cv rfl (by decide) x.1.size _ _ _ rfl _ 1 [.slice fa fl fc] rfl _ rfl (by simp) w7 bR ck rfl (by intro u hu;simp at hu;subst hu;rfl) d1 d0 bk.o.size ?_;intro v8 w8 ho8 hb8 hg8))));have l:=bk.o.trans hb8;have e8:(ls++[cm (y,z)]).length=0+N+1:=by simp[a0.o]
    have d2:tB B w.1.size w8 v8 (ls++[cm (y,z)]):=by
     intro wF bq br;have bs:=(l.mono (Kl hB cd)).trans bq;have ej:=bq.size;have bv:∀g,w.1.size<=g->g<x.1.size->wF.1[g]?=x.1[g]?:=λg h1 J=>(br g h1 (Kd J l.size)).trans (l.block g J)
     refine sR (L:=x.1.size) (xs:=[]++xs++[.slice fa fl fc]) (by rw[e8];exact bT ho8.o λg ad ae t=>br g (by omega) (io t)) ?_;have h1:=HF.o.1;rw[MK];refine((h1.l bs lE).mono (by have:=l.size;omega)).append (ii.one ?_);have J:=ba.o
     rw[<-a5.o] at J |-
     exact jA (bT J.1 λg ad ae t=>bv g (by omega) (io t)) J.2
    have bx:=bm.o.th l
    have d3:∀G:Nat->Prop,(∀k,G k->k<w.1.size)->lZ G B w->ym G w (.slice la N M) ls->ym G w8 v8 (ls++[cm (y,z)]):=λG hG hO hC wF hK=>by
     have bz:∀g,w.1.size<=g->g<w8.1.size->wF.1[g]?=w8.1[g]?:=λg h1 J=>hK.2 g (λe=>absurd (hG g e) (by omega)) J
     have d4:Kx G x wF:=hK.back l (λ_ _ e=>e);refine sR (L:=x.1.size) (xs:=[]++xs++[.slice fa fl fc]) (by rw[e8];exact bT ho8.o λg ad ae t=>bz g (by omega) (io t)) ?_;rw[MK];refine ii.append ⟨HF.o.1.1,λj u f hu hf=>cx.o G hG hO hC j u f hu hf wF d4⟩ (ii.one ?_);have J:=ba.o
     rw[<-a5.o] at J |-
     exact jA (bT J.1 λg ad ae t=>(bz g (by omega) (Kd (io t) l.size)).trans (l.block g (io t))) J.2
    go_ret2;exact⟨_,by rw[s.o.1];rfl,by rw[s.o.2];exact d2,bx,λG hG hO hC=>by rw[s.o.2];exact d3 G hG hO hC⟩
   have s:Hid (O=cB (y,z)/\tr=[]):=by have e:=D.o;exact⟨e,by rw[n.o,iO (by rw[e];exact A)]⟩
   have hq:(cB (y,z) != 0)=true:=by simpa using A
   clear A D n a9 H;generalize cB (y,z)=cp at*;have c:bL w x:=Below.tO (m.o.alloc m.o.size _) S (by simp;have:=m.o.size;omega);obtain⟨fa,fc,rfl,-⟩:=an I;have d5:Hid _:=c;clear I R S c;generalize (dW (y,z)).length=fl at*;go_wp2_with fail;go_ret2;exact⟨_,by rw[s.o.1];rfl,by rw[s.o.2];exact pO _ _ _,d5.o,λG _ _ _=>by rw[s.o.2];exact rQ _ _⟩
  have s:Hid (O=de/\tr=[]):=by
   have e:O=de:=by rw[r.o,iO hd]
   exact⟨e,by rw[n.o,iO (by rw[e];exact hd)]⟩
  have hq:(de != 0)=true:=by simpa using hd
  have ek:(de==0)=false:=by simpa using hd
  clear r n H hd;go_wp2_with fail;go_ret2;exact⟨_,by rw[s.o.1];rfl,by rw[s.o.2];exact pO _ _ _,m.o.alloc m.o.size _,λG _ _ _=>by rw[s.o.2];exact rQ _ _⟩
 have s:Hid (O=ce/\tr=[]):=by
  have e:O=ce:=by rw[K.o,iO t]
  exact⟨e,by rw[n.o,iO (by rw[e];exact t)]⟩
 have hq:(ce != 0)=true:=by simpa using t
 clear K n t HD P;go_wp2_with fail;go_ret2;exact⟨_,by rw[s.o.1];rfl,by rw[s.o.2];exact pO _ _ _,C,λG _ _ _=>by rw[s.o.2];exact rQ _ _⟩
theorem DA(n:Nat)(f:n<=4294967281)(w:World):(Instr.makeSlice 44 (U n) (U n)).run prog w=.ok (.slice (sO w.1.size) n n) (w.alloc (.cells (madeCells #[nL] n) 78)):=by
 obtain⟨a,b,c,d,e⟩:=uS;have:=MQ (P:=prog) w 44 78 a _ Tryz.underlying44 b c .i64 .i64 n n (by omega) (LH _) (by rw[e];omega) (by omega);rw[d] at this
 simpa [Value.cells] using this
theorem Dh(n:Nat)(f:n<=4294967281)(w:World):(Instr.makeSlice 78 (U n) (U n)).run prog w=.ok (.slice (sO w.1.size) n n) (w.alloc (.cells (madeCells #[U 0,U 0,U 0,U 0] (n*4)) 113)):=by
 obtain⟨a,b,c,d,e⟩:=rV;have:=MQ (P:=prog) w 78 113 a _ Tryz.underlying78 b c .i64 .i64 n n (by omega) (LH _) (by rw[e];omega) (by omega);rw[d] at this
 simpa [Value.cells] using this
theorem xG(B g:Nat)(sv cs)(d:Array Value)(w)(h:dR B w sv cs)(x:w.1[g]?=some (.cells d 113 (0,0)))(n:d.size=cs.length*4):
  ∃v,(∀y,(Builtin.copy_ #[78,78] y #[.slice (sO g) cs.length cs.length,sv]).run prog w=.ok (U cs.length) v)/\v.1[g]?=some (.cells (aJ cs).toArray 113 (0,0))/\Below g w v/\∀b,b≠g->v.1[b]?=w.1[b]?:=by
 obtain⟨F,p,G,z,H⟩:=rV;obtain⟨a,I,rfl,J,K,f⟩:=h;have q:Nat.min cs.length cs.length=cs.length:=Nat.min_self _
 cases a with
 |none=>
  have L:cs=[]:=by
   cases cs with
   |nil=>rfl
   |cons r l=>have⟨b,o,e,_⟩:=f 0 r rfl;cases e
  subst L;have A:d=#[]:=LP (by simpa using n);refine⟨w,λy=>?_,by rw[x,A];rfl,Kf _ _,λ_ _=>rfl⟩;simp[Builtin.copy_,KY Tryz.underlying78,Builtin.lenOf,sizeOf,typeInfo,p,Builtin.firstCells,storeCells,goInt]
 |some D=>
  have m:∀j u,(aJ cs)[j]?=some u->w.cell? (D.add j)=some u:=by
   cases cs with
   |nil=>intro j u C;simp[aJ] at C
   |cons r l=>
    have⟨b,o,e,_,_⟩:=f 0 r rfl
    cases e;intro j u C;rw[eM];refine qx (o:=o) (r :: l) o (λi c n=>?_) j u C;have⟨N,O,e,_,k⟩:=f i c n
    cases e;exact k
  have E:=run_loadCells_list (P:=prog) w D (aJ cs) m;rw[f6] at E;have s:=run_storeCells_at prog g 0 113 (aJ cs) 0 d w x (by rw[f6,n];omega) (iA cs);have t:(d.toList.take (0+0)++aJ cs++d.toList.drop (0+0+(aJ cs).length)).toArray=(aJ cs).toArray:=by rw[f6,LG (by simp[n])];simp
  rw[t] at s;refine⟨w.setRow g (aJ cs).toArray,λy=>?_,setRow_heap w g _ _ _ _ x,⟨rfl,rfl,rfl,by simp[World.setRow],λk Q=>Mx w g k _ (by omega)⟩,λb M=>Mx w g b _ M⟩;simp[Builtin.copy_,KY Tryz.underlying78,Builtin.lenOf,Builtin.firstCells,sizeOf,typeInfo,p,z,q,E,s,goInt]
def k9(L:Nat)(w:World)(xs:List Value)(a:ie):Prop:=xs.length=a.length/\∀ (i:Nat) x f,xs[i]?=some x->a[i]?=some f->w.ownsRow L 113 4 x f.length (aJ f)/\∀c∈f,gH c
theorem k9.keep{L w w' xs ls}(h:k9 L w xs ls)(c:dB 113 w w'):k9 L w' xs ls:=⟨h.1,λi x f a b=>⟨eQ (h.2 i x f a b).1 c,(h.2 i x f a b).2⟩⟩
theorem k9.base{L a:Nat}{w xs ls}(h:k9 L w xs ls)(d:a<=L):k9 a w xs ls:=⟨h.1,λi x f b c=>⟨cU (h.2 i x f b c).1 d,(h.2 i x f b c).2⟩⟩
theorem k9.nil(L w):k9 L w [] []:=⟨rfl,λi x f a=>by simp at a⟩
theorem k9.snoc{L w xs ls}{x:Value}{f:List cO}(h:k9 L w xs ls)(e:w.ownsRow L 113 4 x f.length (aJ f))(j:∀c∈f,gH c):k9 L w (xs++[x]) (ls++[f]):=by
 refine⟨by simp[h.1],λi y g a b=>?_⟩
 by_cases d:i<xs.length
 ·rw[Kh d] at a;rw[Kh (by rw[<-h.1];exact d)] at b;exact h.2 i y g a b
 rw[Kk (by omega)] at a;rw[Kk (by rw[<-h.1];omega),<-h.1] at b
 match hk:i-xs.length,a,b with
 |0,a,b=>
  simp at a b;subst a b;exact⟨e,j⟩
 |k+1,a,_=>simp at a
theorem k9.at{L w xs ls}(h:k9 L w xs ls):ii w.1.size w xs ls:=⟨h.1,λi x f a b=>jA (h.2 i x f a b).1 (h.2 i x f a b).2⟩
def sC(L G n:Nat)(c:ie)(w:World):Prop:=
 ∃b a,w.1[G]?=some (.cells (b++a).toArray 78 (0,0))/\b.length+a.length=n/\k9 L w b c
theorem sC.cell{L G n ls w}(h:sC L G n ls w)(j:Nat)(d:j<n):∃u,w.cell? ⟨G,j,none⟩=some u/\w.frozen? ⟨G,j,none⟩=false:=by obtain⟨c,a,b,e,f⟩:=h;exact⟨(c++a)[j]'(by simp;omega),ab b j (by simp),fZ b _⟩
theorem sC.l{L G n ls w w'}(h:sC L G n ls w)(b:bL w w'):sC L G n ls w':=by obtain⟨d,a,c,e,f⟩:=h;exact⟨d,a,(b.block G (io c)).trans c,e,f.keep (dB.of_below b)⟩
theorem sC.put{L G n ls w}{cv:Value}{f:List cO}(h:sC L G n ls w)(r:ls.length<n)(l:∀c∈f,gH c)(m:w.ownsRow L 113 4 cv f.length (aJ f)):
  sC L G n (ls++[f]) (w.setCell ⟨G,ls.length,none⟩ cv):=by
 obtain⟨p,b,j,e,k⟩:=h;have i:=k.1
 obtain⟨g,a,rfl⟩:∃g a,b=g :: a:=by
  match b,e with
  |[],e=>simp at e;omega
  |g :: a,_=>exact⟨g,a,rfl⟩
 have q:=ap (o:=ls.length) (u:=cv) j;have d:dB 113 w (w.setCell ⟨G,ls.length,none⟩ cv):=dB.setOther j (by decide);refine⟨p++[cv],a,?_,by simp at e |-;omega,(k.keep d).snoc (eQ m d) l⟩;rw[q];congr 2;rw[<-i];apply Array.ext';simp[List.set_append]
theorem sC.done{L G n ls w}(h:sC L G n ls w)(i:ls.length=n)(d:L<=G)(e:n<=maxLen):∃a,w.ownsRow L 78 1 (.slice (sO G) n n) n a/\k9 L w a ls:=by obtain⟨a,b,f,j,c⟩:=h;have g:=c.1;refine⟨a,⟨by omega,.inr ⟨G,n,_,rfl,d,f,Ke _,e,by simp;omega,?_⟩⟩,c⟩;simp;rw[List.take_left' (by omega)]
theorem vH(B lv ls w)(hl:cD B w lv ls)(hB:B<=w.1.size)(hn:ls.length<=1000)(J:∀f∈ls,f.length<=100000):
  cL 101 #[lv] w λe K=>∃v,e=.returned v/\∃Y,K.ownsRow w.1.size 78 1 v ls.length Y/\k9 w.1.size K Y ls/\bL w K:=by
 have L:=Z λK (h:bL w K)=>hl.l h hB
 have a2:=Z J;obtain⟨a,c,e3,-,-,-⟩:=hl;subst e3;clear J;have⟨n,u⟩:=nM (ls.length);have HN:=Z u.symm
 rw[<-u] at hn L |-
 clear u;have b7:=ai;have b:=λw=>DA n (by omega) w
 have⟨mc,x⟩:=nM (madeCells #[nL] n);rw[<-x] at b;have y:=b;have s:mc.size=n:=by rw[x,LS]
 clear b x;have⟨H,i⟩:=nM (w.alloc (.cells mc 78));have b8:=sA i;have z:=bA i;have g2:Na H w.1.size mc 78:=by rw[i];exact be _ _ rfl
 have M:Hid (sC w.1.size w.1.size n (ls.take 0) H):=⟨[],mc.toList,by simpa using g2,by simpa using s,k9.nil _ _⟩;have a3:=Z λv (h:Below w.1.size H v)=>z.trans h
 have HW:=Z i;clear i g2 s;go_enter func101,ntmps101;go_wp2_with fail;rw[<-HW.o];clear y;go_loopw [12] (λiv wr=>∃k:Nat,k<=n/\iv=U k/\Hid (sC w.1.size w.1.size n (ls.take k) wr)/\Hid (Below w.1.size H wr)) (λiv _=>n-(intOf iv).toNat)
 case atStart=>exact⟨0,by omega,rfl,M,Kf _ _⟩
 case round=>
  obtain⟨k,hk,rfl,N,j⟩:=hrel;have⟨g,a5⟩:=nM (wr);subst a5;have k0:(0:Int)<=(k:Int):=by omega
  have o:=a3.o _ j.o;have ba:w.1.size+1<=g.1.size:=by have:=j.o.size;omega
  by_cases bb:k<n
  ·have k1:(k:Int)<(n:Int):=by omega
   obtain⟨f,q⟩:∃f,ls[k]?=some f:=⟨ls[k]'(by rw[HN.o];omega),by simp⟩;have a6:=Z (by rw[KN,q];rfl:ls.take (k+1)=ls.take k++[f]);have O:=Z (by rw[Kt,HN.o];omega:(ls.take k).length=k);have P:=a2.o f (Kb q);obtain⟨_,_,e1,-,-,Q⟩:=L.o _ o;have⟨b3,o3,fv,e,ao,q0,r⟩:=Q k f q;simp at e1;obtain⟨rfl,-,-⟩:=e1;subst e;clear Q q;have a7:=Z r.wf;have⟨W5,d⟩:=nM (g.alloc (.cells (madeCells #[U 0,U 0,U 0,U 0] (f.length*4)) 113));have a8:=sA d;have A:=bA d;have c5:Na W5 g.1.size (madeCells #[U 0,U 0,U 0,U 0] (f.length*4)) 113:=by rw[d];exact be _ _ rfl
   obtain⟨C,l,c6,D,R⟩:=xG B g.1.size fv f _ W5 (r.l A (by omega)) c5 (by rw[LS])
   have bg:C.1.size=g.1.size+1:=by
    have h1:=D.size;have h2:C.1[g.1.size+1]?=none:=by rw[R _ (by omega)];exact LZ (by omega)
    have:=Array.getElem?_eq_none_iff.1 h2;omega
   have m:bL g C:=A.trans (D.mono (by omega));have E:=Z (N.o.l m);have F:Hid (C.ownsRow w.1.size 113 4 (.slice (MZ g) f.length f.length) f.length (aJ f)):=⟨by rw[f6],.inr ⟨g.1.size,f.length,_,rfl,by omega,c6,Ke _,by rw[ai];omega,by simp[f6],by rw[Ki (by simp[f6])]⟩⟩;have S:Hid (Below w.1.size H C):=Below.tO j.o m (by omega);obtain⟨a9,c9,aa,-,-⟩:=r.shape;subst aa;have b:=λw=>Dh f.length (by omega) w
   have⟨I,G⟩:=nM (f.length);have ac:=Z G.symm;have⟨mk,t⟩:=nM (madeCells #[U 0,U 0,U 0,U 0] (f.length*4));rw[<-t] at b d;rw[<-G] at b P q0 l F;have y:=b;have ad:=Z d;obtain⟨u0,v0,w0⟩:=E.o.cell k (by omega);have T:Hid (sC w.1.size w.1.size n (ls.take (k+1)) (C.setCell ⟨w.1.size,k,none⟩ (.slice (MZ g) I I))/\Below w.1.size H (C.setCell ⟨w.1.size,k,none⟩ (.slice (MZ g) I I))):=by refine⟨?_,S.o.setCell (p:=⟨w.1.size,k,none⟩) lE _⟩;have:=E.o.put (cv:=.slice (MZ g) I I) (f:=f) (by rw[O.o];omega) a7.o (by rw[ac.o];exact F.o);rw[O.o] at this;rw[a6.o];exact this
   clear a8 A c5 c6 D R m E F d t b G r N j o z S;have V:Hid _:=l;clear l;go_wp2_with fail;rw[<-ad.o,V.o];clear y;go_wp2_with fail;exact⟨⟨k+1,by omega,by go_num,T.o.1,T.o.2⟩,by simp[intOf];omega⟩
  have e:k=n:=by omega
  subst e;have HE:=Z (by rw[<-HN.o,L6]:ls.take k=ls);rw[HE.o] at N;obtain⟨Y,W,X⟩:=N.o.done HN.o lE (by omega);have HF:=Z2 W X;have k1:¬((k:Int)<(k:Int)):=by omega
  have ae:=Z o;clear W X o N j M z;go_wp2_with fail;go_ret;exact⟨_,rfl,Y,HF.o.1,HF.o.2,ae.o⟩
def eA(L:Nat)(w:World)(v:Value)(b:ie):Prop:=∀a:World,(∀g,L<=g->g<w.1.size->a.1[g]?=w.1[g]?)->w.1.size<=a.1.size->cD a.1.size a v b
theorem eA.at{L w v ls}(h:eA L w v ls):cD w.1.size w v ls:=h w (λ_ _ _=>rfl) lE
theorem eA.keep{L a:Nat}{w w':World}{v ls}(h:eA L w v ls)(e:a<=L)(f:∀g,L<=g->g<w.1.size->w'.1[g]?=w.1[g]?)(b:w.1.size<=w'.1.size):eA a w' v ls:=
 λi j k=>h i (λg c d=>(j g (Kl e c) (Kd d b)).trans (f g c d)) (Kl b k)
theorem eA.l{L a:Nat}{w w' v ls}(h:eA L w v ls)(c:a<=L)(b:bL w w'):eA a w' v ls:=h.keep c (λg _ d=>b.block g d) b.size
theorem eA.put{L w v ls}{b o:Nat}{u:Value}(h:eA L w v ls)(a:b<L\/w.1.size<=b):eA L (w.setCell ⟨b,o,none⟩ u) v ls:=h.keep lE (λg c d=>Kc _ _ _ _ (by show g≠b;omega)) (by simp)
theorem kL(L w):eA L w nL []:=λa _ _=>kJ _ _
theorem qW{L:Nat}{w:World}{v:Value}{xs:List Value}{c:ie}(h:w.ownsRow L 78 1 v c.length xs)(d:k9 L w xs c):eA L w v c:=by intro n m o;have e:k9 L n xs c:=⟨d.1,λi x f a b=>⟨bT (d.2 i x f a b).1 λg j k l=>m g k (io l),(d.2 i x f a b).2⟩⟩;exact sR (bT h λg j k l=>m g k (io l)) e.at
