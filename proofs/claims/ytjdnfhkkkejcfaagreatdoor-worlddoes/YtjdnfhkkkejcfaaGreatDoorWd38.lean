import Derived.Test.YtjdnfhkkkejcfaaGreatDoorWd35
set_option linter.all false
set_option maxRecDepth 100000
set_option maxHeartbeats 8000000
namespace Go.Proofs.YtjdnfhkkkejcfaaGreatDoor
open Go.RowKit Go.Maps Go.Proofs.Tryz
theorem zG(B a cap ra rl rc l)(ci A:Nat)(j:List aq)(d w)(I:aE B w (.slice a 4 cap) l)(C:aX B w (.agg #[.slice ra rl rc,U d]) (j,d))(q:B<=w.1.size):
  cL 118 #[.slice a 4 cap,.agg #[U 1,U ci,U A,.slice ra rl rc,U d]] w λe D=>∃v,e=.returned (.tuple #[v,U (fS (j,d)).2])/\dx w.1.size D v (fS (j,d)).1/\bL w D:=by
 have⟨E,b⟩:=nM ((w.alloc (.cells #[U 1,U ci,U A,.slice ra rl rc,U d] 70)).alloc (.cells #[.bool false,nL,nL,U 0] 46));have c:=bB b;have k:=sB b;have J:=gB b;have F:=gC b;have r:=Z b;have s:=Z k;have m:=Z c;have h:=Z F;have n:=Z (vz B _ (j,d) E (C.l c q) (c.u q));clear I C b J F c k q;generalize (fS (j,d)).2=K at*;generalize (fS (j,d)).1=p at*;go_enter func118,ntmps118;go_wp2_with fail;rw[<-r.o];go_at_call 144;refine n.o.mono ?_;rintro e S ⟨v,rfl,i,f⟩;clear n;have⟨t,u,x,y,G,M,N⟩:=id i;have o:=Z i;have⟨T,V,W,X,Y,f1,f2,f3⟩:=aL (f.bl h.o);have z:=Z (m.o.th f);have H:=Kd (io h.o) f.size
 rw[G] at o |-
 clear G M N i f h;generalize (p).1=O at*;generalize (p).2.1.length=P at*;generalize (p).2.2.1.length=Q at*;generalize (p).2.2.2=R at*;go_wp2_with fail;refine Ka (v:=.tuple #[.agg #[.bool O,.slice t P u,.slice x Q y,U R],U K]) ?_ rfl ⟨_,rfl,?_,?_⟩
 ·rw[K8 rfl];go_simp
 ·refine dx.keep (L:=E.1.size) ?_ m.o.size (λg _ _=>rfl) lE;repeat(first|refine dx.put ?_ (.inl (by rw[s.o];omega))|exact o.o)
 repeat(first|refine Ky ?_ (by show w.1.size<=w.1.size+1;omega) _|exact z.o)
theorem zU(B a cap ra rl rc l)(ci j:Nat)(rs:List aq)(d w)(N:aE B w (.slice a 4 cap) l)(i:l.length=4)(C:B<=w.1.size)(fo:Bool)(D:ie)(k:List aq)(r:Int)(m:l[j]?=some (fo,D,k,r)):
  cL 118 #[.slice a 4 cap,.agg #[U 3,U ci,U j,.slice ra rl rc,U d]] w λe O=>∃v,e=.returned (.tuple #[v,U (fS (k,r)).2])/\dx w.1.size O v (fS (k,r)).1/\bL w O:=by
 have⟨P,c⟩:=nM ((w.alloc (.cells #[U 3,U ci,U j,.slice ra rl rc,U d] 70)).alloc (.cells #[.bool false,nL,nL,U 0] 46));have f:=bB c;have s:=sB c;have g0:=gB c;have Q:=gC c;have E:=Z c;have F:=Z s;have t:=Z f;have n:=Z Q;have a2:j<4:=by have:=(K9.1 m).1;omega
 have R:(j:Int)<4:=by omega
 have S:(0:Int)<=(j:Int):=by omega
 obtain⟨_,_,T,G,-,u⟩:=id N;obtain⟨b,o,e,a3,x⟩:=u j _ m;simp at T;obtain⟨rfl,-,rfl⟩:=T;subst e;obtain⟨la,lc,pa,pc,c0,c1,V,W,-,p⟩:=x.vals;rw[i] at G;simp only at V W p;have a6:b<w.1.size:=by omega
 have y:=Z (vz B _ (k,r) P (p.l f C) (f.u C));clear N p x u c g0 Q f s C m i c0 c1;generalize k.length=fn at*;generalize (fS (k,r)).2=ee at*;generalize (fS (k,r)).1=A at*;go_enter func118,ntmps118;go_wp2_with fail;rw[<-E.o];go_at_call 144;refine y.o.mono ?_;rintro e w3 ⟨v,rfl,q,h⟩;clear y V W;have⟨H,I,J,K,X,h1,h2⟩:=id q;have z:=Z q;have⟨z0,z1,z2,z3,f0,f1,f2,f3⟩:=aL (h.bl n.o);have M:=Z (t.o.th h);have Y:=Kd (io n.o) h.size
 rw[X] at z |-
 clear X h1 h2 q h n;generalize (A).1=b5 at*;generalize (A).2.1.length=n5 at*;generalize (A).2.2.1.length=m5 at*;generalize (A).2.2.2=d5 at*;go_wp2_with fail;refine Ka (v:=.tuple #[.agg #[.bool b5,.slice H n5 I,.slice J m5 K,U d5],U ee]) ?_ rfl ⟨_,rfl,?_,?_⟩
 ·rw[K8 rfl];go_simp
 ·refine dx.keep (L:=P.1.size) ?_ t.o.size (λg _ _=>rfl) lE;repeat(first|refine dx.put ?_ (.inl (by rw[F.o];omega))|exact z.o)
 repeat(first|refine Ky ?_ (by show w.1.size<=w.1.size+1;omega) _|exact M.o)
theorem Au(B a cap ra rl rc l)(ci b:Nat)(h:List aq)(d w)(f:aE B w (.slice a 4 cap) l):
  cL 118 #[.slice a 4 cap,.agg #[U 4,U ci,U b,.slice ra rl rc,U d]] w λe c=>∃v,e=.returned (.tuple #[v,U 0])/\dx w.1.size c v bn/\bL w c:=by
 have g:Hid (bL w ((w.alloc (.cells #[U 4,U ci,U b,.slice ra rl rc,U d] 70)).alloc (.cells #[.bool false,nL,nL,U 0] 46))):=(bR.alloc lE _).alloc (by simp) _;clear f;go_enter func118,ntmps118;go_wp2_with fail;refine Ka (v:=.tuple #[.agg #[.bool false,nL,nL,U 0],U 0]) ?_ rfl ⟨_,rfl,nZ _ _,?_⟩
 ·rw[K8 rfl];go_simp
 repeat(first|exact g.o|refine Ky ?_ (by show w.1.size<=w.1.size+1;omega) _|exact Kf _ _|refine Lc ?_ (by simp) _)
def JM(a:Nat)(W:World)(E:Int)(C:aG)(c:Nat->Value->Prop)(w:World):Prop:=
 ((∀u,¬c 10 u)/\bL W w/\∀v,c 7 v->∃u,v=.tuple #[u,U E]/\dx W.1.size w u C)\/
 ((∃u,c 10 u)/\(∃u,c 7 u)/\∃e b f n g h m i d,w=(((e.setCell (pA a 0) (.bool b)).setCell (pA a 1) (.slice f n g)).setCell (pA a 2) (.slice h m i)).setCell (pA a 3) (U d)/\bL W e/\dx W.1.size e (.agg #[.bool b,.slice f n g,.slice h m i,U d]) C)
theorem JM.box{bo W w E C}{f:Nat->Value->Prop}(h:JM bo W E C f w){b:Nat}{o:Obj}(c:W.1[b]?=some o)(a:b≠bo):w.1[b]?=some o:=by
 have e:=(KK.1 c).1
 rcases h with ⟨_,d,_⟩|⟨_,_,g,_,_,_,_,_,_,_,_,rfl,d,_⟩
 ·exact(d.block b e).trans c
 exact((((Kc _ _ _ _ a).trans (Kc _ _ _ _ a)).trans (Kc _ _ _ _ a)).trans (Kc _ _ _ _ a)).trans ((d.block b e).trans c)
def JZ(E:Int)(k:Nat)(v:Value):Prop:=k=7->∃b a n c e m f d,v=.tuple #[.agg #[.bool b,.slice a n c,.slice e m f,U d],U E]
theorem Gs(E k):∃v,JZ E k v:=⟨.tuple #[.agg #[.bool true,nL,nL,U 0],U E],λ_=>⟨_,_,_,_,_,_,_,_,rfl⟩⟩
def Ic(r b o:Nat)(u1 u3 a c d e f:Value):Type:={ w':World // (w'.cell? (pA r 1)=some u1/\w'.cell? (pA r 3)=some u3/\w'.cell? (pA r 4)=some a)/\w'.cell? ⟨b,o,none⟩=some c/\w'.cell? ⟨b,o+1,none⟩=some d/\w'.cell? ⟨b,o+2,none⟩=some e/\w'.cell? ⟨b,o+3,none⟩=some f }
theorem xL(B a cap ra rl rc l)(ci fi:Nat)(A:List aq)(d w)(hl:aE B w (.slice a 4 cap) l)(hp:aX B w (.agg #[.slice ra rl rc,U d]) (A,d))(I:l.length=4)(hB:B<=w.1.size)(a0:aj (A,d)=0)(c:aG)(K:l[ci]?=some c):
  cL 118 #[.slice a 4 cap,.agg #[U 2,U ci,U fi,.slice ra rl rc,U d]] w λe f=>∃v,e=.returned (.tuple #[v,U (dm c.2.1 c.2.2 (A,d))])/\dx w.1.size f v (if dm c.2.1 c.2.2 (A,d)=0 then (true,dt c.2.1 c.2.2 (A,d),A,d) else bn)/\bL w f:=by
 have⟨W2,j⟩:=nM ((w.alloc (.cells #[U 2,U ci,U fi,.slice ra rl rc,U d] 70)).alloc (.cells #[.bool false,nL,nL,U 0] 46));have M:=bB j;have a2:=sB j;have g0:=gB j;have g1:=gC j;have ak:=Z j;have al:=Z a2;have N:=Z M;have d2:ci<4:=by have:=(K9.1 K).1;omega
 have bx:(ci:Int)<4:=by omega
 have bz:(0:Int)<=(ci:Int):=by omega
 obtain⟨_,_,e1,ao,-,a3⟩:=id hl;obtain⟨b,o,e,d3,a4⟩:=a3 ci _ K;simp at e1;obtain⟨rfl,-,rfl⟩:=e1;subst e;obtain⟨m,n,p,r,c0,c1,c2,c3,a5⟩:=a4.val;rw[I] at ao;have a6:b<w.1.size:=by omega
 have a7:=Z λf (h:bL w f)=>zH B _ _ c (A,d) f (a5.l h hB) (hp.l h hB) (h.u hB) a0
 clear hl hp a4 a3 hB I a5 K a0;generalize (if dm c.2.1 c.2.2 (A,d)=0 then (true,dt c.2.1 c.2.2 (A,d),A,d) else bn)=C5 at*;generalize dm c.2.1 c.2.2 (A,d)=ee at*;generalize c.2.1.length=s at*;generalize c.2.2.1.length=t at*;generalize c.2.2.2=x at*;generalize c.1=y at*;have a9:b≠w.1.size+1:=by omega
 have HD:Hid (∀f:World,(∀k o,W2.1[k]?=some o->k≠w.1.size+1->f.1[k]?=some o)->∃z:Ic w.1.size b (o+ci*4) (U ci) (.slice ra rl rc) (U d) (.bool y) (.slice m s n) (.slice p t r) (U x),f=z.1):=λf h=>by
  have r0:=h _ _ g0 (by omega);have cc:∀q u,w.cell? ⟨b,q,none⟩=some u->f.cell? ⟨b,q,none⟩=some u:=λq u F=>by have b2:=M.block b a6;obtain⟨ob,aa⟩:∃ob,w.1[b]?=some ob:=⟨w.1[b]'a6,by simp⟩;have b4:=h b ob (b2.trans aa) a9;rw[<-F];simp only[World.cell?,b4,aa]
  exact⟨⟨f,⟨J1 r0,J3 r0,J4 r0⟩,cc _ _ c0,cc _ _ c1,cc _ _ c2,cc _ _ c3⟩,rfl⟩
 have G:Hid (∀fs f,JM (w.1.size+1) W2 ee C5 fs f->∃z:Ic w.1.size b (o+ci*4) (U ci) (.slice ra rl rc) (U d) (.bool y) (.slice m s n) (.slice p t r) (U x),f=z.1):=λfs f h=>HD.o f λk o hk H=>h.box hk H
 obtain⟨z0,-⟩:=HD.o W2 λk o h _=>h
 have H:Nonempty (Ic w.1.size b (o+ci*4) (U ci) (.slice ra rl rc) (U d) (.bool y) (.slice m s n) (.slice p t r) (U x)):=⟨z0⟩;have q1:∀z:Ic w.1.size b (o+ci*4) (U ci) (.slice ra rl rc) (U d) (.bool y) (.slice m s n) (.slice p t r) (U x),z.1.cell? (pW w 1)=some (U ci):=λz=>z.2.1.1
 have q2:∀z:Ic w.1.size b (o+ci*4) (U ci) (.slice ra rl rc) (U d) (.bool y) (.slice m s n) (.slice p t r) (U x),z.1.cell? (pW w 3)=some (.slice ra rl rc):=λz=>z.2.1.2.1
 have q3:∀z:Ic w.1.size b (o+ci*4) (U ci) (.slice ra rl rc) (U d) (.bool y) (.slice m s n) (.slice p t r) (U x),z.1.cell? (pW w 4)=some (U d):=λz=>z.2.1.2.2
 have q4:∀z:Ic w.1.size b (o+ci*4) (U ci) (.slice ra rl rc) (U d) (.bool y) (.slice m s n) (.slice p t r) (U x),z.1.cell? ⟨b,o+ci*4,none⟩=some (.bool y):=λz=>z.2.2.1
 have q5:∀z:Ic w.1.size b (o+ci*4) (U ci) (.slice ra rl rc) (U d) (.bool y) (.slice m s n) (.slice p t r) (U x),z.1.cell? ⟨b,o+ci*4+1,none⟩=some (.slice m s n):=λz=>z.2.2.2.1
 have q6:∀z:Ic w.1.size b (o+ci*4) (U ci) (.slice ra rl rc) (U d) (.bool y) (.slice m s n) (.slice p t r) (U x),z.1.cell? ⟨b,o+ci*4+2,none⟩=some (.slice p t r):=λz=>z.2.2.2.2.1
 have q7:∀z:Ic w.1.size b (o+ci*4) (U ci) (.slice ra rl rc) (U d) (.bool y) (.slice m s n) (.slice p t r) (U x),z.1.cell? ⟨b,o+ci*4+3,none⟩=some (U x):=λz=>z.2.2.2.2.2
 have O:=Z g1;clear j g0 g1 M a2 c0 c1 c2 c3 a9 HD z0;go_enter func118,ntmps118;go_wp2_with fail;rw[<-ak.o];refine bJ [_,_,_,_,_,_,_,_,_,_,_] _ rfl (λk=>k==7||k==10) (JM (w.1.size+1) W2 ee C5) (JZ ee) (Gs ee) (by kernel_rfl) (by kernel_rfl) (.inl ⟨λ_ h=>h,bR.drew,λ_ h=>h.elim⟩) ?_;iterate 7(refine aP G.o rfl rfl ?_;go_big_quiet_step (fail);refine Km ?_)
 refine bw 145 #[.agg #[.bool y,.slice m s n,.slice p t r,U x],.agg #[.slice ra rl rc,U d]] rfl rfl (λf=>by kernel_rfl) (λgs f hJ C D=>?_) (λv7 b7=>?_)
 ·rcases hJ with ⟨j1,E,j3⟩|⟨_,⟨u,F⟩,_⟩
  ·refine(a7.o f (N.o.th E)).mono ?_;rintro e w4 ⟨v,rfl,i,hb⟩;obtain⟨P,Q,R,S,ev,-,-⟩:=id i;refine⟨_,rfl,λ_=>⟨_,_,_,_,_,_,_,_,by rw[ev]⟩,.inl ⟨λu F=>?_,E.th hb,λv' T=>?_⟩⟩
   ·rcases F with F|⟨e,_⟩
    ·exact j1 u F
    cases e
   rcases T with T|⟨_,rfl⟩
   ·exact absurd T (D _)
   exact⟨v,rfl,i.keep E.size (λ_ _ _=>rfl) lE⟩
  exact absurd F (D _)
 go_frame;obtain⟨b5,P,n5,Q,R,m5,S,d5,rfl⟩:=b7 rfl;iterate 2(refine aP G.o rfl rfl ?_;go_big_quiet_step (fail);refine Km ?_)
 refine fL rfl rfl (λgs f hJ C D=>?_) (λba cT=>?_)
 ·have h7:=C 7 _ (.inr ⟨rfl,rfl⟩) (au (by kernel_rfl))
  rcases hJ with ⟨j1,E,j3⟩|⟨⟨u,F⟩,_⟩
  ·obtain⟨u,eu,i⟩:=j3 _ h7;simp at eu;subst eu;have⟨y0,y1,y2,y3,f0,f1,f2,f3⟩:=aL (E.bl O.o);refine⟨(((f.setCell (pA (w.1.size+1) 0) (.bool b5)).setCell (pA (w.1.size+1) 1) (.slice P n5 Q)).setCell (pA (w.1.size+1) 2) (.slice R m5 S)).setCell (pA (w.1.size+1) 3) (U d5),?_,λe=>absurd e (by decide),.inr ⟨⟨_,.inr ⟨rfl,rfl⟩⟩,⟨_,.inl h7⟩,f,b5,P,n5,Q,R,m5,S,d5,rfl,E,i⟩⟩;clear C D G H h7 i j1 E j3 q1 q2 q3 q4 q5 q6 q7;go_simp
  exact absurd F (D _)
 go_frame;refine ei ?_;intro w4 hJ
 rcases hJ with ⟨j1,_⟩|⟨_,_,w0,b6,V,n6,W,X,m6,Y,d6,e4,E,i⟩
 ·exact absurd (.inr ⟨rfl,rfl⟩) (j1 ba)
 obtain⟨k0,-,k2,k3⟩:=eK (u0:=.bool b6) (u1:=.slice V n6 W) (u2:=.slice X m6 Y) (u3:=U d6) (E.bl O.o);rw[<-e4] at k0 k2 k3;obtain⟨y0,y1,y2,y3,-⟩:=aL k0;have J:Hid (dx w.1.size w4 (.agg #[.bool b6,.slice V n6 W,.slice X m6 Y,U d6]) C5/\bL w w4):=by refine⟨?_,(N.o.th E).trans (k3 _ (by omega))⟩;refine dx.keep (L:=W2.1.size) ?_ N.o.size (λg _ _=>rfl) lE;rw[e4];repeat(first|refine dx.put ?_ (.inl (by rw[al.o];omega))|exact i)
 clear e4 E i k0 k2 k3 q1 q2 q3 q4 q5 q6 q7 G H a7 O;go_wp2_with fail;refine Ka (v:=.tuple #[.agg #[.bool b6,.slice V n6 W,.slice X m6 Y,U d6],U ee]) ?_ rfl ⟨_,rfl,J.o.1,J.o.2⟩;rw[K8 rfl];go_simp
theorem rj{k:Int}(a:k=1\/k=2\/k=3\/k=4)(w):cL 117 #[U k] w λe b=>e=.returned (.bool (decide (k=1\/k=3)))/\b=w:=by
 rcases a with rfl|rfl|rfl|rfl
 all_goals
  go_enter func117,ntmps117;go_wp2;go_ret;exact⟨by simp,rfl⟩
theorem jT(B j:Nat)(a cap l)(ci:Nat)(c:aG)(w)(p:aE B w (.slice a 4 cap) l)(d:l.length=4)(h:l[ci]?=some c)(t:w.cell? (pA j 0)=some (.slice a 4 cap)):
  cL 116 #[U ci,.pointer (sO j)] w λe q=>e=.returned (.bool c.1)/\q=w:=by
 have r:ci<4:=by have:=(K9.1 h).1;omega
 have k:(ci:Int)<4:=by omega
 have m:(0:Int)<=(ci:Int):=by omega
 obtain⟨_,_,n,i,-,f⟩:=p;obtain⟨b,o,e,s,g⟩:=f ci _ h;simp at n;obtain⟨rfl,-,rfl⟩:=n;subst e;obtain⟨u,v,x,y,z,-⟩:=g.vals;rw[d] at i;clear f g h d;generalize c.1=A at*;go_enter func116,ntmps116;go_wp2_with fail;go_ret;exact⟨rfl,rfl⟩
theorem EK(B lv rv l r w)(q:aE B w lv l)(s:cI B w rv r)(j:B<=w.1.size)(b:bC l≠0\/aZ r≠0):
  cL 92 #[lv,rv] w λe g=>∃v,e=.returned (.tuple #[v,U (if bC l=0 then aZ r else bC l)])/\wG w.1.size g v []/\bL w g:=by
 have t:=Z λg (h:bL w g)=>lQ B _ l g (q.l h j) (h.u j)
 have C:=Z λg (h:bL w g)=>jy B _ r g (s.l h j) (h.u j)
 obtain⟨a,u,rfl,-,-⟩:=q.shape;obtain⟨G,H,rfl,-⟩:=s.shape;clear q s;generalize bC l=D at*;generalize aZ r=E at*;generalize l.length=I at*;generalize r.2.2.2.1.length=J at*;generalize r.2.2.2.2=d at*;generalize r.2.2.1=K at*;generalize r.2.1=L at*;generalize r.1=k at*;have⟨S,c⟩:=nM ((w.alloc (.cells #[.slice a I u] 22)).alloc (.cells #[U k,U L,U K,.slice G J H,U d] 70));have m:=bB c;have F:=gC c;have x:=Z c;have n:=Z m;have y:=Z F;clear c m F j;go_enter func92,ntmps92;go_wp2_with fail;rw[<-x.o];go_at_call 114;refine(t.o _ n.o).mono ?_;rintro e T ⟨rfl,f⟩;have i:=Z (n.o.th f)
 by_cases h:D=0
 ·subst h;have o:E≠0:=by simpa using b
  have M:(E != 0)=true:=by simpa using o
  have⟨N,O,P,Q,R⟩:=aF (f.bl y.o);clear f t b o;go_wp2_with fail;go_at_call 115;refine(C.o _ i.o).mono ?_;rintro e V ⟨rfl,p⟩;have z:=Z (i.o.th p);clear p N O P Q R;go_wp2_with fail;go_ret2;exact⟨_,rfl,ib _ _,z.o⟩
 have M:(D != 0)=true:=by simpa using h
 have A:=Z h;clear b h f C t;go_wp2_with fail;go_ret2;exact⟨_,by simp[A.o],ib _ _,i.o⟩
theorem CC(B a cap ra rl rc l k)(ci s:Nat)(Y:List aq)(d w)(O:aE B w (.slice a 4 cap) l)(hr:cI B w (.agg #[U k,U ci,U s,.slice ra rl rc,U d]) (k,(ci:Int),(s:Int),Y,d))(m:B<=w.1.size)(t:bC l=0)(E:aZ (k,(ci:Int),(s:Int),Y,d)=0)(F:k=1\/k=2\/k=3\/k=4)(c:aG)(u:l[ci]?=some c)(cf:aG)(G:l[s]?=some cf)(i:decide (k=1\/k=3)=c.1):
  cL 92 #[.slice a 4 cap,.agg #[U k,U ci,U s,.slice ra rl rc,U d]] w λe b=>∃v,e=.returned (.tuple #[v,U 6])/\wG w.1.size b v []/\bL w b:=by
 have n:=Z ((f7.1 t).1);have HC:=Z λb (h:bL w b)=>t▸lQ B _ l b (O.l h m) (h.u m)
 have HR:=Z λb (h:bL w b)=>E▸jy B _ _ b (hr.l h m) (h.u m)
 have H:=Z λb I (h:bL w b) (P:b.cell? (pA I 0)=some (.slice a 4 cap))=>jT B I a cap l ci c b (O.l h m) n.o u P
 have Q:=Z λb I (h:bL w b) (P:b.cell? (pA I 0)=some (.slice a 4 cap))=>jT B I a cap l s cf b (O.l h m) n.o G P
 have x:=Z λb=>rj F b
 have⟨W2,f⟩:=nM ((w.alloc (.cells #[.slice a 4 cap] 22)).alloc (.cells #[U k,U ci,U s,.slice ra rl rc,U d] 70));have y:=bB f;have J:=sB f;have g0:=gB f;have g1:=gC f;have D:=Z λb (h:bL W2 b)=>Q3 (J0 (h.bk g0)) (h.bk g1) (y.th h)
 have R:=Z f;have ad:=Z J;have S:=Z y;have ae:=Z m;have T:=Z u;rw[i] at x;clear O hr t E u G f y J g0 g1 m;clear i F Q T;generalize c.1=cb at*;go_enter func92,ntmps92;go_wp2_with fail;rw[<-R.o];go_at_call 114;refine(HC.o _ S.o).mono ?_;rintro e w3 ⟨rfl,z⟩;obtain⟨-,K,o⟩:=D.o w3 z;have⟨y0,y1,y2,y3,y4⟩:=aF K;have A:=Z2 z o;clear HC z o K;go_wp2_with fail;go_at_call 115;refine(HR.o _ A.o.2).mono ?_;rintro e L ⟨rfl,C⟩;have g:=Z λ(q:ax L)=>A.o.1.th (Below.tO C q.2 C.size)
 clear y0 y1 y2 y3 y4 HR A C;have V:=ax.ne L;have q1:∀q:ax L,q.1.cell? (pA (w.1.size+1) 1)=some (U ci):=λq=>ab (D.o q.1 (g.o q)).2.1 1 rfl
 have q0:∀q:ax L,q.1.cell? (pA (w.1.size+1) 0)=some (U k):=λq=>ab (D.o q.1 (g.o q)).2.1 0 rfl
 have p:=Z λ(q:ax L)=>H.o q.1 _ (D.o q.1 (g.o q)).2.2 (D.o q.1 (g.o q)).1
 go_wp2_with fail;refine aW (by kernel_rfl) (by kernel_rfl) ?_
 repeat(go_big_quiet_step (first
  |(go_at_call 116;exact Calls.later_same (p.o _))
  |(go_at_call 117;exact Calls.later_same (x.o _))))
 refine Km ?_;rintro W ⟨⟨_,M⟩,rfl⟩;have j:bL W2 W:=g.o ⟨W,M⟩;have⟨x0,N,r⟩:=D.o W j;have⟨y0,y1,y2,y3,y4⟩:=aF N;have X:=Z2 j r;clear q0 q1 V p H x g M j r N;go_wp2_with fail;go_ret2;exact⟨_,rfl,ib _ _,X.o.2⟩
theorem Er(B a cap ra rl rc l)(ci s:Nat)(rs:List aq)(d w)(P:aE B w (.slice a 4 cap) l)(hr:cI B w (.agg #[U 3,U ci,U s,.slice ra rl rc,U d]) (3,(ci:Int),(s:Int),rs,d))(j:B<=w.1.size)(t:bC l=0)(F:aZ (3,(ci:Int),(s:Int),rs,d)=0)(c:aG)(u:l[ci]?=some c)(R:aG)(G:l[s]?=some R)(S:c.1=false)(T:R.1=false):
  cL 92 #[.slice a 4 cap,.agg #[U 3,U ci,U s,.slice ra rl rc,U d]] w λe b=>∃v,e=.returned (.tuple #[v,U 5])/\wG w.1.size b v []/\bL w b:=by
 have m:=Z ((f7.1 t).1);have HC:=Z λb (h:bL w b)=>t▸lQ B _ l b (P.l h j) (h.u j)
 have HR:=Z λb (h:bL w b)=>F▸jy B _ _ b (hr.l h j) (h.u j)
 have x:=Z λb H (h:bL w b) (V:b.cell? (pA H 0)=some (.slice a 4 cap))=>jT B H a cap l ci c b (P.l h j) m.o u V
 have y:=Z λb H (h:bL w b) (V:b.cell? (pA H 0)=some (.slice a 4 cap))=>jT B H a cap l s R b (P.l h j) m.o G V
 have I:Hid (∀b,cL 117 #[U 3] b λe W=>e=.returned (.bool (true))/\W=b):=λb=>rj (k:=3) (by simp) b
 have⟨W2,f⟩:=nM ((w.alloc (.cells #[.slice a 4 cap] 22)).alloc (.cells #[U 3,U ci,U s,.slice ra rl rc,U d] 70));have z:=bB f;have J:=sB f;have g0:=gB f;have g1:=gC f;have E:=Z λb (h:bL W2 b)=>Q3 (J0 (h.bk g0)) (h.bk g1) (z.th h)
 have X:=Z f;have af:=Z J;have Y:=Z z;have ak:=Z j;have a0:=Z u;rw[S] at x;rw[T] at y;clear P hr t F u G f z J g0 g1 j;clear a0;go_enter func92,ntmps92;go_wp2_with fail;rw[<-X.o];go_at_call 114;refine(HC.o _ Y.o).mono ?_;rintro e w3 ⟨rfl,A⟩;obtain⟨-,K,n⟩:=E.o w3 A;have⟨y0,y1,y2,y3,y4⟩:=aF K;have C:=Z2 A n;clear HC A n K;go_wp2_with fail;go_at_call 115;refine(HR.o _ C.o.2).mono ?_;rintro e L ⟨rfl,D⟩;have g:=Z λ(q:ax L)=>C.o.1.th (Below.tO D q.2 D.size)
 clear y0 y1 y2 y3 y4 HR C D;have a1:=ax.ne L;have q1:∀q:ax L,q.1.cell? (pA (w.1.size+1) 1)=some (U ci):=λq=>ab (E.o q.1 (g.o q)).2.1 1 rfl
 have q0:∀q:ax L,q.1.cell? (pA (w.1.size+1) 0)=some (U 3):=λq=>ab (E.o q.1 (g.o q)).2.1 0 rfl
 have o:=Z λ(q:ax L)=>x.o q.1 _ (E.o q.1 (g.o q)).2.2 (E.o q.1 (g.o q)).1
 go_wp2_with fail;refine aW (by kernel_rfl) (by kernel_rfl) ?_
 repeat(go_big_quiet_step (first
  |(go_at_call 116;exact Calls.later_same (o.o _))
  |(go_at_call 117;exact Calls.later_same (I.o _))))
 refine Km ?_;rintro Q ⟨⟨_,M⟩,rfl⟩;have i:bL W2 Q:=g.o ⟨Q,M⟩;have⟨x0,N,p⟩:=E.o Q i;have⟨y0,y1,y2,y3,y4⟩:=aF N;have O:=Z2 i p;clear q0 q1 a1 o x I g M i p N;have r:=Z (y.o Q _ O.o.2 x0);clear y;go_wp2_with fail;go_at_call 116;refine r.o.mono ?_;rintro e b1 ⟨rfl,e5⟩;obtain rfl:=e5.symm;clear r;go_wp2_with fail;go_ret2;exact⟨_,rfl,ib _ _,O.o.2⟩
theorem nG(B a cap ra rl rc l k)(ci J:Nat)(rs:List aq)(d w)(hl:aE B w (.slice a 4 cap) l)(hr:cI B w (.agg #[U k,U ci,U J,.slice ra rl rc,U d]) (k,(ci:Int),(J:Int),rs,d))(K:B<=w.1.size)(L:bC l=0)(af:aZ (k,(ci:Int),(J:Int),rs,d)=0)(ak:k=1\/k=2\/k=3\/k=4)(c:aG)(m:l[ci]?=some c)(cf:aG)(al:l[J]?=some cf)(ao:decide (k=1\/k=3)≠c.1)(E C)(av:Hid (∀b,bL w b->cL 118 #[.slice a 4 cap,.agg #[U k,U ci,U J,.slice ra rl rc,U d]] b λe o=>∃v,e=.returned (.tuple #[v,U E])/\dx b.1.size o v C/\bL b o))(b0:k=3->cf.1=true):
  cL 92 #[.slice a 4 cap,.agg #[U k,U ci,U J,.slice ra rl rc,U d]] w λe b=>∃v,e=.returned (.tuple #[v,U E])/\wG w.1.size b v (if E=0 then l.set ci C else [])/\bL w b:=by
 have f:=Z ((f7.1 L).1);have HC:Hid (∀b,bL w b->cL 114 #[.slice a 4 cap] b (rT b (U 0))):=λb h=>by have:=lQ B _ l b (hl.l h K) (h.u K);rw[L] at this;exact this
 have HR:Hid (∀b,bL w b->cL 115 #[.agg #[U k,U ci,U J,.slice ra rl rc,U d]] b (rT b (U 0))):=λb h=>by have:=jy B _ _ b (hr.l h K) (h.u K);rw[af] at this;exact this
 have b1:=Z λb bx (h:bL w b) (hx:b.cell? (pA bx 0)=some (.slice a 4 cap))=>jT B bx a cap l ci c b (hl.l h K) f.o m hx
 have M:=Z λb bx (h:bL w b) (hx:b.cell? (pA bx 0)=some (.slice a 4 cap))=>jT B bx a cap l J cf b (hl.l h K) f.o al hx
 have a2:=Z λb=>rj ak b
 have⟨W2,s⟩:=nM ((w.alloc (.cells #[.slice a 4 cap] 22)).alloc (.cells #[U k,U ci,U J,.slice ra rl rc,U d] 70));have a3:=bB s;have b3:=sB s;have g0:=gB s;have g1:=gC s;have N:=Z λb (h:bL W2 b)=>Q3 (J0 (h.bk g0)) (h.bk g1) (a3.th h)
 have c7:=Z s;have b4:=Z b3;have c8:=Z a3;have dp:=Z K;have c9:=Z m;have a4:Hid (∀b,bL w b->cL 84 #[.slice a 4 cap] b λe o=>e=.returned (.slice (MZ b) 4 4)/\oD B b.1.size 4 l o/\bL b o):=λb h=>by have:=ww B _ l b (hl.l h K) (h.u K) (by rw[f.o];decide) (λc hc=>yL ((f7.1 L).2 c hc));rw[f.o] at this;exact this
 have ca:ci<4:=by have:=(K9.1 m).1;rw[f.o] at this;exact this
 have dc:(ci:Int)<4:=by omega
 have de:(0:Int)<=(ci:Int):=by omega
 have cc:(c.1==decide (k=1\/k=3))=false:=by simp;exact λe=>ao (by rw[e];simp)
 have a5:=Z b0;clear hl hr L af m al s a3 b3 g0 g1 K;clear ao ak c9 b0;have⟨bg,b5⟩:=nM (decide (k=1\/k=3));rw[<-b5] at a2 cc;clear b5;generalize c.1=cb at*;go_enter func92,ntmps92;go_wp2_with fail;rw[<-c7.o];go_at_call 114;refine(HC.o _ c8.o).mono ?_;rintro e w3 ⟨rfl,a6⟩;obtain⟨-,b6,R⟩:=N.o w3 a6;have⟨y0,y1,y2,y3,y4⟩:=aF b6;have a7:=Z2 a6 R;clear HC a6 R b6;go_wp2_with fail;go_at_call 115;refine(HR.o _ a7.o.2).mono ?_;rintro e w4 ⟨rfl,a8⟩;have t:=Z λ(q:ax w4)=>a7.o.1.th (Below.tO a8 q.2 a8.size)
 clear y0 y1 y2 y3 y4 HR a7 a8;have cd:=ax.ne w4;have q1:∀q:ax w4,q.1.cell? (pA (w.1.size+1) 1)=some (U ci):=λq=>ab (N.o q.1 (t.o q)).2.1 1 rfl
 have q0:∀q:ax w4,q.1.cell? (pA (w.1.size+1) 0)=some (U k):=λq=>ab (N.o q.1 (t.o q)).2.1 0 rfl
 have S:=Z λ(q:ax w4)=>b1.o q.1 _ (N.o q.1 (t.o q)).2.2 (N.o q.1 (t.o q)).1
 go_wp2_with fail;refine aW (by kernel_rfl) (by kernel_rfl) ?_
 repeat(go_big_quiet_step (first
  |(go_at_call 116;exact Calls.later_same (S.o _))
  |(go_at_call 117;exact Calls.later_same (a2.o _))))
 refine Km ?_;rintro w5 ⟨⟨_,b8⟩,rfl⟩;have x:bL W2 w5:=t.o ⟨w5,b8⟩;have⟨x0,b9,T⟩:=N.o w5 x;have⟨y0,y1,y2,y3,y4⟩:=aF b9;have y:=Z2 x T;clear q0 q1 cd S b1 a2 t b8 x T b9
 by_cases O:k=3
 all_goals
  first
   |(have ba:=a5.o O;rw[ba] at M;have V:Hid (cL 116 #[U J,.pointer (MZ w)] w5 λe o=>e=.returned (.bool true)/\o=w5):=M.o w5 _ y.o.2 x0;clear M a5 ba;subst O;go_wp2_with fail;go_at_call 116;refine V.o.mono ?_;rintro e e4 ⟨rfl,e5⟩;obtain rfl:=e5.symm;clear V;go_wp2_with fail)
   |(have e7:(k==3)=false:=(by simpa using O);clear M a5 O;go_wp2_with fail)
  go_at_call 118;refine(av.o _ y.o.2).mono ?_;rintro e w6 ⟨v,rfl,aa,bb⟩;obtain⟨la,lc,pa,pc,ev,-,-⟩:=id aa;have z:=Z aa
  rw[ev] at z |-
  have A:=y.o.1.th bb;have⟨x6,bc,W⟩:=N.o w6 A;have P:=Z2 A W;have bd:=io bc;have bf:=Z y.o.1.size;clear ev aa bb A W x0 y0 y1 y2 y3 y4 av y;have⟨n1,bk⟩:=nM (C.2.1.length);have⟨n2,bm⟩:=nM (C.2.2.1.length);have⟨dd,ac⟩:=nM (C.2.2.2);have⟨ob,ad⟩:=nM (C.1);have bo:=Z2 ad.symm ac.symm
  rw[<-bk,<-bm,<-ac,<-ad] at z |-
  clear bk bm ac ad
  by_cases hE:E=0
  ·subst hE;have⟨i,Q⟩:=nM (w6.alloc (.cells #[.bool ob,.slice la n1 lc,.slice pa n2 pc,U dd] 46));have D:=bA Q;have g7:=hA Q;have F:=P.o.1.th D;have G:=Z2 F ((N.o i F).2.2);have H:=Z (z.o.l lE D);have cx:=Z Q;have ae:=Z g7;have cT:w.1.size<w6.1.size:=by omega
   clear Q D g7 F z bc P;go_wp2_with fail;rw[<-cx.o];go_at_call 84;refine(a4.o _ G.o.2).mono ?_;rintro e w8 ⟨rfl,m,r⟩;have X:=G.o.1.th r;obtain⟨-,bq,Y⟩:=N.o w8 X;have⟨y0,y1,y2,y3,y4⟩:=aF bq;obtain⟨z0,z1,z2,z3,-⟩:=aL (r.bl ae.o);have br:=H.o.l lE r;have n:∀j,j<16->∃u,w8.cell? ⟨i.1.size,j,none⟩=some u/\w8.frozen? ⟨i.1.size,j,none⟩=false:=λj hj=>by obtain⟨xs,r1,r2,-⟩:=m;exact⟨xs[j]'(by rw[r2,f.o];omega),ab r1 j (by simp),fZ r1 _⟩
   obtain⟨u0,p0,f0⟩:=n (ci*4) (by omega);obtain⟨u1,p1,f1⟩:=n (ci*4+1) (by omega);obtain⟨u2,p2,f2⟩:=n (ci*4+2) (by omega);obtain⟨u3,p3,f3⟩:=n (ci*4+3) (by omega)
   have a0:Hid (wG w.1.size ((((w8.setCell ⟨i.1.size,ci*4,none⟩ (.bool ob)).setCell ⟨i.1.size,ci*4+1,none⟩ (.slice la n1 lc)).setCell ⟨i.1.size,ci*4+2,none⟩ (.slice pa n2 pc)).setCell ⟨i.1.size,ci*4+3,none⟩ (U dd)) (.slice (MZ i) 4 4) (l.set ci C)/\bL w ((((w8.setCell ⟨i.1.size,ci*4,none⟩ (.bool ob)).setCell ⟨i.1.size,ci*4+1,none⟩ (.slice la n1 lc)).setCell ⟨i.1.size,ci*4+2,none⟩ (.slice pa n2 pc)).setCell ⟨i.1.size,ci*4+3,none⟩ (U dd))):=by
    have I:=G.o.2.size;refine⟨oD.set (c:=C) m I f.o (by decide) ca (by rw[bo.o.1,bo.o.2]) (λwX h1 h2=>?_),(((Y.setCell (p:=⟨i.1.size,ci*4,none⟩) I _).setCell (p:=⟨i.1.size,ci*4+1,none⟩) I _).setCell (p:=⟨i.1.size,ci*4+2,none⟩) I _).setCell (p:=⟨i.1.size,ci*4+3,none⟩) I _⟩;obtain⟨ed,ee,ef,eg,bs,k1,k2⟩:=H.o;simp at bs;obtain⟨e0,⟨rfl,e1,rfl⟩,⟨rfl,e2,rfl⟩,e3⟩:=bs;have hX:∀g,w5.1.size<=g->g<i.1.size->wX.1[g]?=i.1[g]?:=λg hg hl=>(h1 g (by have:=bf.o;have:=b4.o;omega) (by omega) (by have:=r.size;omega)).trans (r.block g hl)
    have bv:=Kl r.size h2;exact⟨by rw[e1];exact k1 wX hX bv,by rw[e2];exact k2 wX hX bv⟩
   have en:¬w.1.size+1=i.1.size:=by have:=G.o.1.size;have:=b4.o;omega
   have eq:¬w6.1.size=i.1.size:=by have:=io ae.o;omega
   clear m r X bq Y br n a4 G H ae cT bd x6;go_wp2_with fail;go_ret2;exact⟨_,rfl,a0.o.1,a0.o.2⟩
  have hq:(E != 0)=true:=by simpa using hE
  have HE:=Z hE;clear hE z a4;go_wp2_with fail;go_ret2;exact⟨_,rfl,ib _ _,P.o.2.alloc P.o.2.size _⟩
theorem Bd(B lv rv l r w)(x:aE B w lv l)(E:cI B w rv r)(u:B<=w.1.size):
  cL 92 #[lv,rv] w λe z=>∃v,e=.returned (.tuple #[v,U (cQ l r)])/\wG w.1.size z v (dI l r)/\bL w z:=by
 by_cases o:bC l≠0\/aZ r≠0
 ·have R:cQ l r=if bC l=0 then aZ r else bC l:=by
   unfold cQ
   by_cases A:bC l=0
   ·have m:aZ r≠0:=by simpa [A] using o
    rw[Io A,iO m,Io A]
   rw[iO A,iO A]
  have H:dI l r=[]:=by
   unfold dI;rw[R,iO]
   by_cases A:bC l=0
   ·rw[Io A]
    simpa [A] using o
   rw[iO A];exact A
  rw[R,H];exact EK B lv rv l r w x E u o
 have p:bC l=0:=L8 λh=>o (.inl h)
 have m:aZ r=0:=L8 λh=>o (.inr h)
 have j:cQ l r=if decide (r.1=1\/r.1=3)=(bW l r.2.1).1 then 6 else (j6 l r).2:=by unfold cQ;rw[Io p,Io m]
 have q:dI l r=if cQ l r=0 then l.set r.2.1.toNat (j6 l r).1 else []:=rfl
 have y:=(f7.1 p).1;obtain⟨X,M,N,-,I⟩:=iB m;obtain⟨a,n,rfl,-,-⟩:=x.shape
 rw[y] at x |-
 obtain⟨C,D,rfl,F⟩:=E.shape;obtain⟨k,S,T,f,d⟩:=r
 simp only at X M N I F j q E m |-
 obtain⟨g,rfl⟩:∃g:Nat,S=(g:Int):=⟨S.toNat,by omega⟩;obtain⟨i,rfl⟩:∃i:Nat,T=(i:Int):=⟨T.toNat,by omega⟩;obtain⟨c,s⟩:∃c,l[g]?=some c:=⟨l[g]'(by omega),by simp⟩;obtain⟨G,t⟩:∃c,l[i]?=some c:=⟨l[i]'(by omega),by simp⟩;have J:bW l (g:Int)=c:=by unfold bW;rw[L3,Kn,s];rfl
 have K:bW l (i:Int)=G:=by unfold bW;rw[L3,Kn,t];rfl
 have L:k=1\/k=2\/k=3\/k=4:=by omega
 rw[J] at j;rw[L3] at q
 by_cases b:decide (k=1\/k=3)=c.1
 ·rw[Io b] at j;have H:dI l (k,(g:Int),(i:Int),f,d)=[]:=by rw[q,j];rfl
  rw[j,H];exact CC B a n C _ D l k g i f d w x E u p m L c s G t b
 rw[iO b] at j
 rcases L with rfl|rfl|rfl|rfl
 ·have e:j6 l (1,(g:Int),(i:Int),f,d)=fS (f,d):=rfl;rw[q,j,e];exact nG B a n C _ D l 1 g i f d w x E u p m (by simp) c s G t b _ _ (λz h=>zG B a n C _ D l g i f d z (x.l h u) (F.l h u) (h.u u)) (λe=>by cases e)
 ·have e:j6 l (2,(g:Int),(i:Int),f,d)=(if dm c.2.1 c.2.2 (f,d)=0 then (((true,dt c.2.1 c.2.2 (f,d),f,d):aG),(0:Int)) else (bn,dm c.2.1 c.2.2 (f,d))):=by show (if dm (bW l (g:Int)).2.1 (bW l (g:Int)).2.2 (f,d)=0 then (((true,dt (bW l (g:Int)).2.1 (bW l (g:Int)).2.2 (f,d),f,d):aG),(0:Int)) else (bn,dm (bW l (g:Int)).2.1 (bW l (g:Int)).2.2 (f,d)))=_;rw[J]
  have Y:(j6 l (2,(g:Int),(i:Int),f,d)).2=dm c.2.1 c.2.2 (f,d):=by
   rw[e]
   split
   ·rename_i h;exact h.symm
   rfl
  have e1:(j6 l (2,(g:Int),(i:Int),f,d)).1=if dm c.2.1 c.2.2 (f,d)=0 then (true,dt c.2.1 c.2.2 (f,d),f,d) else bn:=by
   rw[e]
   split<;>rfl
  rw[q,j,e1,Y]
  have O:aj (f,d)=0:=by
   rcases I with h|h
   ·exact h.2
   omega
  exact nG B a n C _ D l 2 g i f d w x E u p m (by simp) c s G t b _ _ (λz h=>xL B a n C _ D l g i f d z (x.l h u) (F.l h u) y (h.u u) O c s) (λe=>by cases e)
 ·obtain⟨fo,P,V,W⟩:=G
  cases fo with
  |true=>
   have e:j6 l (3,(g:Int),(i:Int),f,d)=fS (V,W):=by show (if (bW l (i:Int)).1=true then fS (bW l (i:Int)).2.2 else (bn,5))=_;rw[K];rfl
   rw[q,j,e];exact nG B a n C _ D l 3 g i f d w x E u p m (by simp) c s _ t b _ _ (λz h=>zU B a n C _ D l g i f d z (x.l h u) y (h.u u) true P V W t) (λ_=>rfl)
  |false=>
   have e:j6 l (3,(g:Int),(i:Int),f,d)=(bn,5):=by show (if (bW l (i:Int)).1=true then fS (bW l (i:Int)).2.2 else (bn,5))=_;rw[K];rfl
   have Q:c.1=false:=by simpa using b
   rw[e] at j;have H:dI l (3,(g:Int),(i:Int),f,d)=[]:=by rw[q,j];rfl
   rw[j,H];exact Er B a n C _ D l g i f d w x E u p m c s _ t Q rfl
 have e:j6 l (4,(g:Int),(i:Int),f,d)=(bn,0):=rfl;rw[q,j,e];exact nG B a n C _ D l 4 g i f d w x E u p m (by simp) c s G t b _ _ (λz h=>Au B a n C _ D l g i f d z (x.l h u)) (λe=>by cases e)
