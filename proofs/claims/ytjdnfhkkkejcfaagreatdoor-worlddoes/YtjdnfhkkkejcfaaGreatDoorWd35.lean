import Derived.Test.YtjdnfhkkkejcfaaGreatDoorWd32
import Derived.Test.YtjdnfhkkkejcfaaGreatDoorWd33
import Derived.Test.YtjdnfhkkkejcfaaGreatDoorWd34
set_option linter.all false
set_option maxRecDepth 100000
set_option maxHeartbeats 8000000
namespace Go.Proofs.YtjdnfhkkkejcfaaGreatDoor
open Go.RowKit Go.Maps Go.Proofs.Tryz
theorem yT:∀ (ts:List Bs) (aO:Nat),(fH aO ts).1.length<=aO
 |[],aO=>by rw[sS];exact Ks _
 |t :: ts,aO=>by
  unfold fH
  split
  ·exact Ks _
  split
  ·split
   ·cases aO with
    |zero=>exact Ke _
    |succ m=>simp only[Kv];have:=yT ts m;omega
   exact Ks _
  exact Ks _
theorem o8(aO s):(aM aO s).1.length<=aO:=yT _ _
theorem tA:∀ (ts:List Bs) (aO:Nat),(fH aO ts).2.1<=ts.flatten.length
 |[],aO=>by rw[sS];exact Ks _
 |t :: ts,aO=>by
  unfold fH
  split
  ·exact Ks _
  split
  ·split
   ·cases aO with
    |zero=>exact Ks _
    |succ m=>simp only[List.flatten_cons,Kj];have:=tA ts m;omega
   exact Ks _
  exact Ks _
theorem tR:∀ (k:Nat) (s:Bs),(fG k s).flatten=s
 |0,s=>by unfold fG;simp
 |k+1,s=>by
  unfold fG
  cases h:i8 s with
  |none=>simp
  |some x=>
   obtain⟨a,t⟩:=x;simp only[List.flatten_cons,tR k t];rw[(gL h).1];simp
theorem sw(aO s):(aM aO s).2.1<=s.length:=by have:=tA (fG s.length s) aO;rw[tR] at this;exact this
def mu(d:bQ):List az × Nat × Int:=aM (40-(aM 40 d.1).1.length) d.2
def jB(d:bQ):Bs:=d.1++d.2.take (mu d).2.1
def iF(d:bQ):List az:=(aM 40 d.1).1++(mu d).1
def gw(w:World)(k:Nat):Prop:=∀ (o:Nat) (K:IntKind) (x:Int),w.cell? ⟨k,o,none⟩≠some (.int K x)
theorem gw.of{w:World}{k n m:Nat}{a b c d T}{f:Nat × Nat}(h:w.1[k]?=some (.cells #[.slice a n c,.slice b m d] T f)):gw w k:=by
 intro o K x e
 match o with
 |0=>rw[J0 h] at e;cases e
 |1=>rw[J1 h] at e;cases e
 |o+2=>simp[World.cell?,h] at e
def iE(k:Nat)(w w':World):Prop:=∀b,b≠k->w'.1[b]?=w.1[b]?
theorem iE.cell{k w w'}(h:iE k w w')(c:gw w k){b o:Nat}{K:IntKind}{x:Int}(a:w.cell? ⟨b,o,none⟩=some (.int K x)):w'.cell? ⟨b,o,none⟩=some (.int K x):=by
 have d:b≠k:=λe=>by subst e;exact c _ _ _ a
 unfold World.cell? at a |-
 rw[h b d];exact a
theorem iE.near{k w w'}(h:iE k w w')(d:gw w k){b o a:Nat}{K:IntKind}{x:Int}(f:w.cell? ⟨b,o,none⟩=some (.int K x)){v:Value}(c:w.cell? ⟨b,a,none⟩=some v):w'.cell? ⟨b,a,none⟩=some v:=by
 have g:b≠k:=λe=>by subst e;exact d _ _ _ f
 unfold World.cell? at c |-
 rw[h b g];exact c
theorem cI.box{B k w w' v r}(h:cI B w v r)(d:iE k w w')(f:gw w k):cI B w' v r:=by obtain⟨p,q,s,t,u,l,e,x,a,m,y,z,A,C⟩:=h;refine⟨p,q,s,t,u,l,e,x,a,m,y,z,A,λi r D=>?_⟩;have⟨b,o,E,F,G,H,n,I,J,g,K,L,M,N⟩:=C i r D;refine⟨b,o,E,F,G,d.near f n H,d.cell f n,I,J,g,K,L,M,λj c O=>?_⟩;have⟨P,Q,R,S,T,V,W,X⟩:=N j c O;exact⟨P,Q,R,S,d.cell f T,d.cell f V,d.cell f W,X⟩
theorem dh.box{B k w w' v rs}(h:dh B w v rs)(c:iE k w w')(d:gw w k):dh B w' v rs:=by obtain⟨a,f,j,l,m,n⟩:=h;refine⟨a,f,j,l,m,λi r p=>?_⟩;have⟨b,o,e,q,s,g,t,u,x,y,z⟩:=n i r p;exact⟨b,o,e,q,s,c.cell d g,c.cell d t,c.cell d u,c.near d g x,c.cell d y,z.box c d⟩
theorem aI.box{B k w w' v bs}(h:aI B w v bs)(f:iE k w w')(j:gw w k):aI B w' v bs:=by obtain⟨a,d,l,m,n,p⟩:=h;refine⟨a,d,l,m,n,λi b q=>?_⟩;have⟨g,o,e,r,c⟩:=p i b q;exact⟨g,o,e,r,f.cell j c⟩
def A2(w:World)(u a b:Value):Prop:=∃g T c,u=.slice (sO g) 2 2/\w.1[g]?=some (.cells #[a,b] T c)
theorem A2.l{w w' u v0 v1}(h:A2 w u v0 v1)(b:bL w w'):A2 w' u v0 v1:=by obtain⟨g,T,c,e,a⟩:=h;exact⟨g,T,c,e,(b.block g (io a)).trans a⟩
structure zy (L:Nat) (W:World) (sv tv lv mv:Value) (R:Bs) (Q:List az) (fs:Nat->Value->Prop) (w:World):Prop where
 below:bL W w
 lit6:∀u,fs 6 u->A2 w u sv tv
 row7:∀u,fs 7 u->aI w.1.size w u R
 lit11:∀u,fs 11 u->A2 w u lv mv
 row12:∀u,fs 12 u->dh w.1.size w u Q/\qt L w u Q
 need:∀u,fs 12 u->∃v,fs 11 v
theorem zy.l{L W w w' sv tv lv mv R Q}{c:Nat->Value->Prop}(h:zy L W sv tv lv mv R Q c w)(a:bL w w'):zy L W sv tv lv mv R Q c w':=
 ⟨h.below.th a,λu b=>(h.lit6 u b).l a,λu b=>((h.row7 u b).l a lE).wide a.size,λu b=>(h.lit11 u b).l a,λu b=>⟨((h.row12 u b).1.l a lE).wide a.size,(h.row12 u b).2.l a⟩,h.need⟩
theorem dj{b:Nat->Value->Prop}{k m v u}(h:d9 b k v m u)(a:m≠k):b m u:=by
 rcases h with h|⟨h,_⟩
 ·exact h
 exact absurd h a
theorem zy.put6{L W w sv tv lv mv R Q}{b:Nat->Value->Prop}(h:zy L W sv tv lv mv R Q b w)(v)(c:A2 w v sv tv):zy L W sv tv lv mv R Q (d9 b 6 v) w:=
 ⟨h.below,λu a=>by
  rcases a with a|⟨_,rfl⟩
  ·exact h.lit6 u a
  ·exact c,λu a=>h.row7 u (dj a (by decide)),λu a=>h.lit11 u (dj a (by decide)),λu a=>h.row12 u (dj a (by decide)),λu a=>by
  obtain⟨x,d⟩:=h.need u (dj a (by decide))
  exact⟨x,.inl d⟩⟩
theorem zy.put7{L W w sv tv lv mv R Q}{b:Nat->Value->Prop}(h:zy L W sv tv lv mv R Q b w)(v)(c:aI w.1.size w v R):zy L W sv tv lv mv R Q (d9 b 7 v) w:=
 ⟨h.below,λu a=>h.lit6 u (dj a (by decide)),λu a=>by
  rcases a with a|⟨_,rfl⟩
  ·exact h.row7 u a
  ·exact c,λu a=>h.lit11 u (dj a (by decide)),λu a=>h.row12 u (dj a (by decide)),λu a=>by
  obtain⟨x,d⟩:=h.need u (dj a (by decide))
  exact⟨x,.inl d⟩⟩
theorem zy.put11{L W w sv tv lv mv R Q}{b:Nat->Value->Prop}(h:zy L W sv tv lv mv R Q b w)(v)(c:A2 w v lv mv):zy L W sv tv lv mv R Q (d9 b 11 v) w:=
 ⟨h.below,λu a=>h.lit6 u (dj a (by decide)),λu a=>h.row7 u (dj a (by decide)),λu a=>by
  rcases a with a|⟨_,rfl⟩
  ·exact h.lit11 u a
  ·exact c,λu a=>h.row12 u (dj a (by decide)),λu a=>by
  obtain⟨x,d⟩:=h.need u (dj a (by decide))
  exact⟨x,.inl d⟩⟩
theorem zy.put12{L W w sv tv lv mv R Q}{b:Nat->Value->Prop}(h:zy L W sv tv lv mv R Q b w)(v)(c:dh w.1.size w v Q/\qt L w v Q)(d:∃u,b 11 u):zy L W sv tv lv mv R Q (d9 b 12 v) w:=
 ⟨h.below,λu a=>h.lit6 u (dj a (by decide)),λu a=>h.row7 u (dj a (by decide)),λu a=>h.lit11 u (dj a (by decide)),λu a=>by
  rcases a with a|⟨_,rfl⟩
  ·exact h.row12 u a
  ·exact c,λu a=>by
  obtain⟨x,e⟩:=d
  exact⟨x,.inl e⟩⟩
def yR(b:Nat)(W:World)(sv tv lv d:Value)(R:Bs)(Q:List az)(a:Nat->Value->Prop)(w:World):Prop:=
 ((∀u,¬a 13 u)/\zy (b+1) W sv tv lv d R Q a w)\/((∃u,a 13 u)/\(∃u,a 6 u)/\(∃u,a 7 u)/\(∃u,a 11 u)/\(∃u,a 12 u)/\∃c e,w=(c.setCell (pA b 0) e).setCell (pA b 1) nL/\aI c.1.size c e R/\zy (b+1) W sv tv lv d R Q (λk u=>k≠13/\a k u) c)
theorem yR.start(bo W sv tv lv mv R Q):yR bo W sv tv lv mv R Q (λ_ _=>False) W.drew:=
 .inl ⟨λ_ h=>h,bR.drew,λ_ h=>h.elim,λ_ h=>h.elim,λ_ h=>h.elim,λ_ h=>h.elim,λ_ h=>h.elim⟩
theorem yR.ahead{bo W w sv tv lv mv R Q}{f:Nat->Value->Prop}(h:yR bo W sv tv lv mv R Q f w){k:Nat}(g:k=6\/k=7\/k=11\/k=12)(e:∀v,¬f k v):(∀u,¬f 13 u)/\zy (bo+1) W sv tv lv mv R Q f w:=by
 rcases h with h|⟨_,⟨a,i⟩,⟨b,j⟩,⟨c,l⟩,⟨d,m⟩,_⟩
 ·exact h
 rcases g with rfl|rfl|rfl|rfl
 ·exact absurd i (e _)
 ·exact absurd j (e _)
 ·exact absurd l (e _)
 exact absurd m (e _)
theorem yR.of{c:Nat}{W w sv tv lv mv R Q}{a:Nat->Value->Prop}{k:Nat}{v}(b:∀u,¬a 13 u)(d:k≠13)(h:zy (c+1) W sv tv lv mv R Q (d9 a k v) w):yR c W sv tv lv mv R Q (d9 a k v) w:=
 .inl ⟨λu e=>b u (dj e (LQ d)),h⟩
theorem yR.stored{bo W w sv tv lv mv R Q}{b:Nat->Value->Prop}{l f g:Value}(h:yR bo W sv tv lv mv R Q b w)(i:∀v,¬b 13 v)(m:b 6 l)(j:b 7 f)(c:b 12 g):bL W w/\yR bo W sv tv lv mv R Q (d9 b 13 undef) ((w.setCell (pA bo 0) f).setCell (pA bo 1) nL):=by
 rcases h with ⟨_,h⟩|⟨⟨x,d⟩,_⟩
 ·refine⟨h.below,.inr ⟨⟨_,.inr ⟨rfl,rfl⟩⟩,⟨_,.inl m⟩,⟨_,.inl j⟩,?_,⟨_,.inl c⟩,w,f,rfl,h.row7 f j,?_⟩⟩
  ·obtain⟨x,d⟩:=h.need _ c;exact⟨x,.inl d⟩
  have e:∀ {k u},k≠13/\d9 b 13 undef k u->b k u:=λ⟨n,o⟩=>dj o n
  refine⟨h.below,λu a=>h.lit6 u (e a),λu a=>h.row7 u (e a),λu a=>h.lit11 u (e a),λu a=>h.row12 u (e a),λu a=>?_⟩;have⟨x,d⟩:=h.need u (e a);exact⟨x,by decide,.inl d⟩
 exact absurd d (i _)
theorem yR.done{bo W w sv tv lv mv R Q}{r:Nat->Value->Prop}{e s:Value}(h:yR bo W sv tv lv mv R Q r w)(k:r 12 e)(t:r 13 s){a b n c m d T}(l:W.1[bo]?=some (.cells #[.slice a n c,.slice b m d] T (0,0))):∃j,w.1[bo]?=some (.cells #[j,nL] T (0,0))/\cJ w.1.size w (.agg #[j,nL]) (R,[])/\dh w.1.size w e Q/\qt (bo+1) w e Q/\∀L,L<=bo->L<=W.1.size->Below L W w:=by
 rcases h with ⟨h,_⟩|⟨_,_,_,_,_,q,j,rfl,z,hA⟩
 ·exact absurd t (h _)
 have o:=(hA.below.block bo (io l)).trans l;have u:iE bo q ((q.setCell (pA bo 0) j).setCell (pA bo 1) nL):=λg v=>(Kc _ _ _ _ v).trans (Kc _ _ _ _ v)
 have x:=gw.of o;have f:((q.setCell (pA bo 0) j).setCell (pA bo 1) nL).1.size=q.1.size:=by simp
 refine⟨j,?_,?_,?_,?_,λL y A=>?_⟩
 ·rw[ap (ap o)];rfl
 ·rw[f];exact⟨_,_,rfl,z.box u x,none,0,rfl,Ke _,Ks _,λi b B=>by simp at B⟩
 ·rw[f];exact(hA.row12 e ⟨by decide,k⟩).1.box u x
 ·exact(hA.row12 e ⟨by decide,k⟩).2.keep (λg v _=>u g (by omega)) (by rw[f];exact Ke _)
 exact((hA.below.mono A).setCell (p:=pA bo 0) y _).setCell (p:=pA bo 1) y _
theorem yR.cells{d b:Nat}{W w sv tv lv mv R Q}{i:Nat->Value->Prop}(h:yR d W sv tv lv mv R Q i w){e f:Value}{T}{g:Nat × Nat}(a:W.1[b]?=some (.cells #[e,f] T g))(c:b≠d):w.1[b]?=some (.cells #[e,f] T g):=by
 rcases h with ⟨_,h⟩|⟨_,_,_,_,_,j,k,rfl,l,hA⟩
 ·exact(h.below.block b (io a)).trans a
 exact((Kc _ _ _ _ c).trans (Kc _ _ _ _ c)).trans ((hA.below.block b (io a)).trans a)
theorem pY(B u v c d w)(Y:mO B w u c)(hd:mO B w v d)(q:B<=w.1.size):
  cL 60 #[u,v] w (rT w (.bool (decide (c=d)))):=by
 obtain⟨la,lc,N,O,rfl,z,A⟩:=Y;obtain⟨G,H,r,s,rfl,P,Q⟩:=hd;have C:=Z λa (h:bL w a)=>EI B _ _ c.2.1 d.2.1 a (z.l h q) (P.l h q) (h.u q)
 have I:=Z λa (h:bL w a)=>BX B _ _ c.2.2 d.2.2 a (A.l h q) (Q.l h q) (h.u q)
 have l:Hid (decide (c=d)=(decide (c.1=d.1)&&(decide (c.2.1=d.2.1)&&decide (c.2.2=d.2.2)))):=by unfold Hid;rw[<-Bool.decide_and,<-Bool.decide_and];refine decide_eq_decide.2 ⟨λh=>by rw[h];exact⟨rfl,rfl,rfl⟩,λ⟨z,A,h3⟩=>?_⟩;exact Prod.ext z (Prod.ext A h3)
 clear z A P Q;obtain⟨o,J,K,f⟩:=c;obtain⟨t,m,n,D⟩:=d;simp only at C I l;generalize decide ((o,J,K,f)=(t,m,n,D))=L at*;generalize decide (J=m)=e1 at*;generalize decide ((K,f)=(n,D))=e2 at*;generalize J.length=n1 at*;generalize m.length=n2 at*;generalize K.length=R at*;generalize n.length=S at*;have⟨W2,b⟩:=nM ((w.alloc (.cells #[.bool o,.slice la n1 lc,.slice N R O,U f] 46)).alloc (.cells #[.bool t,.slice G n2 H,.slice r S s,U D] 46));have p:=bB b;have a8:=sB b;have T:=gB b;have V:=gC b;have M:Hid (∀a,bL W2 a->a.cell? (pW w 2)=some (.slice N R O)/\a.cell? (pW w 3)=some (U f)/\a.cell? (pA (w.1.size+1) 2)=some (.slice r S s)/\a.cell? (pA (w.1.size+1) 3)=some (U D)/\bL w a):=λa h=>by have W:=h.bk T;have X:=h.bk V;exact⟨J2 W,J3 W,J2 X,J3 X,p.th h⟩
 have j:=Z b;have k:=Z p;clear b T V p
 by_cases E:o=t
 ·subst E
  cases e1 with
  |true=>
   have g:=Z (by rw[l.o];simp:L=e2);clear l;go_enter func60,ntmps60;go_wp2_with fail;rw[<-j.o];go_at_call 93;refine(C.o _ k.o).mono ?_;rintro e w3 ⟨rfl,i⟩;obtain⟨y0,y1,y2,y3,x⟩:=M.o _ i;have F:=Z x;clear i x;go_wp2_with fail;go_at_call 94;refine(I.o _ F.o).mono ?_;rintro e w4 ⟨rfl,y⟩;have HZ:=Z (F.o.th y);clear y;go_wp2_with fail
   all_goals
    go_ret;exact⟨by rw[g.o];rfl,HZ.o⟩
  |false=>
   have g:=Z (by rw[l.o];simp:L=false);clear l;go_enter func60,ntmps60;go_wp2_with fail;rw[<-j.o];go_at_call 93;refine(C.o _ k.o).mono ?_;rintro e w3 ⟨rfl,i⟩;obtain⟨y0,y1,y2,y3,x⟩:=M.o _ i;have F:=Z x;clear i x;go_wp2_with fail;go_ret;exact⟨by rw[g.o];rfl,F.o⟩
 have g:=Z (by rw[l.o,KD E];rfl:L=false)
 have hq:(o==t)=false:=by cases o<;>cases t<;>simp at E |-
 rw[j.o] at k;clear l C I M j E;go_enter func60,ntmps60;go_wp2_with fail
 all_goals
  go_ret;exact⟨by rw[g.o];rfl,k.o⟩
theorem xt(B lv mv ls b w)(f:aE B w lv ls)(g:aE B w mv b)(l:B<=w.1.size):
  cL 29 #[lv,mv] w (rT w (.bool (decide (ls=b)))):=by
 have m:Hid (cL 49 #[lv,mv,.func (.func 60) #[] #[]] w (rT w (.bool (decide (ls=b))))):=p9 B 60 (λj k=>by kernel_rfl) (λk u v c d h o p=>pY B u v c d k o p h) lv mv ls b w f g l;obtain⟨a,c,rfl,-,-⟩:=f.shape;obtain⟨q,r,rfl,-,-⟩:=g.shape;clear f g;generalize decide (ls=b)=eq at*;generalize ls.length=n at*;generalize b.length=s at*;go_enter func29,ntmps29;go_wp2_with (first|(go_at_call 49;go_must (refine m.o.mono ?_;rintro e t ⟨rfl,i⟩)));go_ret;exact⟨rfl,i⟩
abbrev wG(L:Nat)(w:World)(v:Value)(l:List aG):Prop:=kn (λk=>k<L) w v l
theorem kn.at{K:Nat->Prop}{w v l}(h:kn K w v l):aE w.1.size w v l:=h w (Kx.refl _ _)
theorem A8(w):cL 32 #[] w λe f=>∃v,e=.returned v/\wG w.1.size f v aA/\bL w f:=by
 have c:=kT;have a:Hid (wG w.1.size (w.alloc (.cells (madeCells #[.bool false,nL,nL,U 0] 16) 46)) (.slice (MZ w) 4 4) aA):=uR (ah _ _) (Nat.lt_irrefl _);have g:Hid (∀d,bL w (w.alloc (.cells d 46))):=λd=>bR.alloc lE _
 have⟨d,b⟩:=nM (madeCells #[.bool false,nL,nL,U 0] 16);rw[<-b] at c a;clear b;go_enter func32,ntmps32;go_wp2_with fail;go_ret;exact⟨_,rfl,a.o,g.o _⟩
theorem DN(B w):mO B w (.agg #[.bool false,nL,nL,U 0]) bn:=⟨none,0,none,0,rfl,kJ _ _,bV _ _⟩
theorem qq{b:ie}{a:List aq}{d:Int}:dw (false,b,a,d)=if (false,b,a,d)=bn then 0 else 4:=by
 unfold dw bn
 by_cases h:b=[]
 ·subst h
  by_cases c:d=0/\a=[]
  ·obtain⟨rfl,rfl⟩:=c;simp
  have:¬((false,([]:ie),a,d)=(false,[],[],0)):=λe=>c (by simp at e;exact⟨e.2,e.1⟩)
  rw[Io (.inr ⟨rfl,c⟩),iO this]
 have:¬((false,b,a,d)=((false,[],[],0):aG)):=λe=>h (by simp at e;exact e.1)
 have f:=LY.2 h;rw[Io (.inl (by simp;exact h)),iO this]
theorem qb{a:ie}{p:aD}:dw (true,a,p)=if a.length=0 then 4 else if bl a=0 then aj p else bl a:=by
 unfold dw
 by_cases h:a.length=0
 ·rw[Io (.inl (by simp[h])),Io h]
 rw[iO (by simp;intro e;exact h (by rw[e];rfl)),iO (by simp),iO h]
theorem yp(B v c w)(N:mO B w v c)(x:B<=w.1.size):
  cL 140 #[v] w (rT w (U (dw c))):=by
 have i:=Z λb (h:bL w b)=>pY B _ _ c bn b (N.l h x) (DN _ _) (h.u x)
 obtain⟨O,P,Q,R,rfl,S,T⟩:=N;have j:=Z λb (h:bL w b)=>ro B _ c.2.1 b (S.l h x) (h.u x)
 have k:=Z λb (h:bL w b)=>gZ B _ c.2.2 b (T.l h x) (h.u x)
 clear S T;obtain⟨o,d,g,f⟩:=c;simp only at i j k;have⟨X,l⟩:=nM (w.alloc (.cells #[.bool o,.slice O d.length P,.slice Q g.length R,U f] 46));have t:=bA l;have K:=sA l;have V:=hA l;have z:Hid (∀b,bL X b->b.cell? (pW w 0)=some (.bool o)/\b.cell? (pW w 1)=some (.slice O d.length P)/\b.cell? (pW w 2)=some (.slice Q g.length R)/\b.cell? (pW w 3)=some (U f)/\bL w b):=λb h=>by have F:=h.bk V;exact⟨J0 F,J1 F,J2 F,J3 F,t.th h⟩
 have n:=Z l;have p:=Z t;clear l V t K
 cases o with
 |false=>
  have r:Hid (dw (false,d,g,f)=if (false,d,g,f)=bn then 0 else 4):=qq;clear j k;have⟨q,G⟩:=nM (decide ((false,d,g,f)=bn));have H:=Z G;rw[<-G] at i;clear G;generalize dw (false,d,g,f)=u at*;generalize d.length=I at*;generalize g.length=Y at*;go_enter func140,ntmps140;go_wp2_with fail;rw[<-n.o];go_at_call 60;refine(i.o _ p.o).mono ?_;rintro e w3 ⟨rfl,m⟩;obtain⟨y0,y1,y2,y3,A⟩:=z.o _ m;have y:=Z A;clear m A i z
  cases q with
  |true=>
   have a:=Z (by rw[r.o,Io (of_decide_eq_true H.o.symm)]:u=0);clear r H;go_wp2_with fail;go_ret;exact⟨by rw[a.o];rfl,y.o⟩
  |false=>
   have a:=Z (by rw[r.o,iO (of_decide_eq_false H.o.symm)]:u=4);clear r H;go_wp2_with fail;go_ret;exact⟨by rw[a.o];rfl,y.o⟩
 |true=>
  have r:Hid (dw (true,d,g,f)=if d.length=0 then 4 else if bl d=0 then aj (g,f) else bl d):=qb;clear i;generalize dw (true,d,g,f)=u at*;generalize bl d=C at*;generalize aj (g,f)=W at*;generalize d.length=I at*;generalize g.length=Y at*
  by_cases L:I=0
  ·subst L;have a:=Z (by rw[r.o,Io rfl]:u=4);rw[n.o] at p;clear r j k z n;go_enter func140,ntmps140;go_wp2_with fail;go_ret;exact⟨by rw[a.o];rfl,p.o⟩
  have D:¬(I:Int)=0:=by omega
  have M:((I:Int)==0)=false:=by simpa using D
  have s:=Z (by rw[r.o,iO L]:u=if C=0 then W else C);clear r L;go_enter func140,ntmps140;go_wp2_with fail;rw[<-n.o];go_at_call 42;refine(j.o _ p.o).mono ?_;rintro e w3 ⟨rfl,m⟩;obtain⟨y0,y1,y2,y3,A⟩:=z.o _ m;have y:=Z A;clear m A j z D M
  by_cases J:C=0
  ·subst J;have a:=Z (by rw[s.o,Io rfl]:u=W);clear s;go_wp2_with fail;go_at_call 143;refine(k.o _ y.o).mono ?_;rintro e w4 ⟨rfl,E⟩;have HZ:=Z (y.o.th E);clear E;go_wp2_with fail;go_ret;exact⟨by rw[a.o];rfl,HZ.o⟩
  have a:=Z (by rw[s.o,iO J]:u=C);have G:(C != 0)=true:=by simpa using J
  clear s k J;go_wp2_with fail;go_ret;exact⟨by rw[a.o];rfl,y.o⟩
theorem lQ(B v l w)(K:aE B w v l)(L:B<=w.1.size):
  cL 114 #[v] w (rT w (U (bC l))):=by
 have T:=Z λV (h:bL w V)=>K.l h L
 obtain⟨a,W,rfl,Y,a0,-⟩:=K;have a1:=ai;have z:Hid (bC l=if l.length=4 then cy l else 4):=rfl;generalize q:l.length=r at*;have f:=Z q;clear q
 by_cases M:r=4
 ·subst M;have m:=Z (by rw[z.o];rfl:bC l=cy l);clear z;go_enter func114,ntmps114;go_wp2_with fail;go_loopw [11] (λA wr=>∃k:Nat,k<=4/\A=U k/\Hid (cy l=cy (l.drop k))/\bL w wr) (λA _=>4-(intOf A).toNat)
  case atStart=>exact⟨0,by omega,rfl,rfl,Kf _ _⟩
  case round=>
   obtain⟨k,hk,rfl,H,g⟩:=hrel;have⟨s,C⟩:=nM (wr);subst C;have i0:(0:Int)<=(k:Int):=by omega
   have D:=g.size
   by_cases a2:k<4
   ·have i1:(k:Int)<4:=by omega
    obtain⟨c,E⟩:∃c,l[k]?=some c:=⟨l[k]'(by rw[f.o];omega),by simp⟩;have S:=Z (oE l k c E);obtain⟨_,_,N,-,-,t⟩:=T.o _ g;have⟨b,o,e,a3,u⟩:=t k c E;simp at N;obtain⟨rfl,-,-⟩:=N;subst e;clear t E;obtain⟨la,lc,ra,rc,O,P,Q,R,x⟩:=u.val;have n:Hid (∀X,cL 140 #[.agg #[.bool c.1,.slice la c.2.1.length lc,.slice ra c.2.2.1.length rc,U c.2.2.2]] (s.alloc X) λe F=>e=.returned (U (dw c))/\Below (s.alloc X).1.size (s.alloc X) F):=λX=>yp B _ c _ (x.l ((Kf s.1.size s).alloc lE X) (Kl L D)) (by simp;omega)
    clear u x;generalize c.2.1.length=n1 at*;generalize c.2.2.1.length=n2 at*;generalize c.2.2.2=d at*;generalize c.1=op at*;generalize dw c=G at*;have p:=Z g;clear g
    by_cases y:G=0
    ·subst y;have I:=Z (by rw[H.o,S.o,Io rfl]:cy l=cy (l.drop (k+1)));clear S H;go_wp2_with fail;go_at_call 140;refine(n.o _).mono ?_;rintro e J ⟨rfl,i⟩;have j:bL w J:=Below.tO (p.o.alloc p.o.size _) i (by simp;omega);clear i n O P Q R;go_wp2_with fail;exact⟨⟨k+1,by omega,by go_num,I,j⟩,by simp[intOf];omega⟩
    have I:=Z (by rw[H.o,S.o,iO y]:cy l=G);have hq:(G != 0)=true:=by simpa using y
    clear y S H;go_wp2_with fail;go_at_call 140;refine(n.o _).mono ?_;rintro e J ⟨rfl,i⟩;have j:bL w J:=Below.tO (p.o.alloc p.o.size _) i (by simp;omega);clear i n O P Q R;go_wp2_with fail;go_ret;exact⟨by rw[m.o,I.o];rfl,j⟩
   go_wp2_with fail;go_ret;exact⟨by rw[m.o,H.o,KJ (by rw[f.o];omega)];rfl,g⟩
 have m:=Z (by rw[z.o,iO M]:bC l=4);have hq:((r:Int) != 4)=true:=by simp;omega
 go_enter func114,ntmps114;go_wp2_with fail;go_ret;exact⟨by rw[m.o];rfl,Kf _ _⟩
theorem Da(B:Nat)(pv qv:Value)(p q:aD)(w:World)(hp:aX B w pv p)(hq:aX B w qv q)(P:B<=w.1.size):
  cL 208 #[pv,qv] w λe c=>∃v,e=.returned (.tuple #[v,U (fQ p q)])/\bE w.1.size c v (fE p q)/\bL w c:=by
 have HF:Hid (∀c,bL w c->cL 222 #[qv,pv] c (rT c (.tuple #[.bool (dN q p).isSome,.agg #[U (fj q p 0),U (fj q p 1),U (fj q p 2),U (fj q p 3),U (fj q p 4)],U (aT [q,p])]))):=λc h=>AH B qv pv q p c (hq.l h P) (hp.l h P) (h.u P)
 have r:Hid (∀c,bL w c->cL 223 #[qv,pv] c λe a9=>∃v,e=.returned (.tuple #[v,U (eJ true q p)])/\bE c.1.size a9 v (eI true q p)/\bL c a9):=λc h=>BY B qv pv q p c (hq.l h P) (hp.l h P) (h.u P)
 have n:Hid (fQ p q=if aT [q,p]=0 then (if (dN q p).isSome then 7 else if eJ true q p=0 then aT [eI true q p] else eJ true q p) else aT [q,p]):=rfl;have i:Hid (fE p q=if fQ p q=0 then j9 (eI true q p) else ([],0)):=rfl;obtain⟨F,d⟩:=p;obtain⟨G,f⟩:=q;obtain⟨rv,rfl,-,a,Q,rfl,-⟩:=hp;obtain⟨sv,rfl,-,b,s,rfl,-⟩:=hq;simp only at HF r;generalize fj (G,f) (F,d)=c1 at*;generalize (dN (G,f) (F,d)).isSome=lo at*;generalize aT [(G,f),(F,d)]=pe at*;generalize eJ true (G,f) (F,d)=R at*;generalize eI true (G,f) (F,d)=H at*;generalize fQ (F,d) (G,f)=y at*;generalize fE (F,d) (G,f)=dr at*;generalize F.length=n1 at*;generalize G.length=n2 at*;clear P;have⟨S,j⟩:=nM (((w.alloc (.cells #[.slice a n1 Q,U d] 30)).alloc (.cells #[.slice b n2 s,U f] 30)).alloc (.cells #[nL,U 0] 30));have bs:S.1.size=w.1.size+1+1+1:=by rw[j];simp
 have ac:bL w S:=by rw[j];exact((bR.alloc lE _).alloc (by simp) _).alloc (by simp;omega) _
 have g0:S.1[w.1.size]?=some (.cells #[.slice a n1 Q,U d] 30 (0,0)):=by rw[j];exact aS _ (aS _ (be _ _ rfl))
 have g1:S.1[w.1.size+1]?=some (.cells #[.slice b n2 s,U f] 30 (0,0)):=by rw[j];exact aS _ (be _ _ (by simp only[Kg]))
 have k:S.1[w.1.size+1+1]?=some (.cells #[nL,U 0] 30 (0,0)):=by rw[j];exact be _ _ (by simp only[Kg])
 have HG:Hid (∀c,bL S c->c.1[w.1.size]?=some (.cells #[.slice a n1 Q,U d] 30 (0,0))/\c.1[w.1.size+1]?=some (.cells #[.slice b n2 s,U f] 30 (0,0))/\c.1[w.1.size+1+1]?=some (.cells #[nL,U 0] 30 (0,0))):=λc h=>⟨h.bk g0,h.bk g1,h.bk k⟩
 have HW:=Z j;clear j g0 g1 k;go_enter func208,ntmps208;go_wp2_with fail;rw[<-HW.o];go_at_call 222;refine(HF.o _ ac).mono ?_;rintro e T ⟨rfl,t⟩;have ad:=t.size;have l:bL w T:=ac.th t;have⟨g0,g1,k⟩:=HG.o T t;have l2:w.1.size+1+1<T.1.size:=by omega
 have z0:=J0 k;have z1:=J1 k;have ae:=fZ k 0;have af:=fZ k 1;have y0:=J0 g0;have y1:=J1 g0;have x0:=J0 g1;have x1:=J1 g1;have l0:w.1.size<T.1.size:=by omega
 have l1:w.1.size+1<T.1.size:=by omega
 have I:∀X,bL w (T.alloc X):=λX=>l.alloc l.size X
 have J:∀X,bL S (T.alloc X):=λX=>t.alloc ad X
 have z:Hid _:=I;have K:=Z l;have u:Hid _:=J;clear g0 g1 k HF I J t l ad
 by_cases hz:pe=0
 ·subst hz
  cases lo with
  |true=>
   have x:Hid (y=7/\dr=([],0)):=by
    have e:y=7:=by rw[n.o];rfl
    exact⟨e,by rw[i.o,iO (by rw[e];decide)]⟩
   clear n i r;go_wp2_with fail;refine Ka (v:=.tuple #[.agg #[nL,U 0],U 7]) ?_ rfl ⟨_,by rw[x.o.1],by rw[x.o.2];exact kA _ _,?_⟩
   ·rw[K8 rfl];go_simp
   repeat(first|exact K.o|refine Ky ?_ (by show w.1.size<=w.1.size+1+1;omega) _|refine Lc ?_ (by simp;omega) _)
  |false=>
   have m:Hid (y=if R=0 then aT [H] else R):=by unfold Hid;rw[n.o];rfl
   clear n;go_wp2_with fail;go_at_call 223;refine(r.o _ (z.o _)).mono ?_;rintro e o ⟨dv,rfl,V,A⟩;have b5:=A.size;rw[Kg] at b5;have M:bL w o:=Below.tO (z.o _) A (z.o _).size;obtain⟨-,-,k⟩:=HG.o o (Below.tO (u.o _) A (u.o _).size);have N:∀X,bL o (o.alloc X):=λX=>bR.alloc lE X
   have C:Hid (∀X,cL 224 #[dv] (o.alloc X) λe c=>∃rv,e=.returned (.tuple #[rv,U (aT [H])])/\bE (o.alloc X).1.size c rv (iL H)/\Below (o.alloc X).1.size (o.alloc X) c):=λX=>Dt o.1.size dv H (o.alloc X) (V.at.l (N X) lE) (N X).size
   have W:Hid (iL H=if aT [H]=0 then j9 H else ([],0)):=rfl;obtain⟨ms,md⟩:=H;obtain⟨rv,rfl,-,a5,c5,rfl,-⟩:=V.at;simp only at C;generalize ms.length=n5 at*;generalize aT [(ms,md)]=pm at*;generalize ak:iL (ms,md)=sr at*;have bo:=Z ak;clear ak;have z0:=J0 k;have z1:=J1 k;have ae:=fZ k 0;have af:=fZ k 1;have l2:w.1.size+1+1<o.1.size:=by omega
   have Y:Hid _:=M;have b9:Hid _:=k;clear z u A M k r V
   by_cases hm:R=0
   ·subst hm
    have x:Hid (y=pm/\dr=sr):=by
     have e:y=pm:=by rw[m.o];rfl
     refine⟨e,?_⟩;rw[i.o,e,W.o]
    clear m i W;go_wp2_with fail;go_at_call 224;refine(C.o _).mono ?_;rintro e w6 ⟨sv,rfl,D,E⟩;have ba:=E.size;rw[Kg] at ba D;have b6:w6.1[w.1.size+1+1]?=some (.cells #[nL,U 0] 30 (0,0)):=(E.block _ (by simp;omega)).trans ((Kq _ _ _ (by omega)).trans b9.o);have O:bL w w6:=Below.tO (Y.o.alloc Y.o.size _) E (by simp;omega);have q0:=J0 b6;have q1:=J1 b6;have bz:=fZ b6 0;have bF:=fZ b6 1;have av:Hid _:=D;obtain⟨ts,td⟩:=sr;obtain⟨rv,e1,-,a6,c6,e2,-⟩:=D.at;subst e2 e1;simp only at av;generalize ts.length=n6 at*;have bb:Hid _:=O;clear D E O b6 C z0 z1 ae af;go_wp2_with fail;refine Ka (v:=.tuple #[.agg #[.slice a6 n6 c6,U td],U pm]) ?_ rfl ⟨_,by rw[x.o.1],?_,?_⟩
    ·rw[K8 rfl];go_simp
    ·rw[x.o.2];refine bE.keep (L:=o.1.size+1) ?_ (by omega) (λg _ _=>rfl) lE;repeat(first|exact av.o|refine bE.put ?_ (.inl (by omega)))
    exact bb.o.s2 (by show w.1.size<=w.1.size+1+1;omega)
   have x:Hid (y=R/\dr=([],0)):=by
    have e:y=R:=by rw[m.o,iO hm]
    exact⟨e,by rw[i.o,iO (by rw[e];exact hm)]⟩
   have hq:(R != 0)=true:=by simpa using hm
   clear m i W hm C;go_wp2_with fail;refine Ka (v:=.tuple #[.agg #[nL,U 0],U R]) ?_ rfl ⟨_,by rw[x.o.1],by rw[x.o.2];exact kA _ _,?_⟩
   ·rw[K8 rfl];go_simp
   repeat(first|exact Y.o|refine Ky ?_ (by show w.1.size<=w.1.size+1+1;omega) _|refine Lc ?_ (by simp;omega) _)
 have x:Hid (y=pe/\dr=([],0)):=by
  have e:y=pe:=by rw[n.o,iO hz]
  exact⟨e,by rw[i.o,iO (by rw[e];exact hz)]⟩
 have hq:(pe != 0)=true:=by simpa using hz
 have ca:(pe==0)=false:=by simpa using hz
 clear n i r hz;go_wp2_with fail;refine Ka (v:=.tuple #[.agg #[nL,U 0],U pe]) ?_ rfl ⟨_,by rw[x.o.1],by rw[x.o.2];exact kA _ _,?_⟩
 ·rw[K8 rfl];go_simp
 repeat(first|exact K.o|refine Ky ?_ (by show w.1.size<=w.1.size+1+1;omega) _|refine Lc ?_ (by simp;omega) _)
theorem D6(B pv qv p q w)(b:aX B w pv p)(c:aX B w qv q)(d:B<=w.1.size):
  cL 208 #[pv,qv] w λe a=>∃v,e=.returned (.tuple #[v,U (fQ p q)])/\aX a.1.size a v (fE p q)/\bL w a:=
 (Da B pv qv p q w b c d).mono λ_ _ ⟨v,f,g,h⟩=>⟨v,f,g.at,h⟩
theorem Ap(B lv pv qv ls p q w)(hl:cD B w lv ls)(hp:aX B w pv p)(hq:aX B w qv q)(K:B<=w.1.size):
  cL 180 #[lv,pv,qv] w λe o=>∃v,e=.returned (.tuple #[v,U (dm ls p q)])/\eA w.1.size o v (dt ls p q)/\bL w o:=by
 have HL:=Z λo (h:bL w o)=>hl.l h K
 have HC:=Z λo (h:bL w o)=>ro B lv ls o (hl.l h K) (h.u K)
 have HD:=Z λo (h:bL w o)=>D6 B pv qv p q o (hp.l h K) (hq.l h K) (h.u K)
 have C:Hid (dm ls p q=if bl ls=0 then (if fQ p q=0 then (if ls.length=6 then 2 else cB (fE p q)) else fQ p q) else bl ls):=rfl;have j:Hid (dt ls p q=if dm ls p q=0 then ls++[cm (fE p q)] else []):=rfl
 have D:Hid (bl ls=0->ls.length<=6/\∀f∈ls,f.length<=100000):=λh=>⟨(fA.1 h).1,λf hf=>Kl (nK ((fA.1 h).2 f hf)).2.1 (by decide)⟩
 have R:=Z λo (h:bL w o) (h1:ls.length<=1000) (h2:(∀f∈ls,f.length<=100000))=>vH B lv ls o (hl.l h K) (h.u K) h1 h2
 obtain⟨la,a8,rfl,bp,cn,-⟩:=hl;obtain⟨rs,d⟩:=p;obtain⟨ss,f⟩:=q;obtain⟨rv,rfl,-,a,ac,rfl,-⟩:=hp;obtain⟨sv,rfl,-,b,L,rfl,-⟩:=hq;simp only at HC HD;have cs:=ai;have⟨F,S⟩:=nM (ls.length);have ad:=Z S.symm
 rw[<-S] at HL HC C D R bp |-
 clear S;generalize bl ls=ce at*;generalize fQ (rs,d) (ss,f)=T at*;generalize fE (rs,d) (ss,f)=dr at*;generalize dm ls (rs,d) (ss,f)=E at*;generalize dt ls (rs,d) (ss,f)=tr at*;generalize rs.length=n1 at*;generalize ss.length=n2 at*;have⟨W2,y⟩:=nM ((w.alloc (.cells #[.slice a n1 ac,U d] 30)).alloc (.cells #[.slice b n2 L,U f] 30));have cv:=sB y;have af:=bB y;have g0:Na W2 w.1.size #[.slice a n1 ac,U d] 30:=by rw[y];exact aS _ (be _ _ rfl)
 have g1:Na W2 (w.1.size+1) #[.slice b n2 L,U f] 30:=by rw[y];exact be _ _ (by simp only[Kg])
 have HG:=Z λo (h:bL W2 o)=>Q2 (h.bk g0) (h.bk g1)
 have HW:=Z y;clear y g0 g1;go_enter func180,ntmps180;go_wp2_with fail;rw[<-HW.o];go_at_call 42;refine(HC.o _ af).mono ?_;rintro e w3 ⟨rfl,G⟩;have d1:=G.size;have s:=af.th G;clear HC
 by_cases M:ce=0
 ·subst M;have d2:=(D.o rfl).1;have N:Hid (∀f∈ls,f.length<=100000):=(D.o rfl).2;have⟨g0,g1⟩:=HG.o w3 G;have y0:=J0 g0;have y1:=J1 g0;have x0:=J0 g1;have x1:=J1 g1;have l:=Z (by rw[C.o,Io rfl]:E=if T=0 then (if F=6 then 2 else cB dr) else T);clear g0 g1 C D;go_wp2_with fail;go_at_call 208;refine(HD.o _ s).mono ?_;rintro e w4 ⟨dv,rfl,ak,al⟩;have O:=s.th al;have P:∀X,bL w4 (w4.alloc X):=λX=>bR.alloc lE X
  have z:=Z λX=>tQ w4.1.size dv dr (w4.alloc X) (ak.l (P X) lE) (P X).size
  have V:Hid (cB dr=0->dW dr=cm dr):=λh=>by rw[dW,Io h]
  obtain⟨m,n⟩:=dr;obtain⟨rv,rfl,-,a4,c4,rfl,-⟩:=ak;simp only at z;generalize m.length=n4 at*;have c:Hid _:=O;clear al O s G y0 y1 x0 x1 HD
  by_cases hd:T=0
  ·subst hd
   by_cases h6:F=6
   ·subst h6
    have t:Hid (E=2/\tr=[]):=by
     have e:E=2:=by rw[l.o];rfl
     exact⟨e,by rw[j.o,iO (by rw[e];decide)]⟩
    clear l j z;go_wp2_with fail;go_ret2;exact⟨_,by rw[t.o.1];rfl,by rw[t.o.2];exact kL _ _,c.o.alloc c.o.size _⟩
   have bs:¬(F:Int)=6:=by omega
   have dc:((F:Int)==6)=false:=by simpa using bs
   have x:=Z (by rw[l.o,Io rfl,iO h6]:E=cB (m,n));clear l h6;go_wp2_with fail;go_at_call 179;refine(z.o _).mono ?_;rintro e H ⟨fv,rfl,A,I,J⟩
   by_cases r:cB (m,n)=0
   ·have t:Hid (E=0/\tr=ls++[cm (m,n)]):=by
     have e:E=0:=by rw[x.o,r]
     exact⟨e,by rw[j.o,Io e]⟩
    rw[V.o r] at A I;rw[r];clear r x j V z;obtain⟨fa,fc,W,-,-⟩:=an A;subst W;have g:bL w H:=Below.tO (c.o.alloc c.o.size _) J (by simp;have:=c.o.size;omega);have b0:=g.size;have b1:Hid (H.ownsRow w.1.size 112 4 (.slice fa (cm (m,n)).length fc) (cm (m,n)).length (aJ (cm (m,n)))/\∀i∈cm (m,n),gH i):=⟨cU A (by have:=c.o.size;simp;omega),I⟩;have Q:Hid (cL 107 #[.slice la F a8] H λe Y=>∃v,e=.returned v/\∃xs,Y.ownsRow H.1.size 77 1 v F xs/\k9 H.1.size Y xs ls/\bL H Y):=R.o H g (by omega) N.o;have b3:Hid _:=g;obtain⟨dd,bv,bx,bz,bF⟩:=uS;clear A I J g R N;generalize b4:(cm (m,n)).length=fl at*;have b5:=Z b4;clear b4;go_wp2_with fail;go_at_call 107;refine Q.o.mono ?_;rintro e w6 ⟨v6,rfl,xs,a0,b6,a1⟩;have c0:=a1.size;have b7:=Z a0;have c1:=Z b6;have b8:=Z a1;obtain⟨va,vc,ev,-⟩:=an a0;subst ev;have c2:(F+1)*24<=140737488355328:=by omega
    have c3:F+1<=maxLen:=by omega
    clear a0 b6 a1 Q;go_wp2_with (first|(at_builtin;go_must (refine ir _ rfl _ _ rfl Tryz.underlying44 bv bx bz bF rfl (by decide) H.1.size _ _ _ rfl _ 1 [.slice fa fl fc] rfl _ rfl (by simp) w6 bR b7.o rfl (by intro u hu;simp at hu;subst hu;rfl) c3 c2 c0 ?_;intro v8 w8 ho8 hb8 hg8)))
    have b9:dB 112 w6 w8:=λk di fr hk=>(hg8.o.block k (io hk) (λe=>by
     have⟨cd,M⟩:=cX b7.o k e.symm;rw[hk] at M
     cases M)).trans hk
    have ba:=(dB.of_below b8.o).trans b9;have e8:(ls++[cm (m,n)]).length=F+1:=by simp[ad.o]
    have c6:eA w.1.size w8 v8 (ls++[cm (m,n)]):=by
     refine qW (xs:=xs++[.slice fa fl fc]) (by rw[e8];exact cU ho8.o b0) ?_;have h2:w8.ownsRow w.1.size 112 4 (.slice fa fl fc) (cm (m,n)).length (aJ (cm (m,n))):=by have:=eQ b1.o.1 ba;rw[b5.o];exact this
     exact(((c1.o.keep b9).base b0).snoc h2 b1.o.2)
    have bb:=b3.o.th (b8.o.trans hb8);go_ret2;exact⟨_,by rw[t.o.1];rfl,by rw[t.o.2];exact c6,bb⟩
   have t:Hid (E=cB (m,n)/\tr=[]):=by have e:=x.o;exact⟨e,by rw[j.o,iO (by rw[e];exact r)]⟩
   have hq:(cB (m,n) != 0)=true:=by simpa using r
   clear r x j V z;generalize cB (m,n)=cp at*;have g:bL w H:=Below.tO (c.o.alloc c.o.size _) J (by simp;have:=c.o.size;omega);obtain⟨fa,fc,W,-⟩:=an A;subst W;have c7:Hid _:=g;clear A I J g;generalize (dW (m,n)).length=fl at*;go_wp2_with fail;go_ret2;exact⟨_,by rw[t.o.1];rfl,by rw[t.o.2];exact kL _ _,c7.o⟩
  have t:Hid (E=T/\tr=[]):=by
   have e:E=T:=by rw[l.o,iO hd]
   exact⟨e,by rw[j.o,iO (by rw[e];exact hd)]⟩
  have hq:(T != 0)=true:=by simpa using hd
  have dl:(T==0)=false:=by simpa using hd
  clear l j z hd;go_wp2_with fail;go_ret2;exact⟨_,by rw[t.o.1];rfl,by rw[t.o.2];exact kL _ _,c.o.alloc c.o.size _⟩
 have t:Hid (E=ce/\tr=[]):=by
  have e:E=ce:=by rw[C.o,iO M]
  exact⟨e,by rw[j.o,iO (by rw[e];exact M)]⟩
 have hq:(ce != 0)=true:=by simpa using M
 clear C j M HD D;go_wp2_with fail;go_ret2;exact⟨_,by rw[t.o.1];rfl,by rw[t.o.2];exact kL _ _,s⟩
def dx(L:Nat)(w:World)(v:Value)(c:aG):Prop:=∃a b d e,v=.agg #[.bool c.1,.slice a c.2.1.length b,.slice d c.2.2.1.length e,U c.2.2.2]/\eA L w (.slice a c.2.1.length b) c.2.1/\bE L w (.agg #[.slice d c.2.2.1.length e,U c.2.2.2]) c.2.2
theorem dx.keep{L a:Nat}{w w':World}{v c}(h:dx L w v c)(b:a<=L)(d:∀g,L<=g->g<w.1.size->w'.1[g]?=w.1[g]?)(f:w.1.size<=w'.1.size):dx a w' v c:=by obtain⟨i,j,k,l,e,m,n⟩:=h;exact⟨i,j,k,l,e,m.keep b d f,n.keep b d f⟩
theorem dx.l{L a:Nat}{w w' v c}(h:dx L w v c)(d:a<=L)(b:bL w w'):dx a w' v c:=h.keep d (λg _ e=>b.block g e) b.size
theorem dx.put{L w v c}{b o:Nat}{u:Value}(h:dx L w v c)(a:b<L\/w.1.size<=b):dx L (w.setCell ⟨b,o,none⟩ u) v c:=h.keep lE (λg d e=>Kc _ _ _ _ (by show g≠b;omega)) (by simp)
theorem nZ(L w):dx L w (.agg #[.bool false,nL,nL,U 0]) bn:=⟨none,0,none,0,rfl,kL _ _,kA _ _⟩
theorem nH{L w v p}(h:bE L w v p):∃a c,v=.agg #[.slice a p.1.length c,U p.2]:=by obtain⟨d,e,-,a,c,b,-⟩:=h.at;exact⟨a,c,by rw[e,b]⟩
theorem rS{L w v ls}(h:eA L w v ls):∃a c,v=.slice a ls.length c:=by obtain⟨a,c,e,-⟩:=h.at;exact⟨a,c,e⟩
theorem aL{w:World}{b:Nat}{u0 u1 u2 u3:Value}{T}(h:w.1[b]?=some (.cells #[u0,u1,u2,u3] T (0,0))):w.cell? (pA b 0)=some u0/\w.cell? (pA b 1)=some u1/\w.cell? (pA b 2)=some u2/\w.cell? (pA b 3)=some u3/\w.frozen? (pA b 0)=false/\w.frozen? (pA b 1)=false/\w.frozen? (pA b 2)=false/\w.frozen? (pA b 3)=false:=
 ⟨J0 h,J1 h,J2 h,J3 h,fZ h _,fZ h _,fZ h _,fZ h _⟩
theorem iZ{p:aD}(h:aj p=0):p.1.length<=1000/\∀r∈p.1,r.1.length<=1000:=by obtain⟨c,-,a⟩:=cY h;exact⟨by omega,λr b=>by have:=(dy (cM a r b)).1;omega⟩
theorem BB{p:aD}(h:cB p=0):aj p=0:=by
 unfold cB at h
 by_cases a:aj p=0
 ·exact a
 rw[iO a] at h;exact absurd h a
theorem vz(B pv p w)(hp:aX B w pv p)(hB:B<=w.1.size):
  cL 144 #[pv] w λe f=>∃v,e=.returned (.tuple #[v,U (fS p).2])/\dx w.1.size f v (fS p).1/\bL w f:=by
 have t:=Z λf (h:bL w f)=>tQ B pv p f (hp.l h hB) (h.u hB)
 have u:=Z λ(he:cB p=0) f (h:bL w f)=>pH B pv p f (hp.l h hB) (h.u hB) (iZ (BB he)).1 (iZ (BB he)).2
 have HO:Hid (fS p=if cB p=0 then ((true,[cm p],p),0) else (bn,cB p)):=rfl;have I:Hid (cB p=0->dW p=cm p):=λh=>by rw[dW,Io h]
 obtain⟨b,d⟩:=p;obtain⟨rv,P,-,a,Q,R,-⟩:=hp;simp only at P R;subst R;subst P;have⟨n,hn⟩:=nM (b.length);have HN:=Z hn.symm
 rw[<-hn] at t u |-
 clear hn;have⟨D,l⟩:=nM ((w.alloc (.cells #[.slice a n Q,U d] 30)).alloc (.cells #[.bool false,nL,nL,U 0] 46));have J:=bB l;have S:=sB l;have g0:=gB l;have g1:=gC l;have a8:=Z l
 have T:Hid (∀f,bL D f->Na f w.1.size #[.slice a n Q,U d] 30/\Na f (w.1.size+1) #[.bool false,nL,nL,U 0] 46/\bL w f/\w.1.size+1<f.1.size):=λf h=>⟨h.bk g0,h.bk g1,J.th h,by have:=h.size;omega⟩
 have K:=Z J;have V:=Z S;clear l g0 g1 J S;go_enter func144,ntmps144;go_wp2_with fail;rw[<-a8.o];go_at_call 179;refine(t.o _ K.o).mono ?_;rintro e x ⟨fv,rfl,m,y,z⟩;have⟨G0,G1,j,bd⟩:=T.o x z;obtain⟨fa,fc,ad,-,-⟩:=an m;subst ad;have A:=Z2 z j
 by_cases c:cB (b,d)=0
 ·have o:=Z (by rw[HO.o,Io c]:fS (b,d)=((true,[cm (b,d)],b,d),0));have E:=Z (u.o c)
  rw[I.o c] at m y |-
  rw[c];have M:Hid (x.ownsRow D.1.size 112 4 (.slice fa (cm (b,d)).length fc) (cm (b,d)).length (aJ (cm (b,d)))/\∀i∈cm (b,d),gH i):=⟨m,y⟩;clear m y c HO u I z j t;generalize W:(cm (b,d)).length=fl at*;have af:=Z W;clear W;have⟨W4,q⟩:=nM (x.alloc (.cells #[.slice fa fl fc] 77));have r:=bA q;have ak:=sA q;have g4:=hA q;have s:=A.o.1.th r;have⟨al,ao,F,bf⟩:=T.o W4 s;have av:=Z q;have C:=Z2 s F;have b0:=A.o.1.size;have X:Hid (eA D.1.size W4 (.slice (MZ x) 1 1) [cm (b,d)]):=by refine qW (xs:=[.slice fa fl fc]) ⟨rfl,.inr ⟨x.1.size,1,_,rfl,b0,g4,Ke _,by rw[ai];omega,rfl,rfl⟩⟩ ?_;refine k9.snoc (k9.nil _ _) (aw ?_ r) M.o.2;rw[af.o];exact M.o.1
  have⟨p0,p1⟩:=Q2 (J0 G0) (J1 G0);have bb:w.1.size<x.1.size:=by omega
  clear q r g4 s al ao F G0 G1 ak A;go_wp2_with fail;rw[<-av.o];go_at_call 108;refine(E.o _ C.o.2).mono ?_;rintro e w5 ⟨cv,rfl,N,O⟩;have⟨b1,Y,G,bo⟩:=T.o w5 (C.o.1.th O);have H:=X.o.l lE O;have k:bE D.1.size w5 cv (b,d):=N.keep C.o.1.size (λg _ _=>rfl) lE;have⟨ra,rc,b4⟩:=nH k;subst b4
  simp only[] at k N |-
  have⟨z0,z1,z2,z3,f0,f1,f2,f3⟩:=aL Y;have HF:Hid (eA D.1.size w5 (.slice (MZ x) 1 1) [cm (b,d)]/\bE D.1.size w5 (.agg #[.slice ra n rc,U d]) (b,d)):=⟨H,by rw[<-HN.o];exact k⟩;have b5:=Z G;rw[HN.o];clear H k N O b1 Y G X C M E p0 p1 T;go_wp2_with fail;refine Ka (v:=.tuple #[.agg #[.bool true,.slice (MZ x) 1 1,.slice ra n rc,U d],U 0]) ?_ rfl ⟨_,by rw[o.o],?_,?_⟩
  ·rw[K8 rfl];go_simp
  ·rw[o.o];refine⟨some (pW x 0),1,ra,rc,by simp[HN.o],?_,?_⟩
   ·refine eA.keep (L:=D.1.size) ?_ K.o.size (λg _ _=>rfl) lE;repeat(first|refine eA.put ?_ (.inl (by rw[V.o];omega))|exact HF.o.1)
   simp only[HN.o];refine bE.keep (L:=D.1.size) ?_ K.o.size (λg _ _=>rfl) lE;repeat(first|refine bE.put ?_ (.inl (by rw[V.o];omega))|exact HF.o.2)
  repeat(first|refine Ky ?_ (by show w.1.size<=w.1.size+1;omega) _|exact b5.o)
 have o:=Z (by rw[HO.o,iO c]:fS (b,d)=(bn,cB (b,d)));have hq:(cB (b,d) != 0)=true:=by simpa using c
 have⟨z0,z1,z2,z3,f0,f1,f2,f3⟩:=aL G1;have a0:=Z j;clear m y c HO u I z j t T A G0 G1;generalize cB (b,d)=ce at*;generalize (dW (b,d)).length=fl at*;go_wp2_with fail;refine Ka (v:=.tuple #[.agg #[.bool false,nL,nL,U 0],U ce]) ?_ rfl ⟨_,by rw[o.o],by rw[o.o];exact nZ _ _,?_⟩
 ·rw[K8 rfl];go_simp
 repeat(first|refine Ky ?_ (by show w.1.size<=w.1.size+1;omega) _|exact a0.o)
theorem zH(B S pv c p w)(hc:mO B w S c)(Y:aX B w pv p)(H:B<=w.1.size)(t:aj p=0):
  cL 145 #[S,pv] w λe l=>∃v,e=.returned (.tuple #[v,U (dm c.2.1 c.2.2 p)])/\dx w.1.size l v (if dm c.2.1 c.2.2 p=0 then (true,dt c.2.1 c.2.2 p,p) else bn)/\bL w l:=by
 have m:=Z λl (h:bL w l)=>pH B pv p l (Y.l h H) (h.u H) (iZ t).1 (iZ t).2
 obtain⟨la,lc,ra,rc,rfl,h1,h2⟩:=hc;have u:=Z λl (h:bL w l)=>Ap B _ _ pv c.2.1 c.2.2 p l (h1.l h H) (h2.l h H) (Y.l h H) (h.u H)
 obtain⟨I,d⟩:=p;obtain⟨rv,J,-,a,K,M,-⟩:=Y;simp only at J M;subst M;subst J;clear h1 h2 t;generalize dm c.2.1 c.2.2 (I,d)=te at*;generalize dt c.2.1 c.2.2 (I,d)=tr at*;generalize c.2.1.length=n1 at*;generalize c.2.2.1.length=n2 at*;generalize c.2.2.2=f at*;generalize c.1=op at*;have⟨n,hn⟩:=nM (I.length);have T:=Z hn.symm
 rw[<-hn] at u m |-
 clear hn;have⟨j,b⟩:=nM (((w.alloc (.cells #[.bool op,.slice la n1 lc,.slice ra n2 rc,U f] 46)).alloc (.cells #[.slice a n K,U d] 30)).alloc (.cells #[.bool false,nL,nL,U 0] 46));have x:bL w j:=by rw[b];exact((bR.alloc lE _).alloc (by simp) _).alloc (by simp;omega) _
 have N:j.1.size=w.1.size+1+1+1:=by rw[b];simp
 have g0:Na j w.1.size #[.bool op,.slice la n1 lc,.slice ra n2 rc,U f] 46:=by rw[b];exact aS _ (aS _ (be _ _ rfl))
 have g1:Na j (w.1.size+1) #[.slice a n K,U d] 30:=by rw[b];exact aS _ (be _ _ (by simp only[Kg]))
 have g2:Na j (w.1.size+1+1) #[.bool false,nL,nL,U 0] 46:=by rw[b];exact be _ _ (by simp only[Kg])
 have a2:=Z b;have V:=Z λl (h:bL j l)=>Q3 (h.bk g1) (h.bk g2) (x.th h)
 have O:=Z N;have y:=Z x;clear b g0 g1 g2 x N;go_enter func145,ntmps145;go_wp2_with fail;rw[<-a2.o];go_at_call 180;refine(u.o _ y.o).mono ?_;rintro e w3 ⟨tv,rfl,z,A⟩;have⟨W,G2,q⟩:=V.o w3 A;have⟨ta,tc,a6⟩:=rS z;subst a6;have k:=Z2 A q;have C:=Z z;clear z A q u;generalize P:tr.length=fl at*;have Q:=Z P;clear P
 by_cases o:te=0
 ·subst o;have p0:=J0 W;have p1:=J1 W;clear W G2;go_wp2_with fail;go_at_call 108;refine(m.o _ k.o.2).mono ?_;rintro e X ⟨S,rfl,D,E⟩;have⟨a7,R,r⟩:=V.o X (k.o.1.th E);have s:=C.o.l lE E;have i:bE j.1.size X S (I,d):=D.keep k.o.1.size (λg _ _=>rfl) lE;have⟨F,G,a8⟩:=nH i;subst a8
  simp only[] at i D |-
  have⟨z0,z1,z2,z3,f0,f1,f2,f3⟩:=aL R;have HF:Hid (eA j.1.size X (.slice ta fl tc) tr/\bE j.1.size X (.agg #[.slice F n G,U d]) (I,d)):=⟨s,by rw[<-T.o];exact i⟩;have a9:=Z r;rw[T.o];clear s i D E a7 R r C k m p0 p1 V;go_wp2_with fail;refine Ka (v:=.tuple #[.agg #[.bool true,.slice ta fl tc,.slice F n G,U d],U 0]) ?_ rfl ⟨_,rfl,?_,?_⟩
  ·rw[K8 rfl];go_simp
  ·refine⟨ta,tc,F,G,by simp[T.o,Q.o],?_,?_⟩
   ·simp only[Q.o];refine eA.keep (L:=j.1.size) ?_ y.o.size (λg _ _=>rfl) lE;repeat(first|refine eA.put ?_ (.inl (by rw[O.o];omega))|exact HF.o.1)
   simp only[T.o];refine bE.keep (L:=j.1.size) ?_ y.o.size (λg _ _=>rfl) lE;repeat(first|refine bE.put ?_ (.inl (by rw[O.o];omega))|exact HF.o.2)
  repeat(first|refine Ky ?_ (by show w.1.size<=w.1.size+1+1;omega) _|exact a9.o)
 have hq:(te != 0)=true:=by simpa using o
 have⟨z0,z1,z2,z3,f0,f1,f2,f3⟩:=aL G2;have bo:=Z o;clear o C m V W G2;go_wp2_with fail;refine Ka (v:=.tuple #[.agg #[.bool false,nL,nL,U 0],U te]) ?_ rfl ⟨_,rfl,nZ _ _,?_⟩
 ·rw[K8 rfl];go_simp
 repeat(first|refine Ky ?_ (by show w.1.size<=w.1.size+1+1;omega) _|exact k.o.2)
section
theorem Bq(n:Nat)(f:n<=4294967281)(w:World):(Instr.makeSlice 22 (U n) (U n)).run prog w=.ok (.slice (sO w.1.size) n n) (w.alloc (.cells (madeCells #[.bool false,nL,nL,U 0] (n*4)) 46)):=by
 obtain⟨a,b,c,d,e⟩:=sk;have:=MQ (P:=prog) w 22 46 a _ Tryz.underlying22 b c .i64 .i64 n n (by omega) (LH _) (by rw[e];omega) (by omega);rw[d] at this
 simpa [Value.cells] using this
theorem vF(B g:Nat)(sv l)(d:Array Value)(w)(h:aE B w sv l)(I:B<=g)(z:w.1[g]?=some (.cells d 46 (0,0)))(f:d.size=l.length*4):
  ∃w' xs,(∀A,(Builtin.copy_ #[22,22] A #[.slice (sO g) l.length l.length,sv]).run prog w=.ok (U l.length) w')/\w'.1[g]?=some (.cells xs.toArray 46 (0,0))/\IR B w' xs l/\Below g w w'/\w'.1.size=w.1.size/\∀b,b≠g->w'.1[b]?=w.1[b]?:=by
 obtain⟨J,s,K,C,L⟩:=sk;obtain⟨a,M,rfl,N,O,m⟩:=h;have t:Nat.min l.length l.length=l.length:=Nat.min_self _
 cases a with
 |none=>
  have Q:l=[]:=by
   cases l with
   |nil=>rfl
   |cons r l=>have⟨b,o,e,_⟩:=m 0 r rfl;cases e
  subst Q;have D:d=#[]:=LP (by simpa using f);refine⟨w,[],λA=>?_,by rw[z,D],⟨rfl,λu E=>(by cases E),λi c f=>by simp at f⟩,Kf _ _,rfl,λ_ _=>rfl⟩;simp[Builtin.copy_,KY Tryz.underlying22,Builtin.lenOf,sizeOf,typeInfo,s,Builtin.firstCells,storeCells,goInt]
 |some G=>
  obtain⟨xs,n,p⟩:∃xs,IR B w xs l/\∀j u,xs[j]?=some u->w.cell? (G.add j)=some u:=by
   cases l with
   |nil=>exact⟨[],⟨rfl,λu E=>(by cases E),λi c f=>by simp at f⟩,λj u F=>by simp at F⟩
   |cons r l=>
    have⟨b,o,e,_,_⟩:=m 0 r rfl
    cases e
    obtain⟨xs,R,S⟩:=Gn (b:=b) (o:=o) (l:=r :: l) λi c f=>by
     obtain⟨V,W,e,-,k⟩:=m i c f
     cases e;exact k
    exact⟨xs,R,λj u F=>by rw[eM];exact S j u F⟩
  have q:=n.1;have H:=run_loadCells_list (P:=prog) w G xs p;rw[q] at H;have v:=run_storeCells_at prog g 0 46 xs 0 d w z (by rw[q,f];omega) n.2.1;have x:(d.toList.take (0+0)++xs++d.toList.drop (0+0+xs.length)).toArray=xs.toArray:=by rw[q,LG (by simp[f])];simp
  rw[x] at v;have y:Below g w (w.setRow g xs.toArray):=⟨rfl,rfl,rfl,by simp[World.setRow],λk X=>Mx w g k _ (by omega)⟩;refine⟨w.setRow g xs.toArray,xs,λA=>?_,setRow_heap w g _ _ _ _ z,n.l y I,y,by simp[World.setRow],λb T=>Mx w g b _ T⟩;simp[Builtin.copy_,KY Tryz.underlying22,Builtin.lenOf,Builtin.firstCells,sizeOf,typeInfo,s,C,t,H,v,goInt]
def GU(B L k:Nat)(w:World)(i:Nat)(lv rv:Value)(c:aG):Prop:=
 (i<k->eA L w lv c.2.1/\bE L w (.agg #[rv,U c.2.2.2]) c.2.2)/\(¬i<k->cD B w lv c.2.1/\aX B w (.agg #[rv,U c.2.2.2]) c.2.2)
def oD(B G k:Nat)(l:List aG)(w:World):Prop:=
 ∃xs:List Value,w.1[G]?=some (.cells xs.toArray 46 (0,0))/\xs.length=l.length*4/\(∀u∈xs,u.oneCell'=true)/\∀i c,l[i]?=some c->∃a b,xs[i*4]?=some (.bool c.1)/\xs[i*4+1]?=some a/\xs[i*4+2]?=some b/\xs[i*4+3]?=some (U c.2.2.2)/\GU B (G+1) k w i a b c
theorem uY{B G k:Nat}{w w' i lv rv c}(h:GU B (G+1) k w i lv rv c)(e:B<=G)(b:Below G w w')(f:∀g,g≠G->g<w.1.size->w'.1[g]?=w.1[g]?):GU B (G+1) k w' i lv rv c:=
 ⟨λa=>⟨(h.1 a).1.keep lE (λg j d=>f g (by omega) d) b.size,(h.1 a).2.keep lE (λg j d=>f g (by omega) d) b.size⟩,λa=>⟨(h.2 a).1.l b e,(h.2 a).2.l b e⟩⟩
theorem oD.l{B G k l w w'}(h:oD B G k l w)(d:B<=G)(a:bL w w'):oD B G k l w':=by obtain⟨xs,b,e,f,j⟩:=h;have m:=io b;refine⟨xs,(a.block G m).trans b,e,f,λi c n=>?_⟩;have⟨o,p,q,r,s,t,u⟩:=j i c n;exact⟨o,p,q,r,s,t,uY u d (a.mono (by omega)) λg _ v=>a.block g v⟩
theorem oD.put{B G k l W w}{c:aG}{lv rv:Value}(h:oD B G k l W)(y:B<=G)(o:l[k]?=some c)(s:Below G W w)(b:∀g,G<g->g<W.1.size->w.1[g]?=W.1[g]?)(f:∀xs:List Value,W.1[G]?=some (.cells xs.toArray 46 (0,0))->w.1[G]?=some (.cells (((xs.set (k*4+1) lv).set (k*4+2) rv).set (k*4+3) (U c.2.2.2)).toArray 46 (0,0)))(z:lv.oneCell'=true)(A:rv.oneCell'=true)(p:eA (G+1) w lv c.2.1)(q:bE (G+1) w (.agg #[rv,U c.2.2.2]) c.2.2):oD B G (k+1) l w:=by
 obtain⟨xs,C,D,E,t⟩:=h;have F:k<l.length:=(K9.1 o).1
 have a:∀g,g≠G->g<W.1.size->w.1[g]?=W.1[g]?:=λg M H=>by
  by_cases h:g<G
  ·exact s.block g h
  exact b g (by omega) H
 refine⟨_,f xs C,by simp[D],λu e=>?_,λi d r=>?_⟩
 ·rcases M9 e with e|rfl
  ·rcases M9 e with e|rfl
   ·rcases M9 e with e|rfl
    ·exact E u e
    exact z
   exact A
  rfl
 by_cases I:i=k
 ·subst I;rw[o] at r
  cases r;have⟨j,m,v,J,K,L,x⟩:=t i c o;refine⟨lv,rv,?_,?_,?_,?_,λ_=>⟨p,q⟩,λh=>absurd (Nat.lt_succ_self i) h⟩
  ·rw[Lb (by omega),Lb (by omega),Lb (by omega)];exact v
  ·rw[Lb (by omega),Lb (by omega),LF (by omega)]
  ·rw[Lb (by omega),LF (by simp;omega)]
  rw[LF (by simp;omega)]
 have⟨j,m,v,J,K,L,x⟩:=t i d r;have n:=uY x y s a;refine⟨j,m,?_,?_,?_,?_,λh=>n.1 (by omega),λh=>n.2 (by omega)⟩
 all_goals
  rw[Lb (by omega),Lb (by omega),Lb (by omega)]
  assumption
theorem oD.set{B G L n ci:Nat}{l}{w wF:World}{c:aG}{lv rv:Value}(h:oD B G n l w)(A:L<=G)(x:l.length=n)(C:n<=1000)(D:ci<n)(p:wF=(((w.setCell ⟨G,ci*4,none⟩ (.bool c.1)).setCell ⟨G,ci*4+1,none⟩ lv).setCell ⟨G,ci*4+2,none⟩ rv).setCell ⟨G,ci*4+3,none⟩ (U c.2.2.2))(j:∀b:World,(∀g,L<=g->g≠G->g<w.1.size->b.1[g]?=w.1[g]?)->w.1.size<=b.1.size->cD b.1.size b lv c.2.1/\aX b.1.size b (.agg #[rv,U c.2.2.2]) c.2.2):wG L wF (.slice (sO G) n n) (l.set ci c):=by
 intro b q;obtain⟨xs,E,R,S,F⟩:=h;have H:=ap (o:=ci*4) (u:=.bool c.1) E;have I:=ap (o:=ci*4+1) (u:=lv) H;have J:=ap (o:=ci*4+2) (u:=rv) I;have a:=ap (o:=ci*4+3) (u:=U c.2.2.2) J;rw[<-p] at a;have K:wF.1.size=w.1.size:=by rw[p];simp
 have e:∀g,L<=g->g≠G->g<w.1.size->b.1[g]?=w.1[g]?:=λg M f m=>by rw[q.2 g (Nat.not_lt.2 M) (by omega),p];exact(((Kc _ _ _ _ f).trans (Kc _ _ _ _ f)).trans (Kc _ _ _ _ f)).trans (Kc _ _ _ _ f)
 replace a:=(q.2 G (Nat.not_lt.2 A) (io a)).trans a;have N:=q.size;have r:n<=maxLen:=by rw[ai];omega
 refine⟨some (pA G 0),n,by simp[x],by simp[x],r,λi d k=>⟨G,0,rfl,io a,?_⟩⟩;rw[Kp]
 have s:i<l.length:=by
  have:=(K9.1 k).1
  simpa using this
 by_cases y:i=ci
 ·subst y;rw[LF s] at k
  cases k;obtain⟨O,P⟩:=j b e (by omega);refine⟨lv,rv,ab a _ ?_,ab a _ ?_,ab a _ ?_,ab a _ ?_,O,P⟩
  all_goals
   simp only[KC,Lv,List.size_toArray];repeat(first|rw[Io trivial]|rw[Io (by omega)]|rw[iO (by omega)])
 rw[Lb (LQ y)] at k;have⟨t,v,T,V,W,X,Q⟩:=F i d k;have z:=Q.1 (by omega);refine⟨t,v,ab a _ ?_,ab a _ ?_,ab a _ ?_,ab a _ ?_,z.1 b (λg f m=>e g (by omega) (by omega) m) (by omega),z.2 b (λg f m=>e g (by omega) (by omega) m) (by omega)⟩
 all_goals
  simp only[KC,Lv,List.size_toArray];repeat(rw[iO (by omega)])
  rw[LK]
  assumption
theorem Gl{B G L:Nat}{w}{l:List aG}(h:oD B G l.length l w)(k:L<=G)(v:l.length<=1000):wG L w (.slice (sO G) l.length l.length) l:=by intro e b;obtain⟨xs,a,x,y,m⟩:=h;replace a:=(b.2 G (Nat.not_lt.2 k) (io a)).trans a;refine⟨some (pA G 0),l.length,rfl,Ke _,by rw[ai];omega,λi d f=>⟨G,0,rfl,io a,?_⟩⟩;rw[Kp];have⟨n,o,p,q,r,s,t⟩:=m i d f;have j:=t.1 (K9.1 f).1;exact⟨n,o,ab a _ (by simpa using p),ab a _ (by simpa using q),ab a _ (by simpa using r),ab a _ (by simpa using s),j.1 e (λg u c=>b.2 g (by omega) c) b.size,j.2 e (λg u c=>b.2 g (by omega) c) b.size⟩
structure AC (G k:Nat) (xs:List Value) (W:World) (c:aG) (fs:Nat->Value->Prop) (w:World):Prop where
 below:Below G W w
 keep:∀g,G<g->g<W.1.size->w.1[g]?=W.1[g]?
 chs:∀v,fs 6 v->eA W.1.size w v c.2.1
 pol:∀v,fs 9 v->bE W.1.size w v c.2.2
 row0:(∀u,¬fs 12 u)->w.1[G]?=some (.cells xs.toArray 46 (0,0))
 row1:∀u v,fs 12 u->fs 6 v->(∀x,¬fs 15 x)->w.1[G]?=some (.cells (xs.set (k*4+1) v).toArray 46 (0,0))
 row2:∀u v r d,fs 15 u->fs 6 v->fs 9 (.agg #[r,d])->w.1[G]?=some (.cells (((xs.set (k*4+1) v).set (k*4+2) r).set (k*4+3) d).toArray 46 (0,0))
 two:∀u,fs 12 u->(∃v,fs 6 v)/\∃v,fs 9 v
 last:∀u,fs 15 u->∃v,fs 12 v
 uni6:∀v u,fs 6 v->fs 6 u->v=u
 uni9:∀v u,fs 9 v->fs 9 u->v=u
section
variable {G k:Nat} {xs:List Value} {W w w':World} {c:aG} {fs:Nat->Value->Prop}
theorem AC.start(a:W.1[G]?=some (.cells xs.toArray 46 (0,0))):AC G k xs W c (λ_ _=>False) W.drew:=⟨bR.drew,λ_ _ _=>rfl,λ_ h=>h.elim,λ_ h=>h.elim,λ_=>a,λ_ _ h=>h.elim,λ_ _ _ _ h=>h.elim,λ_ h=>h.elim,λ_ h=>h.elim,λ_ _ h=>h.elim,λ_ _ h=>h.elim⟩
theorem AC.no12(h:AC G k xs W c fs w){j:Nat}(d:j=6\/j=9)(a:∀v,¬fs j v):∀u,¬fs 12 u:=λu e=>by
 have⟨⟨v,f⟩,g,b⟩:=h.two u e
 rcases d with rfl|rfl
 ·exact a _ f
 exact a _ b
theorem AC.no15(h:AC G k xs W c fs w)(a:∀u,¬fs 12 u):∀u,¬fs 15 u:=λu b=>(h.last u b).elim a
theorem eU{j m u v}(h:d9 fs j u m v)(a:m≠j):fs m v:=by
 rcases h with h|⟨e,_⟩
 ·exact h
 exact absurd e a
theorem AC.made(h:AC G k xs W c fs w){j:Nat}(A:j=6\/j=9)(l:∀v,¬fs j v)(H:G<W.1.size)(p:bL w w'){u}(B:j=6->eA w.1.size w' u c.2.1)(C:j=9->bE w.1.size w' u c.2.2):AC G k xs W c (d9 fs j u) w':=by
 have n:=h.no12 A l;have x:=h.no15 n;have q:∀i,¬d9 fs j u 12 i:=λi f=>n _ (eU f (by omega))
 have s:∀i,¬d9 fs j u 15 i:=λi f=>x _ (eU f (by omega))
 have y:=h.below.size
 have t:∀m,(∀v o,fs m v->fs m o->v=o)->∀v o,d9 fs j u m v->d9 fs j u m o->v=o:=λm D v o b a=>by
  rcases b with b|⟨e,rfl⟩
  ·rcases a with a|⟨z,rfl⟩
   ·exact D v o b a
   subst z;exact absurd b (l _)
  rcases a with a|⟨z,rfl⟩
  ·subst e;exact absurd a (l _)
  rfl
 refine⟨h.below.trans (p.mono (by omega)),λg E F=>(p.block g (by omega)).trans (h.keep g E F),λv b=>?_,λv b=>?_,λ_=>(p.block G (by omega)).trans (h.row0 n),λi v f _ _=>absurd f (q _),λi v r d f _ _=>absurd f (s _),λi f=>absurd f (q _),λi f=>absurd f (s _),t 6 h.uni6,t 9 h.uni9⟩
 ·rcases b with b|⟨e,rfl⟩
  ·exact(h.chs v b).l lE p
  exact(B e.symm).keep y (λ_ _ _=>rfl) lE
 rcases b with b|⟨e,rfl⟩
 ·exact(h.pol v b).l lE p
 exact(C e.symm).keep y (λ_ _ _=>rfl) lE
theorem AC.store(h:AC G k xs W c fs w)(i:∀v,¬fs 12 v){f q:Value}(s:fs 6 f)(x:fs 9 q)(t:G<W.1.size):AC G k xs W c (d9 fs 12 undef) (w.setCell ⟨G,k*4+1,none⟩ f):=by
 have m:=h.no15 i;have y:=ap (o:=k*4+1) (u:=f) (h.row0 i);have j:∀l,¬d9 fs 12 undef 15 l:=λl b=>m _ (eU b (by decide))
 refine⟨h.below.setCell (p:=⟨G,k*4+1,none⟩) lE _,λg z A=>(Kc _ _ _ _ (by show g≠G;omega)).trans (h.keep g z A),λv a=>(h.chs v (eU a (by decide))).put (.inl t),λv a=>(h.pol v (eU a (by decide))).put (.inl t),λB=>absurd (.inr ⟨rfl,rfl⟩) (B undef),λu v b a _=>?_,λl v r d b _ _=>absurd b (j _),λu b=>⟨⟨f,.inl s⟩,q,.inl x⟩,λl b=>absurd b (j _),λv n a e=>h.uni6 v n (eU a (by decide)) (eU e (by decide)),λv n a e=>h.uni9 v n (eU a (by decide)) (eU e (by decide))⟩;have:v=f:=h.uni6 v f (eU a (by decide)) s;subst this;rw[y];simp
theorem AC.store2(h:AC G k xs W c fs w)(l:∀v,¬fs 15 v){m b r d:Value}(s:fs 6 m)(x:fs 9 (.agg #[r,d]))(e:fs 12 b)(i:G<W.1.size):AC G k xs W c (d9 fs 15 undef) ((w.setCell ⟨G,k*4+2,none⟩ r).setCell ⟨G,k*4+3,none⟩ d):=by have y:=ap (o:=k*4+3) (u:=d) (ap (o:=k*4+2) (u:=r) (h.row1 _ _ e s l));refine⟨(h.below.setCell (p:=⟨G,k*4+2,none⟩) lE _).setCell (p:=⟨G,k*4+3,none⟩) lE _,λg z A=>((Kc _ _ _ _ (by show g≠G;omega)).trans (Kc _ _ _ _ (by show g≠G;omega))).trans (h.keep g z A),λv a=>((h.chs v (eU a (by decide))).put (.inl i)).put (.inl i),λv a=>((h.pol v (eU a (by decide))).put (.inl i)).put (.inl i),λn=>absurd (.inl e) (n b),λu v j a n=>absurd (.inr ⟨rfl,rfl⟩) (n undef),λB v E F j a C=>?_,λu j=>h.two u (eU j (by decide)) |>.imp (λ⟨v,a⟩=>⟨v,.inl a⟩) (λ⟨v,a⟩=>⟨v,.inl a⟩),λB j=>⟨b,.inl e⟩,λv q a f=>h.uni6 v q (eU a (by decide)) (eU f (by decide)),λv q a f=>h.uni9 v q (eU a (by decide)) (eU f (by decide))⟩;have D:v=m:=h.uni6 v m (eU a (by decide)) s;have t:=h.uni9 _ _ (eU C (by decide)) x;simp at t;obtain⟨rfl,rfl⟩:=t;subst D;rw[y];simp
end
end
def CM(c:aG):Prop:=c.2.1.length<=1000/\(∀f∈c.2.1,f.length<=100000)/\c.2.2.1.length<=1000/\∀r∈c.2.2.1,r.1.length<=1000
theorem yL{c:aG}(h:dw c=0):CM c:=by
 obtain⟨o,b,j,d⟩:=c
 cases o with
 |false=>
  rw[qq] at h
  by_cases g:(false,b,j,d)=bn
  ·rw[g];exact⟨by simp[bn],λf e=>by simp[bn] at e,by simp[bn],λr k=>by simp[bn] at k⟩
  rw[iO g] at h
  cases h
 |true=>
  rw[qb] at h
  by_cases i:b.length=0
  ·rw[Io i] at h
   cases h
  rw[iO i] at h
  by_cases a:bl b=0
  ·rw[Io a] at h;exact⟨by have:=(fA.1 a).1;simp only;omega,λf e=>Kl (nK ((fA.1 a).2 f e)).2.1 (by decide),(iZ h).1,(iZ h).2⟩
  rw[iO a] at h;exact absurd h a
def Jq(b:Nat)(u1 u2 u3:Value):Type:={ w':World // w'.cell? (pA b 1)=some u1/\w'.cell? (pA b 2)=some u2/\w'.cell? (pA b 3)=some u3 }
theorem ww(B lv l w)(hl:aE B w lv l)(hB:B<=w.1.size)(hn:l.length<=1000)(b4:∀c∈l,CM c):
  cL 84 #[lv] w λe b=>e=.returned (.slice (sO w.1.size) l.length l.length)/\oD B w.1.size l.length l b/\bL w b:=by
 have b5:=Z b4;obtain⟨a,er,a7,-⟩:=id hl;have⟨n,T⟩:=nM (l.length);have HN:=Z T.symm;have K:=λw=>Bq n (by omega) w
 have⟨mc,a8⟩:=nM (madeCells #[.bool false,nL,nL,U 0] (n*4));rw[<-a8] at K;have cl:=K;have Y:mc.size=n*4:=by rw[a8,LS]
 clear K a8;have⟨W1,L⟩:=nM (w.alloc (.cells mc 46));have cn:=sA L;have aa:=bA L;have g1:Na W1 w.1.size mc 46:=by rw[L];exact be _ _ rfl
 obtain⟨W3,cp,M,g3,V,a0,cs,cv⟩:=vF B w.1.size lv l mc W1 (hl.l aa hB) hB g1 (by rw[Y,T]);have b6:=aa.trans a0
 have b7:Hid (oD B w.1.size 0 l W3):=⟨cp,g3,V.1,V.2.1,λi c hc=>by
  have⟨lv,rv,e0,e1,e2,e3,e4,e5⟩:=V.2.2 i c hc
  exact⟨lv,rv,e0,e1,e2,e3,λh=>absurd h (by omega),λ_=>⟨e4,e5⟩⟩⟩
 have x:=Z hB;have b8:=Z2 b6 (by omega:w.1.size+1<=W3.1.size);subst a7
 rw[<-T] at M hn |-
 have a1:Hid _:=M;have b9:=Z L;clear L g1 V a0 cs cv b6 aa cn Y g3 hl hB M b4;clear T;have eu:=ai;go_enter func84,ntmps84;go_wp2_with fail;rw[<-b9.o,a1.o];clear cl;go_wp2_with fail;go_loopw [14] (λiv wr=>∃k:Nat,k<=n/\iv=U k/\Hid (oD B w.1.size k l wr)/\Hid (bL w wr/\w.1.size+1<=wr.1.size)) (λiv _=>n-(intOf iv).toNat)
 case atStart=>exact⟨0,by omega,rfl,b7,b8⟩
 case round=>
  clear b7 b8 a1 b9;obtain⟨k,hk,rfl,HC,N⟩:=hrel;have⟨q,d0⟩:=nM (wr);subst d0;have k0:(0:Int)<=(k:Int):=by omega
  by_cases ew:k<n
  ·have k1:(k:Int)<(n:Int):=by omega
   obtain⟨c,W⟩:∃c,l[k]?=some c:=⟨l[k]'(by rw[HN.o];omega),by simp⟩;have d1:=Z W;have⟨s1,s2,s3,s4⟩:=b5.o c (Kb W);obtain⟨xs,y,A,ba,bb⟩:=HC.o;have⟨lv,rv,e0,e1,e2,e3,e4⟩:=bb k c W;obtain⟨C,ac⟩:=e4.2 (by omega);obtain⟨D,E,a7,-⟩:=C.shape;obtain⟨ey,bc,bd,H,I,bf,-⟩:=id ac;simp at bc;subst bc;subst bf;subst a7;have c0:q.cell? ⟨w.1.size,k*4,none⟩=some (.bool c.1):=ab y _ (by simpa using e0);have c1:q.cell? ⟨w.1.size,k*4+1,none⟩=some (.slice D c.2.1.length E):=ab y _ (by simpa using e1);have c2:q.cell? ⟨w.1.size,k*4+2,none⟩=some (.slice H c.2.2.1.length I):=ab y _ (by simpa using e2);have c3:q.cell? ⟨w.1.size,k*4+3,none⟩=some (U c.2.2.2):=ab y _ (by simpa using e3);have⟨W5,O⟩:=nM (q.alloc (.cells #[.bool c.1,.slice D c.2.1.length E,.slice H c.2.2.1.length I,U c.2.2.2] 46));have P:=bA O;have bg:=sA O;have g5:=hA O;have bk:=P.bl y;have bm:=Z (HC.o.l x.o P);have a4:=N.o.1.th P
   have ad:Hid (∀b,bL w b->cD B b (.slice D c.2.1.length E) c.2.1->cL 107 #[.slice D c.2.1.length E] b λe ae=>∃v,e=.returned v/\eA b.1.size ae v c.2.1/\bL b ae):=λb h h1=>(vH B _ c.2.1 b h1 (h.u x.o) s1 s2).mono λe ae ⟨v,h2,ys,h3,h4,h5⟩=>⟨v,h2,qW h3 h4,h5⟩
   have X:=Z λb (h:bL w b) (h1:aX B b (.agg #[.slice H c.2.2.1.length I,U c.2.2.2]) c.2.2)=>pH B _ c.2.2 b h1 (h.u x.o) s3 s4
   have F:Hid (∀b,Below w.1.size W5 b->cD B b (.slice D c.2.1.length E) c.2.1/\aX B b (.agg #[.slice H c.2.2.1.length I,U c.2.2.2]) c.2.2/\bL w b):=λb h=>by have hb:=(P.mono (by have:=N.o.1.size;omega)).trans h;exact⟨C.l hb x.o,ac.l hb x.o,N.o.1.trans hb⟩
   have d:Hid (Na W5 q.1.size #[.bool c.1,.slice D c.2.1.length E,.slice H c.2.2.1.length I,U c.2.2.2] 46/\Na W5 w.1.size xs.toArray 46/\xs.length=n*4/\w.1.size<q.1.size/\W5.1.size=q.1.size+1/\bL w W5):=⟨g5,bk,by rw[A,HN.o],by have:=N.o.2;omega,bg,a4⟩;have G:=Z O;have ee:=Z bd;have f1:=Z ba;have f4:Hid (c=c):=rfl;clear O P bg g5 bk a4 C ac bd e0 e1 e2 e3 e4 bb y A ba W HC s1 s2 s3 s4 b5;have⟨t,ak⟩:=nM (c.2.1.length);have⟨J,al⟩:=nM (c.2.2.1.length);have⟨Q,ao⟩:=nM (c.2.2.2);have⟨co,bo⟩:=nM (c.1);have R:=Z3 ak.symm al.symm ao.symm;rw[<-ak] at ad F d G c1;rw[<-al] at X F d G c2;rw[<-ao] at X F d G c3;rw[<-bo] at d G c0;clear ak al ao bo;have av:Nonempty (Jq q.1.size (.slice D t E) (.slice H J I) (U Q)):=⟨⟨W5,J1 d.o.1,J2 d.o.1,J3 d.o.1⟩⟩;have s:Hid (∀fs b,AC w.1.size k xs W5 c fs b->∃z:Jq q.1.size (.slice D t E) (.slice H J I) (U Q),b=z.1):=λfs b h=>by have g:=(h.keep q.1.size d.o.2.2.2.1 (by rw[d.o.2.2.2.2.1];omega)).trans d.o.1;exact⟨⟨b,J1 g,J2 g,J3 g⟩,rfl⟩
   have q1:∀z:Jq q.1.size (.slice D t E) (.slice H J I) (U Q),z.1.cell? (pW q 1)=some (.slice D t E):=λz=>z.2.1
   have q2:∀z:Jq q.1.size (.slice D t E) (.slice H J I) (U Q),z.1.cell? (pW q 2)=some (.slice H J I):=λz=>z.2.2.1
   have q3:∀z:Jq q.1.size (.slice D t E) (.slice H J I) (U Q),z.1.cell? (pW q 3)=some (U Q):=λz=>z.2.2.2
   obtain⟨S,hS⟩:∃S:Nat->Value->Prop,S=λj v=>(j=6->∃a c,v=.slice a t c)/\(j=9->∃a c,v=.agg #[.slice a J c,U Q]):=⟨_,rfl⟩
   have bp:Hid (∀v,S 6 v ↔ ∃a c,v=.slice a t c):=λv=>by rw[hS];simp
   have bq:Hid (∀v,S 9 v ↔ ∃a c,v=.agg #[.slice a J c,U Q]):=λv=>by rw[hS];simp
   have br:=Z (by rw[hS];exact⟨λe=>absurd e (by decide),λe=>absurd e (by decide)⟩:S 15 undef);have bs:=Z (by rw[hS];exact⟨λe=>absurd e (by decide),λe=>absurd e (by decide)⟩:S 12 undef)
   have d6:Hid (∀j,∃v,S j v):=λj=>by
    rw[hS]
    by_cases h9:j=9
    ·exact⟨.agg #[.slice none J 0,U Q],λe=>by omega,λ_=>⟨_,_,rfl⟩⟩
    exact⟨.slice none t 0,λ_=>⟨_,_,rfl⟩,λe=>absurd e h9⟩
   clear hS;go_wp2_with fail;rw[<-G.o];clear c0 c1 c2 c3 G;refine iP (l:=[_,_,_,_,_,_,_,_,_,_,_,_,_,_,_,_]) (λk=>k==6||k==9||k==12||k==15) (AC w.1.size k xs W5 c) S d6.o (by kernel_rfl) (by kernel_rfl) (AC.start d.o.2.1) ?_;iterate 6(refine aP s.o rfl rfl ?_;go_big_quiet_step (fail);refine Km ?_)
   refine bw 107 #[.slice D t E] rfl rfl (λb=>by kernel_rfl) (λgs b p m o=>?_) (λv6 dc=>?_)
   ·have⟨t1,t2,t3⟩:=F.o b p.below;refine(ad.o b t3 t1).mono ?_;rintro e w4 ⟨v,rfl,r,hb⟩;have⟨va,vc,ev⟩:=rS r;rw[R.o.1] at ev;exact⟨_,rfl,(bp.o _).2 ⟨_,_,ev⟩,p.made (.inl rfl) o (io d.o.2.1) hb (λ_=>r) (λe=>by cases e)⟩
   go_frame;obtain⟨a6,c6,rfl⟩:=(bp.o _).1 dc;iterate 2(refine aP s.o rfl rfl ?_;go_big_quiet_step (fail);refine Km ?_)
   refine bw 108 #[.agg #[.slice H J I,U Q]] rfl rfl (λb=>by kernel_rfl) (λgs b p m o=>?_) (λv9 de=>?_)
   ·have⟨t1,t2,t3⟩:=F.o b p.below;refine(X.o b t3 t2).mono ?_;rintro e w4 ⟨v,rfl,r,hb⟩;have⟨va,vc,ev⟩:=nH r;rw[R.o.2.1,R.o.2.2] at ev;exact⟨_,rfl,(bq.o _).2 ⟨_,_,ev⟩,p.made (.inr rfl) o (io d.o.2.1) hb (λe=>by cases e) (λ_=>r)⟩
   go_frame;obtain⟨a9,c9,rfl⟩:=(bq.o _).1 de;iterate 2(refine aP s.o rfl rfl ?_;go_big_quiet_step (fail);refine Km ?_)
   refine fL rfl rfl (λgs b p m o=>?_) (λfb em=>?_)
   ·have h6:=m 6 _ (.inl (.inr ⟨rfl,rfl⟩)) (au (by kernel_rfl));have h9:=m 9 _ (.inr ⟨rfl,rfl⟩) (au (by kernel_rfl));have f:=p.row0 o;have A:=d.o.2.2.1;obtain⟨u0,fc⟩:∃u,b.cell? ⟨w.1.size,k*4+1,none⟩=some u:=⟨xs[k*4+1]'(by omega),ab f _ (by simp)⟩;have f0:b.frozen? ⟨w.1.size,k*4+1,none⟩=false:=by simp[World.frozen?,f]
    refine⟨b.setCell ⟨w.1.size,k*4+1,none⟩ (.slice a6 t c6),?_,bs.o,p.store o h6 h9 (io d.o.2.1)⟩;clear p m o q1 q2 q3 s av h6 h9 f A;go_simp
   go_frame;iterate 2(refine aP s.o rfl rfl ?_;go_big_quiet_step (fail);refine Km ?_)
   refine fL rfl rfl (λgs b p m o=>?_) (λfd en=>?_)
   ·have h6:=m 6 _ (.inl (.inl (.inr ⟨rfl,rfl⟩))) (au (by kernel_rfl));have h9:=m 9 _ (.inl (.inr ⟨rfl,rfl⟩)) (au (by kernel_rfl));have b1:=m 12 _ (.inr ⟨rfl,rfl⟩) (au (by kernel_rfl));have f:=p.row1 _ _ b1 h6 o;have A:=d.o.2.2.1;obtain⟨u2,fe⟩:∃u,b.cell? ⟨w.1.size,k*4+2,none⟩=some u:=⟨(xs.set (k*4+1) (.slice a6 t c6))[k*4+2]'(by simp;omega),ab f _ (by simp)⟩;obtain⟨u3,fi⟩:∃u,b.cell? ⟨w.1.size,k*4+3,none⟩=some u:=⟨(xs.set (k*4+1) (.slice a6 t c6))[k*4+3]'(by simp;omega),ab f _ (by simp)⟩;have f2:b.frozen? ⟨w.1.size,k*4+2,none⟩=false:=by simp[World.frozen?,f]
    have f3:b.frozen? ⟨w.1.size,k*4+3,none⟩=false:=by simp[World.frozen?,f]
    refine⟨(b.setCell ⟨w.1.size,k*4+2,none⟩ (.slice a9 J c9)).setCell ⟨w.1.size,k*4+3,none⟩ (U Q),?_,br.o,p.store2 o h6 h9 b1 (io d.o.2.1)⟩;clear p m o q1 q2 q3 s av h6 h9 b1 f A;go_simp
   go_frame;refine ei ?_;intro w8 p;have C:=p.chs _ (.inl (.inl (.inl (.inr ⟨rfl,rfl⟩))));have bx:=p.pol _ (.inl (.inl (.inr ⟨rfl,rfl⟩)));have f:=p.row2 _ _ _ _ (.inr ⟨rfl,rfl⟩) (.inl (.inl (.inl (.inr ⟨rfl,rfl⟩)))) (.inl (.inl (.inr ⟨rfl,rfl⟩)));have di:=io d.o.2.1;have dk:=p.below.size
   have bz:Hid (oD B w.1.size (k+1) l w8/\bL w w8/\w.1.size+1<=w8.1.size):=by
    refine⟨oD.put (lv:=.slice a6 t c6) (rv:=.slice a9 J c9) bm.o x.o d1.o p.below p.keep (λys bF=>?_) rfl rfl ?_ ?_,d.o.2.2.2.2.2.trans p.below,by omega⟩
    ·rw[d.o.2.1] at bF;have:xs=ys:=by simpa using bF
     subst this;rw[f,R.o.2.2]
    ·exact C.keep (by omega) (λ_ _ _=>rfl) lE
    rw[R.o.2.2];exact bx.keep (by omega) (λ_ _ _=>rfl) lE
   clear p C bx f di dk q1 q2 q3 s av ad X F d bm;go_wp2_with fail;exact⟨⟨k+1,by omega,by go_num,bz.o.1,bz.o.2⟩,by simp[intOf];omega⟩
  have e:k=n:=by omega
  subst e;have k1:¬((k:Int)<(k:Int)):=by omega
  go_wp2_with fail;go_ret;exact⟨rfl,HC.o,N.o.1⟩
theorem Cz(s:ByteArray)(Y:s.size<=60000)(w)(he:dD w)(hk:bt kN ((ar s.1.1).getD 0 [])=2)(hn:(ar s.1.1).length=3):oU s w:=by
 have HE:=Z λa (h:bL w a)=>he.l h
 clear he;have⟨Q,q,b1,b2,R,a0⟩:=il s Y;have HM:=Z q;have S:=Z R;obtain⟨u0,F⟩:∃u,Q[0]?=some u:=⟨Q[0]'(by omega),by simp⟩;have b4:=R u0 (Kb F);have a2:(ar s.1.1).getD 0 []=u0.1.1:=by rw[<-q,Kn,Ku,F];rfl
 have l:(ar s.1.1).length=Q.length:=by rw[<-q];simp
 have⟨W0,G⟩:=nM (w.alloc (.cells #[U 0,U 0,U 0,nL,U 0] 70));have g0:=hA G;have T:=bA G;have V:=Z λa (h:bL W0 a)=>Q2 (h.bl g0) (T.th h)
 have⟨mm,hm⟩:=(HE.o W0 T).1;have t:Hid _:=a0 mm W0 hm;have HW:=Z G;clear G g0 T a0 hm q R;rw[l] at hn;obtain⟨H,I⟩:∃u,Q[1]?=some u:=⟨Q[1]'(by omega),by simp⟩;have b6:=S.o H (Kb I);have a3:(ar s.1.1).getD 1 []=H.1.1:=by rw[<-HM.o,Kn,Ku,I];rfl
 obtain⟨x,J⟩:∃u,Q[2]?=some u:=⟨Q[2]'(by omega),by simp⟩;have b7:=S.o x (Kb J);have a4:(ar s.1.1).getD 2 []=x.1.1:=by rw[<-HM.o,Kn,Ku,J];rfl
 have M:Hid (gm s.1.1=match cS H.1.1 with|none=>(cu,1)|some c=>(match cS x.1.1 with|none=>(cu,1)|some f=>((3,c,f,[],0),0))):=by
  unfold Hid gm;rw[hk,l,hn,a3,a4,iO (by omega)]
  cases cS H.1.1 with
  |none=>rfl
  |some c=>cases cS x.1.1<;>rfl
 have b8:Hid (∀a,cL 173 #[.string u0] a (rT a (.tuple #[U 3,.bool true]))):=λa=>by have:=kt u0 a;rw[<-a2,hk] at this;exact this
 have b9:Hid (∀a,cL 174 #[U 3] a λe y=>e=.returned (U 3)/\y=a):=λa=>ni (by decide) a
 have ba:Hid (∀a,bL w a->cL 175 #[.string H] a λe y=>∃n ok,e=.returned (.tuple #[U n,.bool ok])/\(cS H.1.1=if ok=true then some n else none)/\wf n/\bL a y):=λa h=>kV H (by omega) a (HE.o a h)
 have bb:Hid (∀a,bL w a->cL 175 #[.string x] a λe y=>∃n ok,e=.returned (.tuple #[U n,.bool ok])/\(cS x.1.1=if ok=true then some n else none)/\wf n/\bL a y):=λa h=>kV x (by omega) a (HE.o a h)
 have HU:=Z3 F I J;rw[hn] at t;clear a2 l F b4 I b6 a3 J b7 a4 hk hn b1 b2 S HM HE;go_enter func139,ntmps139;go_wp2_with fail;rw[<-HW.o];go_at_call 106;refine Calls.mono t.o ?_;rintro e w1 ⟨SB,ce,rfl,cf,ci,a5,a6,z,g⟩;have x0:=g 0 u0 HU.o.1
 have HX:Hid (∀a,bL w1 a->a.cell? (pA SB 1)=some (.string H)/\a.cell? (pA SB 2)=some (.string x)):=λa h=>⟨(h.cell (p:=pA SB 1) z).trans (g 1 H HU.o.2.1),(h.cell (p:=pA SB 2) z).trans (g 2 x HU.o.2.2)⟩
 have bf:=Z a5;clear g t HW a6 a5;go_wp2_with fail;go_at_call 173;refine Calls.mono (b8.o _) ?_;rintro e w2 ⟨rfl,A⟩;have bg:=Z A;have x1:=(HX.o w2 A).1;have a7:=Kd z A.size;have a8:=Z (bf.o.th A);clear A x0;go_wp2_with fail;go_at_call 174;refine Calls.mono (b9.o _) ?_;rintro e w3 ⟨rfl,rfl⟩;go_wp2_with fail;go_at_call 175;refine Calls.mono (ba.o _ (V.o _ a8.o).2) ?_;rintro e E ⟨n,ok,rfl,r,N,B⟩;have o:=a8.o.th B;have a9:=Kd a7 B.size;have aa:Hid (∀a,bL E a->a.cell? (pA SB 2)=some (.string x)):=λa h=>((h.cell (p:=pA SB 2) a9).trans (B.cell (p:=pA SB 2) a7)).trans (HX.o w3 bg.o).2
 clear HX x1
 cases ok with
 |false=>
  have b:=Z (by rw[M.o,r];rfl:gm s.1.1=(cu,1));have j:=o;clear r B o;have⟨d,k⟩:=V.o E j;have lb:=io d;have⟨z0,z1,z2,z3,z4⟩:=aF d;have f0:=fZ d 0;have f1:=fZ d 1;have f2:=fZ d 2;have f3:=fZ d 3;have f4:=fZ d 4;have C:=Z k;clear d k j;go_wp2_with fail;refine Ka (v:=.tuple #[.agg #[U 0,U 0,U 0,nL,U 0],U 1]) ?_ rfl ⟨_,by rw[b.o],by rw[b.o];exact dg _ _,?_⟩
  ·rw[K8 rfl];go_simp
  exact(C.o.s5 lE)
 |true=>
  have D:=Z (by rw[M.o,r];rfl:gm s.1.1=match cS x.1.1 with|none=>(cu,1)|some f=>((3,n,f,[],0),0));have bk:=Z N;have⟨W5,K⟩:=nM (E.alloc (.cells #[U 3,U n,U 0,nL,U 0] 70));have W:=bA K;have g5:=hA K;have x4:=aa.o E bR;have X:=o.th W;have l5:=io g5;have ac:=bb.o W5 (V.o W5 X).2;have O:Hid _:=ac;have ad:=Z λa (h:bL W5 a)=>Q2 ((h.block _ l5).trans g5:Na a E.1.size #[U 3,U n,U 0,nL,U 0] 70) (X.th h)
  have cs:=Z o.size;have ae:=Z (Mc (io (V.o E o).1));have cv:¬w.1.size=E.1.size:=by have:=io (V.o E o).1;omega
  have af:=Z K;have bp:=Kd a9 W.size;clear K W g5 X o B r N ac aa;go_wp2_with fail;rw[<-af.o];go_at_call 175;refine Calls.mono O.o ?_;rintro e w6 ⟨m,br,rfl,i,P,ak⟩;have⟨g6,L⟩:=ad.o w6 ak;have l6:=io g6;have⟨q0,q1,q2,q3,q4⟩:=aF g6;have fq:=fZ g6 2;have bs:=Z P;clear O ad x4 l5 bp ak af P g6
  cases br with
  |false=>
   have b:=Z (by rw[D.o,i];rfl:gm s.1.1=(cu,1));have j:=L;clear i L;have⟨d,k⟩:=V.o w6 j;have lb:=io d;have⟨z0,z1,z2,z3,z4⟩:=aF d;have f0:=fZ d 0;have f1:=fZ d 1;have f2:=fZ d 2;have f3:=fZ d 3;have f4:=fZ d 4;have C:=Z k;clear d k j;go_wp2_with fail;refine Ka (v:=.tuple #[.agg #[U 0,U 0,U 0,nL,U 0],U 1]) ?_ rfl ⟨_,by rw[b.o],by rw[b.o];exact dg _ _,?_⟩
   ·rw[K8 rfl];go_simp
   exact((((((C.o.setCell (p:=pW E 2) ae.o _).setCell (p:=pW w 0) lE _).setCell (p:=pW w 1) lE _).setCell (p:=pW w 2) lE _).setCell (p:=pW w 3) lE _).setCell (p:=pW w 4) lE _)
  |true=>
   have b:=Z (by rw[D.o,i];rfl:gm s.1.1=((3,n,m,[],0),0));have j:=L;clear i L;have⟨d,k⟩:=V.o w6 j;have lb:=io d;have⟨z0,z1,z2,z3,z4⟩:=aF d;have f0:=fZ d 0;have f1:=fZ d 1;have f2:=fZ d 2;have f3:=fZ d 3;have f4:=fZ d 4;have C:=Z k;clear d k j;go_wp2_with fail;refine Ka (v:=.tuple #[.agg #[U 3,U n,U m,nL,U 0],U 0]) ?_ rfl ⟨_,by rw[b.o],by rw[b.o];exact λwF _ _=>⟨_,rfl,(by unfold wf;decide:wf (3:Int)),bk.o,bs.o,bV _ _⟩,?_⟩
   ·rw[K8 rfl];go_simp
   exact((((((C.o.setCell (p:=pW E 2) ae.o _).setCell (p:=pW w 0) lE _).setCell (p:=pW w 1) lE _).setCell (p:=pW w 2) lE _).setCell (p:=pW w 3) lE _).setCell (p:=pW w 4) lE _)
