import Derived.Test.YtjdnfhkkkejcfaaGreatDoorWd29
import Derived.Test.YtjdnfhkkkejcfaaGreatDoorWd30
set_option linter.all false
set_option maxRecDepth 100000
set_option maxHeartbeats 16000000
namespace Go.Proofs.YtjdnfhkkkejcfaaGreatDoor
open Go.RowKit Go.Maps Go.Proofs.Tryz
section
section
variable {P:Program} {ops:Array Oper} {md:Region.Mode} {J:(Nat->Value->Prop)->World->Prop} {S:Nat->Value->Prop} {ks:Nat->Bool} {B:(Nat->Value->Prop)->Act->Prop}
def qO(P:Program)(md:Region.Mode)(ops:Array Oper)(J:(Nat->Value->Prop)->World->Prop)(S:Nat->Value->Prop)(ks:Nat->Bool)(B:(Nat->Value->Prop)->Act->Prop):Nat->Array Bool->(Nat->Value->Prop)->Act->Prop
 |0,b,d,a=>Region.ready md ops b=[]/\B d a
 |c+1,b,d,a=>Region.ready md ops b≠[]/\∀i∈Region.ready md ops b,Cs P ops md J S ks i (qO P md ops J S ks B c (b.setIfInBounds i true)) d a
theorem kZ{Q:Exit->Act->World->Prop}
  (p:∀f a w,J f w->B f a->Q .normal a w):
  ∀ (c:Nat) (b:Array Bool) (f:Nat->Value->Prop) (a:Act) (w:World),J f w->(∀m v,f m v->b.getD m true=true)->qO P md ops J S ks B c b f a->wpAny P md ops Q c b a w
 |0,b,f,a,w,j,n,h=>⟨h.1,p f a w j h.2⟩
 |c+1,b,f,a,w,j,n,h=>by
  obtain⟨C,D⟩:=h;refine⟨λE=>absurd E C,λi A=>?_⟩;have k:=D i A;have⟨g,_,_,_⟩:=Mq.1 A
  have e:∀m,b.getD m true=true->(b.setIfInBounds i true).getD m true=true:=λm d=>by
   by_cases q:i=m
   ·subst q;rw[g] at d
    cases d
   rw[Mh true q];exact d
  have l:(b.setIfInBounds i true).getD i true=true:=by
   rcases MU i b.size with t|t
   ·simp[t]
   simp[LZ t]
  unfold Cs at k;unfold wpOp
  split
  ·rename_i x;simp only[x] at k;exact kZ p c _ _ _ _ j (λm v d=>e m (n m v d)) k
  rename_i o x;simp only[x] at k
  split at k
  ·obtain⟨⟨r,z⟩,s⟩:=k;simp only[r,Lr];refine .inl (za (z f w j (λm v d _=>d) λv F=>?_) λv G ⟨H,I⟩=>?_)
   ·have:=n i v F;rw[g] at this
    cases this
   refine kZ p c _ (d9 f i v) _ G I (λm u d=>?_) (s v H)
   rcases d with d|⟨rfl,rfl⟩
   ·exact e m (n m u d)
   exact l
  obtain⟨v,y,s⟩:=k
  rcases y with ⟨r,z⟩|⟨r,rfl⟩
  ·simp only[r,Lr];exact .inl (o7 (z w ⟨f,j⟩) (kZ p c _ _ _ _ j (λm v d=>e m (n m v d)) s))
  simp only[r,Bool.false_eq_true,if_false];exact kZ p c _ _ _ _ j (λm v d=>e m (n m v d)) s
theorem Be{i:Nat}{n:Oper}{v}(L:ops[i]?=some n)(q:ks i=false)(s:∀ (j:Nat) (o:Oper) A b,ops[j]?=some o->o.op≠.select A b):
  ∀ (f:Nat) (c:Array Bool) (C:Nat->Value->Prop) (a:Act),
   (∀j l,ops[j]?=some l->j≠i->c.getD j true=false->(∀e∈l.after,Region.binds md e=true->e.on≠i)->n.apart ops l=true)->
   i∈Region.ready md ops c->YR P ops (FV J) n v a->
   qO P md ops J S ks B f (c.setIfInBounds i true) C (a.put n.dst v)->qO P md ops J S ks B (f+1) c C a:=by
 intro f
 induction f with
 |zero=>
  intro c C a _ t K H;refine⟨λh=>(by rw[h] at t;cases t),λj D=>?_⟩
  by_cases d:j=i
  ·subst d;unfold Cs;simp only[L,q];exact⟨v,K,H⟩
  have:=ready_mono D d;rw[H.1] at this
  cases this
 |succ f Q=>
  intro c C a p t K H;refine⟨λh=>(by rw[h] at t;cases t),λj D=>?_⟩
  by_cases d:j=i
  ·subst d;unfold Cs;simp only[L,q];exact⟨v,K,H⟩
  have z:=H.2 j (ready_mono D d);have⟨w,l,r,R⟩:=Mq.1 D;have E:∀e∈l.after,Region.binds md e=true->e.on≠i:=λe he hb M=>bX r ⟨e,he,hb,M⟩ t D
  have⟨T,V,W⟩:=Mo (p j l r d w E)
  have g:∀k ok,ops[k]?=some ok->k≠i->(c.setIfInBounds j true).getD k true=false->
    (∀e∈ok.after,Region.binds md e=true->e.on≠i)->n.apart ops ok=true:=λk ok F q G N=>by
   refine p k ok F q ?_ N
   by_cases I:j=k
   ·subst I;exact w
   rw[Mh true I] at G;exact G
  have x:∀u,YR P ops (FV J) n v (a.put l.dst u):=λu=>K.of_same (M6 n (λA b=>s i n A b L) a l.dst u W) (M5 n a l.dst u W)
  have X:=M6 l (λA b=>s j l A b r) a n.dst v T;have Y:=M5 l a n.dst v T
  unfold Cs at z |-
  simp only[r] at z |-
  split
  ·rename_i F;simp only[F,Lr] at z;obtain⟨y,O⟩:=z;refine⟨y.of_same X.symm Y.symm λm u hm _=>hm,λu hu=>Q (c.setIfInBounds j true) _ _ g (ready_mono t (LQ d)) (x u) ?_⟩;rw[KW _ _ d,<-LR a v u V];exact O u hu
  rename_i F;simp only[F] at z;obtain⟨u,y,O⟩:=z;refine⟨u,y.of_same X.symm Y.symm,Q (c.setIfInBounds j true) C _ g (ready_mono t (LQ d)) (x u) ?_⟩;rw[KW _ _ d,<-LR a v u V];exact O
theorem Aw(hS:∀k,∃v,S k v)(X:∃w,FV J w){i:Nat}{l:Oper}(V:ops[i]?=some l)(q:ks i=true)(t:∀ (j:Nat) (o:Oper) N b,ops[j]?=some o->o.op≠.select N b):
  ∀ (f:Nat) (c:Array Bool) (E:Nat->Value->Prop) (a:Act),
   (∀j n,ops[j]?=some n->j≠i->c.getD j true=false->(∀e∈n.after,Region.binds md e=true->e.on≠i)->l.apart ops n=true)->
   i∈Region.ready md ops c->YG P ops md J S l i E a->
   (∀v,S i v->qO P md ops J S ks B f (c.setIfInBounds i true) (d9 E i v) (a.put l.dst v))->qO P md ops J S ks B (f+1) c E a:=by
 intro f;have⟨F,G⟩:=hS i
 induction f with
 |zero=>
  intro c E a _ r W H;refine⟨λh=>(by rw[h] at r;cases r),λj M=>?_⟩
  by_cases d:j=i
  ·subst d;unfold Cs;simp only[V,q,Lr];exact⟨W,H⟩
  have:=ready_mono M d;rw[(H F G).1] at this
  cases this
 |succ f ih=>
  intro c E a p r W H;refine⟨λh=>(by rw[h] at r;cases r),λj M=>?_⟩
  by_cases d:j=i
  ·subst d;unfold Cs;simp only[V,q,Lr];exact⟨W,H⟩
  have z:=λv O=>(H v O).2 j (ready_mono M d)
  have⟨A,n,s,aa⟩:=Mq.1 M;have C:∀e∈n.after,Region.binds md e=true->e.on≠i:=λe Y hb I=>bX s ⟨e,Y,hb,I⟩ r M
  have a4:¬dZ md n i:=λ⟨e,Y,hb,I⟩=>C e Y hb I
  have ac:¬dZ md l j:=λh=>bX V h M r
  have⟨a1,a2,a3⟩:=Mo (p j n s d A C)
  have g:∀k ok,ops[k]?=some ok->k≠i->(c.setIfInBounds j true).getD k true=false->
    (∀e∈ok.after,Region.binds md e=true->e.on≠i)->l.apart ops ok=true:=λk ok Q q R a5=>by
   refine p k ok Q q ?_ a5
   by_cases T:j=k
   ·subst T;exact A
   rw[Mh true T] at R;exact R
  have D:∀u K,(∀m x,E m x->dZ md l m->K m x)->YG P ops md J S l i K (a.put n.dst u):=λu K a6=>W.of_same (M6 l (λN b=>t i l N b V) a n.dst u a3) (M5 l a n.dst u a3) a6
  have e1:=λv=>M6 n (λN b=>t j n N b s) a l.dst v a1
  have e2:=λv=>M5 n a l.dst v a1
  unfold Cs at z |-
  simp only[s] at z |-
  split
  ·rename_i Q;simp only[Q,Lr] at z;refine⟨(z F G).1.of_same (e1 F).symm (e2 F).symm λm u L hw=>?_,λu hu=>ih (c.setIfInBounds j true) _ _ g (ready_mono r (LQ d)) (D u _ λm x L _=>.inl L) λv O=>?_⟩
   ·rcases L with L|⟨rfl,rfl⟩
    ·exact L
    exact absurd hw a4
   rw[KW _ _ d,<-LR a v u a2,yN];exact(z v O).2 u hu
  rename_i Q;simp only[Q] at z;have⟨u,y,_⟩:=z F G;have y0:=y.of_same (e1 F).symm (e2 F).symm;refine⟨u,y0,ih (c.setIfInBounds j true) E _ g (ready_mono r (LQ d)) (D u _ λm x L _=>L) λv O=>?_⟩;have⟨u',y',hK⟩:=z v O;have:=YR.one X y0 (y'.of_same (e1 v).symm (e2 v).symm);subst this;rw[KW _ _ d,<-LR a v u a2];exact hK
theorem qE(p:∀k,∃v,S k v)(c:∃w,FV J w)(i:Region.noSelect ops=true):∀ (l:List Oper) (k:Nat) (b:Array Bool) (e:Nat->Value->Prop) (a:Act),(∀j,j<l.length->l[j]?=ops[k+j]?)->
  Region.lexFrom md ops l.length k b=true->uU P ops md J S ks B l k e a->qO P md ops J S ks B l.length b e a
 |[],k,b,e,a,_,m,h=>⟨by simpa [Region.lexFrom] using m,h⟩
 |o :: l,k,b,e,a,s,m,h=>by
  have n:ops[k]?=some o:=by simpa using (s 0 (by simp)).symm
  simp only[Kv,Region.lexFrom,KU] at m;obtain⟨⟨t,u⟩,f⟩:=m;have g:∀j,j<l.length->l[j]?=ops[k+1+j]?:=λj y=>by have:=s (j+1) (by simp;omega);simpa [KX,Mk 1 j] using this
  unfold uU at h
  split at h
  ·rename_i d;obtain⟨q,r⟩:=h
   exact Aw p c n d (Ly i) l.length b e a (M0 n u) (by simpa using t) q
    (λv x=>qE p c i l (k+1) _ _ _ g f (r v x))
  rename_i d;obtain⟨v,q,r⟩:=h
  exact Be n (by simpa using d) (Ly i) l.length b e a (M0 n u) (by simpa using t) q
   (qE p c i l (k+1) _ _ _ g f r)
theorem iP{id:Nat}{Q:Exit->Act->World->Prop}{a}{w:World}{l:List Oper}(ks:Nat->Bool)(J:(Nat->Value->Prop)->World->Prop)(S:Nat->Value->Prop)(i:∀k,∃v,S k v)(d:P.follows .mixedOrders=true)(c:Region.lexB .any l.toArray=true)(e:J (λ_ _=>False) w.drew)
  (h:uU P l.toArray .any J S ks (λf n=>∀g,J f g->Q .normal n g) l 0 (λ_ _=>False) a):(Code.region id l.toArray true).wp P Q a w:=by
 simp only[Region.lexB,KU] at c;have b:l.toArray.size=l.length:=by simp
 rw[b] at c;have o:=qE (md:=.any) i ⟨_,_,e⟩ c.1 l 0 (Array.replicate l.length false) (λ_ _=>False) a (λj r=>by simp) c.2 h;refine wp_region_any d ?_;rw[b];exact kZ (λf a w p q=>q w p) l.length _ (λ_ _=>False) a { w with drawn:=w.drawn+1 } e (λm v d=>d.elim) o
end
end
def mO(B:Nat)(w:World)(v:Value)(c:aG):Prop:=∃a b d e,v=.agg #[.bool c.1,.slice a c.2.1.length b,.slice d c.2.2.1.length e,U c.2.2.2]/\cD B w (.slice a c.2.1.length b) c.2.1/\aX B w (.agg #[.slice d c.2.2.1.length e,U c.2.2.2]) c.2.2
theorem mO.l{B B' w w' v c}(h:mO B w v c)(a:Below B' w w')(b:B<=B'):mO B w' v c:=by obtain⟨d,f,g,i,e,j,k⟩:=h;exact⟨d,f,g,i,e,j.l a b,k.l a b⟩
theorem zP(B u v c d w)(Y:mO B w u c)(hd:mO B w v d)(q:B<=w.1.size):
  cL 50 #[u,v] w (rT w (.bool (decide (c=d)))):=by
 obtain⟨la,lc,N,O,rfl,z,A⟩:=Y;obtain⟨G,H,r,s,rfl,P,Q⟩:=hd;have C:=Z λa (h:bL w a)=>yj B _ _ c.2.1 d.2.1 a (z.l h q) (P.l h q) (h.u q)
 have I:=Z λa (h:bL w a)=>xh B _ _ c.2.2 d.2.2 a (A.l h q) (Q.l h q) (h.u q)
 have l:Hid (decide (c=d)=(decide (c.1=d.1)&&(decide (c.2.1=d.2.1)&&decide (c.2.2=d.2.2)))):=by unfold Hid;rw[<-Bool.decide_and,<-Bool.decide_and];refine decide_eq_decide.2 ⟨λh=>by rw[h];exact⟨rfl,rfl,rfl⟩,λ⟨z,A,h3⟩=>?_⟩;exact Prod.ext z (Prod.ext A h3)
 clear z A P Q;obtain⟨o,J,K,f⟩:=c;obtain⟨t,m,n,D⟩:=d;simp only at C I l;generalize decide ((o,J,K,f)=(t,m,n,D))=L at*;generalize decide (J=m)=e1 at*;generalize decide ((K,f)=(n,D))=e2 at*;generalize J.length=n1 at*;generalize m.length=n2 at*;generalize K.length=R at*;generalize n.length=S at*;have⟨W2,b⟩:=nM ((w.alloc (.cells #[.bool o,.slice la n1 lc,.slice N R O,U f] 46)).alloc (.cells #[.bool t,.slice G n2 H,.slice r S s,U D] 46));have p:=bB b;have a8:=sB b;have T:=gB b;have V:=gC b;have M:Hid (∀a,bL W2 a->a.cell? (pW w 2)=some (.slice N R O)/\a.cell? (pW w 3)=some (U f)/\a.cell? (pA (w.1.size+1) 2)=some (.slice r S s)/\a.cell? (pA (w.1.size+1) 3)=some (U D)/\bL w a):=λa h=>by have W:=h.bk T;have X:=h.bk V;exact⟨J2 W,J3 W,J2 X,J3 X,p.th h⟩
 have j:=Z b;have k:=Z p;clear b T V p
 by_cases E:o=t
 ·subst E
  cases e1 with
  |true=>
   have g:=Z (by rw[l.o];simp:L=e2);clear l;go_enter func50,ntmps50;go_wp2_with fail;rw[<-j.o];go_at_call 51;refine(C.o _ k.o).mono ?_;rintro e w3 ⟨rfl,i⟩;obtain⟨y0,y1,y2,y3,x⟩:=M.o _ i;have F:=Z x;clear i x;go_wp2_with fail;go_at_call 52;refine(I.o _ F.o).mono ?_;rintro e w4 ⟨rfl,y⟩;have HZ:=Z (F.o.th y);clear y;go_wp2_with fail
   all_goals
    go_ret;exact⟨by rw[g.o];rfl,HZ.o⟩
  |false=>
   have g:=Z (by rw[l.o];simp:L=false);clear l;go_enter func50,ntmps50;go_wp2_with fail;rw[<-j.o];go_at_call 51;refine(C.o _ k.o).mono ?_;rintro e w3 ⟨rfl,i⟩;obtain⟨y0,y1,y2,y3,x⟩:=M.o _ i;have F:=Z x;clear i x;go_wp2_with fail;go_ret;exact⟨by rw[g.o];rfl,F.o⟩
 have g:=Z (by rw[l.o,KD E];rfl:L=false)
 have hq:(o==t)=false:=by cases o<;>cases t<;>simp at E |-
 rw[j.o] at k;clear l C I M j E;go_enter func50,ntmps50;go_wp2_with fail
 all_goals
  go_ret;exact⟨by rw[g.o];rfl,k.o⟩
theorem jN.val{B w b o c}(h:jN B w b o c):∃a d e f,w.cell? ⟨b,o,none⟩=some (.bool c.1)/\w.cell? ⟨b,o+1,none⟩=some (.slice a c.2.1.length d)/\w.cell? ⟨b,o+2,none⟩=some (.slice e c.2.2.1.length f)/\w.cell? ⟨b,o+3,none⟩=some (U c.2.2.2)/\mO B w (.agg #[.bool c.1,.slice a c.2.1.length d,.slice e c.2.2.1.length f,U c.2.2.2]) c:=by obtain⟨a,d,e,f,g,i,j,k,l,m⟩:=h.vals;exact⟨a,d,e,f,g,i,j,k,a,d,e,f,rfl,l,m⟩
theorem p9(B:Nat)(F:FuncId)(hC:∀p w',(callFunc F p).run prog w'=.ok (.enter F p) w')(HF:Hid (∀ (w':World) (u v:Value) (c d:aG),B<=w'.1.size->mO B w' u c->mO B w' v d->cL F #[u,v] w' (rT w' (.bool (decide (c=d))))))(lv mv ls ms w)(W:aE B w lv ls)(X:aE B w mv ms)(E:B<=w.1.size):
  cL 49 #[lv,mv,.func (.func F) #[] #[]] w (rT w (.bool (decide (ls=ms)))):=by
 have HK:=Z hC;clear hC;have T:=Z λw' (h:bL w w')=>Q2 (W.l h E) (X.l h E)
 obtain⟨a,b4,rfl,Y,b5,-⟩:=id W;obtain⟨a2,af,rfl,G,ak,-⟩:=id X;clear W X
 by_cases I:ls.length=ms.length
 ·have⟨n,hn⟩:=nM (ls.length);have s:ms.length=n:=by omega
  rw[<-hn] at Y T |-
  rw[s] at G T |-
  have b6:n<=9223372036854775807:=by have:=ai;omega
  have V:=Z2 hn.symm s;clear hn s I;go_enter func49,ntmps49;go_wp2_with fail;go_loopw [17] (λi wr=>∃k:Nat,k<=n/\i=U k/\Hid (∀i,i<k->ls[i]?=ms[i]?)/\Hid (bL w wr)) (λi _=>n-(intOf i).toNat)
  case atStart=>exact⟨0,by omega,rfl,λi h=>absurd h (by omega),Kf _ _⟩
  case round=>
   obtain⟨k,hk,rfl,H,j⟩:=hrel;have⟨J,a1⟩:=nM (wr);subst a1;have i0:(0:Int)<=(k:Int):=by omega
   by_cases b7:k<n
   ·have i1:(k:Int)<(n:Int):=by omega
    obtain⟨c,t⟩:∃c,ls[k]?=some c:=⟨ls[k]'(by have:=V.o.1;omega),by simp⟩;obtain⟨d,x⟩:∃d,ms[k]?=some d:=⟨ms[k]'(by have:=V.o.2;omega),by simp⟩;have⟨a3,a4⟩:=T.o J j.o;obtain⟨_,_,e',-,-,K⟩:=a3;have⟨b,o,eb,b9,q⟩:=K k c t;obtain⟨_,_,L,-,-,M⟩:=a4;have⟨b2,o2,a5,ao,r⟩:=M k d x;simp at e' L;obtain⟨rfl,-,-⟩:=e';obtain⟨rfl,-,-⟩:=L;subst eb a5;clear K M;obtain⟨la,lc,ra,rc,c0,c1,c2,c3,N⟩:=q.val;obtain⟨a6,a7,a8,a9,d0,d1,d2,d3,O⟩:=r.val;have y:=j.o.size;have bg:b<J.1.size:=by omega
    have av:b2<J.1.size:=by omega
    have P:=Z λw' (h:bL J w')=>HF.o w' _ _ c d (Kl E (h.u y)) (N.l h (Kl E y)) (O.l h (Kl E y))
    have l:=Z2 t x;clear q r N O t x;generalize c.2.1.length=n1 at*;generalize d.2.1.length=n2 at*;generalize c.2.2.1.length=n3 at*;generalize d.2.2.1.length=n4 at*;have⟨dq,z⟩:=nM (decide (c=d));have Q:=Z z;rw[<-z] at P;clear z;go_wp2_with fail;have⟨W1,A⟩:=nM ((J.alloc (.cells #[.bool c.1,.slice la n1 lc,.slice ra n3 rc,U c.2.2.2] 46)).alloc (.cells #[.bool d.1,.slice a6 n2 a7,.slice a8 n4 a9,U d.2.2.2] 46));have C:=bB A;rw[<-A,HK.o];have f:=Z (P.o W1 C);have aa:=Z (j.o.th C);clear A C;go_wp2_with fail;refine f.o.mono ?_;rintro e w2 ⟨rfl,R⟩;have S:=Z (aa.o.th R);clear R f
    cases dq with
    |true=>
     have g:=of_decide_eq_true Q.o.symm;have D:=Z g;clear g;go_wp2_with fail;refine⟨⟨k+1,by omega,by go_num,λi hi=>?_,S.o⟩,by simp[intOf];omega⟩
     by_cases ac:i=k
     ·subst ac;rw[l.o.1,l.o.2,D.o]
     exact H.o i (by omega)
    |false=>
     have g:=of_decide_eq_false Q.o.symm;have D:=Z g;clear g;go_wp2_with fail;go_ret;refine⟨?_,S.o⟩;have:ls≠ms:=by intro h;have h1:=l.o.1;rw[h,l.o.2] at h1;exact D.o (KG h1).symm
     simp[this]
   go_wp2_with fail;go_ret;refine⟨?_,j.o⟩
   have:ls=ms:=by
    refine LD λi=>?_
    by_cases hi:i<k
    ·exact H.o i hi
    rw[KP (by have:=V.o.1;omega),KP (by have:=V.o.2;omega)]
   simp[this]
 have bs:((ls.length:Int) != (ms.length:Int))=true:=by simp;omega
 have hf:Hid (decide (ls=ms)=false):=KD λh=>I (by rw[h])
 clear T HF;generalize ls.length=n at*;generalize ms.length=m at*;go_enter func49,ntmps49;go_wp2_with fail;go_ret;exact⟨by rw[hf.o];rfl,Kf _ _⟩
theorem pX(B lv mv ls b w)(f:aE B w lv ls)(g:aE B w mv b)(l:B<=w.1.size):
  cL 21 #[lv,mv] w (rT w (.bool (decide (ls=b)))):=by
 have m:Hid (cL 49 #[lv,mv,.func (.func 50) #[] #[]] w (rT w (.bool (decide (ls=b))))):=p9 B 50 (λj k=>by kernel_rfl) (λk u v c d h o p=>zP B u v c d k o p h) lv mv ls b w f g l;obtain⟨a,c,rfl,-,-⟩:=f.shape;obtain⟨q,r,rfl,-,-⟩:=g.shape;clear f g;generalize decide (ls=b)=eq at*;generalize ls.length=n at*;generalize b.length=s at*;go_enter func21,ntmps21;go_wp2_with (first|(go_at_call 49;go_must (refine m.o.mono ?_;rintro e t ⟨rfl,i⟩)));go_ret;exact⟨rfl,i⟩
theorem sk:∃i,prog.info? 46=some i/\i.zero=some (.agg #[.bool false,nL,nL,U 0])/\i.size=4/\i.bytes=64:=jL (by kernel_rfl)
def IR(B:Nat)(w:World)(xs:List Value)(l:List aG):Prop:=
 xs.length=l.length*4/\(∀u∈xs,u.oneCell'=true)/\∀i c,l[i]?=some c->∃a b,xs[i*4]?=some (.bool c.1)/\xs[i*4+1]?=some a/\xs[i*4+2]?=some b/\xs[i*4+3]?=some (U c.2.2.2)/\cD B w a c.2.1/\aX B w (.agg #[b,U c.2.2.2]) c.2.2
theorem IR.l{B B' w w' xs l}(h:IR B w xs l)(a:Below B' w w')(b:B<=B'):IR B w' xs l:=by obtain⟨d,e,f⟩:=h;refine⟨d,e,λi c g=>?_⟩;have⟨j,k,m,n,o,p,q,r⟩:=f i c g;exact⟨j,k,m,n,o,p,q.l a b,r.l a b⟩
theorem Gn{B w}{l:List aG}{b o:Nat}(h:∀i c,l[i]?=some c->jN B w b (o+i*4) c):∃d,IR B w d l/\∀j u,d[j]?=some u->w.cell? ⟨b,o+j,none⟩=some u:=by
 have e:∀j,j<l.length*4->∃v,w.cell? ⟨b,o+j,none⟩=some v/\v.oneCell'=true:=by
  intro j f;obtain⟨c,k⟩:∃c,l[j / 4]?=some c:=⟨l[j / 4]'(by omega),by simp⟩;obtain⟨D,E,F,G,m,n,p,q,-,-⟩:=(h _ c k).vals;have g:j % 4=0\/j % 4=1\/j % 4=2\/j % 4=3:=by omega
  rcases g with g|g|g|g
  ·exact⟨_,by rw[show o+j=o+j / 4*4 by omega];exact m,rfl⟩
  ·exact⟨_,by rw[show o+j=o+j / 4*4+1 by omega];exact n,rfl⟩
  ·exact⟨_,by rw[show o+j=o+j / 4*4+2 by omega];exact p,rfl⟩
  exact⟨_,by rw[show o+j=o+j / 4*4+3 by omega];exact q,rfl⟩
 obtain⟨d,x,r⟩:=iU _ _ e;refine⟨d,⟨x,λu s=>?_,λi c k=>?_⟩,λj u f=>(r j u f).1⟩
 ·have⟨j,f⟩:=LJ.1 s;exact(r j u f).2
 have H:i<l.length:=(K9.1 k).1;have⟨y,z,m,n,p,q,A,C⟩:=h i c k
 have a:∀ (j:Nat) (u:Value),j<l.length*4->w.cell? ⟨b,o+j,none⟩=some u->d[j]?=some u:=λj u f s=>by
  obtain⟨v,t⟩:∃v,d[j]?=some v:=⟨d[j]'(by omega),by simp⟩;have:=(r j v t).1;rw[s] at this
  cases this;exact t
 exact⟨y,z,a _ _ (by omega) m,a _ _ (by omega) (by rw[<-KX];exact n),a _ _ (by omega) (by rw[<-KX];exact p),a _ _ (by omega) (by rw[<-KX];exact q),A,C⟩
theorem ti(B)(z:TypeId)(b o cap:Nat)(l:List aG)(W)(C:aE B W (.slice (some ⟨b,o,none⟩) l.length cap) l)(L:l.length<=1000)(D:B<=W.1.size):
  ∃q d f,(Builtin.append_ #[22,22] z #[.slice (sO W.1.size) 0 0,.slice (some ⟨b,o,none⟩) l.length cap]).run prog (W.alloc (.cells #[] 46))=.ok q d/\d.ownsRow W.1.size 46 4 q l.length f/\IR B d f l/\bL W d/\∀j u,f[j]?=some u->W.cell? ⟨b,o+j,none⟩=some u:=by
 obtain⟨s,t,v,w,x⟩:=sk;have E:=ai;have g:bL W (W.alloc (.cells #[] 46)):=bR.alloc lE _;have m:(W.alloc (.cells #[] 46)).ownsRow W.1.size 46 4 (.slice (MZ W) 0 0) 0 []:=⟨rfl,.inr ⟨W.1.size,0,#[],rfl,Ke _,ah W _,Ke _,Ks _,rfl,rfl⟩⟩;obtain⟨M,A,e,N,O,F⟩:=C;simp at e;obtain⟨rfl,rfl⟩:=e;obtain⟨f,h,a⟩:=Gn (b:=b) (o:=o) λi c G=>by obtain⟨Q,R,e,-,k⟩:=F i c G;simp at e;obtain⟨rfl,rfl⟩:=e;exact k
 have y:∀j u,f[j]?=some u->b<W.1.size:=λj u r=>KE _ _ (a j u r)
 obtain⟨q,d,H,I,J,S⟩:=LB (P:=prog) (W.alloc (.cells #[] 46)) W.1.size 22 z 46 s _ 4 64 Tryz.underlying22 t v w x rfl (by decide) _ 0 [] m ⟨b,o,none⟩ l.length cap f h.1 (λj u r=>by rw[eM];exact(g.cell (p:=⟨b,o+j,none⟩) (y j u r)).trans (a j u r)) h.2.1 (by omega) (by omega) g.size;have n:bL W d:=g.grown J (by simp) λk K=>eh m k K
 refine⟨q,d,f,H,by simpa using I,h.l n D,n,a⟩
theorem FD{B base ci:Nat}{w:World}{v:Value}{xs:List Value}{l:List aG}(L:w.ownsRow base 46 4 v l.length xs)(x:IR B w xs l)(M:ci<l.length)(H:B<=base):
  ∃G a,v=.slice (sO G) l.length a/\base<=G/\G<w.1.size/\l.length<=a/\(∀j,j<l.length*4->∃u,w.cell? ⟨G,j,none⟩=some u/\w.frozen? ⟨G,j,none⟩=false)/\
   ∀ (c:aG) (lv rv:Value) (wF:World),wF=(((w.setCell ⟨G,ci*4,none⟩ (.bool c.1)).setCell ⟨G,ci*4+1,none⟩ lv).setCell ⟨G,ci*4+2,none⟩ rv).setCell ⟨G,ci*4+3,none⟩ (U c.2.2.2)->(∀b,b=wF->cD b.1.size b lv c.2.1/\aX b.1.size b (.agg #[rv,U c.2.2.2]) c.2.2)->aE wF.1.size wF v (l.set ci c):=by
 obtain⟨I,h⟩:=L
 rcases h with ⟨_,N⟩|⟨G,a,m,e,f,t,n,y,z,A⟩
 ·exfalso;have:=x.1;omega
 have O:=io t;have P:=x.1;have q:∀j,j<l.length*4->m[j]?=xs[j]?:=λj Q=>by rw[<-A,LO,Io (by omega)];simp
 refine⟨G,a,e,f,O,n,λj Q=>?_,λc lv rv wF J r=>?_⟩
 ·exact⟨m[j]'(by rw[z];omega),ab t j (by simp),fZ t _⟩
 have R:=ap (o:=ci*4) (u:=.bool c.1) t;have S:=ap (o:=ci*4+1) (u:=lv) R;have T:=ap (o:=ci*4+2) (u:=rv) S;have g:=ap (o:=ci*4+3) (u:=U c.2.2.2) T;rw[<-J] at g;have k:Below base w wF:=by rw[J];exact((((Kf base w).setCell (p:=⟨G,ci*4,none⟩) f _).setCell (p:=⟨G,ci*4+1,none⟩) f _).setCell (p:=⟨G,ci*4+2,none⟩) f _).setCell (p:=⟨G,ci*4+3,none⟩) f _
 have C:=io g;have V:l.length*4<=m.size:=by omega
 refine⟨some (pA G 0),a,by rw[e];simp,by simpa using n,y,λi d s=>⟨G,0,rfl,C,?_⟩⟩;rw[Kp]
 have D:i<l.length:=by
  have:=(K9.1 s).1
  simpa using this
 by_cases K:i=ci
 ·subst K;rw[LF D] at s
  cases s;have⟨W,X⟩:=r wF rfl;refine⟨lv,rv,ab g _ ?_,ab g _ ?_,ab g _ ?_,ab g _ ?_,W,X⟩
  all_goals
   simp only[KC,Lv];repeat(first|rw[Io trivial]|rw[Io (by omega)]|rw[iO (by omega)])
 rw[Lb (LQ K)] at s;have⟨E,F,e0,e1,e2,e3,Y,e5⟩:=x.2.2 i d s;refine⟨E,F,ab g _ ?_,ab g _ ?_,ab g _ ?_,ab g _ ?_,(Y.l k H).mono (by have:=k.size;omega),gG (e5.l k H) (by have:=k.size;omega)⟩
 all_goals
  simp only[KC,Lv];repeat(rw[iO (by omega)])
  rw[q _ (by omega)]
  assumption
def kn(G:Nat->Prop)(w:World)(v:Value)(l:List aG):Prop:=∀a,Kx G w a->aE a.1.size a v l
def wU(G:Nat->Prop)(w:World)(v:Value)(r:az):Prop:=∀a,Kx G w a->cI a.1.size a v r
theorem kn.l{G a:Nat->Prop}{w w' v l}(h:kn G w v l)(b:bL w w')(c:∀k,k<w.1.size->a k->G k):kn a w' v l:=λd e=>h d (e.back b c)
theorem wU.l{G a:Nat->Prop}{w w' v r}(h:wU G w v r)(b:bL w w')(c:∀k,k<w.1.size->a k->G k):wU a w' v r:=λd e=>h d (e.back b c)
theorem wU.pol{G:Nat->Prop}{w a}{k c f d d':Int}{n cap}{b:List aq}(h:wU G w (.agg #[U k,U c,U f,.slice a n cap,U d]) (k,c,f,b,d)):Id G w (.agg #[.slice a n cap,U d]) (b,d):=λi j=>by obtain⟨l,e,-,-,-,g⟩:=h i j;simp at e;rw[<-e] at g;exact g
theorem ib(G:Nat->Prop)(w):kn G w nL []:=λ_ _=>eZ _ _
theorem kn.vals{G:Nat->Prop}{B w}{b o n cap:Nat}{l}(h:kn G w (.slice (some ⟨b,o,none⟩) n cap) l)(v:aE B w (.slice (some ⟨b,o,none⟩) n cap) l)(x:lZ G B w){i:Nat}{c:aG}{lv rv:Value}(m:l[i]?=some c)(y:w.cell? ⟨b,o+i*4+1,none⟩=some lv)(z:w.cell? ⟨b,o+i*4+2,none⟩=some rv):ym G w lv c.2.1/\Id G w (.agg #[rv,U c.2.2.2]) c.2.2:=by
 obtain⟨L,M,p,-,-,A⟩:=v;have⟨N,O,q,j,k⟩:=A i c m;simp at p;obtain⟨rfl,-⟩:=p;simp at q;obtain⟨rfl,rfl⟩:=q;obtain⟨C,D,E,P,Q,R,-,-⟩:=k;have e:=x.bool j E
 have f:∀a,Kx G w a->cD a.1.size a lv c.2.1/\aX a.1.size a (.agg #[rv,U c.2.2.2]) c.2.2:=λa d=>by
  obtain⟨S,T,r,-,-,F⟩:=h a d;obtain⟨V,W,s,-,g⟩:=F i c m;simp at r;obtain⟨rfl,-⟩:=r;simp at s;obtain⟨rfl,rfl⟩:=s;obtain⟨H,I,-,t,u,-,J,K⟩:=g;rw[d.cell e y] at t;rw[d.cell e z] at u
  cases t
  cases u;exact⟨J,K⟩
 exact⟨λa d=>(f a d).1,λa d=>(f a d).2⟩
theorem D7{G:Nat->Prop}{base ci g cap:Nat}{w wF:World}{xs:List Value}{l:List aG}{c:aG}{lv rv:Value}(I:w.ownsRow base 46 4 (.slice (sO g) l.length cap) l.length xs)(J:xs.length=l.length*4)(K:ci<l.length)(L:∀k,G k->k<base)(r:cap<=maxLen)(s:l.length<=cap)
  (M:∀i d,l[i]?=some d->∃lv rv,xs[i*4]?=some (.bool d.1)/\xs[i*4+1]?=some lv/\xs[i*4+2]?=some rv/\xs[i*4+3]?=some (U d.2.2.2)/\(∀a,Kx G wF a->cD a.1.size a lv d.2.1/\aX a.1.size a (.agg #[rv,U d.2.2.2]) d.2.2))
  (f:∀a,Kx G wF a->cD a.1.size a lv c.2.1/\aX a.1.size a (.agg #[rv,U c.2.2.2]) c.2.2)
  (N:wF=(((w.setCell ⟨g,ci*4,none⟩ (.bool c.1)).setCell ⟨g,ci*4+1,none⟩ lv).setCell ⟨g,ci*4+2,none⟩ rv).setCell ⟨g,ci*4+3,none⟩ (U c.2.2.2)):kn G wF (.slice (sO g) l.length cap) (l.set ci c):=by
 obtain⟨C,h⟩:=I
 rcases h with ⟨D,_⟩|⟨g',E,m,e,O,P,Q,-,R,t⟩
 ·cases D
 simp at e;obtain⟨rfl,rfl⟩:=e;have n:∀j,j<l.length*4->m[j]?=xs[j]?:=λj hj=>by rw[<-t,LO,Io (by omega)];simp
 have S:=ap (o:=ci*4) (u:=.bool c.1) P;have T:=ap (o:=ci*4+1) (u:=lv) S;have V:=ap (o:=ci*4+2) (u:=rv) T;have v:=ap (o:=ci*4+3) (u:=U c.2.2.2) V;rw[<-N] at v;have x:=io v;have W:l.length*4<=m.size:=by omega
 intro a q;have b:=(q.2 g (λe=>absurd (L g e) (by omega)) x).trans v;have y:=io b;refine⟨some (pA g 0),cap,by simp,by simpa using s,r,λi d p=>⟨g,0,rfl,y,?_⟩⟩;rw[Kp]
 have z:i<l.length:=by
  have:=(K9.1 p).1
  simpa using this
 by_cases F:i=ci
 ·subst F;rw[LF z] at p
  cases p;have⟨X,Y⟩:=f a q;refine⟨lv,rv,ab b _ ?_,ab b _ ?_,ab b _ ?_,ab b _ ?_,X,Y⟩
  all_goals
   simp only[KC,Lv];repeat(first|rw[Io trivial]|rw[Io (by omega)]|rw[iO (by omega)])
 rw[Lb (LQ F)] at p;have⟨A,B,D,e1,e2,e3,H⟩:=M i d p;refine⟨A,B,ab b _ ?_,ab b _ ?_,ab b _ ?_,ab b _ ?_,(H a q).1,(H a q).2⟩
 all_goals
  simp only[KC,Lv];repeat(rw[iO (by omega)])
  rw[n _ (by omega)]
  assumption
structure nX (k1 k2:Nat) (WT w w7:World) (G gc ci:Nat) (l:List aG) (av:Value):Prop where
 cells:∀j,j<16->∃u,w7.cell? ⟨G,j,none⟩=some u/\w7.frozen? ⟨G,j,none⟩=false
 ge:WT.1.size<=G
 lt:G<w7.1.size
 cap:4<=gc
 below:bL WT w7
 ahead:bL w WT
 done:∀ (c:aG) (lv rv:Value) (wF:World),wF=(((w7.setCell ⟨G,ci*4,none⟩ (.bool c.1)).setCell ⟨G,ci*4+1,none⟩ lv).setCell ⟨G,ci*4+2,none⟩ rv).setCell ⟨G,ci*4+3,none⟩ (U c.2.2.2)->cD WT.1.size WT lv c.2.1->aX WT.1.size WT (.agg #[rv,U c.2.2.2]) c.2.2->aE wF.1.size wF (.slice (sO G) 4 gc) (l.set ci c)/\bL w wF
 doneK:∀ (K:Nat->Prop),(∀k,K k->k<w.1.size)->lZ K w.1.size WT->kn K WT av l->∀ (c:aG) (lv rv:Value) (wF:World),wF=(((w7.setCell ⟨G,ci*4,none⟩ (.bool c.1)).setCell ⟨G,ci*4+1,none⟩ lv).setCell ⟨G,ci*4+2,none⟩ rv).setCell ⟨G,ci*4+3,none⟩ (U c.2.2.2)->ym K WT lv c.2.1->Id K WT (.agg #[rv,U c.2.2.2]) c.2.2->kn K wF (.slice (sO G) 4 gc) (l.set ci c)
theorem sF(B b o cap:Nat)(l:List aG)(ci:Nat)(m w:World)(D:Nat)(E:B<=w.1.size)(a:l.length=4)(W:aE B m (.slice (some ⟨b,o,none⟩) 4 cap) l)(O:bL w m)(a4:w.1.size<D)(a5:D<m.1.size)(F:ci<4):
  ∃G v x,(Builtin.append_ #[22,22] 22 #[.slice (sO m.1.size) 0 0,.slice (some ⟨b,o,none⟩) 4 cap]).run prog (m.alloc (.cells #[] 46))=.ok (.slice (sO G) 4 v) x/\nX w.1.size D m w x G v ci l (.slice (some ⟨b,o,none⟩) 4 cap)/\bL m x:=by
 have H:=O.u E;obtain⟨v7,x,ys,I,q,y,r,J⟩:=ti B 22 b o cap l m (by rw[a];exact W) (by rw[a];decide) H;rw[a] at I;obtain⟨G,v,X,f,Q,z,L,R⟩:=FD (ci:=ci) q y (by rw[a];exact F) H;rw[a] at X z L;subst X;have h:∀ (c:aG) (t u:Value) (n:World),n=(((x.setCell ⟨G,ci*4,none⟩ (.bool c.1)).setCell ⟨G,ci*4+1,none⟩ t).setCell ⟨G,ci*4+2,none⟩ u).setCell ⟨G,ci*4+3,none⟩ (U c.2.2.2)->bL m n:=λc t u n A=>by rw[A];exact(((r.setCell (p:=⟨G,ci*4,none⟩) f _).setCell (p:=⟨G,ci*4+1,none⟩) f _).setCell (p:=⟨G,ci*4+2,none⟩) f _).setCell (p:=⟨G,ci*4+3,none⟩) f _
 refine⟨G,v,x,I,⟨λj hj=>L j (by omega),f,Q,z,r,O,λc t u n A P C=>?_,λK hK hO hC c t u n A P C=>?_⟩,r⟩
 case refine_2=>
  have hs:=O.size;have s:=h c t u n A;obtain⟨-,-,S⟩:v<=maxLen/\True/\v<=maxLen:=by obtain⟨_,_,e,P,C,-⟩:=an q;simp at e;obtain⟨-,-,rfl⟩:=e;exact⟨C,trivial,C⟩
  have:=D7 (G:=K) (g:=G) (cap:=v) (xs:=ys) (l:=l) (base:=m.1.size) (ci:=ci) (w:=x) (wF:=n) (c:=c) (lv:=t) (rv:=u) (by rw[a] at q |-;exact q) y.1 (by rw[a];exact F) (λk hk=>Kd (hK k hk) hs) S (by rw[a];exact z) (λi d Y=>?_) (λM N=>⟨P M (N.back s (λ_ _ e=>e)),C M (N.back s (λ_ _ e=>e))⟩) A
  ·rw[a] at this;exact this
  obtain⟨T,V,e0,e1,e2,e3,-,-⟩:=y.2.2 i d Y;have c1:=J _ _ e1;have c2:=J _ _ e2;rw[<-KX] at c1 c2;have⟨k1,D⟩:=hC.vals (W.wide E) hO Y c1 c2;exact⟨T,V,e0,e1,e2,e3,λM N=>⟨k1 M (N.back s (λ_ _ e=>e)),D M (N.back s (λ_ _ e=>e))⟩⟩
 have h:bL m n:=by rw[A];exact(((r.setCell (p:=⟨G,ci*4,none⟩) f _).setCell (p:=⟨G,ci*4+1,none⟩) f _).setCell (p:=⟨G,ci*4+2,none⟩) f _).setCell (p:=⟨G,ci*4+3,none⟩) f _
 exact⟨R c t u n A λak e=>by subst e;exact⟨(P.l h lE).mono h.size,gG (C.l h lE) h.size⟩,O.th h⟩
theorem AL(B a cap ra rl rc l)(ci P:Nat)(rs:List aq)(d w)(hl:aE B w (.slice a 4 cap) l)(hr:cI B w (.agg #[U 4,U ci,U P,.slice ra rl rc,U d]) (4,(ci:Int),(P:Int),rs,d))(A:B<=w.1.size)(C:bC l=0)(Q:aZ (4,(ci:Int),(P:Int),rs,d)=0)(c:aG)(D:l[ci]?=some c)(R:c.1=true):
  cL 35 #[.slice a 4 cap,.agg #[U 4,U ci,U P,.slice ra rl rc,U d]] w λe g=>∃v,e=.returned (.tuple #[v,U 0])/\aE g.1.size g v (l.set ci bn)/\bL w g/\∀K:Nat->Prop,(∀k,K k->k<w.1.size)->lZ K w.1.size w->kn K w (.slice a 4 cap) l->kn K g v (l.set ci bn):=by
 have HL:=Z λg (h:bL w g)=>hl.l h A
 have HC:=Z λg (h:bL w g)=>C▸fR B _ l g (hl.l h A) (h.u A)
 have HR:=Z λg (h:bL w g)=>Q▸eR B _ _ g (hr.l h A) (h.u A)
 have j:=Z ((f7.1 C).1);have a5:ci<4:=by have:=(K9.1 D).1;rw[j.o] at this;exact this
 have b2:(ci:Int)<4:=by omega
 have b3:(0:Int)<=(ci:Int):=by omega
 have a6:4<=cap:=by obtain⟨_,_,e,N,-⟩:=hl;simp at e;rw[j.o] at N;omega
 have S:=Z D;clear hl hr C Q D;have⟨W1,m⟩:=nM (w.alloc (.cells #[U 4,U ci,U P,.slice ra rl rc,U d] 70));have E:=bA m;have a7:=sA m;have g1:=hA m;have HG:=Z λg (h:bL W1 g)=>Q2 (h.bk g1) (E.th h)
 have a9:=Z m;have aa:=Z E;have F:=Z A;clear m g1 E a7 A;go_enter func35,ntmps35;go_wp2_with fail;rw[<-a9.o];go_at_call 63;refine(HC.o _ aa.o).mono ?_;rintro e w2 ⟨rfl,H⟩;have⟨g2,t⟩:=HG.o w2 H;have⟨y0,y1,y2,y3,y4⟩:=aF g2;have I:=Z2 H t;clear g2 H t HC;go_wp2_with fail;go_at_call 64;refine(HR.o _ I.o.2).mono ?_;rintro e r ⟨rfl,T⟩;have⟨g3,i⟩:=HG.o r (I.o.1.th T);clear y0 y1 y2 y3 y4 HR T I;have⟨y0,y1,y2,y3,y4⟩:=aF g3;obtain⟨_,_,e1,-,-,V⟩:=HL.o _ i;have⟨b,o,e,ac,W⟩:=V ci c S.o;simp at e1;obtain⟨rfl,-⟩:=e1;subst e;obtain⟨la,lc,pa,pc,c0,c1,c2,c3,-,-⟩:=W.vals;rw[R] at c0;have bk:=Kd ac (i.u F.o);generalize c.2.1.length=bm at*;generalize c.2.2.1.length=bo at*;generalize c.2.2.2=cd at*;clear V W R S;have J:=io g3;have ad:=Z g3;have X:=Z i;clear g3 i;have⟨u,n⟩:=nM ((r.alloc (.cells #[.bool false,nL,nL,U 0] 46)).alloc (.cells #[.slice ra rl rc,U d] 30));have p:=bB n;have gT:=gB n;have x:=Z2 (kJ _ _:cD u.1.size u nL []) (bV _ _:aX u.1.size u (.agg #[nL,U 0]) ([],0));have Y:=sB n;have af:=Z n;clear n;have y:Hid (∃G O q,(Builtin.append_ #[22,22] 22 #[.slice (sO (r.1.size+1+1)) 0 0,.slice (some ⟨b,o,none⟩) 4 cap]).run prog (u.alloc (.cells #[] 46))=.ok (.slice (sO G) 4 O) q/\nX w.1.size r.1.size u w q G O ci l (.slice (some ⟨b,o,none⟩) 4 cap)/\q.cell? (pW w 1)=some (U ci)/\q.cell? (pW r 0)=some (.bool false)/\q.cell? (pW r 1)=some nL/\q.cell? (pW r 2)=some nL/\q.cell? (pW r 3)=some (U 0)):=by have L:=io gT;have z:=X.o.th p;obtain⟨G,O,q,N,h2,h3⟩:=sF B b o cap l ci u w r.1.size F.o j.o (HL.o _ z) z J L a5;have s:=(h3.block _ L).trans gT;have al:=(h3.block _ (MT J L)).trans ((p.block _ J).trans ad.o);rw[Y] at N;exact⟨G,O,q,N,h2,(aF al).2.1,J0 s,J1 s,J2 s,J3 s⟩
 clear p gT HL HG F a6 Y;go_wp2_with (first|(at_builtin;go_must (rw[<-af.o];obtain⟨G,O,q,a0,f,r1,t0,t1,t2,t3⟩:=y.o;refine Kw _ rfl _ _ _ _ rfl _ _ rfl rfl _ _ a0 ?_;obtain⟨u0,p0,f0⟩:=f.cells (ci*4) (by omega);obtain⟨u1,p1,f1⟩:=f.cells (ci*4+1) (by omega);obtain⟨u2,p2,f2⟩:=f.cells (ci*4+2) (by omega);obtain⟨u3,p3,f3⟩:=f.cells (ci*4+3) (by omega);have M:Hid (nX w.1.size r.1.size u w q G O ci l (.slice (some ⟨b,o,none⟩) 4 cap)):=f;have bp:=f.cap;clear a0 f y)));go_ret2;obtain⟨N,h2⟩:=M.o.done bn _ _ _ rfl x.o.1 x.o.2;have a1:=M.o.ahead;exact⟨_,rfl,N,h2,λK hK hO hC=>M.o.doneK K hK (hO.l a1) (hC.l a1 (λ_ _ e=>e)) bn _ _ _ rfl (rQ _ _) (λ_ _=>bV _ _)⟩
theorem eK{w:World}{k:Nat}{c d e f u0 u1 u2 u3:Value}{T}(h:w.1[k]?=some (.cells #[c,d,e,f] T (0,0))):((((w.setCell (pA k 0) u0).setCell (pA k 1) u1).setCell (pA k 2) u2).setCell (pA k 3) u3).1[k]?=some (.cells #[u0,u1,u2,u3] T (0,0))/\(∀g,g≠k->((((w.setCell (pA k 0) u0).setCell (pA k 1) u1).setCell (pA k 2) u2).setCell (pA k 3) u3).1[g]?=w.1[g]?)/\((((w.setCell (pA k 0) u0).setCell (pA k 1) u1).setCell (pA k 2) u2).setCell (pA k 3) u3).1.size=w.1.size/\∀L,L<=k->Below L w ((((w.setCell (pA k 0) u0).setCell (pA k 1) u1).setCell (pA k 2) u2).setCell (pA k 3) u3):=by have i:=ap (o:=0) (u:=u0) h;have j:=ap (o:=1) (u:=u1) i;have l:=ap (o:=2) (u:=u2) j;have m:=ap (o:=3) (u:=u3) l;refine⟨by rw[m];rfl,λg a=>?_,by simp,λL b=>((((Kf L w).setCell (p:=pA k 0) b _).setCell (p:=pA k 1) b _).setCell (p:=pA k 2) b _).setCell (p:=pA k 3) b _⟩;rw[Kc _ _ _ _ a,Kc _ _ _ _ a,Kc _ _ _ _ a,Kc _ _ _ _ a]
theorem z7{B L k:Nat}{w b c:World}{fa pa fn fc pl pc d}{A C D E:Value}{p}{f:List cO}(F:B<=w.1.size)(G:bL w b)(H:w.1.size<=k)(P:k<L)(u:b.1[k]?=some (.cells #[A,C,D,E] 46 (0,0)))(I:b.ownsRow L 112 4 (.slice fa fn fc) f.length (aJ f))(l:∀i∈f,gH i)(J:∀v,bL w v->aX B v (.agg #[.slice pa pl pc,U d]) p)
  (e:c=((((b.setCell (pA k 0) (.bool true)).setCell (pA k 1) (.slice (sO b.1.size) 1 1)).setCell (pA k 2) (.slice pa pl pc)).setCell (pA k 3) (U d)).alloc (.cells #[.slice fa fn fc] 77)):
  c.1[k]?=some (.cells #[.bool true,.slice (sO b.1.size) 1 1,.slice pa pl pc,U d] 46 (0,0))/\(∀g,g≠k->g<b.1.size->c.1[g]?=b.1[g]?)/\c.1.size=b.1.size+1/\bL w c/\cD c.1.size c (.slice (sO b.1.size) 1 1) [f]/\aX c.1.size c (.agg #[.slice pa pl pc,U d]) p:=by
 have⟨x,m,n,y⟩:=eK (u0:=.bool true) (u1:=.slice (MZ b) 1 1) (u2:=.slice pa pl pc) (u3:=U d) u;have⟨o,q⟩:=nM ((((b.setCell (pA k 0) (.bool true)).setCell (pA k 1) (.slice (MZ b) 1 1)).setCell (pA k 2) (.slice pa pl pc)).setCell (pA k 3) (U d));rw[<-q] at x m n y e;have r:=io u;have s:=ah o (.cells #[.slice fa fn fc] 77);rw[<-e] at s;have a:∀g,g<o.1.size->c.1[g]?=o.1[g]?:=λg h=>by rw[e];exact Kq _ _ _ h
 have K:c.1.size=b.1.size+1:=by rw[e];simp[n]
 have j:bL w c:=by have z:=G.trans (y _ H);rw[e];exact z.alloc z.size _
 rw[n] at s a;refine⟨(a k r).trans x,λg t h=>(a g h).trans (m g t),K,j,?_,gG (J _ j) (j.u F)⟩;refine⟨_,1,rfl,Ke _,by rw[ai];omega,λi g h=>?_⟩
 match i,h with
 |0,h=>
  simp at h;subst h;refine⟨b.1.size,0,_,rfl,by omega,J0 s,?_⟩;exact jA (bT I λg M N O=>(a g (io O)).trans (m g (by omega))) l
 |i+1,h=>simp at h
theorem vw{K:Nat->Prop}{L k:Nat}{w b h:World}{fa pa fn fc pl pc d}{v x y z:Value}{f:List cO}(A:w.1.size<=b.1.size)(N:w.1.size<=k)(O:k<L)(q:b.1[k]?=some (.cells #[v,x,y,z] 46 (0,0)))(B:b.ownsRow L 112 4 (.slice fa fn fc) f.length (aJ f))(n:∀i∈f,gH i)(C:∀j,K j->j<w.1.size)
  (e:h=((((b.setCell (pA k 0) (.bool true)).setCell (pA k 1) (.slice (sO b.1.size) 1 1)).setCell (pA k 2) (.slice pa pl pc)).setCell (pA k 3) (U d)).alloc (.cells #[.slice fa fn fc] 77)):
  ym K h (.slice (sO b.1.size) 1 1) [f]:=by
 have⟨D,r,s,E⟩:=eK (u0:=.bool true) (u1:=.slice (MZ b) 1 1) (u2:=.slice pa pl pc) (u3:=U d) q;have⟨o,p⟩:=nM ((((b.setCell (pA k 0) (.bool true)).setCell (pA k 1) (.slice (MZ b) 1 1)).setCell (pA k 2) (.slice pa pl pc)).setCell (pA k 3) (U d));rw[<-p] at D r s E e;have F:=io q;have l:=ah o (.cells #[.slice fa fn fc] 77);rw[<-e] at l;have a:∀g,g<o.1.size->h.1[g]?=o.1[g]?:=λg c=>by rw[e];exact Kq _ _ _ c
 rw[s] at l a;intro G H;have t:∀g,w.1.size<=g->g<h.1.size->G.1[g]?=h.1[g]?:=λg P I=>H.2 g (λe=>absurd (C g e) (by omega)) I
 have m:=(t _ A (io l)).trans l;refine⟨_,1,rfl,Ke _,by rw[ai];omega,λi g c=>?_⟩
 match i,c with
 |0,c=>
  simp at c;subst c;refine⟨b.1.size,0,_,rfl,io m,J0 m,?_⟩;exact jA (bT B λg J M u=>(t g (by omega) (MT (io u) (io l))).trans ((a g (io u)).trans (r g (by omega)))) n
 |i+1,c=>simp at c
theorem BN(B a cap ra rl rc l)(ci O:Nat)(g:List aq)(d w)(hl:aE B w (.slice a 4 cap) l)(X:cI B w (.agg #[U 1,U ci,U O,.slice ra rl rc,U d]) (1,(ci:Int),(O:Int),g,d))(Y:B<=w.1.size)(a3:bC l=0)(b0:aZ (1,(ci:Int),(O:Int),g,d)=0)(c:aG)(a4:l[ci]?=some c)(b1:c.1=false):
  cL 35 #[.slice a 4 cap,.agg #[U 1,U ci,U O,.slice ra rl rc,U d]] w λe j=>∃v,e=.returned (.tuple #[v,U (cB (g,d))])/\aE j.1.size j v (if cB (g,d)=0 then l.set ci (true,[cm (g,d)],(g,d)) else [])/\bL w j/\∀K:Nat->Prop,(∀k,K k->k<w.1.size)->lZ K w.1.size w->kn K w (.slice a 4 cap) l->wU K w (.agg #[U 1,U ci,U O,.slice ra rl rc,U d]) (1,(ci:Int),(O:Int),g,d)->kn K j v (if cB (g,d)=0 then l.set ci (true,[cm (g,d)],(g,d)) else []):=by
 have HL:=Z λj (h:bL w j)=>hl.l h Y
 have HC:=Z λj (h:bL w j)=>a3▸fR B _ l j (hl.l h Y) (h.u Y)
 have HR:=Z λj (h:bL w j)=>b0▸eR B _ _ j (X.l h Y) (h.u Y)
 have a5:Hid (∀j,bL w j->aX B j (.agg #[.slice ra rl rc,U d]) (g,d)):=λj h=>by obtain⟨rv,e,-,-,-,hp⟩:=X.l h Y;simp at e;rw[<-e] at hp;exact hp
 have⟨cp,D⟩:=nM (cB (g,d));rw[<-D];have⟨R,a6⟩:=nM ((if cp=0 then l.set ci (true,[cm (g,d)],(g,d)) else []));rw[<-a6];have s:=Z a6;have P:=Z D;clear a6 D;have E:=Z ((f7.1 a3).1);have bF:ci<4:=by have:=(K9.1 a4).1;rw[E.o] at this;exact this
 have d0:(ci:Int)<4:=by omega
 have d1:(0:Int)<=(ci:Int):=by omega
 have c4:4<=cap:=by obtain⟨_,_,e,h1,-⟩:=hl;simp at e;rw[E.o] at h1;omega
 have b2:=Z a4;clear hl X a3 b0 a4;have⟨W1,F⟩:=nM (w.alloc (.cells #[U 1,U ci,U O,.slice ra rl rc,U d] 70));have a7:=bA F;have c5:=sA F;have g1:=hA F;have HG:=Z λj (h:bL W1 j)=>Q2 (h.bk g1) (a7.th h)
 have c7:=Z F;have c8:=Z a7;have H:=Z Y;clear F g1 a7 c5 Y;go_enter func35,ntmps35;go_wp2_with fail;rw[<-c7.o];go_at_call 63;refine(HC.o _ c8.o).mono ?_;rintro e w2 ⟨rfl,a8⟩;have⟨g2,a0⟩:=HG.o w2 a8;have⟨y0,y1,y2,y3,y4⟩:=aF g2;have a9:=Z2 a8 a0;clear g2 a8 a0 HC;go_wp2_with fail;go_at_call 64;refine(HR.o _ a9.o.2).mono ?_;rintro e x ⟨rfl,b3⟩;have⟨g3,t⟩:=HG.o x (a9.o.1.th b3);clear y0 y1 y2 y3 y4 HR b3 a9;have⟨y0,y1,y2,y3,y4⟩:=aF g3;obtain⟨_,_,e1,-,-,b4⟩:=HL.o _ t;have⟨b,o,e,c9,b5⟩:=b4 ci c b2.o;simp at e1;obtain⟨rfl,-⟩:=e1;subst e;obtain⟨la,lc,pa,pc,c0,c1,c2,c3,-,-⟩:=b5.vals;rw[b1] at c0;have e2:=Kd c9 (t.u H.o);generalize c.2.1.length=ca at*;generalize c.2.2.1.length=cb at*;generalize c.2.2.2=cd at*;clear b4 b5 b1 b2;have y:=io g3;have b6:=Z g3;have b7:=Z t;clear g3 t;have⟨W4,z⟩:=nM ((x.alloc (.cells #[.bool false,.slice la ca lc,.slice pa cb pc,U cd] 46)).alloc (.cells #[.slice ra rl rc,U d] 30));have aa:=bB z;have b9:=sB z;have g4:=gB z;have ba:=gC z;have u:=b7.o.th aa;have ac:Hid (cL 65 #[.agg #[.slice ra rl rc,U d]] W4 λe j=>∃fv,e=.returned (.tuple #[fv,U cp])/\j.ownsRow W4.1.size 112 4 fv (dW (g,d)).length (aJ (dW (g,d)))/\(∀i∈dW (g,d),gH i)/\bL W4 j):=by rw[P.o];exact qT B _ (g,d) W4 (a5.o _ u) (u.u H.o)
 have ad:=Z2 aa u;have bb:=Z2 g4 ba;have ce:=Z z;have q:=Z b9;clear z aa g4 ba u b9 c4;go_wp2_with fail;rw[<-ce.o];go_at_call 65;refine ac.o.mono ?_;rintro e w5 ⟨fv,rfl,I,Q,m⟩;have n:=ad.o.2.th m;obtain⟨fa,fc,cf,-⟩:=an I;subst cf
 by_cases A:cp=0
 case neg=>
  have hq:(cp != 0)=true:=by simpa using A
  have HZ:=Z (by rw[s.o,iO A]:R=[]);have ck:=Z n;clear I Q m n ac A P s;generalize (dW (g,d)).length=fl at*;go_wp2_with fail;go_ret2;exact⟨_,rfl,by rw[HZ.o];exact eZ _ _,ck.o,λK _ _ _ _=>by rw[HZ.o];exact ib _ _⟩
 have HZ:=Z (by rw[s.o,Io A]:R=l.set ci (true,[cm (g,d)],(g,d)));have bd:dW (g,d)=cm (g,d):=by rw[dW,Io (by rw[<-P.o];exact A)]
 subst A
 rw[bd] at I Q |-
 have J:Hid (w5.ownsRow W4.1.size 112 4 (.slice fa (cm (g,d)).length fc) (cm (g,d)).length (aJ (cm (g,d)))/\∀i∈cm (g,d),gH i):=⟨I,Q⟩;clear bd s P ac;have s5:=m.size;rw[q.o] at s5;have C:=(m.block _ (by rw[q.o];omega)).trans bb.o.1;have S:=(m.block _ (by rw[q.o];omega)).trans bb.o.2;have⟨z0,z1,e5,e6⟩:=Q4 (J0 S) (J1 S) trivial trivial;have x0:=J0 C;have x1:=J1 C;have x2:=J2 C;have x3:=J3 C;have e7:=fZ C 0;have e8:=fZ C 1;have e9:=fZ C 2;have ea:=fZ C 3;have l5:=io C;have eb:=io S;have⟨WT,T⟩:=nM (((((w5.setCell (pW x 0) (.bool true)).setCell (pW x 1) (.slice (MZ w5) 1 1)).setCell (pW x 2) (.slice ra rl rc)).setCell (pW x 3) (U d)).alloc (.cells #[.slice fa (cm (g,d)).length fc] 77));obtain⟨gT,bf,bg,V,bk,bm⟩:=z7 (p:=(g,d)) (f:=cm (g,d)) H.o n (Mc y) (by rw[q.o];omega) C J.o.1 J.o.2 a5.o T
 have L:Hid (∀K:Nat->Prop,(∀k,K k->k<w.1.size)->wU K w (.agg #[U 1,U ci,U O,.slice ra rl rc,U d]) (1,(ci:Int),(O:Int),g,d)->ym K WT (.slice (MZ w5) 1 1) [cm (g,d)]/\Id K WT (.agg #[.slice ra rl rc,U d]) (g,d)):=λK hK X=>⟨vw (w:=w) (f:=cm (g,d)) n.size (Mc y) (by rw[q.o];omega) C J.o.1 J.o.2 hK T,(wU.pol (d':=d) X).l V (λ_ _ e=>e)⟩
 have a1:=Z2 bk bm;have a2:Hid (∃G gc M,(Builtin.append_ #[22,22] 22 #[.slice (sO (w5.1.size+1)) 0 0,.slice (some ⟨b,o,none⟩) 4 cap]).run prog (WT.alloc (.cells #[] 46))=.ok (.slice (sO G) 4 gc) M/\nX w.1.size x.1.size WT w M G gc ci l (.slice (some ⟨b,o,none⟩) 4 cap)/\M.cell? (pW w 1)=some (U ci)/\M.cell? (pW x 0)=some (.bool true)/\M.cell? (pW x 1)=some (.slice (MZ w5) 1 1)/\M.cell? (pW x 2)=some (.slice ra rl rc)/\M.cell? (pW x 3)=some (U d)):=by have N:=io gT;obtain⟨G,gc,M,h1,h2,h3⟩:=sF B b o cap l ci WT w x.1.size H.o E.o (HL.o _ V) V y N bF;have W:=(h3.block _ N).trans gT;have bp:=(m.block _ (by rw[q.o];omega)).trans ((ad.o.1.block _ y).trans b6.o);have co:=(h3.block _ (MT y N)).trans ((bf _ (by omega) (io bp)).trans bp);rw[bg] at h1;exact⟨G,gc,M,h1,h2,(aF co).2.1,J0 W,J1 W,J2 W,J3 W⟩
 have cs:=Z T;have ae:=(m.block _ (by rw[q.o];omega)).trans ((ad.o.1.block _ y).trans b6.o);obtain⟨ec,ed,-,-,-⟩:=aF ae;have ee:=io ae;clear T gT bf bg V bk bm C S I Q J m n HL HG H s5 ae a5;generalize (cm (g,d)).length=fl at*;go_wp2_with (first|(at_builtin;go_must (rw[<-cs.o];obtain⟨G,gc,M,bq,r,r1,t0,t1,t2,t3⟩:=a2.o;refine Kw _ rfl _ _ _ _ rfl _ _ rfl rfl _ _ bq ?_;obtain⟨u0,p0,f0⟩:=r.cells (ci*4) (by omega);obtain⟨u1,p1,f1⟩:=r.cells (ci*4+1) (by omega);obtain⟨u2,p2,f2⟩:=r.cells (ci*4+2) (by omega);obtain⟨u3,p3,f3⟩:=r.cells (ci*4+3) (by omega);have af:Hid (nX w.1.size x.1.size WT w M G gc ci l (.slice (some ⟨b,o,none⟩) 4 cap)):=r;have ef:=r.cap;clear bq r a2)));go_ret2;obtain⟨h1,h2⟩:=af.o.done (true,[cm (g,d)],(g,d)) _ _ _ rfl a1.o.1 a1.o.2;have br:=af.o.ahead;exact⟨_,rfl,by rw[HZ.o];exact h1,h2,λK hK hO hC X=>by rw[HZ.o];exact af.o.doneK K hK (hO.l br) (hC.l br (λ_ _ e=>e)) (true,[cm (g,d)],(g,d)) _ _ _ rfl (L.o K hK X).1 (L.o K hK X).2⟩
theorem BY(B pv qv p q w)(W:aX B w pv p)(X:aX B w qv q)(A:B<=w.1.size):
  cL 223 #[pv,qv] w λe i=>∃v,e=.returned (.tuple #[v,U (eJ true p q)])/\bE w.1.size i v (eI true p q)/\bL w i:=by
 obtain⟨j,d⟩:=p;obtain⟨k,f⟩:=q;obtain⟨M,N,C,n⟩:=W;obtain⟨O,P,D,o⟩:=X;have r:Hid (∀i,bL w i->cL 234 #[.agg #[M,U d,O,U f],.func (.func 235) #[] #[]] i λe s=>∃v,e=.returned (.tuple #[v,U (eJ true (j,d) (k,f))])/\bE i.1.size s v (eI true (j,d) (k,f))/\bL i s):=λi h=>Cc true _ (λa b w=>Ah a b w) (λQ i=>by kernel_rfl) B M O j k d f i (n.l h A) (o.l h A) C D (h.u A)
 obtain⟨a,E,R,-,-,-⟩:=n;obtain⟨b,t,S,-,-,-⟩:=o;simp only at N P R S C D;subst R S N P;clear C D;generalize j.length=Y at*;generalize k.length=n2 at*;have⟨z,c⟩:=nM (((w.alloc (.cells #[.slice a Y E,U d] 30)).alloc (.cells #[.slice b n2 t,U f] 30)).alloc (.cells #[nL,U 0] 30));have F:z.1.size=w.1.size+1+1+1:=by rw[c];simp
 have u:bL w z:=by rw[c];exact((bR.alloc lE _).alloc (by simp) _).alloc (by simp;omega) _
 have T:Na z (w.1.size+1+1) #[nL,U 0] 30:=by rw[c];exact be _ _ (by simp only[Kg])
 have HW:=Z c;clear c;go_enter func223,ntmps223;go_wp2_with fail;rw[<-HW.o];go_at_call 234;refine(r.o z u).mono ?_;rintro e w4 ⟨v,rfl,G,l⟩;have V:Hid (bE (w.1.size+1+1+1) w4 v (eI true (j,d) (k,f))):=by rw[<-F];exact G
 obtain⟨vr,ev,H,va,vc,I,-⟩:=G.at;subst I;subst ev;have x:=l.bk T;have r0:=J0 x;have r1:=J1 x;have f0:=fZ x 0;have f1:=fZ x 1;have J:=Z (u.th l);clear G H l x T r;generalize (eI true (j,d) (k,f)).1.length=vn at*;have⟨vd,y⟩:=nM ((eI true (j,d) (k,f)).2)
 rw[<-y] at V |-
 clear y;have⟨I,m⟩:=nM (eJ true (j,d) (k,f));have K:=Z m.symm;rw[<-m];clear m;go_wp2_with fail;refine Ka (v:=.tuple #[.agg #[.slice va vn vc,U vd],U I]) ?_ rfl ⟨_,by rw[K.o],?_,?_⟩
 ·rw[K8 rfl];go_simp
 ·refine bE.keep (L:=w.1.size+1+1+1) ?_ (by omega) (λg _ _=>rfl) lE;repeat(first|exact V.o|refine bE.put ?_ (.inl (by simp)))
 repeat(first|exact J.o|refine Ky ?_ (by simp;omega) _)
theorem rM(B w):ia B w nL []:=⟨none,0,rfl,Ke _,by rw[ai];omega,λi c h=>by simp at h⟩
theorem uf(B lv ps w)(Q:iH B w lv ps)(T:B<=w.1.size)(hn:ps.length<=5000000000):
  cL 230 #[lv] w λe j=>∃v,e=.returned (.tuple #[v,U (aT ps)])/\ia j.1.size j v ((bj ps).map qM)/\bL w j:=by
 have V:=Z (xS B lv ps w Q T)
 by_cases r:bM ps=0
 case neg=>
  have D:Hid (aT ps=bM ps/\bj ps=[]):=by
   have e:aT ps=bM ps:=by rw[aT,iO r]
   exact⟨e,by rw[bj,iO (by rw[e];exact r)]⟩
  have W:(bM ps != 0)=true:=by simpa using r
  obtain⟨a,Y,rfl,-⟩:=Q;clear r;generalize bM ps=pe at*;generalize ps.length=a0 at*;go_enter func230,ntmps230;go_wp2_with (first|(go_at_call 250;go_must (refine Calls.mono V.o ?_;rintro e E ⟨rfl,l⟩)));go_ret2;rw[D.o.1,D.o.2];exact⟨_,rfl,rM _ _,l⟩
 have y:=jz.1 r;have HC:=Z λ(k:Nat) j (h:bL w j)=>Ch B lv ps k j (Q.l h T) y (h.u T) hn
 have HF:=Z λ(k:Nat)=>Q2 (zm ps k) (Bf y k)
 have D:=Z (by rw[aT,Io r]:aT ps=if 1000<(dG ps).length then 2 else 0);rw[r] at V;obtain⟨a,Y,rfl,bb,bc,-⟩:=Q;generalize ps.length=a0 at*;clear r y;go_enter func230,ntmps230;go_wp2_with (first|(go_at_call 250;go_must (refine Calls.mono V.o ?_;rintro e E ⟨rfl,l⟩)));have F:=l.size;have a1:Hid (∀X,X=Obj.cells #[U 0,U 0,U 0,U 0,U 0] 34 (0,0)->(E.alloc X).ownsRow w.1.size 34 5 (.slice (MZ E) 1 1) (ky ps 0).length (cj (ky ps 0))):=by intro X hX;subst hX;rw[Ey];exact⟨rfl,.inr ⟨E.1.size,1,_,rfl,F,ah _ _,Ke _,by rw[ai];omega,rfl,rfl⟩⟩
 have a2:Hid (∀X,bL w (E.alloc X)):=λX=>l.alloc F _
 go_loopw [5,15] (λpv kv wr=>∃k:Nat,k<=5/\kv=U k/\lu ps k<=1000/\Hid (wr.ownsRow w.1.size 34 5 pv (ky ps k).length (cj (ky ps k)))/\bL w wr) (λ_ kv _=>5-(intOf kv).toNat)
 case atStart=>exact⟨0,by omega,rfl,by simp[lu],a1.o _ rfl,a2.o _⟩
 case round=>
  obtain⟨k,hk,rfl,n,G,o⟩:=hrel;have⟨wo,a6⟩:=nM (wr);subst a6;have k0:(0:Int)<=(k:Int):=by omega
  have a7:=o.size;obtain⟨pa,d,rfl,-,-,-⟩:=an G.o
  by_cases a9:k<5
  ·have k1:(k:Int)<5:=by omega
   have⟨aa,z⟩:=HF.o k;have H:Hid _:=HC.o k wo o;have b:Hid (lu ps (k+1)=lu ps k*(cw ps k).length):=rfl;have ac:Hid (lu ps (k+1)<=(dG ps).length):=E2 ps (k+1) (by omega);have c:Hid ((ky ps k).length=lu ps k):=pu ps k (by omega);have I:Hid ((ky ps (k+1)).length=lu ps (k+1)):=pu ps (k+1) (by omega);have ad:=Z (zj ps k a9);have H5:=Z (yB ps k hk);have J:(k=0/\(k:Int)=0)\/(k=1/\(k:Int)=1)\/(k=2/\(k:Int)=2)\/(k=3/\(k:Int)=3)\/(k=4/\(k:Int)=4):=by omega
   have ae:Hid _:=J;clear J
   rw[c.o] at G |-
   have⟨q,W⟩:=nM (lu ps k)
   rw[<-W] at n b c G |-
   have⟨m,R⟩:=nM ((cw ps k).length);rw[<-R] at aa z b;simp only[<-R] at H;have S:=Z R.symm;clear W R;have⟨s,f⟩:=nM (q*m);have t:(s:Int)=(q:Int)*(m:Int):=by rw[f];simp
   have b3:s<=65536000:=by rw[f];exact MW n z
   have b4:IntKind.i64.wrap ((q:Int)*(m:Int))=(s:Int):=by rw[<-t];exact KA _ (by omega)
   rw[<-f] at b;have K:=Z f;clear f t;go_wp2_with fail;go_at_call 251;refine Calls.mono H.o ?_;rintro e p ⟨v3,rfl,A,L⟩;obtain⟨a3,u,rfl,-,-,-⟩:=an A;have g:=Below.tO o L a7;have M:=g.size;have af:Hid (s<=1000->cL 252 #[.slice pa q d,U k,.slice a3 m u] p λe j=>∃v,e=.returned v/\j.ownsRow p.1.size 34 5 v s (cj (ky ps (k+1)))/\bL p j):=by intro ak;have h1:ia p.1.size p (.slice pa q d) ((ky ps k).map qM):=uB (λx hx=>zC (H5.o x hx)) (by rw[c.o];exact aw G.o L);have h2:gx p.1.size p (.slice a3 m u) (cw ps k):=Dq (by rw[S.o];exact A);have h3:=F7 p.1.size k k ae.o _ _ (ky ps k) (cw ps k) p h1 h2 lE H5.o (by rw[c.o,S.o,<-K.o];exact ak) (by rw[c.o];exact n) (by rw[S.o];exact z);rw[c.o,S.o,<-K.o,<-ad.o] at h3;exact h3
   clear A
   by_cases b7:1000<s
   ·have C:(1000:Int)<(s:Int):=by omega
    have i:Hid (aT ps=2/\bj ps=[]):=by
     have hL:=ac.o;rw[b.o] at hL;have e:aT ps=2:=by rw[D.o,Io (by omega)]
     exact⟨e,by rw[bj,iO (by rw[e];decide)]⟩
    go_wp2_with fail;go_ret2;rw[i.o.1,i.o.2];exact⟨_,rfl,rM _ _,g⟩
   have C:¬(1000:Int)<(s:Int):=by omega
   have N:Hid _:=af.o (by omega);go_wp2_with fail;go_at_call 252;refine Calls.mono N.o ?_;rintro e w4 ⟨v4,rfl,O,ao⟩;have av:Hid (w4.ownsRow w.1.size 34 5 v4 (ky ps (k+1)).length (cj (ky ps (k+1)))):=by unfold Hid;rw[I.o,b.o];exact cU O M
   have P:=Below.tO g ao M;have b0:=Z (by rw[b.o];omega:lu ps (k+1)<=1000);clear O;go_wp2_with fail;exact⟨⟨k+1,by omega,by go_num,b0.o,av,P⟩,by simp[intOf];omega⟩
  obtain rfl:k=5:=by omega
  have i:Hid (aT ps=0/\bj ps=dG ps):=by
   rw[yV] at n;have e:aT ps=0:=by rw[D.o,iO (by omega)]
   exact⟨e,by rw[bj,Io e]⟩
  have b1:Hid (ia wo.1.size wo (.slice pa (ky ps 5).length d) ((bj ps).map qM)):=by unfold Hid;rw[i.o.2,<-Fx];exact uB (λx hx=>zC (yB ps 5 lE x hx)) G.o
  generalize (ky ps 5).length=L5 at*;go_wp2_with fail;go_ret2;rw[i.o.1];exact⟨_,rfl,b1.o,o⟩
def zu:ByteArray:=⟨#[107,105,108,108,32,110,114,61,51,32,97,60,53,59,108,111,103,32,107,105,110,100,33,48,59,102,97,105,108,32,98,62,55,59,97,108,108,111,119]⟩
def GR:List aq:=[([(0,1,3),(2,3,5)],0),([(1,2,0)],3),([(3,4,7)],2)]
def gQ:aD:=(GR,4)
