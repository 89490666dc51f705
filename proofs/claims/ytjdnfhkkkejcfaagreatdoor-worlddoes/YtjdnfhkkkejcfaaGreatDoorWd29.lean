import Derived.Test.YtjdnfhkkkejcfaaGreatDoorWd28
import Derived.Test.YtjdnfhkkkejcfaaGreatDoorWd23
set_option linter.all false
set_option maxRecDepth 100000
set_option maxHeartbeats 16000000
namespace Go.Proofs.YtjdnfhkkkejcfaaGreatDoor
open Go.RowKit Go.Maps Go.Proofs.Tryz
theorem gG{B g:Nat}{w v p}(h:aX B w v p)(N:B<=g):aX g w v p:=by obtain⟨l,m,n,a,f,q,s,t,u⟩:=h;refine⟨l,m,n,a,f,q,s,t,λi r x=>?_⟩;have⟨b,o,e,O,y,z,A,C,D,d,E,F,G,H⟩:=u i r x;refine⟨b,o,e,by omega,y,z,A,C,D,d,E,F,G,λj c I=>?_⟩;have⟨J,K,L,M,k⟩:=H j c I;exact⟨J,K,L,by omega,k⟩
def jN(B:Nat)(w:World)(b o:Nat)(c:aG):Prop:=
 ∃a d,w.cell? ⟨b,o,none⟩=some (.bool c.1)/\w.cell? ⟨b,o+1,none⟩=some a/\w.cell? ⟨b,o+2,none⟩=some d/\w.cell? ⟨b,o+3,none⟩=some (U c.2.2.2)/\cD B w a c.2.1/\aX B w (.agg #[d,U c.2.2.2]) c.2.2
def aE(B:Nat)(w:World)(v:Value)(l:List aG):Prop:=
 ∃a d,v=.slice a l.length d/\l.length<=d/\d<=maxLen/\∀i c,l[i]?=some c->∃b o,a=some ⟨b,o,none⟩/\b<B/\jN B w b (o+i*4) c
theorem jN.l{B B' w w' b o c}(h:jN B w b o c)(d:Below B' w w')(e:B<=B')(q:b<B):jN B w' b o c:=by
 obtain⟨f,g,i,j,k,l,m,n⟩:=h;have a:b<B':=by omega
 exact⟨f,g,(d.cell (p:=⟨b,o,none⟩) a).trans i,(d.cell (p:=⟨b,o+1,none⟩) a).trans j,(d.cell (p:=⟨b,o+2,none⟩) a).trans k,(d.cell (p:=⟨b,o+3,none⟩) a).trans l,m.l d e,n.l d e⟩
theorem aE.l{B B' w w' v l}(h:aE B w v l)(g:Below B' w w')(j:B<=B'):aE B w' v l:=by obtain⟨a,d,m,n,p,q⟩:=h;refine⟨a,d,m,n,p,λi c r=>?_⟩;have⟨b,o,e,f,k⟩:=q i c r;exact⟨b,o,e,f,k.l g j f⟩
theorem jN.wide{B a:Nat}{w b o c}(h:jN B w b o c)(d:B<=a):jN a w b o c:=by obtain⟨e,f,g,i,j,k,l,m⟩:=h;exact⟨e,f,g,i,j,k,l.mono d,gG m d⟩
theorem aE.wide{B f:Nat}{w v l}(h:aE B w v l)(g:B<=f):aE f w v l:=by obtain⟨a,d,j,m,n,p⟩:=h;refine⟨a,d,j,m,n,λi c q=>?_⟩;have⟨b,o,e,r,k⟩:=p i c q;exact⟨b,o,e,by omega,k.wide g⟩
theorem aE.shape{B w v l}(h:aE B w v l):∃a b,v=.slice a l.length b/\l.length<=b/\b<=maxLen:=by obtain⟨a,b,c,d,e,-⟩:=h;exact⟨a,b,c,d,e⟩
theorem eZ(B w):aE B w nL []:=⟨none,0,rfl,Ke _,by rw[ai];omega,λi c h=>by simp at h⟩
theorem jN.vals{B w b o c}(h:jN B w b o c):∃a d f g,w.cell? ⟨b,o,none⟩=some (.bool c.1)/\w.cell? ⟨b,o+1,none⟩=some (.slice a c.2.1.length d)/\w.cell? ⟨b,o+2,none⟩=some (.slice f c.2.2.1.length g)/\w.cell? ⟨b,o+3,none⟩=some (U c.2.2.2)/\cD B w (.slice a c.2.1.length d) c.2.1/\aX B w (.agg #[.slice f c.2.2.1.length g,U c.2.2.2]) c.2.2:=by obtain⟨r,s,k,l,m,n,i,j⟩:=h;obtain⟨a,d,rfl,-,-⟩:=i.shape;have⟨p,e,t,f,g,q,u⟩:=id j;simp at e;subst e q;exact⟨a,d,f,g,k,l,m,n,i,j⟩
theorem fR(B v l w)(hl:aE B w v l)(W:B<=w.1.size):
  cL 63 #[v] w (rT w (U (bC l))):=by
 have HL:=Z λf (h:bL w f)=>hl.l h W
 obtain⟨a,bv,rfl,bx,bz,-⟩:=hl;have bF:=ai;have HE:Hid (bC l=if l.length=4 then cy l else 4):=rfl;generalize J:l.length=M at*;have y:=Z J;clear J
 by_cases h4:M=4
 ·subst h4;have n:=Z (by rw[HE.o];rfl:bC l=cy l);clear HE;go_enter func63,ntmps63;go_wp2_with fail;go_loopw [12] (λiv wr=>∃k:Nat,k<=4/\iv=U k/\Hid (cy l=cy (l.drop k))/\bL w wr) (λiv _=>4-(intOf iv).toNat)
  case atStart=>exact⟨0,by omega,rfl,rfl,Kf _ _⟩
  case round=>
   obtain⟨k,hk,rfl,H,t⟩:=hrel;have⟨G,b2⟩:=nM (wr);subst b2;have i0:(0:Int)<=(k:Int):=by omega
   have A:=t.size
   by_cases c4:k<4
   ·have i1:(k:Int)<4:=by omega
    obtain⟨c,hc⟩:∃c,l[k]?=some c:=⟨l[k]'(by rw[y.o];omega),by simp⟩;have S:=Z (oE l k c hc);obtain⟨_,_,e1,-,-,X⟩:=HL.o _ t;have⟨b,o,e,c5,Y⟩:=X k c hc;simp at e1;obtain⟨rfl,-,-⟩:=e1;subst e;clear X hc;obtain⟨la,lc,ra,rc,c0,c1,c2,c3,a2,a3⟩:=Y.vals;have p:=Z λf (h:bL G f)=>oF B _ c.2.1 f (a2.l h (Kl W A)) (Kl W (h.u A))
    have r:=Z λf (h:bL G f)=>fW B _ c.2.2 f (a3.l h (Kl W A)) (Kl W (h.u A))
    have q:Hid (∀f,cL 95 #[.agg #[.slice ra c.2.2.1.length rc,U c.2.2.2]] f (rT f (.bool (decide (c.2.2.2=0/\c.2.2.1.length=0))))):=λf=>Bv ra _ rc _ f
    have i:Hid (dw c=if c.1≠decide (0<c.2.1.length)\/(c.1=false/\¬(c.2.2.2=0/\c.2.2.1.length=0)) then 4 else if c.1=false then 0 else if bl c.2.1=0 then aj c.2.2 else bl c.2.1):=by unfold Hid dw;simp only[LA]
    clear Y a2 a3;obtain⟨op,ls,rs,d⟩:=c;simp only at c0 c1 c2 c3 p r q i;generalize dw (op,ls,rs,d)=K at*;generalize bl ls=V at*;generalize aj (rs,d)=pe at*;generalize ls.length=L at*;generalize rs.length=n2 at*;have⟨W5,C⟩:=nM (G.alloc (.cells #[.bool op,.slice la L lc,.slice ra n2 rc,U d] 46));have a5:=bA C;have b6:=sA C;have g5:=hA C;have u:Hid (∀f,bL W5 f->f.cell? (pW G 0)=some (.bool op)/\f.cell? (pW G 1)=some (.slice la L lc)/\f.cell? (pW G 2)=some (.slice ra n2 rc)/\f.cell? (pW G 3)=some (U d)/\bL w f/\bL G f/\G.1.size<f.1.size):=λf h=>by have g:=h.bk g5;have hb:=a5.th h;exact⟨J0 g,J1 g,J2 g,J3 g,Below.tO t hb A,hb,io g⟩
    have s:=Z C;have ca:=Z t;clear C g5 a5 b6 t;have z:=u.o W5 bR;obtain⟨z0,z1,z2,z3,zw,zo,zl⟩:=z;have Zw:=Z zw;have Zo:=Z zo;clear zw zo
    cases op with
    |true=>
     by_cases hn:0<L
     ·have b8:(0:Int)<(L:Int):=by omega
      have j:=Z (by rw[i.o,iO (by simp[hn]),iO (by simp)]:K=if V=0 then pe else V);clear i q
      by_cases hh:V=0
      ·subst hh
       by_cases hp:pe=0
       ·subst hp
        have N:Hid (cy l=cy (l.drop (k+1))):=by
         have:K=0:=by rw[j.o];rfl
         unfold Hid;rw[H.o,S.o,Io this]
        clear j S H;go_wp2_with fail;rw[<-s.o];go_at_call 96;refine(p.o _ Zo.o).mono ?_;rintro e I ⟨rfl,m⟩;have⟨O,P,Q,R,x,F,yl⟩:=u.o I m;clear z0 z1 z2 z3;go_wp2_with fail;go_at_call 89;refine(r.o _ F).mono ?_;rintro e w7 ⟨rfl,T⟩;have D:=x.th T;clear O P Q R x F;go_wp2_with fail;exact⟨⟨k+1,by omega,by go_num,N,D⟩,by simp[intOf];omega⟩
       have N:Hid (cy l=pe):=by
        have:K=pe:=by rw[j.o];rfl
        unfold Hid;rw[H.o,S.o,this,iO hp]
       have hq:(pe != 0)=true:=by simpa using hp
       clear j S H hp;go_wp2_with fail;rw[<-s.o];go_at_call 96;refine(p.o _ Zo.o).mono ?_;rintro e I ⟨rfl,m⟩;have⟨O,P,Q,R,x,F,yl⟩:=u.o I m;clear z0 z1 z2 z3;go_wp2_with fail;go_at_call 89;refine(r.o _ F).mono ?_;rintro e w7 ⟨rfl,T⟩;have D:=x.th T;clear O P Q R x F;go_wp2_with fail;go_ret;exact⟨by rw[n.o,N.o];rfl,D⟩
      have N:Hid (cy l=V):=by
       have:K=V:=by rw[j.o,iO hh]
       unfold Hid;rw[H.o,S.o,this,iO hh]
      have hq:(V != 0)=true:=by simpa using hh
      clear j S H hh;go_wp2_with fail;rw[<-s.o];go_at_call 96;refine(p.o _ Zo.o).mono ?_;rintro e I ⟨rfl,m⟩;have⟨O,P,Q,R,x,F,yl⟩:=u.o I m;clear z0 z1 z2 z3 O P Q R;go_wp2_with fail;go_ret;exact⟨by rw[n.o,N.o];rfl,x⟩
     obtain rfl:L=0:=by omega
     have e4:Hid (cy l=4):=by
      have:K=4:=by rw[i.o,Io (.inl (by simp))]
      unfold Hid;rw[H.o,S.o,this];rfl
     clear i p r q S H;go_wp2_with fail;go_ret;rw[s.o] at Zw;exact⟨by rw[n.o,e4.o];rfl,Zw.o⟩
    |false=>
     by_cases hn:0<L
     ·have b8:(0:Int)<(L:Int):=by omega
      have e4:Hid (cy l=4):=by
       have:K=4:=by rw[i.o,Io (.inl (by simp;omega))]
       unfold Hid;rw[H.o,S.o,this];rfl
      clear i p r q S H;go_wp2_with fail;go_ret;rw[s.o] at Zw;exact⟨by rw[n.o,e4.o];rfl,Zw.o⟩
     obtain rfl:L=0:=by omega
     by_cases hz:d=0/\n2=0
     ·have N:Hid (cy l=cy (l.drop (k+1))):=by
       have:K=0:=by rw[i.o,iO (by simp[hz]),Io rfl]
       unfold Hid;rw[H.o,S.o,Io this]
      obtain⟨rfl,rfl⟩:=hz;have E:=Z q.o;clear i p r q S H;go_wp2_with fail;rw[<-s.o];go_at_call 95;refine(E.o _).mono ?_;rintro e I ⟨rfl,m⟩;have⟨O,P,Q,R,x,F,yl⟩:=u.o I m;have Yw:=Z x;clear z0 z1 z2 z3 F x;go_wp2_with fail;exact⟨⟨k+1,by omega,by go_num,N,Yw.o⟩,by simp[intOf];omega⟩
     have e4:Hid (cy l=4):=by
      have:K=4:=by rw[i.o,Io (.inr ⟨rfl,hz⟩)]
      unfold Hid;rw[H.o,S.o,this];rfl
     have E:Hid (∀f,cL 95 #[.agg #[.slice ra n2 rc,U d]] f (rT f (.bool false))):=by have:=q.o;rw[KD hz] at this;exact this
     clear i p r q S H hz;go_wp2_with fail;rw[<-s.o];go_at_call 95;refine(E.o _).mono ?_;rintro e I ⟨rfl,m⟩;have⟨O,P,Q,R,x,F,yl⟩:=u.o I m;have Yw:=Z x;clear z0 z1 z2 z3 F x;go_wp2_with fail;go_ret;exact⟨by rw[n.o,e4.o];rfl,Yw.o⟩
   go_wp2_with fail;go_ret;exact⟨by rw[n.o,H.o,KJ (by rw[y.o];omega)];rfl,t⟩
 have n:=Z (by rw[HE.o,iO h4]:bC l=4);have ba:¬(M:Int)=4:=by omega
 have hq:((M:Int) != 4)=true:=by simpa using ba
 clear HE h4;go_enter func63,ntmps63;go_wp2_with fail;go_ret;exact⟨by rw[n.o];rfl,Kf _ _⟩
def oB(B L:Nat)(w:World)(v:Value)(p:aD):Prop:=aj p=0/\∃a,w.ownsRow L 131 2 v (p.1.length+1) a/\lB B w a (p.1++[([],p.2)])
theorem oB.keep{B L B' w w' v p}(h:oB B L w v p)(a:Below B' w w')(b:B<=B')(c:dB 131 w w'):oB B L w' v p:=by obtain⟨d,e,f,g⟩:=h;exact⟨d,e,eQ f c,g.l a b⟩
theorem oB.rules{B L w v p}(h:oB B L w v p)(a:B<=w.1.size):bD w.1.size w v (p.1++[([],p.2)]):=by obtain⟨d,e,b,c⟩:=h;exact rG (by simpa using b) c a
theorem oB.ten{B L w v p}(h:oB B L w v p):p.1.length<=120/\∀r∈p.1++[(([]:List aN),p.2)],r.1.length<=10:=by
 obtain⟨b,-,c⟩:=cY h.1;refine⟨b,λr a=>?_⟩
 rcases KB.1 a with a|a
 ·exact(dy (cM c r a)).1
 simp at a;subst a;exact Ks _
theorem oB.shape{B L w v p}(h:oB B L w v p):∃a b,v=.slice a (p.1.length+1) b:=by obtain⟨d,f,c,g⟩:=h;have⟨a,b,e,_⟩:=an c;exact⟨a,b,e⟩
def oe(B L c:Nat)(p q:aD)(k:Nat)(w:World):Prop:=
 ∃a b,w.1[c]?=some (.cells #[a,b] 304 (0,0))/\(k=0->a=nL)/\(k<=1->b=nL)/\(1<=k->oB B L w a p)/\(2<=k->oB B L w b q)
theorem oe.l{B L sb k p q w w'}(h:oe B L sb p q k w)(a:bL w w')(b:B<=w.1.size):oe B L sb p q k w':=by obtain⟨d,e,c,f,g,i,j⟩:=h;exact⟨d,e,(a.block sb (io c)).trans c,f,g,λh=>(i h).keep a b (dB.of_below a),λh=>(j h).keep a b (dB.of_below a)⟩
theorem oe.first{B L sb p q w v}(h:oe B L sb p q 0 w)(c:oB B L w v p)(a:B<=sb):oe B L sb p q 1 (w.setCell (pA sb 0) v):=by obtain⟨i,d,b,j,e,k,l⟩:=h;have f:dB 131 w (w.setCell (pA sb 0) v):=dB.setOther b (by decide);have g:Below B w (w.setCell (pA sb 0) v):=bR.setCell (p:=pA sb 0) a _;exact⟨v,d,by rw[ap b];rfl,λh=>by omega,λ_=>e (by omega),λ_=>c.keep g lE f,λh=>by omega⟩
theorem oe.second{B L sb p q w v}(h:oe B L sb p q 1 w)(e:oB B L w v q)(a:B<=sb):oe B L sb p q 2 (w.setCell (pA sb 1) v):=by obtain⟨f,i,b,j,k,g,l⟩:=h;have c:dB 131 w (w.setCell (pA sb 1) v):=dB.setOther b (by decide);have d:Below B w (w.setCell (pA sb 1) v):=bR.setCell (p:=pA sb 1) a _;exact⟨f,v,by rw[ap b];rfl,λh=>by omega,λh=>by omega,λ_=>(g (by omega)).keep d lE c,λ_=>e.keep d lE c⟩
structure Js (W:World) (fs:Nat->Value->Prop) (w:World):Prop where
 l:bL W w
 box:∀u,fs 9 u->∃g,u=.pointer (sO g)/\W.1.size<=g/\w.1[g]?=some (.cells #[nL,U 0] 30 (0,0))
def JO(k:Nat)(v:Value):Prop:=if k=9 then ∃g:Nat,v=.pointer (sO g) else True
theorem FW(k):∃v,JO k v:=by
 unfold JO
 split
 ·exact⟨_,0,rfl⟩
 exact⟨undef,trivial⟩
theorem Js.made{W w}{b:Nat->Value->Prop}(h:Js W b w):Js W (d9 b 9 (.pointer (sO w.1.size))) (w.alloc (.cells #[nL,U 0] 30)):=by
 have c:=(Kf w.1.size w).alloc lE (.cells #[nL,U 0] 30);refine⟨h.l.th c,λu a=>?_⟩
 rcases a with a|⟨_,rfl⟩
 ·have⟨g,e,f,d⟩:=h.box u a;exact⟨g,e,f,(c.block g (io d)).trans d⟩
 exact⟨_,rfl,h.l.size,ah _ _⟩
theorem Cc(exc F)(hF:∀a b w,cL F #[.agg #[U a,U b]] w (rT w (U (mG exc a b))))
  (hC:∀bg c,(callFunc F bg).run prog c=.ok (.enter F bg) c) (B rv sv G H d f w) (hr:bD B w rv G) (hs:bD B w sv H) (hd:wf d) (hf:wf f) (hB:B<=w.1.size):
  cL 234 #[.agg #[rv,U d,sv,U f],.func (.func F) #[] #[]] w λe c=>∃v,e=.returned (.tuple #[v,U (eJ exc (G,d) (H,f))])/\bE w.1.size c v (eI exc (G,d) (H,f))/\bL w c:=by
 have cf:=Z λB v0 v1 G H w (J:bD B w v0 G) (h2:bD B w v1 H) (h3:B<=w.1.size) (h4:G.length<=121) (h5:H.length<=121) (h6:(∀r∈G,r.1.length<=10)) (h7:(∀r∈H,r.1.length<=10))=>BJ exc F hF hC B v0 v1 G H w J h2 h3 h4 h5 h6 h7
 clear hF hC;have b6:Hid (∀c,bL w c->cL 143 #[.agg #[rv,U d]] c (rT c (U (aj (G,d))))):=λc h=>gZ B _ (G,d) c ⟨_,rfl,hd,hr.l h hB⟩ (h.u hB)
 have b7:Hid (∀c,bL w c->cL 143 #[.agg #[sv,U f]] c (rT c (U (aj (H,f))))):=λc h=>gZ B _ (H,f) c ⟨_,rfl,hf,hs.l h hB⟩ (h.u hB)
 have b8:Hid (aj (G,d)=0->∀c,bL w c->cL 254 #[.agg #[rv,U d]] c λe K=>∃v,e=.returned v/\oB B c.1.size K v (G,d)/\bL c K):=λh0 c h=>(ow B rv G d c (hr.l h hB) hd (h.u hB) (cY h0).1).mono λe K ⟨v,e1,xs,e2,e3,e4⟩=>⟨v,e1,⟨h0,xs,by simpa using e2,e3⟩,e4⟩
 have b9:Hid (aj (H,f)=0->∀c,bL w c->cL 254 #[.agg #[sv,U f]] c λe K=>∃v,e=.returned v/\oB B c.1.size K v (H,f)/\bL c K):=λh0 c h=>(ow B sv H f c (hs.l h hB) hf (h.u hB) (cY h0).1).mono λe K ⟨v,e1,xs,e2,e3,e4⟩=>⟨v,e1,⟨h0,xs,by simpa using e2,e3⟩,e4⟩
 have ey:Hid (wf (mG exc d f)):=Ai hd hf;obtain⟨a0,c0,e0,-,-,-⟩:=hr;obtain⟨a1,c1,e1,-,-,-⟩:=hs;subst e0 e1;clear hd hf;have eF:=ai;obtain⟨p,hp⟩:∃p:aD,p=(G,d):=⟨_,rfl⟩;obtain⟨q,hq⟩:∃q:aD,q=(H,f):=⟨_,rfl⟩;have eV:Hid (p.1=G/\p.2=d/\q.1=H/\q.2=f):=by rw[hp,hq];exact⟨rfl,rfl,rfl,rfl⟩
 rw[<-hp] at b6 b8 |-
 rw[<-hq] at b7 b9 |-
 clear hp hq;have⟨n0,bo⟩:=nM (G.length);have⟨n1,bp⟩:=nM (H.length);have hg:=Z bo.symm;have hi:=Z bp.symm
 rw[<-bo] at b6 b8 |-
 rw[<-bp] at b7 b9 |-
 clear bo bp;have⟨N,X⟩:=nM (((w.alloc (.cells #[.slice a0 n0 c0,U d,.slice a1 n1 c1,U f] 289)).alloc (.cells #[nL,U 0] 30)).alloc (.cells #[nL,nL] 304));have hj:N.1.size=w.1.size+1+1+1:=by rw[X];simp
 have d0:bL w N:=by rw[X];exact((bR.alloc lE _).alloc (by simp) _).alloc (by simp;omega) _
 have g1:Na N (w.1.size+1) #[nL,U 0] 30:=by rw[X];exact aS _ (be _ _ (by simp only[Kg]))
 have g2:Na N (w.1.size+1+1) #[nL,nL] 304:=by rw[X];exact be _ _ (by simp only[Kg])
 have d1:Hid (oe B (w.1.size+1+1+1) (w.1.size+1+1) p q 0 N):=⟨_,_,g2,λ_=>rfl,λ_=>rfl,λh=>by omega,λh=>by omega⟩;have O:=Z λv (h:Below (w.1.size+1+1) N v)=>Q2 (h.bk g1) (d0.trans (h.mono (by omega)))
 have HW:=Z X;clear X g1 g2 d0;go_enter func234,ntmps234;go_wp2_with fail;rw[<-HW.o];go_loopw [15] (λiv wr=>∃k:Nat,k<=2/\iv=U k/\Hid (oe B (w.1.size+1+1+1) (w.1.size+1+1) p q k wr)/\Hid (Below (w.1.size+1+1) N wr)) (λiv _=>2-(intOf iv).toNat)
 case atStart=>exact⟨0,by omega,rfl,d1,Kf _ _⟩
 case round=>
  obtain⟨k,hk,rfl,HS,P⟩:=hrel;have⟨Y,f3⟩:=nM (wr);subst f3;have hn:w.1.size+1+1+1<=Y.1.size:=by have:=P.o.size;omega
  have f4:k=0\/k=1\/k=2:=by omega
  rcases f4 with rfl|rfl|rfl
  ·have⟨Wp,n⟩:=nM (Y.alloc (.cells #[.slice a0 n0 c0,U d] 30));have Q:=bA n;have f5:=sA n;have gp:=hA n;have a9:Hid (oe B (w.1.size+1+1+1) (w.1.size+1+1) p q 0 Wp):=HS.o.l Q (by omega);have R:Hid (Below (w.1.size+1+1) N Wp):=Below.tO P.o Q (by omega);have br:=Z n;have bs:∀c,(Instr.index 289 (.agg #[.slice a0 n0 c0,U d,.slice a1 n1 c1,U f]) (U 0)).run prog c=.ok (.agg #[.slice a0 n0 c0,U d]) c:=λc=>by kernel_rfl
   clear n Q HS P;go_wp2_with fail;rw[<-br.o];clear bs;go_at_call 143;refine(b6.o Wp (O.o _ R.o).2).mono ?_;rintro e w4 ⟨rfl,s⟩;have f9:=s.size;have g4:=s.bk gp;have A:Hid (oe B (w.1.size+1+1+1) (w.1.size+1+1) p q 0 w4):=a9.o.l s (by omega);have t:Hid (Below (w.1.size+1+1) N w4):=Below.tO R.o s (by omega);clear gp a9 R s
   by_cases l:aj p=0
   ·rw[l];have I:=Z l;clear l;have k0:=J0 g4;have k1:=J1 g4;clear g4;go_wp2_with fail;go_at_call 254;refine(b8.o I.o w4 (O.o _ t.o).2).mono ?_;rintro e w5 ⟨v,rfl,S,x⟩;have fa:=x.size;obtain⟨va,vc,ev⟩:=S.shape;subst ev;have ac:Hid (oe B (w.1.size+1+1+1) (w.1.size+1+1) p q 0 w5):=A.o.l x (by omega);have bF:Hid (Below (w.1.size+1+1) N w5):=Below.tO t.o x (by omega);have c2:Hid (oB B (w.1.size+1+1+1) w5 (.slice va (p.1.length+1) vc) p):=by obtain⟨i0,xs,i1,i2⟩:=S;exact⟨i0,xs,cU i1 (by omega),i2⟩
    obtain⟨s0,s1,i,-,-,-,-⟩:=ac.o;have y0:=J0 i;have yf:=fZ i 0;have ad:Hid (oe B (w.1.size+1+1+1) (w.1.size+1+1) p q 1 (w5.setCell (pA (w.1.size+1+1) 0) (.slice va (p.1.length+1) vc))/\Below (w.1.size+1+1) N (w5.setCell (pA (w.1.size+1+1) 0) (.slice va (p.1.length+1) vc))):=⟨ac.o.first c2.o (by omega),bF.o.setCell (p:=pA (w.1.size+1+1) 0) lE _⟩;clear i S x k0 k1 A t;generalize p.1.length+1=vn at*;go_wp2_with fail;exact⟨⟨1,by omega,rfl,ad.o.1,ad.o.2⟩,by simp[intOf]⟩
   have I:Hid (eJ exc p q=aj p/\eI exc p q=([],0)):=by
    have h0:bM [p,q]=aj p:=by unfold bM;rw[iO l]
    have J:eJ exc p q=aj p:=by unfold eJ;rw[iO (by rw[h0];exact l),h0]
    exact⟨J,by unfold eI;rw[iO (by rw[J];exact l)]⟩
   have ae:(aj p != 0)=true:=by simpa using l
   have⟨pe,C⟩:=nM (aj p)
   rw[<-C] at ae I |-
   clear l C;obtain⟨j,D⟩:=O.o _ t.o;have r0:=J0 j;have r1:=J1 j;have f0:=fZ j 0;have f1:=fZ j 1;have a2:=Z D;clear j D g4 A t;go_wp2_with fail;refine Ka (v:=.tuple #[.agg #[nL,U 0],U pe]) ?_ rfl ⟨_,by rw[I.o.1],by rw[I.o.2];exact kA _ _,?_⟩
   ·rw[K8 rfl];go_simp
   repeat(first|exact a2.o|refine Ky ?_ (by simp) _)
  ·have⟨Wp,n⟩:=nM (Y.alloc (.cells #[.slice a1 n1 c1,U f] 30));have Q:=bA n;have f5:=sA n;have gp:=hA n;have a9:Hid (oe B (w.1.size+1+1+1) (w.1.size+1+1) p q 1 Wp):=HS.o.l Q (by omega);have R:Hid (Below (w.1.size+1+1) N Wp):=Below.tO P.o Q (by omega);have br:=Z n;have bs:∀c,(Instr.index 289 (.agg #[.slice a0 n0 c0,U d,.slice a1 n1 c1,U f]) (U 1)).run prog c=.ok (.agg #[.slice a1 n1 c1,U f]) c:=λc=>by kernel_rfl
   clear n Q HS P;go_wp2_with fail;rw[<-br.o];clear bs;go_at_call 143;refine(b7.o Wp (O.o _ R.o).2).mono ?_;rintro e w4 ⟨rfl,s⟩;have f9:=s.size;have g4:=s.bk gp;have A:Hid (oe B (w.1.size+1+1+1) (w.1.size+1+1) p q 1 w4):=a9.o.l s (by omega);have t:Hid (Below (w.1.size+1+1) N w4):=Below.tO R.o s (by omega);clear gp a9 R s
   by_cases l:aj q=0
   ·rw[l];have I:=Z l;clear l;have k0:=J0 g4;have k1:=J1 g4;clear g4;go_wp2_with fail;go_at_call 254;refine(b9.o I.o w4 (O.o _ t.o).2).mono ?_;rintro e w5 ⟨v,rfl,S,x⟩;have fa:=x.size;obtain⟨va,vc,ev⟩:=S.shape;subst ev;have ac:Hid (oe B (w.1.size+1+1+1) (w.1.size+1+1) p q 1 w5):=A.o.l x (by omega);have bF:Hid (Below (w.1.size+1+1) N w5):=Below.tO t.o x (by omega);have c2:Hid (oB B (w.1.size+1+1+1) w5 (.slice va (q.1.length+1) vc) q):=by obtain⟨i0,xs,i1,i2⟩:=S;exact⟨i0,xs,cU i1 (by omega),i2⟩
    obtain⟨s0,s1,i,-,-,-,-⟩:=ac.o;have y0:=J1 i;have yf:=fZ i 1;have ad:Hid (oe B (w.1.size+1+1+1) (w.1.size+1+1) p q 2 (w5.setCell (pA (w.1.size+1+1) 1) (.slice va (q.1.length+1) vc))/\Below (w.1.size+1+1) N (w5.setCell (pA (w.1.size+1+1) 1) (.slice va (q.1.length+1) vc))):=⟨ac.o.second c2.o (by omega),bF.o.setCell (p:=pA (w.1.size+1+1) 1) lE _⟩;clear i S x k0 k1 A t;generalize q.1.length+1=vn at*;go_wp2_with fail;exact⟨⟨2,by omega,rfl,ad.o.1,ad.o.2⟩,by simp[intOf]⟩
   have I:Hid (eJ exc p q=aj q/\eI exc p q=([],0)):=by
    have h0:bM [p,q]=aj q:=by unfold bM;rw[Io ((show oB B _ _ _ p from (A.o.choose_spec.choose_spec.2.2.2.1 (by omega))).1)];unfold bM;rw[iO l]
    have J:eJ exc p q=aj q:=by unfold eJ;rw[iO (by rw[h0];exact l),h0]
    exact⟨J,by unfold eI;rw[iO (by rw[J];exact l)]⟩
   have ae:(aj q != 0)=true:=by simpa using l
   have⟨pe,C⟩:=nM (aj q)
   rw[<-C] at ae I |-
   clear l C;obtain⟨j,D⟩:=O.o _ t.o;have r0:=J0 j;have r1:=J1 j;have f0:=fZ j 0;have f1:=fZ j 1;have a2:=Z D;clear j D g4 A t;go_wp2_with fail;refine Ka (v:=.tuple #[.agg #[nL,U 0],U pe]) ?_ rfl ⟨_,by rw[I.o.1],by rw[I.o.2];exact kA _ _,?_⟩
   ·rw[K8 rfl];go_simp
   repeat(first|exact a2.o|refine Ky ?_ (by simp) _)
  obtain⟨s0,s1,i,-,-,T,V⟩:=HS.o;have T:=T (by omega);have V:=V (by omega);obtain⟨fn,d5⟩:=T.ten;obtain⟨fo,d6⟩:=V.ten;have fp:Hid (bM [p,q]=0):=by unfold Hid bM;rw[Io T.1];unfold bM;rw[Io V.1];rfl
  have I:=Z (by rw[eJ,Io fp.o]:eJ exc p q=aj (gI exc p q));have⟨M,hM⟩:=nM ((gh exc p q).length+1);have⟨N0,c3⟩:=nM (p.1.length+1);have⟨N1,c4⟩:=nM (q.1.length+1);have c5:M=N0*N1:=by rw[hM,c3,c4];exact CP exc p q
  have dd:(N0:Int)*(N1:Int)=(M:Int):=by rw[c5];simp
  have de:M<=14641:=by rw[c5];exact Kl (MW (by omega:N0<=121) (by omega:N1<=121)) (by decide)
  have df:Hid (M<=121->cL 255 #[.agg #[s0,s1],.func (.func F) #[] #[]] Y λe c=>∃v,e=.returned v/\∃xs,c.ownsRow Y.1.size 131 2 v (gh exc p q++[([],mG exc p.2 q.2)]).length xs/\uN Y.1.size c xs (gh exc p q++[([],mG exc p.2 q.2)])/\bL Y c):=λ_=>by have h:=cf.o Y.1.size s0 s1 _ _ Y (T.rules (by omega)) (V.rules (by omega)) lE (by simp;omega) (by simp;omega) d5 d6;rw[vE] at h;exact h
  obtain⟨hv,hw,di⟩:=T.shape;obtain⟨hy,hz,dk⟩:=V.shape;rw[<-c3] at di;rw[<-c4] at dk;subst di dk;have y0:=J0 i;have y1:=J1 i;have HM:=Z hM;have dl:(N0:Int)<=121:=by omega
  have dn:(N1:Int)<=121:=by omega
  obtain⟨j,dp⟩:=O.o _ P.o;have a2:=Z dp;have dq:=Z λv (h:bL Y v)=>h.bk j
  have fv:wrap64 ((N0:Int)*(N1:Int))=(M:Int):=by rw[dd];unfold wrap64;omega
  clear hM c3 c4 c5 dd T V fn fo d5 d6 dp HS P cf b8 b9 b6 b7 d1
  by_cases dr:121<M
  ·have af:(121:Int)<(M:Int):=by omega
   have ds:Hid (eJ exc p q=2/\eI exc p q=([],0)):=by
    have J:eJ exc p q=2:=by rw[I.o];unfold aj;rw[Io];show 120<(gh exc p q).length;have:=HM.o;omega
    exact⟨J,by unfold eI;rw[iO (by rw[J];decide)]⟩
   have r0:=J0 j;have r1:=J1 j;have f0:=fZ j 0;have f1:=fZ j 1;clear j i;go_wp2_with fail;refine Ka (v:=.tuple #[.agg #[nL,U 0],U 2]) ?_ rfl ⟨_,by rw[ds.o.1],by rw[ds.o.2];exact kA _ _,?_⟩
   ·rw[K8 rfl];go_simp
   repeat(first|exact a2.o|refine Ky ?_ (by simp) _)
  have af:¬((121:Int)<(M:Int)):=by omega
  clear j i;go_wp2_with fail;go_at_call 255;refine(df.o (by omega)).mono ?_;rintro e w7 ⟨v,rfl,xs,ho,hx,bb⟩;have⟨m,hm⟩:=nM ((gh exc p q).length);have g0:M=m+1:=by rw[HM.o,hm]
  have bm:(gh exc p q++[(([]:List aN),mG exc p.2 q.2)]).length=M:=by rw[HM.o];simp
  have c6:w7.ownsRow Y.1.size 131 2 v M xs:=by rw[<-bm];exact ho
  have⟨a7,c7,e7,gD,dv,e5⟩:=an c6;subst e7;obtain⟨g,eg,g3,g5⟩:=e5 (by omega);subst eg;have⟨vd,bc⟩:=nM (mG exc p.2 q.2);have g6:wf vd:=by have:=ey.o;obtain⟨-,e2,-,e4⟩:=eV.o;rw[bc,e2,e4];exact this
  have z1:w7.cell? ⟨g,m*2+1,none⟩=some (U vd):=by obtain⟨cv,-,k1,-⟩:=hx.2.2 m ([],mG exc p.2 q.2) (by rw[hm];simp);rw[bc];exact aK c6 _ _ k1
  have g7:Hid (bE Y.1.size w7 (.agg #[.slice (sO g) m c7,U vd]) (gI exc p q)):=by
   have h:=wL (d:=vd) (m:=m) ho hx (by rw[hm];simp) g6;rw[hm,List.take_left',<-hm] at h
   ·rw[bc] at h |-
    exact h
   rfl
  have g8:=bb.size;have e6:=Z λv (h:bL w7 v)=>Q2 (dq.o v (bb.th h)) (Below.tO a2.o (bb.th h) (by omega))
  have e8:wrap64 ((M:Int)-1)=(m:Int):=by unfold wrap64;omega
  have gb:(M:Int)-1=(m:Int):=by omega
  have hG:(m:Int)<(M:Int):=by omega
  have hH:(0:Int)<=(m:Int):=by omega
  have hI:m<M:=by omega
  rw[eF] at dv;have ea:=Z2 (by omega:w.1.size+1<Y.1.size) g8;clear ho hx c6 bm hm g0 bc bb df y0 y1 HM dq g3 fv dl dn de;clear e5;go_wp2_with fail;clear gb e8 af dr;have bd:=ax.ne w7;have q7:∀y:ax w7,y.1.cell? ⟨g,m*2+1,none⟩=some (U vd):=λy=>y.cell z1 g5
  have a4:Hid (∀fs c,Js w7 fs c->∃z:ax w7,c=z.1):=λfs c h=>⟨⟨c,h.l⟩,rfl⟩
  clear z1;refine bJ [_,_,_,_,_,_,_,_,_,_] _ rfl (λk=>k==9) (Js w7) JO FW (by kernel_rfl) (by kernel_rfl) ⟨bR.drew,λ_ h=>h.elim⟩ ?_;iterate 2(refine aP a4.o rfl rfl ?_;go_big_quiet_step (fail);refine Km ?_)
  refine fD (.slice (sO g) m c7) rfl rfl (λc=>?_) ?_
  ·clear q7 a4 bd;go_simp;intro hh;exfalso;omega
  go_frame;iterate 5(refine aP a4.o rfl rfl ?_;go_big_quiet_step (fail);refine Km ?_)
  refine fD (.agg #[.slice (sO g) m c7,U vd]) rfl rfl (λc=>?_) ?_
  ·clear q7 a4 bd;go_simp
  go_frame;refine cz rfl rfl (λgs c hJ eb gc=>⟨.pointer (MZ c),c.alloc (.cells #[nL,U 0] 30),?_,⟨_,rfl⟩,hJ.made⟩) (λv9 ge=>?_)
  ·clear hJ eb gc q7 a4 bd;go_simp
  go_frame;obtain⟨g9,rfl⟩:∃g:Nat,v9=.pointer (sO g):=ge;refine ei ?_;intro w9 hJ;obtain⟨hN,e9,gj,a5⟩:=hJ.box _ (.inr ⟨rfl,rfl⟩);simp at e9;subst e9;have ec:=hJ.l;have y0:=J0 a5;have y1:=J1 a5;have f0:=fZ a5 0;have f1:=fZ a5 1;have⟨bf,W⟩:=nM ((w9.setCell (pA g9 0) (.slice (sO g) m c7)).setCell (pA g9 1) (U vd));have ak:bL w7 bf:=by rw[W];exact ec.s2 gj
  have al:Na bf g9 #[.slice (sO g) m c7,U vd] 30:=by have J:=ap (o:=0) (u:=.slice (sO g) m c7) a5;have h2:=ap (o:=1) (u:=U vd) J;rw[W];exact h2
  have ed:=Z W;have ao:=Z (g7.o.l lE ak);have gk:Hid (cL 143 #[.agg #[.slice (sO g) m c7,U vd]] bf (rT bf (U (aj (gI exc p q))))):=gZ _ _ _ _ ao.o.at lE;clear W a5 hJ ec q7 a4 bd;go_wp2_with fail;rw[<-ed.o];go_at_call 143;refine gk.o.mono ?_;rintro e c8 ⟨rfl,E⟩;have av:=ak.th E;have⟨j,b0⟩:=e6.o c8 av;have b2:=(E.block g9 (io al)).trans al;have b3:=Z b0;have gW:Hid (bE w.1.size c8 (.agg #[.slice (sO g) m c7,U vd]) (gI exc p q)):=ao.o.l (by have:=ea.o;omega) E;have c9:Hid (bE (w.1.size+1+1) c8 (.agg #[.slice (sO g) m c7,U vd]) (gI exc p q)):=ao.o.l (by have:=ea.o;omega) E;have r0:=J0 j;have r1:=J1 j;have t0:=fZ j 0;have t1:=fZ j 1;have k0:=J0 b2;have k1:=J1 b2;clear av b0 E ak al b2 j y0 y1 f0 f1
  by_cases l:aj (gI exc p q)=0
  ·have HR:Hid (eJ exc p q=0/\eI exc p q=gI exc p q):=by
    have J:eJ exc p q=0:=by rw[I.o,l]
    exact⟨J,by unfold eI;rw[Io J]⟩
   rw[l];clear l;go_wp2_with fail;refine Ka (v:=.tuple #[.agg #[.slice (sO g) m c7,U vd],U 0]) ?_ rfl ⟨_,by rw[HR.o.1],?_,?_⟩
   ·rw[K8 rfl];go_simp
   ·rw[HR.o.2];refine bE.keep (L:=w.1.size+1+1) ?_ (by omega) (λg _ _=>rfl) lE;repeat(first|exact c9.o|refine bE.put ?_ (.inl (by simp)))
   repeat(first|exact b3.o|refine Ky ?_ (by simp) _)
  have HR:Hid (eJ exc p q=aj (gI exc p q)/\eI exc p q=([],0)):=⟨I.o,by unfold eI;rw[iO (by rw[I.o];exact l)]⟩;have ae:(aj (gI exc p q) != 0)=true:=by simpa using l
  have⟨pe,C⟩:=nM (aj (gI exc p q))
  rw[<-C] at ae HR |-
  clear l C;go_wp2_with fail;refine Ka (v:=.tuple #[.agg #[nL,U 0],U pe]) ?_ rfl ⟨_,by rw[HR.o.1],by rw[HR.o.2];exact kA _ _,?_⟩
  ·rw[K8 rfl];go_simp
  repeat(first|exact b3.o|refine Ky ?_ (by simp) _)
