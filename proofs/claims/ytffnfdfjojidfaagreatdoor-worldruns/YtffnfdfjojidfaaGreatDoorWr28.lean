import Derived.Test.YtffnfdfjojidfaaGreatDoorWr26
import Derived.Test.YtffnfdfjojidfaaGreatDoorWr27
set_option linter.all false
set_option maxRecDepth 100000
set_option maxHeartbeats 8000000
namespace Go.Proofs.YtffnfdfjojidfaaGreatDoor
open Go.RowKit Go.Maps Go.Proofs.Tryz
theorem gG{B g:Nat}{w v p}(h:aX B w v p)(N:B<=g):aX g w v p:=by obtain⟨l,m,n,a,f,q,s,t,u⟩:=h;refine⟨l,m,n,a,f,q,s,t,λi r x=>?_⟩;have⟨b,o,e,O,y,z,A,C,D,d,E,F,G,H⟩:=u i r x;refine⟨b,o,e,by omega,y,z,A,C,D,d,E,F,G,λj c I=>?_⟩;have⟨J,K,L,M,k⟩:=H j c I;exact⟨J,K,L,by omega,k⟩
def jN(B:Nat)(w:World)(b o:Nat)(c:aG):Prop:=
 ∃a d,w.cell? ⟨b,o,none⟩=some (.bool c.1)/\w.cell? ⟨b,o+1,none⟩=some a/\w.cell? ⟨b,o+2,none⟩=some d/\w.cell? ⟨b,o+3,none⟩=some (U c.2.2.2)/\cD B w a c.2.1/\aX B w (.agg #[d,U c.2.2.2]) c.2.2
def aE(B:Nat)(w:World)(v:Value)(l:List aG):Prop:=
 ∃a d,v=.slice a l.length d/\l.length<=d/\d<=maxLen/\∀i c,l[i]?=some c->∃b o,a=some ⟨b,o,none⟩/\b<B/\jN B w b (o+i*4) c
theorem jN.l{B B' w w' b o c}(h:jN B w b o c)(d:Below B' w w')(e:B<=B')(q:b<B):jN B w' b o c:=by
 obtain⟨f,g,i,j,k,l,m,n⟩:=h;have a:b<B':=by omega
 exact⟨f,g,(d.cell (p:=⟨b,o,none⟩) a).trans i,(d.cell (p:=⟨b,o+1,none⟩) a).trans j,(d.cell (p:=⟨b,o+2,none⟩) a).trans k,(d.cell (p:=⟨b,o+3,none⟩) a).trans l,m.l d e,n.l d e⟩
theorem aE.l{B B' w w' v l}(h:aE B w v l)(g:Below B' w w')(j:B<=B'):aE B w' v l:=by obtain⟨a,d,m,n,p,q⟩:=h;refine⟨a,d,m,n,p,λi c r=>?_⟩;have⟨b,o,e,f,k⟩:=q i c r;exact⟨b,o,e,f,k.l g j f⟩
theorem jN.wide{B a:Nat}{w b o c}(h:jN B w b o c)(d:B<=a):jN a w b o c:=by obtain⟨e,f,g,i,j,k,l,m⟩:=h;exact⟨e,f,g,i,j,k,l.mono d,gG m d⟩
theorem aE.wide{B f:Nat}{w v l}(h:aE B w v l)(g:B<=f):aE f w v l:=by obtain⟨a,d,j,m,n,p⟩:=h;refine⟨a,d,j,m,n,λi c q=>?_⟩;have⟨b,o,e,r,k⟩:=p i c q;exact⟨b,o,e,by omega,k.wide g⟩
theorem aE.shape{B w v l}(h:aE B w v l):∃a b,v=.slice a l.length b/\l.length<=b/\b<=maxLen:=by obtain⟨a,b,c,d,e,-⟩:=h;exact⟨a,b,c,d,e⟩
theorem eZ(B w):aE B w nL []:=⟨none,0,rfl,Ke _,by rw[ai];omega,λi c h=>by simp at h⟩
theorem jN.vals{B w b o c}(h:jN B w b o c):∃a d f g,w.cell? ⟨b,o,none⟩=some (.bool c.1)/\w.cell? ⟨b,o+1,none⟩=some (.slice a c.2.1.length d)/\w.cell? ⟨b,o+2,none⟩=some (.slice f c.2.2.1.length g)/\w.cell? ⟨b,o+3,none⟩=some (U c.2.2.2)/\cD B w (.slice a c.2.1.length d) c.2.1/\aX B w (.agg #[.slice f c.2.2.1.length g,U c.2.2.2]) c.2.2:=by obtain⟨r,s,k,l,m,n,i,j⟩:=h;obtain⟨a,d,rfl,-,-⟩:=i.shape;have⟨p,e,t,f,g,q,u⟩:=id j;simp at e;subst e q;exact⟨a,d,f,g,k,l,m,n,i,j⟩
theorem fR(B v l w)(hl:aE B w v l)(W:B<=w.1.size):
  cL 64 #[v] w (rT w (U (bC l))):=by
 have HL:=Z λf (h:bL w f)=>hl.l h W
 obtain⟨a,bv,rfl,bx,bz,-⟩:=hl;have bF:=ai;have HE:Hid (bC l=if l.length=4 then cy l else 4):=rfl;generalize J:l.length=M at*;have y:=Z J;clear J
 by_cases h4:M=4
 ·subst h4;have n:=Z (by rw[HE.o];rfl:bC l=cy l);clear HE;go_enter func64,ntmps64;go_wp2_with fail;go_loopw [12] (λiv wr=>∃k:Nat,k<=4/\iv=U k/\Hid (cy l=cy (l.drop k))/\bL w wr) (λiv _=>4-(intOf iv).toNat)
  case atStart=>exact⟨0,by omega,rfl,rfl,Kf _ _⟩
  case round=>
   obtain⟨k,hk,rfl,H,t⟩:=hrel;have⟨G,b2⟩:=nM (wr);subst b2;have i0:(0:Int)<=(k:Int):=by omega
   have A:=t.size
   by_cases c4:k<4
   ·have i1:(k:Int)<4:=by omega
    obtain⟨c,hc⟩:∃c,l[k]?=some c:=⟨l[k]'(by rw[y.o];omega),by simp⟩;have S:=Z (oE l k c hc);obtain⟨_,_,e1,-,-,X⟩:=HL.o _ t;have⟨b,o,e,c5,Y⟩:=X k c hc;simp at e1;obtain⟨rfl,-,-⟩:=e1;subst e;clear X hc;obtain⟨la,lc,ra,rc,c0,c1,c2,c3,a2,a3⟩:=Y.vals;have p:=Z λf (h:bL G f)=>oF B _ c.2.1 f (a2.l h (Kl W A)) (Kl W (h.u A))
    have r:=Z λf (h:bL G f)=>fW B _ c.2.2 f (a3.l h (Kl W A)) (Kl W (h.u A))
    have q:Hid (∀f,cL 96 #[.agg #[.slice ra c.2.2.1.length rc,U c.2.2.2]] f (rT f (.bool (decide (c.2.2.2=0/\c.2.2.1.length=0))))):=λf=>Bv ra _ rc _ f
    have i:Hid (dw c=if c.1≠decide (0<c.2.1.length)\/(c.1=false/\¬(c.2.2.2=0/\c.2.2.1.length=0)) then 4 else if c.1=false then 0 else if bl c.2.1=0 then aj c.2.2 else bl c.2.1):=by unfold Hid dw;simp only[LA]
    clear Y a2 a3;obtain⟨op,ls,rs,d⟩:=c;simp only at c0 c1 c2 c3 p r q i;generalize dw (op,ls,rs,d)=K at*;generalize bl ls=V at*;generalize aj (rs,d)=pe at*;generalize ls.length=L at*;generalize rs.length=n2 at*;have⟨W5,C⟩:=nM (G.alloc (.cells #[.bool op,.slice la L lc,.slice ra n2 rc,U d] 46));have a5:=bA C;have b6:=sA C;have g5:=hA C;have u:Hid (∀f,bL W5 f->f.cell? (pW G 0)=some (.bool op)/\f.cell? (pW G 1)=some (.slice la L lc)/\f.cell? (pW G 2)=some (.slice ra n2 rc)/\f.cell? (pW G 3)=some (U d)/\bL w f/\bL G f/\G.1.size<f.1.size):=λf h=>by have g:=h.bk g5;have hb:=a5.th h;exact⟨J0 g,J1 g,J2 g,J3 g,Below.tO t hb A,hb,io g⟩
    have s:=Z C;have ca:=Z t;clear C g5 a5 b6 t;have z:=u.o W5 bR;obtain⟨z0,z1,z2,z3,zw,zo,zl⟩:=z;have Zw:=Z zw;have Zo:=Z zo;clear zw zo
    cases op with
    |true=>
     by_cases hn:0<L
     ·have b8:(0:Int)<(L:Int):=by omega
      have j:=Z (by rw[i.o,iO (by simp[hn]),iO (by simp)]:K=if V=0 then pe else V);clear i q
      by_cases hh:V=0
      ·subst hh
       by_cases hp:pe=0
       ·subst hp
        have N:Hid (cy l=cy (l.drop (k+1))):=by
         have:K=0:=by rw[j.o];rfl
         unfold Hid;rw[H.o,S.o,Io this]
        clear j S H;go_wp2_with fail;rw[<-s.o];go_at_call 97;refine(p.o _ Zo.o).mono ?_;rintro e I ⟨rfl,m⟩;have⟨O,P,Q,R,x,F,yl⟩:=u.o I m;clear z0 z1 z2 z3;go_wp2_with fail;go_at_call 90;refine(r.o _ F).mono ?_;rintro e w7 ⟨rfl,T⟩;have D:=x.th T;clear O P Q R x F;go_wp2_with fail;exact⟨⟨k+1,by omega,by go_num,N,D⟩,by simp[intOf];omega⟩
       have N:Hid (cy l=pe):=by
        have:K=pe:=by rw[j.o];rfl
        unfold Hid;rw[H.o,S.o,this,iO hp]
       have hq:(pe != 0)=true:=by simpa using hp
       clear j S H hp;go_wp2_with fail;rw[<-s.o];go_at_call 97;refine(p.o _ Zo.o).mono ?_;rintro e I ⟨rfl,m⟩;have⟨O,P,Q,R,x,F,yl⟩:=u.o I m;clear z0 z1 z2 z3;go_wp2_with fail;go_at_call 90;refine(r.o _ F).mono ?_;rintro e w7 ⟨rfl,T⟩;have D:=x.th T;clear O P Q R x F;go_wp2_with fail;go_ret;exact⟨by rw[n.o,N.o];rfl,D⟩
      have N:Hid (cy l=V):=by
       have:K=V:=by rw[j.o,iO hh]
       unfold Hid;rw[H.o,S.o,this,iO hh]
      have hq:(V != 0)=true:=by simpa using hh
      clear j S H hh;go_wp2_with fail;rw[<-s.o];go_at_call 97;refine(p.o _ Zo.o).mono ?_;rintro e I ⟨rfl,m⟩;have⟨O,P,Q,R,x,F,yl⟩:=u.o I m;clear z0 z1 z2 z3 O P Q R;go_wp2_with fail;go_ret;exact⟨by rw[n.o,N.o];rfl,x⟩
     obtain rfl:L=0:=by omega
     have e4:Hid (cy l=4):=by
      have:K=4:=by rw[i.o,Io (.inl (by simp))]
      unfold Hid;rw[H.o,S.o,this];rfl
     clear i p r q S H;go_wp2_with fail;go_ret;rw[s.o] at Zw;exact⟨by rw[n.o,e4.o];rfl,Zw.o⟩
    |false=>
     by_cases hn:0<L
     ·have b8:(0:Int)<(L:Int):=by omega
      have e4:Hid (cy l=4):=by
       have:K=4:=by rw[i.o,Io (.inl (by simp;omega))]
       unfold Hid;rw[H.o,S.o,this];rfl
      clear i p r q S H;go_wp2_with fail;go_ret;rw[s.o] at Zw;exact⟨by rw[n.o,e4.o];rfl,Zw.o⟩
     obtain rfl:L=0:=by omega
     by_cases hz:d=0/\n2=0
     ·have N:Hid (cy l=cy (l.drop (k+1))):=by
       have:K=0:=by rw[i.o,iO (by simp[hz]),Io rfl]
       unfold Hid;rw[H.o,S.o,Io this]
      obtain⟨rfl,rfl⟩:=hz;have E:=Z q.o;clear i p r q S H;go_wp2_with fail;rw[<-s.o];go_at_call 96;refine(E.o _).mono ?_;rintro e I ⟨rfl,m⟩;have⟨O,P,Q,R,x,F,yl⟩:=u.o I m;have Yw:=Z x;clear z0 z1 z2 z3 F x;go_wp2_with fail;exact⟨⟨k+1,by omega,by go_num,N,Yw.o⟩,by simp[intOf];omega⟩
     have e4:Hid (cy l=4):=by
      have:K=4:=by rw[i.o,Io (.inr ⟨rfl,hz⟩)]
      unfold Hid;rw[H.o,S.o,this];rfl
     have E:Hid (∀f,cL 96 #[.agg #[.slice ra n2 rc,U d]] f (rT f (.bool false))):=by have:=q.o;rw[KD hz] at this;exact this
     clear i p r q S H hz;go_wp2_with fail;rw[<-s.o];go_at_call 96;refine(E.o _).mono ?_;rintro e I ⟨rfl,m⟩;have⟨O,P,Q,R,x,F,yl⟩:=u.o I m;have Yw:=Z x;clear z0 z1 z2 z3 F x;go_wp2_with fail;go_ret;exact⟨by rw[n.o,e4.o];rfl,Yw.o⟩
   go_wp2_with fail;go_ret;exact⟨by rw[n.o,H.o,KJ (by rw[y.o];omega)];rfl,t⟩
 have n:=Z (by rw[HE.o,iO h4]:bC l=4);have ba:¬(M:Int)=4:=by omega
 have hq:((M:Int) != 4)=true:=by simpa using ba
 clear HE h4;go_enter func64,ntmps64;go_wp2_with fail;go_ret;exact⟨by rw[n.o];rfl,Kf _ _⟩
