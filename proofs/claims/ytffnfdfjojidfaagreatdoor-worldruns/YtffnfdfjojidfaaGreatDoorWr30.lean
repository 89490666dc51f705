import Derived.Test.YtffnfdfjojidfaaGreatDoorWr22
import Derived.Test.YtffnfdfjojidfaaGreatDoorWr28
import Derived.Test.YtffnfdfjojidfaaGreatDoorWr29
set_option linter.all false
set_option maxRecDepth 100000
set_option maxHeartbeats 8000000
namespace Go.Proofs.YtffnfdfjojidfaaGreatDoor
open Go.RowKit Go.Maps Go.Proofs.Tryz
section
open Go.ChangeShapes Go.WideShapes Go.ChangeAt Go.Deep
theorem B3{H:Type}{t:TypeId × Value->H}{W:World}{base:Nat}{Y:Nat->Bool}{j:Bool}{o:Nat}{cv:Value}{x:DataW H × List MemPlace}(h:DataW.trod t prog W base Y j o 22 [cv]=some x):∃l,aE W.1.size W cv l:=by
 rcases open_slice Tryz.underlying22 h with ⟨p,_⟩|⟨a,f,u,m,n,D,Pl,p,_,hl,hm,w,_,y⟩
 ·simp at p;subst p;exact⟨[],none,0,rfl,Ke _,Ks _,λi c z=>by simp at z⟩
 simp at p;subst p;have h4:prog.cellsOf 46=4:=by kernel_rfl
 have A:prog.cellsOf 30=2:=by kernel_rfl
 have B:prog.cellsOf 4=1:=by kernel_rfl
 have C:prog.cellsOf 44=1:=by kernel_rfl
 rw[h4] at y;have a2:f<=m:=by rw[w];split<;>omega
 have q:∀i,i<f->∃c:aG,a=⟨a.block,a.off,none⟩/\a.block<W.1.size/\jN W.1.size W a.block (a.off+i*4) c:=by
  intro i hi
  have E:W.cell? (a.add 0)≠none:=by
   obtain⟨g,F,_⟩:=y 0 (by omega);have⟨_,d,b⟩:=Lh F;have:=b 0 (by omega);rw[add_add] at this;simp at this
   match g,d with
   |[v0,M,N,v3],_=>simp at this |-;rw[this];simp
  have⟨v,hv⟩:=Lp.1 E;have⟨s,G⟩:=iX hv;obtain⟨g,F,g2⟩:=y i (by omega);have⟨_,d,b⟩:=Lh F;have⟨y0,y1,y2,k,_,_,O,P,Q⟩:=trod_struct3 Tryz.underlying46 g2
  match g,d with
  |[v0,M,N,v3],_=>
   simp[A,B,C] at O P Q;have⟨ob,R,_⟩:=DataW.trod_bool Tryz.underlying4 O;simp at R;subst R;have⟨ls,I⟩:=EM P;have⟨pp,r⟩:=oN Q;have⟨rv,e,hd,aa⟩:=id r;simp at e;obtain⟨rfl,rfl⟩:=e;have S:=b 0 (by omega);have T:=b 1 (by omega);have V:=b 2 (by omega);have X:=b 3 (by omega);rw[add_add,s,eM] at S T V X;exact⟨(ob,ls,pp),s,G,M,N,by simpa using S,by simpa [KX] using T,by simpa [KX] using V,by simpa [KX] using X,I,r⟩
 obtain⟨l,J,K⟩:=iU _ f q;refine⟨l,some a,u,by rw[J],by omega,hm,λi c z=>?_⟩;have⟨s,G,L⟩:=K i c z;exact⟨a.block,a.off,by rw[<-s],G,L⟩
end
def mO(B:Nat)(w:World)(v:Value)(c:aG):Prop:=∃a b d e,v=.agg #[.bool c.1,.slice a c.2.1.length b,.slice d c.2.2.1.length e,U c.2.2.2]/\cD B w (.slice a c.2.1.length b) c.2.1/\aX B w (.agg #[.slice d c.2.2.1.length e,U c.2.2.2]) c.2.2
theorem mO.l{B B' w w' v c}(h:mO B w v c)(a:Below B' w w')(b:B<=B'):mO B w' v c:=by obtain⟨d,f,g,i,e,j,k⟩:=h;exact⟨d,f,g,i,e,j.l a b,k.l a b⟩
theorem zP(B u v c d w)(Y:mO B w u c)(hd:mO B w v d)(q:B<=w.1.size):
  cL 52 #[u,v] w (rT w (.bool (decide (c=d)))):=by
 obtain⟨la,lc,N,O,rfl,z,A⟩:=Y;obtain⟨G,H,r,s,rfl,P,Q⟩:=hd;have C:=Z λa (h:bL w a)=>yj B _ _ c.2.1 d.2.1 a (z.l h q) (P.l h q) (h.u q)
 have I:=Z λa (h:bL w a)=>xh B _ _ c.2.2 d.2.2 a (A.l h q) (Q.l h q) (h.u q)
 have l:Hid (decide (c=d)=(decide (c.1=d.1)&&(decide (c.2.1=d.2.1)&&decide (c.2.2=d.2.2)))):=by unfold Hid;rw[<-Bool.decide_and,<-Bool.decide_and];refine decide_eq_decide.2 ⟨λh=>by rw[h];exact⟨rfl,rfl,rfl⟩,λ⟨z,A,h3⟩=>?_⟩;exact Prod.ext z (Prod.ext A h3)
 clear z A P Q;obtain⟨o,J,K,f⟩:=c;obtain⟨t,m,n,D⟩:=d;simp only at C I l;generalize decide ((o,J,K,f)=(t,m,n,D))=L at*;generalize decide (J=m)=e1 at*;generalize decide ((K,f)=(n,D))=e2 at*;generalize J.length=n1 at*;generalize m.length=n2 at*;generalize K.length=R at*;generalize n.length=S at*;have⟨W2,b⟩:=nM ((w.alloc (.cells #[.bool o,.slice la n1 lc,.slice N R O,U f] 46)).alloc (.cells #[.bool t,.slice G n2 H,.slice r S s,U D] 46));have p:=bB b;have a8:=sB b;have T:=gB b;have V:=gC b;have M:Hid (∀a,bL W2 a->a.cell? (pW w 2)=some (.slice N R O)/\a.cell? (pW w 3)=some (U f)/\a.cell? (pA (w.1.size+1) 2)=some (.slice r S s)/\a.cell? (pA (w.1.size+1) 3)=some (U D)/\bL w a):=λa h=>by have W:=h.bk T;have X:=h.bk V;exact⟨J2 W,J3 W,J2 X,J3 X,p.th h⟩
 have j:=Z b;have k:=Z p;clear b T V p
 by_cases E:o=t
 ·subst E
  cases e1 with
  |true=>
   have g:=Z (by rw[l.o];simp:L=e2);clear l;go_enter func52,ntmps52;go_wp2_with fail;rw[<-j.o];go_at_call 53;refine(C.o _ k.o).mono ?_;rintro e w3 ⟨rfl,i⟩;obtain⟨y0,y1,y2,y3,x⟩:=M.o _ i;have F:=Z x;clear i x;go_wp2_with fail;go_at_call 54;refine(I.o _ F.o).mono ?_;rintro e w4 ⟨rfl,y⟩;have HZ:=Z (F.o.th y);clear y;go_wp2_with fail
   all_goals
    go_ret;exact⟨by rw[g.o];rfl,HZ.o⟩
  |false=>
   have g:=Z (by rw[l.o];simp:L=false);clear l;go_enter func52,ntmps52;go_wp2_with fail;rw[<-j.o];go_at_call 53;refine(C.o _ k.o).mono ?_;rintro e w3 ⟨rfl,i⟩;obtain⟨y0,y1,y2,y3,x⟩:=M.o _ i;have F:=Z x;clear i x;go_wp2_with fail;go_ret;exact⟨by rw[g.o];rfl,F.o⟩
 have g:=Z (by rw[l.o,KD E];rfl:L=false)
 have hq:(o==t)=false:=by cases o<;>cases t<;>simp at E |-
 rw[j.o] at k;clear l C I M j E;go_enter func52,ntmps52;go_wp2_with fail
 all_goals
  go_ret;exact⟨by rw[g.o];rfl,k.o⟩
theorem jN.val{B w b o c}(h:jN B w b o c):∃a d e f,w.cell? ⟨b,o,none⟩=some (.bool c.1)/\w.cell? ⟨b,o+1,none⟩=some (.slice a c.2.1.length d)/\w.cell? ⟨b,o+2,none⟩=some (.slice e c.2.2.1.length f)/\w.cell? ⟨b,o+3,none⟩=some (U c.2.2.2)/\mO B w (.agg #[.bool c.1,.slice a c.2.1.length d,.slice e c.2.2.1.length f,U c.2.2.2]) c:=by obtain⟨a,d,e,f,g,i,j,k,l,m⟩:=h.vals;exact⟨a,d,e,f,g,i,j,k,a,d,e,f,rfl,l,m⟩
theorem p9(B:Nat)(F:FuncId)(hC:∀p w',(callFunc F p).run prog w'=.ok (.enter F p) w')(HF:Hid (∀ (w':World) (u v:Value) (c d:aG),B<=w'.1.size->mO B w' u c->mO B w' v d->cL F #[u,v] w' (rT w' (.bool (decide (c=d))))))(lv mv ls ms w)(W:aE B w lv ls)(X:aE B w mv ms)(E:B<=w.1.size):
  cL 51 #[lv,mv,.func (.func F) #[] #[]] w (rT w (.bool (decide (ls=ms)))):=by
 have HK:=Z hC;clear hC;have T:=Z λw' (h:bL w w')=>Q2 (W.l h E) (X.l h E)
 obtain⟨a,b4,rfl,Y,b5,-⟩:=id W;obtain⟨a2,af,rfl,G,ak,-⟩:=id X;clear W X
 by_cases I:ls.length=ms.length
 ·have⟨n,hn⟩:=nM (ls.length);have s:ms.length=n:=by omega
  rw[<-hn] at Y T |-
  rw[s] at G T |-
  have b6:n<=9223372036854775807:=by have:=ai;omega
  have V:=Z2 hn.symm s;clear hn s I;go_enter func51,ntmps51;go_wp2_with fail;go_loopw [17] (λi wr=>∃k:Nat,k<=n/\i=U k/\Hid (∀i,i<k->ls[i]?=ms[i]?)/\Hid (bL w wr)) (λi _=>n-(intOf i).toNat)
  case atStart=>exact⟨0,by omega,rfl,λi h=>absurd h (by omega),Kf _ _⟩
  case round=>
   obtain⟨k,hk,rfl,H,j⟩:=hrel;have⟨J,a1⟩:=nM (wr);subst a1;have i0:(0:Int)<=(k:Int):=by omega
   by_cases b7:k<n
   ·have i1:(k:Int)<(n:Int):=by omega
    obtain⟨c,t⟩:∃c,ls[k]?=some c:=⟨ls[k]'(by have:=V.o.1;omega),by simp⟩;obtain⟨d,x⟩:∃d,ms[k]?=some d:=⟨ms[k]'(by have:=V.o.2;omega),by simp⟩;have⟨a3,a4⟩:=T.o J j.o;obtain⟨_,_,e',-,-,K⟩:=a3;have⟨b,o,eb,b9,q⟩:=K k c t;obtain⟨_,_,L,-,-,M⟩:=a4;have⟨b2,o2,a5,ao,r⟩:=M k d x;simp at e' L;obtain⟨rfl,-,-⟩:=e';obtain⟨rfl,-,-⟩:=L;subst eb a5;clear K M;obtain⟨la,lc,ra,rc,c0,c1,c2,c3,N⟩:=q.val;obtain⟨a6,a7,a8,a9,d0,d1,d2,d3,O⟩:=r.val;have y:=j.o.size;have bg:b<J.1.size:=by omega
    have av:b2<J.1.size:=by omega
    have P:=Z λw' (h:bL J w')=>HF.o w' _ _ c d (Kl E (h.u y)) (N.l h (Kl E y)) (O.l h (Kl E y))
    have l:=Z2 t x;clear q r N O t x;generalize c.2.1.length=n1 at*;generalize d.2.1.length=n2 at*;generalize c.2.2.1.length=n3 at*;generalize d.2.2.1.length=n4 at*;have⟨dq,z⟩:=nM (decide (c=d));have Q:=Z z;rw[<-z] at P;clear z;go_wp2_with fail;have⟨W1,A⟩:=nM ((J.alloc (.cells #[.bool c.1,.slice la n1 lc,.slice ra n3 rc,U c.2.2.2] 46)).alloc (.cells #[.bool d.1,.slice a6 n2 a7,.slice a8 n4 a9,U d.2.2.2] 46));have C:=bB A;rw[<-A,HK.o];have f:=Z (P.o W1 C);have aa:=Z (j.o.th C);clear A C;go_wp2_with fail;refine f.o.mono ?_;rintro e w2 ⟨rfl,R⟩;have S:=Z (aa.o.th R);clear R f
    cases dq with
    |true=>
     have g:=of_decide_eq_true Q.o.symm;have D:=Z g;clear g;go_wp2_with fail;refine⟨⟨k+1,by omega,by go_num,λi hi=>?_,S.o⟩,by simp[intOf];omega⟩
     by_cases ac:i=k
     ·subst ac;rw[l.o.1,l.o.2,D.o]
     exact H.o i (by omega)
    |false=>
     have g:=of_decide_eq_false Q.o.symm;have D:=Z g;clear g;go_wp2_with fail;go_ret;refine⟨?_,S.o⟩;have:ls≠ms:=by intro h;have h1:=l.o.1;rw[h,l.o.2] at h1;exact D.o (KG h1).symm
     simp[this]
   go_wp2_with fail;go_ret;refine⟨?_,j.o⟩
   have:ls=ms:=by
    refine LD λi=>?_
    by_cases hi:i<k
    ·exact H.o i hi
    rw[KP (by have:=V.o.1;omega),KP (by have:=V.o.2;omega)]
   simp[this]
 have bs:((ls.length:Int) != (ms.length:Int))=true:=by simp;omega
 have hf:Hid (decide (ls=ms)=false):=KD λh=>I (by rw[h])
 clear T HF;generalize ls.length=n at*;generalize ms.length=m at*;go_enter func51,ntmps51;go_wp2_with fail;go_ret;exact⟨by rw[hf.o];rfl,Kf _ _⟩
theorem pX(B lv mv ls b w)(f:aE B w lv ls)(g:aE B w mv b)(l:B<=w.1.size):
  cL 24 #[lv,mv] w (rT w (.bool (decide (ls=b)))):=by
 have m:Hid (cL 51 #[lv,mv,.func (.func 52) #[] #[]] w (rT w (.bool (decide (ls=b))))):=p9 B 52 (λj k=>by kernel_rfl) (λk u v c d h o p=>zP B u v c d k o p h) lv mv ls b w f g l;obtain⟨a,c,rfl,-,-⟩:=f.shape;obtain⟨q,r,rfl,-,-⟩:=g.shape;clear f g;generalize decide (ls=b)=eq at*;generalize ls.length=n at*;generalize b.length=s at*;go_enter func24,ntmps24;go_wp2_with (first|(go_at_call 51;go_must (refine m.o.mono ?_;rintro e t ⟨rfl,i⟩)));go_ret;exact⟨rfl,i⟩
theorem sk:∃i,prog.info? 46=some i/\i.zero=some (.agg #[.bool false,nL,nL,U 0])/\i.size=4/\i.bytes=64:=jL (by kernel_rfl)
def IR(B:Nat)(w:World)(xs:List Value)(l:List aG):Prop:=
 xs.length=l.length*4/\(∀u∈xs,u.oneCell'=true)/\∀i c,l[i]?=some c->∃a b,xs[i*4]?=some (.bool c.1)/\xs[i*4+1]?=some a/\xs[i*4+2]?=some b/\xs[i*4+3]?=some (U c.2.2.2)/\cD B w a c.2.1/\aX B w (.agg #[b,U c.2.2.2]) c.2.2
theorem IR.l{B B' w w' xs l}(h:IR B w xs l)(a:Below B' w w')(b:B<=B'):IR B w' xs l:=by obtain⟨d,e,f⟩:=h;refine⟨d,e,λi c g=>?_⟩;have⟨j,k,m,n,o,p,q,r⟩:=f i c g;exact⟨j,k,m,n,o,p,q.l a b,r.l a b⟩
theorem Gn{B w}{l:List aG}{b o:Nat}(h:∀i c,l[i]?=some c->jN B w b (o+i*4) c):∃d,IR B w d l/\∀j u,d[j]?=some u->w.cell? ⟨b,o+j,none⟩=some u:=by
 have e:∀j,j<l.length*4->∃v,w.cell? ⟨b,o+j,none⟩=some v/\v.oneCell'=true:=by
  intro j f;obtain⟨c,k⟩:∃c,l[j / 4]?=some c:=⟨l[j / 4]'(by omega),by simp⟩;obtain⟨D,E,F,G,m,n,p,q,-,-⟩:=(h _ c k).vals;have g:j % 4=0\/j % 4=1\/j % 4=2\/j % 4=3:=by omega
  rcases g with g|g|g|g
  ·exact⟨_,by rw[show o+j=o+j / 4*4 by omega];exact m,rfl⟩
  ·exact⟨_,by rw[show o+j=o+j / 4*4+1 by omega];exact n,rfl⟩
  ·exact⟨_,by rw[show o+j=o+j / 4*4+2 by omega];exact p,rfl⟩
  exact⟨_,by rw[show o+j=o+j / 4*4+3 by omega];exact q,rfl⟩
 obtain⟨d,x,r⟩:=iU _ _ e;refine⟨d,⟨x,λu s=>?_,λi c k=>?_⟩,λj u f=>(r j u f).1⟩
 ·have⟨j,f⟩:=LJ.1 s;exact(r j u f).2
 have H:i<l.length:=(K9.1 k).1;have⟨y,z,m,n,p,q,A,C⟩:=h i c k
 have a:∀ (j:Nat) (u:Value),j<l.length*4->w.cell? ⟨b,o+j,none⟩=some u->d[j]?=some u:=λj u f s=>by
  obtain⟨v,t⟩:∃v,d[j]?=some v:=⟨d[j]'(by omega),by simp⟩;have:=(r j v t).1;rw[s] at this
  cases this;exact t
 exact⟨y,z,a _ _ (by omega) m,a _ _ (by omega) (by rw[<-KX];exact n),a _ _ (by omega) (by rw[<-KX];exact p),a _ _ (by omega) (by rw[<-KX];exact q),A,C⟩
theorem ti(B)(z:TypeId)(b o cap:Nat)(l:List aG)(W)(C:aE B W (.slice (some ⟨b,o,none⟩) l.length cap) l)(L:l.length<=1000)(D:B<=W.1.size):
  ∃q d f,(Builtin.append_ #[22,22] z #[.slice (sO W.1.size) 0 0,.slice (some ⟨b,o,none⟩) l.length cap]).run prog (W.alloc (.cells #[] 46))=.ok q d/\d.ownsRow W.1.size 46 4 q l.length f/\IR B d f l/\bL W d/\∀j u,f[j]?=some u->W.cell? ⟨b,o+j,none⟩=some u:=by
 obtain⟨s,t,v,w,x⟩:=sk;have E:=ai;have g:bL W (W.alloc (.cells #[] 46)):=bR.alloc lE _;have m:(W.alloc (.cells #[] 46)).ownsRow W.1.size 46 4 (.slice (MZ W) 0 0) 0 []:=⟨rfl,.inr ⟨W.1.size,0,#[],rfl,Ke _,ah W _,Ke _,Ks _,rfl,rfl⟩⟩;obtain⟨M,A,e,N,O,F⟩:=C;simp at e;obtain⟨rfl,rfl⟩:=e;obtain⟨f,h,a⟩:=Gn (b:=b) (o:=o) λi c G=>by obtain⟨Q,R,e,-,k⟩:=F i c G;simp at e;obtain⟨rfl,rfl⟩:=e;exact k
 have y:∀j u,f[j]?=some u->b<W.1.size:=λj u r=>KE _ _ (a j u r)
 obtain⟨q,d,H,I,J,S⟩:=LB (P:=prog) (W.alloc (.cells #[] 46)) W.1.size 22 z 46 s _ 4 64 Tryz.underlying22 t v w x rfl (by decide) _ 0 [] m ⟨b,o,none⟩ l.length cap f h.1 (λj u r=>by rw[eM];exact(g.cell (p:=⟨b,o+j,none⟩) (y j u r)).trans (a j u r)) h.2.1 (by omega) (by omega) g.size;have n:bL W d:=g.grown J (by simp) λk K=>eh m k K
 refine⟨q,d,f,H,by simpa using I,h.l n D,n,a⟩
theorem FD{B base ci:Nat}{w:World}{v:Value}{xs:List Value}{l:List aG}(L:w.ownsRow base 46 4 v l.length xs)(x:IR B w xs l)(M:ci<l.length)(H:B<=base):
  ∃G a,v=.slice (sO G) l.length a/\base<=G/\G<w.1.size/\l.length<=a/\(∀j,j<l.length*4->∃u,w.cell? ⟨G,j,none⟩=some u/\w.frozen? ⟨G,j,none⟩=false)/\
   ∀ (c:aG) (lv rv:Value) (wF:World),wF=(((w.setCell ⟨G,ci*4,none⟩ (.bool c.1)).setCell ⟨G,ci*4+1,none⟩ lv).setCell ⟨G,ci*4+2,none⟩ rv).setCell ⟨G,ci*4+3,none⟩ (U c.2.2.2)->(∀b,b=wF->cD b.1.size b lv c.2.1/\aX b.1.size b (.agg #[rv,U c.2.2.2]) c.2.2)->aE wF.1.size wF v (l.set ci c):=by
 obtain⟨I,h⟩:=L
 rcases h with ⟨_,N⟩|⟨G,a,m,e,f,t,n,y,z,A⟩
 ·exfalso;have:=x.1;omega
 have O:=io t;have P:=x.1;have q:∀j,j<l.length*4->m[j]?=xs[j]?:=λj Q=>by rw[<-A,LO,Io (by omega)];simp
 refine⟨G,a,e,f,O,n,λj Q=>?_,λc lv rv wF J r=>?_⟩
 ·exact⟨m[j]'(by rw[z];omega),ab t j (by simp),fZ t _⟩
 have R:=ap (o:=ci*4) (u:=.bool c.1) t;have S:=ap (o:=ci*4+1) (u:=lv) R;have T:=ap (o:=ci*4+2) (u:=rv) S;have g:=ap (o:=ci*4+3) (u:=U c.2.2.2) T;rw[<-J] at g;have k:Below base w wF:=by rw[J];exact((((Kf base w).setCell (p:=⟨G,ci*4,none⟩) f _).setCell (p:=⟨G,ci*4+1,none⟩) f _).setCell (p:=⟨G,ci*4+2,none⟩) f _).setCell (p:=⟨G,ci*4+3,none⟩) f _
 have C:=io g;have V:l.length*4<=m.size:=by omega
 refine⟨some (pA G 0),a,by rw[e];simp,by simpa using n,y,λi d s=>⟨G,0,rfl,C,?_⟩⟩;rw[Kp]
 have D:i<l.length:=by
  have:=(K9.1 s).1
  simpa using this
 by_cases K:i=ci
 ·subst K;rw[LF D] at s
  cases s;have⟨W,X⟩:=r wF rfl;refine⟨lv,rv,ab g _ ?_,ab g _ ?_,ab g _ ?_,ab g _ ?_,W,X⟩
  all_goals
   simp only[KC,Lv];repeat(first|rw[Io trivial]|rw[Io (by omega)]|rw[iO (by omega)])
 rw[Lb (LQ K)] at s;have⟨E,F,e0,e1,e2,e3,Y,e5⟩:=x.2.2 i d s;refine⟨E,F,ab g _ ?_,ab g _ ?_,ab g _ ?_,ab g _ ?_,(Y.l k H).mono (by have:=k.size;omega),gG (e5.l k H) (by have:=k.size;omega)⟩
 all_goals
  simp only[KC,Lv];repeat(rw[iO (by omega)])
  rw[q _ (by omega)]
  assumption
def kn(G:Nat->Prop)(w:World)(v:Value)(l:List aG):Prop:=∀a,Kx G w a->aE a.1.size a v l
def wU(G:Nat->Prop)(w:World)(v:Value)(r:az):Prop:=∀a,Kx G w a->cI a.1.size a v r
theorem kn.l{G a:Nat->Prop}{w w' v l}(h:kn G w v l)(b:bL w w')(c:∀k,k<w.1.size->a k->G k):kn a w' v l:=λd e=>h d (e.back b c)
theorem wU.l{G a:Nat->Prop}{w w' v r}(h:wU G w v r)(b:bL w w')(c:∀k,k<w.1.size->a k->G k):wU a w' v r:=λd e=>h d (e.back b c)
theorem wU.pol{G:Nat->Prop}{w a}{k c f d d':Int}{n cap}{b:List aq}(h:wU G w (.agg #[U k,U c,U f,.slice a n cap,U d]) (k,c,f,b,d)):Id G w (.agg #[.slice a n cap,U d]) (b,d):=λi j=>by obtain⟨l,e,-,-,-,g⟩:=h i j;simp at e;rw[<-e] at g;exact g
theorem ib(G:Nat->Prop)(w):kn G w nL []:=λ_ _=>eZ _ _
theorem kn.vals{G:Nat->Prop}{B w}{b o n cap:Nat}{l}(h:kn G w (.slice (some ⟨b,o,none⟩) n cap) l)(v:aE B w (.slice (some ⟨b,o,none⟩) n cap) l)(x:lZ G B w){i:Nat}{c:aG}{lv rv:Value}(m:l[i]?=some c)(y:w.cell? ⟨b,o+i*4+1,none⟩=some lv)(z:w.cell? ⟨b,o+i*4+2,none⟩=some rv):ym G w lv c.2.1/\Id G w (.agg #[rv,U c.2.2.2]) c.2.2:=by
 obtain⟨L,M,p,-,-,A⟩:=v;have⟨N,O,q,j,k⟩:=A i c m;simp at p;obtain⟨rfl,-⟩:=p;simp at q;obtain⟨rfl,rfl⟩:=q;obtain⟨C,D,E,P,Q,R,-,-⟩:=k;have e:=x.bool j E
 have f:∀a,Kx G w a->cD a.1.size a lv c.2.1/\aX a.1.size a (.agg #[rv,U c.2.2.2]) c.2.2:=λa d=>by
  obtain⟨S,T,r,-,-,F⟩:=h a d;obtain⟨V,W,s,-,g⟩:=F i c m;simp at r;obtain⟨rfl,-⟩:=r;simp at s;obtain⟨rfl,rfl⟩:=s;obtain⟨H,I,-,t,u,-,J,K⟩:=g;rw[d.cell e y] at t;rw[d.cell e z] at u
  cases t
  cases u;exact⟨J,K⟩
 exact⟨λa d=>(f a d).1,λa d=>(f a d).2⟩
theorem D7{G:Nat->Prop}{base ci g cap:Nat}{w wF:World}{xs:List Value}{l:List aG}{c:aG}{lv rv:Value}(I:w.ownsRow base 46 4 (.slice (sO g) l.length cap) l.length xs)(J:xs.length=l.length*4)(K:ci<l.length)(L:∀k,G k->k<base)(r:cap<=maxLen)(s:l.length<=cap)
  (M:∀i d,l[i]?=some d->∃lv rv,xs[i*4]?=some (.bool d.1)/\xs[i*4+1]?=some lv/\xs[i*4+2]?=some rv/\xs[i*4+3]?=some (U d.2.2.2)/\(∀a,Kx G wF a->cD a.1.size a lv d.2.1/\aX a.1.size a (.agg #[rv,U d.2.2.2]) d.2.2))
  (f:∀a,Kx G wF a->cD a.1.size a lv c.2.1/\aX a.1.size a (.agg #[rv,U c.2.2.2]) c.2.2)
  (N:wF=(((w.setCell ⟨g,ci*4,none⟩ (.bool c.1)).setCell ⟨g,ci*4+1,none⟩ lv).setCell ⟨g,ci*4+2,none⟩ rv).setCell ⟨g,ci*4+3,none⟩ (U c.2.2.2)):kn G wF (.slice (sO g) l.length cap) (l.set ci c):=by
 obtain⟨C,h⟩:=I
 rcases h with ⟨D,_⟩|⟨g',E,m,e,O,P,Q,-,R,t⟩
 ·cases D
 simp at e;obtain⟨rfl,rfl⟩:=e;have n:∀j,j<l.length*4->m[j]?=xs[j]?:=λj hj=>by rw[<-t,LO,Io (by omega)];simp
 have S:=ap (o:=ci*4) (u:=.bool c.1) P;have T:=ap (o:=ci*4+1) (u:=lv) S;have V:=ap (o:=ci*4+2) (u:=rv) T;have v:=ap (o:=ci*4+3) (u:=U c.2.2.2) V;rw[<-N] at v;have x:=io v;have W:l.length*4<=m.size:=by omega
 intro a q;have b:=(q.2 g (λe=>absurd (L g e) (by omega)) x).trans v;have y:=io b;refine⟨some (pA g 0),cap,by simp,by simpa using s,r,λi d p=>⟨g,0,rfl,y,?_⟩⟩;rw[Kp]
 have z:i<l.length:=by
  have:=(K9.1 p).1
  simpa using this
 by_cases F:i=ci
 ·subst F;rw[LF z] at p
  cases p;have⟨X,Y⟩:=f a q;refine⟨lv,rv,ab b _ ?_,ab b _ ?_,ab b _ ?_,ab b _ ?_,X,Y⟩
  all_goals
   simp only[KC,Lv];repeat(first|rw[Io trivial]|rw[Io (by omega)]|rw[iO (by omega)])
 rw[Lb (LQ F)] at p;have⟨A,B,D,e1,e2,e3,H⟩:=M i d p;refine⟨A,B,ab b _ ?_,ab b _ ?_,ab b _ ?_,ab b _ ?_,(H a q).1,(H a q).2⟩
 all_goals
  simp only[KC,Lv];repeat(rw[iO (by omega)])
  rw[n _ (by omega)]
  assumption
theorem rM(B w):ia B w nL []:=⟨none,0,rfl,Ke _,by rw[ai];omega,λi c h=>by simp at h⟩
theorem uf(B lv ps w)(Q:iH B w lv ps)(T:B<=w.1.size)(hn:ps.length<=5000000000):
  cL 231 #[lv] w λe j=>∃v,e=.returned (.tuple #[v,U (aT ps)])/\ia j.1.size j v ((bj ps).map qM)/\bL w j:=by
 have V:=Z (xS B lv ps w Q T)
 by_cases r:bM ps=0
 case neg=>
  have D:Hid (aT ps=bM ps/\bj ps=[]):=by
   have e:aT ps=bM ps:=by rw[aT,iO r]
   exact⟨e,by rw[bj,iO (by rw[e];exact r)]⟩
  have W:(bM ps != 0)=true:=by simpa using r
  obtain⟨a,Y,rfl,-⟩:=Q;clear r;generalize bM ps=pe at*;generalize ps.length=a0 at*;go_enter func231,ntmps231;go_wp2_with (first|(go_at_call 251;go_must (refine Calls.mono V.o ?_;rintro e E ⟨rfl,l⟩)));go_ret2;rw[D.o.1,D.o.2];exact⟨_,rfl,rM _ _,l⟩
 have y:=jz.1 r;have HC:=Z λ(k:Nat) j (h:bL w j)=>Ch B lv ps k j (Q.l h T) y (h.u T) hn
 have HF:=Z λ(k:Nat)=>Q2 (zm ps k) (Bf y k)
 have D:=Z (by rw[aT,Io r]:aT ps=if 1000<(dG ps).length then 2 else 0);rw[r] at V;obtain⟨a,Y,rfl,bb,bc,-⟩:=Q;generalize ps.length=a0 at*;clear r y;go_enter func231,ntmps231;go_wp2_with (first|(go_at_call 251;go_must (refine Calls.mono V.o ?_;rintro e E ⟨rfl,l⟩)));have F:=l.size;have a1:Hid (∀X,X=Obj.cells #[U 0,U 0,U 0,U 0,U 0] 34 (0,0)->(E.alloc X).ownsRow w.1.size 34 5 (.slice (MZ E) 1 1) (ky ps 0).length (cj (ky ps 0))):=by intro X hX;subst hX;rw[Ey];exact⟨rfl,.inr ⟨E.1.size,1,_,rfl,F,ah _ _,Ke _,by rw[ai];omega,rfl,rfl⟩⟩
 have a2:Hid (∀X,bL w (E.alloc X)):=λX=>l.alloc F _
 go_loopw [5,15] (λpv kv wr=>∃k:Nat,k<=5/\kv=U k/\lu ps k<=1000/\Hid (wr.ownsRow w.1.size 34 5 pv (ky ps k).length (cj (ky ps k)))/\bL w wr) (λ_ kv _=>5-(intOf kv).toNat)
 case atStart=>exact⟨0,by omega,rfl,by simp[lu],a1.o _ rfl,a2.o _⟩
 case round=>
  obtain⟨k,hk,rfl,n,G,o⟩:=hrel;have⟨wo,a6⟩:=nM (wr);subst a6;have k0:(0:Int)<=(k:Int):=by omega
  have a7:=o.size;obtain⟨pa,d,rfl,-,-,-⟩:=an G.o
  by_cases a9:k<5
  ·have k1:(k:Int)<5:=by omega
   have⟨aa,z⟩:=HF.o k;have H:Hid _:=HC.o k wo o;have b:Hid (lu ps (k+1)=lu ps k*(cw ps k).length):=rfl;have ac:Hid (lu ps (k+1)<=(dG ps).length):=E2 ps (k+1) (by omega);have c:Hid ((ky ps k).length=lu ps k):=pu ps k (by omega);have I:Hid ((ky ps (k+1)).length=lu ps (k+1)):=pu ps (k+1) (by omega);have ad:=Z (zj ps k a9);have H5:=Z (yB ps k hk);have J:(k=0/\(k:Int)=0)\/(k=1/\(k:Int)=1)\/(k=2/\(k:Int)=2)\/(k=3/\(k:Int)=3)\/(k=4/\(k:Int)=4):=by omega
   have ae:Hid _:=J;clear J
   rw[c.o] at G |-
   have⟨q,W⟩:=nM (lu ps k)
   rw[<-W] at n b c G |-
   have⟨m,R⟩:=nM ((cw ps k).length);rw[<-R] at aa z b;simp only[<-R] at H;have S:=Z R.symm;clear W R;have⟨s,f⟩:=nM (q*m);have t:(s:Int)=(q:Int)*(m:Int):=by rw[f];simp
   have b3:s<=65536000:=by rw[f];exact MW n z
   have b4:IntKind.i64.wrap ((q:Int)*(m:Int))=(s:Int):=by rw[<-t];exact KA _ (by omega)
   rw[<-f] at b;have K:=Z f;clear f t;go_wp2_with fail;go_at_call 252;refine Calls.mono H.o ?_;rintro e p ⟨v3,rfl,A,L⟩;obtain⟨a3,u,rfl,-,-,-⟩:=an A;have g:=Below.tO o L a7;have M:=g.size;have af:Hid (s<=1000->cL 253 #[.slice pa q d,U k,.slice a3 m u] p λe j=>∃v,e=.returned v/\j.ownsRow p.1.size 34 5 v s (cj (ky ps (k+1)))/\bL p j):=by intro ak;have h1:ia p.1.size p (.slice pa q d) ((ky ps k).map qM):=uB (λx hx=>zC (H5.o x hx)) (by rw[c.o];exact aw G.o L);have h2:gx p.1.size p (.slice a3 m u) (cw ps k):=Dq (by rw[S.o];exact A);have h3:=F7 p.1.size k k ae.o _ _ (ky ps k) (cw ps k) p h1 h2 lE H5.o (by rw[c.o,S.o,<-K.o];exact ak) (by rw[c.o];exact n) (by rw[S.o];exact z);rw[c.o,S.o,<-K.o,<-ad.o] at h3;exact h3
   clear A
   by_cases b7:1000<s
   ·have C:(1000:Int)<(s:Int):=by omega
    have i:Hid (aT ps=2/\bj ps=[]):=by
     have hL:=ac.o;rw[b.o] at hL;have e:aT ps=2:=by rw[D.o,Io (by omega)]
     exact⟨e,by rw[bj,iO (by rw[e];decide)]⟩
    go_wp2_with fail;go_ret2;rw[i.o.1,i.o.2];exact⟨_,rfl,rM _ _,g⟩
   have C:¬(1000:Int)<(s:Int):=by omega
   have N:Hid _:=af.o (by omega);go_wp2_with fail;go_at_call 253;refine Calls.mono N.o ?_;rintro e w4 ⟨v4,rfl,O,ao⟩;have av:Hid (w4.ownsRow w.1.size 34 5 v4 (ky ps (k+1)).length (cj (ky ps (k+1)))):=by unfold Hid;rw[I.o,b.o];exact cU O M
   have P:=Below.tO g ao M;have b0:=Z (by rw[b.o];omega:lu ps (k+1)<=1000);clear O;go_wp2_with fail;exact⟨⟨k+1,by omega,by go_num,b0.o,av,P⟩,by simp[intOf];omega⟩
  obtain rfl:k=5:=by omega
  have i:Hid (aT ps=0/\bj ps=dG ps):=by
   rw[yV] at n;have e:aT ps=0:=by rw[D.o,iO (by omega)]
   exact⟨e,by rw[bj,Io e]⟩
  have b1:Hid (ia wo.1.size wo (.slice pa (ky ps 5).length d) ((bj ps).map qM)):=by unfold Hid;rw[i.o.2,<-Fx];exact uB (λx hx=>zC (yB ps 5 lE x hx)) G.o
  generalize (ky ps 5).length=L5 at*;go_wp2_with fail;go_ret2;rw[i.o.1];exact⟨_,rfl,b1.o,o⟩
def gm(s:Bs):az × Int:=
 if bt kN ((ar s).getD 0 [])<0\/(bt kN ((ar s).getD 0 [])=3/\(ar s).length≠2)\/(bt kN ((ar s).getD 0 [])<3/\(ar s).length≠3) then (cu,1)
 else match cS ((ar s).getD 1 []) with
  |none=>(cu,1)
  |some c=>if bt kN ((ar s).getD 0 [])=2 then (match cS ((ar s).getD 2 []) with
    |none=>(cu,1)
    |some f=>((3,c,f,[],0),0))
   else if bt kN ((ar s).getD 0 [])=3 then ((4,c,0,[],0),0)
   else ((bt kN ((ar s).getD 0 [])+1,c,0,(cG ((ar s).getD 2 [])).1),(cG ((ar s).getD 2 [])).2)
theorem I2(s:Bs):ch s=if (gm s).2=0 then gP (gm s).1 else (cu,(gm s).2):=by
 unfold ch gm
 split
 ·rfl
 cases cS ((ar s).getD 1 []) with
 |none=>rfl
 |some c=>
  simp only[]
  split
  ·cases cS ((ar s).getD 2 []) with
   |none=>rfl
   |some f=>rfl
  split
  ·rfl
  rfl
abbrev oU(s:ByteArray)(w:World):Prop:=cL 140 #[.string s] w λe a=>∃v,e=.returned (.tuple #[v,U (gm s.1.1).2])/\gi w.1.size a v (gm s.1.1).1/\bL w a
theorem Ft(s:ByteArray)(A:s.size<=60000)(w)(S:dD w)(c:bt kN ((ar s.1.1).getD 0 [])<0\/(bt kN ((ar s.1.1).getD 0 [])=3/\(ar s.1.1).length≠2)\/(bt kN ((ar s.1.1).getD 0 [])<3/\(ar s.1.1).length≠3)):oU s w:=by
 have b:Hid (gm s.1.1=(cu,1)):=by unfold Hid gm;rw[Io c]
 have HE:=Z λi (h:bL w i)=>S.l h
 clear S;have⟨I,f,af,ak,q,B⟩:=il s A;have HM:=Z f;have al:=Z q;obtain⟨r,n⟩:∃u,I[0]?=some u:=⟨I[0]'(by omega),by simp⟩;have J:=q r (Kb n);have C:(ar s.1.1).getD 0 []=r.1.1:=by rw[<-f,Kn,Ku,n];rfl
 have j:(ar s.1.1).length=I.length:=by rw[<-f];simp
 have⟨K,o⟩:=nM (w.alloc (.cells #[U 0,U 0,U 0,nL,U 0] 71));have T:=hA o;have t:=bA o;have L:=Z λi (h:bL K i)=>Q2 (h.bl T) (t.th h)
 have⟨mm,V⟩:=(HE.o K t).1;have p:Hid _:=B mm K V;have W:=Z o;clear o T t B V f q;rw[C,j] at c;have M:=Z λi=>kt r i
 have x:=jh kN r.1.1;have y:=D8 r.1.1;have N:=Z n;clear C j n J;generalize bt kN r.1.1=D at*;generalize E:I.length=O at*;have av:=Z E;clear E;go_enter func140,ntmps140;go_wp2_with fail;rw[<-W.o];go_at_call 109;refine Calls.mono p.o ?_;rintro e w1 ⟨SB,b0,rfl,b1,b2,F,G,X,k⟩;have x0:=k 0 r N.o;have n0:(0:Int)<(O:Int):=by omega
 clear k p W G;go_wp2_with fail;go_at_call 174;refine Calls.mono (M.o _) ?_;rintro e w2 ⟨rfl,H⟩;have g:=F.th H;clear H F x0
 by_cases l:D<0
 ·have P:decide (0<=D)=false:=by simp;omega
  rw[P];clear c x y l;have⟨a,d⟩:=L.o w2 g;have Y:=io a;have⟨z0,z1,z2,z3,z4⟩:=aF a;have f0:=fZ a 0;have f1:=fZ a 1;have f2:=fZ a 2;have f3:=fZ a 3;have f4:=fZ a 4;have m:=Z d;clear a d g;go_wp2_with fail;refine Ka (v:=.tuple #[.agg #[U 0,U 0,U 0,nL,U 0],U 1]) ?_ rfl ⟨_,by rw[b.o],by rw[b.o];exact dg _ _,?_⟩
  ·rw[K8 rfl];go_simp
  exact(m.o.s5 lE)
 have P:decide (0<=D)=true:=by simp;omega
 rw[P]
 by_cases h3:D=3
 ·have ac:((O:Int) != 2)=true:=by simp;omega
  subst h3;have z:=Z λi=>sq i
  clear c x y l;go_wp2_with fail;go_at_call 175;refine Calls.mono (z.o _) ?_;rintro e Q ⟨rfl,rfl⟩;have⟨a,d⟩:=L.o Q g;have Y:=io a;have⟨z0,z1,z2,z3,z4⟩:=aF a;have f0:=fZ a 0;have f1:=fZ a 1;have f2:=fZ a 2;have f3:=fZ a 3;have f4:=fZ a 4;have m:=Z d;clear a d g;go_wp2_with fail;refine Ka (v:=.tuple #[.agg #[U 0,U 0,U 0,nL,U 0],U 1]) ?_ rfl ⟨_,by rw[b.o],by rw[b.o];exact dg _ _,?_⟩
  ·rw[K8 rfl];go_simp
  exact(m.o.s5 lE)
 have ad:((O:Int) != 3)=true:=by simp;omega
 have z:Hid (∀i,cL 175 #[U (1+D)] i λe R=>e=.returned (U 3)/\R=i):=λi=>ni (by omega) i
 clear c x y l h3;go_wp2_with fail;go_at_call 175;refine Calls.mono (z.o _) ?_;rintro e Q ⟨rfl,rfl⟩;have⟨a,d⟩:=L.o Q g;have Y:=io a;have⟨z0,z1,z2,z3,z4⟩:=aF a;have f0:=fZ a 0;have f1:=fZ a 1;have f2:=fZ a 2;have f3:=fZ a 3;have f4:=fZ a 4;have m:=Z d;clear a d g;go_wp2_with fail;refine Ka (v:=.tuple #[.agg #[U 0,U 0,U 0,nL,U 0],U 1]) ?_ rfl ⟨_,by rw[b.o],by rw[b.o];exact dg _ _,?_⟩
 ·rw[K8 rfl];go_simp
 exact(m.o.s5 lE)
theorem Cz(s:ByteArray)(Y:s.size<=60000)(w)(he:dD w)(hk:bt kN ((ar s.1.1).getD 0 [])=2)(hn:(ar s.1.1).length=3):oU s w:=by
 have HE:=Z λa (h:bL w a)=>he.l h
 clear he;have⟨Q,q,b1,b2,R,a0⟩:=il s Y;have HM:=Z q;have S:=Z R;obtain⟨u0,F⟩:∃u,Q[0]?=some u:=⟨Q[0]'(by omega),by simp⟩;have b4:=R u0 (Kb F);have a2:(ar s.1.1).getD 0 []=u0.1.1:=by rw[<-q,Kn,Ku,F];rfl
 have l:(ar s.1.1).length=Q.length:=by rw[<-q];simp
 have⟨W0,G⟩:=nM (w.alloc (.cells #[U 0,U 0,U 0,nL,U 0] 71));have g0:=hA G;have T:=bA G;have V:=Z λa (h:bL W0 a)=>Q2 (h.bl g0) (T.th h)
 have⟨mm,hm⟩:=(HE.o W0 T).1;have t:Hid _:=a0 mm W0 hm;have HW:=Z G;clear G g0 T a0 hm q R;rw[l] at hn;obtain⟨H,I⟩:∃u,Q[1]?=some u:=⟨Q[1]'(by omega),by simp⟩;have b6:=S.o H (Kb I);have a3:(ar s.1.1).getD 1 []=H.1.1:=by rw[<-HM.o,Kn,Ku,I];rfl
 obtain⟨x,J⟩:∃u,Q[2]?=some u:=⟨Q[2]'(by omega),by simp⟩;have b7:=S.o x (Kb J);have a4:(ar s.1.1).getD 2 []=x.1.1:=by rw[<-HM.o,Kn,Ku,J];rfl
 have M:Hid (gm s.1.1=match cS H.1.1 with|none=>(cu,1)|some c=>(match cS x.1.1 with|none=>(cu,1)|some f=>((3,c,f,[],0),0))):=by
  unfold Hid gm;rw[hk,l,hn,a3,a4,iO (by omega)]
  cases cS H.1.1 with
  |none=>rfl
  |some c=>cases cS x.1.1<;>rfl
 have b8:Hid (∀a,cL 174 #[.string u0] a (rT a (.tuple #[U 3,.bool true]))):=λa=>by have:=kt u0 a;rw[<-a2,hk] at this;exact this
 have b9:Hid (∀a,cL 175 #[U 3] a λe y=>e=.returned (U 3)/\y=a):=λa=>ni (by decide) a
 have ba:Hid (∀a,bL w a->cL 176 #[.string H] a λe y=>∃n ok,e=.returned (.tuple #[U n,.bool ok])/\(cS H.1.1=if ok=true then some n else none)/\wf n/\bL a y):=λa h=>kV H (by omega) a (HE.o a h)
 have bb:Hid (∀a,bL w a->cL 176 #[.string x] a λe y=>∃n ok,e=.returned (.tuple #[U n,.bool ok])/\(cS x.1.1=if ok=true then some n else none)/\wf n/\bL a y):=λa h=>kV x (by omega) a (HE.o a h)
 have HU:=Z3 F I J;rw[hn] at t;clear a2 l F b4 I b6 a3 J b7 a4 hk hn b1 b2 S HM HE;go_enter func140,ntmps140;go_wp2_with fail;rw[<-HW.o];go_at_call 109;refine Calls.mono t.o ?_;rintro e w1 ⟨SB,ce,rfl,cf,ci,a5,a6,z,g⟩;have x0:=g 0 u0 HU.o.1
 have HX:Hid (∀a,bL w1 a->a.cell? (pA SB 1)=some (.string H)/\a.cell? (pA SB 2)=some (.string x)):=λa h=>⟨(h.cell (p:=pA SB 1) z).trans (g 1 H HU.o.2.1),(h.cell (p:=pA SB 2) z).trans (g 2 x HU.o.2.2)⟩
 have bf:=Z a5;clear g t HW a6 a5;go_wp2_with fail;go_at_call 174;refine Calls.mono (b8.o _) ?_;rintro e w2 ⟨rfl,A⟩;have bg:=Z A;have x1:=(HX.o w2 A).1;have a7:=Kd z A.size;have a8:=Z (bf.o.th A);clear A x0;go_wp2_with fail;go_at_call 175;refine Calls.mono (b9.o _) ?_;rintro e w3 ⟨rfl,rfl⟩;go_wp2_with fail;go_at_call 176;refine Calls.mono (ba.o _ (V.o _ a8.o).2) ?_;rintro e E ⟨n,ok,rfl,r,N,B⟩;have o:=a8.o.th B;have a9:=Kd a7 B.size;have aa:Hid (∀a,bL E a->a.cell? (pA SB 2)=some (.string x)):=λa h=>((h.cell (p:=pA SB 2) a9).trans (B.cell (p:=pA SB 2) a7)).trans (HX.o w3 bg.o).2
 clear HX x1
 cases ok with
 |false=>
  have b:=Z (by rw[M.o,r];rfl:gm s.1.1=(cu,1));have j:=o;clear r B o;have⟨d,k⟩:=V.o E j;have lb:=io d;have⟨z0,z1,z2,z3,z4⟩:=aF d;have f0:=fZ d 0;have f1:=fZ d 1;have f2:=fZ d 2;have f3:=fZ d 3;have f4:=fZ d 4;have C:=Z k;clear d k j;go_wp2_with fail;refine Ka (v:=.tuple #[.agg #[U 0,U 0,U 0,nL,U 0],U 1]) ?_ rfl ⟨_,by rw[b.o],by rw[b.o];exact dg _ _,?_⟩
  ·rw[K8 rfl];go_simp
  exact(C.o.s5 lE)
 |true=>
  have D:=Z (by rw[M.o,r];rfl:gm s.1.1=match cS x.1.1 with|none=>(cu,1)|some f=>((3,n,f,[],0),0));have bk:=Z N;have⟨W5,K⟩:=nM (E.alloc (.cells #[U 3,U n,U 0,nL,U 0] 71));have W:=bA K;have g5:=hA K;have x4:=aa.o E bR;have X:=o.th W;have l5:=io g5;have ac:=bb.o W5 (V.o W5 X).2;have O:Hid _:=ac;have ad:=Z λa (h:bL W5 a)=>Q2 ((h.block _ l5).trans g5:Na a E.1.size #[U 3,U n,U 0,nL,U 0] 71) (X.th h)
  have cs:=Z o.size;have ae:=Z (Mc (io (V.o E o).1));have cv:¬w.1.size=E.1.size:=by have:=io (V.o E o).1;omega
  have af:=Z K;have bp:=Kd a9 W.size;clear K W g5 X o B r N ac aa;go_wp2_with fail;rw[<-af.o];go_at_call 176;refine Calls.mono O.o ?_;rintro e w6 ⟨m,br,rfl,i,P,ak⟩;have⟨g6,L⟩:=ad.o w6 ak;have l6:=io g6;have⟨q0,q1,q2,q3,q4⟩:=aF g6;have fq:=fZ g6 2;have bs:=Z P;clear O ad x4 l5 bp ak af P g6
  cases br with
  |false=>
   have b:=Z (by rw[D.o,i];rfl:gm s.1.1=(cu,1));have j:=L;clear i L;have⟨d,k⟩:=V.o w6 j;have lb:=io d;have⟨z0,z1,z2,z3,z4⟩:=aF d;have f0:=fZ d 0;have f1:=fZ d 1;have f2:=fZ d 2;have f3:=fZ d 3;have f4:=fZ d 4;have C:=Z k;clear d k j;go_wp2_with fail;refine Ka (v:=.tuple #[.agg #[U 0,U 0,U 0,nL,U 0],U 1]) ?_ rfl ⟨_,by rw[b.o],by rw[b.o];exact dg _ _,?_⟩
   ·rw[K8 rfl];go_simp
   exact((((((C.o.setCell (p:=pW E 2) ae.o _).setCell (p:=pW w 0) lE _).setCell (p:=pW w 1) lE _).setCell (p:=pW w 2) lE _).setCell (p:=pW w 3) lE _).setCell (p:=pW w 4) lE _)
  |true=>
   have b:=Z (by rw[D.o,i];rfl:gm s.1.1=((3,n,m,[],0),0));have j:=L;clear i L;have⟨d,k⟩:=V.o w6 j;have lb:=io d;have⟨z0,z1,z2,z3,z4⟩:=aF d;have f0:=fZ d 0;have f1:=fZ d 1;have f2:=fZ d 2;have f3:=fZ d 3;have f4:=fZ d 4;have C:=Z k;clear d k j;go_wp2_with fail;refine Ka (v:=.tuple #[.agg #[U 3,U n,U m,nL,U 0],U 0]) ?_ rfl ⟨_,by rw[b.o],by rw[b.o];exact λwF _ _=>⟨_,rfl,(by unfold wf;decide:wf (3:Int)),bk.o,bs.o,bV _ _⟩,?_⟩
   ·rw[K8 rfl];go_simp
   exact((((((C.o.setCell (p:=pW E 2) ae.o _).setCell (p:=pW w 0) lE _).setCell (p:=pW w 1) lE _).setCell (p:=pW w 2) lE _).setCell (p:=pW w 3) lE _).setCell (p:=pW w 4) lE _)
theorem yz(k:Int)(q:k=1\/k=2)(s:ByteArray)(a2:s.size<=60000)(w)(he:dD w)(hk:bt kN ((ar s.1.1).getD 0 [])=k-1)(hn:(ar s.1.1).length=3):oU s w:=by
 have HE:=Z λa (h:bL w a)=>he.l h
 clear he;have⟨P,m,b5,b6,Q,a3⟩:=il s a2;have HM:=Z m;have R:=Z Q;obtain⟨u0,E⟩:∃u,P[0]?=some u:=⟨P[0]'(by omega),by simp⟩;have b8:=Q u0 (Kb E);have a5:(ar s.1.1).getD 0 []=u0.1.1:=by rw[<-m,Kn,Ku,E];rfl
 have i:(ar s.1.1).length=P.length:=by rw[<-m];simp
 have⟨W0,F⟩:=nM (w.alloc (.cells #[U 0,U 0,U 0,nL,U 0] 71));have g0:=hA F;have S:=bA F;have T:=Z λa (h:bL W0 a)=>Q2 (h.bl g0) (S.th h)
 have⟨mm,hm⟩:=(HE.o W0 S).1;have t:Hid _:=a3 mm W0 hm;have HW:=Z F;clear F g0 S a3 hm m Q;rw[i] at hn;obtain⟨G,H⟩:∃u,P[1]?=some u:=⟨P[1]'(by omega),by simp⟩;have ba:=R.o G (Kb H);have a6:(ar s.1.1).getD 1 []=G.1.1:=by rw[<-HM.o,Kn,Ku,H];rfl
 obtain⟨r,I⟩:∃u,P[2]?=some u:=⟨P[2]'(by omega),by simp⟩;have bb:=R.o r (Kb I);have a7:(ar s.1.1).getD 2 []=r.1.1:=by rw[<-HM.o,Kn,Ku,I];rfl
 have x:Hid (gm s.1.1=match cS G.1.1 with|none=>(cu,1)|some c=>((k,c,0,(cG r.1.1).1),(cG r.1.1).2)):=by
  rcases q with rfl|rfl
  all_goals
   unfold Hid gm;rw[hk,i,hn,a6,a7,iO (by omega)]
   cases cS G.1.1<;>rfl
 have bc:Hid (wf k):=by rcases q with rfl|rfl<;>(unfold Hid wf;decide)
 have c3:(k==3)=false:=by rcases q with rfl|rfl<;>rfl
 have c4:(k==4)=false:=by rcases q with rfl|rfl<;>rfl
 have bd:Hid (∀a,cL 174 #[.string u0] a (rT a (.tuple #[U k,.bool true]))):=λa=>by
  have:=kt u0 a;rw[<-a5,hk] at this
  rcases q with rfl|rfl<;>exact this
 have bf:Hid (∀a,cL 175 #[U k] a λe V=>e=.returned (U 3)/\V=a):=λa=>ni (by omega) a
 have bg:Hid (∀a,bL w a->cL 176 #[.string G] a λe V=>∃n ok,e=.returned (.tuple #[U n,.bool ok])/\(cS G.1.1=if ok=true then some n else none)/\wf n/\bL a V):=λa h=>kV G (by omega) a (HE.o a h)
 have bk:=Z λa (h:bL w a)=>FK r a (HE.o a h)
 have HU:=Z3 E H I;rw[hn] at t;clear a5 i E b8 H ba a6 I bb a7 hk q hn b5 b6 R HM HE;go_enter func140,ntmps140;go_wp2_with fail;rw[<-HW.o];go_at_call 109;refine Calls.mono t.o ?_;rintro e w1 ⟨SB,cd,rfl,ce,cf,a8,a9,y,b⟩;have x0:=b 0 u0 HU.o.1
 have HX:Hid (∀a,bL w1 a->a.cell? (pA SB 1)=some (.string G)/\a.cell? (pA SB 2)=some (.string r)):=λa h=>⟨(h.cell (p:=pA SB 1) y).trans (b 1 G HU.o.2.1),(h.cell (p:=pA SB 2) y).trans (b 2 r HU.o.2.2)⟩
 have bp:=Z a8;clear b t HW a9 a8;go_wp2_with fail;go_at_call 174;refine Calls.mono (bd.o _) ?_;rintro e w2 ⟨rfl,z⟩;have bq:=Z z;have x1:=(HX.o w2 z).1;have aa:=Kd y z.size;have ac:=Z (bp.o.th z);clear z x0;go_wp2_with fail;go_at_call 175;refine Calls.mono (bf.o _) ?_;rintro e w3 ⟨rfl,rfl⟩;go_wp2_with fail;go_at_call 176;refine Calls.mono (bg.o _ (T.o _ ac.o).2) ?_;rintro e D ⟨n,ok,rfl,o,N,A⟩;have j:=ac.o.th A;have ad:=Kd aa A.size;have ae:Hid (∀a,bL D a->a.cell? (pA SB 2)=some (.string r)):=λa h=>((h.cell (p:=pA SB 2) ad).trans (A.cell (p:=pA SB 2) aa)).trans (HX.o w3 bq.o).2
 clear HX x1
 cases ok with
 |false=>
  have d:=Z (by rw[x.o,o];rfl:gm s.1.1=(cu,1));have B:=j;clear o A j;have⟨f,C⟩:=T.o D B;have lb:=io f;have⟨z0,z1,z2,z3,z4⟩:=aF f;have f0:=fZ f 0;have f1:=fZ f 1;have f2:=fZ f 2;have f3:=fZ f 3;have f4:=fZ f 4;have J:=Z C;clear f C B;go_wp2_with fail;refine Ka (v:=.tuple #[.agg #[U 0,U 0,U 0,nL,U 0],U 1]) ?_ rfl ⟨_,by rw[d.o],by rw[d.o];exact dg _ _,?_⟩
  ·rw[K8 rfl];go_simp
  exact(J.o.s5 lE)
 |true=>
  have l:=Z (by rw[x.o,o];rfl:gm s.1.1=((k,n,0,(cG r.1.1).1),(cG r.1.1).2));have br:=Z N;have⟨W5,K⟩:=nM (D.alloc (.cells #[U k,U n,U 0,nL,U 0] 71));have W:=bA K;have g5:=hA K;have x4:=ae.o D bR;have L:=j.th W;have l5:=io g5;have ak:=bk.o W5 (T.o W5 L).2;have O:Hid _:=ak;have al:=Z λa (h:bL W5 a)=>Q2 ((h.block _ l5).trans g5:Na a D.1.size #[U k,U n,U 0,nL,U 0] 71) (L.th h)
  have d6:=Z j.size;have X:=Z3 (io (T.o W5 L).1) l5 (Mc (io (T.o D j).1));have da:¬w.1.size=D.1.size:=by have:=io (T.o D j).1;omega
  have ao:=Z K;have bx:=Kd ad W.size;clear K W g5 L j A o N ak ae;go_wp2_with fail;rw[<-ao.o];go_at_call 177;refine Calls.mono O.o ?_;rintro e w6 ⟨pv,rfl,M,av⟩;have⟨PP,Y⟩:=nM ((cG r.1.1).1);have⟨PE,a0⟩:=nM ((cG r.1.1).2);rw[<-Y] at M
  rw[<-a0] at |-
  rw[<-Y,<-a0] at l;clear Y a0 x;obtain⟨bF,pd⟩:=PP;have c0:Hid (bE W5.1.size w6 pv (bF,pd)):=λwF h1 h2=>(M.keep h1 h2).at
  obtain⟨va,vn,vc,ev⟩:=M.shape;simp only[] at ev;subst ev;have⟨g6,b1⟩:=al.o w6 av;have l6:=io g6;have⟨q0,q1,q2,q3,q4⟩:=aF g6;have dn:=fZ g6 3;have dp:=fZ g6 4;have d:=Z l.o;have B:=b1;clear O al x4 l5 bx av ao g6 M b1 l;have⟨f,C⟩:=T.o w6 B;have lb:=io f;have⟨z0,z1,z2,z3,z4⟩:=aF f;have f0:=fZ f 0;have f1:=fZ f 1;have f2:=fZ f 2;have f3:=fZ f 3;have f4:=fZ f 4;have J:=Z C;clear f C B;go_wp2_with fail;refine Ka (v:=.tuple #[.agg #[U k,U n,U 0,.slice va vn vc,U pd],U PE]) ?_ rfl ⟨_,by rw[d.o],by rw[d.o];have hL:=X.o;exact λwF h1 h2=>⟨_,rfl,bc.o,br.o,(by unfold wf;decide:wf (0:Int)),(((((((((c0.o.put (.inl hL.2.1)).put (.inl hL.2.1)).put (.inl hL.1)).put (.inl hL.1)).put (.inl hL.1)).put (.inl hL.1)).put (.inl hL.1)).l lE (bR.alloc lE _)).keep lE (λg hg hl=>h1 g (by omega) hl) h2).at⟩,?_⟩
  ·rw[K8 rfl];go_simp
  exact(((((((J.o.setCell (p:=pW D 3) X.o.2.2 _).setCell (p:=pW D 4) X.o.2.2 _).setCell (p:=pW w 0) lE _).setCell (p:=pW w 1) lE _).setCell (p:=pW w 2) lE _).setCell (p:=pW w 3) lE _).setCell (p:=pW w 4) lE _).alloc (by simp;exact J.o.size) _
theorem Ac:cG vA.1.1=(kj,0):=by kernel_rfl
theorem Bn(w)(t:dD w):
  cL 25 #[] w λe h=>∃c,e=.returned c/\bE w.1.size h c kj/\bL w h:=by
 have l:Hid (∀X,cL 55 #[.string vA] (w.alloc X) λe h=>∃c,e=.returned (.tuple #[c,U 0])/\bE (w.1.size+1) h c kj/\Below (w.alloc X).1.size (w.alloc X) h):=by
  intro X;have:=kY vA (by decide) _ (t.l (bR.alloc lE X));rw[Ac] at this
  refine this.mono λe h ⟨c,r,k,x⟩=>⟨c,r,?_,x⟩
  rw[Kg] at k;exact k
 have y:∀X,bL w (w.alloc X):=λX=>bR.alloc lE _
 go_enter func25,ntmps25;go_wp2_with (first|(go_at_call 55;go_must (refine(l.o _).mono ?_;rintro e d ⟨c,rfl,s,f⟩;have m:Hid (bE (w.1.size+1) d c kj):=s;obtain⟨E,rfl,z,A⟩:=s.at;obtain⟨i,a,rfl,_,_,_⟩:=A;have j:=f.size;have n:=(f.block w.1.size (by simp)).trans (Kr w _).1;have b:∀X,Na (d.alloc X) w.1.size #[nL,U 0] 30:=λX=>(Kq _ _ _ (by simp at j;omega)).trans n;have F:∀X,(d.alloc X).cell? (pW w 0)=some nL:=λX=>(ag (b X)).1;have G:∀X,(d.alloc X).cell? (pW w 1)=some (U 0):=λX=>(ag (b X)).2.1;have H:∀X,(d.alloc X).frozen? (pW w 0)=false:=λX=>(ag (b X)).2.2.1;have I:∀X,(d.alloc X).frozen? (pW w 1)=false:=λX=>(ag (b X)).2.2.2)));have o:bL w (((d.alloc (.cells #[.slice i kj.1.length a,U kj.2] 30)).setCell (pW w 0) (.slice i kj.1.length a)).setCell (pW w 1) (U kj.2)):=(((((y _).trans (f.mono (by simp))).alloc (by simp at j;omega) _).setCell (p:=pW w 0) lE _).setCell (p:=pW w 1) lE _);have q:=du (u:=U kj.2) (dC (u:=.slice i kj.1.length a) (b (.cells #[.slice i kj.1.length a,U kj.2] 30)));have⟨J,K,_,_⟩:=ag q;refine Ka (v:=.agg #[.slice i kj.1.length a,U kj.2]) ?_ rfl ⟨_,rfl,λB C D=>m.o B (λg r k=>(C g (by omega) (by simp;omega)).trans ?_) (Kl (by simp) D),o⟩
 ·rw[cN rfl];go_simp
 rw[Kc _ _ _ _ (by show g≠w.1.size;omega),Kc _ _ _ _ (by show g≠w.1.size;omega),Kq _ _ _ k]
theorem Cj:cG zu.1.1=(gQ,0):=by kernel_rfl
theorem DP(w)(t:dD w):
  cL 26 #[] w λe h=>∃c,e=.returned c/\bE w.1.size h c gQ/\bL w h:=by
 have l:Hid (∀X,cL 55 #[.string zu] (w.alloc X) λe h=>∃c,e=.returned (.tuple #[c,U 0])/\bE (w.1.size+1) h c gQ/\Below (w.alloc X).1.size (w.alloc X) h):=by
  intro X;have:=kY zu (by decide) _ (t.l (bR.alloc lE X));rw[Cj] at this
  refine this.mono λe h ⟨c,r,k,x⟩=>⟨c,r,?_,x⟩
  rw[Kg] at k;exact k
 have y:∀X,bL w (w.alloc X):=λX=>bR.alloc lE _
 go_enter func26,ntmps26;go_wp2_with (first|(go_at_call 55;go_must (refine(l.o _).mono ?_;rintro e d ⟨c,rfl,s,f⟩;have m:Hid (bE (w.1.size+1) d c gQ):=s;obtain⟨E,rfl,z,A⟩:=s.at;obtain⟨i,a,rfl,_,_,_⟩:=A;have j:=f.size;have n:=(f.block w.1.size (by simp)).trans (Kr w _).1;have b:∀X,Na (d.alloc X) w.1.size #[nL,U 0] 30:=λX=>(Kq _ _ _ (by simp at j;omega)).trans n;have F:∀X,(d.alloc X).cell? (pW w 0)=some nL:=λX=>(ag (b X)).1;have G:∀X,(d.alloc X).cell? (pW w 1)=some (U 0):=λX=>(ag (b X)).2.1;have H:∀X,(d.alloc X).frozen? (pW w 0)=false:=λX=>(ag (b X)).2.2.1;have I:∀X,(d.alloc X).frozen? (pW w 1)=false:=λX=>(ag (b X)).2.2.2)));have o:bL w (((d.alloc (.cells #[.slice i gQ.1.length a,U gQ.2] 30)).setCell (pW w 0) (.slice i gQ.1.length a)).setCell (pW w 1) (U gQ.2)):=(((((y _).trans (f.mono (by simp))).alloc (by simp at j;omega) _).setCell (p:=pW w 0) lE _).setCell (p:=pW w 1) lE _);have q:=du (u:=U gQ.2) (dC (u:=.slice i gQ.1.length a) (b (.cells #[.slice i gQ.1.length a,U gQ.2] 30)));have⟨J,K,_,_⟩:=ag q;refine Ka (v:=.agg #[.slice i gQ.1.length a,U gQ.2]) ?_ rfl ⟨_,rfl,λB C D=>m.o B (λg r k=>(C g (by omega) (by simp;omega)).trans ?_) (Kl (by simp) D),o⟩
 ·rw[cN rfl];go_simp
 rw[Kc _ _ _ _ (by show g≠w.1.size;omega),Kc _ _ _ _ (by show g≠w.1.size;omega),Kq _ _ _ k]
