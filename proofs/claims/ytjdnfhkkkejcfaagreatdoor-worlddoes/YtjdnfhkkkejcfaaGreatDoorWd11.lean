import Derived.Test.YtjdnfhkkkejcfaaGreatDoorWd07
import Derived.Test.YtjdnfhkkkejcfaaGreatDoorWd08
import Derived.Test.YtjdnfhkkkejcfaaGreatDoorWd09
import Derived.Test.YtjdnfhkkkejcfaaGreatDoorWd10
set_option linter.all false
set_option maxRecDepth 100000
set_option maxHeartbeats 4000000
namespace Go.Proofs.YtjdnfhkkkejcfaaGreatDoor
open Go.RowKit Go.Maps Go.Proofs.Tryz
def vA:ByteArray:=⟨#[107,105,108,108,32,110,114,61,51,32,97,60,53,59,108,111,103,32,107,105,110,100,33,48,59,97,108,108,111,119]⟩
def IZ:List aq:=[([(0,1,3),(2,3,5)],0),([(1,2,0)],3)]
def kj:aD:=(IZ,4)
section
open Go.ChangeShapes Go.WideShapes Go.ChangeAt Go.Deep
section
variable {H:Type} {enc:TypeId × Value->H} {W:World} {base:Nat} {sp:Nat->Bool} {held:Bool}
theorem CD{j:Nat}{cv:Value}{x:DataW H × List MemPlace}(h:DataW.trod enc prog W base sp held j 129 [cv]=some x):∃r,bG W.1.size W cv r:=by
 rcases open_slice Tryz.underlying129 h with ⟨l,_⟩|⟨a,e,s,m,n,D,Pl,l,_,hl,Q,t,_,w⟩
 ·simp at l;subst l;exact⟨[],none,0,rfl,Ke _,Ks _,λi c y=>by simp at y⟩
 simp at l;subst l;have R:prog.cellsOf 134=3:=by kernel_rfl
 have S:prog.cellsOf 3=1:=by kernel_rfl
 rw[R] at w;have T:e<=m:=by rw[t];split<;>omega
 have p:∀i,i<e->∃c:aN,a=⟨a.block,a.off,none⟩/\a.block<W.1.size/\iu W a.block (a.off+i*3) c:=by
  intro i hi
  have z:W.cell? (a.add 0)≠none:=by
   obtain⟨g,A,_⟩:=w 0 (by omega);have⟨_,d,b⟩:=Lh A;have:=b 0 (by omega);rw[add_add] at this;simp at this
   match g,d with
   |[V,X,Y],_=>simp at this |-;rw[this];simp
  have⟨v,hv⟩:=Lp.1 z;have⟨q,B⟩:=iX hv;obtain⟨g,A,g2⟩:=w i (by omega);have⟨_,d,b⟩:=Lh A;have⟨y0,y1,y2,k,_,_,G,I,J⟩:=trod_struct3 Tryz.underlying134 g2
  match g,d with
  |[V,X,Y],_=>
   simp[S] at G I J;have⟨f,K,_,w0⟩:=KV Tryz.underlying3 G;have⟨o,L,_,w1⟩:=KV Tryz.underlying3 I;have⟨u,M,_,w2⟩:=KV Tryz.underlying3 J;simp at K L M;subst K L M;have N:=b 0 (by omega);have O:=b 1 (by omega);have P:=b 2 (by omega);rw[add_add,q,eM] at N O P;exact⟨(f,o,u),q,B,by simpa using N,by simpa [KX] using O,by simpa [KX] using P,w0,w1,w2⟩
 obtain⟨r,C,E⟩:=iU _ e p;refine⟨r,some a,s,by rw[C],by omega,Q,λi c y=>?_⟩;have⟨q,B,F⟩:=E i c y;exact⟨a.block,a.off,by rw[<-q],B,F⟩
theorem CI{d:Nat}{rv:Value}{x:DataW H × List MemPlace}(h:DataW.trod enc prog W base sp held d 28 [rv]=some x):∃j,bD W.1.size W rv j:=by
 rcases open_slice_pairs Tryz.underlying28 Tryz.underlying131 (by kernel_rfl) rfl rfl (by kernel_rfl) (by kernel_rfl) h with ⟨e,_⟩|⟨a,b,k,m,n,A,K,_,_,_,_,e,_,L,B,l,_,w⟩
 ·simp at e;subst e;exact⟨[],none,0,rfl,Ke _,Ks _,λi c C=>by simp at C⟩
 simp at e;subst e;have D:b<=m:=by rw[l];split<;>omega
 have f:∀i,i<b->∃r:aq,a=⟨a.block,a.off,none⟩/\a.block<W.1.size/\gO W.1.size W a.block (a.off+i*2) r:=by intro i M;obtain⟨g,o⟩:=iX (w 0 (by omega)).1;obtain⟨y,p,E,F⟩:=w i (by omega);have⟨G,q⟩:=CD E;have⟨v,z,_,I⟩:=KV Tryz.underlying3 F;simp at z;rw[z] at p;rw[g,eM] at y p;exact⟨(G,v),g,o,A i,y,by simpa [KX] using p,I,q⟩
 obtain⟨j,s,t⟩:=iU _ b f;refine⟨j,some a,k,by rw[s],by omega,B,λi r J=>?_⟩;have⟨g,o,u⟩:=t i r J;exact⟨a.block,a.off,by rw[<-g],o,u⟩
end
theorem If{W:World}(h:W.ShapedOpen prog):tO W:=Tryz.laysM145.s1_3 W h
end
def vf(B:Nat)(w:World)(b o:Nat)(r:az):Prop:=
 ∃a,w.cell? ⟨b,o,none⟩=some (U r.1)/\w.cell? ⟨b,o+1,none⟩=some (U r.2.1)/\w.cell? ⟨b,o+2,none⟩=some (U r.2.2.1)/\w.cell? ⟨b,o+3,none⟩=some a/\w.cell? ⟨b,o+4,none⟩=some (U r.2.2.2.2)/\
  cI B w (.agg #[U r.1,U r.2.1,U r.2.2.1,a,U r.2.2.2.2]) r
def dh(B:Nat)(w:World)(v:Value)(d:List az):Prop:=
 ∃a c,v=.slice a d.length c/\d.length<=c/\c<=maxLen/\∀i r,d[i]?=some r->∃b o,a=some ⟨b,o,none⟩/\b<B/\vf B w b (o+i*5) r
theorem vf.l{B B' w w' b o r}(h:vf B w b o r)(c:Below B' w w')(d:B<=B')(m:b<B):vf B w' b o r:=by
 obtain⟨e,f,g,i,j,k,l⟩:=h;have a:b<B':=by omega
 exact⟨e,(c.cell (p:=⟨b,o,none⟩) a).trans f,(c.cell (p:=⟨b,o+1,none⟩) a).trans g,(c.cell (p:=⟨b,o+2,none⟩) a).trans i,(c.cell (p:=⟨b,o+3,none⟩) a).trans j,(c.cell (p:=⟨b,o+4,none⟩) a).trans k,l.l c d⟩
theorem dh.l{B B' w w' v rs}(h:dh B w v rs)(g:Below B' w w')(j:B<=B'):dh B w' v rs:=by obtain⟨a,d,l,m,n,p⟩:=h;refine⟨a,d,l,m,n,λi c q=>?_⟩;have⟨b,o,e,f,k⟩:=p i c q;exact⟨b,o,e,f,k.l g j f⟩
theorem iW{B k:Nat}{w v r}(h:cI B w v r)(Q:B<=k):cI k w v r:=by obtain⟨l,m,n,p,q,f,e,s,a,g,t,u,x,y⟩:=h;refine⟨l,m,n,p,q,f,e,s,a,g,t,u,x,λi r z=>?_⟩;have⟨b,o,A,R,C,D,E,F,G,d,H,I,J,K⟩:=y i r z;refine⟨b,o,A,by omega,C,D,E,F,G,d,H,I,J,λj c L=>?_⟩;have⟨M,N,O,S,P⟩:=K j c L;exact⟨M,N,O,by omega,P⟩
theorem dh.wide{B d:Nat}{w v rs}(h:dh B w v rs)(f:B<=d):dh d w v rs:=by obtain⟨a,c,g,j,k,l⟩:=h;refine⟨a,c,g,j,k,λi r m=>?_⟩;have⟨b,o,e,n,p,q,s,t,u,x,y⟩:=l i r m;exact⟨b,o,e,Kd n f,p,q,s,t,u,x,iW y f⟩
def gR(s:Bs):az × Int:=if 60000<s.length then (cu,2) else ch s
def gt(p:aD)(i:Int):Bool:=(dG [p]).any λx=>kP p (Cn x)==i
def bN(p:aD):Nat->List aq->List aq
 |_,[]=>[]
 |k,r :: s=>if gt p k then r :: bN p (k+1) s else bN p (k+1) s
def cF(d:Int):List aq->List aq
 |[]=>[]
 |r :: s=>if cF d s=[]/\r.2=d then [] else r :: cF d s
def j9(p:aD):aD:=(cF p.2 (bN p 0 p.1),p.2)
theorem sG(x:Nat->Int)(d):∀l:List aq,eP x d (cF d l)=eP x d l
 |[]=>rfl
 |r :: s=>by
  have a:=sG x d s;unfold cF
  split
  ·rename_i h;rw[h.1] at a;show d=if bu x r then r.2 else eP x d s
   rw[<-a]
   split
   ·exact h.2.symm
   rfl
  show (if bu x r then r.2 else eP x d (cF d s))=if bu x r then r.2 else eP x d s
  rw[a]
theorem lX(d):∀l:List aq,∃n,cF d l=l.take n
 |[]=>⟨0,rfl⟩
 |r :: s=>by
  have⟨n,h⟩:=lX d s;unfold cF
  split
  ·exact⟨0,rfl⟩
  exact⟨n+1,by rw[h];rfl⟩
theorem kq(p):∀ (l:List aq) (k:Nat),∀r∈bN p k l,r∈l
 |[],_,r,h=>by simp[bN] at h
 |s :: l,k,r,h=>by
  unfold bN at h
  split at h
  ·rcases Kz.1 h with rfl|h
   ·simp
   simp[kq p l (k+1) r h]
  simp[kq p l (k+1) r h]
theorem kD(p):∀ (l:List aq) (k:Nat),(bN p k l).length<=l.length
 |[],_=>by simp[bN]
 |s :: l,k=>by
  have:=kD p l (k+1);unfold bN
  split<;>simp<;>omega
theorem Df(p):∀r∈(j9 p).1,r∈p.1:=by intro r a;unfold j9 at a;have⟨n,h⟩:=lX p.2 (bN p 0 p.1);simp only[h] at a;exact kq p p.1 0 r (KZ a)
theorem Dr(p):(j9 p).1.length<=p.1.length:=by unfold j9;have⟨n,h⟩:=lX p.2 (bN p 0 p.1);simp only[h,Kt];have:=kD p p.1 0;omega
theorem yK{p:aD}(h:aj p=0):aj (j9 p)=0:=by have⟨a,b,c⟩:=cY h;exact ED (Kl (Dr p) a) b λr d=>cM c r (Df p r d)
theorem JA{p:aD}{x:Nat->Int}(a:aj p=0)(b:eC x=0):kP p x=(cP p (aR (bu x) 0 p.1)).2:=by unfold kP;rw[gV a b]
theorem CY{p:aD}{x:Nat->Int}(c:aj p=0)(b:eC x=0){i:Int}(e:aR (bu x) 0 p.1=i)(f:0<=i):gt p i=true:=by
 have a:gn [p]:=λq d=>by rw[KO] at d;subst d;exact c
 unfold gt;rw[List.any_eq_true];refine⟨_,xa a b,?_⟩;rw[MN];unfold kP;rw[rF (fF _),vM a b (by simp),gV c b,e,cP,iO (by omega)]
theorem xe{p}(x:Nat->Int)(d):∀ (l:List aq) (k:Nat),(∀i,aR (bu x) k l=i->0<=i->gt p i=true)->eP x d (bN p k l)=eP x d l
 |[],_,_=>rfl
 |r :: s,k,h=>by
  unfold bN
  by_cases a:bu x r=true
  ·have:=h k (by rw[aR,Io a]) (by omega);rw[Io this,eP,Io a,eP,Io a]
  have b:=xe (p:=p) x d s (k+1) λi c f=>h i (by rw[aR,iO a];exact c) f
  have e:eP x d (r :: s)=eP x d s:=by rw[eP,iO a]
  rw[e,<-b]
  split
  ·rw[eP,iO a]
  rfl
theorem H8{p:aD}{x:Nat->Int}(a:aj p=0)(b:eC x=0):vP (j9 p) x=vP p x:=by rw[rJ (yK a) b,rJ a b];show eP x p.2 (cF p.2 (bN p 0 p.1))=_;rw[sG];exact xe x p.2 p.1 0 λi c d=>CY a b c d
def eJ(a:Bool)(p q:aD):Int:=if bM [p,q]=0 then aj (gI a p q) else bM [p,q]
def eI(a:Bool)(p q:aD):aD:=if eJ a p q=0 then gI a p q else ([],0)
theorem oY{p q:aD}(h:bM [p,q]=0):aj p=0/\aj q=0:=by have:=jz.1 h;exact⟨this p (by simp),this q (by simp)⟩
def jo(a:Bool)(p q:aD)(i:Nat):List aq:=(p.1.take i).flatMap λr=>q.1.map (dX a r)++[dX a r ([],q.2)]
theorem x7(exc)(p q:aD)(i:Nat)(r:aq)(h:p.1[i]?=some r):jo exc p q (i+1)=jo exc p q i++q.1.map (dX exc r)++[dX exc r ([],q.2)]:=by unfold jo;rw[KN,h];simp
theorem Eq(exc)(p q:aD):gh exc p q=jo exc p q p.1.length++q.1.map (dX exc ([],p.2)):=by unfold jo gh;rw[L6]
theorem yX(exc p q):∀i,(jo exc p q i).length<=i*(q.1.length+1)
 |0=>by simp[jo]
 |i+1=>by
  have b:=yX exc p q i;rw[Mi,Nat.one_mul]
  by_cases h:i<p.1.length
  ·obtain⟨r,a⟩:∃r,p.1[i]?=some r:=⟨p.1[i],by simp[h]⟩;rw[x7 exc p q i r a];simp;omega
  have e:jo exc p q (i+1)=jo exc p q i:=by unfold jo;rw[Ki (by omega),Ki (by omega)]
  rw[e];omega
theorem qk(g:aq->aq)(l:List aq)(j:Nat)(r:aq)(h:l[j]?=some r):(l.take (j+1)).map g=(l.take j).map g++[g r]:=by rw[KN,h];simp
def EC(B:Nat)(w:World)(b o:Nat)(p:aD):Prop:=∃a,w.cell? ⟨b,o,none⟩=some a/\w.cell? ⟨b,o+1,none⟩=some (U p.2)/\wf p.2/\bD B w a p.1
def iH(B:Nat)(w:World)(v:Value)(ps:List aD):Prop:=
 ∃a c,v=.slice a ps.length c/\ps.length<=c/\c<=maxLen/\∀ (i:Nat) p,ps[i]?=some p->∃b o,a=some ⟨b,o,none⟩/\b<B/\EC B w b (o+i*2) p
theorem EC.l{B B' w w' b o p}(h:EC B w b o p)(a:Below B' w w')(c:B<=B')(j:b<B):EC B w' b o p:=by obtain⟨d,e,f,g,i⟩:=h;exact⟨d,(a.cell (p:=⟨b,o,none⟩) (by show b<B';omega)).trans e,(a.cell (p:=⟨b,o+1,none⟩) (by show b<B';omega)).trans f,g,i.l a c⟩
theorem iH.l{B B' w w' v ps}(h:iH B w v ps)(g:Below B' w w')(j:B<=B'):iH B w' v ps:=by obtain⟨a,d,l,m,n,p⟩:=h;refine⟨a,d,l,m,n,λi c q=>?_⟩;have⟨b,o,e,f,k⟩:=p i c q;exact⟨b,o,e,f,k.l g j f⟩
theorem EC.pol{B w b o p}(h:EC B w b o p):∃a n c,w.cell? ⟨b,o,none⟩=some (.slice a n c)/\w.cell? ⟨b,o+1,none⟩=some (U p.2)/\aX B w (.agg #[.slice a n c,U p.2]) p:=by obtain⟨j,d,e,f,g⟩:=h;obtain⟨a,c,rfl,i⟩:=g;exact⟨a,_,c,d,e,_,rfl,f,a,c,rfl,i⟩
theorem rB(ps:List aD)(k:Nat)(p:aD)(h:ps[k]?=some p):bM (ps.drop k)=if aj p=0 then bM (ps.drop (k+1)) else aj p:=by obtain⟨a,rfl⟩:=K9.1 h;rw[KM a];rfl
theorem rP(B lv ps w)(z:iH B w lv ps)(u:B<=w.1.size):
  cL 148 #[lv] w (rT w (U (bM ps))):=by
 have C:=Z λt (h:bL w t)=>z.l h u
 obtain⟨a,D,rfl,E,F,-⟩:=z;have G:=ai;generalize i:ps.length=f at*;have c:=Z i;clear i;go_enter func148,ntmps148;go_wp2;go_loopw [8] (λv wr=>∃k:Nat,k<=f/\v=U k/\Hid (bM ps=bM (ps.drop k))/\bL w wr) (λv _=>f-(intOf v).toNat)
 case atStart=>exact⟨0,by omega,rfl,rfl,Kf _ _⟩
 case round=>
  obtain⟨k,M,rfl,H,d⟩:=hrel;have⟨I,x⟩:=nM (wr);subst x;have N:(0:Int)<=(k:Int):=by omega
  have g:=d.size
  by_cases J:k<f
  ·have O:(k:Int)<(f:Int):=by omega
   obtain⟨p,n⟩:∃p,ps[k]?=some p:=⟨ps[k]'(by rw[c.o];omega),by simp⟩;have S:=Z (rB ps k p n);obtain⟨_,_,A,-,-,q⟩:=C.o _ d;have⟨b,o,e,K,r⟩:=q k p n;simp at A;obtain⟨rfl,-,-⟩:=A;subst e;clear q;obtain⟨P,Q,R,T,V,s⟩:=r.pol;have j:=Z λt (h:bL I t)=>fW B _ p t (s.l h (Kl u g)) (Kl u (h.u g))
   clear r s
   by_cases m:aj p=0
   ·rw[m] at j;have y:=Z (by rw[H.o,S.o,Io m]:bM ps=bM (ps.drop (k+1)));clear m S;go_wp2_with (first|(go_at_call 89;go_must (refine(j.o _ (bR.alloc lE _)).mono ?_;rintro e L ⟨rfl,l⟩)));exact⟨⟨k+1,by omega,by go_num,y,Below.tO (d.alloc g _) l (by simp;omega)⟩,by simp[intOf];omega⟩
   have y:=Z (by rw[H.o,S.o,iO m]:bM ps=aj p);have W:(aj p != 0)=true:=by simpa using m
   clear m S;generalize aj p=X at*;go_wp2_with (first|(go_at_call 89;go_must (refine(j.o _ (bR.alloc lE _)).mono ?_;rintro e L ⟨rfl,l⟩)));go_ret;exact⟨by rw[y.o];rfl,Below.tO (d.alloc g _) l (by simp;omega)⟩
  go_wp2;go_ret;exact⟨by rw[H.o,KJ (by rw[c.o];omega)];rfl,d⟩
def Bx(D:DataW Unit)(g:Int->Bool):Prop:=∀n,wf n->D.atKey (.int .i64 n) (.lit (.bool false))=.lit (.bool (g n))
theorem Hu(n:Int):WideAt.IsKeyLit (.int .i64 n):=by simp[WideAt.IsKeyLit]
theorem Bx.put{D:DataW Unit}{g:Int->Bool}(h:Bx D g)(c:IsMap D)(a:Int)(b):Bx (D.put (.int .i64 a) (.lit (.bool b))) (λn=>if n=a then b else g n):=by
 intro n d
 by_cases e:n=a
 ·subst e;rw[L7 c (Hu n)];simp
 rw[KT (by simpa using e),h n d];simp[e]
theorem Bx.congr{D:DataW Unit}{g a:Int->Bool}(h:Bx D g)(c:∀n,wf n->g n=a n):Bx D a:=λn b=>by rw[h n b,c n b]
def mB(w wr:World)(M:Nat)(f:Int)(done:List aN):Prop:=bL w wr/\∃D,wr.ownsMap prog 3 jl M (2*done.length+1) D/\Bx D (vq f done)
theorem mB.l{w wr wr' M f done}(h:mB w wr M f done)(a:bL wr wr'):mB w wr' M f done:=by obtain⟨b,D,c,d⟩:=h;refine⟨b.th a,D,?_,d⟩;exact c.kept (row:=none) ⟨a.os,a.tape,a.output,a.size,λk e _=>a.block k e⟩ (by simp)
theorem Iz{f:Int}{done:List aN}{c:aN}(h:c.1=f)(n:Int):(if n=c.2.2+1 then ((if c.2.2+1=c.2.2 then true else vq f done (c.2.2+1))||(decide (c.2.1=1)||decide (c.2.1=2))) else if n=c.2.2 then true else vq f done n)=vq f (done++[c]) n:=by
 rw[Gy h]
 by_cases b:n=c.2.2+1
 ·have a:¬c.2.2+1=c.2.2:=by omega
  have i:¬c.2.2=n:=by omega
  rw[Io b,iO a,<-b];simp[i]
 have d:¬c.2.2+1=n:=λe=>b e.symm
 rw[iO b]
 by_cases a:n=c.2.2
 ·simp[a]
 have g:¬c.2.2=n:=λe=>a e.symm
 rw[iO a];simp[d,g]
theorem pj(ps:List aD)(i:Nat)(p:aD)(h:ps[i]?=some p):bh (ps.take (i+1))=bh (ps.take i)++oV p:=by rw[KN,h];simp[bh]
theorem oq(a:List aq)(i:Nat)(r:aq)(h:a[i]?=some r):(a.take (i+1)).flatMap (·.1)=(a.take i).flatMap (·.1)++r.1:=by rw[KN,h];simp
theorem xg(cs:List aN)(i:Nat)(c:aN)(h:cs[i]?=some c):cs.take (i+1)=cs.take i++[c]:=by rw[KN,h];rfl
theorem jg:∀ (a:List aq),(∀r∈a,bH r=0)->(a.flatMap (·.1)).length<=a.length*10
 |[],_=>by simp
 |r :: s,h=>by
  have c:=(dy (h r (by simp))).1;have e:=jg s λd b=>h d (by simp[b])
  rw[KQ,Kj,Kv];omega
theorem jP:∀ (ps:List aD),gn ps->(bh ps).length<=ps.length*1200
 |[],_=>by simp[bh]
 |p :: s,h=>by
  obtain⟨e,_,b⟩:=cY (h p (by simp));have a:=jP s λd c=>h d (by simp[c])
  have f:=jg p.1 (cM b)
  unfold bh at a |-
  rw[KQ,Kj,Kv]
  unfold oV at a |-
  omega
section
theorem Ct{w:World}{base c n b:Nat}{e:TypeId}{v:Value}{xs:List Value}(h:w.ownsRow base e c v n xs){f:Array MapEntry}{a:Nat}(g:w.1[b]?=some (.map f a)):some b≠v.ownBlock:=by
 intro i;have⟨j,d⟩:=cX h b i.symm;rw[g] at d
 cases d
theorem tC{w:World}{base c n b:Nat}{e:TypeId}{v:Value}{xs:List Value}(h:w.ownsRow base e c v n xs){m:Option Nat}{a:Nat}{d:Array Nat}{g:Nat}(i:w.1[b]?=some (.mapIter m a d g)):some b≠v.ownBlock:=by
 intro j;have⟨k,f⟩:=cX h b j.symm;rw[i] at f
 cases f
theorem iq{w w'}(a:bL w w')(row:Option Nat):w.grownBy w' row:=⟨a.os,a.tape,a.output,a.size,λk b _=>a.block k b⟩
section
variable {P:Program} {k:TypeId} {R:Value->Option (DataW Unit × List MemPlace)} {w w':World} {b r n:Nat} {D:DataW Unit} {left:Lit->Bool} {cnt:Nat}
theorem rX(h:w.ranges P k R b r n D left cnt)(a:bL w w'):w'.ranges P k R b r n D left cnt:=h.kept (iq a none) (by simp) (by simp)
theorem CS(h:w.ranges P k R b r n D left cnt){base a m:Nat}{e:TypeId}{v:Value}{xs:List Value}(f:w.ownsRow base e a v m xs)(i:w.grownBy w' v.ownBlock):w'.ranges P k R b r n D left cnt:=by have j:=h;obtain⟨p,c,d,g,q,l,_,_,_,o,_⟩:=j;exact h.kept i (Ct f l) (tC f o)
theorem BG(h:w.ranges P k R b r n D left cnt){base a m:Nat}{e:TypeId}{v:Value}{xs:List Value}(f:w.ownsRow base e a v m xs)(i:w.grownBy w' (some r)):w'.ownsRow base e a v m xs:=by obtain⟨l,c,d,g,o,p,_,_,_,j,_⟩:=h;exact f.kept i (.inr λh=>tC f j h.symm)
end
theorem ir{P:Program}{t e:TypeId}{i:TypeInfo}{z:Value}{b f:Nat}{A:Array Oper}{p:List Oper}{o:Oper}{a:Act}{Q:Exit->Act->World->Prop}(w:World)(C:o.guard=none)(s x:Operand)
  (iY:o.op=.call { callee:=.builtin .append,args:=#[s,x],argTypes:=#[t,t] })
  (L:P.underlying t=some (.slice e)) (M:P.info? e=some i) (N:i.zero=some z) (r:i.size=b) (D:i.bytes=f) (E:z.cells.size=b) (F:0<b)
  (d:Nat) (v:Value) (n:Nat) (G:List Value) (O:a.eval s=v) (g m:Nat) (c:List Value) (R:a.eval x=.slice (sO g) m m)
  (W:World) {T0} (S:w=W.alloc (.cells c.toArray T0)) (T:g=W.1.size) (wo) (I:bL wo W) (q:wo.ownsRow d e b v n G) (V:c.length=m*b) (X:∀u∈c,u.oneCell'=true) (Y:n+m<=maxLen) (hn:(n+m)*f<=140737488355328) (l:d<=wo.1.size)
  (h:∀B w',Hid (w'.ownsRow d e b B (n+m) (G++c))->Below d wo w'->Hid (wo.grownBy w' v.ownBlock)->wpList P A Q p (a.put o.dst B) w'):wpList P A Q (o :: p) a w:=by
 subst S;subst T;have y:bL wo (W.alloc (.cells c.toArray T0)):=I.alloc I.size _;obtain⟨B,J,r1,r2,r3,_⟩:=LB (P:=P) (W.alloc (.cells c.toArray T0)) d t o.type e i z b f L M N r D E F v n G (aw q y) (pW W 0) m m c V (λj u H=>by rw[eM,Kp];exact ab (ah W _) j (by simpa using H)) X Y hn (y.u l);have K:wo.grownBy J v.ownBlock:=Li (iq y v.ownBlock) r3 λj H=>.inr H
 exact Kw _ C s x _ _ iY _ _ O R _ _ r1 (h B J r2 (bR.grown K l λk hk=>eh q k hk) K)
theorem xM{P:Program}(w:World){g:Array Oper}{e:List Oper}{o:Oper}{a:Act}{Q:Exit->Act->World->Prop}(H:o.guard=none)(m:Operand)(iY:o.op=Op.next m false)(k:TypeId)(K:Maps.Keyed P k)(G:P.underlying k=some (.int .i64))
  (b r n:Nat) (D:DataW Unit) (left:Lit->Bool) (cnt:Nat) (p:a.eval m=.pointer (sO r)) (h:w.ranges P k jl b r n D left cnt)
  (i:cnt=0->Hid (∀q,left q=false)->wpList P g Q e (a.put o.dst (.tuple #[.bool false])) w)
  (j:∀ (x:Int) (c:Bool) (w':World) (d:Nat),Hid (wf x/\left (.int .i64 x)=true/\Maps.has D (.int .i64 x)=true/\(∀I,D.atKey (.int .i64 x) I=.lit (.bool c))/\w'.ranges P k jl b r n D (λz=>left z&&!z.sameKey (.int .i64 x)) d/\w.grownBy w' (some r))->d<cnt->w'.1.size=w.1.size->
   (Instr.entry (.pointer (sO r))).run P w'=.ok (.tuple #[.int .i64 x,.bool c]) w'->wpList P g Q e (a.put o.dst (.tuple #[.bool true,.int .i64 x,.bool c])) w'):
  wpList P g Q (o :: e) a w:=by
 refine wpList_next_ranges w H m iY k K jl (Value.int .i64) Value.bool (λJ q f=>by obtain⟨x,rfl,_⟩:=Maps.keyOf_int_inv G f;exact⟨x,rfl⟩) (λv y s=>by obtain⟨c,rfl,_⟩:=tb s;exact⟨c,rfl⟩) b r n D left cnt p h (λL M=>i L M) λx c q y w' d f t s l u A B C E=>?_
 have⟨T,N,F,O⟩:=Maps.keyOf_int_inv G f
 cases N;subst F;have⟨V,R,S⟩:=tb s
 cases R;subst S;exact j x c w' d ⟨O,t,Maps.has_true_of_atKey l,l,u,B⟩ A C E
def zh(left:Lit->Bool)(n:Int):Bool:=left (.int .i64 n)
def sy(D:DataW Unit)(g:Int->Bool)(m:Int)(left:Lit->Bool)(xs:List Int):Prop:=xs.Nodup/\∀n,n∈xs ↔ Maps.has D (.int .i64 n)=true/\zh left n=false/\(wf n/\g n=true)/\n<=m
theorem wQ(left:Lit->Bool)(x n:Int):zh (λz=>left z&&!z.sameKey (.int .i64 x)) n=(zh left n&&!decide (n=x)):=by
 unfold zh
 by_cases h:n=x
 ·subst h;simp[Lit.sameKey]
 simp[Lit.sameKey,h]
theorem sy.start{D:DataW Unit}{g:Int->Bool}{m}:sy D g m (Maps.has D) []:=by
 refine⟨List.nodup_nil,λn=>?_⟩;unfold zh;constructor
 ·intro h;cases h
 rintro⟨b,a,_⟩;rw[b] at a
 cases a
theorem sy.skip{D:DataW Unit}{g:Int->Bool}{m}{left:Lit->Bool}{xs}(h:sy D g m left xs){x:Int}(c:¬(g x=true/\x<=m)):sy D g m (λz=>left z&&!z.sameKey (.int .i64 x)) xs:=by
 refine⟨h.1,λn=>?_⟩;rw[h.2 n,wQ]
 by_cases e:n=x
 ·subst e;constructor
  ·rintro⟨_,_,⟨_,a⟩,b⟩;exact absurd ⟨a,b⟩ c
  rintro⟨_,_,⟨_,a⟩,b⟩;exact absurd ⟨a,b⟩ c
 simp[e]
theorem sy.take{D:DataW Unit}{g:Int->Bool}{m}{left:Lit->Bool}{xs}(h:sy D g m left xs){x:Int}(f:zh left x=true)(i:Maps.has D (.int .i64 x)=true)(j:wf x)(k:g x=true)(l:x<=m):sy D g m (λz=>left z&&!z.sameKey (.int .i64 x)) (xs++[x]):=by
 have c:x ∉ xs:=λo=>by
  have:=((h.2 x).1 o).2.1;rw[f] at this
  cases this
 refine⟨List.nodup_append.2 ⟨h.1,by simp,λa p b d=>?_⟩,λn=>?_⟩
 ·rw[KO] at d;subst d;intro e;subst e;exact c p
 rw[KB,KO,h.2 n,wQ]
 by_cases e:n=x
 ·subst e;simp[i,j,k,l]
 simp[e]
theorem sy.done{D:DataW Unit}{f ps}{left:Lit->Bool}{xs}(h:sy D (vq f (bh ps)) (aO f) left xs)(e:Bx D (vq f (bh ps)))(c:gn ps)(g:∀i,left i=false):∀n,n∈xs ↔ vq f (bh ps) n=true/\n<=aO f:=by
 intro n;rw[h.2 n];constructor
 ·rintro⟨_,_,⟨_,a⟩,b⟩;exact⟨a,b⟩
 rintro⟨a,b⟩;have d:wf n:=by have:=gX c (oZ.2 ⟨a,b⟩);have:=nq f;exact L4 (by omega)
 refine⟨?_,g _,⟨d,a⟩,b⟩
 cases hh:Maps.has D (.int .i64 n) with
 |true=>rfl
 |false=>
  have:=e n d;rw[Maps.atKey_of_not_has hh,a] at this;simp at this
theorem sy.few{D:DataW Unit}{f ps}{left:Lit->Bool}{xs}(h:sy D (vq f (bh ps)) (aO f) left xs)(a:gn ps):xs.length<=65536:=by
 refine FM h.1 λx b=>?_
 have⟨_,_,⟨_,c⟩,d⟩:=(h.2 x).1 b;have:=gX a (oZ.2 ⟨c,d⟩);have:=nq f;omega
theorem E4:∃i,prog.info? 3=some i/\i.zero=some (U 0)/\i.size=1/\i.bytes=8:=jL (by kernel_rfl)
def jW(l:List Int):List Value:=l.map (.int .i64)
end
def lu(ps:List aD):Nat->Nat
 |0=>1
 |k+1=>lu ps k*(cw ps k).length
def mK(ps:List aD)(k:Nat):Nat:=(fz ((lI ps).drop k)).length
theorem tf(ps)(k:Nat)(a:k<5):(lI ps)[k]?=some (cw ps k):=by
 have:k=0\/k=1\/k=2\/k=3\/k=4:=by omega
 rcases this with rfl|rfl|rfl|rfl|rfl<;>rfl
theorem rz(ps)(k:Nat)(b:k<5):mK ps k=(cw ps k).length*mK ps (k+1):=by unfold mK;have h:=tf ps k b;have⟨a,e⟩:=K9.1 h;rw[KM a,e,kF]
theorem vB(ps):mK ps 5=1:=rfl
theorem zm(ps k):0<(cw ps k).length:=LY.2 (Bo ps k)
theorem yY(ps):∀m k:Nat,k+m=5->0<mK ps k
 |0,k,h=>by
  obtain rfl:k=5:=by omega
  exact Nat.one_pos
 |m+1,k,h=>by rw[rz ps k (by omega)];exact Nat.mul_pos (zm ps k) (yY ps m (k+1) (by omega))
theorem tm(ps):∀k,k<=5->lu ps k*mK ps k=(dG ps).length
 |0,_=>by show 1*mK ps 0=_;rw[Nat.one_mul];rfl
 |k+1,h=>by rw[<-tm ps k (by omega),rz ps k (by omega),lu,Nat.mul_assoc]
theorem E2(ps)(k:Nat)(a:k<=5):lu ps k<=(dG ps).length:=by rw[<-tm ps k a];exact Nat.le_mul_of_pos_right _ (yY ps (5-k) k (by omega))
theorem yV(ps):lu ps 5=(dG ps).length:=by rw[<-tm ps 5 (by omega),vB,Nat.mul_one]
def pt(ps:List aD)(i j:Nat):Int:=yH (cw ps j) (i / mK ps (j+1))
def Jn(ps:List aD)(i:Nat):List Int:=[pt ps i 0,pt ps i 1,pt ps i 2,pt ps i 3,pt ps i 4]
theorem Fs(ps)(i:Nat)(h:i<(dG ps).length):(dG ps)[i]?=some (Jn ps i):=by
 obtain⟨x,b,f,c⟩:=rY (lI ps) i (by
  intro L a;unfold lI at a;simp at a
  rcases a with rfl|rfl|rfl|rfl|rfl<;>exact Bo _ _) h
 have e:x=Jn ps i:=by
  refine LD λk=>?_
  by_cases d:k<5
  ·rw[c k _ (tf ps k d)];have:k=0\/k=1\/k=2\/k=3\/k=4:=by omega
   rcases this with rfl|rfl|rfl|rfl|rfl<;>rfl
  have g:(lI ps).length=5:=rfl;rw[KP (by omega),KP (by simp[Jn];omega)]
 rw[<-e];exact b
def cj(l:List (List Int)):List Value:=l.flatMap λx=>x.map (.int .i64)
theorem mP(l m:List (List Int)):cj (l++m)=cj l++cj m:=by unfold cj;exact Mg
theorem bG.mono{B f:Nat}{w v cs}(h:bG B w v cs)(p:B<=f):bG f w v cs:=by obtain⟨a,d,g,j,l,m⟩:=h;refine⟨a,d,g,j,l,λi c n=>?_⟩;have⟨b,o,e,q,k⟩:=m i c n;exact⟨b,o,e,by omega,k⟩
theorem bD.mono{B f:Nat}{w v rs}(h:bD B w v rs)(g:B<=f):bD f w v rs:=by obtain⟨a,d,j,k,l,m⟩:=h;refine⟨a,d,j,k,l,λi c n=>?_⟩;have⟨b,o,e,u,p,q,r,s,t⟩:=m i c n;exact⟨b,o,e,by omega,p,q,r,s,t.mono g⟩
theorem wJ{B:Nat}{w:World}{rv sv}{p q:aD}(e:B<=w.1.size)(g:bD B w rv p.1)(c:wf p.2)(h:bD B w sv q.1)(d:wf q.2)(T):
  iH (w.1.size+1) (w.alloc (.cells #[rv,U p.2,sv,U q.2] T)) (.slice (sO w.1.size) 2 2) [p,q]:=by
 have f:bL w (w.alloc (.cells #[rv,U p.2,sv,U q.2] T)):=bR.alloc lE _;have b:=ah w (.cells #[rv,U p.2,sv,U q.2] T);refine⟨some (pW w 0),2,rfl,Ke _,by rw[ai];omega,λi r a=>⟨w.1.size,0,rfl,by omega,?_⟩⟩
 match i,a with
 |0,a=>
  simp at a;subst a;exact⟨rv,J0 b,J1 b,c,(g.l f e).mono (by omega)⟩
 |1,a=>
  simp at a;subst a;exact⟨sv,J2 b,J3 b,d,(h.l f e).mono (by omega)⟩
 |i+2,a=>simp at a
theorem AT{B:Nat}{w:World}{rv}{p:aD}(d:B<=w.1.size)(e:bD B w rv p.1)(b:wf p.2)(T):
  iH (w.1.size+1) (w.alloc (.cells #[rv,U p.2] T)) (.slice (sO w.1.size) 1 1) [p]:=by
 have f:bL w (w.alloc (.cells #[rv,U p.2] T)):=bR.alloc lE _;have c:=ah w (.cells #[rv,U p.2] T);refine⟨some (pW w 0),1,rfl,Ke _,by rw[ai];omega,λi r a=>⟨w.1.size,0,rfl,by omega,?_⟩⟩
 match i,a with
 |0,a=>
  simp at a;subst a;exact⟨rv,J0 c,J1 c,b,(e.l f d).mono (by omega)⟩
 |i+1,a=>simp at a
theorem tK(a:List aq)(k:Nat)(r:aq)(h:a[k]?=some r):dV (a.take (k+1))=dV (a.take k)++jt r:=by rw[KN,h];simp[dV]
theorem yy:∀ (cs:List aN),cs.length<=10->(∀c∈cs,bS c=0)->∀i∈dA cs,gH i
 |[],_,_,i,h=>by simp[dA] at h
 |c :: r,b,a,i,h=>by
  obtain⟨g,j,k⟩:=ft (a c (by simp));have l:=nq c.1;have e:r.length+1<=10:=by simpa using b
  rw[dA] at h
  rcases Kz.1 h with rfl|h
  ·exact⟨cR (by simp only[];omega),cR (by simp only[];omega),cR (by simp only[];omega),cR (by simp only[];omega)⟩
  rcases Kz.1 h with rfl|h
  ·unfold ox
   split
   ·exact⟨cR (by simp only[];omega),cR (by simp only[];omega),cR (by simp only[];omega),cR (by simp only[];omega)⟩
   split
   ·exact⟨cR (by simp only[];omega),cR (by simp only[];omega),cR (by simp only[];omega),cR (by simp only[];omega)⟩
   split
   ·exact⟨cR (by simp only[];omega),cR (by simp only[];omega),cR (by simp only[];omega),cR (by simp only[];omega)⟩
   exact⟨cR (by simp only[];omega),cR (by simp only[];omega),cR (by simp only[];omega),cR (by simp only[];omega)⟩
  exact yy r (by omega) (λd f=>a d (by simp[f])) i h
theorem Ec{v:Int}(h:cA v=true):gH (4,v,0,0):=by have:=jk h;exact⟨cR (by simp only[];omega),cR (by simp only[];omega),cR (by simp only[];omega),cR (by simp only[];omega)⟩
theorem E6{p:aD}(h:aj p=0):∀i∈cm p,gH i:=by
 have⟨_,c,d⟩:=cY h;intro i a;unfold cm at a
 rcases KB.1 a with a|a
 ·unfold dV at a;have⟨r,b,a⟩:=Ll.1 a;have⟨e,f,g⟩:=dy (cM d r b);unfold jt at a
  rcases KB.1 a with a|a
  ·exact yy r.1 e (fy g) i a
  rw[KO] at a;subst a;exact Ec f
 rw[KO] at a;subst a;exact Ec c
theorem qG:∀ (a:List aq),(∀r∈a,bH r=0)->(dV a).length<=a.length*21
 |[],_=>by simp[dV]
 |r :: s,h=>by
  obtain⟨c,_,_⟩:=dy (h r (by simp));have:=qG s λd b=>h d (by simp[b])
  rw[oC,Kj,nO,Kv];omega
theorem tQ(B pv p w)(hp:aX B w pv p)(O:B<=w.1.size):
  cL 179 #[pv] w λe j=>∃lv,e=.returned (.tuple #[lv,U (cB p)])/\j.ownsRow w.1.size 112 4 lv (dW p).length (aJ (dW p))/\(∀i∈dW p,gH i)/\bL w j:=by
 obtain⟨bv,ac,ad,ae,af⟩:=rV;have HP:=Z λj (h:bL w j)=>hp.l h O
 have F:=Z λj (h:bL w j)=>gZ B pv p j (hp.l h O) (h.u O)
 obtain⟨c,d⟩:=p;obtain⟨rv,Q,hd,a,bF,R,ak,c0,G⟩:=hp;clear G;simp only at Q R ak hd;subst R;subst Q;have c1:=ai;have v:∀X,bL w (w.alloc X):=λX=>bR.alloc lE _
 by_cases u:aj (c,d)=0
 case neg=>
  have S:Hid (cB (c,d)=aj (c,d)/\dW (c,d)=[]):=by
   have e:cB (c,d)=aj (c,d):=by rw[cB,iO u]
   refine⟨e,?_⟩;rw[dW,iO (by rw[e];exact u)]
  have hq:(aj (c,d) != 0)=true:=by simpa using u
  clear u;generalize aj (c,d)=pe at*;go_enter func179,ntmps179;go_wp2_with (first|(go_at_call 143;go_must (refine(F.o _ (v _)).mono ?_;rintro e w1 ⟨rfl,l⟩)));go_ret2;rw[S.o.1,S.o.2];exact⟨_,rfl,⟨rfl,.inl ⟨rfl,rfl⟩⟩,(λi h=>by cases h),Below.tO (v _) l (by simp)⟩
 have⟨H,ao,I⟩:=cY u;simp only[] at H ao I;have HR:=Z (cM I);have HW:=Z (E6 u);have b0:=Z (uk u);have S:=Z (by rw[cB,Io u]:cB (c,d)=if 1500<(cm (c,d)).length then 2 else 0);have HL:Hid ((dV c).length<=2520):=by have:=qG c HR.o;unfold Hid;omega
 have b1:Hid (∀k,k<=c.length->(dV (c.take k)).length<=2520):=λk hk=>by
  have:=qG (c.take k) λr hr=>HR.o r (KZ hr)
  rw[Kt] at this;omega
 rw[u] at F;clear u I;generalize D:c.length=m at*;have n:=Z D;clear D;go_enter func179,ntmps179;go_wp2_with (first|(go_at_call 143;go_must (refine(F.o _ (v _)).mono ?_;rintro e w1 ⟨rfl,l⟩;have x:=(l.block w.1.size (by simp)).trans (ah w _);have p0:=J0 x;have p1:=J1 x)));have b2:bL w w1:=Below.tO (v _) l (by simp);have b3:=io x;clear p0 p1 l;go_loopw [5,17] (λnv iv wr=>∃k:Nat,k<=m/\iv=U k/\Hid (wr.ownsRow w.1.size 112 4 nv (dV (c.take k)).length (aJ (dV (c.take k))))/\bL w wr/\Hid (fh 112 w1 wr)/\w.1.size<wr.1.size) (λ_ iv _=>m-(intOf iv).toNat)
 case atStart=>exact⟨0,by omega,rfl,⟨rfl,.inl ⟨rfl,rfl⟩⟩,b2,fh.refl _ _,b3⟩
 case round=>
  obtain⟨k,hk,rfl,T,y,V,c6⟩:=hrel;have⟨wo,b6⟩:=nM (wr);subst b6;have i0:(0:Int)<=(k:Int):=by omega
  have q:=V.o _ _ _ _ x (by decide);have z:=y.size;have c7:=b1.o k hk
  by_cases c8:k<m
  ·have i1:(k:Int)<(m:Int):=by omega
   obtain⟨r,J⟩:∃r,c[k]?=some r:=⟨c[k]'(by rw[n.o];omega),by simp⟩;have Y:=(dy (HR.o r (Kb J))).1;obtain⟨_,e0,-,_,_,e1,-,-,a0⟩:=HP.o _ y;have⟨b,o,e,c9,cv,b8,ca,_,a1⟩:=a0 k r J;simp at e0;subst e0;simp at e1;obtain⟨rfl,-,-⟩:=e1;subst e;clear a0;have HT:=Z (tK c k r J);have⟨W2,A⟩:=nM (wo.alloc (.cells #[cv,U r.2] 131));have f:=bA A;have K:=Below.tO y f z;have a3:Hid (cL 206 #[u5,.agg #[cv,U r.2]] W2 λe j=>∃s,e=.returned s/\j.ownsRow w.1.size 112 4 s ((dV (c.take k)).length+(jt r).length) (aJ (dV (c.take k))++aJ (jt r))/\Below w.1.size W2 j/\fh 112 W2 j):=xy B w.1.size u5 cv _ _ r W2 (aw T.o f) (a1.l f (Kl O z)) O K.size (by omega) Y;have b9:=Z K;have ba:=Z (V.o.trans (fh.of_below f));have cc:=f.size;obtain⟨a2,c2,bb,_⟩:=a1;subst bb;have⟨m2,a4⟩:=nM (r.1.length);rw[<-a4] at a3 b8 A;clear a4 q K f;go_wp2_with fail;rw[<-A];clear A;go_at_call 206;refine a3.o.mono ?_;rintro e w3 ⟨s,rfl,a5,L,a6⟩;have bc:Hid (w3.ownsRow w.1.size 112 4 s (dV (c.take (k+1))).length (aJ (dV (c.take (k+1))))):=by unfold Hid;rw[HT.o,dM,Kj];exact a5
   have a7:=b9.o.trans L;have a8:=Z (ba.o.trans a6);have ce:=L.size;clear a5 L a6;go_wp2_with fail;exact⟨⟨k+1,by omega,by go_num,bc,a7,a8,by omega⟩,by simp[intOf];omega⟩
  obtain rfl:k=m:=by omega
  have p1:=J1 q
  have bd:Hid (∀W X,X=W.alloc (.cells #[U 4,U d,U 0,U 0] 112)->bL wo W->∃s E,(Builtin.append_ #[77,77] 77 #[u5,.slice (MZ W) 1 1]).run prog X=.ok s E/\Hid (E.ownsRow w.1.size 112 4 s (cm (c,d)).length (aJ (cm (c,d))))/\bL w E):=by
   intro W X hX hW;have M:bL wo X:=by rw[hX];exact hW.alloc hW.size _
   have hg:=hA hX;obtain⟨s,E,r1,r2,r3,r4⟩:=uM (P:=prog) Tryz.underlying77 ac ad ae af rfl (by decide) w.1.size 77 u5 _ 1 W.1.size _ (aJ [(4,d,0,0)]) X (aw T.o M) hg rfl (iA _) (by omega) (by omega) (M.u z) 1;refine⟨s,E,r1,?_,(Below.tO y M z).trans r3⟩;unfold Hid;have e:c.take k=c:=Ki (by rw[n.o];omega);rw[e,<-dM] at r2;unfold cm;rw[Kj];exact r2
  clear q;go_wp2_with (first|(go_at_call 207;go_must (refine(BQ _ _).mono ?_;rintro e w2 ⟨rfl,f⟩))|(at_builtin;go_must (obtain⟨s,E,hrun,q1,q2⟩:=bd.o _ _ rfl f;refine Kw _ rfl _ _ _ _ rfl _ _ rfl rfl _ _ hrun ?_)));go_at_call 72;have g:=qF E.1.size s (cm (c,d)) E (jA q1.o HW.o) lE;rw[b0.o] at g
  by_cases N:1500<(cm (c,d)).length
  ·rw[Io N] at g
   have t:Hid (cB (c,d)=2/\dW (c,d)=[]):=by
    have e:cB (c,d)=2:=by rw[S.o,Io N]
    exact⟨e,by rw[dW,iO (by rw[e];decide)]⟩
   refine g.mono ?_;rintro e w5 ⟨rfl,C⟩;clear g N;go_wp2_with fail;go_ret2;rw[t.o.1,t.o.2];exact⟨_,rfl,⟨rfl,.inl ⟨rfl,rfl⟩⟩,(λi h=>by cases h),q2.th C⟩
  rw[iO N] at g
  have t:Hid (cB (c,d)=0/\dW (c,d)=cm (c,d)):=by
   have e:cB (c,d)=0:=by rw[S.o,iO N]
   exact⟨e,by rw[dW,Io e]⟩
  refine g.mono ?_;rintro e w5 ⟨rfl,C⟩;clear g N;go_wp2_with fail;go_ret2;rw[t.o.1,t.o.2];exact⟨_,rfl,aw q1.o C,HW.o,q2.th C⟩
theorem yE(B pv p)(x:Nat->Int)(w)(j:aX B w pv p)(k:B<=w.1.size):
  cL 233 #[pv,jm x] w (rT w (U (vP p x))):=by
 have c:Hid (∀b,bL w b->cL 253 #[pv,jm x] b (rT b (.tuple #[U (vP p x),U (eH p x).2.1,U (eH p x).2.2]))):=λb h=>yD B pv p x b (j.l h k) (h.u k)
 generalize vP p x=o at*;generalize (eH p x).2.1=q at*;generalize (eH p x).2.2=r at*;obtain⟨l,d⟩:=p;obtain⟨s,rfl,-,a,f,rfl,-,-,-⟩:=j;simp only at c;show cL 233 #[.agg #[.slice a l.length f,U d],.agg #[U (x 0),U (x 1),U (x 2),U (x 3),U (x 4)]] w _;have g:=Z c;clear c;generalize l.length=n at*;have m:∀X Y,bL w ((w.alloc X).alloc Y):=λX Y=>(bR.alloc lE _).alloc (by simp) _
 go_enter func233,ntmps233;go_wp2_with (first|(go_at_call 253;go_must (refine(g.o _ (m _ _)).mono ?_;rintro e t ⟨rfl,i⟩)));go_ret;exact⟨rfl,Below.tO (m _ _) i (by simp;omega)⟩
theorem Ay(B j k:Nat)(a b n cap n2 cap2 d f p q x0 x1 x2 x3 x4 w)(A:aX B w (.agg #[.slice a n cap,U d]) p)(C:aX B w (.agg #[.slice b n2 cap2,U f]) q)(t:B<=w.1.size)
  (D:w.cell? (pA j 0)=some (.slice a n cap)) (E:w.cell? (pA j 1)=some (U d)) (F:w.cell? (pA k 0)=some (.slice b n2 cap2)) (G:w.cell? (pA k 1)=some (U f)) (l:j<w.1.size) (m:k<w.1.size):
  cL 232 #[.agg #[U x0,U x1,U x2,U x3,U x4],.pointer (sO j),.pointer (sO k)] w (rT w (.bool (eB p q [x0,x1,x2,x3,x4]))):=by
 have⟨H,o⟩:=nM (vP p (oz x0 x1 x2 x3 x4));have⟨I,r⟩:=nM (vP q (oz x0 x1 x2 x3 x4));have u:=Z (by rw[o,r];rfl:eB p q [x0,x1,x2,x3,x4]=decide (I<H));have J:Hid (∀g,bL w g->cL 233 #[.agg #[.slice a n cap,U d],.agg #[U x0,U x1,U x2,U x3,U x4]] g (rT g (U H))):=λg h=>by rw[o];exact yE B _ p (oz x0 x1 x2 x3 x4) g (A.l h t) (h.u t)
 have K:Hid (∀g,bL w g->cL 233 #[.agg #[.slice b n2 cap2,U f],.agg #[U x0,U x1,U x2,U x3,U x4]] g (rT g (U I))):=λg h=>by rw[r];exact yE B _ q (oz x0 x1 x2 x3 x4) g (C.l h t) (h.u t)
 clear o r A C;have⟨e,i⟩:=nM (w.alloc (.cells #[U x0,U x1,U x2,U x3,U x4] 34));have c:=bA i;have v:=sA i;have s:Na e w.1.size #[U x0,U x1,U x2,U x3,U x4] 34:=by rw[i];exact(Kr w _).1
 have L:Hid _:=i;clear i;have M:=ax.ne e;have O:∀y:ax e,y.1.cell? (pW w 0)=some (U x0):=λy=>y.cell (J0 s) (by omega)
 have P:∀y:ax e,y.1.cell? (pW w 1)=some (U x1):=λy=>y.cell (J1 s) (by omega)
 have Q:∀y:ax e,y.1.cell? (pW w 2)=some (U x2):=λy=>y.cell (J2 s) (by omega)
 have R:∀y:ax e,y.1.cell? (pW w 3)=some (U x3):=λy=>y.cell (J3 s) (by omega)
 have S:∀y:ax e,y.1.cell? (pW w 4)=some (U x4):=λy=>y.cell (J4 s) (by omega)
 have T:∀y:ax e,y.1.cell? (pA j 0)=some (.slice a n cap):=λy=>y.cell ((c.cell (p:=pA j 0) l).trans D) (by omega)
 have V:∀y:ax e,y.1.cell? (pA j 1)=some (U d):=λy=>y.cell ((c.cell (p:=pA j 1) l).trans E) (by omega)
 have W:∀y:ax e,y.1.cell? (pA k 0)=some (.slice b n2 cap2):=λy=>y.cell ((c.cell (p:=pA k 0) m).trans F) (by omega)
 have X:∀y:ax e,y.1.cell? (pA k 1)=some (U f):=λy=>y.cell ((c.cell (p:=pA k 1) m).trans G) (by omega)
 have x:=Z λ(y:ax e)=>J.o _ (c.th y.2)
 have z:=Z λ(y:ax e)=>K.o _ (c.th y.2)
 clear D E F G s J K t l m v;go_enter func232,ntmps232;go_wp2_with fail;rw[<-L.o];refine aW (by kernel_rfl) (by kernel_rfl) ?_;go_big_quiet_step (fail);go_big_quiet_step (fail);go_big_quiet_step (first|(go_at_call 233;exact Calls.l (x.o _)));go_big_quiet_step (fail);go_big_quiet_step (fail);go_big_quiet_step (first|(go_at_call 233;exact Calls.l (z.o _)));go_big_quiet_step (fail);go_big_quiet_step (fail);refine Km ?_;rintro Y ⟨⟨_,N⟩,rfl⟩;go_wp2;go_ret;exact⟨by rw[u.o];simp,c.th N⟩
