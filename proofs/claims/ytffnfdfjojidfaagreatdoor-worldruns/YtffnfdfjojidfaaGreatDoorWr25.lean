import Derived.Test.YtffnfdfjojidfaaGreatDoorWr20
import Derived.Test.YtffnfdfjojidfaaGreatDoorWr23
import Derived.Test.YtffnfdfjojidfaaGreatDoorWr24
set_option linter.all false
set_option maxRecDepth 100000
set_option maxHeartbeats 4000000
namespace Go.Proofs.YtffnfdfjojidfaaGreatDoor
open Go.RowKit Go.Maps Go.Proofs.Tryz
theorem CJ{p q:aD}(h:aT [p,q]≠0):dN p q=none:=by unfold dN bj;rw[iO h];rfl
theorem Gj{exc}{p q:aD}(h:eJ exc p q=0):aj p=0/\aj q=0/\aj (gI exc p q)=0:=by
 unfold eJ at h
 split at h
 ·rename_i a;exact⟨(oY a).1,(oY a).2,h⟩
 rename_i a;exact absurd h a
abbrev ie:=List (List cO)
def dK:ie->Int
 |[]=>0
 |f :: r=>if aV f=0 then dK r else aV f
def bl(a:ie):Int:=if 6<a.length then 2 else dK a
theorem us:∀ {b:ie},dK b=0 ↔ ∀f∈b,aV f=0
 |[]=>by simp[dK]
 |f :: r=>by
  unfold dK
  by_cases h:aV f=0
  ·rw[Io h,us];simp[h]
  rw[iO h];constructor
  ·intro a;exact absurd a h
  intro a;exact absurd (a f (by simp)) h
theorem qn(a:ie)(k:Nat)(f:List cO)(h:a[k]?=some f):dK (a.drop k)=if aV f=0 then dK (a.drop (k+1)) else aV f:=by obtain⟨b,rfl⟩:=K9.1 h;rw[KM b];rfl
theorem fA{b:ie}:bl b=0 ↔ b.length<=6/\∀f∈b,aV f=0:=by
 unfold bl
 by_cases h:6<b.length
 ·rw[Io h];constructor
  ·intro a;omega
  intro a;omega
 rw[iO h,us];constructor
 ·intro a;exact⟨by omega,a⟩
 exact λa=>a.2
def fB(x:Nat->Int)(v:Int)(a:ie):Int:=a.foldl (λv f=>if (dJ x 0 0 f).1<v then (dJ x 0 0 f).1 else v) v
theorem ES(x:Nat->Int)(v)(a:ie)(f:List cO):fB x v (a++[f])=if (dJ x 0 0 f).1<fB x v a then (dJ x 0 0 f).1 else fB x v a:=by unfold fB;rw[Mu];rfl
theorem nu(x:Nat->Int):∀ (d:ie) (v:Int),fB x v d<=v/\(∀f∈d,fB x v d<=(dJ x 0 0 f).1)/\(fB x v d=v\/∃f∈d,fB x v d=(dJ x 0 0 f).1)
 |[],v=>⟨LH _,by simp,.inl rfl⟩
 |f :: r,v=>by
  have e:fB x v (f :: r)=fB x (if (dJ x 0 0 f).1<v then (dJ x 0 0 f).1 else v) r:=rfl;have j:=nu x r (if (dJ x 0 0 f).1<v then (dJ x 0 0 f).1 else v);rw[e];obtain⟨i,h,a⟩:=j
  split at i
  ·rename_i c
   rw[Io c] at h a |-
   refine⟨by omega,?_,?_⟩
   ·intro g b
    rcases Kz.1 b with rfl|b
    ·exact i
    exact h g b
   rcases a with a|⟨g,b,a⟩
   ·exact .inr ⟨f,by simp,a⟩
   exact .inr ⟨g,by simp[b],a⟩
  rename_i c
  rw[iO c] at h a |-
  refine⟨i,?_,?_⟩
  ·intro g b
   rcases Kz.1 b with rfl|b
   ·omega
   exact h g b
  rcases a with a|⟨g,b,a⟩
  ·exact .inl a
  exact .inr ⟨g,by simp[b],a⟩
theorem Fc(x:Nat->Int)(l m:ie)(v):fB x v (l++m)=min (fB x v l) (fB x v m):=by
 have⟨j,g,b⟩:=nu x l v;have⟨k,i,c⟩:=nu x m v;have⟨n,e,d⟩:=nu x (l++m) v
 have o:fB x v (l++m)<=fB x v l:=by
  rcases b with b|⟨f,a,b⟩
  ·omega
  rw[b];exact e f (by simp[a])
 have p:fB x v (l++m)<=fB x v m:=by
  rcases c with c|⟨f,a,c⟩
  ·omega
  rw[c];exact e f (by simp[a])
 have q:min (fB x v l) (fB x v m)<=fB x v (l++m):=by
  rcases d with d|⟨f,a,d⟩
  ·omega
  rcases KB.1 a with h|h
  ·have:=g f h;omega
  have:=i f h;omega
 omega
def mQ(a:ie)(x:Nat->Int):Int:=if bl a=0 then eC x else bl a
def t6(a:ie)(x:Nat->Int):Int:=if mQ a x=0 then fB x 4 a else 0
def fQ(p q:aD):Int:=if aT [q,p]=0 then (if (dN q p).isSome then 7 else if eJ true q p=0 then aT [eI true q p] else eJ true q p) else aT [q,p]
def fE(p q:aD):aD:=if fQ p q=0 then j9 (eI true q p) else ([],0)
def dm(a:ie)(p q:aD):Int:=if bl a=0 then (if fQ p q=0 then (if a.length=6 then 2 else cB (fE p q)) else fQ p q) else bl a
def dt(a:ie)(p q:aD):ie:=if dm a p q=0 then a++[cm (fE p q)] else []
theorem Cf{p q:aD}(h:fQ p q=0):aT [q,p]=0/\dN q p=none/\eJ true q p=0/\aT [eI true q p]=0/\fE p q=j9 (eI true q p)/\aj p=0/\aj q=0/\aj (eI true q p)=0/\aj (fE p q)=0:=by
 have d:fE p q=j9 (eI true q p):=by rw[fE,Io h]
 unfold fQ at h
 split at h
 ·rename_i c
  split at h
  ·cases h
  rename_i e
  split at h
  ·rename_i a
   have f:dN q p=none:=by
    cases hl:dN q p with
    |none=>rfl
    |some y=>rw[hl] at e;simp at e
   have⟨g,i,j⟩:=Gj a;have b:aj (eI true q p)=0:=by rw[eI,Io a];exact j
   exact⟨c,f,a,h,d,i,g,b,by rw[d];exact yK b⟩
  rename_i a;exact absurd h a
 rename_i c;exact absurd h c
theorem Dv{p q:aD}(h:fQ p q=0){x:Nat->Int}(a:eC x=0):vP q x<=vP p x/\vP (fE p q) x=if vP q x<vP p x then vP q x else 4:=by
 have⟨c,d,f,k,g,i,j,b,l⟩:=Cf h;refine⟨BZ c d a,?_⟩;have e:eI true q p=gI true q p:=by rw[eI,Io f]
 rw[g,H8 b a,e,IH true j i (by rw[<-e];exact b) a];rfl
theorem GV{p:aD}(c:aj p=0){x:Nat->Int}(e:eC x=0):0<=vP p x/\vP p x<=4:=by
 have:=B9 c e;have f:vP p x=(dJ x 0 0 (cm p)).1:=this.symm
 have g:∀ (d:Int) (a:List aq),(0<=d/\d<=4)->(∀r∈a,bH r=0)->0<=Ad x d a/\Ad x d a<=4:=by
  intro d a h b
  induction a with
  |nil=>exact h
  |cons r s i=>
   unfold Ad
   split
   ·exact jk (dy (b r (by simp))).2.1
   exact i λt j=>b t (by simp[j])
 rw[f];unfold cm;rw[rh];exact g _ _ (jk (cY c).2.1) (cM (cY c).2.2)
section
open Go.ChangeShapes Go.WideShapes Go.ChangeAt Go.Deep
def cD(B:Nat)(w:World)(v:Value)(d:ie):Prop:=
 ∃a c,v=.slice a d.length c/\d.length<=c/\c<=maxLen/\∀ (i:Nat) f,d[i]?=some f->∃b o e,a=some ⟨b,o,none⟩/\b<B/\w.cell? ⟨b,o+i,none⟩=some e/\dR B w e f
theorem cD.l{B B' w w' v ls}(h:cD B w v ls)(d:Below B' w w')(g:B<=B'):cD B w' v ls:=by obtain⟨a,c,j,l,m,n⟩:=h;refine⟨a,c,j,l,m,λi f q=>?_⟩;have⟨b,o,r,e,s,k,t⟩:=n i f q;exact⟨b,o,r,e,s,(d.cell (p:=⟨b,o+i,none⟩) (by show b<B';omega)).trans k,t.l d g⟩
theorem cD.mono{B d:Nat}{w v ls}(h:cD B w v ls)(g:B<=d):cD d w v ls:=by obtain⟨a,c,j,l,m,n⟩:=h;refine⟨a,c,j,l,m,λi f p=>?_⟩;have⟨b,o,q,e,s,k,r⟩:=n i f p;exact⟨b,o,q,e,by omega,k,r.mono g⟩
theorem cD.shape{B w v ls}(h:cD B w v ls):∃a b,v=.slice a ls.length b/\ls.length<=b/\b<=maxLen:=by obtain⟨a,b,c,d,e,-⟩:=h;exact⟨a,b,c,d,e⟩
theorem kJ(B w):cD B w nL []:=⟨none,0,rfl,Ke _,by rw[ai];omega,λi c h=>by simp at h⟩
theorem cD.take{B w a n c ls}(h:cD B w (.slice a n c) ls)(m:Nat)(k:m<=ls.length):cD B w (.slice a m c) (ls.take m):=by
 obtain⟨l,e,d,o,g,j⟩:=h;simp at d;obtain⟨rfl,rfl,rfl⟩:=d;refine⟨a,c,by simp;omega,by simp;omega,g,λi f b=>?_⟩
 exact j i f (by
  rw[LO] at b
  split at b
  ·exact b
  cases b)
theorem EM{H:Type}{r:TypeId × Value->H}{W:World}{base:Nat}{K:Nat->Bool}{j:Bool}{k:Nat}{cv:Value}{x:DataW H × List MemPlace}(h:DataW.trod r prog W base K j k 44 [cv]=some x):∃s,cD W.1.size W cv s:=by
 rcases open_slice Tryz.underlying44 h with ⟨l,_⟩|⟨a,e,t,m,n,D,Q,l,_,R,L,u,_,w⟩
 ·simp at l;subst l;exact⟨[],none,0,rfl,Ke _,Ks _,λi c y=>by simp at y⟩
 simp at l;subst l;have M:prog.cellsOf 78=1:=by kernel_rfl
 rw[M] at w;have N:e<=m:=by rw[u];split<;>omega
 have o:∀i,i<e->∃f:List cO,a=⟨a.block,a.off,none⟩/\a.block<W.1.size/\∃p,W.cell? ⟨a.block,a.off+i,none⟩=some p/\dR W.1.size W p f:=by
  intro i I
  have z:W.cell? (a.add 0)≠none:=by
   obtain⟨g,A,_⟩:=w 0 (by omega);have⟨_,d,b⟩:=Lh A;have:=b 0 (by omega);rw[add_add] at this;simp at this
   match g,d with
   |[J],_=>simp at this |-;rw[this];simp
  have⟨v,O⟩:=Lp.1 z;have⟨q,B⟩:=iX O;obtain⟨g,A,P⟩:=w i (by omega);have⟨_,d,b⟩:=Lh A
  match g,d with
  |[J],_=>
   have⟨f,C⟩:=Fz P;have E:=b 0 (by omega);rw[add_add,q,eM] at E;simp at E;exact⟨f,q,B,J,E,C⟩
 obtain⟨s,F,G⟩:=iU _ e o;refine⟨s,some a,t,by rw[F],by omega,L,λi f C=>?_⟩;have⟨q,B,p,y,I⟩:=G i f C;exact⟨a.block,a.off,p,by rw[<-q],B,y,I⟩
end
theorem oF(B lv ls w)(C:cD B w lv ls)(s:B<=w.1.size):
  cL 97 #[lv] w (rT w (U (bl ls))):=by
 have F:=Z λr (h:bL w r)=>C.l h s
 obtain⟨a,G,rfl,I,J,-⟩:=C;have K:=ai;have t:Hid (bl ls=if 6<ls.length then 2 else dK ls):=rfl;generalize l:ls.length=c at*;have d:=Z l;clear l
 by_cases D:6<c
 ·have u:(6:Int)<(c:Int):=by omega
  have i:=Z (by rw[t.o,Io D]:bl ls=2);go_enter func97,ntmps97;go_wp2;go_ret;exact⟨by rw[i.o];rfl,Kf _ _⟩
 have u:¬(6:Int)<(c:Int):=by omega
 have i:=Z (by rw[t.o,iO D]:bl ls=dK ls);clear t;go_enter func97,ntmps97;go_wp2;go_loopw [11] (λv wr=>∃k:Nat,k<=c/\v=U k/\Hid (dK ls=dK (ls.drop k))/\bL w wr) (λv _=>c-(intOf v).toNat)
 case atStart=>exact⟨0,by omega,rfl,rfl,Kf _ _⟩
 case round=>
  obtain⟨k,Q,rfl,H,g⟩:=hrel;have⟨L,x⟩:=nM (wr);subst x;have R:(0:Int)<=(k:Int):=by omega
  have j:=g.size
  by_cases M:k<c
  ·have T:(k:Int)<(c:Int):=by omega
   obtain⟨f,y⟩:∃f,ls[k]?=some f:=⟨ls[k]'(by rw[d.o];omega),by simp⟩;have S:=Z (qn ls k f y);obtain⟨_,_,E,-,-,q⟩:=F.o _ g;have⟨b,o,N,e,O,V,z⟩:=q k f y;simp at E;obtain⟨rfl,-,-⟩:=E;subst e;clear q;have m:=Z λr (h:bL L r)=>xQ B N f r (z.l h (Kl s j)) (Kl s (h.u j))
   obtain⟨W,X,rfl,-,-⟩:=z.shape;clear z y;generalize f.length=Y at*
   by_cases p:aV f=0
   ·rw[p] at m;have A:=Z (by rw[H.o,S.o,Io p]:dK ls=dK (ls.drop (k+1)));clear p S;go_wp2_with (first|(go_at_call 123;go_must (refine(m.o _ bR).mono ?_;rintro e P ⟨rfl,n⟩)));exact⟨⟨k+1,by omega,by go_num,A,Below.tO g n j⟩,by simp[intOf];omega⟩
   have A:=Z (by rw[H.o,S.o,iO p]:dK ls=aV f);have hq:(aV f != 0)=true:=by simpa using p
   clear p S;generalize aV f=pe at*;go_wp2_with (first|(go_at_call 123;go_must (refine(m.o _ bR).mono ?_;rintro e P ⟨rfl,n⟩)));go_ret;exact⟨by rw[i.o,A.o];rfl,Below.tO g n j⟩
  go_wp2;go_ret;exact⟨by rw[i.o,H.o,KJ (by rw[d.o];omega)];rfl,g⟩
theorem yA(x:Nat->Int)(a:ie)(k:Nat)(f:List cO)(h:a[k]?=some f):fB x 4 (a.take (k+1))=if (dJ x 0 0 f).1<fB x 4 (a.take k) then (dJ x 0 0 f).1 else fB x 4 (a.take k):=by rw[KN,h];exact ES x 4 _ f
theorem sD{α:Type}[DecidableEq α](l m:List α)(k:Nat)(a b:α)(c:l[k]?=some a)(d:m[k]?=some b)(h:l.take k=m.take k):l.take (k+1)=m.take (k+1) ↔ a=b:=by rw[KN,KN,c,d,h];simp
theorem vZ(B cv dv cs b w)(d:dR B w cv cs)(f:dR B w dv b)(h:B<=w.1.size):
  cL 83 #[cv,dv] w (rT w (.bool (decide (cs=b)))):=by
 have i:=Z (qj B cv dv cs b w d f h);obtain⟨a,c,rfl,-,-⟩:=d.shape;obtain⟨j,k,rfl,-,-⟩:=f.shape;clear d f;generalize decide (cs=b)=eq at*;generalize cs.length=n at*;generalize b.length=l at*;go_enter func83,ntmps83;go_wp2_with (first|(go_at_call 84;go_must (refine i.o.mono ?_;rintro e m ⟨rfl,g⟩)));go_ret;exact⟨rfl,g⟩
theorem xX(B lv mv ls ms w)(L:cD B w lv ls)(M:cD B w mv ms)(E:B<=w.1.size):
  cL 82 #[lv,mv,.func (.func 83) #[] #[]] w (rT w (.bool (decide (ls=ms)))):=by
 have T:=Z λF (h:bL w F)=>L.l h E
 have V:=Z λF (h:bL w F)=>M.l h E
 obtain⟨a,W,rfl,X,Y,-⟩:=L;obtain⟨a',N,rfl,O,P,-⟩:=M;have a0:=ai;have Q:Hid (ls.length≠ms.length->decide (ls=ms)=false):=λh=>KD λe=>h (by rw[e])
 generalize p:ls.length=n at*;generalize i:ms.length=m at*;have j:=Z p;have c:=Z i;clear p i
 by_cases x:n=m
 ·subst x;clear Q;go_enter func82,ntmps82;go_wp2;go_loopw [17] (λG wr=>∃k:Nat,k<=n/\G=U k/\Hid (ls.take k=ms.take k)/\bL w wr) (λG _=>n-(intOf G).toNat)
  case atStart=>exact⟨0,by omega,rfl,by unfold Hid;simp,Kf _ _⟩
  case round=>
   obtain⟨k,hk,rfl,H,d⟩:=hrel;have⟨wo,I⟩:=nM (wr);subst I;have i0:(0:Int)<=(k:Int):=by omega
   have r:=d.size
   by_cases a4:k<n
   ·have i1:(k:Int)<(n:Int):=by omega
    obtain⟨f,y⟩:∃f,ls[k]?=some f:=⟨ls[k]'(by rw[j.o];omega),by simp⟩;obtain⟨g,D⟩:∃g,ms[k]?=some g:=⟨ms[k]'(by rw[c.o];omega),by simp⟩;have S:=Z (sD ls ms k f g y D H.o);have J:Hid (f≠g->decide (ls=ms)=false):=λh=>KD λe=>h (by rw[e,D] at y;simpa using y.symm)
    obtain⟨_,_,z,-,-,A⟩:=T.o _ d;have⟨b,o,fv,e,a6,hc,K⟩:=A k f y;simp at z;obtain⟨rfl,-,-⟩:=z;subst e;obtain⟨_,_,z,-,-,q⟩:=V.o _ d;have⟨b',o',gv,e,R,a8,s⟩:=q k g D;simp at z;obtain⟨rfl,-,-⟩:=z;subst e;clear A q;have l:=Z (vZ B fv gv f g wo K s (Kl E r));obtain⟨a2,c2,rfl,-,-⟩:=K.shape;obtain⟨a3,c3,rfl,-,-⟩:=s.shape;clear K s y D;generalize f.length=n2 at*;generalize g.length=n3 at*
    by_cases v:f=g
    ·have t:=Z (S.o.2 v);rw[KS v] at l;clear v S J;go_wp2_with (first|(go_at_call 83;go_must (refine l.o.mono ?_;rintro e w2 ⟨rfl,u⟩)));exact⟨⟨k+1,by omega,by go_num,t,Below.tO d u r⟩,by simp[intOf];omega⟩
    have t:=Z (J.o v);rw[KD v] at l;clear v S J;go_wp2_with (first|(go_at_call 83;go_must (refine l.o.mono ?_;rintro e w2 ⟨rfl,u⟩)));go_ret;exact⟨by rw[t.o];rfl,Below.tO d u r⟩
   have t:Hid (decide (ls=ms)=true):=by apply KS;have:=H.o;rw[Ki (by rw[j.o];omega),Ki (by rw[c.o];omega)] at this;exact this
   go_wp2;go_ret;exact⟨by rw[t.o];rfl,d⟩
 have C:¬(n:Int)=(m:Int):=by omega
 have t:=Z (Q.o x);have hq:((n:Int) != (m:Int))=true:=by simpa using C
 go_enter func82,ntmps82;go_wp2;go_ret;exact⟨by rw[t.o];rfl,Kf _ _⟩
theorem yj(B lv mv ls b w)(d:cD B w lv ls)(f:cD B w mv b)(h:B<=w.1.size):
  cL 53 #[lv,mv] w (rT w (.bool (decide (ls=b)))):=by
 have i:=Z (xX B lv mv ls b w d f h);obtain⟨a,c,rfl,-,-⟩:=d.shape;obtain⟨j,k,rfl,-,-⟩:=f.shape;clear d f;generalize decide (ls=b)=eq at*;generalize ls.length=n at*;generalize b.length=l at*;go_enter func53,ntmps53;go_wp2_with (first|(go_at_call 82;go_must (refine i.o.mono ?_;rintro e m ⟨rfl,g⟩)));go_ret;exact⟨rfl,g⟩
theorem BY(B pv qv p q w)(W:aX B w pv p)(X:aX B w qv q)(A:B<=w.1.size):
  cL 224 #[pv,qv] w λe i=>∃v,e=.returned (.tuple #[v,U (eJ true p q)])/\bE w.1.size i v (eI true p q)/\bL w i:=by
 obtain⟨j,d⟩:=p;obtain⟨k,f⟩:=q;obtain⟨M,N,C,n⟩:=W;obtain⟨O,P,D,o⟩:=X;have r:Hid (∀i,bL w i->cL 235 #[.agg #[M,U d,O,U f],.func (.func 236) #[] #[]] i λe s=>∃v,e=.returned (.tuple #[v,U (eJ true (j,d) (k,f))])/\bE i.1.size s v (eI true (j,d) (k,f))/\bL i s):=λi h=>Cc true _ (λa b w=>Ah a b w) (λQ i=>by kernel_rfl) B M O j k d f i (n.l h A) (o.l h A) C D (h.u A)
 obtain⟨a,E,R,-,-,-⟩:=n;obtain⟨b,t,S,-,-,-⟩:=o;simp only at N P R S C D;subst R S N P;clear C D;generalize j.length=Y at*;generalize k.length=n2 at*;have⟨z,c⟩:=nM (((w.alloc (.cells #[.slice a Y E,U d] 30)).alloc (.cells #[.slice b n2 t,U f] 30)).alloc (.cells #[nL,U 0] 30));have F:z.1.size=w.1.size+1+1+1:=by rw[c];simp
 have u:bL w z:=by rw[c];exact((bR.alloc lE _).alloc (by simp) _).alloc (by simp;omega) _
 have T:Na z (w.1.size+1+1) #[nL,U 0] 30:=by rw[c];exact be _ _ (by simp only[Kg])
 have HW:=Z c;clear c;go_enter func224,ntmps224;go_wp2_with fail;rw[<-HW.o];go_at_call 235;refine(r.o z u).mono ?_;rintro e w4 ⟨v,rfl,G,l⟩;have V:Hid (bE (w.1.size+1+1+1) w4 v (eI true (j,d) (k,f))):=by rw[<-F];exact G
 obtain⟨vr,ev,H,va,vc,I,-⟩:=G.at;subst I;subst ev;have x:=l.bk T;have r0:=J0 x;have r1:=J1 x;have f0:=fZ x 0;have f1:=fZ x 1;have J:=Z (u.th l);clear G H l x T r;generalize (eI true (j,d) (k,f)).1.length=vn at*;have⟨vd,y⟩:=nM ((eI true (j,d) (k,f)).2)
 rw[<-y] at V |-
 clear y;have⟨I,m⟩:=nM (eJ true (j,d) (k,f));have K:=Z m.symm;rw[<-m];clear m;go_wp2_with fail;refine Ka (v:=.tuple #[.agg #[.slice va vn vc,U vd],U I]) ?_ rfl ⟨_,by rw[K.o],?_,?_⟩
 ·rw[K8 rfl];go_simp
 ·refine bE.keep (L:=w.1.size+1+1+1) ?_ (by omega) (λg _ _=>rfl) lE;repeat(first|exact V.o|refine bE.put ?_ (.inl (by simp)))
 repeat(first|exact J.o|refine Ky ?_ (by simp;omega) _)
