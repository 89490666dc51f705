import Derived.Test.YtjdnfhkkkejcfaaGreatDoorWd04
import Derived.Test.YtjdnfhkkkejcfaaGreatDoorWd05
set_option linter.all false
set_option maxRecDepth 100000
set_option maxHeartbeats 4000000
namespace Go.Proofs.YtjdnfhkkkejcfaaGreatDoor
open Go.RowKit Go.Maps Go.Proofs.Tryz
theorem ui{α:Type}(f:α->Bool):∀ (l:List α) (b:Nat),(aR f b l = -1/\∀c∈l,f c=false)\/∃j c,aR f b l=((b+j:Nat):Int)/\l[j]?=some c/\f c=true/\∀i,i<j->∀c,l[i]?=some c->f c=false
 |[],_=>.inl ⟨rfl,λc a=>by cases a⟩
 |d :: r,b=>by
  by_cases h:f d=true
  ·exact .inr ⟨0,d,by simp[aR,h],rfl,h,λi n=>by omega⟩
  have g:f d=false:=by simpa using h
  have e:aR f b (d :: r)=aR f (b+1) r:=by show (if f d then (b:Int) else _)=_;rw[iO h]
  rcases ui f r (b+1) with ⟨k,m⟩|⟨j,c,k,m,o,p⟩
  ·refine .inl ⟨e.trans k,λc a=>?_⟩
   rcases Kz.1 a with rfl|a
   ·exact g
   exact m c a
  refine .inr ⟨j+1,c,?_,by simpa using m,o,λi n c a=>?_⟩
  ·rw[e,k];congr 1;omega
  cases i with
  |zero=>simp at a;subst a;exact g
  |succ i=>exact p i (by omega) c (by simpa using a)
theorem Bb{a:List aq}(h:∀r∈a,bH r=0):eE a=0:=by
 induction a with
 |nil=>rfl
 |cons r s b=>
  unfold eE;rw[Io (h r (by simp))];exact b λr c=>h r (by simp[c])
theorem ED{p:aD}(c:p.1.length<=120)(a:cA p.2=true)(b:∀r∈p.1,bH r=0):aj p=0:=by unfold aj;rw[iO (by omega),Io a];exact Bb b
theorem gV{p:aD}{x:Nat->Int}(a:aj p=0)(b:eC x=0):eH p x=((cP p (aR (bu x) 0 p.1)).1,(cP p (aR (bu x) 0 p.1)).2,0):=by unfold eH;rw[Io a,Io b]
def uG(n:Int):List Int->List Int
 |[]=>[n]
 |m :: r=>if n<m then n :: m :: r else if n=m then m :: r else m :: uG n r
def uw(l:List Int):List Int:=l.foldr uG []
def iJ(l:List Int):Prop:=l.Pairwise (·<·)
theorem vO(n x:Int):∀l:List Int,x∈uG n l ↔ x=n\/x∈l
 |[]=>by simp[uG]
 |m :: r=>by
  unfold uG
  split
  ·simp
  split
  ·rename_i h;subst h;simp
  simp only[Kz,vO n x r];constructor
  ·rintro (h|h|h)<;>simp[h]
  rintro (h|h|h)<;>simp[h]
theorem u9(n):∀l:List Int,iJ l->iJ (uG n l)
 |[],_=>by simp[uG,iJ]
 |m :: r,h=>by
  have b:=Lx.1 h;unfold uG
  split
  ·rename_i c;refine Lx.2 ⟨λx a=>?_,h⟩
   rcases Kz.1 a with rfl|a
   ·exact c
   have:=b.1 x a;omega
  split
  ·exact h
  rename_i d e;refine Lx.2 ⟨λx a=>?_,u9 n r b.2⟩
  rcases (vO n x r).1 a with rfl|a
  ·omega
  exact b.1 x a
theorem mU(x:Int):∀l:List Int,x∈uw l ↔ x∈l
 |[]=>by simp[uw]
 |n :: l=>by show x∈uG n (uw l) ↔ _;rw[vO,mU x l,Kz]
theorem nj:∀l:List Int,iJ (uw l)
 |[]=>List.Pairwise.nil
 |n :: l=>u9 n _ (nj l)
theorem qJ:∀ (l m:List Int),iJ l->iJ m->(∀x,x∈l ↔ x∈m)->l=m
 |[],[],_,_,_=>rfl
 |[],b :: m,_,_,h=>by have:=(h b).2 (by simp);simp at this
 |a :: l,[],_,_,h=>by have:=(h a).1 (by simp);simp at this
 |a :: l,b :: m,j,k,h=>by
  have c:=Lx.1 j;have d:=Lx.1 k
  have g:a=b:=by
   rcases Kz.1 ((h a).1 (by simp)) with e|e
   ·exact e
   rcases Kz.1 ((h b).2 (by simp)) with i|i
   ·exact i.symm
   have:=c.1 b i;have:=d.1 a e;omega
  subst g;congr 1;refine qJ l m c.2 d.2 λx=>?_
  constructor
  ·intro f
   rcases Kz.1 ((h x).1 (by simp[f])) with e|e
   ·have:=c.1 x f;omega
   exact e
  intro f
  rcases Kz.1 ((h x).2 (by simp[f])) with e|e
  ·have:=d.1 x f;omega
  exact e
def vx(f:Int)(c:aN):List Int:=if c.1=f then (if c.2.1=1\/c.2.1=2 then [c.2.2,c.2.2+1] else [c.2.2]) else []
def oV(p:aD):List aN:=p.1.flatMap (·.1)
def bh(l:List aD):List aN:=l.flatMap oV
def Eg(f:Int)(cs:List aN):List Int:=0 :: cs.flatMap (vx f)
def cw(l:List aD)(f:Int):List Int:=uw ((Eg f (bh l)).filter λn=>decide (n<=aO f))
theorem kI{l}{f n:Int}:n∈cw l f ↔ (n=0\/∃c∈bh l,c.1=f/\(c.2.2=n\/c.2.2+1=n/\(c.2.1=1\/c.2.1=2)))/\n<=aO f:=by
 unfold cw Eg;rw[mU,List.mem_filter,Kz,Ll,L9];constructor
 ·rintro⟨h,b⟩;refine⟨?_,b⟩
  rcases h with h|⟨c,d,h⟩
  ·exact .inl h
  refine .inr ⟨c,d,?_⟩;unfold vx at h
  split at h
  ·rename_i a
   split at h
   ·rename_i e;simp at h;refine⟨a,?_⟩
    rcases h with h|h
    ·exact .inl h.symm
    exact .inr ⟨h.symm,e⟩
   simp at h;exact⟨a,.inl h.symm⟩
  simp at h
 rintro⟨h,b⟩;refine⟨?_,b⟩
 rcases h with h|⟨c,d,a,h⟩
 ·exact .inl h
 refine .inr ⟨c,d,?_⟩;unfold vx;rw[Io a]
 rcases h with h|⟨h,e⟩
 ·split<;>simp[h]
 rw[Io e];simp[h]
theorem kx(l f):iJ (cw l f):=nj _
theorem zQ(f):0<=aO f:=by
 unfold aO
 split
 ·omega
 split<;>omega
theorem BF(l f):0∈cw l f:=kI.2 ⟨.inl rfl,zQ f⟩
theorem Bo(l)(f:Int):cw l f≠[]:=λh=>by have:=BF l f;rw[h] at this;simp at this
def gn(l:List aD):Prop:=∀p∈l,aj p=0
theorem wV{l}(h:gn l):∀c∈bh l,bS c=0:=by intro c a;have⟨p,b,a⟩:=Ll.1 a;have⟨r,d,a⟩:=Ll.1 a;exact fy (dy (cM (cY (h p b)).2.2 r d)).2.2 c a
theorem gX{l}(h:gn l){f n:Int}(b:n∈cw l f):0<=n/\n<=aO f:=by
 have⟨a,d⟩:=kI.1 b;refine⟨?_,d⟩
 rcases a with a|⟨c,e,_,a⟩
 ·omega
 have:=(ft (wV h c e)).2.2.1
 rcases a with a|⟨a,_⟩<;>omega
def mg(x:Int):Int->List Int->Int
 |a,[]=>a
 |a,n :: r=>mg x (if n<=x then n else a) r
theorem vT(x):∀ (l:List Int) (a:Int),mg x a l=a\/mg x a l∈l
 |[],a=>.inl rfl
 |n :: r,a=>by
  unfold mg
  rcases vT x r (if n<=x then n else a) with h|h
  ·rw[h]
   split
   ·right;simp
   left;rfl
  right;simp[h]
theorem yO(x:Int):∀ (l:List Int) (a:Int),a<=x->mg x a l<=x
 |[],a,h=>h
 |n :: r,a,h=>by
  unfold mg;apply yO
  split<;>omega
theorem tj(x):∀ (l:List Int) (a:Int),iJ l->(∀m∈l,a<=m)->a<=mg x a l/\∀n∈l,n<=x->n<=mg x a l
 |[],a,_,_=>⟨LH _,λn h=>by simp at h⟩
 |n :: r,a,j,g=>by
  have c:=Lx.1 j;have k:=g n (by simp);unfold mg
  by_cases i:n<=x
  ·rw[Io i];obtain⟨e,f⟩:=tj x r n c.2 λm b=>by have:=c.1 m b;omega
   refine⟨by omega,λm b d=>?_⟩
   rcases Kz.1 b with rfl|b
   ·exact e
   exact f m b d
  rw[iO i];obtain⟨e,f⟩:=tj x r a c.2 λm b=>g m (by simp[b])
  refine⟨e,λm b d=>?_⟩
  rcases Kz.1 b with rfl|b
  ·omega
  exact f m b d
def nh(l:List aD)(x:Nat->Int)(j:Nat):Int:=mg (x j) 0 (cw l j)
theorem jH{l}(a:gn l){x:Nat->Int}{j:Nat}(b:0<=x j):nh l x j∈cw l j/\nh l x j<=x j/\∀n∈cw l j,n<=x j->n<=nh l x j:=by
 unfold nh;refine⟨?_,yO _ _ _ b,(tj (x j) (cw l j) 0 (kx l j) λm c=>(gX a c).1).2⟩
 rcases vT (x j) (cw l j) 0 with h|h
 ·rw[h];exact BF l j
 exact h
theorem E9{k v:Int}:FS k v=true ↔ 0<=v/\v<=aO k:=by unfold FS;simp
theorem pQ{x:Nat->Int}:eC x=0 ↔ ∀j,j<5->0<=x j/\x j<=aO j:=by
 unfold eC Iu;constructor
 ·intro h
  split at h
  ·rename_i a;simp only[fI,KU,E9] at a;intro j g;have:j=0\/j=1\/j=2\/j=3\/j=4:=by omega
   obtain⟨b,c,d,e,f,_⟩:=a
   rcases this with rfl|rfl|rfl|rfl|rfl
   ·exact b
   ·exact c
   ·exact d
   ·exact e
   exact f
  cases h
 intro h;have a:fI 0 [x 0,x 1,x 2,x 3,x 4]=true:=by simp only[fI,KU,E9];exact⟨h 0 (by omega),h 1 (by omega),h 2 (by omega),h 3 (by omega),h 4 (by omega),trivial⟩
 rw[Io a]
theorem Ds{l}(a:gn l){x:Nat->Int}(b:eC x=0):eC (nh l x)=0:=by
 rw[pQ] at b |-
 intro j c;exact gX a (jH a (b j c).1).1
theorem FQ{l}(k:gn l){x:Nat->Int}(n:eC x=0){c:aN}(d:c∈bh l):dQ (nh l x) c=dQ x c:=by
 have⟨⟨t,u⟩,⟨v,w⟩,⟨y,o⟩⟩:=ft (wV k c d);obtain⟨j,b⟩:∃j:Nat,c.1=j:=⟨c.1.toNat,by omega⟩;have f:=(pQ.1 n) j (by omega);have⟨z,A,g⟩:=jH k f.1;have p:c.2.2∈cw l j:=kI.2 ⟨.inr ⟨c,d,b,.inl rfl⟩,by rw[<-b];exact o⟩;have a:(c.2.1=1\/c.2.1=2)->c.2.2+1<=aO j->c.2.2+1∈cw l j:=λq r=>kI.2 ⟨.inr ⟨c,d,b,.inr ⟨rfl,q⟩⟩,r⟩
 have s:=g _ p;unfold dQ;rw[b,L3];unfold iG
 by_cases h:c.2.1=1
 ·simp only[Io h];rw[LX];simp only[MN]
  by_cases e:c.2.2+1<=x j
  ·have:=g _ (a (.inl h) (by omega)) e;omega
  omega
 simp only[iO h]
 by_cases i:c.2.1=2
 ·simp only[Io i];rw[LX];simp only[bne_iff_ne,ne_eq]
  by_cases e:c.2.2+1<=x j
  ·have:=g _ (a (.inr i) (by omega)) e;omega
  omega
 simp only[iO i]
 by_cases m:c.2.1=3
 ·simp only[Io m];rw[LX];simp only[L9];omega
 simp only[iO m];rw[LX];simp only[L9];omega
theorem EN{l}(d:gn l){x:Nat->Int}(e:eC x=0){p:aD}(f:p∈l){r:aq}(g:r∈p.1):bu (nh l x) r=bu x r:=by
 unfold bu;rw[LX,MB,MB];have h:∀c∈r.1,dQ (nh l x) c=dQ x c:=λc a=>FQ d e (Ll.2 ⟨p,f,Ll.2 ⟨r,g,a⟩⟩)
 constructor
 ·intro b c a;rw[<-h c a];exact b c a
 intro b c a;rw[h c a];exact b c a
theorem mh{α:Type}(f g:α->Bool):∀ (l:List α) (k:Nat),(∀c∈l,f c=g c)->aR f k l=aR g k l
 |[],_,_=>rfl
 |c :: r,k,h=>by unfold aR;rw[h c (by simp),mh f g r (k+1) λd a=>h d (by simp[a])]
theorem vM{l}(a:gn l){x:Nat->Int}(b:eC x=0){p:aD}(c:p∈l):eH p (nh l x)=eH p x:=by rw[gV (a p c) b,gV (a p c) (Ds a b),mh (bu (nh l x)) (bu x) p.1 0 λr d=>EN a b c d]
def fz:List (List Int)->List (List Int)
 |[]=>[[]]
 |L :: b=>L.flatMap λa=>(fz b).map (a :: ·)
def lI(l:List aD):List (List Int):=[cw l 0,cw l 1,cw l 2,cw l 3,cw l 4]
def dG(l:List aD):List (List Int):=fz (lI l)
def IK:List Int->List (List Int)->Prop
 |[],[]=>True
 |a :: x,L :: b=>a∈L/\IK x b
 |_,_=>False
theorem jw(L:List Int)(b:List (List Int)):fz (L :: b)=L.flatMap λa=>(fz b).map (a :: ·):=rfl
theorem mA:∀ (b:List (List Int)) (x:List Int),x∈fz b ↔ IK x b
 |[],x=>by
  show x∈[[]] ↔ _;rw[KO];constructor
  ·rintro rfl;trivial
  intro h
  cases x with
  |nil=>rfl
  |cons a y=>exact h.elim
 |L :: b,x=>by
  rw[jw,Ll];constructor
  ·rintro⟨a,c,h⟩;obtain⟨y,d,rfl⟩:=Md.1 h;exact⟨c,(mA b y).1 d⟩
  intro h
  cases x with
  |nil=>exact h.elim
  |cons a y=>exact⟨a,h.1,Md.2 ⟨y,(mA b y).2 h.2,rfl⟩⟩
theorem ij{α β:Type}(f:α->List β)(n:Nat):∀ (L:List α),(∀a∈L,(f a).length=n)->(L.flatMap f).length=L.length*n
 |[],_=>by simp
 |a :: L,h=>by rw[KQ,Kj,h a (by simp),ij f n L λb c=>h b (by simp[c]),Kv,Mi];omega
theorem kF(L:List Int)(b:List (List Int)):(fz (L :: b)).length=L.length*(fz b).length:=by rw[jw];exact ij _ _ _ λa _=>by simp
theorem ut{α β:Type}(f:α->List β)(n:Nat)(d:0<n):∀ (L:List α),(∀a∈L,(f a).length=n)->∀ (i:Nat) (a:α),L[i / n]?=some a->(L.flatMap f)[i]?=(f a)[i % n]?
 |[],_,i,a,h=>by simp at h
 |b :: L,e,i,a,h=>by
  rw[KQ];have l:=e b (by simp)
  by_cases g:i<n
  ·rw[Nat.div_eq_of_lt g] at h;simp at h;subst h;rw[Kh (by omega),Nat.mod_eq_of_lt g]
  obtain⟨j,rfl⟩:∃j,i=j+n:=⟨i-n,by omega⟩;rw[Nat.add_div_right _ d] at h;rw[Kk (by omega),Nat.add_mod_right,show j+n-(f b).length=j by omega];exact ut f n d L (λc k=>e c (by simp[k])) j a (by simpa using h)
theorem FL(L:List Int)(b:List (List Int))(i:Nat)(a:Int)(x:List Int)(d:L[i / (fz b).length]?=some a)(c:(fz b)[i % (fz b).length]?=some x):(fz (L :: b))[i]?=some (a :: x):=by
 have e:0<(fz b).length:=by have:=(K9.1 c).1;omega
 rw[jw,ut _ _ e L (λa _=>by simp) i a d];simp[c]
def iQ(x:Nat->Int):List Int:=[x 0,x 1,x 2,x 3,x 4]
theorem xa{l}(a:gn l){x:Nat->Int}(b:eC x=0):iQ (nh l x)∈dG l:=by have h:=pQ.1 b;refine(mA _ _).2 ?_;exact⟨(jH a (h 0 (by omega)).1).1,(jH a (h 1 (by omega)).1).1,(jH a (h 2 (by omega)).1).1,(jH a (h 3 (by omega)).1).1,(jH a (h 4 (by omega)).1).1,trivial⟩
theorem uo{l}(f:gn l){x:List Int}(o:x∈dG l):∃y:Nat->Int,x=iQ y/\eC y=0/\∀j:Nat,j<5->y j∈cw l j:=by
 have h:=(mA _ _).1 o;unfold lI at h
 match x,h with
 |[a,b,c,d,e],h=>
  obtain⟨g,i,k,m,n,_⟩:=h;refine⟨oz a b c d e,rfl,?_,?_⟩
  ·rw[pQ];intro j p;have:j=0\/j=1\/j=2\/j=3\/j=4:=by omega
   rcases this with rfl|rfl|rfl|rfl|rfl
   ·exact gX f g
   ·exact gX f i
   ·exact gX f k
   ·exact gX f m
   exact gX f n
  intro j p;have:j=0\/j=1\/j=2\/j=3\/j=4:=by omega
  rcases this with rfl|rfl|rfl|rfl|rfl
  ·exact g
  ·exact i
  ·exact k
  ·exact m
  exact n
theorem qI:∀ (l m:List Int),iJ l->iJ m->(∀x∈l,x∈m)->l.length<=m.length
 |[],m,_,_,_=>by simp
 |a :: l,[],_,_,h=>by have:=h a (by simp);simp at this
 |a :: l,b :: m,i,j,h=>by
  have c:=Lx.1 i;have d:=Lx.1 j
  have:l.length<=m.length:=by
   refine qI l m c.2 d.2 λx f=>?_
   rcases Kz.1 (h x (by simp[f])) with e|e
   ·exfalso;have k:=c.1 x f
    rcases Kz.1 (h a (by simp)) with g|g
    ·omega
    have:=d.1 a g;omega
   exact e
  simp;omega
def vP(p:aD)(x:Nat->Int):Int:=(eH p x).1
def kP(p:aD)(x:Nat->Int):Int:=(eH p x).2.1
def Cn(l:List Int):Nat->Int:=oz (l.getD 0 0) (l.getD 1 0) (l.getD 2 0) (l.getD 3 0) (l.getD 4 0)
theorem rF{p}{x y:Nat->Int}(h:∀j,j<5->x j=y j):eH p x=eH p y:=by
 have e:eC x=eC y:=by unfold eC;rw[h 0 (by omega),h 1 (by omega),h 2 (by omega),h 3 (by omega),h 4 (by omega)]
 by_cases b:aj p=0
 ·by_cases d:eC x=0
  ·rw[gV b d,gV b (e▸d)]
   have f:∀r∈p.1,bu x r=bu y r:=by
    intro r f;have g:=fy (dy (cM (cY b).2.2 r f)).2.2;unfold bu;rw[LX,MB,MB];have:∀c∈r.1,dQ x c=dQ y c:=λc a=>by have:=(ft (g c a)).1;unfold dQ;rw[h c.1.toNat (by omega)]
    constructor
    ·intro i c a;rw[<-this c a];exact i c a
    intro i c a;rw[this c a];exact i c a
   rw[mh _ _ p.1 0 f]
  unfold eH;rw[Io b,iO d,Io b,iO (e▸d),e]
 unfold eH;rw[iO b,iO b]
theorem fF(x:Nat->Int):∀j,j<5->Cn (iQ x) j=x j:=by
 intro j a;have:j=0\/j=1\/j=2\/j=3\/j=4:=by omega
 rcases this with rfl|rfl|rfl|rfl|rfl<;>rfl
def bM:List aD->Int
 |[]=>0
 |p :: r=>if aj p=0 then bM r else aj p
theorem jz:∀ {l:List aD},bM l=0 ↔ gn l
 |[]=>by simp[bM,gn]
 |p :: r=>by
  unfold bM
  by_cases h:aj p=0
  ·rw[Io h,jz];constructor
   ·intro a q b
    rcases Kz.1 b with rfl|b
    ·exact h
    exact a q b
   intro a q b;exact a q (by simp[b])
  rw[iO h];constructor
  ·intro c;exact absurd c h
  intro a;exact a p (by simp)
def aT(l:List aD):Int:=if bM l=0 then (if 1000<(dG l).length then 2 else 0) else bM l
def bj(l:List aD):List (List Int):=if aT l=0 then dG l else []
theorem kM{l:List aD}:aT l=0 ↔ gn l/\(dG l).length<=1000:=by
 unfold aT
 by_cases h:bM l=0
 ·rw[Io h];constructor
  ·intro a;refine⟨jz.1 h,?_⟩
   split at a
   ·cases a
   omega
  rintro⟨_,a⟩;rw[iO (by omega)]
 rw[iO h];constructor
 ·intro a;exact absurd a h
 rintro⟨a,_⟩;exact absurd (jz.2 a) h
def eB(p q:aD)(x:List Int):Bool:=decide (vP q (Cn x)<vP p (Cn x))
def dN(p q:aD):Option (List Int):=(bj [p,q]).find? (eB p q)
theorem BZ{p q:aD}(c:aT [p,q]=0)(h:dN p q=none){x:Nat->Int}(d:eC x=0):vP p x<=vP q x:=by
 have⟨a,_⟩:=kM.1 c;unfold dN bj at h;rw[Io c,MO] at h;have b:=h _ (xa a d);unfold eB at b;rw[L9] at b;have e:∀r∈[p,q],vP r (Cn (iQ (nh [p,q] x)))=vP r x:=λr f=>by unfold vP;rw[rF (fF _),vM a d f]
 rw[e p (by simp),e q (by simp)] at b;omega
def mG(c:Bool)(a b:Int):Int:=if a<b then a else if c then 4 else b
def dX(a:Bool)(r s:aq):aq:=(r.1++s.1,mG a r.2 s.2)
def gh(a:Bool)(p q:aD):List aq:=p.1.flatMap (λr=>q.1.map (dX a r)++[dX a r ([],q.2)])++q.1.map (dX a ([],p.2))
def gI(a:Bool)(p q:aD):aD:=(gh a p q,mG a p.2 q.2)
def eP(x:Nat->Int)(d:Int):List aq->Int
 |[]=>d
 |r :: s=>if bu x r then r.2 else eP x d s
theorem uy(x:Nat->Int)(d)(a:List aq):∀ (c:List aq) (k:Nat),a.drop k=c->eP x d c=(cP (a,d) (aR (bu x) k c)).1
 |[],k,_=>by simp[eP,aR,cP]
 |r :: s,k,h=>by
  have e:a[k]?=some r:=by
   have:(a.drop k)[0]?=some r:=by rw[h];rfl
   simpa using this
  rw[eP,aR]
  by_cases b:bu x r=true
  ·rw[Io b,Io b,cP,iO (by omega)];simp[e]
  rw[iO b,iO b];refine uy x d a s (k+1) ?_;rw[<-Mv,h];rfl
theorem rJ{p:aD}{x:Nat->Int}(a:aj p=0)(b:eC x=0):vP p x=eP x p.2 p.1:=by unfold vP;rw[gV a b];exact(uy x p.2 p.1 p.1 0 rfl).symm
theorem lO(x:Nat->Int)(exc r s):bu x (dX exc r s)=(bu x r&&bu x s):=by unfold bu dX;rw[List.all_append]
theorem nV(x:Nat->Int)(d):∀ (l m:List aq),eP x d (l++m)=eP x (eP x d m) l
 |[],m=>rfl
 |r :: l,m=>by
  show (if bu x r then r.2 else eP x d (l++m))=if bu x r then r.2 else eP x (eP x d m) l
  rw[nV x d l m]
theorem BC(x:Nat->Int)(d):∀l:List aq,(∀r∈l,bu x r=false)->eP x d l=d
 |[],_=>rfl
 |r :: l,h=>by rw[eP,iO (by simp[h r (by simp)])];exact BC x d l λs a=>h s (by simp[a])
theorem pi(x:Nat->Int)(a:Bool)(r:aq)(c:bu x r=true)(b d:Int):∀l:List aq,eP x (mG a r.2 b) (l.map (dX a r))=mG a r.2 (eP x b l)
 |[]=>rfl
 |s :: l=>by
  rw[Lt,eP,eP,lO,c,Bool.true_and,pi x a r c b d l]
  split<;>rfl
theorem xz(x:Nat->Int)(exc)(q:aD)(dp):∀b:List aq,eP x (mG exc dp q.2) (gh exc (b,dp) q)=mG exc (eP x dp b) (eP x q.2 q.1)
 |[]=>by unfold gh;simp only[List.flatMap_nil,MK];exact pi x exc ([],dp) rfl q.2 0 q.1
 |r :: b=>by
  have e:=xz x exc q dp b
  unfold gh at e |-
  simp only[KQ] at e |-
  rw[KI,nV,e]
  by_cases c:bu x r=true
  ·have f:eP x (mG exc (eP x dp b) (eP x q.2 q.1)) [dX exc r ([],q.2)]=mG exc r.2 q.2:=by rw[eP,lO,c];rfl
   rw[nV,f,pi x exc r c q.2 0 q.1,eP,Io c]
  rw[BC,eP,iO c];intro s a;have d:bu x r=false:=by simpa using c
  rcases KB.1 a with a|a
  ·obtain⟨t,_,rfl⟩:=Md.1 a;rw[lO,d];rfl
  rw[KO] at a;subst a;rw[lO,d];rfl
theorem IH{p q:aD}{x:Nat->Int}(exc)(b:aj p=0)(c:aj q=0)(d:aj (gI exc p q)=0)(a:eC x=0):vP (gI exc p q) x=mG exc (vP p x) (vP q x):=by rw[rJ d a,rJ b a,rJ c a];exact xz x exc q p.2 p.1
def vq(f:Int)(cs:List aN)(n:Int):Bool:=decide (n=0)||cs.any λc=>decide (c.1=f)&&(decide (c.2.2=n)||decide (c.2.2+1=n)&&(decide (c.2.1=1)||decide (c.2.1=2)))
theorem E5{f cs}{n:Int}:vq f cs n=true ↔ n=0\/∃c∈cs,c.1=f/\(c.2.2=n\/c.2.2+1=n/\(c.2.1=1\/c.2.1=2)):=by unfold vq;simp only[Bool.or_eq_true,L9,List.any_eq_true,KU]
theorem oZ{l}{f n:Int}:n∈cw l f ↔ vq f (bh l) n=true/\n<=aO f:=by rw[kI,E5]
theorem EW{f:Int}{cs:List aN}{c:aN}(h:c.1≠f)(n:Int):vq f (cs++[c]) n=vq f cs n:=by unfold vq;rw[List.any_append];simp[h]
theorem Gy{f:Int}{cs:List aN}{c:aN}(h:c.1=f)(n:Int):vq f (cs++[c]) n=(vq f cs n||decide (c.2.2=n)||decide (c.2.2+1=n)&&(decide (c.2.1=1)||decide (c.2.1=2))):=by unfold vq;rw[List.any_append];simp only[List.any_cons,List.any_nil,h,decide_true,Bool.true_and,Bool.or_false,Bool.or_assoc]
theorem ul(n:Int):∀l:List Int,n ∉ l->(uG n l).length=l.length+1
 |[],_=>rfl
 |m :: r,h=>by
  have b:n≠m:=λe=>h (by simp[e])
  have a:n ∉ r:=λe=>h (by simp[e])
  unfold uG
  split
  ·rfl
  rw[Kv,ul n r a,Kv]
theorem sx:∀l:List Int,l.Nodup->(uw l).length=l.length
 |[],_=>rfl
 |n :: l,h=>by have a:=List.nodup_cons.1 h;show (uG n (uw l)).length=_;rw[ul n _ (λe=>a.1 ((mU n l).1 e)),sx l a.2,Kv]
def DQ(N:Nat):List Int:=(List.range N).map λi:Nat=>(i:Int)
theorem up(N):iJ (DQ N):=by unfold DQ iJ;rw[List.pairwise_map];exact List.pairwise_lt_range.imp λh=>by omega
theorem BA{N:Nat}{x:Int}(a:0<=x)(b:x<N):x∈DQ N:=Md.2 ⟨x.toNat,List.mem_range.2 (by omega),by omega⟩
theorem FM{l:List Int}(h:l.Nodup){N:Nat}(a:∀x∈l,0<=x/\x<N):l.length<=N:=by
 have:=qI (uw l) (DQ N) (nj l) (up N) λx b=>BA (a x ((mU x l).1 b)).1 (a x ((mU x l).1 b)).2
 rw[sx l h] at this
 simpa [DQ] using this
theorem Dp{l}(h:iJ l){N:Nat}(a:∀x∈l,0<=x/\x<N):l.length<=N:=by
 have:=qI l (DQ N) h (up N) λx b=>BA (a x b).1 (a x b).2
 simpa [DQ] using this
theorem AR(xs:List Int)(h:xs.Nodup):iJ (xs.mergeSort λx y=>decide (x<=y)):=by
 have d:(xs.mergeSort λx y=>decide (x<=y)).Pairwise λa b=>decide (a<=b)=true:=List.pairwise_mergeSort (λa b c=>by simp only[L9];omega) (λa b=>by simp only[Bool.or_eq_true,L9];omega) xs
 have e:(xs.mergeSort λx y=>decide (x<=y)).Nodup:=(List.mergeSort_perm xs _).nodup_iff.2 h;exact(d.and e).imp λ⟨a,b⟩=>by rw[L9] at a;omega
theorem FZ{l}{f:Int}{xs:List Int}(h:xs.Nodup)(a:∀n,n∈xs ↔ vq f (bh l) n=true/\n<=aO f):(xs.mergeSort λx y=>decide (x<=y))=cw l f:=
 qJ _ _ (AR xs h) (kx l f) λx=>by rw[List.mem_mergeSort,a,oZ]
theorem Bf{l}(h:gn l)(f):(cw l f).length<=65536:=Dp (kx l f) λx a=>by
 have b:=gX h a
 have c:aO f<=65535:=by
  unfold aO
  split
  ·omega
  split<;>omega
 omega
def yH(L:List Int)(i:Nat):Int:=L.getD (i % L.length) 0
theorem rY:∀ (b:List (List Int)) (i:Nat),(∀L∈b,L≠[])->i<(fz b).length->∃x,(fz b)[i]?=some x/\x.length=b.length/\∀k L,b[k]?=some L->x[k]?=some (yH L (i / (fz (b.drop (k+1))).length))
 |[],i,_,h=>by
  have:i=0:=by have:(fz []).length=1:=rfl;omega
  subst this;exact⟨[],rfl,rfl,λk L h=>by simp at h⟩
 |L :: b,i,d,h=>by
  rw[kF] at h;have z:0<L.length:=LY.2 (d L (by simp))
  have l:0<(fz b).length:=by
   rcases Nat.eq_zero_or_pos (fz b).length with e|e
   ·rw[e,Nat.mul_zero] at h;omega
   exact e
  obtain⟨x,p,r,s⟩:=rY b (i % (fz b).length) (λM f=>d M (by simp[f])) (Nat.mod_lt _ l);have m:i / (fz b).length<L.length:=by rw[Nat.div_lt_iff_lt_mul l];exact h
  obtain⟨a,o⟩:∃a,L[i / (fz b).length]?=some a:=⟨L[i / (fz b).length],by simp[m]⟩;refine⟨a :: x,FL L b i a x o p,by simp[r],λk M f=>?_⟩
  cases k with
  |zero=>
   simp at f;subst f;simp only[List.getElem?_cons_zero,MF,List.drop_zero,yH,Nat.mod_eq_of_lt m];rw[Kn,o];rfl
  |succ k=>
   have g:b[k]?=some M:=by simpa using f
   rw[List.getElem?_cons_succ,s k M g,MF];congr 1
   have j:(fz (b.drop (k+1))).length*M.length ∣ (fz b).length:=by
    have e:b.drop k=M :: b.drop (k+1):=by obtain⟨t,rfl⟩:=K9.1 g;exact KM t
    have u:(fz (b.drop k)).length=M.length*(fz (b.drop (k+1))).length:=by rw[e,kF]
    have v:∀ (n:Nat) (c:List (List Int)),(fz (c.drop n)).length ∣ (fz c).length:=by
     intro n
     induction n with
     |zero=>intro c;simp
     |succ n w=>
      intro c
      cases c with
      |nil=>simp
      |cons A c=>
       rw[MF,kF];exact Nat.dvd_trans (w c) (Nat.dvd_mul_left _ _)
    have:=v k b;rw[u,Nat.mul_comm] at this;exact this
   unfold yH;congr 1;obtain⟨q,y⟩:=j;rw[y,Nat.mul_assoc,Nat.mod_mul_right_div_self,Nat.mod_mul_right_mod]
def ox(c:aN)(left:Int):cO:=if c.2.1=1 then (2,c.2.2,0,left) else if c.2.1=2 then (2,c.2.2,left,0) else if c.2.1=3 then (3,c.2.2,0,left) else (3,c.2.2,left,0)
def dA:List aN->List cO
 |[]=>[]
 |c :: r=>(1,c.1,0,0) :: ox c (2*(r.length:Int)+1) :: dA r
def jt(r:aq):List cO:=dA r.1++[(4,r.2,0,0)]
def dV(a:List aq):List cO:=a.flatMap jt
def cm(p:aD):List cO:=dV p.1++[(4,p.2,0,0)]
theorem iM:∀a:List aN,(dA a).length=2*a.length
 |[]=>rfl
 |c :: r=>by rw[dA];simp[iM r];omega
theorem nO(r):(jt r).length=2*r.1.length+1:=by rw[jt];simp[iM]
theorem oC(r:aq)(s:List aq):dV (r :: s)=jt r++dV s:=by simp[dV]
theorem IC(p:aD):cm p≠[]:=by unfold cm;simp
theorem qo:∀ (l:List cO) (c:cO),eS (l++[c])=c.1
 |[],c=>rfl
 |[d],c=>rfl
 |d :: e :: r,c=>by show eS (d :: e :: (r++[c]))=c.1;rw[eS];exact qo (e :: r) c
theorem tE{v n:Int}(a:0<=v)(b:v<=4):d8 (4,v,0,0) n=0:=by simp[d8];omega
theorem CF{v n:Int}(a:0<=v)(b:v<5):d8 (1,v,0,0) n=0:=by simp[d8];omega
theorem lR{k v b c n:Int}(a:k=2\/k=3)(f:0<=v)(g:v<=65535)(h:0<=b)(d:b<n)(i:0<=c)(e:c<n):d8 (k,v,b,c) n=0:=by unfold d8;simp only[];rw[iO (by omega),Io a,iO (by omega),iO (by omega)]
theorem DJ{c:aN}{left n:Int}(e:bS c=0)(a:0<=left)(b:left<n):d8 (ox c left) n=0:=by
 have⟨_,_,d,f⟩:=ft e;have:=nq c.1;unfold ox
 split
 ·exact lR (.inl rfl) d (by omega) (by omega) (by omega) a b
 split
 ·exact lR (.inl rfl) d (by omega) a b (by omega) (by omega)
 split
 ·exact lR (.inr rfl) d (by omega) (by omega) (by omega) a b
 exact lR (.inr rfl) d (by omega) a b (by omega) (by omega)
theorem jk{v:Int}(h:cA v=true):0<=v/\v<=4:=by
 unfold cA at h
 simpa using h
theorem rU(v:Int)(b:0<=v/\v<=4)(a:List cO)(e:a≠[]):∀f:List aN,(∀c∈f,bS c=0)->bK (dA f++(4,v,0,0) :: a)=bK a
 |[],_=>by show bK ((4,v,0,0) :: a)=_;rw[bK,Io (tE b.1 b.2)]
 |c :: r,h=>by
  have j:=LY.2 e;have g:=ft (h c (by simp));rw[dA];show bK ((1,c.1,0,0) :: ox c (2*(r.length:Int)+1) :: (dA r++(4,v,0,0) :: a))=_
  rw[bK,Io (CF g.1.1 g.1.2),bK,Io (DJ (h c (by simp)) (by omega) (by
   rw[Kj,iM,Kv]
   omega))]
  exact rU v b a e r λd i=>h d (by simp[i])
theorem qe(a:List cO)(b:a≠[]):∀c:List aq,(∀r∈c,bH r=0)->bK (dV c++a)=bK a
 |[],_=>rfl
 |r :: s,h=>by obtain⟨_,e,f⟩:=dy (h r (by simp));rw[oC,jt,KI,KI];show bK (dA r.1++(4,r.2,0,0) :: (dV s++a))=_;rw[rU r.2 (jk e) _ (by simp[b]) r.1 (fy f)];exact qe a b s λd g=>h d (by simp[g])
theorem uk{p:aD}(h:aj p=0):aV (cm p)=if 1500<(cm p).length then 2 else 0:=by
 have⟨_,a,c⟩:=cY h;have a:=jk a;have f:=LY.2 (IC p);have d:bK (cm p)=0:=by unfold cm;rw[qe _ (by simp) p.1 (cM c),bK,Io (tE a.1 a.2)];rfl
 have e:eS (cm p)=4:=by unfold cm;rw[qo]
 unfold aV
 by_cases b:1500<(cm p).length
 ·rw[Io (.inr b),Io b]
 rw[iO (by omega),Io d,Io e,iO b]
def Ad(x:Nat->Int)(d:Int):List aq->Int
 |[]=>d
 |r :: s=>if bu x r then r.2 else Ad x d s
theorem Im(n c left):iY n (ox c left)=if iG c.2.1 c.2.2 n then 0 else left.toNat:=by
 unfold ox iG iY
 by_cases b:c.2.1=1
 ·simp only[Io b]
  by_cases e:n=c.2.2<;>simp[e]
 simp only[iO b]
 by_cases d:c.2.1=2
 ·simp only[Io d]
  by_cases e:n=c.2.2<;>simp[e]
 simp only[iO d]
 by_cases f:c.2.1=3
 ·simp only[Io f]
  by_cases e:n<c.2.2<;>simp[e]
 simp only[iO f]
 by_cases e:n<c.2.2
 ·have a:¬c.2.2<=n:=by omega
  simp[e,a]
 have a:c.2.2<=n:=by omega
 simp[e,a]
theorem F8(c left):(ox c left).1=2\/(ox c left).1=3:=by
 unfold ox
 split
 ·exact .inl rfl
 split
 ·exact .inl rfl
 split<;>exact .inr rfl
theorem z5(x:Nat->Int)(v:Int)(a:List cO):∀ (cs:List aN) (n:Int),∃b,(dJ x n 0 (dA cs++(4,v,0,0) :: a)).1=if cs.all (dQ x) then v else (dJ x b 0 a).1
 |[],n=>⟨n,by
  show (dJ x n 0 ((4,v,0,0) :: a)).1=_;rw[dJ,iO (by simp),iO (by simp)]
  rfl⟩
 |c :: r,n=>by
  rw[dA];show ∃b,(dJ x n 0 ((1,c.1,0,0) :: ox c (2*(r.length:Int)+1) :: (dA r++(4,v,0,0) :: a))).1=_;have f:=F8 c (2*(r.length:Int)+1);rw[dJ,Io rfl,dJ,iO (by omega),Io f,Im]
  by_cases h:dQ x c=true
  ·have d:iG c.2.1 c.2.2 (x c.1.toNat)=true:=h;have⟨b,e⟩:=z5 x v a r (x c.1.toNat);refine⟨b,?_⟩;simp only[];rw[Io d];show (dJ x (x c.1.toNat) 0 (dA r++(4,v,0,0) :: a)).1=_;rw[e,List.all_cons,h,Bool.true_and]
  have d:¬iG c.2.1 c.2.2 (x c.1.toNat)=true:=h;refine⟨x c.1.toNat,?_⟩;simp only[];rw[iO d];show (dJ x (x c.1.toNat) (2*(r.length:Int)+1).toNat (dA r++(4,v,0,0) :: a)).1=_;have g:(dA r++(4,v,0,0) :: a).drop (2*(r.length:Int)+1).toNat=a:=by rw[show (2*(r.length:Int)+1).toNat=(dA r).length+1 by rw[iM];omega,<-Mv,List.drop_left];rfl
  rw[sQ,g,List.all_cons];simp[h]
theorem rh(x:Nat->Int)(d:Int):∀ (a:List aq) (n:Int),(dJ x n 0 (dV a++[(4,d,0,0)])).1=Ad x d a
 |[],n=>by show (dJ x n 0 [(4,d,0,0)]).1=_;rw[dJ,iO (by simp),iO (by simp)];rfl
 |r :: s,n=>by rw[oC,jt,KI,KI];show (dJ x n 0 (dA r.1++(4,r.2,0,0) :: (dV s++[(4,d,0,0)]))).1=_;have⟨b,e⟩:=z5 x r.2 (dV s++[(4,d,0,0)]) r.1 n;rw[e,rh x d s b,Ad];rfl
theorem wK(x:Nat->Int)(d)(a:List aq):∀ (c:List aq) (k:Nat),a.drop k=c->Ad x d c=(cP (a,d) (aR (bu x) k c)).1
 |[],k,_=>by simp[Ad,aR,cP]
 |r :: s,k,h=>by
  have e:a[k]?=some r:=by
   have:(a.drop k)[0]?=some r:=by rw[h];rfl
   simpa using this
  rw[Ad,aR]
  by_cases b:bu x r=true
  ·rw[Io b,Io b,cP,iO (by omega)];simp[e]
  rw[iO b,iO b];refine wK x d a s (k+1) ?_;rw[<-Mv,h];rfl
theorem B9{p:aD}{x:Nat->Int}(a:aj p=0)(b:eC x=0):(dJ x 0 0 (cm p)).1=(eH p x).1:=by rw[gV a b,cm,rh];exact wK x p.2 p.1 p.1 0 rfl
def cB(p:aD):Int:=if aj p=0 then (if 1500<(cm p).length then 2 else 0) else aj p
def dW(p:aD):List cO:=if cB p=0 then cm p else []
theorem bG.full{B w v cs}(h:bG B w v cs):∃a b,v=.slice a cs.length b/\cs.length<=b/\b<=maxLen:=by obtain⟨a,b,c,d,e,_⟩:=h;exact⟨a,b,c,d,e⟩
def bO(l:List aN):List Value:=l.flatMap λc=>[U c.1,U c.2.1,U c.2.2]
theorem iS(c:aN)(l:List aN):bO (c :: l)=U c.1 :: U c.2.1 :: U c.2.2 :: bO l:=rfl
theorem uJ(l m:List aN):bO (l++m)=bO l++bO m:=by unfold bO;exact Mg
theorem ff:∀l:List aN,(bO l).length=l.length*3
 |[]=>rfl
 |c :: r=>by rw[iS];simp[ff r];omega
theorem nE:∀ (l:List aN),∀u∈bO l,u.oneCell'=true
 |[],u,h=>by cases h
 |c :: r,u,h=>by
  rw[iS] at h;simp at h
  rcases h with rfl|rfl|rfl|h
  ·rfl
  ·rfl
  ·rfl
  exact nE r u h
theorem s6:∀ (l:List aN) (i:Nat) (c:aN),l[i]?=some c->(bO l)[i*3]?=some (U c.1)/\(bO l)[i*3+1]?=some (U c.2.1)/\(bO l)[i*3+2]?=some (U c.2.2)
 |[],_,_,h=>by simp at h
 |a :: r,0,c,h=>by simp at h;subst h;simp[iS]
 |a :: r,i+1,c,h=>by have b:=s6 r i c (by simpa using h);rw[iS,show (i+1)*3=i*3+3 by omega];exact b
theorem mj{w}{b o:Nat}:∀ (l:List aN) (o:Nat),(∀i c,l[i]?=some c->iu w b (o+i*3) c)->∀j u,(bO l)[j]?=some u->w.cell? ⟨b,o+j,none⟩=some u
 |[],_,_,j,u,h=>by simp[bO] at h
 |c :: r,o,a,j,u,h=>by
  have⟨d,e,f,_⟩:=a 0 c rfl;simp only[Nat.zero_mul,Nat.add_zero] at d e f;rw[iS] at h
  match j,h with
  |0,h=>simp at h;subst h;simpa using d
  |1,h=>simp at h;subst h;exact e
  |2,h=>simp at h;subst h;exact f
  |j+3,h=>
   have:=mj (b:=b) (o:=o) r (o+3) (λi c g=>by
    have:=a (i+1) c (by simpa using g);rw[show o+(i+1)*3=o+3+i*3 by omega] at this
    exact this) j u (by simpa using h)
   rw[show o+(j+3)=o+3+j by omega];exact this
theorem BU{L:Nat}{w:World}{v:Value}{l:List aN}(h:w.ownsRow L 134 3 v l.length (bO l))(b:∀c∈l,wf c.1/\wf c.2.1/\wf c.2.2):bG w.1.size w v l:=by
 obtain⟨a,d,rfl,j,k,m⟩:=an h;refine⟨a,d,rfl,j,k,λi c e=>?_⟩;have r:i<l.length:=(K9.1 e).1;obtain⟨g,rfl,n,f⟩:=m (by omega);have⟨o,p,q⟩:=s6 l i c e;refine⟨g,0,rfl,f,?_,?_,?_,b c (Kb e)⟩
 all_goals rw[Kp]
 ·exact aK h _ _ o
 ·exact aK h _ _ p
 exact aK h _ _ q
theorem bG.wfs{B w v l}(h:bG B w v l):∀c∈l,Go.Proofs.YtjdnfhkkkejcfaaGreatDoor.wf c.1/\Go.Proofs.YtjdnfhkkkejcfaaGreatDoor.wf c.2.1/\Go.Proofs.YtjdnfhkkkejcfaaGreatDoor.wf c.2.2:=by intro c a;have⟨i,b⟩:=LJ.1 a;obtain⟨_,_,_,_,_,d⟩:=h;have⟨_,_,_,_,k⟩:=d i c b;exact k.2.2.2
theorem mE(B base:Nat)(H:TypeId)(v sv:Value)(n:Nat)(xs:List Value)(rs)(W:World)(d:W.ownsRow base 134 3 v n xs)(K:bG B W sv rs)(L:(n+rs.length)*24<=140737488355328)(f:base<=W.1.size):
  ∃x s,(Builtin.append_ #[129,129] H #[v,sv]).run prog W=.ok x s/\s.ownsRow base 134 3 x (n+rs.length) (xs++bO rs)/\Below base W s:=by
 obtain⟨t,m,z,A,C⟩:=mJ;obtain⟨a,w,rfl,M,N,p⟩:=K
 cases a with
 |none=>
  have O:rs=[]:=by
   cases rs with
   |nil=>rfl
   |cons r l=>have⟨b,o,e,_⟩:=p 0 r rfl;cases e
  subst O;refine⟨v,W,?_,by simpa [bO] using d,Kf _ _⟩
  have D:v=nL\/∃g c,v=.slice (some g) n c/\n<=c:=by
   rcases d.2 with ⟨h,_⟩|⟨g,c,E,h,_,_,Q,_⟩
   ·exact .inl h
   exact .inr ⟨_,c,h,Q⟩
  have I:=Lk (P:=prog) W t.size 0 0 w
  rcases D with rfl|⟨g,c,rfl,F⟩
  ·simp[Builtin.append_,KY Tryz.underlying129,sizeOf,typeInfo,m,Builtin.lenOf,I]
  simp[Builtin.append_,KY Tryz.underlying129,sizeOf,typeInfo,m,Builtin.lenOf,I,F,storeCells]
 |some J=>
  have q:∀j u,(bO rs)[j]?=some u->W.cell? (J.add j)=some u:=by
   cases rs with
   |nil=>intro j u G;simp[bO] at G
   |cons r l=>
    have⟨b,o,e,_,_⟩:=p 0 r rfl
    cases e;intro j u G;rw[eM];refine mj (o:=o) (r :: l) o (λi c D=>?_) j u G;have⟨V,X,e,_,k⟩:=p i c D
    cases e;exact k
  obtain⟨x,s,R,S,T,Y⟩:=LB (P:=prog) W base 129 H 134 t _ 3 24 Tryz.underlying129 m z A C rfl (by decide) v n xs d J rs.length w (bO rs) (ff rs) q (nE rs) (by rw[ai];omega) L f;refine⟨x,s,R,S,bR.grown T f λk y=>?_⟩
  rcases d.2 with ⟨h,_⟩|⟨g,c,E,h,hg,_⟩
  ·rw[h] at y;simp[Value.ownBlock] at y
  rw[h] at y;simp[Value.ownBlock] at y;omega
theorem FN(n:Nat)(w)(u:n*24<=140737488355328):
  cL 183 #[nL,U n] w λe q=>∃v,e=.returned v/\q.ownsRow w.1.size 134 3 v 0 []/\bL w q:=by
 have j:=ai
 by_cases r:n=0
 ·subst r;go_enter func183,ntmps183;go_wp2;go_ret;exact⟨_,rfl,⟨rfl,.inl ⟨rfl,rfl⟩⟩,Kf _ _⟩
 obtain⟨b,k,c,s,d⟩:=mJ;have x:¬((n:Int)<0):=by omega
 have y:(n:Int)>0:=by omega
 have⟨G,i⟩:=nM (grownCap w n 0 134);have t:n<=G:=by rw[i];exact grownCap_ge w _ _ _
 have a:G<=maxLen:=by rw[i];exact Mm w n 0 _ (by omega)
 obtain⟨z,l⟩:∃z:Value,z=.agg #[U 0,U 0,U 0]:=⟨_,rfl⟩;have m:z.cells.size=3:=by rw[l];rfl
 rw[<-l] at c
 have o:∀p,(Builtin.append_ #[129,3] p #[nL,U n]).run prog w=
   .ok (.slice (MZ w) n G) (w.drew.alloc (.cells ((Builtin.zeroCells z.cells n)++Builtin.zeroCells z.cells (G-n)) 134)):=λp=>by
  have h:=Ma w 129 3 p 134 b z .i64 .i64 Tryz.underlying129 Tryz.underlying3 k c none 0 0 [] (Lk w.drew b.size 0 0 0) n (by omega) (by omega) (by omega) (by omega)
   (by rw[d];omega)
   (by rw[Kp];exact MV (by omega) (by rw[d];omega))
  simpa [<-i] using h
 have f:Hid ((w.drew.alloc (.cells ((Builtin.zeroCells z.cells n)++Builtin.zeroCells z.cells (G-n)) 134)).ownsRow w.1.size 134 3 (.slice (MZ w) 0 G) 0 []):=by refine⟨rfl,.inr ⟨w.1.size,G,_,rfl,Ke _,(Kr w.drew _).1,Ks _,a,?_,by simp⟩⟩;rw[MX,M7,M7,m,<-Mi];congr 1;omega
 have g:Hid (bL w (w.drew.alloc (.cells ((Builtin.zeroCells z.cells n)++Builtin.zeroCells z.cells (G-n)) 134))):=bR.drew.alloc lE _;clear i l;rw[j] at a;generalize (Builtin.zeroCells z.cells n)++Builtin.zeroCells z.cells (G-n)=A at*;go_enter func183,ntmps183;go_wp2_with (at_builtin;refine Kw _ rfl _ _ _ _ rfl _ _ rfl rfl _ _ (o _) ?_);go_ret;exact⟨_,rfl,f.o,g.o⟩
theorem tT(B v0 v1 r0 r1)(bs:Nat)(w)(E:bG B w v0 r0)(n:bG B w v1 r1)(M:B<=w.1.size)(s:bs<w.1.size)(t:w.cell? (pA bs 0)=some v0)(u:w.cell? (pA bs 1)=some v1)(Q:(r0.length+r1.length)*24<=140737488355328):
  cL 151 #[.slice (sO bs) 2 2] w λe f=>∃v,e=.returned v/\f.ownsRow w.1.size 134 3 v (r0++r1).length (bO (r0++r1))/\bL w f:=by
 have R:=Z E;have S:=Z n;obtain⟨T,x,F,N,_⟩:=E.full;obtain⟨V,y,G,O,_⟩:=n.full;have W:=Z F;have X:=Z G;rw[F] at t;rw[G] at u
 have Y:Hid (∀f,bL w f->f.cell? (pA bs 0)=some (.slice T r0.length x)/\f.cell? (pA bs 1)=some (.slice V r1.length y)):=λf h=>⟨(h.cell (p:=pA bs 0) s).trans t,(h.cell (p:=pA bs 1) s).trans u⟩
 clear F G E n;generalize z:r0.length=l at*;generalize A:r1.length=m at*;have C:=Z z;have H:=Z A;clear z A;go_enter func151,ntmps151;go_wp2;go_loop [3,11] (λsz i=>∃k:Nat,k<=2/\i=U k/\sz=U (if k=0 then 0 else if k=1 then (l:Int) else ((l:Int)+m))) (λ_ i=>2-(intOf i).toNat)
 case atStart=>exact⟨0,by omega,rfl,rfl⟩
 case round=>
  obtain⟨k,hk,rfl,rfl⟩:=hrel;have o:k=0\/k=1\/k=2:=by omega
  rcases o with rfl|rfl|rfl
  ·go_wp2;exact⟨⟨1,by omega,rfl,by simp⟩,by simp[intOf]⟩
  ·have P:¬((l:Int)+(m:Int)<0):=by omega
   have a4:wrap64 ((l:Int)+(m:Int))=(l:Int)+m:=by unfold wrap64;omega
   go_wp2;exact⟨⟨2,by omega,rfl,by simp⟩,by simp[intOf]⟩
  have hG:Hid (∀f,cL 183 #[nL,U ((l:Int)+m)] f λe D=>∃v,e=.returned v/\D.ownsRow f.1.size 134 3 v 0 []/\bL f D):=λf=>by have:=FN (l+m) f Q;rw[show ((l+m:Nat):Int)=(l:Int)+m by omega] at this;exact this
  go_wp2_with fail;go_at_call 183;refine(hG.o _).mono ?_;rintro e w1 ⟨v,rfl,j,I⟩;have HO:=Z j;clear j;go_wp2_with fail;go_loopw [6,27] (λnv i wr=>∃ (k:Nat),k<=2/\i=U k/\Hid (wr.ownsRow w.1.size 134 3 nv (([r0,r1].take k).flatten).length (bO ([r0,r1].take k).flatten))/\bL w wr) (λ_ i _=>2-(intOf i).toNat)
  case atStart=>exact⟨0,by omega,rfl,HO,I⟩
  case round=>
   obtain⟨k,hk,rfl,g,b⟩:=hrel;obtain⟨c0,c1⟩:=Y.o _ b;have o:k=0\/k=1\/k=2:=by omega
   rcases o with rfl|rfl|rfl
   ·obtain⟨J,K,c,a,d⟩:=mE B w.1.size 129 _ _ 0 [] r0 wr g.o (R.o.l b M) (by rw[C.o];omega) b.size;rw[W.o] at c
    have q:Hid (K.ownsRow w.1.size 134 3 J (([r0,r1].take 1).flatten).length (bO ([r0,r1].take 1).flatten)):=by
     unfold Hid;have e:([r0,r1].take 1).flatten=r0:=by simp
     rw[e]
     simpa using a
    have r:=b.trans d;clear a d g;go_wp2_with (at_builtin;refine Kw _ rfl _ _ _ _ rfl _ _ rfl rfl _ _ c ?_);exact⟨⟨1,by omega,rfl,q,r⟩,by simp[intOf]⟩
   ·obtain⟨J,K,c,a,d⟩:=mE B w.1.size 129 _ _ r0.length (bO r0) r1 wr (by have:=g.o;simpa using this) (S.o.l b M) (by rw[C.o,H.o];omega) b.size;rw[X.o] at c
    have q:Hid (K.ownsRow w.1.size 134 3 J (([r0,r1].take 2).flatten).length (bO ([r0,r1].take 2).flatten)):=by
     unfold Hid;have e:([r0,r1].take 2).flatten=r0++r1:=by simp
     rw[e,uJ,Kj];exact a
    have r:=b.trans d;clear a d g;go_wp2_with (at_builtin;refine Kw _ rfl _ _ _ _ rfl _ _ rfl rfl _ _ c ?_);exact⟨⟨2,by omega,rfl,q,r⟩,by simp[intOf]⟩
   have n:=g.o;have e:([r0,r1].take 2).flatten=r0++r1:=by simp
   rw[e] at n;have L:Hid _:=n;clear g n e;go_wp2;go_ret;exact⟨_,rfl,L.o,b⟩
