import Derived.Test.YtffnfdfjojidfaaGreatDoorWr04
import Derived.Test.YtffnfdfjojidfaaGreatDoorWr06
import Derived.Lib.ParseIntB
set_option linter.all false
set_option maxRecDepth 100000
set_option maxHeartbeats 2000000
namespace Go.Proofs.YtffnfdfjojidfaaGreatDoor
open Go.RowKit Go.Maps Go.Proofs.Tryz
theorem qS(c:UInt8):∀ (l m:Bs),c ∉ l->bI c (l++c :: m)=l :: bI c m
 |[],m,_=>by simp[bI]
 |b :: l,m,h=>by
  have a:b≠c:=λe=>h (by simp[e])
  rw[Lg,bI,iO a,qS c l m (λe=>h (by simp[e]))]
theorem nw(c:UInt8):∀ (l:Bs),c ∉ l->bI c l=[l]
 |[],_=>rfl
 |b :: l,h=>by
  have a:b≠c:=λe=>h (by simp[e])
  rw[bI,iO a,nw c l (λe=>h (by simp[e]))]
theorem ur(c:UInt8):∀ (xs:List Bs) (d:Bs),(∀x∈xs,c ∉ x)->c ∉ d->bI c (xs.flatMap (λx=>x++[c])++d)=xs++[d]
 |[],d,_,a=>by simpa using nw c d a
 |x :: xs,d,h,a=>by rw[KQ,KI,KI,List.singleton_append,qS c x _ (h x (by simp)),ur c xs d (λy b=>h y (by simp[b])) a];rfl
theorem sm(c:UInt8):∀ (ts:List Bs) (h:Bs),c ∉ h->(∀x∈ts,c ∉ x)->bI c (h++ts.flatMap (λx=>c :: x))=h :: ts
 |[],h,a,_=>by simpa using nw c h a
 |t :: ts,h,a,b=>by rw[KQ,Lg,qS c h _ a,sm c ts t (b t (by simp)) (λy d=>b y (by simp[d]))]
def fV(c:UInt8):List Bs->Bs
 |[]=>[]
 |[x]=>x
 |x :: y :: r=>x++c :: fV c (y :: r)
theorem ll(c):∀s:Bs,fV c (bI c s)=s
 |[]=>rfl
 |b :: l=>by
  have a:=ll c l;have d:=fM c l;unfold bI
  by_cases h:b=c
  ·rw[Io h]
   cases hs:bI c l with
   |nil=>exact absurd hs d
   |cons x r=>rw[hs] at a;rw[fV,a,h];rfl
  rw[iO h]
  cases hs:bI c l with
  |nil=>exact absurd hs d
  |cons x r=>
   rw[hs] at a
   cases r with
   |nil=>rw[fV] at a |-;rw[a]
   |cons y r=>rw[fV] at a |-;rw[Lg,a]
theorem zb(c):∀ (xs:List Bs) (d:Bs),fV c (xs++[d])=xs.flatMap (λx=>x++[c])++d
 |[],d=>by simp[fV]
 |[x],d=>by simp[fV]
 |x :: y :: r,d=>by have a:=zb c (y :: r) d;rw[Lg,Lg,fV,<-Lg,a,KQ];simp
theorem vo(c):∀ (ts:List Bs) (h:Bs),fV c (h :: ts)=h++ts.flatMap (λx=>c :: x)
 |[],h=>by simp[fV]
 |t :: ts,h=>by rw[fV,vo c ts t,KQ];rfl
theorem mz:∀ (a:List Bs) (x:Bs),0<=bt a x->a.getD (bt a x).toNat []=x
 |[],x,h=>by simp[bt] at h
 |n :: r,x,h=>by
  have d:=jh r x
  unfold bt at h |-
  by_cases b:n=x
  ·rw[Io b];simpa using b
  rw[iO b] at h |-
  by_cases c:bt r x = -1
  ·rw[Io c] at h;omega
  rw[iO c];have:=mz r x (by omega);rw[show (bt r x+1).toNat=(bt r x).toNat+1 by omega]
  simpa using this
theorem pV:∀ (l:Bs) (c:UInt8),0<=Lib.indexByte l c->l.getD (Lib.indexByte l c).toNat 0=c
 |[],c,h=>by simp[Lib.indexByte] at h
 |b :: r,c,h=>by
  have e:=Lib.indexByte_ge r c
  unfold Lib.indexByte at h |-
  by_cases a:(b==c)=true
  ·rw[Io a];simpa using a
  rw[iO a] at h |-
  by_cases d:(Lib.indexByte r c==-1)=true
  ·rw[Io d] at h;omega
  have f:Lib.indexByte r c≠-1:=by simpa using d
  rw[iO d];have:=pV r c (by omega);rw[show (Lib.indexByte r c+1).toNat=(Lib.indexByte r c).toNat+1 by omega]
  simpa using this
theorem nN:∀ (l cs:Bs),0<=Lib.indexAny l cs->cs.contains (l.getD (Lib.indexAny l cs).toNat 0)=true
 |[],cs,h=>by simp[Lib.indexAny] at h
 |b :: r,cs,h=>by
  have d:=Lib.indexAny_ge cs r
  unfold Lib.indexAny at h |-
  by_cases a:cs.contains b=true
  ·rw[Io a];simpa using a
  rw[iO a] at h |-
  by_cases c:(Lib.indexAny r cs==-1)=true
  ·rw[Io c] at h;omega
  have e:Lib.indexAny r cs≠-1:=by simpa using c
  rw[iO c];have:=nN r cs (by omega);rw[show (Lib.indexAny r cs+1).toNat=(Lib.indexAny r cs).toNat+1 by omega]
  simpa using this
theorem tL(cs:Bs)(x:UInt8)(m:Bs)(a:cs.contains x=true):∀l:Bs,(∀b∈l,cs.contains b=false)->Lib.indexAny (l++x :: m) cs=l.length
 |[],_=>by rw[MK,Lib.indexAny,Io a];rfl
 |b :: l,h=>by
  have c:=tL cs x m a l λy d=>h y (by simp[d])
  rw[Lg,Lib.indexAny,iO (by rw[h b (by simp)];decide),c,iO (by simp)];simp
theorem sK:∀ (l:Bs) (a:Nat) (c:UInt8),Lib.parseUint10 a (l++[c])=match Lib.parseUint10 a l with
  |.ok v=>Lib.parseUint10 v [c]
  |.syntax=>.syntax
  |.range=>.range
 |[],a,c=>by simp[Lib.parseUint10]
 |d :: l,a,c=>by
  rw[Lg,Lib.parseUint10,Lib.parseUint10]
  split
  ·split
   ·rfl
   split
   ·rfl
   exact sK l _ c
  rfl
theorem od(d:Nat)(h:d<10):(UInt8.ofNat (48+d)).toNat=48+d:=by simp;omega
theorem iV:∀ (u:Nat),∀c∈Lib.decDigits u,48<=c.toNat/\c.toNat<=57:=by
 intro u
 induction u using Nat.strongRecOn with
 |_ u d=>
  intro c a;rw[Lib.decDigits] at a
  split at a
  ·have a:=KO.1 a;subst a;rw[od u (by assumption)];omega
  rename_i h
  rcases KB.1 a with b|b
  ·exact d (u / 10) (by omega) c b
  have b:=KO.1 b;subst b;rw[od (u % 10) (by omega)];omega
theorem Ag(u:Nat):Lib.decDigits u≠[]:=by
 rw[Lib.decDigits]
 split<;>simp
theorem zN:∀ (u:Nat),u<=1000000->Lib.parseUint10 0 (Lib.decDigits u)=.ok u:=by
 intro u
 induction u using Nat.strongRecOn with
 |_ u a=>
  intro b;rw[Lib.decDigits]
  split
  ·rename_i h;rw[Lib.parseUint10,od u h,Io (by omega),iO (by omega),iO (by omega),Lib.parseUint10];congr 1;omega
  rename_i h;rw[sK,a (u / 10) (by omega) (by omega)];simp only[];rw[Lib.parseUint10,od (u % 10) (by omega),Io (by omega),iO (by omega),iO (by omega),Lib.parseUint10];congr 1;omega
theorem qz(n:Int)(h:0<=n/\n<=65535):cS (Lib.itoa n)=some n:=by
 have e:Lib.itoa n=Lib.decDigits n.toNat:=by unfold Lib.itoa;rw[iO (by omega)]
 have a:=zN n.toNat (by omega)
 have b:Lib.atoiAll (Lib.itoa n)=.ok n:=by
  rw[e]
  cases hd:Lib.decDigits n.toNat with
  |nil=>exact absurd hd (Ag _)
  |cons c r=>
   have d:=iV n.toNat c (by rw[hd];simp);unfold Lib.atoiAll;simp only[];rw[iO (by omega)];unfold Lib.parseMag;rw[iO (by simp),<-hd,a];simp only[];rw[iO (by omega),iO (by omega),iO (by omega)];congr 1;omega
 unfold cS;rw[b];simp
theorem Fw{y:Bs}{c:aN}(h:cZ y=some c):cq c=32 :: y:=by
 unfold cZ at h
 by_cases f:Lib.indexAny y fU<0
 ·rw[Io f] at h;cases h
 rw[iO f] at h;have i:=lU fU y;have b:=nN y fU (by omega);generalize p:(Lib.indexAny y fU).toNat=k at*;have d:k<y.length:=by omega
 split at h
 ·cases h
 rename_i n a
 by_cases g:bt fN (y.take k)<0
 ·rw[Io g] at h;cases h
 rw[iO g] at h
 cases h;have j:=mz fN (y.take k) (by omega)
 have l:Lib.itoa n=y.drop (k+1):=by
  unfold cS at a
  split at a
  ·split at a
   ·cases a;assumption
   cases a
  cases a
 have e:0<=Lib.indexByte fU (y.getD k 0):=by
  have:=Mw fU (y.getD k 0);rw[b] at this
  simpa using this.symm
 have m:=pV fU (y.getD k 0) e;have o:gl (1+Lib.indexByte fU (y.getD k 0))=y.getD k 0:=by unfold gl;rw[show (1+Lib.indexByte fU (y.getD k 0)-1).toNat=(Lib.indexByte fU (y.getD k 0)).toNat by omega];exact m
 unfold cq fK;simp only[];rw[j,o,l];congr 1;have:y.getD k 0=y[k]:=by simp[Kn,d]
 rw[this,<-KM d,Ms]
theorem qC{α:Type}(f:Bs->Option α)(g:α->Bs)(k:Bs->Bs)(b:∀x a,f x=some a->g a=k x):∀ (l:List Bs) (r:List α),ep f l=some r->r.flatMap g=l.flatMap k
 |[],r,h=>by simp[ep] at h;subst h;rfl
 |x :: l,r,h=>by
  rw[ep] at h
  cases h1:f x<;>cases h2:ep f l<;>rw[h1,h2] at h<;>simp at h;subst h;rw[KQ,KQ,b x _ h1,qC f g k b l _ h2]
theorem F0{x:Bs}{r:aq}(h:cC x=some r):ct r=x++[59]:=by
 unfold cC at h
 cases hs:bI 32 x with
 |nil=>exact absurd hs (fM 32 x)
 |cons b t=>
  rw[hs] at h;simp only[] at h
  by_cases d:bt vN b<0
  ·rw[Io d] at h;cases h
  rw[iO d] at h
  split at h
  ·cases h
  rename_i f a
  cases h;have e:=ll 32 x;rw[hs,vo] at e;have g:=mz vN b (by omega);have i:=qC cZ cq (λy=>32 :: y) (λy c j=>Fw j) t f a;unfold ct d7;simp only[];rw[g,i,e]
theorem I7{s:Bs}{p:aD}(h:gS s=some p):cW p=s:=by
 unfold gS at h
 split at h
 ·cases h
 rename_i d a
 by_cases b:bt vN ((bI 59 s).getLast (fM 59 s))<0
 ·rw[Io b] at h;cases h
 rw[iO b] at h
 cases h;have c:=ll 59 s;rw[<-List.dropLast_concat_getLast (fM 59 s),zb] at c;have e:=mz vN _ (by omega:0<=bt vN ((bI 59 s).getLast (fM 59 s)));have f:=qC cC ct (λx=>x++[59]) (λx r g=>F0 g) _ d a;unfold cW d7;simp only[];rw[e,f];exact c
theorem lG:(∀k,k<5->∀b∈vN.getD k [],b≠59/\b≠32)/\(∀k,k<5->∀b∈fN.getD k [],(b≠59/\b≠32)/\fU.contains b=false)/\(∀b∈fU,b≠59/\b≠32):=by decide
theorem t8:(∀k,k<5->bt vN (vN.getD k [])=(k:Int))/\(∀k,k<5->bt fN (fN.getD k [])=(k:Int))/\(∀k,k<4->Lib.indexByte fU (fU.getD k 0)=(k:Int)/\fU.contains (fU.getD k 0)=true/\fU.getD k 0∈fU):=by decide
theorem ET{c:aN}(h:bS c=0):∃y,cq c=32 :: y/\cZ y=some c/\(59:UInt8) ∉ y/\(32:UInt8) ∉ y:=by
 obtain⟨f,o,n⟩:=c;have⟨w,x,t⟩:=lT h;simp only[] at w x t;obtain⟨d,rfl⟩:∃k:Nat,f=k:=⟨f.toNat,by omega⟩;obtain⟨g,rfl⟩:∃k:Nat,o=(k:Int)+1:=⟨(o-1).toNat,by omega⟩;have i:d<5:=by omega
 have l:g<4:=by omega
 obtain⟨G,z,A⟩:=t8;obtain⟨H,m,u⟩:=lG;have⟨B,C,v⟩:=A g l;have p:fK (d:Int)=fN.getD d []:=by unfold fK;simp
 have q:gl ((g:Int)+1)=fU.getD g 0:=by unfold gl;simp
 have D:Lib.itoa n=Lib.decDigits n.toNat:=by unfold Lib.itoa;rw[iO (by omega)]
 have j:∀b∈Lib.itoa n,b≠59/\b≠32:=by rw[D];intro b r;have:=iV _ b r;constructor<;>(intro e;subst e;revert this;decide)
 refine⟨fK d++(gl ((g:Int)+1) :: Lib.itoa n),rfl,?_,?_,?_⟩
 ·rw[p,q];have s:Lib.indexAny (fN.getD d []++(fU.getD g 0 :: Lib.itoa n)) fU=(fN.getD d []).length:=tL fU _ _ C _ λb r=>(m d i b r).2
  unfold cZ;rw[s];simp only[L3];rw[iO (by omega),List.take_left,z d i];have E:List.drop ((fN.getD d []).length+1) (fN.getD d []++(fU.getD g 0 :: Lib.itoa n))=Lib.itoa n:=by rw[<-Mv,List.drop_left];rfl
  have F:(fN.getD d []++(fU.getD g 0 :: Lib.itoa n)).getD (fN.getD d []).length 0=fU.getD g 0:=by rw[Kn,Kk lE];simp
  rw[E,qz n t,F,B];simp only[];rw[iO (by omega)];congr 2;congr 1;omega
 ·intro a
  rcases KB.1 a with a|a
  ·rw[p] at a;exact(m d i _ a).1.1 rfl
  rcases Kz.1 a with a|a
  ·rw[q] at a;exact(u _ v).1 a.symm
  exact(j _ a).1 rfl
 intro a
 rcases KB.1 a with a|a
 ·rw[p] at a;exact(m d i _ a).1.2 rfl
 rcases Kz.1 a with a|a
 ·rw[q] at a;exact(u _ v).2 a.symm
 exact(j _ a).2 rfl
theorem wh:∀ (cs:List aN),(∀c∈cs,bS c=0)->∃a:List Bs,cs.flatMap cq=a.flatMap (λy=>32 :: y)/\ep cZ a=some cs/\∀y∈a,(59:UInt8) ∉ y/\(32:UInt8) ∉ y
 |[],_=>⟨[],rfl,rfl,λy h=>by cases h⟩
 |c :: cs,h=>by
  have⟨y,e,f,g,i⟩:=ET (h c (by simp));have⟨a,j,k,l⟩:=wh cs λd m=>h d (by simp[m])
  refine⟨y :: a,by rw[KQ,KQ,e,j],by rw[ep,f,k],λz b=>?_⟩
  rcases Kz.1 b with rfl|b
  ·exact⟨g,i⟩
  exact l z b
theorem EQ{r:aq}(h:bH r=0):∃x,ct r=x++[59]/\cC x=some r/\(59:UInt8) ∉ x:=by
 obtain⟨d,v⟩:=r;have⟨_,n,g⟩:=lV h;simp only[] at n g;obtain⟨b,rfl⟩:∃k:Nat,v=k:=⟨v.toNat,by omega⟩;have c:b<5:=by omega
 have e:d7 (b:Int)=vN.getD b []:=by unfold d7;simp
 obtain⟨o,_,_⟩:=t8;obtain⟨i,_,_⟩:=lG;have⟨j,l,p,m⟩:=wh d g;refine⟨d7 b++d.flatMap cq,rfl,?_,?_⟩
 ·have q:bI 32 (d7 b++d.flatMap cq)=d7 b :: j:=by rw[l];exact sm 32 j _ (λa=>by rw[e] at a;exact(i b c _ a).2 rfl) λy f=>(m y f).2
  unfold cC;rw[q];simp only[];rw[e,o b c,iO (by omega),p]
 intro a
 rcases KB.1 a with a|a
 ·rw[e] at a;exact(i b c _ a).1 rfl
 rw[l] at a;have⟨y,f,a⟩:=Ll.1 a
 rcases Kz.1 a with a|a
 ·exact absurd a (by decide)
 exact(m y f).1 a
theorem xx:∀ (a:List aq),(∀r∈a,bH r=0)->∃b:List Bs,a.flatMap ct=b.flatMap (λx=>x++[59])/\ep cC b=some a/\∀x∈b,(59:UInt8) ∉ x
 |[],_=>⟨[],rfl,rfl,λy h=>by cases h⟩
 |r :: a,h=>by
  have⟨y,e,f,g⟩:=EQ (h r (by simp));have⟨i,j,k,l⟩:=xx a λd m=>h d (by simp[m])
  refine⟨y :: i,by rw[KQ,KQ,e,j],by rw[ep,f,k],λz c=>?_⟩
  rcases Kz.1 c with rfl|c
  ·exact g
  exact l z c
theorem GK{p:aD}(h:aj p=0):gS (cW p)=some p:=by
 obtain⟨c,d⟩:=p;have⟨_,j,e⟩:=jF h;simp only[] at j e;obtain⟨a,rfl⟩:∃k:Nat,d=k:=⟨d.toNat,by omega⟩;have b:a<5:=by omega
 have f:d7 (a:Int)=vN.getD a []:=by unfold d7;simp
 obtain⟨l,_,_⟩:=t8;obtain⟨m,_,_⟩:=lG;have⟨g,n,o,q⟩:=xx c e;have r:bI 59 (cW (c,(a:Int)))=g++[d7 a]:=by unfold cW;simp only[];rw[n];exact ur 59 g _ q λi=>by rw[f] at i;exact(m a b _ i).1 rfl
 rw[um r,o];simp only[];rw[f,l a b,iO (by omega)]
theorem yJ:∀ (l:Bs) (a:Nat),Lib.parseUintM (2 ^ 64-1) a l=Lib.parseUint10 a l
 |[],a=>rfl
 |c :: r,a=>by
  rw[Lib.parseUintM,Lib.parseUint10]
  by_cases h:48<=c.toNat/\c.toNat<=57
  ·rw[Io h,Io h]
   by_cases b:1844674407370955162<=a
   ·rw[Io b,Io b]
   rw[iO b,iO b]
   by_cases d:18446744073709551616<=a*10+(c.toNat-48)
   ·rw[Io d,Io (by omega)]
   rw[iO d,iO (by omega),yJ r]
  rw[iO h,iO h]
theorem pg(l:Bs):Lib.parseIntB 64 l=Lib.atoiAll l:=by
 have e:∀m:Bs,Lib.parseUintB 64 m=Lib.parseMag m:=λm=>by
  unfold Lib.parseUintB Lib.parseMag
  split
  ·rfl
  exact yJ m 0
 cases l with
 |nil=>rfl
 |cons c r=>
  unfold Lib.parseIntB Lib.atoiAll;simp only[];rw[e];rfl
theorem mX(s:ByteArray)(D:s.size<=4294967280)(w)(x:dD w):
  cL 89 #[.string s] w λe f=>∃n ok,e=.returned (.tuple #[U n,.bool ok])/\(cS s.1.1=if ok=true then some n else none)/\wf n/\bL w f:=by
 cases hA:Lib.atoiAll s.1.1 with
 |ok v=>
  have⟨A,B⟩:=qD hA;have c:wf v:=by unfold wf;exact L4 (by omega)
  have l:Hid (∀f,bL w f->cL 112 #[U v,U 10] f (rT f (.string ⟨(Lib.itoa v).toArray⟩))):=λf m=>
   (Tryz.strconv_FormatInt_10 v A B f (x.l m).2.2.2).mono (by rintro e o ⟨rfl,k,E,rfl⟩;exact⟨rfl,LT _ _ lE _ _⟩)
  have d:Hid (cL 111 #[.string s,U 10,U 64] w (rT w (.tuple #[U v,.nilIface]))):=
   (Tryz.strconv_ParseInt_10_at64_ok s (by omega) v ((pg _).trans hA) w).mono (λe o h=>⟨h.1,by rcases h.2 with rfl|⟨t,h⟩;(exact Kf _ _);(exact mZ _ _ _ _ h)⟩)
  have u:Hid (cS s.1.1=if Lib.itoa v=s.1.1 then some v else none):=by unfold Hid cS;rw[hA]
  have a:=Z c;clear c hA
  by_cases j:Lib.itoa v=s.1.1
  ·have C:(Lib.itoa v).toArray=s.data:=by rw[j]
   have g:=Z (by rw[u.o,Io j]:cS s.1.1=some v);clear u j;go_enter func89,ntmps89;go_wp2_with fail;go_at_call 111;refine d.o.mono ?_;rintro e y ⟨rfl,b⟩;go_wp2_with fail;go_at_call 112;refine(l.o _ b).mono ?_;rintro e o ⟨rfl,i⟩;go_wp2_with fail;go_ret2;exact⟨v,true,rfl,by rw[g.o];rfl,a.o,b.th i⟩
  have C:(Lib.itoa v==s.toList)=false:=by
   rw[ML]
   simpa using j
  have g:=Z (by rw[u.o,iO j]:cS s.1.1=none);clear u j;go_enter func89,ntmps89;go_wp2_with fail;go_at_call 111;refine d.o.mono ?_;rintro e y ⟨rfl,b⟩;go_wp2_with fail;go_at_call 112;refine(l.o _ b).mono ?_;rintro e o ⟨rfl,i⟩;go_wp2_with fail;go_ret2;exact⟨v,false,rfl,by rw[g.o];rfl,a.o,b.th i⟩
 |«syntax»=>
  obtain⟨z,q,r⟩:=x.2.1
  have d:Hid (cL 111 #[.string s,U 10,U 64] w λe f=>∃n t p,e=.returned (.tuple #[U n,.iface t (.pointer (some p))])/\wf n/\bL w f):=
   (Tryz.strconv_ParseInt_10_at64_syntax s (by omega) ((pg _).trans hA) z w q r).mono (by rintro e o ⟨N,rfl,_,_,m⟩;exact⟨0,_,_,rfl,by unfold wf;decide,m⟩)
  have g:Hid (cS s.1.1=none):=by unfold Hid cS;rw[hA]
  clear hA q r;go_enter func89,ntmps89;go_wp2_with fail;go_at_call 111;refine d.o.mono ?_;rintro e y ⟨n,t,p,rfl,c,b⟩;have a:=Z c;clear c;go_wp2_with fail;go_ret2;exact⟨n,false,rfl,by rw[g.o];rfl,a.o,b⟩
 |range=>
  obtain⟨z,q,r⟩:=x.2.2.1
  have d:Hid (cL 111 #[.string s,U 10,U 64] w λe f=>∃n t p,e=.returned (.tuple #[U n,.iface t (.pointer (some p))])/\wf n/\bL w f):=
   (Tryz.strconv_ParseInt_10_at64_range s (by omega) ((pg _).trans hA) z w q r).mono (by rintro e o ⟨N,rfl,_,_,m⟩;exact⟨_,_,_,rfl,by unfold wf Lib.intSat;split<;>decide,m⟩)
  have g:Hid (cS s.1.1=none):=by unfold Hid cS;rw[hA]
  clear hA q r;go_enter func89,ntmps89;go_wp2_with fail;go_at_call 111;refine d.o.mono ?_;rintro e y ⟨n,t,p,rfl,c,b⟩;have a:=Z c;clear c;go_wp2_with fail;go_ret2;exact⟨n,false,rfl,by rw[g.o];rfl,a.o,b⟩
theorem yI(l:Bs):WideAt.IsKeyLit (.string l):=by simp[WideAt.IsKeyLit]
theorem GO(z:Int):WideAt.IsKeyLit (.int .u8 z):=by simp[WideAt.IsKeyLit]
def mq(a:List Bs)(k:Nat)(D:DataW Unit):DataW Unit:=match a with
 |[]=>D
 |n :: r=>mq r (k+1) (D.put (.string n) (.lit (.int .i64 k)))
theorem FP:D1=mq vN 0 (.map []):=rfl
theorem F4:D2=mq fN 0 (.map []):=rfl
theorem jU(l:Bs):∀ (b:List Bs) (k:Nat) (D:DataW Unit),l ∉ b->Maps.has (mq b k D) (.string l)=Maps.has D (.string l)/\(mq b k D).atKey (.string l) Ib=D.atKey (.string l) Ib
 |[],_,_,_=>⟨rfl,rfl⟩
 |n :: r,k,D,h=>by
  have a:Lit.string l≠Lit.string n:=by
   intro e
   injection e with e
   exact h (by simp[e])
  have⟨c,d⟩:=jU l r (k+1) (D.put (.string n) (.lit (.int .i64 k))) (λe=>h (by simp[e]));rw[mq,c,d,Maps.has_put_other a,KT a];exact⟨rfl,rfl⟩
theorem nJ(l):∀ (a:List Bs) (k:Nat) (D:DataW Unit),Maps.IsMap D->a.Nodup->0<=bt a l->Maps.has (mq a k D) (.string l)=true/\(mq a k D).atKey (.string l) Ib=.lit (.int .i64 (k+bt a l))
 |[],_,_,_,_,h=>by simp[bt] at h
 |n :: r,k,D,d,f,h=>by
  have g:=jh r l;have b:=List.nodup_cons.1 f;rw[mq]
  by_cases e:n=l
  ·subst e;have⟨i,c⟩:=jU n r (k+1) (D.put (.string n) (.lit (.int .i64 k))) b.1;rw[i,c,Maps.has_put_same d (yI n),L7 d (yI n)];refine⟨rfl,?_⟩;unfold bt;rw[Io rfl];simp
  unfold bt at h |-
  rw[iO e] at h |-
  by_cases c:bt r l = -1
  ·rw[Io c] at h;omega
  have⟨j,m⟩:=nJ l r (k+1) _ (d.put (.string n) (.lit (.int .i64 k))) b.2 (by omega);refine⟨j,?_⟩;rw[m,iO c,show ((k+1:Nat):Int)+bt r l=(k:Int)+(bt r l+1) by omega]
theorem su:∀ (a:List Bs) (l:Bs),bt a l<0->l ∉ a
 |[],l,_=>by simp
 |n :: r,l,h=>by
  have b:=jh r l;unfold bt at h
  by_cases e:n=l
  ·rw[Io e] at h;omega
  rw[iO e] at h
  by_cases c:bt r l = -1
  ·have:=su r l (by omega);simp[LQ e,this]
  rw[iO c] at h;omega
theorem A6(l):(0<=bt vN l/\Maps.has D1 (.string l)=true/\D1.atKey (.string l) Ib=.lit (.int .i64 (bt vN l)))\/(bt vN l<0/\Maps.has D1 (.string l)=false):=by
 by_cases h:0<=bt vN l
 ·have⟨a,b⟩:=nJ l vN 0 (.map []) LM (by decide) h;exact .inl ⟨h,a,by rw[FP,b];simp⟩
 have⟨a,_⟩:=jU l vN 0 (.map []) (su _ _ (by omega));exact .inr ⟨by omega,a⟩
theorem Il(l):(0<=bt fN l/\Maps.has D2 (.string l)=true/\D2.atKey (.string l) Ib=.lit (.int .i64 (bt fN l)))\/(bt fN l<0/\Maps.has D2 (.string l)=false):=by
 by_cases h:0<=bt fN l
 ·have⟨a,b⟩:=nJ l fN 0 (.map []) LM (by decide) h;exact .inl ⟨h,a,by rw[F4,b];simp⟩
 have⟨a,_⟩:=jU l fN 0 (.map []) (su _ _ (by omega));exact .inr ⟨by omega,a⟩
def lM(b:UInt8):Int:=if fU.contains b=true then 1+Lib.indexByte fU b else 0
theorem Eh(b:UInt8):D3.atKey (.int .u8 b.toNat) Ib=.lit (.int .i64 (lM b)):=by
 have a:∀z,WideAt.IsKeyLit (.int .u8 z):=GO;have c:Maps.IsMap (.map []:DataW Unit):=LM
 have d:∀z:Int,(b.toNat:Int)≠z->Lit.int .u8 b.toNat≠Lit.int .u8 z:=λz h e=>by
  injection e with _ e
  exact h e
 unfold D3
 by_cases f:b=62
 ·subst f;exact L7 (((c.put _ _).put _ _).put _ _) (a 62) _ _
 have k:(b.toNat:Int)≠62:=λe=>f (MH.1 (by show b.toNat=62;omega))
 rw[KT (d 62 k)]
 by_cases g:b=60
 ·subst g;exact L7 ((c.put _ _).put _ _) (a 60) _ _
 have l:(b.toNat:Int)≠60:=λe=>g (MH.1 (by show b.toNat=60;omega))
 rw[KT (d 60 l)]
 by_cases i:b=33
 ·subst i;exact L7 (c.put _ _) (a 33) _ _
 have m:(b.toNat:Int)≠33:=λe=>i (MH.1 (by show b.toNat=33;omega))
 rw[KT (d 33 m)]
 by_cases j:b=61
 ·subst j;exact L7 c (a 61) _ _
 have n:(b.toNat:Int)≠61:=λe=>j (MH.1 (by show b.toNat=61;omega))
 rw[KT (d 61 n)];have o:fU.contains b=false:=by unfold fU;simp[j,i,g,f]
 unfold lM;rw[o];rfl
theorem rx(b:UInt8):(lM b=0) ↔ fU.contains b=false:=by
 have:=Mw fU b;unfold lM
 cases h:fU.contains b
 ·simp
 rw[h] at this;have a:0<=Lib.indexByte fU b:=by simpa using this.symm
 simp;omega
theorem rO(c):∀ (l p:Bs),p∈bI c l->c ∉ p
 |[],p,h=>by simp[bI] at h;subst h;simp
 |b :: l,p,h=>by
  have a:=rO c l;unfold bI at h
  split at h
  ·rcases Kz.1 h with rfl|h
   ·simp
   exact a p h
  rename_i d
  split at h
  ·simp at h;subst h;simpa using λe:c=b=>d e.symm
  rename_i f i g;rw[g] at a
  rcases Kz.1 h with rfl|h
  ·have:=a f (by simp);simp[this];exact λe=>d e.symm
  exact a p (by simp[h])
theorem pK(c:UInt8)(m:Bs):∀x:Bs,c ∉ x->Lib.index (x++c :: m) [c]=x.length
 |[],_=>by simp[Lib.index,List.isPrefixOf]
 |b :: x,h=>by
  have a:=pK c m x (λe=>h (by simp[e]));have d:(c==b)=false:=by rw[Lq];intro e;exact h (by simp[e])
  rw[Lg,Lib.index,a];simp[List.isPrefixOf,d]
theorem oa(c:UInt8):∀x:Bs,c ∉ x->Lib.index x [c] = -1
 |[],_=>by simp[Lib.index]
 |b :: x,h=>by
  have a:=oa c x (λe=>h (by simp[e]));have d:(c==b)=false:=by rw[Lq];intro e;exact h (by simp[e])
  rw[Lib.index,a];simp[List.isPrefixOf,d]
theorem EO(x:Bs)(a:List Bs)(h:(59:UInt8) ∉ x):Lib.cut (fV 59 (x :: a)) [59]=(x,fV 59 a,!a.isEmpty):=by
 cases a with
 |nil=>
  show Lib.cut x [59]=_;unfold Lib.cut;rw[oa 59 x h];rfl
 |cons y r=>
  show Lib.cut (x++59 :: fV 59 (y :: r)) [59]=_;unfold Lib.cut;rw[pK 59 _ x h];simp
theorem xZ{x}(h:0<=bt vN x):bI 32 x=[x]:=by
 have b:=mz vN x h;have c:=jO vN x;have e:vN.length=5:=rfl;rw[e] at c;refine nw 32 x λa=>?_
 rw[<-b] at a;exact(lG.1 (bt vN x).toNat (by omega) _ a).2 rfl
theorem wR{l:Bs}(a:l.length<=60000)(h:gS l=none):cG l=(([],0),1):=by unfold cG;rw[iO (by omega),h]
theorem qA{l:Bs}{p:aD}(a:l.length<=60000)(h:gS l=some p):cG l=if aj p=0 then (p,0) else (([],0),aj p):=by unfold cG;rw[iO (by omega),h]
theorem Bm{l x:Bs}{i:Nat}(h:(bI 59 l)[i]?=some x)(b:i+1<(bI 59 l).length)(a:cC x=none):gS l=none:=by unfold gS;rw[kX cC _ i x (by rw[List.getElem?_dropLast,Io (by omega)];exact h) a]
theorem AW{l x:Bs}{i:Nat}(h:(bI 59 l)[i]?=some x)(b:i+1=(bI 59 l).length):(bI 59 l).getLast (fM 59 l)=x:=by have a:=List.getLast?_eq_some_getLast (fM 59 l);rw[List.getLast?_eq_getElem?,<-b,M8,h] at a;exact(KG a).symm
theorem BD{l x:Bs}{i:Nat}(h:(bI 59 l)[i]?=some x)(a:i+1=(bI 59 l).length)(b:bt vN x<0):gS l=none:=by
 unfold gS;rw[AW h a]
 cases ep cC (bI 59 l).dropLast with
 |none=>rfl
 |some c=>simp only[];rw[Io b]
theorem Gx{l x:Bs}{i:Nat}{a:List aq}(h:(bI 59 l)[i]?=some x)(b:i+1=(bI 59 l).length)(c:ep cC ((bI 59 l).take i)=some a)(d:0<=bt vN x):gS l=some (a,bt vN x):=by unfold gS;rw[AW h b,List.dropLast_eq_take,<-b,M8,c];simp only[];rw[iO (by omega)]
theorem Ga{x h:Bs}{t:List Bs}(a:bI 32 x=h :: t)(b:bt vN h<0):cC x=none:=by unfold cC;rw[a];simp only[];rw[Io b]
theorem At{x h u:Bs}{t:List Bs}{j:Nat}(a:bI 32 x=h :: t)(b:t[j]?=some u)(c:cZ u=none):cC x=none:=by unfold cC;rw[a];simp only[];rw[kX cZ t j u b c];simp
theorem Fg{x h:Bs}{t:List Bs}{cs:List aN}(a:bI 32 x=h :: t)(c:0<=bt vN h)(b:ep cZ t=some cs):cC x=some (cs,bt vN h):=by unfold cC;rw[a];simp only[];rw[iO (by omega),b]
theorem mi:∀ (l cs:Bs) (i:Nat),i<l.length->(Lib.indexAny l cs<0\/(i:Int)<Lib.indexAny l cs)->cs.contains (l.getD i 0)=false
 |[],_,_,h,_=>by simp at h
 |b :: r,cs,i,d,h=>by
  have e:=Lib.indexAny_ge cs r;unfold Lib.indexAny at h
  by_cases a:cs.contains b=true
  ·rw[Io a] at h;omega
  rw[iO a] at h
  cases i with
  |zero=>simpa using a
  |succ i=>
   have f:=mi r cs i (by simpa using d);rw[List.getD_cons_succ];refine f ?_
   by_cases c:(Lib.indexAny r cs==-1)=true
   ·left;have:Lib.indexAny r cs = -1:=by simpa using c
    omega
   rw[iO c] at h;have:Lib.indexAny r cs≠-1:=by simpa using c
   omega
theorem Jw(l:Bs):∃K:Nat,K<=l.length/\(∀i,i<K->lM (l.getD i 0)=0)/\((K=l.length/\cZ l=none)\/(K<l.length/\lM (l.getD K 0)≠0/\cZ l=match cS (l.drop (K+1)) with
  |none=>none
  |some n=>if bt fN (l.take K)<0 then none else some (bt fN (l.take K),lM (l.getD K 0),n))):=by
 have d:=Lib.indexAny_ge fU l;have f:=lU fU l
 by_cases h:Lib.indexAny l fU<0
 ·refine⟨l.length,Ke _,λi b=>(rx _).2 (mi l fU i b (.inl h)),.inl ⟨rfl,?_⟩⟩;unfold cZ;rw[Io h]
 obtain⟨K,c⟩:∃K:Nat,Lib.indexAny l fU=K:=⟨(Lib.indexAny l fU).toNat,by omega⟩;have a:=nN l fU (by omega);rw[c,L3] at a;refine⟨K,by omega,λi b=>(rx _).2 (mi l fU i (by omega) (.inr (by omega))),.inr ⟨by omega,λe=>?_,?_⟩⟩
 ·rw[(rx _).1 e] at a
  cases a
 have e:lM (l.getD K 0)=1+Lib.indexByte fU (l.getD K 0):=by unfold lM;rw[Io a]
 unfold cZ;rw[c,iO (by omega),L3,e];rfl
theorem tu{α:Type}(f:Bs->Option α):∀ (l:List Bs) (r:List α),ep f l=some r->∀a∈r,∃w∈l,f w=some a
 |[],r,h,a,b=>by simp[ep] at h;subst h;cases b
 |x :: l,r,h,a,b=>by
  rw[ep] at h
  cases h1:f x<;>cases h2:ep f l<;>rw[h1,h2] at h<;>simp at h;subst h
  rcases Kz.1 b with rfl|b
  ·exact⟨x,by simp,h1⟩
  have⟨w,c,e⟩:=tu f l _ h2 a b;exact⟨w,by simp[c],e⟩
def I3(c:aN):Prop:=wf c.1/\wf c.2.1/\wf c.2.2
def zO(r:aq):Prop:=wf r.2/\∀c∈r.1,I3 c
theorem CK{l:Bs}{r:aq}(h:cC l=some r):zO r:=by
 refine⟨yx h,λc a=>?_⟩;unfold cC at h
 split at h
 ·cases h
 split at h
 ·cases h
 split at h
 ·cases h
 rename_i d b
 cases h;have⟨w,_,e⟩:=tu cZ _ _ b c a;exact yZ e
theorem EG{B base:Nat}{w:World}{cv:Value}{cs:List aN}(h:w.ownsRow base 136 3 cv cs.length (dP cs))(b:∀c∈cs,I3 c)(t:w.1.size<=B):bG B w cv cs:=by
 obtain⟨a,d,rfl,f,j,k⟩:=an h;refine⟨a,d,rfl,f,j,λi c e=>?_⟩;have u:i<cs.length:=(K9.1 e).1;obtain⟨g,rfl,l,m⟩:=k (by omega);have⟨n,o,p⟩:=qr cs i c e;have⟨q,r,s⟩:=b c (Kb e);refine⟨g,0,rfl,by omega,?_,?_,?_,q,r,s⟩
 ·rw[Kp];exact aK h _ _ n
 ·rw[Kp];exact aK h _ _ o
 rw[Kp];exact aK h _ _ p
theorem EZ{B base:Nat}{w:World}{rv:Value}{b:List aq}{xs:List Value}(h:w.ownsRow base 133 2 rv b.length xs)(f:cH base w b xs)(c:∀r∈b,zO r)(j:w.1.size<=B):bD B w rv b:=by
 obtain⟨a,d,rfl,k,l,m⟩:=an h;refine⟨a,d,rfl,k,l,λi r e=>?_⟩;have x:i<b.length:=(K9.1 e).1;obtain⟨g,rfl,n,o⟩:=m (by omega);have⟨p,q,s,t⟩:=cH.get b xs i r f e;have⟨u,v⟩:=c r (Kb e);refine⟨g,0,rfl,by omega,p,?_,?_,u,EG t v j⟩
 ·rw[Kp];exact aK h _ _ q
 rw[Kp];exact aK h _ _ s
theorem In{B base:Nat}{w:World}{rv:Value}{a:List aq}{d}{xs:List Value}(h:w.ownsRow base 133 2 rv a.length xs)(c:cH base w a xs)(b:∀r∈a,zO r)(e:wf d)(f:w.1.size<=B):aX B w (.agg #[rv,U d]) (a,d):=
 ⟨rv,rfl,e,EZ h c b f⟩
theorem pM(e w):cL 86 #[U e] w λr a=>r=.returned (.tuple #[.agg #[nL,U 0],U e])/\bL w a:=by go_enter func86,ntmps86;go_wp2_with fail;have b:=(Kr w (.cells #[nL,U 0] 30)).1;have⟨c,d,_,_⟩:=ag b;refine Ka (v:=.tuple #[.agg #[nL,U 0],U e]) ?_ rfl ⟨rfl,bR.alloc lE _⟩;rw[K8 rfl];go_simp
theorem mF{w wx R0}(a:Below R0 w wx)(h:wx.1[R0]?=some (.cells #[nL,U 0] 30 (0,0))):
  Below R0 w ((wx.setCell (pA R0 0) nL).setCell (pA R0 1) (U 0))/\
  ((wx.setCell (pA R0 0) nL).setCell (pA R0 1) (U 0)).cell? (pA R0 0)=some nL/\
  ((wx.setCell (pA R0 0) nL).setCell (pA R0 1) (U 0)).cell? (pA R0 1)=some (U 0):=by
 have⟨b,c,_,_⟩:=ag (du (u:=U 0) (dC (u:=nL) h));exact⟨a.s2 lE,b,c⟩
