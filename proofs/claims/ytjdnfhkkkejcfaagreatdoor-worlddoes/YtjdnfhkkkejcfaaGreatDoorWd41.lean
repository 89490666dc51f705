import Derived.Test.YtjdnfhkkkejcfaaGreatDoorWd37
import Derived.Test.YtjdnfhkkkejcfaaGreatDoorWd40
set_option linter.all false
set_option maxRecDepth 100000
set_option maxHeartbeats 8000000
namespace Go.Proofs.YtjdnfhkkkejcfaaGreatDoor
open Go.RowKit Go.Maps Go.Proofs.Tryz
def uK(a:List ByteArray)(k:Nat):Nat:=((a.take k).map ByteArray.size).sum
theorem BS{a:List ByteArray}{k:Nat}{x:ByteArray}(h:a[k]?=some x):uK a (k+1)=uK a k+x.size:=by unfold uK;rw[LC,h];simp
theorem Gg(ws)(k:Nat):uK ws k<=uK ws ws.length:=by
 unfold uK;rw[L6]
 conv=>rhs;rw[<-Ms k ws]
 rw[List.map_append,List.sum_append];omega
def fw(a:Bs)(r:List ByteArray)(k:Nat):Bs:=a++(r.take k).flatMap λy=>32 :: y.1.1
theorem wt{x0}{r:List ByteArray}{k:Nat}{y:ByteArray}(h:r[k]?=some y):fw x0 r (k+1)=(fw x0 r k++[32])++y.1.1:=by unfold fw;rw[LC,h];simp
theorem Ew(b:ByteArray)(r k):(fw b.1.1 r k).length<=uK (b :: r) (r.length+1)+r.length:=by
 unfold fw uK;rw[show r.length+1=(b :: r).length from rfl,L6,Kj,<-KR]
 have:∀l:List ByteArray,(l.flatMap λy=>(32:UInt8) :: y.1.1).length=(l.map ByteArray.size).sum+l.length:=by
  intro l
  induction l with
  |nil=>rfl
  |cons a l d=>rw[KQ,Kj,d,Lt,List.sum_cons,Kv,Kv,<-KR];omega
 rw[this];have c:=Gg r k;unfold uK at c;rw[L6] at c;have e:(r.take k).length<=r.length:=by rw[Kt];omega
 rw[Lt,List.sum_cons];omega
theorem sE(s:ByteArray):dU s.1.1=s:=by cases s;simp[dU]
theorem GL(C c n:Nat)(a:ByteArray)(r:List ByteArray)(w:World)(g:∀ (j:Nat) x,(a :: r)[j]?=some x->w.cell? ⟨C,j,none⟩=some (.string x))(W:C<w.1.size)(hn:n=2\/n=3)(D:r.length+1=n)(bp:n<=c)(aa:uK (a :: r) n<=10000000000)(ac:a.1.1≠[]):
  cL 156 #[.slice (sO C) n c,.string ⟨#[32]⟩] w (rT w (.string (dU (fw a.1.1 r r.length)))):=by
 have HC:=Z g;have HL:Hid (∀k,uK (a :: r) k<=10000000000):=by intro k;have X:=Gg (a :: r) k;rw[show (a :: r).length=n from D] at X;omega
 have HJ:Hid (∀k,(fw a.1.1 r k).length<=20000000000):=by intro k;have X:=Ew a r k;rw[D] at X;omega
 have ad:=Z ac;have ae:Hid (w.cell? (pA C 0)=some (.string a)):=g 0 a rfl
 have HG:∀k:Nat,k<n->∃x,(a :: r)[k]?=some x:=λk hk=>⟨(a :: r)[k]'(by simpa [D] using hk),by simp⟩
 have af:=Z HG
 have ak:Hid (∀k:Nat,k+1<n->∃y,r[k]?=some y):=λk hk=>⟨r[k]'(by omega),by simp⟩
 have al:=Z D;clear g aa ac HG D
 rcases hn with rfl|rfl
 ·go_enter func156,ntmps156;go_wp2_with fail;go_loop [5,41] (λnv o=>∃k:Nat,k<=2/\o=U k/\nv=U ((1+uK (a :: r) k:Nat):Int)) (λ_ o=>2-(intOf o).toNat)
  case atStart=>exact⟨0,Ks _,rfl,by simp[uK]⟩
  case round=>
   obtain⟨k,hk,rfl,rfl⟩:=hrel
   by_cases Y:k<2
   ·have⟨x,hx⟩:=af.o k Y;have hc:=HC.o k x hx;have f:=BS hx;have h:=HL.o (k+1);generalize E:uK (a :: r) (k+1)=A1 at f h;generalize uK (a :: r) k=A0 at f;have a1:=Z E;clear E hx;go_wp2;exact⟨⟨k+1,by omega,by go_num,by rw[a1.o];refine congrArg _ ?_;omega⟩,by simp[intOf];omega⟩
   have q:k=2:=by omega
   subst q;have hT:=HL.o 2;generalize uK (a :: r) 2=T at hT;go_wp2_with fail;have F:((1:Int)+(T:Int))=((1+T:Nat):Int):=by omega
   first|rw[F]|skip
   have G:Hid _:=AK w.1.size w.1.size (1+T) (w.alloc (.cells #[.pointer none,nL] 226)) lE ((Kr w _).1) (by simp) (by omega);have H:Hid (bL w (w.alloc (.cells #[.pointer none,nL] 226))):=(Kf w.1.size w).alloc lE _;clear F hT;go_at_call 189;refine Calls.mono G.o ?_;rintro e A ⟨rfl,X,I⟩;have d:=H.o.trans I;have a2:A.cell? (pA C 0)=some (.string a):=(d.cell (p:=pA C 0) W).trans ae.o;have H1:Hid (dY w.1.size w.1.size (Lib.byteCells []) A):=Or.inr X;have a3:=Z d;have J:=d.size;have K:Hid (cL 186 #[.pointer (MZ w),.string a] A λe b=>(∃n:Int,e=.returned (.tuple #[U n,.nilIface]))/\dY w.1.size w.1.size (Lib.byteCells ([]++a.1.1)) b/\Below w.1.size A b/\iN w.1.size A b):=by have:=j8 w.1.size w.1.size [] a.1.1 A H1.o (by have:=HJ.o 0;unfold fw at this;simp at this |-;omega) J;rw[sE] at this;exact this
   clear X I d G H;go_wp2_with fail;go_at_call 186;refine Calls.mono K.o ?_;rintro e w2 ⟨⟨m,rfl⟩,h2,L,-⟩
   have H2:Hid (dY w.1.size w.1.size (Lib.byteCells (fw a.1.1 r 0)) w2):=by
    unfold Hid fw
    simpa using h2
   have a4:=Z (a3.o.trans L);clear h2 L K a2 J;go_wp2_with fail;go_loopw [65] (λo wr=>∃k:Nat,k<=1/\o=U k/\Hid (dY w.1.size w.1.size (Lib.byteCells (fw a.1.1 r k)) wr)/\Hid (bL w wr)) (λo _=>1-(intOf o).toNat)
   case atStart=>exact⟨0,Ks _,rfl,H2,a4⟩
   case round=>
    obtain⟨k,bb,rfl,HB,i⟩:=hrel;have⟨B,a5⟩:=nM (wr);subst a5
    by_cases bc:k<1
    ·obtain⟨y,hy⟩:=ak.o k (by omega);have bd:B.cell? ⟨C,1+k,none⟩=some (.string y):=by rw[i.o.cell (p:=⟨C,1+k,none⟩) W,show 1+k=k+1 by omega];exact HC.o (k+1) y (by simpa using hy)
     have M:=i.o.size;have s:=HJ.o (k+1);have t:Hid (fw a.1.1 r (k+1)=(fw a.1.1 r k++[32])++y.1.1):=wt hy;rw[t.o] at s;simp only[Kj,Kv,Lf] at s;have N:Hid (cL 186 #[.pointer (MZ w),.string ⟨#[32]⟩] B λe b=>(∃n:Int,e=.returned (.tuple #[U n,.nilIface]))/\dY w.1.size w.1.size (Lib.byteCells (fw a.1.1 r k++[32])) b/\Below w.1.size B b/\iN w.1.size B b):=j8 w.1.size w.1.size (fw a.1.1 r k) [32] B HB.o (by simp;omega) M;have O:Hid (∀b,w.1.size<=b.1.size->dY w.1.size w.1.size (Lib.byteCells (fw a.1.1 r k++[32])) b->cL 186 #[.pointer (MZ w),.string y] b λe u=>(∃n:Int,e=.returned (.tuple #[U n,.nilIface]))/\dY w.1.size w.1.size (Lib.byteCells (fw a.1.1 r (k+1))) u/\Below w.1.size b u/\iN w.1.size b u):=λb hs hi=>by have:=j8 w.1.size w.1.size (fw a.1.1 r k++[32]) y.1.1 b hi (by rw[Kj,Kv,Lf];omega) hs;rw[sE,<-t.o] at this;exact this
     clear s hy t;go_wp2_with fail;go_at_call 186;refine Calls.mono N.o ?_;rintro e w3 ⟨⟨m3,rfl⟩,h3,v,-⟩;have P:=v.u M;have l:Hid _:=O.o w3 P h3;have a7:=Z v;clear h3 v N O;go_wp2_with fail;go_at_call 186;refine Calls.mono l.o ?_;rintro e w4 ⟨⟨m4,rfl⟩,h4,Q,-⟩;have H4:=Z h4;have a8:=Z ((i.o.trans a7.o).trans Q);clear h4 Q l;go_wp2;exact⟨⟨k+1,by omega,by go_num,H4,a8⟩,by simp[intOf];omega⟩
    have q:k=1:=by omega
    have R:r.length=1:=by have:=al.o;omega
    subst q;have z:=HB.o;rw[<-R] at z;have S:Hid _:=Tryz.Builder_String w.1.size w.1.size (fw a.1.1 r r.length) B z (λe=>by unfold fw at e;exact ad.o (MY.1 e).1);clear z R;go_wp2_with fail;go_at_call 188;refine Calls.mono S.o ?_;rintro e w5 ⟨rfl,V⟩;have a9:=Z (i.o.trans V);clear V S;go_wp2;go_ret;exact⟨rfl,a9.o⟩
 go_enter func156,ntmps156;go_wp2_with fail;go_loop [5,41] (λnv o=>∃k:Nat,k<=3/\o=U k/\nv=U ((2+uK (a :: r) k:Nat):Int)) (λ_ o=>3-(intOf o).toNat)
 case atStart=>exact⟨0,Ks _,rfl,by simp[uK]⟩
 case round=>
  obtain⟨k,hk,rfl,rfl⟩:=hrel
  by_cases Y:k<3
  ·have⟨x,hx⟩:=af.o k Y;have hc:=HC.o k x hx;have f:=BS hx;have h:=HL.o (k+1);generalize E:uK (a :: r) (k+1)=A1 at f h;generalize uK (a :: r) k=A0 at f;have a1:=Z E;clear E hx;go_wp2;exact⟨⟨k+1,by omega,by go_num,by rw[a1.o];refine congrArg _ ?_;omega⟩,by simp[intOf];omega⟩
  have q:k=3:=by omega
  subst q;have hT:=HL.o 3;generalize uK (a :: r) 3=T at hT;go_wp2_with fail;have F:((2:Int)+(T:Int))=((2+T:Nat):Int):=by omega
  first|rw[F]|skip
  have G:Hid _:=AK w.1.size w.1.size (2+T) (w.alloc (.cells #[.pointer none,nL] 226)) lE ((Kr w _).1) (by simp) (by omega);have H:Hid (bL w (w.alloc (.cells #[.pointer none,nL] 226))):=(Kf w.1.size w).alloc lE _;clear F hT;go_at_call 189;refine Calls.mono G.o ?_;rintro e A ⟨rfl,X,I⟩;have d:=H.o.trans I;have a2:A.cell? (pA C 0)=some (.string a):=(d.cell (p:=pA C 0) W).trans ae.o;have H1:Hid (dY w.1.size w.1.size (Lib.byteCells []) A):=Or.inr X;have a3:=Z d;have J:=d.size;have K:Hid (cL 186 #[.pointer (MZ w),.string a] A λe b=>(∃n:Int,e=.returned (.tuple #[U n,.nilIface]))/\dY w.1.size w.1.size (Lib.byteCells ([]++a.1.1)) b/\Below w.1.size A b/\iN w.1.size A b):=by have:=j8 w.1.size w.1.size [] a.1.1 A H1.o (by have:=HJ.o 0;unfold fw at this;simp at this |-;omega) J;rw[sE] at this;exact this
  clear X I d G H;go_wp2_with fail;go_at_call 186;refine Calls.mono K.o ?_;rintro e w2 ⟨⟨m,rfl⟩,h2,L,-⟩
  have H2:Hid (dY w.1.size w.1.size (Lib.byteCells (fw a.1.1 r 0)) w2):=by
   unfold Hid fw
   simpa using h2
  have a4:=Z (a3.o.trans L);clear h2 L K a2 J;go_wp2_with fail;go_loopw [65] (λo wr=>∃k:Nat,k<=2/\o=U k/\Hid (dY w.1.size w.1.size (Lib.byteCells (fw a.1.1 r k)) wr)/\Hid (bL w wr)) (λo _=>2-(intOf o).toNat)
  case atStart=>exact⟨0,Ks _,rfl,H2,a4⟩
  case round=>
   obtain⟨k,bb,rfl,HB,i⟩:=hrel;have⟨B,a5⟩:=nM (wr);subst a5
   by_cases bc:k<2
   ·obtain⟨y,hy⟩:=ak.o k (by omega);have bd:B.cell? ⟨C,1+k,none⟩=some (.string y):=by rw[i.o.cell (p:=⟨C,1+k,none⟩) W,show 1+k=k+1 by omega];exact HC.o (k+1) y (by simpa using hy)
    have M:=i.o.size;have s:=HJ.o (k+1);have t:Hid (fw a.1.1 r (k+1)=(fw a.1.1 r k++[32])++y.1.1):=wt hy;rw[t.o] at s;simp only[Kj,Kv,Lf] at s;have N:Hid (cL 186 #[.pointer (MZ w),.string ⟨#[32]⟩] B λe b=>(∃n:Int,e=.returned (.tuple #[U n,.nilIface]))/\dY w.1.size w.1.size (Lib.byteCells (fw a.1.1 r k++[32])) b/\Below w.1.size B b/\iN w.1.size B b):=j8 w.1.size w.1.size (fw a.1.1 r k) [32] B HB.o (by simp;omega) M;have O:Hid (∀b,w.1.size<=b.1.size->dY w.1.size w.1.size (Lib.byteCells (fw a.1.1 r k++[32])) b->cL 186 #[.pointer (MZ w),.string y] b λe u=>(∃n:Int,e=.returned (.tuple #[U n,.nilIface]))/\dY w.1.size w.1.size (Lib.byteCells (fw a.1.1 r (k+1))) u/\Below w.1.size b u/\iN w.1.size b u):=λb hs hi=>by have:=j8 w.1.size w.1.size (fw a.1.1 r k++[32]) y.1.1 b hi (by rw[Kj,Kv,Lf];omega) hs;rw[sE,<-t.o] at this;exact this
    clear s hy t;go_wp2_with fail;go_at_call 186;refine Calls.mono N.o ?_;rintro e w3 ⟨⟨m3,rfl⟩,h3,v,-⟩;have P:=v.u M;have l:Hid _:=O.o w3 P h3;have a7:=Z v;clear h3 v N O;go_wp2_with fail;go_at_call 186;refine Calls.mono l.o ?_;rintro e w4 ⟨⟨m4,rfl⟩,h4,Q,-⟩;have H4:=Z h4;have a8:=Z ((i.o.trans a7.o).trans Q);clear h4 Q l;go_wp2;exact⟨⟨k+1,by omega,by go_num,H4,a8⟩,by simp[intOf];omega⟩
   have q:k=2:=by omega
   have R:r.length=2:=by have:=al.o;omega
   subst q;have z:=HB.o;rw[<-R] at z;have S:Hid _:=Tryz.Builder_String w.1.size w.1.size (fw a.1.1 r r.length) B z (λe=>by unfold fw at e;exact ad.o (MY.1 e).1);clear z R;go_wp2_with fail;go_at_call 188;refine Calls.mono S.o ?_;rintro e w5 ⟨rfl,V⟩;have a9:=Z (i.o.trans V);clear V S;go_wp2;go_ret;exact⟨rfl,a9.o⟩
def IM(W:World)(b a:Bs)(i:Nat)(c:Nat->Value->Prop)(w:World):Prop:=
 Cq W b i c w/\∀u,c 9 u->∃g:Nat,u=.slice (sO g) 2 2/\W.1.size<=g/\w.1[g]?=some (.cells #[.string (dU b),.string (dU a)] 9 (0,0))
def JS(b a:Bs)(i:Nat)(k:Nat)(v:Value):Prop:=if k=9 then ∃g:Nat,v=.slice (sO g) 2 2 else JJ b a i k v
theorem Gz(nm num i k):∃v,JS nm num i k v:=by
 unfold JS
 split
 ·exact⟨_,0,rfl⟩
 exact Bh _ _ _ _
theorem IM.keep{W w w' nm num i k v}{a:Nat->Value->Prop}(h:IM W nm num i a w)(d:bL w w')(f:Cq W nm i (d9 a k v) w')(j:9≠k):IM W nm num i (d9 a k v) w':=by
 refine⟨f,λu b=>?_⟩
 rcases b with b|⟨e,_⟩
 ·have⟨g,e,l,c⟩:=h.2 u b;exact⟨g,e,l,(d.block g (io c)).trans c⟩
 exact absurd e j
theorem IM.row{W w nm num i}{b:Nat->Value->Prop}(h:IM W nm num i b w):IM W nm num i (d9 b 9 (.slice (sO w.1.size) 2 2)) (w.alloc (.cells #[.string (dU nm),.string (dU num)] 9)):=by
 have c:=(Kf w.1.size w).alloc lE (.cells #[.string (dU nm),.string (dU num)] 9);refine⟨h.1.other c _ (by decide) (by decide),λu a=>?_⟩
 rcases a with a|⟨_,rfl⟩
 ·have⟨g,e,f,d⟩:=h.2 u a;exact⟨g,e,f,(c.block g (io d)).trans d⟩
 exact⟨_,rfl,h.1.1.size,ah _ _⟩
theorem DU{w w':World}{g b o:Nat}{n c:Nat}(h:w.grownBy w' (Value.slice (sO g) n c).ownBlock)(d:b<w.1.size)(a:b≠g):w'.cell? ⟨b,o,none⟩=w.cell? ⟨b,o,none⟩:=by have:=h.block b d (λe=>a (by simpa [Value.ownBlock] using e));simp[World.cell?,this]
theorem En{a:Bs}(h:a.length<=1):([a].map List.length).sum<=1000000000:=by simp;omega
theorem EY{a b:Bs}(h:a.length<=1)(c:b.length<=1):([a,b].map List.length).sum<=1000000000:=by simp;omega
theorem IG{a:Bs}{p:aD}(h:a.length<=1)(b:aj p=0):([a,cW p].map List.length).sum<=1000000000:=by
 have c:=jF b;have d:=iT p.1 c.2.2;have e:=jM p.2;have f:(cW p).length<=96000005:=by unfold cW;rw[Kj];omega
 simp;omega
theorem Aq(B:Nat)(a:Bs)(xs:List Bs)(T:Bs)(k:Value)(w':World)(o:a.length<=5)(d:a≠[])(F:xs.length=1\/xs.length=2)(G:(xs.map List.length).sum<=1000000000)(l:w'.ownsRow B 9 1 k (xs.length+1) (.string (dU a) :: xs.map λx=>.string (dU x)))(p:T=a++xs.flatMap λx=>32 :: x):∃g c,k=.slice (sO g) (xs.length+1) c/\cL 156 #[.slice (sO g) (xs.length+1) c,.string ⟨#[32]⟩] w' (rT w' (.string (dU T))):=by
 have q:xs.length+1=2\/xs.length+1=3:=by omega
 have⟨H,b,r,f,m,n⟩:=an l;obtain⟨h,s,t,i⟩:=n (Nat.succ_pos _);clear n;subst s;subst r;refine⟨h,b,rfl,?_⟩
 have u:∀ (j:Nat) x,(dU a :: xs.map dU)[j]?=some x->w'.cell? ⟨h,j,none⟩=some (.string x):=by
  intro j x v
  have w:(Value.string (dU a) :: xs.map λx=>Value.string (dU x))[j]?=some (.string x):=by
   have y:(Value.string (dU a) :: xs.map λx=>Value.string (dU x))=(dU a :: xs.map dU).map Value.string:=by simp
   rw[y,Ku,v];rfl
  exact aK l j _ w
 have z:uK (dU a :: xs.map dU) (xs.length+1)<=10000000000:=by
  unfold uK;rw[Ki (by simp),Lt,List.sum_cons,ph,List.map_map];have A:(ByteArray.size ∘ dU)=(List.length:Bs->Nat):=by funext x;exact ph x
  rw[A];omega
 have C:(dU a).1.1≠[]:=by simpa [dU] using d
 have D:(xs.map dU).length+1=xs.length+1:=by simp
 refine(GL h b (xs.length+1) (dU a) (xs.map dU) w' u i q D f z C).mono λe E ⟨f,m⟩=>⟨?_,m⟩
 rw[f,p];unfold fw;rw[show (xs.map dU).length=xs.length by simp,Ki (by simp),List.flatMap_map];simp[dU]
theorem CA(B v r w)(he:dD w)(hr:cI B w v r)(hB:B<=w.1.size):
  cL 128 #[v] w (rT w (.tuple #[.string (dU (fP r)),U (aZ r)])):=by
 have HC:=Z λb (h:bL w b)=>jy B v r b (hr.l h hB) (h.u hB)
 have b5:=Z λb (h:bL w b)=>he.l h
 have HP:Hid (fP r=if aZ r=0 then aU r else []):=rfl;obtain⟨a,c,rfl,hp⟩:=hr.shape;have o:=Z λb (h:bL w b)=>EH B _ r.2.2.2 b (he.l h) (hp.l h hB) (h.u hB)
 clear hr hp he;obtain⟨k,j,D,L,d⟩:=r;simp only at*;have hb:∀X,bL w (w.alloc X):=λX=>bR.alloc lE _
 have⟨E,hE⟩:=nM (aZ (k,j,D,L,d));have HE:=Z hE
 rw[<-hE] at HC HP |-
 clear hE;have⟨n,hn⟩:=nM (L.length);have HN:=Z hn
 rw[<-hn] at HC o |-
 clear hn;have⟨W0,W⟩:=nM (w.alloc (.cells #[U k,U j,U D,.slice a n c,U d] 70));have g0:=hA W;have a7:bL w W0:=by rw[W];exact hb _
 have HG:=Z λb (h:bL W0 b)=>Q2 (h.bl g0) (a7.th h)
 have HW:=Z W;clear W g0;go_enter func128,ntmps128;go_wp2_with fail;rw[<-HW.o];go_at_call 115;refine Calls.mono (HC.o _ a7) ?_;rintro e w1 ⟨rfl,a9⟩;have⟨g1,b6⟩:=HG.o w1 a9;have B1:=Z2 a9 b6;have l1:=io g1;have⟨q0,q1,q2,q3,q4⟩:=aF g1;clear g1 b6 a9 a7 hb HC HW
 by_cases h0:E=0
 ·obtain⟨hk,hc,hf,-,b8⟩:=iB (HE.o.symm.trans h0);have aa:=Z (by rw[HP.o,Io h0]:fP (k,j,D,L,d)=aU (k,j,D,L,d));have Y:=Z b8;subst h0;obtain⟨i,a0,I⟩:∃i:Nat,i<4/\k=(i:Int)+1:=⟨(k-1).toNat,by omega,by omega⟩;have i0:(0:Int)<=(i:Int):=by omega
  have i1:(i:Int)<4:=by omega
  have ci:IntKind.i64.wrap (k-1)=(i:Int):=by rw[show k-1=(i:Int) by omega];exact KA _ (by omega)
  have⟨q,N⟩:=nM (kN.getD i []);have u:Hid (q=kN.getD i []/\q.length<=5/\kC[i]?=some (.string (dU q))):=⟨N,by rw[N];exact Gc i,by rw[N];exact IN a0⟩;have ac:=Z (by rw[N];exact II a0:q≠[]);have a1:=Z2 (nF hc.1 hc.2) (nF hf.1 hf.2);have F:Hid ((-9223372036854775808<=j/\j<=9223372036854775807)/\(-9223372036854775808<=D/\D<=9223372036854775807)):=⟨⟨Ml (by decide) hc.1,Ml hc.2 (by decide)⟩,Ml (by decide) hf.1,Ml hf.2 (by decide)⟩;have ck:=Z2 I a0;have c0:∀z:ax w1,z.1.cell? (pW w 0)=some (U k):=λz=>z.cell q0 l1
  have c1:∀z:ax w1,z.1.cell? (pW w 1)=some (U j):=λz=>z.cell q1 l1
  clear N I hk hc hf b8;go_wp2_with fail;have a2:=ax.ne w1
  have J:Hid (∀fs b,IM w1 q (Lib.itoa j) i fs b->∃z:ax w1,b=z.1):=λfs b h=>⟨⟨b,h.1.1⟩,rfl⟩
  refine bJ [_,_,_,_,_,_,_,_,_,_] _ rfl (λk=>k==0||k==4||k==5||k==8||k==9) (IM w1 q (Lib.itoa j) i) (JS q (Lib.itoa j) i) (Gz _ _ _) (by kernel_rfl) (by kernel_rfl) ⟨⟨bR.drew,λ_ h=>h.elim,λ_ h=>h.elim⟩,λ_ h=>h.elim⟩ ?_;refine bw 154 #[] rfl rfl (λb=>by kernel_rfl) (λgs b m f y=>?_) (λv0 cl=>?_)
  ·refine(qp b).mono ?_;rintro e M ⟨rfl,rfl⟩;exact⟨_,rfl,⟨_,rfl⟩,m.keep (bR.alloc lE _) (m.1.lit _ _ u.o.2.2) (by decide)⟩
  go_frame;obtain⟨g,rfl⟩:∃g:Nat,v0=.slice (sO g) 4 4:=cl;iterate 3(refine aP J.o rfl rfl ?_;go_big_quiet_step (fail);refine Km ?_)
  refine cz rfl rfl (λgs b m f y=>⟨.pointer (some ⟨g,i,none⟩),b,?_,⟨_,rfl⟩,m.keep bR (m.1.addr (f 0 _ (.inr ⟨rfl,rfl⟩) (au (by kernel_rfl)))) (by decide)⟩) (λv4 cn=>?_)
  ·clear m f y J a2 c0 c1;go_simp
  go_frame;obtain⟨g4,rfl⟩:∃g:Nat,v4=.pointer (some ⟨g,i,none⟩):=cn;refine cz rfl rfl (λgs b m f y=>⟨.string (dU q),b,?_,rfl,m.keep bR (m.1.other bR _ (by decide) (by decide)) (by decide)⟩) (λv5 co=>?_)
  ·obtain⟨g',e,hl,hc⟩:=m.1.2.2 _ (f 4 _ (.inr ⟨rfl,rfl⟩) (au (by kernel_rfl)));simp at e;subst e;clear m f y J a2 c0 c1;go_simp
  go_frame;obtain rfl:v5=.string (dU q):=co;iterate 2(refine aP J.o rfl rfl ?_;go_big_quiet_step (fail);refine Km ?_)
  refine bw 98 #[U j] rfl rfl (λb=>by kernel_rfl) (λgs b m f y=>?_) (λv8 cp=>?_)
  ·refine(Tryz.strconv_Itoa j F.o.1.1 F.o.1.2 b (b5.o b (B1.o.2.th m.1.1)).2.2.2).mono ?_;rintro e M ⟨rfl,k8,cs,rfl⟩;exact⟨_,rfl,rfl,m.keep (LT _ _ lE _ _) (m.1.other (LT _ _ lE _ _) _ (by decide) (by decide)) (by decide)⟩
  go_frame;obtain rfl:v8=.string (dU (Lib.itoa j)):=cp;refine cz rfl rfl (λgs b m f y=>⟨.slice (MZ b) 2 2,b.alloc (.cells #[.string (dU q),.string (dU (Lib.itoa j))] 9),?_,⟨_,rfl⟩,m.row⟩) (λv9 cv=>?_)
  ·clear m f y J a2 c0 c1;go_simp
  go_frame;obtain⟨g9,rfl⟩:∃g:Nat,v9=.slice (sO g) 2 2:=cv;refine ei ?_;intro M ad;have a3:=ad.1.1;obtain⟨ee,e9,ba,O⟩:=ad.2 _ (.inr ⟨rfl,rfl⟩);simp at e9;subst e9;have bb:=(HG.o M (B1.o.1.th a3)).2;obtain⟨g2,-⟩:=HG.o M (B1.o.1.th a3);have B2:=Z2 (B1.o.1.th a3) bb;have l2:=io g2;have⟨r0,r1,r2,r3,r4⟩:=aF g2;have d0:=io O;have s:=Kl B1.o.2.size ba;have d1:=Z (by omega:w.1.size≠g9)
  have G:Hid (∀b,bL M b->b.ownsRow w.1.size 9 1 (.slice (sO g9) 2 2) 2 [.string (dU q),.string (dU (Lib.itoa j))]):=λb h=>⟨rfl,.inr ⟨g9,2,_,rfl,s,(h.block g9 d0).trans O,Ke _,by rw[ai];omega,rfl,rfl⟩⟩
  clear ad a3 g2 bb a2 J c0 c1 q0 q1 q2 q3 q4 l1 ci O ba s;obtain⟨I,a0⟩:=ck.o;have H:k=1\/k=2\/k=3\/k=4:=by omega
  have K:=Z λb=>tx H b
  obtain⟨em,bc,bd,bf,bg⟩:∃i,prog.info? 9=some i/\i.zero=some (.string ⟨#[]⟩)/\i.size=1/\i.bytes=16:=jL (by kernel_rfl);have⟨T,A⟩:=nM (aU (k,j,D,L,d));have P:=Z (by rw[A];exact aa.o:fP (k,j,D,L,d)=T);have bk:=Z (by rw[ai];omega:2+1<=maxLen)
  by_cases h4:k=4
  ·have hT:T=q++[Lib.itoa j].flatMap λx=>32 :: x:=by rw[A,u.o.1];unfold aU;simp only[iO (show ¬k=3 by omega),Io h4];rw[show (k-1).toNat=i by omega];simp
   obtain⟨gj,a6,ej,HJ⟩:=Aq w.1.size q [Lib.itoa j] T _ M u.o.2.1 ac.o (.inl rfl) (En a1.o.1) (G.o M bR) hT;simp only[Kv,Lf,Kp,Nat.reduceAdd,Value.slice.injEq,Option.some.injEq,Addr.mk.injEq,and_true,true_and] at ej HJ;obtain⟨rfl,rfl⟩:=ej;have Q:Hid _:=HJ;rw[show decide (k=1\/k=2)=false by simp;omega] at K;subst h4;clear I H HJ G o Y hT A;go_wp2_with fail;go_at_call 142;refine Calls.mono (K.o _) ?_;rintro e w3 ⟨rfl,rfl⟩;go_wp2_with fail;go_at_call 156;refine Calls.mono Q.o ?_;rintro e w4 ⟨rfl,d3⟩;have d4:=B2.o.2.th d3;go_wp2_with fail;go_ret2;exact⟨by rw[P.o];rfl,d4⟩
  by_cases h3:k=3
  ·have hT:T=q++[Lib.itoa j,Lib.itoa D].flatMap λx=>32 :: x:=by rw[A,u.o.1];unfold aU;simp only[Io h3];rw[show (k-1).toNat=i by omega];simp
   have HI:Hid (cL 98 #[U D] M (rT M (.string (dU (Lib.itoa D))))):=by refine(Tryz.strconv_Itoa D F.o.2.1 F.o.2.2 M (b5.o M B2.o.2).2.2.2).mono ?_;rintro e w3 ⟨rfl,k8,cs,rfl⟩;exact⟨rfl,LT _ _ lE _ _⟩
   have HT:=Z hT;have t:=EY a1.o.1 a1.o.2;have C:Hid _:=t;rw[show decide (k=1\/k=2)=false by simp;omega] at K;subst h3;clear I H o Y h4 hT A t;generalize Lib.itoa D=fT at*;generalize Lib.itoa j=cT at*;go_wp2_with fail;go_at_call 142;refine Calls.mono (K.o _) ?_;rintro e w3 ⟨rfl,rfl⟩;go_wp2_with fail;go_at_call 98;refine Calls.mono HI.o ?_;rintro e w4 ⟨rfl,l⟩;have af:Hid _:=G.o w4 l;have HA:=Z (l.u B2.o.2.size);have ak:=Z (B2.o.2.th l);clear l;go_wp2_with (first|(at_builtin;go_must (refine gy _ rfl _ _ rfl Tryz.underlying118 bc bd bf bg rfl (by decide) w.1.size _ _ _ rfl _ 1 [.string (dU fT)] rfl w4 rfl rfl w4 bR af.o rfl (by simp[Value.oneCell']) bk.o (by decide) HA.o ?_;intro v9 w9 al R s ao;have av:Hid _:=R;clear R s ao;obtain⟨gj,a6,rfl,HJ⟩:=Aq w.1.size q [cT,fT] T v9 w9 u.o.2.1 ac.o (.inr rfl) C.o al.o HT.o;have Q:Hid _:=HJ;clear HJ)));go_at_call 156;refine Calls.mono Q.o ?_;rintro e dc ⟨rfl,S⟩;have b0:=ak.o.trans av.o;have V:=b0.th S;go_wp2_with fail;go_ret2;exact⟨by rw[P.o];rfl,V⟩
  have b1:aj (L,d)=0:=by
   rcases Y.o with h|h
   ·exact h.2
   omega
  have HT:Hid (T=q++[Lib.itoa j,cW (L,d)].flatMap λx=>32 :: x):=by unfold Hid;rw[A,u.o.1];unfold aU;simp only[iO h3,iO h4];rw[show (k-1).toNat=i by omega];simp
  have t:=IG a1.o.1 b1;have C:Hid _:=t;have bs:ke (L,d)=(cW (L,d),0):=by unfold ke;rw[Io b1]
  have bv:Hid _:=o.o M B2.o.2;rw[bs] at bv;have eq:(k==3)=false:=by simpa using h3
  rw[show decide (k=1\/k=2)=true by simp;omega] at K;clear I H o Y h4 A t bs b1 h3;generalize cW (L,d)=fT at*;generalize Lib.itoa j=cT at*;go_wp2_with fail;go_at_call 142;refine Calls.mono (K.o _) ?_;rintro e w3 ⟨rfl,rfl⟩;go_wp2_with fail;go_at_call 155;refine Calls.mono bv.o ?_;rintro e w4 ⟨rfl,l⟩;have af:Hid _:=G.o w4 l;have HA:=Z (l.u B2.o.2.size);have ak:=Z (B2.o.2.th l);have c4:w4.cell? (pW w 0)=some (U k):=(l.cell (p:=pW w 0) l2).trans r0;have l4:=Kd l2 l.size;clear l;go_wp2_with (first|(at_builtin;go_must (refine gy _ rfl _ _ rfl Tryz.underlying118 bc bd bf bg rfl (by decide) w.1.size _ _ _ rfl _ 1 [.string (dU fT)] rfl w4 rfl rfl w4 bR af.o rfl (by simp[Value.oneCell']) bk.o (by decide) HA.o ?_;intro v9 w9 al R s ao;have av:Hid _:=R;have c9:w9.cell? (pW w 0)=some (U k):=(DU s.o l4 d1.o).trans c4;have l9:w.1.size<w9.1.size:=Kd l4 s.o.size;clear R s ao c4 l4 r0 r1 r2 r3 r4;obtain⟨gj,a6,rfl,HJ⟩:=Aq w.1.size q [cT,fT] T v9 w9 u.o.2.1 ac.o (.inr rfl) C.o al.o HT.o;have Q:Hid _:=HJ;clear HJ)));go_at_call 156;refine Calls.mono Q.o ?_;rintro e dc ⟨rfl,S⟩;have b0:=ak.o.trans av.o;have V:=b0.th S;go_wp2_with fail;go_ret2;exact⟨by rw[P.o];rfl,V⟩
 have aa:=Z (by rw[HP.o,iO h0]:fP (k,j,D,L,d)=[]);have hq:(E != 0)=true:=by simpa using h0
 clear h0;go_wp2_with fail;go_ret2;exact⟨by rw[aa.o];rfl,B1.o.2⟩
theorem Do(s w)(he:dD w):
  cL 113 #[.string s] w λe L=>∃v,e=.returned (.tuple #[v,U (gR s.1.1).2])/\gi w.1.size L v (gR s.1.1).1/\bL w L:=by
 have M:=KR s;have⟨W0,q⟩:=nM (w.alloc (.cells #[U 0,U 0,U 0,nL,U 0] 70));have g0:=hA q;have B:=bA q;have N:=Z λL (h:bL W0 L)=>Q2 (h.bl g0) (B.th h)
 have HW:=Z q
 by_cases r:60000<s.size
 ·have b:Hid (gR s.1.1=(cu,2)):=by unfold Hid gR;rw[Io (by omega)]
  have hl:(60000:Int)<(s.size:Int):=by omega
  have a6:bL w (w.alloc (.cells #[U 0,U 0,U 0,nL,U 0] 70)):=bR.alloc lE _;have gW:=ah w (.cells #[U 0,U 0,U 0,nL,U 0] 70);have⟨z0,z1,z2,z3,z4⟩:=aF gW;clear M r he q g0 B HW N gW;go_enter func113,ntmps113;go_wp2;refine Ka (v:=.tuple #[.agg #[U 0,U 0,U 0,nL,U 0],U 2]) ?_ rfl ⟨_,by rw[b.o],by rw[b.o];exact dg _ _,?_⟩
  ·rw[K8 rfl];go_simp
  exact a6
 have hl:¬((60000:Int)<(s.size:Int)):=by omega
 have O:=F1 s (by omega) W0 (he.l B);have C:Hid _:=O;have f:Hid (gR s.1.1=if (gm s.1.1).2=0 then gP (gm s.1.1).1 else (cu,(gm s.1.1).2)):=by unfold Hid gR;rw[iO (by omega)];exact I2 _
 clear M r he q g0 B O;go_enter func113,ntmps113;go_wp2_with fail;rw[<-HW.o];go_at_call 139;refine Calls.mono C.o ?_;rintro e w1 ⟨v,rfl,j,t⟩;have⟨RR,D⟩:=nM ((gm s.1.1).1);have⟨P,F⟩:=nM ((gm s.1.1).2);rw[<-D] at j
 rw[<-F] at |-
 rw[<-D,<-F] at f;clear D F C;have Q:=Z j;obtain⟨a,c,rfl,-⟩:=j.at.shape;obtain⟨k,o,p,A,d⟩:=RR;simp only[] at*;have HL:Hid (w.1.size<W0.1.size):=io (N.o W0 bR).1;have⟨n,hn⟩:=nM (A.length)
 rw[<-hn] at Q |-
 clear hn j;have⟨R,u⟩:=nM (w1.alloc (.cells #[U k,U o,U p,.slice a n c,U d] 70));have l:=bA u;have S:=hA u;have G:=t.th l;have H:=Z λL (h:bL R L)=>Q3 (h.bl S) (G.th h) (l.th h)
 have b7:¬w.1.size=w1.1.size:=by have:=io (N.o w1 t).1;omega
 have I:=Z Q.o;have J:Hid (cL 115 #[.agg #[U k,U o,U p,.slice a n c,U d]] R (rT R (U (aZ (k,o,p,A,d))))):=jy _ _ (k,o,p,A,d) R (I.o R (λg _ hl=>l.block g hl) l.size) lE;have T:=Z u;have x:Hid (gP (k,o,p,A,d)=if aZ (k,o,p,A,d)=0 then ((k,o,p,A,d),0) else (cu,aZ (k,o,p,A,d))):=rfl;have⟨q0,q1,q2,q3,q4⟩:=aF S;have l2:=io S;generalize aZ (k,o,p,A,d)=E at*
 by_cases m:P=0
 ·have b:=Z (by rw[f.o,Io m,x.o]:gR s.1.1=if E=0 then ((k,o,p,A,d),0) else (cu,E));subst m;clear u l S t G f x;go_wp2_with fail;rw[<-T.o];go_at_call 115;refine Calls.mono J.o ?_;rintro e w3 ⟨rfl,V⟩;have⟨g3,W,X⟩:=H.o w3 V;have⟨r0,r1,r2,r3,r4⟩:=aF g3;have l3:=io g3;have K:=Z X;have⟨i,y⟩:=N.o w3 W;have lb:=io i;have⟨z0,z1,z2,z3,z4⟩:=aF i;have f0:=fZ i 0;have f1:=fZ i 1;have f2:=fZ i 2;have f3:=fZ i 3;have f4:=fZ i 4;have z:=Z y;clear i y W g3 X V T J H q0 q1 q2 q3 q4 l2
  by_cases Y:E=0
  ·have HR:=Z (by rw[b.o,Io Y]:gR s.1.1=((k,o,p,A,d),0));subst Y;go_wp2_with fail;refine Ka (v:=.tuple #[.agg #[U k,U o,U p,.slice a n c,U d],U 0]) ?_ rfl ⟨_,by rw[HR.o],by rw[HR.o];have hL:=HL.o;exact λwF k1 k2=>I.o wF (λg h1 h2=>(k1 g (by omega) (by simp;exact Kd h2 K.o.size)).trans <| ((((Kc _ _ _ _ (by show g≠w.1.size;omega)).trans (Kc _ _ _ _ (by show g≠w.1.size;omega))).trans (Kc _ _ _ _ (by show g≠w.1.size;omega))).trans (Kc _ _ _ _ (by show g≠w.1.size;omega))).trans ((Kc _ _ _ _ (by show g≠w.1.size;omega)).trans (K.o.block g h2))) (Kl (by simp;exact K.o.size) k2),?_⟩
   ·rw[K8 rfl];go_simp
   exact z.o.s5 lE
  have HR:=Z (by rw[b.o,iO Y]:gR s.1.1=(cu,E));have hq:(E != 0)=true:=by simpa using Y
  clear Y;go_wp2_with fail;refine Ka (v:=.tuple #[.agg #[U 0,U 0,U 0,nL,U 0],U E]) ?_ rfl ⟨_,by rw[HR.o],by rw[HR.o];exact dg _ _,?_⟩
  ·rw[K8 rfl];go_simp
  exact z.o.s5 lE
 have b:=Z (by rw[f.o,iO m]:gR s.1.1=(cu,P));have hq:(P != 0)=true:=by simpa using m
 have bo:(P==0)=false:=by simpa using m
 have⟨i,y⟩:=N.o w1 t;have lb:=io i;have⟨z0,z1,z2,z3,z4⟩:=aF i;have f0:=fZ i 0;have f1:=fZ i 1;have f2:=fZ i 2;have f3:=fZ i 3;have f4:=fZ i 4;have z:=Z y;clear u l S t G f x i y H J I m q0 q1 q2 q3 q4 l2;go_wp2_with fail;refine Ka (v:=.tuple #[.agg #[U 0,U 0,U 0,nL,U 0],U P]) ?_ rfl ⟨_,by rw[b.o],by rw[b.o];exact dg _ _,?_⟩
 ·rw[K8 rfl];go_simp
 exact(z.o.s5 lE).alloc (by simp;exact z.o.size) _
def Jm(bs:Bs):Int:=match i8 bs with
 |none=>-1
 |some (a,_)=>a.length
theorem GY:∀e:Bs,Lib.indexByte e 10=Jm e
 |[]=>rfl
 |b :: l=>by
  have c:=GY l
  unfold Jm at c |-
  show (if (b==10)=true then (0:Int) else if (Lib.indexByte l 10==-1)=true then -1 else Lib.indexByte l 10+1)=_
  show _=match (if b=10 then some ([],l) else match i8 l with|none=>none|some (a,t)=>some (b :: a,t)) with|none=>(-1:Int)|some (a,_)=>(a.length:Int)
  by_cases d:b=10
  ·rw[Io (by simpa using d),Io d];rfl
  rw[iO (by simpa using d),iO d]
  cases hc:i8 l with
  |none=>
   rw[hc] at c
   simp only[] at c |-
   rw[c];rfl
  |some x=>
   obtain⟨a,t⟩:=x;rw[hc] at c
   simp only[] at c |-
   rw[c,iO (by simp<;>omega)];simp
theorem BI(bs:Bs):Lib.bytesOf (bs.map λb=>(b.toNat:Int))=bs:=by
 unfold Lib.bytesOf;rw[List.map_map]
 conv=>rhs;rw[<-List.map_id bs]
 refine ME λb _=>?_
 simp
theorem uq(B v bs w)(h:aI B w v bs):
  cL 112 #[v,.int .u8 10] w λe j=>e=.returned (U (Jm bs))/\j=w:=by
 obtain⟨a,d,rfl,t,u,f⟩:=h
 cases a with
 |none=>
  have m:bs=[]:=by
   cases bs with
   |nil=>rfl
   |cons r l=>have⟨b,o,e,_⟩:=f 0 r rfl;cases e
  subst m;have c:=Lib.run_indexByteNil (P:=prog) w 0 d 10;go_enter func112,ntmps112;go_wp2;rw[MD func138 (by kernel_rfl) (by kernel_rfl) (by kernel_rfl) (e:=Extern.BytealgIndexByte.indexByte) (by kernel_rfl),c];simp only[Result.andThen];rw[MI];go_wp2;go_ret;exact⟨rfl,rfl⟩
 |some p=>
  have c:=Lib.run_indexByteAt (P:=prog) w p bs.length d (bs.map λb=>(b.toNat:Int)) (by simp) (λi q=>by
   obtain⟨g,o,e,_,k⟩:=f i bs[i] (by simp);have s:=KG e;subst s;rw[eM,k,Kn,Ku,Lu q]
   rfl) 10
  rw[BI,show (10:Int).toNat.toUInt8=10 by decide,GY] at c;generalize bs.length=n at*;generalize Jm bs=z at*;clear f;go_enter func112,ntmps112;go_wp2;rw[MD func138 (by kernel_rfl) (by kernel_rfl) (by kernel_rfl) (e:=Extern.BytealgIndexByte.indexByte) (by kernel_rfl),c];simp only[Result.andThen];rw[MI];go_wp2;go_ret;exact⟨rfl,rfl⟩
theorem DD{B w a n c bs}(h:aI B w (.slice a n c) bs)(k:Nat)(C:k<=bs.length):∃m,(∀d,(Instr.slice 23 (.slice a n c) (some (U k)) none none).run prog d=.ok (.slice m (n-k) (c-k)) d)/\aI B w (.slice m (n-k) (c-k)) (bs.drop k):=by
 obtain⟨D,E,e,F,G,p⟩:=h;simp at e;obtain⟨rfl,rfl,rfl⟩:=e;obtain⟨q,f,r,j,s⟩:=mo;refine⟨if c=k then a else a.map (·.add (k*1)),λd=>?_,?_⟩
 ·have t:(0:Int)<=(k:Int):=by omega
  have u:(k:Int)<=(bs.length:Int):=by omega
  have v:((k:Int)).toNat=k:=by omega
  simp[Instr.slice,Instr.sliceBounds,Instr.sliceBound,KY Tryz.underlying23,sizeOf,typeInfo,f,j,asIntOf,t,u,v];intro x;exact absurd x (by omega)
 refine⟨_,_,by rw[MA],by rw[MA];omega,by omega,λi b l=>?_⟩;rw[List.getElem?_drop] at l;have y:=(K9.1 l).1;have⟨g,o,e,z,A⟩:=p (k+i) b l;subst e;refine⟨g,o+k,?_,z,by rw[KX];exact A⟩;rw[iO (by omega)];simp[eM]
theorem vQ{B w a n c bs}(h:aI B w (.slice a n c) bs)(k:Nat)(i:k<=bs.length):∃g,(∀b,(Instr.slice 23 (.slice a n c) none (some (U k)) none).run prog b=.ok (.slice g k c) b)/\aI B w (.slice g k c) (bs.take k):=by
 have j:=h.take k i;obtain⟨t,u,e,v,x,y⟩:=h;simp at e;obtain⟨rfl,rfl,rfl⟩:=e;obtain⟨l,d,m,f,o⟩:=mo;refine⟨a,λb=>?_,j⟩;have p:(0:Int)<=(k:Int):=by omega
 have q:(k:Int)<=(c:Int):=by omega
 have r:((k:Int)).toNat=k:=by omega
 simp[Instr.slice,Instr.sliceBounds,Instr.sliceBound,KY Tryz.underlying23,sizeOf,typeInfo,d,f,asIntOf,p,q,r];go_simp;intro s;exact absurd s (by omega)
def cg(L:Nat)(w:World)(v:Value)(bs:Bs):Prop:=∀a:World,(∀g,L<=g->g<w.1.size->a.1[g]?=w.1[g]?)->w.1.size<=a.1.size->aI a.1.size a v bs
theorem AZ{L g:Nat}{w:World}{bs:Bs}(a:L<=g)(f:bs.length<=140737488355328)(h:w.1[g]?=some (.cells (dz bs).toArray 5 (0,0))):cg L w (.slice (sO g) bs.length bs.length) bs:=by intro j c k;have d:=io h;refine⟨_,_,rfl,Ke _,by rw[ai];omega,λi b e=>⟨g,0,rfl,by omega,?_⟩⟩;refine ab ((c g a d).trans h) _ ?_;rw[Kp,LK];unfold dz;rw[Ku,e];rfl
theorem CT(n:Nat)(f:n<=140737488355328)(w:World):(Instr.makeSlice 23 (U n) (U n)).run prog w=.ok (.slice (sO w.1.size) n n) (w.alloc (.cells (madeCells #[.int .u8 0] n) 5)):=by
 obtain⟨a,b,c,d,e⟩:=mo;have:=MQ (P:=prog) w 23 5 a _ Tryz.underlying23 b c .i64 .i64 n n (by omega) (LH _) (by rw[e];omega) (by omega);rw[d] at this
 simpa [Value.cells] using this
theorem oG(B g o f n:Nat)(d:Option Addr)(sv y)(m:Array Value)(w)(h:aI B w sv y)(J:y≠[]->d=some ⟨g,o,none⟩)(D:w.1[g]?=some (.cells m 5 (0,0)))(E:y.length<=f)(x:o+y.length<=m.size):
  ∃z,(∀q,(Builtin.copy_ #[23,23] q #[.slice d f n,sv]).run prog w=.ok (U y.length) z)/\z.1[g]?=some (.cells (m.toList.take o++dz y++m.toList.drop (o+y.length)).toArray 5 (0,0))/\z.1.size=w.1.size/\Below g w z:=by
 obtain⟨K,F,L,G,M⟩:=mo;obtain⟨a,H,rfl,N,O,s⟩:=h;have I:(prog.info? 5).map (·.size)=some 1:=by rw[F];simp[G]
 by_cases A:y=[]
 ·subst A;refine⟨w,λq=>run_copy_none w _ _ q 5 _ _ _ _ _ _ Tryz.underlying23 I (by simp),?_,rfl,Kf _ _⟩;rw[D];simp[dz]
 rw[J A]
 obtain⟨C,e⟩:∃C,a=some C:=by
  cases y with
  |nil=>exact absurd rfl A
  |cons r l=>have⟨b,o,e,_⟩:=s 0 r rfl;exact⟨_,e⟩
 subst e
 have t:∀j u,(dz y)[j]?=some u->w.cell? (C.add j)=some u:=by
  cases y with
  |nil=>exact absurd rfl A
  |cons r l=>
   have⟨b,o,e,_,_⟩:=s 0 r rfl
   cases e;intro j u Q;rw[eM];refine rD (r :: l) o (λi c R=>?_) j u Q;have⟨S,T,e,_,k⟩:=s i c R
   cases e;exact k
 have v:(dz y).length=y.length:=by rw[li,Nat.mul_one]
 have p:=λq=>run_copy_row (P:=prog) w 23 23 q 5 g o f n C y.length H m 5 (dz y) Tryz.underlying23 I D (by rw[v];exact(MJ E).symm) t (by rw[v];exact x) (ue y)
 rw[v] at p;exact⟨_,λq=>p q,setRow_heap w g _ _ _ _ D,by simp[World.setRow],⟨rfl,rfl,rfl,by simp[World.setRow],λk V=>Mx w g k _ (by omega)⟩⟩
theorem kK(B av bv x y w)(M:aI B w av x)(N:aI B w bv y)(O:B<=w.1.size)(z:x.length+y.length<=140737488355328):
  cL 91 #[av,bv] w λe o=>∃v,e=.returned v/\(∃a,v=.slice a (x.length+y.length) (x.length+y.length))/\cg w.1.size o v (x++y)/\bL w o:=by
 have⟨p,j⟩:=nM (madeCells #[.int .u8 0] (x.length+y.length));have h:p.size=x.length+y.length:=by rw[j,LS]
 have b:=λw=>CT (x.length+y.length) z w
 rw[<-j] at b;have⟨X,f⟩:=nM (w.alloc (.cells p 5));have C:=bA f;have P:=hA f;obtain⟨Y,Q,R,s2,S⟩:=oG B w.1.size 0 (x.length+y.length) (x.length+y.length) (MZ w) av x p X (M.l C O) (λ_=>rfl) P (by omega) (by omega);have k:=C.trans S;have i:(p.toList.take 0++dz x++p.toList.drop (0+x.length)).toArray.size=x.length+y.length:=by simp[dz,h]
 obtain⟨d,D⟩:∃d:Option Addr,d=if x.length+y.length=x.length then some (pW w 0) else some (((pW w 0):Addr).add (x.length*1)):=⟨_,rfl⟩
 obtain⟨A,T,V,s3,W⟩:=oG B w.1.size x.length y.length y.length d bv y _ Y (N.l k O) (λhy=>by
  have:y.length≠0:=λe=>hy (LV e)
  rw[D,iO (by omega),eM]
  simp) R lE (by rw[i];omega)
 have q:=k.trans W
 have r:A.1[w.1.size]?=some (.cells (dz (x++y)).toArray 5 (0,0)):=by
  rw[V];congr 2;rw[oS];have E:(dz x).length=x.length:=by rw[li,Nat.mul_one]
  simp[List.take_append,List.drop_append,E];omega
 have c:Hid (cg w.1.size A (.slice (MZ w) (x.length+y.length) (x.length+y.length)) (x++y)/\bL w A):=⟨by
  have:=AZ (L:=w.1.size) (w:=A) (bs:=x++y) lE (by rw[Kj];exact z) r;rw[Kj] at this
  exact this,q⟩
 obtain⟨a3,F,a4,G,a5⟩:=mo
 have g:∀o,(Instr.slice 23 (.slice (MZ w) (x.length+y.length) (x.length+y.length)) (some (U (x.length:Int))) none none).run prog o=.ok (.slice d y.length y.length) o:=λo=>by
  have e1:(0:Int)<=(x.length:Int):=by omega
  have e2:(x.length:Int)<=((x.length+y.length:Nat):Int):=by omega
  have e3:((x.length:Int)).toNat=x.length:=by omega
  rw[D];simp[Instr.slice,Instr.sliceBounds,Instr.sliceBound,KY Tryz.underlying23,sizeOf,typeInfo,F,G,asIntOf,e1,e2,e3]
 obtain⟨aa,ac,ea,-,-,-⟩:=M;obtain⟨ba,bc,eb,-,-,-⟩:=N;subst ea eb;have H:=Z f;have l:Hid _:=Q;have s:Hid _:=T;have⟨n,t⟩:=nM (x.length);have⟨m,u⟩:=nM (y.length)
 rw[<-t] at b c g l z |-
 rw[<-u] at b c g l s z |-
 have I:∀w,(Instr.makeSlice 23 (U ((n:Int)+(m:Int))) (U ((n:Int)+(m:Int)))).run prog w=.ok (.slice (MZ w) (n+m) (n+m)) (w.alloc (.cells p 5)):=λw=>by have:=b w;rw[show ((n+m:Nat):Int)=(n:Int)+m by omega] at this;exact this
 have J:Hid _:=g;have K:IntKind.i64.wrap ((n:Int)+(m:Int))=(n:Int)+(m:Int):=KA _ (by omega);clear f Q T b j h D i P R V r C S W k q s2 s3 t u;go_enter func91,ntmps91;go_wp2_with fail;rw[<-H.o,l.o];clear I K;have g:=J.o;go_wp2_with fail;rw[s.o];go_wp2_with fail;go_ret;exact⟨_,rfl,⟨_,rfl⟩,c.o.1,c.o.2⟩
theorem AU{w:World}{k:Nat}{a b c d e:Value}{T}(h:w.1[k]?=some (.cells #[a,b,c,d,e] T (0,0))):w.frozen? (pA k 0)=false/\w.frozen? (pA k 1)=false/\w.frozen? (pA k 2)=false/\w.frozen? (pA k 3)=false/\w.frozen? (pA k 4)=false:=
 ⟨fZ h _,fZ h _,fZ h _,fZ h _,fZ h _⟩
theorem eY{c:Func}{p u d:Tmp}{e:TypeId}(h:c.results=#[.cell p e,.tmp u,.tmp d])(b:Array Value)(P:Program)(w:World):
  (results c b).run P w=((asAddr (b.getD p undef)).run P w).andThen λa f=>((loadVar e a).run P f).andThen λv g=>.ok (.tuple #[v,b.getD u undef,b.getD d undef]) g:=by
 simp only[results,h];simp[Lj,Result.andThen]
theorem yW{L w w1}{p:Nat}(h:Below L w w1)(a:L<=p)(b c d e f:Value):Below L w (((((w1.setCell (pA p 0) b).setCell (pA p 1) c).setCell (pA p 2) d).setCell (pA p 3) e).setCell (pA p 4) f):=
 h.s5 a
theorem Gm(b:World)(p g:Nat)(a:g≠p)(c d e f h:Value):(((((b.setCell (pA p 0) c).setCell (pA p 1) d).setCell (pA p 2) e).setCell (pA p 3) f).setCell (pA p 4) h).1[g]?=b.1[g]?:=
 (((((Kc _ _ _ _ a).trans (Kc _ _ _ _ a)).trans (Kc _ _ _ _ a)).trans (Kc _ _ _ _ a)).trans (Kc _ _ _ _ a))
theorem xK(B v bs w)(h:aI B w v bs)(m:B<=w.1.size)(l:i8 bs=none):
  cL 90 #[v] w (rT w (.tuple #[.agg #[U 0,U 0,U 0,nL,U 0],U 0,U 8])):=by
 have g:Hid (∀f,aI B f v bs->cL 112 #[v,.int .u8 10] f λe i=>e=.returned (U (-1))/\i=f):=λf o=>by have:=uq B v bs f o;unfold Jm at this;rw[l] at this;exact this
 have⟨r,b⟩:=nM (w.alloc (.cells #[U 0,U 0,U 0,nL,U 0] 70));have j:=hA b;have d:=bA b;have p:=Z (h.l d m);have⟨s,t,u,x,y⟩:=aF j;have⟨z,A,C,D,E⟩:=AU j;have q:=Z b;have k:=Z d;obtain⟨a,c,rfl,-,-,-⟩:=h;clear b j d;generalize bs.length=n at*;clear l;go_enter func90,ntmps90;go_wp2_with fail;rw[<-q.o];go_at_call 112;refine(g.o _ p.o).mono ?_;rintro e F ⟨rfl,rfl⟩;go_wp2_with fail;refine Ka (v:=.tuple #[.agg #[U 0,U 0,U 0,nL,U 0],U 0,U 8]) ?_ rfl ⟨rfl,yW k.o lE _ _ _ _ _⟩;rw[eY rfl];go_simp
theorem yn(B v)(bs x t:Bs)(w)(Q:dD w)(h:aI B w v bs)(R:B<=w.1.size)(H:bs.length<=60000)(F:i8 bs=some (x,t)):
  cL 90 #[v] w λe b=>∃I,e=.returned (.tuple #[I,U ((x.length:Int)+1),U (ch x).2])/\gi w.1.size b I (ch x).1/\bL w b:=by
 have J:=mY F;have i:Hid (∀b,aI B b v bs->cL 112 #[v,.int .u8 10] b λe j=>e=.returned (U (x.length:Int))/\j=b):=λb h'=>by have:=uq B v bs b h';unfold Jm at this;rw[F] at this;exact this
 have⟨W0,l⟩:=nM (w.alloc (.cells #[U 0,U 0,U 0,nL,U 0] 70));have S:=hA l;have p:=bA l;have K:=Z (h.l p R);have HW:=Z l;have G:=Z λb (h:bL W0 b)=>Q2 (h.bl S) (p.th h)
 obtain⟨a,c,rfl,T,L,-⟩:=id h;obtain⟨a',q,r⟩:=vQ h x.length (by omega);have y:bs.take x.length=x:=by rw[(gL F).1];simp
 rw[y] at r;have s:=Z λb (M:bL w b)=>iz (r.l M R)
 have o:Hid (∀b,bL w b->cL 113 #[.string ⟨x.toArray⟩] b λe j=>∃v,e=.returned (.tuple #[v,U (ch x).2])/\gi b.1.size j v (ch x).1/\bL b j):=λb M=>by
  have:=Do ⟨x.toArray⟩ b (Q.l M);have e:gR (⟨x.toArray⟩:ByteArray).1.1=ch x:=by unfold gR;rw[iO (by simp;omega)]
  rw[e] at this;exact this
 obtain⟨⟨⟨k,V,W,rs,d⟩,RE⟩,z⟩:∃RR,RR=ch x:=⟨_,rfl⟩
 rw[<-z] at o |-
 clear z
 simp only[] at o |-
 have⟨n,X⟩:=nM (bs.length);have⟨m,Y⟩:=nM (x.length)
 rw[<-X] at J H q i K |-
 rw[<-Y] at J q i s |-
 have ac:IntKind.i64.wrap ((m:Int)+1)=(m:Int)+1:=KA _ (by omega);have m0:¬((m:Int)<0):=by omega
 have mc:(m:Int)<=(c:Int):=by omega
 clear F r y T L X Y Q J l S p;go_enter func90,ntmps90;go_wp2_with fail;rw[<-HW.o];go_at_call 112;refine(i.o _ K.o).mono ?_;rintro e w1 ⟨rfl,rfl⟩;go_wp2_with fail;rw[s.o _ (G.o _ bR).2];go_wp2_with fail;go_at_call 113;refine(o.o _ (G.o _ bR).2).mono ?_;rintro e w2 ⟨I,rfl,f,u⟩;have⟨A,C⟩:=G.o w2 u;obtain⟨ra,rc,rfl,-⟩:=f.at.shape;simp only[] at*;have⟨rn,D⟩:=nM (rs.length)
 rw[<-D] at f |-
 clear D;have N:=Z f;have E:=Z C;have O:=Z A;have af:=io A;have⟨z0,z1,z2,z3,z4⟩:=aF A;have⟨f0,f1,f2,f3,f4⟩:=AU A;have P:=Z2 u (io (G.o w1 bR).1:w.1.size<w1.1.size);clear f u C A K i o s m0 mc q O;go_wp2_with fail;refine Ka (v:=.tuple #[.agg #[U k,U V,U W,.slice ra rn rc,U d],U ((m:Int)+1),U RE]) ?_ rfl ⟨_,rfl,λwF k1 k2=>?_,?_⟩
 ·rw[eY rfl];go_simp
 ·have av:=P.o.2;refine N.o wF (λg T L=>?_) (Kl (by simp) k2);have e1:=k1 g (by omega) (by simp;omega);have e2:=Gm w2 w.1.size g (by omega) (U k) (U V) (U W) (.slice ra rn rc) (U d);rw[e1,Kq _ _ _ (by simp;exact L),e2]
 exact(yW E.o lE _ _ _ _ _).alloc (by simp;exact E.o.size) _
def gd(L:Nat)(g:Option Nat)(w:World)(v:Value)(r:az):Prop:=∀a:World,(∀k,L<=k->some k≠g->k<w.1.size->a.1[k]?=w.1[k]?)->w.1.size<=a.1.size->cI a.1.size a v r
theorem gd.of_new{L a:Nat}{g:Option Nat}{w v r}(h:gi a w v r)(j:L<=a)(b:∀k,g=some k->k<a):gd L g w v r:=λc d f=>h c (λk l i=>d k (by omega) (λe=>by have:=b k e.symm;omega) i) f
theorem gd.grown{L}{g a:Option Nat}{w w':World}{v r}(h:gd L g w v r)(b:w.grownBy w' g)(c:a=g\/∃k,a=some k/\w.1.size<=k):gd L a w' v r:=λl m n=>h l (λk o f i=>by
 have d:some k≠a:=by
  rcases c with e|⟨j,e,q⟩
  ·rw[e];exact f
  rw[e];intro p;have:=KG p;omega
 exact(m k o d (Kd i b.size)).trans (b.block k i f)) (Kl b.size n)
theorem gd.beside{L}{g b c:Option Nat}{w w':World}{v r}(h:gd L g w v r)(d:w.grownBy w' b)(m:∀k,b=some k->k<L)(f:c=b\/∃k,c=some k/\w.1.size<=k):gd L c w' v r:=λn o p=>h n (λk q t l=>by
 have a:some k≠b:=λe=>by have:=m k e.symm;omega
 have i:some k≠c:=by
  rcases f with e|⟨j,e,u⟩
  ·rw[e];exact a
  rw[e];intro s;have:=KG s;omega
 exact(o k q i (Kd l d.size)).trans (d.block k l a)) (Kl d.size p)
theorem gd.mono{L a:Nat}{g w v r}(h:gd a g w v r)(b:L<=a):gd L g w v r:=λc d e=>h c (λk f=>d k (Kl b f)) e
theorem gd.keep{L b g w w' v r}(h:gd L g w v r)(c:iE b w w')(i:b<L)(j:w'.1.size=w.1.size):gd L g w' v r:=λd e l=>h d (λk f a m=>(e k f a (by omega)).trans (c k (by omega))) (by omega)
theorem gd.kept{L g w v r}(h:gd L g w v r):jn L g w v r:=λb c d=>h b (λk e a f=>c k e a f) d
def vj(P:Value->az->Prop)(xs:List Value)(a:List az):Prop:=
 xs.length=a.length*5/\(∀u∈xs,u.oneCell'=true)/\∀i r,a[i]?=some r->∃b,xs[i*5]?=some (U r.1)/\xs[i*5+1]?=some (U r.2.1)/\xs[i*5+2]?=some (U r.2.2.1)/\xs[i*5+3]?=some b/\xs[i*5+4]?=some (U r.2.2.2.2)/\P (.agg #[U r.1,U r.2.1,U r.2.2.1,b,U r.2.2.2.2]) r
theorem vj.imp{P Q:Value->az->Prop}{xs rs}(h:vj P xs rs)(a:∀v r,P v r->Q v r):vj Q xs rs:=by obtain⟨b,c,d⟩:=h;refine⟨b,c,λi r e=>?_⟩;have⟨f,g,j,k,l,m,n⟩:=d i r e;exact⟨f,g,j,k,l,m,a _ _ n⟩
theorem vj.snoc{P:Value->az->Prop}{xs rs ra rn rc}{r:az}(h:vj P xs rs)(f:P (.agg #[U r.1,U r.2.1,U r.2.2.1,.slice ra rn rc,U r.2.2.2.2]) r):vj P (xs++[U r.1,U r.2.1,U r.2.2.1,.slice ra rn rc,U r.2.2.2.2]) (rs++[r]):=by
 obtain⟨b,g,j⟩:=h;refine⟨by simp[b];omega,λu c=>?_,λi k a=>?_⟩
 ·rcases KB.1 c with c|c
  ·exact g u c
  simp at c
  rcases c with rfl|rfl|rfl|rfl|rfl<;>rfl
 by_cases l:i<rs.length
 ·rw[Kh l] at a;have⟨d,m,n,o,p,q,s⟩:=j i k a;exact⟨d,by rw[Kh (by omega)];exact m,by rw[Kh (by omega)];exact n,by rw[Kh (by omega)];exact o,by rw[Kh (by omega)];exact p,by rw[Kh (by omega)];exact q,s⟩
 have e:=(K9.1 a).1;simp at e;obtain rfl:i=rs.length:=by omega
 simp at a;subst a;refine⟨.slice ra rn rc,?_,?_,?_,?_,?_,f⟩
 ·rw[Kk (by omega),b];simp
 ·rw[Kk (by omega),b];simp
 ·rw[Kk (by omega),b];simp
 ·rw[Kk (by omega),b];simp
 rw[Kk (by omega),b];simp
theorem vj.append{P:Value->az->Prop}{xs ys rs ss}(h:vj P xs rs)(k:vj P ys ss):vj P (xs++ys) (rs++ss):=by
 obtain⟨l,m,n⟩:=h;obtain⟨o,p,q⟩:=k;refine⟨by simp[l,o];omega,λu s=>?_,λi r a=>?_⟩
 ·rcases KB.1 s with h|h
  ·exact m u h
  exact p u h
 by_cases t:i<rs.length
 ·rw[Kh t] at a;have⟨b,c,d,e,f,g,j⟩:=n i r a;exact⟨b,by rw[Kh (by omega)];exact c,by rw[Kh (by omega)];exact d,by rw[Kh (by omega)];exact e,by rw[Kh (by omega)];exact f,by rw[Kh (by omega)];exact g,j⟩
 rw[Kk (by omega)] at a;obtain⟨b,c,d,e,f,g,j⟩:=q _ r a;refine⟨b,?_,?_,?_,?_,?_,j⟩
 ·rw[Kk (by omega),show i*5-xs.length=(i-rs.length)*5 by omega];exact c
 ·rw[Kk (by omega),show i*5+1-xs.length=(i-rs.length)*5+1 by omega];exact d
 ·rw[Kk (by omega),show i*5+2-xs.length=(i-rs.length)*5+2 by omega];exact e
 ·rw[Kk (by omega),show i*5+3-xs.length=(i-rs.length)*5+3 by omega];exact f
 rw[Kk (by omega),show i*5+4-xs.length=(i-rs.length)*5+4 by omega];exact g
theorem vj.toR{L g w xs rs}(h:vj (jn L g w) xs rs):Ed L g w xs rs:=h
theorem uF(base b:Nat)(v B:Value)(n m:Nat)(xs ys:List Value)(W:World)(a:W.ownsRow base 70 5 v n xs)(D:W.ownsRow b 70 5 B m ys)(E:∀u∈ys,u.oneCell'=true)(F:(n+m)*56<=140737488355328)(d:base<=W.1.size):
  ∃i l,(Builtin.append_ #[52,52] 52 #[v,B]).run prog W=.ok i l/\l.ownsRow base 70 5 i (n+m) (xs++ys)/\W.grownBy l v.ownBlock/\(i.ownBlock=v.ownBlock\/∃k,i.ownBlock=some k/\W.1.size<=k):=by
 obtain⟨o,f,t,w,x⟩:=so;obtain⟨p,y⟩:=D
 rcases y with ⟨rfl,G⟩|⟨g,c,z,rfl,S,q,H,I,J,r⟩
 ·subst G;obtain rfl:ys=[]:=LV (by simpa using p);refine⟨v,W,?_,by simpa using a,⟨rfl,rfl,rfl,Ke _,λ_ _ _=>rfl⟩,.inl rfl⟩
  have K:v=nL\/∃g c,v=.slice (some g) n c/\n<=c:=by
   rcases a.2 with ⟨h,_⟩|⟨g,c,z,h,_,_,L,_⟩
   ·exact .inl h
   exact .inr ⟨_,c,h,L⟩
  have C:=Lk (P:=prog) W o.size 0 0 0
  rcases K with rfl|⟨g,c,rfl,A⟩
  ·simp[Builtin.append_,KY Tryz.underlying52,sizeOf,typeInfo,f,Builtin.lenOf,C]
  simp[Builtin.append_,KY Tryz.underlying52,sizeOf,typeInfo,f,Builtin.lenOf,C,A,storeCells]
 obtain⟨i,l,M,N,O,_,Q⟩:=Mt (P:=prog) W base 52 52 70 o _ 5 56 Tryz.underlying52 f t w x rfl (by decide) v n xs a (pA g 0) m c ys p (λj u s=>by
  rw[eM,Kp];have R:=(K9.1 s).1;refine ab q j ?_;rw[<-r,LO] at s
  split at s
  ·simpa using s
  cases s) E (by rw[ai];omega) F d
 exact⟨i,l,M,N,O,by
  rcases Q with e|e
  ·exact .inl e
  exact .inr ⟨_,e,Ke _⟩⟩
theorem qR(aO)(s a t:Bs)(h:i8 s=some (a,t)):aM aO s=(if (ch a).2=0 then (match aO with|0=>([],0,2)|m+1=>((ch a).1 :: (aM m t).1,a.length+1+(aM m t).2.1,(aM m t).2.2)) else ([],0,(ch a).2)):=by obtain⟨rfl,b⟩:=gL h;exact jZ aO a t b
theorem mx(B v)(bs:Bs)(a6:bs.length<=60000)(aO:Nat)(a7:aO<=40)(w)(M:dD w)(h:aI B w v bs)(hB:B<=w.1.size):
  cL 56 #[v,U aO] w λe Q=>∃lv q,e=.returned (.tuple #[lv,U (aM aO bs).2.1,U (aM aO bs).2.2])/\Q.ownsRow w.1.size 70 5 lv (aM aO bs).1.length q/\vj (gd w.1.size lv.ownBlock Q) q (aM aO bs).1/\bL w Q:=by
 obtain⟨cd,bd,bf,bg,bk⟩:=so;have HE:=Z λQ (h:bL w Q)=>M.l h
 have HB:=Z λQ (hb:bL w Q)=>h.l hb hB
 have a8:=ai;obtain⟨a,c,rfl,-,-,-⟩:=h;have⟨N,hN⟩:=nM (bs.length);have HN:=Z hN.symm
 rw[<-hN] at HB a6 |-
 clear hN M;go_enter func56,ntmps56;go_wp2_with fail;go_loopw [7,8] (λlv nv wr=>∃ (k:Nat) (b:List az) (q:List Value),k<=N/\b.length<=aO/\nv=U k/\Hid (aM aO bs=(b++(aM (aO-b.length) (bs.drop k)).1,k+(aM (aO-b.length) (bs.drop k)).2.1,(aM (aO-b.length) (bs.drop k)).2.2))/\Hid (wr.ownsRow w.1.size 70 5 lv b.length q)/\Hid (vj (gd w.1.size lv.ownBlock wr) q b)/\Hid (bL w wr)) (λ_ iv _=>N-(intOf iv).toNat)
 case atStart=>exact⟨0,[],[],by omega,by simp,rfl,by unfold Hid;simp,⟨rfl,.inl ⟨rfl,rfl⟩⟩,⟨rfl,(λu hu=>by cases hu),(λi r hr=>by simp at hr)⟩,Kf _ _⟩
 case round=>
  obtain⟨k,b,q,hk,hd,rfl,J,O,HX,z⟩:=hrel;have⟨wo,bp⟩:=nM (wr);subst bp;have i0:(0:Int)<=(k:Int):=by omega
  have C:=z.o.size;obtain⟨va,vc,ev,a9,bq,-⟩:=an O.o;subst ev
  by_cases aa:k<N
  ·have i1:(k:Int)<(N:Int):=by omega
   obtain⟨a',ac,F⟩:=DD (HB.o wo z.o) k (by rw[HN.o];exact hk);have⟨D,hD⟩:=nM (bs.drop k);have K:D.length=N-k:=by rw[hD,MA,HN.o]
   rw[<-hD] at F J;have HD:=Z hD;clear hD
   cases hcut:i8 D with
   |none=>
    have o:Hid (aM aO bs=(b,k,8)):=by unfold Hid;rw[J.o,oT _ D (qP hcut) (λe=>by rw[e] at K;simp at K;omega)];simp
    have l:Hid _:=xK B _ D wo F (Kl hB C) hcut;clear J HD F hcut K;generalize j:b.length=A at*;have n:=Z j;clear j;go_wp2_with fail;go_at_call 90;refine Calls.mono l.o ?_;rintro e w2 ⟨rfl,p⟩;have HF:Hid (∀X,(w2.alloc X).ownsRow w.1.size 70 5 (.slice va A vc) A q/\vj (gd w.1.size (Value.slice va A vc).ownBlock (w2.alloc X)) q b/\bL w (w2.alloc X)):=λX=>by have R:=p.alloc p.size X;exact⟨aw O.o R,HX.o.imp λ_ _ h=>h.grown (fX R _) (.inl rfl),z.o.th R⟩
    clear l ac p O HX;go_wp2_with fail;go_ret3;obtain⟨f1,f2,f3⟩:=HF.o _;exact⟨_,q,by rw[o.o];rfl,by rw[o.o];exact n.o▸f1,by rw[o.o];exact f2,f3⟩
   |some y=>
    obtain⟨x,t⟩:=y;have P:=mY hcut;have HT:Hid (t=bs.drop (k+(x.length+1))):=by unfold Hid;have:=(gL hcut).1;rw[HD.o] at this;rw[<-Mv,this];simp
    have l:Hid _:=yn B _ D x t wo (HE.o wo z.o) F (Kl hB C) (by omega) hcut;have g:Hid (¬(ch x).2=0->aM aO bs=(b,k,(ch x).2)):=λM=>by rw[J.o,qR _ _ _ _ hcut,iO M];simp
    have f:Hid ((ch x).2=0->aO=b.length->aM aO bs=(b,k,2)):=λM hm=>by rw[J.o,qR _ _ _ _ hcut,Io M,hm,Nat.sub_self];simp
    have d:Hid ((ch x).2=0->b.length<aO->aM aO bs=((b++[(ch x).1])++(aM (aO-(b++[(ch x).1]).length) (bs.drop (k+(x.length+1)))).1,(k+(x.length+1))+(aM (aO-(b++[(ch x).1]).length) (bs.drop (k+(x.length+1)))).2.1,(aM (aO-(b++[(ch x).1]).length) (bs.drop (k+(x.length+1)))).2.2)):=λM hm=>by rw[J.o,qR _ _ _ _ hcut,Io M,show aO-b.length=(aO-(b++[(ch x).1]).length)+1 by simp;omega,<-HT.o];simp;omega
    obtain⟨⟨⟨S,T,V,xr,W⟩,E⟩,af⟩:∃RR,RR=ch x:=⟨_,rfl⟩;rw[<-af] at l g f d;simp only[] at l g f d;have⟨A,j⟩:=nM (b.length);have n:=Z j.symm
    rw[<-j] at O HX a9 hd f d |-
    have⟨m,hm⟩:=nM (x.length);rw[<-hm] at l d P;have ak:k+(m+1)<=N:=by omega
    clear af j hm J HT hcut F HD P K;go_wp2_with fail;go_at_call 90;refine Calls.mono l.o ?_;rintro e w2 ⟨v2,rfl,G,p⟩;obtain⟨ra,rc,er,-⟩:=G.at.shape;subst er
    simp only[] at G |-
    have⟨rn,al⟩:=nM (xr.length)
    rw[<-al] at G |-
    have bv:=p.size;have⟨W3,H⟩:=nM (w2.alloc (.cells #[U S,U T,U V,.slice ra rn rc,U W] 70));have Y:=bA H;have s:=p.th Y;have a0:=Z (aw O.o s);have a1:Hid (vj (gd w.1.size (Value.slice va A vc).ownBlock W3) q b):=HX.o.imp λ_ _ h=>h.grown (fX s _) (.inl rfl)
    have bx:Hid (gd w.1.size (Value.slice va A vc).ownBlock W3 (.agg #[U S,U T,U V,.slice ra rn rc,U W]) (S,T,V,xr,W)):=gd.of_new (nI G Y) C λk hk=>by have⟨d2,hc⟩:=cX O.o k hk;exact io hc
    have L:=Z (Below.tO z.o s C);have g3:=hA H;have⟨g0,g1,g2,d4,g4⟩:=aF g3;have av:=L.o.size;have cb:=sA H;have a2:=Z H;clear H Y s G al g3 p bv O HX ac l
    by_cases hE:E=0
    case neg=>
     have d5:(E==0)=false:=by simpa using hE
     have cc:(E != 0)=true:=by simpa using hE
     have o:=Z (g.o hE);clear hE g f d;go_wp2_with fail;rw[<-a2.o];go_ret3;exact⟨_,q,by rw[o.o];rfl,by rw[o.o];exact n.o.symm▸a0.o,by rw[o.o];exact a1.o,L.o⟩
    subst hE
    by_cases a3:aO=A
    ·have o:Hid (aM aO bs=(b,k,2)):=f.o rfl a3;have bz:(A:Int)=(aO:Int):=by omega
     clear g f d;go_wp2_with fail;rw[<-a2.o];go_ret3;exact⟨_,q,by rw[o.o];rfl,by rw[o.o];exact n.o.symm▸a0.o,by rw[o.o];exact a1.o,L.o⟩
    have I:A<aO:=by omega
    have bz:¬((A:Int)=(aO:Int)):=by omega
    have bF:Hid _:=d.o rfl I;have HA:Hid (A+1<=maxLen/\(A+1)*56<=140737488355328/\w.1.size<=W3.1.size):=⟨by rw[a8];omega,by omega,av⟩;have b1:=Z3 ak I aa;have d6:IntKind.i64.wrap ((k:Int)+((m:Int)+1))=(k:Int)+((m:Int)+1):=KA _ (by omega);clear g f d hd a9 bq I a7 C hk aa a8 ak a6 av
    go_wp2_with (first
     |(at_builtin;rw[<-a2.o];go_must (refine gy _ rfl _ _ rfl Tryz.underlying52 bd bf bg bk rfl (by decide) w.1.size _ _ _ rfl _ 1 [U S,U T,U V,.slice ra rn rc,U W] rfl W3 rfl (by first|rfl|omega) W3 bR a0.o rfl (by simp[Value.oneCell']) HA.o.1 HA.o.2.1 HA.o.2.2 ?_;intro v9 w9 c1 b2 c2 c3;have c4:Hid _:=b2;clear b2)))
    obtain⟨c5,c6,da⟩:=b1.o;refine⟨⟨k+(m+1),b++[(S,T,V,xr,W)],q++[U S,U T,U V,.slice ra rn rc,U W],c5,by rw[Kj,n.o];exact c6,by go_num,bF,?_,?_,L.o.trans c4.o⟩,by simp[intOf];omega⟩
    ·unfold Hid;rw[Kj,n.o];exact c1.o
    exact(a1.o.snoc (r:=(S,T,V,xr,W)) bx.o).imp λ_ _ h=>h.grown c2.o c3.o
  have e:k=N:=by omega
  subst e;have o:Hid (aM aO bs=(b,k,0)):=by unfold Hid;have:bs.drop k=[]:=LG (by rw[HN.o];exact Ke _);rw[J.o,this,jJ];simp
  have i1:¬((k:Int)<(k:Int)):=by omega
  clear J;generalize j:b.length=A at*;have n:=Z j;clear j;go_wp2_with fail;go_ret3;exact⟨_,by rw[o.o];rfl,q,by rw[o.o];exact n.o.symm▸O.o,by rw[o.o];exact HX.o,z.o⟩
theorem cJ.shapeS{B w v d}(h:cJ B w v d):∃a c b k,v=.agg #[.slice a d.1.length c,.slice b d.2.length k]:=by obtain⟨e,f,rfl,⟨a,c,rfl,_⟩,⟨b,k,rfl,_⟩⟩:=h;exact⟨a,c,b,k,rfl⟩
theorem yS(a b)(n c m k:Nat)(w)(d:n+m<=300000000000000):
  cL 55 #[.agg #[.slice a n c,.slice b m k]] w (rT w (U ((n:Int)+(m:Int)))):=by
 have e:IntKind.i64.wrap ((n:Int)+(m:Int))=(n:Int)+(m:Int):=KA _ (by omega);have f:Hid (∀X,bL w (w.alloc X)):=λX=>bR.alloc lE X
 clear d;go_enter func55,ntmps55;go_wp2_with fail;go_ret;exact⟨rfl,f.o _⟩
theorem jD(B v d w)(N:dD w)(T:cJ B w v d)(O:B<=w.1.size)(f:sW d):
  cL 26 #[v] w (rT w (U (aB d))):=by
 obtain⟨sv,tv,rfl,A,D⟩:=T;obtain⟨s,t⟩:=d;simp only[] at A D;unfold sW at f;simp only[] at f;have h:Hid (aB (s,t)=if 60000<s.length\/60000<s.length+t.length then 2 else (aM 40 s).2.2):=rfl;obtain⟨a,c,V,-,-,-⟩:=id A;obtain⟨b,P,W,-,-,-⟩:=id D;subst V W;have⟨X,g⟩:=nM (w.alloc (.cells #[.slice a s.length c,.slice b t.length P] 25));have p:=bA g;have q:=hA g;have j:Hid _:=yS a b s.length c t.length P X f
 have i:Hid (s.length<=60000->∀r,bL w r->cL 56 #[.slice a s.length c,U 40] r λe u=>∃C,e=.returned (.tuple #[C,U (aM 40 s).2.1,U (aM 40 s).2.2])/\bL r u):=λE r F=>(mx B _ s E 40 (by omega) r (N.l F) (A.l F O) (F.u O)).mono λe u ⟨C,xs,Y,_,_,h4⟩=>⟨C,Y,h4⟩
 have⟨n,Q⟩:=nM (s.length);have⟨m,R⟩:=nM (t.length)
 rw[<-Q] at g q j i h f |-
 rw[<-R] at g q j h f |-
 have⟨LN,x⟩:=nM ((aM 40 s).2.1);have⟨LE,k⟩:=nM ((aM 40 s).2.2);rw[<-x,<-k] at i;rw[<-k] at h;have G:=Z g;have H:=Z p;have I:=Z q;obtain⟨y0,y1,-,-⟩:=ag q;clear Q R x k g q A D N;go_enter func26,ntmps26;go_wp2_with fail;rw[<-G.o];go_at_call 55;refine Calls.mono j.o ?_;rintro e w2 ⟨rfl,l⟩;have o:=Z (H.o.th l);have S:=l.bl I.o;obtain⟨q0,q1,-,-⟩:=ag S;clear y0 y1 S l p
 by_cases J:60000<n+m
 ·have K:=Z (by rw[h.o,Io (.inr J)]:aB (s,t)=2);have L:(60000:Int)<(n:Int)+(m:Int):=by omega
  clear J f;go_wp2_with fail;go_ret;exact⟨by rw[K.o];rfl,o.o⟩
 have K:=Z (by rw[h.o,iO (by omega)]:aB (s,t)=LE);have L:¬((60000:Int)<(n:Int)+(m:Int)):=by omega
 have y:Hid _:=i.o (by omega) w2 o.o;clear J f i;go_wp2_with fail;go_at_call 56;refine Calls.mono y.o ?_;rintro e w3 ⟨C,rfl,z⟩;have M:=Z (o.o.th z);clear z;go_wp2_with fail;go_ret;exact⟨by rw[K.o];rfl,M.o⟩
theorem Jz(x y:Bs):(x==y)=decide (x=y):=by
 by_cases h:x=y
 ·subst h;simp
 rw[KD h];exact beq_false_of_ne h
theorem Dx(B v u x y w)(d:aI B w v x)(f:aI B w u y):
  cL 61 #[v,u] w λe i=>e=.returned (.bool (decide (x=y)))/\i=w:=by
 have g:=iz d;have h:=iz f;obtain⟨a,c,rfl,-,-,-⟩:=d;obtain⟨b,k,rfl,-,-,-⟩:=f;generalize x.length=n at*;generalize y.length=m at*;have j:Hid _:=g;have l:Hid _:=h;clear g h;rw[<-Jz];go_enter func61,ntmps61;go_wp2_with fail;rw[j.o];go_wp2_with fail;rw[l.o];go_wp2_with fail;go_ret;exact⟨rfl,rfl⟩
theorem vk(B v u x y w)(a:aI B w v x)(b:aI B w u y)(f:B<=w.1.size):
  cL 61 #[v,u] w (rT w (.bool (decide (x=y)))):=(Dx B v u x y w a b).mono λe g ⟨c,d⟩=>⟨c,by rw[d];exact Kf _ _⟩
theorem FO(B v u d e w)(X:cJ B w v d)(Y:cJ B w u e)(o:B<=w.1.size):
  cL 30 #[v,u] w λr i=>r=.returned (.bool (decide (d=e)))/\bL w i:=by
 obtain⟨s,t⟩:=d;obtain⟨j,k⟩:=e;obtain⟨sv,tv,rfl,A,C⟩:=X;obtain⟨D,E,rfl,f,l⟩:=Y;simp only[] at A C f l;have S:=Z λi (h:bL w i)=>vk B sv D s j i (A.l h o) (f.l h o) (h.u o)
 have T:=Z λi (h:bL w i)=>vk B tv E t k i (C.l h o) (l.l h o) (h.u o)
 obtain⟨a,c,e1,-⟩:=A;obtain⟨F,G,e2,-⟩:=C;obtain⟨H,I,e3,-⟩:=f;obtain⟨J,K,e4,-⟩:=l;subst e1 e2 e3 e4;have p:=Z (by simp:decide (((s,t):bQ)=(j,k))=(decide (s=j)&&decide (t=k)));have⟨b1,q⟩:=nM (decide (s=j));have⟨b2,x⟩:=nM (decide (t=k));rw[<-q] at S p;rw[<-x] at T p;clear q x;generalize s.length=L at*;generalize t.length=M at*;generalize j.length=N at*;generalize k.length=O at*;have⟨P,b⟩:=nM ((w.alloc (.cells #[.slice a L c,.slice F M G] 25)).alloc (.cells #[.slice H N I,.slice J O K] 25));have y:=bB b;have f:=sB b;have V:Na P w.1.size #[.slice a L c,.slice F M G] 25:=by rw[b];exact(Kq _ _ _ (by simp)).trans (ah _ _)
 have W:Na P (w.1.size+1) #[.slice H N I,.slice J O K] 25:=by have:=ah (w.alloc (.cells #[.slice a L c,.slice F M G] 25)) (.cells #[.slice H N I,.slice J O K] 25);rw[Kg] at this;rw[b];exact this
 have Q:=Z b;have z:=Z y;clear b y;go_enter func30,ntmps30;go_wp2_with fail;rw[<-Q.o];go_at_call 61;refine(S.o P z.o).mono ?_;rintro e w3 ⟨rfl,g⟩;have k0:=J1 ((g.block w.1.size (by omega)).trans V);have k1:=J1 ((g.block (w.1.size+1) (by omega)).trans W);have m:=Z (z.o.th g);clear g V W
 cases b1 with
 |false=>
  have n:=Z (by rw[p.o];rfl:decide (((s,t):bQ)=(j,k))=false);clear p;go_wp2_with fail;go_ret;exact⟨by rw[n.o];rfl,m.o⟩
 |true=>
  have n:=Z (by rw[p.o];rfl:decide (((s,t):bQ)=(j,k))=b2);clear p;go_wp2_with fail;go_at_call 61;refine(T.o w3 m.o).mono ?_;rintro e w4 ⟨rfl,R⟩;go_wp2_with fail;go_ret;exact⟨by rw[n.o];rfl,m.o.th R⟩
theorem dF{w:World}{b:Nat}{o:Obj}(X:Obj)(h:w.1[b]?=some o):(w.alloc X).1[b]?=some o:=(Kq _ _ _ (KK.1 h).1).trans h
theorem cg.at{L w v x}(h:cg L w v x):aI w.1.size w v x:=h w (λ_ _ _=>rfl) lE
theorem cg.mono{L a:Nat}{w v x}(h:cg a w v x)(b:L<=a):cg L w v x:=λc d e=>h c (λg f i=>d g (Kl b f) i) e
theorem cg.l{L w w' v x}(h:cg L w v x)(a:bL w w'):cg L w' v x:=λc d e=>h c (λg f b=>(d g f (Kd b a.size)).trans (a.block g b)) (Kl a.size e)
theorem cg.keep{L k w w' v x}(h:cg L w v x)(a:iE k w w')(f:k<L)(i:w'.1.size=w.1.size):cg L w' v x:=λb c j=>h b (λg d e=>(c g d (by omega)).trans (a g (by omega))) (by omega)
theorem cg.shape{L w v x}(h:cg L w v x):∃a c,v=.slice a x.length c:=by obtain⟨a,c,e,_⟩:=h.at;exact⟨a,c,e⟩
theorem kS{L w sv tv}{d:bQ}(e:cg L w sv d.1)(f:cg L w tv d.2):cV L w (.agg #[sv,tv]) d:=λa b c=>⟨sv,tv,rfl,e a b c,f a b c⟩
theorem zD(L w):cg L w nL []:=λa _ _=>ip _ _
theorem eX(L w):cV L w (.agg #[nL,nL]) ([],[]):=kS (d:=([],[])) (zD _ _) (zD _ _)
def JB(W:World)(F:Nat->Option Bs)(a:Nat->Value->Prop)(w:World):Prop:=bL W w/\∀k u x,a k u->F k=some x->cg W.1.size w u x
def SB(F:Nat->Option Bs)(k:Nat)(v:Value):Prop:=∃a c,v=.slice a ((F k).getD []).length c
theorem ID(F:Nat->Option Bs)(k):∃v,SB F k v:=⟨_,none,0,rfl⟩
theorem JB.start(W)(F:Nat->Option Bs):JB W F (λ_ _=>False) W.drew:=⟨bR.drew,λ_ _ _ h=>h.elim⟩
theorem JB.put{W w w'}{F:Nat->Option Bs}{c:Nat->Value->Prop}{k:Nat}{v}{x:Bs}(h:JB W F c w)(d:bL w w')(e:F k=some x)(f:cg W.1.size w' v x):JB W F (d9 c k v) w':=by
 refine⟨h.1.th d,λm u y a b=>?_⟩
 rcases a with a|⟨rfl,rfl⟩
 ·exact(h.2 m u y a b).l d
 rw[e] at b
 cases b;exact f
theorem JB.box{W w}{F:Nat->Option Bs}{c:Nat->Value->Prop}(h:JB W F c w){b:Nat}{o:Obj}(a:W.1[b]?=some o):w.1[b]?=some o:=(h.1.block b ((KK.1 a).1)).trans a
theorem t5(B v d w)(hd:cJ B w v d)(P:B<=w.1.size)(E:d.1.length<=60000/\d.2.length<=60000):
  cL 57 #[v] w λe f=>∃v',e=.returned v'/\cV w.1.size f v' d/\bL w f:=by
 obtain⟨sv,tv,rfl,Q,R⟩:=hd;obtain⟨s,t⟩:=d;simp only[] at Q R E;obtain⟨a,c,e1,-,-,-⟩:=id Q;obtain⟨b,o,S,-,-,-⟩:=id R;subst e1 S;have⟨W,x⟩:=nM ((w.alloc (.cells #[.slice a s.length c,.slice b t.length o] 25)).alloc (.cells #[nL,nL] 25));have q:=bB x;have G:Na W w.1.size #[.slice a s.length c,.slice b t.length o] 25:=by rw[x];exact dF _ (aY _ _ rfl)
 have g1:Na W (w.1.size+1) #[nL,nL] 25:=by rw[x];exact aY _ _ (by simp only[Kg])
 have A:=sB x
 have H:Hid (∀f,bL W f->cL 91 #[.slice a s.length c,nL] f λe i=>∃v,e=.returned v/\cg f.1.size i v s/\bL f i):=λf C=>by
  have l:=q.th C;have:=kK B _ _ s [] f (Q.l l P) (ip B f) (l.u P) (by simp;omega);rw[LI] at this
  exact this.mono λe i ⟨v,X,_,Y,h4⟩=>⟨v,X,Y,h4⟩
 have I:Hid (∀f,bL W f->cL 91 #[.slice b t.length o,nL] f λe i=>∃v,e=.returned v/\cg f.1.size i v t/\bL f i):=λf C=>by
  have l:=q.th C;have:=kK B _ _ t [] f (R.l l P) (ip B f) (l.u P) (by simp;omega);rw[LI] at this
  exact this.mono λe i ⟨v,X,_,Y,h4⟩=>⟨v,X,Y,h4⟩
 have⟨n,hn⟩:=nM (s.length);have⟨m,hm⟩:=nM (t.length)
 rw[<-hn] at x G H |-
 rw[<-hm] at x G I |-
 obtain⟨y0,y1,-,-⟩:=ag G;have HW:=Z x;have a1:=Z q;have J:=Z G;have a3:=Z g1;have a4:=Z A;have q0:∀z:uL w.1.size (.slice a n c) (.slice b m o),z.1.cell? (pW w 0)=some (.slice a n c):=λz=>z.2.1
 have q1:∀z:uL w.1.size (.slice a n c) (.slice b m o),z.1.cell? (pW w 1)=some (.slice b m o):=λz=>z.2.2
 have a6:Nonempty (uL w.1.size (.slice a n c) (.slice b m o)):=⟨⟨W,y0,y1⟩⟩
 obtain⟨F,hF⟩:∃F:Nat->Option Bs,F=λk=>if k=2 then some s else if k=5 then some t else none:=⟨_,rfl⟩
 have T:=Z (by rw[hF];rfl:F 2=some s);have V:=Z (by rw[hF];rfl:F 5=some t)
 have r:Hid (∀fs f,JB W F fs f->∃z:uL w.1.size (.slice a n c) (.slice b m o),f=z.1):=λfs f h=>⟨⟨f,J0 (h.box J.o),J1 (h.box J.o)⟩,rfl⟩
 clear hn hm hF x q G g1 A Q R E y0 y1;go_enter func57,ntmps57;go_wp2_with fail;rw[<-HW.o];refine bJ [_,_,_,_,_,_,_] _ rfl (λk=>k==2||k==5) (JB W F) (SB F) (ID F) (by kernel_rfl) (by kernel_rfl) (JB.start W F) ?_;iterate 2(refine aP r.o rfl rfl ?_;go_big_quiet_step (fail);refine Km ?_)
 refine bw 91 #[.slice a n c,nL] rfl rfl (λf=>by kernel_rfl) (λgs f j K a8=>?_) (λv2 a9=>?_)
 ·refine(H.o f j.1).mono ?_;rintro e w3 ⟨u,rfl,g,C⟩;have:=j.put C T.o (g.mono j.1.size);obtain⟨a',c',eu⟩:=g.shape;exact⟨_,rfl,⟨a',c',by rw[T.o];exact eu⟩,this⟩
 go_frame;obtain⟨L,M,S⟩:=a9;rw[T.o] at S;subst S;iterate 2(refine aP r.o rfl rfl ?_;go_big_quiet_step (fail);refine Km ?_)
 refine bw 91 #[.slice b m o,nL] rfl rfl (λf=>by kernel_rfl) (λgs f j K a8=>?_) (λv5 ae=>?_)
 ·refine(I.o f j.1).mono ?_;rintro e w3 ⟨u,rfl,g,C⟩;have:=j.put C V.o (g.mono j.1.size);obtain⟨a',c',eu⟩:=g.shape;exact⟨_,rfl,⟨a',c',by rw[V.o];exact eu⟩,this⟩
 go_frame;obtain⟨N,O,e5⟩:=ae;rw[V.o] at e5;subst e5;refine aP r.o rfl rfl ?_;go_big_quiet_step (fail);refine Km ?_;refine ei ?_;intro w4 j;have D:=j.box a3.o;have⟨z0,z1,f0,f1⟩:=ag D;have H2:=j.2 2 _ s (.inl (.inr ⟨rfl,rfl⟩)) T.o;have H5:=j.2 5 _ t (.inr ⟨rfl,rfl⟩) V.o;have⟨k0,k1,k2⟩:=ic (u:=.slice L ((some s).getD []).length M) (v:=.slice N ((some t).getD []).length O) D;have y:Hid (cV w.1.size ((w4.setCell (pA (w.1.size+1) 0) (.slice L ((some s).getD []).length M)).setCell (pA (w.1.size+1) 1) (.slice N ((some t).getD []).length O)) (.agg #[.slice L ((some s).getD []).length M,.slice N ((some t).getD []).length O]) (s,t)/\bL w ((w4.setCell (pA (w.1.size+1) 0) (.slice L ((some s).getD []).length M)).setCell (pA (w.1.size+1) 1) (.slice N ((some t).getD []).length O))):=by have A:=a4.o;refine⟨kS ((H2.keep k1 (by omega) k2).mono (by omega)) ((H5.keep k1 (by omega) k2).mono (by omega)),?_⟩;exact((a1.o.th j.1).setCell (p:=pA (w.1.size+1) 0) (by show w.1.size<=w.1.size+1;omega) _).setCell (p:=pA (w.1.size+1) 1) (by show w.1.size<=w.1.size+1;omega) _
 clear j D H2 H5 k0 k1 k2 q0 q1 a6 r;go_wp2_with fail;refine Ka (v:=.agg #[.slice L ((some s).getD []).length M,.slice N ((some t).getD []).length O]) ?_ rfl ⟨_,rfl,y.o.1,y.o.2⟩;rw[cN rfl];go_simp
section
theorem cV.mono{L a:Nat}{w v d}(h:cV a w v d)(b:L<=a):cV L w v d:=λc e f=>h c (λg i j=>e g (Kl b i) j) f
theorem cV.l{L w w' v d}(h:cV L w v d)(a:bL w w'):cV L w' v d:=λc e f=>h c (λg i b=>(e g i (Kd b a.size)).trans (a.block g b)) (Kl a.size f)
theorem cV.keep{L k w w' v d}(h:cV L w v d)(a:iE k w w')(i:k<L)(j:w'.1.size=w.1.size):cV L w' v d:=λb c l=>h b (λg e f=>(c g e (by omega)).trans (a g (by omega))) (by omega)
theorem dS{L w w1}{p:Nat}(h:Below L w w1)(a:L<=p)(b c:Value):Below L w ((w1.setCell (pA p 0) b).setCell (pA p 1) c):=h.s2 a
def JG(W:World)(G:Nat->World->Value->Prop)(fs:Nat->Value->Prop)(w:World):Prop:=bL W w/\∀k u,fs k u->G k w u
def JD(bo st:Nat)(ws:List Nat)(W:World)(G:Nat->World->Value->Prop)(R:Value->Value->World->Prop)(fs:Nat->Value->Prop)(w:World):Prop:=
 ((∀u,¬fs st u)/\JG W G fs w)\/((∃u,fs st u)/\(∀k,k∈ws->∃u,fs k u)/\∃a p q,w=(a.setCell (pA bo 0) p).setCell (pA bo 1) q/\bL W a/\R p q a)
section
variable {bo st:Nat} {ws:List Nat} {W w w':World} {G:Nat->World->Value->Prop} {R:Value->Value->World->Prop} {fs:Nat->Value->Prop}
theorem JD.start(bo st ws W)(G:Nat->World->Value->Prop)(R:Value->Value->World->Prop):JD bo st ws W G R (λ_ _=>False) W.drew:=.inl ⟨λ_ h=>h,bR.drew,λ_ _ h=>h.elim⟩
theorem JD.ahead(h:JD bo st ws W G R fs w){k:Nat}(b:k=st\/k∈ws)(a:∀v,¬fs k v):(∀u,¬fs st u)/\JG W G fs w:=by
 rcases h with h|⟨⟨u,d⟩,e,_⟩
 ·exact h
 rcases b with rfl|b
 ·exact absurd d (a _)
 have⟨f,c⟩:=e k b;exact absurd c (a _)
theorem JD.put(h:JD bo st ws W G R fs w)(f:∀k u w w',bL w w'->G k w u->G k w' u){k:Nat}(g:k∈ws)(b:st≠k)(c:∀v,¬fs k v){v:Value}(d:bL w w')(i:G k w' v):JD bo st ws W G R (d9 fs k v) w':=by
 have⟨j,l,n⟩:=h.ahead (.inr g) c;refine .inl ⟨λu a=>?_,l.th d,λm u a=>?_⟩
 ·rcases a with a|⟨e,_⟩
  ·exact j u a
  exact b e
 rcases a with a|⟨rfl,rfl⟩
 ·exact f m u w w' d (n m u a)
 exact i
theorem JD.store(h:JD bo st ws W G R fs w)(b:∀v,¬fs st v)(a:∀k,k∈ws->∃u,fs k u){p q:Value}(c:R p q w):JD bo st ws W G R (d9 fs st undef) ((w.setCell (pA bo 0) p).setCell (pA bo 1) q):=by have⟨g,d,i⟩:=h.ahead (.inl rfl) b;refine .inr ⟨⟨undef,.inr ⟨rfl,rfl⟩⟩,λk e=>?_,w,p,q,rfl,d,c⟩;have⟨u,f⟩:=a k e;exact⟨u,.inl f⟩
theorem JD.box(h:JD bo st ws W G R fs w){b:Nat}{o:Obj}(c:W.1[b]?=some o)(a:b≠bo):w.1[b]?=some o:=by
 have e:=(KK.1 c).1
 rcases h with ⟨_,d,_⟩|⟨_,_,f,p,q,rfl,d,_⟩
 ·exact(d.block b e).trans c
 exact((Kc _ _ _ _ a).trans (Kc _ _ _ _ a)).trans ((d.block b e).trans c)
theorem JD.done(h:JD bo st ws W G R fs w){u:Value}(b:fs st u):∃a p q,w=(a.setCell (pA bo 0) p).setCell (pA bo 1) q/\bL W a/\R p q a:=by
 rcases h with ⟨c,_⟩|⟨_,_,h⟩
 ·exact absurd b (c _)
 exact h
end
end
theorem Dl(B v d n w)(he:dD w)(hn:wf n)(hd:cJ B w v d)(hB:B<=w.1.size)(I:sW d):
  cL 70 #[v,U n] w λe f=>∃v',e=.returned (.tuple #[v',U (i9 d n)])/\cV w.1.size f v' (kE d n)/\bL w f:=by
 obtain⟨sv,tv,rfl,hs,ht⟩:=id hd;obtain⟨s,t⟩:=d;simp only[] at hs ht;obtain⟨a,c,e1,-,-,-⟩:=id hs;obtain⟨b,H,e2,V,X,-⟩:=id ht;subst e1 e2;have⟨W,hW⟩:=nM ((w.alloc (.cells #[.slice a s.length c,.slice b t.length H] 25)).alloc (.cells #[nL,nL] 25));have o:=bB hW;have g0:W.1[w.1.size]?=some (.cells #[.slice a s.length c,.slice b t.length H] 25 (0,0)):=by rw[hW];exact dF _ (aY _ _ rfl)
 have g1:W.1[w.1.size+1]?=some (.cells #[nL,nL] 25 (0,0)):=by rw[hW];exact aY _ _ (by simp only[Kg])
 have bq:=sB hW;have J:Hid _:=jD B _ (s,t) W (he.l o) (hd.l o hB) (by omega) I;obtain⟨y0,y1,-,-⟩:=ag g0;have HW:=Z hW;have cs:=Z o;generalize b0:aB (s,t)=DE at*;have l:=Z b0;have⟨N,Y⟩:=nM (s.length);have⟨m,K⟩:=nM (t.length)
 rw[<-Y] at HW J y0 g0 |-
 rw[<-K] at HW J y1 g0 |-
 have HN:=Z Y;have HM:=Z K;clear hW b0 Y K;go_enter func70,ntmps70;go_wp2_with fail;rw[<-HW.o];go_at_call 26;refine Calls.mono J.o ?_;rintro e A ⟨rfl,L⟩;have G0:=L.bl g0;have G1:=L.bl g1;have g:bL w A:=o.th L;have a0:w.1.size+1<A.1.size:=io G1;have⟨z0,z1,f0,f1⟩:=ag G1;obtain⟨x0,x1,-,-⟩:=ag G0;clear y0 y1 J g0 g1 bq L HW
 by_cases hE:DE=0
 ·subst hE;have K:=HM.o;have Y:=HN.o
  by_cases hr:n<0\/(m:Int)<n
  ·have C:Hid (i9 (s,t) n=3/\kE (s,t) n=([],[])):=by
    have e:i9 (s,t) n=3:=by unfold i9;rw[Io l.o,Io (by rw[<-K];exact hr)]
    exact⟨e,by unfold kE;rw[e,iO (by decide)]⟩
   have M:=Z g;have HF:Hid (∀x y,bL w ((A.setCell (pA (w.1.size+1) 0) x).setCell (pA (w.1.size+1) 1) y)):=λx y=>dS g (by omega) x y
   clear G0 G1 g hs ht hd l hB I V X o Y K
   by_cases h0:n<0
   ·clear hr;go_wp2_with fail;refine Ka (v:=.tuple #[.agg #[nL,nL],U 3]) ?_ rfl ⟨_,by rw[C.o.1],by rw[C.o.2];exact eX _ _,HF.o _ _⟩;rw[K8 rfl];go_simp
   have h1:(m:Int)<n:=hr.resolve_left h0;clear hr;go_wp2_with fail;refine Ka (v:=.tuple #[.agg #[nL,nL],U 3]) ?_ rfl ⟨_,by rw[C.o.1],by rw[C.o.2];exact eX _ _,HF.o _ _⟩;rw[K8 rfl];go_simp
  obtain⟨k,hk⟩:∃k:Nat,(k:Int)=n:=⟨n.toNat,by omega⟩;have b5:k<=t.length:=by omega
  have C:Hid (i9 (s,t) n=0/\kE (s,t) n=(s,t.take k)):=by
   have e:i9 (s,t) n=0:=by unfold i9;rw[Io l.o,iO (by rw[<-K];exact hr)]
   exact⟨e,by unfold kE;rw[e,Io rfl];simp only[];rw[<-hk];rfl⟩
  subst hk;obtain⟨a1,b6,-,-⟩:=dE l.o;simp only[] at a1 b6;have⟨a',bv,b7⟩:=vQ ht k b5;have b8:Hid (∀f,bL w f->cL 57 #[.agg #[.slice a N c,.slice a' k H]] f λe b9=>∃v',e=.returned v'/\cV f.1.size b9 v' (s,t.take k)/\bL f b9):=λf hb=>by refine t5 B _ (s,t.take k) f ⟨_,_,rfl,?_,b7.l hb hB⟩ (hb.u hB) ⟨a1,by simp only[Kt];omega⟩;rw[Y];exact hs.l hb hB
  have h0:¬((k:Int)<0):=by omega
  have h1:¬((m:Int)<(k:Int)):=by omega
  have h2:(k:Int)<=(H:Int):=by omega
  have M:=Z g;have ba:=Z G0;have bb:=Z G1;rw[<-K] at bv;clear G0 G1 g hs ht hd l I V X o Y K b7 b5 a1 b6 hr;have bc:=Z ba.o;obtain⟨D,hD⟩:∃D:bQ,D=(s,t.take k):=⟨_,rfl⟩;rw[<-hD] at b8 C;clear hD
  obtain⟨G,hG⟩:∃G:Nat->World->Value->Prop,G=λj f u=>j=7->cV A.1.size f u D:=⟨_,rfl⟩
  have bx:Hid (∀j u w f,bL w f->G j w u->G j f u):=λj u w f hb h=>by rw[hG] at h |-;exact λe=>(h e).l hb
  have bd:Hid (∀f u,G 7 f u ↔ cV A.1.size f u D):=λf u=>by rw[hG];simp
  obtain⟨R,hR⟩:∃R:Value->Value->World->Prop,R=λp q f=>cV A.1.size f (.agg #[p,q]) D:=⟨_,rfl⟩
  have HR:Hid (∀p q f,R p q f ↔ cV A.1.size f (.agg #[p,q]) D):=λp q f=>by rw[hR]
  obtain⟨S,hS⟩:∃S:Nat->Value->Prop,S=λj v=>j=7->∃a n c b m k,v=.agg #[.slice a n c,.slice b m k]:=⟨_,rfl⟩
  have bf:Hid (∀v,S 7 v ↔ ∃a n c b m k,v=.agg #[.slice a n c,.slice b m k]):=λv=>by rw[hS];simp
  have bz:Hid (S 8 undef):=by unfold Hid;rw[hS];exact λe=>by cases e
  have bF:Hid (∀j,∃v,S j v):=λj=>⟨.agg #[nL,nL],by rw[hS];exact λ_=>⟨_,_,_,_,_,_,rfl⟩⟩
  clear hG hR hS;have q0:∀z:uL w.1.size (.slice a N c) (.slice b m H),z.1.cell? (pA w.1.size 0)=some (.slice a N c):=λz=>z.2.1
  have q1:∀z:uL w.1.size (.slice a N c) (.slice b m H),z.1.cell? (pA w.1.size 1)=some (.slice b m H):=λz=>z.2.2
  have bg:Nonempty (uL w.1.size (.slice a N c) (.slice b m H)):=⟨⟨A,x0,x1⟩⟩
  have a3:Hid (∀fs f,JD (w.1.size+1) 8 [7] A G R fs f->∃z:uL w.1.size (.slice a N c) (.slice b m H),f=z.1):=λfs f h=>⟨⟨f,J0 (h.box bc.o (by omega)),J1 (h.box bc.o (by omega))⟩,rfl⟩
  go_wp2_with fail;refine bJ [_,_,_,_,_,_,_,_,_] _ rfl (λk=>k==7||k==8) (JD (w.1.size+1) 8 [7] A G R) S bF.o (by kernel_rfl) (by kernel_rfl) (JD.start _ _ _ _ _ _) ?_;iterate 7(refine aP a3.o rfl rfl ?_;go_big_quiet_step (fail);refine Km ?_)
  refine bw 57 #[.agg #[.slice a N c,.slice a' k H]] rfl rfl (λf=>by kernel_rfl) (λgs f O E r=>?_) (λv7 c0=>?_)
  ·obtain⟨-,i,-⟩:=O.ahead (.inr (by simp)) r;refine(b8.o f (M.o.th i)).mono ?_;rintro e w3 ⟨u,rfl,P,hb⟩;obtain⟨ea,en,ec,eb,em,ek,Q⟩:∃a n c b m k,u=.agg #[.slice a n c,.slice b m k]:=by obtain⟨ea,ec,eb,ek,Q⟩:=P.at.shapeS;exact⟨_,_,_,_,_,_,Q⟩
   exact⟨_,rfl,(bf.o _).2 ⟨_,_,_,_,_,_,Q⟩,O.put bx.o (by simp) (by decide) r hb ((bd.o _ _).2 (P.mono i.size))⟩
  go_frame;obtain⟨ea,en,ec,eb,em,ek,Q⟩:=(bf.o _).1 c0;subst Q;refine fL rfl rfl (λgs f O E r=>?_) (λv8 d3=>?_)
  ·have h7:=E 7 _ (.inr ⟨rfl,rfl⟩) (au (by kernel_rfl));obtain⟨-,i,hG⟩:=O.ahead (.inl rfl) r;have F:=(i.block _ a0).trans bb.o;have⟨d4,d5,d6,da⟩:=ag F;refine⟨(f.setCell (pA (w.1.size+1) 0) (.slice ea en ec)).setCell (pA (w.1.size+1) 1) (.slice eb em ek),?_,bz.o,O.store r (λk hk=>by simp at hk;subst hk;exact⟨_,h7⟩) ((HR.o _ _ _).2 ((bd.o _ _).1 (hG 7 _ h7)))⟩;clear O E r q0 q1 a3 bg h7 i hG F;go_simp
  go_frame;refine ei ?_;intro w4 O;have⟨w0,p,q,e4,i,bk⟩:=O.done (.inr ⟨rfl,rfl⟩);have a4:=(HR.o _ _ _).1 bk;have F:=(i.block _ a0).trans bb.o;have⟨k0,k1,k2⟩:=ic (u:=p) (v:=q) F;rw[<-e4] at k0 k1 k2;obtain⟨ea,ec,eb,ek,Q⟩:=a4.at.shapeS;simp at Q;obtain⟨rfl,rfl⟩:=Q;obtain⟨y0,y1,-,-⟩:=ag k0;have T:Hid (cV w.1.size w4 (.agg #[.slice ea D.1.length ec,.slice eb D.2.length ek]) D/\bL w w4):=by refine⟨(a4.keep k1 a0 k2).mono M.o.size,?_⟩;rw[e4];exact dS (M.o.th i) (by omega) _ _
  generalize D.1.length=n1 at*;generalize D.2.length=n2 at*;clear O e4 i bk a4 F k0 k1 k2 q0 q1 a3 bg;go_wp2_with fail;refine Ka (v:=.tuple #[.agg #[.slice ea n1 ec,.slice eb n2 ek],U 0]) ?_ rfl ⟨_,by rw[C.o.1],by rw[C.o.2];exact T.o.1,T.o.2⟩;rw[K8 rfl];go_simp
 have hq:(DE != 0)=true:=by simpa using hE
 have C:Hid (i9 (s,t) n=DE/\kE (s,t) n=([],[])):=by
  have e:i9 (s,t) n=DE:=by unfold i9;rw[iO (by rw[l.o];exact hE),l.o]
  exact⟨e,by unfold kE;rw[e,iO hE]⟩
 have HF:Hid (∀x y,bL w ((A.setCell (pA (w.1.size+1) 0) x).setCell (pA (w.1.size+1) 1) y)):=λx y=>dS g (by omega) x y
 clear G0 G1 g hs ht hd l hB I V X o hE;go_wp2_with fail;refine Ka (v:=.tuple #[.agg #[nL,nL],U DE]) ?_ rfl ⟨_,by rw[C.o.1],by rw[C.o.2];exact eX _ _,HF.o _ _⟩;rw[K8 rfl];go_simp
