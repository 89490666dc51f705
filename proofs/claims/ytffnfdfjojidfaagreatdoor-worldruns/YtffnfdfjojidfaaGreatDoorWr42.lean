import Derived.Test.YtffnfdfjojidfaaGreatDoorWr34
import Derived.Test.YtffnfdfjojidfaaGreatDoorWr36
import Derived.Test.YtffnfdfjojidfaaGreatDoorWr41
set_option linter.all false
set_option maxRecDepth 100000
set_option maxHeartbeats 8000000
namespace Go.Proofs.YtffnfdfjojidfaaGreatDoor
open Go.RowKit Go.Maps Go.Proofs.Tryz
def uK(a:List ByteArray)(k:Nat):Nat:=((a.take k).map ByteArray.size).sum
theorem BS{a:List ByteArray}{k:Nat}{x:ByteArray}(h:a[k]?=some x):uK a (k+1)=uK a k+x.size:=by unfold uK;rw[LC,h];simp
theorem Gg(ws)(k:Nat):uK ws k<=uK ws ws.length:=by
 unfold uK;rw[L6]
 conv=>rhs;rw[<-Ms k ws]
 rw[List.map_append,List.sum_append];omega
def fw(a:Bs)(r:List ByteArray)(k:Nat):Bs:=a++(r.take k).flatMap λy=>32 :: y.1.1
theorem wt{x0}{r:List ByteArray}{k:Nat}{y:ByteArray}(h:r[k]?=some y):fw x0 r (k+1)=(fw x0 r k++[32])++y.1.1:=by unfold fw;rw[LC,h];simp
theorem Ew(b:ByteArray)(r k):(fw b.1.1 r k).length<=uK (b :: r) (r.length+1)+r.length:=by
 unfold fw uK;rw[show r.length+1=(b :: r).length from rfl,L6,Kj,<-KR]
 have:∀l:List ByteArray,(l.flatMap λy=>(32:UInt8) :: y.1.1).length=(l.map ByteArray.size).sum+l.length:=by
  intro l
  induction l with
  |nil=>rfl
  |cons a l d=>rw[KQ,Kj,d,Lt,List.sum_cons,Kv,Kv,<-KR];omega
 rw[this];have c:=Gg r k;unfold uK at c;rw[L6] at c;have e:(r.take k).length<=r.length:=by rw[Kt];omega
 rw[Lt,List.sum_cons];omega
theorem sE(s:ByteArray):dU s.1.1=s:=by cases s;simp[dU]
theorem GL(C c n:Nat)(a:ByteArray)(r:List ByteArray)(w:World)(g:∀ (j:Nat) x,(a :: r)[j]?=some x->w.cell? ⟨C,j,none⟩=some (.string x))(W:C<w.1.size)(hn:n=2\/n=3)(D:r.length+1=n)(bp:n<=c)(aa:uK (a :: r) n<=10000000000)(ac:a.1.1≠[]):
  cL 157 #[.slice (sO C) n c,.string ⟨#[32]⟩] w (rT w (.string (dU (fw a.1.1 r r.length)))):=by
 have HC:=Z g;have HL:Hid (∀k,uK (a :: r) k<=10000000000):=by intro k;have X:=Gg (a :: r) k;rw[show (a :: r).length=n from D] at X;omega
 have HJ:Hid (∀k,(fw a.1.1 r k).length<=20000000000):=by intro k;have X:=Ew a r k;rw[D] at X;omega
 have ad:=Z ac;have ae:Hid (w.cell? (pA C 0)=some (.string a)):=g 0 a rfl
 have HG:∀k:Nat,k<n->∃x,(a :: r)[k]?=some x:=λk hk=>⟨(a :: r)[k]'(by simpa [D] using hk),by simp⟩
 have af:=Z HG
 have ak:Hid (∀k:Nat,k+1<n->∃y,r[k]?=some y):=λk hk=>⟨r[k]'(by omega),by simp⟩
 have al:=Z D;clear g aa ac HG D
 rcases hn with rfl|rfl
 ·go_enter func157,ntmps157;go_wp2_with fail;go_loop [5,41] (λnv q=>∃k:Nat,k<=2/\q=U k/\nv=U ((1+uK (a :: r) k:Nat):Int)) (λ_ q=>2-(intOf q).toNat)
  case atStart=>exact⟨0,Ks _,rfl,by simp[uK]⟩
  case round=>
   obtain⟨k,hk,rfl,rfl⟩:=hrel
   by_cases Y:k<2
   ·have⟨x,hx⟩:=af.o k Y;have hc:=HC.o k x hx;have f:=BS hx;have h:=HL.o (k+1);generalize E:uK (a :: r) (k+1)=A1 at f h;generalize uK (a :: r) k=A0 at f;have a1:=Z E;clear E hx;go_wp2;exact⟨⟨k+1,by omega,by go_num,by rw[a1.o];refine congrArg _ ?_;omega⟩,by simp[intOf];omega⟩
   have s:k=2:=by omega
   subst s;have hT:=HL.o 2;generalize uK (a :: r) 2=T at hT;go_wp2_with fail;have F:((1:Int)+(T:Int))=((1+T:Nat):Int):=by omega
   first|rw[F]|skip
   have G:Hid _:=AK w.1.size w.1.size (1+T) (w.alloc (.cells #[.pointer none,nL] 227)) lE ((Kr w _).1) (by simp) (by omega);have H:Hid (bL w (w.alloc (.cells #[.pointer none,nL] 227))):=(Kf w.1.size w).alloc lE _;clear F hT;go_at_call 190;refine Calls.mono G.o ?_;rintro e l ⟨rfl,X,I⟩;have d:bL w l:=H.o.trans I;have a2:l.cell? (pA C 0)=some (.string a):=(d.cell (p:=pA C 0) W).trans ae.o;have H1:Hid (dY w.1.size w.1.size (Lib.byteCells []) l):=Or.inr X;have a3:=Z d;have J:w.1.size<=l.1.size:=d.size;have K:Hid (cL 187 #[.pointer (sO w.1.size),.string a] l λe b=>(∃n:Int,e=.returned (.tuple #[U n,.nilIface]))/\dY w.1.size w.1.size (Lib.byteCells ([]++a.1.1)) b/\Below w.1.size l b/\iN w.1.size l b):=by have:=j8 w.1.size w.1.size [] a.1.1 l H1.o (by have:=HJ.o 0;unfold fw at this;simp at this |-;omega) J;rw[sE] at this;exact this
   clear X I d G H;go_wp2_with fail;go_at_call 187;refine Calls.mono K.o ?_;rintro e w2 ⟨⟨m,rfl⟩,h2,L,-⟩
   have H2:Hid (dY w.1.size w.1.size (Lib.byteCells (fw a.1.1 r 0)) w2):=by
    unfold Hid fw
    simpa using h2
   have a4:=Z (a3.o.trans L);clear h2 L K a2 J;go_wp2_with fail;go_loopw [65] (λq wr=>∃k:Nat,k<=1/\q=U k/\Hid (dY w.1.size w.1.size (Lib.byteCells (fw a.1.1 r k)) wr)/\Hid (bL w wr)) (λq _=>1-(intOf q).toNat)
   case atStart=>exact⟨0,Ks _,rfl,H2,a4⟩
   case round=>
    obtain⟨k,bc,rfl,HB,i⟩:=hrel;have⟨t,a5⟩:=nM (wr);subst a5
    by_cases bd:k<1
    ·obtain⟨y,hy⟩:=ak.o k (by omega);have bf:t.cell? ⟨C,1+k,none⟩=some (.string y):=by rw[i.o.cell (p:=⟨C,1+k,none⟩) W,show 1+k=k+1 by omega];exact HC.o (k+1) y (by simpa using hy)
     have M:w.1.size<=t.1.size:=i.o.size;have u:=HJ.o (k+1);have v:Hid (fw a.1.1 r (k+1)=(fw a.1.1 r k++[32])++y.1.1):=wt hy;rw[v.o] at u;simp only[Kj,Kv,Lf] at u;have N:Hid (cL 187 #[.pointer (sO w.1.size),.string ⟨#[32]⟩] t λe b=>(∃n:Int,e=.returned (.tuple #[U n,.nilIface]))/\dY w.1.size w.1.size (Lib.byteCells (fw a.1.1 r k++[32])) b/\Below w.1.size t b/\iN w.1.size t b):=j8 w.1.size w.1.size (fw a.1.1 r k) [32] t HB.o (by simp;omega) M;have O:Hid (∀b,w.1.size<=b.1.size->dY w.1.size w.1.size (Lib.byteCells (fw a.1.1 r k++[32])) b->cL 187 #[.pointer (sO w.1.size),.string y] b λe z=>(∃n:Int,e=.returned (.tuple #[U n,.nilIface]))/\dY w.1.size w.1.size (Lib.byteCells (fw a.1.1 r (k+1))) z/\Below w.1.size b z/\iN w.1.size b z):=λb hs hi=>by have:=j8 w.1.size w.1.size (fw a.1.1 r k++[32]) y.1.1 b hi (by rw[Kj,Kv,Lf];omega) hs;rw[sE,<-v.o] at this;exact this
     clear u hy v;go_wp2_with fail;go_at_call 187;refine Calls.mono N.o ?_;rintro e w3 ⟨⟨m3,rfl⟩,h3,A,-⟩;have P:w.1.size<=w3.1.size:=A.u M;have o:Hid _:=O.o w3 P h3;have a7:=Z A;clear h3 A N O;go_wp2_with fail;go_at_call 187;refine Calls.mono o.o ?_;rintro e w4 ⟨⟨m4,rfl⟩,h4,Q,-⟩;have H4:=Z h4;have a8:=Z ((i.o.trans a7.o).trans Q);clear h4 Q o;go_wp2;exact⟨⟨k+1,by omega,by go_num,H4,a8⟩,by simp[intOf];omega⟩
    have s:k=1:=by omega
    have R:r.length=1:=by have:=al.o;omega
    subst s;have B:=HB.o;rw[<-R] at B;have S:Hid _:=Tryz.Builder_String w.1.size w.1.size (fw a.1.1 r r.length) t B (λe=>by unfold fw at e;exact ad.o (MY.1 e).1);clear B R;go_wp2_with fail;go_at_call 189;refine Calls.mono S.o ?_;rintro e w5 ⟨rfl,V⟩;have a9:=Z (i.o.trans V);clear V S;go_wp2;go_ret;exact⟨rfl,a9.o⟩
 go_enter func157,ntmps157;go_wp2_with fail;go_loop [5,41] (λnv q=>∃k:Nat,k<=3/\q=U k/\nv=U ((2+uK (a :: r) k:Nat):Int)) (λ_ q=>3-(intOf q).toNat)
 case atStart=>exact⟨0,Ks _,rfl,by simp[uK]⟩
 case round=>
  obtain⟨k,hk,rfl,rfl⟩:=hrel
  by_cases Y:k<3
  ·have⟨x,hx⟩:=af.o k Y;have hc:=HC.o k x hx;have f:=BS hx;have h:=HL.o (k+1);generalize E:uK (a :: r) (k+1)=A1 at f h;generalize uK (a :: r) k=A0 at f;have a1:=Z E;clear E hx;go_wp2;exact⟨⟨k+1,by omega,by go_num,by rw[a1.o];refine congrArg _ ?_;omega⟩,by simp[intOf];omega⟩
  have s:k=3:=by omega
  subst s;have hT:=HL.o 3;generalize uK (a :: r) 3=T at hT;go_wp2_with fail;have F:((2:Int)+(T:Int))=((2+T:Nat):Int):=by omega
  first|rw[F]|skip
  have G:Hid _:=AK w.1.size w.1.size (2+T) (w.alloc (.cells #[.pointer none,nL] 227)) lE ((Kr w _).1) (by simp) (by omega);have H:Hid (bL w (w.alloc (.cells #[.pointer none,nL] 227))):=(Kf w.1.size w).alloc lE _;clear F hT;go_at_call 190;refine Calls.mono G.o ?_;rintro e l ⟨rfl,X,I⟩;have d:bL w l:=H.o.trans I;have a2:l.cell? (pA C 0)=some (.string a):=(d.cell (p:=pA C 0) W).trans ae.o;have H1:Hid (dY w.1.size w.1.size (Lib.byteCells []) l):=Or.inr X;have a3:=Z d;have J:w.1.size<=l.1.size:=d.size;have K:Hid (cL 187 #[.pointer (sO w.1.size),.string a] l λe b=>(∃n:Int,e=.returned (.tuple #[U n,.nilIface]))/\dY w.1.size w.1.size (Lib.byteCells ([]++a.1.1)) b/\Below w.1.size l b/\iN w.1.size l b):=by have:=j8 w.1.size w.1.size [] a.1.1 l H1.o (by have:=HJ.o 0;unfold fw at this;simp at this |-;omega) J;rw[sE] at this;exact this
  clear X I d G H;go_wp2_with fail;go_at_call 187;refine Calls.mono K.o ?_;rintro e w2 ⟨⟨m,rfl⟩,h2,L,-⟩
  have H2:Hid (dY w.1.size w.1.size (Lib.byteCells (fw a.1.1 r 0)) w2):=by
   unfold Hid fw
   simpa using h2
  have a4:=Z (a3.o.trans L);clear h2 L K a2 J;go_wp2_with fail;go_loopw [65] (λq wr=>∃k:Nat,k<=2/\q=U k/\Hid (dY w.1.size w.1.size (Lib.byteCells (fw a.1.1 r k)) wr)/\Hid (bL w wr)) (λq _=>2-(intOf q).toNat)
  case atStart=>exact⟨0,Ks _,rfl,H2,a4⟩
  case round=>
   obtain⟨k,bc,rfl,HB,i⟩:=hrel;have⟨t,a5⟩:=nM (wr);subst a5
   by_cases bd:k<2
   ·obtain⟨y,hy⟩:=ak.o k (by omega);have bf:t.cell? ⟨C,1+k,none⟩=some (.string y):=by rw[i.o.cell (p:=⟨C,1+k,none⟩) W,show 1+k=k+1 by omega];exact HC.o (k+1) y (by simpa using hy)
    have M:w.1.size<=t.1.size:=i.o.size;have u:=HJ.o (k+1);have v:Hid (fw a.1.1 r (k+1)=(fw a.1.1 r k++[32])++y.1.1):=wt hy;rw[v.o] at u;simp only[Kj,Kv,Lf] at u;have N:Hid (cL 187 #[.pointer (sO w.1.size),.string ⟨#[32]⟩] t λe b=>(∃n:Int,e=.returned (.tuple #[U n,.nilIface]))/\dY w.1.size w.1.size (Lib.byteCells (fw a.1.1 r k++[32])) b/\Below w.1.size t b/\iN w.1.size t b):=j8 w.1.size w.1.size (fw a.1.1 r k) [32] t HB.o (by simp;omega) M;have O:Hid (∀b,w.1.size<=b.1.size->dY w.1.size w.1.size (Lib.byteCells (fw a.1.1 r k++[32])) b->cL 187 #[.pointer (sO w.1.size),.string y] b λe z=>(∃n:Int,e=.returned (.tuple #[U n,.nilIface]))/\dY w.1.size w.1.size (Lib.byteCells (fw a.1.1 r (k+1))) z/\Below w.1.size b z/\iN w.1.size b z):=λb hs hi=>by have:=j8 w.1.size w.1.size (fw a.1.1 r k++[32]) y.1.1 b hi (by rw[Kj,Kv,Lf];omega) hs;rw[sE,<-v.o] at this;exact this
    clear u hy v;go_wp2_with fail;go_at_call 187;refine Calls.mono N.o ?_;rintro e w3 ⟨⟨m3,rfl⟩,h3,A,-⟩;have P:w.1.size<=w3.1.size:=A.u M;have o:Hid _:=O.o w3 P h3;have a7:=Z A;clear h3 A N O;go_wp2_with fail;go_at_call 187;refine Calls.mono o.o ?_;rintro e w4 ⟨⟨m4,rfl⟩,h4,Q,-⟩;have H4:=Z h4;have a8:=Z ((i.o.trans a7.o).trans Q);clear h4 Q o;go_wp2;exact⟨⟨k+1,by omega,by go_num,H4,a8⟩,by simp[intOf];omega⟩
   have s:k=2:=by omega
   have R:r.length=2:=by have:=al.o;omega
   subst s;have B:=HB.o;rw[<-R] at B;have S:Hid _:=Tryz.Builder_String w.1.size w.1.size (fw a.1.1 r r.length) t B (λe=>by unfold fw at e;exact ad.o (MY.1 e).1);clear B R;go_wp2_with fail;go_at_call 189;refine Calls.mono S.o ?_;rintro e w5 ⟨rfl,V⟩;have a9:=Z (i.o.trans V);clear V S;go_wp2;go_ret;exact⟨rfl,a9.o⟩
def IM(W:World)(b a:Bs)(i:Nat)(c:Nat->Value->Prop)(w:World):Prop:=
 Cq W b i c w/\∀u,c 9 u->∃g:Nat,u=.slice (sO g) 2 2/\W.1.size<=g/\w.1[g]?=some (.cells #[.string (dU b),.string (dU a)] 9 (0,0))
def JS(b a:Bs)(i:Nat)(k:Nat)(v:Value):Prop:=if k=9 then ∃g:Nat,v=.slice (sO g) 2 2 else JJ b a i k v
theorem Gz(nm num i k):∃v,JS nm num i k v:=by
 unfold JS
 split
 ·exact⟨_,0,rfl⟩
 exact Bh _ _ _ _
theorem IM.keep{W w w' nm num i k v}{a:Nat->Value->Prop}(h:IM W nm num i a w)(d:bL w w')(f:Cq W nm i (d9 a k v) w')(j:9≠k):IM W nm num i (d9 a k v) w':=by
 refine⟨f,λu b=>?_⟩
 rcases b with b|⟨e,_⟩
 ·have⟨g,e,l,c⟩:=h.2 u b;exact⟨g,e,l,(d.block g (io c)).trans c⟩
 exact absurd e j
theorem IM.row{W w nm num i}{b:Nat->Value->Prop}(h:IM W nm num i b w):IM W nm num i (d9 b 9 (.slice (sO w.1.size) 2 2)) (w.alloc (.cells #[.string (dU nm),.string (dU num)] 9)):=by
 have c:=(Kf w.1.size w).alloc lE (.cells #[.string (dU nm),.string (dU num)] 9);refine⟨h.1.other c _ (by decide) (by decide),λu a=>?_⟩
 rcases a with a|⟨_,rfl⟩
 ·have⟨g,e,f,d⟩:=h.2 u a;exact⟨g,e,f,(c.block g (io d)).trans d⟩
 exact⟨_,rfl,h.1.1.size,ah _ _⟩
theorem DU{w w':World}{g b o:Nat}{n c:Nat}(h:w.grownBy w' (Value.slice (sO g) n c).ownBlock)(d:b<w.1.size)(a:b≠g):w'.cell? ⟨b,o,none⟩=w.cell? ⟨b,o,none⟩:=by have:=h.block b d (λe=>a (by simpa [Value.ownBlock] using e));simp[World.cell?,this]
theorem En{a:Bs}(h:a.length<=1):([a].map List.length).sum<=1000000000:=by simp;omega
theorem EY{a b:Bs}(h:a.length<=1)(c:b.length<=1):([a,b].map List.length).sum<=1000000000:=by simp;omega
theorem IG{a:Bs}{p:aD}(h:a.length<=1)(b:aj p=0):([a,cW p].map List.length).sum<=1000000000:=by
 have c:=jF b;have d:=iT p.1 c.2.2;have e:=jM p.2;have f:(cW p).length<=96000005:=by unfold cW;rw[Kj];omega
 simp;omega
theorem Aq(B:Nat)(a:Bs)(xs:List Bs)(T:Bs)(k:Value)(w':World)(o:a.length<=5)(d:a≠[])(F:xs.length=1\/xs.length=2)(G:(xs.map List.length).sum<=1000000000)(l:w'.ownsRow B 9 1 k (xs.length+1) (.string (dU a) :: xs.map λx=>.string (dU x)))(p:T=a++xs.flatMap λx=>32 :: x):∃g c,k=.slice (sO g) (xs.length+1) c/\cL 157 #[.slice (sO g) (xs.length+1) c,.string ⟨#[32]⟩] w' (rT w' (.string (dU T))):=by
 have q:xs.length+1=2\/xs.length+1=3:=by omega
 have⟨H,b,r,f,m,n⟩:=an l;obtain⟨h,s,t,i⟩:=n (Nat.succ_pos _);clear n;subst s;subst r;refine⟨h,b,rfl,?_⟩
 have u:∀ (j:Nat) x,(dU a :: xs.map dU)[j]?=some x->w'.cell? ⟨h,j,none⟩=some (.string x):=by
  intro j x v
  have w:(Value.string (dU a) :: xs.map λx=>Value.string (dU x))[j]?=some (.string x):=by
   have y:(Value.string (dU a) :: xs.map λx=>Value.string (dU x))=(dU a :: xs.map dU).map Value.string:=by simp
   rw[y,Ku,v];rfl
  exact aK l j _ w
 have z:uK (dU a :: xs.map dU) (xs.length+1)<=10000000000:=by
  unfold uK;rw[Ki (by simp),Lt,List.sum_cons,ph,List.map_map];have A:(ByteArray.size ∘ dU)=(List.length:Bs->Nat):=by funext x;exact ph x
  rw[A];omega
 have C:(dU a).1.1≠[]:=by simpa [dU] using d
 have D:(xs.map dU).length+1=xs.length+1:=by simp
 refine(GL h b (xs.length+1) (dU a) (xs.map dU) w' u i q D f z C).mono λe E ⟨f,m⟩=>⟨?_,m⟩
 rw[f,p];unfold fw;rw[show (xs.map dU).length=xs.length by simp,Ki (by simp),List.flatMap_map];simp[dU]
theorem CA(B v r w)(he:dD w)(hr:cI B w v r)(hB:B<=w.1.size):
  cL 129 #[v] w (rT w (.tuple #[.string (dU (fP r)),U (aZ r)])):=by
 have HC:=Z λb (h:bL w b)=>jy B v r b (hr.l h hB) (h.u hB)
 have b7:=Z λb (h:bL w b)=>he.l h
 have HP:Hid (fP r=if aZ r=0 then aU r else []):=rfl;obtain⟨a,c,rfl,hp⟩:=hr.shape;have o:=Z λb (h:bL w b)=>EH B _ r.2.2.2 b (he.l h) (hp.l h hB) (h.u hB)
 clear hr hp he;obtain⟨k,j,D,M,d⟩:=r;simp only at*;have hb:∀X,bL w (w.alloc X):=λX=>bR.alloc lE _
 have⟨E,hE⟩:=nM (aZ (k,j,D,M,d));have HE:=Z hE
 rw[<-hE] at HC HP |-
 clear hE;have⟨n,hn⟩:=nM (M.length);have HN:=Z hn
 rw[<-hn] at HC o |-
 clear hn;have⟨W0,Y⟩:=nM (w.alloc (.cells #[U k,U j,U D,.slice a n c,U d] 71));have g0:=hA Y;have a7:bL w W0:=by rw[Y];exact hb _
 have HG:=Z λb (h:bL W0 b)=>Q2 (h.bl g0) (a7.th h)
 have HW:=Z Y;clear Y g0;go_enter func129,ntmps129;go_wp2_with fail;rw[<-HW.o];go_at_call 116;refine Calls.mono (HC.o _ a7) ?_;rintro e w1 ⟨rfl,a9⟩;have⟨g1,b8⟩:=HG.o w1 a9;have B1:=Z2 a9 b8;have l1:=io g1;have⟨q0,q1,q2,q3,q4⟩:=aF g1;clear g1 b8 a9 a7 hb HC HW
 by_cases h0:E=0
 ·obtain⟨hk,hc,hf,-,ba⟩:=iB (HE.o.symm.trans h0);have aa:Hid (fP (k,j,D,M,d)=aU (k,j,D,M,d)):=by unfold Hid;rw[HP.o,Io h0]
  have a0:=Z ba;subst h0;obtain⟨i,a1,I⟩:∃i:Nat,i<4/\k=(i:Int)+1:=⟨(k-1).toNat,by omega,by omega⟩;have i0:(0:Int)<=(i:Int):=by omega
  have i1:(i:Int)<4:=by omega
  have ck:IntKind.i64.wrap (k-1)=(i:Int):=by rw[show k-1=(i:Int) by omega];exact KA _ (by omega)
  have⟨q,N⟩:=nM (kN.getD i []);have u:Hid (q=kN.getD i []/\q.length<=5/\kC[i]?=some (.string (dU q))):=⟨N,by rw[N];exact Gc i,by rw[N];exact IN a1⟩;have ac:Hid (q≠[]):=by unfold Hid;rw[N];exact II a1
  have a2:=Z2 (nF hc.1 hc.2) (nF hf.1 hf.2);have F:Hid ((-9223372036854775808<=j/\j<=9223372036854775807)/\(-9223372036854775808<=D/\D<=9223372036854775807)):=⟨⟨Ml (by decide) hc.1,Ml hc.2 (by decide)⟩,Ml (by decide) hf.1,Ml hf.2 (by decide)⟩;have cl:=Z2 I a1;have c0:∀z:ax w1,z.1.cell? (pA w.1.size 0)=some (U k):=λz=>z.cell q0 l1
  have c1:∀z:ax w1,z.1.cell? (pA w.1.size 1)=some (U j):=λz=>z.cell q1 l1
  clear N I hk hc hf ba;go_wp2_with fail;have a3:=ax.ne w1
  have J:Hid (∀fs b,IM w1 q (Lib.itoa j) i fs b->∃z:ax w1,b=z.1):=λfs b h=>⟨⟨b,h.1.1⟩,rfl⟩
  refine bJ [_,_,_,_,_,_,_,_,_,_] _ rfl (λk=>k==0||k==4||k==5||k==8||k==9) (IM w1 q (Lib.itoa j) i) (JS q (Lib.itoa j) i) (Gz _ _ _) (by kernel_rfl) (by kernel_rfl) ⟨⟨bR.drew,λ_ h=>h.elim,λ_ h=>h.elim⟩,λ_ h=>h.elim⟩ ?_;refine bw 155 #[] rfl rfl (λb=>by kernel_rfl) (λgs b m f y=>?_) (λv0 cn=>?_)
  ·refine(qp b).mono ?_;rintro e K ⟨rfl,rfl⟩;exact⟨_,rfl,⟨_,rfl⟩,m.keep (bR.alloc lE _) (m.1.lit _ _ u.o.2.2) (by decide)⟩
  go_frame;obtain⟨g,rfl⟩:∃g:Nat,v0=.slice (sO g) 4 4:=cn;iterate 3(refine aP J.o rfl rfl ?_;go_big_quiet_step (fail);refine Km ?_)
  refine cz rfl rfl (λgs b m f y=>⟨.pointer (some ⟨g,i,none⟩),b,?_,⟨_,rfl⟩,m.keep bR (m.1.addr (f 0 _ (.inr ⟨rfl,rfl⟩) (au (by kernel_rfl)))) (by decide)⟩) (λv4 co=>?_)
  ·clear m f y J a3 c0 c1;go_simp
  go_frame;obtain⟨g4,rfl⟩:∃g:Nat,v4=.pointer (some ⟨g,i,none⟩):=co;refine cz rfl rfl (λgs b m f y=>⟨.string (dU q),b,?_,rfl,m.keep bR (m.1.other bR _ (by decide) (by decide)) (by decide)⟩) (λv5 cp=>?_)
  ·obtain⟨g',e,hl,hc⟩:=m.1.2.2 _ (f 4 _ (.inr ⟨rfl,rfl⟩) (au (by kernel_rfl)));simp at e;subst e;clear m f y J a3 c0 c1;go_simp
  go_frame;obtain rfl:v5=.string (dU q):=cp;iterate 2(refine aP J.o rfl rfl ?_;go_big_quiet_step (fail);refine Km ?_)
  refine bw 99 #[U j] rfl rfl (λb=>by kernel_rfl) (λgs b m f y=>?_) (λv8 cs=>?_)
  ·refine(Tryz.strconv_Itoa j F.o.1.1 F.o.1.2 b (b7.o b (B1.o.2.th m.1.1)).2.2.2).mono ?_;rintro e K ⟨rfl,k8,cv,rfl⟩;exact⟨_,rfl,rfl,m.keep (LT _ _ lE _ _) (m.1.other (LT _ _ lE _ _) _ (by decide) (by decide)) (by decide)⟩
  go_frame;obtain rfl:v8=.string (dU (Lib.itoa j)):=cs;refine cz rfl rfl (λgs b m f y=>⟨.slice (sO b.1.size) 2 2,b.alloc (.cells #[.string (dU q),.string (dU (Lib.itoa j))] 9),?_,⟨_,rfl⟩,m.row⟩) (λv9 cx=>?_)
  ·clear m f y J a3 c0 c1;go_simp
  go_frame;obtain⟨g9,rfl⟩:∃g:Nat,v9=.slice (sO g) 2 2:=cx;refine ei ?_;intro K ad;have a4:=ad.1.1;obtain⟨ee,e9,bd,O⟩:=ad.2 _ (.inr ⟨rfl,rfl⟩);simp at e9;subst e9;have bf:bL w K:=(HG.o K (B1.o.1.th a4)).2;obtain⟨g2,-⟩:=HG.o K (B1.o.1.th a4);have B2:=Z2 (B1.o.1.th a4) bf;have l2:=io g2;have⟨r0,r1,r2,r3,r4⟩:=aF g2;have d1:=io O;have s:w.1.size<=g9:=Kl B1.o.2.size bd;have d2:Hid (w.1.size≠g9):=by unfold Hid;omega
  have G:Hid (∀b,bL K b->b.ownsRow w.1.size 9 1 (.slice (sO g9) 2 2) 2 [.string (dU q),.string (dU (Lib.itoa j))]):=λb h=>⟨rfl,.inr ⟨g9,2,_,rfl,s,(h.block g9 d1).trans O,Ke _,by rw[ai];omega,rfl,rfl⟩⟩
  clear ad a4 g2 bf a3 J c0 c1 q0 q1 q2 q3 q4 l1 ck O bd s;obtain⟨I,a1⟩:=cl.o;have H:k=1\/k=2\/k=3\/k=4:=by omega
  have L:=Z λb=>tx H b
  obtain⟨em,bg,bk,bm,bo⟩:∃i,prog.info? 9=some i/\i.zero=some (.string ⟨#[]⟩)/\i.size=1/\i.bytes=16:=jL (by kernel_rfl);have⟨T,A⟩:=nM (aU (k,j,D,M,d));have P:Hid (fP (k,j,D,M,d)=T):=by unfold Hid;rw[A];exact aa.o
  have bp:Hid (2+1<=maxLen):=by unfold Hid;rw[ai];omega
  by_cases h4:k=4
  ·have hT:T=q++[Lib.itoa j].flatMap λx=>32 :: x:=by rw[A,u.o.1];unfold aU;simp only[iO (show ¬k=3 by omega),Io h4];rw[show (k-1).toNat=i by omega];simp
   obtain⟨gj,a6,ej,HJ⟩:=Aq w.1.size q [Lib.itoa j] T _ K u.o.2.1 ac.o (.inl rfl) (En a2.o.1) (G.o K bR) hT;simp only[Kv,Lf,Kp,Nat.reduceAdd,Value.slice.injEq,Option.some.injEq,Addr.mk.injEq,and_true,true_and] at ej HJ;obtain⟨rfl,rfl⟩:=ej;have Q:Hid _:=HJ;rw[show decide (k=1\/k=2)=false by simp;omega] at L;subst h4;clear I H HJ G o a0 hT A;go_wp2_with fail;go_at_call 143;refine Calls.mono (L.o _) ?_;rintro e w3 ⟨rfl,rfl⟩;go_wp2_with fail;go_at_call 157;refine Calls.mono Q.o ?_;rintro e R ⟨rfl,d4⟩;have d5:bL w R:=B2.o.2.th d4;go_wp2_with fail;go_ret2;exact⟨by rw[P.o];rfl,d5⟩
  by_cases h3:k=3
  ·have hT:T=q++[Lib.itoa j,Lib.itoa D].flatMap λx=>32 :: x:=by rw[A,u.o.1];unfold aU;simp only[Io h3];rw[show (k-1).toNat=i by omega];simp
   have HI:Hid (cL 99 #[U D] K (rT K (.string (dU (Lib.itoa D))))):=by refine(Tryz.strconv_Itoa D F.o.2.1 F.o.2.2 K (b7.o K B2.o.2).2.2.2).mono ?_;rintro e w3 ⟨rfl,k8,cv,rfl⟩;exact⟨rfl,LT _ _ lE _ _⟩
   have HT:=Z hT;have t:=EY a2.o.1 a2.o.2;have C:Hid _:=t;rw[show decide (k=1\/k=2)=false by simp;omega] at L;subst h3;clear I H o a0 h4 hT A t;generalize Lib.itoa D=fT at*;generalize Lib.itoa j=cT at*;go_wp2_with fail;go_at_call 143;refine Calls.mono (L.o _) ?_;rintro e w3 ⟨rfl,rfl⟩;go_wp2_with fail;go_at_call 99;refine Calls.mono HI.o ?_;rintro e R ⟨rfl,l⟩;have af:Hid _:=G.o R l;have HA:=Z (l.u B2.o.2.size);have ak:=Z (B2.o.2.th l);clear l;go_wp2_with (first|(at_builtin;go_must (refine gy _ rfl _ _ rfl Tryz.underlying120 bg bk bm bo rfl (by decide) w.1.size _ _ _ rfl _ 1 [.string (dU fT)] rfl R rfl rfl R bR af.o rfl (by simp[Value.oneCell']) bp.o (by decide) HA.o ?_;intro v9 w9 ao S s av;have b0:Hid _:=S;clear S s av;obtain⟨gj,a6,rfl,HJ⟩:=Aq w.1.size q [cT,fT] T v9 w9 u.o.2.1 ac.o (.inr rfl) C.o ao.o HT.o;have Q:Hid _:=HJ;clear HJ)));go_at_call 157;refine Calls.mono Q.o ?_;rintro e b1 ⟨rfl,V⟩;have b2:bL w w9:=ak.o.trans b0.o;have W:bL w b1:=b2.th V;go_wp2_with fail;go_ret2;exact⟨by rw[P.o];rfl,W⟩
  have b3:aj (M,d)=0:=by
   rcases a0.o with h|h
   ·exact h.2
   omega
  have HT:Hid (T=q++[Lib.itoa j,cW (M,d)].flatMap λx=>32 :: x):=by unfold Hid;rw[A,u.o.1];unfold aU;simp only[iO h3,iO h4];rw[show (k-1).toNat=i by omega];simp
  have t:=IG a2.o.1 b3;have C:Hid _:=t;have bx:ke (M,d)=(cW (M,d),0):=by unfold ke;rw[Io b3]
  have bz:Hid _:=o.o K B2.o.2;rw[bx] at bz;have eq:(k==3)=false:=by simpa using h3
  rw[show decide (k=1\/k=2)=true by simp;omega] at L;clear I H o a0 h4 A t bx b3 h3;generalize cW (M,d)=fT at*;generalize Lib.itoa j=cT at*;go_wp2_with fail;go_at_call 143;refine Calls.mono (L.o _) ?_;rintro e w3 ⟨rfl,rfl⟩;go_wp2_with fail;go_at_call 156;refine Calls.mono bz.o ?_;rintro e R ⟨rfl,l⟩;have af:Hid _:=G.o R l;have HA:=Z (l.u B2.o.2.size);have ak:=Z (B2.o.2.th l);have c4:R.cell? (pA w.1.size 0)=some (U k):=(l.cell (p:=pA w.1.size 0) l2).trans r0;have l4:w.1.size<R.1.size:=Kd l2 l.size;clear l;go_wp2_with (first|(at_builtin;go_must (refine gy _ rfl _ _ rfl Tryz.underlying120 bg bk bm bo rfl (by decide) w.1.size _ _ _ rfl _ 1 [.string (dU fT)] rfl R rfl rfl R bR af.o rfl (by simp[Value.oneCell']) bp.o (by decide) HA.o ?_;intro v9 w9 ao S s av;have b0:Hid _:=S;have c9:w9.cell? (pA w.1.size 0)=some (U k):=(DU s.o l4 d2.o).trans c4;have l9:w.1.size<w9.1.size:=Kd l4 s.o.size;clear S s av c4 l4 r0 r1 r2 r3 r4;obtain⟨gj,a6,rfl,HJ⟩:=Aq w.1.size q [cT,fT] T v9 w9 u.o.2.1 ac.o (.inr rfl) C.o ao.o HT.o;have Q:Hid _:=HJ;clear HJ)));go_at_call 157;refine Calls.mono Q.o ?_;rintro e b1 ⟨rfl,V⟩;have b2:bL w w9:=ak.o.trans b0.o;have W:bL w b1:=b2.th V;go_wp2_with fail;go_ret2;exact⟨by rw[P.o];rfl,W⟩
 have aa:Hid (fP (k,j,D,M,d)=[]):=by unfold Hid;rw[HP.o,iO h0]
 have hq:(E != 0)=true:=by simpa using h0
 clear h0;go_wp2_with fail;go_ret2;exact⟨by rw[aa.o];rfl,B1.o.2⟩
