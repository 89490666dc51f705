import Derived.Test.YtffnfdfjojidfaaGreatDoorWr37
set_option linter.all false
set_option maxRecDepth 100000
set_option maxHeartbeats 4000000
namespace Go.Proofs.YtffnfdfjojidfaaGreatDoor
open Go.RowKit Go.Maps Go.Proofs.Tryz
theorem rN:(∀k,k<5->(10:UInt8) ∉ vN.getD k [])/\(∀k,k<5->(10:UInt8) ∉ fN.getD k [])/\(∀k,k<4->fU.getD k 0≠10)/\∀k,k<4->(10:UInt8) ∉ kN.getD k []:=by decide
theorem AA{n:Int}(h:0<=n):(10:UInt8) ∉ Lib.itoa n:=by
 have e:Lib.itoa n=Lib.decDigits n.toNat:=by unfold Lib.itoa;rw[iO (by omega)]
 rw[e];intro a;have:=iV _ _ a;have b:(10:UInt8).toNat=10:=rfl;omega
theorem IF{c:aN}(h:bS c=0):(10:UInt8) ∉ cq c:=by
 obtain⟨f,o,n⟩:=c;have⟨e,g,d⟩:=ft h;simp only[] at e g d;obtain⟨i,rfl⟩:∃k:Nat,f=k:=⟨f.toNat,by omega⟩;obtain⟨b,rfl⟩:∃k:Nat,o=(k:Int)+1:=⟨(o-1).toNat,by omega⟩;have j:=rN.2.1 i (by omega);have l:=rN.2.2.1 b (by omega);have m:=AA d.1;intro a;unfold cq at a;simp only[Kz,KB] at a
 rcases a with a|a|a|a
 ·exact absurd a (by decide)
 ·unfold fK at a;simp only[L3] at a;exact j a
 ·unfold gl at a;rw[show ((b:Int)+1-1).toNat=b by omega] at a;exact l a.symm
 exact m a
theorem xu{v:Int}(h:cA v=true):(10:UInt8) ∉ d7 v:=by
 have a:0<=v/\v<=4:=by unfold cA at h;simp at h;omega
 obtain⟨k,rfl⟩:∃k:Nat,v=k:=⟨v.toNat,by omega⟩;have:=rN.1 k (by omega);unfold d7
 simpa using this
theorem Jd{p:aD}(h:aj p=0):(10:UInt8) ∉ cW p:=by
 have⟨_,b,d⟩:=cY h;intro a;unfold cW at a
 rcases KB.1 a with a|a
 ·have⟨r,e,a⟩:=Ll.1 a;have⟨_,f,g⟩:=dy (cM d r e);unfold ct at a
  rcases KB.1 a with a|a
  ·rcases KB.1 a with a|a
   ·exact xu f a
   have⟨c,i,a⟩:=Ll.1 a;exact IF (fy g c i) a
  simp at a
 exact xu b a
theorem zr{r:az}(h:aZ r=0):(10:UInt8) ∉ aU r:=by
 have⟨g,d,e,_,b⟩:=iB h;obtain⟨k,i⟩:∃k:Nat,r.1=(k:Int)+1:=⟨(r.1-1).toNat,by omega⟩;have c:k<4:=by omega
 have f:=rN.2.2.2 k c;intro a;unfold aU at a;rw[show (r.1-1).toNat=k by omega] at a
 rcases KB.1 a with a|a
 ·exact f a
 rcases Kz.1 a with a|a
 ·exact absurd a (by decide)
 rcases KB.1 a with a|a
 ·exact AA d.1 a
 split at a
 ·rcases Kz.1 a with a|a
  ·exact absurd a (by decide)
  exact AA e.1 a
 split at a
 ·cases a
 rename_i j l
 rcases b with ⟨_,b⟩|⟨b,_⟩
 ·rcases Kz.1 a with a|a
  ·exact absurd a (by decide)
  exact Jd b a
 omega
def bZ(a:List az):Bs:=a.flatMap λr=>aU r++[10]
def uD(a:List az):Prop:=∀r∈a,aZ r=0/\(aU r).length<=60000
theorem tM(r:az)(a:List az):bZ (r :: a)=aU r++10 :: bZ a:=by unfold bZ;simp
theorem qg(a b:List az):bZ (a++b)=bZ a++bZ b:=by unfold bZ;simp
theorem j7(a:List az)(r:az):bZ (a++[r])=bZ a++(aU r++[10]):=by unfold bZ;simp
theorem p8:∀ (a:List az) (aO:Nat) (t:Bs),uD a->a.length<=aO->aM aO (bZ a++t)=(a++(aM (aO-a.length) t).1,(bZ a).length+(aM (aO-a.length) t).2.1,(aM (aO-a.length) t).2.2)
 |[],aO,t,_,_=>by simp[bZ]
 |r :: a,0,t,_,h=>by simp at h
 |r :: a,aO+1,t,b,h=>by obtain⟨c,d⟩:=b r (by simp);have e:=p8 a aO t (λq f=>b q (by simp[f])) (by simpa using h);rw[tM,KI,Lg,jZ _ _ _ (zr c),wH c d];simp only[Lr];rw[e];simp only[Kv,Nat.add_sub_add_right,Lg,Kj,Prod.mk.injEq,true_and,and_true];omega
theorem pI{rs}{aO:Nat}(a:uD rs)(h:rs.length<=aO):aM aO (bZ rs)=(rs,(bZ rs).length,0):=by
 have:=p8 rs aO [] a h;rw[LI,jJ] at this
 simpa using this
theorem tk:∀ (n aO:Nat) (s:Bs),s.length<=n->s.length<=60000->s.take (aM aO s).2.1=bZ (aM aO s).1/\uD (aM aO s).1/\(aM aO s).1.length<=aO/\(aM aO s).2.1<=s.length/\((aM aO s).2.2=0->(aM aO s).2.1=s.length)
 |n,aO,s,e,g=>by
  cases hc:i8 s with
  |none=>
   have c:=qP hc
   by_cases i:s=[]
   ·subst i;rw[jJ];exact⟨rfl,λr b=>(by cases b),Ks _,Ke _,λ_=>rfl⟩
   rw[oT aO s c i];exact⟨by simp[bZ],λr b=>(by cases b),Ks _,Ks _,λh=>by cases h⟩
  |some x=>
   obtain⟨a,t⟩:=x;have o:=mY hc;obtain⟨rfl,c⟩:=gL hc;rw[jZ aO a t c]
   by_cases b:(ch a).2=0
   ·rw[Io b];have f:=Ha (s:=a) (r:=(ch a).1) (by rw[<-b]) (by omega)
    match aO with
    |0=>exact⟨by simp[bZ],λr b=>(by cases b),Ks _,Ks _,λh=>by cases h⟩
    |m+1=>
     match n,e with
     |0,e=>simp at e
     |n+1,e=>
      obtain⟨j,k,p,q,l⟩:=tk n m t (by simp at e;omega) (by simp at g;omega);simp only;refine⟨?_,?_,by simp;omega,by simp;omega,λh=>by have:=l h;simp;omega⟩
      ·rw[tM,f.2,<-j,List.take_append,Ki (by omega),show a.length+1+(aM m t).2.1-a.length=(aM m t).2.1+1 by omega,Mf]
      intro r d
      rcases Kz.1 d with rfl|d
      ·exact⟨f.1,by rw[f.2];simp at g;omega⟩
      exact k r d
   rw[iO b];exact⟨by simp[bZ],λr b=>(by cases b),Ks _,Ks _,λh=>absurd h b⟩
theorem wq{d:bQ}(h:aB d=0):∃e,d.1=bZ e/\uD e/\e.length<=40/\aM 40 d.1=(e,d.1.length,0)/\d.1.length+d.2.length<=60000:=by
 have⟨j,o,k,f⟩:=dE h;have⟨i,l,m,p,n⟩:=tk d.1.length 40 d.1 lE j;have g:=n f;rw[g,L6] at i;refine⟨_,i,l,m,?_,k⟩;generalize aM 40 d.1=x at*;obtain⟨a,b,c⟩:=x
 simp only at f g |-
 rw[f,g]
theorem gN{rs}(a:uD rs)(b:rs.length<=40){t:Bs}(c:(bZ rs).length+t.length<=60000):aB (bZ rs,t)=0:=wA c (by rw[pI a b])
theorem qQ{rs}(a:uD rs)(b:rs.length<=40)(d:(bZ rs).length<=60000):cK (bZ rs,[])=rs/\gE (bZ rs,[])=(bZ rs,[]):=by have c:=gN (t:=[]) a b (by simpa using d);unfold cK gE;rw[Io c,Io c];unfold iF jB mu;rw[pI a b];simp only;rw[jJ];simp
theorem FF{d:bQ}(h:aB d=0):∃a,cK d=a/\gE d=(bZ a,[])/\uD a/\a.length<=40/\(bZ a).length<=60000:=by
 have⟨a,e,g,j,c,k⟩:=wq h;obtain⟨f,i,l,m,-⟩:=tk d.2.length (40-a.length) d.2 lE (by omega);refine⟨a++(aM (40-a.length) d.2).1,?_,?_,λr b=>?_,by simp;omega,?_⟩
 ·unfold cK iF mu;rw[Io h,c]
 ·unfold gE jB mu;rw[Io h,c];simp only;rw[f,qg,<-e]
 ·rcases KB.1 b with b|b
  ·exact g r b
  exact i r b
 rw[qg,<-e,<-f,Kj,Kt];omega
abbrev aH:=List aG × bQ × Bool
def fg:aH:=([],([],[]),false)
def wW(w:aH):List az:=if w.2.2=true then cK w.2.1 else []
def cr(w:aH):Int:=if aB w.2.1=0 then (if w.2.2=true/\w.2.1.2≠[] then 4 else if (ay (wW w)).2=0 then (if (ay (wW w)).1=w.1 then 0 else 4) else (ay (wW w)).2) else aB w.2.1
theorem DK:ay []=(aA,0):=rfl
theorem uO(cs:List aG)(d:bQ):cr (cs,d,true)=if aB d=0 then (if d.2≠[] then 4 else if (ay (cK d)).2=0 then (if (ay (cK d)).1=cs then 0 else 4) else (ay (cK d)).2) else aB d:=by
 have b:wW (cs,d,true)=cK d:=rfl;unfold cr;rw[b]
 by_cases a:d.2=[]
 ·rw[iO (show ¬((cs,d,true).2.2=true/\(cs,d,true).2.1.2≠[]) from λe=>e.2 a),iO (show ¬(d.2≠[]) from λe=>e a)]
 rw[Io (show (cs,d,true).2.2=true/\(cs,d,true).2.1.2≠[] from ⟨rfl,a⟩),Io (show d.2≠[] from a)]
theorem ng(cs:List aG)(d:bQ):cr (cs,d,false)=if aB d=0 then (if aA=cs then 0 else 4) else aB d:=by have a:wW (cs,d,false)=[]:=rfl;unfold cr;rw[a,DK,iO (show ¬((cs,d,false).2.2=true/\(cs,d,false).2.1.2≠[]) from λe=>by cases e.1),Io rfl]
def bU(x:az):az:=if x.1=3 then (3,x.2.1,x.2.2.1,[],0) else if x.1=4 then (4,x.2.1,0,[],0) else if x.1=1 then (1,x.2.1,0,x.2.2.2) else (2,x.2.1,0,x.2.2.2)
def ig(n:Int)(m:Nat):Nat:=min n.toNat m
def aQ(w:aH)(x:az):Int:=
 if x.1<1\/7<x.1 then 4
 else if w.2.2=decide (x.1=6) then 6
 else if x.1=5 then 0
 else if x.1=6 then (ay (cK w.2.1)).2
 else if cQ w.1 (bU x)=0 then (if f8 w.2.1 (bU x)=0 then (if x.1=7 then 0 else fm (fu w.2.1 (bU x))) else f8 w.2.1 (bU x)) else cQ w.1 (bU x)
def gK(w:aH)(x:az):aH:=
 if x.1=5 then (aA,w.2.1,false)
 else if x.1=6 then ((ay (cK w.2.1)).1,gE w.2.1,true)
 else if x.1=7 then (aA,(w.2.1.1,(fu w.2.1 (bU x)).2.take (ig x.2.2.1 (fu w.2.1 (bU x)).2.length)),false)
 else (dI w.1 (bU x),i7 (fu w.2.1 (bU x)),true)
def bP(w:aH)(x:az):aH:=if aQ w x=0 then gK w x else fg
def lC(w:aH)(x:az):Int:=if cr w=0 then aQ w x else cr w
def oA(w:aH)(x:az):aH:=if lC w x=0 then bP w x else fg
def kz:aH:=(aA,([],[]),true)
def yh(w:aH)(a:List az):Prop:=w=((ay a).1,(bZ a,[]),true)/\uD a/\a.length<=40/\(bZ a).length<=60000/\(ay a).2=0
theorem yh.right{w rs}(h:yh w rs):cr w=0:=by obtain⟨rfl,a,b,c,d⟩:=h;rw[uO,Io (gN a b (by simpa using c)),iO (by simp),(qQ a b c).1,Io d,Io rfl]
theorem x8{w:aH}(h:cr w=0)(j:w.2.2=true):∃a,yh w a:=by
 obtain⟨n,d,u⟩:=w;simp only at j;subst j;rw[uO] at h
 by_cases f:aB d=0
 ·rw[Io f] at h
  by_cases i:d.2≠[]
  ·rw[Io i] at h
   cases h
  rw[iO i] at h;have b:d.2=[]:=L8 λe=>i e
  obtain⟨a,e,k,l,-,o⟩:=wq f;obtain⟨s,t⟩:=d;simp only at e b;subst e b;have c:(bZ a).length<=60000:=by simp at o;omega
  rw[(qQ k l c).1] at h
  by_cases g:(ay a).2=0
  ·rw[Io g] at h
   by_cases m:(ay a).1=n
   ·subst m;exact⟨a,rfl,k,l,c,g⟩
   rw[iO m] at h
   cases h
  rw[iO g] at h;exact absurd h g
 rw[iO f] at h;exact absurd h f
theorem vu(d:bQ)(h:aB d=0):cr (aA,d,false)=0:=by rw[ng,Io h,Io rfl]
theorem BP{a:List az}{r:az}(c:a.length+1<=40)(h:(ay a).2=0)(b:cQ (ay a).1 r=0):ay (a++[r])=(dI (ay a).1 r,0):=by
 unfold ay at h b |-
 rw[iO (by omega)] at h b;rw[iO (by rw[Kj,Kv,Lf];omega),iO (by omega),Mu];generalize a.foldl db (aA,0)=s at*;show db s r=_;unfold db;rw[Io h,Io b]
theorem CV{rs}{r:az}(e:uD rs)(f:rs.length<=40)(g:(bZ rs).length<=60000)(h:f8 (bZ rs,[]) r=0):aZ r=0/\(aU r).length<=60000/\fu (bZ rs,[]) r=(bZ rs,aU r++[10])/\(bZ rs).length+(aU r++[10]).length<=60000:=by
 have i:=gN (t:=[]) e f (by simpa using g);have b:fu (bZ rs,[]) r=(bZ rs,[]++(fP r++[10])):=by unfold fu;rw[Io h]
 unfold f8 lz at h;rw[Io i] at h
 by_cases a:aZ r=0
 ·have c:fP r=aU r:=by unfold fP;rw[Io a]
  rw[Io a,c] at h;rw[c] at b
  by_cases d:60000<(bZ rs,([]:Bs)).1.length+(bZ rs,([]:Bs)).2.length+(aU r).length+1
  ·rw[Io d] at h
   cases h
  simp at d;exact⟨a,by omega,by rw[b];rfl,by simp;omega⟩
 rw[iO a] at h;exact absurd h a
theorem z9{rs}{r:az}(b:uD rs)(c:aZ r=0)(d:(aU r).length<=60000):uD (rs++[r]):=λq a=>by
 rcases KB.1 a with a|a
 ·exact b q a
 simp at a;subst a;exact⟨c,d⟩
theorem Iq{rs}{r:az}(b:uD rs)(l:rs.length<=40)(c:aZ r=0)(g:(aU r).length<=60000)(i:(bZ rs).length+(aU r++[10]).length<=60000):fm (bZ rs,aU r++[10])=(if rs.length+1<=40 then 0 else 2)/\(rs.length+1<=40->i7 (bZ rs,aU r++[10])=(bZ (rs++[r]),[])):=by
 have m:=gN (t:=aU r++[10]) b l i;have j:fm (bZ rs,aU r++[10])=aB (bZ (rs++[r]),[]):=by unfold fm km;rw[Io m,j7]
 have a:(bZ (rs++[r])).length<=60000:=by rw[j7,Kj];exact i
 have d:=z9 b c g
 by_cases f:rs.length+1<=40
 ·have k:fm (bZ rs,aU r++[10])=0:=by rw[j];exact gN d (by simp;omega) (by simpa using a)
  refine⟨by rw[Io f,k],λ_=>?_⟩;unfold i7;rw[Io k,j7]
 refine⟨?_,λh=>absurd h f⟩;rw[iO f,j];have n:rs.length=40:=by omega
 have e:aM 40 (bZ (rs++[r]))=(rs,(bZ rs).length,2):=by rw[j7];have:=p8 rs 40 (aU r++[10]) b (by omega);rw[this,show 40-rs.length=0 by omega,jZ 0 (aU r) [] (zr c),wH c g];simp
 unfold aB;simp only;rw[iO (by simp only[Lf];omega),e]
theorem pY(B u v c d w)(Y:mO B w u c)(hd:mO B w v d)(q:B<=w.1.size):
  cL 61 #[u,v] w (rT w (.bool (decide (c=d)))):=by
 obtain⟨la,lc,N,O,rfl,z,A⟩:=Y;obtain⟨G,H,r,s,rfl,P,Q⟩:=hd;have C:=Z λa (h:bL w a)=>EI B _ _ c.2.1 d.2.1 a (z.l h q) (P.l h q) (h.u q)
 have I:=Z λa (h:bL w a)=>BX B _ _ c.2.2 d.2.2 a (A.l h q) (Q.l h q) (h.u q)
 have l:Hid (decide (c=d)=(decide (c.1=d.1)&&(decide (c.2.1=d.2.1)&&decide (c.2.2=d.2.2)))):=by unfold Hid;rw[<-Bool.decide_and,<-Bool.decide_and];refine decide_eq_decide.2 ⟨λh=>by rw[h];exact⟨rfl,rfl,rfl⟩,λ⟨z,A,h3⟩=>?_⟩;exact Prod.ext z (Prod.ext A h3)
 clear z A P Q;obtain⟨o,J,K,f⟩:=c;obtain⟨t,m,n,D⟩:=d;simp only at C I l;generalize decide ((o,J,K,f)=(t,m,n,D))=L at*;generalize decide (J=m)=e1 at*;generalize decide ((K,f)=(n,D))=e2 at*;generalize J.length=n1 at*;generalize m.length=n2 at*;generalize K.length=R at*;generalize n.length=S at*;have⟨W2,b⟩:=nM ((w.alloc (.cells #[.bool o,.slice la n1 lc,.slice N R O,U f] 46)).alloc (.cells #[.bool t,.slice G n2 H,.slice r S s,U D] 46));have p:=bB b;have a8:=sB b;have T:=gB b;have V:=gC b;have M:Hid (∀a,bL W2 a->a.cell? (pW w 2)=some (.slice N R O)/\a.cell? (pW w 3)=some (U f)/\a.cell? (pA (w.1.size+1) 2)=some (.slice r S s)/\a.cell? (pA (w.1.size+1) 3)=some (U D)/\bL w a):=λa h=>by have W:=h.bk T;have X:=h.bk V;exact⟨J2 W,J3 W,J2 X,J3 X,p.th h⟩
 have j:=Z b;have k:=Z p;clear b T V p
 by_cases E:o=t
 ·subst E
  cases e1 with
  |true=>
   have g:=Z (by rw[l.o];simp:L=e2);clear l;go_enter func61,ntmps61;go_wp2_with fail;rw[<-j.o];go_at_call 94;refine(C.o _ k.o).mono ?_;rintro e w3 ⟨rfl,i⟩;obtain⟨y0,y1,y2,y3,x⟩:=M.o _ i;have F:=Z x;clear i x;go_wp2_with fail;go_at_call 95;refine(I.o _ F.o).mono ?_;rintro e w4 ⟨rfl,y⟩;have HZ:=Z (F.o.th y);clear y;go_wp2_with fail
   all_goals
    go_ret;exact⟨by rw[g.o];rfl,HZ.o⟩
  |false=>
   have g:=Z (by rw[l.o];simp:L=false);clear l;go_enter func61,ntmps61;go_wp2_with fail;rw[<-j.o];go_at_call 94;refine(C.o _ k.o).mono ?_;rintro e w3 ⟨rfl,i⟩;obtain⟨y0,y1,y2,y3,x⟩:=M.o _ i;have F:=Z x;clear i x;go_wp2_with fail;go_ret;exact⟨by rw[g.o];rfl,F.o⟩
 have g:=Z (by rw[l.o,KD E];rfl:L=false)
 have hq:(o==t)=false:=by cases o<;>cases t<;>simp at E |-
 rw[j.o] at k;clear l C I M j E;go_enter func61,ntmps61;go_wp2_with fail
 all_goals
  go_ret;exact⟨by rw[g.o];rfl,k.o⟩
theorem xt(B lv mv ls b w)(f:aE B w lv ls)(g:aE B w mv b)(l:B<=w.1.size):
  cL 30 #[lv,mv] w (rT w (.bool (decide (ls=b)))):=by
 have m:Hid (cL 51 #[lv,mv,.func (.func 61) #[] #[]] w (rT w (.bool (decide (ls=b))))):=p9 B 61 (λj k=>by kernel_rfl) (λk u v c d h o p=>pY B u v c d k o p h) lv mv ls b w f g l;obtain⟨a,c,rfl,-,-⟩:=f.shape;obtain⟨q,r,rfl,-,-⟩:=g.shape;clear f g;generalize decide (ls=b)=eq at*;generalize ls.length=n at*;generalize b.length=s at*;go_enter func30,ntmps30;go_wp2_with (first|(go_at_call 51;go_must (refine m.o.mono ?_;rintro e t ⟨rfl,i⟩)));go_ret;exact⟨rfl,i⟩
abbrev wG(L:Nat)(w:World)(v:Value)(l:List aG):Prop:=kn (λk=>k<L) w v l
theorem kn.at{K:Nat->Prop}{w v l}(h:kn K w v l):aE w.1.size w v l:=h w (Kx.refl _ _)
theorem A8(w):cL 33 #[] w λe f=>∃v,e=.returned v/\wG w.1.size f v aA/\bL w f:=by
 have c:=kT;have a:Hid (wG w.1.size (w.alloc (.cells (madeCells #[.bool false,nL,nL,U 0] 16) 46)) (.slice (MZ w) 4 4) aA):=uR (ah _ _) (Nat.lt_irrefl _);have g:Hid (∀d,bL w (w.alloc (.cells d 46))):=λd=>bR.alloc lE _
 have⟨d,b⟩:=nM (madeCells #[.bool false,nL,nL,U 0] 16);rw[<-b] at c a;clear b;go_enter func33,ntmps33;go_wp2_with fail;go_ret;exact⟨_,rfl,a.o,g.o _⟩
theorem DN(B w):mO B w (.agg #[.bool false,nL,nL,U 0]) bn:=⟨none,0,none,0,rfl,kJ _ _,bV _ _⟩
theorem qq{b:ie}{a:List aq}{d:Int}:dw (false,b,a,d)=if (false,b,a,d)=bn then 0 else 4:=by
 unfold dw bn
 by_cases h:b=[]
 ·subst h
  by_cases c:d=0/\a=[]
  ·obtain⟨rfl,rfl⟩:=c;simp
  have:¬((false,([]:ie),a,d)=(false,[],[],0)):=λe=>c (by simp at e;exact⟨e.2,e.1⟩)
  rw[Io (.inr ⟨rfl,c⟩),iO this]
 have:¬((false,b,a,d)=((false,[],[],0):aG)):=λe=>h (by simp at e;exact e.1)
 have f:=LY.2 h;rw[Io (.inl (by simp;exact h)),iO this]
theorem qb{a:ie}{p:aD}:dw (true,a,p)=if a.length=0 then 4 else if bl a=0 then aj p else bl a:=by
 unfold dw
 by_cases h:a.length=0
 ·rw[Io (.inl (by simp[h])),Io h]
 rw[iO (by simp;intro e;exact h (by rw[e];rfl)),iO (by simp),iO h]
theorem yp(B v c w)(N:mO B w v c)(x:B<=w.1.size):
  cL 141 #[v] w (rT w (U (dw c))):=by
 have i:=Z λb (h:bL w b)=>pY B _ _ c bn b (N.l h x) (DN _ _) (h.u x)
 obtain⟨O,P,Q,R,rfl,S,T⟩:=N;have j:=Z λb (h:bL w b)=>ro B _ c.2.1 b (S.l h x) (h.u x)
 have k:=Z λb (h:bL w b)=>gZ B _ c.2.2 b (T.l h x) (h.u x)
 clear S T;obtain⟨o,d,g,f⟩:=c;simp only at i j k;have⟨X,l⟩:=nM (w.alloc (.cells #[.bool o,.slice O d.length P,.slice Q g.length R,U f] 46));have t:=bA l;have K:=sA l;have V:=hA l;have z:Hid (∀b,bL X b->b.cell? (pW w 0)=some (.bool o)/\b.cell? (pW w 1)=some (.slice O d.length P)/\b.cell? (pW w 2)=some (.slice Q g.length R)/\b.cell? (pW w 3)=some (U f)/\bL w b):=λb h=>by have F:=h.bk V;exact⟨J0 F,J1 F,J2 F,J3 F,t.th h⟩
 have n:=Z l;have p:=Z t;clear l V t K
 cases o with
 |false=>
  have r:Hid (dw (false,d,g,f)=if (false,d,g,f)=bn then 0 else 4):=qq;clear j k;have⟨q,G⟩:=nM (decide ((false,d,g,f)=bn));have H:=Z G;rw[<-G] at i;clear G;generalize dw (false,d,g,f)=u at*;generalize d.length=I at*;generalize g.length=Y at*;go_enter func141,ntmps141;go_wp2_with fail;rw[<-n.o];go_at_call 61;refine(i.o _ p.o).mono ?_;rintro e w3 ⟨rfl,m⟩;obtain⟨y0,y1,y2,y3,A⟩:=z.o _ m;have y:=Z A;clear m A i z
  cases q with
  |true=>
   have a:=Z (by rw[r.o,Io (of_decide_eq_true H.o.symm)]:u=0);clear r H;go_wp2_with fail;go_ret;exact⟨by rw[a.o];rfl,y.o⟩
  |false=>
   have a:=Z (by rw[r.o,iO (of_decide_eq_false H.o.symm)]:u=4);clear r H;go_wp2_with fail;go_ret;exact⟨by rw[a.o];rfl,y.o⟩
 |true=>
  have r:Hid (dw (true,d,g,f)=if d.length=0 then 4 else if bl d=0 then aj (g,f) else bl d):=qb;clear i;generalize dw (true,d,g,f)=u at*;generalize bl d=C at*;generalize aj (g,f)=W at*;generalize d.length=I at*;generalize g.length=Y at*
  by_cases L:I=0
  ·subst L;have a:=Z (by rw[r.o,Io rfl]:u=4);rw[n.o] at p;clear r j k z n;go_enter func141,ntmps141;go_wp2_with fail;go_ret;exact⟨by rw[a.o];rfl,p.o⟩
  have D:¬(I:Int)=0:=by omega
  have M:((I:Int)==0)=false:=by simpa using D
  have s:=Z (by rw[r.o,iO L]:u=if C=0 then W else C);clear r L;go_enter func141,ntmps141;go_wp2_with fail;rw[<-n.o];go_at_call 44;refine(j.o _ p.o).mono ?_;rintro e w3 ⟨rfl,m⟩;obtain⟨y0,y1,y2,y3,A⟩:=z.o _ m;have y:=Z A;clear m A j z D M
  by_cases J:C=0
  ·subst J;have a:=Z (by rw[s.o,Io rfl]:u=W);clear s;go_wp2_with fail;go_at_call 144;refine(k.o _ y.o).mono ?_;rintro e w4 ⟨rfl,E⟩;have HZ:=Z (y.o.th E);clear E;go_wp2_with fail;go_ret;exact⟨by rw[a.o];rfl,HZ.o⟩
  have a:=Z (by rw[s.o,iO J]:u=C);have G:(C != 0)=true:=by simpa using J
  clear s k J;go_wp2_with fail;go_ret;exact⟨by rw[a.o];rfl,y.o⟩
theorem lQ(B v l w)(K:aE B w v l)(L:B<=w.1.size):
  cL 115 #[v] w (rT w (U (bC l))):=by
 have T:=Z λV (h:bL w V)=>K.l h L
 obtain⟨a,W,rfl,Y,a0,-⟩:=K;have a1:=ai;have z:Hid (bC l=if l.length=4 then cy l else 4):=rfl;generalize q:l.length=r at*;have f:=Z q;clear q
 by_cases M:r=4
 ·subst M;have m:=Z (by rw[z.o];rfl:bC l=cy l);clear z;go_enter func115,ntmps115;go_wp2_with fail;go_loopw [11] (λA wr=>∃k:Nat,k<=4/\A=U k/\Hid (cy l=cy (l.drop k))/\bL w wr) (λA _=>4-(intOf A).toNat)
  case atStart=>exact⟨0,by omega,rfl,rfl,Kf _ _⟩
  case round=>
   obtain⟨k,hk,rfl,H,g⟩:=hrel;have⟨s,C⟩:=nM (wr);subst C;have i0:(0:Int)<=(k:Int):=by omega
   have D:=g.size
   by_cases a2:k<4
   ·have i1:(k:Int)<4:=by omega
    obtain⟨c,E⟩:∃c,l[k]?=some c:=⟨l[k]'(by rw[f.o];omega),by simp⟩;have S:=Z (oE l k c E);obtain⟨_,_,N,-,-,t⟩:=T.o _ g;have⟨b,o,e,a3,u⟩:=t k c E;simp at N;obtain⟨rfl,-,-⟩:=N;subst e;clear t E;obtain⟨la,lc,ra,rc,O,P,Q,R,x⟩:=u.val;have n:Hid (∀X,cL 141 #[.agg #[.bool c.1,.slice la c.2.1.length lc,.slice ra c.2.2.1.length rc,U c.2.2.2]] (s.alloc X) λe F=>e=.returned (U (dw c))/\Below (s.alloc X).1.size (s.alloc X) F):=λX=>yp B _ c _ (x.l ((Kf s.1.size s).alloc lE X) (Kl L D)) (by simp;omega)
    clear u x;generalize c.2.1.length=n1 at*;generalize c.2.2.1.length=n2 at*;generalize c.2.2.2=d at*;generalize c.1=op at*;generalize dw c=G at*;have p:=Z g;clear g
    by_cases y:G=0
    ·subst y;have I:=Z (by rw[H.o,S.o,Io rfl]:cy l=cy (l.drop (k+1)));clear S H;go_wp2_with fail;go_at_call 141;refine(n.o _).mono ?_;rintro e J ⟨rfl,i⟩;have j:bL w J:=Below.tO (p.o.alloc p.o.size _) i (by simp;omega);clear i n O P Q R;go_wp2_with fail;exact⟨⟨k+1,by omega,by go_num,I,j⟩,by simp[intOf];omega⟩
    have I:=Z (by rw[H.o,S.o,iO y]:cy l=G);have hq:(G != 0)=true:=by simpa using y
    clear y S H;go_wp2_with fail;go_at_call 141;refine(n.o _).mono ?_;rintro e J ⟨rfl,i⟩;have j:bL w J:=Below.tO (p.o.alloc p.o.size _) i (by simp;omega);clear i n O P Q R;go_wp2_with fail;go_ret;exact⟨by rw[m.o,I.o];rfl,j⟩
   go_wp2_with fail;go_ret;exact⟨by rw[m.o,H.o,KJ (by rw[f.o];omega)];rfl,g⟩
 have m:=Z (by rw[z.o,iO M]:bC l=4);have hq:((r:Int) != 4)=true:=by simp;omega
 go_enter func115,ntmps115;go_wp2_with fail;go_ret;exact⟨by rw[m.o];rfl,Kf _ _⟩
def dx(L:Nat)(w:World)(v:Value)(c:aG):Prop:=∃a b d e,v=.agg #[.bool c.1,.slice a c.2.1.length b,.slice d c.2.2.1.length e,U c.2.2.2]/\eA L w (.slice a c.2.1.length b) c.2.1/\bE L w (.agg #[.slice d c.2.2.1.length e,U c.2.2.2]) c.2.2
theorem dx.keep{L a:Nat}{w w':World}{v c}(h:dx L w v c)(b:a<=L)(d:∀g,L<=g->g<w.1.size->w'.1[g]?=w.1[g]?)(f:w.1.size<=w'.1.size):dx a w' v c:=by obtain⟨i,j,k,l,e,m,n⟩:=h;exact⟨i,j,k,l,e,m.keep b d f,n.keep b d f⟩
theorem dx.l{L a:Nat}{w w' v c}(h:dx L w v c)(d:a<=L)(b:bL w w'):dx a w' v c:=h.keep d (λg _ e=>b.block g e) b.size
theorem dx.put{L w v c}{b o:Nat}{u:Value}(h:dx L w v c)(a:b<L\/w.1.size<=b):dx L (w.setCell ⟨b,o,none⟩ u) v c:=h.keep lE (λg d e=>Kc _ _ _ _ (by show g≠b;omega)) (by simp)
theorem nZ(L w):dx L w (.agg #[.bool false,nL,nL,U 0]) bn:=⟨none,0,none,0,rfl,kL _ _,kA _ _⟩
theorem nH{L w v p}(h:bE L w v p):∃a c,v=.agg #[.slice a p.1.length c,U p.2]:=by obtain⟨d,e,-,a,c,b,-⟩:=h.at;exact⟨a,c,by rw[e,b]⟩
theorem rS{L w v ls}(h:eA L w v ls):∃a c,v=.slice a ls.length c:=by obtain⟨a,c,e,-⟩:=h.at;exact⟨a,c,e⟩
theorem aL{w:World}{b:Nat}{u0 u1 u2 u3:Value}{T}(h:w.1[b]?=some (.cells #[u0,u1,u2,u3] T (0,0))):w.cell? (pA b 0)=some u0/\w.cell? (pA b 1)=some u1/\w.cell? (pA b 2)=some u2/\w.cell? (pA b 3)=some u3/\w.frozen? (pA b 0)=false/\w.frozen? (pA b 1)=false/\w.frozen? (pA b 2)=false/\w.frozen? (pA b 3)=false:=
 ⟨J0 h,J1 h,J2 h,J3 h,fZ h _,fZ h _,fZ h _,fZ h _⟩
theorem iZ{p:aD}(h:aj p=0):p.1.length<=1000/\∀r∈p.1,r.1.length<=1000:=by obtain⟨c,-,a⟩:=cY h;exact⟨by omega,λr b=>by have:=(dy (cM a r b)).1;omega⟩
theorem BB{p:aD}(h:cB p=0):aj p=0:=by
 unfold cB at h
 by_cases a:aj p=0
 ·exact a
 rw[iO a] at h;exact absurd h a
theorem vz(B pv p w)(hp:aX B w pv p)(hB:B<=w.1.size):
  cL 145 #[pv] w λe f=>∃v,e=.returned (.tuple #[v,U (fS p).2])/\dx w.1.size f v (fS p).1/\bL w f:=by
 have t:=Z λf (h:bL w f)=>tQ B pv p f (hp.l h hB) (h.u hB)
 have u:=Z λ(he:cB p=0) f (h:bL w f)=>pH B pv p f (hp.l h hB) (h.u hB) (iZ (BB he)).1 (iZ (BB he)).2
 have HO:Hid (fS p=if cB p=0 then ((true,[cm p],p),0) else (bn,cB p)):=rfl;have I:Hid (cB p=0->dW p=cm p):=λh=>by rw[dW,Io h]
 obtain⟨b,d⟩:=p;obtain⟨rv,P,-,a,Q,R,-⟩:=hp;simp only at P R;subst R;subst P;have⟨n,hn⟩:=nM (b.length);have HN:=Z hn.symm
 rw[<-hn] at t u |-
 clear hn;have⟨D,l⟩:=nM ((w.alloc (.cells #[.slice a n Q,U d] 30)).alloc (.cells #[.bool false,nL,nL,U 0] 46));have J:=bB l;have S:=sB l;have g0:=gB l;have g1:=gC l;have a8:=Z l
 have T:Hid (∀f,bL D f->Na f w.1.size #[.slice a n Q,U d] 30/\Na f (w.1.size+1) #[.bool false,nL,nL,U 0] 46/\bL w f/\w.1.size+1<f.1.size):=λf h=>⟨h.bk g0,h.bk g1,J.th h,by have:=h.size;omega⟩
 have K:=Z J;have V:=Z S;clear l g0 g1 J S;go_enter func145,ntmps145;go_wp2_with fail;rw[<-a8.o];go_at_call 180;refine(t.o _ K.o).mono ?_;rintro e x ⟨fv,rfl,m,y,z⟩;have⟨G0,G1,j,bd⟩:=T.o x z;obtain⟨fa,fc,ad,-,-⟩:=an m;subst ad;have A:=Z2 z j
 by_cases c:cB (b,d)=0
 ·have o:=Z (by rw[HO.o,Io c]:fS (b,d)=((true,[cm (b,d)],b,d),0));have E:=Z (u.o c)
  rw[I.o c] at m y |-
  rw[c];have M:Hid (x.ownsRow D.1.size 113 4 (.slice fa (cm (b,d)).length fc) (cm (b,d)).length (aJ (cm (b,d)))/\∀i∈cm (b,d),gH i):=⟨m,y⟩;clear m y c HO u I z j t;generalize W:(cm (b,d)).length=fl at*;have af:=Z W;clear W;have⟨W4,q⟩:=nM (x.alloc (.cells #[.slice fa fl fc] 78));have r:=bA q;have ak:=sA q;have g4:=hA q;have s:=A.o.1.th r;have⟨al,ao,F,bf⟩:=T.o W4 s;have av:=Z q;have C:=Z2 s F;have b0:=A.o.1.size;have X:Hid (eA D.1.size W4 (.slice (MZ x) 1 1) [cm (b,d)]):=by refine qW (xs:=[.slice fa fl fc]) ⟨rfl,.inr ⟨x.1.size,1,_,rfl,b0,g4,Ke _,by rw[ai];omega,rfl,rfl⟩⟩ ?_;refine k9.snoc (k9.nil _ _) (aw ?_ r) M.o.2;rw[af.o];exact M.o.1
  have⟨p0,p1⟩:=Q2 (J0 G0) (J1 G0);have bb:w.1.size<x.1.size:=by omega
  clear q r g4 s al ao F G0 G1 ak A;go_wp2_with fail;rw[<-av.o];go_at_call 102;refine(E.o _ C.o.2).mono ?_;rintro e w5 ⟨cv,rfl,N,O⟩;have⟨b1,Y,G,bo⟩:=T.o w5 (C.o.1.th O);have H:=X.o.l lE O;have k:bE D.1.size w5 cv (b,d):=N.keep C.o.1.size (λg _ _=>rfl) lE;have⟨ra,rc,b4⟩:=nH k;subst b4
  simp only[] at k N |-
  have⟨z0,z1,z2,z3,f0,f1,f2,f3⟩:=aL Y;have HF:Hid (eA D.1.size w5 (.slice (MZ x) 1 1) [cm (b,d)]/\bE D.1.size w5 (.agg #[.slice ra n rc,U d]) (b,d)):=⟨H,by rw[<-HN.o];exact k⟩;have b5:=Z G;rw[HN.o];clear H k N O b1 Y G X C M E p0 p1 T;go_wp2_with fail;refine Ka (v:=.tuple #[.agg #[.bool true,.slice (MZ x) 1 1,.slice ra n rc,U d],U 0]) ?_ rfl ⟨_,by rw[o.o],?_,?_⟩
  ·rw[K8 rfl];go_simp
  ·rw[o.o];refine⟨some (pW x 0),1,ra,rc,by simp[HN.o],?_,?_⟩
   ·refine eA.keep (L:=D.1.size) ?_ K.o.size (λg _ _=>rfl) lE;repeat(first|refine eA.put ?_ (.inl (by rw[V.o];omega))|exact HF.o.1)
   simp only[HN.o];refine bE.keep (L:=D.1.size) ?_ K.o.size (λg _ _=>rfl) lE;repeat(first|refine bE.put ?_ (.inl (by rw[V.o];omega))|exact HF.o.2)
  repeat(first|refine Ky ?_ (by show w.1.size<=w.1.size+1;omega) _|exact b5.o)
 have o:=Z (by rw[HO.o,iO c]:fS (b,d)=(bn,cB (b,d)));have hq:(cB (b,d) != 0)=true:=by simpa using c
 have⟨z0,z1,z2,z3,f0,f1,f2,f3⟩:=aL G1;have a0:=Z j;clear m y c HO u I z j t T A G0 G1;generalize cB (b,d)=ce at*;generalize (dW (b,d)).length=fl at*;go_wp2_with fail;refine Ka (v:=.tuple #[.agg #[.bool false,nL,nL,U 0],U ce]) ?_ rfl ⟨_,by rw[o.o],by rw[o.o];exact nZ _ _,?_⟩
 ·rw[K8 rfl];go_simp
 repeat(first|refine Ky ?_ (by show w.1.size<=w.1.size+1;omega) _|exact a0.o)
theorem zH(B S pv c p w)(hc:mO B w S c)(Y:aX B w pv p)(H:B<=w.1.size)(t:aj p=0):
  cL 146 #[S,pv] w λe l=>∃v,e=.returned (.tuple #[v,U (dm c.2.1 c.2.2 p)])/\dx w.1.size l v (if dm c.2.1 c.2.2 p=0 then (true,dt c.2.1 c.2.2 p,p) else bn)/\bL w l:=by
 have m:=Z λl (h:bL w l)=>pH B pv p l (Y.l h H) (h.u H) (iZ t).1 (iZ t).2
 obtain⟨la,lc,ra,rc,rfl,h1,h2⟩:=hc;have u:=Z λl (h:bL w l)=>Ap B _ _ pv c.2.1 c.2.2 p l (h1.l h H) (h2.l h H) (Y.l h H) (h.u H)
 obtain⟨I,d⟩:=p;obtain⟨rv,J,-,a,K,M,-⟩:=Y;simp only at J M;subst M;subst J;clear h1 h2 t;generalize dm c.2.1 c.2.2 (I,d)=te at*;generalize dt c.2.1 c.2.2 (I,d)=tr at*;generalize c.2.1.length=n1 at*;generalize c.2.2.1.length=n2 at*;generalize c.2.2.2=f at*;generalize c.1=op at*;have⟨n,hn⟩:=nM (I.length);have T:=Z hn.symm
 rw[<-hn] at u m |-
 clear hn;have⟨j,b⟩:=nM (((w.alloc (.cells #[.bool op,.slice la n1 lc,.slice ra n2 rc,U f] 46)).alloc (.cells #[.slice a n K,U d] 30)).alloc (.cells #[.bool false,nL,nL,U 0] 46));have x:bL w j:=by rw[b];exact((bR.alloc lE _).alloc (by simp) _).alloc (by simp;omega) _
 have N:j.1.size=w.1.size+1+1+1:=by rw[b];simp
 have g0:Na j w.1.size #[.bool op,.slice la n1 lc,.slice ra n2 rc,U f] 46:=by rw[b];exact aS _ (aS _ (be _ _ rfl))
 have g1:Na j (w.1.size+1) #[.slice a n K,U d] 30:=by rw[b];exact aS _ (be _ _ (by simp only[Kg]))
 have g2:Na j (w.1.size+1+1) #[.bool false,nL,nL,U 0] 46:=by rw[b];exact be _ _ (by simp only[Kg])
 have a2:=Z b;have V:=Z λl (h:bL j l)=>Q3 (h.bk g1) (h.bk g2) (x.th h)
 have O:=Z N;have y:=Z x;clear b g0 g1 g2 x N;go_enter func146,ntmps146;go_wp2_with fail;rw[<-a2.o];go_at_call 181;refine(u.o _ y.o).mono ?_;rintro e w3 ⟨tv,rfl,z,A⟩;have⟨W,G2,q⟩:=V.o w3 A;have⟨ta,tc,a6⟩:=rS z;subst a6;have k:=Z2 A q;have C:=Z z;clear z A q u;generalize P:tr.length=fl at*;have Q:=Z P;clear P
 by_cases o:te=0
 ·subst o;have p0:=J0 W;have p1:=J1 W;clear W G2;go_wp2_with fail;go_at_call 102;refine(m.o _ k.o.2).mono ?_;rintro e X ⟨S,rfl,D,E⟩;have⟨a7,R,r⟩:=V.o X (k.o.1.th E);have s:=C.o.l lE E;have i:bE j.1.size X S (I,d):=D.keep k.o.1.size (λg _ _=>rfl) lE;have⟨F,G,a8⟩:=nH i;subst a8
  simp only[] at i D |-
  have⟨z0,z1,z2,z3,f0,f1,f2,f3⟩:=aL R;have HF:Hid (eA j.1.size X (.slice ta fl tc) tr/\bE j.1.size X (.agg #[.slice F n G,U d]) (I,d)):=⟨s,by rw[<-T.o];exact i⟩;have a9:=Z r;rw[T.o];clear s i D E a7 R r C k m p0 p1 V;go_wp2_with fail;refine Ka (v:=.tuple #[.agg #[.bool true,.slice ta fl tc,.slice F n G,U d],U 0]) ?_ rfl ⟨_,rfl,?_,?_⟩
  ·rw[K8 rfl];go_simp
  ·refine⟨ta,tc,F,G,by simp[T.o,Q.o],?_,?_⟩
   ·simp only[Q.o];refine eA.keep (L:=j.1.size) ?_ y.o.size (λg _ _=>rfl) lE;repeat(first|refine eA.put ?_ (.inl (by rw[O.o];omega))|exact HF.o.1)
   simp only[T.o];refine bE.keep (L:=j.1.size) ?_ y.o.size (λg _ _=>rfl) lE;repeat(first|refine bE.put ?_ (.inl (by rw[O.o];omega))|exact HF.o.2)
  repeat(first|refine Ky ?_ (by show w.1.size<=w.1.size+1+1;omega) _|exact a9.o)
 have hq:(te != 0)=true:=by simpa using o
 have⟨z0,z1,z2,z3,f0,f1,f2,f3⟩:=aL G2;have bo:=Z o;clear o C m V W G2;go_wp2_with fail;refine Ka (v:=.tuple #[.agg #[.bool false,nL,nL,U 0],U te]) ?_ rfl ⟨_,rfl,nZ _ _,?_⟩
 ·rw[K8 rfl];go_simp
 repeat(first|refine Ky ?_ (by show w.1.size<=w.1.size+1+1;omega) _|exact k.o.2)
section
theorem Bq(n:Nat)(f:n<=4294967281)(w:World):(Instr.makeSlice 22 (U n) (U n)).run prog w=.ok (.slice (sO w.1.size) n n) (w.alloc (.cells (madeCells #[.bool false,nL,nL,U 0] (n*4)) 46)):=by
 obtain⟨a,b,c,d,e⟩:=sk;have:=MQ (P:=prog) w 22 46 a _ Tryz.underlying22 b c .i64 .i64 n n (by omega) (LH _) (by rw[e];omega) (by omega);rw[d] at this
 simpa [Value.cells] using this
theorem vF(B g:Nat)(sv l)(d:Array Value)(w)(h:aE B w sv l)(I:B<=g)(z:w.1[g]?=some (.cells d 46 (0,0)))(f:d.size=l.length*4):
  ∃w' xs,(∀A,(Builtin.copy_ #[22,22] A #[.slice (sO g) l.length l.length,sv]).run prog w=.ok (U l.length) w')/\w'.1[g]?=some (.cells xs.toArray 46 (0,0))/\IR B w' xs l/\Below g w w'/\w'.1.size=w.1.size/\∀b,b≠g->w'.1[b]?=w.1[b]?:=by
 obtain⟨J,s,K,C,L⟩:=sk;obtain⟨a,M,rfl,N,O,m⟩:=h;have t:Nat.min l.length l.length=l.length:=Nat.min_self _
 cases a with
 |none=>
  have Q:l=[]:=by
   cases l with
   |nil=>rfl
   |cons r l=>have⟨b,o,e,_⟩:=m 0 r rfl;cases e
  subst Q;have D:d=#[]:=LP (by simpa using f);refine⟨w,[],λA=>?_,by rw[z,D],⟨rfl,λu E=>(by cases E),λi c f=>by simp at f⟩,Kf _ _,rfl,λ_ _=>rfl⟩;simp[Builtin.copy_,KY Tryz.underlying22,Builtin.lenOf,sizeOf,typeInfo,s,Builtin.firstCells,storeCells,goInt]
 |some G=>
  obtain⟨xs,n,p⟩:∃xs,IR B w xs l/\∀j u,xs[j]?=some u->w.cell? (G.add j)=some u:=by
   cases l with
   |nil=>exact⟨[],⟨rfl,λu E=>(by cases E),λi c f=>by simp at f⟩,λj u F=>by simp at F⟩
   |cons r l=>
    have⟨b,o,e,_,_⟩:=m 0 r rfl
    cases e
    obtain⟨xs,R,S⟩:=Gn (b:=b) (o:=o) (l:=r :: l) λi c f=>by
     obtain⟨V,W,e,-,k⟩:=m i c f
     cases e;exact k
    exact⟨xs,R,λj u F=>by rw[eM];exact S j u F⟩
  have q:=n.1;have H:=run_loadCells_list (P:=prog) w G xs p;rw[q] at H;have v:=run_storeCells_at prog g 0 46 xs 0 d w z (by rw[q,f];omega) n.2.1;have x:(d.toList.take (0+0)++xs++d.toList.drop (0+0+xs.length)).toArray=xs.toArray:=by rw[q,LG (by simp[f])];simp
  rw[x] at v;have y:Below g w (w.setRow g xs.toArray):=⟨rfl,rfl,rfl,by simp[World.setRow],λk X=>Mx w g k _ (by omega)⟩;refine⟨w.setRow g xs.toArray,xs,λA=>?_,setRow_heap w g _ _ _ _ z,n.l y I,y,by simp[World.setRow],λb T=>Mx w g b _ T⟩;simp[Builtin.copy_,KY Tryz.underlying22,Builtin.lenOf,Builtin.firstCells,sizeOf,typeInfo,s,C,t,H,v,goInt]
def GU(B L k:Nat)(w:World)(i:Nat)(lv rv:Value)(c:aG):Prop:=
 (i<k->eA L w lv c.2.1/\bE L w (.agg #[rv,U c.2.2.2]) c.2.2)/\(¬i<k->cD B w lv c.2.1/\aX B w (.agg #[rv,U c.2.2.2]) c.2.2)
def oD(B G k:Nat)(l:List aG)(w:World):Prop:=
 ∃xs:List Value,w.1[G]?=some (.cells xs.toArray 46 (0,0))/\xs.length=l.length*4/\(∀u∈xs,u.oneCell'=true)/\∀i c,l[i]?=some c->∃a b,xs[i*4]?=some (.bool c.1)/\xs[i*4+1]?=some a/\xs[i*4+2]?=some b/\xs[i*4+3]?=some (U c.2.2.2)/\GU B (G+1) k w i a b c
theorem uY{B G k:Nat}{w w' i lv rv c}(h:GU B (G+1) k w i lv rv c)(e:B<=G)(b:Below G w w')(f:∀g,g≠G->g<w.1.size->w'.1[g]?=w.1[g]?):GU B (G+1) k w' i lv rv c:=
 ⟨λa=>⟨(h.1 a).1.keep lE (λg j d=>f g (by omega) d) b.size,(h.1 a).2.keep lE (λg j d=>f g (by omega) d) b.size⟩,λa=>⟨(h.2 a).1.l b e,(h.2 a).2.l b e⟩⟩
theorem oD.l{B G k l w w'}(h:oD B G k l w)(d:B<=G)(a:bL w w'):oD B G k l w':=by obtain⟨xs,b,e,f,j⟩:=h;have m:=io b;refine⟨xs,(a.block G m).trans b,e,f,λi c n=>?_⟩;have⟨o,p,q,r,s,t,u⟩:=j i c n;exact⟨o,p,q,r,s,t,uY u d (a.mono (by omega)) λg _ v=>a.block g v⟩
theorem oD.put{B G k l W w}{c:aG}{lv rv:Value}(h:oD B G k l W)(y:B<=G)(o:l[k]?=some c)(s:Below G W w)(b:∀g,G<g->g<W.1.size->w.1[g]?=W.1[g]?)(f:∀xs:List Value,W.1[G]?=some (.cells xs.toArray 46 (0,0))->w.1[G]?=some (.cells (((xs.set (k*4+1) lv).set (k*4+2) rv).set (k*4+3) (U c.2.2.2)).toArray 46 (0,0)))(z:lv.oneCell'=true)(A:rv.oneCell'=true)(p:eA (G+1) w lv c.2.1)(q:bE (G+1) w (.agg #[rv,U c.2.2.2]) c.2.2):oD B G (k+1) l w:=by
 obtain⟨xs,C,D,E,t⟩:=h;have F:k<l.length:=(K9.1 o).1
 have a:∀g,g≠G->g<W.1.size->w.1[g]?=W.1[g]?:=λg M H=>by
  by_cases h:g<G
  ·exact s.block g h
  exact b g (by omega) H
 refine⟨_,f xs C,by simp[D],λu e=>?_,λi d r=>?_⟩
 ·rcases M9 e with e|rfl
  ·rcases M9 e with e|rfl
   ·rcases M9 e with e|rfl
    ·exact E u e
    exact z
   exact A
  rfl
 by_cases I:i=k
 ·subst I;rw[o] at r
  cases r;have⟨j,m,v,J,K,L,x⟩:=t i c o;refine⟨lv,rv,?_,?_,?_,?_,λ_=>⟨p,q⟩,λh=>absurd (Nat.lt_succ_self i) h⟩
  ·rw[Lb (by omega),Lb (by omega),Lb (by omega)];exact v
  ·rw[Lb (by omega),Lb (by omega),LF (by omega)]
  ·rw[Lb (by omega),LF (by simp;omega)]
  rw[LF (by simp;omega)]
 have⟨j,m,v,J,K,L,x⟩:=t i d r;have n:=uY x y s a;refine⟨j,m,?_,?_,?_,?_,λh=>n.1 (by omega),λh=>n.2 (by omega)⟩
 all_goals
  rw[Lb (by omega),Lb (by omega),Lb (by omega)]
  assumption
theorem oD.set{B G L n ci:Nat}{l}{w wF:World}{c:aG}{lv rv:Value}(h:oD B G n l w)(A:L<=G)(x:l.length=n)(C:n<=1000)(D:ci<n)(p:wF=(((w.setCell ⟨G,ci*4,none⟩ (.bool c.1)).setCell ⟨G,ci*4+1,none⟩ lv).setCell ⟨G,ci*4+2,none⟩ rv).setCell ⟨G,ci*4+3,none⟩ (U c.2.2.2))(j:∀b:World,(∀g,L<=g->g≠G->g<w.1.size->b.1[g]?=w.1[g]?)->w.1.size<=b.1.size->cD b.1.size b lv c.2.1/\aX b.1.size b (.agg #[rv,U c.2.2.2]) c.2.2):wG L wF (.slice (sO G) n n) (l.set ci c):=by
 intro b q;obtain⟨xs,E,R,S,F⟩:=h;have H:=ap (o:=ci*4) (u:=.bool c.1) E;have I:=ap (o:=ci*4+1) (u:=lv) H;have J:=ap (o:=ci*4+2) (u:=rv) I;have a:=ap (o:=ci*4+3) (u:=U c.2.2.2) J;rw[<-p] at a;have K:wF.1.size=w.1.size:=by rw[p];simp
 have e:∀g,L<=g->g≠G->g<w.1.size->b.1[g]?=w.1[g]?:=λg M f m=>by rw[q.2 g (Nat.not_lt.2 M) (by omega),p];exact(((Kc _ _ _ _ f).trans (Kc _ _ _ _ f)).trans (Kc _ _ _ _ f)).trans (Kc _ _ _ _ f)
 replace a:=(q.2 G (Nat.not_lt.2 A) (io a)).trans a;have N:=q.size;have r:n<=maxLen:=by rw[ai];omega
 refine⟨some (pA G 0),n,by simp[x],by simp[x],r,λi d k=>⟨G,0,rfl,io a,?_⟩⟩;rw[Kp]
 have s:i<l.length:=by
  have:=(K9.1 k).1
  simpa using this
 by_cases y:i=ci
 ·subst y;rw[LF s] at k
  cases k;obtain⟨O,P⟩:=j b e (by omega);refine⟨lv,rv,ab a _ ?_,ab a _ ?_,ab a _ ?_,ab a _ ?_,O,P⟩
  all_goals
   simp only[KC,Lv,List.size_toArray];repeat(first|rw[Io trivial]|rw[Io (by omega)]|rw[iO (by omega)])
 rw[Lb (LQ y)] at k;have⟨t,v,T,V,W,X,Q⟩:=F i d k;have z:=Q.1 (by omega);refine⟨t,v,ab a _ ?_,ab a _ ?_,ab a _ ?_,ab a _ ?_,z.1 b (λg f m=>e g (by omega) (by omega) m) (by omega),z.2 b (λg f m=>e g (by omega) (by omega) m) (by omega)⟩
 all_goals
  simp only[KC,Lv,List.size_toArray];repeat(rw[iO (by omega)])
  rw[LK]
  assumption
theorem Gl{B G L:Nat}{w}{l:List aG}(h:oD B G l.length l w)(k:L<=G)(v:l.length<=1000):wG L w (.slice (sO G) l.length l.length) l:=by intro e b;obtain⟨xs,a,x,y,m⟩:=h;replace a:=(b.2 G (Nat.not_lt.2 k) (io a)).trans a;refine⟨some (pA G 0),l.length,rfl,Ke _,by rw[ai];omega,λi d f=>⟨G,0,rfl,io a,?_⟩⟩;rw[Kp];have⟨n,o,p,q,r,s,t⟩:=m i d f;have j:=t.1 (K9.1 f).1;exact⟨n,o,ab a _ (by simpa using p),ab a _ (by simpa using q),ab a _ (by simpa using r),ab a _ (by simpa using s),j.1 e (λg u c=>b.2 g (by omega) c) b.size,j.2 e (λg u c=>b.2 g (by omega) c) b.size⟩
structure AC (G k:Nat) (xs:List Value) (W:World) (c:aG) (fs:Nat->Value->Prop) (w:World):Prop where
 below:Below G W w
 keep:∀g,G<g->g<W.1.size->w.1[g]?=W.1[g]?
 chs:∀v,fs 6 v->eA W.1.size w v c.2.1
 pol:∀v,fs 9 v->bE W.1.size w v c.2.2
 row0:(∀u,¬fs 12 u)->w.1[G]?=some (.cells xs.toArray 46 (0,0))
 row1:∀u v,fs 12 u->fs 6 v->(∀x,¬fs 15 x)->w.1[G]?=some (.cells (xs.set (k*4+1) v).toArray 46 (0,0))
 row2:∀u v r d,fs 15 u->fs 6 v->fs 9 (.agg #[r,d])->w.1[G]?=some (.cells (((xs.set (k*4+1) v).set (k*4+2) r).set (k*4+3) d).toArray 46 (0,0))
 two:∀u,fs 12 u->(∃v,fs 6 v)/\∃v,fs 9 v
 last:∀u,fs 15 u->∃v,fs 12 v
 uni6:∀v u,fs 6 v->fs 6 u->v=u
 uni9:∀v u,fs 9 v->fs 9 u->v=u
section
variable {G k:Nat} {xs:List Value} {W w w':World} {c:aG} {fs:Nat->Value->Prop}
theorem AC.start(a:W.1[G]?=some (.cells xs.toArray 46 (0,0))):AC G k xs W c (λ_ _=>False) W.drew:=⟨bR.drew,λ_ _ _=>rfl,λ_ h=>h.elim,λ_ h=>h.elim,λ_=>a,λ_ _ h=>h.elim,λ_ _ _ _ h=>h.elim,λ_ h=>h.elim,λ_ h=>h.elim,λ_ _ h=>h.elim,λ_ _ h=>h.elim⟩
theorem AC.no12(h:AC G k xs W c fs w){j:Nat}(d:j=6\/j=9)(a:∀v,¬fs j v):∀u,¬fs 12 u:=λu e=>by
 have⟨⟨v,f⟩,g,b⟩:=h.two u e
 rcases d with rfl|rfl
 ·exact a _ f
 exact a _ b
theorem AC.no15(h:AC G k xs W c fs w)(a:∀u,¬fs 12 u):∀u,¬fs 15 u:=λu b=>(h.last u b).elim a
theorem eU{j m u v}(h:d9 fs j u m v)(a:m≠j):fs m v:=by
 rcases h with h|⟨e,_⟩
 ·exact h
 exact absurd e a
theorem AC.made(h:AC G k xs W c fs w){j:Nat}(A:j=6\/j=9)(l:∀v,¬fs j v)(H:G<W.1.size)(p:bL w w'){u}(B:j=6->eA w.1.size w' u c.2.1)(C:j=9->bE w.1.size w' u c.2.2):AC G k xs W c (d9 fs j u) w':=by
 have n:=h.no12 A l;have x:=h.no15 n;have q:∀i,¬d9 fs j u 12 i:=λi f=>n _ (eU f (by omega))
 have s:∀i,¬d9 fs j u 15 i:=λi f=>x _ (eU f (by omega))
 have y:=h.below.size
 have t:∀m,(∀v o,fs m v->fs m o->v=o)->∀v o,d9 fs j u m v->d9 fs j u m o->v=o:=λm D v o b a=>by
  rcases b with b|⟨e,rfl⟩
  ·rcases a with a|⟨z,rfl⟩
   ·exact D v o b a
   subst z;exact absurd b (l _)
  rcases a with a|⟨z,rfl⟩
  ·subst e;exact absurd a (l _)
  rfl
 refine⟨h.below.trans (p.mono (by omega)),λg E F=>(p.block g (by omega)).trans (h.keep g E F),λv b=>?_,λv b=>?_,λ_=>(p.block G (by omega)).trans (h.row0 n),λi v f _ _=>absurd f (q _),λi v r d f _ _=>absurd f (s _),λi f=>absurd f (q _),λi f=>absurd f (s _),t 6 h.uni6,t 9 h.uni9⟩
 ·rcases b with b|⟨e,rfl⟩
  ·exact(h.chs v b).l lE p
  exact(B e.symm).keep y (λ_ _ _=>rfl) lE
 rcases b with b|⟨e,rfl⟩
 ·exact(h.pol v b).l lE p
 exact(C e.symm).keep y (λ_ _ _=>rfl) lE
theorem AC.store(h:AC G k xs W c fs w)(i:∀v,¬fs 12 v){f q:Value}(s:fs 6 f)(x:fs 9 q)(t:G<W.1.size):AC G k xs W c (d9 fs 12 undef) (w.setCell ⟨G,k*4+1,none⟩ f):=by
 have m:=h.no15 i;have y:=ap (o:=k*4+1) (u:=f) (h.row0 i);have j:∀l,¬d9 fs 12 undef 15 l:=λl b=>m _ (eU b (by decide))
 refine⟨h.below.setCell (p:=⟨G,k*4+1,none⟩) lE _,λg z A=>(Kc _ _ _ _ (by show g≠G;omega)).trans (h.keep g z A),λv a=>(h.chs v (eU a (by decide))).put (.inl t),λv a=>(h.pol v (eU a (by decide))).put (.inl t),λB=>absurd (.inr ⟨rfl,rfl⟩) (B undef),λu v b a _=>?_,λl v r d b _ _=>absurd b (j _),λu b=>⟨⟨f,.inl s⟩,q,.inl x⟩,λl b=>absurd b (j _),λv n a e=>h.uni6 v n (eU a (by decide)) (eU e (by decide)),λv n a e=>h.uni9 v n (eU a (by decide)) (eU e (by decide))⟩;have:v=f:=h.uni6 v f (eU a (by decide)) s;subst this;rw[y];simp
theorem AC.store2(h:AC G k xs W c fs w)(l:∀v,¬fs 15 v){m b r d:Value}(s:fs 6 m)(x:fs 9 (.agg #[r,d]))(e:fs 12 b)(i:G<W.1.size):AC G k xs W c (d9 fs 15 undef) ((w.setCell ⟨G,k*4+2,none⟩ r).setCell ⟨G,k*4+3,none⟩ d):=by have y:=ap (o:=k*4+3) (u:=d) (ap (o:=k*4+2) (u:=r) (h.row1 _ _ e s l));refine⟨(h.below.setCell (p:=⟨G,k*4+2,none⟩) lE _).setCell (p:=⟨G,k*4+3,none⟩) lE _,λg z A=>((Kc _ _ _ _ (by show g≠G;omega)).trans (Kc _ _ _ _ (by show g≠G;omega))).trans (h.keep g z A),λv a=>((h.chs v (eU a (by decide))).put (.inl i)).put (.inl i),λv a=>((h.pol v (eU a (by decide))).put (.inl i)).put (.inl i),λn=>absurd (.inl e) (n b),λu v j a n=>absurd (.inr ⟨rfl,rfl⟩) (n undef),λB v E F j a C=>?_,λu j=>h.two u (eU j (by decide)) |>.imp (λ⟨v,a⟩=>⟨v,.inl a⟩) (λ⟨v,a⟩=>⟨v,.inl a⟩),λB j=>⟨b,.inl e⟩,λv q a f=>h.uni6 v q (eU a (by decide)) (eU f (by decide)),λv q a f=>h.uni9 v q (eU a (by decide)) (eU f (by decide))⟩;have D:v=m:=h.uni6 v m (eU a (by decide)) s;have t:=h.uni9 _ _ (eU C (by decide)) x;simp at t;obtain⟨rfl,rfl⟩:=t;subst D;rw[y];simp
end
end
