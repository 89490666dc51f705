import Derived.Test.YtffnfdfjojidfaaGreatDoorWr05
import Derived.Test.YtffnfdfjojidfaaGreatDoorWr07
set_option linter.all false
set_option maxRecDepth 100000
set_option maxHeartbeats 4000000
namespace Go.Proofs.YtffnfdfjojidfaaGreatDoor
open Go.RowKit Go.Maps Go.Proofs.Tryz
def kN:List Bs:=[[111,112,101,110],[116,105,103,104,116],[102,111,114,107],[115,104,117,116]]
def aU(r:az):Bs:=kN.getD (r.1-1).toNat []++32 :: (Lib.itoa r.2.1++(if r.1=3 then 32 :: Lib.itoa r.2.2.1 else if r.1=4 then [] else 32 :: cW r.2.2.2))
def fP(r:az):Bs:=if aZ r=0 then aU r else []
def js:Bs->Option (Bs × Bs)
 |[]=>none
 |b :: l=>if b=32 then some ([],l) else match js l with
  |none=>none
  |some (a,t)=>some (b :: a,t)
def ar(s:Bs):List Bs:=match js s with
 |none=>[s]
 |some (a,t)=>match js t with
  |none=>[a,t]
  |some (b,u)=>[a,b,u]
def gP(r:az):az × Int:=if aZ r=0 then (r,0) else (cu,aZ r)
def ch(s:Bs):az × Int:=
 if bt kN ((ar s).getD 0 [])<0\/(bt kN ((ar s).getD 0 [])=3/\(ar s).length≠2)\/(bt kN ((ar s).getD 0 [])<3/\(ar s).length≠3) then (cu,1)
 else match cS ((ar s).getD 1 []) with
  |none=>(cu,1)
  |some c=>if bt kN ((ar s).getD 0 [])=2 then (match cS ((ar s).getD 2 []) with
    |none=>(cu,1)
    |some f=>gP (3,c,f,[],0))
   else if bt kN ((ar s).getD 0 [])=3 then gP (4,c,0,[],0)
   else if (cG ((ar s).getD 2 [])).2=0 then gP (bt kN ((ar s).getD 0 [])+1,c,0,(cG ((ar s).getD 2 [])).1)
   else (cu,(cG ((ar s).getD 2 [])).2)
theorem mD:∀ (a t:Bs),(32:UInt8) ∉ a->js (a++32 :: t)=some (a,t)
 |[],t,_=>rfl
 |b :: a,t,h=>by
  have c:b≠32:=λe=>h (by simp[e])
  show (if b=32 then some ([],a++32 :: t) else match js (a++32 :: t) with|none=>none|some (a,t)=>some (b :: a,t))=_;rw[iO c,mD a t λe=>h (by simp[e])]
theorem ru:∀ (a:Bs),(32:UInt8) ∉ a->js a=none
 |[],_=>rfl
 |b :: a,h=>by
  have c:b≠32:=λe=>h (by simp[e])
  show (if b=32 then some ([],a) else match js a with|none=>none|some (a,t)=>some (b :: a,t))=_;rw[iO c,ru a λe=>h (by simp[e])]
theorem nA:∀ {s a t:Bs},js s=some (a,t)->s=a++32 :: t/\(32:UInt8) ∉ a
 |[],a,t,h=>by cases h
 |b :: s,a,t,h=>by
  have c:(if b=32 then some ([],s) else match js s with|none=>none|some (a,t)=>some (b :: a,t))=some (a,t):=h
  by_cases d:b=32
  ·rw[Io d] at c
   cases c;exact⟨by rw[d];rfl,by simp⟩
  rw[iO d] at c
  cases hc:js s with
  |none=>rw[hc] at c;cases c
  |some x=>
   obtain⟨g,i⟩:=x;rw[hc] at c
   cases c;have⟨e,f⟩:=nA hc;exact⟨by rw[e];rfl,by simp;exact⟨λe=>d e.symm,f⟩⟩
theorem De{s:Bs}(h:js s=none):(32:UInt8) ∉ s:=by
 intro c
 obtain⟨a,t,e,d⟩:∃a t,s=a++32 :: t/\(32:UInt8) ∉ a:=by
  clear h
  induction s with
  |nil=>cases c
  |cons b s g=>
   by_cases f:b=32
   ·exact⟨[],s,by rw[f];rfl,by simp⟩
   rcases Kz.1 c with e|c
   ·exact absurd e.symm f
   have⟨a,t,e,d⟩:=g c;exact⟨b :: a,t,by rw[e];rfl,by simp;exact⟨λe=>f e.symm,d⟩⟩
 rw[e,mD a t d] at h
 cases h
theorem D9{n:Int}(h:0<=n):(32:UInt8) ∉ Lib.itoa n:=by
 have e:Lib.itoa n=Lib.decDigits n.toNat:=by unfold Lib.itoa;rw[iO (by omega)]
 rw[e];intro a;have:=iV _ _ a;have b:(32:UInt8).toNat=32:=rfl;omega
theorem Gh:∀k,k<4->(32:UInt8) ∉ kN.getD k []:=by decide
theorem J9:∀k,k<4->bt kN (kN.getD k [])=(k:Int):=by decide
def gt(p:aD)(i:Int):Bool:=(dG [p]).any λx=>kP p (Cn x)==i
def bN(p:aD):Nat->List aq->List aq
 |_,[]=>[]
 |k,r :: s=>if gt p k then r :: bN p (k+1) s else bN p (k+1) s
def cF(d:Int):List aq->List aq
 |[]=>[]
 |r :: s=>if cF d s=[]/\r.2=d then [] else r :: cF d s
def j9(p:aD):aD:=(cF p.2 (bN p 0 p.1),p.2)
theorem sG(x:Nat->Int)(d):∀l:List aq,eP x d (cF d l)=eP x d l
 |[]=>rfl
 |r :: s=>by
  have a:=sG x d s;unfold cF
  split
  ·rename_i h;rw[h.1] at a;show d=if bu x r then r.2 else eP x d s
   rw[<-a]
   split
   ·exact h.2.symm
   rfl
  show (if bu x r then r.2 else eP x d (cF d s))=if bu x r then r.2 else eP x d s
  rw[a]
theorem lX(d):∀l:List aq,∃n,cF d l=l.take n
 |[]=>⟨0,rfl⟩
 |r :: s=>by
  have⟨n,h⟩:=lX d s;unfold cF
  split
  ·exact⟨0,rfl⟩
  exact⟨n+1,by rw[h];rfl⟩
theorem kq(p):∀ (l:List aq) (k:Nat),∀r∈bN p k l,r∈l
 |[],_,r,h=>by simp[bN] at h
 |s :: l,k,r,h=>by
  unfold bN at h
  split at h
  ·rcases Kz.1 h with rfl|h
   ·simp
   simp[kq p l (k+1) r h]
  simp[kq p l (k+1) r h]
theorem kD(p):∀ (l:List aq) (k:Nat),(bN p k l).length<=l.length
 |[],_=>by simp[bN]
 |s :: l,k=>by
  have:=kD p l (k+1);unfold bN
  split<;>simp<;>omega
theorem Df(p):∀r∈(j9 p).1,r∈p.1:=by intro r a;unfold j9 at a;have⟨n,h⟩:=lX p.2 (bN p 0 p.1);simp only[h] at a;exact kq p p.1 0 r (KZ a)
theorem Dr(p):(j9 p).1.length<=p.1.length:=by unfold j9;have⟨n,h⟩:=lX p.2 (bN p 0 p.1);simp only[h,Kt];have:=kD p p.1 0;omega
theorem yK{p:aD}(h:aj p=0):aj (j9 p)=0:=by have⟨a,b,c⟩:=cY h;exact ED (Kl (Dr p) a) b λr d=>cM c r (Df p r d)
theorem JA{p:aD}{x:Nat->Int}(a:aj p=0)(b:eC x=0):kP p x=(cP p (aR (bu x) 0 p.1)).2:=by unfold kP;rw[gV a b]
theorem CY{p:aD}{x:Nat->Int}(c:aj p=0)(b:eC x=0){i:Int}(e:aR (bu x) 0 p.1=i)(f:0<=i):gt p i=true:=by
 have a:gn [p]:=λq d=>by rw[KO] at d;subst d;exact c
 unfold gt;rw[List.any_eq_true];refine⟨_,xa a b,?_⟩;rw[MN];unfold kP;rw[rF (fF _),vM a b (by simp),gV c b,e,cP,iO (by omega)]
theorem xe{p}(x:Nat->Int)(d):∀ (l:List aq) (k:Nat),(∀i,aR (bu x) k l=i->0<=i->gt p i=true)->eP x d (bN p k l)=eP x d l
 |[],_,_=>rfl
 |r :: s,k,h=>by
  unfold bN
  by_cases a:bu x r=true
  ·have:=h k (by rw[aR,Io a]) (by omega);rw[Io this,eP,Io a,eP,Io a]
  have b:=xe (p:=p) x d s (k+1) λi c f=>h i (by rw[aR,iO a];exact c) f
  have e:eP x d (r :: s)=eP x d s:=by rw[eP,iO a]
  rw[e,<-b]
  split
  ·rw[eP,iO a]
  rfl
theorem H8{p:aD}{x:Nat->Int}(a:aj p=0)(b:eC x=0):vP (j9 p) x=vP p x:=by rw[rJ (yK a) b,rJ a b];show eP x p.2 (cF p.2 (bN p 0 p.1))=_;rw[sG];exact xe x p.2 p.1 0 λi c d=>CY a b c d
def eJ(a:Bool)(p q:aD):Int:=if bM [p,q]=0 then aj (gI a p q) else bM [p,q]
def eI(a:Bool)(p q:aD):aD:=if eJ a p q=0 then gI a p q else ([],0)
theorem oY{p q:aD}(h:bM [p,q]=0):aj p=0/\aj q=0:=by have:=jz.1 h;exact⟨this p (by simp),this q (by simp)⟩
def jo(a:Bool)(p q:aD)(i:Nat):List aq:=(p.1.take i).flatMap λr=>q.1.map (dX a r)++[dX a r ([],q.2)]
theorem x7(exc)(p q:aD)(i:Nat)(r:aq)(h:p.1[i]?=some r):jo exc p q (i+1)=jo exc p q i++q.1.map (dX exc r)++[dX exc r ([],q.2)]:=by unfold jo;rw[KN,h];simp
theorem Eq(exc)(p q:aD):gh exc p q=jo exc p q p.1.length++q.1.map (dX exc ([],p.2)):=by unfold jo gh;rw[L6]
theorem yX(exc p q):∀i,(jo exc p q i).length<=i*(q.1.length+1)
 |0=>by simp[jo]
 |i+1=>by
  have b:=yX exc p q i;rw[Mi,Nat.one_mul]
  by_cases h:i<p.1.length
  ·obtain⟨r,a⟩:∃r,p.1[i]?=some r:=⟨p.1[i],by simp[h]⟩;rw[x7 exc p q i r a];simp;omega
  have e:jo exc p q (i+1)=jo exc p q i:=by unfold jo;rw[Ki (by omega),Ki (by omega)]
  rw[e];omega
theorem qk(g:aq->aq)(l:List aq)(j:Nat)(r:aq)(h:l[j]?=some r):(l.take (j+1)).map g=(l.take j).map g++[g r]:=by rw[KN,h];simp
def EC(B:Nat)(w:World)(b o:Nat)(p:aD):Prop:=∃a,w.cell? ⟨b,o,none⟩=some a/\w.cell? ⟨b,o+1,none⟩=some (U p.2)/\wf p.2/\bD B w a p.1
def iH(B:Nat)(w:World)(v:Value)(ps:List aD):Prop:=
 ∃a c,v=.slice a ps.length c/\ps.length<=c/\c<=maxLen/\∀ (i:Nat) p,ps[i]?=some p->∃b o,a=some ⟨b,o,none⟩/\b<B/\EC B w b (o+i*2) p
theorem EC.l{B B' w w' b o p}(h:EC B w b o p)(a:Below B' w w')(c:B<=B')(j:b<B):EC B w' b o p:=by obtain⟨d,e,f,g,i⟩:=h;exact⟨d,(a.cell (p:=⟨b,o,none⟩) (by show b<B';omega)).trans e,(a.cell (p:=⟨b,o+1,none⟩) (by show b<B';omega)).trans f,g,i.l a c⟩
theorem iH.l{B B' w w' v ps}(h:iH B w v ps)(g:Below B' w w')(j:B<=B'):iH B w' v ps:=by obtain⟨a,d,l,m,n,p⟩:=h;refine⟨a,d,l,m,n,λi c q=>?_⟩;have⟨b,o,e,f,k⟩:=p i c q;exact⟨b,o,e,f,k.l g j f⟩
theorem EC.pol{B w b o p}(h:EC B w b o p):∃a n c,w.cell? ⟨b,o,none⟩=some (.slice a n c)/\w.cell? ⟨b,o+1,none⟩=some (U p.2)/\aX B w (.agg #[.slice a n c,U p.2]) p:=by obtain⟨j,d,e,f,g⟩:=h;obtain⟨a,c,rfl,i⟩:=g;exact⟨a,_,c,d,e,_,rfl,f,a,c,rfl,i⟩
theorem rB(ps:List aD)(k:Nat)(p:aD)(h:ps[k]?=some p):bM (ps.drop k)=if aj p=0 then bM (ps.drop (k+1)) else aj p:=by obtain⟨a,rfl⟩:=K9.1 h;rw[KM a];rfl
theorem rP(B lv ps w)(z:iH B w lv ps)(u:B<=w.1.size):
  cL 149 #[lv] w (rT w (U (bM ps))):=by
 have C:=Z λt (h:bL w t)=>z.l h u
 obtain⟨a,D,rfl,E,F,-⟩:=z;have G:=ai;generalize i:ps.length=f at*;have c:=Z i;clear i;go_enter func149,ntmps149;go_wp2;go_loopw [8] (λv wr=>∃k:Nat,k<=f/\v=U k/\Hid (bM ps=bM (ps.drop k))/\bL w wr) (λv _=>f-(intOf v).toNat)
 case atStart=>exact⟨0,by omega,rfl,rfl,Kf _ _⟩
 case round=>
  obtain⟨k,M,rfl,H,d⟩:=hrel;have⟨I,x⟩:=nM (wr);subst x;have N:(0:Int)<=(k:Int):=by omega
  have g:=d.size
  by_cases J:k<f
  ·have O:(k:Int)<(f:Int):=by omega
   obtain⟨p,n⟩:∃p,ps[k]?=some p:=⟨ps[k]'(by rw[c.o];omega),by simp⟩;have S:=Z (rB ps k p n);obtain⟨_,_,A,-,-,q⟩:=C.o _ d;have⟨b,o,e,K,r⟩:=q k p n;simp at A;obtain⟨rfl,-,-⟩:=A;subst e;clear q;obtain⟨P,Q,R,T,V,s⟩:=r.pol;have j:=Z λt (h:bL I t)=>fW B _ p t (s.l h (Kl u g)) (Kl u (h.u g))
   clear r s
   by_cases m:aj p=0
   ·rw[m] at j;have y:=Z (by rw[H.o,S.o,Io m]:bM ps=bM (ps.drop (k+1)));clear m S;go_wp2_with (first|(go_at_call 90;go_must (refine(j.o _ (bR.alloc lE _)).mono ?_;rintro e L ⟨rfl,l⟩)));exact⟨⟨k+1,by omega,by go_num,y,Below.tO (d.alloc g _) l (by simp;omega)⟩,by simp[intOf];omega⟩
   have y:=Z (by rw[H.o,S.o,iO m]:bM ps=aj p);have W:(aj p != 0)=true:=by simpa using m
   clear m S;generalize aj p=X at*;go_wp2_with (first|(go_at_call 90;go_must (refine(j.o _ (bR.alloc lE _)).mono ?_;rintro e L ⟨rfl,l⟩)));go_ret;exact⟨by rw[y.o];rfl,Below.tO (d.alloc g _) l (by simp;omega)⟩
  go_wp2;go_ret;exact⟨by rw[H.o,KJ (by rw[c.o];omega)];rfl,d⟩
def Bx(D:DataW Unit)(g:Int->Bool):Prop:=∀n,wf n->D.atKey (.int .i64 n) (.lit (.bool false))=.lit (.bool (g n))
theorem Hu(n:Int):WideAt.IsKeyLit (.int .i64 n):=by simp[WideAt.IsKeyLit]
theorem Bx.put{D:DataW Unit}{g:Int->Bool}(h:Bx D g)(c:IsMap D)(a:Int)(b):Bx (D.put (.int .i64 a) (.lit (.bool b))) (λn=>if n=a then b else g n):=by
 intro n d
 by_cases e:n=a
 ·subst e;rw[L7 c (Hu n)];simp
 rw[KT (by simpa using e),h n d];simp[e]
theorem Bx.congr{D:DataW Unit}{g a:Int->Bool}(h:Bx D g)(c:∀n,wf n->g n=a n):Bx D a:=λn b=>by rw[h n b,c n b]
def mB(w wr:World)(M:Nat)(f:Int)(done:List aN):Prop:=bL w wr/\∃D,wr.ownsMap prog 3 jl M (2*done.length+1) D/\Bx D (vq f done)
theorem mB.l{w wr wr' M f done}(h:mB w wr M f done)(a:bL wr wr'):mB w wr' M f done:=by obtain⟨b,D,c,d⟩:=h;refine⟨b.th a,D,?_,d⟩;exact c.kept (row:=none) ⟨a.os,a.tape,a.output,a.size,λk e _=>a.block k e⟩ (by simp)
theorem Iz{f:Int}{done:List aN}{c:aN}(h:c.1=f)(n:Int):(if n=c.2.2+1 then ((if c.2.2+1=c.2.2 then true else vq f done (c.2.2+1))||(decide (c.2.1=1)||decide (c.2.1=2))) else if n=c.2.2 then true else vq f done n)=vq f (done++[c]) n:=by
 rw[Gy h]
 by_cases b:n=c.2.2+1
 ·have a:¬c.2.2+1=c.2.2:=by omega
  have i:¬c.2.2=n:=by omega
  rw[Io b,iO a,<-b];simp[i]
 have d:¬c.2.2+1=n:=λe=>b e.symm
 rw[iO b]
 by_cases a:n=c.2.2
 ·simp[a]
 have g:¬c.2.2=n:=λe=>a e.symm
 rw[iO a];simp[d,g]
theorem pj(ps:List aD)(i:Nat)(p:aD)(h:ps[i]?=some p):bh (ps.take (i+1))=bh (ps.take i)++oV p:=by rw[KN,h];simp[bh]
theorem oq(a:List aq)(i:Nat)(r:aq)(h:a[i]?=some r):(a.take (i+1)).flatMap (·.1)=(a.take i).flatMap (·.1)++r.1:=by rw[KN,h];simp
theorem xg(cs:List aN)(i:Nat)(c:aN)(h:cs[i]?=some c):cs.take (i+1)=cs.take i++[c]:=by rw[KN,h];rfl
theorem jg:∀ (a:List aq),(∀r∈a,bH r=0)->(a.flatMap (·.1)).length<=a.length*10
 |[],_=>by simp
 |r :: s,h=>by
  have c:=(dy (h r (by simp))).1;have e:=jg s λd b=>h d (by simp[b])
  rw[KQ,Kj,Kv];omega
theorem jP:∀ (ps:List aD),gn ps->(bh ps).length<=ps.length*1200
 |[],_=>by simp[bh]
 |p :: s,h=>by
  obtain⟨e,_,b⟩:=cY (h p (by simp));have a:=jP s λd c=>h d (by simp[c])
  have f:=jg p.1 (cM b)
  unfold bh at a |-
  rw[KQ,Kj,Kv]
  unfold oV at a |-
  omega
section
theorem Ct{w:World}{base c n b:Nat}{e:TypeId}{v:Value}{xs:List Value}(h:w.ownsRow base e c v n xs){f:Array MapEntry}{a:Nat}(g:w.1[b]?=some (.map f a)):some b≠v.ownBlock:=by
 intro i;have⟨j,d⟩:=cX h b i.symm;rw[g] at d
 cases d
theorem tC{w:World}{base c n b:Nat}{e:TypeId}{v:Value}{xs:List Value}(h:w.ownsRow base e c v n xs){m:Option Nat}{a:Nat}{d:Array Nat}{g:Nat}(i:w.1[b]?=some (.mapIter m a d g)):some b≠v.ownBlock:=by
 intro j;have⟨k,f⟩:=cX h b j.symm;rw[i] at f
 cases f
theorem iq{w w'}(a:bL w w')(row:Option Nat):w.grownBy w' row:=⟨a.os,a.tape,a.output,a.size,λk b _=>a.block k b⟩
section
variable {P:Program} {k:TypeId} {R:Value->Option (DataW Unit × List MemPlace)} {w w':World} {b r n:Nat} {D:DataW Unit} {left:Lit->Bool} {cnt:Nat}
theorem rX(h:w.ranges P k R b r n D left cnt)(a:bL w w'):w'.ranges P k R b r n D left cnt:=h.kept (iq a none) (by simp) (by simp)
theorem CS(h:w.ranges P k R b r n D left cnt){base a m:Nat}{e:TypeId}{v:Value}{xs:List Value}(f:w.ownsRow base e a v m xs)(i:w.grownBy w' v.ownBlock):w'.ranges P k R b r n D left cnt:=by have j:=h;obtain⟨p,c,d,g,q,l,_,_,_,o,_⟩:=j;exact h.kept i (Ct f l) (tC f o)
theorem BG(h:w.ranges P k R b r n D left cnt){base a m:Nat}{e:TypeId}{v:Value}{xs:List Value}(f:w.ownsRow base e a v m xs)(i:w.grownBy w' (some r)):w'.ownsRow base e a v m xs:=by obtain⟨l,c,d,g,o,p,_,_,_,j,_⟩:=h;exact f.kept i (.inr λh=>tC f j h.symm)
end
theorem ir{P:Program}{t e:TypeId}{i:TypeInfo}{z:Value}{b f:Nat}{A:Array Oper}{p:List Oper}{o:Oper}{a:Act}{Q:Exit->Act->World->Prop}(w:World)(C:o.guard=none)(s x:Operand)
  (iY:o.op=.call { callee:=.builtin .append,args:=#[s,x],argTypes:=#[t,t] })
  (L:P.underlying t=some (.slice e)) (M:P.info? e=some i) (N:i.zero=some z) (r:i.size=b) (D:i.bytes=f) (E:z.cells.size=b) (F:0<b)
  (d:Nat) (v:Value) (n:Nat) (G:List Value) (O:a.eval s=v) (g m:Nat) (c:List Value) (R:a.eval x=.slice (sO g) m m)
  (W:World) {T0} (S:w=W.alloc (.cells c.toArray T0)) (T:g=W.1.size) (wo) (I:bL wo W) (q:wo.ownsRow d e b v n G) (V:c.length=m*b) (X:∀u∈c,u.oneCell'=true) (Y:n+m<=maxLen) (hn:(n+m)*f<=140737488355328) (l:d<=wo.1.size)
  (h:∀B w',Hid (w'.ownsRow d e b B (n+m) (G++c))->Below d wo w'->Hid (wo.grownBy w' v.ownBlock)->wpList P A Q p (a.put o.dst B) w'):wpList P A Q (o :: p) a w:=by
 subst S;subst T;have y:bL wo (W.alloc (.cells c.toArray T0)):=I.alloc I.size _;obtain⟨B,J,r1,r2,r3,_⟩:=LB (P:=P) (W.alloc (.cells c.toArray T0)) d t o.type e i z b f L M N r D E F v n G (aw q y) (pW W 0) m m c V (λj u H=>by rw[eM,Kp];exact ab (ah W _) j (by simpa using H)) X Y hn (y.u l);have K:wo.grownBy J v.ownBlock:=Li (iq y v.ownBlock) r3 λj H=>.inr H
 exact Kw _ C s x _ _ iY _ _ O R _ _ r1 (h B J r2 (bR.grown K l λk hk=>eh q k hk) K)
theorem xM{P:Program}(w:World){g:Array Oper}{e:List Oper}{o:Oper}{a:Act}{Q:Exit->Act->World->Prop}(H:o.guard=none)(m:Operand)(iY:o.op=Op.next m false)(k:TypeId)(K:Maps.Keyed P k)(G:P.underlying k=some (.int .i64))
  (b r n:Nat) (D:DataW Unit) (left:Lit->Bool) (cnt:Nat) (p:a.eval m=.pointer (sO r)) (h:w.ranges P k jl b r n D left cnt)
  (i:cnt=0->Hid (∀q,left q=false)->wpList P g Q e (a.put o.dst (.tuple #[.bool false])) w)
  (j:∀ (x:Int) (c:Bool) (w':World) (d:Nat),Hid (wf x/\left (.int .i64 x)=true/\Maps.has D (.int .i64 x)=true/\(∀I,D.atKey (.int .i64 x) I=.lit (.bool c))/\w'.ranges P k jl b r n D (λz=>left z&&!z.sameKey (.int .i64 x)) d/\w.grownBy w' (some r))->d<cnt->w'.1.size=w.1.size->
   (Instr.entry (.pointer (sO r))).run P w'=.ok (.tuple #[.int .i64 x,.bool c]) w'->wpList P g Q e (a.put o.dst (.tuple #[.bool true,.int .i64 x,.bool c])) w'):
  wpList P g Q (o :: e) a w:=by
 refine wpList_next_ranges w H m iY k K jl (Value.int .i64) Value.bool (λJ q f=>by obtain⟨x,rfl,_⟩:=Maps.keyOf_int_inv G f;exact⟨x,rfl⟩) (λv y s=>by obtain⟨c,rfl,_⟩:=tb s;exact⟨c,rfl⟩) b r n D left cnt p h (λL M=>i L M) λx c q y w' d f t s l u A B C E=>?_
 have⟨T,N,F,O⟩:=Maps.keyOf_int_inv G f
 cases N;subst F;have⟨V,R,S⟩:=tb s
 cases R;subst S;exact j x c w' d ⟨O,t,Maps.has_true_of_atKey l,l,u,B⟩ A C E
def zh(left:Lit->Bool)(n:Int):Bool:=left (.int .i64 n)
def sy(D:DataW Unit)(g:Int->Bool)(m:Int)(left:Lit->Bool)(xs:List Int):Prop:=xs.Nodup/\∀n,n∈xs ↔ Maps.has D (.int .i64 n)=true/\zh left n=false/\(wf n/\g n=true)/\n<=m
theorem wQ(left:Lit->Bool)(x n:Int):zh (λz=>left z&&!z.sameKey (.int .i64 x)) n=(zh left n&&!decide (n=x)):=by
 unfold zh
 by_cases h:n=x
 ·subst h;simp[Lit.sameKey]
 simp[Lit.sameKey,h]
theorem sy.start{D:DataW Unit}{g:Int->Bool}{m}:sy D g m (Maps.has D) []:=by
 refine⟨List.nodup_nil,λn=>?_⟩;unfold zh;constructor
 ·intro h;cases h
 rintro⟨b,a,_⟩;rw[b] at a
 cases a
theorem sy.skip{D:DataW Unit}{g:Int->Bool}{m}{left:Lit->Bool}{xs}(h:sy D g m left xs){x:Int}(c:¬(g x=true/\x<=m)):sy D g m (λz=>left z&&!z.sameKey (.int .i64 x)) xs:=by
 refine⟨h.1,λn=>?_⟩;rw[h.2 n,wQ]
 by_cases e:n=x
 ·subst e;constructor
  ·rintro⟨_,_,⟨_,a⟩,b⟩;exact absurd ⟨a,b⟩ c
  rintro⟨_,_,⟨_,a⟩,b⟩;exact absurd ⟨a,b⟩ c
 simp[e]
theorem sy.take{D:DataW Unit}{g:Int->Bool}{m}{left:Lit->Bool}{xs}(h:sy D g m left xs){x:Int}(f:zh left x=true)(i:Maps.has D (.int .i64 x)=true)(j:wf x)(k:g x=true)(l:x<=m):sy D g m (λz=>left z&&!z.sameKey (.int .i64 x)) (xs++[x]):=by
 have c:x ∉ xs:=λo=>by
  have:=((h.2 x).1 o).2.1;rw[f] at this
  cases this
 refine⟨List.nodup_append.2 ⟨h.1,by simp,λa p b d=>?_⟩,λn=>?_⟩
 ·rw[KO] at d;subst d;intro e;subst e;exact c p
 rw[KB,KO,h.2 n,wQ]
 by_cases e:n=x
 ·subst e;simp[i,j,k,l]
 simp[e]
theorem sy.done{D:DataW Unit}{f ps}{left:Lit->Bool}{xs}(h:sy D (vq f (bh ps)) (aO f) left xs)(e:Bx D (vq f (bh ps)))(c:gn ps)(g:∀i,left i=false):∀n,n∈xs ↔ vq f (bh ps) n=true/\n<=aO f:=by
 intro n;rw[h.2 n];constructor
 ·rintro⟨_,_,⟨_,a⟩,b⟩;exact⟨a,b⟩
 rintro⟨a,b⟩;have d:wf n:=by have:=gX c (oZ.2 ⟨a,b⟩);have:=nq f;exact L4 (by omega)
 refine⟨?_,g _,⟨d,a⟩,b⟩
 cases hh:Maps.has D (.int .i64 n) with
 |true=>rfl
 |false=>
  have:=e n d;rw[Maps.atKey_of_not_has hh,a] at this;simp at this
theorem sy.few{D:DataW Unit}{f ps}{left:Lit->Bool}{xs}(h:sy D (vq f (bh ps)) (aO f) left xs)(a:gn ps):xs.length<=65536:=by
 refine FM h.1 λx b=>?_
 have⟨_,_,⟨_,c⟩,d⟩:=(h.2 x).1 b;have:=gX a (oZ.2 ⟨c,d⟩);have:=nq f;omega
theorem E4:∃i,prog.info? 3=some i/\i.zero=some (U 0)/\i.size=1/\i.bytes=8:=jL (by kernel_rfl)
def jW(l:List Int):List Value:=l.map (.int .i64)
end
theorem bG.full{B w v cs}(h:bG B w v cs):∃a b,v=.slice a cs.length b/\cs.length<=b/\b<=maxLen:=by obtain⟨a,b,c,d,e,_⟩:=h;exact⟨a,b,c,d,e⟩
def bO(l:List aN):List Value:=l.flatMap λc=>[U c.1,U c.2.1,U c.2.2]
theorem iS(c:aN)(l:List aN):bO (c :: l)=U c.1 :: U c.2.1 :: U c.2.2 :: bO l:=rfl
theorem uJ(l m:List aN):bO (l++m)=bO l++bO m:=by unfold bO;exact Mg
theorem ff:∀l:List aN,(bO l).length=l.length*3
 |[]=>rfl
 |c :: r=>by rw[iS];simp[ff r];omega
theorem nE:∀ (l:List aN),∀u∈bO l,u.oneCell'=true
 |[],u,h=>by cases h
 |c :: r,u,h=>by
  rw[iS] at h;simp at h
  rcases h with rfl|rfl|rfl|h
  ·rfl
  ·rfl
  ·rfl
  exact nE r u h
theorem s6:∀ (l:List aN) (i:Nat) (c:aN),l[i]?=some c->(bO l)[i*3]?=some (U c.1)/\(bO l)[i*3+1]?=some (U c.2.1)/\(bO l)[i*3+2]?=some (U c.2.2)
 |[],_,_,h=>by simp at h
 |a :: r,0,c,h=>by simp at h;subst h;simp[iS]
 |a :: r,i+1,c,h=>by have b:=s6 r i c (by simpa using h);rw[iS,show (i+1)*3=i*3+3 by omega];exact b
theorem mj{w}{b o:Nat}:∀ (l:List aN) (o:Nat),(∀i c,l[i]?=some c->iu w b (o+i*3) c)->∀j u,(bO l)[j]?=some u->w.cell? ⟨b,o+j,none⟩=some u
 |[],_,_,j,u,h=>by simp[bO] at h
 |c :: r,o,a,j,u,h=>by
  have⟨d,e,f,_⟩:=a 0 c rfl;simp only[Nat.zero_mul,Nat.add_zero] at d e f;rw[iS] at h
  match j,h with
  |0,h=>simp at h;subst h;simpa using d
  |1,h=>simp at h;subst h;exact e
  |2,h=>simp at h;subst h;exact f
  |j+3,h=>
   have:=mj (b:=b) (o:=o) r (o+3) (λi c g=>by
    have:=a (i+1) c (by simpa using g);rw[show o+(i+1)*3=o+3+i*3 by omega] at this
    exact this) j u (by simpa using h)
   rw[show o+(j+3)=o+3+j by omega];exact this
theorem BU{L:Nat}{w:World}{v:Value}{l:List aN}(h:w.ownsRow L 136 3 v l.length (bO l))(b:∀c∈l,wf c.1/\wf c.2.1/\wf c.2.2):bG w.1.size w v l:=by
 obtain⟨a,d,rfl,j,k,m⟩:=an h;refine⟨a,d,rfl,j,k,λi c e=>?_⟩;have r:i<l.length:=(K9.1 e).1;obtain⟨g,rfl,n,f⟩:=m (by omega);have⟨o,p,q⟩:=s6 l i c e;refine⟨g,0,rfl,f,?_,?_,?_,b c (Kb e)⟩
 all_goals rw[Kp]
 ·exact aK h _ _ o
 ·exact aK h _ _ p
 exact aK h _ _ q
theorem bG.wfs{B w v l}(h:bG B w v l):∀c∈l,Go.Proofs.YtffnfdfjojidfaaGreatDoor.wf c.1/\Go.Proofs.YtffnfdfjojidfaaGreatDoor.wf c.2.1/\Go.Proofs.YtffnfdfjojidfaaGreatDoor.wf c.2.2:=by intro c a;have⟨i,b⟩:=LJ.1 a;obtain⟨_,_,_,_,_,d⟩:=h;have⟨_,_,_,_,k⟩:=d i c b;exact k.2.2.2
theorem mE(B base:Nat)(H:TypeId)(v sv:Value)(n:Nat)(xs:List Value)(rs)(W:World)(d:W.ownsRow base 136 3 v n xs)(K:bG B W sv rs)(L:(n+rs.length)*24<=140737488355328)(f:base<=W.1.size):
  ∃x s,(Builtin.append_ #[131,131] H #[v,sv]).run prog W=.ok x s/\s.ownsRow base 136 3 x (n+rs.length) (xs++bO rs)/\Below base W s:=by
 obtain⟨t,m,z,A,C⟩:=mJ;obtain⟨a,w,rfl,M,N,p⟩:=K
 cases a with
 |none=>
  have O:rs=[]:=by
   cases rs with
   |nil=>rfl
   |cons r l=>have⟨b,o,e,_⟩:=p 0 r rfl;cases e
  subst O;refine⟨v,W,?_,by simpa [bO] using d,Kf _ _⟩
  have D:v=nL\/∃g c,v=.slice (some g) n c/\n<=c:=by
   rcases d.2 with ⟨h,_⟩|⟨g,c,E,h,_,_,Q,_⟩
   ·exact .inl h
   exact .inr ⟨_,c,h,Q⟩
  have I:=Lk (P:=prog) W t.size 0 0 w
  rcases D with rfl|⟨g,c,rfl,F⟩
  ·simp[Builtin.append_,KY Tryz.underlying131,sizeOf,typeInfo,m,Builtin.lenOf,I]
  simp[Builtin.append_,KY Tryz.underlying131,sizeOf,typeInfo,m,Builtin.lenOf,I,F,storeCells]
 |some J=>
  have q:∀j u,(bO rs)[j]?=some u->W.cell? (J.add j)=some u:=by
   cases rs with
   |nil=>intro j u G;simp[bO] at G
   |cons r l=>
    have⟨b,o,e,_,_⟩:=p 0 r rfl
    cases e;intro j u G;rw[eM];refine mj (o:=o) (r :: l) o (λi c D=>?_) j u G;have⟨V,X,e,_,k⟩:=p i c D
    cases e;exact k
  obtain⟨x,s,R,S,T,Y⟩:=LB (P:=prog) W base 131 H 136 t _ 3 24 Tryz.underlying131 m z A C rfl (by decide) v n xs d J rs.length w (bO rs) (ff rs) q (nE rs) (by rw[ai];omega) L f;refine⟨x,s,R,S,bR.grown T f λk y=>?_⟩
  rcases d.2 with ⟨h,_⟩|⟨g,c,E,h,hg,_⟩
  ·rw[h] at y;simp[Value.ownBlock] at y
  rw[h] at y;simp[Value.ownBlock] at y;omega
theorem FN(n:Nat)(w)(u:n*24<=140737488355328):
  cL 184 #[nL,U n] w λe q=>∃v,e=.returned v/\q.ownsRow w.1.size 136 3 v 0 []/\bL w q:=by
 have j:=ai
 by_cases r:n=0
 ·subst r;go_enter func184,ntmps184;go_wp2;go_ret;exact⟨_,rfl,⟨rfl,.inl ⟨rfl,rfl⟩⟩,Kf _ _⟩
 obtain⟨b,k,c,s,d⟩:=mJ;have x:¬((n:Int)<0):=by omega
 have y:(n:Int)>0:=by omega
 have⟨G,i⟩:=nM (grownCap w n 0 136);have t:n<=G:=by rw[i];exact grownCap_ge w _ _ _
 have a:G<=maxLen:=by rw[i];exact Mm w n 0 _ (by omega)
 obtain⟨z,l⟩:∃z:Value,z=.agg #[U 0,U 0,U 0]:=⟨_,rfl⟩;have m:z.cells.size=3:=by rw[l];rfl
 rw[<-l] at c
 have o:∀p,(Builtin.append_ #[131,3] p #[nL,U n]).run prog w=
   .ok (.slice (MZ w) n G) (w.drew.alloc (.cells ((Builtin.zeroCells z.cells n)++Builtin.zeroCells z.cells (G-n)) 136)):=λp=>by
  have h:=Ma w 131 3 p 136 b z .i64 .i64 Tryz.underlying131 Tryz.underlying3 k c none 0 0 [] (Lk w.drew b.size 0 0 0) n (by omega) (by omega) (by omega) (by omega)
   (by rw[d];omega)
   (by rw[Kp];exact MV (by omega) (by rw[d];omega))
  simpa [<-i] using h
 have f:Hid ((w.drew.alloc (.cells ((Builtin.zeroCells z.cells n)++Builtin.zeroCells z.cells (G-n)) 136)).ownsRow w.1.size 136 3 (.slice (MZ w) 0 G) 0 []):=by refine⟨rfl,.inr ⟨w.1.size,G,_,rfl,Ke _,(Kr w.drew _).1,Ks _,a,?_,by simp⟩⟩;rw[MX,M7,M7,m,<-Mi];congr 1;omega
 have g:Hid (bL w (w.drew.alloc (.cells ((Builtin.zeroCells z.cells n)++Builtin.zeroCells z.cells (G-n)) 136))):=bR.drew.alloc lE _;clear i l;rw[j] at a;generalize (Builtin.zeroCells z.cells n)++Builtin.zeroCells z.cells (G-n)=A at*;go_enter func184,ntmps184;go_wp2_with (at_builtin;refine Kw _ rfl _ _ _ _ rfl _ _ rfl rfl _ _ (o _) ?_);go_ret;exact⟨_,rfl,f.o,g.o⟩
theorem tT(B v0 v1 r0 r1)(bs:Nat)(w)(E:bG B w v0 r0)(n:bG B w v1 r1)(M:B<=w.1.size)(s:bs<w.1.size)(t:w.cell? (pA bs 0)=some v0)(u:w.cell? (pA bs 1)=some v1)(Q:(r0.length+r1.length)*24<=140737488355328):
  cL 152 #[.slice (sO bs) 2 2] w λe f=>∃v,e=.returned v/\f.ownsRow w.1.size 136 3 v (r0++r1).length (bO (r0++r1))/\bL w f:=by
 have R:=Z E;have S:=Z n;obtain⟨T,x,F,N,_⟩:=E.full;obtain⟨V,y,G,O,_⟩:=n.full;have W:=Z F;have X:=Z G;rw[F] at t;rw[G] at u
 have Y:Hid (∀f,bL w f->f.cell? (pA bs 0)=some (.slice T r0.length x)/\f.cell? (pA bs 1)=some (.slice V r1.length y)):=λf h=>⟨(h.cell (p:=pA bs 0) s).trans t,(h.cell (p:=pA bs 1) s).trans u⟩
 clear F G E n;generalize z:r0.length=l at*;generalize A:r1.length=m at*;have C:=Z z;have H:=Z A;clear z A;go_enter func152,ntmps152;go_wp2;go_loop [3,11] (λsz i=>∃k:Nat,k<=2/\i=U k/\sz=U (if k=0 then 0 else if k=1 then (l:Int) else ((l:Int)+m))) (λ_ i=>2-(intOf i).toNat)
 case atStart=>exact⟨0,by omega,rfl,rfl⟩
 case round=>
  obtain⟨k,hk,rfl,rfl⟩:=hrel;have o:k=0\/k=1\/k=2:=by omega
  rcases o with rfl|rfl|rfl
  ·go_wp2;exact⟨⟨1,by omega,rfl,by simp⟩,by simp[intOf]⟩
  ·have P:¬((l:Int)+(m:Int)<0):=by omega
   have a4:wrap64 ((l:Int)+(m:Int))=(l:Int)+m:=by unfold wrap64;omega
   go_wp2;exact⟨⟨2,by omega,rfl,by simp⟩,by simp[intOf]⟩
  have hG:Hid (∀f,cL 184 #[nL,U ((l:Int)+m)] f λe D=>∃v,e=.returned v/\D.ownsRow f.1.size 136 3 v 0 []/\bL f D):=λf=>by have:=FN (l+m) f Q;rw[show ((l+m:Nat):Int)=(l:Int)+m by omega] at this;exact this
  go_wp2_with fail;go_at_call 184;refine(hG.o _).mono ?_;rintro e w1 ⟨v,rfl,j,I⟩;have HO:=Z j;clear j;go_wp2_with fail;go_loopw [6,27] (λnv i wr=>∃ (k:Nat),k<=2/\i=U k/\Hid (wr.ownsRow w.1.size 136 3 nv (([r0,r1].take k).flatten).length (bO ([r0,r1].take k).flatten))/\bL w wr) (λ_ i _=>2-(intOf i).toNat)
  case atStart=>exact⟨0,by omega,rfl,HO,I⟩
  case round=>
   obtain⟨k,hk,rfl,g,b⟩:=hrel;obtain⟨c0,c1⟩:=Y.o _ b;have o:k=0\/k=1\/k=2:=by omega
   rcases o with rfl|rfl|rfl
   ·obtain⟨J,K,c,a,d⟩:=mE B w.1.size 131 _ _ 0 [] r0 wr g.o (R.o.l b M) (by rw[C.o];omega) b.size;rw[W.o] at c
    have q:Hid (K.ownsRow w.1.size 136 3 J (([r0,r1].take 1).flatten).length (bO ([r0,r1].take 1).flatten)):=by
     unfold Hid;have e:([r0,r1].take 1).flatten=r0:=by simp
     rw[e]
     simpa using a
    have r:=b.trans d;clear a d g;go_wp2_with (at_builtin;refine Kw _ rfl _ _ _ _ rfl _ _ rfl rfl _ _ c ?_);exact⟨⟨1,by omega,rfl,q,r⟩,by simp[intOf]⟩
   ·obtain⟨J,K,c,a,d⟩:=mE B w.1.size 131 _ _ r0.length (bO r0) r1 wr (by have:=g.o;simpa using this) (S.o.l b M) (by rw[C.o,H.o];omega) b.size;rw[X.o] at c
    have q:Hid (K.ownsRow w.1.size 136 3 J (([r0,r1].take 2).flatten).length (bO ([r0,r1].take 2).flatten)):=by
     unfold Hid;have e:([r0,r1].take 2).flatten=r0++r1:=by simp
     rw[e,uJ,Kj];exact a
    have r:=b.trans d;clear a d g;go_wp2_with (at_builtin;refine Kw _ rfl _ _ _ _ rfl _ _ rfl rfl _ _ c ?_);exact⟨⟨2,by omega,rfl,q,r⟩,by simp[intOf]⟩
   have n:=g.o;have e:([r0,r1].take 2).flatten=r0++r1:=by simp
   rw[e] at n;have L:Hid _:=n;clear g n e;go_wp2;go_ret;exact⟨_,rfl,L.o,b⟩
section
theorem zc(exc a b)(f:Nat)(w:World)(g:w.cell? (pA f 0)=some (.bool exc)):
  cL 150 #[U a,U b,.pointer (sO f)] w λe w'=>e=.returned (U (mG exc a b))/\w'=w:=by
 by_cases c:a<b
 ·have d:Hid (mG exc a b=a):=by unfold Hid mG;rw[Io c]
  go_enter func150,ntmps150;go_wp2;go_ret;exact⟨by rw[d.o];rfl,rfl⟩
 cases exc with
 |true=>
  have d:Hid (mG true a b=4):=by unfold Hid mG;rw[iO c];rfl
  go_enter func150,ntmps150;go_wp2;go_ret;exact⟨by rw[d.o];rfl,rfl⟩
 |false=>
  have d:Hid (mG false a b=b):=by unfold Hid mG;rw[iO c];rfl
  go_enter func150,ntmps150;go_wp2;go_ret;exact⟨by rw[d.o];rfl,rfl⟩
theorem tW{w w'}(a:bL w w')(row:Option Nat):w.grownBy w' row:=⟨a.os,a.tape,a.output,a.size,λk b _=>a.block k b⟩
theorem be(w:World)(o:Obj){n:Nat}(h:n=w.1.size):(w.alloc o).1[n]?=some o:=by subst h;exact ah _ _
theorem aS{w:World}(o:Obj){n:Nat}{x:Obj}(h:w.1[n]?=some x):(w.alloc o).1[n]?=some x:=(Below.block ((Kf w.1.size w).alloc lE o) n (KK.1 h).1).trans h
def dB(T:TypeId)(w w':World):Prop:=∀ (k:Nat) (a:Array Value) (b:Nat × Nat),w.1[k]?=some (.cells a T b)->w'.1[k]?=some (.cells a T b)
theorem dB.of_below{T w w'}(h:bL w w'):dB T w w':=λk b c a=>(h.block k (io a)).trans a
theorem dB.trans{T a b c}(h:dB T a b)(f:dB T b c):dB T a c:=λk d e g=>f k d e (h k d e g)
theorem eQ{w w':World}{base a n:Nat}{e:TypeId}{v:Value}{xs:List Value}(h:w.ownsRow base e a v n xs)(d:dB e w w'):w'.ownsRow base e a v n xs:=bT h λg b _ c=>(d g b _ c).trans c.symm
def uN(L:Nat)(w:World)(xs:List Value)(a:List aq):Prop:=
 xs.length=a.length*2/\(∀u∈xs,u.oneCell'=true)/\∀i r,a[i]?=some r->∃b,xs[i*2]?=some b/\xs[i*2+1]?=some (U r.2)/\wf r.2/\(∀c∈r.1,wf c.1/\wf c.2.1/\wf c.2.2)/\w.ownsRow L 136 3 b r.1.length (bO r.1)
theorem uN.keep{L w w' xs rs}(h:uN L w xs rs)(f:dB 136 w w'):uN L w' xs rs:=by obtain⟨g,j,k⟩:=h;refine⟨g,j,λi r l=>?_⟩;have⟨m,a,b,c,d,e⟩:=k i r l;exact⟨m,a,b,c,d,eQ e f⟩
theorem uN.snoc{L w xs rs}{cv:Value}{r:aq}(h:uN L w xs rs)(n:wf r.2)(o:∀c∈r.1,wf c.1/\wf c.2.1/\wf c.2.2)(m:w.ownsRow L 136 3 cv r.1.length (bO r.1)):uN L w (xs++[cv,U r.2]) (rs++[r]):=by
 obtain⟨j,p,q⟩:=h;refine⟨by simp[j];omega,λu g=>?_,λi s f=>?_⟩
 ·rcases KB.1 g with g|g
  ·exact p u g
  obtain⟨a,t,rfl,_⟩:=an m;simp at g
  rcases g with rfl|rfl<;>rfl
 by_cases v:i<rs.length
 ·rw[Kh v] at f;have⟨k,a,b,c,d,e⟩:=q i s f;exact⟨k,by rw[Kh (by omega)];exact a,by rw[Kh (by omega)];exact b,c,d,e⟩
 have l:i=rs.length:=by have:=(K9.1 f).1;simp at this;omega
 subst l;simp at f;subst f;exact⟨cv,by rw[Kk (by omega)];simp[j],by rw[Kk (by omega)];simp[j],n,o,m⟩
def K4(L d e b:Nat)(a:Bool)(c:List aq)(v:Value)(xs:List Value)(w:World):Prop:=
 w.1[b]?=some (.cells #[.bool a] 4 (0,0))/\w.1[e]?=some (.cells #[.func (.func 150) #[] #[.pointer (sO b)]] 187 (0,0))/\
 w.1[d]?=some (.cells #[v,U 0] 30 (0,0))/\w.ownsRow L 133 2 v c.length xs/\uN L w xs c
def It(L b c d:Nat)(a:Bool)(e:List aq)(w:World):Prop:=∃v xs,K4 L b c d a e v xs w
theorem It.l{L bo bf bx exc rs w w'}(h:It L bo bf bx exc rs w)(a:bL w w'):It L bo bf bx exc rs w':=by obtain⟨v,xs,b,c,d,e,f⟩:=h;exact⟨v,xs,(a.block bx (io b)).trans b,(a.block bf (io c)).trans c,(a.block bo (io d)).trans d,aw e a,f.keep (dB.of_below a)⟩
structure tH (L:Nat) (W:World) (v:Value) (n:Nat) (xs:List Value) (rc sc:Value) (N:Nat) (cc:List Value) (vd:Int) (fs:Nat->Value->Prop) (w:World):Prop where
 grown:W.grownBy w v.ownBlock
 lits:∀u,fs 6 u->∃g T0 fr,u=.slice (sO g) 2 2/\W.1.size<=g/\w.1[g]?=some (.cells #[rc,sc] T0 fr)
 one:∀u u',fs 7 u->fs 7 u'->u=u'
 join:∀u,fs 7 u->w.ownsRow W.1.size 136 3 u N cc
 build:∀u,fs 14 u->∃u7,fs 7 u7/\u=.agg #[u7,U vd]
 made:∀u,fs 15 u->∃g T0 fr u7,u=.slice (sO g) 1 1/\W.1.size<=g/\fs 7 u7/\w.1[g]?=some (.cells #[u7,U vd] T0 fr)
 row:(∀u,¬fs 16 u)->w.ownsRow L 133 2 v n xs
 app:∀u,fs 16 u->∃u7,fs 7 u7/\w.ownsRow L 133 2 u (n+1) (xs++[u7,U vd])/\(u.ownBlock=v.ownBlock\/∃k,u.ownBlock=some k/\W.1.size<=k)
section
variable {L:Nat} {W w w':World} {v:Value} {n:Nat} {xs:List Value} {rc sc:Value} {N:Nat} {cc:List Value} {vd:Int} {fs:Nat->Value->Prop}
theorem aC{fs:Nat->Value->Prop}{i k:Nat}{v u}(b:k≠i)(a:d9 fs i v k u):fs k u:=by
 rcases a with a|⟨e,_⟩
 ·exact a
 exact absurd e b
theorem tH.start(h:W.ownsRow L 133 2 v n xs):tH L W v n xs rc sc N cc vd (λ_ _=>False) W.drew:=
 ⟨⟨rfl,rfl,rfl,Ke _,λ_ _ _=>rfl⟩,λ_ h=>h.elim,λ_ _ h=>h.elim,λ_ h=>h.elim,λ_ h=>h.elim,λ_ h=>h.elim,λ_=>h,λ_ h=>h.elim⟩
theorem tH.l(h:tH L W v n xs rc sc N cc vd fs w)(b:bL w w'):tH L W v n xs rc sc N cc vd fs w':=by
 refine⟨Li h.grown (tW b v.ownBlock) λj m=>.inr m,λu a=>?_,h.one,λu a=>aw (h.join u a) b,h.build,λu a=>?_,λo=>aw (h.row o) b,λu a=>?_⟩
 ·have⟨g,f,i,d,e,c⟩:=h.lits u a;exact⟨g,f,i,d,e,(b.block g (io c)).trans c⟩
 ·have⟨g,f,i,k,d,e,c,l⟩:=h.made u a;exact⟨g,f,i,k,d,e,c,(b.block g (io l)).trans l⟩
 have⟨k,d,e,c⟩:=h.app u a;exact⟨k,d,aw e b,c⟩
theorem tH.other(h:tH L W v n xs rc sc N cc vd fs w)(k:Nat)(u)(m:6≠k)(e:7≠k)(f:14≠k)(i:15≠k)(j:16≠k):tH L W v n xs rc sc N cc vd (d9 fs k u) w:=by
 refine⟨h.grown,λu a=>h.lits u (aC m a),λu o a l=>h.one u o (aC e a) (aC e l),λu a=>h.join u (aC e a),λu a=>?_,λu a=>?_,λp=>h.row λu a=>p u (.inl a),λu a=>?_⟩
 ·have⟨b,c,d⟩:=h.build u (aC f a);exact⟨b,.inl c,d⟩
 ·have⟨g,q,r,b,c,d,s,t⟩:=h.made u (aC i a);exact⟨g,q,r,b,c,d,.inl s,t⟩
 have⟨b,c,d⟩:=h.app u (aC j a);exact⟨b,.inl c,d⟩
theorem tH.lists(h:tH L W v n xs rc sc N cc vd fs w)(b):tH L W v n xs rc sc N cc vd (d9 fs 6 (.slice (sO w.1.size) 2 2)) (w.alloc (.cells #[rc,sc] b)):=by
 have f:=h.grown.size;have h:=h.l ((Kf w.1.size w).alloc lE (.cells #[rc,sc] b));refine⟨h.grown,λu a=>?_,λu j a i=>h.one u j (aC (by decide) a) (aC (by decide) i),λu a=>h.join u (aC (by decide) a),λu a=>?_,λu a=>?_,λk=>h.row λu a=>k u (.inl a),λu a=>?_⟩
 ·rcases a with a|⟨_,rfl⟩
  ·exact h.lits u a
  exact⟨w.1.size,b,(0,0),rfl,f,ah _ _⟩
 ·obtain⟨c,d,e⟩:=h.build u (aC (by decide) a);exact⟨c,.inl d,e⟩
 ·obtain⟨g,b,l,c,d,e,m,o⟩:=h.made u (aC (by decide) a);exact⟨g,b,l,c,d,e,.inl m,o⟩
 obtain⟨c,d,e⟩:=h.app u (aC (by decide) a);exact⟨c,.inl d,e⟩
theorem tH.joined(h:tH L W v n xs rc sc N cc vd fs w)(b:∀u,¬fs 7 u)(j:bL w w')(u:Value)(k:w'.ownsRow w.1.size 136 3 u N cc):tH L W v n xs rc sc N cc vd (d9 fs 7 u) w':=by
 have f:=h.grown.size;have h:=h.l j;refine⟨h.grown,λu a=>h.lits u (aC (by decide) a),λi l a c=>?_,λi a=>?_,λu a=>?_,λu a=>?_,λm=>h.row λu a=>m u (.inl a),λu a=>?_⟩
 ·rcases a with a|⟨_,rfl⟩
  ·exact absurd a (b i)
  rcases c with c|⟨_,rfl⟩
  ·exact absurd c (b l)
  rfl
 ·rcases a with a|⟨_,rfl⟩
  ·exact absurd a (b i)
  exact cU k f
 ·obtain⟨d,e,_⟩:=h.build u (aC (by decide) a);exact absurd e (b d)
 ·obtain⟨g,q,r,d,e,o,p,s⟩:=h.made u (aC (by decide) a);exact absurd p (b d)
 obtain⟨d,e,o⟩:=h.app u (aC (by decide) a);exact absurd e (b d)
theorem tH.built(h:tH L W v n xs rc sc N cc vd fs w)(d:Value)(e:fs 7 d):tH L W v n xs rc sc N cc vd (d9 fs 14 (.agg #[d,U vd])) w:=by
 refine⟨h.grown,λu a=>h.lits u (aC (by decide) a),λu i a f=>h.one u i (aC (by decide) a) (aC (by decide) f),λu a=>h.join u (aC (by decide) a),λu a=>?_,λu a=>?_,λj=>h.row λu a=>j u (.inl a),λu a=>?_⟩
 ·rcases a with a|⟨_,rfl⟩
  ·have⟨y,b,c⟩:=h.build u a;exact⟨y,.inl b,c⟩
  exact⟨d,.inl e,rfl⟩
 ·obtain⟨g,k,l,y,b,c,m,o⟩:=h.made u (aC (by decide) a);exact⟨g,k,l,y,b,c,.inl m,o⟩
 obtain⟨y,b,c⟩:=h.app u (aC (by decide) a);exact⟨y,.inl b,c⟩
theorem tH.rule(h:tH L W v n xs rc sc N cc vd fs w)(e:∀u,¬fs 15 u)(b:Value)(a:fs 14 (.agg #[b,U vd]))(T0):tH L W v n xs rc sc N cc vd (d9 fs 15 (.slice (sO w.1.size) 1 1)) (w.alloc (.cells #[b,U vd] T0)):=by
 have f:=h.grown.size
 have g:fs 7 b:=by
  obtain⟨y,c,d⟩:=h.build _ a;have:b=y:=by simpa using d
  rw[this];exact c
 have h:=h.l ((Kf w.1.size w).alloc lE (.cells #[b,U vd] T0));refine⟨h.grown,λu a=>h.lits u (aC (by decide) a),λu j a i=>h.one u j (aC (by decide) a) (aC (by decide) i),λu a=>h.join u (aC (by decide) a),λu a=>?_,λu a=>?_,λk=>h.row λu a=>k u (.inl a),λu a=>?_⟩
 ·obtain⟨y,c,d⟩:=h.build u (aC (by decide) a);exact⟨y,.inl c,d⟩
 ·rcases a with a|⟨_,rfl⟩
  ·exact absurd a (e u)
  exact⟨w.1.size,T0,(0,0),b,rfl,f,.inl g,ah _ _⟩
 obtain⟨y,c,d⟩:=h.app u (aC (by decide) a);exact⟨y,.inl c,d⟩
theorem tH.append(h:tH L W v n xs rc sc N cc vd fs w)(q:∀u,¬fs 16 u)(D:∀k,v.ownBlock=some k->k<W.1.size)(hL:L<=W.1.size)(c:Value)(r:fs 15 c)(T:n<=100000)(V:TypeId):
  ∃o w',(Builtin.append_ #[28,28] V #[v,c]).run prog w=.ok o w'/\(∃a s,o=.slice a (n+1) s)/\tH L W v n xs rc sc N cc vd (d9 fs 16 o) w':=by
 have a3:=ai;obtain⟨g,T0,fr,C,rfl,hg,t,E⟩:=h.made c r;have z:=h.row q;have F:C.oneCell'=true:=by obtain⟨a,s,rfl,_⟩:=an (h.join C t);rfl
 obtain⟨G,H,I,J,K⟩:∃i,prog.info? 133=some i/\i.zero=some (.agg #[nL,U 0])/\i.size=2/\i.bytes=32:=jL (by kernel_rfl);obtain⟨o,w',r1,X,Y,_,r5⟩:=Mt (P:=prog) w L 28 V 133 G _ 2 32 Tryz.underlying28 H I J K rfl (by decide) v n xs z (pA g 0) 1 1 [C,U vd] rfl (λj u M=>by rw[eM,Kp];exact ab E j (by simpa using M)) (by intro u b;simp at b;rcases b with rfl|rfl;exact F;rfl) (by omega) (by omega) (Kl hL h.grown.size);have d:∀p,W.1.size<=p->∀ {x},w.1[p]?=some x->w'.1[p]?=some x:=λp a6 x hx=>by refine(Y.block p (KK.1 hx).1 λe=>?_).trans hx;have:=D p e.symm;omega
 have⟨a',A,e',_⟩:=an X;refine⟨o,w',r1,⟨a',A,e'⟩,Li h.grown Y λj M=>.inr M,λu b=>?_,λu u' b O=>h.one u u' (aC (by decide) b) (aC (by decide) O),λu b=>?_,λu b=>?_,λu b=>?_,λT=>absurd (.inr ⟨rfl,rfl⟩) (T o),λu b=>?_⟩
 ·obtain⟨f,Q,l,B,m,R⟩:=h.lits u (aC (by decide) b);exact⟨f,Q,l,B,m,d f m R⟩
 ·exact bT (h.join u (aC (by decide) b)) λf aa S hc=>(d f S hc).trans hc.symm
 ·obtain⟨y,B,m⟩:=h.build u (aC (by decide) b);exact⟨y,.inl B,m⟩
 ·obtain⟨f,Q,l,y7,B,m,R,e4⟩:=h.made u (aC (by decide) b);exact⟨f,Q,l,y7,B,m,.inl R,d f m e4⟩
 rcases b with b|⟨_,rfl⟩
 ·exact absurd b (q u)
 refine⟨C,.inl t,X,?_⟩
 rcases r5 with e|e
 ·exact .inl e
 exact .inr ⟨_,e,h.grown.size⟩
end
end
