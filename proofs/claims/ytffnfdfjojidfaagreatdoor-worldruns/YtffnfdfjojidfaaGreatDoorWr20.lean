import Derived.Test.YtffnfdfjojidfaaGreatDoorWr17
set_option linter.all false
set_option maxRecDepth 100000
set_option maxHeartbeats 16000000
namespace Go.Proofs.YtffnfdfjojidfaaGreatDoor
open Go.RowKit Go.Maps Go.Proofs.Tryz
def i8:Bs->Option (Bs × Bs)
 |[]=>none
 |b :: l=>if b=10 then some ([],l) else match i8 l with
  |none=>none
  |some (a,t)=>some (b :: a,t)
theorem th:∀ (a t:Bs),(10:UInt8) ∉ a->i8 (a++10 :: t)=some (a,t)
 |[],t,_=>rfl
 |b :: a,t,h=>by
  have c:b≠10:=λe=>h (by simp[e])
  show (if b=10 then some ([],a++10 :: t) else match i8 (a++10 :: t) with|none=>none|some (a,t)=>some (b :: a,t))=_;rw[iO c,th a t λe=>h (by simp[e])]
theorem o6:∀ (a:Bs),(10:UInt8) ∉ a->i8 a=none
 |[],_=>rfl
 |b :: a,h=>by
  have c:b≠10:=λe=>h (by simp[e])
  show (if b=10 then some ([],a) else match i8 a with|none=>none|some (a,t)=>some (b :: a,t))=_;rw[iO c,o6 a λe=>h (by simp[e])]
theorem gL:∀ {s a t:Bs},i8 s=some (a,t)->s=a++10 :: t/\(10:UInt8) ∉ a
 |[],a,t,h=>by cases h
 |b :: s,a,t,h=>by
  have c:(if b=10 then some ([],s) else match i8 s with|none=>none|some (a,t)=>some (b :: a,t))=some (a,t):=h
  by_cases d:b=10
  ·rw[Io d] at c
   cases c;exact⟨by rw[d];rfl,by simp⟩
  rw[iO d] at c
  cases hc:i8 s with
  |none=>rw[hc] at c;cases c
  |some x=>
   obtain⟨g,i⟩:=x;rw[hc] at c
   cases c;have⟨e,f⟩:=gL hc;exact⟨by rw[e];rfl,by simp;exact⟨λe=>d e.symm,f⟩⟩
theorem qP{s:Bs}(h:i8 s=none):(10:UInt8) ∉ s:=by
 intro c
 obtain⟨a,t,e,d⟩:∃a t,s=a++10 :: t/\(10:UInt8) ∉ a:=by
  clear h
  induction s with
  |nil=>cases c
  |cons b s g=>
   by_cases f:b=10
   ·exact⟨[],s,by rw[f];rfl,by simp⟩
   rcases Kz.1 c with e|c
   ·exact absurd e.symm f
   have⟨a,t,e,d⟩:=g c;exact⟨b :: a,t,by rw[e];rfl,by simp;exact⟨λe=>f e.symm,d⟩⟩
 rw[e,th a t d] at h
 cases h
theorem mY{s a t:Bs}(h:i8 s=some (a,t)):s.length=a.length+1+t.length:=by rw[(gL h).1];simp;omega
def fG:Nat->Bs->List Bs
 |0,s=>[s]
 |k+1,s=>match i8 s with
  |none=>[s]
  |some (a,t)=>(a++[10]) :: fG k t
def fH(aO:Nat):List Bs->List az × Nat × Int
 |[]=>([],0,0)
 |t :: a=>if t=[] then ([],0,0) else if t.getLast?=some 10 then
   (if (ch t.dropLast).2=0 then
    (match aO with
     |0=>([],0,2)
     |m+1=>((ch t.dropLast).1 :: (fH m a).1,t.length+(fH m a).2.1,(fH m a).2.2))
    else ([],0,(ch t.dropLast).2)) else ([],0,8)
def aM(aO:Nat)(s:Bs):List az × Nat × Int:=fH aO (fG s.length s)
theorem tF:∀ (k j:Nat) (s:Bs),s.length<=k->s.length<=j->fG k s=fG j s
 |0,0,s,_,_=>rfl
 |0,j+1,s,h,_=>by obtain rfl:s=[]:=LV (by omega);rfl
 |k+1,0,s,_,h=>by obtain rfl:s=[]:=LV (by omega);rfl
 |k+1,j+1,s,b,c=>by
  unfold fG
  cases h:i8 s with
  |none=>rfl
  |some x=>
   obtain⟨a,t⟩:=x;have:=mY h;simp only;rw[tF k j t (by omega) (by omega)]
theorem jJ(aO):aM aO []=([],0,0):=by unfold aM fG fH;simp
theorem jZ(aO)(a t:Bs)(h:(10:UInt8) ∉ a):aM aO (a++10 :: t)=(if (ch a).2=0 then (match aO with|0=>([],0,2)|m+1=>((ch a).1 :: (aM m t).1,a.length+1+(aM m t).2.1,(aM m t).2.2)) else ([],0,(ch a).2)):=by
 unfold aM;have b:(a++10 :: t).length=(a.length+t.length)+1:=by simp;omega
 rw[b]
 conv=>lhs;unfold fG
 rw[th a t h];simp only;rw[tF (a.length+t.length) t.length t (by omega) lE]
 conv=>lhs;unfold fH
 rw[iO (by simp),Io (by simp)];simp
theorem oT(aO)(s:Bs)(h:(10:UInt8) ∉ s)(a:s≠[]):aM aO s=([],0,8):=by
 unfold aM
 obtain⟨k,c⟩:∃k,s.length=k+1:=by
  cases s with
  |nil=>exact absurd rfl a
  |cons b l=>exact⟨l.length,rfl⟩
 rw[c];unfold fG;rw[o6 s h];simp only;unfold fH;rw[iO a,iO];intro e;exact h (List.mem_of_getLast? e)
theorem qj(B cv dv cs ds w)(hc:dR B w cv cs)(F:dR B w dv ds)(hB:B<=w.1.size):
  cL 84 #[cv,dv] w (rT w (.bool (decide (cs=ds)))):=by
 obtain⟨a,a9,rfl,aa,ac,G⟩:=hc;obtain⟨a2,R,rfl,I,S,J⟩:=F;have K:=Z G;have L:=Z J;clear G J
 by_cases l:cs.length=ds.length
 ·generalize hn:cs.length=n at*;have T:=l.symm;clear l;rw[T] at I;simp only[T];have ad:n<=9223372036854775807:=by have:=ai;omega
  go_enter func84,ntmps84;go_wp2;go_loopw [13] (λi wr=>∃k:Nat,k<=n/\i=U k/\Hid (∀i,i<k->cs[i]?=ds[i]?)/\bL w wr) (λi _=>n-(intOf i).toNat)
  case atStart=>exact⟨0,by omega,rfl,λi h=>absurd h (by omega),Kf _ _⟩
  case round=>
   obtain⟨k,hk,rfl,H,e⟩:=hrel;have i0:(0:Int)<=(k:Int):=by omega
   by_cases ae:k<n
   ·have i1:(k:Int)<(n:Int):=by omega
    obtain⟨c,s⟩:∃c,cs[k]?=some c:=⟨cs[k]'(by omega),by simp⟩;obtain⟨d,t⟩:∃d,ds[k]?=some d:=⟨ds[k]'(by omega),by simp⟩;obtain⟨b,o,rfl,af,M⟩:=K.o k c s;obtain⟨N,O,rfl,V,p⟩:=L.o k d t;have q:=Z s;have r:=Z t;clear s t;obtain⟨W,X,Y,c3,_⟩:=M.l e (by omega);obtain⟨d0,d1,d2,d3,_⟩:=p.l e (by omega);obtain⟨f,A,v,u⟩:=c;obtain⟨C,g,D,E⟩:=d;simp only[] at W X Y c3 d0 d1 d2 d3;clear M p;go_wp2;have ak:=e.size;have l:=ax.ne wr;have al:∀x:ax wr,x.1.cell? ⟨b,o+k*4,none⟩=some (U f):=λx=>x.cell W (by omega)
    have ao:∀x:ax wr,x.1.cell? ⟨b,o+k*4+1,none⟩=some (U A):=λx=>x.cell X (by omega)
    have av:∀x:ax wr,x.1.cell? ⟨b,o+k*4+2,none⟩=some (U v):=λx=>x.cell Y (by omega)
    have b0:∀x:ax wr,x.1.cell? ⟨b,o+k*4+3,none⟩=some (U u):=λx=>x.cell c3 (by omega)
    have b1:∀x:ax wr,x.1.cell? ⟨N,O+k*4+3,none⟩=some (U E):=λx=>x.cell d3 (by omega)
    have b3:∀x:ax wr,x.1.cell? ⟨N,O+k*4,none⟩=some (U C):=λx=>x.cell d0 (by omega)
    have b4:∀x:ax wr,x.1.cell? ⟨N,O+k*4+1,none⟩=some (U g):=λx=>x.cell d1 (by omega)
    have b5:∀x:ax wr,x.1.cell? ⟨N,O+k*4+2,none⟩=some (U D):=λx=>x.cell d2 (by omega)
    by_cases j:((f,A,v,u):cO)=(C,g,D,E)
    ·have y:=Z j;have F:=Z (by simp[j]:(!decide (((f,A,v,u):cO)=(C,g,D,E)))=false);clear j;refine aW (by kernel_rfl) (by kernel_rfl) ?_;repeat(go_big_quiet_step (fail))
     refine pE _ _ _ rfl rfl f A v u C g D E rfl rfl _ F.o ?_;refine Km ?_;rintro wx ⟨⟨_,P⟩,rfl⟩;have z:=e.th P;go_wp2;refine⟨⟨k+1,by omega,by go_num,λi hi=>?_,z⟩,by simp[intOf];omega⟩
     by_cases Q:i=k
     ·subst Q;rw[q.o,r.o,y.o]
     exact H.o i (by omega)
    have y:=Z j;have F:=Z (by rw[KD j];rfl:(!decide (((f,A,v,u):cO)=(C,g,D,E)))=true);clear j;refine aW (by kernel_rfl) (by kernel_rfl) ?_;repeat(go_big_quiet_step (fail))
    refine pE _ _ _ rfl rfl f A v u C g D E rfl rfl _ F.o ?_;refine Km ?_;rintro wx ⟨⟨_,P⟩,rfl⟩;have z:=e.th P;go_wp2;go_ret;refine⟨?_,z⟩;have:cs≠ds:=by intro h;have h1:=q.o;rw[h,r.o] at h1;exact y.o (KG h1).symm
    simp[this]
   go_wp2;go_ret;refine⟨?_,e⟩
   have:cs=ds:=by
    refine LD λi=>?_
    by_cases hi:i<k
    ·exact H.o i hi
    rw[KP (by omega),KP (by omega)]
   simp[this]
 have b7:((cs.length:Int) != (ds.length:Int))=true:=by simp;omega
 have hf:=Z (by simp;intro h;rw[h] at l;exact l rfl:decide (cs=ds)=false);generalize cs.length=n at*;generalize ds.length=m at*;go_enter func84,ntmps84;go_wp2;go_ret;exact⟨by rw[hf.o];rfl,Kf _ _⟩
def oB(B L:Nat)(w:World)(v:Value)(p:aD):Prop:=aj p=0/\∃a,w.ownsRow L 133 2 v (p.1.length+1) a/\lB B w a (p.1++[([],p.2)])
theorem oB.keep{B L B' w w' v p}(h:oB B L w v p)(a:Below B' w w')(b:B<=B')(c:dB 133 w w'):oB B L w' v p:=by obtain⟨d,e,f,g⟩:=h;exact⟨d,e,eQ f c,g.l a b⟩
theorem oB.rules{B L w v p}(h:oB B L w v p)(a:B<=w.1.size):bD w.1.size w v (p.1++[([],p.2)]):=by obtain⟨d,e,b,c⟩:=h;exact rG (by simpa using b) c a
theorem oB.ten{B L w v p}(h:oB B L w v p):p.1.length<=120/\∀r∈p.1++[(([]:List aN),p.2)],r.1.length<=10:=by
 obtain⟨b,-,c⟩:=cY h.1;refine⟨b,λr a=>?_⟩
 rcases KB.1 a with a|a
 ·exact(dy (cM c r a)).1
 simp at a;subst a;exact Ks _
theorem oB.shape{B L w v p}(h:oB B L w v p):∃a b,v=.slice a (p.1.length+1) b:=by obtain⟨d,f,c,g⟩:=h;have⟨a,b,e,_⟩:=an c;exact⟨a,b,e⟩
def oe(B L c:Nat)(p q:aD)(k:Nat)(w:World):Prop:=
 ∃a b,w.1[c]?=some (.cells #[a,b] 305 (0,0))/\(k=0->a=nL)/\(k<=1->b=nL)/\(1<=k->oB B L w a p)/\(2<=k->oB B L w b q)
theorem oe.l{B L sb k p q w w'}(h:oe B L sb p q k w)(a:bL w w')(b:B<=w.1.size):oe B L sb p q k w':=by obtain⟨d,e,c,f,g,i,j⟩:=h;exact⟨d,e,(a.block sb (io c)).trans c,f,g,λh=>(i h).keep a b (dB.of_below a),λh=>(j h).keep a b (dB.of_below a)⟩
theorem oe.first{B L sb p q w v}(h:oe B L sb p q 0 w)(c:oB B L w v p)(a:B<=sb):oe B L sb p q 1 (w.setCell (pA sb 0) v):=by obtain⟨i,d,b,j,e,k,l⟩:=h;have f:dB 133 w (w.setCell (pA sb 0) v):=dB.setOther b (by decide);have g:Below B w (w.setCell (pA sb 0) v):=bR.setCell (p:=pA sb 0) a _;exact⟨v,d,by rw[ap b];rfl,λh=>by omega,λ_=>e (by omega),λ_=>c.keep g lE f,λh=>by omega⟩
theorem oe.second{B L sb p q w v}(h:oe B L sb p q 1 w)(e:oB B L w v q)(a:B<=sb):oe B L sb p q 2 (w.setCell (pA sb 1) v):=by obtain⟨f,i,b,j,k,g,l⟩:=h;have c:dB 133 w (w.setCell (pA sb 1) v):=dB.setOther b (by decide);have d:Below B w (w.setCell (pA sb 1) v):=bR.setCell (p:=pA sb 1) a _;exact⟨f,v,by rw[ap b];rfl,λh=>by omega,λh=>by omega,λ_=>(g (by omega)).keep d lE c,λ_=>e.keep d lE c⟩
structure Js (W:World) (fs:Nat->Value->Prop) (w:World):Prop where
 l:bL W w
 box:∀u,fs 9 u->∃g,u=.pointer (sO g)/\W.1.size<=g/\w.1[g]?=some (.cells #[nL,U 0] 30 (0,0))
def JO(k:Nat)(v:Value):Prop:=if k=9 then ∃g:Nat,v=.pointer (sO g) else True
theorem FW(k):∃v,JO k v:=by
 unfold JO
 split
 ·exact⟨_,0,rfl⟩
 exact⟨undef,trivial⟩
theorem Js.made{W w}{b:Nat->Value->Prop}(h:Js W b w):Js W (d9 b 9 (.pointer (sO w.1.size))) (w.alloc (.cells #[nL,U 0] 30)):=by
 have c:=(Kf w.1.size w).alloc lE (.cells #[nL,U 0] 30);refine⟨h.l.th c,λu a=>?_⟩
 rcases a with a|⟨_,rfl⟩
 ·have⟨g,e,f,d⟩:=h.box u a;exact⟨g,e,f,(c.block g (io d)).trans d⟩
 exact⟨_,rfl,h.l.size,ah _ _⟩
theorem Cc(c:Bool)(F:Nat)(hF:∀a b w,cL F #[.agg #[U a,U b]] w (rT w (U (mG c a b))))
  (hC:∀bm i,(callFunc F bm).run prog i=.ok (.enter F bm) i) (B:Nat) (rv sv:Value) (C ss:List aq) (d f:Int) (w:World) (hr:bD B w rv C) (hs:bD B w sv ss) (hd:wf d) (hf:wf f) (hB:B<=w.1.size):
  cL 235 #[.agg #[rv,U d,sv,U f],.func (.func F) #[] #[]] w λe i=>∃v,e=.returned (.tuple #[v,U (eJ c (C,d) (ss,f))])/\bE w.1.size i v (eI c (C,d) (ss,f))/\bL w i:=by
 have cp:Hid (∀B v0 v1 C ss w,bD B w v0 C->bD B w v1 ss->B<=w.1.size->C.length<=121->ss.length<=121->(∀r∈C,r.1.length<=10)->(∀r∈ss,r.1.length<=10)->_):=λB v0 v1 C ss w K h2 h3 h4 h5 h6 h7=>BJ c F hF hC B v0 v1 C ss w K h2 h3 h4 h5 h6 h7
 clear hF hC;have b7:Hid (∀i,bL w i->cL 144 #[.agg #[rv,U d]] i (rT i (U (aj (C,d))))):=λi h=>gZ B _ (C,d) i ⟨_,rfl,hd,hr.l h hB⟩ (h.u hB)
 have b8:Hid (∀i,bL w i->cL 144 #[.agg #[sv,U f]] i (rT i (U (aj (ss,f))))):=λi h=>gZ B _ (ss,f) i ⟨_,rfl,hf,hs.l h hB⟩ (h.u hB)
 have b9:Hid (aj (C,d)=0->∀i,bL w i->cL 255 #[.agg #[rv,U d]] i λe N=>∃v,e=.returned v/\oB B i.1.size N v (C,d)/\bL i N):=λh0 i h=>(ow B rv C d i (hr.l h hB) hd (h.u hB) (cY h0).1).mono λe N ⟨v,e1,xs,e2,e3,e4⟩=>⟨v,e1,⟨h0,xs,by simpa using e2,e3⟩,e4⟩
 have ba:Hid (aj (ss,f)=0->∀i,bL w i->cL 255 #[.agg #[sv,U f]] i λe N=>∃v,e=.returned v/\oB B i.1.size N v (ss,f)/\bL i N):=λh0 i h=>(ow B sv ss f i (hs.l h hB) hf (h.u hB) (cY h0).1).mono λe N ⟨v,e1,xs,e2,e3,e4⟩=>⟨v,e1,⟨h0,xs,by simpa using e2,e3⟩,e4⟩
 have eN:Hid (wf (mG c d f)):=Ai hd hf;obtain⟨a0,c0,e0,-,-,-⟩:=hr;obtain⟨a1,c1,e1,-,-,-⟩:=hs;subst e0 e1;clear hd hf;have eO:=ai;obtain⟨p,hp⟩:∃p:aD,p=(C,d):=⟨_,rfl⟩;obtain⟨q,hq⟩:∃q:aD,q=(ss,f):=⟨_,rfl⟩;have f3:Hid (p.1=C/\p.2=d/\q.1=ss/\q.2=f):=by rw[hp,hq];exact⟨rfl,rfl,rfl,rfl⟩
 rw[<-hp] at b7 b9 |-
 rw[<-hq] at b8 ba |-
 clear hp hq;have⟨n0,bq⟩:=nM (C.length);have⟨n1,br⟩:=nM (ss.length);have hg:=Z bq.symm;have hi:=Z br.symm
 rw[<-bq] at b7 b9 |-
 rw[<-br] at b8 ba |-
 clear bq br;have⟨O,a2⟩:=nM (((w.alloc (.cells #[.slice a0 n0 c0,U d,.slice a1 n1 c1,U f] 290)).alloc (.cells #[nL,U 0] 30)).alloc (.cells #[nL,nL] 305));have hj:O.1.size=w.1.size+1+1+1:=by rw[a2];simp
 have d0:bL w O:=by rw[a2];exact((bR.alloc lE _).alloc (by simp) _).alloc (by simp;omega) _
 have g1:Na O (w.1.size+1) #[nL,U 0] 30:=by rw[a2];exact aS _ (be _ _ (by simp only[Kg]))
 have g2:Na O (w.1.size+1+1) #[nL,nL] 305:=by rw[a2];exact be _ _ (by simp only[Kg])
 have d1:Hid (oe B (w.1.size+1+1+1) (w.1.size+1+1) p q 0 O):=⟨_,_,g2,λ_=>rfl,λ_=>rfl,λh=>by omega,λh=>by omega⟩
 have P:Hid (∀v,Below (w.1.size+1+1) O v->Na v (w.1.size+1) #[nL,U 0] 30/\bL w v):=λv h=>⟨h.bk g1,d0.trans (h.mono (by omega))⟩
 have HW:=Z a2;clear a2 g1 g2 d0;go_enter func235,ntmps235;go_wp2_with fail;rw[<-HW.o];go_loopw [15] (λiv wr=>∃k:Nat,k<=2/\iv=U k/\Hid (oe B (w.1.size+1+1+1) (w.1.size+1+1) p q k wr)/\Hid (Below (w.1.size+1+1) O wr)) (λiv _=>2-(intOf iv).toNat)
 case atStart=>exact⟨0,by omega,rfl,d1,Kf _ _⟩
 case round=>
  obtain⟨k,hk,rfl,HS,Q⟩:=hrel;have⟨D,f5⟩:=nM (wr);subst f5;have hn:w.1.size+1+1+1<=D.1.size:=by have:=Q.o.size;omega
  have f9:k=0\/k=1\/k=2:=by omega
  rcases f9 with rfl|rfl|rfl
  ·have⟨Wp,s⟩:=nM (D.alloc (.cells #[.slice a0 n0 c0,U d] 30));have R:=bA s;have fa:=sA s;have gp:=hA s;have ac:Hid (oe B (w.1.size+1+1+1) (w.1.size+1+1) p q 0 Wp):=HS.o.l R (by omega);have S:Hid (Below (w.1.size+1+1) O Wp):=Below.tO Q.o R (by omega);have bv:=Z s;have bx:∀i,(Instr.index 290 (.agg #[.slice a0 n0 c0,U d,.slice a1 n1 c1,U f]) (U 0)).run prog i=.ok (.agg #[.slice a0 n0 c0,U d]) i:=λi=>by kernel_rfl
   clear s R HS Q;go_wp2_with fail;rw[<-bv.o];clear bx;go_at_call 144;refine(b7.o Wp (P.o _ S.o).2).mono ?_;rintro e w4 ⟨rfl,t⟩;have fb:=t.size;have g4:Na w4 D.1.size #[.slice a0 n0 c0,U d] 30:=t.bk gp;have E:Hid (oe B (w.1.size+1+1+1) (w.1.size+1+1) p q 0 w4):=ac.o.l t (by omega);have x:Hid (Below (w.1.size+1+1) O w4):=Below.tO S.o t (by omega);clear gp ac S t
   by_cases n:aj p=0
   ·rw[n];have J:=Z n;clear n;have k0:=J0 g4;have k1:=J1 g4;clear g4;go_wp2_with fail;go_at_call 255;refine(b9.o J.o w4 (P.o _ x.o).2).mono ?_;rintro e w5 ⟨v,rfl,T,A⟩;have fc:=A.size;obtain⟨va,vc,ev⟩:=T.shape;subst ev;have ad:Hid (oe B (w.1.size+1+1+1) (w.1.size+1+1) p q 0 w5):=E.o.l A (by omega);have c2:Hid (Below (w.1.size+1+1) O w5):=Below.tO x.o A (by omega);have c3:Hid (oB B (w.1.size+1+1+1) w5 (.slice va (p.1.length+1) vc) p):=by obtain⟨i0,xs,i1,i2⟩:=T;exact⟨i0,xs,cU i1 (by omega),i2⟩
    obtain⟨s0,s1,j,-,-,-,-⟩:=ad.o;have y0:w5.cell? (pA (w.1.size+1+1) 0)=some s0:=J0 j;have yf:=fZ j 0;have ae:Hid (oe B (w.1.size+1+1+1) (w.1.size+1+1) p q 1 (w5.setCell (pA (w.1.size+1+1) 0) (.slice va (p.1.length+1) vc))/\Below (w.1.size+1+1) O (w5.setCell (pA (w.1.size+1+1) 0) (.slice va (p.1.length+1) vc))):=⟨ad.o.first c3.o (by omega),c2.o.setCell (p:=pA (w.1.size+1+1) 0) lE _⟩;clear j T A k0 k1 E x;generalize p.1.length+1=vn at*;go_wp2_with fail;exact⟨⟨1,by omega,rfl,ae.o.1,ae.o.2⟩,by simp[intOf]⟩
   have J:Hid (eJ c p q=aj p/\eI c p q=([],0)):=by
    have h0:bM [p,q]=aj p:=by unfold bM;rw[iO n]
    have K:eJ c p q=aj p:=by unfold eJ;rw[iO (by rw[h0];exact n),h0]
    exact⟨K,by unfold eI;rw[iO (by rw[K];exact n)]⟩
   have af:(aj p != 0)=true:=by simpa using n
   have⟨pe,G⟩:=nM (aj p)
   rw[<-G] at af J |-
   clear n G;obtain⟨l,H⟩:=P.o _ x.o;have r0:=J0 l;have r1:=J1 l;have f0:=fZ l 0;have f1:=fZ l 1;have a4:=Z H;clear l H g4 E x;go_wp2_with fail;refine Ka (v:=.tuple #[.agg #[nL,U 0],U pe]) ?_ rfl ⟨_,by rw[J.o.1],by rw[J.o.2];exact kA _ _,?_⟩
   ·rw[K8 rfl];go_simp
   repeat(first|exact a4.o|refine Ky ?_ (by simp) _)
  ·have⟨Wp,s⟩:=nM (D.alloc (.cells #[.slice a1 n1 c1,U f] 30));have R:=bA s;have fa:=sA s;have gp:=hA s;have ac:Hid (oe B (w.1.size+1+1+1) (w.1.size+1+1) p q 1 Wp):=HS.o.l R (by omega);have S:Hid (Below (w.1.size+1+1) O Wp):=Below.tO Q.o R (by omega);have bv:=Z s;have bx:∀i,(Instr.index 290 (.agg #[.slice a0 n0 c0,U d,.slice a1 n1 c1,U f]) (U 1)).run prog i=.ok (.agg #[.slice a1 n1 c1,U f]) i:=λi=>by kernel_rfl
   clear s R HS Q;go_wp2_with fail;rw[<-bv.o];clear bx;go_at_call 144;refine(b8.o Wp (P.o _ S.o).2).mono ?_;rintro e w4 ⟨rfl,t⟩;have fb:=t.size;have g4:Na w4 D.1.size #[.slice a1 n1 c1,U f] 30:=t.bk gp;have E:Hid (oe B (w.1.size+1+1+1) (w.1.size+1+1) p q 1 w4):=ac.o.l t (by omega);have x:Hid (Below (w.1.size+1+1) O w4):=Below.tO S.o t (by omega);clear gp ac S t
   by_cases n:aj q=0
   ·rw[n];have J:=Z n;clear n;have k0:=J0 g4;have k1:=J1 g4;clear g4;go_wp2_with fail;go_at_call 255;refine(ba.o J.o w4 (P.o _ x.o).2).mono ?_;rintro e w5 ⟨v,rfl,T,A⟩;have fc:=A.size;obtain⟨va,vc,ev⟩:=T.shape;subst ev;have ad:Hid (oe B (w.1.size+1+1+1) (w.1.size+1+1) p q 1 w5):=E.o.l A (by omega);have c2:Hid (Below (w.1.size+1+1) O w5):=Below.tO x.o A (by omega);have c3:Hid (oB B (w.1.size+1+1+1) w5 (.slice va (q.1.length+1) vc) q):=by obtain⟨i0,xs,i1,i2⟩:=T;exact⟨i0,xs,cU i1 (by omega),i2⟩
    obtain⟨s0,s1,j,-,-,-,-⟩:=ad.o;have y0:w5.cell? (pA (w.1.size+1+1) 1)=some s1:=J1 j;have yf:=fZ j 1;have ae:Hid (oe B (w.1.size+1+1+1) (w.1.size+1+1) p q 2 (w5.setCell (pA (w.1.size+1+1) 1) (.slice va (q.1.length+1) vc))/\Below (w.1.size+1+1) O (w5.setCell (pA (w.1.size+1+1) 1) (.slice va (q.1.length+1) vc))):=⟨ad.o.second c3.o (by omega),c2.o.setCell (p:=pA (w.1.size+1+1) 1) lE _⟩;clear j T A k0 k1 E x;generalize q.1.length+1=vn at*;go_wp2_with fail;exact⟨⟨2,by omega,rfl,ae.o.1,ae.o.2⟩,by simp[intOf]⟩
   have J:Hid (eJ c p q=aj q/\eI c p q=([],0)):=by
    have h0:bM [p,q]=aj q:=by unfold bM;rw[Io ((show oB B _ _ _ p from (E.o.choose_spec.choose_spec.2.2.2.1 (by omega))).1)];unfold bM;rw[iO n]
    have K:eJ c p q=aj q:=by unfold eJ;rw[iO (by rw[h0];exact n),h0]
    exact⟨K,by unfold eI;rw[iO (by rw[K];exact n)]⟩
   have af:(aj q != 0)=true:=by simpa using n
   have⟨pe,G⟩:=nM (aj q)
   rw[<-G] at af J |-
   clear n G;obtain⟨l,H⟩:=P.o _ x.o;have r0:=J0 l;have r1:=J1 l;have f0:=fZ l 0;have f1:=fZ l 1;have a4:=Z H;clear l H g4 E x;go_wp2_with fail;refine Ka (v:=.tuple #[.agg #[nL,U 0],U pe]) ?_ rfl ⟨_,by rw[J.o.1],by rw[J.o.2];exact kA _ _,?_⟩
   ·rw[K8 rfl];go_simp
   repeat(first|exact a4.o|refine Ky ?_ (by simp) _)
  obtain⟨s0,s1,j,-,-,V,W⟩:=HS.o;have V:=V (by omega);have W:=W (by omega);obtain⟨fp,da⟩:=V.ten;obtain⟨fq,dc⟩:=W.ten;have fr:Hid (bM [p,q]=0):=by unfold Hid bM;rw[Io V.1];unfold bM;rw[Io W.1];rfl
  have J:Hid (eJ c p q=aj (gI c p q)):=by unfold Hid;rw[eJ,Io fr.o]
  have⟨M,hM⟩:=nM ((gh c p q).length+1);have⟨N0,c4⟩:=nM (p.1.length+1);have⟨N1,c5⟩:=nM (q.1.length+1);have c6:M=N0*N1:=by rw[hM,c4,c5];exact CP c p q
  have df:(N0:Int)*(N1:Int)=(M:Int):=by rw[c6];simp
  have di:M<=14641:=by rw[c6];exact Kl (MW (by omega:N0<=121) (by omega:N1<=121)) (by decide)
  have dk:Hid (M<=121->cL 256 #[.agg #[s0,s1],.func (.func F) #[] #[]] D λe i=>∃v,e=.returned v/\∃xs,i.ownsRow D.1.size 133 2 v (gh c p q++[([],mG c p.2 q.2)]).length xs/\uN D.1.size i xs (gh c p q++[([],mG c p.2 q.2)])/\bL D i):=λ_=>by have h:=cp.o D.1.size s0 s1 _ _ D (V.rules (by omega)) (W.rules (by omega)) lE (by simp;omega) (by simp;omega) da dc;rw[vE] at h;exact h
  obtain⟨hv,hw,dl⟩:=V.shape;obtain⟨hy,hz,dn⟩:=W.shape;rw[<-c4] at dl;rw[<-c5] at dn;subst dl dn;have y0:=J0 j;have y1:=J1 j;have HM:=Z hM;have dp:(N0:Int)<=121:=by omega
  have dq:(N1:Int)<=121:=by omega
  obtain⟨l,dr⟩:=P.o _ Q.o;have a4:=Z dr;have ds:Hid (∀v,bL D v->Na v (w.1.size+1) #[nL,U 0] 30):=λv h=>h.bk l
  have fT:wrap64 ((N0:Int)*(N1:Int))=(M:Int):=by rw[df];unfold wrap64;omega
  clear hM c4 c5 c6 df V W fp fq da dc dr HS Q cp b9 ba b7 b8 d1
  by_cases dv:121<M
  ·have ak:(121:Int)<(M:Int):=by omega
   have e5:Hid (eJ c p q=2/\eI c p q=([],0)):=by
    have K:eJ c p q=2:=by rw[J.o];unfold aj;rw[Io];show 120<(gh c p q).length;have:=HM.o;omega
    exact⟨K,by unfold eI;rw[iO (by rw[K];decide)]⟩
   have r0:=J0 l;have r1:=J1 l;have f0:=fZ l 0;have f1:=fZ l 1;clear l j;go_wp2_with fail;refine Ka (v:=.tuple #[.agg #[nL,U 0],U 2]) ?_ rfl ⟨_,by rw[e5.o.1],by rw[e5.o.2];exact kA _ _,?_⟩
   ·rw[K8 rfl];go_simp
   repeat(first|exact a4.o|refine Ky ?_ (by simp) _)
  have ak:¬((121:Int)<(M:Int)):=by omega
  clear l j;go_wp2_with fail;go_at_call 256;refine(dk.o (by omega)).mono ?_;rintro e w7 ⟨v,rfl,xs,ho,hx,bd⟩;have⟨m,hm⟩:=nM ((gh c p q).length);have g5:M=m+1:=by rw[HM.o,hm]
  have bp:(gh c p q++[(([]:List aN),mG c p.2 q.2)]).length=M:=by rw[HM.o];simp
  have c8:w7.ownsRow D.1.size 133 2 v M xs:=by rw[<-bp];exact ho
  have⟨a7,c7,e7,gD,e6,e8⟩:=an c8;subst e7;obtain⟨g,eg,g6,g7⟩:=e8 (by omega);subst eg;have⟨X,bf⟩:=nM (mG c p.2 q.2);have g8:wf X:=by have:=eN.o;obtain⟨-,e2,-,e4⟩:=f3.o;rw[bf,e2,e4];exact this
  have z1:w7.cell? ⟨g,m*2+1,none⟩=some (U X):=by obtain⟨cv,-,k1,-⟩:=hx.2.2 m ([],mG c p.2 q.2) (by rw[hm];simp);rw[bf];exact aK c8 _ _ k1
  have gb:Hid (bE D.1.size w7 (.agg #[.slice (sO g) m c7,U X]) (gI c p q)):=by
   have h:=wL (d:=X) (m:=m) ho hx (by rw[hm];simp) g8;rw[hm,List.take_left',<-hm] at h
   ·rw[bf] at h |-
    exact h
   rfl
  have gc:=bd.size
  have ea:Hid (∀v,bL w7 v->Na v (w.1.size+1) #[nL,U 0] 30/\bL w v):=λv h=>⟨ds.o v (bd.th h),Below.tO a4.o (bd.th h) (by omega)⟩
  have eb:wrap64 ((M:Int)-1)=(m:Int):=by unfold wrap64;omega
  have ge:(M:Int)-1=(m:Int):=by omega
  have hG:(m:Int)<(M:Int):=by omega
  have hH:(0:Int)<=(m:Int):=by omega
  have hI:m<M:=by omega
  rw[eO] at e6;have ec:Hid (w.1.size+1<D.1.size/\D.1.size<=w7.1.size):=⟨by omega,gc⟩;clear ho hx c8 bp hm g5 bf bd dk y0 y1 HM ds g6 fT dp dq di;clear e8;go_wp2_with fail;clear ge eb ak dv;have bg:=ax.ne w7;have q7:∀y:ax w7,y.1.cell? ⟨g,m*2+1,none⟩=some (U X):=λy=>y.cell z1 g7
  have a5:Hid (∀fs i,Js w7 fs i->∃z:ax w7,i=z.1):=λfs i h=>⟨⟨i,h.l⟩,rfl⟩
  clear z1;refine bJ [_,_,_,_,_,_,_,_,_,_] _ rfl (λk=>k==9) (Js w7) JO FW (by kernel_rfl) (by kernel_rfl) ⟨bR.drew,λ_ h=>h.elim⟩ ?_;iterate 2(refine aP a5.o rfl rfl ?_;go_big_quiet_step (fail);refine Km ?_)
  refine fD (.slice (sO g) m c7) rfl rfl (λi=>?_) ?_
  ·clear q7 a5 bg;go_simp;intro hh;exfalso;omega
  go_frame;iterate 5(refine aP a5.o rfl rfl ?_;go_big_quiet_step (fail);refine Km ?_)
  refine fD (.agg #[.slice (sO g) m c7,U X]) rfl rfl (λi=>?_) ?_
  ·clear q7 a5 bg;go_simp
  go_frame;refine cz rfl rfl (λgs i hJ ed gj=>⟨.pointer (MZ i),i.alloc (.cells #[nL,U 0] 30),?_,⟨_,rfl⟩,hJ.made⟩) (λv9 gk=>?_)
  ·clear hJ ed gj q7 a5 bg;go_simp
  go_frame;obtain⟨g9,rfl⟩:∃g:Nat,v9=.pointer (sO g):=gk;refine ei ?_;intro w9 hJ;obtain⟨hN,e9,go,a6⟩:=hJ.box _ (.inr ⟨rfl,rfl⟩);simp at e9;subst e9;have ee:=hJ.l;have y0:=J0 a6;have y1:=J1 a6;have f0:=fZ a6 0;have f1:=fZ a6 1;have⟨ao,Y⟩:=nM ((w9.setCell (pA g9 0) (.slice (sO g) m c7)).setCell (pA g9 1) (U X));have av:bL w7 ao:=by rw[Y];exact ee.s2 go
  have b0:Na ao g9 #[.slice (sO g) m c7,U X] 30:=by have K:=ap (o:=0) (u:=.slice (sO g) m c7) a6;have h2:=ap (o:=1) (u:=U X) K;rw[Y];exact h2
  have ef:=Z Y;have b2:Hid (bE D.1.size ao (.agg #[.slice (sO g) m c7,U X]) (gI c p q)):=gb.o.l lE av;have gq:Hid (cL 144 #[.agg #[.slice (sO g) m c7,U X]] ao (rT ao (U (aj (gI c p q))))):=gZ _ _ _ _ b2.o.at lE;clear Y a6 hJ ee q7 a5 bg;go_wp2_with fail;rw[<-ef.o];go_at_call 144;refine gq.o.mono ?_;rintro e bk ⟨rfl,I⟩;have b3:bL w7 bk:=av.th I;have⟨l,b4⟩:=ea.o bk b3;have b5:=(I.block g9 (io b0)).trans b0;have b6:=Z b4;have gW:Hid (bE w.1.size bk (.agg #[.slice (sO g) m c7,U X]) (gI c p q)):=b2.o.l (by have:=ec.o;omega) I;have c9:Hid (bE (w.1.size+1+1) bk (.agg #[.slice (sO g) m c7,U X]) (gI c p q)):=b2.o.l (by have:=ec.o;omega) I;have r0:=J0 l;have r1:=J1 l;have t0:=fZ l 0;have t1:=fZ l 1;have k0:=J0 b5;have k1:=J1 b5;clear b3 b4 I av b0 b5 l y0 y1 f0 f1
  by_cases n:aj (gI c p q)=0
  ·have HR:Hid (eJ c p q=0/\eI c p q=gI c p q):=by
    have K:eJ c p q=0:=by rw[J.o,n]
    exact⟨K,by unfold eI;rw[Io K]⟩
   rw[n];clear n;go_wp2_with fail;refine Ka (v:=.tuple #[.agg #[.slice (sO g) m c7,U X],U 0]) ?_ rfl ⟨_,by rw[HR.o.1],?_,?_⟩
   ·rw[K8 rfl];go_simp
   ·rw[HR.o.2];refine bE.keep (L:=w.1.size+1+1) ?_ (by omega) (λg _ _=>rfl) lE;repeat(first|exact c9.o|refine bE.put ?_ (.inl (by simp)))
   repeat(first|exact b6.o|refine Ky ?_ (by simp) _)
  have HR:Hid (eJ c p q=aj (gI c p q)/\eI c p q=([],0)):=⟨J.o,by unfold eI;rw[iO (by rw[J.o];exact n)]⟩;have af:(aj (gI c p q) != 0)=true:=by simpa using n
  have⟨pe,G⟩:=nM (aj (gI c p q))
  rw[<-G] at af HR |-
  clear n G;go_wp2_with fail;refine Ka (v:=.tuple #[.agg #[nL,U 0],U pe]) ?_ rfl ⟨_,by rw[HR.o.1],by rw[HR.o.2];exact kA _ _,?_⟩
  ·rw[K8 rfl];go_simp
  repeat(first|exact b6.o|refine Ky ?_ (by simp) _)
