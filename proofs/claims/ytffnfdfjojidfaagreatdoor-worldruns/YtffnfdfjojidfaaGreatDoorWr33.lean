import Derived.Test.YtffnfdfjojidfaaGreatDoorWr32
set_option linter.all false
set_option maxRecDepth 100000
set_option maxHeartbeats 16000000
namespace Go.Proofs.YtffnfdfjojidfaaGreatDoor
open Go.RowKit Go.Maps Go.Proofs.Tryz
def Cr(B:Nat)(w:World)(xs:List Value)(a:List az):Prop:=
 xs.length=a.length*5/\(∀u∈xs,u.oneCell'=true)/\∀i r,a[i]?=some r->∃b,xs[i*5]?=some (U r.1)/\xs[i*5+1]?=some (U r.2.1)/\xs[i*5+2]?=some (U r.2.2.1)/\xs[i*5+3]?=some b/\xs[i*5+4]?=some (U r.2.2.2.2)/\cI B w (.agg #[U r.1,U r.2.1,U r.2.2.1,b,U r.2.2.2.2]) r
theorem Cr.l{B B' w w' xs rs}(h:Cr B w xs rs)(a:Below B' w w')(b:B<=B'):Cr B w' xs rs:=by obtain⟨c,d,e⟩:=h;refine⟨c,d,λi r f=>?_⟩;have⟨g,j,k,l,m,n,o⟩:=e i r f;exact⟨g,j,k,l,m,n,o.l a b⟩
theorem Cr.append{B w xs ys rs ss}(h:Cr B w xs rs)(k:Cr B w ys ss):Cr B w (xs++ys) (rs++ss):=by
 obtain⟨l,m,n⟩:=h;obtain⟨o,p,q⟩:=k;refine⟨by simp[l,o];omega,λu s=>?_,λi r a=>?_⟩
 ·rcases KB.1 s with h|h
  ·exact m u h
  exact p u h
 by_cases t:i<rs.length
 ·rw[Kh t] at a;have⟨b,c,d,e,f,g,j⟩:=n i r a;exact⟨b,by rw[Kh (by omega)];exact c,by rw[Kh (by omega)];exact d,by rw[Kh (by omega)];exact e,by rw[Kh (by omega)];exact f,by rw[Kh (by omega)];exact g,j⟩
 rw[Kk (by omega)] at a;obtain⟨b,c,d,e,f,g,j⟩:=q _ r a;refine⟨b,?_,?_,?_,?_,?_,j⟩
 ·rw[Kk (by omega),show i*5-xs.length=(i-rs.length)*5 by omega];exact c
 ·rw[Kk (by omega),show i*5+1-xs.length=(i-rs.length)*5+1 by omega];exact d
 ·rw[Kk (by omega),show i*5+2-xs.length=(i-rs.length)*5+2 by omega];exact e
 ·rw[Kk (by omega),show i*5+3-xs.length=(i-rs.length)*5+3 by omega];exact f
 rw[Kk (by omega),show i*5+4-xs.length=(i-rs.length)*5+4 by omega];exact g
theorem IV{B w}{g:List az}{b o:Nat}(h:∀i r,g[i]?=some r->vf B w b (o+i*5) r):∃d,Cr B w d g/\∀j u,d[j]?=some u->w.cell? ⟨b,o+j,none⟩=some u:=by
 have l:∀j,j<g.length*5->∃v,w.cell? ⟨b,o+j,none⟩=some v/\v.oneCell'=true:=by
  intro j m;obtain⟨r,n⟩:∃r,g[j / 5]?=some r:=⟨g[j / 5]'(by omega),by simp⟩;obtain⟨p,q,s,t,x,y,z⟩:=h _ r n;have k:j % 5=0\/j % 5=1\/j % 5=2\/j % 5=3\/j % 5=4:=by omega
  rcases k with k|k|k|k|k
  ·exact⟨_,by rw[show o+j=o+j / 5*5 by omega];exact q,rfl⟩
  ·exact⟨_,by rw[show o+j=o+j / 5*5+1 by omega];exact s,rfl⟩
  ·exact⟨_,by rw[show o+j=o+j / 5*5+2 by omega];exact t,rfl⟩
  ·refine⟨p,by rw[show o+j=o+j / 5*5+3 by omega];exact x,?_⟩;obtain⟨a,c,e,_⟩:=z.shape;simp at e;rw[e];rfl
  exact⟨_,by rw[show o+j=o+j / 5*5+4 by omega];exact y,rfl⟩
 obtain⟨d,L,f⟩:=iU _ _ l;refine⟨d,⟨L,λu M=>?_,λi r n=>?_⟩,λj u m=>(f j u m).1⟩
 ·have⟨j,m⟩:=LJ.1 M;exact(f j u m).2
 have N:i<g.length:=(K9.1 n).1;have⟨p,q,s,t,x,y,z⟩:=h i r n;obtain⟨O,A⟩:∃v,d[i*5]?=some v:=⟨d[i*5]'(by omega),by simp⟩;obtain⟨P,C⟩:∃v,d[i*5+1]?=some v:=⟨d[i*5+1]'(by omega),by simp⟩;obtain⟨Q,D⟩:∃v,d[i*5+2]?=some v:=⟨d[i*5+2]'(by omega),by simp⟩;obtain⟨R,E⟩:∃v,d[i*5+3]?=some v:=⟨d[i*5+3]'(by omega),by simp⟩;obtain⟨S,F⟩:∃v,d[i*5+4]?=some v:=⟨d[i*5+4]'(by omega),by simp⟩;have G:=(f _ _ A).1;have H:=(f _ _ C).1;have I:=(f _ _ D).1;have J:=(f _ _ E).1;have K:=(f _ _ F).1;rw[q] at G;rw[show o+(i*5+1)=o+i*5+1 by omega,s] at H;rw[show o+(i*5+2)=o+i*5+2 by omega,t] at I;rw[show o+(i*5+3)=o+i*5+3 by omega,x] at J;rw[show o+(i*5+4)=o+i*5+4 by omega,y] at K
 cases G
 cases H
 cases I
 cases J
 cases K;exact⟨p,A,C,D,E,F,z⟩
def I9(w:World)(P:Value->az->Prop)(v:Value)(d:List az):Prop:=∀i r b o n a c,d[i]?=some r->v=.slice (some ⟨b,o,none⟩) n a->w.cell? ⟨b,o+i*5+3,none⟩=some c->P (.agg #[U r.1,U r.2.1,U r.2.2.1,c,U r.2.2.2.2]) r
def FU(P:Value->az->Prop)(xs:List Value)(b:List az):Prop:=∀i r,b[i]?=some r->∃a,xs[i*5+3]?=some a/\P (.agg #[U r.1,U r.2.1,U r.2.2.1,a,U r.2.2.2.2]) r
theorem FU.append{P:Value->az->Prop}{xs ys rs ss}(h:FU P xs rs)(k:FU P ys ss)(d:xs.length=rs.length*5):FU P (xs++ys) (rs++ss):=by
 intro i r a
 by_cases c:i<rs.length
 ·rw[Kh c] at a;have⟨b,e,p⟩:=h i r a;exact⟨b,by rw[Kh (by omega)];exact e,p⟩
 rw[Kk (by omega)] at a;obtain⟨b,e,p⟩:=k _ r a;exact⟨b,by rw[Kk (by omega),show i*5+3-xs.length=(i-rs.length)*5+3 by omega];exact e,p⟩
theorem Gi{B L:Nat}{w w':World}{v:Value}{xs:List Value}{b:List az}(h:w'.ownsRow L 71 5 v b.length xs)(l:Cr B w' xs b)(m:FU (gi L w) xs b)(n:bL w w'):qt L w' v b:=by
 obtain⟨a,e,rfl,o,p,q⟩:=an h;refine⟨a,e,rfl,o,p,λi r f=>?_⟩;have D:i<b.length:=(K9.1 f).1;obtain⟨g,rfl,j,s⟩:=q (by omega);obtain⟨t,u,x,y,k,z,-⟩:=l.2.2 i r f;have⟨A,d,C⟩:=m i r f;rw[k] at d
 cases d;have c:=aK h;refine⟨g,0,t,rfl,j,?_,?_,?_,?_,?_,nI C n⟩
 ·rw[Kp];exact c _ _ u
 ·rw[Kp];exact c _ _ x
 ·rw[Kp];exact c _ _ y
 ·rw[Kp];exact c _ _ k
 rw[Kp];exact c _ _ z
theorem qt.pr{L w v rs}(h:qt L w v rs):I9 w (gi L w) v rs:=by
 intro i r b o n f q g j k;obtain⟨a,s,e,-,-,l⟩:=h;obtain⟨t,u,m,c,-,-,-,-,d,-,p⟩:=l i r g;rw[j] at e;simp at e;obtain⟨rfl,-,-⟩:=e;simp at c;obtain⟨rfl,rfl⟩:=c;rw[k] at d
 cases d;exact p
theorem Br{B L:Nat}{w:World}{v:Value}{xs:List Value}{b:List az}(h:w.ownsRow L 71 5 v b.length xs)(j:Cr B w xs b)(k:B<=w.1.size):dh w.1.size w v b:=by
 obtain⟨a,e,rfl,l,m,n⟩:=an h;refine⟨a,e,rfl,l,m,λi r d=>?_⟩;have y:i<b.length:=(K9.1 d).1;obtain⟨g,rfl,o,f⟩:=n (by omega);have⟨p,q,s,t,u,x,d⟩:=j.2.2 i r d;have c:=aK h;refine⟨g,0,rfl,f,p,?_,?_,?_,?_,?_,iW d k⟩
 ·rw[Kp];exact c _ _ q
 ·rw[Kp];exact c _ _ s
 ·rw[Kp];exact c _ _ t
 ·rw[Kp];exact c _ _ u
 rw[Kp];exact c _ _ x
def pC(B:Nat)(w:World)(v:Value)(d:List az):Prop:=
 ∃a c,v=.slice a d.length c/\d.length<=c/\c<=maxLen/\∀i r,d[i]?=some r->∃b o,a=some ⟨b,o,none⟩/\vf B w b (o+i*5) r
theorem dh.conds{B w v rs}(h:dh B w v rs):pC B w v rs:=by obtain⟨a,c,d,f,g,j⟩:=h;refine⟨a,c,d,f,g,λi r l=>?_⟩;have⟨b,o,e,_,k⟩:=j i r l;exact⟨b,o,e,k⟩
theorem pC.l{B w w' v rs}(h:pC B w v rs)(c:bL w w')(j:B<=w.1.size):pC B w' v rs:=by obtain⟨a,f,k,l,m,n⟩:=h;refine⟨a,f,k,l,m,λi r q=>?_⟩;have⟨b,o,e,s,g,t,u,x,y,z⟩:=n i r q;have d:=KE _ _ g;exact⟨b,o,e,s,(c.cell (p:=⟨b,o+i*5,none⟩) d).trans g,(c.cell (p:=⟨b,o+i*5+1,none⟩) d).trans t,(c.cell (p:=⟨b,o+i*5+2,none⟩) d).trans u,(c.cell (p:=⟨b,o+i*5+3,none⟩) d).trans x,(c.cell (p:=⟨b,o+i*5+4,none⟩) d).trans y,z.l c j⟩
theorem Fu(n:Nat)(w)(u:n*56<=140737488355328):
  cL 81 #[nL,U n] w λe q=>∃v,e=.returned v/\q.ownsRow w.1.size 71 5 v 0 []/\bL w q:=by
 have j:=ai
 by_cases r:n=0
 ·subst r;go_enter func81,ntmps81;go_wp2;go_ret;exact⟨_,rfl,⟨rfl,.inl ⟨rfl,rfl⟩⟩,Kf _ _⟩
 obtain⟨b,k,c,s,d⟩:=so;have x:¬((n:Int)<0):=by omega
 have y:(n:Int)>0:=by omega
 have⟨G,i⟩:=nM (grownCap w n 0 71);have t:n<=G:=by rw[i];exact grownCap_ge w _ _ _
 have a:G<=maxLen:=by rw[i];exact Mm w n 0 _ (by omega)
 obtain⟨z,l⟩:∃z:Value,z=.agg #[U 0,U 0,U 0,nL,U 0]:=⟨_,rfl⟩;have m:z.cells.size=5:=by rw[l];rfl
 rw[<-l] at c
 have o:∀p,(Builtin.append_ #[58,3] p #[nL,U n]).run prog w=
   .ok (.slice (MZ w) n G) (w.drew.alloc (.cells ((Builtin.zeroCells z.cells n)++Builtin.zeroCells z.cells (G-n)) 71)):=λp=>by
  have h:=Ma w 58 3 p 71 b z .i64 .i64 Tryz.underlying58 Tryz.underlying3 k c none 0 0 [] (Lk w.drew b.size 0 0 0) n (by omega) (by omega) (by omega) (by omega)
   (by rw[d];omega)
   (by rw[Kp];exact MV (by omega) (by rw[d];omega))
  simpa [<-i] using h
 have f:Hid ((w.drew.alloc (.cells ((Builtin.zeroCells z.cells n)++Builtin.zeroCells z.cells (G-n)) 71)).ownsRow w.1.size 71 5 (.slice (MZ w) 0 G) 0 []):=by refine⟨rfl,.inr ⟨w.1.size,G,_,rfl,Ke _,(Kr w.drew _).1,Ks _,a,?_,by simp⟩⟩;rw[MX,M7,M7,m,<-Mi];congr 1;omega
 have g:Hid (bL w (w.drew.alloc (.cells ((Builtin.zeroCells z.cells n)++Builtin.zeroCells z.cells (G-n)) 71))):=bR.drew.alloc lE _;clear i l;rw[j] at a;generalize (Builtin.zeroCells z.cells n)++Builtin.zeroCells z.cells (G-n)=A at*;go_enter func81,ntmps81;go_wp2_with (at_builtin;refine Kw _ rfl _ _ _ _ rfl _ _ rfl rfl _ _ (o _) ?_);go_ret;exact⟨_,rfl,f.o,g.o⟩
theorem ou(B base:Nat)(N:TypeId)(v sv:Value)(n:Nat)(xs:List Value)(rs)(W:World)(d:W.ownsRow base 71 5 v n xs)(T:pC B W sv rs)(V:(n+rs.length)*56<=140737488355328)(m:base<=W.1.size):
  ∃C x w,(Builtin.append_ #[58,58] N #[v,sv]).run prog W=.ok C x/\x.ownsRow base 71 5 C (n+rs.length) (xs++w)/\Cr B W w rs/\Below base W x/\∀P:Value->az->Prop,I9 W P sv rs->FU P w rs:=by
 obtain⟨y,t,E,F,G⟩:=so;obtain⟨a,z,rfl,X,Y,q⟩:=T
 cases a with
 |none=>
  have h0:rs=[]:=by
   cases rs with
   |nil=>rfl
   |cons r l=>have⟨b,o,e,_⟩:=q 0 r rfl;cases e
  subst h0;refine⟨v,W,[],?_,by simpa using d,⟨rfl,λu H=>(by cases H),λi r f=>(by simp at f)⟩,Kf _ _,λP _ i r f=>by simp at f⟩
  have hc:v=nL\/∃g c,v=.slice (some g) n c/\n<=c:=by
   rcases d.2 with ⟨h,_⟩|⟨g,c,I,h,_,_,h',_⟩
   ·exact .inl h
   exact .inr ⟨_,c,h,h'⟩
  have O:=Lk (P:=prog) W y.size 0 0 z
  rcases hc with rfl|⟨g,c,rfl,J⟩
  ·simp[Builtin.append_,KY Tryz.underlying58,sizeOf,typeInfo,t,Builtin.lenOf,O]
  simp[Builtin.append_,KY Tryz.underlying58,sizeOf,typeInfo,t,Builtin.lenOf,O,J,storeCells]
 |some Q=>
  obtain⟨w,s,p⟩:∃xs,Cr B W xs rs/\∀j u,xs[j]?=some u->W.cell? (Q.add j)=some u:=by
   by_cases A:rs=[]
   ·subst A;exact⟨[],⟨rfl,λu H=>(by cases H),λi r f=>(by simp at f)⟩,λj u K=>(by simp at K)⟩
   obtain⟨r,f⟩:∃r,rs[0]?=some r:=by
    cases rs with
    |nil=>exact absurd rfl A
    |cons r l=>exact⟨r,rfl⟩
   have⟨b,o,e,_⟩:=q 0 r f
   cases e
   obtain⟨xs,L,M⟩:=IV (b:=b) (o:=o) λi r f=>by
    have⟨b',o',e,k⟩:=q i r f
    cases e;exact k
   exact⟨xs,L,λj u K=>by rw[eM];exact M j u K⟩
  obtain⟨C,x,L,M,h3,h4⟩:=LB (P:=prog) W base 58 N 71 y _ 5 56 Tryz.underlying58 t E F G rfl (by decide) v n xs d Q rs.length z w s.1 p s.2.1 (by rw[ai];omega) V m;refine⟨C,x,w,L,M,s,bR.grown h3 m λk D=>?_,λP hP i r f=>?_⟩
  case refine_2=>
   obtain⟨R,-,-,-,S,-,-⟩:=s.2.2 i r f;have⟨b,o,e,_⟩:=q i r f
   cases e;have c:=p _ _ S;rw[eM,<-KX] at c;exact⟨R,S,hP i r b o _ _ R f rfl c⟩
  rcases d.2 with ⟨h,_⟩|⟨g,c,I,h,hg,_⟩
  ·rw[h] at D;simp[Value.ownBlock] at D
  rw[h] at D;simp[Value.ownBlock] at D;omega
theorem pC.shapeQ{B w v rs}(h:pC B w v rs):∃a b,v=.slice a rs.length b/\rs.length<=b:=by obtain⟨a,b,rfl,h,_⟩:=h;exact⟨a,b,rfl,h⟩
theorem EF(B v0 v1 r0 r1)(bs:Nat)(w)(D:pC B w v0 r0)(q:pC B w v1 r1)(Y:B<=w.1.size)(K:bs<w.1.size)(L:w.cell? (pA bs 0)=some v0)(M:w.cell? (pA bs 1)=some v1)(hn:(r0.length+r1.length)*56<=140737488355328):
  cL 50 #[.slice (sO bs) 2 2] w λe l=>∃v,e=.returned v/\∃j,l.ownsRow w.1.size 71 5 v (r0++r1).length j/\Cr B l j (r0++r1)/\bL w l/\∀P:Value->az->Prop,I9 w P v0 r0->I9 w P v1 r1->FU P j (r0++r1):=by
 have H0:=Z D;have H1:=Z q;obtain⟨a0,N,e0,al⟩:=D.shapeQ;obtain⟨a1,O,e1,ao⟩:=q.shapeQ;have E0:=Z e0;have E1:=Z e1;rw[e0] at L;rw[e1] at M
 have HC:Hid (∀l,bL w l->l.cell? (pA bs 0)=some (.slice a0 r0.length N)/\l.cell? (pA bs 1)=some (.slice a1 r1.length O)):=λl h=>⟨(h.cell (p:=pA bs 0) K).trans L,(h.cell (p:=pA bs 1) K).trans M⟩
 clear e0 e1 D q
 have b7:∀k:Nat,k<=2->Hid ((([r0,r1].take k).flatten).length<=r0.length+r1.length):=λk hk=>by
  have s:k=0\/k=1\/k=2:=by omega
  rcases s with rfl|rfl|rfl<;>(unfold Hid;simp)
 generalize Q:r0.length=z at*;generalize R:r1.length=E at*;have S:=Z Q;have a4:=Z R;clear Q R;go_enter func50,ntmps50;go_wp2;go_loop [3,11] (λsz i=>∃k:Nat,k<=2/\i=U k/\sz=U (if k=0 then 0 else if k=1 then (z:Int) else ((z:Int)+E))) (λ_ i=>2-(intOf i).toNat)
 case atStart=>exact⟨0,by omega,rfl,rfl⟩
 case round=>
  obtain⟨k,hk,rfl,rfl⟩:=hrel;have s:k=0\/k=1\/k=2:=by omega
  rcases s with rfl|rfl|rfl
  ·go_wp2;exact⟨⟨1,by omega,rfl,by simp⟩,by simp[intOf]⟩
  ·have b0:¬((z:Int)+(E:Int)<0):=by omega
   have b9:wrap64 ((z:Int)+(E:Int))=(z:Int)+E:=by unfold wrap64;omega
   go_wp2;exact⟨⟨2,by omega,rfl,by simp⟩,by simp[intOf]⟩
  have hG:Hid (∀l,cL 81 #[nL,U ((z:Int)+E)] l λe T=>∃v,e=.returned v/\T.ownsRow l.1.size 71 5 v 0 []/\bL l T):=λl=>by have:=Fu (z+E) l hn;rw[show ((z+E:Nat):Int)=(z:Int)+E by omega] at this;exact this
  go_wp2_with fail;go_at_call 81;refine(hG.o _).mono ?_;rintro e w1 ⟨v,rfl,t,a5⟩;have HO:=Z t;clear t;go_wp2_with fail;go_loopw [6,27] (λnv i wr=>∃ (k:Nat) (j:List Value),k<=2/\i=U k/\Hid (wr.ownsRow w.1.size 71 5 nv (([r0,r1].take k).flatten).length j)/\Hid (Cr B wr j ([r0,r1].take k).flatten/\∀P:Value->az->Prop,I9 w P v0 r0->I9 w P v1 r1->FU P j ([r0,r1].take k).flatten)/\bL w wr) (λ_ i _=>2-(intOf i).toNat)
  case atStart=>exact⟨0,[],by omega,rfl,HO,⟨⟨rfl,λu hu=>(by cases hu),λi r A=>(by simp at A)⟩,λP _ _ i r A=>by simp at A⟩,a5⟩
  case round=>
   obtain⟨k,j,hk,rfl,m,d,f⟩:=hrel;obtain⟨c0,c1⟩:=HC.o _ f;have s:k=0\/k=1\/k=2:=by omega
   rcases s with rfl|rfl|rfl
   ·obtain⟨v',V,C,g,a,x,c,y⟩:=ou B w.1.size 58 _ _ 0 j r0 wr m.o (H0.o.l f Y) (by rw[S.o];omega) f.size;rw[E0.o] at g
    have F:Hid (V.ownsRow w.1.size 71 5 v' (([r0,r1].take 1).flatten).length (j++C)):=by
     unfold Hid;have e:(([r0,r1].take 1).flatten).length=0+r0.length:=by simp
     rw[e];exact a
    have G:Hid (Cr B V (j++C) ([r0,r1].take 1).flatten/\∀P:Value->az->Prop,I9 w P v0 r0->I9 w P v1 r1->FU P (j++C) ([r0,r1].take 1).flatten):=by
     have:=(d.o.1.append x).l c Y;refine⟨by simpa using this,λP D q=>?_⟩
     have hq:FU P C r0:=y P λi r b o n H rv A W hc=>D i r b o n H rv A W (by
      obtain⟨_,_,e,h⟩:=H0.o;have⟨b',o',I,k0⟩:=h.2.2 i r A;rw[W] at e;simp at e;rw[<-e.1] at I;simp at I;obtain⟨rfl,rfl⟩:=I;have hl:=KE _ _ k0.choose_spec.1;rw[<-f.cell (p:=⟨b,o+i*5+3,none⟩) hl]
      exact hc)
     have:=(d.o.2 P D q).append hq d.o.1.1
     simpa using this
    have J:=f.trans c;clear a x c m d y;go_wp2_with (at_builtin;refine Kw _ rfl _ _ _ _ rfl _ _ rfl rfl _ _ g ?_);exact⟨⟨1,_,by omega,rfl,F,G,J⟩,by simp[intOf]⟩
   ·obtain⟨v',V,C,g,a,x,c,y⟩:=ou B w.1.size 58 _ _ r0.length j r1 wr (by have:=m.o;simpa using this) (H1.o.l f Y) (by rw[S.o,a4.o];omega) f.size;rw[E1.o] at g
    have F:Hid (V.ownsRow w.1.size 71 5 v' (([r0,r1].take 2).flatten).length (j++C)):=by
     unfold Hid;have e:(([r0,r1].take 2).flatten).length=r0.length+r1.length:=by simp
     rw[e];exact a
    have G:Hid (Cr B V (j++C) ([r0,r1].take 2).flatten/\∀P:Value->az->Prop,I9 w P v0 r0->I9 w P v1 r1->FU P (j++C) ([r0,r1].take 2).flatten):=by
     have:=(d.o.1.append x).l c Y;refine⟨by simpa using this,λP D q=>?_⟩
     have hq:FU P C r1:=y P λi r b o n H rv A W hc=>q i r b o n H rv A W (by
      obtain⟨_,_,e,h⟩:=H1.o;have⟨b',o',I,k0⟩:=h.2.2 i r A;rw[W] at e;simp at e;rw[<-e.1] at I;simp at I;obtain⟨rfl,rfl⟩:=I;have hl:=KE _ _ k0.choose_spec.1;rw[<-f.cell (p:=⟨b,o+i*5+3,none⟩) hl]
      exact hc)
     have:=(d.o.2 P D q).append hq d.o.1.1
     simpa using this
    have J:=f.trans c;clear a x c m d y;go_wp2_with (at_builtin;refine Kw _ rfl _ _ _ _ rfl _ _ rfl rfl _ _ g ?_);exact⟨⟨2,_,by omega,rfl,F,G,J⟩,by simp[intOf]⟩
   have q:=m.o;have h2:=d.o;have e:([r0,r1].take 2).flatten=r0++r1:=by simp
   rw[e] at q h2;have ae:Hid _:=q;have X:Hid _:=h2;clear m d q h2 e;go_wp2;go_ret;exact⟨_,rfl,_,ae.o,X.o.1,f,X.o.2⟩
theorem yT:∀ (ts:List Bs) (aO:Nat),(fH aO ts).1.length<=aO
 |[],aO=>by rw[sS];exact Ks _
 |t :: ts,aO=>by
  unfold fH
  split
  ·exact Ks _
  split
  ·split
   ·cases aO with
    |zero=>exact Ke _
    |succ m=>simp only[Kv];have:=yT ts m;omega
   exact Ks _
  exact Ks _
theorem o8(aO s):(aM aO s).1.length<=aO:=yT _ _
theorem tA:∀ (ts:List Bs) (aO:Nat),(fH aO ts).2.1<=ts.flatten.length
 |[],aO=>by rw[sS];exact Ks _
 |t :: ts,aO=>by
  unfold fH
  split
  ·exact Ks _
  split
  ·split
   ·cases aO with
    |zero=>exact Ks _
    |succ m=>simp only[List.flatten_cons,Kj];have:=tA ts m;omega
   exact Ks _
  exact Ks _
theorem tR:∀ (k:Nat) (s:Bs),(fG k s).flatten=s
 |0,s=>by unfold fG;simp
 |k+1,s=>by
  unfold fG
  cases h:i8 s with
  |none=>simp
  |some x=>
   obtain⟨a,t⟩:=x;simp only[List.flatten_cons,tR k t];rw[(gL h).1];simp
theorem sw(aO s):(aM aO s).2.1<=s.length:=by have:=tA (fG s.length s) aO;rw[tR] at this;exact this
def mu(d:bQ):List az × Nat × Int:=aM (40-(aM 40 d.1).1.length) d.2
def jB(d:bQ):Bs:=d.1++d.2.take (mu d).2.1
def iF(d:bQ):List az:=(aM 40 d.1).1++(mu d).1
def gw(w:World)(k:Nat):Prop:=∀ (o:Nat) (K:IntKind) (x:Int),w.cell? ⟨k,o,none⟩≠some (.int K x)
theorem gw.of{w:World}{k n m:Nat}{a b c d T}{f:Nat × Nat}(h:w.1[k]?=some (.cells #[.slice a n c,.slice b m d] T f)):gw w k:=by
 intro o K x e
 match o with
 |0=>rw[J0 h] at e;cases e
 |1=>rw[J1 h] at e;cases e
 |o+2=>simp[World.cell?,h] at e
def iE(k:Nat)(w w':World):Prop:=∀b,b≠k->w'.1[b]?=w.1[b]?
theorem iE.cell{k w w'}(h:iE k w w')(c:gw w k){b o:Nat}{K:IntKind}{x:Int}(a:w.cell? ⟨b,o,none⟩=some (.int K x)):w'.cell? ⟨b,o,none⟩=some (.int K x):=by
 have d:b≠k:=λe=>by subst e;exact c _ _ _ a
 unfold World.cell? at a |-
 rw[h b d];exact a
theorem iE.near{k w w'}(h:iE k w w')(d:gw w k){b o a:Nat}{K:IntKind}{x:Int}(f:w.cell? ⟨b,o,none⟩=some (.int K x)){v:Value}(c:w.cell? ⟨b,a,none⟩=some v):w'.cell? ⟨b,a,none⟩=some v:=by
 have g:b≠k:=λe=>by subst e;exact d _ _ _ f
 unfold World.cell? at c |-
 rw[h b g];exact c
theorem cI.box{B k w w' v r}(h:cI B w v r)(d:iE k w w')(f:gw w k):cI B w' v r:=by obtain⟨p,q,s,t,u,l,e,x,a,m,y,z,A,C⟩:=h;refine⟨p,q,s,t,u,l,e,x,a,m,y,z,A,λi r D=>?_⟩;have⟨b,o,E,F,G,H,n,I,J,g,K,L,M,N⟩:=C i r D;refine⟨b,o,E,F,G,d.near f n H,d.cell f n,I,J,g,K,L,M,λj c O=>?_⟩;have⟨P,Q,R,S,T,V,W,X⟩:=N j c O;exact⟨P,Q,R,S,d.cell f T,d.cell f V,d.cell f W,X⟩
theorem dh.box{B k w w' v rs}(h:dh B w v rs)(c:iE k w w')(d:gw w k):dh B w' v rs:=by obtain⟨a,f,j,l,m,n⟩:=h;refine⟨a,f,j,l,m,λi r p=>?_⟩;have⟨b,o,e,q,s,g,t,u,x,y,z⟩:=n i r p;exact⟨b,o,e,q,s,c.cell d g,c.cell d t,c.cell d u,c.near d g x,c.cell d y,z.box c d⟩
theorem aI.box{B k w w' v bs}(h:aI B w v bs)(f:iE k w w')(j:gw w k):aI B w' v bs:=by obtain⟨a,d,l,m,n,p⟩:=h;refine⟨a,d,l,m,n,λi b q=>?_⟩;have⟨g,o,e,r,c⟩:=p i b q;exact⟨g,o,e,r,f.cell j c⟩
def A2(w:World)(u a b:Value):Prop:=∃g T c,u=.slice (sO g) 2 2/\w.1[g]?=some (.cells #[a,b] T c)
theorem A2.l{w w' u v0 v1}(h:A2 w u v0 v1)(b:bL w w'):A2 w' u v0 v1:=by obtain⟨g,T,c,e,a⟩:=h;exact⟨g,T,c,e,(b.block g (io a)).trans a⟩
structure zy (L:Nat) (W:World) (sv tv lv mv:Value) (R:Bs) (Q:List az) (fs:Nat->Value->Prop) (w:World):Prop where
 below:bL W w
 lit6:∀u,fs 6 u->A2 w u sv tv
 row7:∀u,fs 7 u->aI w.1.size w u R
 lit11:∀u,fs 11 u->A2 w u lv mv
 row12:∀u,fs 12 u->dh w.1.size w u Q/\qt L w u Q
 need:∀u,fs 12 u->∃v,fs 11 v
theorem zy.l{L W w w' sv tv lv mv R Q}{c:Nat->Value->Prop}(h:zy L W sv tv lv mv R Q c w)(a:bL w w'):zy L W sv tv lv mv R Q c w':=
 ⟨h.below.th a,λu b=>(h.lit6 u b).l a,λu b=>((h.row7 u b).l a lE).wide a.size,λu b=>(h.lit11 u b).l a,λu b=>⟨((h.row12 u b).1.l a lE).wide a.size,(h.row12 u b).2.l a⟩,h.need⟩
theorem dj{b:Nat->Value->Prop}{k m v u}(h:d9 b k v m u)(a:m≠k):b m u:=by
 rcases h with h|⟨h,_⟩
 ·exact h
 exact absurd h a
theorem zy.put6{L W w sv tv lv mv R Q}{b:Nat->Value->Prop}(h:zy L W sv tv lv mv R Q b w)(v)(c:A2 w v sv tv):zy L W sv tv lv mv R Q (d9 b 6 v) w:=
 ⟨h.below,λu a=>by
  rcases a with a|⟨_,rfl⟩
  ·exact h.lit6 u a
  ·exact c,λu a=>h.row7 u (dj a (by decide)),λu a=>h.lit11 u (dj a (by decide)),λu a=>h.row12 u (dj a (by decide)),λu a=>by
  obtain⟨x,d⟩:=h.need u (dj a (by decide))
  exact⟨x,.inl d⟩⟩
theorem zy.put7{L W w sv tv lv mv R Q}{b:Nat->Value->Prop}(h:zy L W sv tv lv mv R Q b w)(v)(c:aI w.1.size w v R):zy L W sv tv lv mv R Q (d9 b 7 v) w:=
 ⟨h.below,λu a=>h.lit6 u (dj a (by decide)),λu a=>by
  rcases a with a|⟨_,rfl⟩
  ·exact h.row7 u a
  ·exact c,λu a=>h.lit11 u (dj a (by decide)),λu a=>h.row12 u (dj a (by decide)),λu a=>by
  obtain⟨x,d⟩:=h.need u (dj a (by decide))
  exact⟨x,.inl d⟩⟩
theorem zy.put11{L W w sv tv lv mv R Q}{b:Nat->Value->Prop}(h:zy L W sv tv lv mv R Q b w)(v)(c:A2 w v lv mv):zy L W sv tv lv mv R Q (d9 b 11 v) w:=
 ⟨h.below,λu a=>h.lit6 u (dj a (by decide)),λu a=>h.row7 u (dj a (by decide)),λu a=>by
  rcases a with a|⟨_,rfl⟩
  ·exact h.lit11 u a
  ·exact c,λu a=>h.row12 u (dj a (by decide)),λu a=>by
  obtain⟨x,d⟩:=h.need u (dj a (by decide))
  exact⟨x,.inl d⟩⟩
theorem zy.put12{L W w sv tv lv mv R Q}{b:Nat->Value->Prop}(h:zy L W sv tv lv mv R Q b w)(v)(c:dh w.1.size w v Q/\qt L w v Q)(d:∃u,b 11 u):zy L W sv tv lv mv R Q (d9 b 12 v) w:=
 ⟨h.below,λu a=>h.lit6 u (dj a (by decide)),λu a=>h.row7 u (dj a (by decide)),λu a=>h.lit11 u (dj a (by decide)),λu a=>by
  rcases a with a|⟨_,rfl⟩
  ·exact h.row12 u a
  ·exact c,λu a=>by
  obtain⟨x,e⟩:=d
  exact⟨x,.inl e⟩⟩
def yR(b:Nat)(W:World)(sv tv lv d:Value)(R:Bs)(Q:List az)(a:Nat->Value->Prop)(w:World):Prop:=
 ((∀u,¬a 13 u)/\zy (b+1) W sv tv lv d R Q a w)\/((∃u,a 13 u)/\(∃u,a 6 u)/\(∃u,a 7 u)/\(∃u,a 11 u)/\(∃u,a 12 u)/\∃c e,w=(c.setCell (pA b 0) e).setCell (pA b 1) nL/\aI c.1.size c e R/\zy (b+1) W sv tv lv d R Q (λk u=>k≠13/\a k u) c)
theorem yR.start(bo W sv tv lv mv R Q):yR bo W sv tv lv mv R Q (λ_ _=>False) W.drew:=
 .inl ⟨λ_ h=>h,bR.drew,λ_ h=>h.elim,λ_ h=>h.elim,λ_ h=>h.elim,λ_ h=>h.elim,λ_ h=>h.elim⟩
theorem yR.ahead{bo W w sv tv lv mv R Q}{f:Nat->Value->Prop}(h:yR bo W sv tv lv mv R Q f w){k:Nat}(g:k=6\/k=7\/k=11\/k=12)(e:∀v,¬f k v):(∀u,¬f 13 u)/\zy (bo+1) W sv tv lv mv R Q f w:=by
 rcases h with h|⟨_,⟨a,i⟩,⟨b,j⟩,⟨c,l⟩,⟨d,m⟩,_⟩
 ·exact h
 rcases g with rfl|rfl|rfl|rfl
 ·exact absurd i (e _)
 ·exact absurd j (e _)
 ·exact absurd l (e _)
 exact absurd m (e _)
theorem yR.of{c:Nat}{W w sv tv lv mv R Q}{a:Nat->Value->Prop}{k:Nat}{v}(b:∀u,¬a 13 u)(d:k≠13)(h:zy (c+1) W sv tv lv mv R Q (d9 a k v) w):yR c W sv tv lv mv R Q (d9 a k v) w:=
 .inl ⟨λu e=>b u (dj e (LQ d)),h⟩
theorem yR.stored{bo W w sv tv lv mv R Q}{b:Nat->Value->Prop}{l f g:Value}(h:yR bo W sv tv lv mv R Q b w)(i:∀v,¬b 13 v)(m:b 6 l)(j:b 7 f)(c:b 12 g):bL W w/\yR bo W sv tv lv mv R Q (d9 b 13 undef) ((w.setCell (pA bo 0) f).setCell (pA bo 1) nL):=by
 rcases h with ⟨_,h⟩|⟨⟨x,d⟩,_⟩
 ·refine⟨h.below,.inr ⟨⟨_,.inr ⟨rfl,rfl⟩⟩,⟨_,.inl m⟩,⟨_,.inl j⟩,?_,⟨_,.inl c⟩,w,f,rfl,h.row7 f j,?_⟩⟩
  ·obtain⟨x,d⟩:=h.need _ c;exact⟨x,.inl d⟩
  have e:∀ {k u},k≠13/\d9 b 13 undef k u->b k u:=λ⟨n,o⟩=>dj o n
  refine⟨h.below,λu a=>h.lit6 u (e a),λu a=>h.row7 u (e a),λu a=>h.lit11 u (e a),λu a=>h.row12 u (e a),λu a=>?_⟩;have⟨x,d⟩:=h.need u (e a);exact⟨x,by decide,.inl d⟩
 exact absurd d (i _)
theorem yR.done{bo W w sv tv lv mv R Q}{r:Nat->Value->Prop}{e s:Value}(h:yR bo W sv tv lv mv R Q r w)(k:r 12 e)(t:r 13 s){a b n c m d T}(l:W.1[bo]?=some (.cells #[.slice a n c,.slice b m d] T (0,0))):∃j,w.1[bo]?=some (.cells #[j,nL] T (0,0))/\cJ w.1.size w (.agg #[j,nL]) (R,[])/\dh w.1.size w e Q/\qt (bo+1) w e Q/\∀L,L<=bo->L<=W.1.size->Below L W w:=by
 rcases h with ⟨h,_⟩|⟨_,_,_,_,_,q,j,rfl,z,hA⟩
 ·exact absurd t (h _)
 have o:=(hA.below.block bo (io l)).trans l;have u:iE bo q ((q.setCell (pA bo 0) j).setCell (pA bo 1) nL):=λg v=>(Kc _ _ _ _ v).trans (Kc _ _ _ _ v)
 have x:=gw.of o;have f:((q.setCell (pA bo 0) j).setCell (pA bo 1) nL).1.size=q.1.size:=by simp
 refine⟨j,?_,?_,?_,?_,λL y A=>?_⟩
 ·rw[ap (ap o)];rfl
 ·rw[f];exact⟨_,_,rfl,z.box u x,none,0,rfl,Ke _,Ks _,λi b B=>by simp at B⟩
 ·rw[f];exact(hA.row12 e ⟨by decide,k⟩).1.box u x
 ·exact(hA.row12 e ⟨by decide,k⟩).2.keep (λg v _=>u g (by omega)) (by rw[f];exact Ke _)
 exact((hA.below.mono A).setCell (p:=pA bo 0) y _).setCell (p:=pA bo 1) y _
theorem yR.cells{d b:Nat}{W w sv tv lv mv R Q}{i:Nat->Value->Prop}(h:yR d W sv tv lv mv R Q i w){e f:Value}{T}{g:Nat × Nat}(a:W.1[b]?=some (.cells #[e,f] T g))(c:b≠d):w.1[b]?=some (.cells #[e,f] T g):=by
 rcases h with ⟨_,h⟩|⟨_,_,_,_,_,j,k,rfl,l,hA⟩
 ·exact(h.below.block b (io a)).trans a
 exact((Kc _ _ _ _ c).trans (Kc _ _ _ _ c)).trans ((hA.below.block b (io a)).trans a)
def JL(n q:Nat)(k:Nat)(v:Value):Prop:=if k=6 then ∃g:Nat,v=.slice (sO g) 2 2 else if k=7 then ∃a c,v=.slice a n c else if k=11 then ∃g:Nat,v=.slice (sO g) 2 2 else if k=12 then ∃a c,v=.slice a q c else True
theorem H7(n q k):∃v,JL n q k v:=by
 unfold JL
 split
 ·exact⟨_,0,rfl⟩
 split
 ·exact⟨_,none,0,rfl⟩
 split
 ·exact⟨_,0,rfl⟩
 split
 ·exact⟨_,none,0,rfl⟩
 exact⟨undef,trivial⟩
def uL(a:Nat)(sv tv:Value):Type:={ w':World // w'.cell? (pA a 0)=some sv/\w'.cell? (pA a 1)=some tv }
theorem tY(B v d w)(he:dD w)(hd:cJ B w v d)(hB:B<=w.1.size)(h1:d.1.length<=60000)(h2:d.2.length<=60000):
  cL 22 #[v] w λe f=>∃dv lv,e=.returned (.tuple #[dv,lv])/\cJ f.1.size f dv (jB d,[])/\dh f.1.size f lv (iF d)/\bL w f/\qt w.1.size f lv (iF d):=by
 obtain⟨sv,tv,rfl,hs,ht⟩:=hd;obtain⟨s,t⟩:=d;simp only[] at hs ht h1 h2;have⟨N,q⟩:=nM ((w.alloc (.cells #[sv,tv] 25)).alloc (.cells #[nL,nL] 25));have j:=bB q;have eV:=sB q;have bd:N.1[w.1.size]?=some (.cells #[sv,tv] 25 (0,0)):=by rw[q,Kq _ _ _ (by simp)];exact ah _ _
 have bf:N.1[w.1.size+1]?=some (.cells #[nL,nL] 25 (0,0)):=by have:=ah (w.alloc (.cells #[sv,tv] 25)) (.cells #[nL,nL] 25);rw[Kg] at this;rw[q];exact this
 have⟨L,hL⟩:=nM ((aM 40 s).1);have⟨M,hM⟩:=nM (aM (40-L.length) t);have bk:L.length<=40:=by rw[hL];exact o8 _ _
 have bm:M.1.length<=40:=by rw[hM];exact Kl (o8 _ _) (by omega)
 have bo:M.2.1<=t.length:=by rw[hM];exact sw _ _
 have O:Hid (jB (s,t)=s++t.take M.2.1/\iF (s,t)=L++M.1):=by unfold Hid jB iF mu;rw[hM,hL];exact⟨rfl,rfl⟩
 have P:Hid _:=iz (hs.l j hB);have Q:=Z λf (h:bL N f)=>iz (ht.l (j.th h) hB)
 have R:Hid (cL 48 #[.string ⟨s.toArray⟩,U 40] N λe f=>∃v,e=.returned (.tuple #[v,U (aM 40 s).2.1,U (aM 40 s).2.2])/\qt N.1.size f v L/\bL N f):=by have:=sT ⟨s.toArray⟩ (by rw[KR];simpa using h1) 40 (by omega) N (he.l j);unfold Hid;rw[hL];exact this
 have D:Hid (∀f,bL N f->cL 48 #[.string ⟨t.toArray⟩,U (40-(L.length:Int))] f λe m=>∃v,e=.returned (.tuple #[v,U M.2.1,U M.2.2])/\qt f.1.size m v M.1/\bL f m):=λf h=>by have:=sT ⟨t.toArray⟩ (by rw[KR];simpa using h2) (40-L.length) (by omega) f (he.l (j.th h));rw[show ((40-L.length:Nat):Int)=40-(L.length:Int) by omega] at this;rw[hM];exact this
 have HS:=Z λf (h:bL N f)=>Q2 (hs.l (j.th h) hB) (ht.l (j.th h) hB)
 obtain⟨ss,bp⟩:∃ss:ByteArray,ss=⟨s.toArray⟩:=⟨_,rfl⟩;obtain⟨tt,bq⟩:∃tt:ByteArray,tt=⟨t.toArray⟩:=⟨_,rfl⟩;rw[<-bp] at P R;rw[<-bq] at Q D;obtain⟨a,c,e1,dl,dn,-⟩:=hs;obtain⟨b,S,e2,dp,br,-⟩:=ht;subst e1 e2;have V:=Z q;have bs:=Z j;have⟨LN,bv⟩:=nM ((aM 40 s).2.1);have⟨LE,bx⟩:=nM ((aM 40 s).2.2);rw[<-bv,<-bx] at R;have r:Hid _:=bd;have bz:Hid _:=bf;have⟨I,a9⟩:=nM (s.length);have⟨tn,W⟩:=nM (t.length);have⟨X,aa⟩:=nM (L.length);have⟨mn,ac⟩:=nM (M.1.length);have⟨mb,Y⟩:=nM (M.2.1);have⟨me,bF⟩:=nM (M.2.2);have⟨MR,a0⟩:=nM (M.1);have HN:Hid (s.length=I/\t.length=tn/\L.length=X/\MR.length=mn):=⟨a9.symm,W.symm,aa.symm,by rw[a0];exact ac.symm⟩;rw[<-ac] at bm;rw[<-Y,<-W] at bo;rw[<-Y,<-a0] at O;rw[<-Y,<-bF,<-a0] at D;rw[<-aa] at bk D
 rw[<-a9] at h1 dl P HS V r |-
 rw[<-W] at h2 dp Q HS V r |-
 have f4:IntKind.i64.wrap (40-(X:Int))=40-(X:Int):=by exact KA (40-(X:Int)) (by omega)
 clear hL hM bv bx bp bq a9 W aa ac Y bF a0 bd bf j q he;rw[ai] at dn br;go_enter func22,ntmps22;go_wp2_with fail;rw[<-V.o,P.o];go_wp2_with fail;go_at_call 48;refine Calls.mono R.o ?_;rintro e w1 ⟨lv,rfl,af,j⟩;obtain⟨la,lc,el,-,-,-⟩:=id af;rw[HN.o.2.2.1] at el;subst el;have y0:=J0 (j.bk r.o);have y1:=J1 (j.bk r.o);have a5:Hid _:=Q.o w1 j;have a6:Hid _:=D.o w1 j;have c3:=Z af;have a1:=Z j;clear af j Q D R P;go_wp2_with fail;rw[a5.o];go_wp2_with fail;go_at_call 48;refine Calls.mono a6.o ?_;rintro e w2 ⟨mv,rfl,ak,a2⟩;obtain⟨ma,mc,em,-,-,-⟩:=id ak;rw[HN.o.2.2.2] at em;subst em;have o:=a1.o.th a2;have dq:=Z o;have dr:w.1.size+1<w2.1.size:=by have:=o.size;omega
 have E:=Z (o.bk r.o);have al:=Z (o.bk bz.o);have⟨RB,av⟩:=nM (s++t.take mb);have⟨RQ,b2⟩:=nM (L++MR);have c6:Hid (∀g f,(∃T fr,f.1[g]?=some (.cells #[.slice a I c,.slice b mb S] T fr))->bL w2 f->cL 49 #[.slice (sO g) 2 2] f λe m=>∃v,e=.returned v/\aI m.1.size m v RB/\bL f m):=by rintro g f ⟨T,fr,hg⟩ J;have⟨b0,b1⟩:=HS.o f (o.th J);have fa:=J.size;refine(pq B _ _ s (t.take mb) g f b0 (b1.take mb (by rw[HN.o.2.1];exact bo)) (by omega) (io hg) (J0 hg) (J1 hg) (by rw[Kt,HN.o.1];omega)).mono ?_;rintro e m ⟨v,rfl,K,F⟩;exact⟨v,rfl,by rw[av];exact pk K,F⟩
 have c8:Hid (∀g f,(∃T fr,f.1[g]?=some (.cells #[.slice la X lc,.slice ma mn mc] T fr))->bL w2 f->cL 50 #[.slice (sO g) 2 2] f λe m=>∃v,e=.returned v/\(dh m.1.size m v RQ/\qt (w.1.size+1+1) m v RQ)/\bL f m):=by
  rintro g f ⟨T,fr,hg⟩ J;have n0:qt (w.1.size+1+1) f (.slice la X lc) L:=((c3.o.l a2).l J).mono (by omega);have n1:qt (w.1.size+1+1) f (.slice ma mn mc) MR:=(ak.l J).mono (by have:=a1.o.size;omega);have r0:=n0.recs.conds;have r1:=n1.recs.conds;have ds:w.1.size+1+1<=f.1.size:=by have:=a1.o.size;have:=a2.size;have:=J.size;omega
  refine(EF f.1.size _ _ L MR g f r0 r1 lE (io hg) (J0 hg) (J1 hg) (by rw[HN.o.2.2.1,HN.o.2.2.2];omega)).mono ?_;rintro e m ⟨v,rfl,xs,K,hx,F,e0⟩;exact⟨v,rfl,by rw[b2];exact⟨Br K hx F.size,Gi (cU K ds) hx (e0 _ n0.pr n1.pr) F⟩,F⟩
 have p:=Z (by rw[O.o.1,O.o.2,av,b2];exact⟨rfl,rfl⟩:jB (s,t)=RB/\iF (s,t)=RQ);have⟨nB,c9⟩:=nM (RB.length);have⟨nQ,cb⟩:=nM (RQ.length);have cc:=Z2 c9.symm cb.symm;have a8:=Z (bs.o.th o);clear ak a2 o av b2 c9 cb y0 y1 a5 a6 c3 a1 dq HN O HS bs V r bz;go_wp2_with fail;have q0:∀z:uL w.1.size (.slice a I c) (.slice b tn S),z.1.cell? (pW w 0)=some (.slice a I c):=λz=>z.2.1
 have q1:∀z:uL w.1.size (.slice a I c) (.slice b tn S),z.1.cell? (pW w 1)=some (.slice b tn S):=λz=>z.2.2
 have a4:Nonempty (uL w.1.size (.slice a I c) (.slice b tn S)):=⟨⟨w2,J0 E.o,J1 E.o⟩⟩
 have A:Hid (∀fs f,yR (w.1.size+1) w2 (.slice a I c) (.slice b mb S) (.slice la X lc) (.slice ma mn mc) RB RQ fs f->∃z:uL w.1.size (.slice a I c) (.slice b tn S),f=z.1):=λfs f h=>⟨⟨f,J0 (h.cells E.o (by omega)),J1 (h.cells E.o (by omega))⟩,rfl⟩
 refine bJ [_,_,_,_,_,_,_,_,_,_,_,_,_,_] _ rfl (λk=>k==6||k==7||k==11||k==12||k==13) (yR (w.1.size+1) w2 (.slice a I c) (.slice b mb S) (.slice la X lc) (.slice ma mn mc) RB RQ) (JL nB nQ) (H7 _ _) (by kernel_rfl) (by kernel_rfl) (yR.start _ _ _ _ _ _ _ _) ?_;iterate 6(refine aP A.o rfl rfl ?_;go_big_quiet_step (fail);refine Km ?_)
 refine cz rfl rfl (λgs f n i l=>⟨.slice (MZ f) 2 2,f.alloc (.cells #[.slice a I c,.slice b mb S] 23),?_,⟨_,rfl⟩,yR.of (n.ahead (.inl rfl) l).1 (by decide) (((n.ahead (.inl rfl) l).2.l ((Kf f.1.size f).alloc lE _)).put6 _ ⟨_,_,_,rfl,ah f _⟩)⟩) (λv6 e4=>?_)
 ·clear n i l q0 q1 A a4;go_simp
 go_frame;obtain⟨g6,rfl⟩:∃g:Nat,v6=.slice (sO g) 2 2:=e4;refine bw 49 #[.slice (sO g6) 2 2] rfl rfl (λf=>by kernel_rfl) (λgs f n i l=>?_) (λv7 e5=>?_)
 ·have h6:=i 6 _ (.inr ⟨rfl,rfl⟩) (au (by kernel_rfl));have⟨b4,hA⟩:=n.ahead (.inr (.inl rfl)) l;obtain⟨g,T0,fr,e,C⟩:=hA.lit6 _ h6;simp at e;subst e;refine(c6.o g6 f ⟨T0,fr,C⟩ hA.below).mono ?_;rintro e w3 ⟨u,rfl,K,J⟩;obtain⟨a',c',e7,-,-,-⟩:=id K;rw[cc.o.1] at e7;exact⟨_,rfl,⟨a',c',e7⟩,yR.of b4 (by decide) ((hA.l J).put7 _ K)⟩
 go_frame;obtain⟨a7,c7,rfl⟩:∃a b5,v7=.slice a nB b5:=e5;iterate 3(refine aP A.o rfl rfl ?_;go_big_quiet_step (fail);refine Km ?_)
 refine cz rfl rfl (λgs f n i l=>⟨.slice (MZ f) 2 2,f.alloc (.cells #[.slice la X lc,.slice ma mn mc] 58),?_,⟨_,rfl⟩,yR.of (n.ahead (.inr (.inr (.inl rfl))) l).1 (by decide) (((n.ahead (.inr (.inr (.inl rfl))) l).2.l ((Kf f.1.size f).alloc lE _)).put11 _ ⟨_,_,_,rfl,ah f _⟩)⟩) (λea ce=>?_)
 ·clear n i l q0 q1 A a4;go_simp
 go_frame;obtain⟨cf,rfl⟩:∃g:Nat,ea=.slice (sO g) 2 2:=ce;refine bw 50 #[.slice (sO cf) 2 2] rfl rfl (λf=>by kernel_rfl) (λgs f n i l=>?_) (λeb ci=>?_)
 ·have ck:=i 11 _ (.inr ⟨rfl,rfl⟩) (au (by kernel_rfl));have⟨b4,hA⟩:=n.ahead (.inr (.inr (.inr rfl))) l;obtain⟨g,T0,fr,e,C⟩:=hA.lit11 _ ck;simp at e;subst e;refine(c8.o cf f ⟨T0,fr,C⟩ hA.below).mono ?_;rintro e w3 ⟨u,rfl,K,J⟩;obtain⟨a',c',e7,-,-,-⟩:=id K.1;rw[cc.o.2] at e7;exact⟨_,rfl,⟨a',c',e7⟩,yR.of b4 (by decide) ((hA.l J).put12 _ K ⟨_,ck⟩)⟩
 go_frame;obtain⟨b6,b7,rfl⟩:∃a b5,eb=.slice a nQ b5:=ci;refine fL rfl rfl (λgs f n i l=>?_) (λfo ex=>?_)
 ·have h6:=i 6 _ (.inl (.inl (.inl (.inr ⟨rfl,rfl⟩)))) (au (by kernel_rfl));have h7:=i 7 _ (.inl (.inl (.inr ⟨rfl,rfl⟩))) (au (by kernel_rfl));have cl:=i 12 _ (.inr ⟨rfl,rfl⟩) (au (by kernel_rfl));have⟨cn,co⟩:=n.stored l h6 h7 cl;have G:=(cn.block _ dr).trans al.o;have z0:=J0 G;have z1:=J1 G;have f0:=fZ G 0;have f1:=fZ G 1;refine⟨(f.setCell (pA (w.1.size+1) 0) (.slice a7 nB c7)).setCell (pA (w.1.size+1) 1) nL,?_,by simp[JL],co⟩;clear n i l q0 q1 A a4 h6 h7 cl cn co G;go_simp
 go_frame;refine ei ?_;intro w4 n;have⟨u7,H,hD,hQ,cp,C⟩:=n.done (.inl (.inr ⟨rfl,rfl⟩)) (.inr ⟨rfl,rfl⟩) al.o;have y0:=J0 H;have y1:=J1 H;have HE:Hid (cJ w4.1.size w4 (.agg #[u7,nL]) (jB (s,t),[])/\dh w4.1.size w4 (.slice b6 nQ b7) (iF (s,t))/\bL w w4/\qt w.1.size w4 (.slice b6 nQ b7) (iF (s,t))):=⟨by rw[p.o.1];exact hD,by rw[p.o.2];exact hQ,Mj a8.o (C _ (by omega) (by omega)),by rw[p.o.2];exact cp.mono (by omega)⟩;obtain⟨ua,uc,eu,-,-,-⟩:∃ua uc,u7=.slice ua RB.length uc/\True/\True/\True:=by obtain⟨x,y,e,⟨ua,uc,e',-,-,-⟩,-⟩:=hD;simp at e;exact⟨ua,uc,by rw[e.1];exact e',trivial,trivial,trivial⟩
 subst eu;clear n H hD hQ cp C q0 q1 A a4 c6 c8 p a8 E al;go_wp2_with fail;refine Ka (v:=.tuple #[.agg #[.slice ua RB.length uc,nL],.slice b6 nQ b7]) ?_ rfl ⟨_,_,rfl,HE.o⟩;rw[K8 rfl];go_simp
theorem xN(B v d w)(f:dD w)(g:cJ B w v d)(h:B<=w.1.size)(i:d.1.length<=60000)(j:d.2.length<=60000):
  cL 22 #[v] w λe a=>∃b c,e=.returned (.tuple #[b,c])/\cJ a.1.size a b (jB d,[])/\dh a.1.size a c (iF d)/\bL w a:=
 (tY B v d w f g h i j).mono λ_ _ ⟨b,c,k,l,m,n,_⟩=>⟨b,c,k,l,m,n⟩
theorem eK{w:World}{k:Nat}{c d e f u0 u1 u2 u3:Value}{T}(h:w.1[k]?=some (.cells #[c,d,e,f] T (0,0))):((((w.setCell (pA k 0) u0).setCell (pA k 1) u1).setCell (pA k 2) u2).setCell (pA k 3) u3).1[k]?=some (.cells #[u0,u1,u2,u3] T (0,0))/\(∀g,g≠k->((((w.setCell (pA k 0) u0).setCell (pA k 1) u1).setCell (pA k 2) u2).setCell (pA k 3) u3).1[g]?=w.1[g]?)/\((((w.setCell (pA k 0) u0).setCell (pA k 1) u1).setCell (pA k 2) u2).setCell (pA k 3) u3).1.size=w.1.size/\∀L,L<=k->Below L w ((((w.setCell (pA k 0) u0).setCell (pA k 1) u1).setCell (pA k 2) u2).setCell (pA k 3) u3):=by have i:=ap (o:=0) (u:=u0) h;have j:=ap (o:=1) (u:=u1) i;have l:=ap (o:=2) (u:=u2) j;have m:=ap (o:=3) (u:=u3) l;refine⟨by rw[m];rfl,λg a=>?_,by simp,λL b=>((((Kf L w).setCell (p:=pA k 0) b _).setCell (p:=pA k 1) b _).setCell (p:=pA k 2) b _).setCell (p:=pA k 3) b _⟩;rw[Kc _ _ _ _ a,Kc _ _ _ _ a,Kc _ _ _ _ a,Kc _ _ _ _ a]
theorem z7{B L k:Nat}{w b c:World}{fa pa fn fc pl pc d}{A C D E:Value}{p}{f:List cO}(F:B<=w.1.size)(G:bL w b)(H:w.1.size<=k)(P:k<L)(u:b.1[k]?=some (.cells #[A,C,D,E] 46 (0,0)))(I:b.ownsRow L 113 4 (.slice fa fn fc) f.length (aJ f))(l:∀i∈f,gH i)(J:∀v,bL w v->aX B v (.agg #[.slice pa pl pc,U d]) p)
  (e:c=((((b.setCell (pA k 0) (.bool true)).setCell (pA k 1) (.slice (sO b.1.size) 1 1)).setCell (pA k 2) (.slice pa pl pc)).setCell (pA k 3) (U d)).alloc (.cells #[.slice fa fn fc] 78)):
  c.1[k]?=some (.cells #[.bool true,.slice (sO b.1.size) 1 1,.slice pa pl pc,U d] 46 (0,0))/\(∀g,g≠k->g<b.1.size->c.1[g]?=b.1[g]?)/\c.1.size=b.1.size+1/\bL w c/\cD c.1.size c (.slice (sO b.1.size) 1 1) [f]/\aX c.1.size c (.agg #[.slice pa pl pc,U d]) p:=by
 have⟨x,m,n,y⟩:=eK (u0:=.bool true) (u1:=.slice (MZ b) 1 1) (u2:=.slice pa pl pc) (u3:=U d) u;have⟨o,q⟩:=nM ((((b.setCell (pA k 0) (.bool true)).setCell (pA k 1) (.slice (MZ b) 1 1)).setCell (pA k 2) (.slice pa pl pc)).setCell (pA k 3) (U d));rw[<-q] at x m n y e;have r:=io u;have s:=ah o (.cells #[.slice fa fn fc] 78);rw[<-e] at s;have a:∀g,g<o.1.size->c.1[g]?=o.1[g]?:=λg h=>by rw[e];exact Kq _ _ _ h
 have K:c.1.size=b.1.size+1:=by rw[e];simp[n]
 have j:bL w c:=by have z:=G.trans (y _ H);rw[e];exact z.alloc z.size _
 rw[n] at s a;refine⟨(a k r).trans x,λg t h=>(a g h).trans (m g t),K,j,?_,gG (J _ j) (j.u F)⟩;refine⟨_,1,rfl,Ke _,by rw[ai];omega,λi g h=>?_⟩
 match i,h with
 |0,h=>
  simp at h;subst h;refine⟨b.1.size,0,_,rfl,by omega,J0 s,?_⟩;exact jA (bT I λg M N O=>(a g (io O)).trans (m g (by omega))) l
 |i+1,h=>simp at h
theorem vw{K:Nat->Prop}{L k:Nat}{w b h:World}{fa pa fn fc pl pc d}{v x y z:Value}{f:List cO}(A:w.1.size<=b.1.size)(N:w.1.size<=k)(O:k<L)(q:b.1[k]?=some (.cells #[v,x,y,z] 46 (0,0)))(B:b.ownsRow L 113 4 (.slice fa fn fc) f.length (aJ f))(n:∀i∈f,gH i)(C:∀j,K j->j<w.1.size)
  (e:h=((((b.setCell (pA k 0) (.bool true)).setCell (pA k 1) (.slice (sO b.1.size) 1 1)).setCell (pA k 2) (.slice pa pl pc)).setCell (pA k 3) (U d)).alloc (.cells #[.slice fa fn fc] 78)):
  ym K h (.slice (sO b.1.size) 1 1) [f]:=by
 have⟨D,r,s,E⟩:=eK (u0:=.bool true) (u1:=.slice (MZ b) 1 1) (u2:=.slice pa pl pc) (u3:=U d) q;have⟨o,p⟩:=nM ((((b.setCell (pA k 0) (.bool true)).setCell (pA k 1) (.slice (MZ b) 1 1)).setCell (pA k 2) (.slice pa pl pc)).setCell (pA k 3) (U d));rw[<-p] at D r s E e;have F:=io q;have l:=ah o (.cells #[.slice fa fn fc] 78);rw[<-e] at l;have a:∀g,g<o.1.size->h.1[g]?=o.1[g]?:=λg c=>by rw[e];exact Kq _ _ _ c
 rw[s] at l a;intro G H;have t:∀g,w.1.size<=g->g<h.1.size->G.1[g]?=h.1[g]?:=λg P I=>H.2 g (λe=>absurd (C g e) (by omega)) I
 have m:=(t _ A (io l)).trans l;refine⟨_,1,rfl,Ke _,by rw[ai];omega,λi g c=>?_⟩
 match i,c with
 |0,c=>
  simp at c;subst c;refine⟨b.1.size,0,_,rfl,io m,J0 m,?_⟩;exact jA (bT B λg J M u=>(t g (by omega) (MT (io u) (io l))).trans ((a g (io u)).trans (r g (by omega)))) n
 |i+1,c=>simp at c
theorem BN(B a cap ra rl rc l)(ci O:Nat)(g:List aq)(d w)(hl:aE B w (.slice a 4 cap) l)(X:cI B w (.agg #[U 1,U ci,U O,.slice ra rl rc,U d]) (1,(ci:Int),(O:Int),g,d))(Y:B<=w.1.size)(a3:bC l=0)(b0:aZ (1,(ci:Int),(O:Int),g,d)=0)(c:aG)(a4:l[ci]?=some c)(b1:c.1=false):
  cL 36 #[.slice a 4 cap,.agg #[U 1,U ci,U O,.slice ra rl rc,U d]] w λe j=>∃v,e=.returned (.tuple #[v,U (cB (g,d))])/\aE j.1.size j v (if cB (g,d)=0 then l.set ci (true,[cm (g,d)],(g,d)) else [])/\bL w j/\∀K:Nat->Prop,(∀k,K k->k<w.1.size)->lZ K w.1.size w->kn K w (.slice a 4 cap) l->wU K w (.agg #[U 1,U ci,U O,.slice ra rl rc,U d]) (1,(ci:Int),(O:Int),g,d)->kn K j v (if cB (g,d)=0 then l.set ci (true,[cm (g,d)],(g,d)) else []):=by
 have HL:=Z λj (h:bL w j)=>hl.l h Y
 have HC:=Z λj (h:bL w j)=>a3▸fR B _ l j (hl.l h Y) (h.u Y)
 have HR:=Z λj (h:bL w j)=>b0▸eR B _ _ j (X.l h Y) (h.u Y)
 have a5:Hid (∀j,bL w j->aX B j (.agg #[.slice ra rl rc,U d]) (g,d)):=λj h=>by obtain⟨rv,e,-,-,-,hp⟩:=X.l h Y;simp at e;rw[<-e] at hp;exact hp
 have⟨cp,D⟩:=nM (cB (g,d));rw[<-D];have⟨R,a6⟩:=nM ((if cp=0 then l.set ci (true,[cm (g,d)],(g,d)) else []));rw[<-a6];have s:=Z a6;have P:=Z D;clear a6 D;have E:=Z ((f7.1 a3).1);have bF:ci<4:=by have:=(K9.1 a4).1;rw[E.o] at this;exact this
 have d0:(ci:Int)<4:=by omega
 have d1:(0:Int)<=(ci:Int):=by omega
 have c4:4<=cap:=by obtain⟨_,_,e,h1,-⟩:=hl;simp at e;rw[E.o] at h1;omega
 have b2:=Z a4;clear hl X a3 b0 a4;have⟨W1,F⟩:=nM (w.alloc (.cells #[U 1,U ci,U O,.slice ra rl rc,U d] 71));have a7:=bA F;have c5:=sA F;have g1:=hA F;have HG:=Z λj (h:bL W1 j)=>Q2 (h.bk g1) (a7.th h)
 have c7:=Z F;have c8:=Z a7;have H:=Z Y;clear F g1 a7 c5 Y;go_enter func36,ntmps36;go_wp2_with fail;rw[<-c7.o];go_at_call 64;refine(HC.o _ c8.o).mono ?_;rintro e w2 ⟨rfl,a8⟩;have⟨g2,a0⟩:=HG.o w2 a8;have⟨y0,y1,y2,y3,y4⟩:=aF g2;have a9:=Z2 a8 a0;clear g2 a8 a0 HC;go_wp2_with fail;go_at_call 65;refine(HR.o _ a9.o.2).mono ?_;rintro e x ⟨rfl,b3⟩;have⟨g3,t⟩:=HG.o x (a9.o.1.th b3);clear y0 y1 y2 y3 y4 HR b3 a9;have⟨y0,y1,y2,y3,y4⟩:=aF g3;obtain⟨_,_,e1,-,-,b4⟩:=HL.o _ t;have⟨b,o,e,c9,b5⟩:=b4 ci c b2.o;simp at e1;obtain⟨rfl,-⟩:=e1;subst e;obtain⟨la,lc,pa,pc,c0,c1,c2,c3,-,-⟩:=b5.vals;rw[b1] at c0;have e2:=Kd c9 (t.u H.o);generalize c.2.1.length=ca at*;generalize c.2.2.1.length=cb at*;generalize c.2.2.2=cd at*;clear b4 b5 b1 b2;have y:=io g3;have b6:=Z g3;have b7:=Z t;clear g3 t;have⟨W4,z⟩:=nM ((x.alloc (.cells #[.bool false,.slice la ca lc,.slice pa cb pc,U cd] 46)).alloc (.cells #[.slice ra rl rc,U d] 30));have aa:=bB z;have b9:=sB z;have g4:=gB z;have ba:=gC z;have u:=b7.o.th aa;have ac:Hid (cL 66 #[.agg #[.slice ra rl rc,U d]] W4 λe j=>∃fv,e=.returned (.tuple #[fv,U cp])/\j.ownsRow W4.1.size 113 4 fv (dW (g,d)).length (aJ (dW (g,d)))/\(∀i∈dW (g,d),gH i)/\bL W4 j):=by rw[P.o];exact qT B _ (g,d) W4 (a5.o _ u) (u.u H.o)
 have ad:=Z2 aa u;have bb:=Z2 g4 ba;have ce:=Z z;have q:=Z b9;clear z aa g4 ba u b9 c4;go_wp2_with fail;rw[<-ce.o];go_at_call 66;refine ac.o.mono ?_;rintro e w5 ⟨fv,rfl,I,Q,m⟩;have n:=ad.o.2.th m;obtain⟨fa,fc,cf,-⟩:=an I;subst cf
 by_cases A:cp=0
 case neg=>
  have hq:(cp != 0)=true:=by simpa using A
  have HZ:=Z (by rw[s.o,iO A]:R=[]);have ck:=Z n;clear I Q m n ac A P s;generalize (dW (g,d)).length=fl at*;go_wp2_with fail;go_ret2;exact⟨_,rfl,by rw[HZ.o];exact eZ _ _,ck.o,λK _ _ _ _=>by rw[HZ.o];exact ib _ _⟩
 have HZ:=Z (by rw[s.o,Io A]:R=l.set ci (true,[cm (g,d)],(g,d)));have bd:dW (g,d)=cm (g,d):=by rw[dW,Io (by rw[<-P.o];exact A)]
 subst A
 rw[bd] at I Q |-
 have J:Hid (w5.ownsRow W4.1.size 113 4 (.slice fa (cm (g,d)).length fc) (cm (g,d)).length (aJ (cm (g,d)))/\∀i∈cm (g,d),gH i):=⟨I,Q⟩;clear bd s P ac;have s5:=m.size;rw[q.o] at s5;have C:=(m.block _ (by rw[q.o];omega)).trans bb.o.1;have S:=(m.block _ (by rw[q.o];omega)).trans bb.o.2;have⟨z0,z1,e5,e6⟩:=Q4 (J0 S) (J1 S) trivial trivial;have x0:=J0 C;have x1:=J1 C;have x2:=J2 C;have x3:=J3 C;have e7:=fZ C 0;have e8:=fZ C 1;have e9:=fZ C 2;have ea:=fZ C 3;have l5:=io C;have eb:=io S;have⟨WT,T⟩:=nM (((((w5.setCell (pW x 0) (.bool true)).setCell (pW x 1) (.slice (MZ w5) 1 1)).setCell (pW x 2) (.slice ra rl rc)).setCell (pW x 3) (U d)).alloc (.cells #[.slice fa (cm (g,d)).length fc] 78));obtain⟨gT,bf,bg,V,bk,bm⟩:=z7 (p:=(g,d)) (f:=cm (g,d)) H.o n (Mc y) (by rw[q.o];omega) C J.o.1 J.o.2 a5.o T
 have L:Hid (∀K:Nat->Prop,(∀k,K k->k<w.1.size)->wU K w (.agg #[U 1,U ci,U O,.slice ra rl rc,U d]) (1,(ci:Int),(O:Int),g,d)->ym K WT (.slice (MZ w5) 1 1) [cm (g,d)]/\Id K WT (.agg #[.slice ra rl rc,U d]) (g,d)):=λK hK X=>⟨vw (w:=w) (f:=cm (g,d)) n.size (Mc y) (by rw[q.o];omega) C J.o.1 J.o.2 hK T,(wU.pol (d':=d) X).l V (λ_ _ e=>e)⟩
 have a1:=Z2 bk bm;have a2:Hid (∃G gc M,(Builtin.append_ #[22,22] 22 #[.slice (sO (w5.1.size+1)) 0 0,.slice (some ⟨b,o,none⟩) 4 cap]).run prog (WT.alloc (.cells #[] 46))=.ok (.slice (sO G) 4 gc) M/\nX w.1.size x.1.size WT w M G gc ci l (.slice (some ⟨b,o,none⟩) 4 cap)/\M.cell? (pW w 1)=some (U ci)/\M.cell? (pW x 0)=some (.bool true)/\M.cell? (pW x 1)=some (.slice (MZ w5) 1 1)/\M.cell? (pW x 2)=some (.slice ra rl rc)/\M.cell? (pW x 3)=some (U d)):=by have N:=io gT;obtain⟨G,gc,M,h1,h2,h3⟩:=sF B b o cap l ci WT w x.1.size H.o E.o (HL.o _ V) V y N bF;have W:=(h3.block _ N).trans gT;have bp:=(m.block _ (by rw[q.o];omega)).trans ((ad.o.1.block _ y).trans b6.o);have co:=(h3.block _ (MT y N)).trans ((bf _ (by omega) (io bp)).trans bp);rw[bg] at h1;exact⟨G,gc,M,h1,h2,(aF co).2.1,J0 W,J1 W,J2 W,J3 W⟩
 have cs:=Z T;have ae:=(m.block _ (by rw[q.o];omega)).trans ((ad.o.1.block _ y).trans b6.o);obtain⟨ec,ed,-,-,-⟩:=aF ae;have ee:=io ae;clear T gT bf bg V bk bm C S I Q J m n HL HG H s5 ae a5;generalize (cm (g,d)).length=fl at*;go_wp2_with (first|(at_builtin;go_must (rw[<-cs.o];obtain⟨G,gc,M,bq,r,r1,t0,t1,t2,t3⟩:=a2.o;refine Kw _ rfl _ _ _ _ rfl _ _ rfl rfl _ _ bq ?_;obtain⟨u0,p0,f0⟩:=r.cells (ci*4) (by omega);obtain⟨u1,p1,f1⟩:=r.cells (ci*4+1) (by omega);obtain⟨u2,p2,f2⟩:=r.cells (ci*4+2) (by omega);obtain⟨u3,p3,f3⟩:=r.cells (ci*4+3) (by omega);have af:Hid (nX w.1.size x.1.size WT w M G gc ci l (.slice (some ⟨b,o,none⟩) 4 cap)):=r;have ef:=r.cap;clear bq r a2)));go_ret2;obtain⟨h1,h2⟩:=af.o.done (true,[cm (g,d)],(g,d)) _ _ _ rfl a1.o.1 a1.o.2;have br:=af.o.ahead;exact⟨_,rfl,by rw[HZ.o];exact h1,h2,λK hK hO hC X=>by rw[HZ.o];exact af.o.doneK K hK (hO.l br) (hC.l br (λ_ _ e=>e)) (true,[cm (g,d)],(g,d)) _ _ _ rfl (L.o K hK X).1 (L.o K hK X).2⟩
theorem Di(s:ByteArray)(G:s.size<=60000)(w)(he:dD w)(R:bt kN ((ar s.1.1).getD 0 [])=3)(Q:(ar s.1.1).length=2):oU s w:=by
 have S:=Z λa (h:bL w a)=>he.l h
 clear he;have⟨H,i,T,V,E,I⟩:=il s G;have HM:=Z i;have J:=Z E;obtain⟨K,q⟩:∃u,H[0]?=some u:=⟨H[0]'(by omega),by simp⟩;have W:=E K (Kb q);have L:(ar s.1.1).getD 0 []=K.1.1:=by rw[<-i,Kn,Ku,q];rfl
 have f:(ar s.1.1).length=H.length:=by rw[<-i];simp
 have⟨X,r⟩:=nM (w.alloc (.cells #[U 0,U 0,U 0,nL,U 0] 71));have g0:=hA r;have F:=bA r;have Y:=Z λa (h:bL X a)=>Q2 (h.bl g0) (F.th h)
 have⟨mm,hm⟩:=(S.o X F).1;have k:Hid _:=I mm X hm;have HW:=Z r;clear r g0 F I hm i E;rw[f] at Q;obtain⟨t,x⟩:∃u,H[1]?=some u:=⟨H[1]'(by omega),by simp⟩;have a0:=J.o t (Kb x);have M:(ar s.1.1).getD 1 []=t.1.1:=by rw[<-HM.o,Kn,Ku,x];rfl
 have B:Hid (gm s.1.1=match cS t.1.1 with|none=>(cu,1)|some c=>((4,c,0,[],0),0)):=by
  unfold Hid gm;rw[R,f,Q,M,iO (by omega)]
  cases cS t.1.1<;>rfl
 have a1:Hid (∀a,cL 174 #[.string K] a (rT a (.tuple #[U 4,.bool true]))):=λa=>by have:=kt K a;rw[<-L,R] at this;exact this
 have a2:=Z λa=>sq a
 have a3:Hid (∀a,bL w a->cL 176 #[.string t] a λe a4=>∃n ok,e=.returned (.tuple #[U n,.bool ok])/\(cS t.1.1=if ok=true then some n else none)/\wf n/\bL a a4):=λa h=>kV t (by omega) a (S.o a h)
 have HU:=Z2 q x;rw[Q] at k;clear L f q W x a0 M  R Q T V J HM S;go_enter func140,ntmps140;go_wp2_with fail;rw[<-HW.o];go_at_call 109;refine Calls.mono k.o ?_;rintro e w1 ⟨SB,av,rfl,b0,b1,N,O,C,g⟩;have x0:=g 0 K HU.o.1;have HX:Hid (∀a,bL w1 a->a.cell? (pA SB 1)=some (.string t)):=λa h=>(h.cell (p:=pA SB 1) C).trans (g 1 t HU.o.2)
 have a5:=Z N;clear g k HW O N;go_wp2_with fail;go_at_call 174;refine Calls.mono (a1.o _) ?_;rintro e w2 ⟨rfl,l⟩;have b4:=Z l;have x1:=HX.o w2 l;have a6:=Kd C l.size;have P:=Z (a5.o.th l);clear l x0;go_wp2_with fail;go_at_call 175;refine Calls.mono (a2.o _) ?_;rintro e w3 ⟨rfl,rfl⟩;go_wp2_with fail;go_at_call 176;refine Calls.mono (a3.o _ (Y.o _ P.o).2) ?_;rintro e w4 ⟨n,ok,rfl,j,D,y⟩;have z:=P.o.th y;have b6:=Kd a6 y.size;clear HX x1
 cases ok with
 |false=>
  have b:=Z (by rw[B.o,j];rfl:gm s.1.1=(cu,1));have m:=z;clear j y z;have⟨d,o⟩:=Y.o w4 m;have lb:=io d;have⟨z0,z1,z2,z3,z4⟩:=aF d;have f0:=fZ d 0;have f1:=fZ d 1;have f2:=fZ d 2;have f3:=fZ d 3;have f4:=fZ d 4;have A:=Z o;clear d o m;go_wp2_with fail;refine Ka (v:=.tuple #[.agg #[U 0,U 0,U 0,nL,U 0],U 1]) ?_ rfl ⟨_,by rw[b.o],by rw[b.o];exact dg _ _,?_⟩
  ·rw[K8 rfl];go_simp
  exact(A.o.s5 lE)
 |true=>
  have b:=Z (by rw[B.o,j];rfl:gm s.1.1=((4,n,0,[],0),0));have a7:=Z D;have m:=z;clear j y z D;have⟨d,o⟩:=Y.o w4 m;have lb:=io d;have⟨z0,z1,z2,z3,z4⟩:=aF d;have f0:=fZ d 0;have f1:=fZ d 1;have f2:=fZ d 2;have f3:=fZ d 3;have f4:=fZ d 4;have A:=Z o;clear d o m;go_wp2_with fail;refine Ka (v:=.tuple #[.agg #[U 4,U n,U 0,nL,U 0],U 0]) ?_ rfl ⟨_,by rw[b.o],by rw[b.o];exact λwF _ _=>⟨_,rfl,(by unfold wf;decide:wf (4:Int)),a7.o,(by unfold wf;decide:wf (0:Int)),bV _ _⟩,?_⟩
  ·rw[K8 rfl];go_simp
  exact(A.o.s5 lE).alloc (by simp;exact A.o.size) _
theorem F1(s:ByteArray)(a:s.size<=60000)(w)(b:dD w):oU s w:=by
 by_cases c:bt kN ((ar s.1.1).getD 0 [])<0\/(bt kN ((ar s.1.1).getD 0 [])=3/\(ar s.1.1).length≠2)\/(bt kN ((ar s.1.1).getD 0 [])<3/\(ar s.1.1).length≠3)
 ·exact Ft s a w b c
 have d:=D8 ((ar s.1.1).getD 0 [])
 by_cases e:bt kN ((ar s.1.1).getD 0 [])=3
 ·exact Di s a w b e (by omega)
 by_cases f:bt kN ((ar s.1.1).getD 0 [])=2
 ·exact Cz s a w b f (by omega)
 by_cases g:bt kN ((ar s.1.1).getD 0 [])=1
 ·exact yz 2 (.inr rfl) s a w b g (by omega)
 exact yz 1 (.inl rfl) s a w b (by omega) (by omega)
