import Derived.Test.YtjdnfhkkkejcfaaGreatDoorWd27
import Derived.Test.YtjdnfhkkkejcfaaGreatDoorWd31
set_option linter.all false
set_option maxRecDepth 100000
set_option maxHeartbeats 8000000
namespace Go.Proofs.YtjdnfhkkkejcfaaGreatDoor
open Go.RowKit Go.Maps Go.Proofs.Tryz
def Cr(B:Nat)(w:World)(xs:List Value)(a:List az):Prop:=
 xs.length=a.length*5/\(∀u∈xs,u.oneCell'=true)/\∀i r,a[i]?=some r->∃b,xs[i*5]?=some (U r.1)/\xs[i*5+1]?=some (U r.2.1)/\xs[i*5+2]?=some (U r.2.2.1)/\xs[i*5+3]?=some b/\xs[i*5+4]?=some (U r.2.2.2.2)/\cI B w (.agg #[U r.1,U r.2.1,U r.2.2.1,b,U r.2.2.2.2]) r
theorem Cr.l{B B' w w' xs rs}(h:Cr B w xs rs)(a:Below B' w w')(b:B<=B'):Cr B w' xs rs:=by obtain⟨c,d,e⟩:=h;refine⟨c,d,λi r f=>?_⟩;have⟨g,j,k,l,m,n,o⟩:=e i r f;exact⟨g,j,k,l,m,n,o.l a b⟩
theorem Cr.append{B w xs ys rs ss}(h:Cr B w xs rs)(k:Cr B w ys ss):Cr B w (xs++ys) (rs++ss):=by
 obtain⟨l,m,n⟩:=h;obtain⟨o,p,q⟩:=k;refine⟨by simp[l,o];omega,λu s=>?_,λi r a=>?_⟩
 ·rcases KB.1 s with h|h
  ·exact m u h
  exact p u h
 by_cases t:i<rs.length
 ·rw[Kh t] at a;have⟨b,c,d,e,f,g,j⟩:=n i r a;exact⟨b,by rw[Kh (by omega)];exact c,by rw[Kh (by omega)];exact d,by rw[Kh (by omega)];exact e,by rw[Kh (by omega)];exact f,by rw[Kh (by omega)];exact g,j⟩
 rw[Kk (by omega)] at a;obtain⟨b,c,d,e,f,g,j⟩:=q _ r a;refine⟨b,?_,?_,?_,?_,?_,j⟩
 ·rw[Kk (by omega),show i*5-xs.length=(i-rs.length)*5 by omega];exact c
 ·rw[Kk (by omega),show i*5+1-xs.length=(i-rs.length)*5+1 by omega];exact d
 ·rw[Kk (by omega),show i*5+2-xs.length=(i-rs.length)*5+2 by omega];exact e
 ·rw[Kk (by omega),show i*5+3-xs.length=(i-rs.length)*5+3 by omega];exact f
 rw[Kk (by omega),show i*5+4-xs.length=(i-rs.length)*5+4 by omega];exact g
theorem IV{B w}{g:List az}{b o:Nat}(h:∀i r,g[i]?=some r->vf B w b (o+i*5) r):∃d,Cr B w d g/\∀j u,d[j]?=some u->w.cell? ⟨b,o+j,none⟩=some u:=by
 have l:∀j,j<g.length*5->∃v,w.cell? ⟨b,o+j,none⟩=some v/\v.oneCell'=true:=by
  intro j m;obtain⟨r,n⟩:∃r,g[j / 5]?=some r:=⟨g[j / 5]'(by omega),by simp⟩;obtain⟨p,q,s,t,x,y,z⟩:=h _ r n;have k:j % 5=0\/j % 5=1\/j % 5=2\/j % 5=3\/j % 5=4:=by omega
  rcases k with k|k|k|k|k
  ·exact⟨_,by rw[show o+j=o+j / 5*5 by omega];exact q,rfl⟩
  ·exact⟨_,by rw[show o+j=o+j / 5*5+1 by omega];exact s,rfl⟩
  ·exact⟨_,by rw[show o+j=o+j / 5*5+2 by omega];exact t,rfl⟩
  ·refine⟨p,by rw[show o+j=o+j / 5*5+3 by omega];exact x,?_⟩;obtain⟨a,c,e,_⟩:=z.shape;simp at e;rw[e];rfl
  exact⟨_,by rw[show o+j=o+j / 5*5+4 by omega];exact y,rfl⟩
 obtain⟨d,L,f⟩:=iU _ _ l;refine⟨d,⟨L,λu M=>?_,λi r n=>?_⟩,λj u m=>(f j u m).1⟩
 ·have⟨j,m⟩:=LJ.1 M;exact(f j u m).2
 have N:i<g.length:=(K9.1 n).1;have⟨p,q,s,t,x,y,z⟩:=h i r n;obtain⟨O,A⟩:∃v,d[i*5]?=some v:=⟨d[i*5]'(by omega),by simp⟩;obtain⟨P,C⟩:∃v,d[i*5+1]?=some v:=⟨d[i*5+1]'(by omega),by simp⟩;obtain⟨Q,D⟩:∃v,d[i*5+2]?=some v:=⟨d[i*5+2]'(by omega),by simp⟩;obtain⟨R,E⟩:∃v,d[i*5+3]?=some v:=⟨d[i*5+3]'(by omega),by simp⟩;obtain⟨S,F⟩:∃v,d[i*5+4]?=some v:=⟨d[i*5+4]'(by omega),by simp⟩;have G:=(f _ _ A).1;have H:=(f _ _ C).1;have I:=(f _ _ D).1;have J:=(f _ _ E).1;have K:=(f _ _ F).1;rw[q] at G;rw[show o+(i*5+1)=o+i*5+1 by omega,s] at H;rw[show o+(i*5+2)=o+i*5+2 by omega,t] at I;rw[show o+(i*5+3)=o+i*5+3 by omega,x] at J;rw[show o+(i*5+4)=o+i*5+4 by omega,y] at K
 cases G
 cases H
 cases I
 cases J
 cases K;exact⟨p,A,C,D,E,F,z⟩
def I9(w:World)(P:Value->az->Prop)(v:Value)(d:List az):Prop:=∀i r b o n a c,d[i]?=some r->v=.slice (some ⟨b,o,none⟩) n a->w.cell? ⟨b,o+i*5+3,none⟩=some c->P (.agg #[U r.1,U r.2.1,U r.2.2.1,c,U r.2.2.2.2]) r
def FU(P:Value->az->Prop)(xs:List Value)(b:List az):Prop:=∀i r,b[i]?=some r->∃a,xs[i*5+3]?=some a/\P (.agg #[U r.1,U r.2.1,U r.2.2.1,a,U r.2.2.2.2]) r
theorem FU.append{P:Value->az->Prop}{xs ys rs ss}(h:FU P xs rs)(k:FU P ys ss)(d:xs.length=rs.length*5):FU P (xs++ys) (rs++ss):=by
 intro i r a
 by_cases c:i<rs.length
 ·rw[Kh c] at a;have⟨b,e,p⟩:=h i r a;exact⟨b,by rw[Kh (by omega)];exact e,p⟩
 rw[Kk (by omega)] at a;obtain⟨b,e,p⟩:=k _ r a;exact⟨b,by rw[Kk (by omega),show i*5+3-xs.length=(i-rs.length)*5+3 by omega];exact e,p⟩
theorem Gi{B L:Nat}{w w':World}{v:Value}{xs:List Value}{b:List az}(h:w'.ownsRow L 70 5 v b.length xs)(l:Cr B w' xs b)(m:FU (gi L w) xs b)(n:bL w w'):qt L w' v b:=by
 obtain⟨a,e,rfl,o,p,q⟩:=an h;refine⟨a,e,rfl,o,p,λi r f=>?_⟩;have D:i<b.length:=(K9.1 f).1;obtain⟨g,rfl,j,s⟩:=q (by omega);obtain⟨t,u,x,y,k,z,-⟩:=l.2.2 i r f;have⟨A,d,C⟩:=m i r f;rw[k] at d
 cases d;have c:=aK h;refine⟨g,0,t,rfl,j,?_,?_,?_,?_,?_,nI C n⟩
 ·rw[Kp];exact c _ _ u
 ·rw[Kp];exact c _ _ x
 ·rw[Kp];exact c _ _ y
 ·rw[Kp];exact c _ _ k
 rw[Kp];exact c _ _ z
theorem qt.pr{L w v rs}(h:qt L w v rs):I9 w (gi L w) v rs:=by
 intro i r b o n f q g j k;obtain⟨a,s,e,-,-,l⟩:=h;obtain⟨t,u,m,c,-,-,-,-,d,-,p⟩:=l i r g;rw[j] at e;simp at e;obtain⟨rfl,-,-⟩:=e;simp at c;obtain⟨rfl,rfl⟩:=c;rw[k] at d
 cases d;exact p
theorem Br{B L:Nat}{w:World}{v:Value}{xs:List Value}{b:List az}(h:w.ownsRow L 70 5 v b.length xs)(j:Cr B w xs b)(k:B<=w.1.size):dh w.1.size w v b:=by
 obtain⟨a,e,rfl,l,m,n⟩:=an h;refine⟨a,e,rfl,l,m,λi r d=>?_⟩;have y:i<b.length:=(K9.1 d).1;obtain⟨g,rfl,o,f⟩:=n (by omega);have⟨p,q,s,t,u,x,d⟩:=j.2.2 i r d;have c:=aK h;refine⟨g,0,rfl,f,p,?_,?_,?_,?_,?_,iW d k⟩
 ·rw[Kp];exact c _ _ q
 ·rw[Kp];exact c _ _ s
 ·rw[Kp];exact c _ _ t
 ·rw[Kp];exact c _ _ u
 rw[Kp];exact c _ _ x
def pC(B:Nat)(w:World)(v:Value)(d:List az):Prop:=
 ∃a c,v=.slice a d.length c/\d.length<=c/\c<=maxLen/\∀i r,d[i]?=some r->∃b o,a=some ⟨b,o,none⟩/\vf B w b (o+i*5) r
theorem dh.conds{B w v rs}(h:dh B w v rs):pC B w v rs:=by obtain⟨a,c,d,f,g,j⟩:=h;refine⟨a,c,d,f,g,λi r l=>?_⟩;have⟨b,o,e,_,k⟩:=j i r l;exact⟨b,o,e,k⟩
theorem pC.l{B w w' v rs}(h:pC B w v rs)(c:bL w w')(j:B<=w.1.size):pC B w' v rs:=by obtain⟨a,f,k,l,m,n⟩:=h;refine⟨a,f,k,l,m,λi r q=>?_⟩;have⟨b,o,e,s,g,t,u,x,y,z⟩:=n i r q;have d:=KE _ _ g;exact⟨b,o,e,s,(c.cell (p:=⟨b,o+i*5,none⟩) d).trans g,(c.cell (p:=⟨b,o+i*5+1,none⟩) d).trans t,(c.cell (p:=⟨b,o+i*5+2,none⟩) d).trans u,(c.cell (p:=⟨b,o+i*5+3,none⟩) d).trans x,(c.cell (p:=⟨b,o+i*5+4,none⟩) d).trans y,z.l c j⟩
theorem Fu(n:Nat)(w)(u:n*56<=140737488355328):
  cL 79 #[nL,U n] w λe q=>∃v,e=.returned v/\q.ownsRow w.1.size 70 5 v 0 []/\bL w q:=by
 have j:=ai
 by_cases r:n=0
 ·subst r;go_enter func79,ntmps79;go_wp2;go_ret;exact⟨_,rfl,⟨rfl,.inl ⟨rfl,rfl⟩⟩,Kf _ _⟩
 obtain⟨b,k,c,s,d⟩:=so;have x:¬((n:Int)<0):=by omega
 have y:(n:Int)>0:=by omega
 have⟨G,i⟩:=nM (grownCap w n 0 70);have t:n<=G:=by rw[i];exact grownCap_ge w _ _ _
 have a:G<=maxLen:=by rw[i];exact Mm w n 0 _ (by omega)
 obtain⟨z,l⟩:∃z:Value,z=.agg #[U 0,U 0,U 0,nL,U 0]:=⟨_,rfl⟩;have m:z.cells.size=5:=by rw[l];rfl
 rw[<-l] at c
 have o:∀p,(Builtin.append_ #[52,3] p #[nL,U n]).run prog w=
   .ok (.slice (MZ w) n G) (w.drew.alloc (.cells ((Builtin.zeroCells z.cells n)++Builtin.zeroCells z.cells (G-n)) 70)):=λp=>by
  have h:=Ma w 52 3 p 70 b z .i64 .i64 Tryz.underlying52 Tryz.underlying3 k c none 0 0 [] (Lk w.drew b.size 0 0 0) n (by omega) (by omega) (by omega) (by omega)
   (by rw[d];omega)
   (by rw[Kp];exact MV (by omega) (by rw[d];omega))
  simpa [<-i] using h
 have f:Hid ((w.drew.alloc (.cells ((Builtin.zeroCells z.cells n)++Builtin.zeroCells z.cells (G-n)) 70)).ownsRow w.1.size 70 5 (.slice (MZ w) 0 G) 0 []):=by refine⟨rfl,.inr ⟨w.1.size,G,_,rfl,Ke _,(Kr w.drew _).1,Ks _,a,?_,by simp⟩⟩;rw[MX,M7,M7,m,<-Mi];congr 1;omega
 have g:Hid (bL w (w.drew.alloc (.cells ((Builtin.zeroCells z.cells n)++Builtin.zeroCells z.cells (G-n)) 70))):=bR.drew.alloc lE _;clear i l;rw[j] at a;generalize (Builtin.zeroCells z.cells n)++Builtin.zeroCells z.cells (G-n)=A at*;go_enter func79,ntmps79;go_wp2_with (at_builtin;refine Kw _ rfl _ _ _ _ rfl _ _ rfl rfl _ _ (o _) ?_);go_ret;exact⟨_,rfl,f.o,g.o⟩
theorem ou(B base:Nat)(N:TypeId)(v sv:Value)(n:Nat)(xs:List Value)(rs)(W:World)(d:W.ownsRow base 70 5 v n xs)(T:pC B W sv rs)(V:(n+rs.length)*56<=140737488355328)(m:base<=W.1.size):
  ∃C x w,(Builtin.append_ #[52,52] N #[v,sv]).run prog W=.ok C x/\x.ownsRow base 70 5 C (n+rs.length) (xs++w)/\Cr B W w rs/\Below base W x/\∀P:Value->az->Prop,I9 W P sv rs->FU P w rs:=by
 obtain⟨y,t,E,F,G⟩:=so;obtain⟨a,z,rfl,X,Y,q⟩:=T
 cases a with
 |none=>
  have h0:rs=[]:=by
   cases rs with
   |nil=>rfl
   |cons r l=>have⟨b,o,e,_⟩:=q 0 r rfl;cases e
  subst h0;refine⟨v,W,[],?_,by simpa using d,⟨rfl,λu H=>(by cases H),λi r f=>(by simp at f)⟩,Kf _ _,λP _ i r f=>by simp at f⟩
  have hc:v=nL\/∃g c,v=.slice (some g) n c/\n<=c:=by
   rcases d.2 with ⟨h,_⟩|⟨g,c,I,h,_,_,h',_⟩
   ·exact .inl h
   exact .inr ⟨_,c,h,h'⟩
  have O:=Lk (P:=prog) W y.size 0 0 z
  rcases hc with rfl|⟨g,c,rfl,J⟩
  ·simp[Builtin.append_,KY Tryz.underlying52,sizeOf,typeInfo,t,Builtin.lenOf,O]
  simp[Builtin.append_,KY Tryz.underlying52,sizeOf,typeInfo,t,Builtin.lenOf,O,J,storeCells]
 |some Q=>
  obtain⟨w,s,p⟩:∃xs,Cr B W xs rs/\∀j u,xs[j]?=some u->W.cell? (Q.add j)=some u:=by
   by_cases A:rs=[]
   ·subst A;exact⟨[],⟨rfl,λu H=>(by cases H),λi r f=>(by simp at f)⟩,λj u K=>(by simp at K)⟩
   obtain⟨r,f⟩:∃r,rs[0]?=some r:=by
    cases rs with
    |nil=>exact absurd rfl A
    |cons r l=>exact⟨r,rfl⟩
   have⟨b,o,e,_⟩:=q 0 r f
   cases e
   obtain⟨xs,L,M⟩:=IV (b:=b) (o:=o) λi r f=>by
    have⟨b',o',e,k⟩:=q i r f
    cases e;exact k
   exact⟨xs,L,λj u K=>by rw[eM];exact M j u K⟩
  obtain⟨C,x,L,M,h3,h4⟩:=LB (P:=prog) W base 52 N 70 y _ 5 56 Tryz.underlying52 t E F G rfl (by decide) v n xs d Q rs.length z w s.1 p s.2.1 (by rw[ai];omega) V m;refine⟨C,x,w,L,M,s,bR.grown h3 m λk D=>?_,λP hP i r f=>?_⟩
  case refine_2=>
   obtain⟨R,-,-,-,S,-,-⟩:=s.2.2 i r f;have⟨b,o,e,_⟩:=q i r f
   cases e;have c:=p _ _ S;rw[eM,<-KX] at c;exact⟨R,S,hP i r b o _ _ R f rfl c⟩
  rcases d.2 with ⟨h,_⟩|⟨g,c,I,h,hg,_⟩
  ·rw[h] at D;simp[Value.ownBlock] at D
  rw[h] at D;simp[Value.ownBlock] at D;omega
theorem pC.shapeQ{B w v rs}(h:pC B w v rs):∃a b,v=.slice a rs.length b/\rs.length<=b:=by obtain⟨a,b,rfl,h,_⟩:=h;exact⟨a,b,rfl,h⟩
theorem EF(B v0 v1 r0 r1)(bs:Nat)(w)(D:pC B w v0 r0)(q:pC B w v1 r1)(Y:B<=w.1.size)(K:bs<w.1.size)(L:w.cell? (pA bs 0)=some v0)(M:w.cell? (pA bs 1)=some v1)(hn:(r0.length+r1.length)*56<=140737488355328):
  cL 48 #[.slice (sO bs) 2 2] w λe l=>∃v,e=.returned v/\∃j,l.ownsRow w.1.size 70 5 v (r0++r1).length j/\Cr B l j (r0++r1)/\bL w l/\∀P:Value->az->Prop,I9 w P v0 r0->I9 w P v1 r1->FU P j (r0++r1):=by
 have H0:=Z D;have H1:=Z q;obtain⟨a0,N,e0,al⟩:=D.shapeQ;obtain⟨a1,O,e1,ao⟩:=q.shapeQ;have E0:=Z e0;have E1:=Z e1;rw[e0] at L;rw[e1] at M
 have HC:Hid (∀l,bL w l->l.cell? (pA bs 0)=some (.slice a0 r0.length N)/\l.cell? (pA bs 1)=some (.slice a1 r1.length O)):=λl h=>⟨(h.cell (p:=pA bs 0) K).trans L,(h.cell (p:=pA bs 1) K).trans M⟩
 clear e0 e1 D q
 have b7:∀k:Nat,k<=2->Hid ((([r0,r1].take k).flatten).length<=r0.length+r1.length):=λk hk=>by
  have s:k=0\/k=1\/k=2:=by omega
  rcases s with rfl|rfl|rfl<;>(unfold Hid;simp)
 generalize Q:r0.length=z at*;generalize R:r1.length=E at*;have S:=Z Q;have a4:=Z R;clear Q R;go_enter func48,ntmps48;go_wp2;go_loop [3,11] (λsz i=>∃k:Nat,k<=2/\i=U k/\sz=U (if k=0 then 0 else if k=1 then (z:Int) else ((z:Int)+E))) (λ_ i=>2-(intOf i).toNat)
 case atStart=>exact⟨0,by omega,rfl,rfl⟩
 case round=>
  obtain⟨k,hk,rfl,rfl⟩:=hrel;have s:k=0\/k=1\/k=2:=by omega
  rcases s with rfl|rfl|rfl
  ·go_wp2;exact⟨⟨1,by omega,rfl,by simp⟩,by simp[intOf]⟩
  ·have b0:¬((z:Int)+(E:Int)<0):=by omega
   have b9:wrap64 ((z:Int)+(E:Int))=(z:Int)+E:=by unfold wrap64;omega
   go_wp2;exact⟨⟨2,by omega,rfl,by simp⟩,by simp[intOf]⟩
  have hG:Hid (∀l,cL 79 #[nL,U ((z:Int)+E)] l λe T=>∃v,e=.returned v/\T.ownsRow l.1.size 70 5 v 0 []/\bL l T):=λl=>by have:=Fu (z+E) l hn;rw[show ((z+E:Nat):Int)=(z:Int)+E by omega] at this;exact this
  go_wp2_with fail;go_at_call 79;refine(hG.o _).mono ?_;rintro e w1 ⟨v,rfl,t,a5⟩;have HO:=Z t;clear t;go_wp2_with fail;go_loopw [6,27] (λnv i wr=>∃ (k:Nat) (j:List Value),k<=2/\i=U k/\Hid (wr.ownsRow w.1.size 70 5 nv (([r0,r1].take k).flatten).length j)/\Hid (Cr B wr j ([r0,r1].take k).flatten/\∀P:Value->az->Prop,I9 w P v0 r0->I9 w P v1 r1->FU P j ([r0,r1].take k).flatten)/\bL w wr) (λ_ i _=>2-(intOf i).toNat)
  case atStart=>exact⟨0,[],by omega,rfl,HO,⟨⟨rfl,λu hu=>(by cases hu),λi r A=>(by simp at A)⟩,λP _ _ i r A=>by simp at A⟩,a5⟩
  case round=>
   obtain⟨k,j,hk,rfl,m,d,f⟩:=hrel;obtain⟨c0,c1⟩:=HC.o _ f;have s:k=0\/k=1\/k=2:=by omega
   rcases s with rfl|rfl|rfl
   ·obtain⟨v',V,C,g,a,x,c,y⟩:=ou B w.1.size 52 _ _ 0 j r0 wr m.o (H0.o.l f Y) (by rw[S.o];omega) f.size;rw[E0.o] at g
    have F:Hid (V.ownsRow w.1.size 70 5 v' (([r0,r1].take 1).flatten).length (j++C)):=by
     unfold Hid;have e:(([r0,r1].take 1).flatten).length=0+r0.length:=by simp
     rw[e];exact a
    have G:Hid (Cr B V (j++C) ([r0,r1].take 1).flatten/\∀P:Value->az->Prop,I9 w P v0 r0->I9 w P v1 r1->FU P (j++C) ([r0,r1].take 1).flatten):=by
     have:=(d.o.1.append x).l c Y;refine⟨by simpa using this,λP D q=>?_⟩
     have hq:FU P C r0:=y P λi r b o n H rv A W hc=>D i r b o n H rv A W (by
      obtain⟨_,_,e,h⟩:=H0.o;have⟨b',o',I,k0⟩:=h.2.2 i r A;rw[W] at e;simp at e;rw[<-e.1] at I;simp at I;obtain⟨rfl,rfl⟩:=I;have hl:=KE _ _ k0.choose_spec.1;rw[<-f.cell (p:=⟨b,o+i*5+3,none⟩) hl]
      exact hc)
     have:=(d.o.2 P D q).append hq d.o.1.1
     simpa using this
    have J:=f.trans c;clear a x c m d y;go_wp2_with (at_builtin;refine Kw _ rfl _ _ _ _ rfl _ _ rfl rfl _ _ g ?_);exact⟨⟨1,_,by omega,rfl,F,G,J⟩,by simp[intOf]⟩
   ·obtain⟨v',V,C,g,a,x,c,y⟩:=ou B w.1.size 52 _ _ r0.length j r1 wr (by have:=m.o;simpa using this) (H1.o.l f Y) (by rw[S.o,a4.o];omega) f.size;rw[E1.o] at g
    have F:Hid (V.ownsRow w.1.size 70 5 v' (([r0,r1].take 2).flatten).length (j++C)):=by
     unfold Hid;have e:(([r0,r1].take 2).flatten).length=r0.length+r1.length:=by simp
     rw[e];exact a
    have G:Hid (Cr B V (j++C) ([r0,r1].take 2).flatten/\∀P:Value->az->Prop,I9 w P v0 r0->I9 w P v1 r1->FU P (j++C) ([r0,r1].take 2).flatten):=by
     have:=(d.o.1.append x).l c Y;refine⟨by simpa using this,λP D q=>?_⟩
     have hq:FU P C r1:=y P λi r b o n H rv A W hc=>q i r b o n H rv A W (by
      obtain⟨_,_,e,h⟩:=H1.o;have⟨b',o',I,k0⟩:=h.2.2 i r A;rw[W] at e;simp at e;rw[<-e.1] at I;simp at I;obtain⟨rfl,rfl⟩:=I;have hl:=KE _ _ k0.choose_spec.1;rw[<-f.cell (p:=⟨b,o+i*5+3,none⟩) hl]
      exact hc)
     have:=(d.o.2 P D q).append hq d.o.1.1
     simpa using this
    have J:=f.trans c;clear a x c m d y;go_wp2_with (at_builtin;refine Kw _ rfl _ _ _ _ rfl _ _ rfl rfl _ _ g ?_);exact⟨⟨2,_,by omega,rfl,F,G,J⟩,by simp[intOf]⟩
   have q:=m.o;have h2:=d.o;have e:([r0,r1].take 2).flatten=r0++r1:=by simp
   rw[e] at q h2;have ae:Hid _:=q;have X:Hid _:=h2;clear m d q h2 e;go_wp2;go_ret;exact⟨_,rfl,_,ae.o,X.o.1,f,X.o.2⟩
section
theorem np(i b:Nat)(h:i<5)(w:World):(Instr.indexAt 118 (.slice (sO b) 5 5) (U i)).run prog w=.ok (.pointer (some ⟨b,i,none⟩)) w:=by
 have a:(i:Int)<5:=by omega
 have c:(0:Int)<=(i:Int):=by omega
 go_simp
theorem GH{i:Nat}(h:i<5):vC[i]?=some (.string (dU (vN.getD i []))):=by
 have:i=0\/i=1\/i=2\/i=3\/i=4:=by omega
 rcases this with rfl|rfl|rfl|rfl|rfl<;>rfl
theorem IQ{i:Nat}(h:i<5):fC[i]?=some (.string (dU (fN.getD i []))):=by
 have:i=0\/i=1\/i=2\/i=3\/i=4:=by omega
 rcases this with rfl|rfl|rfl|rfl|rfl<;>rfl
theorem Ao(l):Lib.strCells (dU l)=Lib.byteCells l:=by unfold dU;simp[Lib.strCells,Lib.byteCells]
theorem mI(l m:Bs):Lib.byteCells (l++m)=Lib.byteCells l++Lib.byteCells m:=by simp[Lib.byteCells]
theorem qd(l:Bs):(Lib.byteCells l).length=l.length:=by simp[Lib.byteCells]
theorem ph(l):(dU l).size=l.length:=by simp[dU,ByteArray.size]
theorem j8(B b)(l m:Bs)(w)(h:dY B b (Lib.byteCells l) w)(a:l.length+m.length<=140737488355328)(d:B<=w.1.size):
  cL 186 #[.pointer (sO b),.string (dU m)] w λe c=>(∃n:Int,e=.returned (.tuple #[U n,.nilIface]))/\dY B b (Lib.byteCells (l++m)) c/\Below B w c/\iN b w c:=by
 refine(DI B b (Lib.byteCells l) (dU m) w h (by rw[qd,ph];exact a) d).mono ?_;rintro e c ⟨rfl,f,g,i⟩;rw[Ao,<-mI] at f;exact⟨⟨_,rfl⟩,.inr f,g,i⟩
theorem wT(B b)(l:Bs)(x:UInt8)(w)(h:dY B b (Lib.byteCells l) w)(a:l.length+1<=140737488355328)(d:B<=w.1.size):
  cL 212 #[.pointer (sO b),.int .u8 x.toNat] w λe c=>e=.returned .nilIface/\dY B b (Lib.byteCells (l++[x])) c/\Below B w c/\iN b w c:=by
 refine(FY B b (Lib.byteCells l) x.toNat w h (by rw[qd];exact a) d).mono ?_;rintro e c ⟨rfl,f,g,i⟩;refine⟨rfl,.inr ?_,g,i⟩;rw[mI];exact f
def sX(B b:Nat)(cs:Array Value)(kc ki kw i R:Nat)(O:Obj)(l nm:Bs)(W:World)(fs:Nat->Value->Prop)(w:World):Prop:=
 w.1[R]?=some O/\
 (∀v,fs kc v->∃a:Nat,v=.slice (sO a) 5 5/\w.1[a]?=some (.cells cs 9 (0,0))/\a≠b)/\
 (∀v,fs ki v->∃a:Nat,v=.pointer (some ⟨a,i,none⟩)/\w.1[a]?=some (.cells cs 9 (0,0))/\a≠b)/\
 ((∀v,¬fs kw v)->bL W w)/\((∃v,fs kw v)->dY B b (Lib.byteCells (l++nm)) w/\Below B W w/\W.1.size<=w.1.size)
def Jx(kc ki a i:Nat)(nm:Bs)(k:Nat)(v:Value):Prop:=if k=kc then ∃b:Nat,v=.slice (sO b) 5 5 else if k=ki then ∃b:Nat,v=.pointer (some ⟨b,i,none⟩) else if k=a then v=.string (dU nm) else ∃n:Int,v=.tuple #[U n,.nilIface]
theorem vh(kc ki kl i nm k):∃v,Jx kc ki kl i nm k v:=by
 unfold Jx
 split
 ·exact⟨_,0,rfl⟩
 split
 ·exact⟨_,0,rfl⟩
 split
 ·exact⟨_,rfl⟩
 exact⟨_,0,rfl⟩
def rK(R:Nat)(O:Obj):Type:={ w':World // w'.1[R]?=some O }
section
variable {B b:Nat} {cs:Array Value} {kc ki kw i R:Nat} {O:Obj} {l nm:Bs} {W w:World} {fs:Nat->Value->Prop}
theorem sX.start(h:W.1[R]?=some O):sX B b cs kc ki kw i R O l nm W (λ_ _=>False) W.drew:=⟨h,λ_ h=>h.elim,λ_ h=>h.elim,λ_=>bR.drew,λh=>h.elim λ_ h=>h.elim⟩
theorem sX.size(h:sX B b cs kc ki kw i R O l nm W fs w):W.1.size<=w.1.size:=by
 by_cases a:∃v,fs kw v
 ·exact(h.2.2.2.2 a).2.2
 exact(h.2.2.2.1 λv c=>a ⟨v,c⟩).size
theorem sX.call(h:sX B b cs kc ki kw i R O l nm W fs w)(p:ki≠kc)(q:kw≠kc)(s:b<W.1.size)(t:B<=W.1.size):sX B b cs kc ki kw i R O l nm W (d9 fs kc (.slice (sO w.1.size) 5 5)) (w.alloc (.cells cs 9)):=by
 have r:=h.size;have a:bL w (w.alloc (.cells cs 9)):=bR.alloc lE _;have d:∀k o,w.1[k]?=some o->(w.alloc (.cells cs 9)).1[k]?=some o:=λk o n=>(a.block k (io n)).trans n
 refine⟨d _ _ h.1,λv c=>?_,λv c=>?_,λj=>?_,λj=>?_⟩
 ·rcases c with c|⟨_,rfl⟩
  ·have⟨m,e,f,g⟩:=h.2.1 v c;exact⟨m,e,d _ _ f,g⟩
  exact⟨_,rfl,(Kr w _).1,by omega⟩
 ·rcases c with c|⟨e,_⟩
  ·have⟨m,e,f,g⟩:=h.2.2.1 v c;exact⟨m,e,d _ _ f,g⟩
  exact absurd e p
 ·exact Below.tO (h.2.2.2.1 λv c=>j v (.inl c)) a r
 obtain⟨v,c⟩:=j
 rcases c with c|⟨e,_⟩
 ·have⟨f,g,u⟩:=h.2.2.2.2 ⟨v,c⟩;exact⟨dY.l f a,g.trans (a.mono (by omega)),by simp;omega⟩
 exact absurd e q
theorem sX.idx{c:Nat}(h:sX B b cs kc ki kw i R O l nm W fs w)(g:kc≠ki)(j:kw≠ki)(d:fs kc (.slice (sO c) 5 5)):sX B b cs kc ki kw i R O l nm W (d9 fs ki (.pointer (some ⟨c,i,none⟩))) w:=by
 refine⟨h.1,λv a=>?_,λv a=>?_,λf=>h.2.2.2.1 λv a=>f v (.inl a),λf=>?_⟩
 ·rcases a with a|⟨e,_⟩
  ·exact h.2.1 v a
  exact absurd e g
 ·rcases a with a|⟨_,rfl⟩
  ·exact h.2.2.1 v a
  obtain⟨n,e,k,m⟩:=h.2.1 _ d;simp at e;subst e;exact⟨c,rfl,k,m⟩
 obtain⟨v,a⟩:=f
 rcases a with a|⟨e,_⟩
 ·exact h.2.2.2.2 ⟨v,a⟩
 exact absurd e j
theorem sX.other{k:Nat}{u}(h:sX B b cs kc ki kw i R O l nm W fs w)(d:kc≠k)(f:ki≠k)(g:kw≠k):sX B b cs kc ki kw i R O l nm W (d9 fs k u) w:=by
 refine⟨h.1,λv a=>?_,λv a=>?_,λc=>h.2.2.2.1 λv a=>c v (.inl a),λc=>?_⟩
 ·rcases a with a|⟨e,_⟩
  ·exact h.2.1 v a
  exact absurd e d
 ·rcases a with a|⟨e,_⟩
  ·exact h.2.2.1 v a
  exact absurd e f
 obtain⟨v,a⟩:=c
 rcases a with a|⟨e,_⟩
 ·exact h.2.2.2.2 ⟨v,a⟩
 exact absurd e g
theorem sX.name{v:Value}{d:Nat}(h:sX B b cs kc ki kw i R O l nm W fs w)(a:fs ki (.pointer (some ⟨d,i,none⟩)))(c:cs[i]?=some v):w.cell? ⟨d,i,none⟩=some v:=by obtain⟨g,e,f,_⟩:=h.2.2.1 _ a;simp at e;subst e;simp[World.cell?,f,c]
theorem sX.write(h:sX B b cs kc ki kw i R O l nm W fs w)(u:kc≠kw)(x:ki≠kw)(o:∀v,¬fs kw v)(f:dY B b (Lib.byteCells l) W)(y:∀c k,O≠.cells c 5 k)(z:R≠b)(g:l.length+nm.length<=140737488355328)(r:B<=W.1.size):
  cL 186 #[.pointer (sO b),.string (dU nm)] w λe s=>∃v,e=.returned v/\(∃n:Int,v=.tuple #[U n,.nilIface])/\sX B b cs kc ki kw i R O l nm W (d9 fs kw v) s:=by
 have a:=h.2.2.2.1 o;refine(j8 B b l nm w (dY.l f a) g (a.u r)).mono ?_;rintro e s ⟨⟨n,rfl⟩,A,C,m⟩;have t:∀c k,Obj.cells cs 9 (0,0)≠.cells c 5 k:=λc k e=>by simp at e
 refine⟨_,rfl,⟨n,rfl⟩,m.2 _ _ z h.1 y,λv d=>?_,λv d=>?_,λD=>absurd (.inr ⟨rfl,rfl⟩) (D _),λ_=>⟨A,(a.mono r).trans C,Kl a.size m.1⟩⟩
 ·rcases d with d|⟨e,_⟩
  ·have⟨p,e,q,j⟩:=h.2.1 v d;exact⟨p,e,m.2 _ _ j q t,j⟩
  exact absurd e u
 rcases d with d|⟨e,_⟩
 ·have⟨p,e,q,j⟩:=h.2.2.1 v d;exact⟨p,e,m.2 _ _ j q t,j⟩
 exact absurd e x
end
end
theorem xo{b k:Nat}{w w'}{cs:Array Value}{T:TypeId}(h:iN b w w')(a:k≠b)(c:T≠5)(d:w.1[k]?=some (.cells cs T (0,0))):w'.1[k]?=some (.cells cs T (0,0)):=
 h.2 k _ a d (λf g e=>by simp at e;exact c e.2.1)
theorem I4(o:Int)(h:1<=o/\o<=4)(w:World):(Instr.index 9 (.string ⟨#[61,33,60,62]⟩) (U (o-1))).run prog w=.ok (.int .u8 (gl o).toNat) w:=by
 have:o=1\/o=2\/o=3\/o=4:=by omega
 rcases this with rfl|rfl|rfl|rfl
 ·exact j5 jC 0 (by decide) w
 ·exact j5 jC 1 (by decide) w
 ·exact j5 jC 2 (by decide) w
 exact j5 jC 3 (by decide) w
theorem ya(Bc B b)(l:Bs)(cv)(r:aq)(w)(b7:∀g,Below B w g->dD g)(hc:bG Bc w cv r.1)(e3:Bc<=B)(C:dY B b (Lib.byteCells l) w)(hl:l.length<=1000000000)(hB:B<=w.1.size)(b8:bH r=0):
  cL 185 #[.pointer (sO b),.agg #[cv,U r.2]] w λe g=>e=.returned (.tuple #[])/\dY B b (Lib.byteCells (l++ct r)) g/\Below B w g:=by
 obtain⟨s,v⟩:=r;have⟨ci,hv,L⟩:=lV b8;simp only[] at ci hv L;obtain⟨a,t,rfl,ck,e6,a1⟩:=hc;simp only[] at ck a1;have HE:=Z b7;have b9:=Z a1;have ba:=Z L;have hT:Hid (ct (s,v)=d7 v++s.flatMap cq++[59]):=rfl;obtain⟨j,rfl⟩:∃i:Nat,v=i:=⟨v.toNat,by omega⟩;have bb:j<5:=by omega
 have cl:Hid (d7 (j:Int)=vN.getD j []):=by unfold Hid d7;simp
 have e9:=jM (j:Int)
 have cn:Hid (∀i:Nat,((s.take i).flatMap cq).length<=700000):=by
  intro i;have h1:=jQ (s.take i) λc hc=>L c (KZ hc)
  have h2:(s.take i).length<=10:=by rw[Kt];omega
  exact Kl h1 (Lz 70000 h2)
 have di:b<w.1.size:=by
  rcases C with h|h
  ·exact h.lt
  exact h.lt
 have ec:B<=b:=by
  rcases C with h|h
  ·exact h.1
  exact h.1
 have a2:Hid _:=C;clear a1 L b8 b7 C;show cL 185 #[.pointer (sO b),.agg #[.slice a s.length t,U j]] w _;generalize hn:s.length=n at*;have a3:=Z hn;clear hn;have ed:=ai;have⟨W0,E⟩:=nM (w.alloc (.cells #[.slice a n t,U j] 131));have bd:=bA E;have ee:=sA E;have M:Na W0 w.1.size #[.slice a n t,U j] 131:=by rw[E];exact(Kr w _).1
 have r1:=(ag M).2.1;go_enter func185,ntmps185;go_wp2_with fail;rw[<-E];clear E;have hO:∀F fr,Obj.cells #[.slice a n t,U j] 131 (0,0)≠.cells F 5 fr:=λF fr e=>by simp at e
 have G:Nonempty (rK w.1.size (.cells #[.slice a n t,U j] 131 (0,0))):=⟨⟨W0,M⟩⟩
 have u:Hid (∀fs g,sX B b vC 1 4 6 j w.1.size (.cells #[.slice a n t,U j] 131 (0,0)) l (d7 j) W0 fs g->∃z:rK w.1.size (.cells #[.slice a n t,U j] 131 (0,0)),g=z.1):=λfs g h=>⟨⟨g,h.1⟩,rfl⟩
 have q1:∀z:rK w.1.size (.cells #[.slice a n t,U j] 131 (0,0)),z.1.cell? (pW w 1)=some (U j):=λz=>(ag z.2).2.1
 have N:=Z (dY.l a2.o bd);refine iP (λk=>k==1||k==4||k==5||k==6) (sX B b vC 1 4 6 j w.1.size (.cells #[.slice a n t,U j] 131 (0,0)) l (d7 j) W0) (Jx 1 4 5 j (d7 j)) (vh _ _ _ _ _) (by kernel_rfl) (by kernel_rfl) (sX.start M) ?_;refine aP u.o rfl rfl ?_;go_big_quiet_step (fail);refine Km ?_;refine bw 187 #[] rfl rfl (λg=>by kernel_rfl) (λgs g x d q=>?_) (λv1 a5=>?_)
 ·refine(jE g).mono ?_;rintro e w2 ⟨rfl,rfl⟩;exact⟨_,rfl,⟨_,rfl⟩,x.call (by decide) (by decide) (by omega) (by omega)⟩
 go_frame;obtain⟨b1,rfl⟩:∃b:Nat,v1=.slice (sO b) 5 5:=a5;iterate 2(refine aP u.o rfl rfl ?_;go_big_quiet_step (fail);refine Km ?_)
 refine cz rfl rfl (λgs g x d q=>⟨.pointer (some ⟨b1,j,none⟩),g,gg (np j b1 bb g),⟨b1,rfl⟩,x.idx (by decide) (by decide) (d 1 _ (.inr ⟨rfl,rfl⟩) (au (by kernel_rfl)))⟩) (λv4 a7=>?_);go_frame;obtain⟨b4,rfl⟩:∃b:Nat,v4=.pointer (some ⟨b,j,none⟩):=a7;refine cz rfl rfl (λgs g x d q=>⟨.string (dU (d7 j)),g,?_,rfl,x.other (by decide) (by decide) (by decide)⟩) (λv5 a8=>?_)
 ·have A:=x.name (d 4 _ (.inr ⟨rfl,rfl⟩) (au (by kernel_rfl))) (GH bb);rw[<-cl.o] at A;clear x d q q1 u G hO;go_simp
 go_frame;obtain rfl:v5=.string (dU (d7 j)):=a8;refine bw 186 #[.pointer (sO b),.string (dU (d7 j))] rfl rfl (λg=>by kernel_rfl) (λgs g x d q=>x.write (by decide) (by decide) q N.o hO (by omega) (by omega) (by omega)) (λv6 d0=>?_);go_frame;refine ei ?_;intro w2 a9;have⟨Q,bo,dl⟩:=a9.2.2.2.2 ⟨v6,.inr ⟨rfl,rfl⟩⟩;have bp:=a9.1;have bq:=(bd.mono hB).trans bo;clear a9 q1 u G;have ej:w.1.size<=w2.1.size:=by omega
 have⟨x0,x1,_,_⟩:=ag bp;have aa:Hid _:=Q;clear Q bp r1 M;go_wp2_with fail;go_loopw [16] (λiv wr=>∃i:Nat,i<=n/\iv=U i/\Hid (dY B b (Lib.byteCells (l++d7 j++(s.take i).flatMap cq)) wr)/\Below B w wr/\w.1.size<=wr.1.size) (λiv _=>n-(intOf iv).toNat)
 case atStart=>exact⟨0,by omega,rfl,by unfold Hid;show dY B b (Lib.byteCells (l++d7 j++[])) w2;rw[LI];exact aa.o,bq,by omega⟩
 case round=>
  obtain⟨i,hi,rfl,R,ac,ek⟩:=hrel;have⟨D,d2⟩:=nM (wr);subst d2;have i0:(0:Int)<=(i:Int):=by omega
  have H:=cn.o i
  by_cases d3:i<n
  ·have i1:(i:Int)<(n:Int):=by omega
   obtain⟨c,ad⟩:∃c,s[i]?=some c:=⟨s[i]'(by rw[a3.o];exact d3),by simp⟩;obtain⟨bc,oc,rfl,el,d4⟩:=b9.o i c ad;have⟨hf,ho,d5⟩:=lT (ba.o c (Kb ad));have ae:Hid ((s.take (i+1)).flatMap cq=(s.take i).flatMap cq++cq c):=by unfold Hid;rw[LC,ad];simp
   obtain⟨f,o,m⟩:=c;obtain⟨c0,c1,c2,_⟩:=d4.l ac (by omega);simp only[] at c0 c1 c2 hf ho d5;obtain⟨p,rfl⟩:∃k:Nat,f=k:=⟨f.toNat,by omega⟩;have br:p<5:=by omega
   have d6:Hid (fK (p:Int)=fN.getD p []):=by unfold Hid fK;simp
   have es:=t9 (p:Int);have dp:IntKind.i64.wrap (o-1)=o-1:=KA _ (by omega);have dq:=I4 o ho;have da:Hid (cq ((p:Int),o,m)=32 :: (fK p++(gl o :: Lib.itoa m))):=rfl;have dr:(Lib.itoa m).length<=65536:=by unfold Lib.itoa;rw[iO (by omega)];have:=jS m.toNat;omega
   have⟨W3,I⟩:=nM (D.alloc (.cells #[U p,U o,U m] 134));have bs:=bA I;have et:=sA I;have bv:Na W3 D.1.size #[U p,U o,U m] 134:=by rw[I];exact(Kr D _).1
   have S:=Z (dY.l R.o bs);have bx:Below B w W3:=ac.trans (bs.mono (by omega));have⟨T,O⟩:=nM (l++d7 j++(s.take i).flatMap cq);have ds:T.length<=1000000000+5+700000:=by rw[O];simp only[Kj];omega
   rw[<-O] at S;have bz:Hid _:=O;clear O H;have af:D.1.size≠b:=by omega
   go_wp2_with fail;rw[<-I];clear I;go_at_call 212;refine(wT B b T 32 W3 S.o (by omega) (by omega)).mono ?_;rintro e w4 ⟨rfl,y,J,ak⟩;have P:=xo ak af (by decide) bv;have eu:=ak.1;have c3:=bx.trans J;have al:Hid _:=y;have⟨⟨y0,y1,y2⟩,_⟩:=eL P;clear y bv;go_wp2_with fail;have hO:∀F fr,Obj.cells #[U p,U o,U m] 134 (0,0)≠.cells F 5 fr:=λF fr e=>by simp at e
   have G:Nonempty (rK D.1.size (.cells #[U p,U o,U m] 134 (0,0))):=⟨⟨w4,P⟩⟩
   have u:Hid (∀fs g,sX B b fC 1 4 6 p D.1.size (.cells #[U p,U o,U m] 134 (0,0)) (T++[32]) (fK p) w4 fs g->∃z:rK D.1.size (.cells #[U p,U o,U m] 134 (0,0)),g=z.1):=λfs g h=>⟨⟨g,h.1⟩,rfl⟩
   have q1:∀z:rK D.1.size (.cells #[U p,U o,U m] 134 (0,0)),z.1.cell? (pW D 0)=some (U p):=λz=>(eL z.2).1.1
   refine iP (λk=>k==1||k==4||k==5||k==6) (sX B b fC 1 4 6 p D.1.size (.cells #[U p,U o,U m] 134 (0,0)) (T++[32]) (fK p) w4) (Jx 1 4 5 p (fK p)) (vh _ _ _ _ _) (by kernel_rfl) (by kernel_rfl) (sX.start P) ?_;refine aP u.o rfl rfl ?_;go_big_quiet_step (fail);refine Km ?_;refine bw 213 #[] rfl rfl (λg=>by kernel_rfl) (λgs g x d q=>?_) (λv1 a5=>?_)
   ·refine(oO g).mono ?_;rintro e w2 ⟨rfl,rfl⟩;exact⟨_,rfl,⟨_,rfl⟩,x.call (by decide) (by decide) (by omega) (by omega)⟩
   go_frame;obtain⟨b1,rfl⟩:∃b:Nat,v1=.slice (sO b) 5 5:=a5;iterate 2(refine aP u.o rfl rfl ?_;go_big_quiet_step (fail);refine Km ?_)
   refine cz rfl rfl (λgs g x d q=>⟨.pointer (some ⟨b1,p,none⟩),g,gg (np p b1 br g),⟨b1,rfl⟩,x.idx (by decide) (by decide) (d 1 _ (.inr ⟨rfl,rfl⟩) (au (by kernel_rfl)))⟩) (λv4 a7=>?_);go_frame;obtain⟨b4,rfl⟩:∃b:Nat,v4=.pointer (some ⟨b,p,none⟩):=a7;refine cz rfl rfl (λgs g x d q=>⟨.string (dU (fK p)),g,?_,rfl,x.other (by decide) (by decide) (by decide)⟩) (λv5 a8=>?_)
   ·have A:=x.name (d 4 _ (.inr ⟨rfl,rfl⟩) (au (by kernel_rfl))) (IQ br);rw[<-d6.o] at A;clear x d q q1 u G hO;go_simp
   go_frame;obtain rfl:v5=.string (dU (fK p)):=a8;refine bw 186 #[.pointer (sO b),.string (dU (fK p))] rfl rfl (λg=>by kernel_rfl) (λgs g x d q=>x.write (by decide) (by decide) q al.o hO af (by simp;omega) (by omega)) (λv6 d0=>?_);go_frame;refine ei ?_;intro w6 ao;have⟨V,c4,e0⟩:=ao.2.2.2.2 ⟨v6,.inr ⟨rfl,rfl⟩⟩;have av:=ao.1;clear ao q1 u G P y0 y1 y2;have ey:D.1.size<=w6.1.size:=by omega
   have c5:=c3.trans c4;have b0:Hid _:=V;have⟨⟨z0,z1,z2⟩,_⟩:=eL av;clear V;go_wp2_with fail;go_at_call 212;refine(wT B b (T++[32]++fK p) (gl o) w6 b0.o (by simp;omega) (by omega)).mono ?_;rintro e w7 ⟨rfl,W,c6,c7⟩;have dd:=xo c7 af (by decide) av;have eV:=c7.1;have X:=c5.trans c6;have b2:Hid _:=W;have⟨⟨u0,u1,u2⟩,_⟩:=eL dd;clear W av z0 z1 z2;go_wp2_with fail;go_at_call 98;refine(Tryz.strconv_Itoa m (by omega) (by omega) w7 (HE.o _ X).2.2.2).mono ?_;rintro e w8 ⟨rfl,k8,f0,c8⟩;have b3:bL w7 w8:=by rw[c8];exact LT _ _ lE _ _
   have f1:=b3.size;have c9:=Z (dY.l b2.o b3);have ca:Below B w w8:=X.trans (b3.mono (by omega));clear c8;go_wp2_with fail;go_at_call 186;refine(j8 B b (T++[32]++fK p++[gl o]) (Lib.itoa m) w8 c9.o (by simp;omega) (by omega)).mono ?_;rintro e w9 ⟨⟨n9,rfl⟩,Y,cb,df⟩;have f3:=df.1;have cc:=ca.trans cb
   have b5:Hid (dY B b (Lib.byteCells (l++d7 j++(s.take (i+1)).flatMap cq)) w9):=by
    unfold Hid;rw[ae.o,da.o,<-KI,<-bz.o];have e:T++(32 :: (fK ↑p++(gl o :: Lib.itoa m)))=T++[32]++fK ↑p++[gl o]++Lib.itoa m:=by simp
    rw[e];exact Y
   clear Y;go_wp2_with fail;exact⟨⟨i+1,by omega,by go_num,b5,cc,by omega⟩,by simp[intOf];omega⟩
  obtain rfl:i=n:=by omega
  have K:dY B b (Lib.byteCells (l++d7 j++s.flatMap cq)) D:=by have:=R.o;rw[Ki (by rw[a3.o];exact Ke _)] at this;exact this
  have e2:(s.flatMap cq).length<=700000:=by have:=H;rw[Ki (by rw[a3.o];exact Ke _)] at this;omega
  go_wp2_with fail;go_at_call 212;refine(wT B b (l++d7 j++s.flatMap cq) 59 D K (by simp only[Kj];omega) (by omega)).mono ?_;rintro e w4 ⟨rfl,y,J,ak⟩
  have a0:dY B b (Lib.byteCells (l++ct (s,(j:Int)))) w4:=by
   rw[hT.o];have e:l++(d7 ↑j++s.flatMap cq++[59])=l++d7 ↑j++s.flatMap cq++[59]:=by simp
   rw[e];exact y
  have b6:Hid _:=a0;clear a0 y K;go_wp2_with fail;go_end0;exact⟨rfl,b6.o,ac.trans J⟩
