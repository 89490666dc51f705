import Derived.Test.YtffnfdfjojidfaaGreatDoorWr39
import Derived.Test.YtffnfdfjojidfaaGreatDoorWr43
set_option linter.all false
set_option maxRecDepth 100000
set_option maxHeartbeats 4000000
namespace Go.Proofs.YtffnfdfjojidfaaGreatDoor
open Go.RowKit Go.Maps Go.Proofs.Tryz
theorem Kx.put{K:Nat->Prop}{w w' wF}(h:Kx K w' wF)(b:Below 0 w w')(c:∀g,¬K g->w'.1[g]?=w.1[g]?)(d:w'.1.size=w.1.size):Kx K w wF:=⟨b.trans h.1,λg a e=>(h.2 g a (by omega)).trans (c g a)⟩
theorem kG.at{K:Nat->Prop}{w v x}(h:kG K w v x):bi w.1.size w v x:=h w (Kx.refl _ _)
def EP(K:Nat->Prop)(w:World)(v:Value)(d:bQ):Prop:=∀a,Kx K w a->cJ a.1.size a v d
theorem EP.at{K:Nat->Prop}{w v d}(h:EP K w v d):cJ w.1.size w v d:=h w (Kx.refl _ _)
theorem EP.l{K a:Nat->Prop}{w w' v d}(h:EP K w v d)(b:bL w w')(c:∀k,k<w.1.size->a k->K k):EP a w' v d:=λe f=>h e (f.back b c)
theorem cV.k{L w v d}(h:cV L w v d):EP (λk=>k<L) w v d:=λb a=>h b (λg c e=>a.2 g (Nat.not_lt.2 c) e) a.size
theorem xq{K:Nat->Prop}{w}{cv sv tv:Value}{x:aH}{u:Bool}(c:kn K w cv x.1)(d:EP K w (.agg #[sv,tv]) x.2.1)(f:x.2.2=u):kG K w (.agg #[cv,sv,tv,.bool u]) x:=λa b=>by have⟨s,t,e,g,h⟩:=d a b;simp at e;obtain⟨rfl,rfl⟩:=e;exact⟨_,_,_,by rw[f],c a b,g,h⟩
theorem iC{K:Nat->Prop}{w a:World}{b L:Nat}{T}{f h i j cv sv tv:Value}{u x}(g:w.1[b]?=some (.cells #[f,h,i,j] T (0,0)))(l:kG K w (.agg #[cv,sv,tv,.bool u]) x)(m:K b)(n:Below L a w)(o:L<=b)(p:∀k,k<a.1.size->K k):
  ∃W,W=(((w.setCell (pA b 0) cv).setCell (pA b 1) sv).setCell (pA b 2) tv).setCell (pA b 3) (.bool u)/\W.1[b]?=some (.cells #[cv,sv,tv,.bool u] T (0,0))/\Hid (kG (λk=>k<a.1.size) W (.agg #[cv,sv,tv,.bool u]) x/\Below L a W):=by
 have⟨q,r,s,c⟩:=eK (u0:=cv) (u1:=sv) (u2:=tv) (u3:=.bool u) g;refine⟨_,rfl,q,λt d=>l t (Kx.put ⟨d.1,λg v y=>d.2 g (λe=>v (p g e)) y⟩ (c 0 (Ks _)) (λg z=>r g λe=>z (by rw[e];exact m)) s),n.trans (c _ o)⟩
theorem kR{w a:World}{b L:Nat}{T}{c d e f:Value}(g:w.1[b]?=some (.cells #[c,d,e,f] T (0,0)))(h:Below L a w)(i:L<=b):
  ∃W,W=(((w.setCell (pA b 0) nL).setCell (pA b 1) nL).setCell (pA b 2) nL).setCell (pA b 3) (.bool false)/\W.1[b]?=some (.cells #[nL,nL,nL,.bool false] T (0,0))/\Hid (kG (λk=>k<a.1.size) W (.agg #[nL,nL,nL,.bool false]) fg/\Below L a W):=iC (K:=λ_=>True) g (jX _ _) trivial h i λ_ _=>trivial
theorem Cg(w):cL 12 #[] w λe d=>∃v,e=.returned v/\bi d.1.size d v kz/\bL w d:=by have⟨o,a⟩:=nM (w.alloc (.cells #[nL,nL,nL,.bool false] 27));have b:=bA a;have f:=hA a;have g:=Z a;clear a;go_enter func12,ntmps12;go_wp2_with fail;rw[<-g.o];go_at_call 33;refine Calls.mono (A8 o) ?_;rintro e s ⟨t,rfl,i,c⟩;obtain⟨p,q,rfl,-,-⟩:=i.at.shape;have j:=c.bl f;obtain⟨W,l,k,m⟩:=iC (x:=kz) (sv:=nL) (tv:=nL) (u:=true) j (xq i (eX _ _).k rfl) (io f) (b.th c) lE (λk h=>Kd h b.size);have⟨y,z,A,B,C,D,E,F⟩:=aL j;have r:=Z l;obtain⟨G,H,I,J,-⟩:=aL k;generalize aA.length=n at*;clear l k i c f j b;go_wp2_with fail;rw[<-r.o];refine Ka (v:=.agg #[.slice p n q,nL,nL,.bool true]) ?_ rfl ⟨_,rfl,m.o.1.at,m.o.2⟩;rw[cN rfl];go_simp
theorem xE(B xv y w)(q:cI B w xv y)(r:B<=w.1.size):
  cL 71 #[xv] w λe j=>∃v,e=.returned v/\cI B j v (bU y)/\bL w j:=by
 obtain⟨a,c,rfl,s⟩:=q.shape;obtain⟨-,-,-,t,u,-⟩:=id q;obtain⟨k,b,f,i,d⟩:=y;simp only at*;have x:∀n:Int,0<=n/\n<=4->wf n:=λn h=>cR (by omega)
 have A:=Z λj (h:bL w j)=>s.l h r
 have g:Hid (wf b/\wf f/\∀n:Int,0<=n/\n<=4->wf n):=⟨t,u,x⟩;generalize i.length=n at*;clear s q t u x r
 by_cases l:k=3
 ·subst l;go_enter func71,ntmps71;go_wp2;refine Ka (v:=.agg #[U 3,U b,U f,nL,U 0]) ?_ rfl ⟨_,rfl,⟨_,rfl,g.o.2.2 3 (by omega),g.o.1,g.o.2.1,bV _ _⟩,?_⟩
  ·rw[cN rfl];go_simp
  repeat(first|refine Ky ?_ (by simp) _|refine Lc ?_ (by simp) _|exact Kf _ _)
 by_cases o:k=4
 ·subst o;go_enter func71,ntmps71;go_wp2;refine Ka (v:=.agg #[U 4,U b,U 0,nL,U 0]) ?_ rfl ⟨_,rfl,⟨_,rfl,g.o.2.2 4 (by omega),g.o.1,g.o.2.2 0 (by omega),bV _ _⟩,?_⟩
  ·rw[cN rfl];go_simp
  repeat(first|refine Ky ?_ (by simp) _|refine Lc ?_ (by simp) _|exact Kf _ _)
 have z:Hid (∀ (W:World) (m:Int),0<=m/\m<=4->bU (k,b,f,i,d)=(m,b,0,i,d)->bL w W->cI B W (.agg #[U m,U b,U 0,.slice a n c,U d]) (bU (k,b,f,i,d))/\bL w W):=λW m C e h=>⟨by rw[e];exact⟨_,rfl,g.o.2.2 m C,g.o.1,g.o.2.2 0 (by omega),A.o W h⟩,h⟩
 by_cases p:k=1
 ·subst p;go_enter func71,ntmps71;go_wp2;refine Ka (v:=.agg #[U 1,U b,U 0,.slice a n c,U d]) ?_ rfl ⟨_,rfl,z.o _ 1 (by omega) rfl ?_⟩
  ·rw[cN rfl];go_simp
  repeat(first|refine Ky ?_ (by simp) _|refine Lc ?_ (by simp) _|exact Kf _ _)
 have D:Hid (bU (k,b,f,i,d)=(2,b,0,i,d)):=by unfold Hid bU;simp only;rw[iO l,iO o,iO p]
 have E:(k==3)=false:=by simpa using l
 have F:(k==4)=false:=by simpa using o
 have G:(k==1)=false:=by simpa using p
 clear p l o;go_enter func71,ntmps71;go_wp2;refine Ka (v:=.agg #[U 2,U b,U 0,.slice a n c,U d]) ?_ rfl ⟨_,rfl,z.o _ 2 (by omega) D.o ?_⟩
 ·rw[cN rfl];go_simp
 repeat(first|refine Ky ?_ (by simp) _|refine Lc ?_ (by simp) _|exact Kf _ _)
theorem JG.start(W)(G:Nat->World->Value->Prop):JG W G (λ_ _=>False) W.drew:=⟨bR.drew,λ_ _ h=>h.elim⟩
theorem JG.put{W w w':World}{G:Nat->World->Value->Prop}{b:Nat->Value->Prop}(h:JG W G b w)(d:∀k u w w',bL w w'->G k w u->G k w' u){k:Nat}{v:Value}(c:bL w w')(e:G k w' v):JG W G (d9 b k v) w':=by
 refine⟨h.1.th c,λm u a=>?_⟩
 rcases a with a|⟨rfl,rfl⟩
 ·exact d m u w w' c (h.2 m u a)
 exact e
def Hi(a b L:Nat)(C:List aG)(d:bQ)(k:Nat)(w:World)(u:Value):Prop:=(k=a->wG L w u C)/\(k=b->EP (λk=>k<L) w u d)
theorem Hi.l{kc kd L C d}:∀k u w a,bL w a->Hi kc kd L C d k w u->Hi kc kd L C d k a u:=λk u w a b h=>⟨λe=>(h.1 e).l b λ_ _ e=>e,λe=>(h.2 e).l b λ_ _ e=>e⟩
def JR(e f:Nat)(C:List aG)(d:bQ)(k:Nat)(v:Value):Prop:=(k=e->∃a c,v=.slice a C.length c)/\(k=f->∃a c b l,v=.agg #[.slice a d.1.length c,.slice b d.2.length l])
theorem Bj(a b:Nat)(h:a≠b)(C d k):∃v,JR a b C d k v:=by
 by_cases c:k=a
 ·exact⟨.slice none C.length 0,λ_=>⟨_,_,rfl⟩,λe=>absurd (c.symm.trans e) h⟩
 exact⟨.agg #[.slice none d.1.length 0,.slice none d.2.length 0],λe=>absurd e c,λ_=>⟨_,_,_,_,rfl⟩⟩
theorem tq(B v d w)(D:cJ B w v d)(M:B<=w.1.size)(o:d.1.length<=60000/\d.2.length<=60000):
  cL 28 #[v] w λe f=>∃N,e=.returned N/\kG (λk=>k<w.1.size) f N (aA,d,false)/\bL w f:=by
 obtain⟨a,c,b,C,rfl⟩:=D.shapeS;have p:=Z λf (h:bL w f)=>t5 B _ d f (D.l h M) (h.u M) o
 have⟨n,q⟩:=nM (d.1.length);have⟨m,O⟩:=nM (d.2.length)
 rw[<-q,<-O] at p |-
 have⟨W,r⟩:=nM ((w.alloc (.cells #[.slice a n c,.slice b m C] 25)).alloc (.cells #[nL,nL,nL,.bool false] 27));have s:=bB r;have E:W.1[w.1.size]?=some (.cells #[.slice a n c,.slice b m C] 25 (0,0)):=by rw[r];exact dF _ (aY _ _ rfl)
 have P:=gC r;obtain⟨Q,R,-,-⟩:=ag E;have F:=io E;have Y:=Z r;have i:=Z s;have t:=Z P;have q0:∀z:ax W,z.1.cell? (pA w.1.size 0)=some (.slice a n c):=λz=>z.cell Q F
 have q1:∀z:ax W,z.1.cell? (pA w.1.size 1)=some (.slice b m C):=λz=>z.cell R F
 have G:=ax.ne W
 have j:Hid (∀S f,JG W (Hi 0 2 W.1.size aA d) S f->∃z:ax W,f=z.1):=λS f h=>⟨⟨f,h.1⟩,rfl⟩
 clear r s E P Q R F D o q O;go_enter func28,ntmps28;go_wp2_with fail;rw[<-Y.o];refine bJ [_,_,_,_] _ rfl (λk=>k==0||k==2) (JG W (Hi 0 2 W.1.size aA d)) (JR 0 2 aA d) (Bj 0 2 (by decide) _ _) (by kernel_rfl) (by kernel_rfl) (JG.start _ _) ?_;refine bw 33 #[] rfl rfl (λf=>by kernel_rfl) (λgs f g y H=>?_) (λv0 I=>?_)
 ·refine(A8 f).mono ?_;rintro e w3 ⟨u,rfl,T,J⟩;obtain⟨a',c',eu,-⟩:=T.at.shape;exact⟨_,rfl,⟨λ_=>⟨a',c',eu⟩,λe=>by cases e⟩,g.put Hi.l J ⟨λ_=>T.l bR λk _ h=>Kd h g.1.size,λe=>by cases e⟩⟩
 go_frame;obtain⟨a0,c0,rfl⟩:=I.1 rfl;refine aP j.o rfl rfl ?_;go_big_quiet_step (fail);refine Km ?_;refine bw 58 #[.agg #[.slice a n c,.slice b m C]] rfl rfl (λf=>by kernel_rfl) (λgs f g y H=>?_) (λv2 K=>?_)
 ·refine(p.o f (i.o.th g.1)).mono ?_;rintro e w3 ⟨u,rfl,q,J⟩;exact⟨_,rfl,⟨λe=>(by cases e),λ_=>q.at.shapeS⟩,g.put Hi.l J ⟨λe=>(by cases e),λ_=>(q.mono g.1.size).k⟩⟩
 go_frame;obtain⟨a2,c3,b2,c4,rfl⟩:=K.2 rfl;refine aP j.o rfl rfl ?_;go_big_quiet_step (fail);refine Km ?_;refine ei ?_;intro w4 g;have l:=g.1.bl t.o;have V:=(g.2 0 _ (.inl (.inr ⟨rfl,rfl⟩))).1 rfl;have X:=(g.2 2 _ (.inr ⟨rfl,rfl⟩)).2 rfl;obtain⟨W5,A,k,HF⟩:=iC (x:=(aA,d,false)) l (xq V X rfl) (io t.o) (i.o.th g.1) (Mb _) (λk h=>Kd h i.o.size);have L:=Z A;have⟨z0,z1,z2,z3,f0,f1,f2,f3⟩:=aL l;obtain⟨x0,x1,x2,x3,-⟩:=aL k;generalize aA.length=n1 at*;generalize d.1.length=n2 at*;generalize d.2.length=n3 at*;clear g l V X A k q0 q1 G j;go_wp2_with fail;rw[<-L.o];refine Ka (v:=.agg #[.slice a0 n1 c0,.slice a2 n2 c3,.slice b2 n3 c4,.bool false]) ?_ rfl ⟨_,rfl,HF.o⟩;rw[cN rfl];go_simp
theorem kO{x:aH}(h:cr x=0):mM x.1/\aB x.2.1=0:=by
 obtain⟨c,d,u⟩:=x
 cases u with
 |true=>
  have⟨l,f⟩:=x8 h rfl;obtain⟨e,g,i,j,k⟩:=f
  cases e;exact⟨iD k,gN (t:=[]) g i (by simpa using j)⟩
 |false=>
  rw[ng] at h
  by_cases a:aB d=0
  ·rw[Io a] at h
   by_cases b:aA=c
   ·subst b;exact⟨BH,a⟩
   rw[iO b] at h
   cases h
  rw[iO a] at h;exact absurd h a
theorem CX(B v x w)(hx:bi B w v x)(s:B<=w.1.size)(hr:cr x=0):
  cL 41 #[v] w λe f=>∃t,e=.returned t/\kG (λk=>k<w.1.size) f t x/\bL w f:=by
 obtain⟨y,A,a,c,b,q,rfl,r,hd⟩:=hx.shape;have⟨M,Q⟩:=kO hr;obtain⟨C,d,u⟩:=x;simp only at*
 have D:Hid (∀f,bL w f->cL 69 #[.slice y C.length A] f λe g=>∃a c,e=.returned (.slice a C.length c)/\wG f.1.size g (.slice a C.length c) C/\bL f g):=λf h=>(ww B _ C f (r.l h s) (h.u s) (by rw[M.1];decide) (λc r=>yL (M.2 c r).1)).mono λe g ⟨N,O,h3⟩=>⟨_,_,N,Gl O lE (by rw[M.1];decide),h3⟩
 have E:Hid (∀f,bL w f->cL 58 #[.agg #[.slice a d.1.length c,.slice b d.2.length q]] f λe g=>∃t,e=.returned t/\cV f.1.size g t d/\bL f g):=λf h=>t5 B _ d f (hd.l h s) (h.u s) ⟨(dE Q).1,(dE Q).2.1⟩
 have⟨l,P⟩:=nM (C.length);have⟨n,F⟩:=nM (d.1.length);have⟨m,hm⟩:=nM (d.2.length);rw[<-P] at D;have HL:=Z P
 rw[<-F,<-hm] at E |-
 rw[<-P];have⟨W,G⟩:=nM ((w.alloc (.cells #[.slice y l A,.slice a n c,.slice b m q,.bool u] 27)).alloc (.cells #[nL,nL,nL,.bool false] 27));have H:=bB G;have R:W.1[w.1.size]?=some (.cells #[.slice y l A,.slice a n c,.slice b m q,.bool u] 27 (0,0)):=by rw[G];exact dF _ (aY _ _ rfl)
 have g1:=gC G;obtain⟨y0,y1,y2,y3,-⟩:=aL R;have I:=io R;have HW:=Z G;have j:=Z H;have J:=Z g1;have q0:∀z:ax W,z.1.cell? (pA w.1.size 0)=some (.slice y l A):=λz=>z.cell y0 I
 have q1:∀z:ax W,z.1.cell? (pA w.1.size 1)=some (.slice a n c):=λz=>z.cell y1 I
 have q2:∀z:ax W,z.1.cell? (pA w.1.size 2)=some (.slice b m q):=λz=>z.cell y2 I
 have S:∀z:ax W,z.1.cell? ⟨w.1.size,1+1,none⟩=some (.slice b m q):=q2;have q3:∀z:ax W,z.1.cell? (pA w.1.size 3)=some (.bool u):=λz=>z.cell y3 I
 have T:=ax.ne W
 have o:Hid (∀fs f,JG W (Hi 2 5 W.1.size C d) fs f->∃z:ax W,f=z.1):=λfs f h=>⟨⟨f,h.1⟩,rfl⟩
 clear G H R g1 y0 y1 y2 y3 I hd F hm P hx r M Q hr s;go_enter func41,ntmps41;go_wp2_with fail;rw[<-HW.o];refine bJ [_,_,_,_,_,_,_,_,_] _ rfl (λk=>k==2||k==5) (JG W (Hi 2 5 W.1.size C d)) (JR 2 5 C d) (Bj 2 5 (by decide) _ _) (by kernel_rfl) (by kernel_rfl) (JG.start _ _) ?_;iterate 2(refine aP o.o rfl rfl ?_;go_big_quiet_step (fail);refine Km ?_)
 refine bw 69 #[.slice y l A] rfl rfl (λf=>by kernel_rfl) (λgs f i K V=>?_) (λv0 X=>?_)
 ·refine(D.o f (j.o.th i.1)).mono ?_;rintro e w3 ⟨a',c',rfl,r,Y⟩;exact⟨_,rfl,⟨λ_=>⟨a',c',by rw[HL.o]⟩,λe=>by cases e⟩,i.put Hi.l Y ⟨λ_=>r.l bR λk _ h=>Kd h i.1.size,λe=>by cases e⟩⟩
 go_frame;obtain⟨a0,c0,rfl⟩:=X.1 rfl;iterate 2(refine aP o.o rfl rfl ?_;go_big_quiet_step (fail);refine Km ?_)
 refine bw 58 #[.agg #[.slice a n c,.slice b m q]] rfl rfl (λf=>by kernel_rfl) (λgs f i K V=>?_) (λv2 a1=>?_)
 ·refine(E.o f (j.o.th i.1)).mono ?_;rintro e w3 ⟨u,rfl,F,Y⟩;exact⟨_,rfl,⟨λe=>(by cases e),λ_=>F.at.shapeS⟩,i.put Hi.l Y ⟨λe=>(by cases e),λ_=>(F.mono i.1.size).k⟩⟩
 go_frame;obtain⟨a2,c3,b2,c4,rfl⟩:=a1.2 rfl;iterate 3(refine aP o.o rfl rfl ?_;go_big_quiet_step (fail);refine Km ?_)
 refine ei ?_;intro w4 i;have p:=i.1.bl J.o;have N:=(i.2 2 _ (.inl (.inr ⟨rfl,rfl⟩))).1 rfl;have O:=(i.2 5 _ (.inr ⟨rfl,rfl⟩)).2 rfl;obtain⟨W5,L,k,HF⟩:=iC (x:=(C,d,u)) p (xq N O rfl) (io J.o) (j.o.th i.1) (Mb _) (λk h=>Kd h j.o.size);have a3:=Z L;have⟨z0,z1,z2,z3,f0,f1,f2,f3⟩:=aL p;obtain⟨x0,x1,x2,x3,-⟩:=aL k;generalize C.length=n1 at*;generalize d.1.length=n2 at*;generalize d.2.length=n3 at*;clear i p N O L k q0 q1 q2 S q3 T o;go_wp2_with fail;rw[<-a3.o];refine Ka (v:=.agg #[.slice a0 n1 c0,.slice a2 n2 c3,.slice b2 n3 c4,.bool u]) ?_ rfl ⟨_,rfl,HF.o⟩;rw[cN rfl];go_simp
theorem oX{c:Func}{p u d:Tmp}{e:TypeId}(h:c.results=#[.tmp u,.cell p e,.tmp d])(b:Array Value)(P:Program)(w:World):
  (results c b).run P w=((asAddr (b.getD p undef)).run P w).andThen λa f=>((loadVar e a).run P f).andThen λv g=>.ok (.tuple #[b.getD u undef,v,b.getD d undef]) g:=by
 simp only[results,h];simp[Lj,Result.andThen]
def eo(x:aH)(r:az):Int:=if cQ x.1 r=0 then f8 x.2.1 r else cQ x.1 r
def kg(x:aH)(r:az):List aG:=if eo x r=0 then dI x.1 r else []
def dL(x:aH)(r:az):bQ:=if eo x r=0 then fu x.2.1 r else ([],[])
def Ie(K:Nat->Prop)(C:List aG)(D:bQ)(E:Int)(w:World)(u:Value):Prop:=∃a n c b d e f g h,u=.tuple #[.slice a n c,.agg #[.slice b d e,.slice f g h],U E]/\kn K w (.slice a n c) C/\EP K w (.agg #[.slice b d e,.slice f g h]) D
theorem Ie.of{K d:Nat->Prop}{C D E w w' u}(h:Ie K C D E w u)(f:∀b,Kx d w' b->Kx K w b):Ie d C D E w' u:=by obtain⟨a,n,c,g,i,j,k,l,m,e,o,p⟩:=h;exact⟨a,n,c,g,i,j,k,l,m,e,λb h=>o b (f b h),λb h=>p b (f b h)⟩
theorem Fm(w)(g:Nat)(x y:Value):Below 0 w ((w.setCell (pA g 0) x).setCell (pA g 1) y):=dS bR (Ks _) x y
theorem Kx.disk{K:Nat->Prop}{w wF:World}{g:Nat}{x y u v:Value}{T}(a:w.1[g]?=some (.cells #[x,y] T (0,0)))(c:K g)(h:Kx K ((w.setCell (pA g 0) u).setCell (pA g 1) v) wF):Kx K w wF:=by obtain⟨-,d,f⟩:=ic (u:=u) (v:=v) a;exact h.put (Fm _ _ _ _) (λb i=>d b λe=>i (by rw[e];exact c)) f
theorem AM(K:Nat->Prop)(w):EP K w (.agg #[nL,nL]) ([],[]):=λ_ _=>(eX 0 _).at
theorem sY{w:World}{g:Nat}{x y:Value}{T}(a:w.1[g]?=some (.cells #[x,y] T (0,0)))(u v:Value):((w.setCell (pA g 0) u).setCell (pA g 1) v).1[g]?=some (.cells #[u,v] T (0,0)):=(ic a).1
theorem xc(B wv rv x r w)(he:dD w)(hx:bi B w wv x)(hr:cI B w rv r)(H:B<=w.1.size)(V:sW x.2.1):
  cL 70 #[wv,rv] w λe g=>∃v,e=.returned v/\Ie (λk=>k<w.1.size) (kg x r) (dL x r) (eo x r) g v/\bL w g:=by
 obtain⟨ca,cc,a,c,b,D,rfl,hc,hd⟩:=hx.shape;obtain⟨pa,pc,al,-⟩:=hr.shape;have I:Hid (∀g,bL w g->cL 93 #[.slice ca x.1.length cc,rv] g λe i=>∃a n c,e=.returned (.tuple #[.slice a n c,U (cQ x.1 r)])/\wG g.1.size i (.slice a n c) (dI x.1 r)/\bL g i):=λg h=>(Bd B _ rv x.1 r g (hc.l h H) (hr.l h H) (h.u H)).mono λe i ⟨v,h1,X,h3⟩=>by obtain⟨a,c,e,-⟩:=X.at.shape;subst e;exact⟨_,_,_,h1,X,h3⟩
 have J:Hid (∀g,bL w g->cL 103 #[.agg #[.slice a x.2.1.1.length c,.slice b x.2.1.2.length D],rv] g λe i=>∃O Y P a2 n2 D,e=.returned (.tuple #[.agg #[.slice O Y P,.slice a2 n2 D],U (f8 x.2.1 r)])/\cV g.1.size i (.agg #[.slice O Y P,.slice a2 n2 D]) (fu x.2.1 r)/\bL g i):=λg h=>(GJ B _ rv x.2.1 r g (he.l h) (hd.l h H) (hr.l h H) (h.u H) V).mono λe i ⟨v,h1,X,h3⟩=>by obtain⟨O,P,b1,D,e⟩:=X.at.shapeS;subst e;exact⟨_,_,_,_,_,_,h1,X,h3⟩
 have E:Hid (eo x r=if cQ x.1 r=0 then f8 x.2.1 r else cQ x.1 r):=rfl;have Q:Hid (kg x r=if eo x r=0 then dI x.1 r else []):=rfl;have R:Hid (dL x r=if eo x r=0 then fu x.2.1 r else ([],[])):=rfl;obtain⟨C,d,u⟩:=x;obtain⟨k,s,f,F,t⟩:=r;subst al;simp only at*;clear hd hc hx hr he V H;generalize cQ C (k,s,f,F,t)=NE at*;generalize dI C (k,s,f,F,t)=NR at*;generalize f8 d (k,s,f,F,t)=PE at*;generalize fu d (k,s,f,F,t)=PR at*;generalize eo (C,d,u) (k,s,f,F,t)=WE at*;generalize kg (C,d,u) (k,s,f,F,t)=WC at*;generalize dL (C,d,u) (k,s,f,F,t)=WD at*;generalize C.length=l at*;generalize d.1.length=n at*;generalize d.2.length=m at*;generalize F.length=ln at*;have⟨W,S⟩:=nM (((w.alloc (.cells #[.slice ca l cc,.slice a n c,.slice b m D,.bool u] 27)).alloc (.cells #[U k,U s,U f,.slice pa ln pc,U t] 71)).alloc (.cells #[nL,nL] 25));have K:bL w W:=by rw[S];exact((bR.alloc lE _).alloc (by simp) _).alloc (by simp;omega) _
 have g0:W.1[w.1.size]?=some (.cells #[.slice ca l cc,.slice a n c,.slice b m D,.bool u] 27 (0,0)):=by rw[S];exact dF _ (dF _ (aY _ _ rfl))
 have g1:W.1[w.1.size+1]?=some (.cells #[U k,U s,U f,.slice pa ln pc,U t] 71 (0,0)):=by rw[S];exact dF _ (aY _ _ (by simp only[Kg]))
 have g2:W.1[w.1.size+1+1]?=some (.cells #[nL,nL] 25 (0,0)):=by rw[S];exact aY _ _ (by simp only[Kg])
 have HW:=Z S;have HG:=Z λg (h:bL W g)=>Q4 (h.bl g0) (h.bl g1) (h.bl g2) (K.th h)
 have a5:=Z K;clear S K g0 g1 g2;go_enter func70,ntmps70;go_wp2_with fail;rw[<-HW.o];go_at_call 93;refine Calls.mono (I.o _ a5.o) ?_;rintro e w1 ⟨na,nn,nc,rfl,L,j⟩;have⟨G0,G1,q,y⟩:=HG.o w1 j;obtain⟨x0,x1,x2,x3,-⟩:=aL G0;have b5:w1.cell? ⟨w.1.size,1+1,none⟩=some (.slice b m D):=x2;have⟨y0,y1,y2,y3,y4⟩:=aF G1;have⟨z0,z1,f0,f1⟩:=ag q
 by_cases o:NE=0
 case neg=>
  rw[iO o] at E;rw[E.o,iO o] at Q R;have hq:(NE != 0)=true:=by simpa using o
  obtain⟨v0,v1,-,-⟩:=ag (sY q nL nL);have HF:Hid (bL w ((w1.setCell (pA (w.1.size+1+1) 0) nL).setCell (pA (w.1.size+1+1) 1) nL)):=dS y (by omega) _ _;clear G0 G1 q o L j y I J HG;go_wp2_with fail;refine Ka (v:=.tuple #[nL,.agg #[nL,nL],U NE]) ?_ rfl ⟨_,rfl,⟨_,_,_,_,_,_,_,_,_,by rw[E.o],by rw[Q.o];exact ib _ _,by rw[R.o];exact AM _ _⟩,HF.o⟩;rw[oX rfl];go_simp
 subst o;rw[Io rfl] at E;have G:Hid _:=J.o w1 y;have a6:=Z L;clear G0 G1 q L I J y;go_wp2_with fail;go_at_call 103;refine Calls.mono G.o ?_;rintro e T ⟨O,Y,P,a2,n2,c3,rfl,a7,M⟩;have a8:=j.th M;obtain⟨-,-,q,a9⟩:=HG.o T a8;clear x0 x1 x2 b5 x3 y0 y1 y2 y3 y4 z0 z1 f0 f1;have⟨z0,z1,f0,f1⟩:=ag q;have l2:w.1.size+1+1<T.1.size:=io q;obtain⟨v0,v1,-,-⟩:=ag (sY q (.slice O Y P) (.slice a2 n2 c3));have lW:w.1.size+1+1<W.1.size:=io (HG.o W bR).2.2.1;have aa:Hid (∀u v W',Below ((T.setCell (pA (w.1.size+1+1) 0) u).setCell (pA (w.1.size+1+1) 1) v).1.size ((T.setCell (pA (w.1.size+1+1) 0) u).setCell (pA (w.1.size+1+1) 1) v) W'->bL w W'/\∀z,Kx (λk=>k<w.1.size) W' z->Kx (λk=>k<W.1.size) T z):=λu v W' h=>by have:=dS a9 (p:=w.1.size+1+1) (by omega) u v;exact⟨this.th h,λz hk=>Kx.disk q lW (hk.back h λk _ e=>MT e (by omega))⟩
 have N:=Z2 (a6.o.l M λ_ _ e=>e:wG W.1.size T (.slice na nn nc) NR) ((a7.mono j.size).k);clear q a9 lW a8 j M a7 a6 G HG a5 HW
 by_cases A:PE=0
 case neg=>
  rw[E.o,iO A] at Q R;have hq:(PE != 0)=true:=by simpa using A
  clear A N;go_wp2_with fail;refine Ka (v:=.tuple #[nL,.agg #[nL,nL],U PE]) ?_ rfl ⟨_,rfl,⟨_,_,_,_,_,_,_,_,_,by rw[E.o],by rw[Q.o];exact ib _ _,by rw[R.o];exact AM _ _⟩,?_⟩
  ·rw[oX rfl];go_simp
  exact(aa.o _ _ _ (bR.alloc lE _)).1
 subst A;rw[E.o,Io rfl] at Q R;go_wp2_with fail;go_region
 all_goals
  go_wp2_with fail;refine Ka (v:=.tuple #[.slice na nn nc,.agg #[.slice O Y P,.slice a2 n2 c3],U 0]) ?_ rfl ⟨_,rfl,?_⟩
  ·rw[oX rfl];go_simp
  obtain⟨k1,k2⟩:=aa.o _ _ _ ((bR.alloc lE _).drew);exact⟨⟨_,_,_,_,_,_,_,_,_,by rw[E.o],by rw[Q.o];exact λz h=>N.o.1 z (k2 z h),by rw[R.o];exact λz h=>N.o.2 z (k2 z h)⟩,k1⟩
section
structure uP (B:Nat) (W:World) (r:az) (C:List aG) (D:bQ) (E:Int) (fs:Nat->Value->Prop) (w:World):Prop where
 below:bL W w
 rcd:∀u,fs 2 u->cI B w u r
 wr:∀u,fs 3 u->∀K:Nat->Prop,(∀k,K k->k<W.1.size\/fs 8 (.pointer (sO k)))->Ie K C D E w u
 box:∀u,fs 8 u->∃ (g:Nat) (a1:Option Addr) (n1 c1:Nat) (a2:Option Addr) (n2 c2:Nat),u=.pointer (sO g)/\W.1.size<=g/\w.1[g]?=some (.cells #[.slice a1 n1 c1,.slice a2 n2 c2] 25 (0,0))/\((∃x,fs 10 x)->EP (λk=>k<W.1.size\/k=g) w (.agg #[.slice a1 n1 c1,.slice a2 n2 c2]) D)
 one:∀u v,fs 8 u->fs 8 v->u=v
 need:(∃x,fs 10 x)->∃u,fs 8 u
section
variable {B:Nat} {W w w':World} {r:az} {C:List aG} {D:bQ} {E:Int} {fs:Nat->Value->Prop}
theorem uP.start(B W r C D E):uP B W r C D E (λ_ _=>False) W.drew:=⟨bR.drew,λ_ h=>h.elim,λ_ h=>h.elim,λ_ h=>h.elim,λ_ _ h=>h.elim,λ⟨_,h⟩=>h.elim⟩
theorem uP.l(h:uP B W r C D E fs w)(c:B<=W.1.size)(a:bL w w'):uP B W r C D E fs w':=
 ⟨h.below.th a,λu b=>(h.rcd u b).l a (Kl c h.below.size),λu b K f=>(h.wr u b K f).of λt k=>k.back a λ_ _ e=>e,λu b=>by
  have⟨g,i,j,l,m,n,o,e,p,d,q⟩:=h.box u b
  exact⟨g,i,j,l,m,n,o,e,p,(a.block g (io d)).trans d,λs=>(q s).l a λ_ _ e=>e⟩,h.one,h.need⟩
theorem uP.lt(h:uP B W r C D E fs w){k:Nat}(a:k<W.1.size\/fs 8 (.pointer (sO k))):k<w.1.size:=by
 rcases a with a|a
 ·exact Kd a h.below.size
 obtain⟨g,c,d,f,i,j,l,e,m,b,n⟩:=h.box _ a;simp at e;rw[e];exact io b
theorem uP.more(h:uP B W r C D E fs w)(i:B<=W.1.size)(o:bL w w'){k:Nat}{v}(c:8≠k)(d:10≠k)(p:2=k->cI B w' v r)(q:3=k->Ie (λk=>k<w.1.size) C D E w' v):uP B W r C D E (d9 fs k v) w':=by
 have b:∀ {m u},m≠k->d9 fs k v m u->fs m u:=λs a=>dj a s
 have f:=h.l i o;refine⟨f.below,λu a=>?_,λu a K n=>?_,λu a=>?_,λu t a j=>h.one u t (b c a) (b c j),λ⟨x,l⟩=>?_⟩
 ·rcases a with a|⟨e,rfl⟩
  ·exact f.rcd u a
  exact p e
 ·rcases a with a|⟨e,rfl⟩
  ·exact f.wr u a K λk e=>(n k e).imp id (b c)
  exact(q e).of λM k=>k.back bR λk _ e=>h.lt ((n k e).imp id (b c))
 ·have⟨g,y,z,A,F,G,H,e,I,J,L⟩:=f.box u (b c a);exact⟨g,y,z,A,F,G,H,e,I,J,λ⟨x,l⟩=>L ⟨x,b d l⟩⟩
 have⟨u,a⟩:=h.need ⟨x,b d l⟩;exact⟨u,.inl a⟩
theorem uP.made(h:uP B W r C D E fs w)(d:B<=W.1.size)(b:∀v,¬fs 8 v):uP B W r C D E (d9 fs 8 (.pointer (sO w.1.size))) (w.alloc (.cells #[nL,nL] 25)):=by
 have f:=(Kf w.1.size w).alloc lE (.cells #[nL,nL] 25);have g:=h.l d f;refine⟨g.below,λu a=>g.rcd u (dj a (by decide)),λu a K i=>?_,λu a=>?_,λu j a c=>?_,λ_=>⟨_,.inr ⟨rfl,rfl⟩⟩⟩
 ·refine(h.wr u (dj a (by decide)) (λk=>K k/\k<W.1.size) λk e=>.inl e.2).of λo l=>l.back f λk m e=>⟨e,?_⟩
  rcases i k e with e|e|⟨_,e⟩
  ·exact e
  ·exact absurd e (b _)
  cases e;exact absurd m (Nat.lt_irrefl _)
 ·rcases a with a|⟨_,rfl⟩
  ·exact absurd a (b u)
  refine⟨_,_,_,_,_,_,_,rfl,h.below.size,ah _ _,λ⟨x,n⟩=>?_⟩;obtain⟨u,a⟩:=h.need ⟨x,dj n (by decide)⟩;exact absurd a (b u)
 rcases a with a|⟨_,rfl⟩
 ·exact absurd a (b u)
 rcases c with c|⟨_,rfl⟩
 ·exact absurd c (b j)
 rfl
theorem uP.store(h:uP B W r C D E fs w)(f:B<=W.1.size)(A:∀v,¬fs 10 v){g:Nat}{a1 a2 n1 c1 n2 c2}{F G:Value}(H:fs 3 (.tuple #[F,.agg #[.slice a1 n1 c1,.slice a2 n2 c2],G]))(d:fs 8 (.pointer (sO g))):(∃m o p q s t,w.1[g]?=some (.cells #[.slice m o p,.slice q s t] 25 (0,0)))/\uP B W r C D E (d9 fs 10 undef) ((w.setCell (pA g 0) (.slice a1 n1 c1)).setCell (pA g 1) (.slice a2 n2 c2)):=by
 obtain⟨S,m,o,p,q,s,t,e,x,i,-⟩:=h.box _ d;simp at e;subst e;have y:=dS (Kf W.1.size w) x (.slice a1 n1 c1) (.slice a2 n2 c2)
 have z:∀u,fs 3 u->∀K:Nat->Prop,(∀k,K k->k<W.1.size\/k=g)->Ie K C D E ((w.setCell (pA g 0) (.slice a1 n1 c1)).setCell (pA g 1) (.slice a2 n2 c2)) u:=λu b K j=>
  (h.wr u b (λk=>k<W.1.size\/k=g) λk e=>e.imp id (λe=>by rw[e];exact d)).of λT I=>Kx.disk i (.inr rfl) (I.back bR λk _ e=>j k e)
 refine⟨⟨_,_,_,_,_,_,i⟩,h.below.trans y,λu b=>(h.rcd u (dj b (by decide))).l y f,λu b K j=>z u (dj b (by decide)) K λk e=>(j k e).imp id λe=>?_,λu b=>?_,λu J b l=>h.one u J (dj b (by decide)) (dj l (by decide)),λ_=>⟨_,.inl d⟩⟩
 ·have:=h.one _ _ (dj e (by decide)) d
  simpa using this
 refine⟨g,a1,n1,c1,a2,n2,c2,h.one _ _ (dj b (by decide)) d,x,sY i _ _,λ_=>?_⟩;obtain⟨a,n,c,L,M,N,O,P,Q,e,-,R⟩:=z _ H _ λ_ e=>e
 simp at e;obtain⟨-,⟨⟨rfl,rfl,rfl⟩,rfl,rfl,rfl⟩,-⟩:=e;exact R
theorem uP.done(h:uP B W r C D E fs w){x u3:Value}{g:Nat}(j:fs 10 x)(m:fs 3 u3)(l:fs 8 (.pointer (sO g))):∃a b c d f i,w.1[g]?=some (.cells #[.slice a b c,.slice d f i] 25 (0,0))/\W.1.size<=g/\EP (λk=>k<W.1.size\/k=g) w (.agg #[.slice a b c,.slice d f i]) D/\Ie (λk=>k<W.1.size\/k=g) C D E w u3:=by obtain⟨q,a,b,c,d,f,i,e,n,o,p⟩:=h.box _ l;simp at e;subst e;exact⟨a,b,c,d,f,i,o,n,p ⟨_,j⟩,h.wr _ m _ λk e=>e.imp id λe=>by rw[e];exact l⟩
end
def JP(r:az)(E:Int)(k:Nat)(v:Value):Prop:=(k=2->∃a c,v=.agg #[U r.1,U r.2.1,U r.2.2.1,.slice a r.2.2.2.1.length c,U r.2.2.2.2])/\(k=3->∃a n c b d e f h i,v=.tuple #[.slice a n c,.agg #[.slice b d e,.slice f h i],U E])/\(k=8->∃g:Nat,v=.pointer (sO g))
theorem AJ(r E k):∃v,JP r E k v:=by
 by_cases a:k=2
 ·subst a;exact⟨_,λ_=>⟨none,0,rfl⟩,λe=>(by cases e),λe=>(by cases e)⟩
 by_cases b:k=3
 ·subst b;exact⟨_,λe=>(by cases e),λ_=>⟨none,0,0,none,0,0,none,0,0,rfl⟩,λe=>(by cases e)⟩
 exact⟨_,λe=>absurd e a,λe=>absurd e b,λ_=>⟨0,rfl⟩⟩
end
def tg(x:aH)(r:az):Int:=if eo x r=0 then fm (dL x r) else eo x r
def AP(x:aH)(r:az):aH:=if tg x r=0 then (kg x r,i7 (dL x r),true) else fg
theorem sN(x r):sW (dL x r):=by
 unfold dL
 split
 ·exact IA
 unfold sW;decide
theorem BO(B wv xv x y w)(he:dD w)(hx:bi B w wv x)(hy:cI B w xv y)(hB:B<=w.1.size)(hr:cr x=0):
  cL 43 #[wv,xv] w λe b=>∃v,e=.returned (.tuple #[v,U (tg x (bU y))])/\kG (λk=>k<w.1.size) b v (AP x (bU y))/\bL w b:=by
 have⟨hg,hk⟩:=kO hr;have af:Hid (∀b,bL w b->cL 71 #[xv] b λe i=>∃v,e=.returned v/\cI B i v (bU y)/\bL b i):=λb h=>xE B xv y b (hy.l h hB) (h.u hB)
 have ak:Hid (∀b rv,bL w b->cI B b rv (bU y)->cL 70 #[wv,rv] b λe i=>∃v,e=.returned v/\Ie (λk=>k<b.1.size) (kg x (bU y)) (dL x (bU y)) (eo x (bU y)) i v/\bL b i):=λb rv h h1=>xc B wv rv x (bU y) b (he.l h) (hx.l h hB) h1 (h.u hB) (Al hk)
 have V:Hid (∀b v,bL w b->cJ b.1.size b v (dL x (bU y))->cL 73 #[v] b λe i=>∃a1 n1 c1 a2 n2 c2,e=.returned (.tuple #[.agg #[.slice a1 n1 c1,.slice a2 n2 c2],U (fm (dL x (bU y)))])/\cV b.1.size i (.agg #[.slice a1 n1 c1,.slice a2 n2 c2]) (i7 (dL x (bU y)))/\bL b i):=λb v h h1=>(Fy _ v _ b (he.l h) h1 lE (sN _ _)).mono λe i ⟨v,h1,h2,h3⟩=>by obtain⟨a1,c1,b1,c2,e⟩:=h2.at.shapeS;subst e;exact⟨_,_,_,_,_,_,h1,h2,h3⟩
 have T:Hid (tg x (bU y)=if eo x (bU y)=0 then fm (dL x (bU y)) else eo x (bU y)):=rfl;have HR:Hid (AP x (bU y)=if tg x (bU y)=0 then (kg x (bU y),i7 (dL x (bU y)),true) else fg):=rfl;obtain⟨ca,cc,sa,sc,ta,tc,rfl,-,-⟩:=hx.shape;obtain⟨pa,pc,rfl,-⟩:=hy.shape;have HB:Hid (B<=w.1.size):=hB;clear he hx hy hr hg hk hB;generalize bU y=R at*;generalize kg x R=WC at*;generalize eo x R=WE at*;generalize dL x R=WD at*;generalize tg x R=CE at*;generalize AP x R=CR at*;generalize fm WD=SE at*;generalize i7 WD=SR at*;obtain⟨C,⟨s,t⟩,u⟩:=x;obtain⟨k,ci,f,rs,d⟩:=y;simp only at*;generalize C.length=nC at*;generalize s.length=nS at*;generalize t.length=nT at*;generalize rs.length=nP at*;have⟨H,g0,g1,g2⟩:=lF w #[.slice ca nC cc,.slice sa nS sc,.slice ta nT tc,.bool u] #[U k,U ci,U f,.slice pa nP pc,U d];have⟨W,hW⟩:=nM (sU w #[.slice ca nC cc,.slice sa nS sc,.slice ta nT tc,.bool u] #[U k,U ci,U f,.slice pa nP pc,U d]);rw[<-hW] at H g0 g1 g2;have HW:Hid (W=((w.alloc (.cells #[.slice ca nC cc,.slice sa nS sc,.slice ta nT tc,.bool u] 27)).alloc (.cells #[U k,U ci,U f,.slice pa nP pc,U d] 32)).alloc (.cells #[nL,nL,nL,.bool false] 27)):=hW;obtain⟨x0,x1,x2,x3,-⟩:=aL g0;have⟨y0,y1,y2,y3,y4⟩:=aF g1;have l0:=io g0;have l1:=io g1;have q0:∀z:ax W,z.1.cell? (pA w.1.size 0)=some (.slice ca nC cc):=λz=>z.cell x0 l0
 have q1:∀z:ax W,z.1.cell? (pA w.1.size 1)=some (.slice sa nS sc):=λz=>z.cell x1 l0
 have q2:∀z:ax W,z.1.cell? (pA w.1.size 2)=some (.slice ta nT tc):=λz=>z.cell x2 l0
 have q3:∀z:ax W,z.1.cell? (pA w.1.size 3)=some (.bool u):=λz=>z.cell x3 l0
 have p0:∀z:ax W,z.1.cell? (pA (w.1.size+1) 0)=some (U k):=λz=>z.cell y0 l1
 have p1:∀z:ax W,z.1.cell? (pA (w.1.size+1) 1)=some (U ci):=λz=>z.cell y1 l1
 have p2:∀z:ax W,z.1.cell? (pA (w.1.size+1) 2)=some (U f):=λz=>z.cell y2 l1
 have p3:∀z:ax W,z.1.cell? (pA (w.1.size+1) 3)=some (.slice pa nP pc):=λz=>z.cell y3 l1
 have p4:∀z:ax W,z.1.cell? (pA (w.1.size+1) 4)=some (U d):=λz=>z.cell y4 l1
 have X:=ax.ne W
 have m:Hid (∀fs b,uP B W R WC WD WE fs b->∃z:ax W,b=z.1):=λfs b h=>⟨⟨b,h.below⟩,rfl⟩
 have I:Hid (B<=W.1.size):=H.u HB.o;have bp:Hid (W.1[w.1.size+1+1]?=some (.cells #[nL,nL,nL,.bool false] 27 (0,0))):=g2;have J:Hid (bL w W):=H;clear hW H g0 g1 g2 x0 x1 x2 x3 y0 y1 y2 y3 y4 l0 l1;go_enter func43,ntmps43;go_wp2_with fail;rw[<-HW.o];refine bJ [_,_,_,_,_,_,_,_,_,_,_] _ rfl (λk=>k==2||k==3||k==8||k==10) (uP B W R WC WD WE) (JP R WE) (AJ _ _) (by kernel_rfl) (by kernel_rfl) (uP.start _ _ _ _ _ _) ?_;iterate 2(refine aP m.o rfl rfl ?_;go_big_quiet_step (fail);refine Km ?_)
 refine bw 71 #[.agg #[U k,U ci,U f,.slice pa nP pc,U d]] rfl rfl (λb=>by kernel_rfl) (λgs b j g l=>?_) (λv2 ds=>?_)
 ·refine(af.o b (J.o.th j.below)).mono ?_;rintro e w3 ⟨v,rfl,hv,hb⟩;obtain⟨a,c,ev,-⟩:=hv.shape;exact⟨_,rfl,⟨λ_=>⟨a,c,ev⟩,λe=>(by cases e),λe=>(by cases e)⟩,j.more I.o hb (by decide) (by decide) (λ_=>hv) (λe=>by cases e)⟩
 go_frame;obtain⟨ra,rc,rfl⟩:=ds.1 rfl;obtain⟨rk,ri,rf,rr,rd⟩:=R;simp only at*;generalize rr.length=nR at*;refine bw 70 #[.agg #[.slice ca nC cc,.slice sa nS sc,.slice ta nT tc,.bool u],.agg #[U rk,U ri,U rf,.slice ra nR rc,U rd]] rfl rfl (λb=>by kernel_rfl) (λgs b j g l=>?_) (λv3 e4=>?_)
 ·have h2:=g 2 _ (.inr ⟨rfl,rfl⟩) (au (by kernel_rfl));refine(ak.o b _ (J.o.th j.below) (j.rcd _ h2)).mono ?_;rintro e w3 ⟨v,rfl,hv,hb⟩;obtain⟨a,n,c,a1,n1,c1,a2,n2,c2,ev,-,-⟩:=id hv;exact⟨_,rfl,⟨λe=>(by cases e),λ_=>⟨a,n,c,a1,n1,c1,a2,n2,c2,ev⟩,λe=>(by cases e)⟩,j.more I.o hb (by decide) (by decide) (λe=>by cases e) (λ_=>hv)⟩
 go_frame;obtain⟨a3,n3,c3,a4,n4,c4,a5,n5,c5,rfl⟩:=e4.2.1 rfl;iterate 4(refine aP m.o rfl rfl ?_;go_big_quiet_step (fail);refine Km ?_)
 refine cz rfl rfl (λgs b j g l=>⟨.pointer (sO b.1.size),_,?_,⟨λe=>(by cases e),λe=>(by cases e),λ_=>⟨_,rfl⟩⟩,j.made I.o l⟩) (λv8 e5=>?_)
 ·clear j g l q0 q1 q2 q3 p0 p1 p2 p3 p4 m X;go_simp
 go_frame;obtain⟨L,rfl⟩:=e5.2.2 rfl;refine aP m.o rfl rfl ?_;go_big_quiet_step (fail);refine Km ?_;refine fL rfl rfl (λgs b j g l=>?_) (λgp f5=>?_)
 ·have h3:=g 3 _ (.inl (.inr ⟨rfl,rfl⟩)) (au (by kernel_rfl));have h8:=g 8 _ (.inr ⟨rfl,rfl⟩) (au (by kernel_rfl));have⟨⟨b1,m1,d1,b2,m2,d2,br⟩,bs⟩:=j.store I.o l h3 h8;have⟨z0,z1,f0,f1⟩:=ag br;refine⟨_,?_,⟨λe=>(by cases e),λe=>(by cases e),λe=>(by cases e)⟩,bs⟩;clear j g l q0 q1 q2 q3 p0 p1 p2 p3 p4 m X h3 h8 br bs;go_simp
 go_frame;refine ei ?_;intro w4 j;have⟨b1,m1,d1,b2,m2,d2,o,M,N,p⟩:=j.done (.inr ⟨rfl,rfl⟩) (.inl (.inl (.inr ⟨rfl,rfl⟩))) (.inl (.inr ⟨rfl,rfl⟩));obtain⟨_,_,_,_,_,_,_,_,_,ec,p,-⟩:=p;simp at ec;obtain⟨⟨rfl,rfl,rfl⟩,-⟩:=ec;have q:bL w w4:=J.o.th j.below;have lW:w.1.size+1+1<W.1.size:=io bp.o;have G4:=(j.below.block _ lW).trans bp.o;have⟨z0,z1,z2,z3,f0,f1,f2,f3⟩:=aL G4;have⟨x0,x1,e0,e1⟩:=ag o;clear j m X q0 q1 q2 q3 p0 p1 p2 p3 p4 af ak
 by_cases D:WE=0
 case neg=>
  rw[iO D] at T;rw[T.o,iO D] at HR;have hq:(WE != 0)=true:=by simpa using D
  obtain⟨W5,bx,k5,HF⟩:=kR G4 q (by omega);have ea:Hid (W5=_):=bx;obtain⟨v0,v1,v2,v3,-⟩:=aL k5;clear D bx k5 G4 o M N p q lW;go_wp2_with fail;rw[<-ea.o];refine Ka (v:=.tuple #[.agg #[nL,nL,nL,.bool false],U WE]) ?_ rfl ⟨_,by rw[T.o],by rw[HR.o];exact HF.o⟩;rw[K8 rfl];go_simp
 subst D;rw[Io rfl] at T;have E:Hid _:=V.o w4 _ q N.at;have l8:L<w4.1.size:=io o;go_wp2_with fail;go_at_call 73;refine Calls.mono E.o ?_;rintro e w5 ⟨a6,n6,c6,a7,n7,c7,rfl,Y,r⟩;have F:=(r.block _ l8).trans o;have G5:=r.bl G4;have a0:bL w w5:=q.th r;have⟨k0,k1,k2⟩:=ic (u:=.slice a6 n6 c6) (v:=.slice a7 n7 c7) F;have⟨W6,A⟩:=nM ((w5.setCell (pA L 0) (.slice a6 n6 c6)).setCell (pA L 1) (.slice a7 n7 c7));have O:∀P,Kx (λk=>k<W.1.size\/k=L) W6 P->Kx (λk=>k<W.1.size\/k=L) w5 P:=λP h=>by rw[A] at h;exact Kx.disk F (.inr rfl) h
 have Q:bL w W6:=by rw[A];exact dS a0 (Kl J.o.size M) _ _
 rw[<-A] at k0 k1 k2;have G6:=(k1 (w.1.size+1+1) (by omega)).trans G5;clear x0 x1 e0 e1 z0 z1 z2 z3 f0 f1 f2 f3;have⟨x0,x1,e0,e1⟩:=ag F;have⟨z0,z1,z2,z3,f0,f1,f2,f3⟩:=aL G5;have gM:¬L=w.1.size+1+1:=by omega
 have gT:¬w.1.size+1+1=L:=by omega
 have bF:Hid (W6=_):=A
 by_cases S:SE=0
 case neg=>
  rw[T.o,iO S] at HR;have hq:(SE != 0)=true:=by simpa using S
  obtain⟨W7,G,k7,HF⟩:=kR G6 Q (by omega);have a8:Hid (W7=_):=G;obtain⟨v0,v1,v2,v3,-⟩:=aL k7;clear S G k7 G4 G5 G6 o F M N p q a0 Q Y r k0 k1 k2 A O lW l8 E V;go_wp2_with fail;rw[<-bF.o,<-a8.o];refine Ka (v:=.tuple #[.agg #[nL,nL,nL,.bool false],U SE]) ?_ rfl ⟨_,by rw[T.o],by rw[HR.o];exact HF.o⟩;rw[K8 rfl];go_simp
 subst S;rw[T.o,Io rfl] at HR;have c8:∀k,k<W.1.size\/k=L->k<w4.1.size:=λk h=>by omega
 obtain⟨W7,G,k7,HF⟩:=iC (K:=λk=>k<W.1.size\/k=L) (x:=(WC,SR,true)) G6 (xq (λP h=>(p.l r λ_ _ e=>e) P (O P h)) (λP h=>Y.k P ((O P h).back bR λk _ e=>c8 k e)) rfl) (.inl lW) Q (by omega) (λk h=>.inl (by omega));have a8:Hid (W7=_):=G;obtain⟨v0,v1,v2,v3,-⟩:=aL k7;clear G k7 G4 G5 G6 o F M N p q a0 Q Y r k0 k1 k2 A O c8 lW l8 E V;go_wp2_with fail;rw[<-bF.o,<-a8.o];refine Ka (v:=.tuple #[.agg #[.slice a3 n3 c3,.slice a6 n6 c6,.slice a7 n7 c7,.bool true],U 0]) ?_ rfl ⟨_,by rw[T.o],by rw[HR.o];exact HF.o⟩;rw[K8 rfl];go_simp
def tG(x:aH)(r:az)(f:Int):aH:=if eo x r=0 then (aA,((dL x r).1,(dL x r).2.take (ig f (dL x r).2.length)),false) else fg
theorem uv{d:bQ}(f:Int)(h:aB d=0):i9 d (min (max f 0) d.2.length)=0/\kE d (min (max f 0) d.2.length)=(d.1,d.2.take (ig f d.2.length)):=by
 have e:i9 d (min (max f 0) d.2.length)=0:=by unfold i9;rw[Io h,iO (by omega)]
 refine⟨e,?_⟩;unfold kE ig;rw[Io e];congr 2;omega
theorem FI(B wv xv x y w)(he:dD w)(hx:bi B w wv x)(hy:cI B w xv y)(V:B<=w.1.size)(hr:cr x=0)(r:eo x (bU y)=0->aB (dL x (bU y))=0):
  cL 42 #[wv,xv] w λe b=>∃v,e=.returned (.tuple #[v,U (eo x (bU y))])/\kG (λk=>k<w.1.size) b v (tG x (bU y) y.2.2.1)/\bL w b:=by
 have⟨hg,hk⟩:=kO hr;have ao:Hid (∀b,bL w b->cL 71 #[xv] b λe i=>∃v,e=.returned v/\cI B i v (bU y)/\bL b i):=λb h=>xE B xv y b (hy.l h V) (h.u V)
 have av:Hid (∀b rv,bL w b->cI B b rv (bU y)->cL 70 #[wv,rv] b λe i=>∃v,e=.returned v/\Ie (λk=>k<b.1.size) (kg x (bU y)) (dL x (bU y)) (eo x (bU y)) i v/\bL b i):=λb rv h X=>xc B wv rv x (bU y) b (he.l h) (hx.l h V) X (h.u V) (Al hk)
 have b0:Hid (eo x (bU y)=0->∀b v,bL w b->cJ b.1.size b v (dL x (bU y))->cL 72 #[v,U (min (max y.2.2.1 0) (dL x (bU y)).2.length)] b λe i=>∃a1 n1 c1 a2 n2 c2,e=.returned (.tuple #[.agg #[.slice a1 n1 c1,.slice a2 n2 c2],U 0])/\cV b.1.size i (.agg #[.slice a1 n1 c1,.slice a2 n2 c2]) ((dL x (bU y)).1,(dL x (bU y)).2.take (ig y.2.2.1 (dL x (bU y)).2.length))/\bL b i):=λh0 b v h X=>(Dl _ v _ _ b (he.l h) (cR (by have:=sN x (bU y);unfold sW at this;omega)) X lE (sN _ _)).mono λe i ⟨v,X,h2,h3⟩=>by rw[(uv _ (r h0)).1] at X;rw[(uv _ (r h0)).2] at h2;obtain⟨a1,c1,b1,c2,e⟩:=h2.at.shapeS;subst e;exact⟨_,_,_,_,_,_,X,h2,h3⟩
 have b7:Hid (eo x (bU y)=0->(((dL x (bU y)).1,(dL x (bU y)).2.take (ig y.2.2.1 (dL x (bU y)).2.length)):bQ).1.length<=60000/\(((dL x (bU y)).1,(dL x (bU y)).2.take (ig y.2.2.1 (dL x (bU y)).2.length)):bQ).2.length<=60000):=λh0=>by have:=dE (r h0);exact⟨this.1,by show (List.take _ _).length<=_;rw[Kt];omega⟩
 have HR:Hid (tG x (bU y) y.2.2.1=if eo x (bU y)=0 then (aA,((dL x (bU y)).1,(dL x (bU y)).2.take (ig y.2.2.1 (dL x (bU y)).2.length)),false) else fg):=rfl;obtain⟨ca,cc,sa,sc,ta,tc,rfl,-,-⟩:=hx.shape;obtain⟨Y,pc,rfl,-⟩:=hy.shape;have HB:Hid (B<=w.1.size):=V;clear he hx hy hr hg hk V r;generalize bU y=R at*;generalize kg x R=WC at*;generalize eo x R=WE at*;generalize dL x R=M at*;generalize tG x R y.2.2.1=CR at*;generalize ((M.1,M.2.take (ig y.2.2.1 M.2.length)):bQ)=TD at*;obtain⟨C,⟨s,t⟩,u⟩:=x;obtain⟨k,ci,f,rs,d⟩:=y;simp only at*;generalize C.length=nC at*;generalize s.length=nS at*;generalize t.length=nT at*;generalize rs.length=nP at*;have⟨A,g0,g1,g2⟩:=lF w #[.slice ca nC cc,.slice sa nS sc,.slice ta nT tc,.bool u] #[U k,U ci,U f,.slice Y nP pc,U d];have⟨W,hW⟩:=nM (sU w #[.slice ca nC cc,.slice sa nS sc,.slice ta nT tc,.bool u] #[U k,U ci,U f,.slice Y nP pc,U d]);rw[<-hW] at A g0 g1 g2;have HW:Hid (W=((w.alloc (.cells #[.slice ca nC cc,.slice sa nS sc,.slice ta nT tc,.bool u] 27)).alloc (.cells #[U k,U ci,U f,.slice Y nP pc,U d] 32)).alloc (.cells #[nL,nL,nL,.bool false] 27)):=hW;obtain⟨x0,x1,x2,x3,-⟩:=aL g0;have⟨y0,y1,y2,y3,y4⟩:=aF g1;have l0:=io g0;have l1:=io g1;have q0:∀z:ax W,z.1.cell? (pA w.1.size 0)=some (.slice ca nC cc):=λz=>z.cell x0 l0
 have q1:∀z:ax W,z.1.cell? (pA w.1.size 1)=some (.slice sa nS sc):=λz=>z.cell x1 l0
 have q2:∀z:ax W,z.1.cell? (pA w.1.size 2)=some (.slice ta nT tc):=λz=>z.cell x2 l0
 have q3:∀z:ax W,z.1.cell? (pA w.1.size 3)=some (.bool u):=λz=>z.cell x3 l0
 have p0:∀z:ax W,z.1.cell? (pA (w.1.size+1) 0)=some (U k):=λz=>z.cell y0 l1
 have p1:∀z:ax W,z.1.cell? (pA (w.1.size+1) 1)=some (U ci):=λz=>z.cell y1 l1
 have p2:∀z:ax W,z.1.cell? (pA (w.1.size+1) 2)=some (U f):=λz=>z.cell y2 l1
 have p3:∀z:ax W,z.1.cell? (pA (w.1.size+1) 3)=some (.slice Y nP pc):=λz=>z.cell y3 l1
 have p4:∀z:ax W,z.1.cell? (pA (w.1.size+1) 4)=some (U d):=λz=>z.cell y4 l1
 have N:=ax.ne W
 have m:Hid (∀fs b,uP B W R WC M WE fs b->∃z:ax W,b=z.1):=λfs b h=>⟨⟨b,h.below⟩,rfl⟩
 have D:Hid (B<=W.1.size):=A.u HB.o;have bp:Hid (W.1[w.1.size+1+1]?=some (.cells #[nL,nL,nL,.bool false] 27 (0,0))):=g2;have E:Hid (bL w W):=A;have dn:Hid (∀b,bL W b->b.1[w.1.size+1]?=some (.cells #[U k,U ci,U f,.slice Y nP pc,U d] 32 (0,0))):=λb h=>h.bl g1
 clear hW A g0 g1 g2 x0 x1 x2 x3 y0 y1 y2 y3 y4 l0 l1;go_enter func42,ntmps42;go_wp2_with fail;rw[<-HW.o];refine bJ [_,_,_,_,_,_,_,_,_,_,_] _ rfl (λk=>k==2||k==3||k==8||k==10) (uP B W R WC M WE) (JP R WE) (AJ _ _) (by kernel_rfl) (by kernel_rfl) (uP.start _ _ _ _ _ _) ?_;iterate 2(refine aP m.o rfl rfl ?_;go_big_quiet_step (fail);refine Km ?_)
 refine bw 71 #[.agg #[U k,U ci,U f,.slice Y nP pc,U d]] rfl rfl (λb=>by kernel_rfl) (λgs b j g l=>?_) (λv2 dq=>?_)
 ·refine(ao.o b (E.o.th j.below)).mono ?_;rintro e w3 ⟨v,rfl,hv,hb⟩;obtain⟨a,c,ev,-⟩:=hv.shape;exact⟨_,rfl,⟨λ_=>⟨a,c,ev⟩,λe=>(by cases e),λe=>(by cases e)⟩,j.more D.o hb (by decide) (by decide) (λ_=>hv) (λe=>by cases e)⟩
 go_frame;obtain⟨ra,rc,rfl⟩:=dq.1 rfl;obtain⟨rk,ri,rf,rr,rd⟩:=R;simp only at*;generalize rr.length=nR at*;refine bw 70 #[.agg #[.slice ca nC cc,.slice sa nS sc,.slice ta nT tc,.bool u],.agg #[U rk,U ri,U rf,.slice ra nR rc,U rd]] rfl rfl (λb=>by kernel_rfl) (λgs b j g l=>?_) (λv3 dv=>?_)
 ·have h2:=g 2 _ (.inr ⟨rfl,rfl⟩) (au (by kernel_rfl));refine(av.o b _ (E.o.th j.below) (j.rcd _ h2)).mono ?_;rintro e w3 ⟨v,rfl,hv,hb⟩;obtain⟨a,n,c,a1,n1,c1,a2,n2,c2,ev,-,-⟩:=id hv;exact⟨_,rfl,⟨λe=>(by cases e),λ_=>⟨a,n,c,a1,n1,c1,a2,n2,c2,ev⟩,λe=>(by cases e)⟩,j.more D.o hb (by decide) (by decide) (λe=>by cases e) (λ_=>hv)⟩
 go_frame;obtain⟨a3,n3,c3,a4,n4,c4,a5,n5,c5,rfl⟩:=dv.2.1 rfl;iterate 4(refine aP m.o rfl rfl ?_;go_big_quiet_step (fail);refine Km ?_)
 refine cz rfl rfl (λgs b j g l=>⟨.pointer (sO b.1.size),_,?_,⟨λe=>(by cases e),λe=>(by cases e),λ_=>⟨_,rfl⟩⟩,j.made D.o l⟩) (λv8 e2=>?_)
 ·clear j g l q0 q1 q2 q3 p0 p1 p2 p3 p4 m N;go_simp
 go_frame;obtain⟨g8,rfl⟩:=e2.2.2 rfl;refine aP m.o rfl rfl ?_;go_big_quiet_step (fail);refine Km ?_;refine fL rfl rfl (λgs b j g l=>?_) (λgT fb=>?_)
 ·have h3:=g 3 _ (.inl (.inr ⟨rfl,rfl⟩)) (au (by kernel_rfl));have h8:=g 8 _ (.inr ⟨rfl,rfl⟩) (au (by kernel_rfl));have⟨⟨b1,m1,d1,b2,m2,d2,br⟩,bs⟩:=j.store D.o l h3 h8;have⟨z0,z1,f0,f1⟩:=ag br;refine⟨_,?_,⟨λe=>(by cases e),λe=>(by cases e),λe=>(by cases e)⟩,bs⟩;clear j g l q0 q1 q2 q3 p0 p1 p2 p3 p4 m N h3 h8 br bs;go_simp
 go_frame;refine ei ?_;intro w4 j;have⟨b1,m1,d1,b2,m2,d2,o,O,F,G⟩:=j.done (.inr ⟨rfl,rfl⟩) (.inl (.inl (.inr ⟨rfl,rfl⟩))) (.inl (.inr ⟨rfl,rfl⟩));obtain⟨_,_,_,_,_,_,_,_,_,ec,G,-⟩:=G;simp at ec;obtain⟨⟨rfl,rfl,rfl⟩,-⟩:=ec;have p:bL w w4:=E.o.th j.below;have lW:w.1.size+1+1<W.1.size:=io bp.o;have G4:=(j.below.block _ lW).trans bp.o;have⟨z0,z1,z2,z3,f0,f1,f2,f3⟩:=aL G4;have⟨x0,x1,e0,e1⟩:=ag o;have P:=j.below;clear j m N q0 q1 q2 q3 p0 p1 p2 p3 p4 ao av
 by_cases H:WE=0
 case neg=>
  rw[iO H] at HR;have hq:(WE != 0)=true:=by simpa using H
  obtain⟨W5,bx,k5,HF⟩:=kR G4 p (by omega);have ee:Hid (W5=_):=bx;obtain⟨v0,v1,v2,v3,-⟩:=aL k5;clear H bx k5 G4 o O F G p lW P;go_wp2_with fail;rw[<-ee.o];refine Ka (v:=.tuple #[.agg #[nL,nL,nL,.bool false],U WE]) ?_ rfl ⟨_,rfl,by rw[HR.o];exact HF.o⟩;rw[K8 rfl];go_simp
 subst H;rw[Io rfl] at HR;obtain⟨_,_,_,_,ed⟩:=F.at.shapeS;simp at ed;obtain⟨⟨rfl,rfl,rfl⟩,rfl,rfl,rfl⟩:=ed;have K:Hid _:=b0.o rfl w4 _ p F.at;have L:Hid _:=b7.o rfl;have l8:g8<w4.1.size:=io o;have r2:=((aF (dn.o w4 P)).2.2.1);generalize M.1.length=m1 at*;generalize M.2.length=m2 at*;clear b0 P b7;go_wp2_with fail;go_at_call 72;refine Calls.mono K.o ?_;rintro e w5 ⟨a6,n6,c6,a7,n7,c7,rfl,bz,I⟩;have Q:=(I.block _ l8).trans o;have G5:=I.bl G4;have bF:bL w w5:=p.th I;have⟨k0,k1,k2⟩:=ic (u:=.slice a6 n6 c6) (v:=.slice a7 n7 c7) Q;have⟨W6,J⟩:=nM ((w5.setCell (pA g8 0) (.slice a6 n6 c6)).setCell (pA g8 1) (.slice a7 n7 c7));have c0:bL w W6:=by rw[J];exact dS bF (Kl E.o.size O) _ _
 rw[<-J] at k0 k1 k2;have G6:=(k1 (w.1.size+1+1) (by omega)).trans G5;have cb:Hid _:=tq W6.1.size _ _ W6 (bz.keep k1 l8 k2).at lE L.o;clear x0 x1 e0 e1 z0 z1 z2 z3 f0 f1 f2 f3 r2;have⟨x0,x1,e0,e1⟩:=ag Q;have ej:Hid (W6=_):=J;have q:Hid (bL w W6/\W6.1[w.1.size+1+1]?=some (.cells #[nL,nL,nL,.bool false] 27 (0,0))):=⟨c0,G6⟩;clear G4 G5 G6 o Q O F G p bF c0 bz I k0 k1 k2 J lW l8 K L;go_wp2_with fail;rw[<-ej.o];go_at_call 28;refine Calls.mono cb.o ?_;rintro e w7 ⟨v7,rfl,S,T⟩;obtain⟨a8,c8,a9,c9,ek,el,rfl,-⟩:=S.at.shape;have G7:=T.bl q.o.2;clear x0 x1 e0 e1;have⟨z0,z1,z2,z3,f0,f1,f2,f3⟩:=aL G7;obtain⟨W7,cd,k7,HF⟩:=iC G7 S (io q.o.2) (q.o.1.th T) (by omega) (λk h=>Kd h q.o.1.size);have en:Hid (W7=_):=cd;obtain⟨v0,v1,v2,v3,-⟩:=aL k7;simp only at*;generalize aA.length=n8 at*;generalize TD.1.length=n9 at*;generalize TD.2.length=eq at*;clear cd k7 G7 S T q cb;go_wp2_with fail;rw[<-en.o];refine Ka (v:=.tuple #[.agg #[.slice a8 n8 c8,.slice a9 n9 c9,.slice ek eq el,.bool false],U 0]) ?_ rfl ⟨_,rfl,by rw[HR.o];exact HF.o⟩;rw[K8 rfl];go_simp
def mV(d:bQ):Int:=if aB d=0 then (ay (cK d)).2 else aB d
def oh(d:bQ):aH:=if mV d=0 then ((ay (cK d)).1,gE d,true) else fg
theorem yu(B v d w)(he:dD w)(hd:cJ B w v d)(hB:B<=w.1.size)(O:sW d):
  cL 29 #[v] w λe g=>∃v',e=.returned (.tuple #[v',U (mV d)])/\kG (λk=>k<w.1.size) g v' (oh d)/\bL w g:=by
 obtain⟨a,c,b,F,rfl⟩:=hd.shapeS;have P:Hid (∀g,bL w g->cL 59 #[.agg #[.slice a d.1.length c,.slice b d.2.length F]] g λe f=>∃G L H a2 n2 F la ln lc,e=.returned (.tuple #[.agg #[.slice G L H,.slice a2 n2 F],.slice la ln lc,U (aB d)])/\cV g.1.size f (.agg #[.slice G L H,.slice a2 n2 F]) (gE d)/\dh f.1.size f (.slice la ln lc) (cK d)/\bL g f):=λg h=>(A5 B _ d g (he.l h) (hd.l h hB) (h.u hB) O).mono λe f ⟨v',Q,h1,R,h3,h4⟩=>by obtain⟨G,H,b1,F,e1⟩:=R.at.shapeS;obtain⟨la,lc,e2,-⟩:=id h3;subst e1 e2;exact⟨_,_,_,_,_,_,_,_,_,h1,R,h3,h4⟩
 have S:Hid (∀Q g,dh g.1.size g Q (cK d)->cL 60 #[Q] g λe f=>∃a n c,e=.returned (.tuple #[.slice a n c,U (ay (cK d)).2])/\wG g.1.size f (.slice a n c) (ay (cK d)).1/\bL g f):=λQ g h=>(CZ _ Q _ g h lE).mono λe f ⟨v',h1,R,h3⟩=>by obtain⟨a,c,e,-⟩:=R.at.shape;subst e;exact⟨_,_,_,h1,R,h3⟩
 have z:Hid (mV d=if aB d=0 then (ay (cK d)).2 else aB d):=rfl;have M:Hid (oh d=if mV d=0 then ((ay (cK d)).1,gE d,true) else fg):=rfl;clear hd O he hB;generalize cK d=rs at*;generalize gE d=D at*;generalize aB d=de at*;generalize mV d=BE at*;generalize oh d=BR at*;generalize (ay rs).1=C at*;generalize (ay rs).2=E at*;generalize d.1.length=n at*;generalize d.2.length=m at*;have⟨W,T⟩:=nM ((w.alloc (.cells #[.slice a n c,.slice b m F] 25)).alloc (.cells #[nL,nL,nL,.bool false] 27));have I:=bB T;have g0:W.1[w.1.size]?=some (.cells #[.slice a n c,.slice b m F] 25 (0,0)):=by rw[T];exact dF _ (aY _ _ rfl)
 have g1:=gC T;have HW:=Z T;clear T;go_enter func29,ntmps29;go_wp2_with fail;rw[<-HW.o];go_at_call 59;refine Calls.mono (P.o W I) ?_;rintro e w1 ⟨G,L,H,a3,n3,c3,la,ln,lc,rfl,V,X,o⟩;have A:=o.bl g0;have s:=o.bl g1;have⟨k0,Y,k2⟩:=ic (u:=.slice G L H) (v:=.slice a3 n3 c3) A;have⟨W2,t⟩:=nM ((w1.setCell (pA w.1.size 0) (.slice G L H)).setCell (pA w.1.size 1) (.slice a3 n3 c3));have⟨x0,x1,f0,f1⟩:=ag A;have⟨z0,z1,z2,z3,e0,e1,e2,e3⟩:=aL s;have a0:bL w W2:=by rw[t];exact dS (I.th o) lE _ _
 have l1:=io s;rw[<-t] at k0 Y k2;have K1:=(Y (w.1.size+1) (by omega)).trans s;have b7:=Z (V.keep Y (io g0) k2);have J:=X.box Y (gw.of A);rw[<-k2] at J;have j:Hid _:=S.o _ W2 J;have N:=Z2 k0 K1;have p:Hid (bL w W2/\W.1.size<=W2.1.size/\w.1.size+1<W.1.size):=⟨a0,by have:=o.size;omega,io g1⟩;have K:=Z t;clear t k0 Y k2 K1 J V X A s P S I o g0 g1 a0 HW
 by_cases q:de=0
 ·subst q;rw[Io rfl] at z;go_wp2_with fail;rw[<-K.o];go_at_call 60;refine Calls.mono j.o ?_;rintro e w3 ⟨ra,rn,rc,rfl,hc,l⟩;have A:=l.bl N.o.1;have s:=l.bl N.o.2;have y:bL w w3:=p.o.1.th l;obtain⟨y0,y1,-,-⟩:=ag A;clear x0 x1 f0 f1 z0 z1 z2 z3 e0 e1 e2 e3 l1 K;have⟨z0,z1,z2,z3,e0,e1,e2,e3⟩:=aL s
  by_cases hE:E=0
  ·subst hE;rw[z.o,Io rfl] at M;obtain⟨W5,i,k,HF⟩:=iC (x:=(C,D,true)) s (xq (hc.l bR λk _ h=>Kd h p.o.2.1) (b7.o.l l).k rfl) p.o.2.2 y (Mb _) (λk h=>by have:=p.o.2.2;omega);have r:=Z i;obtain⟨v0,v1,v2,v3,-⟩:=aL k;clear A s y hc i k l N j;go_wp2_with fail;rw[<-r.o];refine Ka (v:=.tuple #[.agg #[.slice ra rn rc,.slice G L H,.slice a3 n3 c3,.bool true],U 0]) ?_ rfl ⟨_,by rw[z.o],by rw[M.o];exact HF.o⟩;rw[K8 rfl];go_simp
  rw[z.o,iO hE] at M;have hq:(E != 0)=true:=by simpa using hE
  obtain⟨W5,i,k,HF⟩:=kR s y (Mb _);have r:=Z i;obtain⟨v0,v1,v2,v3,-⟩:=aL k;clear A s y hc i k l N hE j;go_wp2_with fail;rw[<-r.o];refine Ka (v:=.tuple #[.agg #[nL,nL,nL,.bool false],U E]) ?_ rfl ⟨_,by rw[z.o],by rw[M.o];exact HF.o⟩;rw[K8 rfl];go_simp
 rw[iO q] at z;rw[z.o,iO q] at M;have hq:(de != 0)=true:=by simpa using q
 obtain⟨W5,i,k,HF⟩:=kR N.o.2 p.o.1 (Mb _);have r:=Z i;obtain⟨v0,v1,v2,v3,-⟩:=aL k;clear i k q j N;go_wp2_with fail;rw[<-K.o,<-r.o];refine Ka (v:=.tuple #[.agg #[nL,nL,nL,.bool false],U de]) ?_ rfl ⟨_,by rw[z.o],by rw[M.o];exact HF.o⟩;rw[K8 rfl];go_simp
theorem nU(B v x w)(he:dD w)(hx:bi B w v x)(L:B<=w.1.size)(a3:sW x.2.1):
  cL 9 #[v] w (rT w (U (cr x))):=by
 obtain⟨ca,cc,sa,sc,ta,tc,rfl,hc,hd⟩:=hx.shape;obtain⟨b,d,u⟩:=x;simp only at*;have d0:=Z λa (h:bL w a)=>jD B _ d a (he.l h) (hd.l h L) (h.u L) a3
 have M:Hid (aB d=0->∀a,bL w a->cL 28 #[.agg #[.slice sa d.1.length sc,.slice ta d.2.length tc]] a λe f=>∃r N s t O y z P A Q,e=.returned (.agg #[.slice r N s,.slice t O y,.slice z P A,.bool Q])/\kG (λk=>k<a.1.size) f (.agg #[.slice r N s,.slice t O y,.slice z P A,.bool Q]) (aA,d,false)/\bL a f):=λh0 a h=>(tq B _ d a (hd.l h L) (h.u L) ⟨(dE h0).1,(dE h0).2.1⟩).mono λe f ⟨v',h1,h2,h3⟩=>by obtain⟨r,s,t,y,z,A,e,-⟩:=h2.at.shape;subst e;exact⟨_,_,_,_,_,_,_,_,_,_,h1,h2,h3⟩
 have R:Hid (aB d=0->∀a,bL w a->cL 29 #[.agg #[.slice sa d.1.length sc,.slice ta d.2.length tc]] a λe f=>∃r N s t O y z P A Q,e=.returned (.tuple #[.agg #[.slice r N s,.slice t O y,.slice z P A,.bool Q],U (ay (cK d)).2])/\kG (λk=>k<a.1.size) f (.agg #[.slice r N s,.slice t O y,.slice z P A,.bool Q]) (oh d)/\bL a f):=λh0 a h=>(yu B _ d a (he.l h) (hd.l h L) (h.u L) a3).mono λe f ⟨v',h1,h2,h3⟩=>by obtain⟨r,s,t,y,z,A,e,-⟩:=h2.at.shape;subst e;rw[show mV d=(ay (cK d)).2 from Io h0] at h1;exact⟨_,_,_,_,_,_,_,_,_,_,h1,h2,h3⟩
 have i:Hid (∀ (lv:Value) (ls:List aG) a,bL w a->aE a.1.size a lv ls->cL 30 #[.slice ca b.length cc,lv] a (rT a (.bool (decide (b=ls))))):=λlv ls a h h1=>xt a.1.size _ _ b ls a ((hc.l h L).wide (h.u L)) h1 lE
 have HT:Hid (d.2=[] ↔ d.2.length=0):=LA.symm;have HU:=Z (uO b d);have HD:=Z (ng b d);have S:Hid (aB d=0->(ay (cK d)).2=0->(oh d).1=(ay (cK d)).1):=λh0 h=>by unfold oh mV;rw[Io h0,Io h]
 clear hc hd hx he a3 L;generalize aB d=de at*;generalize cK d=rs at*;generalize (ay rs).1=C at*;generalize (ay rs).2=E at*;generalize oh d=BR at*;generalize b.length=nC at*;generalize d.1.length=nS at*;generalize d.2.length=nT at*;have⟨W0,T⟩:=nM (w.alloc (.cells #[.slice ca nC cc,.slice sa nS sc,.slice ta nT tc,.bool u] 27));have a8:=bA T;have g0:=hA T;have HG:Hid (∀a,bL W0 a->a.cell? (pA w.1.size 0)=some (.slice ca nC cc)/\a.cell? (pA w.1.size 1)=some (.slice sa nS sc)/\a.cell? (pA w.1.size 2)=some (.slice ta nT tc)/\a.cell? (pA w.1.size 3)=some (.bool u)/\a.cell? ⟨w.1.size,1+1,none⟩=some (.slice ta nT tc)/\w.1.size<a.1.size/\bL w a):=λa h=>by have k:=h.bl g0;exact⟨J0 k,J1 k,J2 k,J3 k,J2 k,io k,a8.th h⟩
 have d4:=Z T;have d5:=Z a8;clear T g0 a8;go_enter func9,ntmps9;go_wp2_with fail;rw[<-d4.o];go_at_call 27;refine Calls.mono (d0.o _ d5.o) ?_;rintro e w1 ⟨rfl,a9⟩;have⟨q0,q1,q2,q3,ba,l1,aa⟩:=HG.o w1 a9
 by_cases D:de=0
 case neg=>
  have hq:(de != 0)=true:=by simpa using D
  have e:Hid (cr (b,d,u)=de):=by
   unfold Hid
   cases u
   ·rw[HD.o,iO D]
   rw[HU.o,iO D]
  clear D HU HD M R i HT S;go_wp2_with fail;go_ret;exact⟨by rw[e.o];rfl,aa⟩
 subst D;have F:Hid _:=M.o rfl w1 aa
 cases u with
 |false=>
  have e:Hid (cr (b,d,false)=if aA=b then 0 else 4):=by unfold Hid;rw[HD.o,Io rfl]
  clear HU HD M R HT S;go_wp2_with fail;go_at_call 28;refine Calls.mono F.o ?_;rintro e2 G ⟨r,N,s,t,O,y,z,P,A,Q,rfl,V,H⟩;have⟨p0,p1,p2,p3,bb,l2,ac⟩:=HG.o G (a9.th H);clear q0 q1 q2 q3 ba;have⟨W3,c⟩:=nM (G.alloc (.cells #[.slice r N s,.slice t O y,.slice z P A,.bool Q] 27));have j:=bA c;have m:bL w W3:=ac.th j;have bd:Hid _:=i.o _ _ W3 m (V.cells.l j λ_ _ h=>h).at;have ad:=Z c;have d6:=Z m;clear c j m V H i;go_wp2_with fail;rw[<-ad.o];go_at_call 30;refine Calls.mono bd.o ?_;rintro e3 w4 ⟨rfl,I⟩;have n:bL w w4:=d6.o.th I
  by_cases o:b=aA
  ·have p:Hid (cr (b,d,false)=0):=by unfold Hid;rw[e.o,Io o.symm]
   rw[show decide (b=(aA,d,false).1)=true from KS o];clear o e;go_wp2_with fail;go_ret;exact⟨by rw[p.o];rfl,n⟩
  have p:Hid (cr (b,d,false)=4):=by unfold Hid;rw[e.o,iO λh=>o h.symm]
  rw[show decide (b=(aA,d,false).1)=false from KD o];clear o e;go_wp2_with fail;go_ret;exact⟨by rw[p.o];rfl,n⟩
 |true=>
  have e:Hid (cr (b,d,true)=if d.2≠[] then 4 else if E=0 then (if C=b then 0 else 4) else E):=by unfold Hid;rw[HU.o,Io rfl]
  have X:=R.o rfl;have J:Hid _:=X;have Y:=S.o rfl;have l:Hid _:=Y;clear HU HD M R X S Y
  by_cases ht:nT=0
  case neg=>
   have p:Hid (cr (b,d,true)=4):=by unfold Hid;rw[e.o,Io λh=>ht (HT.o.1 h)]
   have h0:(0:Int)<(nT:Int):=by omega
   clear ht e HT J l i F;go_wp2_with fail;go_ret;exact⟨by rw[p.o];rfl,aa⟩
  have p:Hid (cr (b,d,true)=if E=0 then (if C=b then 0 else 4) else E):=by unfold Hid;rw[e.o,iO λh=>h (HT.o.2 ht)]
  subst ht;clear e HT;go_wp2_with fail;go_at_call 28;refine Calls.mono F.o ?_;rintro e2 G ⟨r,N,s,t,O,y,z,P,A,Q,rfl,V,H⟩;have ae:=a9.th H;have⟨p0,p1,p2,p3,bb,l2,ac⟩:=HG.o G ae;clear q0 q1 q2 q3 ba V;have⟨W3,c⟩:=nM (G.alloc (.cells #[.slice r N s,.slice t O y,.slice z P A,.bool Q] 27));have j:=bA c;have g3:=hA c;have bf:=ae.th j;have m:bL w W3:=ac.th j;have bg:Hid _:=J.o W3 m;have ad:=Z c;have da:=Z bf;have G3:=Z g3;clear c j m H J g3 ae bf;go_wp2_with fail;rw[<-ad.o];go_at_call 29;refine Calls.mono bg.o ?_;rintro e4 w4 ⟨a4,n4,c4,a5,n5,c5,a6,n6,c6,u4,rfl,af,I⟩;have bp:=da.o.th I;have⟨r0,r1,r2,r3,ew,l4,n⟩:=HG.o w4 bp;have g4:=I.bl G3.o;clear p0 p1 p2 p3 bb;have⟨W5,K⟩:=nM (w4.alloc (.cells #[.slice a4 n4 c4,.slice a5 n5 c5,.slice a6 n6 c6,.bool u4] 27));have W:=bA K;have ak:bL w W5:=n.th W;have bq:=Z K;have g5:=W.bl g4;have g6:=hA K
  by_cases hE:E=0
  case neg=>
   have hq:(E != 0)=true:=by simpa using hE
   have e6:Hid (cr (b,d,true)=E):=by unfold Hid;rw[p.o,iO hE]
   have dc:=Z ak;clear hE p i l af K W g4 g5 g6 ak;go_wp2_with fail;rw[<-bq.o];go_ret;exact⟨by rw[e6.o];rfl,dc.o⟩
  subst hE;rw[Io rfl] at p;have l3:G.1.size<w4.1.size:=io g4;have lw:w.1.size<=G.1.size:=by omega
  have⟨k1,k2,k3,k4⟩:=eK (u0:=.slice a4 n4 c4) (u1:=.slice a5 n5 c5) (u2:=.slice a6 n6 c6) (u3:=.bool u4) g4;have⟨W6,al⟩:=nM ((((w4.setCell (pA G.1.size 0) (.slice a4 n4 c4)).setCell (pA G.1.size 1) (.slice a5 n5 c5)).setCell (pA G.1.size 2) (.slice a6 n6 c6)).setCell (pA G.1.size 3) (.bool u4));rw[<-al] at k1 k2 k3 k4;have⟨W7,ao⟩:=nM (W6.alloc (.cells #[.slice a4 n4 c4,.slice a5 n5 c5,.slice a6 n6 c6,.bool u4] 27));have av:=bA ao;have bv:bL w W6:=n.trans (k4 _ lw);have q:bL w W7:=bv.th av;have bx:aE W7.1.size W7 (.slice a4 n4 c4) C:=by rw[<-l.o rfl];exact af.cells W7 (Kx.put ((Kx.refl _ _).back av λ_ _ h=>h) (k4 0 (Ks _)) (λg hg=>k2 g λe=>hg (by rw[e];exact io G3.o)) k3)
  have bz:Hid _:=i.o _ _ W7 q bx;have di:=Z al;have dk:=Z ao;have dl:=Z q;have⟨y0,y1,y2,y3,f0,f1,f2,f3⟩:=aL g4;clear al K ao W ak bv av q bx i l af k1 k2 k3 k4 g4 g5 g6 I bp lw n bq;go_wp2_with fail;rw[<-di.o,<-dk.o];go_at_call 30;refine Calls.mono bz.o ?_;rintro e3 w7 ⟨rfl,dn⟩;have q:bL w w7:=dl.o.th dn
  by_cases o:b=C
  ·have e6:Hid (cr (b,d,true)=0):=by unfold Hid;rw[p.o,Io o.symm]
   rw[KS o];clear o p;go_wp2_with fail;go_ret;exact⟨by rw[e6.o];rfl,q⟩
  have e6:Hid (cr (b,d,true)=4):=by unfold Hid;rw[p.o,iO λh=>o h.symm]
  rw[KD o];clear o p;go_wp2_with fail;go_ret;exact⟨by rw[e6.o];rfl,q⟩
theorem lK{x:aH}{r:az}(i:cr x=0)(j:x.2.2=true)(h:eo x r=0):aB (dL x r)=0/\dL x r=fu x.2.1 r/\kg x r=dI x.1 r/\cQ x.1 r=0/\f8 x.2.1 r=0:=by
 have b:cQ x.1 r=0:=by
  unfold eo at h
  split at h
  ·assumption
  exact h
 have a:f8 x.2.1 r=0:=by
  unfold eo at h
  rwa [Io b] at h
 have c:dL x r=fu x.2.1 r:=by unfold dL;rw[Io h]
 have k:kg x r=dI x.1 r:=by unfold kg;rw[Io h]
 obtain⟨n,e,d,f,l,-⟩:=x8 i j;refine⟨?_,c,k,b,a⟩;rw[c]
 rw[e] at a |-
 have⟨o,p,g,m⟩:=CV d f l a
 simp only at g |-
 rw[g];exact gN d f m
theorem xW{x:aH}{y:az}(f:cr x=0)(c:x.2.2=true)(k:1<=y.1/\y.1<=4):aQ x y=tg x (bU y)/\bP x y=AP x (bU y):=by
 have e:aQ x y=tg x (bU y):=by
  unfold aQ tg;rw[iO (by omega),iO (by rw[c];simp;omega),iO (by omega),iO (by omega),iO (show ¬y.1=7 by omega)]
  by_cases a:eo x (bU y)=0
  ·obtain⟨-,d,-,g,i⟩:=lK f c a;rw[Io g,Io i,Io a,d]
  rw[iO a]
  unfold eo at a |-
  split
  ·rename_i h;rw[Io h] at a;rw[iO a]
  rfl
 refine⟨e,?_⟩;unfold bP AP;rw[e]
 by_cases b:tg x (bU y)=0
 ·rw[Io b,Io b]
  have a:eo x (bU y)=0:=by
   unfold tg at b
   split at b
   ·assumption
   exact b
  obtain⟨-,d,j,-,-⟩:=lK f c a;unfold gK;rw[iO (by omega),iO (by omega),iO (by omega),d,j]
 rw[iO b,iO b]
theorem C2{x:aH}{y:az}(d:cr x=0)(b:x.2.2=true)(c:y.1=7):aQ x y=eo x (bU y)/\bP x y=tG x (bU y) y.2.2.1:=by
 have e:aQ x y=eo x (bU y):=by
  unfold aQ;rw[iO (by omega),iO (by rw[b];simp;omega),iO (by omega),iO (by omega),Io c];unfold eo
  split
  ·split
   ·rename_i h;exact h.symm
   rfl
  rfl
 refine⟨e,?_⟩;unfold bP tG;rw[e]
 by_cases a:eo x (bU y)=0
 ·rw[Io a,Io a];obtain⟨-,f,-,-,g⟩:=lK d b a;unfold gK;rw[iO (by omega),iO (by omega),Io c,f];have:(fu x.2.1 (bU y)).1=x.2.1.1:=by unfold fu;rw[Io g]
  rw[this]
 rw[iO a,iO a]
theorem zn{x:aH}{y:az}(b:x.2.2=true)(a:y.1=5):aQ x y=0/\bP x y=(aA,x.2.1,false):=by
 have e:aQ x y=0:=by unfold aQ;rw[iO (by omega),iO (by rw[b];simp;omega),Io a]
 refine⟨e,?_⟩;unfold bP gK;rw[Io e,Io a]
theorem Bl{x:aH}{y:az}(b:aB x.2.1=0)(c:x.2.2=false)(a:y.1=6):aQ x y=mV x.2.1/\bP x y=oh x.2.1:=by
 have e:aQ x y=mV x.2.1:=by unfold aQ mV;rw[iO (by omega),iO (by rw[c,a];simp),iO (by omega),Io a,Io b]
 refine⟨e,?_⟩;have d:gK x y=((ay (cK x.2.1)).1,gE x.2.1,true):=by unfold gK;rw[iO (by omega),Io a]
 unfold bP oh;rw[e,d]
theorem yM(B wv xv x y w)(he:dD w)(hx:bi B w wv x)(hy:cI B w xv y)(M:B<=w.1.size)(hr:cr x=0):
  cL 19 #[wv,xv] w λe a=>∃v,e=.returned (.tuple #[v,U (aQ x y)])/\kG (λk=>k<w.1.size) a v (bP x y)/\Below w.1.size w a:=by
 have⟨hg,hk⟩:=kO hr;have m:Hid (∀a,Below w.1.size w a->cL 43 #[wv,xv] a λe g=>∃v,e=.returned (.tuple #[v,U (tg x (bU y))])/\kG (λk=>k<a.1.size) g v (AP x (bU y))/\Below a.1.size a g):=λa h=>BO B wv xv x y a (he.l h) (hx.l h M) (hy.l h M) (h.u M) hr
 have n:Hid (x.2.2=true->∀a,Below w.1.size w a->cL 42 #[wv,xv] a λe g=>∃v,e=.returned (.tuple #[v,U (eo x (bU y))])/\kG (λk=>k<a.1.size) g v (tG x (bU y) y.2.2.1)/\Below a.1.size a g):=λT a h=>FI B wv xv x y a (he.l h) (hx.l h M) (hy.l h M) (h.u M) hr λh=>(lK hr T h).1
 obtain⟨ca,cc,sa,sc,ta,tc,rfl,-,hd⟩:=hx.shape;obtain⟨pa,pc,rfl,-⟩:=hy.shape;have D:Hid (∀a,Below w.1.size w a->cL 28 #[.agg #[.slice sa x.2.1.1.length sc,.slice ta x.2.1.2.length tc]] a λe g=>∃v,e=.returned v/\kG (λk=>k<a.1.size) g v (aA,x.2.1,false)/\Below a.1.size a g):=λa h=>tq B _ _ a (hd.l h M) (h.u M) ⟨(dE hk).1,(dE hk).2.1⟩
 have F:Hid (∀a,Below w.1.size w a->cL 29 #[.agg #[.slice sa x.2.1.1.length sc,.slice ta x.2.1.2.length tc]] a λe g=>∃v,e=.returned (.tuple #[v,U (mV x.2.1)])/\kG (λk=>k<a.1.size) g v (oh x.2.1)/\Below a.1.size a g):=λa h=>yu B _ _ a (he.l h) (hd.l h M) (h.u M) (Al hk)
 have H4:Hid (y.1<1\/7<y.1->aQ x y=4/\bP x y=fg):=λh=>by
  have e:aQ x y=4:=by unfold aQ;rw[Io h]
  exact⟨e,by unfold bP;rw[e,iO (by decide)]⟩
 have H6:Hid (¬(y.1<1\/7<y.1)->x.2.2=decide (y.1=6)->aQ x y=6/\bP x y=fg):=λh h2=>by
  have e:aQ x y=6:=by unfold aQ;rw[iO h,Io h2]
  exact⟨e,by unfold bP;rw[e,iO (by decide)]⟩
 have Hc:Hid (x.2.2=true->1<=y.1/\y.1<=4->aQ x y=tg x (bU y)/\bP x y=AP x (bU y)):=λT h=>xW hr T h
 have Ht:Hid (x.2.2=true->y.1=7->aQ x y=eo x (bU y)/\bP x y=tG x (bU y) y.2.2.1):=λT h=>C2 hr T h
 have Hd:Hid (x.2.2=true->y.1=5->aQ x y=0/\bP x y=(aA,x.2.1,false)):=λT h=>zn T h
 have Hb:Hid (x.2.2=false->y.1=6->aQ x y=mV x.2.1/\bP x y=oh x.2.1):=λT h=>Bl hk T h
 clear he hx hy hr hg hk M hd;generalize bU y=R at*;generalize aQ x y=E at*;generalize bP x y=HR at*;generalize tg x R=CE at*;generalize AP x R=CR at*;generalize eo x R=TE at*;generalize tG x R y.2.2.1=TR at*;obtain⟨C,dk,u⟩:=x;obtain⟨k,ci,f,rs,d⟩:=y;simp only at*;generalize mV dk=BE at*;generalize oh dk=BR at*;generalize ((aA,dk,false):aH)=DR at*;generalize C.length=nC at*;generalize dk.1.length=nS at*;generalize dk.2.length=nT at*;generalize rs.length=nP at*;have⟨G,g0,g1,g2⟩:=lF w #[.slice ca nC cc,.slice sa nS sc,.slice ta nT tc,.bool u] #[U k,U ci,U f,.slice pa nP pc,U d];have⟨W,hW⟩:=nM (sU w #[.slice ca nC cc,.slice sa nS sc,.slice ta nT tc,.bool u] #[U k,U ci,U f,.slice pa nP pc,U d]);rw[<-hW] at G g0 g1 g2;have HW:Hid (W=((w.alloc (.cells #[.slice ca nC cc,.slice sa nS sc,.slice ta nT tc,.bool u] 27)).alloc (.cells #[U k,U ci,U f,.slice pa nP pc,U d] 32)).alloc (.cells #[nL,nL,nL,.bool false] 27)):=hW
 have H:Hid (∀a,Below W.1.size W a->a.1[w.1.size+1+1]?=some (.cells #[nL,nL,nL,.bool false] 27 (0,0))/\Below w.1.size w a):=λa h=>⟨h.bl g2,G.th h⟩
 have Q:Hid (∀a v X,Below W.1.size W a->kG (λk=>k<W.1.size) a v X->∃p I q r J s t K z L A,v=.agg #[.slice p I q,.slice r J s,.slice t K z,.bool L]/\(A=(((a.setCell (pA (w.1.size+1+1) 0) (.slice p I q)).setCell (pA (w.1.size+1+1) 1) (.slice r J s)).setCell (pA (w.1.size+1+1) 2) (.slice t K z)).setCell (pA (w.1.size+1+1) 3) (.bool L)/\A.1[w.1.size+1+1]?=some (.cells #[.slice p I q,.slice r J s,.slice t K z,.bool L] 27 (0,0))/\Hid (kG (λk=>k<w.1.size) A (.agg #[.slice p I q,.slice r J s,.slice t K z,.bool L]) X/\Below w.1.size w A))):=λa v X h hx=>by obtain⟨p,q,r,s,t,z,e,-⟩:=hx.at.shape;subst e;obtain⟨A,h1,h2,h3⟩:=iC (H.o a h).1 hx (io g2) (H.o a h).2 (Kl (Mb _) (Mb _)) (λk h=>Kd h G.size);exact⟨p,_,q,r,_,s,t,_,z,_,A,rfl,h1,h2,h3⟩
 obtain⟨x0,x1,x2,x3,-⟩:=aL g0;have V:W.cell? ⟨w.1.size,1+1,none⟩=some (.slice ta nT tc):=x2;have⟨y0,y1,y2,y3,y4⟩:=aF g1;have⟨z0,z1,z2,z3,f0,f1,f2,f3⟩:=aL g2;have Y:Hid (Below w.1.size w W):=G;have a3:Hid (kG (λk=>k<w.1.size) W (.agg #[nL,nL,nL,.bool false]) fg/\Below w.1.size w W):=⟨jX _ _,G⟩;clear hW G g0 g1 g2
 by_cases b:k<1\/7<k
 ·have l:Hid _:=H4.o b;clear m n D F H4 H6 Hc Ht Hd Hb Q H
  rcases b with h|h
  all_goals
   go_enter func19,ntmps19;go_wp2_with fail;rw[<-HW.o];refine Ka (v:=.tuple #[.agg #[nL,nL,nL,.bool false],U 4]) ?_ rfl ⟨_,by rw[l.o.1],by rw[l.o.2];exact a3.o⟩;rw[K8 rfl];go_simp
 have h1:¬k<1:=λe=>b (.inl e)
 have h7:¬7<k:=λe=>b (.inr e)
 by_cases S:u=decide (k=6)
 ·have l:Hid _:=H6.o b S;clear m n D F H4 H6 Hc Ht Hd Hb Q H b
  by_cases N:k=6
  ·subst N;obtain rfl:u=true:=S;go_enter func19,ntmps19;go_wp2_with fail;rw[<-HW.o];refine Ka (v:=.tuple #[.agg #[nL,nL,nL,.bool false],U 6]) ?_ rfl ⟨_,by rw[l.o.1],by rw[l.o.2];exact a3.o⟩;rw[K8 rfl];go_simp
  have hq:(k==6)=false:=by simpa using N
  rw[KD N] at S;subst S;clear N;go_enter func19,ntmps19;go_wp2_with fail;rw[<-HW.o];refine Ka (v:=.tuple #[.agg #[nL,nL,nL,.bool false],U 6]) ?_ rfl ⟨_,by rw[l.o.1],by rw[l.o.2];exact a3.o⟩;rw[K8 rfl];go_simp
 clear H4 H6 a3
 by_cases N:k=6
 ·subst N
  obtain rfl:u=false:=by
   cases u
   ·rfl
   exact absurd rfl S
  have l:Hid _:=Hb.o rfl rfl;clear S b m n D Hc Ht Hd Hb;go_enter func19,ntmps19;go_wp2_with fail;rw[<-HW.o];go_at_call 29;refine Calls.mono (F.o _ Y.o) ?_;rintro e O ⟨v,rfl,i,c⟩;obtain⟨p,I,q,r,J,s,t,K,z,L,A,rfl,j,P,HF⟩:=Q.o O v _ c i;have o:Hid (A=_):=j;clear x0 x1 x2 x3 V y0 y1 y2 y3 y4 z0 z1 z2 z3 f0 f1 f2 f3;have⟨z0,z1,z2,z3,f0,f1,f2,f3⟩:=aL (H.o O c).1;obtain⟨v0,v1,v2,v3,-⟩:=aL P;clear j P i c Q H;go_wp2_with fail;rw[<-o.o];refine Ka (v:=.tuple #[.agg #[.slice p I q,.slice r J s,.slice t K z,.bool L],U BE]) ?_ rfl ⟨_,by rw[l.o.1],by rw[l.o.2];exact HF.o⟩;rw[K8 rfl];go_simp
 obtain rfl:u=true:=by
  cases u
  ·exact absurd (KD N).symm S
  rfl
 have ba:(k==6)=false:=by simpa using N
 by_cases h5:k=5
 ·subst h5;have l:Hid _:=Hd.o rfl rfl;clear S b m n F Hc Ht Hd Hb N ba;go_enter func19,ntmps19;go_wp2_with fail;rw[<-HW.o];go_at_call 28;refine Calls.mono (D.o _ Y.o) ?_;rintro e O ⟨v,rfl,i,c⟩;obtain⟨p,I,q,r,J,s,t,K,z,L,A,rfl,j,P,HF⟩:=Q.o O v _ c i;have o:Hid (A=_):=j;clear x0 x1 x2 x3 V y0 y1 y2 y3 y4 z0 z1 z2 z3 f0 f1 f2 f3;have⟨z0,z1,z2,z3,f0,f1,f2,f3⟩:=aL (H.o O c).1;obtain⟨v0,v1,v2,v3,-⟩:=aL P;clear j P i c Q H;go_wp2_with fail;rw[<-o.o];refine Ka (v:=.tuple #[.agg #[.slice p I q,.slice r J s,.slice t K z,.bool L],U 0]) ?_ rfl ⟨_,by rw[l.o.1],by rw[l.o.2];exact HF.o⟩;rw[K8 rfl];go_simp
 have cp:(k==5)=false:=by simpa using h5
 by_cases b1:k=7
 ·subst b1;have l:Hid _:=Ht.o rfl rfl;clear S b m D F Hc Ht Hd Hb N ba cp h5;go_enter func19,ntmps19;go_wp2_with fail;rw[<-HW.o];go_at_call 42;refine Calls.mono (n.o (by trivial) _ Y.o) ?_;rintro e O ⟨v,rfl,i,c⟩;obtain⟨p,I,q,r,J,s,t,K,z,L,A,rfl,j,P,HF⟩:=Q.o O v _ c i;have o:Hid (A=_):=j;clear x0 x1 x2 x3 V y0 y1 y2 y3 y4 z0 z1 z2 z3 f0 f1 f2 f3;have⟨z0,z1,z2,z3,f0,f1,f2,f3⟩:=aL (H.o O c).1;obtain⟨v0,v1,v2,v3,-⟩:=aL P;clear j P i c Q H n;go_wp2_with fail;rw[<-o.o];refine Ka (v:=.tuple #[.agg #[.slice p I q,.slice r J s,.slice t K z,.bool L],U TE]) ?_ rfl ⟨_,by rw[l.o.1],by rw[l.o.2];exact HF.o⟩;rw[K8 rfl];go_simp
 have l:Hid _:=Hc.o rfl (by omega);have d3:(k==7)=false:=by simpa using b1
 clear S b n D F Hc Ht Hd Hb N h5 b1;go_enter func19,ntmps19;go_wp2_with fail;rw[<-HW.o];go_at_call 43;refine Calls.mono (m.o _ Y.o) ?_;rintro e O ⟨v,rfl,i,c⟩;obtain⟨p,I,q,r,J,s,t,K,z,L,A,rfl,j,P,HF⟩:=Q.o O v _ c i;have o:Hid (A=_):=j;clear x0 x1 x2 x3 V y0 y1 y2 y3 y4 z0 z1 z2 z3 f0 f1 f2 f3;have⟨z0,z1,z2,z3,f0,f1,f2,f3⟩:=aL (H.o O c).1;obtain⟨v0,v1,v2,v3,-⟩:=aL P;clear j P i c Q H m;go_wp2_with fail;rw[<-o.o];refine Ka (v:=.tuple #[.agg #[.slice p I q,.slice r J s,.slice t K z,.bool L],U CE]) ?_ rfl ⟨_,by rw[l.o.1],by rw[l.o.2];exact HF.o⟩;rw[K8 rfl];go_simp
theorem vX(B v x c)(a:Nat->Int)(w)(he:dD w)(X:bi B w v x)(hc:wf c)(H:B<=w.1.size)(I:sW x.2.1):
  cL 6 #[v,U c,jm a] w (rT w (.tuple #[U (qu x c a),U (kp x c a)])):=by
 have m:=Z λG (h:bL w G)=>nU B v x G (he.l h) (X.l h H) (h.u H) I
 have d:Hid (kp x c a=if cr x=0 then (if c<0\/3<c then 5 else if (bW x.1 c).1=true then mQ (bW x.1 c).2.1 a else 6) else cr x):=rfl;have k:Hid (qu x c a=if kp x c a=0 then t6 (bW x.1 c).2.1 a else 0):=rfl;have g:=Z λ(h:cr x=0)=>(kO h).1.1
 have J:Hid (∀Y,mQ Y a≠0->t6 Y a=0):=λY h=>by unfold t6;rw[iO h]
 obtain⟨ca,T,sa,sc,ta,tc,rfl,K,-⟩:=X.shape;have L:=Z λG (h:bL w G)=>K.l h H
 have HB:=Z H;clear X K he I H hc;generalize cr x=WE at*;generalize kp x c a=AE at*;generalize qu x c a=AV at*;obtain⟨C,⟨s,t⟩,u⟩:=x;unfold jm;simp only at*;have⟨n,hn⟩:=nM (C.length)
 rw[<-hn] at L m g |-
 have HN:=Z hn;clear hn;generalize s.length=nS at*;generalize t.length=nT at*;have⟨W,M⟩:=nM ((w.alloc (.cells #[.slice ca n T,.slice sa nS sc,.slice ta nT tc,.bool u] 27)).alloc (.cells #[U (a 0),U (a 1),U (a 2),U (a 3),U (a 4)] 34));have p:=bB M;have g0:W.1[w.1.size]?=some (.cells #[.slice ca n T,.slice sa nS sc,.slice ta nT tc,.bool u] 27 (0,0)):=by rw[M];exact dF _ (aY _ _ rfl)
 have g1:=gC M;have r:=Z λG (h:bL W G)=>Q3 (h.bl g0) (h.bl g1) (p.th h)
 have HW:=Z M;have a4:=Z p;obtain⟨x0,x1,x2,x3,-⟩:=aL g0;clear M p g0 g1;go_enter func6,ntmps6;go_wp2_with fail;rw[<-HW.o];go_at_call 9;refine Calls.mono (m.o _ a4.o) ?_;rintro e f ⟨rfl,y⟩;have⟨G0,G1,N⟩:=r.o f y;clear x0 x1 x2 x3 m;obtain⟨x0,x1,x2,x3,-⟩:=aL G0;have l:=Z2 y N;clear G0 G1 y N
 by_cases i:WE=0
 case neg=>
  have hq:(WE != 0)=true:=by simpa using i
  rw[iO i] at d;rw[d.o,iO i] at k;clear i L g J;go_wp2_with fail;go_ret2;exact⟨by rw[d.o,k.o];rfl,l.o.2⟩
 subst i;rw[Io rfl] at d;obtain rfl:n=4:=g.o rfl
 by_cases V:c<0\/3<c
 ·rw[Io V] at d;rw[d.o,iO (by decide)] at k;clear L g J
  rcases V with h|h
  ·go_wp2_with fail;go_ret2;exact⟨by rw[d.o,k.o];rfl,l.o.2⟩
  have h0:¬c<0:=by omega
  have h4:(4:Int)<=c:=by omega
  clear h;go_wp2_with fail;go_ret2;exact⟨by rw[d.o,k.o];rfl,l.o.2⟩
 rw[iO V] at d;obtain⟨j,rfl⟩:∃j:Nat,c=(j:Int):=⟨c.toNat,by omega⟩;have b8:(0:Int)<=(j:Int):=by omega
 have bk:¬(j:Int)<0:=by omega
 have b9:(j:Int)<4:=by omega
 have bm:¬(4:Int)<=(j:Int):=by omega
 obtain⟨z,A⟩:∃z,C[j]?=some z:=⟨C[j]'(by have:=HN.o;omega),by simp⟩;have O:bW C (j:Int)=z:=by unfold bW;rw[L3,Kn,A];rfl
 rw[O] at d k;obtain⟨_,_,e1,a9,-,P⟩:=L.o f l.o.2;obtain⟨b,o,e,Q,R⟩:=P j _ A;simp at e1;obtain⟨rfl,-,rfl⟩:=e1;subst e;obtain⟨la,lc,bq,br,k0,k1,k2,k3,D,-⟩:=R.vals;have bb:4<=T:=by have:=HN.o;omega
 have E:b<f.1.size:=Kd Q (l.o.2.u HB.o);clear P R A O k2 k3 L a9 Q V g HN
 cases iY:z.1 with
 |false=>
  rw[iY,iO (by decide)] at d;rw[d.o,iO (by decide)] at k;rw[iY] at k0;clear iY D J k1 E;go_wp2_with fail;go_ret2;exact⟨by rw[d.o,k.o];rfl,l.o.2⟩
 |true=>
  rw[iY,Io rfl] at d
  have S:Hid (AV=t6 z.2.1 a):=by
   unfold Hid;rw[k.o]
   split
   ·rfl
   rename_i h;exact(J.o _ (by rw[<-d.o];exact h)).symm
  rw[iY] at k0;have HA:=Z λ(q:ax f)=>Hn B _ _ a q.1 (D.l q.2 (l.o.2.u HB.o)) (Kl HB.o (q.2.u l.o.2.size))
  have z1:∀q:ax f,q.1.cell? ⟨b,o+j*4+1,none⟩=some (.slice la z.2.1.length lc):=λq=>q.cell k1 E
  rw[<-d.o,<-S.o] at HA;generalize z.2.1.length=cn at*;clear iY D k J E d S;have ae:=ax.ne f;have F:=Z λ(q:ax f)=>l.o.1.th q.2
  have z0:∀q:ax f,q.1.cell? (pA w.1.size 0)=some (.slice (some ⟨b,o,none⟩) 4 T):=λq=>ab (r.o q.1 (F.o q)).1 0 rfl
  have p0:∀q:ax f,q.1.cell? (pA (w.1.size+1) 0)=some (U (a 0)):=λq=>ab (r.o q.1 (F.o q)).2.1 0 rfl
  have p1:∀q:ax f,q.1.cell? (pA (w.1.size+1) 1)=some (U (a 1)):=λq=>ab (r.o q.1 (F.o q)).2.1 1 rfl
  have p2:∀q:ax f,q.1.cell? (pA (w.1.size+1) 2)=some (U (a 2)):=λq=>ab (r.o q.1 (F.o q)).2.1 2 rfl
  have p3:∀q:ax f,q.1.cell? (pA (w.1.size+1) 3)=some (U (a 3)):=λq=>ab (r.o q.1 (F.o q)).2.1 3 rfl
  have p4:∀q:ax f,q.1.cell? (pA (w.1.size+1) 4)=some (U (a 4)):=λq=>ab (r.o q.1 (F.o q)).2.1 4 rfl
  go_wp2_with fail;refine aW (by kernel_rfl) (by kernel_rfl) ?_;clear x0 x1 x2 x3 k0 k1
  repeat(go_big_quiet_step (first
   |(go_at_call 20;exact Calls.l (HA.o _))))
  refine Km ?_;rintro w2 ⟨⟨_,b2⟩,rfl⟩;have af:=Z (l.o.2.th b2);clear z0 z1 p0 p1 p2 p3 p4 ae HA F b2;go_wp2_with fail;go_ret2;exact⟨rfl,af.o⟩
