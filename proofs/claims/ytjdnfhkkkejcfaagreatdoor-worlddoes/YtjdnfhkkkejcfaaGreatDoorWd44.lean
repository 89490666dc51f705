import Derived.Test.YtjdnfhkkkejcfaaGreatDoorWd42
import Derived.Test.YtjdnfhkkkejcfaaGreatDoorWd43
set_option linter.all false
set_option maxRecDepth 100000
set_option maxHeartbeats 16000000
namespace Go.Proofs.YtjdnfhkkkejcfaaGreatDoor
open Go.RowKit Go.Maps Go.Proofs.Tryz
theorem lK{x:aH}{r:az}(i:cr x=0)(j:x.2.2=true)(h:eo x r=0):aB (dL x r)=0/\dL x r=fu x.2.1 r/\kg x r=dI x.1 r/\cQ x.1 r=0/\f8 x.2.1 r=0:=by
 have b:cQ x.1 r=0:=by
  unfold eo at h
  split at h
  ·assumption
  exact h
 have a:f8 x.2.1 r=0:=by
  unfold eo at h
  rwa [Io b] at h
 have c:dL x r=fu x.2.1 r:=by unfold dL;rw[Io h]
 have k:kg x r=dI x.1 r:=by unfold kg;rw[Io h]
 obtain⟨n,e,d,f,l,-⟩:=x8 i j;refine⟨?_,c,k,b,a⟩;rw[c]
 rw[e] at a |-
 have⟨o,p,g,m⟩:=CV d f l a
 simp only at g |-
 rw[g];exact gN d f m
theorem xW{x:aH}{y:az}(f:cr x=0)(c:x.2.2=true)(k:1<=y.1/\y.1<=4):aQ x y=tg x (bU y)/\bP x y=AP x (bU y):=by
 have e:aQ x y=tg x (bU y):=by
  unfold aQ tg;rw[iO (by omega),iO (by rw[c];simp;omega),iO (by omega),iO (by omega),iO (show ¬y.1=7 by omega)]
  by_cases a:eo x (bU y)=0
  ·obtain⟨-,d,-,g,i⟩:=lK f c a;rw[Io g,Io i,Io a,d]
  rw[iO a]
  unfold eo at a |-
  split
  ·rename_i h;rw[Io h] at a;rw[iO a]
  rfl
 refine⟨e,?_⟩;unfold bP AP;rw[e]
 by_cases b:tg x (bU y)=0
 ·rw[Io b,Io b]
  have a:eo x (bU y)=0:=by
   unfold tg at b
   split at b
   ·assumption
   exact b
  obtain⟨-,d,j,-,-⟩:=lK f c a;unfold gK;rw[iO (by omega),iO (by omega),iO (by omega),d,j]
 rw[iO b,iO b]
theorem C2{x:aH}{y:az}(d:cr x=0)(b:x.2.2=true)(c:y.1=7):aQ x y=eo x (bU y)/\bP x y=tG x (bU y) y.2.2.1:=by
 have e:aQ x y=eo x (bU y):=by
  unfold aQ;rw[iO (by omega),iO (by rw[b];simp;omega),iO (by omega),iO (by omega),Io c];unfold eo
  split
  ·split
   ·rename_i h;exact h.symm
   rfl
  rfl
 refine⟨e,?_⟩;unfold bP tG;rw[e]
 by_cases a:eo x (bU y)=0
 ·rw[Io a,Io a];obtain⟨-,f,-,-,g⟩:=lK d b a;unfold gK;rw[iO (by omega),iO (by omega),Io c,f];have:(fu x.2.1 (bU y)).1=x.2.1.1:=by unfold fu;rw[Io g]
  rw[this]
 rw[iO a,iO a]
theorem zn{x:aH}{y:az}(b:x.2.2=true)(a:y.1=5):aQ x y=0/\bP x y=(aA,x.2.1,false):=by
 have e:aQ x y=0:=by unfold aQ;rw[iO (by omega),iO (by rw[b];simp;omega),Io a]
 refine⟨e,?_⟩;unfold bP gK;rw[Io e,Io a]
theorem Bl{x:aH}{y:az}(b:aB x.2.1=0)(c:x.2.2=false)(a:y.1=6):aQ x y=mV x.2.1/\bP x y=oh x.2.1:=by
 have e:aQ x y=mV x.2.1:=by unfold aQ mV;rw[iO (by omega),iO (by rw[c,a];simp),iO (by omega),Io a,Io b]
 refine⟨e,?_⟩;have d:gK x y=((ay (cK x.2.1)).1,gE x.2.1,true):=by unfold gK;rw[iO (by omega),Io a]
 unfold bP oh;rw[e,d]
theorem yM(B wv xv x y w)(he:dD w)(hx:bi B w wv x)(hy:cI B w xv y)(K:B<=w.1.size)(hr:cr x=0):
  cL 16 #[wv,xv] w λe a=>∃v,e=.returned (.tuple #[v,U (aQ x y)])/\kG (λk=>k<w.1.size) a v (bP x y)/\Below w.1.size w a:=by
 have⟨hg,hk⟩:=kO hr;have l:=Z λa (h:Below w.1.size w a)=>BO B wv xv x y a (he.l h) (hx.l h K) (hy.l h K) (h.u K) hr
 have m:Hid (x.2.2=true->∀a,Below w.1.size w a->cL 40 #[wv,xv] a λe L=>∃v,e=.returned (.tuple #[v,U (eo x (bU y))])/\kG (λk=>k<a.1.size) L v (tG x (bU y) y.2.2.1)/\Below a.1.size a L):=λT a h=>FI B wv xv x y a (he.l h) (hx.l h K) (hy.l h K) (h.u K) hr λh=>(lK hr T h).1
 obtain⟨ca,cc,sa,sc,ta,tc,rfl,-,hd⟩:=hx.shape;obtain⟨pa,pc,rfl,-⟩:=hy.shape;have z:Hid (∀a,Below w.1.size w a->cL 27 #[.agg #[.slice sa x.2.1.1.length sc,.slice ta x.2.1.2.length tc]] a λe L=>∃v,e=.returned v/\kG (λk=>k<a.1.size) L v (aA,x.2.1,false)/\Below a.1.size a L):=λa h=>tq B _ _ a (hd.l h K) (h.u K) ⟨(dE hk).1,(dE hk).2.1⟩
 have A:=Z λa (h:Below w.1.size w a)=>yu B _ _ a (he.l h) (hd.l h K) (h.u K) (Al hk)
 have H4:Hid (y.1<1\/7<y.1->aQ x y=4/\bP x y=fg):=λh=>by
  have e:aQ x y=4:=by unfold aQ;rw[Io h]
  exact⟨e,by unfold bP;rw[e,iO (by decide)]⟩
 have H6:Hid (¬(y.1<1\/7<y.1)->x.2.2=decide (y.1=6)->aQ x y=6/\bP x y=fg):=λh h2=>by
  have e:aQ x y=6:=by unfold aQ;rw[iO h,Io h2]
  exact⟨e,by unfold bP;rw[e,iO (by decide)]⟩
 have Hc:=Z λ(T:x.2.2=true) (h:1<=y.1/\y.1<=4)=>xW hr T h
 have Ht:=Z λ(T:x.2.2=true) (h:y.1=7)=>C2 hr T h
 have Hd:=Z λ(T:x.2.2=true) (h:y.1=5)=>zn T h
 have Hb:=Z λ(T:x.2.2=false) (h:y.1=6)=>Bl hk T h
 clear he hx hy hr hg hk K hd;generalize bU y=R at*;generalize aQ x y=E at*;generalize bP x y=HR at*;generalize tg x R=CE at*;generalize AP x R=CR at*;generalize eo x R=TE at*;generalize tG x R y.2.2.1=TR at*;obtain⟨C,dk,u⟩:=x;obtain⟨k,ci,f,rs,d⟩:=y;simp only at*;generalize mV dk=BE at*;generalize oh dk=BR at*;generalize ((aA,dk,false):aH)=DR at*;generalize C.length=nC at*;generalize dk.1.length=nS at*;generalize dk.2.length=nT at*;generalize rs.length=nP at*;have⟨D,g0,g1,g2⟩:=lF w #[.slice ca nC cc,.slice sa nS sc,.slice ta nT tc,.bool u] #[U k,U ci,U f,.slice pa nP pc,U d];have⟨W,hW⟩:=nM (sU w #[.slice ca nC cc,.slice sa nS sc,.slice ta nT tc,.bool u] #[U k,U ci,U f,.slice pa nP pc,U d]);rw[<-hW] at D g0 g1 g2;have HW:Hid (W=((w.alloc (.cells #[.slice ca nC cc,.slice sa nS sc,.slice ta nT tc,.bool u] 27)).alloc (.cells #[U k,U ci,U f,.slice pa nP pc,U d] 32)).alloc (.cells #[nL,nL,nL,.bool false] 27)):=hW;have F:=Z λa (h:Below W.1.size W a)=>Q2 (h.bl g2) (D.th h)
 have P:Hid (∀a v X,Below W.1.size W a->kG (λk=>k<W.1.size) a v X->∃o G p q H r s I t J Q,v=.agg #[.slice o G p,.slice q H r,.slice s I t,.bool J]/\(Q=(((a.setCell (pA (w.1.size+1+1) 0) (.slice o G p)).setCell (pA (w.1.size+1+1) 1) (.slice q H r)).setCell (pA (w.1.size+1+1) 2) (.slice s I t)).setCell (pA (w.1.size+1+1) 3) (.bool J)/\Na Q (w.1.size+1+1) #[.slice o G p,.slice q H r,.slice s I t,.bool J] 27/\Hid (kG (λk=>k<w.1.size) Q (.agg #[.slice o G p,.slice q H r,.slice s I t,.bool J]) X/\Below w.1.size w Q))):=λa v X h hx=>by obtain⟨o,p,q,r,s,t,e,-⟩:=hx.at.shape;subst e;obtain⟨Q,h1,h2,h3⟩:=iC (F.o a h).1 hx (io g2) (F.o a h).2 (Kl (Mb _) (Mb _)) (λk h=>Kd h D.size);exact⟨o,_,p,q,_,r,s,_,t,_,Q,rfl,h1,h2,h3⟩
 obtain⟨x0,x1,x2,x3,-⟩:=aL g0;have V:=x2;have⟨y0,y1,y2,y3,y4⟩:=aF g1;have⟨z0,z1,z2,z3,f0,f1,f2,f3⟩:=aL g2;have Y:=Z D;have a3:=Z2 (jX _ _:kG (λk=>k<w.1.size) W (.agg #[nL,nL,nL,.bool false]) fg) D;clear hW D g0 g1 g2
 by_cases b:k<1\/7<k
 ·have j:Hid _:=H4.o b;clear l m z A H4 H6 Hc Ht Hd Hb P F
  rcases b with h|h
  all_goals
   go_enter func16,ntmps16;go_wp2_with fail;rw[<-HW.o];refine Ka (v:=.tuple #[.agg #[nL,nL,nL,.bool false],U 4]) ?_ rfl ⟨_,by rw[j.o.1],by rw[j.o.2];exact a3.o⟩;rw[K8 rfl];go_simp
 have h1:¬k<1:=λe=>b (.inl e)
 have h7:¬7<k:=λe=>b (.inr e)
 by_cases S:u=decide (k=6)
 ·have j:Hid _:=H6.o b S;clear l m z A H4 H6 Hc Ht Hd Hb P F b
  by_cases M:k=6
  ·subst M;obtain rfl:u=true:=S;go_enter func16,ntmps16;go_wp2_with fail;rw[<-HW.o];refine Ka (v:=.tuple #[.agg #[nL,nL,nL,.bool false],U 6]) ?_ rfl ⟨_,by rw[j.o.1],by rw[j.o.2];exact a3.o⟩;rw[K8 rfl];go_simp
  have hq:(k==6)=false:=by simpa using M
  rw[KD M] at S;subst S;clear M;go_enter func16,ntmps16;go_wp2_with fail;rw[<-HW.o];refine Ka (v:=.tuple #[.agg #[nL,nL,nL,.bool false],U 6]) ?_ rfl ⟨_,by rw[j.o.1],by rw[j.o.2];exact a3.o⟩;rw[K8 rfl];go_simp
 clear H4 H6 a3
 by_cases M:k=6
 ·subst M
  obtain rfl:u=false:=by
   cases u
   ·rfl
   exact absurd rfl S
  have j:Hid _:=Hb.o rfl rfl;clear S b l m z Hc Ht Hd Hb;go_enter func16,ntmps16;go_wp2_with fail;rw[<-HW.o];go_at_call 28;refine(A.o _ Y.o).mono ?_;rintro e N ⟨v,rfl,g,c⟩;obtain⟨o,G,p,q,H,r,s,I,t,J,Q,rfl,i,O,HF⟩:=P.o N v _ c g;have n:=Z i;clear x0 x1 x2 x3 V y0 y1 y2 y3 y4 z0 z1 z2 z3 f0 f1 f2 f3;have⟨z0,z1,z2,z3,f0,f1,f2,f3⟩:=aL (F.o N c).1;obtain⟨v0,v1,v2,v3,-⟩:=aL O;clear i O g c P F;go_wp2_with fail;rw[<-n.o];refine Ka (v:=.tuple #[.agg #[.slice o G p,.slice q H r,.slice s I t,.bool J],U BE]) ?_ rfl ⟨_,by rw[j.o.1],by rw[j.o.2];exact HF.o⟩;rw[K8 rfl];go_simp
 obtain rfl:u=true:=by
  cases u
  ·exact absurd (KD M).symm S
  rfl
 have b6:(k==6)=false:=by simpa using M
 by_cases h5:k=5
 ·subst h5;have j:Hid _:=Hd.o rfl rfl;clear S b l m A Hc Ht Hd Hb M b6;go_enter func16,ntmps16;go_wp2_with fail;rw[<-HW.o];go_at_call 27;refine(z.o _ Y.o).mono ?_;rintro e N ⟨v,rfl,g,c⟩;obtain⟨o,G,p,q,H,r,s,I,t,J,Q,rfl,i,O,HF⟩:=P.o N v _ c g;have n:=Z i;clear x0 x1 x2 x3 V y0 y1 y2 y3 y4 z0 z1 z2 z3 f0 f1 f2 f3;have⟨z0,z1,z2,z3,f0,f1,f2,f3⟩:=aL (F.o N c).1;obtain⟨v0,v1,v2,v3,-⟩:=aL O;clear i O g c P F;go_wp2_with fail;rw[<-n.o];refine Ka (v:=.tuple #[.agg #[.slice o G p,.slice q H r,.slice s I t,.bool J],U 0]) ?_ rfl ⟨_,by rw[j.o.1],by rw[j.o.2];exact HF.o⟩;rw[K8 rfl];go_simp
 have cp:(k==5)=false:=by simpa using h5
 by_cases b1:k=7
 ·subst b1;have j:Hid _:=Ht.o rfl rfl;clear S b l z A Hc Ht Hd Hb M b6 cp h5;go_enter func16,ntmps16;go_wp2_with fail;rw[<-HW.o];go_at_call 40;refine(m.o (by trivial) _ Y.o).mono ?_;rintro e N ⟨v,rfl,g,c⟩;obtain⟨o,G,p,q,H,r,s,I,t,J,Q,rfl,i,O,HF⟩:=P.o N v _ c g;have n:=Z i;clear x0 x1 x2 x3 V y0 y1 y2 y3 y4 z0 z1 z2 z3 f0 f1 f2 f3;have⟨z0,z1,z2,z3,f0,f1,f2,f3⟩:=aL (F.o N c).1;obtain⟨v0,v1,v2,v3,-⟩:=aL O;clear i O g c P F m;go_wp2_with fail;rw[<-n.o];refine Ka (v:=.tuple #[.agg #[.slice o G p,.slice q H r,.slice s I t,.bool J],U TE]) ?_ rfl ⟨_,by rw[j.o.1],by rw[j.o.2];exact HF.o⟩;rw[K8 rfl];go_simp
 have j:Hid _:=Hc.o rfl (by omega);have d3:(k==7)=false:=by simpa using b1
 clear S b m z A Hc Ht Hd Hb M h5 b1;go_enter func16,ntmps16;go_wp2_with fail;rw[<-HW.o];go_at_call 41;refine(l.o _ Y.o).mono ?_;rintro e N ⟨v,rfl,g,c⟩;obtain⟨o,G,p,q,H,r,s,I,t,J,Q,rfl,i,O,HF⟩:=P.o N v _ c g;have n:=Z i;clear x0 x1 x2 x3 V y0 y1 y2 y3 y4 z0 z1 z2 z3 f0 f1 f2 f3;have⟨z0,z1,z2,z3,f0,f1,f2,f3⟩:=aL (F.o N c).1;obtain⟨v0,v1,v2,v3,-⟩:=aL O;clear i O g c P F l;go_wp2_with fail;rw[<-n.o];refine Ka (v:=.tuple #[.agg #[.slice o G p,.slice q H r,.slice s I t,.bool J],U CE]) ?_ rfl ⟨_,by rw[j.o.1],by rw[j.o.2];exact HF.o⟩;rw[K8 rfl];go_simp
theorem Ip(B wv xv x y w)(O:dD w)(J:bi B w wv x)(P:cI B w xv y)(z:B<=w.1.size)(D:sW x.2.1):
  cL 4 #[wv,xv] w λe b=>∃v,e=.returned (.tuple #[v,U (lC x y)])/\bi b.1.size b v (oA x y)/\bL w b:=by
 have n:=Z λb (h:bL w b)=>nU B wv x b (O.l h) (J.l h z) (h.u z) D
 have o:=Z λ(hr:cr x=0) b (h:bL w b)=>yM B wv xv x y b (O.l h) (J.l h z) (P.l h z) (h.u z) hr
 have A:Hid (lC x y=if cr x=0 then aQ x y else cr x):=rfl;have K:Hid (oA x y=if lC x y=0 then bP x y else fg):=rfl;have HZ:Hid (aQ x y≠0->bP x y=fg):=λh=>by unfold bP;rw[iO h]
 obtain⟨Q,S,T,V,X,Y,rfl,-,-⟩:=J.shape;obtain⟨pa,pc,rfl,-⟩:=P.shape;clear O J P z D;generalize aQ x y=E at*;generalize bP x y=R at*;generalize lC x y=DE at*;generalize oA x y=DR at*;generalize cr x=WE at*;obtain⟨C,⟨s,t⟩,u⟩:=x;obtain⟨k,ci,f,rs,d⟩:=y;simp only at*;generalize C.length=nC at*;generalize s.length=nS at*;generalize t.length=nT at*;generalize rs.length=nP at*;have⟨i,L,g1,M⟩:=lF w #[.slice Q nC S,.slice T nS V,.slice X nT Y,.bool u] #[U k,U ci,U f,.slice pa nP pc,U d];have⟨W,hW⟩:=nM (sU w #[.slice Q nC S,.slice T nS V,.slice X nT Y,.bool u] #[U k,U ci,U f,.slice pa nP pc,U d]);rw[<-hW] at i L g1 M;have HW:Hid (W=((w.alloc (.cells #[.slice Q nC S,.slice T nS V,.slice X nT Y,.bool u] 27)).alloc (.cells #[U k,U ci,U f,.slice pa nP pc,U d] 32)).alloc (.cells #[nL,nL,nL,.bool false] 27)):=hW;have N:=Z λb (h:bL W b)=>Q4 (h.bl L) (h.bl g1) (h.bl M) (i.th h)
 have p:=Z2 i (io M);obtain⟨x0,x1,x2,x3,-⟩:=aL L;clear hW i L g1 M;go_enter func4,ntmps4;go_wp2_with fail;rw[<-HW.o];go_at_call 8;refine Calls.mono (n.o _ p.o.1) ?_;rintro e w1 ⟨rfl,a⟩;have⟨G0,G1,l,j⟩:=N.o w1 a;have⟨y0,y1,y2,y3,y4⟩:=aF G1;clear x0 x1 x2 x3;obtain⟨x0,x1,x2,x3,-⟩:=aL G0;have⟨z0,z1,z2,z3,f0,f1,f2,f3⟩:=aL l
 by_cases c:WE=0
 case neg=>
  rw[iO c] at A;rw[A.o,iO c] at K;have hq:(WE != 0)=true:=by simpa using c
  obtain⟨W5,g,F,G⟩:=kR l j (by omega);have q:=Z g;obtain⟨v0,v1,v2,v3,-⟩:=aL F;clear c g F G0 G1 l j a n o N;go_wp2_with fail;rw[<-q.o];refine Ka (v:=.tuple #[.agg #[nL,nL,nL,.bool false],U WE]) ?_ rfl ⟨_,by rw[A.o],by rw[K.o];exact G.o.1.at,G.o.2⟩;rw[K8 rfl];go_simp
 subst c;rw[Io rfl] at A
 have b0:Hid (DR=R):=by
  unfold Hid;rw[K.o,A.o]
  split
  ·rfl
  rename_i h;exact(HZ.o h).symm
 have m:Hid _:=o.o rfl w1 j;clear o n K HZ G0 G1 l j;go_wp2_with fail;go_at_call 16;refine Calls.mono m.o ?_;rintro e w2 ⟨v,rfl,r,H⟩;obtain⟨a0,c0,a1,c1,a2,c2,ev,-⟩:=r.at.shape;subst ev;generalize R.1.length=n0 at*;generalize R.2.1.1.length=n1 at*;generalize R.2.1.2.length=n2 at*;obtain⟨-,-,l,I⟩:=N.o w2 (a.th H);obtain⟨W5,g,F,G⟩:=iC l r (Kd p.o.2 a.size) I (by omega) (λk h=>Kd h (a.u p.o.1.size));have q:=Z g;obtain⟨v0,v1,v2,v3,-⟩:=aL F;clear z0 z1 z2 z3 f0 f1 f2 f3 x0 x1 x2 x3 y0 y1 y2 y3 y4;have⟨z0,z1,z2,z3,f0,f1,f2,f3⟩:=aL l;generalize R.2.2=ub at*;clear g F l I H a r m N;go_wp2_with fail;rw[<-q.o];refine Ka (v:=.tuple #[.agg #[.slice a0 n0 c0,.slice a1 n1 c1,.slice a2 n2 c2,.bool ub],U E]) ?_ rfl ⟨_,by rw[A.o],by rw[b0.o];exact G.o.1.at,G.o.2⟩;rw[K8 rfl];go_simp
theorem vX(B v x c)(a:Nat->Int)(w)(he:dD w)(X:bi B w v x)(hc:wf c)(H:B<=w.1.size)(I:sW x.2.1):
  cL 5 #[v,U c,jm a] w (rT w (.tuple #[U (qu x c a),U (kp x c a)])):=by
 have m:=Z λG (h:bL w G)=>nU B v x G (he.l h) (X.l h H) (h.u H) I
 have d:Hid (kp x c a=if cr x=0 then (if c<0\/3<c then 5 else if (bW x.1 c).1=true then mQ (bW x.1 c).2.1 a else 6) else cr x):=rfl;have k:Hid (qu x c a=if kp x c a=0 then t6 (bW x.1 c).2.1 a else 0):=rfl;have g:=Z λ(h:cr x=0)=>(kO h).1.1
 have J:Hid (∀Y,mQ Y a≠0->t6 Y a=0):=λY h=>by unfold t6;rw[iO h]
 obtain⟨ca,T,sa,sc,ta,tc,rfl,K,-⟩:=X.shape;have L:=Z λG (h:bL w G)=>K.l h H
 have HB:=Z H;clear X K he I H hc;generalize cr x=WE at*;generalize kp x c a=AE at*;generalize qu x c a=AV at*;obtain⟨C,⟨s,t⟩,u⟩:=x;unfold jm;simp only at*;have⟨n,hn⟩:=nM (C.length)
 rw[<-hn] at L m g |-
 have HN:=Z hn;clear hn;generalize s.length=nS at*;generalize t.length=nT at*;have⟨W,M⟩:=nM ((w.alloc (.cells #[.slice ca n T,.slice sa nS sc,.slice ta nT tc,.bool u] 27)).alloc (.cells #[U (a 0),U (a 1),U (a 2),U (a 3),U (a 4)] 34));have p:=bB M;have g0:Na W w.1.size #[.slice ca n T,.slice sa nS sc,.slice ta nT tc,.bool u] 27:=by rw[M];exact dF _ (aY _ _ rfl)
 have g1:=gC M;have r:=Z λG (h:bL W G)=>Q3 (h.bl g0) (h.bl g1) (p.th h)
 have HW:=Z M;have a4:=Z p;obtain⟨x0,x1,x2,x3,-⟩:=aL g0;clear M p g0 g1;go_enter func5,ntmps5;go_wp2_with fail;rw[<-HW.o];go_at_call 8;refine(m.o _ a4.o).mono ?_;rintro e f ⟨rfl,y⟩;have⟨G0,G1,N⟩:=r.o f y;clear x0 x1 x2 x3 m;obtain⟨x0,x1,x2,x3,-⟩:=aL G0;have l:=Z2 y N;clear G0 G1 y N
 by_cases i:WE=0
 case neg=>
  have hq:(WE != 0)=true:=by simpa using i
  rw[iO i] at d;rw[d.o,iO i] at k;clear i L g J;go_wp2_with fail;go_ret2;exact⟨by rw[d.o,k.o];rfl,l.o.2⟩
 subst i;rw[Io rfl] at d;obtain rfl:n=4:=g.o rfl
 by_cases V:c<0\/3<c
 ·rw[Io V] at d;rw[d.o,iO (by decide)] at k;clear L g J
  rcases V with h|h
  ·go_wp2_with fail;go_ret2;exact⟨by rw[d.o,k.o];rfl,l.o.2⟩
  have h0:¬c<0:=by omega
  have h4:(4:Int)<=c:=by omega
  clear h;go_wp2_with fail;go_ret2;exact⟨by rw[d.o,k.o];rfl,l.o.2⟩
 rw[iO V] at d;obtain⟨j,rfl⟩:∃j:Nat,c=(j:Int):=⟨c.toNat,by omega⟩;have b8:(0:Int)<=(j:Int):=by omega
 have bk:¬(j:Int)<0:=by omega
 have b9:(j:Int)<4:=by omega
 have bm:¬(4:Int)<=(j:Int):=by omega
 obtain⟨z,A⟩:∃z,C[j]?=some z:=⟨C[j]'(by have:=HN.o;omega),by simp⟩;have O:bW C (j:Int)=z:=by unfold bW;rw[L3,Kn,A];rfl
 rw[O] at d k;obtain⟨_,_,e1,a9,-,P⟩:=L.o f l.o.2;obtain⟨b,o,e,Q,R⟩:=P j _ A;simp at e1;obtain⟨rfl,-,rfl⟩:=e1;subst e;obtain⟨la,lc,bq,br,k0,k1,k2,k3,D,-⟩:=R.vals;have bb:4<=T:=by have:=HN.o;omega
 have E:=Kd Q (l.o.2.u HB.o);clear P R A O k2 k3 L a9 Q V g HN
 cases iY:z.1 with
 |false=>
  rw[iY,iO (by decide)] at d;rw[d.o,iO (by decide)] at k;rw[iY] at k0;clear iY D J k1 E;go_wp2_with fail;go_ret2;exact⟨by rw[d.o,k.o];rfl,l.o.2⟩
 |true=>
  rw[iY,Io rfl] at d
  have S:Hid (AV=t6 z.2.1 a):=by
   unfold Hid;rw[k.o]
   split
   ·rfl
   rename_i h;exact(J.o _ (by rw[<-d.o];exact h)).symm
  rw[iY] at k0;have HA:=Z λ(q:ax f)=>Hn B _ _ a q.1 (D.l q.2 (l.o.2.u HB.o)) (Kl HB.o (q.2.u l.o.2.size))
  have z1:∀q:ax f,q.1.cell? ⟨b,o+j*4+1,none⟩=some (.slice la z.2.1.length lc):=λq=>q.cell k1 E
  rw[<-d.o,<-S.o] at HA;generalize z.2.1.length=cn at*;clear iY D k J E d S;have ae:=ax.ne f;have F:=Z λ(q:ax f)=>l.o.1.th q.2
  have z0:∀q:ax f,q.1.cell? (pW w 0)=some (.slice (some ⟨b,o,none⟩) 4 T):=λq=>ab (r.o q.1 (F.o q)).1 0 rfl
  have p0:∀q:ax f,q.1.cell? (pA (w.1.size+1) 0)=some (U (a 0)):=λq=>ab (r.o q.1 (F.o q)).2.1 0 rfl
  have p1:∀q:ax f,q.1.cell? (pA (w.1.size+1) 1)=some (U (a 1)):=λq=>ab (r.o q.1 (F.o q)).2.1 1 rfl
  have p2:∀q:ax f,q.1.cell? (pA (w.1.size+1) 2)=some (U (a 2)):=λq=>ab (r.o q.1 (F.o q)).2.1 2 rfl
  have p3:∀q:ax f,q.1.cell? (pA (w.1.size+1) 3)=some (U (a 3)):=λq=>ab (r.o q.1 (F.o q)).2.1 3 rfl
  have p4:∀q:ax f,q.1.cell? (pA (w.1.size+1) 4)=some (U (a 4)):=λq=>ab (r.o q.1 (F.o q)).2.1 4 rfl
  go_wp2_with fail;refine aW (by kernel_rfl) (by kernel_rfl) ?_;clear x0 x1 x2 x3 k0 k1
  repeat(go_big_quiet_step (first
   |(go_at_call 17;exact Calls.l (HA.o _))))
  refine Km ?_;rintro w2 ⟨⟨_,b2⟩,rfl⟩;have af:=Z (l.o.2.th b2);clear z0 z1 p0 p1 p2 p3 p4 ae HA F b2;go_wp2_with fail;go_ret2;exact⟨rfl,af.o⟩
theorem vg(B w):gx B w nL []:=⟨none,0,rfl,Ke _,Ks _,λi c h=>by simp at h⟩
theorem F6(n:Nat)(f:n<=60)(w:World):(Instr.makeSlice 58 (U n) (U n)).run prog w=.ok (.slice (sO w.1.size) n n) (w.alloc (.cells (madeCells #[U 0] n) 35)):=by
 obtain⟨a,b,c,d,e⟩:=E7;have:=MQ (P:=prog) w 58 35 a _ Tryz.underlying58 b c .i64 .i64 n n (by omega) (LH _) (by rw[e];omega) (by omega);rw[d] at this
 simpa [Value.cells] using this
structure IS (w:World) (g n:Nat) (x:aH) (l:List az) (k:Nat) (wr:World) (v0 v1 v2 v3:Value):Prop where
 box:wr.1[g]?=some (.cells #[v0,v1,v2,v3] 27 (0,0))
 wok:kG (λj=>j=g\/j=g+1\/j=w.1.size+1) wr (.agg #[v0,v1,v2,v3]) (fk x (l.take k)).1
 right:cr (fk x (l.take k)).1=0
 row:∃ys:List Value,wr.1[g+1]?=some (.cells (eG (fk x (l.take k)).2++ys).toArray 35 (0,0))/\(fk x (l.take k)).2.length=k/\ys.length=n-k
 res:wr.1[w.1.size+1]?=some (.cells #[nL,nL,nL,.bool false] 27 (0,0))
 below:bL w wr
theorem IS.step{w g n k x l}{wr w6 W:World}{C D E F u0 u1 u2 u3:Value}{y:az}(h:IS w g n x l k wr C D E F)(L:l[k]?=some y)(P:k<n)(Q:w.1.size+1<g)(f:bL wr w6)
  (G:∀j,j≠g->j≠g+1->j<w6.1.size->W.1[j]?=w6.1[j]?) (u:Below w.1.size w6 W) (v:W.1[g]?=some (.cells #[u0,u1,u2,u3] 27 (0,0))) (i:∀ (xs:List Value),w6.1[g+1]?=some (.cells xs.toArray 35 (0,0))->W.1[g+1]?=some (.cells (xs.set k (U (lC (fk x (l.take k)).1 y))).toArray 35 (0,0)))
  (M:lC (fk x (l.take k)).1 y=0->kG (λj=>j<wr.1.size) w6 (.agg #[u0,u1,u2,u3]) (oA (fk x (l.take k)).1 y)) (N:lC (fk x (l.take k)).1 y≠0->u0=C/\u1=D/\u2=E/\u3=F):IS w g n x l (k+1) W u0 u1 u2 u3:=by
 have e:fk x (l.take (k+1))=xp (fk x (l.take k)) y:=by rw[KN,L];exact yC _ _ _
 have m:∀a,Kx (λj=>j=g\/j=g+1\/j=w.1.size+1) W a->Kx (λj=>j=g\/j=g+1\/j=w.1.size+1) w6 a:=λa d=>⟨(u.mono (Ks _)).trans d.1,λj o t=>(d.2 j o (Kd t u.size)).trans (G j (λe=>o (.inl e)) (λe=>o (.inr (.inl e))) t)⟩
 have O:=io h.box;obtain⟨H,p,q,r⟩:=h.row;have A:=io p
 obtain⟨z,c,rfl⟩:∃z c,H=z :: c:=by
  cases H with
  |nil=>simp at r;omega
  |cons z c=>exact⟨z,c,rfl⟩
 have I:=i _ ((f.block _ A).trans p);have s:=io h.res
 have B:(eG (fk x (l.take k)).2++z :: c).set k (U (lC (fk x (l.take k)).1 y))=eG ((fk x (l.take k)).2++[lC (fk x (l.take k)).1 y])++c:=by
  have t:(eG (fk x (l.take k)).2).length=k:=by rw[lq,q];omega
  rw[oP,List.set_append_right _ _ (by omega),t,Nat.sub_self];simp[eG]
 rw[B] at I;have J:(xp (fk x (l.take k)) y).1=if lC (fk x (l.take k)).1 y=0 then oA (fk x (l.take k)).1 y else (fk x (l.take k)).1:=rfl
 have K:(xp (fk x (l.take k)) y).2=(fk x (l.take k)).2++[lC (fk x (l.take k)).1 y]:=rfl;refine⟨v,?_,?_,⟨c,by rw[e,K];exact I,by rw[e,K];simp[q],by simp at r;omega⟩,?_,?_⟩
 ·rw[e,J]
  by_cases b:lC (fk x (l.take k)).1 y=0
  ·rw[Io b];exact λa d=>M b a ((m a d).back bR λj _ o=>by rcases o with rfl|rfl|rfl<;>assumption)
  rw[iO b];obtain⟨rfl,rfl,rfl,rfl⟩:=N b;exact λa d=>(h.wok.l f λ_ _ e=>e) a (m a d)
 ·rw[e,J]
  by_cases b:lC (fk x (l.take k)).1 y=0
  ·rw[Io b];exact Ce b
  rw[iO b];exact h.right
 ·exact(G _ (by omega) (by omega) (Kd s f.size)).trans ((f.block _ s).trans h.res)
 exact(h.below.trans (f.mono h.below.size)).trans u
theorem By(B v lv x l w)(he:dD w)(hx:bi B w v x)(hl:dh B w lv l)(hB:B<=w.1.size)(cx:sW x.2.1):
  cL 22 #[v,lv] w λe b=>∃v' ev,e=.returned (.tuple #[v',ev,U (qU x l)])/\bi b.1.size b v' (nz x l)/\gx b.1.size b ev (qV x l)/\bL w b:=by
 have b1:=Z λb (h:bL w b)=>nU B v x b (he.l h) (hx.l h hB) (h.u hB) cx
 have L:Hid (cr x=0->∀b,bL w b->cL 53 #[v] b λe D=>∃d n0 f m n1 q r n2 s t,e=.returned (.agg #[.slice d n0 f,.slice m n1 q,.slice r n2 s,.bool t])/\kG (λk=>k<b.1.size) D (.agg #[.slice d n0 f,.slice m n1 q,.slice r n2 s,.bool t]) x/\bL b D):=λh0 b h=>(CX B v x b (hx.l h hB) (h.u hB) h0).mono λe D ⟨v',h1,h2,h3⟩=>by obtain⟨d,f,m,q,r,s,e,-⟩:=h2.at.shape;subst e;exact⟨_,_,_,_,_,_,_,_,_,_,h1,h2,h3⟩
 have T:Hid (∀b nv yv X y,bL w b->bi b.1.size b nv X->cI b.1.size b yv y->cr X=0->cL 16 #[nv,yv] b λe D=>∃d n0 f m n1 q r n2 s t,e=.returned (.tuple #[.agg #[.slice d n0 f,.slice m n1 q,.slice r n2 s,.bool t],U (lC X y)])/\(lC X y=0->kG (λk=>k<b.1.size) D (.agg #[.slice d n0 f,.slice m n1 q,.slice r n2 s,.bool t]) (oA X y))/\bL b D):=λb nv yv X y h h1 h2 h3=>(yM _ nv yv X y b (he.l h) h1 h2 lE h3).mono λe D ⟨v',k1,k2,k3⟩=>by
  obtain⟨d,f,m,q,r,s,e,-⟩:=k2.at.shape;subst e;have e:lC X y=aQ X y:=by unfold lC;rw[Io h3]
  rw[e];exact⟨_,_,_,_,_,_,_,_,_,_,k1,λh0=>by unfold oA;rw[e,Io h0];exact k2,k3⟩
 have M:Hid (qU x l=if cr x=0 then (if 60<l.length then 2 else 0) else cr x):=rfl
 have HR:Hid (qU x l≠0->nz x l=fg/\qV x l=[]):=λh=>⟨by unfold nz;rw[iO h],by unfold qV;rw[iO h]⟩
 have V:Hid (qU x l=0->nz x l=(fk x l).1/\qV x l=(fk x l).2):=λh=>⟨by unfold nz;rw[Io h],by unfold qV;rw[Io h]⟩
 have HL:=Z λb (h:bL w b)=>hl.l h hB
 obtain⟨ca,cc,sa,sc,ta,tc,rfl,-,-⟩:=hx.shape;obtain⟨la,lc,rfl,-⟩:=hl;have b2:=Z hB;clear hx he cx hB;have⟨n,hn⟩:=nM (l.length);have HN:=Z hn
 rw[<-hn] at M HL |-
 clear hn;have HX:Hid (cr x=0->cr x=0):=id;generalize z:cr x=WE at*;have d4:=Z z;clear z HX;generalize qU x l=RE at*;generalize nz x l=RW at*;generalize qV x l=RL at*;have⟨nC,d5⟩:=nM (x.1.length);have⟨nS,d6⟩:=nM (x.2.1.1.length);have⟨nT,da⟩:=nM (x.2.1.2.length);have⟨u,hu⟩:=nM (x.2.2)
 rw[<-d5,<-d6,<-da,<-hu] at b1 L |-
 clear d5 d6 da hu;have⟨W,hW⟩:=nM ((w.alloc (.cells #[.slice ca nC cc,.slice sa nS sc,.slice ta nT tc,.bool u] 27)).alloc (.cells #[nL,nL,nL,.bool false] 27));have b4:=bB hW;have g0:Na W w.1.size #[.slice ca nC cc,.slice sa nS sc,.slice ta nT tc,.bool u] 27:=by rw[hW];exact dF _ (aY _ _ rfl)
 have g1:=gC hW;have HG:=Z λb (h:bL W b)=>Q3 (h.bl g0) (h.bl g1) (b4.th h)
 have HW:=Z hW;have Y:=Z2 b4 (io g1);obtain⟨x0,x1,x2,x3,-⟩:=aL g0;clear hW b4 g0 g1;have eq:=ai;go_enter func22,ntmps22;go_wp2_with fail;rw[<-HW.o];go_at_call 8;refine Calls.mono (b1.o _ Y.o.1) ?_;rintro e w1 ⟨rfl,b5⟩;have⟨G0,G1,b6⟩:=HG.o w1 b5;clear x0 x1 x2 x3 b1;obtain⟨x0,x1,x2,x3,-⟩:=aL G0;have⟨z0,z1,z2,z3,f0,f1,f2,f3⟩:=aL G1;have B1:=Z2 b5 b6;obtain⟨W5,I,k5,HF⟩:=kR G1 b6 (by omega);have N:=Z I;obtain⟨v0,v1,v2,v3,-⟩:=aL k5;clear G0 G1 b5 b6 I k5
 by_cases z:WE=0
 case neg=>
  have hq:(WE != 0)=true:=by simpa using z
  rw[iO z] at M;have HZ:Hid (RW=fg/\RL=[]):=HR.o (by rw[M.o];exact z);clear z L T HL HG HR V HN;go_wp2_with fail;rw[<-N.o];refine Ka (v:=.tuple #[.agg #[nL,nL,nL,.bool false],nL,U WE]) ?_ rfl ⟨_,_,by rw[M.o],by rw[HZ.o.1];exact HF.o.1.at,by rw[HZ.o.2];exact vg _ _,HF.o.2⟩;rw[eY rfl];go_simp
 subst z;rw[Io rfl] at M
 by_cases a3:60<n
 ·have de:(60:Int)<(n:Int):=by omega
  rw[Io a3] at M;have HZ:Hid (RW=fg/\RL=[]):=HR.o (by rw[M.o];decide);clear a3 L T HL HG HR V HN;go_wp2_with fail;rw[<-N.o];refine Ka (v:=.tuple #[.agg #[nL,nL,nL,.bool false],nL,U 2]) ?_ rfl ⟨_,_,by rw[M.o],by rw[HZ.o.1];exact HF.o.1.at,by rw[HZ.o.2];exact vg _ _,HF.o.2⟩;rw[eY rfl];go_simp
 have de:¬(60:Int)<(n:Int):=by omega
 rw[iO a3] at M;have df:Hid _:=V.o M.o;have af:Hid _:=L.o rfl w1 B1.o.2;have O:=λw=>F6 n (by omega) w
 have⟨mc,b8⟩:=nM (madeCells #[U 0] n);rw[<-b8] at O;have ey:=O;have HM:=Z (by rw[b8];simp[LS]:mc.toList.length=n);clear O b8 HR V L a3 HF N v0 v1 v2 v3 z0 z1 z2 z3 f0 f1 f2 f3;go_wp2_with fail;go_at_call 53;refine Calls.mono af.o ?_;rintro e a ⟨d,n0,f,m,n1,q,r,n2,s,t,rfl,dk,dl⟩;have⟨W3,P⟩:=nM ((a.alloc (.cells #[.slice d n0 f,.slice m n1 q,.slice r n2 s,.bool t] 27)).alloc (.cells mc 35));have b9:=bB P;have ba:=B1.o.1.th dl;have bb:=ba.th b9
 have C:Hid (IS w a.1.size n x l 0 W3 (.slice d n0 f) (.slice m n1 q) (.slice r n2 s) (.bool t)):=by
  refine⟨by rw[P];exact dF _ (aY _ _ rfl),?_,d4.o,⟨mc.toList,?_,rfl,by rw[HM.o];rfl⟩,(HG.o W3 bb).2.1,(HG.o W3 bb).2.2⟩
  ·exact dk.l b9 λk hk e=>by have:=Kd Y.o.2 B1.o.1.size;omega
  rw[P];refine(aY _ _ (by simp only[Kg])).trans ?_;rw[show mc=mc.toList.toArray from rfl];rfl
 have eN:=Kd Y.o.2 ba.size;have eO:=Z P;clear P b9 ba bb dk dl af HG Y B1 HM d4 HW;go_wp2_with fail;rw[<-eO.o];clear ey x0 x1 x2 x3;go_loopw [31] (λiv wr=>∃k:Nat,k<=n/\iv=U k/\∃d m0 f m m1 q r m2 s t,Hid (IS w a.1.size n x l k wr (.slice d m0 f) (.slice m m1 q) (.slice r m2 s) (.bool t))) (λiv _=>n-(intOf iv).toNat)
 case atStart=>exact⟨0,by omega,rfl,_,_,_,_,_,_,_,_,_,_,C⟩
 case round=>
  clear C;obtain⟨k,hk,rfl,d,m0,f,m,m1,q,r,m2,s,t,C⟩:=hrel;have⟨wo,f4⟩:=nM (wr);subst f4;have i0:(0:Int)<=(k:Int):=by omega
  obtain⟨x0,x1,x2,x3,-⟩:=aL C.o.box;have h8:=io C.o.box
  by_cases f5:k<n
  ·have i1:(k:Int)<(n:Int):=by omega
   obtain⟨y,bc⟩:∃y,l[k]?=some y:=⟨l[k]'(by rw[<-HN.o];omega),by simp⟩;obtain⟨_,_,e1,-,-,dn⟩:=HL.o _ C.o.below;have⟨b3,o3,e,dp,f9⟩:=dn k y bc;simp at e1;obtain⟨rfl,-,rfl⟩:=e1;subst e;obtain⟨rv,q0,q1,q2,q3,q4,bd⟩:=f9;obtain⟨ra,fa,er,-⟩:=bd.shape;simp at er;subst er;have fb:=Z bc;have⟨W5,I⟩:=nM (wo.alloc (.cells #[U y.1,U y.2.1,U y.2.2.1,.slice ra y.2.2.2.1.length fa,U y.2.2.2.2] 32));have J:=bA I;have a4:=C.o.below.size;have E:Hid _:=T.o W5 _ _ _ y (Below.tO C.o.below J a4) (C.o.wok.l J λ_ _ e=>e).at (iW (bd.l J (Kl b2.o a4)) (Kl b2.o (J.u a4))) C.o.right;have⟨X,hX⟩:=nM ((fk x (l.take k)).1);rw[<-hX] at E;have HX:=Z hX;have N:=Z I;have dq:=Z J;generalize y.2.2.2.1.length=yl at*;clear I J bd dn bc hX dp;go_wp2_with fail;rw[<-N.o];go_at_call 16;refine Calls.mono E.o ?_;rintro e R ⟨a6,n6,c6,a7,n7,c7,a8,n8,c8,u6,rfl,dr,ds⟩;have A:=dq.o.th ds;have g6:=A.bl C.o.box;obtain⟨ys,F,G,a5⟩:=C.o.row;have gr:=A.bl F;clear x0 x1 x2 x3 q0 q1 q2 q3 q4;have⟨x0,x1,x2,x3,f0,f1,f2,f3⟩:=aL g6;have lg:=io g6;have lr:=io gr;obtain⟨rv,rk⟩:∃u,R.cell? ⟨a.1.size+1,k,none⟩=some u:=by refine⟨_,ab gr k (Lo ?_)⟩;simp[eG,G,a5];omega
   have rf:R.frozen? ⟨a.1.size+1,k,none⟩=false:=by simp[World.frozen?,gr]
   have bf:Hid (lC X y=0->kG (λj=>j<wo.1.size) R (.agg #[.slice a6 n6 c6,.slice a7 n7 c7,.slice a8 n8 c8,.bool u6]) (oA X y)):=λh0=>(dr h0).l bR λj _ e=>Kd e dq.o.size
   have K:=Z3 A (Below.tO C.o.below A a4) g6;clear dr ds A g6 gr F G a5 E;have hs:¬a.1.size+1=a.1.size:=by omega
   have bg:=Z3 f5 eN lr;have H:Hid (∀ (W8:World) (X8:Obj) (u0 u1 u2 u3:Value),(∀j,j≠a.1.size->j≠a.1.size+1->W8.1[j]?=R.1[j]?)->W8.1.size=R.1.size->Below w.1.size R W8->Na W8 a.1.size #[u0,u1,u2,u3] 27->(∀ (xs:List Value),Na R (a.1.size+1) xs.toArray 35->W8.1[a.1.size+1]?=some (.cells (xs.set k (U (lC X y))).toArray 35 (0,0)))->(lC X y=0->kG (λj=>j<wo.1.size) R (.agg #[u0,u1,u2,u3]) (oA X y))->(lC X y≠0->u0=.slice d m0 f/\u1=.slice m m1 q/\u2=.slice r m2 s/\u3=.bool t)->IS w a.1.size n x l (k+1) (W8.alloc X8) u0 u1 u2 u3):=λW8 X8 u0 u1 u2 u3 h1 h2 h3 h4 h5 h6 h7=>by rw[HX.o] at h5 h6 h7;obtain⟨l1,l2,l3⟩:=bg.o;refine C.o.step fb.o l1 l2 K.o.1 (λj j1 S j3=>(Kq _ _ _ (by omega)).trans (h1 j j1 S)) (h3.alloc (by have:=K.o.2.1.size;omega) _) (dF _ h4) (λxs Q=>dF _ (h5 xs Q)) h6 h7
   generalize lC X y=DE at*
   by_cases a9:DE=0
   ·subst a9;have⟨k1,k2,k3,k4⟩:=eK (u0:=.slice a6 n6 c6) (u1:=.slice a7 n7 c7) (u2:=.slice a8 n8 c8) (u3:=.bool u6) K.o.2.2;have br:Hid (IS w a.1.size n x l (k+1) ((((((R.setCell (pW a 0) (.slice a6 n6 c6)).setCell (pW a 1) (.slice a7 n7 c7)).setCell (pW a 2) (.slice a8 n8 c8)).setCell (pW a 3) (.bool u6)).setCell ⟨a.1.size+1,k,none⟩ (U 0)).alloc (.cells #[.slice a6 n6 c6,.slice a7 n7 c7,.slice a8 n8 c8,.bool u6] 27)) (.slice a6 n6 c6) (.slice a7 n7 c7) (.slice a8 n8 c8) (.bool u6)):=by refine H.o _ _ _ _ _ _ (λj j1 S=>(Kc _ _ _ _ S).trans (k2 j j1)) (by simp[k3]) ((k4 _ (by omega)).setCell (p:=⟨a.1.size+1,k,none⟩) (by show w.1.size<=a.1.size+1;omega) _) ((Kc _ _ _ _ (by show a.1.size≠a.1.size+1;omega)).trans k1) (λxs Q=>?_) bf.o (λh=>absurd rfl h);have:=ap (o:=k) (u:=U 0) ((k2 (a.1.size+1) (by omega)).trans Q);rw[List.setIfInBounds_toArray] at this;exact this
    clear k1 k2 k3 k4 H bf K bg;go_wp2_with fail;exact⟨⟨k+1,by omega,by go_num,_,_,_,_,_,_,_,_,_,_,br⟩,by simp[intOf];omega⟩
   have hq:(DE==0)=false:=by simpa using a9
   have br:Hid (IS w a.1.size n x l (k+1) ((R.setCell ⟨a.1.size+1,k,none⟩ (U DE)).alloc (.cells #[.slice a6 n6 c6,.slice a7 n7 c7,.slice a8 n8 c8,.bool u6] 27)) (.slice d m0 f) (.slice m m1 q) (.slice r m2 s) (.bool t)):=by refine H.o _ _ _ _ _ _ (λj j1 S=>Kc _ _ _ _ S) (by simp) (bR.setCell (p:=⟨a.1.size+1,k,none⟩) (by show w.1.size<=a.1.size+1;omega) _) ((Kc _ _ _ _ (by show a.1.size≠a.1.size+1;omega)).trans K.o.2.2) (λxs Q=>?_) (λh=>absurd h a9) (λ_=>⟨rfl,rfl,rfl,rfl⟩);have:=ap (o:=k) (u:=U DE) Q;rw[List.setIfInBounds_toArray] at this;exact this
   clear H bf K bg a9;go_wp2_with fail;exact⟨⟨k+1,by omega,by go_num,_,_,_,_,_,_,_,_,_,_,br⟩,by simp[intOf];omega⟩
  have i1:¬(k:Int)<(n:Int):=by omega
  obtain rfl:k=n:=by omega
  have e:l.take k=l:=Ki (by rw[<-HN.o];exact Ke _);have hI:=C.o;obtain⟨ys,F,G,a5⟩:=hI.row;have aa:=hI.wok;rw[e] at F G aa;rw[<-df.o.2] at F G;rw[<-df.o.1] at aa;have⟨z0,z1,z2,z3,f0,f1,f2,f3⟩:=aL hI.res;have⟨j1,S,j3,j4⟩:=eK (u0:=.slice d m0 f) (u1:=.slice m m1 q) (u2:=.slice r m2 s) (u3:=.bool t) hI.res;have lo:=io hI.res;have⟨WF,bv⟩:=nM ((((wo.setCell (pA (w.1.size+1) 0) (.slice d m0 f)).setCell (pA (w.1.size+1) 1) (.slice m m1 q)).setCell (pA (w.1.size+1) 2) (.slice r m2 s)).setCell (pA (w.1.size+1) 3) (.bool t));rw[<-bv] at j1 S j3 j4;have HF:Hid (bi WF.1.size WF (.agg #[.slice d m0 f,.slice m m1 q,.slice r m2 s,.bool t]) RW/\gx WF.1.size WF (.slice (sO (a.1.size+1)) k k) RL/\bL w WF):=by have hr:=(S (a.1.size+1) (by omega)).trans F;refine⟨aa WF (Kx.put (Kx.refl _ _) (j4 0 (Ks _)) (λg hg=>S g λe=>hg (.inr (.inr e))) j3),⟨_,_,by rw[G],by omega,by rw[eq];omega,λi c hc=>⟨_,_,rfl,io hr,ab hr _ ?_⟩⟩,hI.below.trans (j4 _ (by omega))⟩;have hi:=(K9.1 hc).1;rw[Kp,LK,Kh (by rw[lq];omega)];unfold eG;rw[Ku,hc];rfl
  have fd:=Z bv;obtain⟨y0,y1,y2,y3,-⟩:=aL j1;have hz:¬a.1.size=w.1.size+1:=by omega
  clear bv j1 S j3 j4 F G a5 aa hI e C HL T b2;go_wp2_with fail;rw[<-fd.o];refine Ka (v:=.tuple #[.agg #[.slice d m0 f,.slice m m1 q,.slice r m2 s,.bool t],.slice (sO (a.1.size+1)) k k,U 0]) ?_ rfl ⟨_,_,by rw[M.o],HF.o⟩;rw[eY rfl];go_simp
theorem kr:cr (nz kz gJ)=0:=by decide +kernel
theorem yU(w)(he:dD w):cL 7 #[] w (rT w (.bool true)):=by
 have Q:=Z λf (h:bL w f)=>he.l h
 clear he;go_enter func7,ntmps7;go_wp2_with fail;go_at_call 11;refine Calls.mono (Cg w) ?_;rintro e w1 ⟨v1,rfl,u,b1⟩;obtain⟨wa,wc,sa,sc,ta,tc,ev,-,-⟩:=u.shape;subst ev;have⟨z1,Y⟩:=nM (kz.1.length);have⟨z2,a0⟩:=nM (kz.2.1.1.length);have⟨z3,a5⟩:=nM (kz.2.1.2.length);have⟨z4,a6⟩:=nM (kz.2.2)
 rw[<-Y,<-a0,<-a5,<-a6] at u |-
 clear Y a0 a5 a6;go_wp2_with fail;go_at_call 23;refine Calls.mono (Bn _ (Q.o _ b1)) ?_;rintro e w2 ⟨p2,rfl,a7,b2⟩;have G:=a7.at;obtain⟨a2,c2,rfl⟩:∃a c,p2=.agg #[.slice a 2 c,U 4]:=by obtain⟨rv,m,-,da,dc,s,-⟩:=G;exact⟨da,dc,by rw[m,s];rfl⟩
 have H:=b1.th b2;clear a7;go_wp2_with fail;go_at_call 24;refine Calls.mono (DP _ (Q.o _ H)) ?_;rintro e w3 ⟨p3,rfl,aa,R⟩;have I:=aa.at;obtain⟨a3,c3,rfl⟩:∃a c,p3=.agg #[.slice a 3 c,U 4]:=by obtain⟨rv,m,-,da,dc,s,-⟩:=I;exact⟨da,dc,by rw[m,s];rfl⟩
 have J:=H.th R;clear aa;go_wp2_with fail;go_at_call 23;refine Calls.mono (Bn _ (Q.o _ J)) ?_;rintro e w4 ⟨p4,rfl,ac,D⟩;have K:=ac.at;obtain⟨a4,c4,rfl⟩:∃a c,p4=.agg #[.slice a 2 c,U 4]:=by obtain⟨rv,m,-,da,dc,s,-⟩:=K;exact⟨da,dc,by rw[m,s];rfl⟩
 have ad:=J.th D;clear ac;have⟨S,p⟩:=nM (w4.alloc (.cells #[U 1,U 1,U 0,.slice a2 2 c2,U 4,U 2,U 1,U 0,.slice a3 3 c3,U 4,U 2,U 1,U 0,.slice a4 2 c4,U 4,U 5,U 0,U 0,nL,U 0,U 4,U 1,U 0,nL,U 0,U 6,U 0,U 0,nL,U 0] 32));have T:=bA p;have s5:=sA p;have d:=hA p;have L:=ad.th T;have M:=b2.th (Below.tO R (Below.tO D T D.size) R.size);have t2:=b2.size;have t3:=R.size;have t4:=D.size
 have hR:dh S.1.size S (.slice (MZ w4) 6 6) gJ:=by
  have l:∀n:Int,0<=n/\n<=6->wf n:=λn h=>L4 (by omega)
  refine⟨_,6,rfl,Ke _,by rw[ai];omega,λi r j=>⟨w4.1.size,0,rfl,by omega,?_⟩⟩
  match i,j with
  |0,j=>
   simp[gJ] at j;subst j;exact⟨_,J0 d,J1 d,J2 d,J3 d,J4 d,_,rfl,l _ (by decide),l _ (by decide),l _ (by decide),gG (G.l (R.th (Below.tO D T D.size)) lE) (by omega)⟩
  |1,j=>
   simp[gJ] at j;subst j;exact⟨_,ab d 5 rfl,ab d 6 rfl,ab d 7 rfl,ab d 8 rfl,ab d 9 rfl,_,rfl,l _ (by decide),l _ (by decide),l _ (by decide),gG (I.l (D.th T) lE) (by omega)⟩
  |2,j=>
   simp[gJ] at j;subst j;exact⟨_,ab d 10 rfl,ab d 11 rfl,ab d 12 rfl,ab d 13 rfl,ab d 14 rfl,_,rfl,l _ (by decide),l _ (by decide),l _ (by decide),gG (K.l T lE) (by omega)⟩
  |3,j=>
   simp[gJ] at j;subst j;exact⟨_,ab d 15 rfl,ab d 16 rfl,ab d 17 rfl,ab d 18 rfl,ab d 19 rfl,_,rfl,l _ (by decide),l _ (by decide),l _ (by decide),bV _ _⟩
  |4,j=>
   simp[gJ] at j;subst j;exact⟨_,ab d 20 rfl,ab d 21 rfl,ab d 22 rfl,ab d 23 rfl,ab d 24 rfl,_,rfl,l _ (by decide),l _ (by decide),l _ (by decide),bV _ _⟩
  |5,j=>
   simp[gJ] at j;subst j;exact⟨_,ab d 25 rfl,ab d 26 rfl,ab d 27 rfl,ab d 28 rfl,ab d 29 rfl,_,rfl,l _ (by decide),l _ (by decide),l _ (by decide),bV _ _⟩
  |i+6,j=>simp[gJ] at j
 have E:Hid (cL 22 #[.agg #[.slice wa z1 wc,.slice sa z2 sc,.slice ta z3 tc,.bool z4],.slice (MZ w4) 6 6] S λe f=>∃v,e=.returned v/\uE (nz kz gJ) [0,0,7,0,6,0] 0 f v/\bL S f):=by
  have:=By S.1.size _ _ kz gJ S (Q.o _ L) ((u.l M lE).wide M.size) hR lE (by unfold sW kz;decide);have m:qV kz gJ=[0,0,7,0,6,0]:=by unfold qV;rw[Io vW,EU]
  rw[vW,m] at this;refine this.mono λe f ⟨v',ev,x,t,h3,h4⟩=>?_
  obtain⟨a1,c1,a2,c2,a3,c3,ee,-,-⟩:=t.shape;obtain⟨ea,ec,ef,-,-⟩:=h3.full;rw[ee] at x t;rw[ef] at x h3;exact⟨_,x,⟨_,_,_,_,ea,_,ec,rfl,t,h3⟩,h4⟩
 have af:=Z p;have ak:=Z L;clear p T s5 d L M t2 t3 t4 hR u G I K b1 b2 R D H J ad;go_wp2_with fail;rw[<-af.o];go_at_call 22;refine Calls.mono E.o ?_;rintro e y ⟨u6,rfl,al,b6⟩;obtain⟨d1,m1,m,d2,m2,s,d3,m3,e3,ub,ea,en,ec,rfl⟩:=al.shape;obtain⟨eN,eO,eV,f0,f1,f2,f3,ee,q,ao⟩:=al;simp at ee;obtain⟨⟨rfl,rfl,rfl,rfl⟩,rfl,rfl,rfl⟩:=ee;have⟨X,V⟩:=nM (nz kz gJ);have ci:ub=true:=by obtain⟨_,_,_,e,-⟩:=q;simp at e;rw[e.2.2.2];exact Ii
 subst ci;rw[<-V] at q;have A:=ak.o.th b6;have av:Hid (∀f,bL y f->cL 5 #[.agg #[.slice d1 m1 m,.slice d2 m2 s,.slice d3 m3 e3,.bool true],U 1,.agg #[U 0,U 0,U 0,U 8,U 0]] f (rT f (.tuple #[U 2,U 0]))):=λf h=>by have:=vX f.1.size _ X 1 (oz 0 0 0 8 0) f (Q.o _ (A.th h)) ((q.l h lE).wide h.size) (by unfold wf;decide) lE (by rw[V];exact JY (kr));rw[V,yt.1,yt.2] at this;exact this
 have b0:Hid (∀f,bL y f->cL 5 #[.agg #[.slice d1 m1 m,.slice d2 m2 s,.slice d3 m3 e3,.bool true],U 2,.agg #[U 0,U 0,U 0,U 0,U 0]] f λe b7=>∃z,e=.returned (.tuple #[U z,U 6])/\bL f b7):=λf h=>by
  have:=vX f.1.size _ X 2 (oz 0 0 0 0 0) f (Q.o _ (A.th h)) ((q.l h lE).wide h.size) (by unfold wf;decide) lE (by rw[V];exact JY (kr));rw[V,Fk] at this
  exact this.mono λe b7 ⟨x,t⟩=>⟨_,x,t⟩
 have ba:=Z λf (h:bL y f)=>Q2 (ao.l h lE:gx y.1.size f (.slice ea en ec) [0,0,7,0,6,0]) (A.th h)
 have bb:∀X,bL y (y.alloc X):=λX=>bR.alloc lE X
 have ck:Hid _:=bb;clear q ao A b6 V E af ak bb;have⟨W7,B⟩:=nM (y.alloc (.cells #[.slice d1 m1 m,.slice d2 m2 s,.slice d3 m3 e3,.bool true] 27));have N:bL y W7:=by rw[B];exact ck.o _
 have g7:=hA B;have C:=Z λf (h:bL W7 f)=>Q2 (h.bl g7) (N.th h)
 have cn:=Z B;have co:=Z N;clear B N g7;go_wp2_with fail;rw[<-cn.o];go_at_call 5;refine Calls.mono (av.o W7 co.o) ?_;rintro e w8 ⟨rfl,b8⟩;have⟨g8,bc⟩:=C.o w8 b8;obtain⟨⟨x0,x1,x2,x3⟩,-⟩:=bY g8;have cs:=Z b8;have cv:=Z bc;clear b8 g8 bc;go_wp2_with fail;go_at_call 5;refine Calls.mono (b0.o w8 cv.o) ?_;rintro e W ⟨z,rfl,b9⟩;have O:=cs.o.th b9;have⟨g9,bd⟩:=C.o W O;clear x0 x1 x2 x3;obtain⟨⟨x0,x1,x2,x3⟩,-⟩:=bY g9;have l9:=io g9
 have bf:Hid (∀X:Value,X=U 0->cL 25 #[.slice ea en ec,.slice (MZ W) 6 6] (W.alloc (.cells #[X,U 0,U 7,U 0,U 6,U 0] 35)) λe f=>e=.returned (.bool true)/\f.1[y.1.size]?=some (.cells #[.slice d1 m1 m,.slice d2 m2 s,.slice d3 m3 e3,.bool true] 27 (0,0))/\bL w f):=by
  rintro _ rfl;have⟨WA,P⟩:=nM (W.alloc (.cells #[U 0,U 0,U 7,U 0,U 6,U 0] 35));rw[<-P];have bk:=bA P;have gA:=hA P;have bm:=bd.th bk;have cT:=O.th bk;have⟨hi,d0⟩:=ba.o WA bm
  have hl:gx WA.1.size WA (.slice (MZ W) 6 6) [0,0,7,0,6,0]:=by
   refine⟨_,6,rfl,Ke _,by rw[ai];omega,λi c g=>⟨W.1.size,0,rfl,io gA,?_⟩⟩;refine ab gA _ ?_
   match i,g with
   |0,g=>simp at g;subst g;rfl
   |1,g=>simp at g;subst g;rfl
   |2,g=>simp at g;subst g;rfl
   |3,g=>simp at g;subst g;rfl
   |4,g=>simp at g;subst g;rfl
   |5,g=>simp at g;subst g;rfl
   |i+6,g=>simp at g
  have:=rL WA.1.size _ _ [0,0,7,0,6,0] [0,0,7,0,6,0] WA (by
   obtain⟨a,d5,x,t,h3,h4⟩:=hi
   exact⟨a,d5,x,t,h3,λi c g=>by
    have⟨b,o,e,hl,k⟩:=h4 i c g
    exact⟨b,o,e,Kd hl bm.size,k⟩⟩) hl lE
  rw[KS rfl] at this
  exact this.mono λe f ⟨x,t⟩=>⟨x,(C.o f (cT.th t)).1,d0.th t⟩
 have F:Hid _:=bf.o _ rfl;clear b9 O g9 bd bf av b0 ba C;go_wp2_with fail;refine Calls.mono F.o ?_;rintro e f5 ⟨rfl,bo,bp⟩;clear x0 x1 x2 x3;obtain⟨⟨x0,x1,x2,x3⟩,-⟩:=bY bo;have bq:=Z bp;clear bp bo F;go_wp2_with fail;go_ret;exact⟨rfl,bq.o⟩
theorem mW{x:aH}(h:cr x=0)(a:x.2.2=true):mM x.1:=by obtain⟨c,e,-,-,-,b⟩:=x8 h a;rw[e];exact iD b
theorem rC(B wv xv x y w)(i:dD w)(a:Lib.TabIs prog w "strings.asciiSpace" .u8 Lib.asciiSpaceTab)(d:bi B w wv x)(e:cI B w xv y)(f:B<=w.1.size)(j:cr x=0):s9 wv xv x y w:=by
 have g:=C4 j
 by_cases b:(y.1<1\/7<y.1)\/x.2.2=decide (y.1=6)
 ·exact zv B wv xv x y w d e f b
 have k:y.1=1\/y.1=2\/y.1=3\/y.1=4\/y.1=5\/y.1=6\/y.1=7:=by omega
 have c:y.1≠6->x.2.2=true:=λh=>by
  cases hb:x.2.2 with
  |true=>rfl
  |false=>exact absurd (.inr (by rw[hb,KD h])) b
 rcases k with h|h|h|h|h|h|h
 ·exact kQ B wv xv x y w i a d e f (.inl h) (c (by omega)) g (mW j (c (by omega)))
 ·exact kQ B wv xv x y w i a d e f (.inr (.inl h)) (c (by omega)) g (mW j (c (by omega)))
 ·exact kQ B wv xv x y w i a d e f (.inr (.inr (.inl h))) (c (by omega)) g (mW j (c (by omega)))
 ·exact kQ B wv xv x y w i a d e f (.inr (.inr (.inr (.inl h)))) (c (by omega)) g (mW j (c (by omega)))
 ·exact xD B wv xv x y w d e f h (c (by omega)) g
 ·refine xJ B wv xv x y w i d e f h ?_ g
  cases hb:x.2.2 with
  |false=>rfl
  |true=>exact absurd (.inr (by rw[hb,KS h])) b
 exact kQ B wv xv x y w i a d e f (.inr (.inr (.inr (.inr h)))) (c (by omega)) g (mW j (c (by omega)))
def Gb(W:World)(a:Nat->Value->Prop)(w:World):Prop:=bL W w/\(∀v,a 18 v->bi w.1.size w v kz)/\∀v,a 19 v->bi w.1.size w v kz
theorem Gb.l{W w w'}{c:Nat->Value->Prop}(h:Gb W c w)(a:bL w w'):Gb W c w':=⟨h.1.th a,λv b=>((h.2.1 v b).l a lE).wide a.size,λv b=>((h.2.2 v b).l a lE).wide a.size⟩
theorem Gb.call{W w w'}{d:Nat->Value->Prop}(h:Gb W d w)(f:bL w w')(k:Nat)(b:18≠k)(c:19≠k)(v):Gb W (d9 d k v) w':=by
 have h:=h.l f;refine⟨h.1,λu a=>?_,λu a=>?_⟩
 ·rcases a with a|⟨e,_⟩
  ·exact h.2.1 u a
  exact absurd e b
 rcases a with a|⟨e,_⟩
 ·exact h.2.2 u a
 exact absurd e c
theorem Gb.made{W w w'}{b:Nat->Value->Prop}(h:Gb W b w)(d:bL w w')(k v)(c:bi w'.1.size w' v kz):Gb W (d9 b k v) w':=by
 have h:=h.l d;refine⟨h.1,λu a=>?_,λu a=>?_⟩
 ·rcases a with a|⟨_,rfl⟩
  ·exact h.2.1 u a
  exact c
 rcases a with a|⟨_,rfl⟩
 ·exact h.2.2 u a
 exact c
def JH(v:Value):Prop:=∃a b c d e f g h i u,v=.agg #[.slice a b c,.slice d e f,.slice g h i,.bool u]
theorem Ar{B w v x}(h:bi B w v x):JH v:=by obtain⟨a,b,c,d,f,g,e,-,-⟩:=h.shape;exact⟨_,_,_,_,_,_,_,_,_,_,e⟩
def JW(a:Int)(b:Bool)(k:Nat)(v:Value):Prop:=if k=4 then v=U a else if k=11\/k=14 then v=.bool b else if k=18\/k=19 then JH v else v=.bool true
theorem Gp(we eq k):∃v,JW we eq k v:=by
 unfold JW
 split
 ·exact⟨_,rfl⟩
 split
 ·exact⟨_,rfl⟩
 split
 ·exact⟨_,none,0,0,none,0,0,none,0,0,false,rfl⟩
 exact⟨_,rfl⟩
theorem AF{x:aH}(h:cr x=0):mM x.1:=by
 unfold cr at h
 by_cases b:aB x.2.1=0
 ·rw[Io b] at h
  by_cases c:x.2.2=true/\x.2.1.2≠[]
  ·rw[Io c] at h
   cases h
  rw[iO c] at h
  by_cases a:(ay (wW x)).2=0
  ·rw[Io a] at h
   by_cases d:(ay (wW x)).1=x.1
   ·rw[<-d];exact iD a
   rw[iO d] at h
   cases h
  rw[iO a] at h;exact absurd h a
 rw[iO b] at h;exact absurd h b
theorem Du{x:aH}{y:az}(h:cr x=0):lC x y=aQ x y/\oA x y=bP x y:=by
 have e:lC x y=aQ x y:=by unfold lC;rw[Io h]
 refine⟨e,?_⟩;unfold oA;rw[e]
 by_cases a:aQ x y=0
 ·rw[Io a]
 rw[iO a];unfold bP;rw[iO a]
theorem IX{x:aH}{y:az}{c}{a:Nat->Int}(h:cr x≠0):lC x y=cr x/\oA x y=fg/\kp x c a=cr x/\qu x c a=0:=by
 have b:lC x y=cr x:=by unfold lC;rw[iO h]
 have d:kp x c a=cr x:=by unfold kp;rw[iO h]
 exact⟨b,by unfold oA;rw[b,iO h],d,by unfold qu;rw[d,iO h]⟩
theorem I8(B wv xv vv x y z c)(d:Nat->Int)(w)(he:dD w)(f1:Lib.TabIs prog w "strings.asciiSpace" .u8 Lib.asciiSpaceTab)(hx:bi B w wv x)(hy:cI B w xv y)(hz:bi B w vv z)(hc:wf c)(s:B<=w.1.size)(al:sW x.2.1)(kd:sW z.2.1):
  cL 3 #[wv,xv,vv,U c,jm d] w λe a=>e=.returned (.bool true)/\Below w.1.size w a:=by
 have f2:Hid (∀a,Below w.1.size w a->cL 7 #[] a λe f=>e=.returned (.bool true)/\Below a.1.size a f):=λa h=>yU a (he.l h)
 have cn:Hid (∀a,Below w.1.size w a->cL 4 #[wv,xv] a λe f=>∃I J K L M N O P Q u,e=.returned (.tuple #[.agg #[.slice I J K,.slice L M N,.slice O P Q,.bool u],U (lC x y)])/\bi f.1.size f (.agg #[.slice I J K,.slice L M N,.slice O P Q,.bool u]) (oA x y)/\Below a.1.size a f):=λa h=>by
  refine(Ip B wv xv x y a (he.l h) (hx.l h s) (hy.l h s) (h.u s) al).mono λe f ⟨v,h1,h2,h3⟩=>?_
  obtain⟨I,J,K,L,M,N,O,P,Q,u,rfl⟩:=Ar h2;exact⟨_,_,_,_,_,_,_,_,_,_,h1,h2,h3⟩
 have cp:Hid (∀a,Below w.1.size w a->cL 5 #[wv,U c,.agg #[U (d 0),U (d 1),U (d 2),U (d 3),U (d 4)]] a λe f=>e=.returned (.tuple #[U (qu x c d),U (kp x c d)])/\Below a.1.size a f):=λa h=>vX B wv x c d a (he.l h) (hx.l h s) hc (h.u s) al
 have cs:Hid (∀a,Below w.1.size w a->cL 6 #[wv] a λe f=>e=.returned (U (cr x))/\Below a.1.size a f):=λa h=>py B wv x a (he.l h) (hx.l h s) (h.u s)
 have ao:Hid (∀a,Below w.1.size w a->cL 8 #[wv] a λe f=>e=.returned (U (cr x))/\Below a.1.size a f):=λa h=>nU B wv x a (he.l h) (hx.l h s) (h.u s) al
 have cT:Hid (∀a,Below w.1.size w a->cL 9 #[wv,vv] a λe f=>e=.returned (.bool (decide (x=z)))/\Below a.1.size a f):=λa h=>FE B wv vv x z a (hx.l h s) (hz.l h s) (h.u s)
 have d0:Hid (∀a,Below w.1.size w a->cL 10 #[wv,vv] a λe f=>e=.returned (.bool (decide (x=z)))/\Below a.1.size a f):=λa h=>gU B wv vv x z a (hx.l h s) (hz.l h s) (h.u s)
 have a5:Hid (cr x=0->∀a,Below w.1.size w a->cL 13 #[wv,xv] a λe f=>∃I J K L M N O P Q u,e=.returned (.tuple #[.agg #[.slice I J K,.slice L M N,.slice O P Q,.bool u],U (aQ x y)])/\bi f.1.size f (.agg #[.slice I J K,.slice L M N,.slice O P Q,.bool u]) (bP x y)/\Below a.1.size a f):=λh0 a h=>by
  refine Calls.mono (rC B wv xv x y a (he.l h) (jG f1 h) (hx.l h s) (hy.l h s) (h.u s) h0) λe f ⟨v,h1,h2,h3,_⟩=>?_
  obtain⟨I,J,K,L,M,N,O,P,Q,u,rfl⟩:=Ar h2;exact⟨_,_,_,_,_,_,_,_,_,_,h1,h2,h3⟩
 have HX:Hid (∀a,Below w.1.size w a->bi B a wv x):=λa h=>hx.l h s
 have d5:=Z s;have b5:Hid (cr x≠0->lC x y=cr x/\oA x y=fg/\kp x c d=cr x/\qu x c d=0):=λh=>IX h
 have b7:Hid (cr x=0->lC x y=aQ x y/\oA x y=bP x y):=λh=>Du h
 have ba:Hid (cr x=0->mM x.1):=λh=>AF h
 have bb:Hid (cr x=0->kp x c d=if c<0\/3<c then 5 else if (bW x.1 c).1=true then mQ (bW x.1 c).2.1 d else 6):=λh=>by unfold kp;rw[Io h]
 have r:Hid (qu x c d=if kp x c d=0 then t6 (bW x.1 c).2.1 d else 0):=rfl;obtain⟨ca,cc,sa,sc,ta,tc,rfl,-,-⟩:=hx.shape;obtain⟨pa,pc,rfl,-⟩:=hy.shape;obtain⟨da,dc,ea,ec,fa,fc,rfl,-,-⟩:=hz.shape;have HL:Hid (cr x=0->x.1.length=4):=λh=>(AF h).1
 have⟨nC,fb⟩:=nM (x.1.length)
 rw[<-fb] at cn cp cs ao cT d0 a5 HX HL |-
 clear fb;generalize x.2.1.1.length=nS at*;generalize x.2.1.2.length=nT at*;generalize x.2.2=ux at*;generalize z.1.length=mC at*;generalize z.2.1.1.length=mS at*;generalize z.2.1.2.length=mT at*;generalize z.2.2=uz at*;generalize y.2.2.2.1.length=nP at*;generalize y.2.2.2.2=yd at*;generalize y.2.2.1=yf at*;generalize y.2.1=yc at*;generalize y.1=yk at*;have⟨X,E⟩:=nM ((((w.alloc (.cells #[.slice ca nC cc,.slice sa nS sc,.slice ta nT tc,.bool ux] 27)).alloc (.cells #[U yk,U yc,U yf,.slice pa nP pc,U yd] 32)).alloc (.cells #[.slice da mC dc,.slice ea mS ec,.slice fa mT fc,.bool uz] 27)).alloc (.cells #[U (d 0),U (d 1),U (d 2),U (d 3),U (d 4)] 34));have b0:Below w.1.size w X:=by rw[E];exact(((bR.alloc lE _).alloc (by simp) _).alloc (by simp;omega) _).alloc (by simp;omega) _
 have s0:X.1.size=w.1.size+1+1+1+1:=by rw[E];simp
 have g0:X.1[w.1.size]?=some (.cells #[.slice ca nC cc,.slice sa nS sc,.slice ta nT tc,.bool ux] 27 (0,0)):=by rw[E];exact aS _ (aS _ (aS _ (be _ _ rfl)))
 have g1:X.1[w.1.size+1]?=some (.cells #[U yk,U yc,U yf,.slice pa nP pc,U yd] 32 (0,0)):=by rw[E];exact aS _ (aS _ (be _ _ (by simp only[Kg])))
 have g2:X.1[w.1.size+1+1]?=some (.cells #[.slice da mC dc,.slice ea mS ec,.slice fa mT fc,.bool uz] 27 (0,0)):=by rw[E];exact aS _ (be _ _ (by simp only[Kg]))
 have g3:X.1[w.1.size+1+1+1]?=some (.cells #[U (d 0),U (d 1),U (d 2),U (d 3),U (d 4)] 34 (0,0)):=by rw[E];exact be _ _ (by simp only[Kg])
 have n:Hid (∀a,Below X.1.size X a->a.1[w.1.size]?=some (.cells #[.slice ca nC cc,.slice sa nS sc,.slice ta nT tc,.bool ux] 27 (0,0))/\a.1[w.1.size+1]?=some (.cells #[U yk,U yc,U yf,.slice pa nP pc,U yd] 32 (0,0))/\a.1[w.1.size+1+1]?=some (.cells #[.slice da mC dc,.slice ea mS ec,.slice fa mT fc,.bool uz] 27 (0,0))/\a.1[w.1.size+1+1+1]?=some (.cells #[U (d 0),U (d 1),U (d 2),U (d 3),U (d 4)] 34 (0,0))/\Below w.1.size w a):=λa h=>⟨h.bk g0,h.bk g1,h.bk g2,h.bk g3,b0.th h⟩
 have hG:=Z E;have hH:=Z b0;clear hx hy hz he f1 al E b0 s0 g0 g1 g2 g3 s;show cL 3 #[.agg #[.slice ca nC cc,.slice sa nS sc,.slice ta nT tc,.bool ux],.agg #[U yk,U yc,U yf,.slice pa nP pc,U yd],.agg #[.slice da mC dc,.slice ea mS ec,.slice fa mT fc,.bool uz],U c,.agg #[U (d 0),U (d 1),U (d 2),U (d 3),U (d 4)]] w _;go_enter func3,ntmps3;go_wp2_with fail;rw[<-hG.o];go_at_call 4;refine(cn.o _ hH.o).mono ?_;rintro e w1 ⟨I,J,K,L,M,N,O,P,Q,u1,rfl,fq,b1⟩;have⟨i,br⟩:=nM (w1.alloc (.cells #[.slice I J K,.slice L M N,.slice O P Q,.bool u1] 27));have dv:=bA br;have g4:=hA br;have fv:Below X.1.size X i:=b1.th dv;have m:Hid (∀a,Below i.1.size i a->bi a.1.size a (.agg #[.slice I J K,.slice L M N,.slice O P Q,.bool u1]) (oA x y)/\a.1[w1.1.size]?=some (.cells #[.slice I J K,.slice L M N,.slice O P Q,.bool u1] 27 (0,0))/\Below X.1.size X a):=λa h=>by have h1:=dv.th h;exact⟨(fq.l h1 lE).wide h1.size,h.bl g4,b1.th h1⟩
 have⟨S,G1,G2,F,hI⟩:=n.o w1 b1;obtain⟨⟨x0,x1,x2,x3⟩,-⟩:=bY S;obtain⟨⟨p0,p1,p2,p3,p4⟩⟩:(w1.cell? (pA (w.1.size+1+1+1) 0)=some (U (d 0))/\w1.cell? (pA (w.1.size+1+1+1) 1)=some (U (d 1))/\w1.cell? (pA (w.1.size+1+1+1) 2)=some (U (d 2))/\w1.cell? (pA (w.1.size+1+1+1) 3)=some (U (d 3))/\w1.cell? (pA (w.1.size+1+1+1) 4)=some (U (d 4)))/\True:=⟨⟨J0 F,J1 F,J2 F,J3 F,J4 F⟩,trivial⟩;have l0:w.1.size<w1.1.size:=io S;have l3:w.1.size+1+1+1<w1.1.size:=io F;have hK:Hid (Below w.1.size w i):=(n.o i fv).2.2.2.2;have hL:=Z br;clear fq b1 br dv g4 fv S G1 G2 F hI cn;go_wp2_with fail;rw[<-hL.o];go_at_call 5;refine(cp.o _ hK.o).mono ?_;rintro e w3 ⟨rfl,b3⟩;obtain⟨-,-,fT⟩:=m.o w3 b3;obtain⟨S,-,-,-,g5⟩:=n.o w3 fT;clear x0 x1 x2 x3 p0 p1 p2 p3 p4 l0 l3;obtain⟨⟨x0,x1,x2,x3⟩,-⟩:=bY S;have e0:Hid (Below i.1.size i w3/\Below w.1.size w w3):=⟨b3,g5⟩;clear b3 fT S g5 cp;go_wp2_with fail;go_at_call 6;refine(cs.o _ e0.o.2).mono ?_;rintro e D ⟨rfl,b4⟩;have g6:Below i.1.size i D:=e0.o.1.th b4;have t:Hid (∀q:ax D,Below i.1.size i q.1):=λq=>g6.th q.2
 have a8:Hid (∀a,Below D.1.size D a->Below w.1.size w a):=λa h=>(n.o a (m.o a (g6.th h)).2.2).2.2.2.2
 clear x0 x1 x2 x3 cs b4 e0;have e2:=ax.ne D;have X0:∀q:ax D,q.1.cell? (pA w.1.size 0)=some (.slice ca nC cc):=λq=>ab (n.o q.1 (m.o q.1 (t.o q)).2.2).1 0 rfl
 have X1:∀q:ax D,q.1.cell? (pA w.1.size 1)=some (.slice sa nS sc):=λq=>ab (n.o q.1 (m.o q.1 (t.o q)).2.2).1 1 rfl
 have X2:∀q:ax D,q.1.cell? (pA w.1.size 2)=some (.slice ta nT tc):=λq=>ab (n.o q.1 (m.o q.1 (t.o q)).2.2).1 2 rfl
 have X3:∀q:ax D,q.1.cell? (pA w.1.size 3)=some (.bool ux):=λq=>ab (n.o q.1 (m.o q.1 (t.o q)).2.2).1 3 rfl
 have V0:∀q:ax D,q.1.cell? (pA (w.1.size+1+1) 0)=some (.slice da mC dc):=λq=>ab (n.o q.1 (m.o q.1 (t.o q)).2.2).2.2.1 0 rfl
 have V1:∀q:ax D,q.1.cell? (pA (w.1.size+1+1) 1)=some (.slice ea mS ec):=λq=>ab (n.o q.1 (m.o q.1 (t.o q)).2.2).2.2.1 1 rfl
 have V2:∀q:ax D,q.1.cell? (pA (w.1.size+1+1) 2)=some (.slice fa mT fc):=λq=>ab (n.o q.1 (m.o q.1 (t.o q)).2.2).2.2.1 2 rfl
 have V3:∀q:ax D,q.1.cell? (pA (w.1.size+1+1) 3)=some (.bool uz):=λq=>ab (n.o q.1 (m.o q.1 (t.o q)).2.2).2.2.1 3 rfl
 have T:Hid (∀fs a,Gb D fs a->∃q:ax D,a=q.1):=λfs a h=>⟨⟨a,h.1⟩,rfl⟩
 have⟨we,g7⟩:=nM (cr x)
 rw[<-g7] at ao a5 b5 b7 ba bb HL |-
 clear g7;generalize decide (x=z)=eq at*;generalize lC x y=de at*;generalize kp x c d=ae at*;generalize qu x c d=av at*;go_wp2_with fail;refine iP (λk=>k==0||k==4||k==11||k==14||k==18||k==19||k==20) (Gb D) (JW we eq) (Gp _ _) (by kernel_rfl) (by kernel_rfl) ⟨bR.drew,λ_ h=>h.elim,λ_ h=>h.elim⟩ ?_;refine bw 7 #[] rfl rfl (λa=>by kernel_rfl) (λgs a A l V=>?_) (λv0 hM=>?_)
 ·refine(f2.o a (a8.o _ A.1)).mono ?_;rintro e g ⟨rfl,j⟩;exact⟨_,rfl,rfl,A.call j 0 (by decide) (by decide) _⟩
 go_frame;obtain rfl:v0=.bool true:=hM;iterate 3(refine aP T.o rfl rfl ?_;go_big_quiet_step (fail);refine Km ?_)
 refine bw 8 #[.agg #[.slice ca nC cc,.slice sa nS sc,.slice ta nT tc,.bool ux]] rfl rfl (λa=>by kernel_rfl) (λgs a A l V=>?_) (λv4 hN=>?_)
 ·refine(ao.o a (a8.o _ A.1)).mono ?_;rintro e g ⟨rfl,j⟩;exact⟨_,rfl,rfl,A.call j 4 (by decide) (by decide) _⟩
 go_frame;obtain rfl:v4=U we:=hN;iterate 6(refine aP T.o rfl rfl ?_;go_big_quiet_step (fail);refine Km ?_)
 refine bw 9 #[.agg #[.slice ca nC cc,.slice sa nS sc,.slice ta nT tc,.bool ux],.agg #[.slice da mC dc,.slice ea mS ec,.slice fa mT fc,.bool uz]] rfl rfl (λa=>by kernel_rfl) (λgs a A l V=>?_) (λhO g8=>?_)
 ·refine(cT.o a (a8.o _ A.1)).mono ?_;rintro e g ⟨rfl,j⟩;exact⟨_,rfl,rfl,A.call j 11 (by decide) (by decide) _⟩
 go_frame;obtain rfl:hO=.bool eq:=g8;iterate 2(refine aP T.o rfl rfl ?_;go_big_quiet_step (fail);refine Km ?_)
 refine bw 10 #[.agg #[.slice ca nC cc,.slice sa nS sc,.slice ta nT tc,.bool ux],.agg #[.slice da mC dc,.slice ea mS ec,.slice fa mT fc,.bool uz]] rfl rfl (λa=>by kernel_rfl) (λgs a A l V=>?_) (λhP g9=>?_)
 ·refine(d0.o a (a8.o _ A.1)).mono ?_;rintro e g ⟨rfl,j⟩;exact⟨_,rfl,rfl,A.call j 14 (by decide) (by decide) _⟩
 go_frame;obtain rfl:hP=.bool eq:=g9;iterate 3(refine aP T.o rfl rfl ?_;go_big_quiet_step (fail);refine Km ?_)
 refine bw 11 #[] rfl rfl (λa=>by kernel_rfl) (λgs a A l V=>?_) (λhQ gb=>?_)
 ·refine(Cg a).mono ?_;rintro e g ⟨v,rfl,a9,j⟩;exact⟨_,rfl,Ar a9,A.made j 18 _ a9⟩
 go_frame;obtain⟨q1,q2,q3,q4,q5,q6,q7,q8,q9,q0,rfl⟩:JH hQ:=gb;refine bw 12 #[] rfl rfl (λa=>by kernel_rfl) (λgs a A l V=>?_) (λhR gc=>?_)
 ·refine(Fh a).mono ?_;rintro e g ⟨v,rfl,a9,j⟩;exact⟨_,rfl,Ar a9,A.made j 19 _ a9⟩
 go_frame;obtain⟨r1,r2,r3,r4,r5,r6,r7,r8,r9,r0,rfl⟩:JH hR:=gc;refine bw 10 #[.agg #[.slice q1 q2 q3,.slice q4 q5 q6,.slice q7 q8 q9,.bool q0],.agg #[.slice r1 r2 r3,.slice r4 r5 r6,.slice r7 r8 r9,.bool r0]] rfl rfl (λa=>by kernel_rfl) (λgs a A l V=>?_) (λhS ge=>?_)
 ·refine(gU a.1.size _ _ kz kz a (A.2.1 _ (l 18 _ (.inl (.inr ⟨rfl,rfl⟩)) (au (by kernel_rfl)))) (A.2.2 _ (l 19 _ (.inr ⟨rfl,rfl⟩) (au (by kernel_rfl)))) lE).mono ?_;rintro e g ⟨rfl,j⟩;exact⟨_,rfl,by show _=Value.bool true;simp,A.call j 20 (by decide) (by decide) _⟩
 go_frame;obtain rfl:hS=.bool true:=ge;iterate 2(refine aP T.o rfl rfl ?_;go_big_quiet_step (fail);refine Km ?_)
 refine ei ?_;intro Y gj;have e3:Below D.1.size D Y:=gj.1;have bs:Below i.1.size i Y:=t.o ⟨Y,e3⟩;have⟨bv,gY,gk⟩:=m.o Y bs;obtain⟨S,G1,-,F,e4⟩:=n.o Y gk;have e7:Hid (Below i.1.size i Y/\Below w.1.size w Y):=⟨bs,e4⟩;clear gj T e2 X0 X1 X2 X3 V0 V1 V2 V3 t a8 ao cT d0 f2 gk
 by_cases h0:we=0
 case neg=>
  have⟨d1,d2,d3,d4⟩:=b5.o h0;have hV:Hid (cL 10 #[.agg #[.slice I J K,.slice L M N,.slice O P Q,.bool u1],.agg #[nL,nL,nL,.bool false]] Y λe f=>e=.returned (.bool true)/\Below Y.1.size Y f):=by rw[d2] at bv;have:=gU Y.1.size _ _ fg fg Y bv (ga _ _) lE;rw[KS rfl] at this;exact this
  obtain⟨⟨y0,y1,y2,y3⟩,-⟩:=bY gY;have hq:(we != 0)=true:=by simpa using h0
  subst d1 d3 d4;clear b5 b7 ba bb r a5 HL h0 d2 bv gY S G1 F e4 e3 bs HX;go_wp2_with fail;go_at_call 10;refine hV.o.mono ?_;rintro e w6 ⟨rfl,b6⟩;have hW:Hid (Below w.1.size w w6):=e7.o.2.th b6;clear b6;go_wp2_with fail;go_ret;exact⟨rfl,hW.o⟩
 subst h0;have⟨d1,d2⟩:=b7.o rfl;have gq:=ba.o rfl;have hX:=HL.o rfl;have bx:=bb.o rfl;have cd:Hid (∀a,Below w.1.size w a->cL 13 #[.agg #[.slice ca nC cc,.slice sa nS sc,.slice ta nT tc,.bool ux],.agg #[U yk,U yc,U yf,.slice pa nP pc,U yd]] a λe f=>∃I J K L M N O P Q u,e=.returned (.tuple #[.agg #[.slice I J K,.slice L M N,.slice O P Q,.bool u],U (aQ x y)])/\bi f.1.size f (.agg #[.slice I J K,.slice L M N,.slice O P Q,.bool u]) (bP x y)/\Below a.1.size a f):=a5.o rfl;subst d1;subst hX;rw[d2] at m;have W:=Z bx;have e8:=Z gq;obtain⟨⟨x0,x1,x2,x3⟩,-⟩:=bY S;have⟨y0,y1,y2,y3,y4⟩:=aF G1;clear b5 b7 ba bb a5 HL d2 bv gY S G1 F e4 e3 bs bx gq;generalize aQ x y=fe at*;generalize bP x y=fr at*;go_wp2_with fail;go_at_call 13;refine(cd.o _ e7.o.2).mono ?_;rintro e w6 ⟨b1,m1,k1,b2,m2,k2,b3,m3,k3,u2,rfl,gv,b6⟩;have⟨W7,eb⟩:=nM (w6.alloc (.cells #[.slice b1 m1 k1,.slice b2 m2 k2,.slice b3 m3 k3,.bool u2] 27));have bz:=bA eb;have ed:Below i.1.size i w6:=e7.o.1.th b6;have ee:Below i.1.size i W7:=ed.th bz;obtain⟨-,ef,-⟩:=m.o w6 ed;obtain⟨gz,-,hY⟩:=m.o W7 ee;have gA:=(gv.l bz lE).wide bz.size;have gD:Hid (cL 10 #[.agg #[.slice I J K,.slice L M N,.slice O P Q,.bool u1],.agg #[.slice b1 m1 k1,.slice b2 m2 k2,.slice b3 m3 k3,.bool u2]] W7 λe f=>e=.returned (.bool true)/\Below W7.1.size W7 f):=by have:=gU W7.1.size _ _ fr fr W7 gz gA lE;rw[KS rfl] at this;exact this
 clear x0 x1 x2 x3 y0 y1 y2 y3 y4;obtain⟨⟨y0,y1,y2,y3⟩,-⟩:=bY ef;have ly:w1.1.size<w6.1.size:=io ef;have B7:=Z ee;have gF:=Z eb;clear eb bz ed ee ef gz hY gA gv b6 cd;go_wp2_with fail;rw[<-gF.o];go_at_call 10;refine gD.o.mono ?_;rintro e g ⟨rfl,b8⟩;have eg:Below i.1.size i g:=B7.o.th b8;obtain⟨-,-,gM⟩:=m.o g eg;obtain⟨S,-,-,F,gT⟩:=n.o g gM;obtain⟨⟨x0,x1,x2,x3⟩,-⟩:=bY S;obtain⟨p0,p1,p2,p3,p4⟩:g.cell? (pA (w.1.size+1+1+1) 0)=some (U (d 0))/\g.cell? (pA (w.1.size+1+1+1) 1)=some (U (d 1))/\g.cell? (pA (w.1.size+1+1+1) 2)=some (U (d 2))/\g.cell? (pA (w.1.size+1+1+1) 3)=some (U (d 3))/\g.cell? (pA (w.1.size+1+1+1) 4)=some (U (d 4)):=⟨J0 F,J1 F,J2 F,J3 F,J4 F⟩;have B8:Hid (Below i.1.size i g/\Below w.1.size w g):=⟨eg,gT⟩;clear y0 y1 y2 y3 ly b8 eg gM S F gT gD B7 gF
 by_cases gW:c<0
 ·have ej:Hid (ae=5/\av=0):=by
   have e:ae=5:=by rw[W.o,Io (.inl gW)]
   exact⟨e,by rw[r.o,iO (by rw[e];decide)]⟩
  obtain⟨e5,e6⟩:=ej.o;subst e5 e6;clear W r HX m n;go_wp2_with fail;go_ret;exact⟨rfl,B8.o.2⟩
 by_cases h6:3<c
 ·have ej:Hid (ae=5/\av=0):=by
   have e:ae=5:=by rw[W.o,Io (.inr h6)]
   exact⟨e,by rw[r.o,iO (by rw[e];decide)]⟩
  obtain⟨e5,e6⟩:=ej.o;subst e5 e6;clear W r HX m n;go_wp2_with fail;go_ret;exact⟨rfl,B8.o.2⟩
 obtain⟨ci,rfl⟩:∃ci:Nat,c=(ci:Int):=⟨c.toNat,by omega⟩;have mb:ci<4:=by omega
 have k4:(ci:Int)<4:=by omega
 have k5:(0:Int)<=(ci:Int):=by omega
 obtain⟨G,c0⟩:∃G,x.1[ci]?=some G:=⟨x.1[ci]'(by have:=e8.o.1;omega),by simp⟩;have ek:bW x.1 (ci:Int)=G:=by unfold bW;rw[L3,Kn,c0];rfl
 have R:Hid (ae=if G.1=true then mQ G.2.1 d else 6):=by unfold Hid;rw[W.o,iO (by omega),ek]
 rw[ek] at r;have h7:=e8.o.2 G (Kb c0);obtain⟨cv,sv,tv,ew,hZ,-,-⟩:=HX.o g B8.o.2;simp at ew;obtain⟨rfl,rfl,rfl,-⟩:=ew;obtain⟨_,_,e1,i0,-,h8⟩:=hZ;obtain⟨b,o,e,h9,ha⟩:=h8 ci _ c0;simp at e1;obtain⟨rfl,-,rfl⟩:=e1;subst e;obtain⟨la,lc,mc,md,k0,k1,k2,k3,hg,-⟩:=ha.vals;have k8:4<=cc:=by have:=e8.o.1;omega
 have i1:b<g.1.size:=Kd h9 (B8.o.2.u d5.o)
 have aa:Hid (∀a,Below g.1.size g a->cD B a (.slice la G.2.1.length lc) G.2.1/\a.cell? ⟨b,o+ci*4+1,none⟩=some (.slice la G.2.1.length lc)):=λa h=>⟨hg.l h (B8.o.2.u d5.o),(h.cell (p:=⟨b,o+ci*4+1,none⟩) i1).trans k1⟩
 have el:Hid (wu G):=h7;clear h8 ha hg h7 c0 ek k1 k2 k3 HX W i0 h9 gW h6
 cases iY:G.1 with
 |false=>
  have i2:Hid (ae=6/\av=0):=by
   have e:ae=6:=by rw[R.o,iY];rfl
   exact⟨e,by rw[r.o,iO (by rw[e];decide)]⟩
  obtain⟨e5,e6⟩:=i2.o;subst e5 e6;rw[iY] at k0;clear R r m n aa el iY;go_wp2_with fail;go_ret;exact⟨rfl,B8.o.2⟩
 |true=>
  obtain⟨c4,i3,-⟩:=sj el.o.1 iY;have hf:=(fA.1 c4).2;have H:Hid (ae=eC d):=by unfold Hid;rw[R.o,Io iY,mQ,Io c4]
  have em:Hid (cL 14 #[.agg #[U (d 0),U (d 1),U (d 2),U (d 3),U (d 4)]] g λe f=>e=.returned (U (eC d))/\Below g.1.size g f):=yr (d 0) (d 1) (d 2) (d 3) (d 4) g;have ac:Hid (eC d=0->av=fB d 4 G.2.1):=λh=>by rw[r.o,Io (by rw[H.o];exact h),t6,Io (by rw[mQ,Io c4];exact h)]
  have ad:Hid (eC d≠0->av=0):=λh=>by rw[r.o,iO (by rw[H.o];exact h)]
  have en:Hid (∀a,Below g.1.size g a->cL 15 #[.slice la G.2.1.length lc,.agg #[U (d 0),U (d 1),U (d 2),U (d 3),U (d 4)]] a λe f=>e=.returned (U (fB d 4 G.2.1))/\Below a.1.size a f):=λa h=>EJ B _ G.2.1 d a (aa.o a h).1 (Kl d5.o (h.u B8.o.2.size)) hf
  rw[iY] at k0;clear R r el iY c4 i3 hf;have bx:=H.o;subst bx;generalize fB d 4 G.2.1=af at*;generalize eC d=ck at*;generalize G.2.1.length=hh at*;go_wp2_with fail;go_at_call 14;refine em.o.mono ?_;rintro e w9 ⟨rfl,b9⟩;have hj:Hid (Below w.1.size w w9):=B8.o.2.th b9
  by_cases c5:ck=0
  ·subst c5;have er:=ac.o rfl;subst er;have hk:Below i.1.size i w9:=B8.o.1.th b9
   have C:Hid (∀q:ax w9,Below i.1.size i q.1/\Below g.1.size g q.1):=λq=>⟨hk.th q.2,b9.th q.2⟩
   clear x0 x1 x2 x3 p0 p1 p2 p3 p4 k0 ac ad H em;have e2:=ax.ne w9;have z0:∀q:ax w9,q.1.cell? (pA w.1.size 0)=some (.slice (some ⟨b,o,none⟩) 4 cc):=λq=>ab (n.o q.1 (m.o q.1 (C.o q).1).2.2).1 0 rfl
   have z1:∀q:ax w9,q.1.cell? ⟨b,o+ci*4+1,none⟩=some (.slice la hh lc):=λq=>(aa.o q.1 (C.o q).2).2
   have p0:∀q:ax w9,q.1.cell? (pA (w.1.size+1+1+1) 0)=some (U (d 0)):=λq=>ab (n.o q.1 (m.o q.1 (C.o q).1).2.2).2.2.2.1 0 rfl
   have p1:∀q:ax w9,q.1.cell? (pA (w.1.size+1+1+1) 1)=some (U (d 1)):=λq=>ab (n.o q.1 (m.o q.1 (C.o q).1).2.2).2.2.2.1 1 rfl
   have p2:∀q:ax w9,q.1.cell? (pA (w.1.size+1+1+1) 2)=some (U (d 2)):=λq=>ab (n.o q.1 (m.o q.1 (C.o q).1).2.2).2.2.2.1 2 rfl
   have p3:∀q:ax w9,q.1.cell? (pA (w.1.size+1+1+1) 3)=some (U (d 3)):=λq=>ab (n.o q.1 (m.o q.1 (C.o q).1).2.2).2.2.2.1 3 rfl
   have p4:∀q:ax w9,q.1.cell? (pA (w.1.size+1+1+1) 4)=some (U (d 4)):=λq=>ab (n.o q.1 (m.o q.1 (C.o q).1).2.2).2.2.2.1 4 rfl
   have ce:Hid (∀q:ax w9,cL 15 #[.slice la hh lc,.agg #[U (d 0),U (d 1),U (d 2),U (d 3),U (d 4)]] q.1 λe f=>e=.returned (U av)/\Below q.1.1.size q.1 f):=λq=>en.o q.1 (C.o q).2
   clear b9 hk en aa;go_wp2_with fail;refine aW (by kernel_rfl) (by kernel_rfl) ?_
   repeat(go_big_quiet_step (first
    |(go_at_call 15;exact Calls.l (ce.o _))))
   refine Km ?_;rintro i4 ⟨⟨_,hl⟩,rfl⟩;have hm:Hid (Below w.1.size w i4):=hj.o.th hl;clear z0 z1 p0 p1 p2 p3 p4 e2 ce C hl;go_wp2_with fail;go_ret;exact⟨by simp,hm.o⟩
  have er:=ad.o c5;subst er;have hq:(ck != 0)=true:=by simpa using c5
  clear x0 x1 x2 x3 p0 p1 p2 p3 p4 k0 ac ad H em b9 en aa c5 m n;go_wp2_with fail;go_ret;exact⟨by simp,hj.o⟩
