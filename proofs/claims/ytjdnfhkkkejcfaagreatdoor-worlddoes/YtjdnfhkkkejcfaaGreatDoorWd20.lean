import Derived.Test.YtjdnfhkkkejcfaaGreatDoorWd19
import Derived.Lib.SlBuf
import Derived.Lib.OwnBridge
import Derived.Great.BuildSlice
set_option linter.all false
set_option maxRecDepth 100000
set_option maxHeartbeats 8000000
namespace Go.Proofs.YtjdnfhkkkejcfaaGreatDoor
open Go.RowKit Go.Maps Go.Proofs.Tryz
theorem CJ{p q:aD}(h:aT [p,q]≠0):dN p q=none:=by unfold dN bj;rw[iO h];rfl
theorem B5(n:Nat)(f:n<=4294967281)(w:World):(Instr.makeSlice 28 (U n) (U n)).run prog w=.ok (.slice (sO w.1.size) n n) (w.alloc (.cells (madeCells #[nL,U 0] (n*2)) 131)):=by
 obtain⟨a,b,c,d,e⟩:=jY;have:=MQ (P:=prog) w 28 131 a _ Tryz.underlying28 b c .i64 .i64 n n (by omega) (LH _) (by rw[e];omega) (by omega);rw[d] at this
 simpa [Value.cells] using this
theorem AD(n:Nat)(f:n<=4294967281)(w:World):(Instr.makeSlice 129 (U n) (U n)).run prog w=.ok (.slice (sO w.1.size) n n) (w.alloc (.cells (madeCells #[U 0,U 0,U 0] (n*3)) 134)):=by
 obtain⟨a,b,c,d,e⟩:=mJ;have:=MQ (P:=prog) w 129 134 a _ Tryz.underlying129 b c .i64 .i64 n n (by omega) (LH _) (by rw[e];omega) (by omega);rw[d] at this
 simpa [Value.cells] using this
theorem vl(B g:Nat)(sv cs)(d:Array Value)(w)(h:bG B w sv cs)(x:w.1[g]?=some (.cells d 134 (0,0)))(n:d.size=cs.length*3):
  ∃v,(∀y,(Builtin.copy_ #[129,129] y #[.slice (sO g) cs.length cs.length,sv]).run prog w=.ok (U cs.length) v)/\v.1[g]?=some (.cells (bO cs).toArray 134 (0,0))/\Below g w v/\∀b,b≠g->v.1[b]?=w.1[b]?:=by
 obtain⟨F,p,G,z,H⟩:=mJ;obtain⟨a,I,rfl,J,K,f⟩:=h;have q:Nat.min cs.length cs.length=cs.length:=Nat.min_self _
 cases a with
 |none=>
  have L:cs=[]:=by
   cases cs with
   |nil=>rfl
   |cons r l=>have⟨b,o,e,_⟩:=f 0 r rfl;cases e
  subst L;have A:d=#[]:=LP (by simpa using n);refine⟨w,λy=>?_,by rw[x,A];rfl,Kf _ _,λ_ _=>rfl⟩;simp[Builtin.copy_,KY Tryz.underlying129,Builtin.lenOf,sizeOf,typeInfo,p,Builtin.firstCells,storeCells,goInt]
 |some D=>
  have m:∀j u,(bO cs)[j]?=some u->w.cell? (D.add j)=some u:=by
   cases cs with
   |nil=>intro j u C;simp[bO] at C
   |cons r l=>
    have⟨b,o,e,_,_⟩:=f 0 r rfl
    cases e;intro j u C;rw[eM];refine mj (o:=o) (r :: l) o (λi c n=>?_) j u C;have⟨N,O,e,_,k⟩:=f i c n
    cases e;exact k
  have E:=run_loadCells_list (P:=prog) w D (bO cs) m;rw[ff] at E;have s:=run_storeCells_at prog g 0 134 (bO cs) 0 d w x (by rw[ff,n];omega) (nE cs);have t:(d.toList.take (0+0)++bO cs++d.toList.drop (0+0+(bO cs).length)).toArray=(bO cs).toArray:=by rw[ff,LG (by simp[n])];simp
  rw[t] at s;refine⟨w.setRow g (bO cs).toArray,λy=>?_,setRow_heap w g _ _ _ _ x,⟨rfl,rfl,rfl,by simp[World.setRow],λk Q=>Mx w g k _ (by omega)⟩,λb M=>Mx w g b _ M⟩;simp[Builtin.copy_,KY Tryz.underlying129,Builtin.lenOf,Builtin.firstCells,sizeOf,typeInfo,p,z,q,E,s,goInt]
def qN(L G n:Nat)(c:List aq)(w:World):Prop:=
 ∃b a,w.1[G]?=some (.cells (b++a).toArray 131 (0,0))/\b.length+a.length=n*2/\uN L w b c
theorem qN.cell{L G n rs w}(h:qN L G n rs w)(j:Nat)(d:j<n*2):∃u,w.cell? ⟨G,j,none⟩=some u/\w.frozen? ⟨G,j,none⟩=false:=by obtain⟨c,a,b,e,f⟩:=h;exact⟨(c++a)[j]'(by simp;omega),ab b j (by simp),fZ b _⟩
theorem qN.l{L G n rs w w'}(h:qN L G n rs w)(b:bL w w'):qN L G n rs w':=by obtain⟨d,a,c,e,f⟩:=h;exact⟨d,a,(b.block G (io c)).trans c,e,f.keep (dB.of_below b)⟩
theorem qN.put{L G n rs w}{cv:Value}{r:aq}(h:qN L G n rs w)(x:rs.length<n)(p:wf r.2)(q:∀c∈r.1,wf c.1/\wf c.2.1/\wf c.2.2)(s:w.ownsRow L 134 3 cv r.1.length (bO r.1)):
  qN L G n (rs++[r]) ((w.setCell ⟨G,rs.length*2,none⟩ cv).setCell ⟨G,rs.length*2+1,none⟩ (U r.2)):=by
 obtain⟨t,b,k,d,l⟩:=h;have j:=l.1
 obtain⟨g,i,a,rfl⟩:∃g i a,b=g :: i :: a:=by
  match b,d with
  |[],d=>simp at d;omega
  |[u],d=>simp at d;omega
  |g :: i :: a,_=>exact⟨g,i,a,rfl⟩
 have m:=ap (o:=rs.length*2) (u:=cv) k;have v:=ap (o:=rs.length*2+1) (u:=U r.2) m;have e:dB 134 w (w.setCell ⟨G,rs.length*2,none⟩ cv):=dB.setOther k (by decide);have f:dB 134 (w.setCell ⟨G,rs.length*2,none⟩ cv) ((w.setCell ⟨G,rs.length*2,none⟩ cv).setCell ⟨G,rs.length*2+1,none⟩ (U r.2)):=dB.setOther m (by decide);refine⟨t++[cv,U r.2],a,?_,by simp at d |-;omega,((l.keep e).keep f).snoc p q (eQ (eQ s e) f)⟩;rw[v];congr 2;rw[<-j];apply Array.ext';simp[List.set_append]
theorem qN.done{L G n rs w d}(h:qN L G n rs w)(a:rs.length=n)(f:L<=G)(g:n<=maxLen)(i:wf d):bE L w (.agg #[.slice (sO G) n n,U d]) (rs,d):=by
 obtain⟨j,c,k,o,e⟩:=h;have b:=e.1;have l:w.ownsRow L 131 2 (.slice (sO G) n n) rs.length j:=by refine⟨b,.inr ⟨G,n,_,by rw[a],f,k,by omega,g,by simp;omega,?_⟩⟩;simp;rw[List.take_left' (by omega)]
 have:=wL (m:=n) (d:=d) l e (by omega) i;rw[<-a,L6] at this;rw[<-a];exact this
theorem pH(B pv p w)(hp:aX B w pv p)(hB:B<=w.1.size)(hn:p.1.length<=1000)(a2:∀r∈p.1,r.1.length<=1000):
  cL 108 #[pv] w λe w'=>∃v,e=.returned v/\bE w.1.size w' v p/\bL w w':=by
 obtain⟨q,d⟩:=p;obtain⟨rv,e1,hd,a4⟩:=hp;have a5:=Z λw' (h:bL w w')=>a4.l h hB
 have b4:=Z a2;have Hd:=Z hd;obtain⟨a,c,e3,-,-,-⟩:=a4;simp only at e1 e3 hn;subst e3 e1;clear hd a2;have⟨n,G⟩:=nM (q.length);have HN:=Z G.symm
 rw[<-G] at hn a5 |-
 clear G;have cb:=ai;have f:=λw=>B5 n (by omega) w
 have⟨mc,H⟩:=nM (madeCells #[nL,U 0] (n*2));rw[<-H] at f;have I:=f;have D:mc.size=n*2:=by rw[H,LS]
 clear f H;have⟨y,m⟩:=nM (((w.alloc (.cells #[.slice a n c,U d] 30)).alloc (.cells #[nL,U 0] 30)).alloc (.cells mc 131));have cc:y.1.size=w.1.size+1+1+1:=by rw[m];simp
 have J:bL w y:=by rw[m];exact((bR.alloc lE _).alloc (by simp) _).alloc (by simp;omega) _
 have g0:y.1[w.1.size]?=some (.cells #[.slice a n c,U d] 30 (0,0)):=by rw[m];exact aS _ (aS _ (be _ _ rfl))
 have g1:y.1[w.1.size+1]?=some (.cells #[nL,U 0] 30 (0,0)):=by rw[m];exact aS _ (be _ _ (by simp only[Kg]))
 have g2:y.1[w.1.size+1+1]?=some (.cells mc 131 (0,0)):=by rw[m];exact be _ _ (by simp only[Kg])
 have a6:Hid (qN (w.1.size+1+1) (w.1.size+1+1) n (q.take 0) y):=⟨[],mc.toList,by simpa using g2,by simpa using D,rfl,λu hu=>(by cases hu),λi r hr=>by simp at hr⟩;have b6:=Z λv (h:Below (w.1.size+1+1) y v)=>Q3 (h.bk g0) (h.bk g1) (J.trans (h.mono (by omega)))
 have z0:=J0 g0;have HW:=Z m;clear m g0 g1 g2 D;go_enter func108,ntmps108;go_wp2_with fail;rw[<-HW.o];clear z0 I;go_loopw [14] (λiv wr=>∃k:Nat,k<=n/\iv=U k/\Hid (qN (w.1.size+1+1) (w.1.size+1+1) n (q.take k) wr)/\Hid (Below (w.1.size+1+1) y wr)) (λiv _=>n-(intOf iv).toNat)
 case atStart=>exact⟨0,by omega,rfl,a6,Kf _ _⟩
 case round=>
  obtain⟨k,hk,rfl,X,s⟩:=hrel;have⟨j,b8⟩:=nM (wr);subst b8;have k0:(0:Int)<=(k:Int):=by omega
  obtain⟨gp,Y,z⟩:=b6.o _ s.o;have ck:w.1.size+1+1+1<=j.1.size:=by have:=s.o.size;omega
  by_cases cl:k<n
  ·have k1:(k:Int)<(n:Int):=by omega
   obtain⟨r,A⟩:∃r,q[k]?=some r:=⟨q[k]'(by rw[HN.o];omega),by simp⟩;have b9:=Z (by rw[KN,A];rfl:q.take (k+1)=q.take k++[r]);have a8:=Z (by rw[Kt,HN.o];omega:(q.take k).length=k);have E:=b4.o r (Kb A);obtain⟨_,_,e1,-,-,aa⟩:=a5.o _ z;have⟨b3,o3,e,c0,ba⟩:=aa k r A;simp at e1;obtain⟨rfl,-,-⟩:=e1;subst e;clear aa A;obtain⟨b,K⟩:=r;obtain⟨cv,q0,q1,ad,C⟩:=ba;simp only[] at E;have bb:=Z C.wfs;have⟨W5,l⟩:=nM ((j.alloc (.cells #[cv,U K] 131)).alloc (.cells (madeCells #[U 0,U 0,U 0] (b.length*3)) 134));have bd:=sB l;have M:=bB l;have g5:W5.1[j.1.size]?=some (.cells #[cv,U K] 131 (0,0)):=by rw[l];exact aS _ (be _ _ rfl)
   have c5:W5.1[j.1.size+1]?=some (.cells (madeCells #[U 0,U 0,U 0] (b.length*3)) 134 (0,0)):=by rw[l];exact be _ _ (by simp only[Kg])
   obtain⟨W6,t,c6,N,O⟩:=vl B (j.1.size+1) cv b _ W5 (C.l M (by omega)) c5 (by rw[LS]);have P:W6.1[j.1.size]?=some (.cells #[cv,U K] 131 (0,0)):=(O _ (by omega)).trans g5
   have ae:W6.1.size=j.1.size+1+1:=by
    have h1:=N.size;have h2:W6.1[j.1.size+1+1]?=none:=by rw[O _ (by omega)];exact LZ (by omega)
    have:=Array.getElem?_eq_none_iff.1 h2;omega
   have x:bL j W6:=M.trans (N.mono (by omega));have Q:=Z (X.o.l x);have R:Hid (W6.ownsRow (w.1.size+1+1) 134 3 (.slice (sO (j.1.size+1)) b.length b.length) b.length (bO b)):=⟨by rw[ff],.inr ⟨j.1.size+1,b.length,_,rfl,by omega,c6,Ke _,by rw[ai];omega,by simp[ff],by rw[Ki (by simp[ff])]⟩⟩;have⟨S,o⟩:=nM (W6.setCell (pW j 0) (.slice (sO (j.1.size+1)) b.length b.length));have T:bL j S:=by rw[o];exact x.setCell (p:=pW j 0) lE _
   have g7:S.1[j.1.size]?=some (.cells #[.slice (sO (j.1.size+1)) b.length b.length,U K] 131 (0,0)):=by rw[o,ap P];rfl
   have cs:S.1.size=j.1.size+1+1:=by rw[o];simpa using ae
   have V:Hid (S.ownsRow (w.1.size+1+1) 134 3 (.slice (sO (j.1.size+1)) b.length b.length) b.length (bO b)):=by unfold Hid;rw[o];exact eQ R.o (dB.setOther P (by decide))
   have af:=Z (X.o.l T);have ak:Hid (Below (w.1.size+1+1) y S):=Below.tO s.o T (by omega);obtain⟨a9,c9,bf,-,-⟩:=C.full;subst bf;have bg:=Z ad;simp only[] at q0 q1;have f:=λw=>AD b.length (by omega) w
   have⟨rl,W⟩:=nM (b.length);have al:=Z W.symm;have⟨mk,F⟩:=nM (madeCells #[U 0,U 0,U 0] (b.length*3));rw[<-F] at f l;rw[<-W] at f E q0 l t R V g5 P g7 o;have I:=f;have bk:=Z l;have bm:=Z o;have y0:=J0 P;have y1:=J1 P;have yf:=fZ P 0;have s0:=J0 g5;obtain⟨u0,v0,w0⟩:=Q.o.cell (k*2) (by omega);obtain⟨u1,v1,w1⟩:=Q.o.cell (k*2+1) (by omega);have bo:Hid (qN (w.1.size+1+1) (w.1.size+1+1) n (q.take (k+1)) ((S.setCell ⟨w.1.size+1+1,k*2,none⟩ (.slice (sO (j.1.size+1)) rl rl)).setCell ⟨w.1.size+1+1,k*2+1,none⟩ (U K))/\Below (w.1.size+1+1) y ((S.setCell ⟨w.1.size+1+1,k*2,none⟩ (.slice (sO (j.1.size+1)) rl rl)).setCell ⟨w.1.size+1+1,k*2+1,none⟩ (U K))):=by refine⟨?_,(ak.o.setCell (p:=⟨w.1.size+1+1,k*2,none⟩) lE _).setCell (p:=⟨w.1.size+1+1,k*2+1,none⟩) lE _⟩;have:=af.o.put (cv:=.slice (sO (j.1.size+1)) rl rl) (r:=(b,K)) (by rw[a8.o];omega) bg.o bb.o (by rw[al.o];exact al.o▸V.o);rw[a8.o] at this;rw[b9.o];exact this
   clear bd M g5 c5 c6 N O P ae x Q R V o T g7 af ak l F f W C ad gp Y X s z J;have ao:Hid _:=t;clear t;go_wp2_with fail;rw[<-bk.o,ao.o];clear I s0;go_wp2_with fail;have hN:=bo.o;rw[bm.o] at hN;exact⟨⟨k+1,by omega,by go_num,hN.1,hN.2⟩,by simp[intOf];omega⟩
  have e:k=n:=by omega
  subst e;have HE:=Z (by rw[<-HN.o,L6]:q.take k=q);rw[HE.o] at X;have bq:Hid (bE (w.1.size+1+1) j (.agg #[.slice (sO (w.1.size+1+1)) k k,U d]) (q,d)):=X.o.done HN.o lE (by omega) Hd.o;have k1:¬((k:Int)<(k:Int)):=by omega
  have p0:=J0 gp;have p1:=J1 gp;have pf:=fZ gp 0;have r0:=J0 Y;have r1:=J1 Y;have f0:=fZ Y 0;have f1:=fZ Y 1;have br:=Z z;clear gp Y z X s a6 J;go_wp2_with fail;refine Ka (v:=.agg #[.slice (sO (w.1.size+1+1)) k k,U d]) ?_ rfl ⟨_,rfl,?_,?_⟩
  ·rw[cN rfl];go_simp
  ·refine bE.keep (L:=w.1.size+1+1) ?_ (by omega) (λg _ _=>rfl) lE;repeat(first|exact bq.o|refine bE.put ?_ (.inl (by omega)))
  repeat(first|exact br.o|refine Ky ?_ (by simp) _)
theorem kU(d:Array Int)(n:Nat)(g:∀a b,a<=b->b<n->d[a]! ≤ d[b]!):∀m,m<=n->iJ (Lib.compactUpTo d m)/\∀x,x∈Lib.compactUpTo d m ↔ ∃j,j<m/\d[j]! = x
 |0,_=>⟨List.Pairwise.nil,λx=>⟨λh=>by simp[Lib.compactUpTo] at h,λ⟨j,f,_⟩=>by omega⟩⟩
 |m+1,r=>by
  obtain⟨k,i⟩:=kU d n g m (by omega);rw[Lib.compactUpTo_succ]
  by_cases c:Lib.keeps d m=true
  ·rw[Io c];refine⟨List.pairwise_append.2 ⟨k,List.pairwise_singleton _ _,λa o b l=>?_⟩,λx=>?_⟩
   ·obtain⟨j,f,rfl⟩:=(i a).1 o;rw[KO] at l;subst l
    have p:d[m]! ≠ d[m-1]! := by
     simp[Lib.keeps] at c
     rcases c with h|h
     ·omega
     exact h
    have s:=g j (m-1) (by omega) (by omega);have t:=g (m-1) m (by omega) (by omega);omega
   rw[KB,i,KO];constructor
   ·rintro (⟨j,f,h⟩|h)
    ·exact⟨j,by omega,h⟩
    exact⟨m,by omega,h.symm⟩
   rintro⟨j,f,h⟩
   by_cases e:j=m
   ·subst e;exact .inr h.symm
   exact .inl ⟨j,by omega,h⟩
  rw[iO c,LI];refine⟨k,λx=>?_⟩;rw[i];have q:m≠0/\d[m]! = d[m-1]! := by simp[Lib.keeps] at c;exact c
  constructor
  ·rintro⟨j,f,h⟩;exact⟨j,by omega,h⟩
  rintro⟨j,f,h⟩
  by_cases e:j=m
  ·subst e;exact⟨j-1,by omega,by rw[<-q.2];exact h⟩
  exact⟨j,by omega,h⟩
theorem wP(c:List Int)(h:c.Pairwise (·<=·)):iJ (Lib.compact c)/\∀x,x∈Lib.compact c ↔ x∈c:=by
 have k:∀a b,a<=b->b<c.length->c.toArray[a]! ≤ c.toArray[b]! := by
  intro a b l f;have e:∀i,(g:i<c.length)->c.toArray[i]! = c[i]:=λi g=>by simp[getElem!_pos,g]
  rw[e a (by omega),e b f]
  by_cases m:a=b
  ·subst m;exact LH _
  exact List.pairwise_iff_getElem.1 h a b (by omega) f (by omega)
 have⟨n,o⟩:=kU c.toArray c.length k c.length lE;refine⟨n,λx=>(o x).trans ⟨?_,?_⟩⟩
 ·rintro⟨j,d,rfl⟩;have e:c.toArray[j]! = c[j]:=by simp[getElem!_pos,d]
  rw[e];exact List.getElem_mem _
 intro p;obtain⟨j,d,rfl⟩:=List.getElem_of_mem p;exact⟨j,d,by simp[getElem!_pos,d]⟩
theorem yg(xs:List Int):(xs.mergeSort λx y=>decide (x<=y)).Pairwise (·<=·):=
 (List.pairwise_mergeSort (le:=λx y:Int=>decide (x<=y)) (λa b c=>by simp only[L9];omega) (λa b=>by simp only[Bool.or_eq_true,L9];omega) xs).imp λh=>by simpa using h
def fO(f:Int)(c:aN):List Int:=if c.1=f then (if (c.2.1=1\/c.2.1=2)/\c.2.2<aO f then [c.2.2,c.2.2+1] else [c.2.2]) else []
def ik(f:Int)(cs:List aN):List Int:=0 :: cs.flatMap (fO f)
theorem DB(f)(cs:List aN)(c:aN):ik f (cs++[c])=ik f cs++fO f c:=by simp[ik]
theorem xH(f c):(fO f c).length<=2:=by
 unfold fO
 split
 ·split<;>simp
 simp
theorem sP(f):∀a:List aN,(ik f a).length<=2*a.length+1
 |[]=>by simp[ik]
 |c :: a=>by
  have b:=sP f a;have d:=xH f c
  unfold ik at b |-
  simp only[Kv,KQ,Kj] at b |-
  omega
theorem Ev{ps}(h:gn ps)(f n:Int):n∈ik f (bh ps) ↔ n∈cw ps f:=by
 rw[kI];unfold ik;rw[Kz,Ll];constructor
 ·rintro (rfl|⟨c,b,a⟩)
  ·exact⟨.inl rfl,zQ f⟩
  have e:=(ft (wV h c b)).2.2;unfold fO at a
  split at a
  ·rename_i d;rw[d] at e
   split at a
   ·rename_i g;simp at a
    rcases a with rfl|rfl
    ·exact⟨.inr ⟨c,b,d,.inl rfl⟩,e.2⟩
    exact⟨.inr ⟨c,b,d,.inr ⟨rfl,g.1⟩⟩,by omega⟩
   simp at a;subst a;exact⟨.inr ⟨c,b,d,.inl rfl⟩,e.2⟩
  simp at a
 rintro⟨rfl|⟨c,b,d,a⟩,i⟩
 ·exact .inl rfl
 refine .inr ⟨c,b,?_⟩;unfold fO;rw[Io d]
 rcases a with rfl|⟨rfl,g⟩
 ·split<;>simp
 rw[Io ⟨g,by omega⟩];simp
theorem yi{ps}(h:gn ps)(f):Lib.compact ((ik f (bh ps)).mergeSort λx y=>decide (x<=y))=cw ps f:=by
 obtain⟨a,b⟩:=wP _ (yg (ik f (bh ps)));refine qJ _ _ a (kx ps f) λx=>?_
 rw[b,List.mem_mergeSort,Ev h]
theorem x9(L:List Int):∀b:List (List Int),fz (b++[L])=(fz b).flatMap λx=>L.map λc=>x++[c]
 |[]=>by
  show L.flatMap (λa=>[[a]])=[[]].flatMap λx=>L.map λc=>x++[c]
  simp
  induction L with
  |nil=>rfl
  |cons a L d=>simp[d]
 |M :: b=>by rw[Lg,jw,jw,x9 L b,List.flatMap_assoc];congr 1;funext a;rw[List.map_flatMap,List.flatMap_map];congr 1;funext x;simp
def xV(x:List Int):List Int:=x++List.replicate (5-x.length) 0
def ky(ps:List aD)(k:Nat):List (List Int):=(fz ((lI ps).take k)).map xV
theorem nY:∀ (b:List (List Int)) (x:List Int),x∈fz b->x.length=b.length
 |[],x,h=>by
  have:x=[]:=by simpa [fz] using h
  subst this;rfl
 |L :: b,x,h=>by rw[jw,Ll] at h;obtain⟨a,_,h⟩:=h;obtain⟨y,c,rfl⟩:=Md.1 h;simp[nY b y c]
theorem Hh(x:List Int)(h:x.length<=5):(xV x).length=5:=by unfold xV;simp;omega
theorem GA(x:List Int)(c:Int)(h:x.length<5):(xV x).set x.length c=xV (x++[c]):=by unfold xV;obtain⟨m,a⟩:∃m,5-x.length=m+1:=⟨5-x.length-1,by omega⟩;rw[a,List.set_append_right _ _ lE,Nat.sub_self,List.replicate_succ,List.set_cons_zero];rw[show 5-(x++[c]).length=m by simp;omega];simp
theorem Ey(ps):ky ps 0=[[0,0,0,0,0]]:=rfl
theorem yB(ps)(k:Nat)(c:k<=5):∀x∈ky ps k,x.length=5:=by intro x a;obtain⟨y,b,rfl⟩:=Md.1 a;have:=nY _ y b;exact Hh y (by rw[this,Kt];omega)
theorem zj(ps)(k:Nat)(a:k<5):ky ps (k+1)=(ky ps k).flatMap λx=>(cw ps k).map λc=>x.set k c:=by
 unfold ky;have h:=tf ps k a;rw[KN,h];show (fz ((lI ps).take k++[cw ps k])).map xV=_;rw[x9,List.map_flatMap,List.flatMap_map];rw[List.flatMap_def,List.flatMap_def];congr 1;refine ME λx b=>?_
 have d:x.length=k:=by rw[nY _ x b,Kt,show (lI ps).length=5 from rfl];omega
 rw[List.map_map];refine ME λc _=>?_
 show xV (x++[c])=(xV x).set k c;rw[<-GA x c (by omega),d]
theorem pu(ps):∀k,k<=5->(ky ps k).length=lu ps k
 |0,_=>rfl
 |k+1,h=>by rw[zj ps k (by omega),ij _ (cw ps k).length _ (λa _=>by simp),pu ps k (by omega)];rfl
theorem Fx(ps):ky ps 5=dG ps:=by unfold ky dG;rw[show (lI ps).take 5=lI ps from rfl];refine(ME λx a=>?_).trans (List.map_id _);have:=nY _ x a;unfold xV;rw[this];simp[lI]
theorem xS(B lv ps w)(z:iH B w lv ps)(u:B<=w.1.size):
  cL 250 #[lv] w (rT w (U (bM ps))):=by
 have C:=Z λt (h:bL w t)=>z.l h u
 obtain⟨a,D,rfl,E,F,-⟩:=z;have G:=ai;generalize i:ps.length=f at*;have c:=Z i;clear i;go_enter func250,ntmps250;go_wp2;go_loopw [8] (λv wr=>∃k:Nat,k<=f/\v=U k/\Hid (bM ps=bM (ps.drop k))/\bL w wr) (λv _=>f-(intOf v).toNat)
 case atStart=>exact⟨0,by omega,rfl,rfl,Kf _ _⟩
 case round=>
  obtain⟨k,M,rfl,H,d⟩:=hrel;have⟨I,x⟩:=nM (wr);subst x;have N:(0:Int)<=(k:Int):=by omega
  have g:=d.size
  by_cases J:k<f
  ·have O:(k:Int)<(f:Int):=by omega
   obtain⟨p,n⟩:∃p,ps[k]?=some p:=⟨ps[k]'(by rw[c.o];omega),by simp⟩;have S:=Z (rB ps k p n);obtain⟨_,_,A,-,-,q⟩:=C.o _ d;have⟨b,o,e,K,r⟩:=q k p n;simp at A;obtain⟨rfl,-,-⟩:=A;subst e;clear q;obtain⟨P,Q,R,T,V,s⟩:=r.pol;have j:=Z λt (h:bL I t)=>gZ B _ p t (s.l h (Kl u g)) (Kl u (h.u g))
   clear r s
   by_cases m:aj p=0
   ·rw[m] at j;have y:=Z (by rw[H.o,S.o,Io m]:bM ps=bM (ps.drop (k+1)));clear m S;go_wp2_with (first|(go_at_call 143;go_must (refine(j.o _ (bR.alloc lE _)).mono ?_;rintro e L ⟨rfl,l⟩)));exact⟨⟨k+1,by omega,by go_num,y,Below.tO (d.alloc g _) l (by simp;omega)⟩,by simp[intOf];omega⟩
   have y:=Z (by rw[H.o,S.o,iO m]:bM ps=aj p);have W:(aj p != 0)=true:=by simpa using m
   clear m S;generalize aj p=X at*;go_wp2_with (first|(go_at_call 143;go_must (refine(j.o _ (bR.alloc lE _)).mono ?_;rintro e L ⟨rfl,l⟩)));go_ret;exact⟨by rw[y.o];rfl,Below.tO (d.alloc g _) l (by simp;omega)⟩
  go_wp2;go_ret;exact⟨by rw[H.o,KJ (by rw[c.o];omega)];rfl,d⟩
theorem nk{P:Program}{c:Array Oper}{b:List Oper}{o:Oper}{a:Act}{w:World}{Q:Exit->Act->World->Prop}(f:o.guard=none)(i:TypeId)(x y:Operand)(n:o.op=.store i x y)
  (g:Nat) (p:a.eval x=.pointer (sO g)) (v:Value) (q:a.eval y=v) (r:v.oneCell'=true) (t) (d:Value) (j:w.1[g]?=some (.cells #[d] t (0,0))) (s:(P.info? i).map (·.size)=some 1)
  (h:∀l,l.1[g]?=some (.cells #[v] t (0,0))->w.grownBy l (some g)->wpList P c Q b (a.put o.dst undef) l):wpList P c Q (o :: b) a w:=by
 subst q;refine wpList_store_one f i x y n g p r t d j s (h _ ?_ ?_)
 ·have u:=io j;simp[World.setRow,Array.getElem?_modify,j]
 refine⟨rfl,rfl,rfl,by simp[World.setRow],λk z m=>?_⟩;have:g≠k:=λe=>m (by rw[e])
 simp[World.setRow,Array.getElem?_modify,this]
def Fp(d b e c:Nat)(f:Int)(xs:List Int)(a:Value)(w:World):Prop:=
 w.1[b]?=some (.cells #[U f] 3 (0,0))/\w.1[c]?=some (.cells #[U (aO f)] 3 (0,0))/\
 w.1[e]?=some (.cells #[a] 179 (0,0))/\w.ownsRow d 3 1 a xs.length (jW xs)/\a.ownBlock≠some b/\a.ownBlock≠some c
def Hj(a b c d:Nat)(f:Int)(xs:List Int)(w:World):Prop:=∃e,Fp a b c d f xs e w
theorem Fp.l{B0 bf bc bm f xs vs w w'}(h:Fp B0 bf bc bm f xs vs w)(a:bL w w'):Fp B0 bf bc bm f xs vs w':=by obtain⟨b,c,d,e,g,i⟩:=h;exact⟨(a.block bf (io b)).trans b,(a.block bm (io c)).trans c,(a.block bc (io d)).trans d,aw e a,g,i⟩
theorem Hj.l{B0 bf bc bm f xs w w'}(h:Hj B0 bf bc bm f xs w)(a:bL w w'):Hj B0 bf bc bm f xs w':=by obtain⟨b,c⟩:=h;exact⟨b,c.l a⟩
theorem Fp.put{B0 bf bc bm f xs x}{w i:World}{o p:Value}(h:Fp B0 bf bc bm f xs o w)(q:B0<=bc)(A:B0<=w.1.size)
  (n:w.grownBy i o.ownBlock) (J:i.ownsRow B0 3 1 p (xs.length+1) (jW xs++[U x])) (F:p.ownBlock=o.ownBlock\/∃k,p.ownBlock=some k/\w.1.size<=k):
  i.1[bc]?=some (.cells #[o] 179 (0,0))/\∀j,j.1[bc]?=some (.cells #[p] 179 (0,0))->i.grownBy j (some bc)->Fp B0 bf bc bm f (xs++[x]) p j/\Below B0 w j/\∀ (b:Nat) (a:Array Value) (T:TypeId),T≠3->T≠179->w.1[b]?=some (.cells a T (0,0))->j.1[b]?=some (.cells a T (0,0)):=by
 obtain⟨r,s,t,B,G,H⟩:=h
 have l:i.1[bc]?=some (.cells #[o] 179 (0,0)):=by
  refine(n.block bc (io t) λe=>?_).trans t;have⟨a,u⟩:=cX B bc e.symm;rw[t] at u
  cases u
 have v:i.1[bf]?=some (.cells #[U f] 3 (0,0)):=(n.block bf (io r) λe=>G e.symm).trans r;have y:i.1[bm]?=some (.cells #[U (aO f)] 3 (0,0)):=(n.block bm (io s) λe=>H e.symm).trans s;have K:bf≠bc:=λe=>by subst e;rw[t] at r;cases r
 have L:bm≠bc:=λe=>by subst e;rw[t] at s;cases s
 have M:=n.size;refine⟨l,λj N c=>⟨⟨(c.block bf (io v) λe=>K (KG e)).trans v,(c.block bm (io y) λe=>L (KG e)).trans y,N,?_,?_,?_⟩,?_,?_⟩⟩
 ·have:=bT (w':=j) J λg a _ m=>c.block g (io m) λe=>by
   cases e;rw[l] at m
   cases m
  simpa [jW] using this
 ·rcases F with e|⟨k,e,z⟩
  ·rw[e];exact G
  rw[e];have:=io r;intro h;cases h;omega
 ·rcases F with e|⟨k,e,z⟩
  ·rw[e];exact H
  rw[e];have:=io s;intro h;cases h;omega
 ·exact((Kf B0 w).grown n A λk z=>eh B k z).grown c (by omega) λk z=>by cases z;exact q
 intro b a T C D E
 have d:i.1[b]?=some (.cells a T (0,0)):=by
  refine(n.block b (io E) λe=>?_).trans E;have⟨I,u⟩:=cX B b e.symm;rw[E] at u
  cases u;exact C rfl
 refine(c.block b (io d) λe=>?_).trans d
 cases e;rw[l] at d
 cases d;exact D rfl
theorem Dk(B0 bf bc bm f)(c:aN)(xs w)(M:Hj B0 bf bc bm f xs w)(hc:bS c=0)(u:B0<=bc)(a0:B0<=w.1.size)(hx:xs.length<=13000000000000):
  cL 267 #[Gv c,.pointer (sO bf),.pointer (sO bc),.pointer (sO bm)] w λe w'=>e=.returned (.tuple #[])/\Hj B0 bf bc bm f (xs++fO f c) w'/\Below B0 w w':=by
 obtain⟨b1,y,z,A,B⟩:=E4;have⟨⟨f0,f5⟩,⟨o1,o4⟩,⟨v0,vm⟩⟩:=ft hc;have N:=nq c.1;obtain⟨m,i,v⟩:=c;simp only[] at f0 f5 o1 o4 v0 vm N;have b9:=ai;show cL 267 #[.agg #[U m,U i,U v],.pointer (sO bf),.pointer (sO bc),.pointer (sO bm)] w _;have G:bL w (w.alloc (.cells #[U m,U i,U v] 134)):=bR.alloc lE _;obtain⟨vs,M⟩:=M;have o:=M.l G;have p:Na (w.alloc (.cells #[U m,U i,U v] 134)) w.1.size #[U m,U i,U v] 134:=ah _ _;have a:B0<=(w.alloc (.cells #[U m,U i,U v] 134)).1.size:=by simp;omega
 obtain⟨va,vc,rfl,ba,bb,-⟩:=an M.2.2.2.1;have x0:=J0 p;have x1:=J1 p;have x2:=J2 p;have y0:=J0 o.1;have y1:=J0 o.2.1;have y2:=J0 o.2.2.1;have H:=Z o;have HC:Hid _:=p;have C:=Z (G.mono a0);clear M o p G
 by_cases D:m=f
 ·subst D;have hq:(m != m)=false:=by simp
  have bk:IntKind.i64.wrap (v+1)=v+1:=KA _ (by omega);generalize O:aO m=mf at y1 vm N;have q:=Z O;clear O
  by_cases n:(i=1\/i=2)/\v<mf
  ·have J:Hid (fO m (m,i,v)=[v,v+1]):=by unfold Hid fO;rw[Io rfl,q.o,Io n]
   have a2:=n.2;have b:True:=trivial;have P:(i==1)=decide (i=1):=rfl;clear P
   rcases n.1 with rfl|rfl
   all_goals
    clear n;go_enter func267,ntmps267
    go_wp2_with (first
     |(at_builtin;have _t:=b;go_must (refine gy _ rfl _ _ rfl Tryz.underlying179 y z A B rfl (by decide) B0 _ _ _ rfl _ 1 [U v] rfl _ rfl (by simp) _ bR H.o.2.2.2.1 rfl (by simp[Value.oneCell']) (by omega) (by omega) a ?_;intro v6 w6 d r j k;have g:=Fp.put (x:=v) H.o u a j.o d.o k.o;obtain⟨s,t⟩:=g;obtain⟨b6,c6,Q,R,S,-⟩:=an d.o;subst Q;refine nk rfl _ _ _ rfl bc rfl _ rfl rfl 179 _ s (by kernel_rfl) ?_;intro K E l;have⟨k1,k2,k3⟩:=t K E l;have h:=k3 _ _ _ (by decide) (by decide) HC.o;have t1:=J1 h;have t2:=J2 h;have T:=J0 k1.2.1;rw[q.o] at T;have u2:=J0 E;have F:=k2.size;have L:Hid _:=k1;have V:Hid _:=C.o.trans k2;have K3:Hid (B0<=K.1.size):=Kl a F;clear b k1 k2 k3 t s j d k E l h r F))
     |(at_builtin;go_must (refine gy _ rfl _ _ rfl Tryz.underlying179 y z A B rfl (by decide) B0 _ _ _ rfl _ 1 [U (v+1)] rfl _ rfl (by simp) _ bR L.o.2.2.2.1 rfl (by simp[Value.oneCell']) (by simp;omega) (by simp;omega) K3.o ?_;intro v8 w8 I a3 W X;have g:=Fp.put (x:=v+1) L.o u K3.o W.o I.o X.o;obtain⟨s,t⟩:=g;obtain⟨b8,c8,e8,-⟩:=an I.o;subst e8;refine nk rfl _ _ _ rfl bc rfl _ rfl rfl 179 _ s (by kernel_rfl) ?_;intro w9 h9 Y;obtain⟨m1,m2,-⟩:=t w9 h9 Y;have M1:Hid _:=m1;have M2:Hid _:=V.o.trans m2;clear m1 m2 t s W I X h9 Y a3)))
    go_end0;refine⟨rfl,?_,M2.o⟩;rw[J.o,show xs++[v,v+1]=xs++[v]++[v+1] by simp];exact⟨_,M1.o⟩
  have J:Hid (fO m (m,i,v)=[v]):=by unfold Hid fO;rw[Io rfl,q.o,iO n]
  have b:True:=trivial;have hD:((i=1\/i=2)/\¬v<mf)\/(¬i=1/\¬i=2):=by omega
  clear n
  rcases hD with ⟨hD,a2⟩|⟨ha,hb⟩
  ·rcases hD with rfl|rfl
   all_goals
    go_enter func267,ntmps267
    go_wp2_with (first
     |(at_builtin;have _t:=b;go_must (refine gy _ rfl _ _ rfl Tryz.underlying179 y z A B rfl (by decide) B0 _ _ _ rfl _ 1 [U v] rfl _ rfl (by simp) _ bR H.o.2.2.2.1 rfl (by simp[Value.oneCell']) (by omega) (by omega) a ?_;intro v6 w6 d r j k;have g:=Fp.put (x:=v) H.o u a j.o d.o k.o;obtain⟨s,t⟩:=g;obtain⟨b6,c6,Q,R,S,-⟩:=an d.o;subst Q;refine nk rfl _ _ _ rfl bc rfl _ rfl rfl 179 _ s (by kernel_rfl) ?_;intro K E l;have⟨k1,k2,k3⟩:=t K E l;have h:=k3 _ _ _ (by decide) (by decide) HC.o;have t1:=J1 h;have t2:=J2 h;have T:=J0 k1.2.1;rw[q.o] at T;have L:Hid _:=k1;have V:Hid _:=C.o.trans k2;clear b k1 k2 k3 t s j d k E l h r)))
    go_end0;refine⟨rfl,?_,V.o⟩;rw[J.o];exact⟨_,L.o⟩
  have q1:(i==1)=false:=by simpa using ha
  have q2:(i==2)=false:=by simpa using hb
  clear ha hb;go_enter func267,ntmps267
  go_wp2_with (first
   |(at_builtin;have _t:=b;go_must (refine gy _ rfl _ _ rfl Tryz.underlying179 y z A B rfl (by decide) B0 _ _ _ rfl _ 1 [U v] rfl _ rfl (by simp) _ bR H.o.2.2.2.1 rfl (by simp[Value.oneCell']) (by omega) (by omega) a ?_;intro v6 w6 d r j k;have g:=Fp.put (x:=v) H.o u a j.o d.o k.o;obtain⟨s,t⟩:=g;obtain⟨b6,c6,Q,R,S,-⟩:=an d.o;subst Q;refine nk rfl _ _ _ rfl bc rfl _ rfl rfl 179 _ s (by kernel_rfl) ?_;intro K E l;have⟨k1,k2,k3⟩:=t K E l;have h:=k3 _ _ _ (by decide) (by decide) HC.o;have t1:=J1 h;have t2:=J2 h;have T:=J0 k1.2.1;rw[q.o] at T;have L:Hid _:=k1;have V:Hid _:=C.o.trans k2;clear b k1 k2 k3 t s j d k E l h r)))
  go_end0;refine⟨rfl,?_,V.o⟩;rw[J.o];exact⟨_,L.o⟩
 have hq:(m != f)=true:=by simpa using D
 have J:Hid (fO f (m,i,v)=[]):=by unfold Hid fO;rw[iO D]
 clear D;go_enter func267,ntmps267;go_wp2;refine Ka (results_none rfl _ _ _) rfl ?_;refine⟨rfl,?_,C.o⟩;rw[J.o,LI];exact⟨_,H.o⟩
