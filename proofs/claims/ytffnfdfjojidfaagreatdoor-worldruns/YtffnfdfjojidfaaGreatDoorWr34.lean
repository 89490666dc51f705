import Derived.Test.YtffnfdfjojidfaaGreatDoorWr33
set_option linter.all false
set_option maxRecDepth 100000
set_option maxHeartbeats 8000000
namespace Go.Proofs.YtffnfdfjojidfaaGreatDoor
open Go.RowKit Go.Maps Go.Proofs.Tryz
def km(d:bQ):Int:=aB (d.1++d.2,[])
def p6(d:bQ):bQ:=if km d=0 then (d.1++d.2,[]) else ([],[])
theorem oH(B w):cJ B w (.agg #[nL,nL]) ([],[]):=
 ⟨_,_,rfl,⟨none,0,rfl,Ke _,Ks _,λi b a=>by simp at a⟩,⟨none,0,rfl,Ke _,Ks _,λi b a=>by simp at a⟩⟩
theorem ip(B w):aI B w nL []:=⟨none,0,rfl,Ke _,Ks _,λi b a=>by simp at a⟩
theorem ic{w:World}{k:Nat}{x y u v:Value}{T}(h:w.1[k]?=some (.cells #[x,y] T (0,0))):((w.setCell (pA k 0) u).setCell (pA k 1) v).1[k]?=some (.cells #[u,v] T (0,0))/\iE k w ((w.setCell (pA k 0) u).setCell (pA k 1) v)/\((w.setCell (pA k 0) u).setCell (pA k 1) v).1.size=w.1.size:=by refine⟨?_,λg a=>(Kc _ _ _ _ a).trans (Kc _ _ _ _ a),by simp⟩;rw[ap (ap h)];rfl
theorem Dg(B v d w)(he:dD w)(hd:cJ B w v d)(hB:B<=w.1.size)(h1:d.1.length<=60000)(h2:d.2.length<=60000):
  cL 38 #[v] w λe L=>∃dv,e=.returned (.tuple #[dv,U (km d)])/\cJ L.1.size L dv (p6 d)/\bL w L:=by
 obtain⟨sv,tv,rfl,hs,ht⟩:=hd;obtain⟨s,t⟩:=d;simp only[] at hs ht h1 h2;have W:=Z λL (h:bL w L)=>Q2 (hs.l h hB) (ht.l h hB)
 have HE:=Z λL (h:bL w L)=>he.l h
 obtain⟨a,c,e1,ae,af,-⟩:=hs;obtain⟨b,M,e2,ak,X,-⟩:=ht;subst e1 e2;have⟨R,hR⟩:=nM (s++t);have j:Hid (km (s,t)=aB (R,[])/\p6 (s,t)=if aB (R,[])=0 then (R,[]) else ([],[])):=by unfold Hid p6 km;rw[hR];exact⟨rfl,rfl⟩
 have⟨r,g⟩:=nM (((w.alloc (.cells #[.slice a s.length c,.slice b t.length M] 25)).alloc (.cells #[nL,nL] 25)).alloc (.cells #[.slice a s.length c,.slice b t.length M] 23));have f:bL w r:=by rw[g];exact((bR.alloc lE _).alloc (by simp) _).alloc (by simp;omega) _
 have bg:r.1.size=w.1.size+1+1+1:=by rw[g];simp
 have Y:r.1[w.1.size]?=some (.cells #[.slice a s.length c,.slice b t.length M] 25 (0,0)):=by rw[g,Kq _ _ _ (by simp;omega),Kq _ _ _ (by simp)];exact ah _ _
 have a0:r.1[w.1.size+1]?=some (.cells #[nL,nL] 25 (0,0)):=by have:=ah (w.alloc (.cells #[.slice a s.length c,.slice b t.length M] 25)) (.cells #[nL,nL] 25);rw[Kg] at this;rw[g,Kq _ _ _ (by simp)];exact this
 have N:r.1[w.1.size+1+1]?=some (.cells #[.slice a s.length c,.slice b t.length M] 23 (0,0)):=by have:=ah ((w.alloc (.cells #[.slice a s.length c,.slice b t.length M] 25)).alloc (.cells #[nL,nL] 25)) (.cells #[.slice a s.length c,.slice b t.length M] 23);rw[Kg,Kg] at this;rw[g];exact this
 have a1:Hid (cL 49 #[.slice (sO (w.1.size+1+1)) 2 2] r λe x=>∃v,e=.returned v/\aI x.1.size x v R/\bL r x):=by have⟨b0,b1⟩:=W.o r f;refine(pq B _ _ s t _ r b0 b1 (by omega) (by omega) (J0 N) (J1 N) (by omega)).mono ?_;rintro e x ⟨v,rfl,ho,ao⟩;exact⟨v,rfl,by rw[hR];exact pk ho,ao⟩
 have y:=Z g;have z:Hid _:=Y;have a2:Hid _:=a0;have a3:Hid _:=f;have⟨sn,a4⟩:=nM (s.length);have⟨tn,a5⟩:=nM (t.length)
 rw[<-a4] at y z h1 |-
 rw[<-a5] at y z h2 |-
 clear a4 a5 hR g Y a0 N f W ae ak af X he;go_enter func38,ntmps38;go_wp2_with fail;rw[<-y.o];refine Calls.mono a1.o ?_;rintro e w1 ⟨cv,rfl,O,f⟩;have A:=f.bk z.o;have a6:=f.bk a2.o;have bq:=f.size;have H:=a3.o.th f;obtain⟨C,D,ec,-,-,-⟩:=id O;have⟨E,a7⟩:=nM (R.length);rw[<-a7] at ec;subst ec;clear a7;have⟨y0,y1,f0,f1⟩:=ag A;have⟨k0,P,V⟩:=ic (u:=.slice C E D) (v:=nL) A;have⟨I,F⟩:=nM ((w1.setCell (pW w 0) (.slice C E D)).setCell (pW w 1) nL);have k:bL w I:=by rw[F];exact H.s2 lE
 rw[<-F] at k0 P V;have l:aI I.1.size I (.slice C E D) R:=by rw[V];exact O.box P (gw.of A)
 have J:I.1[w.1.size+1]?=some (.cells #[nL,nL] 25 (0,0)):=(P _ (by omega)).trans a6;have Q:Hid _:=qy I.1.size (.agg #[.slice C E D,nL]) (R,[]) I (HE.o I k) ⟨_,_,rfl,l,ip _ _⟩ lE;have S:=Z F;have T:Hid _:=k0;have m:=Z l;have n:Hid _:=J;have o:Hid _:=k;generalize aB (R,[])=de at*;have b2:w.1.size+1<I.1.size:=by omega
 clear O f A a6 H k0 P V F k l J y z a2 a3 a1 HE;go_wp2_with fail;rw[<-S.o];refine Calls.mono Q.o ?_;rintro e w3 ⟨rfl,i⟩;have g0:=i.bk T.o;have g1:=(i.block _ b2).trans n.o;have p:=o.o.th i;have q:=(m.o.l i lE).wide i.size;obtain⟨z0,z1,-,-⟩:=ag g0;have⟨x0,x1,br,bs⟩:=ag g1;have K:Hid _:=p
 by_cases h0:de=0
 ·subst h0;have⟨k0,P,V⟩:=ic (u:=.slice C E D) (v:=nL) g1;have HF:Hid (cJ ((w3.setCell (pA (w.1.size+1) 0) (.slice C E D)).setCell (pA (w.1.size+1) 1) nL).1.size ((w3.setCell (pA (w.1.size+1) 0) (.slice C E D)).setCell (pA (w.1.size+1) 1) nL) (.agg #[.slice C E D,nL]) (p6 (s,t))):=by unfold Hid;rw[j.o.2,Io rfl,V];exact⟨_,_,rfl,q.box P (gw.of g1),ip _ _⟩
  have G:=Z j.o.1;clear k0 P V g0 g1 p i q j T m n o Q S;go_wp2_with fail;refine Ka (v:=.tuple #[.agg #[.slice C E D,nL],U 0]) ?_ rfl ⟨_,by rw[G.o],HF.o,?_⟩
  ·rw[K8 rfl];go_simp
  exact K.o.s2 (by show w.1.size<=w.1.size+1;omega)
 have G:=Z2 j.o.1 (by rw[j.o.2,iO h0]:p6 (s,t)=([],[]));have hq:(de != 0)=true:=by simpa using h0
 clear g0 g1 p i q j T m n o Q S h0;go_wp2_with fail;refine Ka (v:=.tuple #[.agg #[nL,nL],U de]) ?_ rfl ⟨_,by rw[G.o.1],by rw[G.o.2];exact oH _ _,?_⟩
 ·rw[K8 rfl];go_simp
 exact K.o.s2 (by show w.1.size<=w.1.size+1;omega)
theorem BK{n:Int}(h:0<=n/\n<=3):(Lib.itoa n).length<=4:=by unfold Lib.itoa;rw[iO (by omega)];have:=jS n.toNat;omega
theorem Gc(k:Nat):(kN.getD k []).length<=5:=by
 match k with
 |0=>decide
 |1=>decide
 |2=>decide
 |3=>decide
 |k+4=>simp[kN]
theorem uZ(r):(fP r).length<=100000000:=by
 unfold fP
 split
 ·rename_i h;unfold aZ at h
  split at h
  ·cases h
  split at h
  ·cases h
  rename_i b
  split at h
  ·cases h
  have c:=BK (n:=r.2.1) (by omega);have d:=BK (n:=r.2.2.1) (by omega);have e:=Gc (r.1-1).toNat;unfold aU
  split at h
  ·have a:=jF h;have f:=iT r.2.2.2.1 a.2.2;have g:=jM r.2.2.2.2;have i:(cW r.2.2.2).length<=96000005:=by unfold cW;rw[Kj];omega
   rw[iO (by omega),iO (by omega)];simp only[Kj,Kv];omega
  split
  ·simp only[Kj,Kv];omega
  rw[Io (by omega)];simp only[Kj,Kv,Lf];omega
 exact Ks _
def lz(d:bQ)(r:az):Int:=if aZ r=0 then (if 60000<d.1.length+d.2.length+(fP r).length+1 then 2 else 0) else aZ r
def gf(d:bQ)(r:az):bQ:=if lz d r=0 then (d.1,d.2++(fP r++[10])) else ([],[])
theorem wB(s:ByteArray)(w:World)(f:s.size<=140737488355328):∃a c,(convert 9 23 (.string s)).run prog w=.ok (.slice (sO w.1.size) s.size a) c/\aI c.1.size c (.slice (sO w.1.size) s.size a) s.1.1/\bL w c:=by
 refine⟨_,_,Lib.run_convert_string_bytes w 9 23 5 s Tryz.underlying9 Tryz.underlying23 Tryz.underlying5,?_,?_⟩
 ·refine⟨some (pW w 0),_,by rw[<-KR],?_,?_,λi b d=>?_⟩
  ·rw[<-KR];exact grownCap_ge w _ _ _
  ·exact Mm w _ 0 _ (by rw[ai];omega)
  refine⟨w.1.size,0,rfl,by rw[Lib.bytesWorld_size];omega,?_⟩;have e:i<s.size:=by rw[KR];exact(K9.1 d).1
  rw[Kp,Lib.bytesWorld_cell w _ s i e];simp[List.getD,d]
 unfold Lib.bytesWorld;exact Lib.below_freeze (bR.drew.alloc lE _) (p:=⟨w.1.size,_,none⟩) lE _
structure DF (W:World) (tv:Value) (X R:Bs) (fs:Nat->Value->Prop) (w:World):Prop where
 below:bL W w
 row6:∀u,fs 6 u->aI w.1.size w u X
 lit7:∀u,fs 7 u->∃v,aI w.1.size w v X/\A2 w u tv v
 row8:∀u,fs 8 u->aI w.1.size w u R
theorem DF.l{W w w' tv X R}{c:Nat->Value->Prop}(h:DF W tv X R c w)(a:bL w w'):DF W tv X R c w':=
 ⟨h.below.th a,λu b=>((h.row6 u b).l a lE).wide a.size,λu b=>by
  have⟨v,d,e⟩:=h.lit7 u b
  exact⟨v,(d.l a lE).wide a.size,e.l a⟩,λu b=>((h.row8 u b).l a lE).wide a.size⟩
theorem DF.put6{W w tv X R}{b:Nat->Value->Prop}(h:DF W tv X R b w)(v)(c:aI w.1.size w v X):DF W tv X R (d9 b 6 v) w:=
 ⟨h.below,λu a=>by
  rcases a with a|⟨_,rfl⟩
  ·exact h.row6 u a
  exact c,λu a=>h.lit7 u (dj a (by decide)),λu a=>h.row8 u (dj a (by decide))⟩
theorem DF.put7{W w tv X R}{c:Nat->Value->Prop}(h:DF W tv X R c w)(v b:Value)(d:c 6 b)(e:A2 w v tv b):DF W tv X R (d9 c 7 v) w:=
 ⟨h.below,λu a=>h.row6 u (dj a (by decide)),λu a=>by
  rcases a with a|⟨_,rfl⟩
  ·exact h.lit7 u a
  exact⟨b,h.row6 b d,e⟩,λu a=>h.row8 u (dj a (by decide))⟩
theorem DF.put8{W w tv X R}{b:Nat->Value->Prop}(h:DF W tv X R b w)(v)(c:aI w.1.size w v R):DF W tv X R (d9 b 8 v) w:=
 ⟨h.below,λu a=>h.row6 u (dj a (by decide)),λu a=>h.lit7 u (dj a (by decide)),λu a=>by
  rcases a with a|⟨_,rfl⟩
  ·exact h.row8 u a
  exact c⟩
def zZ(c:Nat)(W:World)(sv tv:Value)(X R:Bs)(a:Nat->Value->Prop)(w:World):Prop:=
 ((∀u,¬a 10 u)/\DF W tv X R a w)\/((∃u,a 10 u)/\(∃u,a 6 u)/\(∃u,a 7 u)/\(∃u,a 8 u)/\∃b d,w=(b.setCell (pA c 0) sv).setCell (pA c 1) d/\aI b.1.size b d R/\bL W b)
theorem zZ.start(bo W sv tv X R):zZ bo W sv tv X R (λ_ _=>False) W.drew:=
 .inl ⟨λ_ h=>h,bR.drew,λ_ h=>h.elim,λ_ h=>h.elim,λ_ h=>h.elim⟩
theorem zZ.ahead{bo W w sv tv X R}{f:Nat->Value->Prop}(h:zZ bo W sv tv X R f w){k:Nat}(g:k=6\/k=7\/k=8\/k=10)(e:∀v,¬f k v):(∀u,¬f 10 u)/\DF W tv X R f w:=by
 rcases h with h|⟨⟨a,i⟩,⟨b,j⟩,⟨c,l⟩,⟨d,m⟩,_⟩
 ·exact h
 rcases g with rfl|rfl|rfl|rfl
 ·exact absurd j (e _)
 ·exact absurd l (e _)
 ·exact absurd m (e _)
 exact absurd i (e _)
theorem zZ.of{bo W w sv tv X R}{a:Nat->Value->Prop}{k:Nat}{v}(b:∀u,¬a 10 u)(c:k≠10)(h:DF W tv X R (d9 a k v) w):zZ bo W sv tv X R (d9 a k v) w:=
 .inl ⟨λu d=>b u (dj d (LQ c)),h⟩
theorem zZ.stored{bo W w sv tv X R}{a:Nat->Value->Prop}{e f b:Value}(h:zZ bo W sv tv X R a w)(c:∀v,¬a 10 v)(g:a 6 e)(i:a 7 f)(d:a 8 b):bL W w/\zZ bo W sv tv X R (d9 a 10 undef) ((w.setCell (pA bo 0) sv).setCell (pA bo 1) b):=by have⟨_,h⟩:=h.ahead (.inr (.inr (.inr rfl))) c;exact⟨h.below,.inr ⟨⟨_,.inr ⟨rfl,rfl⟩⟩,⟨_,.inl g⟩,⟨_,.inl i⟩,⟨_,.inl d⟩,w,b,rfl,h.row8 b d,h.below⟩⟩
theorem zZ.done{B bo W w sv tv X R s}{k:Nat->Value->Prop}{i:Value}(h:zZ bo W sv tv X R k w)(j:k 10 i){a b n c m d T}(e:W.1[bo]?=some (.cells #[.slice a n c,.slice b m d] T (0,0)))(t:aI B W sv s)(l:B<=W.1.size):∃f,w.1[bo]?=some (.cells #[sv,f] T (0,0))/\cJ w.1.size w (.agg #[sv,f]) (s,R)/\∀L,L<=bo->L<=W.1.size->Below L W w:=by
 rcases h with ⟨h,_⟩|⟨_,_,_,_,C,f,rfl,x,hA⟩
 ·exact absurd j (h _)
 have g:=(hA.block bo (io e)).trans e;have⟨y,o,z⟩:=ic (u:=sv) (v:=f) g;have q:=gw.of g;refine⟨f,y,?_,λL r A=>((hA.mono A).setCell (p:=pA bo 0) r _).setCell (p:=pA bo 1) r _⟩;rw[z];exact⟨_,_,rfl,((t.l hA l).wide (hA.u l)).box o q,x.box o q⟩
theorem zZ.cells{d b:Nat}{W w sv tv X R}{i:Nat->Value->Prop}(h:zZ d W sv tv X R i w){e f:Value}{T}{g:Nat × Nat}(a:W.1[b]?=some (.cells #[e,f] T g))(c:b≠d):w.1[b]?=some (.cells #[e,f] T g):=by
 rcases h with ⟨_,h⟩|⟨_,_,_,_,j,k,rfl,l,hA⟩
 ·exact(h.below.block b (io a)).trans a
 exact((Kc _ _ _ _ c).trans (Kc _ _ _ _ c)).trans ((hA.block b (io a)).trans a)
section
theorem DH(l m:Bs):dU l++dU m=dU (l++m):=by apply ByteArray.ext;rw[ByteArray.data_append];simp[dU]
theorem lP(l m:Bs)(h:l.length+m.length<=9223372036854775807)(w:World):(Op.stringOp .add (dU l) (dU m)).run prog w=.ok (.string (dU (l++m))) w:=by rw[run_string_add_sum w _ _ (by rw[ph,ph];exact h),DH]
theorem oI{a:Act}{o:Oper}{l m}(x y:Operand)(iY:o.op=.binOp .add 9 x y 9)(c:a.eval x=.string (dU l))(d:a.eval y=.string (dU m))(h:l.length+m.length<=9223372036854775807)(w:World):(execOp a.eval o).run prog w=.ok (.value (.string (dU (l++m)))) w:=by have b:=lP l m h w;unfold execOp;rw[iY];simp only[c,d];go_simp
theorem Gw(w:World)(a:Lib.TabIs prog w "strings.asciiSpace" .u8 Lib.asciiSpaceTab):
  cL 128 #[.string ⟨#[107,105,108,108,32,116,114,97,112,32,102,97,105,108,32,108,111,103,32,97,108,108,111,119]⟩] w λe c=>e=.returned (.slice (sO w.1.size) 5 5)/\c=w.alloc (.cells vC 9):=
 Tryz.strings_Fields_laid ⟨#[107,105,108,108,32,116,114,97,112,32,102,97,105,108,32,108,111,103,32,97,108,108,111,119]⟩ w (by decide) (λj b h=>(by decide:∀b∈([107,105,108,108,32,116,114,97,112,32,102,97,105,108,32,108,111,103,32,97,108,108,111,119]:Bs),b.toNat<128) b (Kb h)) a
theorem GB(w:World)(a:Lib.TabIs prog w "strings.asciiSpace" .u8 Lib.asciiSpaceTab):
  cL 128 #[.string ⟨#[110,114,32,107,105,110,100,32,97,32,98,32,99]⟩] w λe c=>e=.returned (.slice (sO w.1.size) 5 5)/\c=w.alloc (.cells fC 9):=
 Tryz.strings_Fields_laid ⟨#[110,114,32,107,105,110,100,32,97,32,98,32,99]⟩ w (by decide) (λj b h=>(by decide:∀b∈([110,114,32,107,105,110,100,32,97,32,98,32,99]:Bs),b.toNat<128) b (Kb h)) a
theorem Hy(o:Int)(h:1<=o/\o<=4)(w:World):(Instr.sliceAt 9 (.string ⟨#[63,61,33,60,62]⟩) (some (U o)) (some (U (o+1))) none).run prog w=.ok (.string (dU [gl o])) w:=by
 have:o=1\/o=2\/o=3\/o=4:=by omega
 rcases this with rfl|rfl|rfl|rfl
 ·simp[go_sem,Tryz.underlying9];rfl
 ·simp[go_sem,Tryz.underlying9];rfl
 ·simp[go_sem,Tryz.underlying9];rfl
 simp[go_sem,Tryz.underlying9];rfl
theorem dT.below{b B cs w w'}(h:dT b cs w)(a:Below B w w')(c:b<B):dT b cs w':=λj u d=>(a.cell (p:=⟨b,j,none⟩) c).trans (h j u d)
theorem Bp{b i:Nat}{w}(h:dT b vC w)(a:i<5):w.cell? ⟨b,i,none⟩=some (.string (dU (d7 (i:Int)))):=by have:=h i _ (GH a);unfold d7;rw[L3];exact this
theorem Gu{b i:Nat}{w}(h:dT b fC w)(a:i<5):w.cell? ⟨b,i,none⟩=some (.string (dU (fK (i:Int)))):=by have:=h i _ (IQ a);unfold fK;rw[L3];exact this
end
section
open Go.RowKit Go.Maps Go.Proofs.Tryz
def K0(W:World)(a:Nat->Value->Prop)(w':World):Prop:=bL W w'
def K6(a:Int)(k:Nat)(v:Value):Prop:=v=.string (dU (Lib.itoa a))
theorem Hw(num k):∃v,K6 num k v:=⟨_,rfl⟩
theorem AQ(a:List aq)(h:∀r∈a,bH r=0)(e:a.length<=120)(i:Nat):((a.take i).flatMap ct).length<=96000000:=by
 have b:=iT (a.take i) λr c=>h r (KZ c)
 have d:(a.take i).length<=120:=by rw[Kt];omega
 exact Kl b (Lz 800000 d)
theorem EA(cs:List aN)(h:∀c∈cs,bS c=0)(e:cs.length<=10)(i:Nat):((cs.take i).flatMap cq).length<=700000:=by
 have a:=jQ (cs.take i) λc b=>h c (KZ b)
 have d:(cs.take i).length<=10:=by rw[Kt];omega
 exact Kl a (Lz 70000 d)
theorem wy(B0 pv p w)(he:dD w)(ba:Lib.TabIs prog w "strings.asciiSpace" .u8 Lib.asciiSpaceTab)(hp:aX B0 w pv p)(em:B0<=w.1.size)(bb:aj p=0):
  cL 100 #[pv] w (rT w (.string (dU (cW p)))):=by
 obtain⟨x,d⟩:=p;have⟨a9,hd,P⟩:=jF bb;obtain⟨rv,rfl,_,a,Q,rfl,ca,en,aa⟩:=hp;simp only[] at a9 hd P ca aa;have HT:Hid (cW (x,d)=x.flatMap ct++d7 d):=rfl;have HE:=Z λg (h:bL w g)=>Q2 (he.l h) (jG ba h)
 have HL:=Z (AQ x P a9);have cc:=Z aa;have cd:=Z P;obtain⟨E,rfl⟩:∃i:Nat,d=i:=⟨d.toNat,by omega⟩;have ce:E<5:=by omega
 clear he ba aa P bb hd a9;show cL 100 #[.agg #[.slice a x.length Q,U E]] w _;generalize hn:x.length=n at*;have bd:=Z hn;clear hn;have es:=ai;have⟨W0,F⟩:=nM (w.alloc (.cells #[.slice a n Q,U E] 30));have ad:=bA F;have ae:=sA F;have bg:Na W0 w.1.size #[.slice a n Q,U E] 30:=by rw[F];exact(Kr w _).1
 have⟨W1,y⟩:=nM (W0.alloc (.cells vC 9));have⟨W2,A⟩:=nM (W1.alloc (.cells fC 9));have G:=bA y;have s:=bA A;have af:W1.1.size=w.1.size+2:=by rw[y];simp;omega
 have et:W2.1.size=w.1.size+3:=by rw[A];simp;omega
 have bk:dT (w.1.size+1) vC W2:=by have:=dT.made W0 vC 9;rw[<-y,ae] at this;exact this.below s (by omega)
 have bm:dT (w.1.size+2) fC W2:=by have:=dT.made W1 fC 9;rw[<-A,af] at this;exact this
 have H:bL w W1:=ad.trans (G.mono (by omega));have a5:bL w W2:=H.trans (s.mono (by omega));have ak:Na W2 w.1.size #[.slice a n Q,U E] 30:=(s.block _ (by omega)).trans (G.bk bg);have bo:Hid _:=Gw W0 (HE.o W0 ad).2;have bp:Hid _:=GB W1 (HE.o W1 H).2;have cf:=Z λg (h:Below (w.1.size+3) W2 g)=>Q4 (bk.below h (by omega)) (bm.below h (by omega)) (h.bk ak) (a5.trans (h.mono (by omega)))
 have⟨x0,x1,_,_⟩:=ag ak;have eu:=Z y;have ev:=Z A;rw[ae,<-y] at bo;rw[af,<-A] at bp;clear bk bm G s ak bg H a5 ad y A ae af;go_enter func100,ntmps100;go_wp2_with fail;rw[<-F];clear F;go_at_call 128;refine Calls.mono bo.o ?_;rintro e w1 ⟨rfl,rfl⟩;go_wp2_with fail;go_at_call 128;refine Calls.mono bp.o ?_;rintro e w2 ⟨rfl,rfl⟩;go_wp2_with fail;go_loopw [5,15] (λsv iv wr=>∃i:Nat,i<=n/\iv=U i/\sv=.string (dU ((x.take i).flatMap ct))/\Hid (Below (w.1.size+3) w2 wr)) (λ_ iv _=>n-(intOf iv).toNat)
 case atStart=>exact⟨0,Ks _,rfl,rfl,Kf _ _⟩
 case round=>
  obtain⟨i,hi,rfl,rfl,al⟩:=hrel;have⟨t,cl⟩:=nM (wr);subst cl;have⟨R,ao,S,l⟩:=cf.o t al.o;have i0:(0:Int)<=(i:Int):=by omega
  have ds:w.1.size+3<=t.1.size:=by have:=al.o.size;omega
  have av:=HL.o i;have⟨L,hL⟩:=nM ((x.take i).flatMap ct)
  rw[<-hL] at av |-
  have bq:=Z hL;have b0:=Z av;clear hL av
  by_cases co:i<n
  ·have i1:(i:Int)<(n:Int):=by omega
   obtain⟨r,T⟩:∃r,x[i]?=some r:=⟨x[i]'(by rw[bd.o];exact co),by simp⟩;obtain⟨br,ex,rfl,dv,bs⟩:=cc.o i r T;have⟨b1,hv,V⟩:=lV (cd.o r (Kb T));obtain⟨cv,c0,c1,_,cp⟩:=gO.l bs l (by omega) (by omega);have b2:Hid ((x.take (i+1)).flatMap ct=(x.take i).flatMap ct++ct r):=by unfold Hid;rw[LC,T];simp
   obtain⟨I,v⟩:=r;obtain⟨ac,J,rfl,bv,e4,b3⟩:=cp;simp only[] at b1 hv V c0 c1 bv b3;have cT:Hid (ct (I,v)=d7 v++I.flatMap cq++[59]):=rfl;have d0:=Z (EA I V b1);have d1:=Z b3;have d2:=Z V;obtain⟨u,rfl⟩:∃k:Nat,v=k:=⟨v.toNat,by omega⟩;have d3:u<5:=by omega
   have bx:(u:Int)<5:=by omega
   have eN:(0:Int)<=(u:Int):=by omega
   have Y:=jM (u:Int);clear b3 V bs hv b1 T;generalize hm:I.length=m at*;have bz:=Z hm;clear hm;have bF:∀X,(t.alloc X).cell? ⟨w.1.size+1,u,none⟩=some (.string (dU (d7 (u:Int)))):=λX=>(((Kf t.1.size t).alloc lE X).cell (p:=⟨w.1.size+1,u,none⟩) (by show w.1.size+1<_;omega)).trans (Bp R d3)
   have K:=λW=>lP L (d7 (u:Int)) (by have:=b0.o;omega) W
   have c2:=Z Y;have⟨p0,p1,_,_⟩:=ag S;have b4:=Z l;have c3:=Z ao;clear Y S R ao l;go_wp2_with fail;clear K bF;have d4:bL t (t.alloc (.cells #[.slice ac m J,U u] 133)):=bR.alloc lE _;have f0:(t.alloc (.cells #[.slice ac m J,U u] 133)).1.size=t.1.size+1:=by simp
   generalize t.alloc (.cells #[.slice ac m J,U u] 133)=W3 at*;go_loopw [5,29] (λsv jv wr=>∃j:Nat,j<=m/\jv=U j/\sv=.string (dU (L++d7 (u:Int)++(I.take j).flatMap cq))/\Hid (bL t wr)/\t.1.size<wr.1.size) (λ_ jv _=>m-(intOf jv).toNat)
   case atStart=>exact⟨0,Ks _,rfl,by simp,d4,by omega⟩
   case round=>
    obtain⟨j,hj,rfl,rfl,b5,f1⟩:=hrel;have⟨C,d6⟩:=nM (wr);subst d6;have j0:(0:Int)<=(j:Int):=by omega
    have⟨M,hM⟩:=nM (L++d7 (u:Int)++(I.take j).flatMap cq);rw[<-hM];have HM:=Z hM;have c4:Hid (M.length<=97000000):=by unfold Hid;rw[hM];have h1:=b0.o;have h2:=d0.o j;have h3:=c2.o;simp only[Kj];omega
    clear hM
    by_cases da:j<m
    ·have j1:(j:Int)<(m:Int):=by omega
     obtain⟨c,a0⟩:∃c,I[j]?=some c:=⟨I[j]'(by rw[bz.o];exact da),by simp⟩;obtain⟨bc,oc,rfl,f3,a6⟩:=d1.o j c a0;have⟨hf,ho,b6⟩:=lT (d2.o c (Kb a0));have a1:Hid ((I.take (j+1)).flatMap cq=(I.take j).flatMap cq++cq c):=by unfold Hid;rw[LC,a0];simp
     obtain⟨f,o,b⟩:=c;obtain⟨e0,e1,e2,_⟩:=a6.l b5.o (by omega);simp only[] at e0 e1 e2 hf ho b6;obtain⟨q,rfl⟩:∃k:Nat,f=k:=⟨f.toNat,by omega⟩;have c5:q<5:=by omega
     have a2:=Z (t9 (q:Int));have eb:IntKind.i64.wrap (o+1)=o+1:=KA _ (by omega);have dd:Hid (cq ((q:Int),o,b)=32 :: (fK (q:Int)++(gl o :: Lib.itoa b))):=rfl;have a7:Hid ((Lib.itoa b).length<=65536):=by unfold Hid Lib.itoa;rw[iO (by omega)];have:=jS b.toNat;omega
     have c6:=Hy o ho;have a8:=Z b6;clear a0 a6 hf ho b6;go_wp2_with fail;have⟨D,N⟩:=nM (C.alloc (.cells #[U q,U o,U b] 136));have de:=bA N;have f4:=sA N;have a3:Na D C.1.size #[U q,U o,U b] 136:=by rw[N];exact(Kr C _).1
     rw[<-N];clear N e0 e1 e2;have O:bL t D:=b5.o.trans (de.mono (by omega));have c7:dT (w.1.size+2) fC D:=c3.o.below O (by omega);have df:Hid (∀g,bL D g->dD g):=λg h=>(HE.o g (b4.o.trans ((O.trans (h.mono (by omega))).mono (by omega)))).1
     have B:Hid (∀fs g,K0 D fs g->∃z:ax D,g=z.1):=λfs g h=>⟨⟨g,h⟩,rfl⟩
     have c8:=ax.ne D;have q0:∀z:ax D,z.1.cell? (pW C 0)=some (U q):=λz=>(z.2.cell (p:=pW C 0) (by show C.1.size<_;omega)).trans (eL a3).1.1
     have q1:∀z:ax D,z.1.cell? (pW C 1)=some (U o):=λz=>(z.2.cell (p:=pW C 1) (by show C.1.size<_;omega)).trans (eL a3).1.2.1
     have q2:∀z:ax D,z.1.cell? (pW C 2)=some (U b):=λz=>(z.2.cell (p:=pW C 2) (by show C.1.size<_;omega)).trans (eL a3).1.2.2
     have q3:∀z:ax D,z.1.cell? ⟨w.1.size+2,q,none⟩=some (.string (dU (fK (q:Int)))):=λz=>(z.2.cell (p:=⟨w.1.size+2,q,none⟩) (by show w.1.size+2<_;omega)).trans (Gu c7 c5)
     clear a3 c7;refine bJ [_,_,_,_,_,_,_,_,_,_,_,_,_,_,_,_,_,_,_] _ rfl (λk=>k==16) (K0 D) (K6 b) (Hw b) (by kernel_rfl) (by kernel_rfl) (bR.drew) ?_;iterate 4(refine aP B.o rfl rfl ?_;go_big_quiet_step (fail);refine Km ?_)
     refine fD (.pointer (some ⟨w.1.size+2,q,none⟩)) rfl rfl (λg=>gg (np q _ c5 g)) ?_;go_frame;refine aP B.o rfl rfl ?_;go_big_quiet_step (fail);refine Km ?_;refine fD (.string (dU ([32]++fK (q:Int)))) rfl rfl (λg=>oI _ _ rfl rfl rfl (by have:=a2.o;simp;omega) g) ?_;go_frame;iterate 4(refine aP B.o rfl rfl ?_;go_big_quiet_step (fail);refine Km ?_)
     refine fD (U (o+1)) rfl rfl (λg=>?_) ?_
     ·clear q0 q1 q2 q3 c8 B;go_simp
     go_frame;refine fD (.string (dU [gl o])) rfl rfl (λg=>gg (c6 g)) ?_;go_frame;refine fD (.string (dU ([32]++fK (q:Int)++[gl o]))) rfl rfl (λg=>oI _ _ rfl rfl rfl (by have:=a2.o;simp;omega) g) ?_;go_frame;iterate 2(refine aP B.o rfl rfl ?_;go_big_quiet_step (fail);refine Km ?_)
     refine bw 99 #[U b] rfl rfl (λg=>by kernel_rfl) (λgs g hJ ek f5=>?_) (λv1 bx=>?_)
     ·refine(Tryz.strconv_Itoa b (by have:=a8.o;omega) (by have:=a8.o;omega) g (df.o _ hJ).2.2.2).mono ?_;rintro e w2 ⟨rfl,k8,fa,rfl⟩;exact⟨_,rfl,rfl,hJ.th (LT _ _ lE _ _)⟩
     go_frame;obtain rfl:v1=.string (dU (Lib.itoa b)):=bx;refine fD (.string (dU ([32]++fK (q:Int)++[gl o]++Lib.itoa b))) rfl rfl (λg=>oI _ _ rfl rfl rfl (by have:=a2.o;have:=a7.o;simp;omega) g) ?_;go_frame;refine fD (.string (dU (M++([32]++fK (q:Int)++[gl o]++Lib.itoa b)))) rfl rfl (λg=>oI _ _ rfl rfl rfl (by have:=a2.o;have:=a7.o;have:=c4.o;simp;omega) g) ?_;go_frame;refine ei ?_;intro w5 a4;have a4:=a4;clear q0 q1 q2 q3 c8 B;have fc:=a4.size;have dk:bL t w5:=O.trans (a4.mono (by omega));have b7:Hid (M++([32]++fK (q:Int)++[gl o]++Lib.itoa b)=L++d7 (u:Int)++(I.take (j+1)).flatMap cq):=by unfold Hid;rw[a1.o,HM.o,dd.o];simp
     go_wp2_with fail;exact⟨⟨j+1,by omega,by go_num,by rw[<-b7.o],dk,by omega⟩,by simp[intOf];omega⟩
    obtain rfl:j=m:=by omega
    have j1:¬((j:Int)<(j:Int)):=by omega
    have K:∀W,(Op.stringOp .add (dU M) ⟨#[59]⟩).run prog W=.ok (.string (dU (M++[59]))) W:=λW=>lP M [59] (by have:=c4.o;simp;omega) W
    have b7:Hid (M++[59]=(x.take (i+1)).flatMap ct):=by unfold Hid;rw[b2.o,HM.o,Ki (by rw[bz.o];exact Ke _),cT.o,bq.o];simp
    go_wp2_with fail;exact⟨⟨i+1,by omega,by go_num,by rw[<-b7.o],al.o.trans (b5.o.mono (by omega))⟩,by simp[intOf];omega⟩
  obtain rfl:i=n:=by omega
  have i1:¬((i:Int)<(i:Int)):=by omega
  have⟨p0,p1,_,_⟩:=ag S;have bF:=Bp R ce;have Y:=jM (E:Int);have K:=λW=>lP L (d7 (E:Int)) (by have:=b0.o;omega) W
  have HR:Hid (L++d7 (E:Int)=cW (x,(E:Int))):=by unfold Hid;rw[HT.o,bq.o,Ki (by rw[bd.o];exact Ke _)]
  have fe:(E:Int)<5:=by omega
  have fl:(0:Int)<=(E:Int):=by omega
  clear Y S R ao;have dl:=Z l;clear l;go_wp2_with fail;go_ret;exact⟨by rw[HR.o];rfl,dl.o⟩
end
def Cq(W:World)(a:Bs)(i:Nat)(b:Nat->Value->Prop)(w:World):Prop:=
 bL W w/\(∀u,b 0 u->∃g:Nat,u=.slice (sO g) 4 4/\g<w.1.size/\w.cell? ⟨g,i,none⟩=some (.string (dU a)))/\∀u,b 4 u->∃g:Nat,u=.pointer (some ⟨g,i,none⟩)/\g<w.1.size/\w.cell? ⟨g,i,none⟩=some (.string (dU a))
def JJ(b a:Bs)(i:Nat)(k:Nat)(v:Value):Prop:=if k=0 then ∃g:Nat,v=.slice (sO g) 4 4 else if k=4 then ∃g:Nat,v=.pointer (some ⟨g,i,none⟩) else if k=5 then v=.string (dU b) else if k=8 then v=.string (dU a) else True
theorem Bh(nm num i k):∃v,JJ nm num i k v:=by
 unfold JJ
 split
 ·exact⟨_,0,rfl⟩
 split
 ·exact⟨_,0,rfl⟩
 split
 ·exact⟨_,rfl⟩
 split
 ·exact⟨_,rfl⟩
 exact⟨undef,trivial⟩
theorem Cq.l{W w w' nm i}{f:Nat->Value->Prop}(h:Cq W nm i f w)(a:bL w w'):Cq W nm i f w':=by
 refine⟨h.1.th a,λu c=>?_,λu c=>?_⟩
 ·have⟨g,e,b,d⟩:=h.2.1 u c;exact⟨g,e,Kd b a.size,(a.cell (p:=⟨g,i,none⟩) b).trans d⟩
 have⟨g,e,b,d⟩:=h.2.2 u c;exact⟨g,e,Kd b a.size,(a.cell (p:=⟨g,i,none⟩) b).trans d⟩
theorem Cq.lit{W w nm i}{c:Nat->Value->Prop}(h:Cq W nm i c w)(cs:Array Value)(T)(d:cs[i]?=some (.string (dU nm))):Cq W nm i (d9 c 0 (.slice (sO w.1.size) 4 4)) (w.alloc (.cells cs T)):=by
 have b:=h.l ((Kf w.1.size w).alloc lE (.cells cs T));refine⟨b.1,λu a=>?_,λu a=>?_⟩
 ·rcases a with a|⟨_,rfl⟩
  ·exact b.2.1 u a
  exact⟨w.1.size,rfl,by simp,ab (ah w _) i d⟩
 rcases a with a|⟨h,_⟩
 ·exact b.2.2 u a
 cases h
theorem Cq.addr{W w nm}{i g:Nat}{b:Nat->Value->Prop}(h:Cq W nm i b w)(c:b 0 (.slice (sO g) 4 4)):Cq W nm i (d9 b 4 (.pointer (some ⟨g,i,none⟩))) w:=by
 refine⟨h.1,λu a=>?_,λu a=>?_⟩
 ·rcases a with a|⟨h,_⟩
  ·exact h.2.1 u a
  cases h
 rcases a with a|⟨_,rfl⟩
 ·exact h.2.2 u a
 obtain⟨j,e,d,f⟩:=h.2.1 _ c;simp at e;subst e;exact⟨g,rfl,d,f⟩
theorem Cq.other{W w w' nm}{i k:Nat}{c:Nat->Value->Prop}(h:Cq W nm i c w)(d:bL w w')(v)(f:0≠k)(g:4≠k):Cq W nm i (d9 c k v) w':=by
 have b:=h.l d;refine⟨b.1,λu a=>?_,λu a=>?_⟩
 ·rcases a with a|⟨e,_⟩
  ·exact b.2.1 u a
  exact absurd e f
 rcases a with a|⟨e,_⟩
 ·exact b.2.2 u a
 exact absurd e g
theorem nF{n:Int}(a:0<=n)(b:n<=3):(Lib.itoa n).length<=1:=by
 have:n=0\/n=1\/n=2\/n=3:=by omega
 rcases this with rfl|rfl|rfl|rfl<;>decide +kernel
theorem C8(B v r w)(he:dD w)(a1:Lib.TabIs prog w "strings.asciiSpace" .u8 Lib.asciiSpaceTab)(hr:cI B w v r)(hB:B<=w.1.size):
  cL 68 #[v] w (rT w (.tuple #[.string (dU (fP r)),U (aZ r)])):=by
 have HC:=Z λb (h:bL w b)=>eR B v r b (hr.l h hB) (h.u hB)
 have D:=Z λb (h:bL w b)=>Q2 (he.l h) (jG a1 h)
 have HP:Hid (fP r=if aZ r=0 then aU r else []):=rfl;obtain⟨a,c,rfl,hp⟩:=hr.shape;have x:=Z λb (h:bL w b)=>Q2 (hp.l h hB) (h.u hB)
 clear hr hp he a1;obtain⟨k,l,m,j,d⟩:=r;simp only at*;have hb:∀X,bL w (w.alloc X):=λX=>bR.alloc lE _
 have⟨E,hE⟩:=nM (aZ (k,l,m,j,d));have HE:=Z hE
 rw[<-hE] at HC HP |-
 clear hE;have⟨n,hn⟩:=nM (j.length);have HN:=Z hn
 rw[<-hn] at HC x |-
 clear hn;have⟨W0,F⟩:=nM (w.alloc (.cells #[U k,U l,U m,.slice a n c,U d] 71));have g0:=hA F;have J:bL w W0:=by rw[F];exact hb _
 have HG:=Z λb (h:bL W0 b)=>Q2 (h.bl g0) (J.th h)
 have HW:=Z F;clear F g0;go_enter func68,ntmps68;go_wp2_with fail;rw[<-HW.o];go_at_call 65;refine(HC.o _ J).mono ?_;rintro e K ⟨rfl,L⟩;have⟨g1,a2⟩:=HG.o K L;have B1:=Z2 L a2;have l1:=io g1;have⟨q0,q1,q2,q3,q4⟩:=aF g1;clear g1 a2 L J hb HC HW
 by_cases V:E=0
 ·obtain⟨hk,Y,hf,-,-⟩:=iB (HE.o.symm.trans V);have y:=Z (by rw[HP.o,Io V]:fP (k,l,m,j,d)=aU (k,l,m,j,d));subst V;obtain⟨i,a4,p⟩:∃i:Nat,i<4/\k=(i:Int)+1:=⟨(k-1).toNat,by omega,by omega⟩;have i0:(0:Int)<=(i:Int):=by omega
  have i1:(i:Int)<4:=by omega
  have b3:IntKind.i64.wrap (k-1)=(i:Int):=by rw[show k-1=(i:Int) by omega];exact KA _ (by omega)
  have⟨A,G⟩:=nM (kN.getD i []++[32])
  have q:Hid (A=kN.getD i []++[32]/\A.length<=10/\(#[Value.string ⟨#[111,112,101,110,32]⟩,.string ⟨#[116,105,103,104,116,32]⟩,.string ⟨#[102,111,114,107,32]⟩,.string ⟨#[115,104,117,116,32]⟩][i]?=some (.string (dU A)))):=by
   refine⟨G,?_,?_⟩
   ·have:i=0\/i=1\/i=2\/i=3:=by omega
    rw[G]
    rcases this with rfl|rfl|rfl|rfl<;>decide +kernel
   have:i=0\/i=1\/i=2\/i=3:=by omega
   rw[G]
   rcases this with rfl|rfl|rfl|rfl<;>rfl
  have N:=Z2 (nF Y.1 Y.2) (nF hf.1 hf.2);have o:Hid ((-9223372036854775808<=l/\l<=9223372036854775807)/\(-9223372036854775808<=m/\m<=9223372036854775807)):=⟨⟨Ml (by decide) Y.1,Ml Y.2 (by decide)⟩,Ml (by decide) hf.1,Ml hf.2 (by decide)⟩;have b4:=Z2 p a4;have c0:∀z:ax K,z.1.cell? (pW w 0)=some (U k):=λz=>z.cell q0 l1
  have c1:∀z:ax K,z.1.cell? (pW w 1)=some (U l):=λz=>z.cell q1 l1
  clear G p hk Y hf;go_wp2_with fail;have H:=ax.ne K
  have s:Hid (∀fs b,Cq K A i fs b->∃z:ax K,b=z.1):=λfs b h=>⟨⟨b,h.1⟩,rfl⟩
  refine bJ [_,_,_,_,_,_,_,_,_,_] _ rfl (λk=>k==0||k==4||k==5||k==8) (Cq K A i) (JJ A (Lib.itoa l) i) (Bh _ _ _) (by kernel_rfl) (by kernel_rfl) ⟨bR.drew,λ_ h=>h.elim,λ_ h=>h.elim⟩ ?_;refine cz rfl rfl (λgs b u f t=>⟨.slice (MZ b) 4 4,b.alloc (.cells #[.string ⟨#[111,112,101,110,32]⟩,.string ⟨#[116,105,103,104,116,32]⟩,.string ⟨#[102,111,114,107,32]⟩,.string ⟨#[115,104,117,116,32]⟩] 9),?_,⟨_,rfl⟩,u.lit _ _ q.o.2.2⟩) (λv0 b6=>?_)
  ·clear u f t s H c0 c1;go_simp
  go_frame;obtain⟨g,rfl⟩:∃g:Nat,v0=.slice (sO g) 4 4:=b6;iterate 3(refine aP s.o rfl rfl ?_;go_big_quiet_step (fail);refine Km ?_)
  refine cz rfl rfl (λgs b u f t=>⟨.pointer (some ⟨g,i,none⟩),b,?_,⟨_,rfl⟩,u.addr (f 0 _ (.inr ⟨rfl,rfl⟩) (au (by kernel_rfl)))⟩) (λv4 b7=>?_)
  ·clear u f t s H c0 c1;go_simp
  go_frame;obtain⟨g4,rfl⟩:∃g:Nat,v4=.pointer (some ⟨g,i,none⟩):=b7;refine cz rfl rfl (λgs b u f t=>⟨.string (dU A),b,?_,rfl,u.other bR _ (by decide) (by decide)⟩) (λv5 b8=>?_)
  ·obtain⟨g',e,hl,Y⟩:=u.2.2 _ (f 4 _ (.inr ⟨rfl,rfl⟩) (au (by kernel_rfl)));simp at e;subst e;clear u f t s H c0 c1;go_simp
  go_frame;obtain rfl:v5=.string (dU A):=b8;iterate 2(refine aP s.o rfl rfl ?_;go_big_quiet_step (fail);refine Km ?_)
  refine bw 99 #[U l] rfl rfl (λb=>by kernel_rfl) (λgs b u f t=>?_) (λv8 b9=>?_)
  ·refine(Tryz.strconv_Itoa l o.o.1.1 o.o.1.2 b (D.o b (B1.o.2.th u.1)).1.2.2.2).mono ?_;rintro e C ⟨rfl,k8,ba,rfl⟩;exact⟨_,rfl,rfl,u.other (LT _ _ lE _ _) _ (by decide) (by decide)⟩
  go_frame;obtain rfl:v8=.string (dU (Lib.itoa l)):=b9;refine fD (.string (dU (A++Lib.itoa l))) rfl rfl (λb=>oI _ _ rfl rfl rfl (by have:=q.o.2.1;have:=N.o.1;omega) b) ?_;go_frame;refine ei ?_;intro C a5;have O:=a5.1;have⟨g2,a6⟩:=HG.o C (B1.o.1.th O);have I:=Z2 (B1.o.1.th O) a6;have l2:=io g2;have⟨r0,r1,r2,r3,r4⟩:=aF g2;clear a5 O g2 a6 H s c0 c1 q0 q1 q2 q3 q4 l1 b3;have⟨M,hM⟩:=nM (A++Lib.itoa l);have P:Hid (M=A++Lib.itoa l/\M.length<=20):=⟨hM,by rw[hM,Kj];have:=q.o.2.1;have:=N.o.1;omega⟩;rw[<-hM];clear hM;obtain⟨p,a4⟩:=b4.o
  by_cases h3:k=3
  ·have HT:Hid (aU (k,l,m,j,d)=M++32 :: Lib.itoa m):=by unfold Hid;rw[P.o.1,q.o.1];unfold aU;simp only[Io h3];rw[show (k-1).toNat=i by omega];simp
   subst h3;have a8:∀W,(Op.stringOp .add (dU M) ⟨#[32]⟩).run prog W=.ok (.string (dU (M++[32]))) W:=λW=>lP M [32] (by have:=P.o.2;simp;omega) W
   have Q:∀W,(Op.stringOp .add (dU (M++[32])) (dU (Lib.itoa m))).run prog W=.ok (.string (dU (M++[32]++Lib.itoa m))) W:=λW=>lP (M++[32]) (Lib.itoa m) (by have:=P.o.2;have:=N.o.2;simp;omega) W
   have HI:Hid (cL 99 #[U m] C (rT C (.string (dU (Lib.itoa m))))):=by refine(Tryz.strconv_Itoa m o.o.2.1 o.o.2.2 C (D.o C I.o.2).1.2.2.2).mono ?_;rintro e w3 ⟨rfl,k8,ba,rfl⟩;exact⟨rfl,LT _ _ lE _ _⟩
   clear p;generalize Lib.itoa m=fT at*;go_wp2_with fail;go_at_call 99;refine HI.o.mono ?_;rintro e w3 ⟨rfl,R⟩;have S:=I.o.2.th R;go_wp2_with fail;go_ret2;exact⟨by rw[y.o,HT.o];rfl,S⟩
  by_cases h4:k=4
  ·have HT:Hid (aU (k,l,m,j,d)=M):=by unfold Hid;rw[P.o.1,q.o.1];unfold aU;simp only[iO h3,Io h4];rw[show (k-1).toNat=i by omega];simp
   subst h4;clear p;go_wp2_with fail;go_ret2;exact⟨by rw[y.o,HT.o];rfl,I.o.2⟩
  have HT:Hid (aU (k,l,m,j,d)=M++32 :: cW (j,d)):=by unfold Hid;rw[P.o.1,q.o.1];unfold aU;simp only[iO h3,iO h4];rw[show (k-1).toNat=i by omega];simp
  have cd:(k==3)=false:=by simpa using h3
  have cf:(k==4)=false:=by simpa using h4
  have T:aj (j,d)=0:=by
   obtain⟨-,-,-,-,h⟩:=iB HE.o.symm
   rcases h with ⟨-,h⟩|⟨h,-⟩
   ·exact h
   exact absurd h (by rintro (h|h)<;>first|exact h3 h|exact h4 h)
  have bd:Hid ((cW (j,d)).length<=97000000):=by
   have⟨bf,hd,bg⟩:=jF T;have h1:=AQ j bg bf j.length;rw[L6] at h1
   have h2:(d7 d).length<=1000:=by
    have hv:=hd;have:d=0\/d=1\/d=2\/d=3\/d=4:=by omega
    rcases this with rfl|rfl|rfl|rfl|rfl<;>decide
   have ck:=h1;show (List.flatMap ct j++d7 d).length<=97000000;rw[Kj];omega
  have a8:∀W,(Op.stringOp .add (dU M) ⟨#[32]⟩).run prog W=.ok (.string (dU (M++[32]))) W:=λW=>lP M [32] (by have:=P.o.2;simp;omega) W
  have Q:∀W,(Op.stringOp .add (dU (M++[32])) (dU (cW (j,d)))).run prog W=.ok (.string (dU (M++[32]++cW (j,d)))) W:=λW=>lP (M++[32]) (cW (j,d)) (by have:=P.o.2;have:=bd.o;simp;omega) W
  have HI:=Z (wy B _ (j,d) C (D.o C I.o.2).1 (D.o C I.o.2).2 (x.o C I.o.2).1 (x.o C I.o.2).2 T);clear p T;generalize cW (j,d)=pT at*;go_wp2_with fail;go_at_call 100;refine HI.o.mono ?_;rintro e w3 ⟨rfl,R⟩;have S:=I.o.2.th R;go_wp2_with fail;go_ret2;exact⟨by rw[y.o,HT.o];rfl,S⟩
 have y:=Z (by rw[HP.o,iO V]:fP (k,l,m,j,d)=[]);have hq:(E != 0)=true:=by simpa using V
 clear V;go_wp2_with fail;go_ret2;exact⟨by rw[y.o];rfl,B1.o.2⟩
