import Derived.Test.YtjdnfhkkkejcfaaGreatDoorWd32
set_option linter.all false
set_option maxRecDepth 100000
set_option maxHeartbeats 8000000
namespace Go.Proofs.YtjdnfhkkkejcfaaGreatDoor
open Go.RowKit Go.Maps Go.Proofs.Tryz
section
theorem DH(l m:Bs):dU l++dU m=dU (l++m):=by apply ByteArray.ext;rw[ByteArray.data_append];simp[dU]
theorem lP(l m:Bs)(h:l.length+m.length<=9223372036854775807)(w:World):(Op.stringOp .add (dU l) (dU m)).run prog w=.ok (.string (dU (l++m))) w:=by rw[run_string_add_sum w _ _ (by rw[ph,ph];exact h),DH]
theorem oI{a:Act}{o:Oper}{l m}(x y:Operand)(iY:o.op=.binOp .add 9 x y 9)(c:a.eval x=.string (dU l))(d:a.eval y=.string (dU m))(h:l.length+m.length<=9223372036854775807)(w:World):(execOp a.eval o).run prog w=.ok (.value (.string (dU (l++m)))) w:=by have b:=lP l m h w;unfold execOp;rw[iY];simp only[c,d];go_simp
theorem Gw(w:World)(a:Lib.TabIs prog w "strings.asciiSpace" .u8 Lib.asciiSpaceTab):
  cL 127 #[.string ⟨#[107,105,108,108,32,116,114,97,112,32,102,97,105,108,32,108,111,103,32,97,108,108,111,119]⟩] w λe c=>e=.returned (.slice (sO w.1.size) 5 5)/\c=w.alloc (.cells vC 9):=
 Tryz.strings_Fields_laid ⟨#[107,105,108,108,32,116,114,97,112,32,102,97,105,108,32,108,111,103,32,97,108,108,111,119]⟩ w (by decide) (λj b h=>(by decide:∀b∈([107,105,108,108,32,116,114,97,112,32,102,97,105,108,32,108,111,103,32,97,108,108,111,119]:Bs),b.toNat<128) b (Kb h)) a
theorem GB(w:World)(a:Lib.TabIs prog w "strings.asciiSpace" .u8 Lib.asciiSpaceTab):
  cL 127 #[.string ⟨#[110,114,32,107,105,110,100,32,97,32,98,32,99]⟩] w λe c=>e=.returned (.slice (sO w.1.size) 5 5)/\c=w.alloc (.cells fC 9):=
 Tryz.strings_Fields_laid ⟨#[110,114,32,107,105,110,100,32,97,32,98,32,99]⟩ w (by decide) (λj b h=>(by decide:∀b∈([110,114,32,107,105,110,100,32,97,32,98,32,99]:Bs),b.toNat<128) b (Kb h)) a
theorem Hy(o:Int)(h:1<=o/\o<=4)(w:World):(Instr.sliceAt 9 (.string ⟨#[63,61,33,60,62]⟩) (some (U o)) (some (U (o+1))) none).run prog w=.ok (.string (dU [gl o])) w:=by
 have:o=1\/o=2\/o=3\/o=4:=by omega
 rcases this with rfl|rfl|rfl|rfl
 ·simp[go_sem,Tryz.underlying9];rfl
 ·simp[go_sem,Tryz.underlying9];rfl
 ·simp[go_sem,Tryz.underlying9];rfl
 simp[go_sem,Tryz.underlying9];rfl
theorem dT.below{b B cs w w'}(h:dT b cs w)(a:Below B w w')(c:b<B):dT b cs w':=λj u d=>(a.cell (p:=⟨b,j,none⟩) c).trans (h j u d)
theorem Bp{b i:Nat}{w}(h:dT b vC w)(a:i<5):w.cell? ⟨b,i,none⟩=some (.string (dU (d7 (i:Int)))):=by have:=h i _ (GH a);unfold d7;rw[L3];exact this
theorem Gu{b i:Nat}{w}(h:dT b fC w)(a:i<5):w.cell? ⟨b,i,none⟩=some (.string (dU (fK (i:Int)))):=by have:=h i _ (IQ a);unfold fK;rw[L3];exact this
end
section
open Go.RowKit Go.Maps Go.Proofs.Tryz
def K0(W:World)(a:Nat->Value->Prop)(w':World):Prop:=bL W w'
def K6(a:Int)(k:Nat)(v:Value):Prop:=v=.string (dU (Lib.itoa a))
theorem Hw(num k):∃v,K6 num k v:=⟨_,rfl⟩
theorem AQ(a:List aq)(h:∀r∈a,bH r=0)(e:a.length<=120)(i:Nat):((a.take i).flatMap ct).length<=96000000:=by
 have b:=iT (a.take i) λr c=>h r (KZ c)
 have d:(a.take i).length<=120:=by rw[Kt];omega
 exact Kl b (Lz 800000 d)
theorem EA(cs:List aN)(h:∀c∈cs,bS c=0)(e:cs.length<=10)(i:Nat):((cs.take i).flatMap cq).length<=700000:=by
 have a:=jQ (cs.take i) λc b=>h c (KZ b)
 have d:(cs.take i).length<=10:=by rw[Kt];omega
 exact Kl a (Lz 70000 d)
theorem wy(B0 pv p w)(he:dD w)(ba:Lib.TabIs prog w "strings.asciiSpace" .u8 Lib.asciiSpaceTab)(hp:aX B0 w pv p)(em:B0<=w.1.size)(bb:aj p=0):
  cL 99 #[pv] w (rT w (.string (dU (cW p)))):=by
 obtain⟨x,d⟩:=p;have⟨a9,hd,P⟩:=jF bb;obtain⟨rv,rfl,_,a,Q,rfl,ca,en,aa⟩:=hp;simp only[] at a9 hd P ca aa;have HT:Hid (cW (x,d)=x.flatMap ct++d7 d):=rfl;have HE:=Z λg (h:bL w g)=>Q2 (he.l h) (jG ba h)
 have HL:=Z (AQ x P a9);have cc:=Z aa;have cd:=Z P;obtain⟨E,rfl⟩:∃i:Nat,d=i:=⟨d.toNat,by omega⟩;have ce:E<5:=by omega
 clear he ba aa P bb hd a9;show cL 99 #[.agg #[.slice a x.length Q,U E]] w _;generalize hn:x.length=n at*;have bd:=Z hn;clear hn;have es:=ai;have⟨W0,F⟩:=nM (w.alloc (.cells #[.slice a n Q,U E] 30));have ad:=bA F;have ae:=sA F;have bg:Na W0 w.1.size #[.slice a n Q,U E] 30:=by rw[F];exact(Kr w _).1
 have⟨W1,y⟩:=nM (W0.alloc (.cells vC 9));have⟨W2,A⟩:=nM (W1.alloc (.cells fC 9));have G:=bA y;have s:=bA A;have af:W1.1.size=w.1.size+2:=by rw[y];simp;omega
 have et:W2.1.size=w.1.size+3:=by rw[A];simp;omega
 have bk:dT (w.1.size+1) vC W2:=by have:=dT.made W0 vC 9;rw[<-y,ae] at this;exact this.below s (by omega)
 have bm:dT (w.1.size+2) fC W2:=by have:=dT.made W1 fC 9;rw[<-A,af] at this;exact this
 have H:bL w W1:=ad.trans (G.mono (by omega));have a5:bL w W2:=H.trans (s.mono (by omega));have ak:Na W2 w.1.size #[.slice a n Q,U E] 30:=(s.block _ (by omega)).trans (G.bk bg);have bo:Hid _:=Gw W0 (HE.o W0 ad).2;have bp:Hid _:=GB W1 (HE.o W1 H).2;have cf:=Z λg (h:Below (w.1.size+3) W2 g)=>Q4 (bk.below h (by omega)) (bm.below h (by omega)) (h.bk ak) (a5.trans (h.mono (by omega)))
 have⟨x0,x1,_,_⟩:=ag ak;have eu:=Z y;have ev:=Z A;rw[ae,<-y] at bo;rw[af,<-A] at bp;clear bk bm G s ak bg H a5 ad y A ae af;go_enter func99,ntmps99;go_wp2_with fail;rw[<-F];clear F;go_at_call 127;refine Calls.mono bo.o ?_;rintro e w1 ⟨rfl,rfl⟩;go_wp2_with fail;go_at_call 127;refine Calls.mono bp.o ?_;rintro e w2 ⟨rfl,rfl⟩;go_wp2_with fail;go_loopw [5,15] (λsv iv wr=>∃i:Nat,i<=n/\iv=U i/\sv=.string (dU ((x.take i).flatMap ct))/\Hid (Below (w.1.size+3) w2 wr)) (λ_ iv _=>n-(intOf iv).toNat)
 case atStart=>exact⟨0,Ks _,rfl,rfl,Kf _ _⟩
 case round=>
  obtain⟨i,hi,rfl,rfl,al⟩:=hrel;have⟨t,cl⟩:=nM (wr);subst cl;have⟨R,ao,S,l⟩:=cf.o t al.o;have i0:(0:Int)<=(i:Int):=by omega
  have ds:w.1.size+3<=t.1.size:=by have:=al.o.size;omega
  have av:=HL.o i;have⟨L,hL⟩:=nM ((x.take i).flatMap ct)
  rw[<-hL] at av |-
  have bq:=Z hL;have b0:=Z av;clear hL av
  by_cases co:i<n
  ·have i1:(i:Int)<(n:Int):=by omega
   obtain⟨r,T⟩:∃r,x[i]?=some r:=⟨x[i]'(by rw[bd.o];exact co),by simp⟩;obtain⟨br,ex,rfl,dv,bs⟩:=cc.o i r T;have⟨b1,hv,V⟩:=lV (cd.o r (Kb T));obtain⟨cv,c0,c1,_,cp⟩:=gO.l bs l (by omega) (by omega);have b2:Hid ((x.take (i+1)).flatMap ct=(x.take i).flatMap ct++ct r):=by unfold Hid;rw[LC,T];simp
   obtain⟨I,v⟩:=r;obtain⟨ac,J,rfl,bv,e4,b3⟩:=cp;simp only[] at b1 hv V c0 c1 bv b3;have cT:Hid (ct (I,v)=d7 v++I.flatMap cq++[59]):=rfl;have d0:=Z (EA I V b1);have d1:=Z b3;have d2:=Z V;obtain⟨u,rfl⟩:∃k:Nat,v=k:=⟨v.toNat,by omega⟩;have d3:u<5:=by omega
   have bx:(u:Int)<5:=by omega
   have eN:(0:Int)<=(u:Int):=by omega
   have Y:=jM (u:Int);clear b3 V bs hv b1 T;generalize hm:I.length=m at*;have bz:=Z hm;clear hm;have bF:∀X,(t.alloc X).cell? ⟨w.1.size+1,u,none⟩=some (.string (dU (d7 (u:Int)))):=λX=>(((Kf t.1.size t).alloc lE X).cell (p:=⟨w.1.size+1,u,none⟩) (by show w.1.size+1<_;omega)).trans (Bp R d3)
   have K:=λW=>lP L (d7 (u:Int)) (by have:=b0.o;omega) W
   have c2:=Z Y;have⟨p0,p1,_,_⟩:=ag S;have b4:=Z l;have c3:=Z ao;clear Y S R ao l;go_wp2_with fail;clear K bF;have d4:bL t (t.alloc (.cells #[.slice ac m J,U u] 131)):=bR.alloc lE _;have f0:(t.alloc (.cells #[.slice ac m J,U u] 131)).1.size=t.1.size+1:=by simp
   generalize t.alloc (.cells #[.slice ac m J,U u] 131)=W3 at*;go_loopw [5,29] (λsv jv wr=>∃j:Nat,j<=m/\jv=U j/\sv=.string (dU (L++d7 (u:Int)++(I.take j).flatMap cq))/\Hid (bL t wr)/\t.1.size<wr.1.size) (λ_ jv _=>m-(intOf jv).toNat)
   case atStart=>exact⟨0,Ks _,rfl,by simp,d4,by omega⟩
   case round=>
    obtain⟨j,hj,rfl,rfl,b5,f1⟩:=hrel;have⟨C,d6⟩:=nM (wr);subst d6;have j0:(0:Int)<=(j:Int):=by omega
    have⟨M,hM⟩:=nM (L++d7 (u:Int)++(I.take j).flatMap cq);rw[<-hM];have HM:=Z hM;have c4:Hid (M.length<=97000000):=by unfold Hid;rw[hM];have h1:=b0.o;have h2:=d0.o j;have h3:=c2.o;simp only[Kj];omega
    clear hM
    by_cases da:j<m
    ·have j1:(j:Int)<(m:Int):=by omega
     obtain⟨c,a0⟩:∃c,I[j]?=some c:=⟨I[j]'(by rw[bz.o];exact da),by simp⟩;obtain⟨bc,oc,rfl,f3,a6⟩:=d1.o j c a0;have⟨hf,ho,b6⟩:=lT (d2.o c (Kb a0));have a1:Hid ((I.take (j+1)).flatMap cq=(I.take j).flatMap cq++cq c):=by unfold Hid;rw[LC,a0];simp
     obtain⟨f,o,b⟩:=c;obtain⟨e0,e1,e2,_⟩:=a6.l b5.o (by omega);simp only[] at e0 e1 e2 hf ho b6;obtain⟨q,rfl⟩:∃k:Nat,f=k:=⟨f.toNat,by omega⟩;have c5:q<5:=by omega
     have a2:=Z (t9 (q:Int));have eb:IntKind.i64.wrap (o+1)=o+1:=KA _ (by omega);have dd:Hid (cq ((q:Int),o,b)=32 :: (fK (q:Int)++(gl o :: Lib.itoa b))):=rfl;have a7:Hid ((Lib.itoa b).length<=65536):=by unfold Hid Lib.itoa;rw[iO (by omega)];have:=jS b.toNat;omega
     have c6:=Hy o ho;have a8:=Z b6;clear a0 a6 hf ho b6;go_wp2_with fail;have⟨D,N⟩:=nM (C.alloc (.cells #[U q,U o,U b] 134));have de:=bA N;have f4:=sA N;have a3:Na D C.1.size #[U q,U o,U b] 134:=by rw[N];exact(Kr C _).1
     rw[<-N];clear N e0 e1 e2;have O:bL t D:=b5.o.trans (de.mono (by omega));have c7:dT (w.1.size+2) fC D:=c3.o.below O (by omega);have df:Hid (∀g,bL D g->dD g):=λg h=>(HE.o g (b4.o.trans ((O.trans (h.mono (by omega))).mono (by omega)))).1
     have B:Hid (∀fs g,K0 D fs g->∃z:ax D,g=z.1):=λfs g h=>⟨⟨g,h⟩,rfl⟩
     have c8:=ax.ne D;have q0:∀z:ax D,z.1.cell? (pW C 0)=some (U q):=λz=>(z.2.cell (p:=pW C 0) (by show C.1.size<_;omega)).trans (eL a3).1.1
     have q1:∀z:ax D,z.1.cell? (pW C 1)=some (U o):=λz=>(z.2.cell (p:=pW C 1) (by show C.1.size<_;omega)).trans (eL a3).1.2.1
     have q2:∀z:ax D,z.1.cell? (pW C 2)=some (U b):=λz=>(z.2.cell (p:=pW C 2) (by show C.1.size<_;omega)).trans (eL a3).1.2.2
     have q3:∀z:ax D,z.1.cell? ⟨w.1.size+2,q,none⟩=some (.string (dU (fK (q:Int)))):=λz=>(z.2.cell (p:=⟨w.1.size+2,q,none⟩) (by show w.1.size+2<_;omega)).trans (Gu c7 c5)
     clear a3 c7;refine bJ [_,_,_,_,_,_,_,_,_,_,_,_,_,_,_,_,_,_,_] _ rfl (λk=>k==16) (K0 D) (K6 b) (Hw b) (by kernel_rfl) (by kernel_rfl) (bR.drew) ?_;iterate 4(refine aP B.o rfl rfl ?_;go_big_quiet_step (fail);refine Km ?_)
     refine fD (.pointer (some ⟨w.1.size+2,q,none⟩)) rfl rfl (λg=>gg (np q _ c5 g)) ?_;go_frame;refine aP B.o rfl rfl ?_;go_big_quiet_step (fail);refine Km ?_;refine fD (.string (dU ([32]++fK (q:Int)))) rfl rfl (λg=>oI _ _ rfl rfl rfl (by have:=a2.o;simp;omega) g) ?_;go_frame;iterate 4(refine aP B.o rfl rfl ?_;go_big_quiet_step (fail);refine Km ?_)
     refine fD (U (o+1)) rfl rfl (λg=>?_) ?_
     ·clear q0 q1 q2 q3 c8 B;go_simp
     go_frame;refine fD (.string (dU [gl o])) rfl rfl (λg=>gg (c6 g)) ?_;go_frame;refine fD (.string (dU ([32]++fK (q:Int)++[gl o]))) rfl rfl (λg=>oI _ _ rfl rfl rfl (by have:=a2.o;simp;omega) g) ?_;go_frame;iterate 2(refine aP B.o rfl rfl ?_;go_big_quiet_step (fail);refine Km ?_)
     refine bw 98 #[U b] rfl rfl (λg=>by kernel_rfl) (λgs g hJ ek f5=>?_) (λv1 bx=>?_)
     ·refine(Tryz.strconv_Itoa b (by have:=a8.o;omega) (by have:=a8.o;omega) g (df.o _ hJ).2.2.2).mono ?_;rintro e w2 ⟨rfl,k8,fa,rfl⟩;exact⟨_,rfl,rfl,hJ.th (LT _ _ lE _ _)⟩
     go_frame;obtain rfl:v1=.string (dU (Lib.itoa b)):=bx;refine fD (.string (dU ([32]++fK (q:Int)++[gl o]++Lib.itoa b))) rfl rfl (λg=>oI _ _ rfl rfl rfl (by have:=a2.o;have:=a7.o;simp;omega) g) ?_;go_frame;refine fD (.string (dU (M++([32]++fK (q:Int)++[gl o]++Lib.itoa b)))) rfl rfl (λg=>oI _ _ rfl rfl rfl (by have:=a2.o;have:=a7.o;have:=c4.o;simp;omega) g) ?_;go_frame;refine ei ?_;intro w5 a4;have a4:=a4;clear q0 q1 q2 q3 c8 B;have fc:=a4.size;have dk:bL t w5:=O.trans (a4.mono (by omega));have b7:Hid (M++([32]++fK (q:Int)++[gl o]++Lib.itoa b)=L++d7 (u:Int)++(I.take (j+1)).flatMap cq):=by unfold Hid;rw[a1.o,HM.o,dd.o];simp
     go_wp2_with fail;exact⟨⟨j+1,by omega,by go_num,by rw[<-b7.o],dk,by omega⟩,by simp[intOf];omega⟩
    obtain rfl:j=m:=by omega
    have j1:¬((j:Int)<(j:Int)):=by omega
    have K:∀W,(Op.stringOp .add (dU M) ⟨#[59]⟩).run prog W=.ok (.string (dU (M++[59]))) W:=λW=>lP M [59] (by have:=c4.o;simp;omega) W
    have b7:Hid (M++[59]=(x.take (i+1)).flatMap ct):=by unfold Hid;rw[b2.o,HM.o,Ki (by rw[bz.o];exact Ke _),cT.o,bq.o];simp
    go_wp2_with fail;exact⟨⟨i+1,by omega,by go_num,by rw[<-b7.o],al.o.trans (b5.o.mono (by omega))⟩,by simp[intOf];omega⟩
  obtain rfl:i=n:=by omega
  have i1:¬((i:Int)<(i:Int)):=by omega
  have⟨p0,p1,_,_⟩:=ag S;have bF:=Bp R ce;have Y:=jM (E:Int);have K:=λW=>lP L (d7 (E:Int)) (by have:=b0.o;omega) W
  have HR:Hid (L++d7 (E:Int)=cW (x,(E:Int))):=by unfold Hid;rw[HT.o,bq.o,Ki (by rw[bd.o];exact Ke _)]
  have fe:(E:Int)<5:=by omega
  have fl:(0:Int)<=(E:Int):=by omega
  clear Y S R ao;have dl:=Z l;clear l;go_wp2_with fail;go_ret;exact⟨by rw[HR.o];rfl,dl.o⟩
end
def ke(p:aD):Bs × Int:=if aj p=0 then (cW p,0) else ([],aj p)
theorem EH(B0 pv p w)(he:dD w)(hp:aX B0 w pv p)(F:B0<=w.1.size):
  cL 155 #[pv] w (rT w (.tuple #[.string (dU (ke p).1),U (ke p).2])):=by
 have B:∀X,bL w (w.alloc X):=λX=>bR.alloc lE _
 have HC:=Z λj (h:bL w j)=>gZ B0 pv p j (hp.l h F) (h.u F)
 obtain⟨g,d⟩:=p;obtain⟨rv,rfl,bq,a,m,rfl,bs,d5,G⟩:=hp;simp only[] at bs G;have a6:=Z G;have H:Hid (∀e:Int,aj (g,d)=e->e≠0->ke (g,d)=([],e)):=by intro e h1 h2;unfold ke;rw[h1,iO h2]
 have I:Hid (aj (g,d)=0->ke (g,d)=(cW (g,d),0)):=by intro h;unfold ke;rw[Io h]
 have J:=Z λ(h:aj (g,d)=0)=>jF h
 clear G bq;show cL 155 #[.agg #[.slice a g.length m,U d]] w _;have a8:=Z HC.o;clear HC;generalize hn:g.length=n at*;have K:=Z hn;clear hn;generalize bx:aj (g,d)=pe at*;clear bx;have d6:=ai
 by_cases h0:pe=0
 ·subst h0;have⟨bz,hd,L⟩:=J.o rfl;have a9:Hid _:=L;have aa:Hid (ke (g,d)=(cW (g,d),0)):=I.o rfl;have bF:Hid (cW (g,d)=g.flatMap ct++d7 d):=rfl
  have c2:Hid (∀i:Nat,((g.take i).flatMap ct).length<=96000000):=by
   intro i;have h1:=iT (g.take i) λc hc=>L c (KZ hc)
   have h2:(g.take i).length<=120:=by rw[Kt,K.o];omega
   exact Kl h1 (Lz 800000 h2)
  obtain⟨f,rfl⟩:∃i:Nat,d=i:=⟨d.toNat,by omega⟩;have ac:f<5:=by omega
  have ad:Hid (d7 (f:Int)=vN.getD f []):=by unfold Hid d7;simp
  have dc:=jM (f:Int)
  have ae:Hid (d7 (f:Int)≠[]):=by
   unfold Hid;rw[ad.o];have:f=0\/f=1\/f=2\/f=3\/f=4:=by omega
   rcases this with rfl|rfl|rfl|rfl|rfl<;>decide
  clear L I H J;go_enter func155,ntmps155;go_wp2_with fail;go_at_call 143;refine(a8.o _ (B _)).mono ?_;rintro e t ⟨rfl,q⟩;have c3:Na t w.1.size #[.slice a n m,U f] 30:=(q.block _ (by simp)).trans (Kr w _).1;have u:bL w t:=Below.tO (B _) q (by simp);have dd:w.1.size+1<=t.1.size:=by have:=q.size;simpa using this
  clear q;have⟨W3,s⟩:=nM (t.alloc (.cells #[.pointer none,nL] 226));have M:=bA s;have c4:=sA s;have v:dY t.1.size t.1.size (Lib.byteCells []) W3:=.inl ⟨Ke _,nL,by rw[s];exact(Kr t _).1,⟨rfl,.inl ⟨rfl,rfl⟩⟩,by simp[Value.ownBlock]⟩;have af:=M.bk c3;have⟨b,N⟩:=nM (t.1.size);rw[<-N] at v M c4;have cs:w.1.size+1<=b:=by omega
  have ak:bL w W3:=u.trans (M.mono (by omega));have⟨p0,p1,_,_⟩:=ag af;have al:∀X,X=.cells #[.pointer none,nL] 226->(t.alloc X).cell? (pW w 0)=some (.slice a n m):=λX hX=>by rw[hX,<-s];exact p0
  have ao:=al _ rfl;clear al;go_wp2_with fail;rw[<-s,<-N];clear s N ao;have O:Hid _:=v;clear v;go_loopw [16] (λiv wr=>∃i:Nat,i<=n/\iv=U i/\Hid (dY b b (Lib.byteCells ((g.take i).flatMap ct)) wr)/\Below b W3 wr/\b+1<=wr.1.size) (λiv _=>n-(intOf iv).toNat)
  case atStart=>exact⟨0,by omega,rfl,O,Kf _ _,by omega⟩
  case round=>
   obtain⟨i,hi,rfl,x,P,dk⟩:=hrel;have⟨Q,c6⟩:=nM (wr);subst c6;have i0:(0:Int)<=(i:Int):=by omega
   have R:=c2.o i;have S:bL w Q:=ak.trans (P.mono (by omega))
   by_cases c7:i<n
   ·have i1:(i:Int)<(n:Int):=by omega
    obtain⟨r,T⟩:∃r,g[i]?=some r:=⟨g[i]'(by rw[K.o];exact c7),by simp⟩;obtain⟨br,or,rfl,av,b0⟩:=a6.o i r T;have⟨cv,c0,c1,w0,y⟩:=b0.l S F av;have V:Hid ((g.take (i+1)).flatMap ct=(g.take i).flatMap ct++ct r):=by unfold Hid;rw[LC,T];simp
    have b2:=a9.o r (Kb T);obtain⟨a2,m2,o,rfl⟩:∃a2 m2 o,cv=.slice a2 m2 o:=by obtain⟨a2,o,e2,_⟩:=y;exact⟨a2,_,o,e2⟩
    have c9:Hid (∀j,bL Q j->cL 185 #[.pointer (sO b),.agg #[.slice a2 m2 o,U r.2]] j λe W=>e=.returned (.tuple #[])/\dY b b (Lib.byteCells ((g.take i).flatMap ct++ct r)) W/\Below b j W):=λj h=>
     ya B0 b b _ _ r j (λW h2=>he.l (S.trans ((h.mono (by omega)).trans (h2.mono (by omega))))) (y.l h (by omega)) (by omega) (dY.l x.o h) (by omega) (by have:=h.size;omega) b2
    clear b0 y w0;have Y:∀X,bL Q (Q.alloc X):=λX=>bR.alloc lE _
    go_wp2_with fail;go_at_call 185;refine(c9.o _ (Y _)).mono ?_;rintro e w4 ⟨rfl,D,b5⟩;have a0:Hid (dY b b (Lib.byteCells ((g.take (i+1)).flatMap ct)) w4):=by unfold Hid;rw[V.o];exact D
    have b6:Below b W3 w4:=P.trans (((Y _).mono (by omega)).trans b5);have cb:b+1<=w4.1.size:=by have:=b5.size;simp at this;omega
    clear D Y;go_wp2_with fail;exact⟨⟨i+1,by omega,by go_num,a0,b6,cb⟩,by simp[intOf];omega⟩
   obtain rfl:i=n:=by omega
   have hT:Hid ((g.take i).flatMap ct=g.flatMap ct):=by unfold Hid;rw[Ki (by rw[K.o];exact Ke _)]
   have⟨L0,a1⟩:=nM ((g.take i).flatMap ct);rw[<-a1] at x R;have b7:Hid _:=a1;clear a1;have b8:=P.bk af;have hO:∀b9 fr,Obj.cells #[.slice a i m,U f] 30 (0,0)≠.cells b9 5 fr:=λb9 fr e=>by simp at e
   go_wp2_with fail;have ba:Nonempty (rK w.1.size (.cells #[.slice a i m,U f] 30 (0,0))):=⟨⟨Q,b8⟩⟩
   have a3:Hid (∀fs j,sX b b vC 0 3 5 f w.1.size (.cells #[.slice a i m,U f] 30 (0,0)) L0 (d7 f) Q fs j->∃z:rK w.1.size (.cells #[.slice a i m,U f] 30 (0,0)),j=z.1):=λfs j h=>⟨⟨j,h.1⟩,rfl⟩
   have q1:∀z:rK w.1.size (.cells #[.slice a i m,U f] 30 (0,0)),z.1.cell? (pW w 1)=some (U f):=λz=>(ag z.2).2.1
   refine iP (λk=>k==0||k==3||k==4||k==5) (sX b b vC 0 3 5 f w.1.size (.cells #[.slice a i m,U f] 30 (0,0)) L0 (d7 f) Q) (Jx 0 3 4 f (d7 f)) (vh _ _ _ _ _) (by kernel_rfl) (by kernel_rfl) (sX.start b8) ?_;refine bw 187 #[] rfl rfl (λj=>by kernel_rfl) (λgs j C l A=>?_) (λv1 cd=>?_)
   ·refine(jE j).mono ?_;rintro e t ⟨rfl,rfl⟩;exact⟨_,rfl,⟨_,rfl⟩,C.call (by decide) (by decide) (by omega) (by omega)⟩
   go_frame;obtain⟨b1,rfl⟩:∃b:Nat,v1=.slice (sO b) 5 5:=cd;iterate 2(refine aP a3.o rfl rfl ?_;go_big_quiet_step (fail);refine Km ?_)
   refine cz rfl rfl (λgs j C l A=>⟨.pointer (some ⟨b1,f,none⟩),j,gg (np f b1 ac j),⟨b1,rfl⟩,C.idx (by decide) (by decide) (l 0 _ (.inr ⟨rfl,rfl⟩) (au (by kernel_rfl)))⟩) (λv4 cf=>?_);go_frame;obtain⟨b4,rfl⟩:∃b:Nat,v4=.pointer (some ⟨b,f,none⟩):=cf;refine cz rfl rfl (λgs j C l A=>⟨.string (dU (d7 f)),j,?_,rfl,C.other (by decide) (by decide) (by decide)⟩) (λv5 ci=>?_)
   ·have a4:=C.name (l 3 _ (.inr ⟨rfl,rfl⟩) (au (by kernel_rfl))) (GH ac);rw[<-ad.o] at a4;clear C l A q1 a3 ba hO;go_simp
   go_frame;obtain rfl:v5=.string (dU (d7 f)):=ci;refine bw 186 #[.pointer (sO b),.string (dU (d7 f))] rfl rfl (λj=>by kernel_rfl) (λgs j C l A=>C.write (by decide) (by decide) A x.o hO (by omega) (by omega) (by omega)) (λv6 e1=>?_);go_frame;refine ei ?_;intro w6 bb;have⟨E,bc,d3⟩:=bb.2.2.2.2 ⟨v6,.inr ⟨rfl,rfl⟩⟩;have a5:Hid _:=E;have bd:bL w w6:=S.trans (bc.mono (by omega));clear bb q1 a3 ba E;go_wp2_with fail;go_at_call 188;refine(Tryz.Builder_String b b (L0++d7 f) w6 a5.o (λe=>ae.o (MY.1 e).2)).mono ?_;rintro e w7 ⟨rfl,ck⟩;have bf:bL w w7:=bd.trans (ck.mono (by omega));have bg:=Z (by rw[bF.o,b7.o,hT.o]:L0++d7 f=cW (g,(f:Int)));go_wp2_with fail;go_ret2;exact⟨by rw[aa.o,<-bg.o];rfl,bf⟩
 have cl:Hid (ke (g,d)=([],pe)):=H.o pe rfl h0;have hq:(pe != 0)=true:=by simpa using h0
 clear H I J h0;go_enter func155,ntmps155;go_wp2_with fail;go_at_call 143;refine(a8.o _ (B _)).mono ?_;rintro e t ⟨rfl,q⟩;have u:bL w t:=Below.tO (B _) q (by simp);go_wp2_with fail;go_ret2;exact⟨by rw[cl.o];rfl,u⟩
theorem rL(B cv dv cs ds w)(Q:gx B w cv cs)(E:gx B w dv ds)(hB:B<=w.1.size):
  cL 25 #[cv,dv] w (rT w (.bool (decide (cs=ds)))):=by
 obtain⟨a,R,rfl,S,T,v⟩:=Q;obtain⟨a2,J,rfl,y,K,z⟩:=E;have A:=Z v;have C:=Z z;clear v z
 by_cases g:cs.length=ds.length
 ·generalize hn:cs.length=n at*;have L:=g.symm;clear g;rw[L] at y;simp only[L];have V:n<=9223372036854775807:=by have:=ai;omega
  go_enter func25,ntmps25;go_wp2;go_loopw [13] (λi wr=>∃k:Nat,k<=n/\i=U k/\Hid (∀i,i<k->cs[i]?=ds[i]?)/\bL w wr) (λi _=>n-(intOf i).toNat)
  case atStart=>exact⟨0,by omega,rfl,λi h=>absurd h (by omega),Kf _ _⟩
  case round=>
   obtain⟨k,hk,rfl,H,e⟩:=hrel;have i0:(0:Int)<=(k:Int):=by omega
   by_cases W:k<n
   ·have i1:(k:Int)<(n:Int):=by omega
    obtain⟨c,r⟩:∃c,cs[k]?=some c:=⟨cs[k]'(by omega),by simp⟩;obtain⟨d,s⟩:∃d,ds[k]?=some d:=⟨ds[k]'(by omega),by simp⟩;obtain⟨b,o,rfl,X,D⟩:=A.o k c r;obtain⟨F,M,rfl,N,j⟩:=C.o k d s;have l:=Z r;have q:=Z s;clear r s;have Y:=(e.cell (p:=⟨b,o+k,none⟩) (by show b<_;omega)).trans D;have d0:=(e.cell (p:=⟨F,M+k,none⟩) (by show F<_;omega)).trans j;clear D j;go_wp2;have a1:=e.size;have g:=ax.ne wr;have a3:∀x:ax wr,x.1.cell? ⟨b,o+k,none⟩=some (U c):=λx=>x.cell Y (by omega)
    have a4:∀x:ax wr,x.1.cell? ⟨F,M+k,none⟩=some (U d):=λx=>x.cell d0 (by omega)
    by_cases f:c=d
    ·have t:=Z f;have E:(c != d)=false:=by simp[f]
     clear f;refine aW (by kernel_rfl) (by kernel_rfl) ?_;repeat(go_big_quiet_step (fail))
     refine Km ?_;rintro wx ⟨⟨_,G⟩,rfl⟩;have u:=e.th G;go_wp2;refine⟨⟨k+1,by omega,by go_num,λi O=>?_,u⟩,by simp[intOf];omega⟩
     by_cases I:i=k
     ·subst I;rw[l.o,q.o,t.o]
     exact H.o i (by omega)
    have t:=Z f;have E:(c != d)=true:=by simpa using f
    clear f;refine aW (by kernel_rfl) (by kernel_rfl) ?_;repeat(go_big_quiet_step (fail))
    refine Km ?_;rintro wx ⟨⟨_,G⟩,rfl⟩;have u:=e.th G;go_wp2;go_ret;refine⟨?_,u⟩;have:cs≠ds:=by intro h;have P:=l.o;rw[h,q.o] at P;exact t.o (KG P).symm
    simp[this]
   go_wp2;go_ret;refine⟨?_,e⟩
   have:cs=ds:=by
    refine LD λi=>?_
    by_cases O:i<k
    ·exact H.o i O
    rw[KP (by omega),KP (by omega)]
   simp[this]
 have a6:((cs.length:Int) != (ds.length:Int))=true:=by simp;omega
 have hf:=Z (by simp;intro h;rw[h] at g;exact g rfl:decide (cs=ds)=false);generalize cs.length=n at*;generalize ds.length=m at*;go_enter func25,ntmps25;go_wp2;go_ret;exact⟨by rw[hf.o];rfl,Kf _ _⟩
theorem E7:∃i,prog.info? 35=some i/\i.zero=some (U 0)/\i.size=1/\i.bytes=8:=jL (by kernel_rfl)
def eG(l:List Int):List Value:=l.map λb=>U b
theorem oP(l m:List Int):eG (l++m)=eG l++eG m:=by unfold eG;exact List.map_append
theorem lq(l):(eG l).length=l.length*1:=by unfold eG;simp
theorem gx.full{B w v l}(h:gx B w v l):∃a b,v=.slice a l.length b/\l.length<=b/\b<=maxLen:=by obtain⟨a,b,c,d,e,_⟩:=h;exact⟨a,b,c,d,e⟩
theorem Ac:cG vA.1.1=(kj,0):=by kernel_rfl
theorem Bn(w)(t:dD w):
  cL 23 #[] w λe h=>∃c,e=.returned c/\bE w.1.size h c kj/\bL w h:=by
 have l:Hid (∀X,cL 54 #[.string vA] (w.alloc X) λe h=>∃c,e=.returned (.tuple #[c,U 0])/\bE (w.1.size+1) h c kj/\Below (w.alloc X).1.size (w.alloc X) h):=by
  intro X;have:=kY vA (by decide) _ (t.l (bR.alloc lE X));rw[Ac] at this
  refine this.mono λe h ⟨c,r,k,x⟩=>⟨c,r,?_,x⟩
  rw[Kg] at k;exact k
 have y:∀X,bL w (w.alloc X):=λX=>bR.alloc lE _
 go_enter func23,ntmps23;go_wp2_with (first|(go_at_call 54;go_must (refine(l.o _).mono ?_;rintro e d ⟨c,rfl,s,f⟩;have m:Hid (bE (w.1.size+1) d c kj):=s;obtain⟨E,rfl,z,A⟩:=s.at;obtain⟨i,a,rfl,_,_,_⟩:=A;have j:=f.size;have n:=(f.block w.1.size (by simp)).trans (Kr w _).1;have b:∀X,Na (d.alloc X) w.1.size #[nL,U 0] 30:=λX=>(Kq _ _ _ (by simp at j;omega)).trans n;have F:∀X,(d.alloc X).cell? (pW w 0)=some nL:=λX=>(ag (b X)).1;have G:∀X,(d.alloc X).cell? (pW w 1)=some (U 0):=λX=>(ag (b X)).2.1;have H:∀X,(d.alloc X).frozen? (pW w 0)=false:=λX=>(ag (b X)).2.2.1;have I:∀X,(d.alloc X).frozen? (pW w 1)=false:=λX=>(ag (b X)).2.2.2)));have o:bL w (((d.alloc (.cells #[.slice i kj.1.length a,U kj.2] 30)).setCell (pW w 0) (.slice i kj.1.length a)).setCell (pW w 1) (U kj.2)):=(((((y _).trans (f.mono (by simp))).alloc (by simp at j;omega) _).setCell (p:=pW w 0) lE _).setCell (p:=pW w 1) lE _);have q:=du (u:=U kj.2) (dC (u:=.slice i kj.1.length a) (b (.cells #[.slice i kj.1.length a,U kj.2] 30)));have⟨J,K,_,_⟩:=ag q;refine Ka (v:=.agg #[.slice i kj.1.length a,U kj.2]) ?_ rfl ⟨_,rfl,λB C D=>m.o B (λg r k=>(C g (by omega) (by simp;omega)).trans ?_) (Kl (by simp) D),o⟩
 ·rw[cN rfl];go_simp
 rw[Kc _ _ _ _ (by show g≠w.1.size;omega),Kc _ _ _ _ (by show g≠w.1.size;omega),Kq _ _ _ k]
theorem Cj:cG zu.1.1=(gQ,0):=by kernel_rfl
theorem DP(w)(t:dD w):
  cL 24 #[] w λe h=>∃c,e=.returned c/\bE w.1.size h c gQ/\bL w h:=by
 have l:Hid (∀X,cL 54 #[.string zu] (w.alloc X) λe h=>∃c,e=.returned (.tuple #[c,U 0])/\bE (w.1.size+1) h c gQ/\Below (w.alloc X).1.size (w.alloc X) h):=by
  intro X;have:=kY zu (by decide) _ (t.l (bR.alloc lE X));rw[Cj] at this
  refine this.mono λe h ⟨c,r,k,x⟩=>⟨c,r,?_,x⟩
  rw[Kg] at k;exact k
 have y:∀X,bL w (w.alloc X):=λX=>bR.alloc lE _
 go_enter func24,ntmps24;go_wp2_with (first|(go_at_call 54;go_must (refine(l.o _).mono ?_;rintro e d ⟨c,rfl,s,f⟩;have m:Hid (bE (w.1.size+1) d c gQ):=s;obtain⟨E,rfl,z,A⟩:=s.at;obtain⟨i,a,rfl,_,_,_⟩:=A;have j:=f.size;have n:=(f.block w.1.size (by simp)).trans (Kr w _).1;have b:∀X,Na (d.alloc X) w.1.size #[nL,U 0] 30:=λX=>(Kq _ _ _ (by simp at j;omega)).trans n;have F:∀X,(d.alloc X).cell? (pW w 0)=some nL:=λX=>(ag (b X)).1;have G:∀X,(d.alloc X).cell? (pW w 1)=some (U 0):=λX=>(ag (b X)).2.1;have H:∀X,(d.alloc X).frozen? (pW w 0)=false:=λX=>(ag (b X)).2.2.1;have I:∀X,(d.alloc X).frozen? (pW w 1)=false:=λX=>(ag (b X)).2.2.2)));have o:bL w (((d.alloc (.cells #[.slice i gQ.1.length a,U gQ.2] 30)).setCell (pW w 0) (.slice i gQ.1.length a)).setCell (pW w 1) (U gQ.2)):=(((((y _).trans (f.mono (by simp))).alloc (by simp at j;omega) _).setCell (p:=pW w 0) lE _).setCell (p:=pW w 1) lE _);have q:=du (u:=U gQ.2) (dC (u:=.slice i gQ.1.length a) (b (.cells #[.slice i gQ.1.length a,U gQ.2] 30)));have⟨J,K,_,_⟩:=ag q;refine Ka (v:=.agg #[.slice i gQ.1.length a,U gQ.2]) ?_ rfl ⟨_,rfl,λB C D=>m.o B (λg r k=>(C g (by omega) (by simp;omega)).trans ?_) (Kl (by simp) D),o⟩
 ·rw[cN rfl];go_simp
 rw[Kc _ _ _ _ (by show g≠w.1.size;omega),Kc _ _ _ _ (by show g≠w.1.size;omega),Kq _ _ _ k]
