import Derived.Test.YtffnfdfjojidfaaGreatDoorWr02
set_option linter.all false
set_option maxRecDepth 100000
set_option maxHeartbeats 8000000
namespace Go.Proofs.YtffnfdfjojidfaaGreatDoor
open Go.RowKit Go.Maps Go.Proofs.Tryz
def vC:Array Value:=#[.string ⟨#[107,105,108,108]⟩,.string ⟨#[116,114,97,112]⟩,.string ⟨#[102,97,105,108]⟩,.string ⟨#[108,111,103]⟩,.string ⟨#[97,108,108,111,119]⟩]
def fC:Array Value:=#[.string ⟨#[110,114]⟩,.string ⟨#[107,105,110,100]⟩,.string ⟨#[97]⟩,.string ⟨#[98]⟩,.string ⟨#[99]⟩]
theorem jE(w):cL 188 #[] w λe a=>e=.returned (.slice (sO w.1.size) 5 5)/\a=w.alloc (.cells vC 9):=by go_enter func188,ntmps188;go_wp2;go_ret;exact⟨rfl,rfl⟩
theorem oO(w):cL 214 #[] w λe a=>e=.returned (.slice (sO w.1.size) 5 5)/\a=w.alloc (.cells fC 9):=by go_enter func214,ntmps214;go_wp2;go_ret;exact⟨rfl,rfl⟩
def dT(b:Nat)(cs:Array Value)(w:World):Prop:=∀j u,cs[j]?=some u->w.cell? ⟨b,j,none⟩=some u
theorem dT.made(w:World)(cs T):dT w.1.size cs (w.alloc (.cells cs T)):=by intro j u h;rw[World.cell?_alloc_at _ _ _ _ rfl];exact h
theorem dT.l{b cs w w'}(h:dT b cs w)(c:bL w w')(a:b<w.1.size):dT b cs w':=λj u d=>(c.cell (p:=⟨b,j,none⟩) a).trans (h j u d)
theorem tV(a:List Bs)(cs:Array Value)(c:cs=(a.map λn=>Value.string (dU n)).toArray)(d:a.length=5)(b x w)(h:dT b cs w):
  cL 203 #[.slice (sO b) 5 5,.string x] w λe g=>e=.returned (U (bt a x.1.1))/\g=w:=by
 have:=Tryz.slices_Index_string b 0 5 5 (a.map dU) x w (by simp[d]) (by decide) (λj f=>by
  rw[Kp];refine h j _ ?_;rw[c];simp at f
  simp[List.getD,f])
 rw[Ki (by simp[d]),uh] at this;exact this
theorem ot(x w):
  cL 221 #[.string x] w (rT w (.tuple #[U (bt vN x.1.1),.bool (decide (0<=bt vN x.1.1))])):=by
 have b:Hid (cL 203 #[.slice (MZ w) 5 5,.string x] (w.alloc (.cells vC 9)) λe a=>e=.returned (U (bt vN x.1.1))/\a=w.alloc (.cells vC 9)):=tV vN vC rfl rfl w.1.size x _ (dT.made w vC 9);have c:Hid (bL w (w.alloc (.cells vC 9))):=bR.alloc lE _;generalize bt vN x.1.1=d at*;go_enter func221,ntmps221;go_wp2_with fail;go_at_call 188;refine(jE _).mono ?_;rintro e f ⟨rfl,rfl⟩;generalize g:w.alloc (.cells vC 9)=W at*;go_wp2_with fail;go_at_call 203;refine b.o.mono ?_;rintro e h ⟨rfl,rfl⟩;go_wp2_with fail;go_ret2;exact⟨rfl,c.o⟩
def Ef(c:Option aN):Value:=match c with
 |some c=>.agg #[U c.1,U c.2.1,U c.2.2]
 |none=>.agg #[U 0,U 0,U 0]
def Ju(W:World)(a:Nat->Value->Prop)(w:World):Prop:=
 bL W w/\∀v,a 0 v->∃b:Nat,v=.slice (sO b) 5 5/\b<w.1.size/\dT b fC w
def Jk(a:Int)(k:Nat)(v:Value):Prop:=if k=0 then ∃b:Nat,v=.slice (sO b) 5 5 else v=U a
theorem EB(ix k):∃v,Jk ix k v:=by
 unfold Jk
 split
 ·exact⟨_,0,rfl⟩
 exact⟨_,rfl⟩
theorem eL{W:World}{b:Nat}{a c d:Value}{T}(h:W.1[b]?=some (.cells #[a,c,d] T (0,0))):
  (W.cell? (pA b 0)=some a/\W.cell? (pA b 1)=some c/\W.cell? (pA b 2)=some d)/\W.frozen? (pA b 0)=false/\W.frozen? (pA b 1)=false/\W.frozen? (pA b 2)=false:=by
 simp[World.cell?,World.frozen?,h]
theorem pF{W:World}{b:Nat}{a c d u0 u1 u2:Value}{T}(h:W.1[b]?=some (.cells #[a,c,d] T (0,0))):
  (((W.setCell (pA b 0) u0).setCell (pA b 1) u1).setCell (pA b 2) u2).1[b]?=some (.cells #[u0,u1,u2] T (0,0)):=
 ap (o:=2) (u:=u2) (ap (o:=1) (u:=u1) (ap (o:=0) (u:=u0) h))
theorem lJ{B b:Nat}{a W}(h:Below B a W)(c:B<=b)(u0 u1 u2:Value):Below B a (((W.setCell (pA b 0) u0).setCell (pA b 1) u1).setCell (pA b 2) u2):=
 h.s3 c
theorem lU(c:Bs):∀l:Bs,Lib.indexAny l c<l.length
 |[]=>by simp[Lib.indexAny]
 |b :: l=>by
  have:=lU c l;unfold Lib.indexAny;rw[Kv]
  split
  ·omega
  split<;>omega
theorem ny(c:UInt8):∀l:Bs,Lib.indexByte l c<l.length
 |[]=>by simp[Lib.indexByte]
 |b :: l=>by
  have:=ny c l;unfold Lib.indexByte;rw[Kv]
  split
  ·omega
  split<;>omega
theorem GQ{l:Bs}{n:Int}(h:cS l=some n):wf n:=by
 unfold cS at h
 split at h
 ·rename_i v a;have⟨b,c⟩:=qD a
  split at h
  ·cases h;unfold wf;exact L4 (by omega)
  cases h
 cases h
theorem cR{n:Int}(h : -9223372036854775808<=n/\n<=9223372036854775807):wf n:=by unfold wf;exact L4 (by omega)
theorem yZ{l:Bs}{c:aN}(h:cZ l=some c):wf c.1/\wf c.2.1/\wf c.2.2:=by
 unfold cZ at h
 split at h
 ·cases h
 split at h
 ·cases h
 rename_i n a
 split at h
 ·cases h
 cases h;have b:=jO fN (l.take (Lib.indexAny l fU).toNat);have g:=Lib.indexByte_ge fU (l.getD (Lib.indexAny l fU).toNat 0);have d:=ny (l.getD (Lib.indexAny l fU).toNat 0) fU;have e:fN.length=5:=rfl;have f:fU.length=4:=rfl;rw[e] at b;rw[f] at d;exact⟨cR (by simp only[];omega),cR (by simp only[];omega),GQ a⟩
theorem An(s:ByteArray)(hs:s.size<=4294967280)(w)(he:dD w):
  cL 230 #[.string s] w (rT w (.tuple #[Ef (cZ s.1.1),.bool (cZ s.1.1).isSome])):=by
 have O:Hid (∀a,cL 249 #[.string s,.string ⟨#[61,33,60,62]⟩] a (rT a (U (Lib.indexAny s.1.1 fU)))):=λa=>A9 s (by omega) a
 have D:=Lib.indexAny_ge fU s.1.1;have l:=lU fU s.1.1;rw[<-KR] at l;have P:∀X,bL w (w.alloc X):=λX=>bR.alloc lE _
 have Q:Hid (∀a T,Below (w.1.size+1) (w.alloc (.cells #[U 0,U 0,U 0] T)) a->Na a w.1.size #[U 0,U 0,U 0] T/\bL w a):=λa T h=>⟨(h.block w.1.size (by omega)).trans (Kr w _).1,(P _).trans (h.mono (by omega))⟩
 by_cases o:Lib.indexAny s.1.1 fU<0
 ·have M:Hid (cZ s.1.1=none):=by unfold Hid cZ;rw[Io o]
  generalize Lib.indexAny s.1.1 fU=ix at*;go_enter func230,ntmps230;go_wp2_with fail;go_at_call 249;refine(O.o _).mono ?_;rintro e B ⟨rfl,p⟩;simp only[Kg] at p;have⟨r,d⟩:=Q.o _ _ p;have⟨⟨c0,c1,c2⟩,f0,f1,f2⟩:=eL r;have f:Hid _:=r;clear r D l;go_wp2_with fail;have⟨⟨R,S,V⟩,_⟩:=eL (pF (u0:=U 0) (u1:=U 0) (u2:=U 0) f.o);refine Ka (v:=.tuple #[.agg #[U 0,U 0,U 0],.bool false]) ?_ rfl ⟨by rw[M.o];rfl,lJ d lE _ _ _⟩;rw[K8 rfl];go_simp
 obtain⟨i,W⟩:∃i:Nat,Lib.indexAny s.1.1 fU=i:=⟨(Lib.indexAny s.1.1 fU).toNat,by omega⟩;have t:i<s.size:=by omega
 obtain⟨x,Y⟩:∃x:UInt8,s[i]'t=x:=⟨_,rfl⟩;have E:s.1.1.getD i 0=x:=by rw[Kn,Lib.data_getElem? s i t,Y];rfl
 have b2:∀w,(Instr.index 9 (.string s) (U i)).run prog w=.ok (.int .u8 x.toNat) w:=λw=>by have:=j5 s i t w;rw[Y] at this;exact this
 have M:Hid (cZ s.1.1=match cS (s.1.1.drop (i+1)) with
  |none=>none
  |some n=>if bt fN (s.1.1.take i)<0 then none else some (bt fN (s.1.1.take i),1+Lib.indexByte fU x,n)):=by
  unfold Hid cZ;rw[W];simp only[L3,E];rw[iO (by omega)];rfl
 rw[W] at O;have HN:Hid (∀a,bL w a->cL 176 #[.string (s.extract (i+1) s.size)] a λe g=>∃n ok,e=.returned (.tuple #[U n,.bool ok])/\(cS (s.1.1.drop (i+1))=if ok=true then some n else none)/\wf n/\bL a g):=λa p=>by have:=kV (s.extract (i+1) s.size) (by rw[ByteArray.size_extract];omega) a (he.l p);rw[rI] at this;exact this
 have HX:Hid (∀b a,dT b fC a->cL 203 #[.slice (sO b) 5 5,.string (s.extract 0 i)] a λe g=>e=.returned (U (bt fN (s.1.1.take i)))/\g=a):=λb a hn=>by have:=tV fN fC rfl rfl b (s.extract 0 i) a hn;rw[Lib.extract_from_zero] at this;exact this
 have HY:Hid (∀a,cL 250 #[.string ⟨#[61,33,60,62]⟩,.int .u8 x.toNat] a λe g=>e=.returned (U (Lib.indexByte fU x))/\g=a):=λa=>by have:=Tryz.strings_IndexByte jC x.toNat a;rw[show ((x.toNat:Int)).toNat.toUInt8=x by simp] at this;exact this
 have b6:=Lib.indexByte_ge fU x;have b7:Lib.indexByte fU x<4:=ny x fU;have b8:IntKind.i64.wrap (1+Lib.indexByte fU x)=1+Lib.indexByte fU x:=KA _ (by omega);have b9:IntKind.i64.wrap ((i:Int)+1)=(i:Int)+1:=KA _ (by omega)
 have F:∀w,(Instr.sliceAt 9 (.string s) none (some (U i)) none).run prog w=.ok (.string (s.extract 0 i)) w:=λw=>by
  have:(i:Int)<=(s.size:Int):=by omega
  have h2:i<=s.size:=by omega
  simp[go_sem,this,h2,Tryz.underlying9]
 have a9:∀w,(Instr.sliceAt 9 (.string s) (some (U ((i:Int)+1))) none none).run prog w=.ok (.string (s.extract (i+1) s.size)) w:=λw=>pJ s (i+1) (by omega) w
 clear Y E D o W;generalize bt fN (s.1.1.take i)=j at*;generalize Lib.indexByte fU x=oy at*;generalize m:cS (s.1.1.drop (i+1))=nd at*;clear m;have bb:¬((i:Int)<0):=by omega
 go_enter func230,ntmps230;go_wp2_with fail;go_at_call 249;refine(O.o _).mono ?_;rintro e B ⟨rfl,p⟩;simp only[Kg] at p;have G:w.1.size+1<=B.1.size:=by have:=p.size;simpa using this
 go_wp2_with fail
 have H:Hid (∀fs a,Ju B fs a->∃z:ax B,a=z.1):=λfs a h=>⟨⟨a,h.1⟩,rfl⟩
 have a2:=ax.ne B;refine bJ [_,_,_,_,_] _ rfl (λk=>k==0||k==4) (Ju B) (Jk j) (EB j) (by kernel_rfl) (by kernel_rfl) ⟨bR.drew,λ_ h=>h.elim⟩ ?_;refine bw 214 #[] rfl rfl (λa=>by kernel_rfl) (λgs a C q a3=>?_) (λv0 a4=>?_)
 ·refine(oO a).mono ?_;rintro e w2 ⟨rfl,rfl⟩;have d:bL a (a.alloc (.cells fC 9)):=bR.alloc lE _;refine⟨_,rfl,⟨_,rfl⟩,C.1.th d,λv u=>?_⟩
  rcases u with u|⟨_,rfl⟩
  ·obtain⟨b,rfl,l,hn⟩:=C.2 v u;exact⟨b,rfl,by simp;omega,hn.l d l⟩
  exact⟨_,rfl,by simp,dT.made a fC 9⟩
 go_frame;obtain⟨b,rfl⟩:∃b:Nat,v0=.slice (sO b) 5 5:=a4;iterate 2(refine aP H.o rfl rfl ?_;go_big_quiet_step (fail);refine Km ?_)
 refine fD (.string (s.extract 0 i)) rfl rfl (λa=>gg (F a)) ?_;go_frame;refine bw 203 #[.slice (sO b) 5 5,.string (s.extract 0 i)] rfl rfl (λa=>by kernel_rfl) (λgs a C q a3=>?_) (λv4 a5=>?_)
 ·have⟨b',e',ae,a6⟩:=C.2 _ (q 0 _ (.inr ⟨rfl,rfl⟩) (au (by kernel_rfl)));simp at e';subst e';refine(HX.o b a a6).mono ?_;rintro e w2 ⟨rfl,rfl⟩;refine⟨_,rfl,rfl,C.1,λv u=>?_⟩
  rcases u with u|⟨h,_⟩
  ·exact C.2 v u
  cases h
 go_frame;obtain rfl:v4=U j:=a5;refine ei ?_;intro w2 y;have I:=Below.tO p y.1 G;have J:=y.1.u G;clear y a2 H;go_wp2_with fail;go_at_call 176;refine(HN.o _ (Q.o _ _ I).2).mono ?_;rintro e w3 ⟨n,ok,rfl,m,a7,A⟩;have K:=Below.tO I A J;have bg:=A.u J;have⟨r,d⟩:=Q.o _ _ K;have⟨⟨c0,c1,c2⟩,f0,f1,f2⟩:=eL r;have f:Hid _:=r;have L:Hid _:=m;clear r A m a7
 by_cases c:j<0\/ok=false
 ·have N:Hid (cZ s.1.1=none):=by
   unfold Hid;rw[M.o,L.o]
   cases ok with
   |false=>rfl
   |true=>
    have:j<0:=by simpa using c
    simp[this]
  by_cases hf:j<0
  ·go_wp2_with fail;have⟨⟨R,S,V⟩,_⟩:=eL (pF (u0:=U 0) (u1:=U 0) (u2:=U 0) f.o);refine Ka (v:=.tuple #[.agg #[U 0,U 0,U 0],.bool false]) ?_ rfl ⟨by rw[N.o];rfl,lJ d lE _ _ _⟩;rw[K8 rfl];go_simp
  obtain rfl:ok=false:=by simpa [hf] using c
  clear c;go_wp2_with fail;have⟨⟨R,S,V⟩,_⟩:=eL (pF (u0:=U 0) (u1:=U 0) (u2:=U 0) f.o);refine Ka (v:=.tuple #[.agg #[U 0,U 0,U 0],.bool false]) ?_ rfl ⟨by rw[N.o];rfl,lJ d lE _ _ _⟩;rw[K8 rfl];go_simp
 have hf:¬j<0:=λh=>c (.inl h)
 obtain rfl:ok=true:=by cases ok with|true=>rfl|false=>exact absurd (.inr rfl) c
 have N:Hid (cZ s.1.1=some (j,1+oy,n)):=by unfold Hid;rw[M.o,L.o];simp[hf]
 clear c;go_wp2_with fail;go_at_call 250;refine(HY.o _).mono ?_;rintro e w4 ⟨rfl,rfl⟩;go_wp2_with fail;have⟨⟨R,S,V⟩,_⟩:=eL (pF (u0:=U j) (u1:=U (1+oy)) (u2:=U n) f.o);refine Ka (v:=.tuple #[.agg #[U j,U (1+oy),U n],.bool true]) ?_ rfl ⟨by rw[N.o];rfl,lJ d lE _ _ _⟩;rw[K8 rfl];go_simp
theorem ry(c):∀ (l:Bs) (p:Bs),p∈bI c l->p.length<=l.length
 |[],p,h=>by simp[bI] at h;subst h;simp
 |b :: l,p,h=>by
  have a:=ry c l;unfold bI at h
  split at h
  ·simp at h
   rcases h with rfl|h
   ·simp
   have:=a p h;simp;omega
  split at h
  ·simp at h;subst h;simp
  rename_i d f e;rw[e] at a;simp at h
  rcases h with rfl|h
  ·have:=a d (by simp);simp;omega
  have:=a p (by simp[h]);simp;omega
theorem yQ(c)(s:ByteArray)(i:s.size<=4294967280)(w)(b:tO w):∃a:List ByteArray,a.map (·.1.1)=bI c s.1.1/\
  cL 88 #[.string s,.string ⟨#[c]⟩] w λe d=>e=.returned (.slice (sO w.1.size) a.length a.length)/\d=w.alloc (.cells (a.map Value.string).toArray 9):=by
 obtain⟨f,g⟩:=b;have h:=Tryz.strings_Split s ⟨#[c]⟩ f w (by omega) g (Ke 1);refine⟨Lib.splitB ⟨#[c]⟩ 0 (Lib.countB s ⟨#[c]⟩) s,?_,?_⟩
 ·rw[Lib.splitB_data,<-jp];rfl
 rw[Lib.splitB_all ⟨#[c]⟩ (Ke 1) 0 _ s rfl];exact h
def ez(L:Nat)(w:World)(v:Value)(cs:List aN):Prop:=
 ∃a d,v=.slice a cs.length d/\cs.length<=d/\d<=maxLen/\∀i c,cs[i]?=some c->∃b o,a=some ⟨b,o,none⟩/\L<=b/\b<w.1.size/\iu w b (o+i*3) c
theorem ez.nil(L w):ez L w nL []:=⟨none,0,rfl,Ke _,Ks _,λi c h=>by simp at h⟩
theorem cE{w w':World}{b:Nat}(h:w'.1[b]?=w.1[b]?)(o:Nat):w'.cell? ⟨b,o,none⟩=w.cell? ⟨b,o,none⟩:=by unfold World.cell?;rw[h]
theorem ez.keep{L}{w w':World}{v cs}(h:ez L w v cs)(l:∀g,L<=g->g<w.1.size->w'.1[g]?=w.1[g]?)(m:w.1.size<=w'.1.size):ez L w' v cs:=by obtain⟨a,d,n,p,q,r⟩:=h;refine⟨a,d,n,p,q,λi c s=>?_⟩;have⟨b,o,e,j,t,k⟩:=r i c s;refine⟨b,o,e,j,by omega,?_⟩;have f:=l b j t;unfold iu;rw[cE f,cE f,cE f];exact k
theorem ez.mono{L f:Nat}{w v cs}(h:ez L w v cs)(q:f<=L):ez f w v cs:=by obtain⟨a,d,g,j,l,m⟩:=h;refine⟨a,d,g,j,l,λi c n=>?_⟩;have⟨b,o,e,r,p,k⟩:=m i c n;exact⟨b,o,e,by omega,p,k⟩
theorem ez.at{L w v cs}(h:ez L w v cs):bG w.1.size w v cs:=by obtain⟨a,d,f,g,j,l⟩:=h;refine⟨a,d,f,g,j,λi c m=>?_⟩;have⟨b,o,e,p,n,k⟩:=l i c m;exact⟨b,o,e,n,k⟩
def FA(n:Nat)(cs:List aN)(a:Array Value):Prop:=
 a.size=n*3/\∀i c,cs[i]?=some c->a[i*3]?=some (U c.1)/\a[i*3+1]?=some (U c.2.1)/\a[i*3+2]?=some (U c.2.2)
def DG(a:Array Value)(o:Nat)(b c d:Value):Array Value:=((a.setIfInBounds o b).setIfInBounds (o+1) c).setIfInBounds (o+2) d
theorem FA.put{n cs cur}(h:FA n cs cur)(b:cs.length<n)(c:aN):FA n (cs++[c]) (DG cur (cs.length*3) (U c.1) (U c.2.1) (U c.2.2)):=by
 obtain⟨f,g⟩:=h;refine⟨by simp[DG,f],λi d a=>?_⟩;have q:i<cs.length+1:=by have:=(K9.1 a).1;simpa using this
 by_cases e:i=cs.length
 ·subst e;rw[Kk lE] at a;simp at a;subst a;have j:cs.length*3<cur.size:=by omega
  have k:cs.length*3+1<cur.size:=by omega
  have l:cs.length*3+2<cur.size:=by omega
  unfold DG;simp only[KC];refine⟨?_,?_,?_⟩<;>simp[j,k,l]
 rw[Kh (by omega)] at a;have⟨m,o,p⟩:=g i d a;unfold DG;simp only[KC];refine⟨?_,?_,?_⟩
 ·rw[iO (by omega),iO (by omega),iO (by omega)];exact m
 ·rw[iO (by omega),iO (by omega),iO (by omega)];exact o
 rw[iO (by omega),iO (by omega),iO (by omega)];exact p
theorem GE{w:World}{g o:Nat}{a:Array Value}{b c d:Value}{T}(h:w.1[g]?=some (.cells a T (0,0))):(((w.setCell ⟨g,o,none⟩ b).setCell ⟨g,o+1,none⟩ c).setCell ⟨g,o+2,none⟩ d).1[g]?=some (.cells (DG a o b c d) T (0,0)):=
 ap (o:=o+2) (u:=d) (ap (o:=o+1) (u:=c) (ap (o:=o) (u:=b) h))
theorem Eo{w:World}{g k:Nat}(o:Nat)(a b c:Value)(h:k≠g):(((w.setCell ⟨g,o,none⟩ a).setCell ⟨g,o+1,none⟩ b).setCell ⟨g,o+2,none⟩ c).1[k]?=w.1[k]?:=by rw[Kc _ _ _ _ (by show k≠g;exact h),Kc _ _ _ _ (by show k≠g;exact h),Kc _ _ _ _ (by show k≠g;exact h)]
theorem jd{w:World}{g:Nat}{a:Array Value}{T}(h:w.1[g]?=some (.cells a T (0,0)))(o:Nat)(b:o<a.size):(∃u,w.cell? ⟨g,o,none⟩=some u)/\w.frozen? ⟨g,o,none⟩=false:=by refine⟨⟨a[o],?_⟩,fZ h _⟩;simp[World.cell?,h,b]
def Jy(G:Nat)(W:World)(b a:Array Value)(T:TypeId)(c:Nat->Value->Prop)(w:World):Prop:=
 Below G W w/\(∀k,k<W.1.size->k≠G->w.1[k]?=W.1[k]?)/\((∀v,¬c 9 v)->w.1[G]?=some (.cells b T (0,0)))/\((∃v,c 9 v)->w.1[G]?=some (.cells a T (0,0)))
def J7(a:Value)(k:Nat)(v:Value):Prop:=if k=4 then v=a else True
theorem FH(v4 k):∃v,J7 v4 k v:=by
 unfold J7
 split
 ·exact⟨_,rfl⟩
 exact⟨undef,trivial⟩
def y9(G:Nat)(W:World):Type:={ w':World // ∀k,k<W.1.size->k≠G->w'.1[k]?=W.1[k]? }
theorem y9.ne(G W):Nonempty (y9 G W):=⟨⟨W,λ_ _ _=>rfl⟩⟩
theorem y9.cell{G W}(x:y9 G W){b o:Nat}{v:Value}(h:W.cell? ⟨b,o,none⟩=some v)(a:b≠G):x.1.cell? ⟨b,o,none⟩=some v:=by rw[cE (x.2 b (KE _ _ h) a)];exact h
theorem CN(n:Nat)(f:n<=4294967281)(w:World):(Instr.makeSlice 131 (U n) (U n)).run prog w=.ok (.slice (sO w.1.size) n n) (w.alloc (.cells (madeCells #[U 0,U 0,U 0] (n*3)) 136)):=by
 obtain⟨a,b,c,d,e⟩:=mJ;have:=MQ (P:=prog) w 131 136 a _ Tryz.underlying131 b c .i64 .i64 n n (by omega) (LH _) (by rw[e];omega) (by omega);rw[d] at this
 simpa [Value.cells] using this
theorem Ck{l h:Bs}{t:List Bs}(e:bI 32 l=h :: t):cC l=if bt vN h<0 then none else match ep cZ t with
  |none=>none
  |some a=>some (a,bt vN h):=by
 unfold cC;rw[e];rfl
theorem Fv(i n G:Nat)(h:i<n)(w:World):(Instr.indexAt 131 (.slice (sO G) n n) (U i)).run prog w=.ok (.pointer (some ⟨G,i*3,none⟩)) w:=by
 have a:(i:Int)<(n:Int):=by omega
 have b:(0:Int)<=(i:Int):=by omega
 go_simp
theorem Aa(s:ByteArray)(hs:s.size<=4294967280)(w)(he:dD w):
  cL 220 #[.string s] w λe f=>∃cv,e=.returned (.tuple #[.agg #[cv,U ((cC s.1.1).getD ([],0)).2],.bool (cC s.1.1).isSome])/\ez w.1.size f cv ((cC s.1.1).getD ([],0)).1/\bL w f:=by
 have bb:∀X,bL w (w.alloc X):=λX=>bR.alloc lE _
 have⟨ps,E,L⟩:=yQ 32 s hs (w.alloc (.cells #[nL,U 0] 133)) (he.l (bb _)).1;have bc:∀p∈ps,p.size<=4294967280:=by intro p hp;have:=ry 32 s.1.1 p.1.1 (by rw[<-E];exact Md.2 ⟨p,hp,rfl⟩);rw[<-KR,<-KR] at this;omega
 have a2:ps.length<=s.size+1:=by
  have h1:ps.length=(bI 32 s.1.1).length:=by rw[<-E];simp
  rw[h1,<-jp];unfold Lib.split
  have:∀k (l:Bs),(Lib.splitK [32] 0 k l).length<=k+1:=by
   intro k
   induction k with
   |zero=>intro l;simp[Lib.splitK]
   |succ k ih=>
    intro l;unfold Lib.splitK;split
    ·simp
    simp;exact ih _
  have h2:=this (Lib.count s.1.1 [32]) s.1.1;rw[MG] at h2;have h3:=List.count_le_length (a:=(32:UInt8)) (l:=s.1.1);rw[<-KR] at h3;rw[MG];omega
 cases ps with
 |nil=>exact absurd E.symm (fM 32 _)
 |cons F pt=>
  have hR:=Ck (l:=s.1.1) (h:=F.1.1) (t:=pt.map (λp:ByteArray=>p.1.1)) E.symm
  have HR:Hid (cC s.1.1=if bt vN F.1.1<0 then none else match ep cZ (pt.map (λp:ByteArray=>p.1.1)) with
   |none=>none
   |some m=>some (m,bt vN F.1.1)):=hR
  have av:(F :: pt).length=pt.length+1:=rfl;rw[av] at L a2;have bd:Hid _:=L;have ce:Hid (∀ (j:Nat) (p:ByteArray),pt[j]?=some p->p.size<=4294967280):=λj p hj=>bc p (by simp[Kb hj])
  have HV:Hid (∀f,cL 221 #[.string F] f (rT f (.tuple #[U (bt vN F.1.1),.bool (decide (0<=bt vN F.1.1))]))):=λf=>ot F f
  have ed:=jh vN F.1.1;have ee:bt vN F.1.1<5:=jO vN _;have⟨W1,P⟩:=nM ((w.alloc (.cells #[nL,U 0] 133)).alloc (.cells ((F :: pt).map Value.string).toArray 9));have bf:bL w W1:=by rw[P];exact(bb _).alloc (by simp) _
  have bg:W1.1.size=w.1.size+2:=by rw[P];simp
  have b:W1.1[w.1.size]?=some (.cells #[nL,U 0] 133 (0,0)):=by rw[P,Kq _ _ _ (by simp)];exact(Kr w _).1
  have x:dT (w.1.size+1) ((F :: pt).map Value.string).toArray W1:=by have:=dT.made (w.alloc (.cells #[nL,U 0] 133)) ((F :: pt).map Value.string).toArray 9;rw[Kg] at this;rw[P];exact this
  have ef:W1.cell? ⟨w.1.size+1,0,none⟩=some (.string F):=x 0 _ (by simp)
  have HW:Hid (∀f,Below (w.1.size+2) W1 f->f.1[w.1.size]?=some (.cells #[nL,U 0] 133 (0,0))/\(∀ (j:Nat) (p:ByteArray),pt[j]?=some p->f.cell? ⟨w.1.size+1,j+1,none⟩=some (.string p))/\bL w f):=λf h=>
   ⟨h.bk b,λj p hj=>(h.cell (p:=⟨w.1.size+1,j+1,none⟩) (by show w.1.size+1<_;omega)).trans (x (j+1) _ (by simp[hj])),bf.trans (h.mono (by omega))⟩
  generalize ck:bt vN F.1.1=y at*;clear ck hR E bc b x;have T:=CN pt.length (by omega);generalize bk:pt.length=n at*;have b2:=Z bk;clear bk;have eg:IntKind.i64.wrap (n:Int)=(n:Int):=KA _ (by omega);have ej:=ai;have⟨mc,b3⟩:=nM (madeCells #[U 0,U 0,U 0] (n*3));have ac:mc.size=n*3:=by rw[b3];exact LS _ _
  rw[<-b3] at T;have bm:∀w,(Instr.makeSlice 131 (U n) (U n)).run prog w=.ok (.slice (MZ w) n n) (w.alloc (.cells mc 136)):=T;clear T b3;go_enter func220,ntmps220;go_wp2_with fail;go_at_call 88;refine Calls.mono bd.o ?_;rintro e w1 ⟨rfl,bo⟩;simp only[Kg];rw[<-P] at bo;subst bo;clear P bd;go_wp2_with fail;go_at_call 221;refine Calls.mono (HV.o _) ?_;rintro e w2 ⟨rfl,Q⟩
  try unfold bL at Q
  rw[bg] at Q;have ek:w.1.size+2<=w2.1.size:=by have:=Q.size;omega
  have⟨b,x,bp⟩:=HW.o _ Q
  by_cases b4:y<0
  ·have hN:Hid (cC s.1.1=none):=by unfold Hid;rw[HR.o,Io b4]
   have cl:decide (0<=y)=false:=KD (by omega);have⟨t0,t1,t2,t3⟩:=ag b;have q:Hid _:=b;clear b x bm;go_wp2_with fail;have H:=du (u:=U 0) (dC (u:=nL) q.o);have⟨z0,z1,_,_⟩:=ag H;refine Ka (v:=.tuple #[.agg #[nL,U 0],.bool false]) ?_ rfl ⟨nL,by rw[hN.o];rfl,by rw[hN.o];exact ez.nil _ _,bp.s2 lE⟩;rw[K8 rfl];go_simp
  have cl:decide (0<=y)=true:=KS (by omega);have dp:Hid (wf y):=cR (by omega)
  have br:Hid (cC s.1.1=match ep cZ (pt.map (λp:ByteArray=>p.1.1)) with
   |none=>none
   |some m=>some (m,y)):=by unfold Hid;rw[HR.o,iO b4]
  clear HR b x b4;have⟨G,hG⟩:=nM (w2.1.size);have⟨W4,A⟩:=nM ((w2.alloc (.cells mc 136)).alloc (.cells #[.slice (MZ w2) n n,U y] 133));have bs:Below G w2 W4:=by rw[hG,A];exact(bR.alloc lE _).alloc (by simp) _
  have el:W4.1.size=G+2:=by rw[hG,A];simp
  have em:w.1.size+2<=G:=by omega
  have I:W4.1[G]?=some (.cells mc 136 (0,0)):=by rw[hG,A,Kq _ _ _ (by simp)];exact(Kr w2 _).1
  have J:W4.1[G+1]?=some (.cells #[.slice (some ⟨G,0,none⟩) n n,U y] 133 (0,0)):=by have:=(Kr (w2.alloc (.cells mc 136)) (.cells #[.slice (MZ w2) n n,U y] 133)).1;rw[Kg] at this;rw[A,hG];exact this
  have ae:Hid (∀ (wr:World) (g:Array Value) (m:List aN),Below G W4 wr->wr.1[G]?=some (.cells g 136 (0,0))->FA n m g->m.length=n->(∀c∈m,wf c.1/\wf c.2.1/\wf c.2.2)->ep cZ (pt.map (λp:ByteArray=>p.1.1))=some m->
    ∃cv,(.tuple #[.agg #[.slice (some ⟨G,0,none⟩) n n,U y],.bool true]:Value)=(.tuple #[.agg #[cv,U ((cC s.1.1).getD ([],0)).2],.bool (cC s.1.1).isSome])/\ez w.1.size ((wr.setCell (pW w 0) (.slice (some ⟨G,0,none⟩) n n)).setCell (pW w 1) (U y)) cv ((cC s.1.1).getD ([],0)).1/\bL w ((wr.setCell (pW w 0) (.slice (some ⟨G,0,none⟩) n n)).setCell (pW w 1) (U y))):=by
   intro wr g m R B V S a5 M;have hr:cC s.1.1=some (m,y):=by rw[br.o,M]
   rw[hr];refine⟨.slice (some ⟨G,0,none⟩) n n,rfl,⟨some ⟨G,0,none⟩,n,by simp[S],by simp[S],by omega,λi c hc=>⟨G,0,rfl,by omega,?_,?_⟩⟩,?_⟩
   ·have:=io B;simp;exact this
   ·have hi:i<n:=by have:=(K9.1 hc).1;simp at this;omega
    have⟨k0,k1,k2⟩:=V.2 i c hc;have K:∀o u,g[o]?=some u->((wr.setCell (pW w 0) (.slice (some ⟨G,0,none⟩) n n)).setCell (pW w 1) (U y)).cell? ⟨G,o,none⟩=some u:=by intro o u hu;rw[World.cell?_setCell_other _ _ _ _ (by intro e;cases e;omega),World.cell?_setCell_other _ _ _ _ (by intro e;cases e;omega)];simp[World.cell?,B,hu]
    rw[Kp];exact⟨K _ _ k0,K _ _ k1,K _ _ k2,a5 c (Kb hc)⟩
   exact((((HW.o w2 Q).2.2.trans (bs.mono (by omega))).trans (R.mono (by omega))).setCell (p:=pW w 0) lE _).setCell (p:=pW w 1) lE _
  have a6:Hid (∀wr,Below G W4 wr->wr.1[w.1.size]?=some (.cells #[nL,U 0] 133 (0,0))/\(∀ (j:Nat) (p:ByteArray),pt[j]?=some p->wr.cell? ⟨w.1.size+1,j+1,none⟩=some (.string p))/\bL w wr):=λwr h=>HW.o wr (Q.trans ((bs.trans h).mono (by omega)))
  by_cases d2:n=0
  ·subst d2;have d3:pt=[]:=LA.1 b2.o;have dv:∀w,(Instr.makeSlice 131 (U 0) (U 0)).run prog w=.ok (.slice (MZ w) 0 0) (w.alloc (.cells mc 136)):=bm;go_wp2_with fail;rw[<-A,<-hG];clear A hG;go_loop [31] (λi=>i=U 0) (λ_=>0)
   case atStart=>rfl
   case round=>
    subst hrel;have⟨b,_,_⟩:=a6.o _ bR;have⟨t0,t1,t2,t3⟩:=ag b;have⟨b0,b1,_,_⟩:=ag J;have q:Hid _:=b;have hE:=ae.o W4 mc [] bR I ⟨ac,λi c h=>by simp at h⟩ rfl (λc h=>by cases h) (by rw[d3];rfl);have b5:Hid _:=hE;clear b hE J I;have bx:¬(G+1=w.1.size):=by omega
    have bz:¬(w.1.size=G+1):=by omega
    go_wp2_with fail;have H:=du (u:=U y) (dC (u:=.slice (some ⟨G,0,none⟩) 0 0) q.o);have⟨z0,z1,_,_⟩:=ag H;obtain⟨cv,e1,e2,e3⟩:=b5.o;refine Ka (v:=.tuple #[.agg #[.slice (some ⟨G,0,none⟩) 0 0,U y],.bool true]) ?_ rfl ⟨cv,by rw[e1],e2,e3⟩;rw[K8 rfl];go_simp
  go_wp2_with fail;rw[<-A,<-hG];clear A hG;go_loopw [31] (λiv wr=>∃ (i:Nat) (m:List aN) (g:Array Value),i<=n/\iv=U i/\m.length=i/\Hid (ep cZ ((pt.map (λp:ByteArray=>p.1.1)).take i)=some m)/\Hid (FA n m g)/\Hid (∀c∈m,wf c.1/\wf c.2.1/\wf c.2.2)/\Hid (wr.1[G]?=some (.cells g 136 (0,0)))/\Hid (wr.1[G+1]?=some (.cells #[.slice (some ⟨G,0,none⟩) n n,U y] 133 (0,0)))/\Below G W4 wr/\G+2<=wr.1.size) (λiv _=>n-(intOf iv).toNat)
  case atStart=>exact⟨0,[],mc,by omega,rfl,rfl,rfl,⟨ac,λi c h=>by simp at h⟩,(show ∀c∈([]:List aN),wf c.1/\wf c.2.1/\wf c.2.2 by intro c h;cases h),I,J,Kf _ _,by omega⟩
  case round=>
   obtain⟨i,m,g,hi,rfl,S,M,V,a5,B,W,R,dd⟩:=hrel;have⟨wo,de⟩:=nM (wr);subst de;have i0:(0:Int)<=(i:Int):=by omega
   have⟨b,x,es⟩:=a6.o _ R
   by_cases bF:i<n
   ·have i1:(i:Int)<(n:Int):=by omega
    obtain⟨p,hp⟩:∃p,pt[i]?=some p:=⟨pt[i]'(by rw[b2.o];exact bF),by simp⟩;have et:wo.cell? ⟨w.1.size+1,1+i,none⟩=some (.string p):=by rw[Mk 1 i];exact x i p hp
    have E:=ce.o i p hp;have c0:Hid ((pt.map (λp:ByteArray=>p.1.1))[i]?=some p.1.1):=by unfold Hid;simp[hp]
    obtain⟨c,ok,c1,c2,Y⟩:∃ (c:aN) (ok:Bool),Ef (cZ p.1.1)=.agg #[U c.1,U c.2.1,U c.2.2]/\(cZ p.1.1).isSome=ok/\cZ p.1.1=if ok=true then some c else none:=by
     cases h:cZ p.1.1 with
     |none=>exact⟨(0,0,0),false,rfl,rfl,rfl⟩
     |some c=>exact⟨c,true,rfl,rfl,rfl⟩
    have HC:Hid (∀f,bL w f->cL 230 #[.string p] f (rT f (.tuple #[.agg #[U c.1,U c.2.1,U c.2.2],.bool ok]))):=λf hb=>by have:=An p E f (he.l hb);rw[c1,c2] at this;exact this
    have ak:Hid _:=Y;clear b x c1 c2 Y hp;have e4:=V.o.1;have⟨b0,b1,_,_⟩:=ag W.o;have ew:i*3+2<g.size:=by omega
    go_wp2_with fail;have c3:=y9.ne G wo;have⟨C,a0⟩:=nM (DG g (i*3) (U c.1) (U c.2.1) (U c.2.2));have c4:=Z a0;clear a0
    have a7:Hid (∀fs f,Jy G wo g C 136 fs f->∃z:y9 G wo,f=z.1):=λfs f h=>⟨⟨f,h.2.1⟩,rfl⟩
    have q0:∀z:y9 G wo,z.1.cell? ⟨G+1,0,none⟩=some (.slice (some ⟨G,0,none⟩) n n):=λz=>z.cell b0 (by omega)
    have c5:∀w,(Instr.indexAt 131 (.slice (some ⟨G,0,none⟩) n n) (U i)).run prog w=.ok (.pointer (some ⟨G,i*3,none⟩)) w:=λw=>Fv i n G bF w
    refine bJ [_,_,_,_,_,_,_,_,_,_] _ rfl (λk=>k==4||k==9) (Jy G wo g C 136) (J7 (.tuple #[.agg #[U c.1,U c.2.1,U c.2.2],.bool ok])) (FH _) (by kernel_rfl) (by kernel_rfl) ⟨bR.drew,λ_ _ _=>rfl,λ_=>B.o,λh=>h.elim λ_ h=>h.elim⟩ ?_;iterate 4(refine aP a7.o rfl rfl ?_;go_big_quiet_step (fail);refine Km ?_)
    refine bw 230 #[.string p] rfl rfl (λf=>by kernel_rfl) (λgs f D al b6=>?_) (λv4 df=>?_)
    ·have di:=(a6.o f (R.trans D.1)).2.2;refine(HC.o f di).mono ?_;rintro e eF ⟨rfl,N⟩;have eN:wo.1.size<=f.1.size:=D.1.size;exact⟨_,rfl,rfl,D.1.trans (N.mono (by omega)),λk hk O=>(N.block k (by omega)).trans (D.2.1 k hk O),λh=>(N.block G (by omega)).trans (D.2.2.1 λv hv=>h v (.inl hv)),λh=>(N.block G (by omega)).trans (D.2.2.2 (by obtain⟨v,hv⟩:=h;rcases hv with hv|⟨e,_⟩;exact⟨v,hv⟩;cases e))⟩
    go_frame;obtain rfl:v4=.tuple #[.agg #[U c.1,U c.2.1,U c.2.2],.bool ok]:=df;iterate 3(refine aP a7.o rfl rfl ?_;go_big_quiet_step (fail);refine Km ?_)
    refine fD (.pointer (some ⟨G,i*3,none⟩)) rfl rfl (λf=>gg (c5 f)) ?_;go_frame;refine fL rfl rfl (λgs f D al b6=>?_) (λv9 eV=>?_)
    ·have r:=D.2.2.1 b6;have⟨⟨u0,k0⟩,f0⟩:=jd r (i*3) (by omega);have⟨⟨u1,k1⟩,f1⟩:=jd r (i*3+1) (by omega);have⟨⟨u2,k2⟩,f2⟩:=jd r (i*3+2) (by omega);refine⟨((f.setCell ⟨G,i*3,none⟩ (U c.1)).setCell ⟨G,i*3+1,none⟩ (U c.2.1)).setCell ⟨G,i*3+2,none⟩ (U c.2.2),?_,trivial,?_⟩
     ·clear D al b6 q0 a7 c3 r;go_simp
     refine⟨((D.1.setCell (p:=⟨G,i*3,none⟩) lE _).setCell (p:=⟨G,i*3+1,none⟩) lE _).setCell (p:=⟨G,i*3+2,none⟩) lE _,λk hk O=>(Eo _ _ _ _ O).trans (D.2.1 k hk O),λh=>absurd (.inr ⟨rfl,rfl⟩) (h undef),λ_=>?_⟩;rw[c4.o];exact GE r
    go_frame;refine ei ?_;intro w4 D;have a8:Hid (w4.1[G]?=some (.cells C 136 (0,0))):=D.2.2.2 ⟨v9,.inr ⟨rfl,rfl⟩⟩;have ao:Below G W4 w4:=R.trans D.1;have c7:G+2<=w4.1.size:=D.1.u dd;have a9:Hid (w4.1[G+1]?=some (.cells #[.slice (some ⟨G,0,none⟩) n n,U y] 133 (0,0))):=(D.2.1 (G+1) (by omega) (by omega)).trans W.o;clear D a7 q0 c3 c5
    cases ok with
    |false=>
     have hN:Hid (cC s.1.1=none):=by unfold Hid;rw[br.o,kX cZ _ i _ c0.o (by have:=ak.o;simpa using this)]
     have⟨b,_,c8⟩:=a6.o _ ao;have⟨t0,t1,t2,t3⟩:=ag b;have q:Hid _:=b;clear b;go_wp2_with fail;have H:=du (u:=U 0) (dC (u:=nL) q.o);have⟨z0,z1,_,_⟩:=ag H;refine Ka (v:=.tuple #[.agg #[nL,U 0],.bool false]) ?_ rfl ⟨nL,by rw[hN.o];rfl,by rw[hN.o];exact ez.nil _ _,c8.s2 lE⟩;rw[K8 rfl];go_simp
    |true=>
     have Y:cZ p.1.1=some c:=by have:=ak.o;simpa using this
     have b7:Hid (ep cZ ((pt.map (λp:ByteArray=>p.1.1)).take (i+1))=some (m++[c])):=lh cZ _ i _ c0.o m M.o c Y;have c9:Hid (FA n (m++[c]) C):=by unfold Hid;rw[c4.o,<-S];exact V.o.put (by omega) c
     have ca:Hid (∀d∈m++[c],wf d.1/\wf d.2.1/\wf d.2.2):=by
      intro d hd
      rcases KB.1 hd with h|h
      ·exact a5.o d h
      simp at h;subst h;exact yZ Y
     go_wp2_with fail;exact⟨⟨i+1,m++[c],C,by omega,by go_num,by simp[S],b7,c9,ca,a8,a9,ao,c7⟩,by simp[intOf];omega⟩
   obtain rfl:i=n:=by omega
   have b8:ep cZ (pt.map (λp:ByteArray=>p.1.1))=some m:=by have:=M.o;rw[Ki (by simp[b2.o])] at this;exact this
   have hE:=ae.o wo g m R B.o V.o S a5.o b8;have b5:Hid _:=hE;have⟨t0,t1,t2,t3⟩:=ag b;have⟨b0,b1,_,_⟩:=ag W.o;have q:Hid _:=b;clear b hE x;have bx:¬(G+1=w.1.size):=by omega
   have bz:¬(w.1.size=G+1):=by omega
   go_wp2_with fail;have H:=du (u:=U y) (dC (u:=.slice (some ⟨G,0,none⟩) i i) q.o);have⟨z0,z1,_,_⟩:=ag H;obtain⟨cv,e1,e2,e3⟩:=b5.o;refine Ka (v:=.tuple #[.agg #[.slice (some ⟨G,0,none⟩) i i,U y],.bool true]) ?_ rfl ⟨cv,by rw[e1],e2,e3⟩;rw[K8 rfl];go_simp
def jq(L:Nat)(w:World)(v:Value)(d:List aq):Prop:=
 ∃a c,v=.slice a d.length c/\d.length<=c/\c<=maxLen/\∀i r,d[i]?=some r->∃b o,a=some ⟨b,o,none⟩/\L<=b/\b<w.1.size/\∃e,w.cell? ⟨b,o+i*2,none⟩=some e/\w.cell? ⟨b,o+i*2+1,none⟩=some (U r.2)/\wf r.2/\ez L w e r.1
theorem jq.nil(L w):jq L w nL []:=⟨none,0,rfl,Ke _,Ks _,λi c h=>by simp at h⟩
theorem jq.keep{L}{w w':World}{v rs}(h:jq L w v rs)(j:∀g,L<=g->g<w.1.size->w'.1[g]?=w.1[g]?)(d:w.1.size<=w'.1.size):jq L w' v rs:=by obtain⟨a,f,m,n,p,q⟩:=h;refine⟨a,f,m,n,p,λi c r=>?_⟩;have⟨b,o,e,k,s,t,u,x,y,z⟩:=q i c r;have l:=j b k s;exact⟨b,o,e,k,by omega,t,by rw[cE l];exact u,by rw[cE l];exact x,y,z.keep j d⟩
theorem jq.at{L w v rs}(h:jq L w v rs):bD w.1.size w v rs:=by obtain⟨a,d,f,g,j,k⟩:=h;refine⟨a,d,f,g,j,λi c l=>?_⟩;have⟨b,o,e,t,m,n,p,q,r,s⟩:=k i c l;exact⟨b,o,e,m,n,p,q,r,s.at⟩
def nW(L:Nat)(w:World)(v:Value)(p:aD):Prop:=∃a,v=.agg #[a,U p.2]/\wf p.2/\jq L w a p.1
theorem nW.keep{L}{w w':World}{v p}(h:nW L w v p)(b:∀g,L<=g->g<w.1.size->w'.1[g]?=w.1[g]?)(a:w.1.size<=w'.1.size):nW L w' v p:=by obtain⟨c,d,e,f⟩:=h;exact⟨c,d,e,f.keep b a⟩
theorem nW.at{L w v p}(h:nW L w v p):aX w.1.size w v p:=by obtain⟨a,b,c,d⟩:=h;exact⟨a,b,c,d.at⟩
theorem nW.zero(L w):nW L w (.agg #[nL,U 0]) ([],0):=⟨_,rfl,by unfold wf;decide,jq.nil L w⟩
theorem nW.shape{L w v p}(h:nW L w v p):∃a n b,v=.agg #[.slice a n b,U p.2]:=by obtain⟨c,rfl,_,a,b,rfl,_⟩:=h;exact⟨a,_,b,rfl⟩
theorem ez.shape{L w v cs}(h:ez L w v cs):∃a n b,v=.slice a n b:=by obtain⟨a,b,rfl,_⟩:=h;exact⟨a,_,b,rfl⟩
def yb(L n:Nat)(w:World)(c:List aq)(a:Array Value):Prop:=
 a.size=n*2/\∀i r,c[i]?=some r->∃b,a[i*2]?=some b/\a[i*2+1]?=some (U r.2)/\wf r.2/\ez L w b r.1
def CQ(a:Array Value)(o:Nat)(b c:Value):Array Value:=(a.setIfInBounds o b).setIfInBounds (o+1) c
theorem yb.keep{L n}{w w':World}{rs cur}(h:yb L n w rs cur)(b:∀g,L<=g->g<w.1.size->w'.1[g]?=w.1[g]?)(a:w.1.size<=w'.1.size):yb L n w' rs cur:=by refine⟨h.1,λi r c=>?_⟩;have⟨d,e,f,j,k⟩:=h.2 i r c;exact⟨d,e,f,j,k.keep b a⟩
theorem yb.put{L n w rs cur}(h:yb L n w rs cur)(c:rs.length<n)(r:aq)(cv)(f:wf r.2)(g:ez L w cv r.1):yb L n w (rs++[r]) (CQ cur (rs.length*2) cv (U r.2)):=by
 obtain⟨j,k⟩:=h;refine⟨by simp[CQ,j],λi d a=>?_⟩;have t:i<rs.length+1:=by have:=(K9.1 a).1;simpa using this
 by_cases e:i=rs.length
 ·subst e;rw[Kk lE] at a;simp at a;subst a;have l:rs.length*2<cur.size:=by omega
  have m:rs.length*2+1<cur.size:=by omega
  unfold CQ;simp only[KC];exact⟨cv,by simp[l],by simp[m],f,g⟩
 rw[Kh (by omega)] at a;have⟨b,o,p,q,s⟩:=k i d a;unfold CQ;simp only[KC];refine⟨b,?_,?_,q,s⟩
 ·rw[iO (by omega),iO (by omega)];exact o
 rw[iO (by omega),iO (by omega)];exact p
theorem GW{w:World}{g o:Nat}{a:Array Value}{b c:Value}{T}(h:w.1[g]?=some (.cells a T (0,0))):((w.setCell ⟨g,o,none⟩ b).setCell ⟨g,o+1,none⟩ c).1[g]?=some (.cells (CQ a o b c) T (0,0)):=
 ap (o:=o+1) (u:=c) (ap (o:=o) (u:=b) h)
theorem pR{w:World}{g k:Nat}(o:Nat)(a b:Value)(h:k≠g):((w.setCell ⟨g,o,none⟩ a).setCell ⟨g,o+1,none⟩ b).1[k]?=w.1[k]?:=by rw[Kc _ _ _ _ (by show k≠g;exact h),Kc _ _ _ _ (by show k≠g;exact h)]
def Jr(G:Nat)(W:World)(c:Array Value)(T:TypeId)(o:Nat)(e:Int)(ok:Bool)(cs:List aN)(d:Nat->Value->Prop)(w:World):Prop:=
 Below G W w/\(∀k,k<W.1.size->k≠G->w.1[k]?=W.1[k]?)/\((∀v,¬d 9 v)->w.1[G]?=some (.cells c T (0,0)))/\(∀v,d 4 v->∃a m b,v=.tuple #[.agg #[.slice a m b,U e],.bool ok]/\ez W.1.size w (.slice a m b) cs)/\
  ((∃v,d 9 v)->∃a m b,d 4 (.tuple #[.agg #[.slice a m b,U e],.bool ok])/\w.1[G]?=some (.cells (CQ c o (.slice a m b) (U e)) T (0,0)))
def Ji(c:Int)(ok:Bool)(k:Nat)(v:Value):Prop:=if k=4 then ∃a m b,v=.tuple #[.agg #[.slice a m b,U c],.bool ok] else True
theorem Es(vd ok k):∃v,Ji vd ok k v:=by
 unfold Ji
 split
 ·exact⟨_,none,0,0,rfl⟩
 exact⟨undef,trivial⟩
theorem CH(n:Nat)(f:n<=4294967281)(w:World):(Instr.makeSlice 28 (U n) (U n)).run prog w=.ok (.slice (sO w.1.size) n n) (w.alloc (.cells (madeCells #[nL,U 0] (n*2)) 133)):=by
 obtain⟨a,b,c,d,e⟩:=jY;have:=MQ (P:=prog) w 28 133 a _ Tryz.underlying28 b c .i64 .i64 n n (by omega) (LH _) (by rw[e];omega) (by omega);rw[d] at this
 simpa [Value.cells] using this
theorem Bt(i n G:Nat)(h:i<n)(w:World):(Instr.indexAt 28 (.slice (sO G) n n) (U i)).run prog w=.ok (.pointer (some ⟨G,i*2,none⟩)) w:=by
 have a:(i:Int)<(n:Int):=by omega
 have b:(0:Int)<=(i:Int):=by omega
 go_simp
theorem yx{l:Bs}{r:aq}(h:cC l=some r):wf r.2:=by
 unfold cC at h
 split at h
 ·cases h
 rename_i a t _
 split at h
 ·cases h
 split at h
 ·cases h
 cases h;have:=jO vN a;have e:vN.length=5:=rfl;rw[e] at this;exact cR (by simp only[];omega)
theorem um{l:Bs}{ps:List Bs}{d:Bs}(e:bI 59 l=ps++[d]):gS l=match ep cC ps with
  |none=>none
  |some c=>if bt vN d<0 then none else some (c,bt vN d):=by
 have f:(bI 59 l).dropLast=ps:=by rw[e];simp
 have g:(bI 59 l).getLast (fM 59 l)=d:=by
  have:∀ (x:List Bs) (b:x≠[]),x=ps++[d]->x.getLast b=d:=by intro x b a;subst a;simp
  exact this _ _ e
 unfold gS;rw[f,g];rfl
theorem tP(c)(s:ByteArray)(ps:List ByteArray)(b:ps.map (λp:ByteArray=>p.1.1)=bI c s.1.1):ps.length<=s.size+1/\∀p∈ps,p.size<=s.size:=by
 refine⟨?_,λp d=>?_⟩
 ·have e:ps.length=(bI c s.1.1).length:=by rw[<-b];simp
  rw[e,<-jp];unfold Lib.split
  have:∀k (l:Bs),(Lib.splitK [c] 0 k l).length<=k+1:=by
   intro k
   induction k with
   |zero=>intro l;simp[Lib.splitK]
   |succ k f=>
    intro l;unfold Lib.splitK;split
    ·simp
    simp;exact f _
  have g:=this (Lib.count s.1.1 [c]) s.1.1;rw[MG] at g;have h:=List.count_le_length (a:=c) (l:=s.1.1);rw[<-KR] at h;rw[MG];omega
 have:=ry c s.1.1 p.1.1 (by rw[<-b];exact Md.2 ⟨p,d,rfl⟩);rw[<-KR,<-KR] at this;exact this
theorem wI(s:ByteArray)(hs:s.size<=4294967279)(w)(he:dD w):
  cL 205 #[.string s] w λe b=>∃pv,e=.returned (.tuple #[pv,.bool (gS s.1.1).isSome])/\nW w.1.size b pv ((gS s.1.1).getD ([],0))/\bL w b:=by
 have cd:∀X,bL w (w.alloc X):=λX=>bR.alloc lE _
 have⟨Q,I,x⟩:=yQ 59 s (by omega) (w.alloc (.cells #[nL,U 0] 30)) (he.l (cd _)).1;have⟨F,ce⟩:=tP 59 s Q I;have R:Q≠[]:=by intro e;subst e;exact fM 59 _ I.symm
 obtain⟨y,B,rfl⟩:∃y B,Q=y++[B]:=⟨Q.dropLast,Q.getLast R,(List.dropLast_concat_getLast R).symm⟩;have hP:=um (l:=s.1.1) (ps:=y.map (λp:ByteArray=>p.1.1)) (d:=B.1.1) (by rw[<-I];simp)
 have HP:Hid (gS s.1.1=match ep cC (y.map (λp:ByteArray=>p.1.1)) with
   |none=>none
   |some C=>if bt vN B.1.1<0 then none else some (C,bt vN B.1.1)):=hP
 have br:(y++[B]).length=y.length+1:=by simp
 rw[br] at x F;have bs:Hid _:=x;have e8:Hid (∀ (j:Nat) (p:ByteArray),y[j]?=some p->p.size<=4294967280):=λj p hj=>by have:=ce p (by simp[Kb hj]);omega
 have HV:Hid (∀b,cL 221 #[.string B] b (rT b (.tuple #[U (bt vN B.1.1),.bool (decide (0<=bt vN B.1.1))]))):=λb=>ot B b
 have fd:=jh vN B.1.1;have fe:bt vN B.1.1<5:=jO vN _;generalize e9:bt vN B.1.1=vd at*;have⟨n,hn⟩:=nM (y.length);have cf:=Z hn.symm;rw[<-hn] at F bs;have⟨mc,bv⟩:=nM (madeCells #[nL,U 0] (n*2));have ci:mc.size=n*2:=by rw[bv];exact LS _ _
 have S:=CH n (by omega);rw[<-bv] at S;have fi:∀w,(Instr.makeSlice 28 (U n) (U n)).run prog w=.ok (.slice (some ⟨w.1.size,0,none⟩) n n) (w.alloc (.cells mc 133)):=S;have⟨G,hG⟩:=nM (w.1.size+2);have⟨W1,J⟩:=nM ((w.alloc (.cells #[nL,U 0] 30)).alloc (.cells ((y++[B]).map Value.string).toArray 9));have ck:bL w W1:=by rw[J];exact(cd _).alloc (by simp) _
 have av:W1.1.size=w.1.size+2:=by rw[J];simp
 have b4:W1.1[w.1.size]?=some (.cells #[nL,U 0] 30 (0,0)):=by rw[J,Kq _ _ _ (by simp)];exact(Kr w _).1
 have T:dT (w.1.size+1) ((y++[B]).map Value.string).toArray W1:=by have:=dT.made (w.alloc (.cells #[nL,U 0] 30)) ((y++[B]).map Value.string).toArray 9;rw[Kg] at this;rw[J];exact this
 have⟨W4,K⟩:=nM ((W1.alloc (.cells mc 133)).alloc (.cells #[.slice (some ⟨w.1.size+2,0,none⟩) n n,U 0] 30));have ea:Below G W1 W4:=by rw[K];exact(bR.alloc (by omega) _).alloc (by simp;omega) _
 have fl:W4.1.size=G+2:=by rw[K];simp;omega
 have bx:W4.1[G]?=some (.cells mc 133 (0,0)):=by rw[hG,<-av,K,Kq _ _ _ (by simp)];exact(Kr W1 _).1
 have bz:W4.1[G+1]?=some (.cells #[.slice (some ⟨G,0,none⟩) n n,U 0] 30 (0,0)):=by have:=(Kr (W1.alloc (.cells mc 133)) (.cells #[.slice (some ⟨w.1.size+2,0,none⟩) n n,U 0] 30)).1;rw[Kg,av] at this;rw[K,hG];exact this
 have a9:Hid (∀wr,Below G W4 wr->wr.1[w.1.size]?=some (.cells #[nL,U 0] 30 (0,0))/\(∀ (j:Nat) (p:ByteArray),y[j]?=some p->wr.cell? ⟨w.1.size+1,j,none⟩=some (.string p))/\wr.cell? ⟨w.1.size+1,n,none⟩=some (.string B)/\bL w wr):=λwr h=>by
  have hh:=ea.trans h;refine⟨hh.bk b4,λj p hj=>?_,?_,ck.trans (hh.mono (by omega))⟩
  ·refine(hh.cell (p:=⟨w.1.size+1,j,none⟩) (by show w.1.size+1<_;omega)).trans (T j _ ?_);have eb:=(K9.1 hj).1;rw[LK,List.map_append,Kh (by simpa using eb)];simp[hj]
  refine(hh.cell (p:=⟨w.1.size+1,n,none⟩) (by show w.1.size+1<_;omega)).trans (T n _ ?_);rw[hn];simp
 have fn:IntKind.i64.wrap (n:Int)=(n:Int):=KA _ (by omega);have fo:=ai;have fp:w.1.size+2<=G:=by omega
 clear e9 hP I ce b4 T S bv hn R;go_enter func205,ntmps205;go_wp2_with fail;go_at_call 88;refine Calls.mono bs.o ?_;rintro e w1 ⟨rfl,cl⟩;simp only[Kg];rw[<-J] at cl;subst cl;clear J bs;go_wp2_with fail;rw[<-K,<-hG];clear hG x;clear K;go_loopw [22] (λiv wr=>∃ (i:Nat) (C:List aq) (o:Array Value),i<=n/\iv=U i/\C.length=i/\Hid (ep cC ((y.map (λp:ByteArray=>p.1.1)).take i)=some C)/\Hid (yb (G+2) n wr C o)/\Hid (wr.1[G]?=some (.cells o 133 (0,0)))/\Hid (wr.1[G+1]?=some (.cells #[.slice (some ⟨G,0,none⟩) n n,U 0] 30 (0,0)))/\Below G W4 wr/\G+2<=wr.1.size) (λiv _=>n-(intOf iv).toNat)
 case atStart=>exact⟨0,[],mc,by omega,rfl,rfl,rfl,⟨ci,λi c h=>by simp at h⟩,bx,bz,Kf _ _,by omega⟩
 case round=>
  obtain⟨i,C,o,hi,rfl,aa,b6,bF,b7,V,ac,c4⟩:=hrel;have⟨wo,ed⟩:=nM (wr);subst ed;have i0:(0:Int)<=(i:Int):=by omega
  have⟨q,c5,ee,fq⟩:=a9.o _ ac
  by_cases cn:i<n
  ·have i1:(i:Int)<(n:Int):=by omega
   obtain⟨p,hp⟩:∃p,y[i]?=some p:=⟨y[i]'(by rw[cf.o];exact cn),by simp⟩;have fr:=c5 i p hp;have I:=e8.o i p hp;have co:Hid ((y.map (λp:ByteArray=>p.1.1))[i]?=some p.1.1):=by unfold Hid;simp[hp]
   obtain⟨r,ok,cp,cs,cx,cT⟩:∃ (r:aq) (ok:Bool),(cC p.1.1).getD ([],0)=r/\(cC p.1.1).isSome=ok/\(cC p.1.1=if ok=true then some r else none)/\wf r.2:=by
    cases h:cC p.1.1 with
    |none=>exact⟨([],0),false,rfl,rfl,rfl,by unfold wf;decide⟩
    |some r=>exact⟨r,true,rfl,rfl,rfl,yx h⟩
   have HC:Hid (∀b,bL w b->cL 220 #[.string p] b λe d2=>∃cv,e=.returned (.tuple #[.agg #[cv,U r.2],.bool ok])/\ez b.1.size d2 cv r.1/\bL b d2):=λb hb=>by have:=Aa p I b (he.l hb);rw[cp,cs] at this;exact this
   have b8:Hid _:=cx;have d4:Hid _:=cT;clear q c5 ee cp cs cx cT hp;have es:=bF.o.1;have⟨b0,b1,_,_⟩:=ag V.o;have g0:i*2+1<o.size:=by omega
   obtain⟨rc,P⟩:=r;go_wp2_with fail;have d5:=y9.ne G wo
   have ad:Hid (∀fs b,Jr G wo o 133 (i*2) P ok rc fs b->∃z:y9 G wo,b=z.1):=λfs b h=>⟨⟨b,h.2.1⟩,rfl⟩
   have q0:∀z:y9 G wo,z.1.cell? ⟨G+1,0,none⟩=some (.slice (some ⟨G,0,none⟩) n n):=λz=>z.cell b0 (by omega)
   have d6:∀w,(Instr.indexAt 28 (.slice (some ⟨G,0,none⟩) n n) (U i)).run prog w=.ok (.pointer (some ⟨G,i*2,none⟩)) w:=λw=>Bt i n G cn w
   refine bJ [_,_,_,_,_,_,_,_,_,_] _ rfl (λk=>k==4||k==9) (Jr G wo o 133 (i*2) P ok rc) (Ji P ok) (Es P ok) (by kernel_rfl) (by kernel_rfl) ⟨bR.drew,λ_ _ _=>rfl,λ_=>b7.o,λ_ h=>h.elim,λh=>h.elim λ_ h=>h.elim⟩ ?_;iterate 4(refine aP ad.o rfl rfl ?_;go_big_quiet_step (fail);refine Km ?_)
   refine bw 220 #[.string p] rfl rfl (λb=>by kernel_rfl) (λgs b t W Y=>?_) (λv4 ef=>?_)
   ·have eg:=(a9.o b (ac.trans t.1)).2.2.2;refine(HC.o b eg).mono ?_;rintro e g3 ⟨cv,rfl,da,a0⟩;have ej:wo.1.size<=b.1.size:=t.1.size;obtain⟨a,m,L,rfl⟩:=da.shape;refine⟨_,rfl,⟨a,m,L,rfl⟩,t.1.trans (a0.mono (by omega)),λk hk H=>(a0.block k (by omega)).trans (t.2.1 k hk H),λh=>(a0.block G (by omega)).trans (t.2.2.1 λv M=>h v (.inl M)),λv M=>?_,λh=>?_⟩
    ·rcases M with M|⟨_,rfl⟩
     ·exact absurd M (Y v)
     exact⟨a,m,L,rfl,da.mono ej⟩
    obtain⟨v,M⟩:=h
    rcases M with M|⟨e,_⟩
    ·have⟨a',m',ew,h4,_⟩:=t.2.2.2.2 ⟨v,M⟩;exact absurd h4 (Y _)
    cases e
   go_frame;obtain⟨a4,m4,ba,rfl⟩:∃a m L,v4=.tuple #[.agg #[.slice a m L,U P],.bool ok]:=ef;iterate 3(refine aP ad.o rfl rfl ?_;go_big_quiet_step (fail);refine Km ?_)
   refine fD (.pointer (some ⟨G,i*2,none⟩)) rfl rfl (λb=>gg (d6 b)) ?_;go_frame;refine fL rfl rfl (λgs b t W Y=>?_) (λv9 g5=>?_)
   ·have A:=t.2.2.1 Y;have h4:=W 4 _ (.inr ⟨rfl,rfl⟩) (au (by kernel_rfl));have⟨⟨u0,k0⟩,f0⟩:=jd A (i*2) (by omega);have⟨⟨u1,k1⟩,f1⟩:=jd A (i*2+1) (by omega);refine⟨(b.setCell ⟨G,i*2,none⟩ (.slice a4 m4 ba)).setCell ⟨G,i*2+1,none⟩ (U P),?_,trivial,?_⟩
    ·clear t W Y q0 ad d5 A h4;go_simp
    refine⟨(t.1.setCell (p:=⟨G,i*2,none⟩) lE _).setCell (p:=⟨G,i*2+1,none⟩) lE _,λk hk H=>(pR _ _ _ H).trans (t.2.1 k hk H),λh=>absurd (.inr ⟨rfl,rfl⟩) (h undef),λv M=>?_,λ_=>⟨a4,m4,ba,.inl h4,GW A⟩⟩
    rcases M with M|⟨e,_⟩
    ·have⟨a,m,L,h1,h2⟩:=t.2.2.2.1 v M;refine⟨a,m,L,h1,h2.keep (λg hg ae=>pR _ _ _ (by omega)) (by simp)⟩
    cases e
   go_frame;refine ei ?_;intro w4 t;have⟨a5,m5,bb,dd,f⟩:=t.2.2.2.2 ⟨v9,.inr ⟨rfl,rfl⟩⟩;have⟨a6,m6,f3,e6,bc⟩:=t.2.2.2.1 _ dd;simp at e6;obtain⟨rfl,rfl,rfl⟩:=e6;have af:Hid _:=f;have de:Hid (ez (G+2) w4 (.slice a5 m5 bb) rc):=bc.mono c4;have bd:Below G W4 w4:=ac.trans t.1;have df:G+2<=w4.1.size:=t.1.u c4;have ak:Hid (w4.1[G+1]?=some (.cells #[.slice (some ⟨G,0,none⟩) n n,U 0] 30 (0,0))):=(t.2.1 (G+1) (by omega) (by omega)).trans V.o;have di:Hid (yb (G+2) n w4 C o):=bF.o.keep (λg hg ae=>t.2.1 g ae (by omega)) t.1.size;clear t ad q0 d5 d6 f bc dd
   cases ok with
   |false=>
    have hN:Hid (gS s.1.1=none):=by unfold Hid;rw[HP.o,kX cC _ i _ co.o (by have:=b8.o;simpa using this)]
    have⟨q,_,_,dk⟩:=a9.o _ bd;have⟨t0,t1,t2,t3⟩:=ag q;have dl:Hid _:=q;clear q;go_wp2_with fail;have a1:=du (u:=U 0) (dC (u:=nL) dl.o);have⟨z0,z1,_,_⟩:=ag a1;refine Ka (v:=.tuple #[.agg #[nL,U 0],.bool false]) ?_ rfl ⟨_,by rw[hN.o];rfl,by rw[hN.o];exact nW.zero _ _,dk.s2 lE⟩;rw[K8 rfl];go_simp
   |true=>
    have ek:cC p.1.1=some (rc,P):=by have:=b8.o;simpa using this
    have c6:Hid (ep cC ((y.map (λp:ByteArray=>p.1.1)).take (i+1))=some (C++[(rc,P)])):=lh cC _ i _ co.o C b6.o _ ek;have dn:Hid (yb (G+2) n w4 (C++[(rc,P)]) (CQ o (i*2) (.slice a5 m5 bb) (U P))):=by unfold Hid;rw[<-aa];exact di.o.put (by omega) (rc,P) _ d4.o de.o
    go_wp2_with fail;exact⟨⟨i+1,C++[(rc,P)],_,by omega,by go_num,by simp[aa],c6,dn,af,ak,bd,df⟩,by simp[intOf];omega⟩
  obtain rfl:i=n:=by omega
  have a2:Hid (ep cC (y.map (λp:ByteArray=>p.1.1))=some C):=by have:=b6.o;rw[Ki (by simp[cf.o])] at this;exact this
  clear q c5;go_wp2_with fail;go_at_call 221;refine Calls.mono (HV.o _) ?_;rintro e w5 ⟨rfl,N⟩;have dp:Below G W4 w5:=ac.trans (N.mono (by omega));have gb:G+2<=w5.1.size:=N.u c4;have D:w5.1[G+1]?=some (.cells #[.slice (some ⟨G,0,none⟩) i i,U 0] 30 (0,0)):=(N.block (G+1) (by omega)).trans V.o;have f:w5.1[G]?=some (.cells o 133 (0,0)):=(N.block G (by omega)).trans b7.o;have bg:yb (G+2) i w5 C o:=bF.o.keep (λg hg ae=>N.block g ae) N.size;have⟨q,_,_,bk⟩:=a9.o _ dp;have⟨t0,t1,t2,t3⟩:=ag q;have⟨b0,b1,b2,b3⟩:=ag D;have⟨w6,O⟩:=nM (w5.setCell ⟨G+1,1,none⟩ (U vd));have bo:w6.1[G+1]?=some (.cells #[.slice (some ⟨G,0,none⟩) i i,U vd] 30 (0,0)):=by rw[O];exact du D
  have E:∀k,k≠G+1->w6.1[k]?=w5.1[k]?:=λk hk=>by rw[O];exact Kc _ _ _ _ (by show k≠G+1;exact hk)
  have bp:w6.1.size=w5.1.size:=by rw[O];simp
  have a3:w6.1[w.1.size]?=some (.cells #[nL,U 0] 30 (0,0)):=(E _ (by omega)).trans q;have bq:bL w w6:=by rw[O];exact bk.setCell (p:=⟨G+1,1,none⟩) (by show w.1.size<=G+1;omega) _
  have⟨c0,c1,c2,c3⟩:=ag a3;have⟨d0,d1,_,_⟩:=ag bo;have a7:Hid _:=a3
  have el:Hid (∀u0 u1,nW w.1.size ((w6.setCell ⟨w.1.size,0,none⟩ u0).setCell ⟨w.1.size,1,none⟩ u1) (.agg #[.slice (some ⟨G,0,none⟩) i i,U vd]) (C,vd)):=by
   intro u0 u1;have dq:∀k,k≠w.1.size->k≠G+1->((w6.setCell ⟨w.1.size,0,none⟩ u0).setCell ⟨w.1.size,1,none⟩ u1).1[k]?=w5.1[k]?:=λk h1 h2=>(pR 0 u0 u1 h1).trans (E k h2)
   refine⟨_,rfl,cR (by simp only[];omega),some ⟨G,0,none⟩,i,by simp[aa],by simp[aa],by omega,λj r hj=>?_⟩;have⟨cv,k0,k1,k2,k3⟩:=bg.2 j r hj;have dr:=dq G (by omega) (by omega);refine⟨G,0,rfl,by omega,by simp[bp];omega,cv,?_,?_,k2,(k3.keep (w':=(w6.setCell ⟨w.1.size,0,none⟩ u0).setCell ⟨w.1.size,1,none⟩ u1) (λg h1 h2=>dq g (by omega) (by omega)) (by simp[bp])).mono (by omega)⟩
   ·rw[cE dr,Kp];simp[World.cell?,f,k0]
   rw[cE dr,Kp];simp[World.cell?,f,k1]
  have fa:¬(G+1=w.1.size):=by omega
  have fb:¬(w.1.size=G+1):=by omega
  clear q D f bg bo E a3 bk
  by_cases ds:vd<0
  ·have em:decide (0<=vd)=false:=KD (by omega);have hN:Hid (gS s.1.1=none):=by unfold Hid;rw[HP.o,a2.o];simp[ds]
   go_wp2_with fail;rw[<-O];have a1:=du (u:=U 0) (dC (u:=nL) a7.o);have⟨z0,z1,_,_⟩:=ag a1;refine Ka (v:=.tuple #[.agg #[nL,U 0],.bool false]) ?_ rfl ⟨_,by rw[hN.o];rfl,by rw[hN.o];exact nW.zero _ _,bq.s2 lE⟩;rw[K8 rfl];go_simp
  have em:decide (0<=vd)=true:=KS (by omega);have hN:Hid (gS s.1.1=some (C,vd)):=by unfold Hid;rw[HP.o,a2.o];simp[ds]
  go_wp2_with fail;rw[<-O];have a1:=du (u:=U vd) (dC (u:=.slice (some ⟨G,0,none⟩) i i) a7.o);have⟨z0,z1,_,_⟩:=ag a1;refine Ka (v:=.tuple #[.agg #[.slice (some ⟨G,0,none⟩) i i,U vd],.bool true]) ?_ rfl ⟨_,by rw[hN.o];rfl,by rw[hN.o];exact el.o _ _,bq.s2 lE⟩;rw[K8 rfl];go_simp
