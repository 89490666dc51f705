import Derived.Test.YtjdnfhkkkejcfaaGreatDoorWd02
import Derived.Test.YtjdnfhkkkejcfaaGreatDoorWd03
import Derived.Lib.ParseIntB
set_option linter.all false
set_option maxRecDepth 100000
set_option maxHeartbeats 8000000
namespace Go.Proofs.YtjdnfhkkkejcfaaGreatDoor
open Go.RowKit Go.Maps Go.Proofs.Tryz
def jl:Value->Option (DataW Unit × List MemPlace)
 |.bool x=>some (.lit (.bool x),[])
 |_=>none
theorem tb{v:Value}{z:DataW Unit × List MemPlace}(h:jl v=some z):∃x,v=.bool x/\z=(.lit (.bool x),[]):=by
 unfold jl at h
 split at h
 ·exact⟨_,rfl,(KG h).symm⟩
 cases h
theorem eT{P:Program}(w:World){f:Array Oper}{d:List Oper}{o:Oper}{a:Act}{Q:Exit->Act->World->Prop}
  (r:o.guard=none) (m x:Operand) (t:TypeId) (iY:o.op=Op.lookup t m x false)
  (k e:TypeId) (K:Keyed P k) (s:P.underlying t=some (.map k e)) (u:(zeroValue e).run P w=.ok (.bool false) w) (b n:Nat) (D:DataW Unit)
  (y:a.eval m=.map (some b)) (g:w.ownsMap P k jl b n D) (h:Value) (p:Lit) (z:a.eval x=h) (i:keyOf P k h=some p)
  (A:∀c:Bool,D.atKey p (.lit (.bool false))=.lit (.bool c)->wpList P f Q d (a.put o.dst (.bool c)) w):
  wpList P f Q (o :: d) a w:=by
 refine wpList_plain r λC l=>?_
 have⟨v,E,j,B⟩:=g.lookup K s u (zd:=.lit (.bool false)) (zp:=[]) rfl i;obtain⟨c,rfl,q⟩:=tb B;simp only[Prod.mk.injEq] at q;unfold Oper.wp;simp[execOp,iY,y,z,j,Result.andThen];exact l _ _ (A c q.1)
theorem oK(w:World):(zeroValue 4).run prog w=.ok (.bool false) w:=by kernel_rfl
def pP(a b c d:Bool):DataW Unit:=((((DataW.map []).put (.int .i64 1) (.lit (.bool a))).put (.int .i64 2) (.lit (.bool b))).put (.int .i64 3) (.lit (.bool c))).put (.int .i64 4) (.lit (.bool d))
theorem zR(b1 b2 b3 b4):(pP b1 b2 b3 b4).atKey (.int .i64 1) (.lit (.bool false))=.lit (.bool b1)/\(pP b1 b2 b3 b4).atKey (.int .i64 2) (.lit (.bool false))=.lit (.bool b2)/\(pP b1 b2 b3 b4).atKey (.int .i64 3) (.lit (.bool false))=.lit (.bool b3)/\(pP b1 b2 b3 b4).atKey (.int .i64 4) (.lit (.bool false))=.lit (.bool b4):=by
 have a:∀z,WideAt.IsKeyLit (.int .i64 z):=λz=>by simp[WideAt.IsKeyLit]
 unfold pP;refine⟨?_,?_,?_,?_⟩
 ·rw[KT (by simp),KT (by simp),KT (by simp)];exact L7 LM (a 1) _ _
 ·rw[KT (by simp),KT (by simp)];exact L7 (LM.put _ _) (a 2) _ _
 ·rw[KT (by simp)];exact L7 ((LM.put _ _).put _ _) (a 3) _ _
 exact L7 (((LM.put _ _).put _ _).put _ _) (a 4) _ _
theorem vy(f a v n:Int)(P:1<=a/\a<=4)(w):
  cL 182 #[.agg #[U f,U a,U v],U n] w (rT w (.bool (iG a v n))):=by
 have M:=@run_makeMap prog;have o:=Le (H:=Unit) (w.alloc (.cells #[U f,U a,U v] 134)) prog 3 jl;simp only[Kg] at o;have A:(Lit.int .i64 a).wf=true:=L4 (by omega)
 have y:Hid (∀z,Below (w.1.size+1) (w.alloc (.cells #[U f,U a,U v] 134)) z->z.cell? (pW w 1)=some (U a)/\z.cell? (pW w 2)=some (U v)):=λz h=>⟨(h.cell (p:=pW w 1) (by simp)).trans (by simp[go_sem]),(h.cell (p:=pW w 2) (by simp)).trans (by simp[go_sem])⟩
 have B:=zR (n==v) (n != v) (decide (n<v)) (decide (v<=n));unfold pP at B;have N:Hid _:=B;clear B;go_enter func182,ntmps182
 go_wp2_with (first
  |(refine am _ rfl _ _ _ 250 rfl 3 4 iK Tryz.underlying250 _ (w.1.size+1) 0 _ rfl o (by decide) _ _ _ rfl rfl (KF Tryz.underlying3 (by decide)) _ [] rfl ?_;intro E b g;clear o;have q:Below (w.1.size+1) (w.alloc (.cells #[U f,U a,U v] 134)) E:=(bR.alloc (by simp) _).grown g (by simp) (λk r=>by cases r;exact Ke _);have Q:=y.o E q)
  |(refine am _ rfl _ _ _ 250 rfl 3 4 iK Tryz.underlying250 _ (w.1.size+1) 1 _ rfl b (by decide) _ _ _ rfl rfl (KF Tryz.underlying3 (by decide)) _ [] rfl ?_;intro F d i;clear b;have s:Below (w.1.size+1) (w.alloc (.cells #[U f,U a,U v] 134)) F:=q.grown i (by have:=q.size;simp at this |-;omega) (λk r=>by cases r;exact Ke _);have R:=y.o F s)
  |(refine am _ rfl _ _ _ 250 rfl 3 4 iK Tryz.underlying250 _ (w.1.size+1) 2 _ rfl d (by decide) _ _ _ rfl rfl (KF Tryz.underlying3 (by decide)) _ [] rfl ?_;intro G e j;clear d;have t:Below (w.1.size+1) (w.alloc (.cells #[U f,U a,U v] 134)) G:=s.grown j (by have:=s.size;simp at this |-;omega) (λk r=>by cases r;exact Ke _);have S:=y.o G t)
  |(refine am _ rfl _ _ _ 250 rfl 3 4 iK Tryz.underlying250 _ (w.1.size+1) 3 _ rfl e (by decide) _ _ _ rfl rfl (KF Tryz.underlying3 (by decide)) _ [] rfl ?_;intro C u l;clear e;have x:Below (w.1.size+1) (w.alloc (.cells #[U f,U a,U v] 134)) C:=t.grown l (by have:=t.size;simp at this |-;omega) (λk r=>by cases r;exact Ke _);have T:=y.o C x)
  |(at_lookup;refine eT _ rfl _ _ 250 rfl 3 4 iK Tryz.underlying250 (oK _) (w.1.size+1) 4 _ rfl u _ _ rfl (KF Tryz.underlying3 A) ?_;intro c m))
 have D:bL w C:=((Kf w.1.size w).alloc lE _).trans (x.mono (by omega))
 have O:iG a v n=c:=by
  have:a=1\/a=2\/a=3\/a=4:=by omega
  obtain⟨I,J,K,L⟩:=N.o
  rcases this with rfl|rfl|rfl|rfl
  ·rw[m] at I;simpa [iG] using I.symm
  ·rw[m] at J;simpa [iG] using J.symm
  ·rw[m] at K;simpa [iG] using K.symm
  rw[m] at L;simpa [iG] using L.symm
 go_ret;exact⟨by rw[O];rfl,D⟩
theorem dH:Maps.Keyed prog 9:=Maps.string_keyed Tryz.underlying9
theorem yP:Maps.Keyed prog 5:=Maps.int_keyed Tryz.underlying5
def D1:DataW Unit:=(((((DataW.map []).put (.string [107,105,108,108]) (.lit (.int .i64 0))).put (.string [116,114,97,112]) (.lit (.int .i64 1))).put (.string [102,97,105,108]) (.lit (.int .i64 2))).put (.string [108,111,103]) (.lit (.int .i64 3))).put (.string [97,108,108,111,119]) (.lit (.int .i64 4))
def D2:DataW Unit:=(((((DataW.map []).put (.string [110,114]) (.lit (.int .i64 0))).put (.string [107,105,110,100]) (.lit (.int .i64 1))).put (.string [97]) (.lit (.int .i64 2))).put (.string [98]) (.lit (.int .i64 3))).put (.string [99]) (.lit (.int .i64 4))
def D3:DataW Unit:=((((DataW.map []).put (.int .u8 61) (.lit (.int .i64 1))).put (.int .u8 33) (.lit (.int .i64 2))).put (.int .u8 60) (.lit (.int .i64 3))).put (.int .u8 62) (.lit (.int .i64 4))
def Ib:DataW Unit:=.lit (.int .i64 0)
def mL:ByteArray:=⟨#[32]⟩
def dP(cs:List aN):List Value:=cs.flatMap λc=>[U c.1,U c.2.1,U c.2.2]
def cH(B:Nat)(w:World):List aq->List Value->Prop
 |[],a=>a=[]
 |r :: d,a=>∃b c,a=b :: U r.2 :: c/\w.ownsRow B 134 3 b r.1.length (dP r.1)/\cH B w d c
theorem wg(s:ByteArray):(⟨s.1.1.toArray⟩:ByteArray)=s:=by simp
theorem Bg(s t c:ByteArray)(q:Bool)(m)(w:World)(d:s.size<4294967281)(f:w.cell? ⟨1,0,none⟩=some (U m))(h:Lib.cut s.1.1 [59]=(t.1.1,c.1.1,q)):
  cL 86 #[.string s,.string ⟨#[59]⟩] w (rT w (.tuple #[.string t,.string c,.bool q])):=by
 refine(Tryz.strings_Cut s ⟨#[59]⟩ m w d f).mono λe i ⟨a,n,g⟩=>?_
 have b:(⟨#[59]⟩:ByteArray).1.1=[59]:=rfl;rw[b,h] at a;simp only[wg] at a;subst g;exact⟨a,Below.drewN_ bR n⟩
theorem CW(t:ByteArray)(d:List ByteArray)(n:Nat)(m)(w:World)(f:t.size<4294967281)(g:w.cell? ⟨1,0,none⟩=some (U m))(i:Lib.countB t mL=n)(h:Lib.splitB mL 0 (Lib.countB t mL) t=d):
  cL 87 #[.string t,.string ⟨#[32]⟩] w λe a=>∃SB,e=.returned (.slice (sO SB) (n+1) (n+1))/\bL w a/\w.1.size<=SB/\SB<a.1.size/\∀j u,d[j]?=some u->a.cell? ⟨SB,j,none⟩=some (.string u):=by
 refine(Tryz.strings_Split t ⟨#[32]⟩ m w f g (by decide)).mono λe a ⟨b,c⟩=>?_
 change e=.returned (.slice (MZ w) (Lib.countB t mL+1) (Lib.countB t mL+1)) at b
 change a=w.alloc (.cells ((Lib.splitB mL 0 (Lib.countB t mL) t).map Value.string).toArray _) at c
 rw[h] at c;rw[i] at b;subst c;refine⟨w.1.size,b,bR.alloc lE _,Ke _,by simp,λj u k=>?_⟩;simp[go_sem,k]
theorem dO{H:Type}{P:Program}{k:TypeId}{R:Value->Option (DataW H × List MemPlace)}{b n B:Nat}{D:DataW H}{w w':World}(h:w.ownsMap P k R b n D)(c:Below B w w')(d:b<B):w'.ownsMap P k R b n D:=by obtain⟨e,a,f,F,g,i⟩:=h;exact⟨e,a,(c.block b d).trans f,F,g,i⟩
theorem Ak(u:ByteArray)(k:Nat)(h:k<u.size):u.1.1.getD k 0=u[k]'h:=by
 have a:k<u.1.1.length:=by simpa using h
 rw[List.getD,Lu a];simp;rfl
theorem A7(u:ByteArray)(k:Nat):(u.extract 0 k).1.1=u.1.1.take k:=by simp[Mn]
theorem rI(u:ByteArray)(k:Nat):(u.extract k u.size).1.1=u.1.1.drop k:=by simp[Mn];exact Ki (by simp)
theorem cH.step{B:Nat}{w w':World}(c:∀g b,B<=g->w.1[g]?=some (.cells b 134 (0,0))->w'.1[g]?=w.1[g]?):∀ (a:List aq) (xs:List Value),cH B w a xs->cH B w' a xs
 |[],_,h=>h
 |r :: a,xs,h=>by obtain⟨e,d,rfl,f,i⟩:=h;exact⟨e,d,rfl,bT f c,cH.step c a d i⟩
theorem cH.push{B:Nat}{w:World}(r:aq)(cv:Value)(c:w.ownsRow B 134 3 cv r.1.length (dP r.1)):∀ (a:List aq) (xs:List Value),cH B w a xs->cH B w (a++[r]) (xs++[cv,U r.2])
 |[],xs,h=>by have h:=h;subst h;exact⟨cv,[],rfl,c,rfl⟩
 |g :: a,xs,h=>by obtain⟨b,d,rfl,e,f⟩:=h;exact⟨b,d++[cv,U r.2],rfl,e,cH.push r cv c a d f⟩
theorem mJ:∃i,prog.info? 134=some i/\i.zero=some (.agg #[U 0,U 0,U 0])/\i.size=3/\i.bytes=24:=jL (by kernel_rfl)
theorem jY:∃i,prog.info? 131=some i/\i.zero=some (.agg #[nL,U 0])/\i.size=2/\i.bytes=32:=jL (by kernel_rfl)
theorem dC{w:World}{b:Nat}{v x u:Value}{t}(h:w.1[b]?=some (.cells #[v,x] t (0,0))):(w.setCell (pA b 0) u).1[b]?=some (.cells #[u,x] t (0,0)):=by
 have a:=io h;have c:w.1[b]=.cells #[v,x] t (0,0):=by simpa [Lo a] using h
 show (w.heap.modify b _)[b]?=_;rw[Lo (by simpa using a),MC,c];rfl
theorem du{w:World}{b:Nat}{v x u:Value}{t}(h:w.1[b]?=some (.cells #[v,x] t (0,0))):(w.setCell (pA b 1) u).1[b]?=some (.cells #[v,u] t (0,0)):=by
 have a:=io h;have c:w.1[b]=.cells #[v,x] t (0,0):=by simpa [Lo a] using h
 show (w.heap.modify b _)[b]?=_;rw[Lo (by simpa using a),MC,c];rfl
theorem ag{w:World}{b:Nat}{v x:Value}{t}(h:w.1[b]?=some (.cells #[v,x] t (0,0))):w.cell? (pA b 0)=some v/\w.cell? (pA b 1)=some x/\w.frozen? (pA b 0)=false/\w.frozen? (pA b 1)=false:=by simp[World.cell?,World.frozen?,h]
theorem ji{a b:Int}(h:(DataW.lit (.int .i64 a):DataW Unit)=.lit (.int .i64 b)):a=b:=by
 cases h;rfl
theorem qr:∀ (cs:List aN) (i:Nat) (c:aN),cs[i]?=some c->(dP cs)[i*3]?=some (U c.1)/\(dP cs)[i*3+1]?=some (U c.2.1)/\(dP cs)[i*3+2]?=some (U c.2.2)
 |[],_,_,h=>by simp at h
 |a :: r,0,c,h=>by simp at h;subst h;simp[dP]
 |a :: r,i+1,c,h=>by
  have b:=qr r i c (by simpa using h);have e:dP (a :: r)=U a.1 :: U a.2.1 :: U a.2.2 :: dP r:=rfl;rw[e];refine⟨?_,?_,?_⟩
  ·rw[show (i+1)*3=i*3+1+1+1 by omega];simpa using b.1
  ·rw[show (i+1)*3+1=i*3+1+1+1+1 by omega];simpa using b.2.1
  rw[show (i+1)*3+2=i*3+2+1+1+1 by omega];simpa using b.2.2
theorem cH.get{B w}:∀ (a:List aq) (xs:List Value) (i:Nat) (r:aq),cH B w a xs->a[i]?=some r->∃b,xs[i*2]?=some b/\xs[i*2+1]?=some (U r.2)/\w.ownsRow B 134 3 b r.1.length (dP r.1)
 |[],_,_,_,_,h=>by simp at h
 |j :: a,xs,0,r,h,c=>by obtain⟨b,e,rfl,f,g⟩:=h;simp at c;subst c;exact⟨b,rfl,rfl,f⟩
 |j :: a,xs,i+1,r,h,c=>by
  obtain⟨b,e,rfl,f,g⟩:=h;obtain⟨d,k,l,m⟩:=cH.get a e i r g (by simpa using c);refine⟨d,?_,?_,m⟩
  ·rw[show (i+1)*2=i*2+1+1 by omega];simpa using k
  rw[show (i+1)*2+1=i*2+1+1+1 by omega];simpa using l
def bE(L:Nat)(w:World)(b:Value)(p:aD):Prop:=∀a:World,(∀g,L<=g->g<w.1.size->a.1[g]?=w.1[g]?)->w.1.size<=a.1.size->aX a.1.size a b p
theorem bE.at{L w pv p}(h:bE L w pv p):aX w.1.size w pv p:=h w (λ_ _ _=>rfl) lE
theorem bE.keep{L a:Nat}{w w':World}{pv p}(h:bE L w pv p)(i:a<=L)(b:∀g,L<=g->g<w.1.size->w'.1[g]?=w.1[g]?)(j:w.1.size<=w'.1.size):bE a w' pv p:=
 λc d k=>h c (λg e f=>(d g (by omega) (by omega)).trans (b g e f)) (by omega)
theorem bE.l{L a:Nat}{w w' pv p}(h:bE L w pv p)(c:a<=L)(b:bL w w'):bE a w' pv p:=h.keep c (λg _ d=>b.block g d) b.size
theorem bE.put{L w pv p}{b o:Nat}{u:Value}(h:bE L w pv p)(a:b<L\/w.1.size<=b):bE L (w.setCell ⟨b,o,none⟩ u) pv p:=h.keep lE (λg c d=>Kc _ _ _ _ (by show g≠b;omega)) (by simp)
def DL:Value->Nat
 |.string s=>s.size
 |_=>0
def Jv(w W:World)(b c d e a:Nat):Prop:=
 Below b w W/\W.1[b]?=some (.cells #[nL,U 0] 30 (0,0))/\
 W.ownsMap prog 9 (plainElem prog 3) c 5 D1/\W.ownsMap prog 9 (plainElem prog 3) d 5 D2/\W.ownsMap prog 5 (plainElem prog 3) e 4 D3/\
 W.1[a]?=some (.cells #[nL,U 0] 30 (0,0))/\b=w.1.size/\b<a/\c<a/\d<a/\e<a/\a<W.1.size
def vC:Array Value:=#[.string ⟨#[107,105,108,108]⟩,.string ⟨#[116,114,97,112]⟩,.string ⟨#[102,97,105,108]⟩,.string ⟨#[108,111,103]⟩,.string ⟨#[97,108,108,111,119]⟩]
def fC:Array Value:=#[.string ⟨#[110,114]⟩,.string ⟨#[107,105,110,100]⟩,.string ⟨#[97]⟩,.string ⟨#[98]⟩,.string ⟨#[99]⟩]
theorem jE(w):cL 187 #[] w λe a=>e=.returned (.slice (sO w.1.size) 5 5)/\a=w.alloc (.cells vC 9):=by go_enter func187,ntmps187;go_wp2;go_ret;exact⟨rfl,rfl⟩
theorem oO(w):cL 213 #[] w λe a=>e=.returned (.slice (sO w.1.size) 5 5)/\a=w.alloc (.cells fC 9):=by go_enter func213,ntmps213;go_wp2;go_ret;exact⟨rfl,rfl⟩
def dT(b:Nat)(cs:Array Value)(w:World):Prop:=∀j u,cs[j]?=some u->w.cell? ⟨b,j,none⟩=some u
theorem dT.made(w:World)(cs T):dT w.1.size cs (w.alloc (.cells cs T)):=by intro j u h;rw[World.cell?_alloc_at _ _ _ _ rfl];exact h
theorem dT.l{b cs w w'}(h:dT b cs w)(c:bL w w')(a:b<w.1.size):dT b cs w':=λj u d=>(c.cell (p:=⟨b,j,none⟩) a).trans (h j u d)
theorem tV(a:List Bs)(cs:Array Value)(c:cs=(a.map λn=>Value.string (dU n)).toArray)(d:a.length=5)(b x w)(h:dT b cs w):
  cL 202 #[.slice (sO b) 5 5,.string x] w λe g=>e=.returned (U (bt a x.1.1))/\g=w:=by
 have:=Tryz.slices_Index_string b 0 5 5 (a.map dU) x w (by simp[d]) (by decide) (λj f=>by
  rw[Kp];refine h j _ ?_;rw[c];simp at f
  simp[List.getD,f])
 rw[Ki (by simp[d]),uh] at this;exact this
theorem ot(x w):
  cL 220 #[.string x] w (rT w (.tuple #[U (bt vN x.1.1),.bool (decide (0<=bt vN x.1.1))])):=by
 have b:Hid (cL 202 #[.slice (MZ w) 5 5,.string x] (w.alloc (.cells vC 9)) λe a=>e=.returned (U (bt vN x.1.1))/\a=w.alloc (.cells vC 9)):=tV vN vC rfl rfl w.1.size x _ (dT.made w vC 9);have c:Hid (bL w (w.alloc (.cells vC 9))):=bR.alloc lE _;generalize bt vN x.1.1=d at*;go_enter func220,ntmps220;go_wp2_with fail;go_at_call 187;refine(jE _).mono ?_;rintro e f ⟨rfl,rfl⟩;generalize g:w.alloc (.cells vC 9)=W at*;go_wp2_with fail;go_at_call 202;refine b.o.mono ?_;rintro e h ⟨rfl,rfl⟩;go_wp2_with fail;go_ret2;exact⟨rfl,c.o⟩
def Ef(c:Option aN):Value:=match c with
 |some c=>.agg #[U c.1,U c.2.1,U c.2.2]
 |none=>.agg #[U 0,U 0,U 0]
def Ju(W:World)(a:Nat->Value->Prop)(w:World):Prop:=
 bL W w/\∀v,a 0 v->∃b:Nat,v=.slice (sO b) 5 5/\b<w.1.size/\dT b fC w
def Jk(a:Int)(k:Nat)(v:Value):Prop:=if k=0 then ∃b:Nat,v=.slice (sO b) 5 5 else v=U a
theorem EB(ix k):∃v,Jk ix k v:=by
 unfold Jk
 split
 ·exact⟨_,0,rfl⟩
 exact⟨_,rfl⟩
theorem eL{W:World}{b:Nat}{a c d:Value}{T}(h:W.1[b]?=some (.cells #[a,c,d] T (0,0))):
  (W.cell? (pA b 0)=some a/\W.cell? (pA b 1)=some c/\W.cell? (pA b 2)=some d)/\W.frozen? (pA b 0)=false/\W.frozen? (pA b 1)=false/\W.frozen? (pA b 2)=false:=by
 simp[World.cell?,World.frozen?,h]
theorem pF{W:World}{b:Nat}{a c d u0 u1 u2:Value}{T}(h:W.1[b]?=some (.cells #[a,c,d] T (0,0))):
  (((W.setCell (pA b 0) u0).setCell (pA b 1) u1).setCell (pA b 2) u2).1[b]?=some (.cells #[u0,u1,u2] T (0,0)):=
 ap (o:=2) (u:=u2) (ap (o:=1) (u:=u1) (ap (o:=0) (u:=u0) h))
theorem lJ{B b:Nat}{a W}(h:Below B a W)(c:B<=b)(u0 u1 u2:Value):Below B a (((W.setCell (pA b 0) u0).setCell (pA b 1) u1).setCell (pA b 2) u2):=
 h.s3 c
theorem lU(c:Bs):∀l:Bs,Lib.indexAny l c<l.length
 |[]=>by simp[Lib.indexAny]
 |b :: l=>by
  have:=lU c l;unfold Lib.indexAny;rw[Kv]
  split
  ·omega
  split<;>omega
theorem ny(c:UInt8):∀l:Bs,Lib.indexByte l c<l.length
 |[]=>by simp[Lib.indexByte]
 |b :: l=>by
  have:=ny c l;unfold Lib.indexByte;rw[Kv]
  split
  ·omega
  split<;>omega
theorem GQ{l:Bs}{n:Int}(h:cS l=some n):wf n:=by
 unfold cS at h
 split at h
 ·rename_i v a;have⟨b,c⟩:=qD a
  split at h
  ·cases h;unfold wf;exact L4 (by omega)
  cases h
 cases h
theorem cR{n:Int}(h : -9223372036854775808<=n/\n<=9223372036854775807):wf n:=by unfold wf;exact L4 (by omega)
theorem yZ{l:Bs}{c:aN}(h:cZ l=some c):wf c.1/\wf c.2.1/\wf c.2.2:=by
 unfold cZ at h
 split at h
 ·cases h
 split at h
 ·cases h
 rename_i n a
 split at h
 ·cases h
 cases h;have b:=jO fN (l.take (Lib.indexAny l fU).toNat);have g:=Lib.indexByte_ge fU (l.getD (Lib.indexAny l fU).toNat 0);have d:=ny (l.getD (Lib.indexAny l fU).toNat 0) fU;have e:fN.length=5:=rfl;have f:fU.length=4:=rfl;rw[e] at b;rw[f] at d;exact⟨cR (by simp only[];omega),cR (by simp only[];omega),GQ a⟩
theorem An(s:ByteArray)(hs:s.size<=4294967280)(w)(he:dD w):
  cL 229 #[.string s] w (rT w (.tuple #[Ef (cZ s.1.1),.bool (cZ s.1.1).isSome])):=by
 have O:Hid (∀a,cL 248 #[.string s,.string ⟨#[61,33,60,62]⟩] a (rT a (U (Lib.indexAny s.1.1 fU)))):=λa=>A9 s (by omega) a
 have D:=Lib.indexAny_ge fU s.1.1;have l:=lU fU s.1.1;rw[<-KR] at l;have P:∀X,bL w (w.alloc X):=λX=>bR.alloc lE _
 have Q:Hid (∀a T,Below (w.1.size+1) (w.alloc (.cells #[U 0,U 0,U 0] T)) a->a.1[w.1.size]?=some (.cells #[U 0,U 0,U 0] T (0,0))/\bL w a):=λa T h=>⟨(h.block w.1.size (by omega)).trans (Kr w _).1,(P _).trans (h.mono (by omega))⟩
 by_cases o:Lib.indexAny s.1.1 fU<0
 ·have M:Hid (cZ s.1.1=none):=by unfold Hid cZ;rw[Io o]
  generalize Lib.indexAny s.1.1 fU=ix at*;go_enter func229,ntmps229;go_wp2_with fail;go_at_call 248;refine(O.o _).mono ?_;rintro e B ⟨rfl,p⟩;simp only[Kg] at p;obtain⟨r,d⟩:=Q.o _ _ p;have⟨⟨c0,c1,c2⟩,f0,f1,f2⟩:=eL r;have f:Hid _:=r;clear r D l;go_wp2_with fail;have⟨⟨R,S,V⟩,_⟩:=eL (pF (u0:=U 0) (u1:=U 0) (u2:=U 0) f.o);refine Ka (v:=.tuple #[.agg #[U 0,U 0,U 0],.bool false]) ?_ rfl ⟨by rw[M.o];rfl,lJ d lE _ _ _⟩;rw[K8 rfl];go_simp
 obtain⟨i,W⟩:∃i:Nat,Lib.indexAny s.1.1 fU=i:=⟨(Lib.indexAny s.1.1 fU).toNat,by omega⟩;have t:i<s.size:=by omega
 obtain⟨x,Y⟩:∃x:UInt8,s[i]'t=x:=⟨_,rfl⟩;have E:s.1.1.getD i 0=x:=by rw[Kn,Lib.data_getElem? s i t,Y];rfl
 have b2:∀w,(Instr.index 9 (.string s) (U i)).run prog w=.ok (.int .u8 x.toNat) w:=λw=>by have:=j5 s i t w;rw[Y] at this;exact this
 have M:Hid (cZ s.1.1=match cS (s.1.1.drop (i+1)) with
  |none=>none
  |some n=>if bt fN (s.1.1.take i)<0 then none else some (bt fN (s.1.1.take i),1+Lib.indexByte fU x,n)):=by
  unfold Hid cZ;rw[W];simp only[L3,E];rw[iO (by omega)];rfl
 rw[W] at O;have HN:Hid (∀a,bL w a->cL 175 #[.string (s.extract (i+1) s.size)] a λe g=>∃n ok,e=.returned (.tuple #[U n,.bool ok])/\(cS (s.1.1.drop (i+1))=if ok=true then some n else none)/\wf n/\bL a g):=λa p=>by have:=kV (s.extract (i+1) s.size) (by rw[ByteArray.size_extract];omega) a (he.l p);rw[rI] at this;exact this
 have HX:Hid (∀b a,dT b fC a->cL 202 #[.slice (sO b) 5 5,.string (s.extract 0 i)] a λe g=>e=.returned (U (bt fN (s.1.1.take i)))/\g=a):=λb a hn=>by have:=tV fN fC rfl rfl b (s.extract 0 i) a hn;rw[Lib.extract_from_zero] at this;exact this
 have HY:Hid (∀a,cL 249 #[.string ⟨#[61,33,60,62]⟩,.int .u8 x.toNat] a λe g=>e=.returned (U (Lib.indexByte fU x))/\g=a):=λa=>by have:=Tryz.strings_IndexByte jC x.toNat a;rw[show ((x.toNat:Int)).toNat.toUInt8=x by simp] at this;exact this
 have b6:=Lib.indexByte_ge fU x;have b7:Lib.indexByte fU x<4:=ny x fU;have b8:IntKind.i64.wrap (1+Lib.indexByte fU x)=1+Lib.indexByte fU x:=KA _ (by omega);have b9:IntKind.i64.wrap ((i:Int)+1)=(i:Int)+1:=KA _ (by omega)
 have F:∀w,(Instr.sliceAt 9 (.string s) none (some (U i)) none).run prog w=.ok (.string (s.extract 0 i)) w:=λw=>by
  have:(i:Int)<=(s.size:Int):=by omega
  have h2:i<=s.size:=by omega
  simp[go_sem,this,h2,Tryz.underlying9]
 have a9:∀w,(Instr.sliceAt 9 (.string s) (some (U ((i:Int)+1))) none none).run prog w=.ok (.string (s.extract (i+1) s.size)) w:=λw=>pJ s (i+1) (by omega) w
 clear Y E D o W;generalize bt fN (s.1.1.take i)=j at*;generalize Lib.indexByte fU x=oy at*;generalize m:cS (s.1.1.drop (i+1))=nd at*;clear m;have bb:¬((i:Int)<0):=by omega
 go_enter func229,ntmps229;go_wp2_with fail;go_at_call 248;refine(O.o _).mono ?_;rintro e B ⟨rfl,p⟩;simp only[Kg] at p;have G:w.1.size+1<=B.1.size:=by have:=p.size;simpa using this
 go_wp2_with fail
 have H:Hid (∀fs a,Ju B fs a->∃z:ax B,a=z.1):=λfs a h=>⟨⟨a,h.1⟩,rfl⟩
 have a2:=ax.ne B;refine bJ [_,_,_,_,_] _ rfl (λk=>k==0||k==4) (Ju B) (Jk j) (EB j) (by kernel_rfl) (by kernel_rfl) ⟨bR.drew,λ_ h=>h.elim⟩ ?_;refine bw 213 #[] rfl rfl (λa=>by kernel_rfl) (λgs a C q a3=>?_) (λv0 a4=>?_)
 ·refine(oO a).mono ?_;rintro e w2 ⟨rfl,rfl⟩;have d:bL a (a.alloc (.cells fC 9)):=bR.alloc lE _;refine⟨_,rfl,⟨_,rfl⟩,C.1.th d,λv u=>?_⟩
  rcases u with u|⟨_,rfl⟩
  ·obtain⟨b,rfl,l,hn⟩:=C.2 v u;exact⟨b,rfl,by simp;omega,hn.l d l⟩
  exact⟨_,rfl,by simp,dT.made a fC 9⟩
 go_frame;obtain⟨b,rfl⟩:∃b:Nat,v0=.slice (sO b) 5 5:=a4;iterate 2(refine aP H.o rfl rfl ?_;go_big_quiet_step (fail);refine Km ?_)
 refine fD (.string (s.extract 0 i)) rfl rfl (λa=>gg (F a)) ?_;go_frame;refine bw 202 #[.slice (sO b) 5 5,.string (s.extract 0 i)] rfl rfl (λa=>by kernel_rfl) (λgs a C q a3=>?_) (λv4 a5=>?_)
 ·obtain⟨b',e',ae,a6⟩:=C.2 _ (q 0 _ (.inr ⟨rfl,rfl⟩) (au (by kernel_rfl)));simp at e';subst e';refine(HX.o b a a6).mono ?_;rintro e w2 ⟨rfl,rfl⟩;refine⟨_,rfl,rfl,C.1,λv u=>?_⟩
  rcases u with u|⟨h,_⟩
  ·exact C.2 v u
  cases h
 go_frame;obtain rfl:v4=U j:=a5;refine ei ?_;intro w2 y;have I:=Below.tO p y.1 G;have J:=y.1.u G;clear y a2 H;go_wp2_with fail;go_at_call 175;refine(HN.o _ (Q.o _ _ I).2).mono ?_;rintro e w3 ⟨n,ok,rfl,m,a7,A⟩;have K:=Below.tO I A J;have bg:=A.u J;obtain⟨r,d⟩:=Q.o _ _ K;have⟨⟨c0,c1,c2⟩,f0,f1,f2⟩:=eL r;have f:Hid _:=r;have L:Hid _:=m;clear r A m a7
 by_cases c:j<0\/ok=false
 ·have N:Hid (cZ s.1.1=none):=by
   unfold Hid;rw[M.o,L.o]
   cases ok with
   |false=>rfl
   |true=>
    have:j<0:=by simpa using c
    simp[this]
  by_cases hf:j<0
  ·go_wp2_with fail;have⟨⟨R,S,V⟩,_⟩:=eL (pF (u0:=U 0) (u1:=U 0) (u2:=U 0) f.o);refine Ka (v:=.tuple #[.agg #[U 0,U 0,U 0],.bool false]) ?_ rfl ⟨by rw[N.o];rfl,lJ d lE _ _ _⟩;rw[K8 rfl];go_simp
  obtain rfl:ok=false:=by simpa [hf] using c
  clear c;go_wp2_with fail;have⟨⟨R,S,V⟩,_⟩:=eL (pF (u0:=U 0) (u1:=U 0) (u2:=U 0) f.o);refine Ka (v:=.tuple #[.agg #[U 0,U 0,U 0],.bool false]) ?_ rfl ⟨by rw[N.o];rfl,lJ d lE _ _ _⟩;rw[K8 rfl];go_simp
 have hf:¬j<0:=λh=>c (.inl h)
 obtain rfl:ok=true:=by cases ok with|true=>rfl|false=>exact absurd (.inr rfl) c
 have N:Hid (cZ s.1.1=some (j,1+oy,n)):=by unfold Hid;rw[M.o,L.o];simp[hf]
 clear c;go_wp2_with fail;go_at_call 249;refine(HY.o _).mono ?_;rintro e w4 ⟨rfl,rfl⟩;go_wp2_with fail;have⟨⟨R,S,V⟩,_⟩:=eL (pF (u0:=U j) (u1:=U (1+oy)) (u2:=U n) f.o);refine Ka (v:=.tuple #[.agg #[U j,U (1+oy),U n],.bool true]) ?_ rfl ⟨by rw[N.o];rfl,lJ d lE _ _ _⟩;rw[K8 rfl];go_simp
theorem ry(c):∀ (l:Bs) (p:Bs),p∈bI c l->p.length<=l.length
 |[],p,h=>by simp[bI] at h;subst h;simp
 |b :: l,p,h=>by
  have a:=ry c l;unfold bI at h
  split at h
  ·simp at h
   rcases h with rfl|h
   ·simp
   have:=a p h;simp;omega
  split at h
  ·simp at h;subst h;simp
  rename_i d f e;rw[e] at a;simp at h
  rcases h with rfl|h
  ·have:=a d (by simp);simp;omega
  have:=a p (by simp[h]);simp;omega
theorem yQ(c)(s:ByteArray)(i:s.size<=4294967280)(w)(b:tO w):∃a:List ByteArray,a.map (·.1.1)=bI c s.1.1/\
  cL 87 #[.string s,.string ⟨#[c]⟩] w λe d=>e=.returned (.slice (sO w.1.size) a.length a.length)/\d=w.alloc (.cells (a.map Value.string).toArray 9):=by
 obtain⟨f,g⟩:=b;have h:=Tryz.strings_Split s ⟨#[c]⟩ f w (by omega) g (Ke 1);refine⟨Lib.splitB ⟨#[c]⟩ 0 (Lib.countB s ⟨#[c]⟩) s,?_,?_⟩
 ·rw[Lib.splitB_data,<-jp];rfl
 rw[Lib.splitB_all ⟨#[c]⟩ (Ke 1) 0 _ s rfl];exact h
def ez(L:Nat)(w:World)(v:Value)(cs:List aN):Prop:=
 ∃a d,v=.slice a cs.length d/\cs.length<=d/\d<=maxLen/\∀i c,cs[i]?=some c->∃b o,a=some ⟨b,o,none⟩/\L<=b/\b<w.1.size/\iu w b (o+i*3) c
theorem ez.nil(L w):ez L w nL []:=⟨none,0,rfl,Ke _,Ks _,λi c h=>by simp at h⟩
theorem cE{w w':World}{b:Nat}(h:w'.1[b]?=w.1[b]?)(o:Nat):w'.cell? ⟨b,o,none⟩=w.cell? ⟨b,o,none⟩:=by unfold World.cell?;rw[h]
theorem ez.keep{L}{w w':World}{v cs}(h:ez L w v cs)(l:∀g,L<=g->g<w.1.size->w'.1[g]?=w.1[g]?)(m:w.1.size<=w'.1.size):ez L w' v cs:=by obtain⟨a,d,n,p,q,r⟩:=h;refine⟨a,d,n,p,q,λi c s=>?_⟩;have⟨b,o,e,j,t,k⟩:=r i c s;refine⟨b,o,e,j,by omega,?_⟩;have f:=l b j t;unfold iu;rw[cE f,cE f,cE f];exact k
theorem ez.mono{L f:Nat}{w v cs}(h:ez L w v cs)(q:f<=L):ez f w v cs:=by obtain⟨a,d,g,j,l,m⟩:=h;refine⟨a,d,g,j,l,λi c n=>?_⟩;have⟨b,o,e,r,p,k⟩:=m i c n;exact⟨b,o,e,by omega,p,k⟩
theorem ez.at{L w v cs}(h:ez L w v cs):bG w.1.size w v cs:=by obtain⟨a,d,f,g,j,l⟩:=h;refine⟨a,d,f,g,j,λi c m=>?_⟩;have⟨b,o,e,p,n,k⟩:=l i c m;exact⟨b,o,e,n,k⟩
def FA(n:Nat)(cs:List aN)(a:Array Value):Prop:=
 a.size=n*3/\∀i c,cs[i]?=some c->a[i*3]?=some (U c.1)/\a[i*3+1]?=some (U c.2.1)/\a[i*3+2]?=some (U c.2.2)
def DG(a:Array Value)(o:Nat)(b c d:Value):Array Value:=((a.setIfInBounds o b).setIfInBounds (o+1) c).setIfInBounds (o+2) d
theorem FA.put{n cs cur}(h:FA n cs cur)(b:cs.length<n)(c:aN):FA n (cs++[c]) (DG cur (cs.length*3) (U c.1) (U c.2.1) (U c.2.2)):=by
 obtain⟨f,g⟩:=h;refine⟨by simp[DG,f],λi d a=>?_⟩;have q:i<cs.length+1:=by have:=(K9.1 a).1;simpa using this
 by_cases e:i=cs.length
 ·subst e;rw[Kk lE] at a;simp at a;subst a;have j:cs.length*3<cur.size:=by omega
  have k:cs.length*3+1<cur.size:=by omega
  have l:cs.length*3+2<cur.size:=by omega
  unfold DG;simp only[KC];refine⟨?_,?_,?_⟩<;>simp[j,k,l]
 rw[Kh (by omega)] at a;have⟨m,o,p⟩:=g i d a;unfold DG;simp only[KC];refine⟨?_,?_,?_⟩
 ·rw[iO (by omega),iO (by omega),iO (by omega)];exact m
 ·rw[iO (by omega),iO (by omega),iO (by omega)];exact o
 rw[iO (by omega),iO (by omega),iO (by omega)];exact p
theorem GE{w:World}{g o:Nat}{a:Array Value}{b c d:Value}{T}(h:w.1[g]?=some (.cells a T (0,0))):(((w.setCell ⟨g,o,none⟩ b).setCell ⟨g,o+1,none⟩ c).setCell ⟨g,o+2,none⟩ d).1[g]?=some (.cells (DG a o b c d) T (0,0)):=
 ap (o:=o+2) (u:=d) (ap (o:=o+1) (u:=c) (ap (o:=o) (u:=b) h))
theorem Eo{w:World}{g k:Nat}(o:Nat)(a b c:Value)(h:k≠g):(((w.setCell ⟨g,o,none⟩ a).setCell ⟨g,o+1,none⟩ b).setCell ⟨g,o+2,none⟩ c).1[k]?=w.1[k]?:=by rw[Kc _ _ _ _ (by show k≠g;exact h),Kc _ _ _ _ (by show k≠g;exact h),Kc _ _ _ _ (by show k≠g;exact h)]
theorem jd{w:World}{g:Nat}{a:Array Value}{T}(h:w.1[g]?=some (.cells a T (0,0)))(o:Nat)(b:o<a.size):(∃u,w.cell? ⟨g,o,none⟩=some u)/\w.frozen? ⟨g,o,none⟩=false:=by refine⟨⟨a[o],?_⟩,fZ h _⟩;simp[World.cell?,h,b]
def Jy(G:Nat)(W:World)(b a:Array Value)(T:TypeId)(c:Nat->Value->Prop)(w:World):Prop:=
 Below G W w/\(∀k,k<W.1.size->k≠G->w.1[k]?=W.1[k]?)/\((∀v,¬c 9 v)->w.1[G]?=some (.cells b T (0,0)))/\((∃v,c 9 v)->w.1[G]?=some (.cells a T (0,0)))
def J7(a:Value)(k:Nat)(v:Value):Prop:=if k=4 then v=a else True
theorem FH(v4 k):∃v,J7 v4 k v:=by
 unfold J7
 split
 ·exact⟨_,rfl⟩
 exact⟨undef,trivial⟩
def y9(G:Nat)(W:World):Type:={ w':World // ∀k,k<W.1.size->k≠G->w'.1[k]?=W.1[k]? }
theorem y9.ne(G W):Nonempty (y9 G W):=⟨⟨W,λ_ _ _=>rfl⟩⟩
theorem y9.cell{G W}(x:y9 G W){b o:Nat}{v:Value}(h:W.cell? ⟨b,o,none⟩=some v)(a:b≠G):x.1.cell? ⟨b,o,none⟩=some v:=by rw[cE (x.2 b (KE _ _ h) a)];exact h
theorem CN(n:Nat)(f:n<=4294967281)(w:World):(Instr.makeSlice 129 (U n) (U n)).run prog w=.ok (.slice (sO w.1.size) n n) (w.alloc (.cells (madeCells #[U 0,U 0,U 0] (n*3)) 134)):=by
 obtain⟨a,b,c,d,e⟩:=mJ;have:=MQ (P:=prog) w 129 134 a _ Tryz.underlying129 b c .i64 .i64 n n (by omega) (LH _) (by rw[e];omega) (by omega);rw[d] at this
 simpa [Value.cells] using this
theorem Ck{l h:Bs}{t:List Bs}(e:bI 32 l=h :: t):cC l=if bt vN h<0 then none else match ep cZ t with
  |none=>none
  |some a=>some (a,bt vN h):=by
 unfold cC;rw[e];rfl
theorem Fv(i n G:Nat)(h:i<n)(w:World):(Instr.indexAt 129 (.slice (sO G) n n) (U i)).run prog w=.ok (.pointer (some ⟨G,i*3,none⟩)) w:=by
 have a:(i:Int)<(n:Int):=by omega
 have b:(0:Int)<=(i:Int):=by omega
 go_simp
theorem Aa(s:ByteArray)(hs:s.size<=4294967280)(w)(he:dD w):
  cL 219 #[.string s] w λe f=>∃cv,e=.returned (.tuple #[.agg #[cv,U ((cC s.1.1).getD ([],0)).2],.bool (cC s.1.1).isSome])/\ez w.1.size f cv ((cC s.1.1).getD ([],0)).1/\bL w f:=by
 have bb:∀X,bL w (w.alloc X):=λX=>bR.alloc lE _
 obtain⟨ps,E,K⟩:=yQ 32 s hs (w.alloc (.cells #[nL,U 0] 131)) (he.l (bb _)).1;have bc:∀p∈ps,p.size<=4294967280:=by intro p hp;have:=ry 32 s.1.1 p.1.1 (by rw[<-E];exact Md.2 ⟨p,hp,rfl⟩);rw[<-KR,<-KR] at this;omega
 have a2:ps.length<=s.size+1:=by
  have h1:ps.length=(bI 32 s.1.1).length:=by rw[<-E];simp
  rw[h1,<-jp];unfold Lib.split
  have:∀k (l:Bs),(Lib.splitK [32] 0 k l).length<=k+1:=by
   intro k
   induction k with
   |zero=>intro l;simp[Lib.splitK]
   |succ k ih=>
    intro l;unfold Lib.splitK;split
    ·simp
    simp;exact ih _
  have h2:=this (Lib.count s.1.1 [32]) s.1.1;rw[MG] at h2;have h3:=List.count_le_length (a:=(32:UInt8)) (l:=s.1.1);rw[<-KR] at h3;rw[MG];omega
 cases ps with
 |nil=>exact absurd E.symm (fM 32 _)
 |cons S pt=>
  have hR:=Ck (l:=s.1.1) (h:=S.1.1) (t:=pt.map (λp:ByteArray=>p.1.1)) E.symm
  have HR:Hid (cC s.1.1=if bt vN S.1.1<0 then none else match ep cZ (pt.map (λp:ByteArray=>p.1.1)) with
   |none=>none
   |some r=>some (r,bt vN S.1.1)):=hR
  have av:(S :: pt).length=pt.length+1:=rfl;rw[av] at K a2;have bd:Hid _:=K;have ce:Hid (∀ (j:Nat) (p:ByteArray),pt[j]?=some p->p.size<=4294967280):=λj p hj=>bc p (by simp[Kb hj])
  have HV:=Z λf=>ot S f
  have ed:=jh vN S.1.1;have ee:bt vN S.1.1<5:=jO vN _;have⟨W1,O⟩:=nM ((w.alloc (.cells #[nL,U 0] 131)).alloc (.cells ((S :: pt).map Value.string).toArray 9));have bf:bL w W1:=by rw[O];exact(bb _).alloc (by simp) _
  have bg:W1.1.size=w.1.size+2:=by rw[O];simp
  have b:W1.1[w.1.size]?=some (.cells #[nL,U 0] 131 (0,0)):=by rw[O,Kq _ _ _ (by simp)];exact(Kr w _).1
  have x:dT (w.1.size+1) ((S :: pt).map Value.string).toArray W1:=by have:=dT.made (w.alloc (.cells #[nL,U 0] 131)) ((S :: pt).map Value.string).toArray 9;rw[Kg] at this;rw[O];exact this
  have ef:W1.cell? ⟨w.1.size+1,0,none⟩=some (.string S):=x 0 _ (by simp)
  have HW:Hid (∀f,Below (w.1.size+2) W1 f->f.1[w.1.size]?=some (.cells #[nL,U 0] 131 (0,0))/\(∀ (j:Nat) (p:ByteArray),pt[j]?=some p->f.cell? ⟨w.1.size+1,j+1,none⟩=some (.string p))/\bL w f):=λf h=>
   ⟨h.bk b,λj p hj=>(h.cell (p:=⟨w.1.size+1,j+1,none⟩) (by show w.1.size+1<_;omega)).trans (x (j+1) _ (by simp[hj])),bf.trans (h.mono (by omega))⟩
  generalize ck:bt vN S.1.1=y at*;clear ck hR E bc b x;have T:=CN pt.length (by omega);generalize bk:pt.length=n at*;have b2:=Z bk;clear bk;have eg:IntKind.i64.wrap (n:Int)=(n:Int):=KA _ (by omega);have ej:=ai;have⟨mc,b3⟩:=nM (madeCells #[U 0,U 0,U 0] (n*3));have ac:mc.size=n*3:=by rw[b3];exact LS _ _
  rw[<-b3] at T;have bm:∀w,(Instr.makeSlice 129 (U n) (U n)).run prog w=.ok (.slice (some ⟨w.1.size,0,none⟩) n n) (w.alloc (.cells mc 134)):=T;clear T b3;go_enter func219,ntmps219;go_wp2_with fail;go_at_call 87;refine Calls.mono bd.o ?_;rintro e w1 ⟨rfl,bo⟩;simp only[Kg];rw[<-O] at bo;subst bo;clear O bd;go_wp2_with fail;go_at_call 220;refine Calls.mono (HV.o _) ?_;rintro e w2 ⟨rfl,P⟩
  try unfold bL at P
  rw[bg] at P;have ek:w.1.size+2<=w2.1.size:=by have:=P.size;omega
  obtain⟨b,x,bp⟩:=HW.o _ P
  by_cases b4:y<0
  ·have hN:=Z (by rw[HR.o,Io b4]:cC s.1.1=none);have cl:decide (0<=y)=false:=KD (by omega);have⟨t0,t1,t2,t3⟩:=ag b;have m:Hid _:=b;clear b x bm;go_wp2_with fail;have F:=du (u:=U 0) (dC (u:=nL) m.o);have⟨z0,z1,_,_⟩:=ag F;refine Ka (v:=.tuple #[.agg #[nL,U 0],.bool false]) ?_ rfl ⟨nL,by rw[hN.o];rfl,by rw[hN.o];exact ez.nil _ _,bp.s2 lE⟩;rw[K8 rfl];go_simp
  have cl:decide (0<=y)=true:=KS (by omega);have dp:Hid (wf y):=cR (by omega)
  have br:Hid (cC s.1.1=match ep cZ (pt.map (λp:ByteArray=>p.1.1)) with
   |none=>none
   |some r=>some (r,y)):=by unfold Hid;rw[HR.o,iO b4]
  clear HR b x b4;have⟨G,hG⟩:=nM (w2.1.size);have⟨W4,A⟩:=nM ((w2.alloc (.cells mc 134)).alloc (.cells #[.slice (some ⟨w2.1.size,0,none⟩) n n,U y] 131));have bs:Below G w2 W4:=by rw[hG,A];exact(bR.alloc lE _).alloc (by simp) _
  have el:W4.1.size=G+2:=by rw[hG,A];simp
  have em:w.1.size+2<=G:=by omega
  have H:W4.1[G]?=some (.cells mc 134 (0,0)):=by rw[hG,A,Kq _ _ _ (by simp)];exact(Kr w2 _).1
  have I:W4.1[G+1]?=some (.cells #[.slice (some ⟨G,0,none⟩) n n,U y] 131 (0,0)):=by have:=(Kr (w2.alloc (.cells mc 134)) (.cells #[.slice (some ⟨w2.1.size,0,none⟩) n n,U y] 131)).1;rw[Kg] at this;rw[A,hG];exact this
  have ae:Hid (∀ (wr:World) (g:Array Value) (r:List aN),Below G W4 wr->wr.1[G]?=some (.cells g 134 (0,0))->FA n r g->r.length=n->(∀c∈r,wf c.1/\wf c.2.1/\wf c.2.2)->ep cZ (pt.map (λp:ByteArray=>p.1.1))=some r->
    ∃cv,(.tuple #[.agg #[.slice (some ⟨G,0,none⟩) n n,U y],.bool true]:Value)=(.tuple #[.agg #[cv,U ((cC s.1.1).getD ([],0)).2],.bool (cC s.1.1).isSome])/\ez w.1.size ((wr.setCell ⟨w.1.size,0,none⟩ (.slice (some ⟨G,0,none⟩) n n)).setCell ⟨w.1.size,1,none⟩ (U y)) cv ((cC s.1.1).getD ([],0)).1/\bL w ((wr.setCell ⟨w.1.size,0,none⟩ (.slice (some ⟨G,0,none⟩) n n)).setCell ⟨w.1.size,1,none⟩ (U y))):=by
   intro wr g r Q B V R a5 L;have hr:cC s.1.1=some (r,y):=by rw[br.o,L]
   rw[hr];refine⟨.slice (some ⟨G,0,none⟩) n n,rfl,⟨some ⟨G,0,none⟩,n,by simp[R],by simp[R],by omega,λi c hc=>⟨G,0,rfl,by omega,?_,?_⟩⟩,?_⟩
   ·have:=io B;simp;exact this
   ·have hi:i<n:=by have:=(K9.1 hc).1;simp at this;omega
    have⟨k0,k1,k2⟩:=V.2 i c hc;have J:∀o u,g[o]?=some u->((wr.setCell ⟨w.1.size,0,none⟩ (.slice (some ⟨G,0,none⟩) n n)).setCell ⟨w.1.size,1,none⟩ (U y)).cell? ⟨G,o,none⟩=some u:=by intro o u hu;rw[World.cell?_setCell_other _ _ _ _ (by intro e;cases e;omega),World.cell?_setCell_other _ _ _ _ (by intro e;cases e;omega)];simp[World.cell?,B,hu]
    rw[Kp];exact⟨J _ _ k0,J _ _ k1,J _ _ k2,a5 c (Kb hc)⟩
   exact((((HW.o w2 P).2.2.trans (bs.mono (by omega))).trans (Q.mono (by omega))).setCell (p:=⟨w.1.size,0,none⟩) lE _).setCell (p:=⟨w.1.size,1,none⟩) lE _
  have a6:Hid (∀wr,Below G W4 wr->wr.1[w.1.size]?=some (.cells #[nL,U 0] 131 (0,0))/\(∀ (j:Nat) (p:ByteArray),pt[j]?=some p->wr.cell? ⟨w.1.size+1,j+1,none⟩=some (.string p))/\bL w wr):=λwr h=>HW.o wr (P.trans ((bs.trans h).mono (by omega)))
  by_cases d2:n=0
  ·subst d2;have d3:pt=[]:=LA.1 b2.o;have dv:∀w,(Instr.makeSlice 129 (U 0) (U 0)).run prog w=.ok (.slice (some ⟨w.1.size,0,none⟩) 0 0) (w.alloc (.cells mc 134)):=bm;go_wp2_with fail;rw[<-A,<-hG];clear A hG;go_loop [31] (λi=>i=U 0) (λ_=>0)
   case atStart=>rfl
   case round=>
    subst hrel;obtain⟨b,_,_⟩:=a6.o _ bR;have⟨t0,t1,t2,t3⟩:=ag b;have⟨b0,b1,_,_⟩:=ag I;have m:Hid _:=b;have hE:=ae.o W4 mc [] bR H ⟨ac,λi c h=>by simp at h⟩ rfl (λc h=>by cases h) (by rw[d3];rfl);have b5:Hid _:=hE;clear b hE I H;have bx:¬(G+1=w.1.size):=by omega
    have bz:¬(w.1.size=G+1):=by omega
    go_wp2_with fail;have F:=du (u:=U y) (dC (u:=.slice (some ⟨G,0,none⟩) 0 0) m.o);have⟨z0,z1,_,_⟩:=ag F;obtain⟨cv,e1,e2,e3⟩:=b5.o;refine Ka (v:=.tuple #[.agg #[.slice (some ⟨G,0,none⟩) 0 0,U y],.bool true]) ?_ rfl ⟨cv,by rw[e1],e2,e3⟩;rw[K8 rfl];go_simp
  go_wp2_with fail;rw[<-A,<-hG];clear A hG;go_loopw [31] (λiv wr=>∃ (i:Nat) (r:List aN) (g:Array Value),i<=n/\iv=U i/\r.length=i/\Hid (ep cZ ((pt.map (λp:ByteArray=>p.1.1)).take i)=some r)/\Hid (FA n r g)/\Hid (∀c∈r,wf c.1/\wf c.2.1/\wf c.2.2)/\Hid (wr.1[G]?=some (.cells g 134 (0,0)))/\Hid (wr.1[G+1]?=some (.cells #[.slice (some ⟨G,0,none⟩) n n,U y] 131 (0,0)))/\Below G W4 wr/\G+2<=wr.1.size) (λiv _=>n-(intOf iv).toNat)
  case atStart=>exact⟨0,[],mc,by omega,rfl,rfl,rfl,⟨ac,λi c h=>by simp at h⟩,(show ∀c∈([]:List aN),wf c.1/\wf c.2.1/\wf c.2.2 by intro c h;cases h),H,I,Kf _ _,by omega⟩
  case round=>
   obtain⟨i,r,g,hi,rfl,R,L,V,a5,B,W,Q,dd⟩:=hrel;have⟨wo,de⟩:=nM (wr);subst de;have i0:(0:Int)<=(i:Int):=by omega
   obtain⟨b,x,es⟩:=a6.o _ Q
   by_cases bF:i<n
   ·have i1:(i:Int)<(n:Int):=by omega
    obtain⟨p,hp⟩:∃p,pt[i]?=some p:=⟨pt[i]'(by rw[b2.o];exact bF),by simp⟩;have et:wo.cell? ⟨w.1.size+1,1+i,none⟩=some (.string p):=by rw[Mk 1 i];exact x i p hp
    have E:=ce.o i p hp;have c0:=Z (by simp[hp]:(pt.map (λp:ByteArray=>p.1.1))[i]?=some p.1.1)
    obtain⟨c,ok,c1,c2,Y⟩:∃ (c:aN) (ok:Bool),Ef (cZ p.1.1)=.agg #[U c.1,U c.2.1,U c.2.2]/\(cZ p.1.1).isSome=ok/\cZ p.1.1=if ok=true then some c else none:=by
     cases h:cZ p.1.1 with
     |none=>exact⟨(0,0,0),false,rfl,rfl,rfl⟩
     |some c=>exact⟨c,true,rfl,rfl,rfl⟩
    have HC:Hid (∀f,bL w f->cL 229 #[.string p] f (rT f (.tuple #[.agg #[U c.1,U c.2.1,U c.2.2],.bool ok]))):=λf hb=>by have:=An p E f (he.l hb);rw[c1,c2] at this;exact this
    have ak:Hid _:=Y;clear b x c1 c2 Y hp;have e4:=V.o.1;have⟨b0,b1,_,_⟩:=ag W.o;have ew:i*3+2<g.size:=by omega
    go_wp2_with fail;have c3:=y9.ne G wo;have⟨C,a0⟩:=nM (DG g (i*3) (U c.1) (U c.2.1) (U c.2.2));have c4:=Z a0;clear a0
    have a7:Hid (∀fs f,Jy G wo g C 134 fs f->∃z:y9 G wo,f=z.1):=λfs f h=>⟨⟨f,h.2.1⟩,rfl⟩
    have q0:∀z:y9 G wo,z.1.cell? ⟨G+1,0,none⟩=some (.slice (some ⟨G,0,none⟩) n n):=λz=>z.cell b0 (by omega)
    have c5:∀w,(Instr.indexAt 129 (.slice (some ⟨G,0,none⟩) n n) (U i)).run prog w=.ok (.pointer (some ⟨G,i*3,none⟩)) w:=λw=>Fv i n G bF w
    refine bJ [_,_,_,_,_,_,_,_,_,_] _ rfl (λk=>k==4||k==9) (Jy G wo g C 134) (J7 (.tuple #[.agg #[U c.1,U c.2.1,U c.2.2],.bool ok])) (FH _) (by kernel_rfl) (by kernel_rfl) ⟨bR.drew,λ_ _ _=>rfl,λ_=>B.o,λh=>h.elim λ_ h=>h.elim⟩ ?_;iterate 4(refine aP a7.o rfl rfl ?_;go_big_quiet_step (fail);refine Km ?_)
    refine bw 229 #[.string p] rfl rfl (λf=>by kernel_rfl) (λgs f D al b6=>?_) (λv4 df=>?_)
    ·have di:=(a6.o f (Q.trans D.1)).2.2;refine(HC.o f di).mono ?_;rintro e eF ⟨rfl,M⟩;have eN:wo.1.size<=f.1.size:=D.1.size;exact⟨_,rfl,rfl,D.1.trans (M.mono (by omega)),λk hk N=>(M.block k (by omega)).trans (D.2.1 k hk N),λh=>(M.block G (by omega)).trans (D.2.2.1 λv hv=>h v (.inl hv)),λh=>(M.block G (by omega)).trans (D.2.2.2 (by obtain⟨v,hv⟩:=h;rcases hv with hv|⟨e,_⟩;exact⟨v,hv⟩;cases e))⟩
    go_frame;obtain rfl:v4=.tuple #[.agg #[U c.1,U c.2.1,U c.2.2],.bool ok]:=df;iterate 3(refine aP a7.o rfl rfl ?_;go_big_quiet_step (fail);refine Km ?_)
    refine fD (.pointer (some ⟨G,i*3,none⟩)) rfl rfl (λf=>gg (c5 f)) ?_;go_frame;refine fL rfl rfl (λgs f D al b6=>?_) (λv9 eV=>?_)
    ·have q:=D.2.2.1 b6;obtain⟨⟨u0,k0⟩,f0⟩:=jd q (i*3) (by omega);obtain⟨⟨u1,k1⟩,f1⟩:=jd q (i*3+1) (by omega);obtain⟨⟨u2,k2⟩,f2⟩:=jd q (i*3+2) (by omega);refine⟨((f.setCell ⟨G,i*3,none⟩ (U c.1)).setCell ⟨G,i*3+1,none⟩ (U c.2.1)).setCell ⟨G,i*3+2,none⟩ (U c.2.2),?_,trivial,?_⟩
     ·clear D al b6 q0 a7 c3 q;go_simp
     refine⟨((D.1.setCell (p:=⟨G,i*3,none⟩) lE _).setCell (p:=⟨G,i*3+1,none⟩) lE _).setCell (p:=⟨G,i*3+2,none⟩) lE _,λk hk N=>(Eo _ _ _ _ N).trans (D.2.1 k hk N),λh=>absurd (.inr ⟨rfl,rfl⟩) (h undef),λ_=>?_⟩;rw[c4.o];exact GE q
    go_frame;refine ei ?_;intro w4 D;have a8:Hid (w4.1[G]?=some (.cells C 134 (0,0))):=D.2.2.2 ⟨v9,.inr ⟨rfl,rfl⟩⟩;have ao:Below G W4 w4:=Q.trans D.1;have c7:G+2<=w4.1.size:=D.1.u dd;have a9:Hid (w4.1[G+1]?=some (.cells #[.slice (some ⟨G,0,none⟩) n n,U y] 131 (0,0))):=(D.2.1 (G+1) (by omega) (by omega)).trans W.o;clear D a7 q0 c3 c5
    cases ok with
    |false=>
     have hN:Hid (cC s.1.1=none):=by unfold Hid;rw[br.o,kX cZ _ i _ c0.o (by have:=ak.o;simpa using this)]
     obtain⟨b,_,c8⟩:=a6.o _ ao;have⟨t0,t1,t2,t3⟩:=ag b;have m:Hid _:=b;clear b;go_wp2_with fail;have F:=du (u:=U 0) (dC (u:=nL) m.o);have⟨z0,z1,_,_⟩:=ag F;refine Ka (v:=.tuple #[.agg #[nL,U 0],.bool false]) ?_ rfl ⟨nL,by rw[hN.o];rfl,by rw[hN.o];exact ez.nil _ _,c8.s2 lE⟩;rw[K8 rfl];go_simp
    |true=>
     have Y:cZ p.1.1=some c:=by have:=ak.o;simpa using this
     have b7:=Z (lh cZ _ i _ c0.o r L.o c Y);have c9:Hid (FA n (r++[c]) C):=by unfold Hid;rw[c4.o,<-R];exact V.o.put (by omega) c
     have ca:Hid (∀d∈r++[c],wf d.1/\wf d.2.1/\wf d.2.2):=by
      intro d hd
      rcases KB.1 hd with h|h
      ·exact a5.o d h
      simp at h;subst h;exact yZ Y
     go_wp2_with fail;exact⟨⟨i+1,r++[c],C,by omega,by go_num,by simp[R],b7,c9,ca,a8,a9,ao,c7⟩,by simp[intOf];omega⟩
   obtain rfl:i=n:=by omega
   have b8:ep cZ (pt.map (λp:ByteArray=>p.1.1))=some r:=by have:=L.o;rw[Ki (by simp[b2.o])] at this;exact this
   have hE:=ae.o wo g r Q B.o V.o R a5.o b8;have b5:Hid _:=hE;have⟨t0,t1,t2,t3⟩:=ag b;have⟨b0,b1,_,_⟩:=ag W.o;have m:Hid _:=b;clear b hE x;have bx:¬(G+1=w.1.size):=by omega
   have bz:¬(w.1.size=G+1):=by omega
   go_wp2_with fail;have F:=du (u:=U y) (dC (u:=.slice (some ⟨G,0,none⟩) i i) m.o);have⟨z0,z1,_,_⟩:=ag F;obtain⟨cv,e1,e2,e3⟩:=b5.o;refine Ka (v:=.tuple #[.agg #[.slice (some ⟨G,0,none⟩) i i,U y],.bool true]) ?_ rfl ⟨cv,by rw[e1],e2,e3⟩;rw[K8 rfl];go_simp
def jq(L:Nat)(w:World)(v:Value)(d:List aq):Prop:=
 ∃a c,v=.slice a d.length c/\d.length<=c/\c<=maxLen/\∀i r,d[i]?=some r->∃b o,a=some ⟨b,o,none⟩/\L<=b/\b<w.1.size/\∃e,w.cell? ⟨b,o+i*2,none⟩=some e/\w.cell? ⟨b,o+i*2+1,none⟩=some (U r.2)/\wf r.2/\ez L w e r.1
theorem jq.nil(L w):jq L w nL []:=⟨none,0,rfl,Ke _,Ks _,λi c h=>by simp at h⟩
theorem jq.keep{L}{w w':World}{v rs}(h:jq L w v rs)(j:∀g,L<=g->g<w.1.size->w'.1[g]?=w.1[g]?)(d:w.1.size<=w'.1.size):jq L w' v rs:=by obtain⟨a,f,m,n,p,q⟩:=h;refine⟨a,f,m,n,p,λi c r=>?_⟩;have⟨b,o,e,k,s,t,u,x,y,z⟩:=q i c r;have l:=j b k s;exact⟨b,o,e,k,by omega,t,by rw[cE l];exact u,by rw[cE l];exact x,y,z.keep j d⟩
theorem jq.at{L w v rs}(h:jq L w v rs):bD w.1.size w v rs:=by obtain⟨a,d,f,g,j,k⟩:=h;refine⟨a,d,f,g,j,λi c l=>?_⟩;have⟨b,o,e,t,m,n,p,q,r,s⟩:=k i c l;exact⟨b,o,e,m,n,p,q,r,s.at⟩
def nW(L:Nat)(w:World)(v:Value)(p:aD):Prop:=∃a,v=.agg #[a,U p.2]/\wf p.2/\jq L w a p.1
theorem nW.keep{L}{w w':World}{v p}(h:nW L w v p)(b:∀g,L<=g->g<w.1.size->w'.1[g]?=w.1[g]?)(a:w.1.size<=w'.1.size):nW L w' v p:=by obtain⟨c,d,e,f⟩:=h;exact⟨c,d,e,f.keep b a⟩
theorem nW.at{L w v p}(h:nW L w v p):aX w.1.size w v p:=by obtain⟨a,b,c,d⟩:=h;exact⟨a,b,c,d.at⟩
theorem nW.zero(L w):nW L w (.agg #[nL,U 0]) ([],0):=⟨_,rfl,by unfold wf;decide,jq.nil L w⟩
theorem nW.shape{L w v p}(h:nW L w v p):∃a n b,v=.agg #[.slice a n b,U p.2]:=by obtain⟨c,rfl,_,a,b,rfl,_⟩:=h;exact⟨a,_,b,rfl⟩
theorem ez.shape{L w v cs}(h:ez L w v cs):∃a n b,v=.slice a n b:=by obtain⟨a,b,rfl,_⟩:=h;exact⟨a,_,b,rfl⟩
def yb(L n:Nat)(w:World)(c:List aq)(a:Array Value):Prop:=
 a.size=n*2/\∀i r,c[i]?=some r->∃b,a[i*2]?=some b/\a[i*2+1]?=some (U r.2)/\wf r.2/\ez L w b r.1
def CQ(a:Array Value)(o:Nat)(b c:Value):Array Value:=(a.setIfInBounds o b).setIfInBounds (o+1) c
theorem yb.keep{L n}{w w':World}{rs cur}(h:yb L n w rs cur)(b:∀g,L<=g->g<w.1.size->w'.1[g]?=w.1[g]?)(a:w.1.size<=w'.1.size):yb L n w' rs cur:=by refine⟨h.1,λi r c=>?_⟩;have⟨d,e,f,j,k⟩:=h.2 i r c;exact⟨d,e,f,j,k.keep b a⟩
theorem yb.put{L n w rs cur}(h:yb L n w rs cur)(c:rs.length<n)(r:aq)(cv)(f:wf r.2)(g:ez L w cv r.1):yb L n w (rs++[r]) (CQ cur (rs.length*2) cv (U r.2)):=by
 obtain⟨j,k⟩:=h;refine⟨by simp[CQ,j],λi d a=>?_⟩;have t:i<rs.length+1:=by have:=(K9.1 a).1;simpa using this
 by_cases e:i=rs.length
 ·subst e;rw[Kk lE] at a;simp at a;subst a;have l:rs.length*2<cur.size:=by omega
  have m:rs.length*2+1<cur.size:=by omega
  unfold CQ;simp only[KC];exact⟨cv,by simp[l],by simp[m],f,g⟩
 rw[Kh (by omega)] at a;have⟨b,o,p,q,s⟩:=k i d a;unfold CQ;simp only[KC];refine⟨b,?_,?_,q,s⟩
 ·rw[iO (by omega),iO (by omega)];exact o
 rw[iO (by omega),iO (by omega)];exact p
theorem GW{w:World}{g o:Nat}{a:Array Value}{b c:Value}{T}(h:w.1[g]?=some (.cells a T (0,0))):((w.setCell ⟨g,o,none⟩ b).setCell ⟨g,o+1,none⟩ c).1[g]?=some (.cells (CQ a o b c) T (0,0)):=
 ap (o:=o+1) (u:=c) (ap (o:=o) (u:=b) h)
theorem pR{w:World}{g k:Nat}(o:Nat)(a b:Value)(h:k≠g):((w.setCell ⟨g,o,none⟩ a).setCell ⟨g,o+1,none⟩ b).1[k]?=w.1[k]?:=by rw[Kc _ _ _ _ (by show k≠g;exact h),Kc _ _ _ _ (by show k≠g;exact h)]
def Jr(G:Nat)(W:World)(c:Array Value)(T:TypeId)(o:Nat)(e:Int)(ok:Bool)(cs:List aN)(d:Nat->Value->Prop)(w:World):Prop:=
 Below G W w/\(∀k,k<W.1.size->k≠G->w.1[k]?=W.1[k]?)/\((∀v,¬d 9 v)->w.1[G]?=some (.cells c T (0,0)))/\(∀v,d 4 v->∃a m b,v=.tuple #[.agg #[.slice a m b,U e],.bool ok]/\ez W.1.size w (.slice a m b) cs)/\
  ((∃v,d 9 v)->∃a m b,d 4 (.tuple #[.agg #[.slice a m b,U e],.bool ok])/\w.1[G]?=some (.cells (CQ c o (.slice a m b) (U e)) T (0,0)))
def Ji(c:Int)(ok:Bool)(k:Nat)(v:Value):Prop:=if k=4 then ∃a m b,v=.tuple #[.agg #[.slice a m b,U c],.bool ok] else True
theorem Es(vd ok k):∃v,Ji vd ok k v:=by
 unfold Ji
 split
 ·exact⟨_,none,0,0,rfl⟩
 exact⟨undef,trivial⟩
theorem CH(n:Nat)(f:n<=4294967281)(w:World):(Instr.makeSlice 28 (U n) (U n)).run prog w=.ok (.slice (sO w.1.size) n n) (w.alloc (.cells (madeCells #[nL,U 0] (n*2)) 131)):=by
 obtain⟨a,b,c,d,e⟩:=jY;have:=MQ (P:=prog) w 28 131 a _ Tryz.underlying28 b c .i64 .i64 n n (by omega) (LH _) (by rw[e];omega) (by omega);rw[d] at this
 simpa [Value.cells] using this
theorem Bt(i n G:Nat)(h:i<n)(w:World):(Instr.indexAt 28 (.slice (sO G) n n) (U i)).run prog w=.ok (.pointer (some ⟨G,i*2,none⟩)) w:=by
 have a:(i:Int)<(n:Int):=by omega
 have b:(0:Int)<=(i:Int):=by omega
 go_simp
theorem yx{l:Bs}{r:aq}(h:cC l=some r):wf r.2:=by
 unfold cC at h
 split at h
 ·cases h
 rename_i a t _
 split at h
 ·cases h
 split at h
 ·cases h
 cases h;have:=jO vN a;have e:vN.length=5:=rfl;rw[e] at this;exact cR (by simp only[];omega)
theorem um{l:Bs}{ps:List Bs}{d:Bs}(e:bI 59 l=ps++[d]):gS l=match ep cC ps with
  |none=>none
  |some c=>if bt vN d<0 then none else some (c,bt vN d):=by
 have f:(bI 59 l).dropLast=ps:=by rw[e];simp
 have g:(bI 59 l).getLast (fM 59 l)=d:=by
  have:∀ (x:List Bs) (b:x≠[]),x=ps++[d]->x.getLast b=d:=by intro x b a;subst a;simp
  exact this _ _ e
 unfold gS;rw[f,g];rfl
theorem qS(c:UInt8):∀ (l m:Bs),c ∉ l->bI c (l++c :: m)=l :: bI c m
 |[],m,_=>by simp[bI]
 |b :: l,m,h=>by
  have a:b≠c:=λe=>h (by simp[e])
  rw[Lg,bI,iO a,qS c l m (λe=>h (by simp[e]))]
theorem nw(c:UInt8):∀ (l:Bs),c ∉ l->bI c l=[l]
 |[],_=>rfl
 |b :: l,h=>by
  have a:b≠c:=λe=>h (by simp[e])
  rw[bI,iO a,nw c l (λe=>h (by simp[e]))]
theorem ur(c:UInt8):∀ (xs:List Bs) (d:Bs),(∀x∈xs,c ∉ x)->c ∉ d->bI c (xs.flatMap (λx=>x++[c])++d)=xs++[d]
 |[],d,_,a=>by simpa using nw c d a
 |x :: xs,d,h,a=>by rw[KQ,KI,KI,List.singleton_append,qS c x _ (h x (by simp)),ur c xs d (λy b=>h y (by simp[b])) a];rfl
theorem sm(c:UInt8):∀ (ts:List Bs) (h:Bs),c ∉ h->(∀x∈ts,c ∉ x)->bI c (h++ts.flatMap (λx=>c :: x))=h :: ts
 |[],h,a,_=>by simpa using nw c h a
 |t :: ts,h,a,b=>by rw[KQ,Lg,qS c h _ a,sm c ts t (b t (by simp)) (λy d=>b y (by simp[d]))]
def fV(c:UInt8):List Bs->Bs
 |[]=>[]
 |[x]=>x
 |x :: y :: r=>x++c :: fV c (y :: r)
theorem ll(c):∀s:Bs,fV c (bI c s)=s
 |[]=>rfl
 |b :: l=>by
  have a:=ll c l;have d:=fM c l;unfold bI
  by_cases h:b=c
  ·rw[Io h]
   cases hs:bI c l with
   |nil=>exact absurd hs d
   |cons x r=>rw[hs] at a;rw[fV,a,h];rfl
  rw[iO h]
  cases hs:bI c l with
  |nil=>exact absurd hs d
  |cons x r=>
   rw[hs] at a
   cases r with
   |nil=>rw[fV] at a |-;rw[a]
   |cons y r=>rw[fV] at a |-;rw[Lg,a]
theorem zb(c):∀ (xs:List Bs) (d:Bs),fV c (xs++[d])=xs.flatMap (λx=>x++[c])++d
 |[],d=>by simp[fV]
 |[x],d=>by simp[fV]
 |x :: y :: r,d=>by have a:=zb c (y :: r) d;rw[Lg,Lg,fV,<-Lg,a,KQ];simp
theorem vo(c):∀ (ts:List Bs) (h:Bs),fV c (h :: ts)=h++ts.flatMap (λx=>c :: x)
 |[],h=>by simp[fV]
 |t :: ts,h=>by rw[fV,vo c ts t,KQ];rfl
theorem mz:∀ (a:List Bs) (x:Bs),0<=bt a x->a.getD (bt a x).toNat []=x
 |[],x,h=>by simp[bt] at h
 |n :: r,x,h=>by
  have d:=jh r x
  unfold bt at h |-
  by_cases b:n=x
  ·rw[Io b];simpa using b
  rw[iO b] at h |-
  by_cases c:bt r x = -1
  ·rw[Io c] at h;omega
  rw[iO c];have:=mz r x (by omega);rw[show (bt r x+1).toNat=(bt r x).toNat+1 by omega]
  simpa using this
theorem pV:∀ (l:Bs) (c:UInt8),0<=Lib.indexByte l c->l.getD (Lib.indexByte l c).toNat 0=c
 |[],c,h=>by simp[Lib.indexByte] at h
 |b :: r,c,h=>by
  have e:=Lib.indexByte_ge r c
  unfold Lib.indexByte at h |-
  by_cases a:(b==c)=true
  ·rw[Io a];simpa using a
  rw[iO a] at h |-
  by_cases d:(Lib.indexByte r c==-1)=true
  ·rw[Io d] at h;omega
  have f:Lib.indexByte r c≠-1:=by simpa using d
  rw[iO d];have:=pV r c (by omega);rw[show (Lib.indexByte r c+1).toNat=(Lib.indexByte r c).toNat+1 by omega]
  simpa using this
theorem nN:∀ (l cs:Bs),0<=Lib.indexAny l cs->cs.contains (l.getD (Lib.indexAny l cs).toNat 0)=true
 |[],cs,h=>by simp[Lib.indexAny] at h
 |b :: r,cs,h=>by
  have d:=Lib.indexAny_ge cs r
  unfold Lib.indexAny at h |-
  by_cases a:cs.contains b=true
  ·rw[Io a];simpa using a
  rw[iO a] at h |-
  by_cases c:(Lib.indexAny r cs==-1)=true
  ·rw[Io c] at h;omega
  have e:Lib.indexAny r cs≠-1:=by simpa using c
  rw[iO c];have:=nN r cs (by omega);rw[show (Lib.indexAny r cs+1).toNat=(Lib.indexAny r cs).toNat+1 by omega]
  simpa using this
theorem tL(cs:Bs)(x:UInt8)(m:Bs)(a:cs.contains x=true):∀l:Bs,(∀b∈l,cs.contains b=false)->Lib.indexAny (l++x :: m) cs=l.length
 |[],_=>by rw[MK,Lib.indexAny,Io a];rfl
 |b :: l,h=>by
  have c:=tL cs x m a l λy d=>h y (by simp[d])
  rw[Lg,Lib.indexAny,iO (by rw[h b (by simp)];decide),c,iO (by simp)];simp
theorem sK:∀ (l:Bs) (a:Nat) (c:UInt8),Lib.parseUint10 a (l++[c])=match Lib.parseUint10 a l with
  |.ok v=>Lib.parseUint10 v [c]
  |.syntax=>.syntax
  |.range=>.range
 |[],a,c=>by simp[Lib.parseUint10]
 |d :: l,a,c=>by
  rw[Lg,Lib.parseUint10,Lib.parseUint10]
  split
  ·split
   ·rfl
   split
   ·rfl
   exact sK l _ c
  rfl
theorem od(d:Nat)(h:d<10):(UInt8.ofNat (48+d)).toNat=48+d:=by simp;omega
theorem iV:∀ (u:Nat),∀c∈Lib.decDigits u,48<=c.toNat/\c.toNat<=57:=by
 intro u
 induction u using Nat.strongRecOn with
 |_ u d=>
  intro c a;rw[Lib.decDigits] at a
  split at a
  ·have a:=KO.1 a;subst a;rw[od u (by assumption)];omega
  rename_i h
  rcases KB.1 a with b|b
  ·exact d (u / 10) (by omega) c b
  have b:=KO.1 b;subst b;rw[od (u % 10) (by omega)];omega
theorem Ag(u:Nat):Lib.decDigits u≠[]:=by
 rw[Lib.decDigits]
 split<;>simp
theorem zN:∀ (u:Nat),u<=1000000->Lib.parseUint10 0 (Lib.decDigits u)=.ok u:=by
 intro u
 induction u using Nat.strongRecOn with
 |_ u a=>
  intro b;rw[Lib.decDigits]
  split
  ·rename_i h;rw[Lib.parseUint10,od u h,Io (by omega),iO (by omega),iO (by omega),Lib.parseUint10];congr 1;omega
  rename_i h;rw[sK,a (u / 10) (by omega) (by omega)];simp only[];rw[Lib.parseUint10,od (u % 10) (by omega),Io (by omega),iO (by omega),iO (by omega),Lib.parseUint10];congr 1;omega
theorem qz(n:Int)(h:0<=n/\n<=65535):cS (Lib.itoa n)=some n:=by
 have e:Lib.itoa n=Lib.decDigits n.toNat:=by unfold Lib.itoa;rw[iO (by omega)]
 have a:=zN n.toNat (by omega)
 have b:Lib.atoiAll (Lib.itoa n)=.ok n:=by
  rw[e]
  cases hd:Lib.decDigits n.toNat with
  |nil=>exact absurd hd (Ag _)
  |cons c r=>
   have d:=iV n.toNat c (by rw[hd];simp);unfold Lib.atoiAll;simp only[];rw[iO (by omega)];unfold Lib.parseMag;rw[iO (by simp),<-hd,a];simp only[];rw[iO (by omega),iO (by omega),iO (by omega)];congr 1;omega
 unfold cS;rw[b];simp
theorem Fw{y:Bs}{c:aN}(h:cZ y=some c):cq c=32 :: y:=by
 unfold cZ at h
 by_cases f:Lib.indexAny y fU<0
 ·rw[Io f] at h;cases h
 rw[iO f] at h;have i:=lU fU y;have b:=nN y fU (by omega);generalize p:(Lib.indexAny y fU).toNat=k at*;have d:k<y.length:=by omega
 split at h
 ·cases h
 rename_i n a
 by_cases g:bt fN (y.take k)<0
 ·rw[Io g] at h;cases h
 rw[iO g] at h
 cases h;have j:=mz fN (y.take k) (by omega)
 have l:Lib.itoa n=y.drop (k+1):=by
  unfold cS at a
  split at a
  ·split at a
   ·cases a;assumption
   cases a
  cases a
 have e:0<=Lib.indexByte fU (y.getD k 0):=by
  have:=Mw fU (y.getD k 0);rw[b] at this
  simpa using this.symm
 have m:=pV fU (y.getD k 0) e;have o:gl (1+Lib.indexByte fU (y.getD k 0))=y.getD k 0:=by unfold gl;rw[show (1+Lib.indexByte fU (y.getD k 0)-1).toNat=(Lib.indexByte fU (y.getD k 0)).toNat by omega];exact m
 unfold cq fK;simp only[];rw[j,o,l];congr 1;have:y.getD k 0=y[k]:=by simp[Kn,d]
 rw[this,<-KM d,Ms]
theorem qC{α:Type}(f:Bs->Option α)(g:α->Bs)(k:Bs->Bs)(b:∀x a,f x=some a->g a=k x):∀ (l:List Bs) (r:List α),ep f l=some r->r.flatMap g=l.flatMap k
 |[],r,h=>by simp[ep] at h;subst h;rfl
 |x :: l,r,h=>by
  rw[ep] at h
  cases h1:f x<;>cases h2:ep f l<;>rw[h1,h2] at h<;>simp at h;subst h;rw[KQ,KQ,b x _ h1,qC f g k b l _ h2]
theorem F0{x:Bs}{r:aq}(h:cC x=some r):ct r=x++[59]:=by
 unfold cC at h
 cases hs:bI 32 x with
 |nil=>exact absurd hs (fM 32 x)
 |cons b t=>
  rw[hs] at h;simp only[] at h
  by_cases d:bt vN b<0
  ·rw[Io d] at h;cases h
  rw[iO d] at h
  split at h
  ·cases h
  rename_i f a
  cases h;have e:=ll 32 x;rw[hs,vo] at e;have g:=mz vN b (by omega);have i:=qC cZ cq (λy=>32 :: y) (λy c j=>Fw j) t f a;unfold ct d7;simp only[];rw[g,i,e]
theorem I7{s:Bs}{p:aD}(h:gS s=some p):cW p=s:=by
 unfold gS at h
 split at h
 ·cases h
 rename_i d a
 by_cases b:bt vN ((bI 59 s).getLast (fM 59 s))<0
 ·rw[Io b] at h;cases h
 rw[iO b] at h
 cases h;have c:=ll 59 s;rw[<-List.dropLast_concat_getLast (fM 59 s),zb] at c;have e:=mz vN _ (by omega:0<=bt vN ((bI 59 s).getLast (fM 59 s)));have f:=qC cC ct (λx=>x++[59]) (λx r g=>F0 g) _ d a;unfold cW d7;simp only[];rw[e,f];exact c
theorem lG:(∀k,k<5->∀b∈vN.getD k [],b≠59/\b≠32)/\(∀k,k<5->∀b∈fN.getD k [],(b≠59/\b≠32)/\fU.contains b=false)/\(∀b∈fU,b≠59/\b≠32):=by decide
theorem t8:(∀k,k<5->bt vN (vN.getD k [])=(k:Int))/\(∀k,k<5->bt fN (fN.getD k [])=(k:Int))/\(∀k,k<4->Lib.indexByte fU (fU.getD k 0)=(k:Int)/\fU.contains (fU.getD k 0)=true/\fU.getD k 0∈fU):=by decide
theorem ET{c:aN}(h:bS c=0):∃y,cq c=32 :: y/\cZ y=some c/\(59:UInt8) ∉ y/\(32:UInt8) ∉ y:=by
 obtain⟨f,o,n⟩:=c;have⟨w,x,t⟩:=lT h;simp only[] at w x t;obtain⟨d,rfl⟩:∃k:Nat,f=k:=⟨f.toNat,by omega⟩;obtain⟨g,rfl⟩:∃k:Nat,o=(k:Int)+1:=⟨(o-1).toNat,by omega⟩;have i:d<5:=by omega
 have l:g<4:=by omega
 obtain⟨G,z,A⟩:=t8;obtain⟨H,m,u⟩:=lG;have⟨B,C,v⟩:=A g l;have p:fK (d:Int)=fN.getD d []:=by unfold fK;simp
 have q:gl ((g:Int)+1)=fU.getD g 0:=by unfold gl;simp
 have D:Lib.itoa n=Lib.decDigits n.toNat:=by unfold Lib.itoa;rw[iO (by omega)]
 have j:∀b∈Lib.itoa n,b≠59/\b≠32:=by rw[D];intro b r;have:=iV _ b r;constructor<;>(intro e;subst e;revert this;decide)
 refine⟨fK d++(gl ((g:Int)+1) :: Lib.itoa n),rfl,?_,?_,?_⟩
 ·rw[p,q];have s:Lib.indexAny (fN.getD d []++(fU.getD g 0 :: Lib.itoa n)) fU=(fN.getD d []).length:=tL fU _ _ C _ λb r=>(m d i b r).2
  unfold cZ;rw[s];simp only[L3];rw[iO (by omega),List.take_left,z d i];have E:List.drop ((fN.getD d []).length+1) (fN.getD d []++(fU.getD g 0 :: Lib.itoa n))=Lib.itoa n:=by rw[<-Mv,List.drop_left];rfl
  have F:(fN.getD d []++(fU.getD g 0 :: Lib.itoa n)).getD (fN.getD d []).length 0=fU.getD g 0:=by rw[Kn,Kk lE];simp
  rw[E,qz n t,F,B];simp only[];rw[iO (by omega)];congr 2;congr 1;omega
 ·intro a
  rcases KB.1 a with a|a
  ·rw[p] at a;exact(m d i _ a).1.1 rfl
  rcases Kz.1 a with a|a
  ·rw[q] at a;exact(u _ v).1 a.symm
  exact(j _ a).1 rfl
 intro a
 rcases KB.1 a with a|a
 ·rw[p] at a;exact(m d i _ a).1.2 rfl
 rcases Kz.1 a with a|a
 ·rw[q] at a;exact(u _ v).2 a.symm
 exact(j _ a).2 rfl
theorem wh:∀ (cs:List aN),(∀c∈cs,bS c=0)->∃a:List Bs,cs.flatMap cq=a.flatMap (λy=>32 :: y)/\ep cZ a=some cs/\∀y∈a,(59:UInt8) ∉ y/\(32:UInt8) ∉ y
 |[],_=>⟨[],rfl,rfl,λy h=>by cases h⟩
 |c :: cs,h=>by
  obtain⟨y,e,f,g,i⟩:=ET (h c (by simp));obtain⟨a,j,k,l⟩:=wh cs λd m=>h d (by simp[m])
  refine⟨y :: a,by rw[KQ,KQ,e,j],by rw[ep,f,k],λz b=>?_⟩
  rcases Kz.1 b with rfl|b
  ·exact⟨g,i⟩
  exact l z b
theorem EQ{r:aq}(h:bH r=0):∃x,ct r=x++[59]/\cC x=some r/\(59:UInt8) ∉ x:=by
 obtain⟨d,v⟩:=r;have⟨_,n,g⟩:=lV h;simp only[] at n g;obtain⟨b,rfl⟩:∃k:Nat,v=k:=⟨v.toNat,by omega⟩;have c:b<5:=by omega
 have e:d7 (b:Int)=vN.getD b []:=by unfold d7;simp
 obtain⟨o,_,_⟩:=t8;obtain⟨i,_,_⟩:=lG;have⟨j,l,p,m⟩:=wh d g;refine⟨d7 b++d.flatMap cq,rfl,?_,?_⟩
 ·have q:bI 32 (d7 b++d.flatMap cq)=d7 b :: j:=by rw[l];exact sm 32 j _ (λa=>by rw[e] at a;exact(i b c _ a).2 rfl) λy f=>(m y f).2
  unfold cC;rw[q];simp only[];rw[e,o b c,iO (by omega),p]
 intro a
 rcases KB.1 a with a|a
 ·rw[e] at a;exact(i b c _ a).1 rfl
 rw[l] at a;have⟨y,f,a⟩:=Ll.1 a
 rcases Kz.1 a with a|a
 ·exact absurd a (by decide)
 exact(m y f).1 a
theorem xx:∀ (a:List aq),(∀r∈a,bH r=0)->∃b:List Bs,a.flatMap ct=b.flatMap (λx=>x++[59])/\ep cC b=some a/\∀x∈b,(59:UInt8) ∉ x
 |[],_=>⟨[],rfl,rfl,λy h=>by cases h⟩
 |r :: a,h=>by
  obtain⟨y,e,f,g⟩:=EQ (h r (by simp));obtain⟨i,j,k,l⟩:=xx a λd m=>h d (by simp[m])
  refine⟨y :: i,by rw[KQ,KQ,e,j],by rw[ep,f,k],λz c=>?_⟩
  rcases Kz.1 c with rfl|c
  ·exact g
  exact l z c
theorem GK{p:aD}(h:aj p=0):gS (cW p)=some p:=by
 obtain⟨c,d⟩:=p;have⟨_,j,e⟩:=jF h;simp only[] at j e;obtain⟨a,rfl⟩:∃k:Nat,d=k:=⟨d.toNat,by omega⟩;have b:a<5:=by omega
 have f:d7 (a:Int)=vN.getD a []:=by unfold d7;simp
 obtain⟨l,_,_⟩:=t8;obtain⟨m,_,_⟩:=lG;have⟨g,n,o,q⟩:=xx c e;have r:bI 59 (cW (c,(a:Int)))=g++[d7 a]:=by unfold cW;simp only[];rw[n];exact ur 59 g _ q λi=>by rw[f] at i;exact(m a b _ i).1 rfl
 rw[um r,o];simp only[];rw[f,l a b,iO (by omega)]
theorem yJ:∀ (l:Bs) (a:Nat),Lib.parseUintM (2 ^ 64-1) a l=Lib.parseUint10 a l
 |[],a=>rfl
 |c :: r,a=>by
  rw[Lib.parseUintM,Lib.parseUint10]
  by_cases h:48<=c.toNat/\c.toNat<=57
  ·rw[Io h,Io h]
   by_cases b:1844674407370955162<=a
   ·rw[Io b,Io b]
   rw[iO b,iO b]
   by_cases d:18446744073709551616<=a*10+(c.toNat-48)
   ·rw[Io d,Io (by omega)]
   rw[iO d,iO (by omega),yJ r]
  rw[iO h,iO h]
theorem pg(l:Bs):Lib.parseIntB 64 l=Lib.atoiAll l:=by
 have e:∀m:Bs,Lib.parseUintB 64 m=Lib.parseMag m:=λm=>by
  unfold Lib.parseUintB Lib.parseMag
  split
  ·rfl
  exact yJ m 0
 cases l with
 |nil=>rfl
 |cons c r=>
  unfold Lib.parseIntB Lib.atoiAll;simp only[];rw[e];rfl
theorem mX(s:ByteArray)(D:s.size<=4294967280)(w)(x:dD w):
  cL 88 #[.string s] w λe f=>∃n ok,e=.returned (.tuple #[U n,.bool ok])/\(cS s.1.1=if ok=true then some n else none)/\wf n/\bL w f:=by
 cases hA:Lib.atoiAll s.1.1 with
 |ok v=>
  have⟨A,B⟩:=qD hA;have c:wf v:=by unfold wf;exact L4 (by omega)
  have l:Hid (∀f,bL w f->cL 111 #[U v,U 10] f (rT f (.string ⟨(Lib.itoa v).toArray⟩))):=λf m=>
   (Tryz.strconv_FormatInt_10 v A B f (x.l m).2.2.2).mono (by rintro e o ⟨rfl,k,E,rfl⟩;exact⟨rfl,LT _ _ lE _ _⟩)
  have d:Hid (cL 110 #[.string s,U 10,U 64] w (rT w (.tuple #[U v,.nilIface]))):=
   (Tryz.strconv_ParseInt_10_at64_ok s (by omega) v ((pg _).trans hA) w).mono (λe o h=>⟨h.1,by rcases h.2 with rfl|⟨t,h⟩;(exact Kf _ _);(exact mZ _ _ _ _ h)⟩)
  have u:Hid (cS s.1.1=if Lib.itoa v=s.1.1 then some v else none):=by unfold Hid cS;rw[hA]
  have a:=Z c;clear c hA
  by_cases j:Lib.itoa v=s.1.1
  ·have C:(Lib.itoa v).toArray=s.data:=by rw[j]
   have g:=Z (by rw[u.o,Io j]:cS s.1.1=some v);clear u j;go_enter func88,ntmps88;go_wp2_with fail;go_at_call 110;refine d.o.mono ?_;rintro e y ⟨rfl,b⟩;go_wp2_with fail;go_at_call 111;refine(l.o _ b).mono ?_;rintro e o ⟨rfl,i⟩;go_wp2_with fail;go_ret2;exact⟨v,true,rfl,by rw[g.o];rfl,a.o,b.th i⟩
  have C:(Lib.itoa v==s.toList)=false:=by
   rw[ML]
   simpa using j
  have g:=Z (by rw[u.o,iO j]:cS s.1.1=none);clear u j;go_enter func88,ntmps88;go_wp2_with fail;go_at_call 110;refine d.o.mono ?_;rintro e y ⟨rfl,b⟩;go_wp2_with fail;go_at_call 111;refine(l.o _ b).mono ?_;rintro e o ⟨rfl,i⟩;go_wp2_with fail;go_ret2;exact⟨v,false,rfl,by rw[g.o];rfl,a.o,b.th i⟩
 |«syntax»=>
  obtain⟨z,q,r⟩:=x.2.1
  have d:Hid (cL 110 #[.string s,U 10,U 64] w λe f=>∃n t p,e=.returned (.tuple #[U n,.iface t (.pointer (some p))])/\wf n/\bL w f):=
   (Tryz.strconv_ParseInt_10_at64_syntax s (by omega) ((pg _).trans hA) z w q r).mono (by rintro e o ⟨N,rfl,_,_,m⟩;exact⟨0,_,_,rfl,by unfold wf;decide,m⟩)
  have g:Hid (cS s.1.1=none):=by unfold Hid cS;rw[hA]
  clear hA q r;go_enter func88,ntmps88;go_wp2_with fail;go_at_call 110;refine d.o.mono ?_;rintro e y ⟨n,t,p,rfl,c,b⟩;have a:=Z c;clear c;go_wp2_with fail;go_ret2;exact⟨n,false,rfl,by rw[g.o];rfl,a.o,b⟩
 |range=>
  obtain⟨z,q,r⟩:=x.2.2.1
  have d:Hid (cL 110 #[.string s,U 10,U 64] w λe f=>∃n t p,e=.returned (.tuple #[U n,.iface t (.pointer (some p))])/\wf n/\bL w f):=
   (Tryz.strconv_ParseInt_10_at64_range s (by omega) ((pg _).trans hA) z w q r).mono (by rintro e o ⟨N,rfl,_,_,m⟩;exact⟨_,_,_,rfl,by unfold wf Lib.intSat;split<;>decide,m⟩)
  have g:Hid (cS s.1.1=none):=by unfold Hid cS;rw[hA]
  clear hA q r;go_enter func88,ntmps88;go_wp2_with fail;go_at_call 110;refine d.o.mono ?_;rintro e y ⟨n,t,p,rfl,c,b⟩;have a:=Z c;clear c;go_wp2_with fail;go_ret2;exact⟨n,false,rfl,by rw[g.o];rfl,a.o,b⟩
theorem yI(l:Bs):WideAt.IsKeyLit (.string l):=by simp[WideAt.IsKeyLit]
theorem GO(z:Int):WideAt.IsKeyLit (.int .u8 z):=by simp[WideAt.IsKeyLit]
def mq(a:List Bs)(k:Nat)(D:DataW Unit):DataW Unit:=match a with
 |[]=>D
 |n :: r=>mq r (k+1) (D.put (.string n) (.lit (.int .i64 k)))
theorem FP:D1=mq vN 0 (.map []):=rfl
theorem F4:D2=mq fN 0 (.map []):=rfl
theorem jU(l:Bs):∀ (b:List Bs) (k:Nat) (D:DataW Unit),l ∉ b->Maps.has (mq b k D) (.string l)=Maps.has D (.string l)/\(mq b k D).atKey (.string l) Ib=D.atKey (.string l) Ib
 |[],_,_,_=>⟨rfl,rfl⟩
 |n :: r,k,D,h=>by
  have a:Lit.string l≠Lit.string n:=by
   intro e
   injection e with e
   exact h (by simp[e])
  obtain⟨c,d⟩:=jU l r (k+1) (D.put (.string n) (.lit (.int .i64 k))) (λe=>h (by simp[e]));rw[mq,c,d,Maps.has_put_other a,KT a];exact⟨rfl,rfl⟩
theorem nJ(l):∀ (a:List Bs) (k:Nat) (D:DataW Unit),Maps.IsMap D->a.Nodup->0<=bt a l->Maps.has (mq a k D) (.string l)=true/\(mq a k D).atKey (.string l) Ib=.lit (.int .i64 (k+bt a l))
 |[],_,_,_,_,h=>by simp[bt] at h
 |n :: r,k,D,d,f,h=>by
  have g:=jh r l;have b:=List.nodup_cons.1 f;rw[mq]
  by_cases e:n=l
  ·subst e;have⟨i,c⟩:=jU n r (k+1) (D.put (.string n) (.lit (.int .i64 k))) b.1;rw[i,c,Maps.has_put_same d (yI n),L7 d (yI n)];refine⟨rfl,?_⟩;unfold bt;rw[Io rfl];simp
  unfold bt at h |-
  rw[iO e] at h |-
  by_cases c:bt r l = -1
  ·rw[Io c] at h;omega
  obtain⟨j,m⟩:=nJ l r (k+1) _ (d.put (.string n) (.lit (.int .i64 k))) b.2 (by omega);refine⟨j,?_⟩;rw[m,iO c,show ((k+1:Nat):Int)+bt r l=(k:Int)+(bt r l+1) by omega]
theorem su:∀ (a:List Bs) (l:Bs),bt a l<0->l ∉ a
 |[],l,_=>by simp
 |n :: r,l,h=>by
  have b:=jh r l;unfold bt at h
  by_cases e:n=l
  ·rw[Io e] at h;omega
  rw[iO e] at h
  by_cases c:bt r l = -1
  ·have:=su r l (by omega);simp[LQ e,this]
  rw[iO c] at h;omega
theorem A6(l):(0<=bt vN l/\Maps.has D1 (.string l)=true/\D1.atKey (.string l) Ib=.lit (.int .i64 (bt vN l)))\/(bt vN l<0/\Maps.has D1 (.string l)=false):=by
 by_cases h:0<=bt vN l
 ·obtain⟨a,b⟩:=nJ l vN 0 (.map []) LM (by decide) h;exact .inl ⟨h,a,by rw[FP,b];simp⟩
 obtain⟨a,_⟩:=jU l vN 0 (.map []) (su _ _ (by omega));exact .inr ⟨by omega,a⟩
theorem Il(l):(0<=bt fN l/\Maps.has D2 (.string l)=true/\D2.atKey (.string l) Ib=.lit (.int .i64 (bt fN l)))\/(bt fN l<0/\Maps.has D2 (.string l)=false):=by
 by_cases h:0<=bt fN l
 ·obtain⟨a,b⟩:=nJ l fN 0 (.map []) LM (by decide) h;exact .inl ⟨h,a,by rw[F4,b];simp⟩
 obtain⟨a,_⟩:=jU l fN 0 (.map []) (su _ _ (by omega));exact .inr ⟨by omega,a⟩
def lM(b:UInt8):Int:=if fU.contains b=true then 1+Lib.indexByte fU b else 0
theorem Eh(b:UInt8):D3.atKey (.int .u8 b.toNat) Ib=.lit (.int .i64 (lM b)):=by
 have a:∀z,WideAt.IsKeyLit (.int .u8 z):=GO;have c:Maps.IsMap (.map []:DataW Unit):=LM
 have d:∀z:Int,(b.toNat:Int)≠z->Lit.int .u8 b.toNat≠Lit.int .u8 z:=λz h e=>by
  injection e with _ e
  exact h e
 unfold D3
 by_cases f:b=62
 ·subst f;exact L7 (((c.put _ _).put _ _).put _ _) (a 62) _ _
 have k:(b.toNat:Int)≠62:=λe=>f (MH.1 (by show b.toNat=62;omega))
 rw[KT (d 62 k)]
 by_cases g:b=60
 ·subst g;exact L7 ((c.put _ _).put _ _) (a 60) _ _
 have l:(b.toNat:Int)≠60:=λe=>g (MH.1 (by show b.toNat=60;omega))
 rw[KT (d 60 l)]
 by_cases i:b=33
 ·subst i;exact L7 (c.put _ _) (a 33) _ _
 have m:(b.toNat:Int)≠33:=λe=>i (MH.1 (by show b.toNat=33;omega))
 rw[KT (d 33 m)]
 by_cases j:b=61
 ·subst j;exact L7 c (a 61) _ _
 have n:(b.toNat:Int)≠61:=λe=>j (MH.1 (by show b.toNat=61;omega))
 rw[KT (d 61 n)];have o:fU.contains b=false:=by unfold fU;simp[j,i,g,f]
 unfold lM;rw[o];rfl
theorem rx(b:UInt8):(lM b=0) ↔ fU.contains b=false:=by
 have:=Mw fU b;unfold lM
 cases h:fU.contains b
 ·simp
 rw[h] at this;have a:0<=Lib.indexByte fU b:=by simpa using this.symm
 simp;omega
theorem rO(c):∀ (l p:Bs),p∈bI c l->c ∉ p
 |[],p,h=>by simp[bI] at h;subst h;simp
 |b :: l,p,h=>by
  have a:=rO c l;unfold bI at h
  split at h
  ·rcases Kz.1 h with rfl|h
   ·simp
   exact a p h
  rename_i d
  split at h
  ·simp at h;subst h;simpa using λe:c=b=>d e.symm
  rename_i f i g;rw[g] at a
  rcases Kz.1 h with rfl|h
  ·have:=a f (by simp);simp[this];exact λe=>d e.symm
  exact a p (by simp[h])
theorem pK(c:UInt8)(m:Bs):∀x:Bs,c ∉ x->Lib.index (x++c :: m) [c]=x.length
 |[],_=>by simp[Lib.index,List.isPrefixOf]
 |b :: x,h=>by
  have a:=pK c m x (λe=>h (by simp[e]));have d:(c==b)=false:=by rw[Lq];intro e;exact h (by simp[e])
  rw[Lg,Lib.index,a];simp[List.isPrefixOf,d]
theorem oa(c:UInt8):∀x:Bs,c ∉ x->Lib.index x [c] = -1
 |[],_=>by simp[Lib.index]
 |b :: x,h=>by
  have a:=oa c x (λe=>h (by simp[e]));have d:(c==b)=false:=by rw[Lq];intro e;exact h (by simp[e])
  rw[Lib.index,a];simp[List.isPrefixOf,d]
theorem EO(x:Bs)(a:List Bs)(h:(59:UInt8) ∉ x):Lib.cut (fV 59 (x :: a)) [59]=(x,fV 59 a,!a.isEmpty):=by
 cases a with
 |nil=>
  show Lib.cut x [59]=_;unfold Lib.cut;rw[oa 59 x h];rfl
 |cons y r=>
  show Lib.cut (x++59 :: fV 59 (y :: r)) [59]=_;unfold Lib.cut;rw[pK 59 _ x h];simp
theorem xZ{x}(h:0<=bt vN x):bI 32 x=[x]:=by
 have b:=mz vN x h;have c:=jO vN x;have e:vN.length=5:=rfl;rw[e] at c;refine nw 32 x λa=>?_
 rw[<-b] at a;exact(lG.1 (bt vN x).toNat (by omega) _ a).2 rfl
theorem wR{l:Bs}(a:l.length<=60000)(h:gS l=none):cG l=(([],0),1):=by unfold cG;rw[iO (by omega),h]
theorem qA{l:Bs}{p:aD}(a:l.length<=60000)(h:gS l=some p):cG l=if aj p=0 then (p,0) else (([],0),aj p):=by unfold cG;rw[iO (by omega),h]
theorem Bm{l x:Bs}{i:Nat}(h:(bI 59 l)[i]?=some x)(b:i+1<(bI 59 l).length)(a:cC x=none):gS l=none:=by unfold gS;rw[kX cC _ i x (by rw[List.getElem?_dropLast,Io (by omega)];exact h) a]
theorem AW{l x:Bs}{i:Nat}(h:(bI 59 l)[i]?=some x)(b:i+1=(bI 59 l).length):(bI 59 l).getLast (fM 59 l)=x:=by have a:=List.getLast?_eq_some_getLast (fM 59 l);rw[List.getLast?_eq_getElem?,<-b,M8,h] at a;exact(KG a).symm
theorem BD{l x:Bs}{i:Nat}(h:(bI 59 l)[i]?=some x)(a:i+1=(bI 59 l).length)(b:bt vN x<0):gS l=none:=by
 unfold gS;rw[AW h a]
 cases ep cC (bI 59 l).dropLast with
 |none=>rfl
 |some c=>simp only[];rw[Io b]
theorem Gx{l x:Bs}{i:Nat}{a:List aq}(h:(bI 59 l)[i]?=some x)(b:i+1=(bI 59 l).length)(c:ep cC ((bI 59 l).take i)=some a)(d:0<=bt vN x):gS l=some (a,bt vN x):=by unfold gS;rw[AW h b,List.dropLast_eq_take,<-b,M8,c];simp only[];rw[iO (by omega)]
theorem Ga{x h:Bs}{t:List Bs}(a:bI 32 x=h :: t)(b:bt vN h<0):cC x=none:=by unfold cC;rw[a];simp only[];rw[Io b]
theorem At{x h u:Bs}{t:List Bs}{j:Nat}(a:bI 32 x=h :: t)(b:t[j]?=some u)(c:cZ u=none):cC x=none:=by unfold cC;rw[a];simp only[];rw[kX cZ t j u b c];simp
theorem Fg{x h:Bs}{t:List Bs}{cs:List aN}(a:bI 32 x=h :: t)(c:0<=bt vN h)(b:ep cZ t=some cs):cC x=some (cs,bt vN h):=by unfold cC;rw[a];simp only[];rw[iO (by omega),b]
theorem mi:∀ (l cs:Bs) (i:Nat),i<l.length->(Lib.indexAny l cs<0\/(i:Int)<Lib.indexAny l cs)->cs.contains (l.getD i 0)=false
 |[],_,_,h,_=>by simp at h
 |b :: r,cs,i,d,h=>by
  have e:=Lib.indexAny_ge cs r;unfold Lib.indexAny at h
  by_cases a:cs.contains b=true
  ·rw[Io a] at h;omega
  rw[iO a] at h
  cases i with
  |zero=>simpa using a
  |succ i=>
   have f:=mi r cs i (by simpa using d);rw[List.getD_cons_succ];refine f ?_
   by_cases c:(Lib.indexAny r cs==-1)=true
   ·left;have:Lib.indexAny r cs = -1:=by simpa using c
    omega
   rw[iO c] at h;have:Lib.indexAny r cs≠-1:=by simpa using c
   omega
theorem Jw(l:Bs):∃K:Nat,K<=l.length/\(∀i,i<K->lM (l.getD i 0)=0)/\((K=l.length/\cZ l=none)\/(K<l.length/\lM (l.getD K 0)≠0/\cZ l=match cS (l.drop (K+1)) with
  |none=>none
  |some n=>if bt fN (l.take K)<0 then none else some (bt fN (l.take K),lM (l.getD K 0),n))):=by
 have d:=Lib.indexAny_ge fU l;have f:=lU fU l
 by_cases h:Lib.indexAny l fU<0
 ·refine⟨l.length,Ke _,λi b=>(rx _).2 (mi l fU i b (.inl h)),.inl ⟨rfl,?_⟩⟩;unfold cZ;rw[Io h]
 obtain⟨K,c⟩:∃K:Nat,Lib.indexAny l fU=K:=⟨(Lib.indexAny l fU).toNat,by omega⟩;have a:=nN l fU (by omega);rw[c,L3] at a;refine⟨K,by omega,λi b=>(rx _).2 (mi l fU i (by omega) (.inr (by omega))),.inr ⟨by omega,λe=>?_,?_⟩⟩
 ·rw[(rx _).1 e] at a
  cases a
 have e:lM (l.getD K 0)=1+Lib.indexByte fU (l.getD K 0):=by unfold lM;rw[Io a]
 unfold cZ;rw[c,iO (by omega),L3,e];rfl
theorem tu{α:Type}(f:Bs->Option α):∀ (l:List Bs) (r:List α),ep f l=some r->∀a∈r,∃w∈l,f w=some a
 |[],r,h,a,b=>by simp[ep] at h;subst h;cases b
 |x :: l,r,h,a,b=>by
  rw[ep] at h
  cases h1:f x<;>cases h2:ep f l<;>rw[h1,h2] at h<;>simp at h;subst h
  rcases Kz.1 b with rfl|b
  ·exact⟨x,by simp,h1⟩
  obtain⟨w,c,e⟩:=tu f l _ h2 a b;exact⟨w,by simp[c],e⟩
def I3(c:aN):Prop:=wf c.1/\wf c.2.1/\wf c.2.2
def zO(r:aq):Prop:=wf r.2/\∀c∈r.1,I3 c
theorem CK{l:Bs}{r:aq}(h:cC l=some r):zO r:=by
 refine⟨yx h,λc a=>?_⟩;unfold cC at h
 split at h
 ·cases h
 split at h
 ·cases h
 split at h
 ·cases h
 rename_i d b
 cases h;obtain⟨w,_,e⟩:=tu cZ _ _ b c a;exact yZ e
theorem EG{B base:Nat}{w:World}{cv:Value}{cs:List aN}(h:w.ownsRow base 134 3 cv cs.length (dP cs))(b:∀c∈cs,I3 c)(t:w.1.size<=B):bG B w cv cs:=by
 obtain⟨a,d,rfl,f,j,k⟩:=an h;refine⟨a,d,rfl,f,j,λi c e=>?_⟩;have u:i<cs.length:=(K9.1 e).1;obtain⟨g,rfl,l,m⟩:=k (by omega);have⟨n,o,p⟩:=qr cs i c e;have⟨q,r,s⟩:=b c (Kb e);refine⟨g,0,rfl,by omega,?_,?_,?_,q,r,s⟩
 ·rw[Kp];exact aK h _ _ n
 ·rw[Kp];exact aK h _ _ o
 rw[Kp];exact aK h _ _ p
theorem EZ{B base:Nat}{w:World}{rv:Value}{b:List aq}{xs:List Value}(h:w.ownsRow base 131 2 rv b.length xs)(f:cH base w b xs)(c:∀r∈b,zO r)(j:w.1.size<=B):bD B w rv b:=by
 obtain⟨a,d,rfl,k,l,m⟩:=an h;refine⟨a,d,rfl,k,l,λi r e=>?_⟩;have x:i<b.length:=(K9.1 e).1;obtain⟨g,rfl,n,o⟩:=m (by omega);have⟨p,q,s,t⟩:=cH.get b xs i r f e;have⟨u,v⟩:=c r (Kb e);refine⟨g,0,rfl,by omega,p,?_,?_,u,EG t v j⟩
 ·rw[Kp];exact aK h _ _ q
 rw[Kp];exact aK h _ _ s
theorem In{B base:Nat}{w:World}{rv:Value}{a:List aq}{d}{xs:List Value}(h:w.ownsRow base 131 2 rv a.length xs)(c:cH base w a xs)(b:∀r∈a,zO r)(e:wf d)(f:w.1.size<=B):aX B w (.agg #[rv,U d]) (a,d):=
 ⟨rv,rfl,e,EZ h c b f⟩
theorem pM(e w):cL 85 #[U e] w λr a=>r=.returned (.tuple #[.agg #[nL,U 0],U e])/\bL w a:=by go_enter func85,ntmps85;go_wp2_with fail;have b:=(Kr w (.cells #[nL,U 0] 30)).1;have⟨c,d,_,_⟩:=ag b;refine Ka (v:=.tuple #[.agg #[nL,U 0],U e]) ?_ rfl ⟨rfl,bR.alloc lE _⟩;rw[K8 rfl];go_simp
theorem mF{w wx R0}(a:Below R0 w wx)(h:wx.1[R0]?=some (.cells #[nL,U 0] 30 (0,0))):
  Below R0 w ((wx.setCell (pA R0 0) nL).setCell (pA R0 1) (U 0))/\
  ((wx.setCell (pA R0 0) nL).setCell (pA R0 1) (U 0)).cell? (pA R0 0)=some nL/\
  ((wx.setCell (pA R0 0) nL).setCell (pA R0 1) (U 0)).cell? (pA R0 1)=some (U 0):=by
 have⟨b,c,_,_⟩:=ag (du (u:=U 0) (dC (u:=nL) h));exact⟨a.s2 lE,b,c⟩
theorem tP(c)(s:ByteArray)(ps:List ByteArray)(b:ps.map (λp:ByteArray=>p.1.1)=bI c s.1.1):ps.length<=s.size+1/\∀p∈ps,p.size<=s.size:=by
 refine⟨?_,λp d=>?_⟩
 ·have e:ps.length=(bI c s.1.1).length:=by rw[<-b];simp
  rw[e,<-jp];unfold Lib.split
  have:∀k (l:Bs),(Lib.splitK [c] 0 k l).length<=k+1:=by
   intro k
   induction k with
   |zero=>intro l;simp[Lib.splitK]
   |succ k f=>
    intro l;unfold Lib.splitK;split
    ·simp
    simp;exact f _
  have g:=this (Lib.count s.1.1 [c]) s.1.1;rw[MG] at g;have h:=List.count_le_length (a:=c) (l:=s.1.1);rw[<-KR] at h;rw[MG];omega
 have:=ry c s.1.1 p.1.1 (by rw[<-b];exact Md.2 ⟨p,d,rfl⟩);rw[<-KR,<-KR] at this;exact this
theorem wI(s:ByteArray)(hs:s.size<=4294967279)(w)(he:dD w):
  cL 204 #[.string s] w λe f=>∃pv,e=.returned (.tuple #[pv,.bool (gS s.1.1).isSome])/\nW w.1.size f pv ((gS s.1.1).getD ([],0))/\bL w f:=by
 have c9:∀X,bL w (w.alloc X):=λX=>bR.alloc lE _
 obtain⟨P,I,x⟩:=yQ 59 s (by omega) (w.alloc (.cells #[nL,U 0] 30)) (he.l (c9 _)).1;have⟨D,ca⟩:=tP 59 s P I;have Q:P≠[]:=by intro e;subst e;exact fM 59 _ I.symm
 obtain⟨A,E,rfl⟩:∃A E,P=A++[E]:=⟨P.dropLast,P.getLast Q,(List.dropLast_concat_getLast Q).symm⟩;have hP:=um (l:=s.1.1) (ps:=A.map (λp:ByteArray=>p.1.1)) (d:=E.1.1) (by rw[<-I];simp)
 have HP:Hid (gS s.1.1=match ep cC (A.map (λp:ByteArray=>p.1.1)) with
   |none=>none
   |some F=>if bt vN E.1.1<0 then none else some (F,bt vN E.1.1)):=hP
 have bo:(A++[E]).length=A.length+1:=by simp
 rw[bo] at x D;have bp:Hid _:=x;have e7:Hid (∀ (j:Nat) (p:ByteArray),A[j]?=some p->p.size<=4294967280):=λj p hj=>by have:=ca p (by simp[Kb hj]);omega
 have HV:=Z λf=>ot E f
 have fb:=jh vN E.1.1;have fc:bt vN E.1.1<5:=jO vN _;generalize e8:bt vN E.1.1=vd at*;have⟨n,hn⟩:=nM (A.length);have cb:=Z hn.symm;rw[<-hn] at D bp;have⟨mc,bq⟩:=nM (madeCells #[nL,U 0] (n*2));have cd:mc.size=n*2:=by rw[bq];exact LS _ _
 have R:=CH n (by omega);rw[<-bq] at R;have fd:=R;have⟨G,hG⟩:=nM (w.1.size+2);have⟨W1,J⟩:=nM ((w.alloc (.cells #[nL,U 0] 30)).alloc (.cells ((A++[E]).map Value.string).toArray 9));have ce:bL w W1:=by rw[J];exact(c9 _).alloc (by simp) _
 have ao:W1.1.size=w.1.size+2:=by rw[J];simp
 have av:W1.1[w.1.size]?=some (.cells #[nL,U 0] 30 (0,0)):=by rw[J,Kq _ _ _ (by simp)];exact(Kr w _).1
 have S:dT (w.1.size+1) ((A++[E]).map Value.string).toArray W1:=by have:=dT.made (w.alloc (.cells #[nL,U 0] 30)) ((A++[E]).map Value.string).toArray 9;rw[Kg] at this;rw[J];exact this
 have⟨W4,K⟩:=nM ((W1.alloc (.cells mc 131)).alloc (.cells #[.slice (some ⟨w.1.size+2,0,none⟩) n n,U 0] 30));have e9:Below G W1 W4:=by rw[K];exact(bR.alloc (by omega) _).alloc (by simp;omega) _
 have fe:W4.1.size=G+2:=by rw[K];simp;omega
 have bs:W4.1[G]?=some (.cells mc 131 (0,0)):=by rw[hG,<-ao,K,Kq _ _ _ (by simp)];exact(Kr W1 _).1
 have bv:W4.1[G+1]?=some (.cells #[.slice (some ⟨G,0,none⟩) n n,U 0] 30 (0,0)):=by have:=(Kr (W1.alloc (.cells mc 131)) (.cells #[.slice (some ⟨w.1.size+2,0,none⟩) n n,U 0] 30)).1;rw[Kg,ao] at this;rw[K,hG];exact this
 have a9:Hid (∀wr,Below G W4 wr->wr.1[w.1.size]?=some (.cells #[nL,U 0] 30 (0,0))/\(∀ (j:Nat) (p:ByteArray),A[j]?=some p->wr.cell? ⟨w.1.size+1,j,none⟩=some (.string p))/\wr.cell? ⟨w.1.size+1,n,none⟩=some (.string E)/\bL w wr):=λwr h=>by
  have hh:=e9.trans h;refine⟨hh.bk av,λj p hj=>?_,?_,ce.trans (hh.mono (by omega))⟩
  ·refine(hh.cell (p:=⟨w.1.size+1,j,none⟩) (by show w.1.size+1<_;omega)).trans (S j _ ?_);have ea:=(K9.1 hj).1;rw[LK,List.map_append,Kh (by simpa using ea)];simp[hj]
  refine(hh.cell (p:=⟨w.1.size+1,n,none⟩) (by show w.1.size+1<_;omega)).trans (S n _ ?_);rw[hn];simp
 have fi:IntKind.i64.wrap (n:Int)=(n:Int):=KA _ (by omega);have fl:=ai;have fn:w.1.size+2<=G:=by omega
 clear e8 hP I ca av S R bq hn Q;go_enter func204,ntmps204;go_wp2_with fail;go_at_call 87;refine Calls.mono bp.o ?_;rintro e w1 ⟨rfl,cf⟩;simp only[Kg];rw[<-J] at cf;subst cf;clear J bp;go_wp2_with fail;rw[<-K,<-hG];clear hG x;clear K;go_loopw [22] (λiv wr=>∃ (i:Nat) (F:List aq) (o:Array Value),i<=n/\iv=U i/\F.length=i/\Hid (ep cC ((A.map (λp:ByteArray=>p.1.1)).take i)=some F)/\Hid (yb (G+2) n wr F o)/\Hid (wr.1[G]?=some (.cells o 131 (0,0)))/\Hid (wr.1[G+1]?=some (.cells #[.slice (some ⟨G,0,none⟩) n n,U 0] 30 (0,0)))/\Below G W4 wr/\G+2<=wr.1.size) (λiv _=>n-(intOf iv).toNat)
 case atStart=>exact⟨0,[],mc,by omega,rfl,rfl,rfl,⟨cd,λi c h=>by simp at h⟩,bs,bv,Kf _ _,by omega⟩
 case round=>
  obtain⟨i,F,o,hi,rfl,aa,b4,bx,b5,T,ac,bz⟩:=hrel;have⟨wo,ec⟩:=nM (wr);subst ec;have i0:(0:Int)<=(i:Int):=by omega
  obtain⟨q,bF,ed,fo⟩:=a9.o _ ac
  by_cases ck:i<n
  ·have i1:(i:Int)<(n:Int):=by omega
   obtain⟨p,hp⟩:∃p,A[i]?=some p:=⟨A[i]'(by rw[cb.o];exact ck),by simp⟩;have fp:=bF i p hp;have I:=e7.o i p hp;have cl:=Z (by simp[hp]:(A.map (λp:ByteArray=>p.1.1))[i]?=some p.1.1)
   obtain⟨r,ok,cn,co,cp,cs⟩:∃ (r:aq) (ok:Bool),(cC p.1.1).getD ([],0)=r/\(cC p.1.1).isSome=ok/\(cC p.1.1=if ok=true then some r else none)/\wf r.2:=by
    cases h:cC p.1.1 with
    |none=>exact⟨([],0),false,rfl,rfl,rfl,by unfold wf;decide⟩
    |some r=>exact⟨r,true,rfl,rfl,rfl,yx h⟩
   have HC:Hid (∀f,bL w f->cL 219 #[.string p] f λe cx=>∃cv,e=.returned (.tuple #[.agg #[cv,U r.2],.bool ok])/\ez f.1.size cx cv r.1/\bL f cx):=λf hb=>by have:=Aa p I f (he.l hb);rw[cn,co] at this;exact this
   have b6:Hid _:=cp;have d2:Hid _:=cs;clear q bF ed cn co cp cs hp;have es:=bx.o.1;have⟨b0,b1,_,_⟩:=ag T.o;have fx:i*2+1<o.size:=by omega
   obtain⟨rc,V⟩:=r;go_wp2_with fail;have d3:=y9.ne G wo
   have ad:Hid (∀fs f,Jr G wo o 131 (i*2) V ok rc fs f->∃z:y9 G wo,f=z.1):=λfs f h=>⟨⟨f,h.2.1⟩,rfl⟩
   have q0:∀z:y9 G wo,z.1.cell? ⟨G+1,0,none⟩=some (.slice (some ⟨G,0,none⟩) n n):=λz=>z.cell b0 (by omega)
   have d4:∀w,(Instr.indexAt 28 (.slice (some ⟨G,0,none⟩) n n) (U i)).run prog w=.ok (.pointer (some ⟨G,i*2,none⟩)) w:=λw=>Bt i n G ck w
   refine bJ [_,_,_,_,_,_,_,_,_,_] _ rfl (λk=>k==4||k==9) (Jr G wo o 131 (i*2) V ok rc) (Ji V ok) (Es V ok) (by kernel_rfl) (by kernel_rfl) ⟨bR.drew,λ_ _ _=>rfl,λ_=>b5.o,λ_ h=>h.elim,λh=>h.elim λ_ h=>h.elim⟩ ?_;iterate 4(refine aP ad.o rfl rfl ?_;go_big_quiet_step (fail);refine Km ?_)
   refine bw 219 #[.string p] rfl rfl (λf=>by kernel_rfl) (λgs f t W Y=>?_) (λv4 ee=>?_)
   ·have ef:=(a9.o f (ac.trans t.1)).2.2.2;refine(HC.o f ef).mono ?_;rintro e g1 ⟨cv,rfl,d5,a0⟩;have eg:=t.1.size;obtain⟨a,m,L,rfl⟩:=d5.shape;refine⟨_,rfl,⟨a,m,L,rfl⟩,t.1.trans (a0.mono (by omega)),λk hk H=>(a0.block k (by omega)).trans (t.2.1 k hk H),λh=>(a0.block G (by omega)).trans (t.2.2.1 λv M=>h v (.inl M)),λv M=>?_,λh=>?_⟩
    ·rcases M with M|⟨_,rfl⟩
     ·exact absurd M (Y v)
     exact⟨a,m,L,rfl,d5.mono eg⟩
    obtain⟨v,M⟩:=h
    rcases M with M|⟨e,_⟩
    ·have⟨a',m',ew,h4,_⟩:=t.2.2.2.2 ⟨v,M⟩;exact absurd h4 (Y _)
    cases e
   go_frame;obtain⟨a4,m4,b7,rfl⟩:∃a m L,v4=.tuple #[.agg #[.slice a m L,U V],.bool ok]:=ee;iterate 3(refine aP ad.o rfl rfl ?_;go_big_quiet_step (fail);refine Km ?_)
   refine fD (.pointer (some ⟨G,i*2,none⟩)) rfl rfl (λf=>gg (d4 f)) ?_;go_frame;refine fL rfl rfl (λgs f t W Y=>?_) (λv9 g3=>?_)
   ·have y:=t.2.2.1 Y;have h4:=W 4 _ (.inr ⟨rfl,rfl⟩) (au (by kernel_rfl));obtain⟨⟨u0,k0⟩,f0⟩:=jd y (i*2) (by omega);obtain⟨⟨u1,k1⟩,f1⟩:=jd y (i*2+1) (by omega);refine⟨(f.setCell ⟨G,i*2,none⟩ (.slice a4 m4 b7)).setCell ⟨G,i*2+1,none⟩ (U V),?_,trivial,?_⟩
    ·clear t W Y q0 ad d3 y h4;go_simp
    refine⟨(t.1.setCell (p:=⟨G,i*2,none⟩) lE _).setCell (p:=⟨G,i*2+1,none⟩) lE _,λk hk H=>(pR _ _ _ H).trans (t.2.1 k hk H),λh=>absurd (.inr ⟨rfl,rfl⟩) (h undef),λv M=>?_,λ_=>⟨a4,m4,b7,.inl h4,GW y⟩⟩
    rcases M with M|⟨e,_⟩
    ·have⟨a,m,L,h1,h2⟩:=t.2.2.2.1 v M;refine⟨a,m,L,h1,h2.keep (λg hg ae=>pR _ _ _ (by omega)) (by simp)⟩
    cases e
   go_frame;refine ei ?_;intro w4 t;have⟨a5,m5,da,dc,b⟩:=t.2.2.2.2 ⟨v9,.inr ⟨rfl,rfl⟩⟩;obtain⟨a6,m6,eV,e6,b8⟩:=t.2.2.2.1 _ dc;simp at e6;obtain⟨rfl,rfl,rfl⟩:=e6;have af:Hid _:=b;have dd:=Z (b8.mono bz);have b9:=ac.trans t.1;have de:=t.1.u bz;have ak:Hid (w4.1[G+1]?=some (.cells #[.slice (some ⟨G,0,none⟩) n n,U 0] 30 (0,0))):=(t.2.1 (G+1) (by omega) (by omega)).trans T.o;have df:Hid (yb (G+2) n w4 F o):=bx.o.keep (λg hg ae=>t.2.1 g ae (by omega)) t.1.size;clear t ad q0 d3 d4 b b8 dc
   cases ok with
   |false=>
    have hN:Hid (gS s.1.1=none):=by unfold Hid;rw[HP.o,kX cC _ i _ cl.o (by have:=b6.o;simpa using this)]
    obtain⟨q,_,_,di⟩:=a9.o _ b9;have⟨t0,t1,t2,t3⟩:=ag q;have dk:Hid _:=q;clear q;go_wp2_with fail;have a1:=du (u:=U 0) (dC (u:=nL) dk.o);have⟨z0,z1,_,_⟩:=ag a1;refine Ka (v:=.tuple #[.agg #[nL,U 0],.bool false]) ?_ rfl ⟨_,by rw[hN.o];rfl,by rw[hN.o];exact nW.zero _ _,di.s2 lE⟩;rw[K8 rfl];go_simp
   |true=>
    have ek:cC p.1.1=some (rc,V):=by have:=b6.o;simpa using this
    have c4:=Z (lh cC _ i _ cl.o F b4.o _ ek);have dl:Hid (yb (G+2) n w4 (F++[(rc,V)]) (CQ o (i*2) (.slice a5 m5 da) (U V))):=by unfold Hid;rw[<-aa];exact df.o.put (by omega) (rc,V) _ d2.o dd.o
    go_wp2_with fail;exact⟨⟨i+1,F++[(rc,V)],_,by omega,by go_num,by simp[aa],c4,dl,af,ak,b9,de⟩,by simp[intOf];omega⟩
  obtain rfl:i=n:=by omega
  have a2:Hid (ep cC (A.map (λp:ByteArray=>p.1.1))=some F):=by have:=b4.o;rw[Ki (by simp[cb.o])] at this;exact this
  clear q bF;go_wp2_with fail;go_at_call 220;refine Calls.mono (HV.o _) ?_;rintro e w5 ⟨rfl,N⟩;have dn:Below G W4 w5:=ac.trans (N.mono (by omega));have gb:=N.u bz;have B:w5.1[G+1]?=some (.cells #[.slice (some ⟨G,0,none⟩) i i,U 0] 30 (0,0)):=(N.block (G+1) (by omega)).trans T.o;have b:w5.1[G]?=some (.cells o 131 (0,0)):=(N.block G (by omega)).trans b5.o;have bc:yb (G+2) i w5 F o:=bx.o.keep (λg hg ae=>N.block g ae) N.size;obtain⟨q,_,_,bd⟩:=a9.o _ dn;have⟨t0,t1,t2,t3⟩:=ag q;have⟨b0,b1,b2,b3⟩:=ag B;have⟨w6,O⟩:=nM (w5.setCell ⟨G+1,1,none⟩ (U vd));have bg:w6.1[G+1]?=some (.cells #[.slice (some ⟨G,0,none⟩) i i,U vd] 30 (0,0)):=by rw[O];exact du B
  have C:∀k,k≠G+1->w6.1[k]?=w5.1[k]?:=λk hk=>by rw[O];exact Kc _ _ _ _ (by show k≠G+1;exact hk)
  have bk:w6.1.size=w5.1.size:=by rw[O];simp
  have a3:w6.1[w.1.size]?=some (.cells #[nL,U 0] 30 (0,0)):=(C _ (by omega)).trans q;have bm:bL w w6:=by rw[O];exact bd.setCell (p:=⟨G+1,1,none⟩) (by show w.1.size<=G+1;omega) _
  have⟨c0,c1,c2,c3⟩:=ag a3;have⟨d0,d1,_,_⟩:=ag bg;have a7:Hid _:=a3
  have el:Hid (∀u0 u1,nW w.1.size ((w6.setCell ⟨w.1.size,0,none⟩ u0).setCell ⟨w.1.size,1,none⟩ u1) (.agg #[.slice (some ⟨G,0,none⟩) i i,U vd]) (F,vd)):=by
   intro u0 u1;have dp:∀k,k≠w.1.size->k≠G+1->((w6.setCell ⟨w.1.size,0,none⟩ u0).setCell ⟨w.1.size,1,none⟩ u1).1[k]?=w5.1[k]?:=λk h1 h2=>(pR 0 u0 u1 h1).trans (C k h2)
   refine⟨_,rfl,cR (by simp only[];omega),some ⟨G,0,none⟩,i,by simp[aa],by simp[aa],by omega,λj r hj=>?_⟩;have⟨cv,k0,k1,k2,k3⟩:=bc.2 j r hj;have dq:=dp G (by omega) (by omega);refine⟨G,0,rfl,by omega,by simp[bk];omega,cv,?_,?_,k2,(k3.keep (w':=(w6.setCell ⟨w.1.size,0,none⟩ u0).setCell ⟨w.1.size,1,none⟩ u1) (λg h1 h2=>dp g (by omega) (by omega)) (by simp[bk])).mono (by omega)⟩
   ·rw[cE dq,Kp];simp[World.cell?,b,k0]
   rw[cE dq,Kp];simp[World.cell?,b,k1]
  have f5:¬(G+1=w.1.size):=by omega
  have f9:¬(w.1.size=G+1):=by omega
  clear q B b bc bg C a3 bd
  by_cases dr:vd<0
  ·have em:decide (0<=vd)=false:=KD (by omega);have hN:=Z (by rw[HP.o,a2.o];simp[dr]:gS s.1.1=none);go_wp2_with fail;rw[<-O];have a1:=du (u:=U 0) (dC (u:=nL) a7.o);have⟨z0,z1,_,_⟩:=ag a1;refine Ka (v:=.tuple #[.agg #[nL,U 0],.bool false]) ?_ rfl ⟨_,by rw[hN.o];rfl,by rw[hN.o];exact nW.zero _ _,bm.s2 lE⟩;rw[K8 rfl];go_simp
  have em:decide (0<=vd)=true:=KS (by omega);have hN:=Z (by rw[HP.o,a2.o];simp[dr]:gS s.1.1=some (F,vd));go_wp2_with fail;rw[<-O];have a1:=du (u:=U vd) (dC (u:=.slice (some ⟨G,0,none⟩) i i) a7.o);have⟨z0,z1,_,_⟩:=ag a1;refine Ka (v:=.tuple #[.agg #[.slice (some ⟨G,0,none⟩) i i,U vd],.bool true]) ?_ rfl ⟨_,by rw[hN.o];rfl,by rw[hN.o];exact el.o _ _,bm.s2 lE⟩;rw[K8 rfl];go_simp
