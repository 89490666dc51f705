import Derived.Test.YtffnfdfjojidfaaGreatDoorShelf
import Derived.Test.YtffnfdfjojidfaaGreatDoorWr01
import Derived.Lib.AppendIntMem
set_option linter.all false
set_option maxRecDepth 100000
set_option maxHeartbeats 4000000
namespace Go.Proofs.YtffnfdfjojidfaaGreatDoor
open Go.RowKit Go.Maps Go.Proofs.Tryz
def jl:Value->Option (DataW Unit × List MemPlace)
 |.bool x=>some (.lit (.bool x),[])
 |_=>none
theorem tb{v:Value}{z:DataW Unit × List MemPlace}(h:jl v=some z):∃x,v=.bool x/\z=(.lit (.bool x),[]):=by
 unfold jl at h
 split at h
 ·exact⟨_,rfl,(KG h).symm⟩
 cases h
theorem eT{P:Program}(w:World){f:Array Oper}{d:List Oper}{o:Oper}{a:Act}{Q:Exit->Act->World->Prop}
  (r:o.guard=none) (m x:Operand) (t:TypeId) (iY:o.op=Op.lookup t m x false)
  (k e:TypeId) (K:Keyed P k) (s:P.underlying t=some (.map k e)) (u:(zeroValue e).run P w=.ok (.bool false) w) (b n:Nat) (D:DataW Unit)
  (y:a.eval m=.map (some b)) (g:w.ownsMap P k jl b n D) (h:Value) (p:Lit) (z:a.eval x=h) (i:keyOf P k h=some p)
  (A:∀c:Bool,D.atKey p (.lit (.bool false))=.lit (.bool c)->wpList P f Q d (a.put o.dst (.bool c)) w):
  wpList P f Q (o :: d) a w:=by
 refine wpList_plain r λC l=>?_
 have⟨v,E,j,B⟩:=g.lookup K s u (zd:=.lit (.bool false)) (zp:=[]) rfl i;obtain⟨c,rfl,q⟩:=tb B;simp only[Prod.mk.injEq] at q;unfold Oper.wp;simp[execOp,iY,y,z,j,Result.andThen];exact l _ _ (A c q.1)
theorem oK(w:World):(zeroValue 4).run prog w=.ok (.bool false) w:=by kernel_rfl
def pP(a b c d:Bool):DataW Unit:=((((DataW.map []).put (.int .i64 1) (.lit (.bool a))).put (.int .i64 2) (.lit (.bool b))).put (.int .i64 3) (.lit (.bool c))).put (.int .i64 4) (.lit (.bool d))
theorem zR(b1 b2 b3 b4):(pP b1 b2 b3 b4).atKey (.int .i64 1) (.lit (.bool false))=.lit (.bool b1)/\(pP b1 b2 b3 b4).atKey (.int .i64 2) (.lit (.bool false))=.lit (.bool b2)/\(pP b1 b2 b3 b4).atKey (.int .i64 3) (.lit (.bool false))=.lit (.bool b3)/\(pP b1 b2 b3 b4).atKey (.int .i64 4) (.lit (.bool false))=.lit (.bool b4):=by
 have a:∀z,WideAt.IsKeyLit (.int .i64 z):=λz=>by simp[WideAt.IsKeyLit]
 unfold pP;refine⟨?_,?_,?_,?_⟩
 ·rw[KT (by simp),KT (by simp),KT (by simp)];exact L7 LM (a 1) _ _
 ·rw[KT (by simp),KT (by simp)];exact L7 (LM.put _ _) (a 2) _ _
 ·rw[KT (by simp)];exact L7 ((LM.put _ _).put _ _) (a 3) _ _
 exact L7 (((LM.put _ _).put _ _).put _ _) (a 4) _ _
theorem vy(f a v n:Int)(P:1<=a/\a<=4)(w):
  cL 183 #[.agg #[U f,U a,U v],U n] w (rT w (.bool (iG a v n))):=by
 have M:=@run_makeMap prog;have o:=Le (H:=Unit) (w.alloc (.cells #[U f,U a,U v] 136)) prog 3 jl;simp only[Kg] at o;have A:(Lit.int .i64 a).wf=true:=L4 (by omega)
 have y:Hid (∀z,Below (w.1.size+1) (w.alloc (.cells #[U f,U a,U v] 136)) z->z.cell? (pW w 1)=some (U a)/\z.cell? (pW w 2)=some (U v)):=λz h=>⟨(h.cell (p:=pW w 1) (by simp)).trans (by simp[go_sem]),(h.cell (p:=pW w 2) (by simp)).trans (by simp[go_sem])⟩
 have B:=zR (n==v) (n != v) (decide (n<v)) (decide (v<=n));unfold pP at B;have N:Hid _:=B;clear B;go_enter func183,ntmps183
 go_wp2_with (first
  |(refine am _ rfl _ _ _ 251 rfl 3 4 iK Tryz.underlying251 _ (w.1.size+1) 0 _ rfl o (by decide) _ _ _ rfl rfl (KF Tryz.underlying3 (by decide)) _ [] rfl ?_;intro E b g;clear o;have q:Below (w.1.size+1) (w.alloc (.cells #[U f,U a,U v] 136)) E:=(bR.alloc (by simp) _).grown g (by simp) (λk r=>by cases r;exact Ke _);have Q:=y.o E q)
  |(refine am _ rfl _ _ _ 251 rfl 3 4 iK Tryz.underlying251 _ (w.1.size+1) 1 _ rfl b (by decide) _ _ _ rfl rfl (KF Tryz.underlying3 (by decide)) _ [] rfl ?_;intro F d i;clear b;have s:Below (w.1.size+1) (w.alloc (.cells #[U f,U a,U v] 136)) F:=q.grown i (by have:=q.size;simp at this |-;omega) (λk r=>by cases r;exact Ke _);have R:=y.o F s)
  |(refine am _ rfl _ _ _ 251 rfl 3 4 iK Tryz.underlying251 _ (w.1.size+1) 2 _ rfl d (by decide) _ _ _ rfl rfl (KF Tryz.underlying3 (by decide)) _ [] rfl ?_;intro G e j;clear d;have t:Below (w.1.size+1) (w.alloc (.cells #[U f,U a,U v] 136)) G:=s.grown j (by have:=s.size;simp at this |-;omega) (λk r=>by cases r;exact Ke _);have S:=y.o G t)
  |(refine am _ rfl _ _ _ 251 rfl 3 4 iK Tryz.underlying251 _ (w.1.size+1) 3 _ rfl e (by decide) _ _ _ rfl rfl (KF Tryz.underlying3 (by decide)) _ [] rfl ?_;intro C u l;clear e;have x:Below (w.1.size+1) (w.alloc (.cells #[U f,U a,U v] 136)) C:=t.grown l (by have:=t.size;simp at this |-;omega) (λk r=>by cases r;exact Ke _);have T:=y.o C x)
  |(at_lookup;refine eT _ rfl _ _ 251 rfl 3 4 iK Tryz.underlying251 (oK _) (w.1.size+1) 4 _ rfl u _ _ rfl (KF Tryz.underlying3 A) ?_;intro c m))
 have D:bL w C:=((Kf w.1.size w).alloc lE _).trans (x.mono (by omega))
 have O:iG a v n=c:=by
  have:a=1\/a=2\/a=3\/a=4:=by omega
  obtain⟨I,J,K,L⟩:=N.o
  rcases this with rfl|rfl|rfl|rfl
  ·rw[m] at I;simpa [iG] using I.symm
  ·rw[m] at J;simpa [iG] using J.symm
  ·rw[m] at K;simpa [iG] using K.symm
  rw[m] at L;simpa [iG] using L.symm
 go_ret;exact⟨by rw[O];rfl,D⟩
theorem mZ(w:World)(t:TypeId)(x:ByteArray):∀W,W=Lib.bytesWorld w t x->bL w W:=by intro W h;subst h;exact⟨rfl,rfl,rfl,by rw[Lib.bytesWorld_size];omega,λj a=>Lib.bytesWorld_at_old w t x j a⟩
theorem dH:Maps.Keyed prog 9:=Maps.string_keyed Tryz.underlying9
theorem yP:Maps.Keyed prog 5:=Maps.int_keyed Tryz.underlying5
def D1:DataW Unit:=(((((DataW.map []).put (.string [107,105,108,108]) (.lit (.int .i64 0))).put (.string [116,114,97,112]) (.lit (.int .i64 1))).put (.string [102,97,105,108]) (.lit (.int .i64 2))).put (.string [108,111,103]) (.lit (.int .i64 3))).put (.string [97,108,108,111,119]) (.lit (.int .i64 4))
def D2:DataW Unit:=(((((DataW.map []).put (.string [110,114]) (.lit (.int .i64 0))).put (.string [107,105,110,100]) (.lit (.int .i64 1))).put (.string [97]) (.lit (.int .i64 2))).put (.string [98]) (.lit (.int .i64 3))).put (.string [99]) (.lit (.int .i64 4))
def D3:DataW Unit:=((((DataW.map []).put (.int .u8 61) (.lit (.int .i64 1))).put (.int .u8 33) (.lit (.int .i64 2))).put (.int .u8 60) (.lit (.int .i64 3))).put (.int .u8 62) (.lit (.int .i64 4))
def Ib:DataW Unit:=.lit (.int .i64 0)
def mL:ByteArray:=⟨#[32]⟩
def dP(cs:List aN):List Value:=cs.flatMap λc=>[U c.1,U c.2.1,U c.2.2]
def cH(B:Nat)(w:World):List aq->List Value->Prop
 |[],a=>a=[]
 |r :: d,a=>∃b c,a=b :: U r.2 :: c/\w.ownsRow B 136 3 b r.1.length (dP r.1)/\cH B w d c
theorem wg(s:ByteArray):(⟨s.1.1.toArray⟩:ByteArray)=s:=by simp
theorem Bg(s t c:ByteArray)(q:Bool)(m)(w:World)(d:s.size<4294967281)(f:w.cell? ⟨1,0,none⟩=some (U m))(h:Lib.cut s.1.1 [59]=(t.1.1,c.1.1,q)):
  cL 87 #[.string s,.string ⟨#[59]⟩] w (rT w (.tuple #[.string t,.string c,.bool q])):=by
 refine(Tryz.strings_Cut s ⟨#[59]⟩ m w d f).mono λe i ⟨a,n,g⟩=>?_
 have b:(⟨#[59]⟩:ByteArray).1.1=[59]:=rfl;rw[b,h] at a;simp only[wg] at a;subst g;exact⟨a,Below.drewN_ bR n⟩
theorem CW(t:ByteArray)(d:List ByteArray)(n:Nat)(m)(w:World)(f:t.size<4294967281)(g:w.cell? ⟨1,0,none⟩=some (U m))(i:Lib.countB t mL=n)(h:Lib.splitB mL 0 (Lib.countB t mL) t=d):
  cL 88 #[.string t,.string ⟨#[32]⟩] w λe a=>∃SB,e=.returned (.slice (sO SB) (n+1) (n+1))/\bL w a/\w.1.size<=SB/\SB<a.1.size/\∀j u,d[j]?=some u->a.cell? ⟨SB,j,none⟩=some (.string u):=by
 refine(Tryz.strings_Split t ⟨#[32]⟩ m w f g (by decide)).mono λe a ⟨b,c⟩=>?_
 change e=.returned (.slice (MZ w) (Lib.countB t mL+1) (Lib.countB t mL+1)) at b
 change a=w.alloc (.cells ((Lib.splitB mL 0 (Lib.countB t mL) t).map Value.string).toArray _) at c
 rw[h] at c;rw[i] at b;subst c;refine⟨w.1.size,b,bR.alloc lE _,Ke _,by simp,λj u k=>?_⟩;simp[go_sem,k]
theorem dO{H:Type}{P:Program}{k:TypeId}{R:Value->Option (DataW H × List MemPlace)}{b n B:Nat}{D:DataW H}{w w':World}(h:w.ownsMap P k R b n D)(c:Below B w w')(d:b<B):w'.ownsMap P k R b n D:=by obtain⟨e,a,f,F,g,i⟩:=h;exact⟨e,a,(c.block b d).trans f,F,g,i⟩
theorem Ak(u:ByteArray)(k:Nat)(h:k<u.size):u.1.1.getD k 0=u[k]'h:=by
 have a:k<u.1.1.length:=by simpa using h
 rw[List.getD,Lu a];simp;rfl
theorem A7(u:ByteArray)(k:Nat):(u.extract 0 k).1.1=u.1.1.take k:=by simp[Mn]
theorem rI(u:ByteArray)(k:Nat):(u.extract k u.size).1.1=u.1.1.drop k:=by simp[Mn];exact Ki (by simp)
theorem cH.step{B:Nat}{w w':World}(c:∀g b,B<=g->w.1[g]?=some (.cells b 136 (0,0))->w'.1[g]?=w.1[g]?):∀ (a:List aq) (xs:List Value),cH B w a xs->cH B w' a xs
 |[],_,h=>h
 |r :: a,xs,h=>by obtain⟨e,d,rfl,f,i⟩:=h;exact⟨e,d,rfl,bT f c,cH.step c a d i⟩
theorem cH.push{B:Nat}{w:World}(r:aq)(cv:Value)(c:w.ownsRow B 136 3 cv r.1.length (dP r.1)):∀ (a:List aq) (xs:List Value),cH B w a xs->cH B w (a++[r]) (xs++[cv,U r.2])
 |[],xs,h=>by have h:=h;subst h;exact⟨cv,[],rfl,c,rfl⟩
 |g :: a,xs,h=>by obtain⟨b,d,rfl,e,f⟩:=h;exact⟨b,d++[cv,U r.2],rfl,e,cH.push r cv c a d f⟩
theorem mJ:∃i,prog.info? 136=some i/\i.zero=some (.agg #[U 0,U 0,U 0])/\i.size=3/\i.bytes=24:=jL (by kernel_rfl)
theorem jY:∃i,prog.info? 133=some i/\i.zero=some (.agg #[nL,U 0])/\i.size=2/\i.bytes=32:=jL (by kernel_rfl)
theorem dC{w:World}{b:Nat}{v x u:Value}{t}(h:w.1[b]?=some (.cells #[v,x] t (0,0))):(w.setCell (pA b 0) u).1[b]?=some (.cells #[u,x] t (0,0)):=by
 have a:=io h;have c:w.1[b]=.cells #[v,x] t (0,0):=by simpa [Lo a] using h
 show (w.heap.modify b _)[b]?=_;rw[Lo (by simpa using a),MC,c];rfl
theorem du{w:World}{b:Nat}{v x u:Value}{t}(h:w.1[b]?=some (.cells #[v,x] t (0,0))):(w.setCell (pA b 1) u).1[b]?=some (.cells #[v,u] t (0,0)):=by
 have a:=io h;have c:w.1[b]=.cells #[v,x] t (0,0):=by simpa [Lo a] using h
 show (w.heap.modify b _)[b]?=_;rw[Lo (by simpa using a),MC,c];rfl
theorem ag{w:World}{b:Nat}{v x:Value}{t}(h:w.1[b]?=some (.cells #[v,x] t (0,0))):w.cell? (pA b 0)=some v/\w.cell? (pA b 1)=some x/\w.frozen? (pA b 0)=false/\w.frozen? (pA b 1)=false:=by simp[World.cell?,World.frozen?,h]
theorem ji{a b:Int}(h:(DataW.lit (.int .i64 a):DataW Unit)=.lit (.int .i64 b)):a=b:=by
 cases h;rfl
theorem fY{P:Program}{c:Array Oper}{C:World->Prop}{Q:Act->Prop}{a:Act}{o:Oper}{b:List Oper}(v:Value)(d:Region.wanted o (yielded c a.tmps)=true)(e:∀w,(execOp a.eval o).run P w=.ok (.value v) w)(h:wpQuiet P c C Q b (a.put o.dst v)):wpQuiet P c C Q (o :: b) a:=
 Go.BigFrame.wpQuiet_want d λK f=>⟨v,λw _=>by unfold Oper.quietAt;rw[e w];exact⟨rfl,rfl⟩,f _ h⟩
def jC:ByteArray:=⟨#[61,33,60,62]⟩
theorem BL:jC.1.1=fU:=rfl
theorem BV(s:ByteArray)(pos j:Nat)(b:0<j)(h:j<(Utf8.decode s pos).2):128<=(s.get! (pos+j)).toNat:=by
 unfold Utf8.decode at h;simp only[] at h
 split at h
 ·simp at h;omega
 split at h
 ·rename_i a;simp at a
  split at h
  ·simp at h;obtain rfl:j=1:=by omega
   omega
  simp at h;omega
 split at h
 ·rename_i a;simp at a
  split at h
  ·simp at h;have:j=1\/j=2:=by omega
   rcases this with rfl|rfl<;>omega
  simp at h;omega
 split at h
 ·rename_i a;simp at a
  split at h
  ·simp at h;have:j=1\/j=2\/j=3:=by omega
   rcases this with rfl|rfl|rfl<;>omega
  simp at h;omega
 simp at h;omega
theorem GG(b:UInt8)(h:128<=b.toNat):fU.contains b=false:=by unfold fU;simp;refine⟨?_,?_,?_,?_⟩<;>(intro e;subst e;revert h;decide)
theorem vU(l:Bs)(c:UInt8)(d:∀b∈l,b.toNat<128)(h:128<=c.toNat):Lib.indexByte l c = -1:=by
 induction l with
 |nil=>rfl
 |cons b r f=>
  have i:=d b (by simp);have a:(b==c)=false:=by rw[Lq];intro e;subst e;omega
  rw[Lib.indexByte,f λx g=>d x (by simp[g]),a];rfl
theorem j5(s:ByteArray)(i:Nat)(h:i<s.size)(w:World):(Instr.index 9 (.string s) (U i)).run prog w=.ok (.int .u8 (s[i]'h).toNat) w:=by
 have a:(i:Int)<(s.size:Int):=by omega
 simp[go_sem,h,a,Tryz.underlying9]
theorem pJ(s:ByteArray)(i:Nat)(h:i<=s.size)(w:World):(Instr.sliceAt 9 (.string s) (some (U i)) none none).run prog w=.ok (.string (s.extract i s.size)) w:=by
 have a:(i:Int)<=(s.size:Int):=by omega
 simp[go_sem,h,a,Tryz.underlying9]
theorem sI(i:Nat)(c:UInt8)(d:128<=c.toNat)(w):cL 250 #[.string (jC.extract i 4),.int .u8 c.toNat] w λe f=>e=.returned (U (-1))/\f=w:=by
 have:=Tryz.strings_IndexByte (jC.extract i 4) c.toNat w;rw[vU _ _ ?_ (by simpa using d)] at this
 ·exact this
 intro b g;have a:=mem_extract g;rw[BL] at a;simp[fU] at a
 rcases a with rfl|rfl|rfl|rfl<;>decide
theorem gg{P:Program}{w:World}{x:Sem Value}{v:Value}(h:x.run P w=.ok v w):(do let y <-x;pure (Next.value y):Sem Next).run P w=.ok (.value v) w:=by simp[Lj,h,Result.andThen]
theorem Jj(r:Int)(rs)(y:128<=r)(o:(r==65533)=false)(p:Lib.validRune r=true)(q:∀w,(convert 21 9 (.int .i32 r)).run prog w=.ok (.string rs) w)(z:rs.size=2)(a:∀h:1<rs.size,128<=(rs[1]'h).toNat)(w):
  cL 263 #[.string jC,.int .i32 r] w (rT w (U (-1))):=by
 have A:¬(r<128):=by omega
 have B:(0:Int)<=r:=by omega
 have s:jC.size=4:=rfl;obtain⟨c,j⟩:∃c:UInt8,rs[1]'(by omega)=c:=⟨_,rfl⟩;have b:128<=c.toNat:=by rw[<-j];exact a _
 have k:=Z λi w=>sI i c b w
 have d:((33:Int)==(c.toNat:Int))=false:=by rw[Lq];omega
 have n:((33:Int) != (c.toNat:Int))=true:=by simpa using d
 have l:∀w,(Instr.index 9 (.string rs) (U 1)).run prog w=.ok (.int .u8 c.toNat) w:=λw=>j▸j5 rs 1 (by omega) w
 have t:∀w,(Instr.index 9 (.string jC) (U 1)).run prog w=.ok (.int .u8 33) w:=λw=>by kernel_rfl
 have g:∀w,(binOp .add 3 (U 1) (U 1)).run prog w=.ok (U 2) w:=λw=>by kernel_rfl
 have m:∀w,(Instr.sliceAt 9 (.string jC) (some (U 2)) none none).run prog w=.ok (.string (jC.extract 2 4)) w:=λw=>pJ jC 2 (by decide) w
 clear j a d;go_enter func263,ntmps263;go_wp2_with (first|(go_at_call 277;go_must (refine(Tryz.utf8_ValidRune _ _).mono ?_;rintro e u ⟨rfl,rfl⟩;rw[p])));apply Me;go_wp2;go_loop [9,10] (λi f=>i=U 1/\f=U 0) (λ_ _=>0)
 case atStart=>exact⟨rfl,rfl⟩
 case round=>
  obtain⟨rfl,rfl⟩:=hrel;go_wp2;apply Me;go_wp2;go_quiet (fail);go_wp2;have v:=ax.ne u;refine aW (by kernel_rfl) (by kernel_rfl) ?_;iterate 2(go_big_quiet_step (fail))
  refine fY (U 2) rfl (λw=>gg (g w)) ?_;go_frame;refine fY (.string (jC.extract 2 4)) rfl (λw=>gg (m w)) ?_;go_frame;iterate 2(go_big_quiet_step (fail))
  refine fY (.int .u8 c.toNat) rfl (λw=>gg (l w)) ?_;go_frame;repeat(go_big_quiet_step (first|(go_at_call 250;exact Calls.later_same (k.o _ _))))
  refine Km ?_;rintro C ⟨⟨_,x⟩,rfl⟩;go_wp2;simp only[Exit.noGoto];go_wp2;simp only[Exit.noGoto];go_wp2;go_ret;exact⟨rfl,Mj (Below.drewN_ bR _) x⟩
theorem Je(r:Int)(rs)(y:128<=r)(o:(r==65533)=false)(p:Lib.validRune r=true)(q:∀w,(convert 21 9 (.int .i32 r)).run prog w=.ok (.string rs) w)(z:rs.size=3)(a:∀h:2<rs.size,128<=(rs[2]'h).toNat)(w):
  cL 263 #[.string jC,.int .i32 r] w (rT w (U (-1))):=by
 have A:¬(r<128):=by omega
 have B:(0:Int)<=r:=by omega
 have s:jC.size=4:=rfl;obtain⟨c,j⟩:∃c:UInt8,rs[2]'(by omega)=c:=⟨_,rfl⟩;have b:128<=c.toNat:=by rw[<-j];exact a _
 have k:=Z λi w=>sI i c b w
 have d:((60:Int)==(c.toNat:Int))=false:=by rw[Lq];omega
 have n:((60:Int) != (c.toNat:Int))=true:=by simpa using d
 have l:∀w,(Instr.index 9 (.string rs) (U 2)).run prog w=.ok (.int .u8 c.toNat) w:=λw=>j▸j5 rs 2 (by omega) w
 have t:∀w,(Instr.index 9 (.string jC) (U 2)).run prog w=.ok (.int .u8 60) w:=λw=>by kernel_rfl
 have g:∀w,(binOp .add 3 (U 2) (U 1)).run prog w=.ok (U 3) w:=λw=>by kernel_rfl
 have m:∀w,(Instr.sliceAt 9 (.string jC) (some (U 3)) none none).run prog w=.ok (.string (jC.extract 3 4)) w:=λw=>pJ jC 3 (by decide) w
 clear j a d;go_enter func263,ntmps263;go_wp2_with (first|(go_at_call 277;go_must (refine(Tryz.utf8_ValidRune _ _).mono ?_;rintro e u ⟨rfl,rfl⟩;rw[p])));apply Me;go_wp2;go_loop [9,10] (λi f=>i=U 2/\f=U 0) (λ_ _=>0)
 case atStart=>exact⟨rfl,rfl⟩
 case round=>
  obtain⟨rfl,rfl⟩:=hrel;go_wp2;apply Me;go_wp2;go_quiet (fail);go_wp2;have v:=ax.ne u;refine aW (by kernel_rfl) (by kernel_rfl) ?_;iterate 2(go_big_quiet_step (fail))
  refine fY (U 3) rfl (λw=>gg (g w)) ?_;go_frame;refine fY (.string (jC.extract 3 4)) rfl (λw=>gg (m w)) ?_;go_frame;iterate 2(go_big_quiet_step (fail))
  refine fY (.int .u8 c.toNat) rfl (λw=>gg (l w)) ?_;go_frame;repeat(go_big_quiet_step (first|(go_at_call 250;exact Calls.later_same (k.o _ _))))
  refine Km ?_;rintro C ⟨⟨_,x⟩,rfl⟩;go_wp2;simp only[Exit.noGoto];go_wp2;simp only[Exit.noGoto];go_wp2;go_ret;exact⟨rfl,Mj (Below.drewN_ bR _) x⟩
theorem J8(r:Int)(rs)(y:128<=r)(p:(r==65533)=false)(q:Lib.validRune r=true)(s:∀w,(convert 21 9 (.int .i32 r)).run prog w=.ok (.string rs) w)(z:rs.size=4)(a:∀h:3<rs.size,128<=(rs[3]'h).toNat)(w):
  cL 263 #[.string jC,.int .i32 r] w (rT w (U (-1))):=by
 have A:¬(r<128):=by omega
 have B:(0:Int)<=r:=by omega
 have t:jC.size=4:=rfl;obtain⟨c,g⟩:∃c:UInt8,rs[3]'(by omega)=c:=⟨_,rfl⟩;have j:128<=c.toNat:=by rw[<-g];exact a _
 have k:Hid (∀w,cL 250 #[.string ByteArray.empty,.int .u8 c.toNat] w λe l=>e=.returned (U (-1))/\l=w):=λw=>Tryz.strings_IndexByte ByteArray.empty c.toNat w
 have b:((62:Int)==(c.toNat:Int))=false:=by rw[Lq];omega
 have o:((62:Int) != (c.toNat:Int))=true:=by simpa using b
 have m:∀w,(Instr.index 9 (.string rs) (U 3)).run prog w=.ok (.int .u8 c.toNat) w:=λw=>g▸j5 rs 3 (by omega) w
 have u:∀w,(Instr.index 9 (.string jC) (U 3)).run prog w=.ok (.int .u8 62) w:=λw=>by kernel_rfl
 have d:∀w,(binOp .add 3 (U 3) (U 1)).run prog w=.ok (U 4) w:=λw=>by kernel_rfl
 have n:∀w,(Instr.sliceAt 9 (.string jC) (some (U 4)) none none).run prog w=.ok (.string ByteArray.empty) w:=λw=>by have:=pJ jC 4 (by decide) w;rw[show jC.extract 4 jC.size=ByteArray.empty by decide +kernel] at this;exact this
 clear g a b;go_enter func263,ntmps263;go_wp2_with (first|(go_at_call 277;go_must (refine(Tryz.utf8_ValidRune _ _).mono ?_;rintro e l ⟨rfl,rfl⟩;rw[q])));apply Me;go_wp2;go_loop [9,10] (λi f=>i=U 3/\f=U 0) (λ_ _=>0)
 case atStart=>exact⟨rfl,rfl⟩
 case round=>
  obtain⟨rfl,rfl⟩:=hrel;go_wp2;apply Me;go_wp2;go_quiet (fail);go_wp2;have v:=ax.ne l;refine aW (by kernel_rfl) (by kernel_rfl) ?_;iterate 2(go_big_quiet_step (fail))
  refine fY (U 4) rfl (λw=>gg (d w)) ?_;go_frame;refine fY (.string ByteArray.empty) rfl (λw=>gg (n w)) ?_;go_frame;iterate 2(go_big_quiet_step (fail))
  refine fY (.int .u8 c.toNat) rfl (λw=>gg (m w)) ?_;go_frame;repeat(go_big_quiet_step (first|(go_at_call 250;exact Calls.later_same (k.o _))))
  refine Km ?_;rintro C ⟨⟨_,x⟩,rfl⟩;go_wp2;simp only[Exit.noGoto];go_wp2;simp only[Exit.noGoto];go_wp2;go_ret;exact⟨rfl,Mj (Below.drewN_ bR _) x⟩
theorem vY(r:Int)(k:128<=r)(s:r<=2147483647)(w):
  cL 263 #[.string jC,.int .i32 r] w (rT w (U (-1))):=by
 have t:¬(r<128):=by omega
 have u:(0:Int)<=r:=by omega
 by_cases q:r=65533
 ·subst q;go_enter func263,ntmps263;go_wp2;have l:∀i,bL w (w.iter jC i):=λi=>bR.alloc lE _
  go_loopw [5,6] (λ_ _ wr=>∃i,i<=4/\wr=w.iter jC i) (λ_ _ wr=>4-wr.iterPos w.1.size)
  case atStart=>exact⟨0,by omega,rfl⟩
  case round=>
   obtain⟨i,v,rfl⟩:=hrel;have m:i=0\/i=1\/i=2\/i=3\/i=4:=by omega
   rcases m with rfl|rfl|rfl|rfl|rfl
   ·have a:=λc=>run_next_ascii (P:=prog) w jC 0 c (by decide) (by decide)
    rw[show (jC[0]'(by decide)).toNat=61 by decide] at a;go_wp2;exact⟨⟨1,by omega,rfl⟩,by simp⟩
   ·have a:=λc=>run_next_ascii (P:=prog) w jC 1 c (by decide) (by decide)
    rw[show (jC[1]'(by decide)).toNat=33 by decide] at a;go_wp2;exact⟨⟨2,by omega,rfl⟩,by simp⟩
   ·have a:=λc=>run_next_ascii (P:=prog) w jC 2 c (by decide) (by decide)
    rw[show (jC[2]'(by decide)).toNat=60 by decide] at a;go_wp2;exact⟨⟨3,by omega,rfl⟩,by simp⟩
   ·have a:=λc=>run_next_ascii (P:=prog) w jC 3 c (by decide) (by decide)
    rw[show (jC[3]'(by decide)).toNat=62 by decide] at a;go_wp2;exact⟨⟨4,by omega,rfl⟩,by simp⟩
   have a:=run_next_end (P:=prog) w jC 4;have x:¬4<jC.size:=by decide
   go_wp2;go_ret;exact⟨rfl,l _⟩
 have d:(r==65533)=false:=by simpa using q
 by_cases j:Lib.validRune r=true
 ·have n:Utf8.valid r=true:=by rw[validRune_eq];exact j
  have⟨y,z,o⟩:=encode_facts r n k;have f:∀w,(convert 21 9 (.int .i32 r)).run prog w=.ok (.string (Utf8.encode r)) w:=λw=>run_convert_int_string w _ _ _ _ (by kernel_rfl) Tryz.underlying9
  generalize Utf8.encode r=g at*;have b:g.size=2\/g.size=3\/g.size=4:=by omega
  rcases b with b|b|b
  ·exact Jj r g k d j f b (λh=>by have:=o (by omega);simp only[b] at this;exact this) w
  ·exact Je r g k d j f b (λh=>by have:=o (by omega);simp only[b] at this;exact this) w
  exact J8 r g k d j f b (λh=>by have:=o (by omega);simp only[b] at this;exact this) w
 have p:Lib.validRune r=false:=by simpa using j
 go_enter func263,ntmps263;go_wp2_with (first|(go_at_call 277;go_must (refine(Tryz.utf8_ValidRune _ _).mono ?_;rintro e A ⟨rfl,rfl⟩;rw[p])));go_ret;exact⟨rfl,Kf _ _⟩
theorem Cv{s:ByteArray}{i:Nat}(h:Lib.NoAny s.1.1 fU i)(f:i<s.size)(g:128<=(s[i]'f).toNat):Lib.NoAny s.1.1 fU (i+(Utf8.decode s i).2):=by
 intro j b m d
 by_cases k:j<i
 ·exact h j b k d
 have a:j<s.size:=by have:=(K9.1 d).1;rw[<-KR] at this;exact this
 have c:b=s[j]'a:=by rw[Lib.data_getElem? s j a] at d;exact(KG d).symm
 apply GG
 by_cases l:j=i
 ·subst l;rw[c];exact g
 have:=BV s i (j-i) (by omega) (by omega);rw[show i+(j-i)=j by omega] at this;rw[c];have e:=get_at s j a;rw[<-e];exact this
theorem vp(s:ByteArray)(R:s.size<=8)(w):
  cL 249 #[.string s,.string jC] w (rT w (U (Lib.indexAny s.1.1 fU))):=by
 have L:jC.size=4:=rfl;have E:decide ((8:Int)<(s.size:Int))=false:=KD (by omega);have G:jC.toList.isEmpty=false:=by rw[ML];rfl
 have F:bL w (w.iter s 0):=bR.alloc lE _;go_enter func249,ntmps249;go_wp2_with (first|(go_at_call 264;go_must (refine(Tryz.strings_shouldUseASCIISet _ _).mono ?_;rintro e k ⟨rfl,H⟩;rw[H,E];clear H)));go_loopw [9,10] (λ_ _ wr=>∃i,Hid (wr.1[w.1.size]?=some (.stringIter s i))/\bL w wr/\Hid (Lib.NoAny s.1.1 fU i)) (λ_ _ wr=>s.size-wr.iterPos w.1.size)
 case atStart=>exact⟨0,World.iter_heap w s 0,F,Lib.NoAny.zero _ _⟩
 case round=>
  obtain⟨i,n,o,D⟩:=hrel;have u:wr.iterPos w.1.size=i:=by unfold World.iterPos;rw[n.o]
  have M:=io n.o
  by_cases m:i<s.size
  ·obtain⟨x,t⟩:∃x:UInt8,s[i]'m=x:=⟨_,rfl⟩;have p:Hid (s.1.1[i]?=some x):=by rw[<-t];exact Lib.data_getElem? s i m
   by_cases v:x.toNat<128
   ·have q:=λy=>Lib.run_next_ascii_at (P:=prog) wr w.1.size s i y n.o m (by rw[t];exact v)
    rw[t] at q;have f:=Z (Lib.iterAt_heap wr _ s i (i+1) n.o);have l:bL w (wr.iterAt w.1.size s (i+1)):=Lib.below_iterAt o lE _ _;have a:=Mw fU x;have g:((x.toNat:Int)).toNat.toUInt8=x:=by simp
    generalize wr.iterAt w.1.size s (i+1)=W at*;clear t
    cases hin:fU.contains x
    ·rw[hin] at a;have I:=of_decide_eq_false a.symm;have c:=Z (D.o.succ p.o hin);clear a;have z:Hid (∀w,cL 263 #[.string jC,.int .i32 x.toNat] w λe k=>e=.returned (U (Lib.indexByte fU x))/\k=w):=λw=>by have:=Tryz.strings_IndexRune_ascii jC x.toNat w (by omega) (by omega);rw[g] at this;exact this
     generalize Lib.indexByte fU x=N at*;go_wp2_with (first|(go_at_call 263;go_must (refine(z.o _).mono ?_;rintro e k ⟨rfl,rfl⟩)));have h:k.iterPos w.1.size=i+1:=by unfold World.iterPos;rw[f.o]
     exact⟨⟨i+1,f,l,c⟩,by rw[u,h];omega⟩
    rw[hin] at a;have J:=of_decide_eq_true a.symm;have c:=Z (Lib.indexAny_hit D.o p.o hin);clear a;have z:Hid (∀w,cL 263 #[.string jC,.int .i32 x.toNat] w λe k=>e=.returned (U (Lib.indexByte fU x))/\k=w):=λw=>by have:=Tryz.strings_IndexRune_ascii jC x.toNat w (by omega) (by omega);rw[g] at this;exact this
    generalize Lib.indexByte fU x=N at*;go_wp2_with (first|(go_at_call 263;go_must (refine(z.o _).mono ?_;rintro e k ⟨rfl,rfl⟩)));go_ret;exact⟨by rw[c.o];rfl,l⟩
   have d:128<=(s[i]'m).toNat:=by rw[t];omega
   have⟨S,T⟩:=decode_high s i m d;have V:=decode_le s i;have c:=Z (Cv D.o m d);have q:=λy=>Lib.run_next_any_at (P:=prog) wr w.1.size s i y n.o m
   have f:Hid ((wr.iterAt w.1.size s (i+(Utf8.decode s i).2)).1[w.1.size]?=some (.stringIter s (i+(Utf8.decode s i).2))):=Lib.iterAt_heap wr _ s i _ n.o;have l:bL w (wr.iterAt w.1.size s (i+(Utf8.decode s i).2)):=Lib.below_iterAt o lE _ _;generalize wr.iterAt w.1.size s (i+(Utf8.decode s i).2)=W at*;have z:Hid (∀w,cL 263 #[.string jC,.int .i32 (Utf8.decode s i).1] w (rT w (U (-1)))):=λw=>vY _ (by omega) (by omega) w
   generalize (Utf8.decode s i).1=r at*;generalize (Utf8.decode s i).2=K at*;clear t d p;have A:=io f.o;go_wp2_with (first|(go_at_call 263;go_must (refine(z.o _).mono ?_;rintro e k ⟨rfl,B⟩)));have C:=(B.block w.1.size A).trans f.o;have h:k.iterPos w.1.size=i+K:=by unfold World.iterPos;rw[C]
   exact⟨⟨i+K,C,l.th B,c⟩,by rw[u,h];omega⟩
  have q:=λy=>Lib.run_next_end_at (P:=prog) wr w.1.size s i y n.o m
  have c:Hid (Lib.indexAny s.1.1 fU = -1):=Lib.indexAny_none (λj b O Q=>D.o j b (by rw[<-KR] at O;omega) Q);go_wp2;go_ret;exact⟨by rw[c.o];rfl,o⟩
theorem A9(s:ByteArray)(c:s.size<4294967281)(w):
  cL 249 #[.string s,.string jC] w (rT w (U (Lib.indexAny s.1.1 fU))):=by
 by_cases d:s.size<=8
 ·exact vp s d w
 refine(Tryz.strings_IndexAny_long (λw=>by kernel_rfl) s jC w (by decide) (by omega) c (by decide) (λj b f=>?_)).mono ?_
 ·have a:=Kb f;rw[BL] at a;simp[fU] at a
  rcases a with rfl|rfl|rfl|rfl<;>decide
 rintro e g ⟨rfl,rfl⟩;exact⟨rfl,(bR.alloc lE _).alloc (by simp) _⟩
theorem qD{l:Bs}{v:Int}(h:Lib.atoiAll l=.ok v) : -9223372036854775808<=v/\v<=9223372036854775807:=by
 unfold Lib.atoiAll at h
 split at h
 ·cases h
 simp only[] at h
 split at h
 ·cases h
 ·cases h
 split at h
 ·cases h
 split at h
 ·cases h
 cases h
 split<;>omega
theorem kV(s:ByteArray)(D:s.size<=4294967280)(w)(x:dD w):
  cL 176 #[.string s] w λe d=>∃n ok,e=.returned (.tuple #[U n,.bool ok])/\(cS s.1.1=if ok=true then some n else none)/\wf n/\bL w d:=by
 cases hA:Lib.atoiAll s.1.1 with
 |ok v=>
  have⟨A,B⟩:=qD hA;have b:wf v:=by unfold wf;exact L4 (by omega)
  have l:Hid (∀d,bL w d->cL 99 #[U v] d (rT d (.string ⟨(Lib.itoa v).toArray⟩))):=λd m=>
   (Tryz.strconv_Itoa v A B d (x.l m).2.2.2).mono (by rintro e o ⟨rfl,k,E,rfl⟩;exact⟨rfl,LT _ _ lE _ _⟩)
  have c:Hid (cL 204 #[.string s] w (rT w (.tuple #[U v,.nilIface]))):=
   (Tryz.strconv_Atoi_ok s (by omega) v hA w).mono (λe o h=>⟨h.1,by rcases h.2 with rfl|⟨t,h⟩;(exact Kf _ _);(exact mZ _ _ _ _ h)⟩)
  have u:Hid (cS s.1.1=if Lib.itoa v=s.1.1 then some v else none):=by unfold Hid cS;rw[hA]
  have f:=Z b;clear b hA
  by_cases j:Lib.itoa v=s.1.1
  ·have C:(Lib.itoa v).toArray=s.data:=by rw[j]
   have g:=Z (by rw[u.o,Io j]:cS s.1.1=some v);clear u j;go_enter func176,ntmps176;go_wp2_with fail;go_at_call 204;refine c.o.mono ?_;rintro e y ⟨rfl,a⟩;go_wp2_with fail;go_at_call 99;refine(l.o _ a).mono ?_;rintro e o ⟨rfl,i⟩;go_wp2_with fail;go_ret2;exact⟨v,true,rfl,by rw[g.o];rfl,f.o,a.th i⟩
  have C:(Lib.itoa v==s.toList)=false:=by
   rw[ML]
   simpa using j
  have g:=Z (by rw[u.o,iO j]:cS s.1.1=none);clear u j;go_enter func176,ntmps176;go_wp2_with fail;go_at_call 204;refine c.o.mono ?_;rintro e y ⟨rfl,a⟩;go_wp2_with fail;go_at_call 99;refine(l.o _ a).mono ?_;rintro e o ⟨rfl,i⟩;go_wp2_with fail;go_ret2;exact⟨0,false,rfl,by rw[g.o];rfl,by unfold wf;decide,a.th i⟩
 |«syntax»=>
  obtain⟨z,q,r⟩:=x.2.1
  have c:Hid (cL 204 #[.string s] w λe d=>∃n t p,e=.returned (.tuple #[U n,.iface t (.pointer (some p))])/\wf n/\bL w d):=
   (Tryz.strconv_Atoi_syntax s (by omega) hA z w q r).mono (by rintro e o ⟨N,rfl,_,_,m⟩;exact⟨0,_,_,rfl,by unfold wf;decide,m⟩)
  have g:Hid (cS s.1.1=none):=by unfold Hid cS;rw[hA]
  clear hA q r;go_enter func176,ntmps176;go_wp2_with fail;go_at_call 204;refine c.o.mono ?_;rintro e y ⟨n,t,p,rfl,b,a⟩;have f:=Z b;clear b;go_wp2_with fail;go_ret2;exact⟨0,false,rfl,by rw[g.o];rfl,by unfold wf;decide,a⟩
 |range=>
  obtain⟨z,q,r⟩:=x.2.2.1
  have c:Hid (cL 204 #[.string s] w λe d=>∃n t p,e=.returned (.tuple #[U n,.iface t (.pointer (some p))])/\wf n/\bL w d):=
   (Tryz.strconv_Atoi_range s (by omega) hA z w q r).mono (by rintro e o ⟨N,rfl,_,_,m⟩;exact⟨_,_,_,rfl,by unfold wf Lib.atoiSat;split<;>decide,m⟩)
  have g:Hid (cS s.1.1=none):=by unfold Hid cS;rw[hA]
  clear hA q r;go_enter func176,ntmps176;go_wp2_with fail;go_at_call 204;refine c.o.mono ?_;rintro e y ⟨n,t,p,rfl,b,a⟩;have f:=Z b;clear b;go_wp2_with fail;go_ret2;exact⟨0,false,rfl,by rw[g.o];rfl,by unfold wf;decide,a⟩
def dU(l:Bs):ByteArray:=⟨l.toArray⟩
theorem uh:∀ (a:List Bs) (x:ByteArray),Lib.idxOfS (a.map dU) x=bt a x.1.1:=by
 have c:∀ (a:List Bs) (x:ByteArray) (i:Nat),Lib.idxFromS (a.map dU) x i=if bt a x.1.1 = -1 then -1 else bt a x.1.1+i:=by
  intro a x
  induction a with
  |nil=>intro i;simp[Lib.idxFromS,bt]
  |cons n r f=>
   intro i;have g:=jh r x.1.1
   have b:(dU n=x) ↔ n=x.1.1:=by
    constructor
    ·intro h;rw[<-h];simp[dU]
    intro h;rw[h];cases x;simp[dU]
   rw[Lt,Lib.idxFromS,f (i+1),bt]
   by_cases h:n=x.1.1
   ·rw[Io (b.2 h),Io h];simp
   have j:¬(dU n=x):=λe=>h (b.1 e)
   simp only[h,j,if_false]
   by_cases d:bt r x.1.1 = -1
   ·simp[d]
   simp only[d,if_false]
   split<;>omega
 intro a x;have:=c a x 0;unfold Lib.idxOfS;rw[this]
 split
 ·rename_i h;exact h.symm
 simp
