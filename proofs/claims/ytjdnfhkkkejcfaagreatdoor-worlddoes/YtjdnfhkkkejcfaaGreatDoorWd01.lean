import Derived.Test.YtjdnfhkkkejcfaaGreatDoorHx
import Derived.Test.YtjdnfhkkkejcfaaGreatDoorRows
import Derived.Test.YtjdnfhkkkejcfaaGreatDoorShelf
import Derived.WalkSpells
import Derived.WalkLawsBesides
import Derived.BigQuiet
import Derived.ProofKit
import Derived.OpenShut
import Derived.ShutString
import Derived.Deep.SlicePairs
import Derived.Deep.Strs
import Derived.Lib.LaidTab
import Derived.Lib.ItoaNum
import Derived.Lib.SplitLaws
import Derived.Lib.IndexAny
import Derived.Lib.AtoiAll
import Derived.Lib.SlicesS
set_option linter.all false
set_option maxRecDepth 100000
set_option maxHeartbeats 4000000
namespace Go.Proofs.YtjdnfhkkkejcfaaGreatDoor
open Go.RowKit Go.Maps Go.Proofs.Tryz
def aO(n:Int):Int:=if n=0 then 63 else if n=1 then 3 else 65535
theorem sh(n w):
  cL 73 #[U n] w λe c=>e=.returned (U (aO n))/\c=w:=by
 by_cases a:n=0
 ·subst a;go_enter func73,ntmps73;go_wp2;go_ret;exact⟨rfl,rfl⟩
 by_cases b:n=1
 ·subst b;go_enter func73,ntmps73;go_wp2;go_ret;exact⟨rfl,rfl⟩
 have e:aO n=65535:=by simp[aO,a,b]
 have H:=Z e;clear e;have d:(n==0)=false:=by simpa using a
 have f:(n==1)=false:=by simpa using b
 clear a b;go_enter func73,ntmps73;go_wp2;go_ret;exact⟨by rw[H.o];rfl,rfl⟩
theorem lp(n a b w):
  cL 34 #[U n,U a,U b] w λe c=>e=.returned (.bool (decide (a<=n)&&decide (n<=b)))/\c=w:=by
 by_cases d:a<=n
 ·go_enter func34,ntmps34;go_wp2;go_ret;exact⟨by simp[d],rfl⟩
 go_enter func34,ntmps34;go_wp2;go_ret;exact⟨by simp;omega,rfl⟩
theorem am{H:Type}{P:Program}(w:World){f:Array Oper}{c:List Oper}{o:Oper}{a:Act}{Q:Exit->Act->World->Prop}
  (u:o.guard=none) (m x v:Operand) (t:TypeId) (iY:o.op=Op.insert t m x v)
  (k e:TypeId) (K:Maps.Keyed P k) (y:P.underlying t=some (.map k e)) (R:Value->Option (DataW H × List MemPlace)) (b n:Nat) (D:DataW H)
  (z:a.eval m=.map (some b)) (g:w.ownsMap P k R b n D) (A:n<maxLen) (h i:Value) (s:Lit) (B:a.eval x=h) (C:a.eval v=i) (j:keyOf P k h=some s)
  (d:DataW H) (ps:List MemPlace) (l:R i=some (d,ps))
  (E:∀p,p.ownsMap P k R b (n+1) (D.put s d)->w.grownBy p (some b)->wpList P f Q c (a.put o.dst undef) p):
  wpList P f Q (o :: c) a w:=by
 refine wpList_plain u λI r=>?_
 have⟨p,q,F,G⟩:=g.update K y A j l;unfold Oper.wp;simp[execOp,iY,z,B,C,q,Result.andThen];exact r _ _ (E p F G)
theorem jj(w:World):(zeroValue 3).run prog w=.ok (U 0) w:=by kernel_rfl
theorem iK:Maps.Keyed prog 3:=Maps.int_keyed underlying3
def sg:DataW Unit:=((DataW.map []).put (.int .i64 0) (.lit (.int .i64 63))).put (.int .i64 1) (.lit (.int .i64 3))
theorem zY(n:Int):(Maps.has sg (.int .i64 n)=true/\sg.atKey (.int .i64 n) (.lit (.int .i64 0))=.lit (.int .i64 (aO n)))\/(Maps.has sg (.int .i64 n)=false/\aO n=65535):=by
 have a:∀z,WideAt.IsKeyLit (.int .i64 z):=λz=>by simp[WideAt.IsKeyLit]
 unfold sg
 by_cases b:n=1
 ·subst b;exact .inl ⟨Maps.has_put_same (LM.put _ _) (a 1) _,L7 (LM.put _ _) (a 1) _ _⟩
 have d:Lit.int .i64 n≠Lit.int .i64 1:=by simpa using b
 rw[Maps.has_put_other d,KT d]
 by_cases c:n=0
 ·subst c;exact .inl ⟨Maps.has_put_same LM (a 0) _,L7 LM (a 0) _ _⟩
 have e:Lit.int .i64 n≠Lit.int .i64 0:=by simpa using c
 rw[Maps.has_put_other e];exact .inr ⟨rfl,by simp[aO,c,b]⟩
theorem rq(n:Int)(l:(Lit.int .i64 n).wf=true)(w):
  cL 38 #[U n] w (rT w (U (aO n))):=by
 have m:=@run_makeMap prog;have f:=Le (H:=Unit) w prog 3 (plainElem prog 3);go_enter func38,ntmps38
 go_wp2_with (first
  |(refine am _ rfl _ _ _ 110 rfl 3 3 iK Tryz.underlying110 _ w.1.size 0 _ rfl f (by decide) _ _ _ rfl rfl (KF underlying3 (by decide)) _ [] (KH underlying3 (by decide)) ?_;intro s b a;clear f)
  |(refine am _ rfl _ _ _ 110 rfl 3 3 iK Tryz.underlying110 _ w.1.size 1 _ rfl b (by decide) _ _ _ rfl rfl (KF underlying3 (by decide)) _ [] (KH underlying3 (by decide)) ?_;intro o e d;clear b)
  |(at_lookup;refine La _ rfl _ _ 110 rfl 3 3 .i64 iK Tryz.underlying110 underlying3 (jj _) w.1.size 2 _ rfl e _ _ rfl (KF underlying3 l) ?_;intro c h p))
 all_goals
  have q:bL w o:=((bR.alloc lE _).grown a (by simp) (λk i=>by cases i;exact Ke _)).grown d (by have:=a.size;simp at this;omega) (λk i=>by cases i;exact Ke _);have j:=zY n;unfold sg at j;go_ret;refine⟨?_,q⟩
 ·rcases j with ⟨_,g⟩|⟨r,_⟩
  ·rw[h] at g;simp at g;exact congrArg (λz=>Ending.returned (U z)) g
  simp_all
 rcases j with ⟨r,_⟩|⟨_,g⟩
 ·simp_all
 exact congrArg (λz=>Ending.returned (U z)) g.symm
def ax(W:World):Type:={ w':World // bL W w' }
theorem ax.ne(W):Nonempty (ax W):=⟨⟨W,Kf _ _⟩⟩
theorem aW{P:Program}{id:Nat}{Q:Exit->Act->World->Prop}{a:Act}{w}{l:List Oper}(c:P.follows .mixedOrders=true)(d:Region.lexB .any l.toArray=true)
  (h:wpQuiet P l.toArray (λb=>∃x:ax w,b=x.1) (λe=>∀b,(∃x:ax w,b=x.1)->Q .normal e b) l a):(Code.region id l.toArray true).wp P Q a w:=
 wp_region_quiet (C:=λb=>∃x:ax w,b=x.1) c d ⟨⟨w.drew,bR.drew⟩,rfl⟩ (by simpa using h)
theorem Calls.l{P f args W}{x:ax W}{v:Value}
  (h:Calls P f args x.1 λe a=>e=.returned v/\Below x.1.1.size x.1 a):Calls P f args x.1 λe b=>e=.returned v/\∃y:ax W,b=y.1:=
 h.mono λ_ a ⟨c,d⟩=>⟨c,⟨a,x.2.trans (d.mono x.2.size)⟩,rfl⟩
theorem Calls.later_same{P f args W}{x:ax W}{v:Value}
  (h:Calls P f args x.1 λe b=>e=.returned v/\b=x.1):Calls P f args x.1 λe a=>e=.returned v/\∃y:ax W,a=y.1:=
 h.mono λ_ _ ⟨c,d⟩=>⟨c,x,d⟩
theorem ax.cell{W}(x:ax W){b o:Nat}{v:Value}(h:W.cell? ⟨b,o,none⟩=some v)(a:b<W.1.size):x.1.cell? ⟨b,o,none⟩=some v:=by rw[x.2.cell (p:=⟨b,o,none⟩) a];exact h
def FS(k v:Int):Bool:=decide (0<=v)&&decide (v<=aO k)
def fI:Nat->List Int->Bool
 |_,[]=>true
 |k,v :: r=>FS k v&&fI (k+1) r
def Iu(a b c d e:Int):Int:=if fI 0 [a,b,c,d,e] then 0 else 3
def oz(a b c d e:Int):Nat->Int
 |0=>a|1=>b|2=>c|3=>d|_=>e
theorem tz(a b c d e:Int)(k:Nat)(h:k<5):fI k ([a,b,c,d,e].drop k)=(FS k (oz a b c d e k)&&fI (k+1) ([a,b,c,d,e].drop (k+1))):=by
 have:k=0\/k=1\/k=2\/k=3\/k=4:=by omega
 rcases this with rfl|rfl|rfl|rfl|rfl<;>rfl
theorem GT(a0 a1 a2 a3 a4)(w:World):(Instr.index 34 (.agg #[U a0,U a1,U a2,U a3,U a4]) (U 0)).run prog w=.ok (U a0) w:=by kernel_rfl
theorem Gq(a0 a1 a2 a3 a4)(w:World):(Instr.index 34 (.agg #[U a0,U a1,U a2,U a3,U a4]) (U 1)).run prog w=.ok (U a1) w:=by kernel_rfl
theorem GC(a0 a1 a2 a3 a4)(w:World):(Instr.index 34 (.agg #[U a0,U a1,U a2,U a3,U a4]) (U 2)).run prog w=.ok (U a2) w:=by kernel_rfl
theorem Hx(a0 a1 a2 a3 a4)(w:World):(Instr.index 34 (.agg #[U a0,U a1,U a2,U a3,U a4]) (U 3)).run prog w=.ok (U a3) w:=by kernel_rfl
theorem Gt(a0 a1 a2 a3 a4)(w:World):(Instr.index 34 (.agg #[U a0,U a1,U a2,U a3,U a4]) (U 4)).run prog w=.ok (U a4) w:=by kernel_rfl
theorem Jc(a0 a1 a2 a3 a4)(k:Nat)(h:k<5)(w:World):(Instr.index 34 (.agg #[U a0,U a1,U a2,U a3,U a4]) (U k)).run prog w=.ok (U (oz a0 a1 a2 a3 a4 k)) w:=by
 have:k=0\/k=1\/k=2\/k=3\/k=4:=by omega
 rcases this with rfl|rfl|rfl|rfl|rfl
 ·exact GT ..
 ·exact Gq ..
 ·exact GC ..
 ·exact Hx ..
 exact Gt ..
theorem Av{a b c d e:Int}{k}{v:Int}{r}(H:Hid (fI 0 [a,b,c,d,e]=fI k ([a,b,c,d,e].drop k)))(S:Hid (fI k ([a,b,c,d,e].drop k)=(FS k v&&r)))(h:v<0\/aO k<v):Iu a b c d e=3:=by
 have:FS k v=false:=by unfold FS;rw[Bool.and_eq_false_iff,decide_eq_false_iff_not,decide_eq_false_iff_not];omega
 unfold Iu;rw[H.o,S.o,this];rfl
theorem AN{a b c d e:Int}{k}{v:Int}{r}(H:Hid (fI 0 [a,b,c,d,e]=fI k ([a,b,c,d,e].drop k)))(S:Hid (fI k ([a,b,c,d,e].drop k)=(FS k v&&r)))(h:0<=v/\v<=aO k):fI 0 [a,b,c,d,e]=r:=by
 have:FS k v=true:=by unfold FS;rw[KU,L9,L9];omega
 rw[H.o,S.o,this];rfl
theorem Ek{a b c d e:Int}{k}(H:Hid (fI 0 [a,b,c,d,e]=fI k ([a,b,c,d,e].drop k)))(h:5<=k):Iu a b c d e=0:=by unfold Iu;rw[H.o,KJ (by simpa using h)];rfl
theorem pN(a0 a1 a2 a3 a4 w):
  cL 43 #[.agg #[U a0,U a1,U a2,U a3,U a4]] w (rT w (U (Iu a0 a1 a2 a3 a4))):=by
 go_enter func43,ntmps43;go_wp2;go_loop [6] (λi=>∃k:Nat,k<=5/\i=U k/\Hid (fI 0 [a0,a1,a2,a3,a4]=fI k ([a0,a1,a2,a3,a4].drop k))) (λi=>5-(intOf i).toNat)
 case atStart=>exact⟨0,by omega,rfl,rfl⟩
 case round=>
  obtain⟨k,c,rfl,H⟩:=hrel
  by_cases a:k<5
  ·have b:=Jc a0 a1 a2 a3 a4 k a;have S:=Z (tz a0 a1 a2 a3 a4 k a);generalize oz a0 a1 a2 a3 a4 k=v at*;go_wp2_with (first|(go_at_call 73;refine(sh _ _).mono ?_;rintro e d ⟨rfl,rfl⟩))
   ·go_ret;exact⟨by rw[Av H S ‹_›];rfl,bR.alloc lE _⟩
   ·exact⟨⟨k+1,by omega,by go_num,AN H S ‹_›⟩,by simp[intOf];omega⟩
   go_ret;exact⟨by rw[Av H S (.inl ‹_›)];rfl,bR.alloc lE _⟩
  go_wp2;go_ret;exact⟨by rw[Ek H (by omega)];rfl,bR.alloc lE _⟩
theorem JE(a0 a1 a2 a3 a4)(w:World)(T)(k:Nat)(h:k<5):(w.alloc (.cells #[U a0,U a1,U a2,U a3,U a4] T)).cell? ⟨w.1.size,k,none⟩=some (U (oz a0 a1 a2 a3 a4 k)):=by
 have:k=0\/k=1\/k=2\/k=3\/k=4:=by omega
 rcases this with rfl|rfl|rfl|rfl|rfl<;>simp[go_sem,oz]
theorem yr(a0 a1 a2 a3 a4 w):
  cL 14 #[.agg #[U a0,U a1,U a2,U a3,U a4]] w (rT w (U (Iu a0 a1 a2 a3 a4))):=by
 go_enter func14,ntmps14;go_wp2;go_loopw [4] (λi wr=>∃k:Nat,k<=5/\i=U k/\Hid (fI 0 [a0,a1,a2,a3,a4]=fI k ([a0,a1,a2,a3,a4].drop k))/\Hid (∀j,j<5->wr.cell? ⟨w.1.size,j,none⟩=some (U (oz a0 a1 a2 a3 a4 j)))/\bL w wr/\w.1.size<wr.1.size) (λi _=>5-(intOf i).toNat)
 case atStart=>exact⟨0,by omega,rfl,rfl,λj d=>JE a0 a1 a2 a3 a4 w _ j d,bR.alloc lE _,by simp⟩
 case round=>
  obtain⟨k,u,rfl,H,e,f,g⟩:=hrel
  by_cases a:k<5
  ·have S:=Z (tz a0 a1 a2 a3 a4 k a);have l:=e.o k a;generalize oz a0 a1 a2 a3 a4 k=v at l S;have m:(Lit.int .i64 (k:Int)).wf=true:=L4 (by omega);have y:(0:Int)<=(k:Int):=by omega
   have z:(k:Int)<5:=by omega
   go_wp2;have n:=ax.ne wr;have o:∀x:ax wr,x.1.cell? ⟨w.1.size,k,none⟩=some (U v):=λx=>x.cell l g
   refine aW (by kernel_rfl) (by kernel_rfl) ?_;repeat(go_big_quiet_step (first|(go_at_call 38;exact Calls.l (rq _ m _))|(go_at_call 34;exact Calls.later_same (lp _ _ _ _))))
   refine Km ?_;rintro t ⟨⟨_,c⟩,rfl⟩;have q:Hid (∀j,j<5->t.cell? ⟨w.1.size,j,none⟩=some (U (oz a0 a1 a2 a3 a4 j))):=λj d=>(c.cell (p:=⟨w.1.size,j,none⟩) g).trans (e.o j d)
   have b:=f.trans (c.mono f.size);have r:=Kd g c.size;clear o l e n c;go_wp2
   ·have s:v<0\/aO k<v:=by
     have h:(!decide (0<=v))=true\/(!decide (v<=aO ↑k))=true:=by assumption
     simp at h;omega
    go_ret;exact⟨by rw[Av H S s];rfl,b⟩
   have s:0<=v/\v<=aO k:=by
    have h:(!decide (0<=v))=false/\(!decide (v<=aO ↑k))=false:=by assumption
    simp at h;omega
   exact⟨⟨k+1,by omega,by go_num,AN H S s,q,b,r⟩,by simp[intOf];omega⟩
  go_wp2;go_ret;exact⟨by rw[Ek H (by omega)];rfl,f⟩
section
open Go.ChangeShapes Go.WideShapes Go.ChangeAt Go.Deep
theorem ai:maxLen=9223372036854775807:=by decide
def wf(n:Int):Prop:=(Lit.int .i64 n).wf=true
theorem Below.drewN_{B a w}(h:Below B a w)(n:Nat):Below B a (w.drewN n):=⟨h.os,h.tape,h.output,h.size,h.block⟩
theorem Below.tO{n w v v'}(h:Below n w v)(a:bL v v')(b:n<=v.1.size):Below n w v':=h.trans (a.mono b)
def jm(x:Nat->Int):Value:=.agg #[U (x 0),U (x 1),U (x 2),U (x 3),U (x 4)]
def eC(x:Nat->Int):Int:=Iu (x 0) (x 1) (x 2) (x 3) (x 4)
def rA(w:World)(b:Nat)(x:Nat->Int):Prop:=∀j,j<5->w.cell? ⟨b,j,none⟩=some (U (x j))
theorem rA.l{B b w w'}{x:Nat->Int}(h:rA w b x)(a:Below B w w')(c:b<B):rA w' b x:=λj d=>(a.cell (p:=⟨b,j,none⟩) c).trans (h j d)
theorem rA.made(x:Nat->Int)(w:World)(T):rA (w.alloc (.cells #[U (x 0),U (x 1),U (x 2),U (x 3),U (x 4)] T)) w.1.size x:=by
 intro j h;have:j=0\/j=1\/j=2\/j=3\/j=4:=by omega
 rcases this with rfl|rfl|rfl|rfl|rfl<;>simp[go_sem]
theorem cN{c:Func}{p:Tmp}{d:TypeId}(h:c.results=#[.cell p d])(b:Array Value)(P:Program)(w:World):
  (results c b).run P w=((asAddr (b.getD p undef)).run P w).andThen λa e=>(loadVar d a).run P e:=by
 simp only[results,h];simp[Lj,Result.andThen]
theorem nq(n:Int):aO n<=65535:=by
 unfold aO
 split
 ·omega
 split<;>omega
theorem EL:ownKnob prog.godebug=none:=by kernel_rfl
theorem JI:laidOutB prog=true:=by kernel_rfl
theorem xT{H:Type}{a:TypeId × Value->H}{P:Program}(g:laidOutB P=true){W W'}(i:bL W W'):
  ∀ (ts:List TypeId) (c:List Value) (e:List (DataW H)) (p:List MemPlace),(∀t∈ts,P.readableRec t=true/\t<P.types.size)->
   DataW.TrodAll a P W 0 (λ_=>true) true ts c e p->DataW.TrodAll a P W' 0 (λb=>decide (b<W.1.size)) true ts c e p
 |[],[],[],_,_,h=>h
 |t :: ts,v :: c,d :: e,s,f,h=>by
  obtain⟨p,q,j,k,rfl⟩:=h;have l:∀x∈p,x.block<W.1.size:=by obtain⟨m,n⟩:=j;exact DataW.trod_lt m _ _ _ n
  exact⟨p,q,Below.trod g (f t (by simp)).1 (f t (by simp)).2 j i l,xT g i ts c e q (λo r=>f o (by simp[r])) k,rfl⟩
 |[],_ :: _,_,_,_,h=>by simp[DataW.TrodAll] at h
 |[],[],_ :: _,_,_,h=>by simp[DataW.TrodAll] at h
 |_ :: _,[],_,_,_,h=>by simp[DataW.TrodAll] at h
 |_ :: _,_ :: _,[],_,_,h=>by simp[DataW.TrodAll] at h
theorem zA{P:Program}{w:World}{r:Reach}{base:Nat}{t:TypeId}{v:Value}{n:Nat}{e:TypeId}(b:P.underlying t=some (.array n e))(h:Value.okWide P w r base t v):∃a,v=.agg a/\a.size=P.cellsOf t:=by unfold Value.okWide at h;rw[b] at h;obtain⟨a,c,d,_⟩:=h;exact⟨a,c,d⟩
theorem qi{P:Program}{w:World}{r:Reach}{base:Nat}{t:TypeId}{v:Value}{b:Array Field}(c:P.underlying t=some (.struct b))(h:Value.okWide P w r base t v):∃a,v=.agg a/\a.size=P.cellsOf t:=by unfold Value.okWide at h;rw[c] at h;obtain⟨a,d,e,_⟩:=h;exact⟨a,d,e⟩
theorem Jl{H:Type}{e:TypeId × Value->H}{W:World}{r:Reach}{y base:Nat}{z:Nat->Bool}{b:Bool}{v:Value}{d:DataW H}{p:List MemPlace}
  (A:Value.okWide prog W r y 34 v) (h:DataW.Trod e prog W base z b 34 v d p):∃x:Nat->Int,v=jm x:=by
 obtain⟨B,rfl,c⟩:=zA Tryz.underlying34 A;obtain⟨g,C⟩:=h;have⟨D,m,_,_,_,E,a⟩:=DataW.trod_array Tryz.underlying34 C;have f:prog.cellsOf 34=5:=by kernel_rfl
 have F:prog.cellsOf 3=1:=by kernel_rfl
 rw[f] at c;rw[F] at a;obtain⟨l⟩:=B
 match l,c with
 |[M,N,O,P,Q],_=>
  match D,E with
  |[R,S,T,V,X],_=>
   have i:=a 0 (by omega);have j:=a 1 (by omega);have k:=a 2 (by omega);have n:=a 3 (by omega);have o:=a 4 (by omega);simp[Value.cells] at i j k n o;have⟨G,q,_,_⟩:=KV Tryz.underlying3 i;have⟨I,s,_,_⟩:=KV Tryz.underlying3 j;have⟨J,t,_,_⟩:=KV Tryz.underlying3 k;have⟨K,u,_,_⟩:=KV Tryz.underlying3 n;have⟨L,w,_,_⟩:=KV Tryz.underlying3 o;simp at q s t u w;subst q s t u w;exact⟨oz G I J K L,rfl⟩
theorem iU{α:Type}(p:Nat->α->Prop):∀n,(∀i,i<n->∃x,p i x)->∃l:List α,l.length=n/\∀i x,l[i]?=some x->p i x
 |0,_=>⟨[],rfl,λi x h=>by simp at h⟩
 |n+1,h=>by
  obtain⟨l,b,d⟩:=iU p n λi e=>h i (by omega)
  obtain⟨x,f⟩:=h n (by omega);refine⟨l++[x],by simp[b],λi y a=>?_⟩
  by_cases e:i<n
  ·rw[Kh (by omega)] at a;exact d i y a
  have c:i<(l++[x]).length:=(K9.1 a).1;simp[b] at c;obtain rfl:i=n:=by omega
  rw[Kk (by omega)] at a;simp[b] at a;subst a;exact f
theorem iX{w:World}{a:Addr}{v:Value}(h:w.cell? (a.add 0)=some v):a=⟨a.block,a.off,none⟩/\a.block<w.1.size:=by
 have c:a.add 0=a:=by simp[Addr.add]
 rw[c] at h;refine⟨?_,KE _ _ h⟩;obtain⟨b,o,d⟩:=a
 cases d with
 |none=>rfl
 |some k=>
  exfalso;unfold World.cell? at h
  split at h<;>simp at h
theorem eM(b o i:Nat):(⟨b,o,none⟩:Addr).add i=⟨b,o+i,none⟩:=by
 unfold Addr.add
 by_cases h:i=0<;>simp[h]
end
abbrev aN:=Int × Int × Int
abbrev aq:=List aN × Int
abbrev aD:=List aq × Int
def Gv(c:aN):Value:=.agg #[U c.1,U c.2.1,U c.2.2]
def iu(w:World)(b o:Nat)(c:aN):Prop:=
 w.cell? ⟨b,o,none⟩=some (U c.1)/\w.cell? ⟨b,o+1,none⟩=some (U c.2.1)/\w.cell? ⟨b,o+2,none⟩=some (U c.2.2)/\wf c.1/\wf c.2.1/\wf c.2.2
def bG(B:Nat)(w:World)(v:Value)(cs:List aN):Prop:=
 ∃a d,v=.slice a cs.length d/\cs.length<=d/\d<=maxLen/\∀i c,cs[i]?=some c->∃b o,a=some ⟨b,o,none⟩/\b<B/\iu w b (o+i*3) c
def gO(B:Nat)(w:World)(b o:Nat)(r:aq):Prop:=
 ∃a,w.cell? ⟨b,o,none⟩=some a/\w.cell? ⟨b,o+1,none⟩=some (U r.2)/\wf r.2/\bG B w a r.1
def bD(B:Nat)(w:World)(v:Value)(d:List aq):Prop:=
 ∃a c,v=.slice a d.length c/\d.length<=c/\c<=maxLen/\∀i r,d[i]?=some r->∃b o,a=some ⟨b,o,none⟩/\b<B/\gO B w b (o+i*2) r
def aX(B:Nat)(w:World)(v:Value)(p:aD):Prop:=
 ∃a,v=.agg #[a,U p.2]/\wf p.2/\bD B w a p.1
theorem iu.l{B w w' b o c}(h:iu w b o c)(a:Below B w w')(d:b<B):iu w' b o c:=by unfold iu;rw[a.cell (p:=⟨b,o,none⟩) d,a.cell (p:=⟨b,o+1,none⟩) d,a.cell (p:=⟨b,o+2,none⟩) d];exact h
theorem bG.l{B B' w w' v cs}(h:bG B w v cs)(f:Below B' w w')(q:B<=B'):bG B w' v cs:=by obtain⟨a,d,g,j,l,m⟩:=h;refine⟨a,d,g,j,l,λi c n=>?_⟩;have⟨b,o,e,p,k⟩:=m i c n;exact⟨b,o,e,p,k.l f (by omega)⟩
theorem gO.l{B B' w w' b o r}(h:gO B w b o r)(a:Below B' w w')(c:B<=B')(j:b<B):gO B w' b o r:=by obtain⟨d,e,f,g,i⟩:=h;exact⟨d,(a.cell (p:=⟨b,o,none⟩) (by show b<B';omega)).trans e,(a.cell (p:=⟨b,o+1,none⟩) (by show b<B';omega)).trans f,g,i.l a c⟩
theorem bD.l{B B' w w' v rs}(h:bD B w v rs)(g:Below B' w w')(j:B<=B'):bD B w' v rs:=by obtain⟨a,d,l,m,n,p⟩:=h;refine⟨a,d,l,m,n,λi c q=>?_⟩;have⟨b,o,e,f,k⟩:=p i c q;exact⟨b,o,e,f,k.l g j f⟩
theorem aX.l{B B' w w' v p}(h:aX B w v p)(a:Below B' w w')(b:B<=B'):aX B w' v p:=by obtain⟨c,d,e,f⟩:=h;exact⟨c,d,e,f.l a b⟩
def cA(v:Int):Bool:=decide (0<=v)&&decide (v<=4)
def bS(c:aN):Int:=if c.1<0\/5<=c.1 then 5 else if c.2.1<1\/4<c.2.1 then 4 else if c.2.2<0\/aO c.1<c.2.2 then 3 else 0
def eW:List aN->Int
 |[]=>0
 |c :: r=>if bS c=0 then eW r else bS c
def bH(r:aq):Int:=if 10<r.1.length then 2 else if cA r.2 then eW r.1 else 3
def eE:List aq->Int
 |[]=>0
 |r :: s=>if bH r=0 then eE s else bH r
def aj(p:aD):Int:=if 120<p.1.length then 2 else if cA p.2 then eE p.1 else 3
theorem jR(v w):
  cL 177 #[U v] w λe a=>e=.returned (.bool (cA v))/\a=w:=by
 unfold cA
 by_cases b:0<=v
 ·go_enter func177,ntmps177;go_wp2;go_ret;exact⟨by simp[b],rfl⟩
 go_enter func177,ntmps177;go_wp2;go_ret;exact⟨by simp;omega,rfl⟩
theorem xO(f o v w):
  cL 205 #[.agg #[U f,U o,U v]] w (rT w (U (bS (f,o,v)))):=by
 have c:∀x,bL w (w.alloc x):=λx=>bR.alloc lE _
 go_enter func205,ntmps205
 by_cases b:f<0\/5<=f
 ·go_wp2
  all_goals
   go_ret;exact⟨by rw[bS,Io b];rfl,c _⟩
 by_cases d:o<1\/4<o
 ·go_wp2
  all_goals
   go_ret;exact⟨by rw[bS,iO b,Io d];rfl,c _⟩
 go_wp2;have a:=c (.cells #[U f,U o,U v] 134);have h:w.1.size<(w.alloc (.cells #[U f,U o,U v] 134)).1.size:=by simp
 have i:(w.alloc (.cells #[U f,U o,U v] 134)).cell? (pW w 0)=some (U f):=by simp[go_sem]
 have j:(w.alloc (.cells #[U f,U o,U v] 134)).cell? (pW w 2)=some (U v):=by simp[go_sem]
 generalize w.alloc (.cells #[U f,U o,U v] 134)=W at*;have k:=ax.ne W;have n:∀x:ax W,x.1.cell? (pW w 0)=some (U f):=λx=>x.cell i h
 have p:∀x:ax W,x.1.cell? (pW w 2)=some (U v):=λx=>x.cell j h
 clear i j c
 by_cases g:v<0
 ·have l:decide (v<0)=true:=by simpa using g
  refine aW (by kernel_rfl) (by kernel_rfl) ?_;repeat(go_big_quiet_step (first|(go_at_call 73;exact Calls.later_same (sh _ _))))
  refine Km ?_;rintro m ⟨⟨_,e⟩,rfl⟩;go_wp2;go_ret;exact⟨by rw[bS,iO b,iO d,Io (.inl g)];rfl,a.trans (e.mono a.size)⟩
 have l:decide (v<0)=false:=by simpa using g
 refine aW (by kernel_rfl) (by kernel_rfl) ?_;repeat(go_big_quiet_step (first|(go_at_call 73;exact Calls.later_same (sh _ _))))
 refine Km ?_;rintro m ⟨⟨_,e⟩,rfl⟩;go_wp2
 ·go_ret;exact⟨by rw[bS,iO b,iO d,Io (.inr ‹_›)];rfl,a.trans (e.mono a.size)⟩
 go_ret;exact⟨by rw[bS,iO b,iO d,iO (by show ¬(v<0\/aO f<v);omega)];rfl,a.trans (e.mono a.size)⟩
theorem ql(cs:List aN)(k:Nat)(c:aN)(h:cs[k]?=some c):eW (cs.drop k)=if bS c=0 then eW (cs.drop (k+1)) else bS c:=by obtain⟨a,rfl⟩:=K9.1 h;rw[KM a];rfl
theorem qf(a:List aq)(k:Nat)(r:aq)(h:a[k]?=some r):eE (a.drop k)=if bH r=0 then eE (a.drop (k+1)) else bH r:=by obtain⟨b,rfl⟩:=K9.1 h;rw[KM b];rfl
theorem xF(B cv)(r:aq)(w)(I:bG B w cv r.1)(Y:B<=w.1.size):
  cL 178 #[.agg #[cv,U r.2]] w (rT w (U (bH r))):=by
 obtain⟨d,l⟩:=r;obtain⟨a,t,rfl,u,J,j⟩:=I;have y:∀x,bL w (w.alloc x):=λx=>bR.alloc lE _
 have K:Hid (∀n,10<d.length->n=2->bH (d,l)=n):=by intro n h e;subst e;simp[bH,h]
 show cL 178 #[.agg #[.slice a d.length t,U l]] w _;simp only[] at j u;have m:=Z j;clear j;generalize hn:d.length=n at*
 by_cases L:10<n
 ·have M:(10:Int)<(n:Int):=by omega
  go_enter func178,ntmps178;go_wp2;go_ret;exact⟨by rw[K.o 2 L rfl];rfl,y _⟩
 by_cases z:cA l=false
 ·go_enter func178,ntmps178;go_wp2_with (first|(go_at_call 177;refine(jR _ _).mono ?_;rintro e A ⟨rfl,rfl⟩));go_ret;exact⟨by rw[bH,iO (by show ¬10<d.length;omega),iO (by show ¬cA l=true;simp[z])];rfl,y _⟩
 have C:cA l=true:=by simpa using z
 have G:=Z (by rw[bH,iO (by show ¬10<d.length;omega),Io C]:bH (d,l)=eW d);clear z;go_enter func178,ntmps178;go_wp2_with (first|(go_at_call 177;refine(jR _ _).mono ?_;rintro e A ⟨rfl,rfl⟩));go_loopw [17] (λi wr=>∃k:Nat,k<=n/\i=U k/\Hid (eW d=eW (d.drop k))/\bL w wr) (λi _=>n-(intOf i).toNat)
 case atStart=>exact⟨0,by omega,rfl,rfl,y _⟩
 case round=>
  obtain⟨k,hk,rfl,H,g⟩:=hrel;have i0:(0:Int)<=(k:Int):=by omega
  by_cases N:k<n
  ·have i1:(k:Int)<(n:Int):=by omega
   obtain⟨c,p⟩:∃c,d[k]?=some c:=⟨d[k]'(by omega),by simp⟩;obtain⟨b,o,rfl,O,D⟩:=m.o k c p;have S:=Z (ql d k c p);obtain⟨f,s,v⟩:=c;obtain⟨P,Q,R,T,V,W⟩:=D.l g (by omega);simp only[] at P Q R T V W;go_wp2_with (first|(go_at_call 205;refine(xO _ _ _ _).mono ?_;rintro e A ⟨rfl,E⟩))
   all_goals have q:bL w A:=Below.tO (g.alloc g.size _) E (by simp;have:=g.size;omega)
   ·have F:bS (f,s,v)≠0:=by simpa using (by assumption:(bS (f,s,v) != 0)=true)
    go_ret;exact⟨by rw[G.o,H.o,S.o,iO F];rfl,q⟩
   have X:bS (f,s,v)=0:=by simpa using (by assumption:(bS (f,s,v) != 0)=false)
   exact⟨⟨k+1,by omega,by go_num,by unfold Hid;rw[H.o,S.o,Io X],q⟩,by simp[intOf];omega⟩
  go_wp2;go_ret;exact⟨by rw[G.o,H.o,KJ (by omega)];rfl,g⟩
theorem gZ(B pv p w)(O:aX B w pv p)(P:B<=w.1.size):
  cL 143 #[pv] w (rT w (U (aj p))):=by
 obtain⟨g,d⟩:=p;obtain⟨rv,rfl,_,a,z,rfl,A,Q,m⟩:=O;have C:∀x,bL w (w.alloc x):=λx=>bR.alloc lE _
 have R:Hid (∀n,120<g.length->n=2->aj (g,d)=n):=by intro n h e;subst e;simp[aj,h]
 show cL 143 #[.agg #[.slice a g.length z,U d]] w _;simp only[] at m A;have s:=Z m;clear m;generalize hn:g.length=n at*
 by_cases T:120<n
 ·have V:(120:Int)<(n:Int):=by omega
  go_enter func143,ntmps143;go_wp2;go_ret;exact⟨by rw[R.o 2 T rfl];rfl,C _⟩
 by_cases D:cA d=false
 ·go_enter func143,ntmps143;go_wp2_with (first|(go_at_call 177;refine(jR _ _).mono ?_;rintro e E ⟨rfl,rfl⟩));go_ret;exact⟨by rw[aj,iO (by show ¬120<g.length;omega),iO (by show ¬cA d=true;simp[D])];rfl,C _⟩
 have F:cA d=true:=by simpa using D
 have K:=Z (by rw[aj,iO (by show ¬120<g.length;omega),Io F]:aj (g,d)=eE g);clear D;go_enter func143,ntmps143;go_wp2_with (first|(go_at_call 177;refine(jR _ _).mono ?_;rintro e E ⟨rfl,rfl⟩));go_loopw [17] (λi wr=>∃k:Nat,k<=n/\i=U k/\Hid (eE g=eE (g.drop k))/\bL w wr) (λi _=>n-(intOf i).toNat)
 case atStart=>exact⟨0,by omega,rfl,rfl,C _⟩
 case round=>
  obtain⟨k,hk,rfl,H,j⟩:=hrel;have i0:(0:Int)<=(k:Int):=by omega
  by_cases W:k<n
  ·have i1:(k:Int)<(n:Int):=by omega
   obtain⟨c,t⟩:∃c,g[k]?=some c:=⟨g[k]'(by omega),by simp⟩;obtain⟨b,o,rfl,G,u⟩:=s.o k c t;have S:=Z (qf g k c t);have⟨L,c0,c1,w0,l⟩:=u.l j P G;obtain⟨v,M,f,rfl,q⟩:∃v M f,L=.slice v M f/\Hid (bG B wr L c.1):=by obtain⟨v,f,N,r⟩:=l;exact⟨v,_,f,N,v,f,N,r⟩
   have X:=j.size;clear l u;go_wp2_with (first|(go_at_call 178;refine(xF B _ c _ (q.o.l ((Kf wr.1.size _).alloc lE _) (by omega)) (by simp;omega)).mono ?_;rintro e E ⟨rfl,I⟩))
   all_goals have y:bL w E:=Below.tO (j.alloc j.size _) I (by simp;have:=j.size;omega)
   ·have J:bH c≠0:=by simpa using (by assumption:(bH c != 0)=true)
    go_ret;exact⟨by rw[K.o,H.o,S.o,iO J];rfl,y⟩
   have Y:bH c=0:=by simpa using (by assumption:(bH c != 0)=false)
   exact⟨⟨k+1,by omega,by go_num,by unfold Hid;rw[H.o,S.o,Io Y],y⟩,by simp[intOf];omega⟩
  go_wp2;go_ret;exact⟨by rw[K.o,H.o,KJ (by omega)];rfl,j⟩
theorem Hl(f o v)(w:World)(T):(w.alloc (.cells #[U f,U o,U v] T)).cell? (pA w.1.size 0)=some (U f)/\(w.alloc (.cells #[U f,U o,U v] T)).cell? (pA w.1.size 1)=some (U o)/\(w.alloc (.cells #[U f,U o,U v] T)).cell? (pA w.1.size 2)=some (U v):=by refine⟨?_,?_,?_⟩<;>simp[go_sem]
theorem fW(B pv p w)(hp:aX B w pv p)(hB:B<=w.1.size):
  cL 89 #[pv] w (rT w (U (aj p))):=by
 obtain⟨r,d⟩:=p;obtain⟨rv,rfl,_,a,a5,rfl,a6,bk,C⟩:=hp;have hb:∀x,bL w (w.alloc x):=λx=>bR.alloc lE _
 have HR:Hid (∀n,120<r.length->n=2->aj (r,d)=n):=by intro n h e;subst e;simp[aj,h]
 show cL 89 #[.agg #[.slice a r.length a5,U d]] w _;simp only[] at C a6;have J:=Z C;clear C;generalize hn:r.length=n at*
 by_cases h0:120<n
 ·have bp:(120:Int)<(n:Int):=by omega
  go_enter func89,ntmps89;go_wp2;go_ret;exact⟨by rw[HR.o 2 h0 rfl];rfl,hb _⟩
 by_cases y:cA d=false
 ·unfold cA at y;go_enter func89,ntmps89;go_wp2_with (first|(go_at_call 34;refine(lp _ _ _ _).mono ?_;rintro e E ⟨rfl,rfl⟩));go_ret;exact⟨by rw[aj,iO (by show ¬120<r.length;omega),iO (by show ¬cA d=true;rw[cA,y];decide)];rfl,hb _⟩
 have K:cA d=true:=by simpa using y
 have F:=Z (by rw[aj,iO (by show ¬120<r.length;omega),Io K]:aj (r,d)=eE r);clear y;unfold cA at K;go_enter func89,ntmps89;go_wp2_with (first|(go_at_call 34;refine(lp _ _ _ _).mono ?_;rintro e E ⟨rfl,rfl⟩));go_loopw [18] (λi wr=>∃k:Nat,k<=n/\i=U k/\Hid (eE r=eE (r.drop k))/\bL w wr) (λi _=>n-(intOf i).toNat)
 case atStart=>exact⟨0,by omega,rfl,rfl,hb _⟩
 case round=>
  obtain⟨k,hk,rfl,H,g⟩:=hrel;have⟨wo,a8⟩:=nM (wr);subst a8;have i0:(0:Int)<=(k:Int):=by omega
  by_cases bq:k<n
  ·have i1:(k:Int)<(n:Int):=by omega
   obtain⟨c,L⟩:∃c,r[k]?=some c:=⟨r[k]'(by omega),by simp⟩;obtain⟨b,o,rfl,a9,M⟩:=J.o k c L;have S:=Z (qf r k c L);have⟨cv,c0,c1,w0,N⟩:=M.l g hB a9;obtain⟨q,G⟩:=c;obtain⟨a2,b6,rfl,O,b7,D⟩:=N;simp only[] at D O c0 c1;have P:=Z D;clear D M;generalize hm:q.length=m at*;have Q:=g.size;have z:∀x,bL w (wo.alloc x):=λx=>g.alloc g.size _
   by_cases q0:10<m
   ·have bs:(10:Int)<(m:Int):=by omega
    have he:bH (q,G)=2:=by rw[bH,Io (by show 10<q.length;omega)]
    have A:=Z he;clear he;go_wp2;go_ret;exact⟨by rw[F.o,H.o,S.o,A.o];rfl,z _⟩
   by_cases qv:cA G=false
   ·have A:=Z (by rw[bH,iO (by show ¬10<q.length;omega),iO (by show ¬cA G=true;simp[qv])]:bH (q,G)=3);unfold cA at qv;go_wp2_with (first|(go_at_call 34;refine(lp _ _ _ _).mono ?_;rintro e E ⟨rfl,rfl⟩));go_ret;exact⟨by rw[F.o,H.o,S.o,A.o];rfl,z _⟩
   have R:cA G=true:=by simpa using qv
   have A:=Z (by rw[bH,iO (by show ¬10<q.length;omega),Io R]:bH (q,G)=eW q);clear qv;unfold cA at R;go_wp2_with (first|(go_at_call 34;refine(lp _ _ _ _).mono ?_;rintro e E ⟨rfl,rfl⟩));go_loopw [35] (λi t=>∃j:Nat,j<=m/\i=U j/\Hid (eW q=eW (q.drop j))/\bL wo t) (λi _=>m-(intOf i).toNat)
   case atStart=>exact⟨0,by omega,rfl,rfl,bR.alloc lE _⟩
   case round=>
    obtain⟨j,hj,rfl,T,s⟩:=hrel;have⟨t,ad⟩:=nM (wr);subst ad;have j0:(0:Int)<=(j:Int):=by omega
    have V:=s.size
    by_cases b9:j<m
    ·have j1:(j:Int)<(m:Int):=by omega
     obtain⟨c,X⟩:∃c,q[j]?=some c:=⟨q[j]'(by omega),by simp⟩;obtain⟨b2,o2,rfl,ba,Y⟩:=P.o j c X;have S2:=Z (ql q j c X);obtain⟨f,l,v⟩:=c;obtain⟨e0,e1,e2,w0,w1,w2⟩:=Y.l s (by omega);simp only[] at e0 e1 e2 w0 w1 w2;have u:∀x,bL w (t.alloc x):=λx=>(Below.tO g s Q).alloc (by omega) _
     by_cases I:f<0\/5<=f
     ·have Hc:=Z (by rw[bS,Io I]:bS (f,l,v)=5);have af:(decide (0<=f)&&decide (f<=4))=false:=by simp;omega
      clear I;go_wp2_with (first|(go_at_call 34;refine(lp _ _ _ _).mono ?_;rintro e E ⟨rfl,rfl⟩));go_ret;exact⟨by rw[F.o,H.o,S.o,A.o,T.o,S2.o,Hc.o];rfl,u _⟩
     have af:(decide (0<=f)&&decide (f<=4))=true:=by simp;omega
     by_cases o0:l<1\/4<l
     ·have Hc:=Z (by rw[bS,iO I,Io o0]:bS (f,l,v)=4);have ak:(decide (1<=l)&&decide (l<=4))=false:=by simp;omega
      clear I o0;go_wp2_with (first|(go_at_call 34;refine(lp _ _ _ _).mono ?_;rintro e E ⟨rfl,rfl⟩));go_ret;exact⟨by rw[F.o,H.o,S.o,A.o,T.o,S2.o,Hc.o];rfl,u _⟩
     have ak:(decide (1<=l)&&decide (l<=4))=true:=by simp;omega
     have Hf:=Z I;have Ho:=Z o0;clear I o0;go_wp2_with (first|(go_at_call 34;refine(lp _ _ _ _).mono ?_;rintro e E ⟨rfl,rfl⟩));have hC:=Hl f l v t 134;have hz:t.1.size<(t.alloc (.cells #[U f,U l,U v] 134)).1.size:=by simp
     have ao:=u (.cells #[U f,U l,U v] 134);have av:=s.alloc V (.cells #[U f,U l,U v] 134);generalize t.alloc (.cells #[U f,U l,U v] 134)=W at*;have b0:=ax.ne W;have c0:∀x:ax W,x.1.cell? (pW t 0)=some (U f):=λx=>x.cell hC.1 hz
     have c2:∀x:ax W,x.1.cell? (pW t 2)=some (U v):=λx=>x.cell hC.2.2 hz
     clear hC;have b1:=w0;refine aW (by kernel_rfl) (by kernel_rfl) ?_;repeat(go_big_quiet_step (first|(go_at_call 38;exact Calls.l (rq _ b1 _))|(go_at_call 34;exact Calls.later_same (lp _ _ _ _))))
     refine Km ?_;rintro wx ⟨⟨_,hx⟩,rfl⟩;have b4:=ao.th hx;have a0:=av.th hx;clear c0 c2 b0 hx u;go_wp2
     ·have y:v<0\/aO f<v:=by
       have h:(!decide (0<=v))=true\/(!decide (v<=aO f))=true:=by assumption
       simp at h;omega
      go_ret;exact⟨by rw[F.o,H.o,S.o,A.o,T.o,S2.o,(by rw[bS,iO Hf.o,iO Ho.o,Io y]:bS (f,l,v)=3)];rfl,b4⟩
     have y:¬(v<0\/aO f<v):=by
      have h:(!decide (0<=v))=false/\(!decide (v<=aO f))=false:=by assumption
      simp at h;omega
     exact⟨⟨j+1,by omega,by go_num,by unfold Hid;rw[T.o,S2.o,(by rw[bS,iO Hf.o,iO Ho.o,iO y]:bS (f,l,v)=0)];rfl,a0⟩,by simp[intOf];omega⟩
    go_wp2;exact⟨⟨k+1,by omega,by go_num,by unfold Hid;rw[H.o,S.o,A.o,T.o,KJ (by omega:q.length<=j)];rfl,Below.tO g s Q⟩,by simp[intOf];omega⟩
  go_wp2;go_ret;exact⟨by rw[F.o,H.o,KJ (by omega)];rfl,g⟩
theorem jL{P:Program}{t:TypeId}{z:Value}{a b:Nat}(h:(P.info? t).map (λi=>(i.zero,i.size,i.bytes))=some (some z,a,b)):∃i,P.info? t=some i/\i.zero=some z/\i.size=a/\i.bytes=b:=by
 cases hi:P.info? t with
 |none=>rw[hi] at h;simp at h
 |some i=>rw[hi] at h;simp at h;exact⟨i,rfl,h.1,h.2.1,h.2.2⟩
theorem bT{w w':World}{base:Nat}{e:TypeId}{b:Nat}{v:Value}{n:Nat}{xs:List Value}(h:w.ownsRow base e b v n xs)(j:∀g a,base<=g->w.1[g]?=some (.cells a e (0,0))->w'.1[g]?=w.1[g]?):w'.ownsRow base e b v n xs:=by
 obtain⟨d,k|⟨g,c,a,rfl,f,i,l⟩⟩:=h
 ·exact⟨d,.inl k⟩
 exact⟨d,.inr ⟨g,c,a,rfl,f,(j g a f i).trans i,l⟩⟩
theorem cU{w:World}{base a:Nat}{e:TypeId}{b:Nat}{v:Value}{n:Nat}{xs:List Value}(h:w.ownsRow base e b v n xs)(l:a<=base):w.ownsRow a e b v n xs:=by
 obtain⟨f,i|⟨g,c,d,rfl,m,j,k⟩⟩:=h
 ·exact⟨f,.inl i⟩
 exact⟨f,.inr ⟨g,c,d,rfl,by omega,j,k⟩⟩
theorem aw{w w':World}{base:Nat}{e:TypeId}{a:Nat}{v:Value}{n:Nat}{xs:List Value}(h:w.ownsRow base e a v n xs)(b:bL w w'):w'.ownsRow base e a v n xs:=
 bT h λg c _ d=>b.block g (KK.1 d).1
theorem lY{w:World}{base:Nat}{e:TypeId}{b:Nat}{v:Value}{n:Nat}{xs:List Value}(h:w.ownsRow base e b v n xs)(i:0<n):∃g a,v=.slice (sO g) n a/\base<=g:=by
 obtain⟨_,⟨_,j⟩|⟨g,a,c,d,f,_⟩⟩:=h
 ·omega
 exact⟨g,a,d,f⟩
theorem eh{w:World}{base:Nat}{e:TypeId}{a:Nat}{v:Value}{n:Nat}{xs:List Value}(h:w.ownsRow base e a v n xs):∀k,v.ownBlock=some k->base<=k:=by
 intro k b;obtain⟨_,⟨c,_⟩|⟨g,d,f,rfl,i,_⟩⟩:=h
 ·rw[c] at b;cases b
 simp[Value.ownBlock] at b;omega
theorem cX{w:World}{base:Nat}{e:TypeId}{b:Nat}{v:Value}{n:Nat}{xs:List Value}(h:w.ownsRow base e b v n xs):∀k,v.ownBlock=some k->∃a,w.1[k]?=some (.cells a e (0,0)):=by
 intro k c;obtain⟨_,⟨d,_⟩|⟨g,f,a,rfl,j,i,_⟩⟩:=h
 ·rw[d] at c;cases c
 simp[Value.ownBlock] at c;subst c;exact⟨a,i⟩
theorem aK{w:World}{base:Nat}{e:TypeId}{a:Nat}{g n cap:Nat}{xs:List Value}(h:w.ownsRow base e a (.slice (sO g) n cap) n xs)(q:Nat)(v:Value)(b:xs[q]?=some v):w.cell? ⟨g,q,none⟩=some v:=by
 obtain⟨m,⟨d,_⟩|⟨o,c,f,i,_,j,_,_,_,k⟩⟩:=h
 ·cases d
 cases i;have l:q<xs.length:=(K9.1 b).1;rw[<-k,List.getElem?_take_of_lt (by omega)] at b;simp only[World.cell?,j]
 simpa using b
theorem an{w:World}{base:Nat}{e:TypeId}{c:Nat}{v:Value}{n:Nat}{xs:List Value}(h:w.ownsRow base e c v n xs):∃a b,v=.slice a n b/\n<=b/\b<=maxLen/\(0<n->∃g,a=some (pA g 0)/\base<=g/\g<w.1.size):=by
 obtain⟨q,⟨i,f⟩|⟨j,d,k,f,l,m,o,p,_⟩⟩:=h
 ·subst f;exact⟨none,0,i,Ke _,Ks _,λh=>by omega⟩
 exact⟨_,d,f,o,p,λ_=>⟨j,rfl,l,io m⟩⟩
theorem ye{w:World}{base:Nat}{e:TypeId}{b n:Nat}{v:Value}{xs:List Value}(h:w.ownsRow base e b v n xs):∃a n d,v=.slice a n d:=by
 rcases h.2 with ⟨h,_⟩|⟨g,c,f,h,_⟩
 ·exact⟨_,_,_,h⟩
 exact⟨_,_,_,h⟩
section
section
variable {P:Program} {ops:Array Oper} {md:Region.Mode} {D:World->Prop} {C:Nat->World->Prop} {ks:Nat->Bool}
def tw(P:Program)(o:Oper)(a:Act)(w:World)(v:Value):Prop:=(execOp a.eval o).run P w=.ok (.value v) w\/((execOp a.eval o).run P w=.ok .skip w/\v=undef)
def D5(P:Program)(o:Oper)(a:Act)(c:World->Prop)(w:World)(v:Value):Prop:=∃b,c b/\((execOp a.eval o).run P w=.ok (.value v) b\/((execOp a.eval o).run P w=.ok .skip b/\v=undef))
def YR(P:Program)(ops:Array Oper)(D:World->Prop)(o:Oper)(v:Value)(a:Act):Prop:=
 (Region.wanted o (yielded ops a.tmps)=true/\∀w,D w->tw P o a w v)\/(Region.wanted o (yielded ops a.tmps)=false/\v=undef)
def YW(P:Program)(ops:Array Oper)(C:Nat->World->Prop)(s:Nat)(o:Oper)(v:Value)(a:Act):Prop:=
 Region.wanted o (yielded ops a.tmps)=true/\∀w,C s w->D5 P o a (C (s+1)) w v
theorem YR.of_same{o v}{a b:Act}(c:YR P ops D o v a)(d:execOp b.eval o=execOp a.eval o)(e:Region.wanted o (yielded ops b.tmps)=Region.wanted o (yielded ops a.tmps)):YR P ops D o v b:=by unfold YR tw at*;rw[d,e];exact c
theorem YW.of_same{s o v}{a b:Act}(c:YW P ops C s o v a)(d:execOp b.eval o=execOp a.eval o)(e:Region.wanted o (yielded ops b.tmps)=Region.wanted o (yielded ops a.tmps)):YW P ops C s o v b:=by unfold YW D5 at*;rw[d,e];exact c
def IT(P:Program)(ops:Array Oper)(D:World->Prop)(C:Nat->World->Prop)(ks:Nat->Bool)(i:Nat)(K:Nat->Act->Prop)(s:Nat)(a:Act):Prop:=
 match ops[i]? with
 |none=>K s a
 |some o=>if ks i then ∃v,YW P ops C s o v a/\K (s+1) (a.put o.dst v) else ∃v,YR P ops D o v a/\K s (a.put o.dst v)
def qX(P:Program)(md:Region.Mode)(ops:Array Oper)(D:World->Prop)(C:Nat->World->Prop)(ks:Nat->Bool)(n:Nat)(B:Nat->Act->Prop):Nat->Array Bool->Nat->Act->Prop
 |0,b,s,a=>Region.ready md ops b=[n]/\Region.ready md ops (b.setIfInBounds n true)=[]/\B s a
 |c+1,b,s,a=>Region.ready md ops b≠[]/\∀i∈Region.ready md ops b,IT P ops D C ks i (qX P md ops D C ks n B c (b.setIfInBounds i true)) s a
theorem o7{o a v w}{K:Act->World->Prop}{Q:Exit->Act->World->Prop}(h:tw P o a w v)(b:K (a.put o.dst v) w):o.wp P a w K Q:=by
 unfold Oper.wp
 rcases h with h|⟨h,rfl⟩
 ·rw[h];exact b
 rw[h];exact b
theorem A3{o a v}{c:World->Prop}{w}{K:Act->World->Prop}{Q:Exit->Act->World->Prop}(h:D5 P o a c w v)(d:∀b,c b->K (a.put o.dst v) b):o.wp P a w K Q:=by
 unfold Oper.wp;obtain⟨b,e,h|⟨h,rfl⟩⟩:=h
 ·rw[h];exact d _ e
 rw[h];exact d _ e
theorem lj{n:Nat}{B:Nat->Act->Prop}{Q:Exit->Act->World->Prop}(d:∀s w,C s w->D w)
  (k:∀s a w,C s w->B s a->wpOp P ops Q n (λz u=>Q .normal z u) a w):
  ∀ (c:Nat) (b:Array Bool) (s:Nat) (a:Act) (w:World),C s w->qX P md ops D C ks n B c b s a->wpAny P md ops Q (c+1) b a w
 |0,b,s,a,w,f,h=>by
  obtain⟨p,l,e⟩:=h;refine⟨λq=>(by rw[p] at q;cases q),λi r=>?_⟩;rw[p,KO] at r;subst r;have:=k s a w f e
  unfold wpOp at this |-
  split at this
  ·rename_i g;simp only[g];exact⟨l,this⟩
  rename_i o g;simp only[g]
  split
  ·rename_i j;simp only[j,Lr] at this;exact this.imp (MS λz u A=>⟨l,A⟩) (λh=>h)
  rename_i j;simp only[j] at this;exact⟨l,this⟩
 |c+1,b,s,a,w,f,h=>by
  obtain⟨p,l⟩:=h;refine⟨λq=>absurd q p,λi r=>?_⟩;have e:=l i r;unfold IT at e;unfold wpOp
  split
  ·rename_i g;simp only[g] at e;exact lj d k c _ _ _ _ f e
  rename_i o g;simp only[g] at e
  split at e
  ·obtain⟨v,⟨m,x⟩,t⟩:=e;simp only[m,Lr];exact .inl (A3 (x w f) λu E=>lj d k c _ _ _ _ E t)
  obtain⟨v,y,t⟩:=e
  rcases y with ⟨m,x⟩|⟨m,rfl⟩
  ·simp only[m,Lr];exact .inl (o7 (x w (d s w f)) (lj d k c _ _ _ _ f t))
  simp only[m,Bool.false_eq_true,if_false];exact lj d k c _ _ _ _ f t
def dZ(md:Region.Mode)(a:Oper)(i:Nat):Prop:=∃e∈a.after,Region.binds md e=true/\e.on=i
theorem bX{a:Array Bool}{i j:Nat}{h:Oper}(f:ops[j]?=some h)(l:dZ md h i)(m:i∈Region.ready md ops a)(n:j∈Region.ready md ops a):False:=by
 obtain⟨e,o,p,rfl⟩:=l;have⟨_,q,b,c⟩:=Mq.1 n;rw[f] at b
 cases b;have d:=c e o p;have k:=(Mq.1 m).1
 rcases MU e.on a.size with g|g
 ·simp[g] at k d;rw[k] at d;cases d
 simp[LZ g] at d
variable {n:Nat} {B:Nat->Act->Prop} {on:Oper}
theorem AO(hn:ops[n]?=some on){i:Nat}{m:Oper}{v}(M:ops[i]?=some m)(q:ks i=false)(N:dZ md on i)(w:∀ (j:Nat) (o:Oper) F b,ops[j]?=some o->o.op≠.select F b):
  ∀ (f:Nat) (c:Array Bool) (s:Nat) (a:Act),
   (∀j l,ops[j]?=some l->j≠i->c.getD j true=false->(∀e∈l.after,Region.binds md e=true->e.on≠i)->m.apart ops l=true)->
   i∈Region.ready md ops c->YR P ops D m v a->
   qX P md ops D C ks n B f (c.setIfInBounds i true) s (a.put m.dst v)->qX P md ops D C ks n B (f+1) c s a:=by
 intro f
 induction f with
 |zero=>
  intro c s a _ r L H;refine⟨λh=>(by rw[h] at r;cases r),λj A=>?_⟩
  by_cases d:j=i
  ·subst d;unfold IT;simp only[M,q];exact⟨v,L,H⟩
  have:=ready_mono A d;rw[H.1,KO] at this;subst this;exact(bX hn N r A).elim
 |succ f S=>
  intro c s a p r L H;refine⟨λh=>(by rw[h] at r;cases r),λj A=>?_⟩
  by_cases d:j=i
  ·subst d;unfold IT;simp only[M,q];exact⟨v,L,H⟩
  have E:=H.2 j (ready_mono A d);have⟨x,l,t,T⟩:=Mq.1 A;have G:∀e∈l.after,Region.binds md e=true->e.on≠i:=λe he hb O=>bX t ⟨e,he,hb,O⟩ r A
  have⟨V,W,X⟩:=Mo (p j l t d x G)
  have g:∀k ok,ops[k]?=some ok->k≠i->(c.setIfInBounds j true).getD k true=false->
    (∀e∈ok.after,Region.binds md e=true->e.on≠i)->m.apart ops ok=true:=λk ok I q J Q=>by
   refine p k ok I q ?_ Q
   by_cases K:j=k
   ·subst K;exact x
   rw[Mh true K] at J;exact J
  have z:∀u,YR P ops D m v (a.put l.dst u):=λu=>L.of_same (M6 m (λF b=>w i m F b M) a l.dst u X) (M5 m a l.dst u X)
  have Y:=M6 l (λF b=>w j l F b t) a m.dst v V;have e2:=M5 l a m.dst v V
  unfold IT at E |-
  simp only[t] at E |-
  split
  ·rename_i I;simp only[I,Lr] at E;obtain⟨u,y,R⟩:=E;refine⟨u,y.of_same Y.symm e2.symm,S (c.setIfInBounds j true) (s+1) _ g (ready_mono r (LQ d)) (z u) ?_⟩;rw[KW _ _ d,<-LR a v u W];exact R
  rename_i I;simp only[I] at E;obtain⟨u,y,R⟩:=E;refine⟨u,y.of_same Y.symm e2.symm,S (c.setIfInBounds j true) s _ g (ready_mono r (LQ d)) (z u) ?_⟩;rw[KW _ _ d,<-LR a v u W];exact R
theorem zE(X:ops[n]?=some on){i:Nat}{t:Oper}{v}(M:ops[i]?=some t)(l:ks i=true)(N:dZ md on i)(x:∀ (j:Nat) (o:Oper) E b,ops[j]?=some o->o.op≠.select E b):
  ∀ (f:Nat) (c:Array Bool) (s:Nat) (a:Act),
   (∀j g,ops[j]?=some g->j≠i->c.getD j true=false->(∀e∈g.after,Region.binds md e=true->e.on≠i)->t.apart ops g=true)->
   (∀j g,ops[j]?=some g->j≠i->c.getD j true=false->ks j=true->dZ md g i)->
   i∈Region.ready md ops c->YW P ops C s t v a->
   qX P md ops D C ks n B f (c.setIfInBounds i true) (s+1) (a.put t.dst v)->qX P md ops D C ks n B (f+1) c s a:=by
 intro f
 induction f with
 |zero=>
  intro c s a _ _ w K H;refine⟨λh=>(by rw[h] at w;cases w),λj z=>?_⟩
  by_cases d:j=i
  ·subst d;unfold IT;simp only[M,l,Lr];exact⟨v,K,H⟩
  have:=ready_mono z d;rw[H.1,KO] at this;subst this;exact(bX X N w z).elim
 |succ f Y=>
  intro c s a q F w K H;refine⟨λh=>(by rw[h] at w;cases w),λj z=>?_⟩
  by_cases d:j=i
  ·subst d;unfold IT;simp only[M,l,Lr];exact⟨v,K,H⟩
  have L:=H.2 j (ready_mono z d);have⟨r,g,m,S⟩:=Mq.1 z;have G:∀e∈g.after,Region.binds md e=true->e.on≠i:=λe he hb O=>bX m ⟨e,he,hb,O⟩ w z
  have⟨T,a2,V⟩:=Mo (q j g m d r G)
  have W:∀k,(c.setIfInBounds j true).getD k true=false->c.getD k true=false:=λk p=>by
   by_cases I:j=k
   ·subst I;exact r
   rw[Mh true I] at p;exact p
  have J:∀u,YW P ops C s t v (a.put g.dst u):=λu=>K.of_same (M6 t (λE b=>x i t E b M) a g.dst u V) (M5 t a g.dst u V)
  have e1:=M6 g (λE b=>x j g E b m) a t.dst v T;have e2:=M5 g a t.dst v T
  unfold IT at L |-
  simp only[m] at L |-
  split
  ·rename_i A;exact(bX m (F j g m d r A) w z).elim
  rename_i A;simp only[A] at L;obtain⟨u,y,hK⟩:=L;refine⟨u,y.of_same e1.symm e2.symm,Y (c.setIfInBounds j true) s _ (λk ok A l p Q=>q k ok A l (W k p) Q) (λk ok A l p R=>F k ok A l (W k p) R) (ready_mono w (LQ d)) (J u) ?_⟩;rw[KW _ _ d,<-LR a v u a2];exact hK
def F3(P:Program)(ops:Array Oper)(D:World->Prop)(C:Nat->World->Prop)(ks:Nat->Bool)(B:Nat->Act->Prop):List Oper->Nat->Nat->Act->Prop
 |[],_,s,a=>B s a
 |o :: l,k,s,a=>if ks k then ∃v,YW P ops C s o v a/\F3 P ops D C ks B l (k+1) (s+1) (a.put o.dst v) else ∃v,YR P ops D o v a/\F3 P ops D C ks B l (k+1) s (a.put o.dst v)
def Aj(md:Region.Mode)(a:Oper)(i:Nat):Bool:=a.after.any λe=>Region.binds md e&&e.on==i
theorem au{oj}{i:Nat}(h:Aj md oj i=true):dZ md oj i:=by unfold Aj at h;rw[Array.any_eq_true'] at h;obtain⟨e,a,h⟩:=h;simp only[KU,MN] at h;exact⟨e,a,h.1,h.2⟩
def wZ(md:Region.Mode)(ops:Array Oper)(ks:Nat->Bool)(a:Array Bool)(k:Nat):Bool:=
 (List.range ops.size).all λj=>j==k||a.getD j true||!ks j||(match ops[j]? with | some oj=>Aj md oj k | none=>true)
theorem xP{listed}{k:Nat}(h:wZ md ops ks listed k=true):∀j b,ops[j]?=some b->j≠k->listed.getD j true=false->ks j=true->dZ md b k:=by intro j b a c d e;unfold wZ at h;rw[MB] at h;have f:j<ops.size:=(KK.1 a).1;have:=h j (List.mem_range.2 f);simp[c,d,e,a] at this;exact au this
def vV(md:Region.Mode)(ops:Array Oper)(ks:Nat->Bool):Nat->Nat->Array Bool->Bool
 |0,k,a=>Region.ready md ops a==[k]&&(Region.ready md ops (a.setIfInBounds k true)).isEmpty
 | b+1,k,a=>(Region.ready md ops a).contains k&&Region.free md ops a k&&(!ks k||wZ md ops ks a k)&&(match ops[ops.size-1]? with | some on=>Aj md on k | none=>false)&&vV md ops ks b (k+1) (a.setIfInBounds k true)
theorem qL(g:ops[n]?=some on)(e:n=ops.size-1)(t:Region.noSelect ops=true):∀ (l:List Oper) (k:Nat) (b:Array Bool) (s:Nat) (a:Act),(∀j,j<l.length->l[j]?=ops[k+j]?)->k+l.length=n->
  vV md ops ks l.length k b=true->F3 P ops D C ks B l k s a->qX P md ops D C ks n B l.length b s a
 |[],k,b,s,a,_,i,f,h=>by simp only[Lf,vV,KU,MN,List.isEmpty_iff] at f;simp at i;subst i;exact⟨f.1,f.2,h⟩
 |o :: l,k,b,s,a,y,i,f,h=>by
  have u:ops[k]?=some o:=by simpa using (y 0 (by simp)).symm
  simp only[Kv,vV,KU] at f;obtain⟨⟨⟨⟨z,A⟩,m⟩,c⟩,p⟩:=f;rw[<-e,g] at c;have q:=au c;have r:∀j,j<l.length->l[j]?=ops[k+1+j]?:=λj E=>by have:=y (j+1) (by simp;omega);simpa [KX,Mk 1 j] using this
  unfold F3 at h
  split at h
  ·rename_i d;obtain⟨v,w,x⟩:=h;simp only[d,Bool.not_true,Bool.false_or] at m
   exact zE g u d q (Ly t) l.length b s a (M0 u A) (xP m) (by simpa using z) w
    (qL g e t l (k+1) _ _ _ r (by simp at i;omega) p x)
  rename_i d;obtain⟨v,w,x⟩:=h
  exact AO g u (by simpa using d) q (Ly t) l.length b s a (M0 u A) (by simpa using z) w
   (qL g e t l (k+1) _ _ _ r (by simp at i;omega) p x)
def lL(ops:Array Oper)(ks:Nat->Bool):Bool:=Region.noSelect ops&&vV .any ops ks (ops.size-1) 0 (Array.replicate ops.size false)
theorem tl{id:Nat}{Q:Exit->Act->World->Prop}{a}{w:World}(l:List Oper)(b:Oper)(ks:Nat->Bool)(C:Nat->World->Prop)(D:World->Prop)(m:P.follows .mixedOrders=true)(e:lL (l++[b]).toArray ks=true)
  (f:∀s w,C s w->D w) (o:C 0 w.drew)
  (h:F3 P (l++[b]).toArray D C ks (λs i=>∀g,C s g->wpList P (l++[b]).toArray Q [b] i g) l 0 0 a):(Code.region id (l++[b]).toArray true).wp P Q a w:=by
 simp only[lL,KU] at e;have d:(l++[b]).toArray.size-1=l.length:=by simp
 have k:(l++[b]).toArray[l.length]?=some b:=by simp
 rw[d] at e;have p:=qL (n:=l.length) (md:=.any) k d.symm e.1 l 0 (Array.replicate (l++[b]).toArray.size false) 0 a (λj q=>by simp[Kh q]) (by simp) e.2 h;refine wp_region_any m ?_;have r:=lj (Q:=Q) f (λs a w t u=>?_) l.length _ 0 a { w with drawn:=w.drawn+1 } o p
 ·simpa using r
 have:=u w t;unfold wpList at this;unfold wpOp;rw[k];simp only[]
 split at this
 ·rename_i c;simp only[c,Lr];exact this.imp (MS λi g v=>by simpa [wpList] using v) (λh=>h)
 rename_i c;simp only[c];simpa [wpList] using this
theorem oQ{id:Nat}{Q:Exit->Act->World->Prop}{a}{w:World}{b:List Oper}(l:List Oper)(c:Oper)(f:b=l++[c])(ks:Nat->Bool)(C:Nat->World->Prop)(D:World->Prop)(g:P.follows .mixedOrders=true)(i:lL b.toArray ks=true)
  (d:∀s w,C s w->D w) (j:C 0 w.drew)
  (h:F3 P b.toArray D C ks (λs k=>∀e,C s e->wpList P b.toArray Q [c] k e) l 0 0 a):(Code.region id b.toArray true).wp P Q a w:=by
 subst f;exact tl l c ks C D g i d j h
def uW(o:Oper):Bool:=match o.op with
 |.move _|.assign _|.pick _ _ _|.load _ _|.fieldAddr _ _ _|.field _ _ _|.indexAddr _ _ _|.index _ _ _|.lookup _ _ _ _|.binOp _ _ _ _ _|.unOp _ _ _|.build _ _|.extract _ _|.slice _ _ _ _ _|.convert _ _ _=>true
 |_=>false
theorem ol{o:Oper}{a:Act}{w:World}{v:Value}(e:uW o=true)(h:o.quietAt P a D w v):tw P o a w v:=by
 unfold Oper.quietAt at h;unfold tw
 generalize b:(execOp a.eval o).run P w=r at h |-
 cases r with
 |halt x i=>simp only[Oper.quietUpon] at h
 |ok j i=>
  cases j<;>simp only[Oper.quietUpon] at h
  case value u=>obtain⟨rfl,rfl⟩:=h;exact .inl rfl
  case skip=>obtain⟨rfl,rfl⟩:=h;exact .inr ⟨rfl,rfl⟩
  case enter f c=>
   exfalso
   have g:∀ (s:Sem Value),((do pure (Next.value (<-s))):Sem Next).run P w≠.ok (.enter f c) i:=by
    intro s d;rw[Lj] at d
    cases hs:s.run P w with
    |ok x y=>rw[hs] at d;simp[Result.andThen] at d
    |halt x y=>rw[hs] at d;simp[Result.andThen] at d
   unfold uW at e;unfold execOp at b
   split at e<;>rename_i k<;>simp only[k] at b
   all_goals first
    |exact g _ b
    |(simp at b;done)
    |(rw[Lj] at b;cases hs:(asBool _).run P w with
      |ok x y=>(rw[hs] at b;simp[Result.andThen] at b)
      |halt x y=>(rw[hs] at b;simp[Result.andThen] at b))
    |cases e
theorem BT{l}{o:Oper}{k s:Nat}{a:Act}(c:ks k=false)(d:uW o=true)(h:wpQuiet P ops D (λe=>F3 P ops D C ks B l (k+1) s e) [o] a):F3 P ops D C ks B (o :: l) k s a:=by
 unfold F3;rw[iO (by rw[c];exact Bool.false_ne_true)];unfold wpQuiet at h
 split at h
 ·rename_i b;obtain⟨v,f,g⟩:=h;exact⟨v,.inl ⟨b,λw i=>ol d (f w i)⟩,g⟩
 rename_i b;exact⟨undef,.inr ⟨by simpa using b,rfl⟩,h⟩
theorem yF{l}{o:Oper}{k s:Nat}{a:Act}(c:ks k=true)(d:Region.wanted o (yielded ops a.tmps)=true)(v:Value)(e:∀w,C s w->∃b,C (s+1) b/\(execOp a.eval o).run P w=.ok (.value v) b)(h:F3 P ops D C ks B l (k+1) (s+1) (a.put o.dst v)):F3 P ops D C ks B (o :: l) k s a:=by unfold F3;rw[Io c];exact⟨v,⟨d,λw f=>let ⟨b,h1,h2⟩:=e w f;⟨b,h1,.inl h2⟩⟩,h⟩
theorem Ik{k s:Nat}{a:Act}(h:B s a):F3 P ops D C ks B [] k s a:=h
end
def pB(a b c:World):Type:={ x:World // x=a\/x=b\/x=c }
theorem pB.ne(W0 W1 W2):Nonempty (pB W0 W1 W2):=⟨⟨W0,.inl rfl⟩⟩
theorem pB.all{a b c:World}{p:World->Prop}(d:p a)(e:p b)(f:p c):∀x:pB a b c,p x.1:=by
 rintro⟨x,rfl|rfl|rfl⟩
 ·exact d
 ·exact e
 exact f
def vL(a b c:World)(s:Nat)(w:World):Prop:=(s=0/\w=a)\/(s=1/\w=b)\/(s=2/\w=c)
theorem Fa{W0 W1 W2}:∀s w,vL W0 W1 W2 s w->∃x:pB W0 W1 W2,w=x.1:=by
 rintro s w (⟨_,h⟩|⟨_,h⟩|⟨_,h⟩)
 ·exact⟨⟨w,.inl h⟩,rfl⟩
 ·exact⟨⟨w,.inr (.inl h)⟩,rfl⟩
 exact⟨⟨w,.inr (.inr h)⟩,rfl⟩
theorem GF{W0 W1 W2 w}(h:vL W0 W1 W2 0 w):w=W0:=by
 rcases h with ⟨_,h⟩|⟨h,_⟩|⟨h,_⟩
 ·exact h
 ·cases h
 cases h
theorem GS{W0 W1 W2 w}(h:vL W0 W1 W2 1 w):w=W1:=by
 rcases h with ⟨h,_⟩|⟨_,h⟩|⟨h,_⟩
 ·cases h
 ·exact h
 cases h
theorem H9{W0 W1 W2 w}(h:vL W0 W1 W2 2 w):w=W2:=by
 rcases h with ⟨h,_⟩|⟨h,_⟩|⟨_,h⟩
 ·cases h
 ·cases h
 exact h
end
def tO(w:World):Prop:=∃a:Int,w.cell? ⟨1,0,none⟩=some (U a)
theorem tO.lt{w}(h:tO w):1<w.1.size:=by obtain⟨a,h⟩:=h;exact KE _ _ h
theorem tO.l{w w'}(h:tO w)(a:bL w w'):tO w':=by have b:=h.lt;obtain⟨c,h⟩:=h;exact⟨c,(a.cell (p:=⟨1,0,none⟩) b).trans h⟩
def B6(g:Nat)(w:World):Prop:=∃a,w.cell? (pA g 0)=some a/\(a=.nilIface\/∃b c,a=.iface b c)
theorem B6.l{g w w'}(h:B6 g w)(b:bL w w'):B6 g w':=by obtain⟨c,a,d⟩:=h;exact⟨c,(b.cell (p:=pA g 0) (KE _ _ a)).trans a,d⟩
theorem jG{P:Program}{w w':World}{a:String}{k:IntKind}{b:List Int}(h:Lib.TabIs P w a k b)(c:bL w w'):Lib.TabIs P w' a k b:=by
 unfold Lib.TabIs World.var? at*
 cases hg:P.globalNamed a with
 |none=>rw[hg] at h;simp at h
 |some g=>
  rw[hg] at h
  simp only[Option.bind_some] at h |-
  cases hh:w.1[g]? with
  |none=>rw[hh] at h;simp at h
  |some o=>
   rw[c.block g (io hh)];exact h
def dD(w:World):Prop:=tO w/\B6 3 w/\B6 4 w/\Lib.TabIs prog w "internal/strconv.uint64pow10" .u64 Lib.pow10Tab
theorem dD.l{w w'}(h:dD w)(a:bL w w'):dD w':=⟨h.1.l a,h.2.1.l a,h.2.2.1.l a,jG h.2.2.2 a⟩
section
section
variable {P:Program} {ops:Array Oper} {md:Region.Mode} {C:World->Prop} {n:Nat} {B:Act->Prop} {on:Oper}
def wO(P:Program)(md:Region.Mode)(ops:Array Oper)(C:World->Prop)(n:Nat)(B:Act->Prop):Nat->Array Bool->Act->Prop
 |0,b,a=>Region.ready md ops b=[n]/\Region.ready md ops (b.setIfInBounds n true)=[]/\B a
 |c+1,b,a=>Region.ready md ops b≠[]/\∀i∈Region.ready md ops b,qOp P ops C i (wO P md ops C n B c (b.setIfInBounds i true)) a
theorem uX{Q:Exit->Act->World->Prop}(q:∀a w,C w->B a->wpOp P ops Q n (λe f=>Q .normal e f) a w):
  ∀ (c:Nat) (b:Array Bool) (a:Act) (w:World),C w->wO P md ops C n B c b a->wpAny P md ops Q (c+1) b a w
 |0,b,a,w,k,h=>by
  obtain⟨r,l,s⟩:=h;refine⟨λg=>(by rw[r] at g;cases g),λi j=>?_⟩;rw[r,KO] at j;subst j;have:=q a w k s
  unfold wpOp at this |-
  split at this
  ·rename_i m;simp only[m];exact⟨l,this⟩
  rename_i o m;simp only[m]
  split
  ·rename_i d;simp only[d,Lr] at this;exact this.imp (MS λe f t=>⟨l,t⟩) (λh=>h)
  rename_i d;simp only[d] at this;exact⟨l,this⟩
 |c+1,b,a,w,k,h=>
  ⟨λg=>absurd g h.1,λi j=>wpOp_of_qOp k (λe f p u=>uX q c _ e f p u) (h.2 i j)⟩
theorem zB(L:ops[n]?=some on){i:Nat}{t:Oper}{v:Value}(D:ops[i]?=some t)(E:dZ md on i)(p:∀ (j:Nat) (o:Oper) w b,ops[j]?=some o->o.op≠.select w b):
  ∀ (d:Nat) (c:Array Bool) (a:Act),
   (∀j s,ops[j]?=some s->j≠i->c.getD j true=false->(∀e∈s.after,Region.binds md e=true->e.on≠i)->t.apart ops s=true)->
   i∈Region.ready md ops c->YieldsIn P ops C t v a->
   wO P md ops C n B d (c.setIfInBounds i true) (a.put t.dst v)->wO P md ops C n B (d+1) c a:=by
 intro d
 induction d with
 |zero=>
  intro c a _ q A H;refine⟨λh=>(by rw[h] at q;cases q),λj u=>?_⟩
  by_cases f:j=i
  ·subst f;exact A.qOp D H
  have:=ready_mono u f;rw[H.1,KO] at this;subst this;exact(bX L E q u).elim
 |succ d M=>
  intro c a g q A H;refine⟨λh=>(by rw[h] at q;cases q),λj u=>?_⟩
  by_cases f:j=i
  ·subst f;exact A.qOp D H
  have N:=H.2 j (ready_mono u f);have⟨r,s,l,J⟩:=Mq.1 u;have x:∀e∈s.after,Region.binds md e=true->e.on≠i:=λe O Q F=>bX l ⟨e,O,Q,F⟩ q u
  have R:=qOp_put l (g j s l f r x) (λw b=>p i t w b D) (λw b=>p j s w b l) A N
  have m:∀k ok,ops[k]?=some ok->k≠i->(c.setIfInBounds j true).getD k true=false->
    (∀e∈ok.after,Region.binds md e=true->e.on≠i)->t.apart ops ok=true:=λk ok S G y I=>by
   refine g k ok S G ?_ I
   by_cases z:j=k
   ·subst z;exact r
   rw[Mh true z] at y;exact y
  refine qOp_mono (λT K=>M (c.setIfInBounds j true) T m (ready_mono q (LQ f)) K.1 ?_) R;rw[KW _ _ f];exact K.2
theorem vJ(i:ops[n]?=some on)(e:n=ops.size-1)(s:Region.noSelect ops=true):∀ (l:List Oper) (k:Nat) (b:Array Bool) (a:Act),(∀j,j<l.length->l[j]?=ops[k+j]?)->k+l.length=n->
  vV md ops (λ_=>false) l.length k b=true->wpQuiet P ops C B l a->wO P md ops C n B l.length b a
 |[],k,b,a,_,f,d,h=>by simp only[Lf,vV,KU,MN,List.isEmpty_iff] at d;simp at f;subst f;exact⟨d.1,d.2,h⟩
 |o :: l,k,b,a,t,f,d,h=>by
  have g:ops[k]?=some o:=by simpa using (t 0 (by simp)).symm
  simp only[Kv,vV,KU] at d;obtain⟨⟨⟨⟨u,w⟩,x⟩,c⟩,m⟩:=d;rw[<-e,i] at c;have p:=au c;have q:∀j,j<l.length->l[j]?=ops[k+1+j]?:=λj A=>by have:=t (j+1) (by simp;omega);simpa [KX,Mk 1 j] using this
  have r:qOp P ops C k (wpQuiet P ops C B l) a:=by unfold qOp;simp only[g];exact h
  have⟨v,y,z⟩:=yieldsIn_of_qOp g r
  exact zB i g p (Ly s) l.length b a (M0 g w) (by simpa using u) y
   (vJ i e s l (k+1) _ _ q (by simp at f;omega) m z)
theorem oJ{id:Nat}{Q:Exit->Act->World->Prop}{a:Act}{w:World}{c:List Oper}(l:List Oper)(b:Oper)(m:c=l++[b])(C:World->Prop)(o:P.follows .mixedOrders=true)(f:lL c.toArray (λ_=>false)=true)(p:C w.drew)
  (h:wpQuiet P c.toArray C (λi=>∀g,C g->wpList P c.toArray Q [b] i g) l a):(Code.region id c.toArray true).wp P Q a w:=by
 subst m;simp only[lL,KU] at f;have e:(l++[b]).toArray.size-1=l.length:=by simp
 have k:(l++[b]).toArray[l.length]?=some b:=by simp
 rw[e] at f;have q:=vJ (n:=l.length) (md:=.any) k e.symm f.1 l 0 (Array.replicate (l++[b]).toArray.size false) a (λj r=>by simp[Kh r]) (by simp) f.2 h;refine wp_region_any o ?_;have s:=uX (Q:=Q) (λa w t u=>?_) l.length _ a { w with drawn:=w.drawn+1 } p q
 ·simpa using s
 have:=u w t;unfold wpList at this;unfold wpOp;rw[k];simp only[]
 split at this
 ·rename_i d;simp only[d,Lr];exact this.imp (MS λi g v=>by simpa [wpList] using v) (λh=>h)
 rename_i d;simp only[d];simpa [wpList] using this
theorem oR{id:Nat}{Q:Exit->Act->World->Prop}{a:Act}{w}{b:List Oper}(l:List Oper)(c:Oper)(e:b=l++[c])(f:P.follows .mixedOrders=true)(g:lL b.toArray (λ_=>false)=true)
  (h:wpQuiet P b.toArray (λd=>∃x:ax w,d=x.1) (λi=>∀d,(∃x:ax w,d=x.1)->wpList P b.toArray Q [c] i d) l a):(Code.region id b.toArray true).wp P Q a w:=
 oJ l c e _ f g ⟨⟨w.drew,bR.drew⟩,rfl⟩ h
end
end
def fJ(y:Nat->Int):Array Value:=#[U (y 0),U (y 1),U (y 2),U (y 3),U (y 4)]
theorem eD{w:World}{b:Nat}{y:Nat->Int}{t}(h:w.1[b]?=some (.cells (fJ y) t (0,0))):rA w b y/\∀j,w.frozen? ⟨b,j,none⟩=false:=by
 refine⟨λj a=>?_,λj=>fZ h _⟩;have:j=0\/j=1\/j=2\/j=3\/j=4:=by omega
 rcases this with rfl|rfl|rfl|rfl|rfl<;>simp[World.cell?,h,fJ]
theorem ap{w:World}{b o:Nat}{cs:Array Value}{u:Value}{t}(h:w.1[b]?=some (.cells cs t (0,0))):(w.setCell ⟨b,o,none⟩ u).1[b]?=some (.cells (cs.setIfInBounds o u) t (0,0)):=by
 have a:=io h;have c:w.1[b]=.cells cs t (0,0):=by simpa [Lo a] using h
 show (w.heap.modify b _)[b]?=_;rw[Lo (by simpa using a),MC,c];rfl
section
section
variable {P:Program} {ops:Array Oper} {md:Region.Mode} {J:(Nat->Value->Prop)->World->Prop} {S:Nat->Value->Prop} {ks:Nat->Bool}
def JK(P:Program)(K:Value->World->Prop):Result Next->Prop
 |.ok (.value v) a=>K v a
 |.ok .skip a=>K undef a
 |.ok (.enter f b) a=>Calls P f b a λe c=>∃v,e=.returned v/\K v c
 |_=>False
theorem za{o:Oper}{a:Act}{w:World}{K:Value->World->Prop}{d:Act->World->Prop}{Q:Exit->Act->World->Prop}(h:JK P K ((execOp a.eval o).run P w))(c:∀v b,K v b->d (a.put o.dst v) b):o.wp P a w d Q:=by
 unfold Oper.wp;generalize (execOp a.eval o).run P w=r at*
 cases r with
 |halt x b=>simp only[JK] at h
 |ok i b=>
  cases i<;>simp only[JK] at h
  case value v=>exact c _ _ h
  case skip=>exact c _ _ h
  case enter f g=>exact h.mono λe j ⟨v,k,l⟩=>by subst k;exact c _ _ l
def d9(a:Nat->Value->Prop)(i:Nat)(v:Value):Nat->Value->Prop:=λm u=>a m u\/(m=i/\u=v)
theorem yN(a:Nat->Value->Prop)(i j)(v u:Value):d9 (d9 a i v) j u=d9 (d9 a j u) i v:=by funext m x;simp only[d9];exact propext ⟨by rintro ((h|h)|h)<;>simp[h],by rintro ((h|h)|h)<;>simp[h]⟩
def FV(J:(Nat->Value->Prop)->World->Prop)(w:World):Prop:=∃a,J a w
def YG(P:Program)(ops:Array Oper)(md:Region.Mode)(J:(Nat->Value->Prop)->World->Prop)(S:Nat->Value->Prop)(o:Oper)(k:Nat)(c:Nat->Value->Prop)(a:Act):Prop:=
 Region.wanted o (yielded ops a.tmps)=true/\∀b w,J b w->(∀m v,c m v->dZ md o m->b m v)->(∀v,¬b k v)->JK P (λv d=>S k v/\J (d9 b k v) d) ((execOp a.eval o).run P w)
theorem YG.of_same{o k}{e b:Nat->Value->Prop}{a d:Act}(f:YG P ops md J S o k e a)(g:execOp d.eval o=execOp a.eval o)(i:Region.wanted o (yielded ops d.tmps)=Region.wanted o (yielded ops a.tmps))(j:∀m v,e m v->dZ md o m->b m v):YG P ops md J S o k b d:=by unfold YG at*;rw[g,i];exact⟨f.1,λl w n h p=>f.2 l w n (λm v q c=>h m v (j m v q c) c) p⟩
def Cs(P:Program)(ops:Array Oper)(md:Region.Mode)(J:(Nat->Value->Prop)->World->Prop)(S:Nat->Value->Prop)(ks:Nat->Bool)(i:Nat)(K:(Nat->Value->Prop)->Act->Prop)(b:Nat->Value->Prop)(a:Act):Prop:=
 match ops[i]? with
 |none=>K b a
 |some o=>if ks i then YG P ops md J S o i b a/\∀v,S i v->K (d9 b i v) (a.put o.dst v) else ∃v,YR P ops (FV J) o v a/\K b (a.put o.dst v)
def qH(P:Program)(md:Region.Mode)(ops:Array Oper)(J:(Nat->Value->Prop)->World->Prop)(S:Nat->Value->Prop)(ks:Nat->Bool)(n:Nat)(B:(Nat->Value->Prop)->Act->Prop):Nat->Array Bool->(Nat->Value->Prop)->Act->Prop
 |0,b,d,a=>Region.ready md ops b=[n]/\Region.ready md ops (b.setIfInBounds n true)=[]/\B d a
 |c+1,b,d,a=>Region.ready md ops b≠[]/\∀i∈Region.ready md ops b,Cs P ops md J S ks i (qH P md ops J S ks n B c (b.setIfInBounds i true)) d a
theorem kW{n:Nat}{B:(Nat->Value->Prop)->Act->Prop}{Q:Exit->Act->World->Prop}
  (s:∀f a w,J f w->B f a->wpOp P ops Q n (λI C=>Q .normal I C) a w):
  ∀ (c:Nat) (b:Array Bool) (f:Nat->Value->Prop) (a:Act) (w:World),J f w->(∀m v,f m v->b.getD m true=true)->qH P md ops J S ks n B c b f a->wpAny P md ops Q (c+1) b a w
 |0,b,f,a,w,k,r,h=>by
  obtain⟨D,t,g⟩:=h;refine⟨λE=>(by rw[D] at E;cases E),λi x=>?_⟩;rw[D,KO] at x;subst x;have:=s f a w k g
  unfold wpOp at this |-
  split at this
  ·rename_i l;simp only[l];exact⟨t,this⟩
  rename_i o l;simp only[l]
  split
  ·rename_i p;simp only[p,Lr] at this;exact this.imp (MS λI C K=>⟨t,K⟩) (λh=>h)
  rename_i p;simp only[p] at this;exact⟨t,this⟩
 |c+1,b,f,a,w,k,r,h=>by
  obtain⟨D,t⟩:=h;refine⟨λE=>absurd E D,λi x=>?_⟩;have g:=t i x;have⟨j,_,_,_⟩:=Mq.1 x
  have e:∀m,b.getD m true=true->(b.setIfInBounds i true).getD m true=true:=λm d=>by
   by_cases z:i=m
   ·subst z;rw[j] at d
    cases d
   rw[Mh true z];exact d
  have q:(b.setIfInBounds i true).getD i true=true:=by
   rcases MU i b.size with G|G
   ·simp[G]
   simp[LZ G]
  unfold Cs at g;unfold wpOp
  split
  ·rename_i l;simp only[l] at g;exact kW s c _ _ _ _ k (λm v d=>e m (r m v d)) g
  rename_i o l;simp only[l] at g
  split at g
  ·obtain⟨⟨A,H⟩,F⟩:=g;simp only[A,Lr];refine .inl (za (H f w k (λm v d _=>d) λv L=>?_) λv C ⟨M,N⟩=>?_)
   ·have:=r i v L;rw[j] at this
    cases this
   refine kW s c _ (d9 f i v) _ C N (λm u d=>?_) (F v M)
   rcases d with d|⟨rfl,rfl⟩
   ·exact e m (r m u d)
   exact q
  obtain⟨v,y,F⟩:=g
  rcases y with ⟨A,H⟩|⟨A,rfl⟩
  ·simp only[A,Lr];exact .inl (o7 (H w ⟨f,k⟩) (kW s c _ _ _ _ k (λm v d=>e m (r m v d)) F))
  simp only[A,Bool.false_eq_true,if_false];exact kW s c _ _ _ _ k (λm v d=>e m (r m v d)) F
theorem YR.one{D:World->Prop}{o v u a}(e:∃w,D w)(h:YR P ops D o v a)(g:YR P ops D o u a):v=u:=by
 obtain⟨w,i⟩:=e
 rcases h with ⟨f,j⟩|⟨f,rfl⟩
 ·rcases g with ⟨c,k⟩|⟨c,_⟩
  ·have d:=j w i;have b:=k w i;unfold tw at d b
   rcases d with d|⟨d,rfl⟩<;>rcases b with b|⟨b,rfl⟩<;>rw[d] at b<;>first|(injection b with e3 _;injection e3)|rfl|(injection b with e3 _;cases e3)
  rw[f] at c;cases c
 rcases g with ⟨c,_⟩|⟨_,rfl⟩
 ·rw[f] at c;cases c
 rfl
variable {n:Nat} {B:(Nat->Value->Prop)->Act->Prop} {on:Oper}
theorem AG(hn:ops[n]?=some on){i:Nat}{p:Oper}{v}(M:ops[i]?=some p)(r:ks i=false)(N:dZ md on i)(w:∀ (j:Nat) (o:Oper) D b,ops[j]?=some o->o.op≠.select D b):
  ∀ (f:Nat) (c:Array Bool) (E:Nat->Value->Prop) (a:Act),
   (∀j l,ops[j]?=some l->j≠i->c.getD j true=false->(∀e∈l.after,Region.binds md e=true->e.on≠i)->p.apart ops l=true)->
   i∈Region.ready md ops c->YR P ops (FV J) p v a->
   qH P md ops J S ks n B f (c.setIfInBounds i true) E (a.put p.dst v)->qH P md ops J S ks n B (f+1) c E a:=by
 intro f
 induction f with
 |zero=>
  intro c E a _ s L H;refine⟨λh=>(by rw[h] at s;cases s),λj A=>?_⟩
  by_cases d:j=i
  ·subst d;unfold Cs;simp only[M,r];exact⟨v,L,H⟩
  have:=ready_mono A d;rw[H.1,KO] at this;subst this;exact(bX hn N s A).elim
 |succ f T=>
  intro c E a q s L H;refine⟨λh=>(by rw[h] at s;cases s),λj A=>?_⟩
  by_cases d:j=i
  ·subst d;unfold Cs;simp only[M,r];exact⟨v,L,H⟩
  have C:=H.2 j (ready_mono A d);have⟨x,l,t,V⟩:=Mq.1 A;have F:∀e∈l.after,Region.binds md e=true->e.on≠i:=λe he hb O=>bX t ⟨e,he,hb,O⟩ s A
  have⟨W,X,Y⟩:=Mo (q j l t d x F)
  have g:∀k ok,ops[k]?=some ok->k≠i->(c.setIfInBounds j true).getD k true=false->
    (∀e∈ok.after,Region.binds md e=true->e.on≠i)->p.apart ops ok=true:=λk ok G r I Q=>by
   refine q k ok G r ?_ Q
   by_cases K:j=k
   ·subst K;exact x
   rw[Mh true K] at I;exact I
  have z:∀u,YR P ops (FV J) p v (a.put l.dst u):=λu=>L.of_same (M6 p (λD b=>w i p D b M) a l.dst u Y) (M5 p a l.dst u Y)
  have e1:=M6 l (λD b=>w j l D b t) a p.dst v W;have e2:=M5 l a p.dst v W
  unfold Cs at C |-
  simp only[t] at C |-
  split
  ·rename_i G;simp only[G,Lr] at C;obtain⟨y,R⟩:=C;refine⟨y.of_same e1.symm e2.symm λm u hm _=>hm,λu hu=>T (c.setIfInBounds j true) _ _ g (ready_mono s (LQ d)) (z u) ?_⟩;rw[KW _ _ d,<-LR a v u X];exact R u hu
  rename_i G;simp only[G] at C;obtain⟨u,y,R⟩:=C;refine⟨u,y.of_same e1.symm e2.symm,T (c.setIfInBounds j true) E _ g (ready_mono s (LQ d)) (z u) ?_⟩;rw[KW _ _ d,<-LR a v u X];exact R
theorem Ae(hS:∀k,∃v,S k v)(Y:∃w,FV J w)(hn:ops[n]?=some on){i:Nat}{l:Oper}(W:ops[i]?=some l)(s:ks i=true)(a0:dZ md on i)(z:∀ (j:Nat) (o:Oper) O b,ops[j]?=some o->o.op≠.select O b):
  ∀ (f:Nat) (c:Array Bool) (F:Nat->Value->Prop) (a:Act),
   (∀j p,ops[j]?=some p->j≠i->c.getD j true=false->(∀e∈p.after,Region.binds md e=true->e.on≠i)->l.apart ops p=true)->
   i∈Region.ready md ops c->YG P ops md J S l i F a->
   (∀v,S i v->qH P md ops J S ks n B f (c.setIfInBounds i true) (d9 F i v) (a.put l.dst v))->qH P md ops J S ks n B (f+1) c F a:=by
 intro f;have⟨G,I⟩:=hS i
 induction f with
 |zero=>
  intro c F a _ r X H;refine⟨λh=>(by rw[h] at r;cases r),λj K=>?_⟩
  by_cases d:j=i
  ·subst d;unfold Cs;simp only[W,s,Lr];exact⟨X,H⟩
  have:=ready_mono K d;rw[(H G I).1,KO] at this;subst this;exact(bX hn a0 r K).elim
 |succ f ih=>
  intro c F a q r X H;refine⟨λh=>(by rw[h] at r;cases r),λj K=>?_⟩
  by_cases d:j=i
  ·subst d;unfold Cs;simp only[W,s,Lr];exact⟨X,H⟩
  have A:=λv Q=>(H v Q).2 j (ready_mono K d)
  have⟨C,p,t,ad⟩:=Mq.1 K;have D:∀e∈p.after,Region.binds md e=true->e.on≠i:=λe he hb L=>bX t ⟨e,he,hb,L⟩ r K
  have a6:¬dZ md p i:=λ⟨e,he,hb,L⟩=>D e he hb L
  have ae:¬dZ md l j:=λh=>bX W h K r
  have⟨a1,a2,a3⟩:=Mo (q j p t d C D)
  have g:∀k ok,ops[k]?=some ok->k≠i->(c.setIfInBounds j true).getD k true=false->
    (∀e∈ok.after,Region.binds md e=true->e.on≠i)->l.apart ops ok=true:=λk ok R s T a7=>by
   refine q k ok R s ?_ a7
   by_cases V:j=k
   ·subst V;exact C
   rw[Mh true V] at T;exact T
  have E:∀u M,(∀m x,F m x->dZ md l m->M m x)->YG P ops md J S l i M (a.put p.dst u):=λu M a8=>X.of_same (M6 l (λO b=>z i l O b W) a p.dst u a3) (M5 l a p.dst u a3) a8
  have e1:=λv=>M6 p (λO b=>z j p O b t) a l.dst v a1
  have e2:=λv=>M5 p a l.dst v a1
  unfold Cs at A |-
  simp only[t] at A |-
  split
  ·rename_i R;simp only[R,Lr] at A;refine⟨(A G I).1.of_same (e1 G).symm (e2 G).symm λm u N hw=>?_,λu hu=>ih (c.setIfInBounds j true) _ _ g (ready_mono r (LQ d)) (E u _ λm x N _=>.inl N) λv Q=>?_⟩
   ·rcases N with N|⟨rfl,rfl⟩
    ·exact N
    exact absurd hw a6
   rw[KW _ _ d,<-LR a v u a2,yN];exact(A v Q).2 u hu
  rename_i R;simp only[R] at A;have⟨u,y,_⟩:=A G I;have y0:=y.of_same (e1 G).symm (e2 G).symm;refine⟨u,y0,ih (c.setIfInBounds j true) F _ g (ready_mono r (LQ d)) (E u _ λm x N _=>N) λv Q=>?_⟩;have⟨u',y',hK⟩:=A v Q;have:=YR.one Y y0 (y'.of_same (e1 v).symm (e2 v).symm);subst this;rw[KW _ _ d,<-LR a v u a2];exact hK
def uU(P:Program)(ops:Array Oper)(md:Region.Mode)(J:(Nat->Value->Prop)->World->Prop)(S:Nat->Value->Prop)(ks:Nat->Bool)(B:(Nat->Value->Prop)->Act->Prop):List Oper->Nat->(Nat->Value->Prop)->Act->Prop
 |[],_,b,a=>B b a
 |o :: l,k,b,a=>if ks k then YG P ops md J S o k b a/\∀v,S k v->uU P ops md J S ks B l (k+1) (d9 b k v) (a.put o.dst v) else ∃v,YR P ops (FV J) o v a/\uU P ops md J S ks B l (k+1) b (a.put o.dst v)
theorem qZ(x:∀k,∃v,S k v)(d:∃w,FV J w)(m:ops[n]?=some on)(e:n=ops.size-1)(t:Region.noSelect ops=true):∀ (l:List Oper) (k:Nat) (b:Array Bool) (g:Nat->Value->Prop) (a:Act),(∀j,j<l.length->l[j]?=ops[k+j]?)->k+l.length=n->
  vV md ops (λ_=>false) l.length k b=true->uU P ops md J S ks B l k g a->qH P md ops J S ks n B l.length b g a
 |[],k,b,g,a,_,p,i,h=>by simp only[Lf,vV,KU,MN,List.isEmpty_iff] at i;simp at p;subst p;exact⟨i.1,i.2,h⟩
 |o :: l,k,b,g,a,A,p,i,h=>by
  have u:ops[k]?=some o:=by simpa using (A 0 (by simp)).symm
  simp only[Kv,vV,KU] at i;obtain⟨⟨⟨⟨C,D⟩,E⟩,c⟩,q⟩:=i;rw[<-e,m] at c;have r:=au c;have s:∀j,j<l.length->l[j]?=ops[k+1+j]?:=λj G=>by have:=A (j+1) (by simp;omega);simpa [KX,Mk 1 j] using this
  unfold uU at h
  split at h
  ·rename_i f;obtain⟨y,z⟩:=h
   exact Ae x d m u f r (Ly t) l.length b g a (M0 u D) (by simpa using C) y
    (λv F=>qZ x d m e t l (k+1) _ _ _ s (by simp at p;omega) q (z v F))
  rename_i f;obtain⟨v,y,z⟩:=h
  exact AG m u (by simpa using f) r (Ly t) l.length b g a (M0 u D) (by simpa using C) y
   (qZ x d m e t l (k+1) _ _ _ s (by simp at p;omega) q z)
theorem bJ{id:Nat}{Q:Exit->Act->World->Prop}{a}{w:World}{c:List Oper}(l:List Oper)(b:Oper)(s:c=l++[b])(ks:Nat->Bool)(J:(Nat->Value->Prop)->World->Prop)(S:Nat->Value->Prop)(t:∀k,∃v,S k v)(g:P.follows .mixedOrders=true)(f:lL c.toArray (λ_=>false)=true)(o:J (λ_ _=>False) w.drew)
  (h:uU P c.toArray .any J S ks (λp q=>∀i,J p i->wpList P c.toArray Q [b] q i) l 0 (λ_ _=>False) a):(Code.region id c.toArray true).wp P Q a w:=by
 subst s;simp only[lL,KU] at f;have e:(l++[b]).toArray.size-1=l.length:=by simp
 have r:(l++[b]).toArray[l.length]?=some b:=by simp
 rw[e] at f;have u:=qZ (n:=l.length) (md:=.any) t ⟨_,_,o⟩ r e.symm f.1 l 0 (Array.replicate (l++[b]).toArray.size false) (λ_ _=>False) a (λj x=>by simp[Kh x]) (by simp) f.2 h;refine wp_region_any g ?_;have y:=kW (Q:=Q) (λp a w z A=>?_) l.length _ (λ_ _=>False) a { w with drawn:=w.drawn+1 } o (λm v g=>g.elim) u
 ·simpa using y
 have:=A w z;unfold wpList at this;unfold wpOp;rw[r];simp only[]
 split at this
 ·rename_i d;simp only[d,Lr];exact this.imp (MS λq i B=>by simpa [wpList] using B) (λh=>h)
 rename_i d;simp only[d];simpa [wpList] using this
theorem aP{D:World->Prop}(d:∀b w,J b w->D w){l}{o:Oper}{k:Nat}{b:Nat->Value->Prop}{a:Act}(e:ks k=false)(f:uW o=true)(h:wpQuiet P ops D (λg=>uU P ops md J S ks B l (k+1) b g) [o] a):uU P ops md J S ks B (o :: l) k b a:=by
 unfold uU;rw[iO (by rw[e];exact Bool.false_ne_true)];unfold wpQuiet at h
 split at h
 ·rename_i c;obtain⟨v,i,j⟩:=h;exact⟨v,.inl ⟨c,λw ⟨m,n⟩=>ol f (i w (d m w n))⟩,j⟩
 rename_i c;exact⟨undef,.inr ⟨by simpa using c,rfl⟩,h⟩
theorem fD{l}{o:Oper}{k:Nat}{b:Nat->Value->Prop}{a:Act}(v:Value)(c:ks k=false)(d:Region.wanted o (yielded ops a.tmps)=true)(e:∀w,(execOp a.eval o).run P w=.ok (.value v) w)(h:uU P ops md J S ks B l (k+1) b (a.put o.dst v)):uU P ops md J S ks B (o :: l) k b a:=by unfold uU;rw[iO (by rw[c];exact Bool.false_ne_true)];exact⟨v,.inl ⟨d,λw _=>.inl (e w)⟩,h⟩
theorem cz{l}{o:Oper}{k:Nat}{c:Nat->Value->Prop}{a:Act}(g:ks k=true)(i:Region.wanted o (yielded ops a.tmps)=true)(j:∀b w,J b w->(∀m v,c m v->dZ md o m->b m v)->(∀v,¬b k v)->∃v d,(execOp a.eval o).run P w=.ok (.value v) d/\S k v/\J (d9 b k v) d)(h:∀v,S k v->uU P ops md J S ks B l (k+1) (d9 c k v) (a.put o.dst v)):uU P ops md J S ks B (o :: l) k c a:=by unfold uU;rw[Io g];refine⟨⟨i,λb w n e f=>?_⟩,h⟩;have⟨v,d,p,q⟩:=j b w n e f;rw[p];exact q
theorem bw{l}{o:Oper}{k:Nat}{d:Nat->Value->Prop}{a:Act}(f:FuncId)(b:Array Value)(j:ks k=true)(n:Region.wanted o (yielded ops a.tmps)=true)(p:∀w,(execOp a.eval o).run P w=.ok (.enter f b) w)(q:∀c w,J c w->(∀m v,d m v->dZ md o m->c m v)->(∀v,¬c k v)->Calls P f b w λe r=>∃v,e=.returned v/\S k v/\J (d9 c k v) r)(h:∀v,S k v->uU P ops md J S ks B l (k+1) (d9 d k v) (a.put o.dst v)):uU P ops md J S ks B (o :: l) k d a:=by unfold uU;rw[Io j];refine⟨⟨n,λc w s g i=>?_⟩,h⟩;rw[p w];exact q c w s g i
theorem fL{l}{o:Oper}{k:Nat}{c:Nat->Value->Prop}{a:Act}(g:ks k=true)(i:Region.wanted o (yielded ops a.tmps)=true)(j:∀b w,J b w->(∀m v,c m v->dZ md o m->b m v)->(∀v,¬b k v)->∃d,(execOp a.eval o).run P w=.ok .skip d/\S k undef/\J (d9 b k undef) d)(h:∀v,S k v->uU P ops md J S ks B l (k+1) (d9 c k v) (a.put o.dst v)):uU P ops md J S ks B (o :: l) k c a:=by unfold uU;rw[Io g];refine⟨⟨i,λb w n e f=>?_⟩,h⟩;have⟨d,p,q⟩:=j b w n e f;rw[p];exact q
theorem ei{k}{b:Nat->Value->Prop}{a:Act}(h:B b a):uU P ops md J S ks B [] k b a:=h
end
end
abbrev Bs:=List UInt8
def bI(c:UInt8):Bs->List Bs
 |[]=>[[]]
 |b :: l=>if b=c then [] :: bI c l else match bI c l with
  |[]=>[[b]]
  |h :: t=>(b :: h) :: t
theorem fM(c):∀l,bI c l≠[]
 |[]=>by simp[bI]
 |b :: l=>by
  unfold bI
  split
  ·simp
  split<;>simp
theorem jp(c:UInt8):∀l:Bs,Lib.split l [c]=bI c l
 |[]=>by simp[Lib.split,MG,bI,Lib.splitK]
 |b :: l=>by
  have f:=jp c l
  unfold Lib.split at f |-
  by_cases h:b=c
  ·subst h;rw[Lib.count_cons_eq,Mk,Lib.splitK];have a:Lib.index (b :: l) [b]=0:=by rw[Lib.index];simp[List.isPrefixOf]
   rw[a];simp[f,bI]
  rw[Lib.count_cons_ne b c l h];have k:([c]:Bs).isPrefixOf (b :: l)=false:=by simp[List.isPrefixOf,LQ h]
  have a:Lib.index (b :: l) [c]=if Lib.index l [c]==-1 then -1 else Lib.index l [c]+1:=by rw[Lib.index,k];simp
  rw[bI,iO h,<-f]
  by_cases i:Lib.index l [c] = -1
  ·rw[Lib.count_miss i];simp[Lib.splitK]
  have m:=Lib.index_ge l [c];obtain⟨j,g⟩:∃j:Nat,Lib.index l [c]=j:=⟨(Lib.index l [c]).toNat,by omega⟩;have d:Lib.index (b :: l) [c]=((j+1:Nat):Int):=by rw[a,iO (λe=>i (MN.1 e)),g];omega
  rw[Lib.count_hit (by simp) g,Mk,Lib.splitK,Lib.splitK,d,g];have n:(((j+1:Nat):Int)==-1)=false:=Lq.2 (by omega);have o:(((j:Nat):Int)==-1)=false:=Lq.2 (by omega);rw[n,o];simp
def bt:List Bs->Bs->Int
 |[],_=>-1
 |n :: r,x=>if n=x then 0 else if bt r x = -1 then -1 else bt r x+1
theorem jh:∀ (l:List Bs) (x:Bs),-1<=bt l x
 |[],_=>by simp[bt]
 |n :: r,x=>by
  have:=jh r x;unfold bt
  split
  ·omega
  split<;>omega
theorem jO:∀ (l:List Bs) (x:Bs),bt l x<l.length
 |[],_=>by simp[bt]
 |n :: r,x=>by
  have:=jO r x;unfold bt;rw[Kv]
  split
  ·omega
  split<;>omega
def vN:List Bs:=[[107,105,108,108],[116,114,97,112],[102,97,105,108],[108,111,103],[97,108,108,111,119]]
def fN:List Bs:=[[110,114],[107,105,110,100],[97],[98],[99]]
def fU:Bs:=[61,33,60,62]
def cS(w:Bs):Option Int:=match Lib.atoiAll w with
 |.ok v=>if Lib.itoa v=w then some v else none
 |_=>none
def cZ(w:Bs):Option aN:=
 if Lib.indexAny w fU<0 then none else
  match cS (w.drop ((Lib.indexAny w fU).toNat+1)) with
  |none=>none
  |some n=>if bt fN (w.take (Lib.indexAny w fU).toNat)<0 then none else some (bt fN (w.take (Lib.indexAny w fU).toNat),1+Lib.indexByte fU (w.getD (Lib.indexAny w fU).toNat 0),n)
def ep{α:Type}(f:Bs->Option α):List Bs->Option (List α)
 |[]=>some []
 |w :: r=>match f w,ep f r with
  |some a,some l=>some (a :: l)
  |_,_=>none
def cC(w:Bs):Option aq:=match bI 32 w with
 |[]=>none
 |h :: t=>if bt vN h<0 then none else match ep cZ t with
  |none=>none
  |some a=>some (a,bt vN h)
def gS(s:Bs):Option aD:=match ep cC (bI 59 s).dropLast with
 |none=>none
 |some a=>if bt vN ((bI 59 s).getLast (fM 59 s))<0 then none else some (a,bt vN ((bI 59 s).getLast (fM 59 s)))
def cG(s:Bs):aD × Int:=if 60000<s.length then (([],0),2) else match gS s with
 |none=>(([],0),1)
 |some p=>if aj p=0 then (p,0) else (([],0),aj p)
theorem vG{α:Type}(f:Bs->Option α):∀ (l:List Bs) (w:Bs),ep f (l++[w])=match ep f l,f w with
  |some r,some a=>some (r++[a])
  |_,_=>none
 |[],w=>by
  simp only[MK,ep]
  cases f w<;>rfl
 |x :: r,w=>by
  rw[Lg,ep,vG f r w,ep]
  cases f x<;>cases ep f r<;>cases f w<;>rfl
theorem lh{α:Type}(f:Bs->Option α)(l:List Bs)(k:Nat)(w:Bs)(h:l[k]?=some w)(r:List α)(b:ep f (l.take k)=some r)(a:α)(c:f w=some a):ep f (l.take (k+1))=some (r++[a]):=by rw[LC,h];simp only[Option.toList];rw[vG,b,c]
theorem kX{α:Type}(f:Bs->Option α):∀ (l:List Bs) (k:Nat) (w:Bs),l[k]?=some w->f w=none->ep f l=none
 |[],_,_,h,_=>by simp at h
 |x :: r,0,w,h,a=>by simp at h;subst h;rw[ep,a]
 |x :: r,k+1,w,h,a=>by
  rw[ep,kX f r k w (by simpa using h) a]
  cases f x<;>rfl
theorem fY{P:Program}{c:Array Oper}{C:World->Prop}{Q:Act->Prop}{a:Act}{o:Oper}{b:List Oper}(v:Value)(d:Region.wanted o (yielded c a.tmps)=true)(e:∀w,(execOp a.eval o).run P w=.ok (.value v) w)(h:wpQuiet P c C Q b (a.put o.dst v)):wpQuiet P c C Q (o :: b) a:=
 Go.BigFrame.wpQuiet_want d λK f=>⟨v,λw _=>by unfold Oper.quietAt;rw[e w];exact⟨rfl,rfl⟩,f _ h⟩
def jC:ByteArray:=⟨#[61,33,60,62]⟩
theorem BL:jC.1.1=fU:=rfl
theorem BV(s:ByteArray)(pos j:Nat)(b:0<j)(h:j<(Utf8.decode s pos).2):128<=(s.get! (pos+j)).toNat:=by
 unfold Utf8.decode at h;simp only[] at h
 split at h
 ·simp at h;omega
 split at h
 ·rename_i a;simp at a
  split at h
  ·simp at h;obtain rfl:j=1:=by omega
   omega
  simp at h;omega
 split at h
 ·rename_i a;simp at a
  split at h
  ·simp at h;have:j=1\/j=2:=by omega
   rcases this with rfl|rfl<;>omega
  simp at h;omega
 split at h
 ·rename_i a;simp at a
  split at h
  ·simp at h;have:j=1\/j=2\/j=3:=by omega
   rcases this with rfl|rfl|rfl<;>omega
  simp at h;omega
 simp at h;omega
theorem GG(b:UInt8)(h:128<=b.toNat):fU.contains b=false:=by unfold fU;simp;refine⟨?_,?_,?_,?_⟩<;>(intro e;subst e;revert h;decide)
theorem vU(l:Bs)(c:UInt8)(d:∀b∈l,b.toNat<128)(h:128<=c.toNat):Lib.indexByte l c = -1:=by
 induction l with
 |nil=>rfl
 |cons b r f=>
  have i:=d b (by simp);have a:(b==c)=false:=by rw[Lq];intro e;subst e;omega
  rw[Lib.indexByte,f λx g=>d x (by simp[g]),a];rfl
theorem j5(s:ByteArray)(i:Nat)(h:i<s.size)(w:World):(Instr.index 9 (.string s) (U i)).run prog w=.ok (.int .u8 (s[i]'h).toNat) w:=by
 have a:(i:Int)<(s.size:Int):=by omega
 simp[go_sem,h,a,Tryz.underlying9]
theorem pJ(s:ByteArray)(i:Nat)(h:i<=s.size)(w:World):(Instr.sliceAt 9 (.string s) (some (U i)) none none).run prog w=.ok (.string (s.extract i s.size)) w:=by
 have a:(i:Int)<=(s.size:Int):=by omega
 simp[go_sem,h,a,Tryz.underlying9]
theorem sI(i:Nat)(c:UInt8)(d:128<=c.toNat)(w):cL 249 #[.string (jC.extract i 4),.int .u8 c.toNat] w λe f=>e=.returned (U (-1))/\f=w:=by
 have:=Tryz.strings_IndexByte (jC.extract i 4) c.toNat w;rw[vU _ _ ?_ (by simpa using d)] at this
 ·exact this
 intro b g;have a:=mem_extract g;rw[BL] at a;simp[fU] at a
 rcases a with rfl|rfl|rfl|rfl<;>decide
theorem gg{P:Program}{w:World}{x:Sem Value}{v:Value}(h:x.run P w=.ok v w):(do let y <-x;pure (Next.value y):Sem Next).run P w=.ok (.value v) w:=by simp[Lj,h,Result.andThen]
theorem Jj(r:Int)(rs)(y:128<=r)(o:(r==65533)=false)(p:Lib.validRune r=true)(q:∀w,(convert 21 9 (.int .i32 r)).run prog w=.ok (.string rs) w)(z:rs.size=2)(a:∀h:1<rs.size,128<=(rs[1]'h).toNat)(w):
  cL 262 #[.string jC,.int .i32 r] w (rT w (U (-1))):=by
 have A:¬(r<128):=by omega
 have B:(0:Int)<=r:=by omega
 have s:jC.size=4:=rfl;obtain⟨c,j⟩:∃c:UInt8,rs[1]'(by omega)=c:=⟨_,rfl⟩;have b:128<=c.toNat:=by rw[<-j];exact a _
 have k:=Z λi w=>sI i c b w
 have d:((33:Int)==(c.toNat:Int))=false:=by rw[Lq];omega
 have n:((33:Int) != (c.toNat:Int))=true:=by simpa using d
 have l:∀w,(Instr.index 9 (.string rs) (U 1)).run prog w=.ok (.int .u8 c.toNat) w:=λw=>j▸j5 rs 1 (by omega) w
 have t:∀w,(Instr.index 9 (.string jC) (U 1)).run prog w=.ok (.int .u8 33) w:=λw=>by kernel_rfl
 have g:∀w,(binOp .add 3 (U 1) (U 1)).run prog w=.ok (U 2) w:=λw=>by kernel_rfl
 have m:∀w,(Instr.sliceAt 9 (.string jC) (some (U 2)) none none).run prog w=.ok (.string (jC.extract 2 4)) w:=λw=>pJ jC 2 (by decide) w
 clear j a d;go_enter func262,ntmps262;go_wp2_with (first|(go_at_call 276;go_must (refine(Tryz.utf8_ValidRune _ _).mono ?_;rintro e u ⟨rfl,rfl⟩;rw[p])));apply Me;go_wp2;go_loop [9,10] (λi f=>i=U 1/\f=U 0) (λ_ _=>0)
 case atStart=>exact⟨rfl,rfl⟩
 case round=>
  obtain⟨rfl,rfl⟩:=hrel;go_wp2;apply Me;go_wp2;go_quiet (fail);go_wp2;have v:=ax.ne u;refine aW (by kernel_rfl) (by kernel_rfl) ?_;iterate 2(go_big_quiet_step (fail))
  refine fY (U 2) rfl (λw=>gg (g w)) ?_;go_frame;refine fY (.string (jC.extract 2 4)) rfl (λw=>gg (m w)) ?_;go_frame;iterate 2(go_big_quiet_step (fail))
  refine fY (.int .u8 c.toNat) rfl (λw=>gg (l w)) ?_;go_frame;repeat(go_big_quiet_step (first|(go_at_call 249;exact Calls.later_same (k.o _ _))))
  refine Km ?_;rintro C ⟨⟨_,x⟩,rfl⟩;go_wp2;simp only[Exit.noGoto];go_wp2;simp only[Exit.noGoto];go_wp2;go_ret;exact⟨rfl,Mj (Below.drewN_ bR _) x⟩
theorem Je(r:Int)(rs)(y:128<=r)(o:(r==65533)=false)(p:Lib.validRune r=true)(q:∀w,(convert 21 9 (.int .i32 r)).run prog w=.ok (.string rs) w)(z:rs.size=3)(a:∀h:2<rs.size,128<=(rs[2]'h).toNat)(w):
  cL 262 #[.string jC,.int .i32 r] w (rT w (U (-1))):=by
 have A:¬(r<128):=by omega
 have B:(0:Int)<=r:=by omega
 have s:jC.size=4:=rfl;obtain⟨c,j⟩:∃c:UInt8,rs[2]'(by omega)=c:=⟨_,rfl⟩;have b:128<=c.toNat:=by rw[<-j];exact a _
 have k:=Z λi w=>sI i c b w
 have d:((60:Int)==(c.toNat:Int))=false:=by rw[Lq];omega
 have n:((60:Int) != (c.toNat:Int))=true:=by simpa using d
 have l:∀w,(Instr.index 9 (.string rs) (U 2)).run prog w=.ok (.int .u8 c.toNat) w:=λw=>j▸j5 rs 2 (by omega) w
 have t:∀w,(Instr.index 9 (.string jC) (U 2)).run prog w=.ok (.int .u8 60) w:=λw=>by kernel_rfl
 have g:∀w,(binOp .add 3 (U 2) (U 1)).run prog w=.ok (U 3) w:=λw=>by kernel_rfl
 have m:∀w,(Instr.sliceAt 9 (.string jC) (some (U 3)) none none).run prog w=.ok (.string (jC.extract 3 4)) w:=λw=>pJ jC 3 (by decide) w
 clear j a d;go_enter func262,ntmps262;go_wp2_with (first|(go_at_call 276;go_must (refine(Tryz.utf8_ValidRune _ _).mono ?_;rintro e u ⟨rfl,rfl⟩;rw[p])));apply Me;go_wp2;go_loop [9,10] (λi f=>i=U 2/\f=U 0) (λ_ _=>0)
 case atStart=>exact⟨rfl,rfl⟩
 case round=>
  obtain⟨rfl,rfl⟩:=hrel;go_wp2;apply Me;go_wp2;go_quiet (fail);go_wp2;have v:=ax.ne u;refine aW (by kernel_rfl) (by kernel_rfl) ?_;iterate 2(go_big_quiet_step (fail))
  refine fY (U 3) rfl (λw=>gg (g w)) ?_;go_frame;refine fY (.string (jC.extract 3 4)) rfl (λw=>gg (m w)) ?_;go_frame;iterate 2(go_big_quiet_step (fail))
  refine fY (.int .u8 c.toNat) rfl (λw=>gg (l w)) ?_;go_frame;repeat(go_big_quiet_step (first|(go_at_call 249;exact Calls.later_same (k.o _ _))))
  refine Km ?_;rintro C ⟨⟨_,x⟩,rfl⟩;go_wp2;simp only[Exit.noGoto];go_wp2;simp only[Exit.noGoto];go_wp2;go_ret;exact⟨rfl,Mj (Below.drewN_ bR _) x⟩
theorem J8(r:Int)(rs)(y:128<=r)(p:(r==65533)=false)(q:Lib.validRune r=true)(s:∀w,(convert 21 9 (.int .i32 r)).run prog w=.ok (.string rs) w)(z:rs.size=4)(a:∀h:3<rs.size,128<=(rs[3]'h).toNat)(w):
  cL 262 #[.string jC,.int .i32 r] w (rT w (U (-1))):=by
 have A:¬(r<128):=by omega
 have B:(0:Int)<=r:=by omega
 have t:jC.size=4:=rfl;obtain⟨c,g⟩:∃c:UInt8,rs[3]'(by omega)=c:=⟨_,rfl⟩;have j:128<=c.toNat:=by rw[<-g];exact a _
 have k:Hid (∀w,cL 249 #[.string ByteArray.empty,.int .u8 c.toNat] w λe l=>e=.returned (U (-1))/\l=w):=λw=>Tryz.strings_IndexByte ByteArray.empty c.toNat w
 have b:((62:Int)==(c.toNat:Int))=false:=by rw[Lq];omega
 have o:((62:Int) != (c.toNat:Int))=true:=by simpa using b
 have m:∀w,(Instr.index 9 (.string rs) (U 3)).run prog w=.ok (.int .u8 c.toNat) w:=λw=>g▸j5 rs 3 (by omega) w
 have u:∀w,(Instr.index 9 (.string jC) (U 3)).run prog w=.ok (.int .u8 62) w:=λw=>by kernel_rfl
 have d:∀w,(binOp .add 3 (U 3) (U 1)).run prog w=.ok (U 4) w:=λw=>by kernel_rfl
 have n:∀w,(Instr.sliceAt 9 (.string jC) (some (U 4)) none none).run prog w=.ok (.string ByteArray.empty) w:=λw=>by have:=pJ jC 4 (by decide) w;rw[show jC.extract 4 jC.size=ByteArray.empty by decide +kernel] at this;exact this
 clear g a b;go_enter func262,ntmps262;go_wp2_with (first|(go_at_call 276;go_must (refine(Tryz.utf8_ValidRune _ _).mono ?_;rintro e l ⟨rfl,rfl⟩;rw[q])));apply Me;go_wp2;go_loop [9,10] (λi f=>i=U 3/\f=U 0) (λ_ _=>0)
 case atStart=>exact⟨rfl,rfl⟩
 case round=>
  obtain⟨rfl,rfl⟩:=hrel;go_wp2;apply Me;go_wp2;go_quiet (fail);go_wp2;have v:=ax.ne l;refine aW (by kernel_rfl) (by kernel_rfl) ?_;iterate 2(go_big_quiet_step (fail))
  refine fY (U 4) rfl (λw=>gg (d w)) ?_;go_frame;refine fY (.string ByteArray.empty) rfl (λw=>gg (n w)) ?_;go_frame;iterate 2(go_big_quiet_step (fail))
  refine fY (.int .u8 c.toNat) rfl (λw=>gg (m w)) ?_;go_frame;repeat(go_big_quiet_step (first|(go_at_call 249;exact Calls.later_same (k.o _))))
  refine Km ?_;rintro C ⟨⟨_,x⟩,rfl⟩;go_wp2;simp only[Exit.noGoto];go_wp2;simp only[Exit.noGoto];go_wp2;go_ret;exact⟨rfl,Mj (Below.drewN_ bR _) x⟩
theorem vY(r:Int)(k:128<=r)(s:r<=2147483647)(w):
  cL 262 #[.string jC,.int .i32 r] w (rT w (U (-1))):=by
 have t:¬(r<128):=by omega
 have u:(0:Int)<=r:=by omega
 by_cases q:r=65533
 ·subst q;go_enter func262,ntmps262;go_wp2;have l:∀i,bL w (w.iter jC i):=λi=>bR.alloc lE _
  go_loopw [5,6] (λ_ _ wr=>∃i,i<=4/\wr=w.iter jC i) (λ_ _ wr=>4-wr.iterPos w.1.size)
  case atStart=>exact⟨0,by omega,rfl⟩
  case round=>
   obtain⟨i,v,rfl⟩:=hrel;have m:i=0\/i=1\/i=2\/i=3\/i=4:=by omega
   rcases m with rfl|rfl|rfl|rfl|rfl
   ·have a:=λc=>run_next_ascii (P:=prog) w jC 0 c (by decide) (by decide)
    rw[show (jC[0]'(by decide)).toNat=61 by decide] at a;go_wp2;exact⟨⟨1,by omega,rfl⟩,by simp⟩
   ·have a:=λc=>run_next_ascii (P:=prog) w jC 1 c (by decide) (by decide)
    rw[show (jC[1]'(by decide)).toNat=33 by decide] at a;go_wp2;exact⟨⟨2,by omega,rfl⟩,by simp⟩
   ·have a:=λc=>run_next_ascii (P:=prog) w jC 2 c (by decide) (by decide)
    rw[show (jC[2]'(by decide)).toNat=60 by decide] at a;go_wp2;exact⟨⟨3,by omega,rfl⟩,by simp⟩
   ·have a:=λc=>run_next_ascii (P:=prog) w jC 3 c (by decide) (by decide)
    rw[show (jC[3]'(by decide)).toNat=62 by decide] at a;go_wp2;exact⟨⟨4,by omega,rfl⟩,by simp⟩
   have a:=run_next_end (P:=prog) w jC 4;have x:¬4<jC.size:=by decide
   go_wp2;go_ret;exact⟨rfl,l _⟩
 have d:(r==65533)=false:=by simpa using q
 by_cases j:Lib.validRune r=true
 ·have n:Utf8.valid r=true:=by rw[validRune_eq];exact j
  have⟨y,z,o⟩:=encode_facts r n k;have f:∀w,(convert 21 9 (.int .i32 r)).run prog w=.ok (.string (Utf8.encode r)) w:=λw=>run_convert_int_string w _ _ _ _ (by kernel_rfl) Tryz.underlying9
  generalize Utf8.encode r=g at*;have b:g.size=2\/g.size=3\/g.size=4:=by omega
  rcases b with b|b|b
  ·exact Jj r g k d j f b (λh=>by have:=o (by omega);simp only[b] at this;exact this) w
  ·exact Je r g k d j f b (λh=>by have:=o (by omega);simp only[b] at this;exact this) w
  exact J8 r g k d j f b (λh=>by have:=o (by omega);simp only[b] at this;exact this) w
 have p:Lib.validRune r=false:=by simpa using j
 go_enter func262,ntmps262;go_wp2_with (first|(go_at_call 276;go_must (refine(Tryz.utf8_ValidRune _ _).mono ?_;rintro e A ⟨rfl,rfl⟩;rw[p])));go_ret;exact⟨rfl,Kf _ _⟩
