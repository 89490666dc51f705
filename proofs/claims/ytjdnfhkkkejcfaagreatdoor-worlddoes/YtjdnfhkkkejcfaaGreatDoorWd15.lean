import Derived.Test.YtjdnfhkkkejcfaaGreatDoorWd07
import Derived.Test.YtjdnfhkkkejcfaaGreatDoorWd08
import Derived.Test.YtjdnfhkkkejcfaaGreatDoorWd14
set_option linter.all false
set_option maxRecDepth 100000
set_option maxHeartbeats 4000000
namespace Go.Proofs.YtjdnfhkkkejcfaaGreatDoor
open Go.RowKit Go.Maps Go.Proofs.Tryz
theorem qB(k:Nat)(s:Bs):Lib.splitK [32] 0 (k+1) s=match js s with|none=>[s]|some (a,t)=>a :: Lib.splitK [32] 0 k t:=by
 cases h:js s with
 |none=>
  have:=oa 32 s (De h);unfold Lib.splitK;rw[this];rfl
 |some x=>
  obtain⟨a,t⟩:=x;obtain⟨rfl,b⟩:=nA h;have:=pK 32 t a b
  conv=>lhs;unfold Lib.splitK
  rw[this,iO (by simp)];simp
theorem zS(s:Bs):Lib.splitK [32] 0 2 s=ar s:=by
 rw[qB];unfold ar
 cases h:js s with
 |none=>rfl
 |some x=>
  obtain⟨a,t⟩:=x;simp only;rw[qB]
  cases h2:js t with
  |none=>rfl
  |some y=>obtain⟨b,u⟩:=y;rfl
theorem Af(s:Bs):Lib.splitK [32] 0 (min 3 (s.length+1)-1) s=ar s:=by
 match s with
 |[]=>rfl
 |[b]=>
  show Lib.splitK [32] 0 1 [b]=_;rw[qB];unfold ar
  by_cases a:b=32
  ·subst a;rfl
  have:js [b]=none:=ru [b] (by simp;exact λe=>a e.symm);rw[this]
 |b :: c :: s=>
  rw[show min 3 ((b :: c :: s).length+1)-1=2 by simp];exact zS _
theorem il(t:ByteArray)(z:t.size<=60000):∃d:List ByteArray,d.map (λp:ByteArray=>p.1.1)=ar t.1.1/\1<=d.length/\d.length<=3/\(∀u∈d,u.size<=60000)/\
  ∀o w,w.cell? ⟨1,0,none⟩=some (U o)->cL 106 #[.string t,.string ⟨#[32]⟩,U 3] w λe m=>∃SB h,e=.returned (.slice (sO SB) d.length h)/\d.length<=h/\h<=3/\bL w m/\w.1.size<=SB/\SB<m.1.size/\∀j u,d[j]?=some u->m.cell? ⟨SB,j,none⟩=some (.string u):=by
 have⟨d,g⟩:=nM (Lib.splitB ⟨#[32]⟩ 0 (min 3 (t.size+1)-1) t);have f:d.map (λp:ByteArray=>p.1.1)=ar t.1.1:=by rw[g,Lib.splitB_data];have:=Af t.1.1;rw[<-KR] at this;exact this
 have i:d.length=(ar t.1.1).length:=by rw[<-f];simp
 have q:1<=d.length/\d.length<=3/\∀p∈ar t.1.1,p.length<=t.size:=by
  rw[i,KR]
  rcases lN (s:=t.1.1) with ⟨a,e,k⟩|⟨a,b,e,k⟩|⟨a,b,c,e,k⟩
  ·rw[e,k];simp
  ·rw[e];refine⟨by simp,by simp,λp l=>?_⟩;rw[k]
   simp at l |-
   rcases l with rfl|rfl<;>omega
  rw[e];refine⟨by simp,by simp,λp l=>?_⟩;rw[k]
  simp at l |-
  rcases l with rfl|rfl|rfl<;>omega
 refine⟨d,f,q.1,q.2.1,λu n=>?_,λo w v=>?_⟩
 ·have:u.1.1∈ar t.1.1:=by rw[<-f];exact List.mem_map_of_mem n
  have:=q.2.2 _ this;rw[KR];omega
 refine(Tryz.strings_SplitN t ⟨#[32]⟩ 3 o w (by omega) v (by decide) (by decide) (by decide)).mono λe m ⟨x,y⟩=>?_
 subst x y;have r:d.length<=min 3 (t.size+1):=by rw[g];have:=Lib.splitB_length_le ⟨#[32]⟩ 0 (min 3 (t.size+1)-1) t;omega
 refine⟨w.1.size,min 3 (t.size+1),by rw[g],r,by omega,bR.alloc lE _,Ke _,by simp,λj u n=>?_⟩;refine ab (ah w _) j ?_;rw[<-g];unfold Lib.cellsOf;rw[LK,Kh (by simp;exact(K9.1 n).1),Ku,n];rfl
def D4:DataW Unit:=((((DataW.map []).put (.string [111,112,101,110]) (.lit (.int .i64 1))).put (.string [116,105,103,104,116]) (.lit (.int .i64 2))).put (.string [102,111,114,107]) (.lit (.int .i64 3))).put (.string [115,104,117,116]) (.lit (.int .i64 4))
theorem zi:D4=mq kN 1 (.map []):=rfl
theorem uV(l:Bs):D4.atKey (.string l) Ib=.lit (.int .i64 (1+bt kN l)):=by
 by_cases h:0<=bt kN l
 ·obtain⟨-,a⟩:=nJ l kN 1 (.map []) LM (by decide) h;rw[zi,a];rfl
 obtain⟨-,a⟩:=jU l kN 1 (.map []) (su _ _ (by omega));have:=jh kN l;rw[zi,a,show bt kN l = -1 by omega];rfl
theorem jr(e w):cL 105 #[U e] w λr a=>r=.returned (.tuple #[.agg #[U 0,U 0,U 0,nL,U 0],U e])/\bL w a:=by have b:bL w (w.alloc (.cells #[U 0,U 0,U 0,nL,U 0] 70)):=bR.alloc lE _;have c:=ah w (.cells #[U 0,U 0,U 0,nL,U 0] 70);go_enter func105,ntmps105;go_wp2;have⟨d,f,g,h,i⟩:=aF c;refine Ka (v:=.tuple #[.agg #[U 0,U 0,U 0,nL,U 0],U e]) ?_ rfl ⟨rfl,b⟩;rw[K8 rfl];go_simp
theorem Bu(s:ByteArray)(D:s.size<=60000)(w)(he:dD w)(r:bt kN ((ar s.1.1).getD 0 [])<0\/(bt kN ((ar s.1.1).getD 0 [])=3/\(ar s.1.1).length≠2)\/(bt kN ((ar s.1.1).getD 0 [])<3/\(ar s.1.1).length≠3)):
  cL 77 #[.string s] w (rT w (.tuple #[.agg #[U 0,U 0,U 0,nL,U 0],U 1])):=by
 have al:=@run_makeMap prog;have HE:=Z λY (h:bL w Y)=>he.l h
 clear he;have⟨X,c,av,b0,z,E⟩:=il s D;have HM:=Z c;have b2:=Z z;obtain⟨t,l⟩:∃u,X[0]?=some u:=⟨X[0]'(by omega),by simp⟩;have a0:=z t (Kb l);have F:(ar s.1.1).getD 0 []=t.1.1:=by rw[<-c,Kn,Ku,l];rfl
 have⟨W0,m⟩:=nM (w.alloc (.cells #[U 0,U 0,U 0,nL,U 0] 70));have g0:=hA m;have A:=bA m;have HG:=Z λY (h:bL W0 Y)=>Q2 (h.bl g0) (A.th h)
 have⟨mm,hm⟩:=(HE.o W0 A).1;have x:Hid _:=E mm W0 hm;have HW:=Z m;have G:=Z3 l F a0;clear m g0 A c z E hm l F;have d:(ar s.1.1).length=X.length:=by rw[<-HM.o];simp
 rw[G.o.2.1,d] at r;generalize I:X.length=n at*;have b5:=Z I;have⟨o,J⟩:=nM (1+bt kN t.1.1);have a2:=jh kN t.1.1;have K:=jO kN t.1.1;have L:kN.length=4:=rfl;rw[L] at K;have q:(o=0)\/(o=4/\n=1)\/(o=4/\n=3)\/(o=1/\n=1)\/(o=1/\n=2)\/(o=2/\n=1)\/(o=2/\n=2)\/(o=3/\n=1)\/(o=3/\n=2):=by omega
 have a3:=Z J.symm;clear I d r J a2 K L;go_enter func77,ntmps77;go_wp2_with fail;rw[<-HW.o];go_at_call 106;refine Calls.mono x.o ?_;rintro e B ⟨SB,b6,rfl,b7,b8,M,ae,N,a⟩;have x0:=a 0 t G.o.1;have b9:=Z a;have O:=Le (H:=Unit) B prog 9 (plainElem prog 3);have i0:(0:Int)<(n:Int):=by omega
 have P:=Z (by have:=ai;omega:t.size<=maxLen);clear a x HW
 rcases q with rfl|⟨rfl,rfl⟩|⟨rfl,rfl⟩|⟨rfl,rfl⟩|⟨rfl,rfl⟩|⟨rfl,rfl⟩|⟨rfl,rfl⟩|⟨rfl,rfl⟩|⟨rfl,rfl⟩
 all_goals
  go_wp2_with (first
   |(refine am _ rfl _ _ _ 137 rfl 9 3 dH Tryz.underlying137 (plainElem prog 3) B.1.size 0 _ rfl O (by decide) _ _ _ rfl rfl (Ko Tryz.underlying9 (by decide)) _ [] (KH Tryz.underlying3 (by decide)) ?_;go_must (intro w2 f a4;clear O;have b:=((Kf B.1.size B).alloc lE _).grown a4 (by simp) (λk C=>by cases C;exact Ke _)))
   |(refine am _ rfl _ _ _ 137 rfl 9 3 dH Tryz.underlying137 (plainElem prog 3) B.1.size 1 _ rfl f (by decide) _ _ _ rfl rfl (Ko Tryz.underlying9 (by decide)) _ [] (KH Tryz.underlying3 (by decide)) ?_;go_must (intro w3 g a5;clear f;replace b:=b.grown a5 b.size (λk C=>by cases C;exact Ke _)))
   |(refine am _ rfl _ _ _ 137 rfl 9 3 dH Tryz.underlying137 (plainElem prog 3) B.1.size 2 _ rfl g (by decide) _ _ _ rfl rfl (Ko Tryz.underlying9 (by decide)) _ [] (KH Tryz.underlying3 (by decide)) ?_;go_must (intro w4 i a6;clear g;replace b:=b.grown a6 b.size (λk C=>by cases C;exact Ke _)))
   |(refine am _ rfl _ _ _ 137 rfl 9 3 dH Tryz.underlying137 (plainElem prog 3) B.1.size 3 _ rfl i (by decide) _ _ _ rfl rfl (Ko Tryz.underlying9 (by decide)) _ [] (KH Tryz.underlying3 (by decide)) ?_;go_must (intro w5 j a7;clear i;replace b:=b.grown a7 b.size (λk C=>by cases C;exact Ke _);have x5:=(b.cell (p:=pA SB 0) N).trans x0;have bb:=b.size;obtain⟨c',Q,h2,_⟩:=j.lookup_int dH Tryz.underlying137 Tryz.underlying3 (jj _) (Ko (s:=t) Tryz.underlying9 P.o);have R:=(ji (h2.symm.trans (uV _))).trans a3.o;rw[R] at Q;clear h2 R)))
  go_at_call 105;refine Calls.mono (jr 1 _) ?_;rintro e w6 ⟨rfl,S⟩;have T:=b.th S;have V:=M.th T;have⟨y,W⟩:=HG.o w6 V;have l6:=io y;have⟨z0,z1,z2,z3,z4⟩:=aF y;have f0:=fZ y 0;have f1:=fZ y 1;have f2:=fZ y 2;have f3:=fZ y 3;have f4:=fZ y 4;have a8:=Z W;clear y W V T S b j Q x5 x0 M;go_wp2_with fail;refine Ka (v:=.tuple #[.agg #[U 0,U 0,U 0,nL,U 0],U 1]) ?_ rfl ⟨rfl,?_⟩
  ·rw[K8 rfl];go_simp
  exact a8.o.s5 lE
