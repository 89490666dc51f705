/- Joined: Hd Callw Later Chk Base Pol Pol2 Pol3 Stage Last Free Ins. -/
import Derived.Below
import Derived.Test.YtnpdhopjpjickaaGreatDoorRows
import Derived.WalkKit
import Derived.WalkSpells
import Derived.WalkLawsBesides
import Derived.Deep.QuietTactic
import Derived.BigQuiet
import Derived.Maps.OwnSet
import Derived.Maps.Views
import Derived.ProofKit
import Derived.OpenShut
import Derived.ShutString
import Derived.ChangeOld
import Derived.Deep.SlicePairs
import Derived.Deep.Strs
import Derived.Still
import Derived.Deep.Quiet
section
namespace Go.Proofs.YtnpdhopjpjickaaGreatDoor
open Go.RowKit
theorem hid {p:Prop} (h:p):Hid p:=h
end Go.Proofs.YtnpdhopjpjickaaGreatDoor
end
section
namespace Go.Proofs.YtnpdhopjpjickaaGreatDoor
open Go.RowKit Go.Maps
def aF (n:Int):Int:=if n=0 then 63 else if n=1 then 3 else 65535
set_option maxHeartbeats 400000 in
theorem ox (n:Int) (w:World):
  Calls Tryz.prog 83 #[.int .i64 n] w λe c=>e=.returned (.int .i64 (aF n))/\c=w:=by
 by_cases a:n=0
 ·subst a
  go_enter Tryz.func83,Tryz.ntmps83
  go_wp2
  go_ret
  exact⟨rfl,rfl⟩
 ·by_cases b:n=1
  ·subst b
   go_enter Tryz.func83,Tryz.ntmps83
   go_wp2
   go_ret
   exact⟨rfl,rfl⟩
  ·have e:aF n=65535:=by simp[aF,a,b]
   have H:=hid e
   clear e
   have d:(n==0)=false:=by simpa using a
   have f:(n==1)=false:=by simpa using b
   clear a b
   go_enter Tryz.func83,Tryz.ntmps83
   go_wp2
   go_ret
   exact⟨by rw[H.out];rfl,rfl⟩
set_option maxHeartbeats 400000 in
theorem ml (n a b:Int) (w:World):
  Calls Tryz.prog 42 #[.int .i64 n,.int .i64 a,.int .i64 b] w λe c=>e=.returned (.bool (decide (a<=n)&&decide (n<=b)))/\c=w:=by
 by_cases d:a<=n
 ·go_enter Tryz.func42,Tryz.ntmps42
  go_wp2
  go_ret
  exact⟨by simp[d],rfl⟩
 ·go_enter Tryz.func42,Tryz.ntmps42
  go_wp2
  go_ret
  exact⟨by simp;omega,rfl⟩
theorem aT {H:Type} {P:Program} (w:World) {f:Array Oper} {c:List Oper} {o:Oper} {a:Act} {Q:Exit->Act->World->Prop}
  (u:o.guard=none) (m x v:Operand) (t:TypeId) (kf:o.op=Op.insert t m x v)
  (k e:TypeId) (K:Maps.Keyed P k) (y:P.underlying t=some (.map k e)) (R:Value->Option (DataW H × List MemPlace)) (b n:Nat) (D:DataW H)
  (z:a.eval m=.map (some b)) (g:w.ownsMap P k R b n D) (A:n<maxLen) (h i:Value) (s:Lit) (B:a.eval x=h) (C:a.eval v=i) (j:keyOf P k h=some s)
  (d:DataW H) (ps:List MemPlace) (l:R i=some (d,ps))
  (E:∀ p,p.ownsMap P k R b (n+1) (D.put s d)->w.grownBy p (some b)->wpList P f Q c (a.put o.dst undef) p):
  wpList P f Q (o :: c) a w:=by
 refine wpList_plain u λI r=>?_
 obtain⟨p,q,F,G⟩:=g.update K y A j l
 unfold Oper.wp
 simp[execOp,kf,z,B,C,q,Result.andThen]
 exact r _ _ (E p F G)
theorem oq (w:World):(zeroValue 3).run Tryz.prog w=.ok (.int .i64 0) w:=by kernel_rfl
theorem y9:Maps.Keyed Tryz.prog 3:=Maps.int_keyed Tryz.underlying3
def oT:DataW Unit:=((DataW.map []).put (.int .i64 0) (.lit (.int .i64 63))).put (.int .i64 1) (.lit (.int .i64 3))
theorem vE (n:Int):(Maps.has oT (.int .i64 n)=true/\oT.atKey (.int .i64 n) (.lit (.int .i64 0))=.lit (.int .i64 (aF n)))\/(Maps.has oT (.int .i64 n)=false/\aF n=65535):=by
 have a:∀ z,WideAt.IsKeyLit (.int .i64 z):=λz=>by simp[WideAt.IsKeyLit]
 unfold oT
 by_cases b:n=1
 ·subst b
  exact .inl ⟨Maps.has_put_same (Maps.isMap_empty.put _ _) (a 1) _,Maps.atKey_put_same (Maps.isMap_empty.put _ _) (a 1) _ _⟩
 ·have d:Lit.int .i64 n≠Lit.int .i64 1:=by simpa using b
  rw[Maps.has_put_other d,Maps.atKey_put_other d]
  by_cases c:n=0
  ·subst c
   exact .inl ⟨Maps.has_put_same Maps.isMap_empty (a 0) _,Maps.atKey_put_same Maps.isMap_empty (a 0) _ _⟩
  ·have e:Lit.int .i64 n≠Lit.int .i64 0:=by simpa using c
   rw[Maps.has_put_other e]
   exact .inr ⟨rfl,by simp[aF,c,b]⟩
set_option maxHeartbeats 400000 in
theorem rh (n:Int) (m:(Lit.int .i64 n).wf=true) (w:World):
  Calls Tryz.prog 46 #[.int .i64 n] w λe o=>e=.returned (.int .i64 (aF n))/\Below w.heap.size w o:=by
 have p:=@run_makeMap Tryz.prog
 have g:=World.ownsMap_made (H:=Unit) w Tryz.prog 3 (plainElem Tryz.prog 3)
 go_enter Tryz.func46,Tryz.ntmps46
 go_wp2_with (first
  | (refine aT _ rfl _ _ _ 120 rfl 3 3 y9 Tryz.underlying120 _ w.heap.size 0 _ rfl g (by decide) _ _ _ rfl rfl (keyOf_int_mk Tryz.underlying3 (by decide)) _ [] (plainElem_int Tryz.underlying3 (by decide)) ?_;intro u b a;clear g)
  | (refine aT _ rfl _ _ _ 120 rfl 3 3 y9 Tryz.underlying120 _ w.heap.size 1 _ rfl b (by decide) _ _ _ rfl rfl (keyOf_int_mk Tryz.underlying3 (by decide)) _ [] (plainElem_int Tryz.underlying3 (by decide)) ?_;intro q f d;clear b)
  | (at_lookup;refine wpList_lookup_own_ok_int _ rfl _ _ 120 rfl 3 3 .i64 y9 Tryz.underlying120 Tryz.underlying3 (oq _) w.heap.size 2 _ rfl f _ _ rfl (keyOf_int_mk Tryz.underlying3 m) ?_;intro c i r))
 all_goals
  have s:Below w.heap.size w q:=(((Below.refl _ _).alloc (Nat.le_refl _) _).grown a (by simp) (λk j=>by cases j;exact Nat.le_refl _)).grown d (by have:=a.size;simp at this;omega) (λk j=>by cases j;exact Nat.le_refl _)
  have l:=vE n
  unfold oT at l
  go_ret
  refine⟨?_,s⟩
 ·rcases l with ⟨_,h⟩ | ⟨t,_⟩
  ·rw[i] at h
   simp at h
   exact congrArg (λz=>Ending.returned (.int .i64 z)) h
  ·simp_all
 ·rcases l with ⟨t,_⟩ | ⟨_,h⟩
  ·simp_all
  ·exact congrArg (λz=>Ending.returned (.int .i64 z)) h.symm
end Go.Proofs.YtnpdhopjpjickaaGreatDoor
end
section
namespace Go.Proofs.YtnpdhopjpjickaaGreatDoor
open Go.RowKit
def aw (W:World):Type:={ w':World // Below W.heap.size W w' }
theorem aw.ne (W:World):Nonempty (aw W):=⟨⟨W,Below.refl _ _⟩⟩
theorem bn {P:Program} {id:Nat} {Q:Exit->Act->World->Prop} {a:Act} {w:World} {l:List Oper} (c:P.follows .mixedOrders=true) (d:Region.lexB .any l.toArray=true)
  (h:wpQuiet P l.toArray (λb=>∃ x:aw w,b=x.1) (λe=>∀ b,(∃ x:aw w,b=x.1)->Q .normal e b) l a):(Code.region id l.toArray true).wp P Q a w:=
 wp_region_quiet (C:=λb=>∃ x:aw w,b=x.1) c d ⟨⟨w.drew,(Below.refl _ _).drew⟩,rfl⟩ (by simpa using h)
theorem Calls.later {P:Program} {f:FuncId} {a:Array Value} {W:World} {x:aw W} {v:Value}
  (h:Calls P f a x.1 λe b=>e=.returned v/\Below x.1.heap.size x.1 b):Calls P f a x.1 λe c=>e=.returned v/\∃ y:aw W,c=y.1:=
 h.mono λ_ b ⟨d,g⟩=>⟨d,⟨b,x.2.trans (g.mono x.2.size)⟩,rfl⟩
theorem Calls.later_same {P:Program} {f:FuncId} {a:Array Value} {W:World} {x:aw W} {v:Value}
  (h:Calls P f a x.1 λe c=>e=.returned v/\c=x.1):Calls P f a x.1 λe b=>e=.returned v/\∃ y:aw W,b=y.1:=
 h.mono λ_ _ ⟨d,g⟩=>⟨d,x,g⟩
theorem aw.cell {W:World} (x:aw W) {b o:Nat} {v:Value} (h:W.cell? ⟨b,o,none⟩=some v) (a:b<W.heap.size):x.1.cell? ⟨b,o,none⟩=some v:=by
 rw[x.2.cell (p:=⟨b,o,none⟩) a];exact h
end Go.Proofs.YtnpdhopjpjickaaGreatDoor
end
section
namespace Go.Proofs.YtnpdhopjpjickaaGreatDoor
open Go.RowKit Go.Maps
def Bt (k v:Int):Bool:=decide (0<=v)&&decide (v<=aF k)
def eR:Nat->List Int->Bool
 | _,[]=>true
 | k,v :: r=>Bt k v&&eR (k+1) r
def DB (a b c d e:Int):Int:=if eR 0 [a,b,c,d,e] then 0 else 3
def vX (a b c d e:Int):Nat->Int
 | 0=>a | 1=>b | 2=>c | 3=>d | _=>e
theorem xV (a b c d e:Int) (k:Nat) (h:k<5):eR k ([a,b,c,d,e].drop k)=(Bt k (vX a b c d e k)&&eR (k+1) ([a,b,c,d,e].drop (k+1))):=by
 have:k=0\/k=1\/k=2\/k=3\/k=4:=by omega
 rcases this with rfl | rfl | rfl | rfl | rfl<;>rfl
theorem CF (a b c d e:Int) (w:World):(Instr.index 34 (.agg #[.int .i64 a,.int .i64 b,.int .i64 c,.int .i64 d,.int .i64 e]) (.int .i64 0)).run Tryz.prog w=.ok (.int .i64 a) w:=by kernel_rfl
theorem Ch (b a c d e:Int) (w:World):(Instr.index 34 (.agg #[.int .i64 b,.int .i64 a,.int .i64 c,.int .i64 d,.int .i64 e]) (.int .i64 1)).run Tryz.prog w=.ok (.int .i64 a) w:=by kernel_rfl
theorem Cn (b c a d e:Int) (w:World):(Instr.index 34 (.agg #[.int .i64 b,.int .i64 c,.int .i64 a,.int .i64 d,.int .i64 e]) (.int .i64 2)).run Tryz.prog w=.ok (.int .i64 a) w:=by kernel_rfl
theorem CC (b c d a e:Int) (w:World):(Instr.index 34 (.agg #[.int .i64 b,.int .i64 c,.int .i64 d,.int .i64 a,.int .i64 e]) (.int .i64 3)).run Tryz.prog w=.ok (.int .i64 a) w:=by kernel_rfl
theorem BO (b c d e a:Int) (w:World):(Instr.index 34 (.agg #[.int .i64 b,.int .i64 c,.int .i64 d,.int .i64 e,.int .i64 a]) (.int .i64 4)).run Tryz.prog w=.ok (.int .i64 a) w:=by kernel_rfl
theorem DQ (a b c d e:Int) (k:Nat) (h:k<5) (w:World):(Instr.index 34 (.agg #[.int .i64 a,.int .i64 b,.int .i64 c,.int .i64 d,.int .i64 e]) (.int .i64 k)).run Tryz.prog w=.ok (.int .i64 (vX a b c d e k)) w:=by
 have:k=0\/k=1\/k=2\/k=3\/k=4:=by omega
 rcases this with rfl | rfl | rfl | rfl | rfl
 ·exact CF ..
 ·exact Ch ..
 ·exact Cn ..
 ·exact CC ..
 ·exact BO ..
theorem A5 {a b c d e:Int} {k:Nat} {v:Int} {r:Bool} (H:Hid (eR 0 [a,b,c,d,e]=eR k ([a,b,c,d,e].drop k))) (S:Hid (eR k ([a,b,c,d,e].drop k)=(Bt k v&&r))) (h:v<0\/aF k<v):DB a b c d e=3:=by
 have:Bt k v=false:=by
  unfold Bt
  rw[Bool.and_eq_false_iff,decide_eq_false_iff_not,decide_eq_false_iff_not]
  omega
 unfold DB
 rw[H.out,S.out,this]
 rfl
theorem C6 {a b c d e:Int} {k:Nat} {v:Int} {r:Bool} (H:Hid (eR 0 [a,b,c,d,e]=eR k ([a,b,c,d,e].drop k))) (S:Hid (eR k ([a,b,c,d,e].drop k)=(Bt k v&&r))) (h:0<=v/\v<=aF k):eR 0 [a,b,c,d,e]=r:=by
 have:Bt k v=true:=by
  unfold Bt
  rw[Bool.and_eq_true,decide_eq_true_eq,decide_eq_true_eq]
  omega
 rw[H.out,S.out,this]
 rfl
theorem Dh {a b c d e:Int} {k:Nat} (H:Hid (eR 0 [a,b,c,d,e]=eR k ([a,b,c,d,e].drop k))) (h:5<=k):DB a b c d e=0:=by
 unfold DB
 rw[H.out,List.drop_eq_nil_of_le (by simpa using h)]
 rfl
set_option maxHeartbeats 400000 in
theorem mD (a b c d f:Int) (w:World):
  Calls Tryz.prog 53 #[.agg #[.int .i64 a,.int .i64 b,.int .i64 c,.int .i64 d,.int .i64 f]] w λe h=>e=.returned (.int .i64 (DB a b c d f))/\Below w.heap.size w h:=by
 go_enter Tryz.func53,Tryz.ntmps53
 go_wp2
 go_loop [6] (λi=>∃ k:Nat,k<=5/\i=.int .i64 k/\Hid (eR 0 [a,b,c,d,f]=eR k ([a,b,c,d,f].drop k))) (λi=>5-(intOf i).toNat)
 case atStart=>exact⟨0,by omega,rfl,rfl⟩
 case round=>
  obtain⟨k,l,rfl,H⟩:=hrel
  by_cases g:k<5
  ·have j:=DQ a b c d f k g
   have S:Hid (eR k ([a,b,c,d,f].drop k)=(Bt k (vX a b c d f k)&&eR (k+1) ([a,b,c,d,f].drop (k+1)))):=xV a b c d f k g
   generalize vX a b c d f k=v at*
   go_wp2_with (first | (go_at_call 83;refine (ox _ _).mono ?_;rintro e h ⟨rfl,rfl⟩))
   ·go_ret
    exact⟨by rw[A5 H S ‹_›];rfl,(Below.refl _ _).alloc (Nat.le_refl _) _⟩
   ·exact⟨⟨k+1,by omega,by go_num,C6 H S ‹_›⟩,by simp[intOf];omega⟩
   ·go_ret
    exact⟨by rw[A5 H S (.inl ‹_›)];rfl,(Below.refl _ _).alloc (Nat.le_refl _) _⟩
  ·go_wp2
   go_ret
   exact⟨by rw[Dh H (by omega)];rfl,(Below.refl _ _).alloc (Nat.le_refl _) _⟩
end Go.Proofs.YtnpdhopjpjickaaGreatDoor
end
section
set_option linter.all false
set_option maxRecDepth 100000
namespace Go.Proofs.YtnpdhopjpjickaaGreatDoor
open Go.ChangeShapes Go.WideShapes Go.ChangeAt Go.RowKit Go.Deep
theorem ag:maxLen=9223372036854775807:=by decide
def wf (n:Int):Prop:=(Lit.int .i64 n).wf=true
theorem Below.drewN_ {B:Nat} {a w:World} (h:Below B a w) (n:Nat):Below B a (w.drewN n):=⟨h.os,h.tape,h.output,h.size,h.block⟩
theorem Below.thenOf {n:Nat} {w v a:World} (h:Below n w v) (b:Below v.heap.size v a) (c:n<=v.heap.size):Below n w a:=h.trans (b.mono c)
def fK (x:Nat->Int):Value:=.agg #[.int .i64 (x 0),.int .i64 (x 1),.int .i64 (x 2),.int .i64 (x 3),.int .i64 (x 4)]
def dw (x:Nat->Int):Int:=DB (x 0) (x 1) (x 2) (x 3) (x 4)
def t7 (w:World) (b:Nat) (x:Nat->Int):Prop:=∀ j,j<5->w.cell? ⟨b,j,none⟩=some (.int .i64 (x j))
theorem t7.later {B b:Nat} {w w':World} {x:Nat->Int} (h:t7 w b x) (a:Below B w w') (c:b<B):t7 w' b x:=λj d=>(a.cell (p:=⟨b,j,none⟩) c).trans (h j d)
theorem t7.made (x:Nat->Int) (w:World) (T:TypeId):t7 (w.alloc (.cells #[.int .i64 (x 0),.int .i64 (x 1),.int .i64 (x 2),.int .i64 (x 3),.int .i64 (x 4)] T)) w.heap.size x:=by
 intro j h
 have:j=0\/j=1\/j=2\/j=3\/j=4:=by omega
 rcases this with rfl | rfl | rfl | rfl | rfl<;>simp[go_sem]
theorem bJ {c:Func} {p:Tmp} {d:TypeId} (h:c.results=#[.cell p d]) (b:Array Value) (P:Program) (w:World):
  (results c b).run P w=((asAddr (b.getD p undef)).run P w).andThen λa e=>(loadVar d a).run P e:=by
 simp only[results,h]
 simp[Sem.run_bind,Result.andThen]
theorem jo (n:Int):aF n<=65535:=by
 unfold aF
 split
 ·omega
 ·split<;>omega
theorem F6:ownKnob Tryz.prog.godebug=none:=by kernel_rfl
theorem vy {P:Program} {w:World} {r:Reach} {a:Nat} {t:TypeId} {v:Value} {n:Nat} {e:TypeId} (c:P.underlying t=some (.array n e)) (h:Value.okWide P w r a t v):∃ b,v=.agg b/\b.size=P.cellsOf t:=by
 unfold Value.okWide at h
 rw[c] at h
 obtain⟨b,d,f,_⟩:=h
 exact⟨b,d,f⟩
theorem nj {P:Program} {w:World} {r:Reach} {a:Nat} {t:TypeId} {v:Value} {c:Array Field} (d:P.underlying t=some (.struct c)) (h:Value.okWide P w r a t v):∃ b,v=.agg b/\b.size=P.cellsOf t:=by
 unfold Value.okWide at h
 rw[d] at h
 obtain⟨b,e,f,_⟩:=h
 exact⟨b,e,f⟩
theorem Ef {H:Type} {f:TypeId × Value->H} {W:World} {r:Reach} {z b:Nat} {A:Nat->Bool} {c:Bool} {v:Value} {d:DataW H} {p:List MemPlace}
  (B:Value.okWide Tryz.prog W r z 34 v) (h:DataW.Trod f Tryz.prog W b A c 34 v d p):∃ x:Nat->Int,v=fK x:=by
 obtain⟨C,rfl,e⟩:=vy Tryz.underlying34 B
 obtain⟨i,D⟩:=h
 obtain⟨E,m,_,_,_,F,a⟩:=DataW.trod_array Tryz.underlying34 D
 have g:Tryz.prog.cellsOf 34=5:=by kernel_rfl
 have G:Tryz.prog.cellsOf 3=1:=by kernel_rfl
 rw[g] at e
 rw[G] at a
 obtain⟨l⟩:=C
 match l,e with
 | [N,O,P,Q,R],_=>
  match E,F with
  | [S,T,U,V,X],_=>
   have j:=a 0 (by omega)
   have k:=a 1 (by omega)
   have n:=a 2 (by omega)
   have o:=a 3 (by omega)
   have q:=a 4 (by omega)
   simp[Value.cells] at j k n o q
   obtain⟨I,s,_,_⟩:=DataW.trod_int Tryz.underlying3 j
   obtain⟨J,t,_,_⟩:=DataW.trod_int Tryz.underlying3 k
   obtain⟨K,u,_,_⟩:=DataW.trod_int Tryz.underlying3 n
   obtain⟨L,w,_,_⟩:=DataW.trod_int Tryz.underlying3 o
   obtain⟨M,y,_,_⟩:=DataW.trod_int Tryz.underlying3 q
   simp at s t u w y
   subst s t u w y
   exact⟨vX I J K L M,rfl⟩
theorem ic {α:Type} (p:Nat->α->Prop):∀ n,(∀ i,i<n->∃ x,p i x)->∃ l:List α,l.length=n/\∀ i x,l[i]?=some x->p i x
 | 0,_=>⟨[],rfl,λi x h=>by simp at h⟩
 | n+1,h=>by
  obtain⟨l,b,d⟩:=ic p n λi e=>h i (by omega)
  obtain⟨x,f⟩:=h n (by omega)
  refine⟨l++[x],by simp[b],λi y a=>?_⟩
  by_cases e:i<n
  ·rw[List.getElem?_append_left (by omega)] at a
   exact d i y a
  ·have c:i<(l++[x]).length:=(List.getElem?_eq_some_iff.1 a).1
   simp[b] at c
   obtain rfl:i=n:=by omega
   rw[List.getElem?_append_right (by omega)] at a
   simp[b] at a
   subst a
   exact f
theorem gn {w:World} {a:Addr} {v:Value} (h:w.cell? (a.add 0)=some v):a=⟨a.block,a.off,none⟩/\a.block<w.heap.size:=by
 have c:a.add 0=a:=by simp[Addr.add]
 rw[c] at h
 refine⟨?_,World.block_lt_of_cell? _ _ h⟩
 obtain⟨b,o,d⟩:=a
 cases d with
 | none=>rfl
 | some k=>
  exfalso
  unfold World.cell? at h
  split at h<;>simp at h
theorem dL (b o i:Nat):(⟨b,o,none⟩:Addr).add i=⟨b,o+i,none⟩:=by
 unfold Addr.add
 by_cases h:i=0<;>simp[h]
end Go.Proofs.YtnpdhopjpjickaaGreatDoor
end
section
set_option linter.all false
namespace Go.Proofs.YtnpdhopjpjickaaGreatDoor
open Go.RowKit Go.Maps
abbrev aB:=Int × Int × Int
abbrev ai:=List aB × Int
abbrev ap:=List ai × Int
def Cg (c:aB):Value:=.agg #[.int .i64 c.1,.int .i64 c.2.1,.int .i64 c.2.2]
def gl (w:World) (b o:Nat) (c:aB):Prop:=
 w.cell? ⟨b,o,none⟩=some (.int .i64 c.1)/\w.cell? ⟨b,o+1,none⟩=some (.int .i64 c.2.1)/\w.cell? ⟨b,o+2,none⟩=some (.int .i64 c.2.2)/\wf c.1/\wf c.2.1/\wf c.2.2
def bB (B:Nat) (w:World) (v:Value) (cs:List aB):Prop:=
 ∃ a d,v=.slice a cs.length d/\cs.length<=d/\d<=maxLen/\∀ i c,cs[i]?=some c->∃ b o,a=some ⟨b,o,none⟩/\b<B/\gl w b (o+i*3) c
def gF (B:Nat) (w:World) (b o:Nat) (r:ai):Prop:=
 ∃ a,w.cell? ⟨b,o,none⟩=some a/\w.cell? ⟨b,o+1,none⟩=some (.int .i64 r.2)/\wf r.2/\bB B w a r.1
def be (B:Nat) (w:World) (v:Value) (d:List ai):Prop:=
 ∃ a c,v=.slice a d.length c/\d.length<=c/\c<=maxLen/\∀ i r,d[i]?=some r->∃ b o,a=some ⟨b,o,none⟩/\b<B/\gF B w b (o+i*2) r
def bG (B:Nat) (w:World) (v:Value) (p:ap):Prop:=
 ∃ a,v=.agg #[a,.int .i64 p.2]/\wf p.2/\be B w a p.1
theorem gl.later {B:Nat} {w w':World} {b o:Nat} {c:aB} (h:gl w b o c) (a:Below B w w') (d:b<B):gl w' b o c:=by
 unfold gl
 rw[a.cell (p:=⟨b,o,none⟩) d,a.cell (p:=⟨b,o+1,none⟩) d,a.cell (p:=⟨b,o+2,none⟩) d]
 exact h
theorem bB.later {B f:Nat} {w w':World} {v:Value} {cs:List aB} (h:bB B w v cs) (g:Below f w w') (r:B<=f):bB B w' v cs:=by
 obtain⟨a,d,j,l,m,n⟩:=h
 refine⟨a,d,j,l,m,λi c p=>?_⟩
 obtain⟨b,o,e,q,k⟩:=n i c p
 exact⟨b,o,e,q,k.later g (by omega)⟩
theorem gF.later {B a:Nat} {w w':World} {b o:Nat} {r:ai} (h:gF B w b o r) (c:Below a w w') (d:B<=a) (k:b<B):gF B w' b o r:=by
 obtain⟨e,f,g,i,j⟩:=h
 exact⟨e,(c.cell (p:=⟨b,o,none⟩) (by show b<a;omega)).trans f,(c.cell (p:=⟨b,o+1,none⟩) (by show b<a;omega)).trans g,i,j.later c d⟩
theorem be.later {B f:Nat} {w w':World} {v:Value} {g:List ai} (h:be B w v g) (l:Below f w w') (m:B<=f):be B w' v g:=by
 obtain⟨a,d,n,p,q,r⟩:=h
 refine⟨a,d,n,p,q,λi c s=>?_⟩
 obtain⟨b,o,e,j,k⟩:=r i c s
 exact⟨b,o,e,j,k.later l m j⟩
theorem bG.later {B a:Nat} {w w':World} {v:Value} {p:ap} (h:bG B w v p) (b:Below a w w') (c:B<=a):bG B w' v p:=by
 obtain⟨d,e,f,g⟩:=h
 exact⟨d,e,f,g.later b c⟩
def bi (v:Int):Bool:=decide (0<=v)&&decide (v<=4)
def aW (c:aB):Int:=if c.1<0\/5<=c.1 then 5 else if c.2.1<1\/4<c.2.1 then 4 else if c.2.2<0\/aF c.1<c.2.2 then 3 else 0
def dB:List aB->Int
 | []=>0
 | c :: r=>if aW c=0 then dB r else aW c
def aR (r:ai):Int:=if 10<r.1.length then 2 else if bi r.2 then dB r.1 else 3
def d4:List ai->Int
 | []=>0
 | r :: s=>if aR r=0 then d4 s else aR r
def ae (p:ap):Int:=if 120<p.1.length then 2 else if bi p.2 then d4 p.1 else 3
set_option maxHeartbeats 400000 in
theorem ie (v:Int) (w:World):
  Calls Tryz.prog 186 #[.int .i64 v] w λe a=>e=.returned (.bool (bi v))/\a=w:=by
 unfold bi
 by_cases b:0<=v
 ·go_enter Tryz.func186,Tryz.ntmps186
  go_wp2
  go_ret
  exact⟨by simp[b],rfl⟩
 ·go_enter Tryz.func186,Tryz.ntmps186
  go_wp2
  go_ret
  exact⟨by simp;omega,rfl⟩
set_option maxHeartbeats 400000 in
theorem tl (f o v:Int) (w:World):
  Calls Tryz.prog 214 #[.agg #[.int .i64 f,.int .i64 o,.int .i64 v]] w λe l=>e=.returned (.int .i64 (aW (f,o,v)))/\Below w.heap.size w l:=by
 have c:∀ x,Below w.heap.size w (w.alloc x):=λx=>(Below.refl _ _).alloc (Nat.le_refl _) _
 go_enter Tryz.func214,Tryz.ntmps214
 by_cases b:f<0\/5<=f
 ·go_wp2
  all_goals
   go_ret
   exact⟨by rw[aW,if_pos b];rfl,c _⟩
 ·by_cases d:o<1\/4<o
  ·go_wp2
   all_goals
    go_ret
    exact⟨by rw[aW,if_neg b,if_pos d];rfl,c _⟩
  ·go_wp2
   have a:=c (.cells #[.int .i64 f,.int .i64 o,.int .i64 v] 145)
   have i:w.heap.size<(w.alloc (.cells #[.int .i64 f,.int .i64 o,.int .i64 v] 145)).heap.size:=by simp
   have j:(w.alloc (.cells #[.int .i64 f,.int .i64 o,.int .i64 v] 145)).cell? ⟨w.heap.size,0,none⟩=some (.int .i64 f):=by simp[go_sem]
   have k:(w.alloc (.cells #[.int .i64 f,.int .i64 o,.int .i64 v] 145)).cell? ⟨w.heap.size,2,none⟩=some (.int .i64 v):=by simp[go_sem]
   generalize w.alloc (.cells #[.int .i64 f,.int .i64 o,.int .i64 v] 145)=W at*
   have m:=aw.ne W
   have q:∀ x:aw W,x.1.cell? ⟨w.heap.size,0,none⟩=some (.int .i64 f):=λx=>x.cell j i
   have r:∀ x:aw W,x.1.cell? ⟨w.heap.size,2,none⟩=some (.int .i64 v):=λx=>x.cell k i
   clear j k c
   by_cases h:v<0
   ·have n:decide (v<0)=true:=by simpa using h
    refine bn (by kernel_rfl) (by kernel_rfl) ?_
    repeat (go_big_quiet_step (first | (go_at_call 83;exact Calls.later_same (ox _ _))))
    refine wpQuiet_nil ?_
    rintro p ⟨⟨_,g⟩,rfl⟩
    go_wp2
    go_ret
    exact⟨by rw[aW,if_neg b,if_neg d,if_pos (.inl h)];rfl,a.trans (g.mono a.size)⟩
   ·have n:decide (v<0)=false:=by simpa using h
    refine bn (by kernel_rfl) (by kernel_rfl) ?_
    repeat (go_big_quiet_step (first | (go_at_call 83;exact Calls.later_same (ox _ _))))
    refine wpQuiet_nil ?_
    rintro p ⟨⟨_,g⟩,rfl⟩
    go_wp2
    ·go_ret
     exact⟨by rw[aW,if_neg b,if_neg d,if_pos (.inr ‹_›)];rfl,a.trans (g.mono a.size)⟩
    ·go_ret
     exact⟨by rw[aW,if_neg b,if_neg d,if_neg (by show ¬(v<0\/aF f<v);omega)];rfl,a.trans (g.mono a.size)⟩
end Go.Proofs.YtnpdhopjpjickaaGreatDoor
end
section
set_option linter.all false
namespace Go.Proofs.YtnpdhopjpjickaaGreatDoor
open Go.RowKit Go.Maps
theorem ni (cs:List aB) (k:Nat) (c:aB) (h:cs[k]?=some c):dB (cs.drop k)=if aW c=0 then dB (cs.drop (k+1)) else aW c:=by
 obtain⟨a,rfl⟩:=List.getElem?_eq_some_iff.1 h
 rw[List.drop_eq_getElem_cons a]
 rfl
theorem mQ (a:List ai) (k:Nat) (r:ai) (h:a[k]?=some r):d4 (a.drop k)=if aR r=0 then d4 (a.drop (k+1)) else aR r:=by
 obtain⟨b,rfl⟩:=List.getElem?_eq_some_iff.1 h
 rw[List.drop_eq_getElem_cons b]
 rfl
set_option maxHeartbeats 1000000 in
theorem tC (B:Nat) (cv:Value) (r:ai) (w:World) (I:bB B w cv r.1) (X:B<=w.heap.size):
  Calls Tryz.prog 187 #[.agg #[cv,.int .i64 r.2]] w λe m=>e=.returned (.int .i64 (aR r))/\Below w.heap.size w m:=by
 obtain⟨d,l⟩:=r
 obtain⟨a,u,rfl,y,J,j⟩:=I
 have z:∀ x,Below w.heap.size w (w.alloc x):=λx=>(Below.refl _ _).alloc (Nat.le_refl _) _
 have K:Hid (∀ n,10<d.length->n=2->aR (d,l)=n):=by intro n h e;subst e;simp[aR,h]
 show Calls Tryz.prog 187 #[.agg #[.slice a d.length u,.int .i64 l]] w _
 simp only[] at j y
 have p:=hid j
 clear j
 generalize Y:d.length=n at*
 by_cases L:10<n
 ·have M:(10:Int)<(n:Int):=by omega
  go_enter Tryz.func187,Tryz.ntmps187
  go_wp2
  go_ret
  exact⟨by rw[K.out 2 L rfl];rfl,z _⟩
 ·by_cases A:bi l=false
  ·go_enter Tryz.func187,Tryz.ntmps187
   go_wp2_with (first | (go_at_call 186;refine (ie _ _).mono ?_;rintro e m ⟨rfl,rfl⟩))
   go_ret
   exact⟨by rw[aR,if_neg (by show ¬10<d.length;omega),if_neg (by show ¬bi l=true;simp[A])];rfl,z _⟩
  ·have C:bi l=true:=by simpa using A
   have G:Hid (aR (d,l)=dB d):=by unfold Hid;rw[aR,if_neg (by show ¬10<d.length;omega),if_pos C]
   clear A
   go_enter Tryz.func187,Tryz.ntmps187
   go_wp2_with (first | (go_at_call 186;refine (ie _ _).mono ?_;rintro e m ⟨rfl,rfl⟩))
   go_loopw [17] (λi wr=>∃ k:Nat,k<=n/\i=.int .i64 k/\Hid (dB d=dB (d.drop k))/\Below w.heap.size w wr) (λi _=>n-(intOf i).toNat)
   case atStart=>exact⟨0,by omega,rfl,rfl,z _⟩
   case round=>
    obtain⟨k,Z,rfl,H,g⟩:=hrel
    have i0:(0:Int)<=(k:Int):=by omega
    by_cases N:k<n
    ·have i1:(k:Int)<(n:Int):=by omega
     obtain⟨c,q⟩:∃ c,d[k]?=some c:=⟨d[k]'(by omega),by simp⟩
     obtain⟨b,o,rfl,O,D⟩:=p.out k c q
     have S:Hid (dB (d.drop k)=if aW c=0 then dB (d.drop (k+1)) else aW c):=ni d k c q
     obtain⟨f,t,v⟩:=c
     obtain⟨P,Q,R,T,U,V⟩:=D.later g (by omega)
     simp only[] at P Q R T U V
     go_wp2_with (first | (go_at_call 214;refine (tl _ _ _ _).mono ?_;rintro e m ⟨rfl,E⟩))
     all_goals have s:Below w.heap.size w m:=Below.thenOf (g.alloc g.size _) E (by simp;have:=g.size;omega)
     ·have F:aW (f,t,v)≠0:=by simpa using (by assumption:(aW (f,t,v) != 0)=true)
      go_ret
      exact⟨by rw[G.out,H.out,S.out,if_neg F];rfl,s⟩
     ·have W:aW (f,t,v)=0:=by simpa using (by assumption:(aW (f,t,v) != 0)=false)
      exact⟨⟨k+1,by omega,by go_num,by unfold Hid;rw[H.out,S.out,if_pos W],s⟩,by simp[intOf];omega⟩
    ·go_wp2
     go_ret
     exact⟨by rw[G.out,H.out,List.drop_eq_nil_of_le (by omega)];rfl,g⟩
set_option maxHeartbeats 1000000 in
theorem fm (B:Nat) (K:Value) (p:ap) (w:World) (P:bG B w K p) (Q:B<=w.heap.size):
  Calls Tryz.prog 152 #[K] w λe s=>e=.returned (.int .i64 (ae p))/\Below w.heap.size w s:=by
 obtain⟨g,d⟩:=p
 obtain⟨Z,rfl,_,a,A,rfl,C,R,m⟩:=P
 have D:∀ x,Below w.heap.size w (w.alloc x):=λx=>(Below.refl _ _).alloc (Nat.le_refl _) _
 have T:Hid (∀ n,120<g.length->n=2->ae (g,d)=n):=by intro n h e;subst e;simp[ae,h]
 show Calls Tryz.prog 152 #[.agg #[.slice a g.length A,.int .i64 d]] w _
 simp only[] at m C
 have t:=hid m
 clear m
 generalize hn:g.length=n at*
 by_cases U:120<n
 ·have V:(120:Int)<(n:Int):=by omega
  go_enter Tryz.func152,Tryz.ntmps152
  go_wp2
  go_ret
  exact⟨by rw[T.out 2 U rfl];rfl,D _⟩
 ·by_cases E:bi d=false
  ·go_enter Tryz.func152,Tryz.ntmps152
   go_wp2_with (first | (go_at_call 186;refine (ie _ _).mono ?_;rintro e s ⟨rfl,rfl⟩))
   go_ret
   exact⟨by rw[ae,if_neg (by show ¬120<g.length;omega),if_neg (by show ¬bi d=true;simp[E])];rfl,D _⟩
  ·have F:bi d=true:=by simpa using E
   have L:Hid (ae (g,d)=d4 g):=by unfold Hid;rw[ae,if_neg (by show ¬120<g.length;omega),if_pos F]
   clear E
   go_enter Tryz.func152,Tryz.ntmps152
   go_wp2_with (first | (go_at_call 186;refine (ie _ _).mono ?_;rintro e s ⟨rfl,rfl⟩))
   go_loopw [17] (λi wr=>∃ k:Nat,k<=n/\i=.int .i64 k/\Hid (d4 g=d4 (g.drop k))/\Below w.heap.size w wr) (λi _=>n-(intOf i).toNat)
   case atStart=>exact⟨0,by omega,rfl,rfl,D _⟩
   case round=>
    obtain⟨k,hk,rfl,H,j⟩:=hrel
    have i0:(0:Int)<=(k:Int):=by omega
    by_cases W:k<n
    ·have i1:(k:Int)<(n:Int):=by omega
     obtain⟨c,u⟩:∃ c,g[k]?=some c:=⟨g[k]'(by omega),by simp⟩
     obtain⟨b,o,rfl,G,v⟩:=t.out k c u
     have S:Hid (d4 (g.drop k)=if aR c=0 then d4 (g.drop (k+1)) else aR c):=mQ g k c u
     obtain⟨M,c0,c1,w0,l⟩:=v.later j Q G
     obtain⟨y,N,f,rfl,q⟩:∃ y N f,M=.slice y N f/\Hid (bB B wr M c.1):=by
      obtain⟨y,f,O,r⟩:=l
      exact⟨y,_,f,O,y,f,O,r⟩
     have X:=j.size
     clear l v
     go_wp2_with (first | (go_at_call 187;refine (tC B _ c _ (q.out.later ((Below.refl wr.heap.size _).alloc (Nat.le_refl _) _) (by omega)) (by simp;omega)).mono ?_;rintro e s ⟨rfl,I⟩))
     all_goals have z:Below w.heap.size w s:=Below.thenOf (j.alloc j.size _) I (by simp;have:=j.size;omega)
     ·have J:aR c≠0:=by simpa using (by assumption:(aR c != 0)=true)
      go_ret
      exact⟨by rw[L.out,H.out,S.out,if_neg J];rfl,z⟩
     ·have Y:aR c=0:=by simpa using (by assumption:(aR c != 0)=false)
      exact⟨⟨k+1,by omega,by go_num,by unfold Hid;rw[H.out,S.out,if_pos Y],z⟩,by simp[intOf];omega⟩
    ·go_wp2
     go_ret
     exact⟨by rw[L.out,H.out,List.drop_eq_nil_of_le (by omega)];rfl,j⟩
end Go.Proofs.YtnpdhopjpjickaaGreatDoor
end
section
set_option linter.all false
namespace Go.Proofs.YtnpdhopjpjickaaGreatDoor
open Go.RowKit Go.Maps
theorem E5 (f o v:Int) (w:World) (T:TypeId):(w.alloc (.cells #[.int .i64 f,.int .i64 o,.int .i64 v] T)).cell? ⟨w.heap.size,0,none⟩=some (.int .i64 f)/\(w.alloc (.cells #[.int .i64 f,.int .i64 o,.int .i64 v] T)).cell? ⟨w.heap.size,1,none⟩=some (.int .i64 o)/\(w.alloc (.cells #[.int .i64 f,.int .i64 o,.int .i64 v] T)).cell? ⟨w.heap.size,2,none⟩=some (.int .i64 v):=by
 refine⟨?_,?_,?_⟩<;>simp[go_sem]
set_option maxHeartbeats 4000000 in
theorem qC (B:Nat) (pv:Value) (p:ap) (w:World) (hp:bG B w pv p) (hB:B<=w.heap.size):
  Calls Tryz.prog 98 #[pv] w λe y=>e=.returned (.int .i64 (ae p))/\Below w.heap.size w y:=by
 obtain⟨l,d⟩:=p
 obtain⟨rv,rfl,_,a,a6,rfl,a7,bp,D⟩:=hp
 have hb:∀ x,Below w.heap.size w (w.alloc x):=λx=>(Below.refl _ _).alloc (Nat.le_refl _) _
 have HR:Hid (∀ n,120<l.length->n=2->ae (l,d)=n):=by intro n h e;subst e;simp[ae,h]
 show Calls Tryz.prog 98 #[.agg #[.slice a l.length a6,.int .i64 d]] w _
 simp only[] at D a7
 have J:=hid D
 clear D
 generalize hn:l.length=n at*
 by_cases h0:120<n
 ·have bs:(120:Int)<(n:Int):=by omega
  go_enter Tryz.func98,Tryz.ntmps98
  go_wp2
  go_ret
  exact⟨by rw[HR.out 2 h0 rfl];rfl,hb _⟩
 ·by_cases z:bi d=false
  ·unfold bi at z
   go_enter Tryz.func98,Tryz.ntmps98
   go_wp2_with (first | (go_at_call 42;refine (ml _ _ _ _).mono ?_;rintro e y ⟨rfl,rfl⟩))
   go_ret
   exact⟨by rw[ae,if_neg (by show ¬120<l.length;omega),if_neg (by show ¬bi d=true;rw[bi,z];decide)];rfl,hb _⟩
  ·have K:bi d=true:=by simpa using z
   have F:Hid (ae (l,d)=d4 l):=by unfold Hid;rw[ae,if_neg (by show ¬120<l.length;omega),if_pos K]
   clear z
   unfold bi at K
   go_enter Tryz.func98,Tryz.ntmps98
   go_wp2_with (first | (go_at_call 42;refine (ml _ _ _ _).mono ?_;rintro e y ⟨rfl,rfl⟩))
   go_loopw [18] (λi wr=>∃ k:Nat,k<=n/\i=.int .i64 k/\Hid (d4 l=d4 (l.drop k))/\Below w.heap.size w wr) (λi _=>n-(intOf i).toNat)
   case atStart=>exact⟨0,by omega,rfl,rfl,hb _⟩
   case round=>
    obtain⟨k,hk,rfl,H,q⟩:=hrel
    obtain⟨L,a9⟩:∃ x,x=wr:=⟨_,rfl⟩
    subst a9
    have i0:(0:Int)<=(k:Int):=by omega
    by_cases bv:k<n
    ·have i1:(k:Int)<(n:Int):=by omega
     obtain⟨c,M⟩:∃ c,l[k]?=some c:=⟨l[k]'(by omega),by simp⟩
     obtain⟨b,o,rfl,aa,N⟩:=J.out k c M
     have S:Hid (d4 (l.drop k)=if aR c=0 then d4 (l.drop (k+1)) else aR c):=mQ l k c M
     obtain⟨cv,c0,c1,w0,O⟩:=N.later q hB aa
     obtain⟨g,G⟩:=c
     obtain⟨a2,b8,rfl,P,b9,E⟩:=O
     simp only[] at E P c0 c1
     have Q:=hid E
     clear E N
     generalize hm:g.length=m at*
     have R:=q.size
     have A:∀ x,Below w.heap.size w (L.alloc x):=λx=>q.alloc q.size _
     by_cases q0:10<m
     ·have c3:(10:Int)<(m:Int):=by omega
      have he:aR (g,G)=2:=by rw[aR,if_pos (by show 10<g.length;omega)]
      have C:=hid he
      clear he
      go_wp2
      go_ret
      exact⟨by rw[F.out,H.out,S.out,C.out];rfl,A _⟩
     ·by_cases qv:bi G=false
      ·have C:Hid (aR (g,G)=3):=by unfold Hid;rw[aR,if_neg (by show ¬10<g.length;omega),if_neg (by show ¬bi G=true;simp[qv])]
       unfold bi at qv
       go_wp2_with (first | (go_at_call 42;refine (ml _ _ _ _).mono ?_;rintro e y ⟨rfl,rfl⟩))
       go_ret
       exact⟨by rw[F.out,H.out,S.out,C.out];rfl,A _⟩
      ·have T:bi G=true:=by simpa using qv
       have C:Hid (aR (g,G)=dB g):=by unfold Hid;rw[aR,if_neg (by show ¬10<g.length;omega),if_pos T]
       clear qv
       unfold bi at T
       go_wp2_with (first | (go_at_call 42;refine (ml _ _ _ _).mono ?_;rintro e y ⟨rfl,rfl⟩))
       go_loopw [35] (λi t=>∃ j:Nat,j<=m/\i=.int .i64 j/\Hid (dB g=dB (g.drop j))/\Below L.heap.size L t) (λi _=>m-(intOf i).toNat)
       case atStart=>exact⟨0,by omega,rfl,rfl,(Below.refl _ _).alloc (Nat.le_refl _) _⟩
       case round=>
        obtain⟨j,hj,rfl,U,s⟩:=hrel
        obtain⟨t,ak⟩:∃ x,x=wr:=⟨_,rfl⟩
        subst ak
        have j0:(0:Int)<=(j:Int):=by omega
        have V:=s.size
        by_cases bb:j<m
        ·have j1:(j:Int)<(m:Int):=by omega
         obtain⟨c,X⟩:∃ c,g[j]?=some c:=⟨g[j]'(by omega),by simp⟩
         obtain⟨b2,o2,rfl,bc,Y⟩:=Q.out j c X
         have S2:Hid (dB (g.drop j)=if aW c=0 then dB (g.drop (j+1)) else aW c):=ni g j c X
         obtain⟨f,r,v⟩:=c
         obtain⟨e0,e1,e2,w0,w1,w2⟩:=Y.later s (by omega)
         simp only[] at e0 e1 e2 w0 w1 w2
         have u:∀ x,Below w.heap.size w (t.alloc x):=λx=>(Below.thenOf q s R).alloc (by omega) _
         by_cases I:f<0\/5<=f
         ·have Hc:Hid (aW (f,r,v)=5):=by unfold Hid;rw[aW,if_pos I]
          have av:(decide (0<=f)&&decide (f<=4))=false:=by simp;omega
          clear I
          go_wp2_with (first | (go_at_call 42;refine (ml _ _ _ _).mono ?_;rintro e y ⟨rfl,rfl⟩))
          go_ret
          exact⟨by rw[F.out,H.out,S.out,C.out,U.out,S2.out,Hc.out];rfl,u _⟩
         ·have av:(decide (0<=f)&&decide (f<=4))=true:=by simp;omega
          by_cases o0:r<1\/4<r
          ·have Hc:Hid (aW (f,r,v)=4):=by unfold Hid;rw[aW,if_neg I,if_pos o0]
           have b0:(decide (1<=r)&&decide (r<=4))=false:=by simp;omega
           clear I o0
           go_wp2_with (first | (go_at_call 42;refine (ml _ _ _ _).mono ?_;rintro e y ⟨rfl,rfl⟩))
           go_ret
           exact⟨by rw[F.out,H.out,S.out,C.out,U.out,S2.out,Hc.out];rfl,u _⟩
          ·have b0:(decide (1<=r)&&decide (r<=4))=true:=by simp;omega
           have Hf:=hid I
           have Ho:=hid o0
           clear I o0
           go_wp2_with (first | (go_at_call 42;refine (ml _ _ _ _).mono ?_;rintro e y ⟨rfl,rfl⟩))
           have hC:=E5 f r v t 145
           have hz:t.heap.size<(t.alloc (.cells #[.int .i64 f,.int .i64 r,.int .i64 v] 145)).heap.size:=by simp
           have Z:=u (.cells #[.int .i64 f,.int .i64 r,.int .i64 v] 145)
           have a0:=s.alloc V (.cells #[.int .i64 f,.int .i64 r,.int .i64 v] 145)
           generalize t.alloc (.cells #[.int .i64 f,.int .i64 r,.int .i64 v] 145)=W at*
           have b3:=aw.ne W
           have c0:∀ x:aw W,x.1.cell? ⟨t.heap.size,0,none⟩=some (.int .i64 f):=λx=>x.cell hC.1 hz
           have c2:∀ x:aw W,x.1.cell? ⟨t.heap.size,2,none⟩=some (.int .i64 v):=λx=>x.cell hC.2.2 hz
           clear hC
           have b4:(Lit.int .i64 f).wf=true:=w0
           refine bn (by kernel_rfl) (by kernel_rfl) ?_
           repeat (go_big_quiet_step (first | (go_at_call 46;exact Calls.later (rh _ b4 _)) | (go_at_call 42;exact Calls.later_same (ml _ _ _ _))))
           refine wpQuiet_nil ?_
           rintro wx ⟨⟨_,hx⟩,rfl⟩
           have b6:Below w.heap.size w wx:=Below.thenOf Z hx Z.size
           have a1:Below L.heap.size L wx:=Below.thenOf a0 hx a0.size
           clear c0 c2 b3 hx u
           go_wp2
           ·have z:v<0\/aF f<v:=by
             have h:(!decide (0<=v))=true\/(!decide (v<=aF f))=true:=by assumption
             simp at h;omega
            go_ret
            exact⟨by rw[F.out,H.out,S.out,C.out,U.out,S2.out,(by rw[aW,if_neg Hf.out,if_neg Ho.out,if_pos z]:aW (f,r,v)=3)];rfl,b6⟩
           ·have z:¬(v<0\/aF f<v):=by
             have h:(!decide (0<=v))=false/\(!decide (v<=aF f))=false:=by assumption
             simp at h;omega
            exact⟨⟨j+1,by omega,by go_num,by unfold Hid;rw[U.out,S2.out,(by rw[aW,if_neg Hf.out,if_neg Ho.out,if_neg z]:aW (f,r,v)=0)];rfl,a1⟩,by simp[intOf];omega⟩
        ·go_wp2
         exact⟨⟨k+1,by omega,by go_num,by unfold Hid;rw[H.out,S.out,C.out,U.out,List.drop_eq_nil_of_le (by omega:g.length<=j)];rfl,Below.thenOf q s R⟩,by simp[intOf];omega⟩
    ·go_wp2
     go_ret
     exact⟨by rw[F.out,H.out,List.drop_eq_nil_of_le (by omega)];rfl,q⟩
end Go.Proofs.YtnpdhopjpjickaaGreatDoor
end
section
set_option linter.all false
namespace Go.Proofs.YtnpdhopjpjickaaGreatDoor
open Go.RowKit
section
variable {P:Program} {ops:Array Oper} {md:Region.Mode} {D:World->Prop} {C:Nat->World->Prop} {ks:Nat->Bool}
def pw (P:Program) (o:Oper) (a:Act) (w:World) (v:Value):Prop:=(execOp a.eval o).run P w=.ok (.value v) w\/((execOp a.eval o).run P w=.ok .skip w/\v=undef)
def zy (P:Program) (o:Oper) (a:Act) (c:World->Prop) (w:World) (v:Value):Prop:=∃ b,c b/\((execOp a.eval o).run P w=.ok (.value v) b\/((execOp a.eval o).run P w=.ok .skip b/\v=undef))
def YR (P:Program) (ops:Array Oper) (D:World->Prop) (o:Oper) (v:Value) (a:Act):Prop:=
 (Region.wanted o (yielded ops a.tmps)=true/\∀ w,D w->pw P o a w v)\/(Region.wanted o (yielded ops a.tmps)=false/\v=undef)
def YW (P:Program) (ops:Array Oper) (C:Nat->World->Prop) (s:Nat) (o:Oper) (v:Value) (a:Act):Prop:=
 Region.wanted o (yielded ops a.tmps)=true/\∀ w,C s w->zy P o a (C (s+1)) w v
theorem YR.of_same {o:Oper} {v:Value} {a b:Act} (c:YR P ops D o v a) (d:execOp b.eval o=execOp a.eval o) (e:Region.wanted o (yielded ops b.tmps)=Region.wanted o (yielded ops a.tmps)):YR P ops D o v b:=by
 unfold YR pw at*
 rw[d,e]
 exact c
theorem YW.of_same {s:Nat} {o:Oper} {v:Value} {a b:Act} (c:YW P ops C s o v a) (d:execOp b.eval o=execOp a.eval o) (e:Region.wanted o (yielded ops b.tmps)=Region.wanted o (yielded ops a.tmps)):YW P ops C s o v b:=by
 unfold YW zy at*
 rw[d,e]
 exact c
def DD (P:Program) (ops:Array Oper) (D:World->Prop) (C:Nat->World->Prop) (ks:Nat->Bool) (i:Nat) (K:Nat->Act->Prop) (s:Nat) (a:Act):Prop:=
 match ops[i]? with
 | none=>K s a
 | some o=>if ks i then ∃ v,YW P ops C s o v a/\K (s+1) (a.put o.dst v) else ∃ v,YR P ops D o v a/\K s (a.put o.dst v)
def nD (P:Program) (md:Region.Mode) (ops:Array Oper) (D:World->Prop) (C:Nat->World->Prop) (ks:Nat->Bool) (n:Nat) (B:Nat->Act->Prop):Nat->Array Bool->Nat->Act->Prop
 | 0,b,s,a=>Region.ready md ops b=[n]/\Region.ready md ops (b.setIfInBounds n true)=[]/\B s a
 | c+1,b,s,a=>Region.ready md ops b≠[]/\∀ i∈Region.ready md ops b,DD P ops D C ks i (nD P md ops D C ks n B c (b.setIfInBounds i true)) s a
theorem kT {o:Oper} {a:Act} {v:Value} {w:World} {K:Act->World->Prop} {Q:Exit->Act->World->Prop} (h:pw P o a w v) (b:K (a.put o.dst v) w):o.wp P a w K Q:=by
 unfold Oper.wp
 rcases h with h | ⟨h,rfl⟩
 ·rw[h];exact b
 ·rw[h];exact b
theorem vK {o:Oper} {a:Act} {v:Value} {c:World->Prop} {w:World} {K:Act->World->Prop} {Q:Exit->Act->World->Prop} (h:zy P o a c w v) (d:∀ b,c b->K (a.put o.dst v) b):o.wp P a w K Q:=by
 unfold Oper.wp
 obtain⟨b,e,h | ⟨h,rfl⟩⟩:=h
 ·rw[h];exact d _ e
 ·rw[h];exact d _ e
theorem iW {n:Nat} {B:Nat->Act->Prop} {Q:Exit->Act->World->Prop} (d:∀ s w,C s w->D w)
  (k:∀ s a w,C s w->B s a->wpOp P ops Q n (λz u=>Q .normal z u) a w):
  ∀ (c:Nat) (b:Array Bool) (s:Nat) (a:Act) (w:World),C s w->nD P md ops D C ks n B c b s a->wpAny P md ops Q (c+1) b a w
 | 0,b,s,a,w,f,h=>by
  obtain⟨p,l,e⟩:=h
  refine⟨λq=>(by rw[p] at q;cases q),λi r=>?_⟩
  rw[p,List.mem_singleton] at r
  subst r
  have:=k s a w f e
  unfold wpOp at this |-
  split at this
  ·rename_i g;simp only[g];exact⟨l,this⟩
  ·rename_i o g
   simp only[g]
   split
   ·rename_i j
    simp only[j,if_true] at this
    exact this.imp (Oper.wp_mono λz u A=>⟨l,A⟩) (λh=>h)
   ·rename_i j
    simp only[j] at this
    exact⟨l,this⟩
 | c+1,b,s,a,w,f,h=>by
  obtain⟨p,l⟩:=h
  refine⟨λq=>absurd q p,λi r=>?_⟩
  have e:=l i r
  unfold DD at e
  unfold wpOp
  split
  ·rename_i g;simp only[g] at e;exact iW d k c _ _ _ _ f e
  ·rename_i o g
   simp only[g] at e
   split at e
   ·obtain⟨v,⟨m,x⟩,t⟩:=e
    simp only[m,if_true]
    exact .inl (vK (x w f) λu E=>iW d k c _ _ _ _ E t)
   ·obtain⟨v,y,t⟩:=e
    rcases y with ⟨m,x⟩ | ⟨m,rfl⟩
    ·simp only[m,if_true]
     exact .inl (kT (x w (d s w f)) (iW d k c _ _ _ _ f t))
    ·simp only[m,Bool.false_eq_true,if_false]
     exact iW d k c _ _ _ _ f t
def cI (md:Region.Mode) (a:Oper) (i:Nat):Prop:=∃ e∈a.after,Region.binds md e=true/\e.on=i
theorem aS {a:Array Bool} {i j:Nat} {h:Oper} (f:ops[j]?=some h) (l:cI md h i) (m:i∈Region.ready md ops a) (n:j∈Region.ready md ops a):False:=by
 obtain⟨e,o,p,rfl⟩:=l
 obtain⟨_,q,b,c⟩:=mem_ready.1 n
 rw[f] at b
 cases b
 have d:=c e o p
 have k:=(mem_ready.1 m).1
 rcases Nat.lt_or_ge e.on a.size with g | g
 ·simp[g] at k d;rw[k] at d;cases d
 ·simp[Array.getElem?_eq_none g] at d
variable {n:Nat} {B:Nat->Act->Prop} {on:Oper}
theorem xt (Z:ops[n]?=some on) {i:Nat} {m:Oper} {v:Value} (M:ops[i]?=some m) (q:ks i=false) (N:cI md on i) (w:∀ (j:Nat) (o:Oper) F b,ops[j]?=some o->o.op≠.select F b):
  ∀ (f:Nat) (c:Array Bool) (s:Nat) (a:Act),
   (∀ j l,ops[j]?=some l->j≠i->c.getD j true=false->(∀ e∈l.after,Region.binds md e=true->e.on≠i)->m.apart ops l=true)->
   i∈Region.ready md ops c->YR P ops D m v a->
   nD P md ops D C ks n B f (c.setIfInBounds i true) s (a.put m.dst v)->nD P md ops D C ks n B (f+1) c s a:=by
 intro f
 induction f with
 | zero=>
  intro c s a _ r L H
  refine⟨λh=>(by rw[h] at r;cases r),λj A=>?_⟩
  by_cases d:j=i
  ·subst d;unfold DD;simp only[M,q];exact⟨v,L,H⟩
  ·have:=ready_mono A d
   rw[H.1,List.mem_singleton] at this
   subst this
   exact (aS Z N r A).elim
 | succ f S=>
  intro c s a p r L H
  refine⟨λh=>(by rw[h] at r;cases r),λj A=>?_⟩
  by_cases d:j=i
  ·subst d;unfold DD;simp only[M,q];exact⟨v,L,H⟩
  ·have E:=H.2 j (ready_mono A d)
   obtain⟨x,l,t,T⟩:=mem_ready.1 A
   have G:∀ e∈l.after,Region.binds md e=true->e.on≠i:=λe he hb O=>aS t ⟨e,he,hb,O⟩ r A
   obtain⟨U,V,W⟩:=Oper.apart_spec (p j l t d x G)
   have g:∀ k ok,ops[k]?=some ok->k≠i->(c.setIfInBounds j true).getD k true=false->
     (∀ e∈ok.after,Region.binds md e=true->e.on≠i)->m.apart ops ok=true:=λk ok I q J Q=>by
    refine p k ok I q ?_ Q
    by_cases K:j=k
    ·subst K;exact x
    ·rw[getD_set_ne true K] at J;exact J
   have z:∀ u,YR P ops D m v (a.put l.dst u):=λu=>L.of_same (execOp_put m (λF b=>w i m F b M) a l.dst u W) (wanted_put m a l.dst u W)
   have X:=execOp_put l (λF b=>w j l F b t) a m.dst v U
   have Y:=wanted_put l a m.dst v U
   unfold DD at E |-
   simp only[t] at E |-
   split
   ·rename_i I
    simp only[I,if_true] at E
    obtain⟨u,y,R⟩:=E
    refine⟨u,y.of_same X.symm Y.symm,S (c.setIfInBounds j true) (s+1) _ g (ready_mono r (Ne.symm d)) (z u) ?_⟩
    rw[Array.setIfInBounds_comm _ _ d,<-Act.put_comm a v u V]
    exact R
   ·rename_i I
    simp only[I] at E
    obtain⟨u,y,R⟩:=E
    refine⟨u,y.of_same X.symm Y.symm,S (c.setIfInBounds j true) s _ g (ready_mono r (Ne.symm d)) (z u) ?_⟩
    rw[Array.setIfInBounds_comm _ _ d,<-Act.put_comm a v u V]
    exact R
theorem vj (W:ops[n]?=some on) {i:Nat} {t:Oper} {v:Value} (M:ops[i]?=some t) (l:ks i=true) (N:cI md on i) (x:∀ (j:Nat) (o:Oper) E b,ops[j]?=some o->o.op≠.select E b):
  ∀ (f:Nat) (c:Array Bool) (s:Nat) (a:Act),
   (∀ j g,ops[j]?=some g->j≠i->c.getD j true=false->(∀ e∈g.after,Region.binds md e=true->e.on≠i)->t.apart ops g=true)->
   (∀ j g,ops[j]?=some g->j≠i->c.getD j true=false->ks j=true->cI md g i)->
   i∈Region.ready md ops c->YW P ops C s t v a->
   nD P md ops D C ks n B f (c.setIfInBounds i true) (s+1) (a.put t.dst v)->nD P md ops D C ks n B (f+1) c s a:=by
 intro f
 induction f with
 | zero=>
  intro c s a _ _ w K H
  refine⟨λh=>(by rw[h] at w;cases w),λj z=>?_⟩
  by_cases d:j=i
  ·subst d;unfold DD;simp only[M,l,if_true];exact⟨v,K,H⟩
  ·have:=ready_mono z d
   rw[H.1,List.mem_singleton] at this
   subst this
   exact (aS W N w z).elim
 | succ f X=>
  intro c s a q F w K H
  refine⟨λh=>(by rw[h] at w;cases w),λj z=>?_⟩
  by_cases d:j=i
  ·subst d;unfold DD;simp only[M,l,if_true];exact⟨v,K,H⟩
  ·have L:=H.2 j (ready_mono z d)
   obtain⟨r,g,m,S⟩:=mem_ready.1 z
   have G:∀ e∈g.after,Region.binds md e=true->e.on≠i:=λe Y Z O=>aS m ⟨e,Y,Z,O⟩ w z
   obtain⟨T,a2,U⟩:=Oper.apart_spec (q j g m d r G)
   have V:∀ k,(c.setIfInBounds j true).getD k true=false->c.getD k true=false:=λk p=>by
    by_cases I:j=k
    ·subst I;exact r
    ·rw[getD_set_ne true I] at p;exact p
   have J:∀ u,YW P ops C s t v (a.put g.dst u):=λu=>K.of_same (execOp_put t (λE b=>x i t E b M) a g.dst u U) (wanted_put t a g.dst u U)
   have e1:=execOp_put g (λE b=>x j g E b m) a t.dst v T
   have e2:=wanted_put g a t.dst v T
   unfold DD at L |-
   simp only[m] at L |-
   split
   ·rename_i A
    exact (aS m (F j g m d r A) w z).elim
   ·rename_i A
    simp only[A] at L
    obtain⟨u,y,hK⟩:=L
    refine⟨u,y.of_same e1.symm e2.symm,X (c.setIfInBounds j true) s _ (λk ok A l p Q=>q k ok A l (V k p) Q) (λk ok A l p R=>F k ok A l (V k p) R) (ready_mono w (Ne.symm d)) (J u) ?_⟩
    rw[Array.setIfInBounds_comm _ _ d,<-Act.put_comm a v u a2]
    exact hK
def Br (P:Program) (ops:Array Oper) (D:World->Prop) (C:Nat->World->Prop) (ks:Nat->Bool) (B:Nat->Act->Prop):List Oper->Nat->Nat->Act->Prop
 | [],_,s,a=>B s a
 | o :: l,k,s,a=>if ks k then ∃ v,YW P ops C s o v a/\Br P ops D C ks B l (k+1) (s+1) (a.put o.dst v) else ∃ v,YR P ops D o v a/\Br P ops D C ks B l (k+1) s (a.put o.dst v)
def vq (md:Region.Mode) (a:Oper) (i:Nat):Bool:=a.after.any λe=>Region.binds md e&&e.on==i
theorem zQ0 {a:Oper} {i:Nat} (h:vq md a i=true):cI md a i:=by
 unfold vq at h
 rw[Array.any_eq_true'] at h
 obtain⟨e,b,h⟩:=h
 simp only[Bool.and_eq_true,beq_iff_eq] at h
 exact⟨e,b,h.1,h.2⟩
def ru (md:Region.Mode) (ops:Array Oper) (ks:Nat->Bool) (a:Array Bool) (k:Nat):Bool:=
 (List.range ops.size).all λj=>j==k||a.getD j true||!ks j||(match ops[j]? with | some oj=>vq md oj k | none=>true)
theorem tG {a:Array Bool} {k:Nat} (h:ru md ops ks a k=true):∀ j c,ops[j]?=some c->j≠k->a.getD j true=false->ks j=true->cI md c k:=by
 intro j c b d e f
 unfold ru at h
 rw[List.all_eq_true] at h
 have g:j<ops.size:=(Array.getElem?_eq_some_iff.1 b).1
 have:=h j (List.mem_range.2 g)
 simp[d,e,f,b] at this
 exact zQ0 this
def sy (md:Region.Mode) (ops:Array Oper) (ks:Nat->Bool):Nat->Nat->Array Bool->Bool
 | 0,k,a=>Region.ready md ops a==[k]&&(Region.ready md ops (a.setIfInBounds k true)).isEmpty
 | b+1,k,a=>(Region.ready md ops a).contains k&&Region.free md ops a k&&(!ks k||ru md ops ks a k)&&(match ops[ops.size-1]? with | some on=>vq md on k | none=>false)&&sy md ops ks b (k+1) (a.setIfInBounds k true)
theorem o7 (g:ops[n]?=some on) (e:n=ops.size-1) (t:Region.noSelect ops=true):∀ (l:List Oper) (k:Nat) (b:Array Bool) (s:Nat) (a:Act),(∀ j,j<l.length->l[j]?=ops[k+j]?)->k+l.length=n->
  sy md ops ks l.length k b=true->Br P ops D C ks B l k s a->nD P md ops D C ks n B l.length b s a
 | [],k,b,s,a,_,i,f,h=>by
  simp only[List.length_nil,sy,Bool.and_eq_true,beq_iff_eq,List.isEmpty_iff] at f
  simp at i
  subst i
  exact⟨f.1,f.2,h⟩
 | o :: l,k,b,s,a,y,i,f,h=>by
  have u:ops[k]?=some o:=by simpa using (y 0 (by simp)).symm
  simp only[List.length_cons,sy,Bool.and_eq_true] at f
  obtain⟨⟨⟨⟨z,A⟩,m⟩,c⟩,p⟩:=f
  rw[<-e,g] at c
  have q:cI md on k:=zQ0 c
  have r:∀ j,j<l.length->l[j]?=ops[k+1+j]?:=λj E=>by have:=y (j+1) (by simp;omega);simpa [Nat.add_assoc,Nat.add_comm 1 j] using this
  unfold Br at h
  split at h
  ·rename_i d
   obtain⟨v,w,x⟩:=h
   simp only[d,Bool.not_true,Bool.false_or] at m
   exact vj g u d q (Region.noSelect_spec t) l.length b s a (Region.free_spec u A) (tG m) (by simpa using z) w
    (o7 g e t l (k+1) _ _ _ r (by simp at i;omega) p x)
  ·rename_i d
   obtain⟨v,w,x⟩:=h
   exact xt g u (by simpa using d) q (Region.noSelect_spec t) l.length b s a (Region.free_spec u A) (by simpa using z) w
    (o7 g e t l (k+1) _ _ _ r (by simp at i;omega) p x)
def jx (ops:Array Oper) (ks:Nat->Bool):Bool:=Region.noSelect ops&&sy .any ops ks (ops.size-1) 0 (Array.replicate ops.size false)
theorem pE {id:Nat} {Q:Exit->Act->World->Prop} {a:Act} {w:World} (l:List Oper) (b:Oper) (ks:Nat->Bool) (C:Nat->World->Prop) (D:World->Prop) (m:P.follows .mixedOrders=true) (e:jx (l++[b]).toArray ks=true)
  (f:∀ s w,C s w->D w) (o:C 0 w.drew)
  (h:Br P (l++[b]).toArray D C ks (λs i=>∀ g,C s g->wpList P (l++[b]).toArray Q [b] i g) l 0 0 a):(Code.region id (l++[b]).toArray true).wp P Q a w:=by
 simp only[jx,Bool.and_eq_true] at e
 have d:(l++[b]).toArray.size-1=l.length:=by simp
 have k:(l++[b]).toArray[l.length]?=some b:=by simp
 rw[d] at e
 have p:=o7 (n:=l.length) (md:=.any) k d.symm e.1 l 0 (Array.replicate (l++[b]).toArray.size false) 0 a (λj q=>by simp[List.getElem?_append_left q]) (by simp) e.2 h
 refine wp_region_any m ?_
 have r:=iW (Q:=Q) f (λs a w t u=>?_) l.length _ 0 a { w with drawn:=w.drawn+1 } o p
 ·simpa using r
 ·have:=u w t
  unfold wpList at this
  unfold wpOp
  rw[k]
  simp only[]
  split at this
  ·rename_i c;simp only[c,if_true];exact this.imp (Oper.wp_mono λi g v=>by simpa [wpList] using v) (λh=>h)
  ·rename_i c;simp only[c];simpa [wpList] using this
theorem lB {id:Nat} {Q:Exit->Act->World->Prop} {a:Act} {w:World} {b:List Oper} (l:List Oper) (c:Oper) (f:b=l++[c]) (ks:Nat->Bool) (C:Nat->World->Prop) (D:World->Prop) (g:P.follows .mixedOrders=true) (i:jx b.toArray ks=true)
  (d:∀ s w,C s w->D w) (j:C 0 w.drew)
  (h:Br P b.toArray D C ks (λs k=>∀ e,C s e->wpList P b.toArray Q [c] k e) l 0 0 a):(Code.region id b.toArray true).wp P Q a w:=by
 subst f
 exact pE l c ks C D g i d j h
def qN (o:Oper):Bool:=match o.op with
 | .move _ | .assign _ | .pick _ _ _ | .load _ _ | .fieldAddr _ _ _ | .field _ _ _ | .indexAddr _ _ _ | .index _ _ _ | .lookup _ _ _ _ | .binOp _ _ _ _ _ | .unOp _ _ _ | .build _ _ | .extract _ _ | .slice _ _ _ _ _ | .convert _ _ _=>true
 | _=>false
theorem kW {o:Oper} {a:Act} {w:World} {v:Value} (e:qN o=true) (h:o.quietAt P a D w v):pw P o a w v:=by
 unfold Oper.quietAt at h
 unfold pw
 generalize b:(execOp a.eval o).run P w=r at h |-
 cases r with
 | halt x i=>simp only[Oper.quietUpon] at h
 | ok j i=>
  cases j<;>simp only[Oper.quietUpon] at h
  case value u=>obtain⟨rfl,rfl⟩:=h;exact .inl rfl
  case skip=>obtain⟨rfl,rfl⟩:=h;exact .inr ⟨rfl,rfl⟩
  case enter f c=>
   exfalso
   have g:∀ (s:Sem Value),((do pure (Next.value (<-s))):Sem Next).run P w≠.ok (.enter f c) i:=by
    intro s d
    rw[Sem.run_bind] at d
    cases hs:s.run P w with
    | ok x y=>rw[hs] at d;simp[Result.andThen] at d
    | halt x y=>rw[hs] at d;simp[Result.andThen] at d
   unfold qN at e
   unfold execOp at b
   split at e<;>rename_i k<;>simp only[k] at b
   all_goals first
    | exact g _ b
    | (simp at b;done)
    | (rw[Sem.run_bind] at b;cases hs:(asBool _).run P w with
      | ok x y=>(rw[hs] at b;simp[Result.andThen] at b)
      | halt x y=>(rw[hs] at b;simp[Result.andThen] at b))
    | cases e
theorem wC {l:List Oper} {o:Oper} {k s:Nat} {a:Act} (c:ks k=false) (d:qN o=true) (h:wpQuiet P ops D (λe=>Br P ops D C ks B l (k+1) s e) [o] a):Br P ops D C ks B (o :: l) k s a:=by
 unfold Br
 rw[if_neg (by rw[c];exact Bool.false_ne_true)]
 unfold wpQuiet at h
 split at h
 ·rename_i b
  obtain⟨v,f,g⟩:=h
  exact⟨v,.inl ⟨b,λw i=>kW d (f w i)⟩,g⟩
 ·rename_i b
  exact⟨undef,.inr ⟨by simpa using b,rfl⟩,h⟩
theorem tP {l:List Oper} {o:Oper} {k s:Nat} {a:Act} (c:ks k=true) (d:Region.wanted o (yielded ops a.tmps)=true) (v:Value) (e:∀ w,C s w->∃ b,C (s+1) b/\(execOp a.eval o).run P w=.ok (.value v) b) (h:Br P ops D C ks B l (k+1) (s+1) (a.put o.dst v)):Br P ops D C ks B (o :: l) k s a:=by
 unfold Br
 rw[if_pos c]
 exact⟨v,⟨d,λw f=>let ⟨b,h1,h2⟩:=e w f;⟨b,h1,.inl h2⟩⟩,h⟩
theorem Dz {k s:Nat} {a:Act} (h:B s a):Br P ops D C ks B [] k s a:=h
end
def lU (a b c:World):Type:={ x:World // x=a\/x=b\/x=c }
theorem lU.ne (a b c:World):Nonempty (lU a b c):=⟨⟨a,.inl rfl⟩⟩
theorem lU.all {a b c:World} {p:World->Prop} (d:p a) (e:p b) (f:p c):∀ x:lU a b c,p x.1:=by
 rintro⟨x,rfl | rfl | rfl⟩
 ·exact d
 ·exact e
 ·exact f
def qP (a b c:World) (s:Nat) (w:World):Prop:=(s=0/\w=a)\/(s=1/\w=b)\/(s=2/\w=c)
theorem AG {a b c:World}:∀ s w,qP a b c s w->∃ x:lU a b c,w=x.1:=by
 rintro s w (⟨_,h⟩ | ⟨_,h⟩ | ⟨_,h⟩)
 ·exact⟨⟨w,.inl h⟩,rfl⟩
 ·exact⟨⟨w,.inr (.inl h)⟩,rfl⟩
 ·exact⟨⟨w,.inr (.inr h)⟩,rfl⟩
theorem Cy {a b c w:World} (h:qP a b c 0 w):w=a:=by
 rcases h with ⟨_,h⟩ | ⟨h,_⟩ | ⟨h,_⟩
 ·exact h
 ·cases h
 ·cases h
theorem Cw {b a c w:World} (h:qP b a c 1 w):w=a:=by
 rcases h with ⟨h,_⟩ | ⟨_,h⟩ | ⟨h,_⟩
 ·cases h
 ·exact h
 ·cases h
theorem CO {b c a w:World} (h:qP b c a 2 w):w=a:=by
 rcases h with ⟨h,_⟩ | ⟨h,_⟩ | ⟨_,h⟩
 ·cases h
 ·cases h
 ·exact h
end Go.Proofs.YtnpdhopjpjickaaGreatDoor
end
section
set_option linter.all false
namespace Go.Proofs.YtnpdhopjpjickaaGreatDoor
open Go.RowKit
section
variable {P:Program} {ops:Array Oper} {md:Region.Mode} {C:World->Prop} {n:Nat} {B:Act->Prop} {on:Oper}
def sk (P:Program) (md:Region.Mode) (ops:Array Oper) (C:World->Prop) (n:Nat) (B:Act->Prop):Nat->Array Bool->Act->Prop
 | 0,b,a=>Region.ready md ops b=[n]/\Region.ready md ops (b.setIfInBounds n true)=[]/\B a
 | c+1,b,a=>Region.ready md ops b≠[]/\∀ i∈Region.ready md ops b,qOp P ops C i (sk P md ops C n B c (b.setIfInBounds i true)) a
theorem sE {Q:Exit->Act->World->Prop} (q:∀ a w,C w->B a->wpOp P ops Q n (λe f=>Q .normal e f) a w):
  ∀ (c:Nat) (b:Array Bool) (a:Act) (w:World),C w->sk P md ops C n B c b a->wpAny P md ops Q (c+1) b a w
 | 0,b,a,w,k,h=>by
  obtain⟨r,l,s⟩:=h
  refine⟨λg=>(by rw[r] at g;cases g),λi j=>?_⟩
  rw[r,List.mem_singleton] at j
  subst j
  have:=q a w k s
  unfold wpOp at this |-
  split at this
  ·rename_i m;simp only[m];exact⟨l,this⟩
  ·rename_i o m
   simp only[m]
   split
   ·rename_i d
    simp only[d,if_true] at this
    exact this.imp (Oper.wp_mono λe f t=>⟨l,t⟩) (λh=>h)
   ·rename_i d
    simp only[d] at this
    exact⟨l,this⟩
 | c+1,b,a,w,k,h=>
  ⟨λg=>absurd g h.1,λi j=>wpOp_of_qOp k (λe f p u=>sE q c _ e f p u) (h.2 i j)⟩
theorem uz (L:ops[n]?=some on) {i:Nat} {t:Oper} {v:Value} (D:ops[i]?=some t) (E:cI md on i) (p:∀ (j:Nat) (o:Oper) w b,ops[j]?=some o->o.op≠.select w b):
  ∀ (d:Nat) (c:Array Bool) (a:Act),
   (∀ j s,ops[j]?=some s->j≠i->c.getD j true=false->(∀ e∈s.after,Region.binds md e=true->e.on≠i)->t.apart ops s=true)->
   i∈Region.ready md ops c->YieldsIn P ops C t v a->
   sk P md ops C n B d (c.setIfInBounds i true) (a.put t.dst v)->sk P md ops C n B (d+1) c a:=by
 intro d
 induction d with
 | zero=>
  intro c a _ q A H
  refine⟨λh=>(by rw[h] at q;cases q),λj u=>?_⟩
  by_cases f:j=i
  ·subst f;exact A.qOp D H
  ·have:=ready_mono u f
   rw[H.1,List.mem_singleton] at this
   subst this
   exact (aS L E q u).elim
 | succ d M=>
  intro c a g q A H
  refine⟨λh=>(by rw[h] at q;cases q),λj u=>?_⟩
  by_cases f:j=i
  ·subst f;exact A.qOp D H
  ·have N:=H.2 j (ready_mono u f)
   obtain⟨r,s,l,J⟩:=mem_ready.1 u
   have x:∀ e∈s.after,Region.binds md e=true->e.on≠i:=λe O Q F=>aS l ⟨e,O,Q,F⟩ q u
   have R:=qOp_put l (g j s l f r x) (λw b=>p i t w b D) (λw b=>p j s w b l) A N
   have m:∀ k ok,ops[k]?=some ok->k≠i->(c.setIfInBounds j true).getD k true=false->
     (∀ e∈ok.after,Region.binds md e=true->e.on≠i)->t.apart ops ok=true:=λk ok S G y I=>by
    refine g k ok S G ?_ I
    by_cases z:j=k
    ·subst z;exact r
    ·rw[getD_set_ne true z] at y;exact y
   refine qOp_mono (λT K=>M (c.setIfInBounds j true) T m (ready_mono q (Ne.symm f)) K.1 ?_) R
   rw[Array.setIfInBounds_comm _ _ f]
   exact K.2
theorem rI (i:ops[n]?=some on) (e:n=ops.size-1) (s:Region.noSelect ops=true):∀ (l:List Oper) (k:Nat) (b:Array Bool) (a:Act),(∀ j,j<l.length->l[j]?=ops[k+j]?)->k+l.length=n->
  sy md ops (λ_=>false) l.length k b=true->wpQuiet P ops C B l a->sk P md ops C n B l.length b a
 | [],k,b,a,_,f,d,h=>by
  simp only[List.length_nil,sy,Bool.and_eq_true,beq_iff_eq,List.isEmpty_iff] at d
  simp at f
  subst f
  exact⟨d.1,d.2,h⟩
 | o :: l,k,b,a,t,f,d,h=>by
  have g:ops[k]?=some o:=by simpa using (t 0 (by simp)).symm
  simp only[List.length_cons,sy,Bool.and_eq_true] at d
  obtain⟨⟨⟨⟨u,w⟩,x⟩,c⟩,m⟩:=d
  rw[<-e,i] at c
  have p:cI md on k:=zQ0 c
  have q:∀ j,j<l.length->l[j]?=ops[k+1+j]?:=λj A=>by have:=t (j+1) (by simp;omega);simpa [Nat.add_assoc,Nat.add_comm 1 j] using this
  have r:qOp P ops C k (wpQuiet P ops C B l) a:=by unfold qOp;simp only[g];exact h
  obtain⟨v,y,z⟩:=yieldsIn_of_qOp g r
  exact uz i g p (Region.noSelect_spec s) l.length b a (Region.free_spec g w) (by simpa using u) y
   (rI i e s l (k+1) _ _ q (by simp at f;omega) m z)
theorem lR {id:Nat} {Q:Exit->Act->World->Prop} {a:Act} {w:World} {c:List Oper} (l:List Oper) (b:Oper) (m:c=l++[b]) (C:World->Prop) (o:P.follows .mixedOrders=true) (f:jx c.toArray (λ_=>false)=true) (p:C w.drew)
  (h:wpQuiet P c.toArray C (λi=>∀ g,C g->wpList P c.toArray Q [b] i g) l a):(Code.region id c.toArray true).wp P Q a w:=by
 subst m
 simp only[jx,Bool.and_eq_true] at f
 have e:(l++[b]).toArray.size-1=l.length:=by simp
 have k:(l++[b]).toArray[l.length]?=some b:=by simp
 rw[e] at f
 have q:=rI (n:=l.length) (md:=.any) k e.symm f.1 l 0 (Array.replicate (l++[b]).toArray.size false) a (λj r=>by simp[List.getElem?_append_left r]) (by simp) f.2 h
 refine wp_region_any o ?_
 have s:=sE (Q:=Q) (λa w t u=>?_) l.length _ a { w with drawn:=w.drawn+1 } p q
 ·simpa using s
 ·have:=u w t
  unfold wpList at this
  unfold wpOp
  rw[k]
  simp only[]
  split at this
  ·rename_i d;simp only[d,if_true];exact this.imp (Oper.wp_mono λi g v=>by simpa [wpList] using v) (λh=>h)
  ·rename_i d;simp only[d];simpa [wpList] using this
theorem lI {id:Nat} {Q:Exit->Act->World->Prop} {a:Act} {w:World} {b:List Oper} (l:List Oper) (c:Oper) (e:b=l++[c]) (f:P.follows .mixedOrders=true) (g:jx b.toArray (λ_=>false)=true)
  (h:wpQuiet P b.toArray (λd=>∃ x:aw w,d=x.1) (λi=>∀ d,(∃ x:aw w,d=x.1)->wpList P b.toArray Q [c] i d) l a):(Code.region id b.toArray true).wp P Q a w:=
 lR l c e _ f g ⟨⟨w.drew,(Below.refl _ _).drew⟩,rfl⟩ h
end
end Go.Proofs.YtnpdhopjpjickaaGreatDoor
end
section
set_option linter.all false
namespace Go.Proofs.YtnpdhopjpjickaaGreatDoor
open Go.RowKit
section
variable {P:Program} {ops:Array Oper} {md:Region.Mode} {J:(Nat->Value->Prop)->World->Prop} {S:Nat->Value->Prop} {ks:Nat->Bool}
def EM (P:Program) (K:Value->World->Prop):Result Next->Prop
 | .ok (.value v) a=>K v a
 | .ok .skip a=>K undef a
 | .ok (.enter f b) a=>Calls P f b a λe c=>∃ v,e=.returned v/\K v c
 | _=>False
theorem ug {o:Oper} {a:Act} {w:World} {K:Value->World->Prop} {d:Act->World->Prop} {Q:Exit->Act->World->Prop} (h:EM P K ((execOp a.eval o).run P w)) (c:∀ v b,K v b->d (a.put o.dst v) b):o.wp P a w d Q:=by
 unfold Oper.wp
 generalize (execOp a.eval o).run P w=r at*
 cases r with
 | halt x b=>simp only[EM] at h
 | ok i b=>
  cases i<;>simp only[EM] at h
  case value v=>exact c _ _ h
  case skip=>exact c _ _ h
  case enter f g=>exact h.mono λe j ⟨v,k,l⟩=>by subst k;exact c _ _ l
def bW (a:Nat->Value->Prop) (i:Nat) (v:Value):Nat->Value->Prop:=λm u=>a m u\/(m=i/\u=v)
theorem uq (a:Nat->Value->Prop) (i j:Nat) (v u:Value):bW (bW a i v) j u=bW (bW a j u) i v:=by
 funext m x
 simp only[bW]
 exact propext ⟨by rintro ((h | h) | h)<;>simp[h],by rintro ((h | h) | h)<;>simp[h]⟩
def By (J:(Nat->Value->Prop)->World->Prop) (w:World):Prop:=∃ a,J a w
def YG (P:Program) (ops:Array Oper) (md:Region.Mode) (J:(Nat->Value->Prop)->World->Prop) (S:Nat->Value->Prop) (o:Oper) (k:Nat) (c:Nat->Value->Prop) (a:Act):Prop:=
 Region.wanted o (yielded ops a.tmps)=true/\∀ b w,J b w->(∀ m v,c m v->cI md o m->b m v)->(∀ v,¬b k v)->EM P (λv d=>S k v/\J (bW b k v) d) ((execOp a.eval o).run P w)
theorem YG.of_same {o:Oper} {k:Nat} {e b:Nat->Value->Prop} {a d:Act} (f:YG P ops md J S o k e a) (g:execOp d.eval o=execOp a.eval o) (i:Region.wanted o (yielded ops d.tmps)=Region.wanted o (yielded ops a.tmps)) (j:∀ m v,e m v->cI md o m->b m v):YG P ops md J S o k b d:=by
 unfold YG at*
 rw[g,i]
 exact⟨f.1,λl w n h p=>f.2 l w n (λm v q c=>h m v (j m v q c) c) p⟩
def y5 (P:Program) (ops:Array Oper) (md:Region.Mode) (J:(Nat->Value->Prop)->World->Prop) (S:Nat->Value->Prop) (ks:Nat->Bool) (i:Nat) (K:(Nat->Value->Prop)->Act->Prop) (b:Nat->Value->Prop) (a:Act):Prop:=
 match ops[i]? with
 | none=>K b a
 | some o=>if ks i then YG P ops md J S o i b a/\∀ v,S i v->K (bW b i v) (a.put o.dst v) else ∃ v,YR P ops (By J) o v a/\K b (a.put o.dst v)
def nI (P:Program) (md:Region.Mode) (ops:Array Oper) (J:(Nat->Value->Prop)->World->Prop) (S:Nat->Value->Prop) (ks:Nat->Bool) (n:Nat) (B:(Nat->Value->Prop)->Act->Prop):Nat->Array Bool->(Nat->Value->Prop)->Act->Prop
 | 0,b,d,a=>Region.ready md ops b=[n]/\Region.ready md ops (b.setIfInBounds n true)=[]/\B d a
 | c+1,b,d,a=>Region.ready md ops b≠[]/\∀ i∈Region.ready md ops b,y5 P ops md J S ks i (nI P md ops J S ks n B c (b.setIfInBounds i true)) d a
theorem je {n:Nat} {B:(Nat->Value->Prop)->Act->Prop} {Q:Exit->Act->World->Prop}
  (s:∀ f a w,J f w->B f a->wpOp P ops Q n (λI C=>Q .normal I C) a w):
  ∀ (c:Nat) (b:Array Bool) (f:Nat->Value->Prop) (a:Act) (w:World),J f w->(∀ m v,f m v->b.getD m true=true)->nI P md ops J S ks n B c b f a->wpAny P md ops Q (c+1) b a w
 | 0,b,f,a,w,k,r,h=>by
  obtain⟨D,t,g⟩:=h
  refine⟨λE=>(by rw[D] at E;cases E),λi x=>?_⟩
  rw[D,List.mem_singleton] at x
  subst x
  have:=s f a w k g
  unfold wpOp at this |-
  split at this
  ·rename_i l;simp only[l];exact⟨t,this⟩
  ·rename_i o l
   simp only[l]
   split
   ·rename_i p
    simp only[p,if_true] at this
    exact this.imp (Oper.wp_mono λI C K=>⟨t,K⟩) (λh=>h)
   ·rename_i p
    simp only[p] at this
    exact⟨t,this⟩
 | c+1,b,f,a,w,k,r,h=>by
  obtain⟨D,t⟩:=h
  refine⟨λE=>absurd E D,λi x=>?_⟩
  have g:=t i x
  obtain⟨j,_,_,_⟩:=mem_ready.1 x
  have e:∀ m,b.getD m true=true->(b.setIfInBounds i true).getD m true=true:=λm d=>by
   by_cases z:i=m
   ·subst z
    rw[j] at d
    cases d
   ·rw[getD_set_ne true z];exact d
  have q:(b.setIfInBounds i true).getD i true=true:=by
   rcases Nat.lt_or_ge i b.size with G | G
   ·simp[G]
   ·simp[Array.getElem?_eq_none G]
  unfold y5 at g
  unfold wpOp
  split
  ·rename_i l;simp only[l] at g;exact je s c _ _ _ _ k (λm v d=>e m (r m v d)) g
  ·rename_i o l
   simp only[l] at g
   split at g
   ·obtain⟨⟨A,H⟩,F⟩:=g
    simp only[A,if_true]
    refine .inl (ug (H f w k (λm v d _=>d) λv L=>?_) λv C ⟨M,N⟩=>?_)
    ·have:=r i v L
     rw[j] at this
     cases this
    ·refine je s c _ (bW f i v) _ C N (λm u d=>?_) (F v M)
     rcases d with d | ⟨rfl,rfl⟩
     ·exact e m (r m u d)
     ·exact q
   ·obtain⟨v,y,F⟩:=g
    rcases y with ⟨A,H⟩ | ⟨A,rfl⟩
    ·simp only[A,if_true]
     exact .inl (kT (H w ⟨f,k⟩) (je s c _ _ _ _ k (λm v d=>e m (r m v d)) F))
    ·simp only[A,Bool.false_eq_true,if_false]
     exact je s c _ _ _ _ k (λm v d=>e m (r m v d)) F
theorem YR.one {D:World->Prop} {o:Oper} {v u:Value} {a:Act} (e:∃ w,D w) (h:YR P ops D o v a) (g:YR P ops D o u a):v=u:=by
 obtain⟨w,i⟩:=e
 rcases h with ⟨f,j⟩ | ⟨f,rfl⟩
 ·rcases g with ⟨c,k⟩ | ⟨c,_⟩
  ·have d:=j w i
   have b:=k w i
   unfold pw at d b
   rcases d with d | ⟨d,rfl⟩<;>rcases b with b | ⟨b,rfl⟩<;>rw[d] at b<;>first | (injection b with e3 _;injection e3) | rfl | (injection b with e3 _;cases e3)
  ·rw[f] at c;cases c
 ·rcases g with ⟨c,_⟩ | ⟨_,rfl⟩
  ·rw[f] at c;cases c
  ·rfl
variable {n:Nat} {B:(Nat->Value->Prop)->Act->Prop} {on:Oper}
theorem xz (hn:ops[n]?=some on) {i:Nat} {p:Oper} {v:Value} (M:ops[i]?=some p) (r:ks i=false) (N:cI md on i) (w:∀ (j:Nat) (o:Oper) D b,ops[j]?=some o->o.op≠.select D b):
  ∀ (f:Nat) (c:Array Bool) (E:Nat->Value->Prop) (a:Act),
   (∀ j l,ops[j]?=some l->j≠i->c.getD j true=false->(∀ e∈l.after,Region.binds md e=true->e.on≠i)->p.apart ops l=true)->
   i∈Region.ready md ops c->YR P ops (By J) p v a->
   nI P md ops J S ks n B f (c.setIfInBounds i true) E (a.put p.dst v)->nI P md ops J S ks n B (f+1) c E a:=by
 intro f
 induction f with
 | zero=>
  intro c E a _ s L H
  refine⟨λh=>(by rw[h] at s;cases s),λj A=>?_⟩
  by_cases d:j=i
  ·subst d;unfold y5;simp only[M,r];exact⟨v,L,H⟩
  ·have:=ready_mono A d
   rw[H.1,List.mem_singleton] at this
   subst this
   exact (aS hn N s A).elim
 | succ f T=>
  intro c E a q s L H
  refine⟨λh=>(by rw[h] at s;cases s),λj A=>?_⟩
  by_cases d:j=i
  ·subst d;unfold y5;simp only[M,r];exact⟨v,L,H⟩
  ·have C:=H.2 j (ready_mono A d)
   obtain⟨x,l,t,U⟩:=mem_ready.1 A
   have F:∀ e∈l.after,Region.binds md e=true->e.on≠i:=λe he hb O=>aS t ⟨e,he,hb,O⟩ s A
   obtain⟨V,W,X⟩:=Oper.apart_spec (q j l t d x F)
   have g:∀ k ok,ops[k]?=some ok->k≠i->(c.setIfInBounds j true).getD k true=false->
     (∀ e∈ok.after,Region.binds md e=true->e.on≠i)->p.apart ops ok=true:=λk ok G r I Q=>by
    refine q k ok G r ?_ Q
    by_cases K:j=k
    ·subst K;exact x
    ·rw[getD_set_ne true K] at I;exact I
   have z:∀ u,YR P ops (By J) p v (a.put l.dst u):=λu=>L.of_same (execOp_put p (λD b=>w i p D b M) a l.dst u X) (wanted_put p a l.dst u X)
   have Y:=execOp_put l (λD b=>w j l D b t) a p.dst v V
   have Z:=wanted_put l a p.dst v V
   unfold y5 at C |-
   simp only[t] at C |-
   split
   ·rename_i G
    simp only[G,if_true] at C
    obtain⟨y,R⟩:=C
    refine⟨y.of_same Y.symm Z.symm λm u hm _=>hm,λu hu=>T (c.setIfInBounds j true) _ _ g (ready_mono s (Ne.symm d)) (z u) ?_⟩
    rw[Array.setIfInBounds_comm _ _ d,<-Act.put_comm a v u W]
    exact R u hu
   ·rename_i G
    simp only[G] at C
    obtain⟨u,y,R⟩:=C
    refine⟨u,y.of_same Y.symm Z.symm,T (c.setIfInBounds j true) E _ g (ready_mono s (Ne.symm d)) (z u) ?_⟩
    rw[Array.setIfInBounds_comm _ _ d,<-Act.put_comm a v u W]
    exact R
theorem vw (hS:∀ k,∃ v,S k v) (X:∃ w,By J w) (hn:ops[n]?=some on) {i:Nat} {p:Oper} (V:ops[i]?=some p) (s:ks i=true) (Y:cI md on i) (z:∀ (j:Nat) (o:Oper) O b,ops[j]?=some o->o.op≠.select O b):
  ∀ (f:Nat) (c:Array Bool) (F:Nat->Value->Prop) (a:Act),
   (∀ j g,ops[j]?=some g->j≠i->c.getD j true=false->(∀ e∈g.after,Region.binds md e=true->e.on≠i)->p.apart ops g=true)->
   i∈Region.ready md ops c->YG P ops md J S p i F a->
   (∀ v,S i v->nI P md ops J S ks n B f (c.setIfInBounds i true) (bW F i v) (a.put p.dst v))->nI P md ops J S ks n B (f+1) c F a:=by
 intro f
 obtain⟨G,I⟩:=hS i
 induction f with
 | zero=>
  intro c F a _ r W H
  refine⟨λh=>(by rw[h] at r;cases r),λj K=>?_⟩
  by_cases d:j=i
  ·subst d;unfold y5;simp only[V,s,if_true];exact⟨W,H⟩
  ·have:=ready_mono K d
   rw[(H G I).1,List.mem_singleton] at this
   subst this
   exact (aS hn Y r K).elim
 | succ f ih=>
  intro c F a q r W H
  refine⟨λh=>(by rw[h] at r;cases r),λj K=>?_⟩
  by_cases d:j=i
  ·subst d;unfold y5;simp only[V,s,if_true];exact⟨W,H⟩
  ·have A:=λv Q=>(H v Q).2 j (ready_mono K d)
   obtain⟨C,g,t,aa⟩:=mem_ready.1 K
   have D:∀ e∈g.after,Region.binds md e=true->e.on≠i:=λe Z hb L=>aS t ⟨e,Z,hb,L⟩ r K
   have a4:¬cI md g i:=λ⟨e,Z,hb,L⟩=>D e Z hb L
   have ac:¬cI md p j:=λh=>aS V h K r
   obtain⟨a1,a2,a3⟩:=Oper.apart_spec (q j g t d C D)
   have l:∀ k ok,ops[k]?=some ok->k≠i->(c.setIfInBounds j true).getD k true=false->
     (∀ e∈ok.after,Region.binds md e=true->e.on≠i)->p.apart ops ok=true:=λk ok R s T a5=>by
    refine q k ok R s ?_ a5
    by_cases U:j=k
    ·subst U;exact C
    ·rw[getD_set_ne true U] at T;exact T
   have E:∀ u M,(∀ m x,F m x->cI md p m->M m x)->YG P ops md J S p i M (a.put g.dst u):=λu M a6=>W.of_same (execOp_put p (λO b=>z i p O b V) a g.dst u a3) (wanted_put p a g.dst u a3) a6
   have e1:=λv=>execOp_put g (λO b=>z j g O b t) a p.dst v a1
   have e2:=λv=>wanted_put g a p.dst v a1
   unfold y5 at A |-
   simp only[t] at A |-
   split
   ·rename_i R
    simp only[R,if_true] at A
    refine⟨(A G I).1.of_same (e1 G).symm (e2 G).symm λm u N hw=>?_,λu hu=>ih (c.setIfInBounds j true) _ _ l (ready_mono r (Ne.symm d)) (E u _ λm x N _=>.inl N) λv Q=>?_⟩
    ·rcases N with N | ⟨rfl,rfl⟩
     ·exact N
     ·exact absurd hw a4
    ·rw[Array.setIfInBounds_comm _ _ d,<-Act.put_comm a v u a2,uq]
     exact (A v Q).2 u hu
   ·rename_i R
    simp only[R] at A
    obtain⟨u,y,_⟩:=A G I
    have y0:YR P ops (By J) g u a:=y.of_same (e1 G).symm (e2 G).symm
    refine⟨u,y0,ih (c.setIfInBounds j true) F _ l (ready_mono r (Ne.symm d)) (E u _ λm x N _=>N) λv Q=>?_⟩
    obtain⟨u',y',hK⟩:=A v Q
    have:=YR.one X y0 (y'.of_same (e1 v).symm (e2 v).symm)
    subst this
    rw[Array.setIfInBounds_comm _ _ d,<-Act.put_comm a v u a2]
    exact hK
def qO (P:Program) (ops:Array Oper) (md:Region.Mode) (J:(Nat->Value->Prop)->World->Prop) (S:Nat->Value->Prop) (ks:Nat->Bool) (B:(Nat->Value->Prop)->Act->Prop):List Oper->Nat->(Nat->Value->Prop)->Act->Prop
 | [],_,b,a=>B b a
 | o :: l,k,b,a=>if ks k then YG P ops md J S o k b a/\∀ v,S k v->qO P ops md J S ks B l (k+1) (bW b k v) (a.put o.dst v) else ∃ v,YR P ops (By J) o v a/\qO P ops md J S ks B l (k+1) b (a.put o.dst v)
theorem o6 (x:∀ k,∃ v,S k v) (d:∃ w,By J w) (m:ops[n]?=some on) (e:n=ops.size-1) (t:Region.noSelect ops=true):∀ (l:List Oper) (k:Nat) (b:Array Bool) (g:Nat->Value->Prop) (a:Act),(∀ j,j<l.length->l[j]?=ops[k+j]?)->k+l.length=n->
  sy md ops (λ_=>false) l.length k b=true->qO P ops md J S ks B l k g a->nI P md ops J S ks n B l.length b g a
 | [],k,b,g,a,_,p,i,h=>by
  simp only[List.length_nil,sy,Bool.and_eq_true,beq_iff_eq,List.isEmpty_iff] at i
  simp at p
  subst p
  exact⟨i.1,i.2,h⟩
 | o :: l,k,b,g,a,A,p,i,h=>by
  have u:ops[k]?=some o:=by simpa using (A 0 (by simp)).symm
  simp only[List.length_cons,sy,Bool.and_eq_true] at i
  obtain⟨⟨⟨⟨C,D⟩,E⟩,c⟩,q⟩:=i
  rw[<-e,m] at c
  have r:cI md on k:=zQ0 c
  have s:∀ j,j<l.length->l[j]?=ops[k+1+j]?:=λj G=>by have:=A (j+1) (by simp;omega);simpa [Nat.add_assoc,Nat.add_comm 1 j] using this
  unfold qO at h
  split at h
  ·rename_i f
   obtain⟨y,z⟩:=h
   exact vw x d m u f r (Region.noSelect_spec t) l.length b g a (Region.free_spec u D) (by simpa using C) y
    (λv F=>o6 x d m e t l (k+1) _ _ _ s (by simp at p;omega) q (z v F))
  ·rename_i f
   obtain⟨v,y,z⟩:=h
   exact xz m u (by simpa using f) r (Region.noSelect_spec t) l.length b g a (Region.free_spec u D) (by simpa using C) y
    (o6 x d m e t l (k+1) _ _ _ s (by simp at p;omega) q z)
theorem bh {id:Nat} {Q:Exit->Act->World->Prop} {a:Act} {w:World} {c:List Oper} (l:List Oper) (b:Oper) (s:c=l++[b]) (ks:Nat->Bool) (J:(Nat->Value->Prop)->World->Prop) (S:Nat->Value->Prop) (t:∀ k,∃ v,S k v) (g:P.follows .mixedOrders=true) (f:jx c.toArray (λ_=>false)=true) (o:J (λ_ _=>False) w.drew)
  (h:qO P c.toArray .any J S ks (λp q=>∀ i,J p i->wpList P c.toArray Q [b] q i) l 0 (λ_ _=>False) a):(Code.region id c.toArray true).wp P Q a w:=by
 subst s
 simp only[jx,Bool.and_eq_true] at f
 have e:(l++[b]).toArray.size-1=l.length:=by simp
 have r:(l++[b]).toArray[l.length]?=some b:=by simp
 rw[e] at f
 have u:=o6 (n:=l.length) (md:=.any) t ⟨_,_,o⟩ r e.symm f.1 l 0 (Array.replicate (l++[b]).toArray.size false) (λ_ _=>False) a (λj x=>by simp[List.getElem?_append_left x]) (by simp) f.2 h
 refine wp_region_any g ?_
 have y:=je (Q:=Q) (λp a w z A=>?_) l.length _ (λ_ _=>False) a { w with drawn:=w.drawn+1 } o (λm v g=>g.elim) u
 ·simpa using y
 ·have:=A w z
  unfold wpList at this
  unfold wpOp
  rw[r]
  simp only[]
  split at this
  ·rename_i d;simp only[d,if_true];exact this.imp (Oper.wp_mono λq i B=>by simpa [wpList] using B) (λh=>h)
  ·rename_i d;simp only[d];simpa [wpList] using this
theorem aH {D:World->Prop} (d:∀ b w,J b w->D w) {l:List Oper} {o:Oper} {k:Nat} {b:Nat->Value->Prop} {a:Act} (e:ks k=false) (f:qN o=true) (h:wpQuiet P ops D (λg=>qO P ops md J S ks B l (k+1) b g) [o] a):qO P ops md J S ks B (o :: l) k b a:=by
 unfold qO
 rw[if_neg (by rw[e];exact Bool.false_ne_true)]
 unfold wpQuiet at h
 split at h
 ·rename_i c
  obtain⟨v,i,j⟩:=h
  exact⟨v,.inl ⟨c,λw ⟨m,n⟩=>kW f (i w (d m w n))⟩,j⟩
 ·rename_i c
  exact⟨undef,.inr ⟨by simpa using c,rfl⟩,h⟩
theorem iR {l:List Oper} {o:Oper} {k:Nat} {b:Nat->Value->Prop} {a:Act} (v:Value) (c:ks k=false) (d:Region.wanted o (yielded ops a.tmps)=true) (e:∀ w,(execOp a.eval o).run P w=.ok (.value v) w) (h:qO P ops md J S ks B l (k+1) b (a.put o.dst v)):qO P ops md J S ks B (o :: l) k b a:=by
 unfold qO
 rw[if_neg (by rw[c];exact Bool.false_ne_true)]
 exact⟨v,.inl ⟨d,λw _=>.inl (e w)⟩,h⟩
theorem bY {l:List Oper} {o:Oper} {k:Nat} {c:Nat->Value->Prop} {a:Act} (g:ks k=true) (i:Region.wanted o (yielded ops a.tmps)=true) (j:∀ b w,J b w->(∀ m v,c m v->cI md o m->b m v)->(∀ v,¬b k v)->∃ v d,(execOp a.eval o).run P w=.ok (.value v) d/\S k v/\J (bW b k v) d) (h:∀ v,S k v->qO P ops md J S ks B l (k+1) (bW c k v) (a.put o.dst v)):qO P ops md J S ks B (o :: l) k c a:=by
 unfold qO
 rw[if_pos g]
 refine⟨⟨i,λb w n e f=>?_⟩,h⟩
 obtain⟨v,d,p,q⟩:=j b w n e f
 rw[p]
 exact q
theorem bu {l:List Oper} {o:Oper} {k:Nat} {d:Nat->Value->Prop} {a:Act} (f:FuncId) (b:Array Value) (j:ks k=true) (n:Region.wanted o (yielded ops a.tmps)=true) (p:∀ w,(execOp a.eval o).run P w=.ok (.enter f b) w) (q:∀ c w,J c w->(∀ m v,d m v->cI md o m->c m v)->(∀ v,¬c k v)->Calls P f b w λe r=>∃ v,e=.returned v/\S k v/\J (bW c k v) r) (h:∀ v,S k v->qO P ops md J S ks B l (k+1) (bW d k v) (a.put o.dst v)):qO P ops md J S ks B (o :: l) k d a:=by
 unfold qO
 rw[if_pos j]
 refine⟨⟨n,λc w s g i=>?_⟩,h⟩
 rw[p w]
 exact q c w s g i
theorem eB {l:List Oper} {o:Oper} {k:Nat} {c:Nat->Value->Prop} {a:Act} (g:ks k=true) (i:Region.wanted o (yielded ops a.tmps)=true) (j:∀ b w,J b w->(∀ m v,c m v->cI md o m->b m v)->(∀ v,¬b k v)->∃ d,(execOp a.eval o).run P w=.ok .skip d/\S k undef/\J (bW b k undef) d) (h:∀ v,S k v->qO P ops md J S ks B l (k+1) (bW c k v) (a.put o.dst v)):qO P ops md J S ks B (o :: l) k c a:=by
 unfold qO
 rw[if_pos g]
 refine⟨⟨i,λb w n e f=>?_⟩,h⟩
 obtain⟨d,p,q⟩:=j b w n e f
 rw[p]
 exact q
theorem dF {k:Nat} {b:Nat->Value->Prop} {a:Act} (h:B b a):qO P ops md J S ks B [] k b a:=h
end
end Go.Proofs.YtnpdhopjpjickaaGreatDoor
end
section
set_option linter.all false
set_option maxRecDepth 100000
namespace Go.Proofs.YtnpdhopjpjickaaGreatDoor
open Go.ChangeShapes Go.WideShapes Go.ChangeAt Go.RowKit Go.Deep
abbrev bS:=Int × Int × Int × Int
def DX (c:bS):Value:=.agg #[.int .i64 c.1,.int .i64 c.2.1,.int .i64 c.2.2.1,.int .i64 c.2.2.2]
def iB (c:bS):Prop:=wf c.1/\wf c.2.1/\wf c.2.2.1/\wf c.2.2.2
def jT (w:World) (b o:Nat) (c:bS):Prop:=
 w.cell? ⟨b,o,none⟩=some (.int .i64 c.1)/\w.cell? ⟨b,o+1,none⟩=some (.int .i64 c.2.1)/\w.cell? ⟨b,o+2,none⟩=some (.int .i64 c.2.2.1)/\w.cell? ⟨b,o+3,none⟩=some (.int .i64 c.2.2.2)/\iB c
def d7 (B:Nat) (w:World) (v:Value) (cs:List bS):Prop:=
 ∃ a d,v=.slice a cs.length d/\cs.length<=d/\d<=maxLen/\∀ i c,cs[i]?=some c->∃ b o,a=some ⟨b,o,none⟩/\b<B/\jT w b (o+i*4) c
theorem jT.later {B:Nat} {w w':World} {b o:Nat} {c:bS} (h:jT w b o c) (a:Below B w w') (d:b<B):jT w' b o c:=by
 unfold jT
 rw[a.cell (p:=⟨b,o,none⟩) d,a.cell (p:=⟨b,o+1,none⟩) d,a.cell (p:=⟨b,o+2,none⟩) d,a.cell (p:=⟨b,o+3,none⟩) d]
 exact h
theorem d7.later {B f:Nat} {w w':World} {v:Value} {cs:List bS} (h:d7 B w v cs) (g:Below f w w') (r:B<=f):d7 B w' v cs:=by
 obtain⟨a,d,j,l,m,n⟩:=h
 refine⟨a,d,j,l,m,λi c p=>?_⟩
 obtain⟨b,o,e,q,k⟩:=n i c p
 exact⟨b,o,e,q,k.later g (by omega)⟩
theorem d7.mono {B f:Nat} {w:World} {v:Value} {cs:List bS} (h:d7 B w v cs) (p:B<=f):d7 f w v cs:=by
 obtain⟨a,d,g,j,l,m⟩:=h
 refine⟨a,d,g,j,l,λi c n=>?_⟩
 obtain⟨b,o,e,q,k⟩:=m i c n
 exact⟨b,o,e,by omega,k⟩
theorem d7.shape {B:Nat} {w:World} {v:Value} {cs:List bS} (h:d7 B w v cs):∃ a b,v=.slice a cs.length b/\cs.length<=b/\b<=maxLen:=by
 obtain⟨a,b,rfl,h,c,_⟩:=h
 exact⟨a,b,rfl,h,c⟩
def cL (c:bS) (a:Int):Int:=
 if c.1=1\/c.1=4 then (if c.2.2.1≠0\/c.2.2.2≠0 then 4 else if c.2.1<0\/4<c.2.1 then 3 else 0)
 else if c.1=2\/c.1=3 then (if c.2.1<0\/65535<c.2.1 then 3 else if c.2.2.1<0\/a<=c.2.2.1\/c.2.2.2<0\/a<=c.2.2.2 then 5 else 0)
 else 4
def bP:List bS->Int
 | []=>0
 | c :: r=>if cL c r.length=0 then bP r else cL c r.length
def eD:List bS->Int
 | []=>0
 | [c]=>c.1
 | _ :: c :: r=>eD (c :: r)
def bt (l:List bS):Int:=if l.length<1\/1500<l.length then 2 else if bP l=0 then (if eD l=4 then 0 else 4) else bP l
theorem uV (l:List bS) (k:Nat) (c:bS) (h:l[k]?=some c):bP (l.drop k)=if cL c ((l.length:Int)-1-k)=0 then bP (l.drop (k+1)) else cL c ((l.length:Int)-1-k):=by
 obtain⟨a,rfl⟩:=List.getElem?_eq_some_iff.1 h
 rw[List.drop_eq_getElem_cons a,bP,show (((l.drop (k+1)).length:Nat):Int)=(l.length:Int)-1-k by rw[List.length_drop];omega]
theorem mi:∀ (l:List bS) (c:bS),l[l.length-1]?=some c->eD l=c.1
 | [],_,h=>by simp at h
 | [d],c,h=>by simp at h;subst h;rfl
 | _ :: d :: r,c,h=>by
  rw[eD]
  exact mi (d :: r) c (by simpa using h)
theorem qc:∀ (l:List bS) (k:Nat) (c:bS),bP l=0->l[k]?=some c->cL c ((l.length:Int)-1-k)=0
 | [],_,_,_,h=>by simp at h
 | d :: r,k,c,h,b=>by
  rw[bP] at h
  by_cases a:cL d r.length=0
  ·rw[if_pos a] at h
   cases k with
   | zero=>
    simp at b
    subst b
    rw[show (((d :: r).length:Nat):Int)-1-((0:Nat):Int)=r.length by simp]
    exact a
   | succ k=>
    have:=qc r k c h (by simpa using b)
    rw[show (((d :: r).length:Nat):Int)-1-((k+1:Nat):Int)=(r.length:Int)-1-k by simp;omega]
    exact this
  ·rw[if_neg a] at h
   exact absurd h a
theorem np {l:List bS} (h:bt l=0):1<=l.length/\l.length<=1500/\bP l=0/\eD l=4:=by
 unfold bt at h
 by_cases b:l.length<1\/1500<l.length
 ·rw[if_pos b] at h;cases h
 ·rw[if_neg b] at h
  by_cases a:bP l=0
  ·rw[if_pos a] at h
   by_cases c:eD l=4
   ·exact⟨by omega,by omega,a,c⟩
   ·rw[if_neg c] at h;cases h
  ·rw[if_neg a] at h;exact absurd h a
theorem wP {c:bS} {n:Int} (h:cL c n=0):(c.1=1\/c.1=4)/\(0<=c.2.1/\c.2.1<=4)\/(c.1=2\/c.1=3)/\(0<=c.2.2.1/\c.2.2.1<n/\0<=c.2.2.2/\c.2.2.2<n):=by
 unfold cL at h
 by_cases a:c.1=1\/c.1=4
 ·rw[if_pos a] at h
  split at h
  ·cases h
  ·split at h
   ·cases h
   ·exact .inl ⟨a,by omega⟩
 ·rw[if_neg a] at h
  by_cases b:c.1=2\/c.1=3
  ·rw[if_pos b] at h
   split at h
   ·cases h
   ·split at h
    ·cases h
    ·exact .inr ⟨b,by omega⟩
  ·rw[if_neg b] at h
   cases h
def Eh (p:Int × Int):Int × Int:=(p.1,p.2+1)
def kf (n:Int) (c:bS):Nat:=(if (if c.1=2 then n=c.2.1 else n<c.2.1) then c.2.2.1 else c.2.2.2).toNat
def df (x:Nat->Int):Int->Nat->List bS->Int × Int
 | _,_,[]=>(0,0)
 | n,k+1,_ :: r=>df x n k r
 | n,0,c :: r=>if c.1=1 then Eh (df x (x c.2.1.toNat) 0 r) else if c.1=2\/c.1=3 then Eh (df x n (kf n c) r) else (c.2.1,1)
theorem pk (x:Nat->Int):∀ (l:List bS) (n:Int) (k:Nat),df x n k l=df x n 0 (l.drop k)
 | [],n,k=>by cases k<;>simp[df]
 | c :: r,n,0=>by simp
 | c :: r,n,k+1=>by rw[List.drop_succ_cons,df];exact pk x r n k
theorem Bp {H:Type} {s:TypeId × Value->H} {W:World} {g:Nat} {V:Nat->Bool} {j:Bool} {l:Nat} {cv:Value} {x:DataW H × List MemPlace} (h:DataW.trod s Tryz.prog W g V j l 85 [cv]=some x):∃ t,d7 W.heap.size W cv t:=by
 rcases open_slice Tryz.underlying85 h with ⟨o,_⟩ | ⟨a,e,u,m,n,D,Pl,o,_,hl,X,w,_,y⟩
 ·simp at o
  subst o
  exact⟨[],none,0,rfl,Nat.le_refl _,Nat.zero_le _,λi c z=>by simp at z⟩
 ·simp at o
  subst o
  have Y:Tryz.prog.cellsOf 122=4:=by kernel_rfl
  have Z:Tryz.prog.cellsOf 3=1:=by kernel_rfl
  rw[Y] at y
  have a0:e<=m:=by rw[w];split<;>omega
  have p:∀ i,i<e->∃ c:bS,a=⟨a.block,a.off,none⟩/\a.block<W.heap.size/\jT W a.block (a.off+i*4) c:=by
   intro i hi
   have A:W.cell? (a.add 0)≠none:=by
    obtain⟨f,B,_⟩:=y 0 (by omega)
    obtain⟨_,d,b⟩:=World.cells?_some B
    have:=b 0 (by omega)
    rw[add_add] at this
    simp at this
    match f,d with
    | [v0,v1,v2,v3],_=>simp at this |-;rw[this];simp
   obtain⟨v,hv⟩:=Option.ne_none_iff_exists'.1 A
   obtain⟨q,C⟩:=gn hv
   obtain⟨f,B,g2⟩:=y i (by omega)
   obtain⟨_,d,b⟩:=World.cells?_some B
   obtain⟨xs,k,_,_,_,E,r⟩:=DataW.trod_struct Tryz.underlying122 g2
   match xs,E with
   | [y0,y1,y2,y3],_=>
    have J:=r 0 _ rfl
    have K:=r 1 _ rfl
    have L:=r 2 _ rfl
    have M:=r 3 _ rfl
    match f,d with
    | [v0,v1,v2,v3],_=>
     simp[Z] at J K L M
     obtain⟨k0,N,_,w0⟩:=DataW.trod_int Tryz.underlying3 J
     obtain⟨k1,O,_,w1⟩:=DataW.trod_int Tryz.underlying3 K
     obtain⟨k2,P,_,w2⟩:=DataW.trod_int Tryz.underlying3 L
     obtain⟨k3,Q,_,w3⟩:=DataW.trod_int Tryz.underlying3 M
     simp at N O P Q
     subst N O P Q
     have R:=b 0 (by omega)
     have S:=b 1 (by omega)
     have T:=b 2 (by omega)
     have U:=b 3 (by omega)
     rw[add_add,q,dL] at R S T U
     exact⟨(k0,k1,k2,k3),q,C,by simpa using R,by simpa [Nat.add_assoc] using S,by simpa [Nat.add_assoc] using T,by simpa [Nat.add_assoc] using U,w0,w1,w2,w3⟩
  obtain⟨t,F,G⟩:=ic _ e p
  refine⟨t,some a,u,by rw[F],by omega,X,λi c z=>?_⟩
  obtain⟨q,C,I⟩:=G i c z
  exact⟨a.block,a.off,by rw[<-q],C,I⟩
end Go.Proofs.YtnpdhopjpjickaaGreatDoor
end
