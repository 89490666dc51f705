/- Joined: OpenR OpenQ AppN All Prt Prt2 Jn. -/
import Derived.Test.YtnpdhopjpjickaaGreatDoorWj12
import Derived.Test.YtnpdhopjpjickaaGreatDoorWj13
import Derived.Lib.SmallJoins
import Derived.Test.YtnpdhopjpjickaaGreatDoorWj21
import Derived.Test.YtnpdhopjpjickaaGreatDoorWj01
import Derived.Test.YtnpdhopjpjickaaGreatDoorWj03
import Derived.Lib.AppendZerosOnto
import Derived.Lib.AppendZeros
import Derived.Maps.AppendAt
import Derived.Test.YtnpdhopjpjickaaGreatDoorWj08
import Derived.Test.YtnpdhopjpjickaaGreatDoorWj04
import Derived.Test.YtnpdhopjpjickaaGreatDoorWj22
section
set_option linter.all false
set_option maxRecDepth 100000
namespace Go.Proofs.YtnpdhopjpjickaaGreatDoor
open Go.ChangeShapes Go.WideShapes Go.ChangeAt Go.RowKit Go.Deep Go.Maps
theorem qr {H:Type} {d:TypeId × Value->H} {W:World} {a b:Nat} {m:Nat->Bool} {c:Bool} {e i:Value} {x:DataW H × List MemPlace}
  (o:DataW.trod d Tryz.prog W a m c b 30 [e,i]=some x):∃ p,bG W.heap.size W (.agg #[e,i]) p:=by
 obtain⟨t,u,n,_,_,j,k⟩:=trod_struct2 Tryz.underlying30 o
 have f:Tryz.prog.cellsOf 28=1:=by kernel_rfl
 have g:Tryz.prog.cellsOf 3=1:=by kernel_rfl
 simp[f,g] at j k
 obtain⟨q,h⟩:=sP j
 obtain⟨r,l,_,s⟩:=DataW.trod_int Tryz.underlying3 k
 simp at l
 subst l
 exact⟨(q,r),e,rfl,s,h⟩
end Go.Proofs.YtnpdhopjpjickaaGreatDoor
end
section
set_option linter.all false
set_option maxRecDepth 100000
namespace Go.Proofs.YtnpdhopjpjickaaGreatDoor
open Go.ChangeShapes Go.WideShapes Go.ChangeAt Go.RowKit Go.Deep Go.Maps
end Go.Proofs.YtnpdhopjpjickaaGreatDoor
end
section
set_option linter.all false
set_option maxRecDepth 100000
namespace Go.Proofs.YtnpdhopjpjickaaGreatDoor
open Go.RowKit Go.Maps
theorem eJ {w w':World} (a:Below w.heap.size w w') (row:Option Nat):w.grownBy w' row:=⟨a.os,a.tape,a.output,a.size,λk b _=>a.block k b⟩
theorem lQ {P:Program} {t e:TypeId} {i:TypeInfo} {z:Value} {b f:Nat} {C:Array Oper} {r:List Oper} {o:Oper} {a:Act} {Q:Exit->Act->World->Prop} (w:World) (E:o.guard=none) (s x:Operand)
  (kf:o.op=.call { callee:=.builtin .append,args:=#[s,x],argTypes:=#[t,t] })
  (O:P.underlying t=some (.slice e)) (R:P.info? e=some i) (S:i.zero=some z) (A:i.size=b) (F:i.bytes=f) (G:z.cells.size=b) (H:0<b)
  (d:Nat) (v:Value) (n:Nat) (I:List Value) (T:a.eval s=v) (g m:Nat) (c:List Value) (U:a.eval x=.slice (some ⟨g,0,none⟩) m m)
  (W:World) {J:TypeId} (V:w=W.alloc (.cells c.toArray J)) (X:g=W.heap.size) (p:World) (L:Below p.heap.size p W) (y:p.ownsRow d e b v n I) (Y:c.length=m*b) (Z:∀ u∈c,u.oneCell'=true) (hm:n+m<=maxLen) (hn:(n+m)*f<=140737488355328) (l:d<=p.heap.size)
  (h:∀ B D,Hid (D.ownsRow d e b B (n+m) (I++c))->Below d p D->Hid (p.grownBy D v.ownBlock)->Hid (B.ownBlock=v.ownBlock\/∃ k,B.ownBlock=some k/\p.heap.size<=k)->wpList P C Q r (a.put o.dst B) D):wpList P C Q (o :: r) a w:=by
 subst V
 subst X
 have q:Below p.heap.size p (W.alloc (.cells c.toArray J)):=L.alloc L.size _
 obtain⟨B,M,r1,r2,r3,_,r5⟩:=run_append_own_at (P:=P) (W.alloc (.cells c.toArray J)) d t o.type e i z b f O R S A F G H v n I (au y q) ⟨W.heap.size,0,none⟩ m m c Y (λj u K=>by rw[dL,Nat.zero_add];exact ab (af W _) j (by simpa using K)) Z hm hn (Nat.le_trans l q.size)
 have N:p.grownBy M v.ownBlock:=World.grownBy.andThen (eJ q v.ownBlock) r3 λj K=>.inr K
 exact Lib.wpList_append_run _ E s x _ _ kf _ _ T U _ _ r1 (h B M r2 ((Below.refl _ _).grown N l λk hk=>eS y k hk) N (by
  rcases r5 with e | e
  ·exact .inl e
  ·exact .inr ⟨_,e,q.size⟩))
end Go.Proofs.YtnpdhopjpjickaaGreatDoor
end
section
set_option linter.all false
namespace Go.Proofs.YtnpdhopjpjickaaGreatDoor
open Go.RowKit
section
variable {P:Program} {ops:Array Oper} {md:Region.Mode} {J:(Nat->Value->Prop)->World->Prop} {S:Nat->Value->Prop} {ks:Nat->Bool} {B:(Nat->Value->Prop)->Act->Prop}
def nE (P:Program) (md:Region.Mode) (ops:Array Oper) (J:(Nat->Value->Prop)->World->Prop) (S:Nat->Value->Prop) (ks:Nat->Bool) (B:(Nat->Value->Prop)->Act->Prop):Nat->Array Bool->(Nat->Value->Prop)->Act->Prop
 | 0,b,d,a=>Region.ready md ops b=[]/\B d a
 | c+1,b,d,a=>Region.ready md ops b≠[]/\∀ i∈Region.ready md ops b,y5 P ops md J S ks i (nE P md ops J S ks B c (b.setIfInBounds i true)) d a
theorem jj {Q:Exit->Act->World->Prop}
  (p:∀ f a w,J f w->B f a->Q .normal a w):
  ∀ (c:Nat) (b:Array Bool) (f:Nat->Value->Prop) (a:Act) (w:World),J f w->(∀ m v,f m v->b.getD m true=true)->nE P md ops J S ks B c b f a->wpAny P md ops Q c b a w
 | 0,b,f,a,w,j,n,h=>⟨h.1,p f a w j h.2⟩
 | c+1,b,f,a,w,j,n,h=>by
  obtain⟨C,D⟩:=h
  refine⟨λE=>absurd E C,λi A=>?_⟩
  have k:=D i A
  obtain⟨g,_,_,_⟩:=mem_ready.1 A
  have e:∀ m,b.getD m true=true->(b.setIfInBounds i true).getD m true=true:=λm d=>by
   by_cases q:i=m
   ·subst q
    rw[g] at d
    cases d
   ·rw[getD_set_ne true q];exact d
  have l:(b.setIfInBounds i true).getD i true=true:=by
   rcases Nat.lt_or_ge i b.size with t | t
   ·simp[t]
   ·simp[Array.getElem?_eq_none t]
  unfold y5 at k
  unfold wpOp
  split
  ·rename_i x;simp only[x] at k;exact jj p c _ _ _ _ j (λm v d=>e m (n m v d)) k
  ·rename_i o x
   simp only[x] at k
   split at k
   ·obtain⟨⟨r,z⟩,s⟩:=k
    simp only[r,if_true]
    refine .inl (ug (z f w j (λm v d _=>d) λv F=>?_) λv G ⟨H,I⟩=>?_)
    ·have:=n i v F
     rw[g] at this
     cases this
    ·refine jj p c _ (bW f i v) _ G I (λm u d=>?_) (s v H)
     rcases d with d | ⟨rfl,rfl⟩
     ·exact e m (n m u d)
     ·exact l
   ·obtain⟨v,y,s⟩:=k
    rcases y with ⟨r,z⟩ | ⟨r,rfl⟩
    ·simp only[r,if_true]
     exact .inl (kT (z w ⟨f,j⟩) (jj p c _ _ _ _ j (λm v d=>e m (n m v d)) s))
    ·simp only[r,Bool.false_eq_true,if_false]
     exact jj p c _ _ _ _ j (λm v d=>e m (n m v d)) s
theorem xX {i:Nat} {n:Oper} {v:Value} (L:ops[i]?=some n) (q:ks i=false) (s:∀ (j:Nat) (o:Oper) A b,ops[j]?=some o->o.op≠.select A b):
  ∀ (f:Nat) (c:Array Bool) (C:Nat->Value->Prop) (a:Act),
   (∀ j l,ops[j]?=some l->j≠i->c.getD j true=false->(∀ e∈l.after,Region.binds md e=true->e.on≠i)->n.apart ops l=true)->
   i∈Region.ready md ops c->YR P ops (By J) n v a->
   nE P md ops J S ks B f (c.setIfInBounds i true) C (a.put n.dst v)->nE P md ops J S ks B (f+1) c C a:=by
 intro f
 induction f with
 | zero=>
  intro c C a _ t K H
  refine⟨λh=>(by rw[h] at t;cases t),λj D=>?_⟩
  by_cases d:j=i
  ·subst d;unfold y5;simp only[L,q];exact⟨v,K,H⟩
  ·have:=ready_mono D d
   rw[H.1] at this
   cases this
 | succ f Q=>
  intro c C a p t K H
  refine⟨λh=>(by rw[h] at t;cases t),λj D=>?_⟩
  by_cases d:j=i
  ·subst d;unfold y5;simp only[L,q];exact⟨v,K,H⟩
  ·have z:=H.2 j (ready_mono D d)
   obtain⟨w,l,r,R⟩:=mem_ready.1 D
   have E:∀ e∈l.after,Region.binds md e=true->e.on≠i:=λe Y Z M=>aS r ⟨e,Y,Z,M⟩ t D
   obtain⟨T,U,V⟩:=Oper.apart_spec (p j l r d w E)
   have g:∀ k ok,ops[k]?=some ok->k≠i->(c.setIfInBounds j true).getD k true=false->
     (∀ e∈ok.after,Region.binds md e=true->e.on≠i)->n.apart ops ok=true:=λk ok F q G N=>by
    refine p k ok F q ?_ N
    by_cases I:j=k
    ·subst I;exact w
    ·rw[getD_set_ne true I] at G;exact G
   have x:∀ u,YR P ops (By J) n v (a.put l.dst u):=λu=>K.of_same (execOp_put n (λA b=>s i n A b L) a l.dst u V) (wanted_put n a l.dst u V)
   have W:=execOp_put l (λA b=>s j l A b r) a n.dst v T
   have X:=wanted_put l a n.dst v T
   unfold y5 at z |-
   simp only[r] at z |-
   split
   ·rename_i F
    simp only[F,if_true] at z
    obtain⟨y,O⟩:=z
    refine⟨y.of_same W.symm X.symm λm u hm _=>hm,λu hu=>Q (c.setIfInBounds j true) _ _ g (ready_mono t (Ne.symm d)) (x u) ?_⟩
    rw[Array.setIfInBounds_comm _ _ d,<-Act.put_comm a v u U]
    exact O u hu
   ·rename_i F
    simp only[F] at z
    obtain⟨u,y,O⟩:=z
    refine⟨u,y.of_same W.symm X.symm,Q (c.setIfInBounds j true) C _ g (ready_mono t (Ne.symm d)) (x u) ?_⟩
    rw[Array.setIfInBounds_comm _ _ d,<-Act.put_comm a v u U]
    exact O
theorem uW (hS:∀ k,∃ v,S k v) (W:∃ w,By J w) {i:Nat} {n:Oper} (U:ops[i]?=some n) (q:ks i=true) (t:∀ (j:Nat) (o:Oper) N b,ops[j]?=some o->o.op≠.select N b):
  ∀ (f:Nat) (c:Array Bool) (E:Nat->Value->Prop) (a:Act),
   (∀ j g,ops[j]?=some g->j≠i->c.getD j true=false->(∀ e∈g.after,Region.binds md e=true->e.on≠i)->n.apart ops g=true)->
   i∈Region.ready md ops c->YG P ops md J S n i E a->
   (∀ v,S i v->nE P md ops J S ks B f (c.setIfInBounds i true) (bW E i v) (a.put n.dst v))->nE P md ops J S ks B (f+1) c E a:=by
 intro f
 obtain⟨F,G⟩:=hS i
 induction f with
 | zero=>
  intro c E a _ r V H
  refine⟨λh=>(by rw[h] at r;cases r),λj M=>?_⟩
  by_cases d:j=i
  ·subst d;unfold y5;simp only[U,q,if_true];exact⟨V,H⟩
  ·have:=ready_mono M d
   rw[(H F G).1] at this
   cases this
 | succ f ih=>
  intro c E a p r V H
  refine⟨λh=>(by rw[h] at r;cases r),λj M=>?_⟩
  by_cases d:j=i
  ·subst d;unfold y5;simp only[U,q,if_true];exact⟨V,H⟩
  ·have z:=λv O=>(H v O).2 j (ready_mono M d)
   obtain⟨A,g,s,a8⟩:=mem_ready.1 M
   have C:∀ e∈g.after,Region.binds md e=true->e.on≠i:=λe X Y I=>aS s ⟨e,X,Y,I⟩ r M
   have Z:¬cI md g i:=λ⟨e,X,Y,I⟩=>C e X Y I
   have a9:¬cI md n j:=λh=>aS U h M r
   obtain⟨a1,a2,a3⟩:=Oper.apart_spec (p j g s d A C)
   have l:∀ k ok,ops[k]?=some ok->k≠i->(c.setIfInBounds j true).getD k true=false->
     (∀ e∈ok.after,Region.binds md e=true->e.on≠i)->n.apart ops ok=true:=λk ok Q q R a0=>by
    refine p k ok Q q ?_ a0
    by_cases T:j=k
    ·subst T;exact A
    ·rw[getD_set_ne true T] at R;exact R
   have D:∀ u K,(∀ m x,E m x->cI md n m->K m x)->YG P ops md J S n i K (a.put g.dst u):=λu K a4=>V.of_same (execOp_put n (λN b=>t i n N b U) a g.dst u a3) (wanted_put n a g.dst u a3) a4
   have e1:=λv=>execOp_put g (λN b=>t j g N b s) a n.dst v a1
   have e2:=λv=>wanted_put g a n.dst v a1
   unfold y5 at z |-
   simp only[s] at z |-
   split
   ·rename_i Q
    simp only[Q,if_true] at z
    refine⟨(z F G).1.of_same (e1 F).symm (e2 F).symm λm u L hw=>?_,λu hu=>ih (c.setIfInBounds j true) _ _ l (ready_mono r (Ne.symm d)) (D u _ λm x L _=>.inl L) λv O=>?_⟩
    ·rcases L with L | ⟨rfl,rfl⟩
     ·exact L
     ·exact absurd hw Z
    ·rw[Array.setIfInBounds_comm _ _ d,<-Act.put_comm a v u a2,uq]
     exact (z v O).2 u hu
   ·rename_i Q
    simp only[Q] at z
    obtain⟨u,y,_⟩:=z F G
    have y0:YR P ops (By J) g u a:=y.of_same (e1 F).symm (e2 F).symm
    refine⟨u,y0,ih (c.setIfInBounds j true) E _ l (ready_mono r (Ne.symm d)) (D u _ λm x L _=>L) λv O=>?_⟩
    obtain⟨u',y',hK⟩:=z v O
    have:=YR.one W y0 (y'.of_same (e1 v).symm (e2 v).symm)
    subst this
    rw[Array.setIfInBounds_comm _ _ d,<-Act.put_comm a v u a2]
    exact hK
theorem nO (p:∀ k,∃ v,S k v) (c:∃ w,By J w) (i:Region.noSelect ops=true):∀ (l:List Oper) (k:Nat) (b:Array Bool) (e:Nat->Value->Prop) (a:Act),(∀ j,j<l.length->l[j]?=ops[k+j]?)->
  Region.lexFrom md ops l.length k b=true->qO P ops md J S ks B l k e a->nE P md ops J S ks B l.length b e a
 | [],k,b,e,a,_,m,h=>⟨by simpa [Region.lexFrom] using m,h⟩
 | o :: l,k,b,e,a,s,m,h=>by
  have n:ops[k]?=some o:=by simpa using (s 0 (by simp)).symm
  simp only[List.length_cons,Region.lexFrom,Bool.and_eq_true] at m
  obtain⟨⟨t,u⟩,f⟩:=m
  have g:∀ j,j<l.length->l[j]?=ops[k+1+j]?:=λj y=>by have:=s (j+1) (by simp;omega);simpa [Nat.add_assoc,Nat.add_comm 1 j] using this
  unfold qO at h
  split at h
  ·rename_i d
   obtain⟨q,r⟩:=h
   exact uW p c n d (Region.noSelect_spec i) l.length b e a (Region.free_spec n u) (by simpa using t) q
    (λv x=>nO p c i l (k+1) _ _ _ g f (r v x))
  ·rename_i d
   obtain⟨v,q,r⟩:=h
   exact xX n (by simpa using d) (Region.noSelect_spec i) l.length b e a (Region.free_spec n u) (by simpa using t) q
    (nO p c i l (k+1) _ _ _ g f r)
theorem ib {id:Nat} {Q:Exit->Act->World->Prop} {a:Act} {w:World} {l:List Oper} (ks:Nat->Bool) (J:(Nat->Value->Prop)->World->Prop) (S:Nat->Value->Prop) (i:∀ k,∃ v,S k v) (d:P.follows .mixedOrders=true) (c:Region.lexB .any l.toArray=true) (e:J (λ_ _=>False) w.drew)
  (h:qO P l.toArray .any J S ks (λf n=>∀ g,J f g->Q .normal n g) l 0 (λ_ _=>False) a):(Code.region id l.toArray true).wp P Q a w:=by
 simp only[Region.lexB,Bool.and_eq_true] at c
 have b:l.toArray.size=l.length:=by simp
 rw[b] at c
 have o:=nO (md:=.any) i ⟨_,_,e⟩ c.1 l 0 (Array.replicate l.length false) (λ_ _=>False) a (λj r=>by simp) c.2 h
 refine wp_region_any d ?_
 rw[b]
 exact jj (λf a w p q=>q w p) l.length _ (λ_ _=>False) a { w with drawn:=w.drawn+1 } e (λm v d=>d.elim) o
end
end Go.Proofs.YtnpdhopjpjickaaGreatDoor
end
section
set_option linter.all false
set_option maxRecDepth 100000
namespace Go.Proofs.YtnpdhopjpjickaaGreatDoor
open Go.RowKit Go.Maps
theorem nz (i b:Nat) (h:i<5) (w:World):(Instr.indexAt 129 (.slice (some ⟨b,0,none⟩) 5 5) (.int .i64 i)).run Tryz.prog w=.ok (.pointer (some ⟨b,i,none⟩)) w:=by
 have a:(i:Int)<5:=by omega
 have c:(0:Int)<=(i:Int):=by omega
 go_simp
theorem DL {i:Nat} (h:i<5):vC[i]?=some (.string (eP (vN.getD i []))):=by
 have:i=0\/i=1\/i=2\/i=3\/i=4:=by omega
 rcases this with rfl | rfl | rfl | rfl | rfl<;>rfl
theorem Eo {i:Nat} (h:i<5):fC[i]?=some (.string (eP (fN.getD i []))):=by
 have:i=0\/i=1\/i=2\/i=3\/i=4:=by omega
 rcases this with rfl | rfl | rfl | rfl | rfl<;>rfl
theorem uP (l:Bs):Lib.strCells (eP l)=Lib.byteCells l:=by
 unfold eP
 simp[Lib.strCells,Lib.byteCells]
theorem jO (l m:Bs):Lib.byteCells (l++m)=Lib.byteCells l++Lib.byteCells m:=by simp[Lib.byteCells]
theorem mW (l:Bs):(Lib.byteCells l).length=l.length:=by simp[Lib.byteCells]
theorem rg (l:Bs):(eP l).size=l.length:=by simp[eP,ByteArray.size]
theorem gy (B b:Nat) (l m:Bs) (w:World) (h:cC B b (Lib.byteCells l) w) (a:l.length+m.length<=140737488355328) (d:B<=w.heap.size):
  Calls Tryz.prog 195 #[.pointer (some ⟨b,0,none⟩),.string (eP m)] w λe c=>(∃ n:Int,e=.returned (.tuple #[.int .i64 n,.nilIface]))/\cC B b (Lib.byteCells (l++m)) c/\Below B w c/\fV b w c:=by
 refine (yx B b (Lib.byteCells l) (eP m) w h (by rw[mW,rg];exact a) d).mono ?_
 rintro e c ⟨rfl,f,g,i⟩
 rw[uP,<-jO] at f
 exact⟨⟨_,rfl⟩,.inr f,g,i⟩
theorem qR (B b:Nat) (l:Bs) (x:UInt8) (w:World) (h:cC B b (Lib.byteCells l) w) (a:l.length+1<=140737488355328) (d:B<=w.heap.size):
  Calls Tryz.prog 221 #[.pointer (some ⟨b,0,none⟩),.int .u8 x.toNat] w λe c=>e=.returned .nilIface/\cC B b (Lib.byteCells (l++[x])) c/\Below B w c/\fV b w c:=by
 refine (C4 B b (Lib.byteCells l) x.toNat w h (by rw[mW];exact a) d).mono ?_
 rintro e c ⟨rfl,f,g,i⟩
 refine⟨rfl,.inr ?_,g,i⟩
 rw[jO]
 exact f
def oY (B b:Nat) (cs:Array Value) (kc ki kw i R:Nat) (O:Obj) (l nm:Bs) (W:World) (fs:Nat->Value->Prop) (w:World):Prop:=
 w.heap[R]?=some O/\
 (∀ v,fs kc v->∃ a:Nat,v=.slice (some ⟨a,0,none⟩) 5 5/\w.heap[a]?=some (.cells cs 9 (0,0))/\a≠b)/\
 (∀ v,fs ki v->∃ a:Nat,v=.pointer (some ⟨a,i,none⟩)/\w.heap[a]?=some (.cells cs 9 (0,0))/\a≠b)/\
 ((∀ v,¬fs kw v)->Below W.heap.size W w)/\((∃ v,fs kw v)->cC B b (Lib.byteCells (l++nm)) w/\Below B W w/\W.heap.size<=w.heap.size)
def Es (kc ki a i:Nat) (nm:Bs) (k:Nat) (v:Value):Prop:=if k=kc then ∃ b:Nat,v=.slice (some ⟨b,0,none⟩) 5 5 else if k=ki then ∃ b:Nat,v=.pointer (some ⟨b,i,none⟩) else if k=a then v=.string (eP nm) else ∃ n:Int,v=.tuple #[.int .i64 n,.nilIface]
theorem rB (kc ki a i:Nat) (nm:Bs) (k:Nat):∃ v,Es kc ki a i nm k v:=by
 unfold Es
 split
 ·exact⟨_,0,rfl⟩
 ·split
  ·exact⟨_,0,rfl⟩
  ·split
   ·exact⟨_,rfl⟩
   ·exact⟨_,0,rfl⟩
def oC (R:Nat) (O:Obj):Type:={ w':World // w'.heap[R]?=some O }
section
variable {B b:Nat} {cs:Array Value} {kc ki kw i R:Nat} {O:Obj} {l nm:Bs} {W w:World} {fs:Nat->Value->Prop}
theorem oY.start (h:W.heap[R]?=some O):oY B b cs kc ki kw i R O l nm W (λ_ _=>False) W.drew:=⟨h,λ_ h=>h.elim,λ_ h=>h.elim,λ_=>(Below.refl _ _).drew,λh=>h.elim λ_ h=>h.elim⟩
theorem oY.size (h:oY B b cs kc ki kw i R O l nm W fs w):W.heap.size<=w.heap.size:=by
 by_cases a:∃ v,fs kw v
 ·exact (h.2.2.2.2 a).2.2
 ·exact (h.2.2.2.1 λv c=>a ⟨v,c⟩).size
theorem oY.call (h:oY B b cs kc ki kw i R O l nm W fs w) (p:ki≠kc) (q:kw≠kc) (s:b<W.heap.size) (t:B<=W.heap.size):oY B b cs kc ki kw i R O l nm W (bW fs kc (.slice (some ⟨w.heap.size,0,none⟩) 5 5)) (w.alloc (.cells cs 9)):=by
 have r:=h.size
 have a:Below w.heap.size w (w.alloc (.cells cs 9)):=(Below.refl _ _).alloc (Nat.le_refl _) _
 have d:∀ k o,w.heap[k]?=some o->(w.alloc (.cells cs 9)).heap[k]?=some o:=λk o n=>(a.block k (lt_of_block n)).trans n
 refine⟨d _ _ h.1,λv c=>?_,λv c=>?_,λj=>?_,λj=>?_⟩
 ·rcases c with c | ⟨_,rfl⟩
  ·obtain⟨m,e,f,g⟩:=h.2.1 v c
   exact⟨m,e,d _ _ f,g⟩
  ·exact⟨_,rfl,(MapKept.heap_alloc w _).1,by omega⟩
 ·rcases c with c | ⟨e,_⟩
  ·obtain⟨m,e,f,g⟩:=h.2.2.1 v c
   exact⟨m,e,d _ _ f,g⟩
  ·exact absurd e p
 ·exact Below.thenOf (h.2.2.2.1 λv c=>j v (.inl c)) a r
 ·obtain⟨v,c⟩:=j
  rcases c with c | ⟨e,_⟩
  ·obtain⟨f,g,u⟩:=h.2.2.2.2 ⟨v,c⟩
   exact⟨cC.later f a,g.trans (a.mono (by omega)),by simp;omega⟩
  ·exact absurd e q
theorem oY.idx {c:Nat} (h:oY B b cs kc ki kw i R O l nm W fs w) (g:kc≠ki) (j:kw≠ki) (d:fs kc (.slice (some ⟨c,0,none⟩) 5 5)):oY B b cs kc ki kw i R O l nm W (bW fs ki (.pointer (some ⟨c,i,none⟩))) w:=by
 refine⟨h.1,λv a=>?_,λv a=>?_,λf=>h.2.2.2.1 λv a=>f v (.inl a),λf=>?_⟩
 ·rcases a with a | ⟨e,_⟩
  ·exact h.2.1 v a
  ·exact absurd e g
 ·rcases a with a | ⟨_,rfl⟩
  ·exact h.2.2.1 v a
  ·obtain⟨n,e,k,m⟩:=h.2.1 _ d
   simp at e
   subst e
   exact⟨c,rfl,k,m⟩
 ·obtain⟨v,a⟩:=f
  rcases a with a | ⟨e,_⟩
  ·exact h.2.2.2.2 ⟨v,a⟩
  ·exact absurd e j
theorem oY.other {k:Nat} {u:Value} (h:oY B b cs kc ki kw i R O l nm W fs w) (d:kc≠k) (f:ki≠k) (g:kw≠k):oY B b cs kc ki kw i R O l nm W (bW fs k u) w:=by
 refine⟨h.1,λv a=>?_,λv a=>?_,λc=>h.2.2.2.1 λv a=>c v (.inl a),λc=>?_⟩
 ·rcases a with a | ⟨e,_⟩
  ·exact h.2.1 v a
  ·exact absurd e d
 ·rcases a with a | ⟨e,_⟩
  ·exact h.2.2.1 v a
  ·exact absurd e f
 ·obtain⟨v,a⟩:=c
  rcases a with a | ⟨e,_⟩
  ·exact h.2.2.2.2 ⟨v,a⟩
  ·exact absurd e g
theorem oY.name {v:Value} {d:Nat} (h:oY B b cs kc ki kw i R O l nm W fs w) (a:fs ki (.pointer (some ⟨d,i,none⟩))) (c:cs[i]?=some v):w.cell? ⟨d,i,none⟩=some v:=by
 obtain⟨g,e,f,_⟩:=h.2.2.1 _ a
 simp at e
 subst e
 simp[World.cell?,f,c]
theorem oY.write (h:oY B b cs kc ki kw i R O l nm W fs w) (u:kc≠kw) (x:ki≠kw) (o:∀ v,¬fs kw v) (f:cC B b (Lib.byteCells l) W) (y:∀ c k,O≠.cells c 5 k) (z:R≠b) (g:l.length+nm.length<=140737488355328) (r:B<=W.heap.size):
  Calls Tryz.prog 195 #[.pointer (some ⟨b,0,none⟩),.string (eP nm)] w λe s=>∃ v,e=.returned v/\(∃ n:Int,v=.tuple #[.int .i64 n,.nilIface])/\oY B b cs kc ki kw i R O l nm W (bW fs kw v) s:=by
 have a:=h.2.2.2.1 o
 refine (gy B b l nm w (cC.later f a) g (Nat.le_trans r a.size)).mono ?_
 rintro e s ⟨⟨n,rfl⟩,A,C,m⟩
 have t:∀ c k,Obj.cells cs 9 (0,0)≠.cells c 5 k:=λc k e=>by simp at e
 refine⟨_,rfl,⟨n,rfl⟩,m.2 _ _ z h.1 y,λv d=>?_,λv d=>?_,λD=>absurd (.inr ⟨rfl,rfl⟩) (D _),λ_=>⟨A,(a.mono r).trans C,Nat.le_trans a.size m.1⟩⟩
 ·rcases d with d | ⟨e,_⟩
  ·obtain⟨p,e,q,j⟩:=h.2.1 v d
   exact⟨p,e,m.2 _ _ j q t,j⟩
  ·exact absurd e u
 ·rcases d with d | ⟨e,_⟩
  ·obtain⟨p,e,q,j⟩:=h.2.2.1 v d
   exact⟨p,e,m.2 _ _ j q t,j⟩
  ·exact absurd e x
end
end Go.Proofs.YtnpdhopjpjickaaGreatDoor
end
section
set_option linter.all false
set_option maxRecDepth 100000
namespace Go.Proofs.YtnpdhopjpjickaaGreatDoor
open Go.RowKit Go.Maps
theorem rD {b k:Nat} {w w':World} {cs:Array Value} {T:TypeId} (h:fV b w w') (a:k≠b) (c:T≠5) (d:w.heap[k]?=some (.cells cs T (0,0))):w'.heap[k]?=some (.cells cs T (0,0)):=
 h.2 k _ a d (λf g e=>by simp at e;exact c e.2.1)
theorem C7 (o:Int) (h:1<=o/\o<=4) (w:World):(Instr.index 9 (.string ⟨#[61,33,60,62]⟩) (.int .i64 (o-1))).run Tryz.prog w=.ok (.int .u8 (gH o).toNat) w:=by
 have:o=1\/o=2\/o=3\/o=4:=by omega
 rcases this with rfl | rfl | rfl | rfl
 ·exact gt i8 0 (by decide) w
 ·exact gt i8 1 (by decide) w
 ·exact gt i8 2 (by decide) w
 ·exact gt i8 3 (by decide) w
set_option maxHeartbeats 8000000 in
theorem tI (Bc B b:Nat) (l:Bs) (cv:Value) (r:ai) (w:World) (bb:∀ j,Below B w j->dX j) (hc:bB Bc w cv r.1) (eb:Bc<=B) (E:cC B b (Lib.byteCells l) w) (hl:l.length<=1000000000) (hB:B<=w.heap.size) (bd:aR r=0):
  Calls Tryz.prog 194 #[.pointer (some ⟨b,0,none⟩),.agg #[cv,.int .i64 r.2]] w λe j=>e=.returned (.tuple #[])/\cC B b (Lib.byteCells (l++ck r)) j/\Below B w j:=by
 obtain⟨s,v⟩:=r
 obtain⟨cT,hv,O⟩:=lX bd
 simp only[] at cT hv O
 obtain⟨a,t,rfl,d0,ee,a2⟩:=hc
 simp only[] at d0 a2
 have HE:=hid bb
 have bf:=hid a2
 have bg:=hid O
 have hT:Hid (ck (s,v)=cJ v++s.flatMap bR++[59]):=rfl
 obtain⟨g,rfl⟩:∃ i:Nat,v=i:=⟨v.toNat,by omega⟩
 have bk:g<5:=by omega
 have d1:Hid (cJ (g:Int)=vN.getD g []):=by unfold Hid cJ;simp
 have ej:=jW (g:Int)
 have d2:Hid (∀ i:Nat,((s.take i).flatMap bR).length<=700000):=by
  intro i
  have h1:=jI (s.take i) λc hc=>O c (List.mem_of_mem_take hc)
  have h2:(s.take i).length<=10:=by rw[List.length_take];omega
  exact Nat.le_trans h1 (Nat.mul_le_mul_right 70000 h2)
 have e0:b<w.heap.size:=by
  rcases E with h | h
  ·exact h.lt
  ·exact h.lt
 have em:B<=b:=by
  rcases E with h | h
  ·exact h.1
  ·exact h.1
 have a3:Hid _:=E
 clear a2 O bd bb E
 show Calls Tryz.prog 194 #[.pointer (some ⟨b,0,none⟩),.agg #[.slice a s.length t,.int .i64 g]] w _
 generalize hn:s.length=n at*
 have a4:=hid hn
 clear hn
 have en:=ag
 obtain⟨N,F⟩:∃ N,N=w.alloc (.cells #[.slice a n t,.int .i64 g] 142):=⟨_,rfl⟩
 have bm:Below w.heap.size w N:=by rw[F];exact (Below.refl _ _).alloc (Nat.le_refl _) _
 have ep:N.heap.size=w.heap.size+1:=by rw[F];simp
 have P:N.heap[w.heap.size]?=some (.cells #[.slice a n t,.int .i64 g] 142 (0,0)):=by rw[F];exact (MapKept.heap_alloc w _).1
 have r1:N.cell? ⟨w.heap.size,1,none⟩=some (.int .i64 g):=(ah P).2.1
 go_enter Tryz.func194,Tryz.ntmps194
 go_wp2_with fail
 rw[<-F]
 clear F
 have hO:∀ G fr,Obj.cells #[.slice a n t,.int .i64 g] 142 (0,0)≠.cells G 5 fr:=λG fr e=>by simp at e
 have H:Nonempty (oC w.heap.size (.cells #[.slice a n t,.int .i64 g] 142 (0,0))):=⟨⟨N,P⟩⟩
 have u:Hid (∀ fs j,oY B b vC 1 4 6 g w.heap.size (.cells #[.slice a n t,.int .i64 g] 142 (0,0)) l (cJ g) N fs j->∃ z:oC w.heap.size (.cells #[.slice a n t,.int .i64 g] 142 (0,0)),j=z.1):=λfs j h=>⟨⟨j,h.1⟩,rfl⟩
 have q1:∀ z:oC w.heap.size (.cells #[.slice a n t,.int .i64 g] 142 (0,0)),z.1.cell? ⟨w.heap.size,1,none⟩=some (.int .i64 g):=λz=>(ah z.2).2.1
 have Q:Hid (cC B b (Lib.byteCells l) N):=cC.later a3.out bm
 refine ib (λk=>k==1||k==4||k==5||k==6) (oY B b vC 1 4 6 g w.heap.size (.cells #[.slice a n t,.int .i64 g] 142 (0,0)) l (cJ g) N) (Es 1 4 5 g (cJ g)) (rB _ _ _ _ _) (by kernel_rfl) (by kernel_rfl) (oY.start P) ?_
 refine aH u.out rfl rfl ?_;go_big_quiet_step (fail);refine wpQuiet_nil ?_
 refine bu 196 #[] rfl rfl (λj=>by kernel_rfl) (λgs j y d q=>?_) (λv1 a6=>?_)
 ·refine (i7 j).mono ?_
  rintro e w2 ⟨rfl,rfl⟩
  exact⟨_,rfl,⟨_,rfl⟩,y.call (by decide) (by decide) (by omega) (by omega)⟩
 simp only[Act.put,List.setIfInBounds_toArray,List.set_cons_succ,List.set_cons_zero]
 obtain⟨b1,rfl⟩:∃ b:Nat,v1=.slice (some ⟨b,0,none⟩) 5 5:=a6
 iterate 2 (refine aH u.out rfl rfl ?_;go_big_quiet_step (fail);refine wpQuiet_nil ?_)
 refine bY rfl rfl (λgs j y d q=>⟨.pointer (some ⟨b1,g,none⟩),j,f9 (nz g b1 bk j),⟨b1,rfl⟩,y.idx (by decide) (by decide) (d 1 _ (.inr ⟨rfl,rfl⟩) (zQ0 (by kernel_rfl)))⟩) (λv4 a8=>?_)
 simp only[Act.put,List.setIfInBounds_toArray,List.set_cons_succ,List.set_cons_zero]
 obtain⟨b4,rfl⟩:∃ b:Nat,v4=.pointer (some ⟨b,g,none⟩):=a8
 refine bY rfl rfl (λgs j y d q=>⟨.string (eP (cJ g)),j,?_,rfl,y.other (by decide) (by decide) (by decide)⟩) (λv5 a9=>?_)
 ·have D:=y.name (d 4 _ (.inr ⟨rfl,rfl⟩) (zQ0 (by kernel_rfl))) (DL bk)
  rw[<-d1.out] at D
  clear y d q q1 u H hO
  go_simp
 simp only[Act.put,List.setIfInBounds_toArray,List.set_cons_succ,List.set_cons_zero]
 obtain rfl:v5=.string (eP (cJ g)):=a9
 refine bu 195 #[.pointer (some ⟨b,0,none⟩),.string (eP (cJ g))] rfl rfl (λj=>by kernel_rfl) (λgs j y d q=>y.write (by decide) (by decide) q Q.out hO (by omega) (by omega) (by omega)) (λv6 dc=>?_)
 simp only[Act.put,List.setIfInBounds_toArray,List.set_cons_succ,List.set_cons_zero]
 refine dF ?_
 intro w2 aa
 obtain⟨T,bv,e2⟩:=aa.2.2.2.2 ⟨v6,.inr ⟨rfl,rfl⟩⟩
 have bx:=aa.1
 have c3:Below B w w2:=(bm.mono hB).trans bv
 clear aa q1 u H
 have es:w.heap.size<=w2.heap.size:=by omega
 obtain⟨x0,x1,_,_⟩:=ah bx
 have ac:Hid _:=T
 clear T bx r1 P
 go_wp2_with fail
 go_loopw [16] (λiv wr=>∃ i:Nat,i<=n/\iv=.int .i64 i/\Hid (cC B b (Lib.byteCells (l++cJ g++(s.take i).flatMap bR)) wr)/\Below B w wr/\w.heap.size<=wr.heap.size) (λiv _=>n-(intOf iv).toNat)
 case atStart=>exact⟨0,by omega,rfl,by unfold Hid;show cC B b (Lib.byteCells (l++cJ g++[])) w2;rw[List.append_nil];exact ac.out,c3,by omega⟩
 case round=>
  obtain⟨i,hi,rfl,U,ad,et⟩:=hrel
  obtain⟨C,de⟩:∃ x,x=wr:=⟨_,rfl⟩
  subst de
  have i0:(0:Int)<=(i:Int):=by omega
  have I:=d2.out i
  by_cases di:i<n
  ·have i1:(i:Int)<(n:Int):=by omega
   obtain⟨c,ak⟩:∃ c,s[i]?=some c:=⟨s[i]'(by rw[a4.out];exact di),by simp⟩
   obtain⟨bc,oc,rfl,eu,dk⟩:=bf.out i c ak
   obtain⟨hf,ho,dl⟩:=lV (bg.out c (List.mem_of_getElem? ak))
   have ao:Hid ((s.take (i+1)).flatMap bR=(s.take i).flatMap bR++bR c):=by
    unfold Hid
    rw[List.take_add_one,ak]
    simp
   obtain⟨f,o,m⟩:=c
   obtain⟨c0,c1,c2,_⟩:=dk.later ad (by omega)
   simp only[] at c0 c1 c2 hf ho dl
   obtain⟨p,rfl⟩:∃ k:Nat,f=k:=⟨f.toNat,by omega⟩
   have c4:p<5:=by omega
   have dn:Hid (fM (p:Int)=fN.getD p []):=by unfold Hid fM;simp
   have eV:=tK (p:Int)
   have e4:IntKind.i64.wrap (o-1)=o-1:=IntWalk.i64_in _ (by omega)
   have e5:=C7 o ho
   have dp:Hid (bR ((p:Int),o,m)=32 :: (fM p++(gH o :: Lib.itoa m))):=rfl
   have e6:(Lib.itoa m).length<=65536:=by
    unfold Lib.itoa
    rw[if_neg (by omega)]
    have:=jD m.toNat
    omega
   obtain⟨V,J⟩:∃ V,V=C.alloc (.cells #[.int .i64 p,.int .i64 o,.int .i64 m] 145):=⟨_,rfl⟩
   have c5:Below C.heap.size C V:=by rw[J];exact (Below.refl _ _).alloc (Nat.le_refl _) _
   have f0:V.heap.size=C.heap.size+1:=by rw[J];simp
   have c6:V.heap[C.heap.size]?=some (.cells #[.int .i64 p,.int .i64 o,.int .i64 m] 145 (0,0)):=by rw[J];exact (MapKept.heap_alloc C _).1
   have W:Hid (cC B b (Lib.byteCells (l++cJ g++(s.take i).flatMap bR)) V):=cC.later U.out c5
   have c7:Below B w V:=ad.trans (c5.mono (by omega))
   obtain⟨K,R⟩:∃ K,K=l++cJ g++(s.take i).flatMap bR:=⟨_,rfl⟩
   have e7:K.length<=1000000000+5+700000:=by rw[R];simp only[List.length_append];omega
   rw[<-R] at W
   have c8:Hid _:=R
   clear R I
   have av:C.heap.size≠b:=by omega
   go_wp2_with fail
   rw[<-J]
   clear J
   go_at_call 221
   refine Calls.mono (qR B b K 32 V W.out (by omega) (by omega)) ?_
   rintro e w4 ⟨rfl,A,L,b0⟩
   have S:=rD b0 av (by decide) c6
   have f1:=b0.1
   have ca:=c7.trans L
   have b2:Hid _:=A
   obtain⟨⟨y0,y1,y2⟩,_⟩:=ey S
   clear A c6
   go_wp2_with fail
   have hO:∀ G fr,Obj.cells #[.int .i64 p,.int .i64 o,.int .i64 m] 145 (0,0)≠.cells G 5 fr:=λG fr e=>by simp at e
   have H:Nonempty (oC C.heap.size (.cells #[.int .i64 p,.int .i64 o,.int .i64 m] 145 (0,0))):=⟨⟨w4,S⟩⟩
   have u:Hid (∀ fs j,oY B b fC 1 4 6 p C.heap.size (.cells #[.int .i64 p,.int .i64 o,.int .i64 m] 145 (0,0)) (K++[32]) (fM p) w4 fs j->∃ z:oC C.heap.size (.cells #[.int .i64 p,.int .i64 o,.int .i64 m] 145 (0,0)),j=z.1):=λfs j h=>⟨⟨j,h.1⟩,rfl⟩
   have q1:∀ z:oC C.heap.size (.cells #[.int .i64 p,.int .i64 o,.int .i64 m] 145 (0,0)),z.1.cell? ⟨C.heap.size,0,none⟩=some (.int .i64 p):=λz=>(ey z.2).1.1
   refine ib (λk=>k==1||k==4||k==5||k==6) (oY B b fC 1 4 6 p C.heap.size (.cells #[.int .i64 p,.int .i64 o,.int .i64 m] 145 (0,0)) (K++[32]) (fM p) w4) (Es 1 4 5 p (fM p)) (rB _ _ _ _ _) (by kernel_rfl) (by kernel_rfl) (oY.start S) ?_
   refine aH u.out rfl rfl ?_;go_big_quiet_step (fail);refine wpQuiet_nil ?_
   refine bu 222 #[] rfl rfl (λj=>by kernel_rfl) (λgs j y d q=>?_) (λv1 a6=>?_)
   ·refine (lG j).mono ?_
    rintro e w2 ⟨rfl,rfl⟩
    exact⟨_,rfl,⟨_,rfl⟩,y.call (by decide) (by decide) (by omega) (by omega)⟩
   simp only[Act.put,List.setIfInBounds_toArray,List.set_cons_succ,List.set_cons_zero]
   obtain⟨b1,rfl⟩:∃ b:Nat,v1=.slice (some ⟨b,0,none⟩) 5 5:=a6
   iterate 2 (refine aH u.out rfl rfl ?_;go_big_quiet_step (fail);refine wpQuiet_nil ?_)
   refine bY rfl rfl (λgs j y d q=>⟨.pointer (some ⟨b1,p,none⟩),j,f9 (nz p b1 c4 j),⟨b1,rfl⟩,y.idx (by decide) (by decide) (d 1 _ (.inr ⟨rfl,rfl⟩) (zQ0 (by kernel_rfl)))⟩) (λv4 a8=>?_)
   simp only[Act.put,List.setIfInBounds_toArray,List.set_cons_succ,List.set_cons_zero]
   obtain⟨b4,rfl⟩:∃ b:Nat,v4=.pointer (some ⟨b,p,none⟩):=a8
   refine bY rfl rfl (λgs j y d q=>⟨.string (eP (fM p)),j,?_,rfl,y.other (by decide) (by decide) (by decide)⟩) (λv5 a9=>?_)
   ·have D:=y.name (d 4 _ (.inr ⟨rfl,rfl⟩) (zQ0 (by kernel_rfl))) (Eo c4)
    rw[<-dn.out] at D
    clear y d q q1 u H hO
    go_simp
   simp only[Act.put,List.setIfInBounds_toArray,List.set_cons_succ,List.set_cons_zero]
   obtain rfl:v5=.string (eP (fM p)):=a9
   refine bu 195 #[.pointer (some ⟨b,0,none⟩),.string (eP (fM p))] rfl rfl (λj=>by kernel_rfl) (λgs j y d q=>y.write (by decide) (by decide) q b2.out hO av (by simp;omega) (by omega)) (λv6 dc=>?_)
   simp only[Act.put,List.setIfInBounds_toArray,List.set_cons_succ,List.set_cons_zero]
   refine dF ?_
   intro w6 b3
   obtain⟨X,cb,e9⟩:=b3.2.2.2.2 ⟨v6,.inr ⟨rfl,rfl⟩⟩
   have b5:=b3.1
   clear b3 q1 u H S y0 y1 y2
   have f5:C.heap.size<=w6.heap.size:=by omega
   have cc:=ca.trans cb
   have b6:Hid _:=X
   obtain⟨⟨z0,z1,z2⟩,_⟩:=ey b5
   clear X
   go_wp2_with fail
   go_at_call 221
   refine Calls.mono (qR B b (K++[32]++fM p) (gH o) w6 b6.out (by simp;omega) (by omega)) ?_
   rintro e w7 ⟨rfl,Y,cd,ce⟩
   have dr:=rD ce av (by decide) b5
   have fe:=ce.1
   have Z:=cc.trans cd
   have b7:Hid _:=Y
   obtain⟨⟨u0,u1,u2⟩,_⟩:=ey dr
   clear Y b5 z0 z1 z2
   go_wp2_with fail
   go_at_call 107
   refine Calls.mono (Tryz.strconv_Itoa m (by omega) (by omega) w7 (HE.out _ Z).2.2.2) ?_
   rintro e w8 ⟨rfl,k8,fl,cf⟩
   have b8:Below w7.heap.size w7 w8:=by rw[cf];exact Lib.below_grow _ _ (Nat.le_refl _) _ _
   have fn:=b8.size
   have ci:Hid (cC B b (Lib.byteCells (K++[32]++fM p++[gH o])) w8):=cC.later b7.out b8
   have cl:Below B w w8:=Z.trans (b8.mono (by omega))
   clear cf
   go_wp2_with fail
   go_at_call 195
   refine Calls.mono (gy B b (K++[32]++fM p++[gH o]) (Lib.itoa m) w8 ci.out (by simp;omega) (by omega)) ?_
   rintro e w9 ⟨⟨n9,rfl⟩,a0,cn,ds⟩
   have fq:=ds.1
   have co:=cl.trans cn
   have b9:Hid (cC B b (Lib.byteCells (l++cJ g++(s.take (i+1)).flatMap bR)) w9):=by
    unfold Hid
    rw[ao.out,dp.out,<-List.append_assoc,<-c8.out]
    have e:K++(32 :: (fM ↑p++(gH o :: Lib.itoa m)))=K++[32]++fM ↑p++[gH o]++Lib.itoa m:=by simp
    rw[e]
    exact a0
   clear a0
   go_wp2_with fail
   exact⟨⟨i+1,by omega,by go_num,b9,co,by omega⟩,by simp[intOf];omega⟩
  ·obtain rfl:i=n:=by omega
   have M:cC B b (Lib.byteCells (l++cJ g++s.flatMap bR)) C:=by
    have:=U.out
    rw[List.take_of_length_le (by rw[a4.out];exact Nat.le_refl _)] at this
    exact this
   have ea:(s.flatMap bR).length<=700000:=by
    have:=I
    rw[List.take_of_length_le (by rw[a4.out];exact Nat.le_refl _)] at this
    omega
   go_wp2_with fail
   go_at_call 221
   refine Calls.mono (qR B b (l++cJ g++s.flatMap bR) 59 C M (by simp only[List.length_append];omega) (by omega)) ?_
   rintro e w4 ⟨rfl,A,L,b0⟩
   have a1:cC B b (Lib.byteCells (l++ck (s,(g:Int)))) w4:=by
    rw[hT.out]
    have e:l++(cJ ↑g++s.flatMap bR++[59])=l++cJ ↑g++s.flatMap bR++[59]:=by simp
    rw[e]
    exact A
   have ba:Hid _:=a1
   clear a1 A M
   go_wp2_with fail
   go_end0
   exact⟨rfl,ba.out,ad.trans L⟩
end Go.Proofs.YtnpdhopjpjickaaGreatDoor
end
section
set_option linter.all false
set_option maxRecDepth 100000
namespace Go.Proofs.YtnpdhopjpjickaaGreatDoor
open Go.RowKit Go.Maps
def qF (a:List ByteArray) (k:Nat):Nat:=((a.take k).map ByteArray.size).sum
theorem xM {a:List ByteArray} {k:Nat} {x:ByteArray} (h:a[k]?=some x):qF a (k+1)=qF a k+x.size:=by
 unfold qF
 rw[List.take_add_one,h]
 simp
theorem BK (a:List ByteArray) (k:Nat):qF a k<=qF a a.length:=by
 unfold qF
 rw[List.take_length]
 conv=>rhs;rw[<-List.take_append_drop k a]
 rw[List.map_append,List.sum_append]
 omega
def dM (a:Bs) (r:List ByteArray) (k:Nat):Bs:=a++(r.take k).flatMap λy=>32 :: y.data.toList
theorem qQ {a:Bs} {r:List ByteArray} {k:Nat} {y:ByteArray} (h:r[k]?=some y):dM a r (k+1)=(dM a r k++[32])++y.data.toList:=by
 unfold dM
 rw[List.take_add_one,h]
 simp
theorem B7 (b:ByteArray) (r:List ByteArray) (k:Nat):(dM b.data.toList r k).length<=qF (b :: r) (r.length+1)+r.length:=by
 unfold dM qF
 rw[show r.length+1=(b :: r).length from rfl,List.take_length,List.length_append,<-Lib.size_eq]
 have:∀ l:List ByteArray,(l.flatMap λy=>(32:UInt8) :: y.data.toList).length=(l.map ByteArray.size).sum+l.length:=by
  intro l
  induction l with
  | nil=>rfl
  | cons a l d=>rw[List.flatMap_cons,List.length_append,d,List.map_cons,List.sum_cons,List.length_cons,List.length_cons,<-Lib.size_eq];omega
 rw[this]
 have c:=BK r k
 unfold qF at c
 rw[List.take_length] at c
 have e:(r.take k).length<=r.length:=by rw[List.length_take];omega
 rw[List.map_cons,List.sum_cons]
 omega
end Go.Proofs.YtnpdhopjpjickaaGreatDoor
end
