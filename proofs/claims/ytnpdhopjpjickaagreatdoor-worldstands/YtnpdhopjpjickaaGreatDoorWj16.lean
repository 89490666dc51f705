/- Joined: Box5 RulC Cmp1 Cmp2 Cmp3 Cmp4. -/
import Derived.Test.YtnpdhopjpjickaaGreatDoorWj03
import Derived.Test.YtnpdhopjpjickaaGreatDoorWj01
import Derived.Test.YtnpdhopjpjickaaGreatDoorWj07
import Derived.Lib.AppendZerosOnto
import Derived.Lib.AppendZeros
import Derived.Test.YtnpdhopjpjickaaGreatDoorWj15
section
set_option linter.all false
namespace Go.Proofs.YtnpdhopjpjickaaGreatDoor
open Go.RowKit Go.Maps
theorem D8 {w:World} {b:Nat} {x y:Nat->Int} {T:TypeId} (h:w.heap[b]?=some (.cells (dy x) T (0,0))):
  (((((w.setCell ⟨b,0,none⟩ (.int .i64 (y 0))).setCell ⟨b,1,none⟩ (.int .i64 (y 1))).setCell ⟨b,2,none⟩ (.int .i64 (y 2))).setCell ⟨b,3,none⟩ (.int .i64 (y 3))).setCell ⟨b,4,none⟩ (.int .i64 (y 4))).heap[b]?=some (.cells (dy y) T (0,0)):=
 an (o:=4) (u:=.int .i64 (y 4)) (an (o:=3) (u:=.int .i64 (y 3)) (an (o:=2) (u:=.int .i64 (y 2)) (an (o:=1) (u:=.int .i64 (y 1)) (an (o:=0) (u:=.int .i64 (y 0)) h))))
theorem t9 {B:Nat} {c w:World} {b:Nat} {y:Nat->Int} (h:Below B c w) (a:B<=b):Below B c (((((w.setCell ⟨b,0,none⟩ (.int .i64 (y 0))).setCell ⟨b,1,none⟩ (.int .i64 (y 1))).setCell ⟨b,2,none⟩ (.int .i64 (y 2))).setCell ⟨b,3,none⟩ (.int .i64 (y 3))).setCell ⟨b,4,none⟩ (.int .i64 (y 4))):=
 ((((h.setCell (p:=⟨b,0,none⟩) a _).setCell (p:=⟨b,1,none⟩) a _).setCell (p:=⟨b,2,none⟩) a _).setCell (p:=⟨b,3,none⟩) a _).setCell (p:=⟨b,4,none⟩) a _
end Go.Proofs.YtnpdhopjpjickaaGreatDoor
end
section
set_option linter.all false
namespace Go.Proofs.YtnpdhopjpjickaaGreatDoor
open Go.RowKit Go.Maps
def jP (B:Nat) (w:World) (xs:List Value) (a:List ai):Prop:=
 xs.length=a.length*2/\(∀ u∈xs,u.oneCell'=true)/\∀ i r,a[i]?=some r->∃ b,xs[i*2]?=some b/\xs[i*2+1]?=some (.int .i64 r.2)/\wf r.2/\bB B w b r.1
theorem jP.later {B e:Nat} {w w':World} {xs:List Value} {f:List ai} (h:jP B w xs f) (g:Below e w w') (j:B<=e):jP B w' xs f:=by
 obtain⟨k,l,m⟩:=h
 refine⟨k,l,λi r n=>?_⟩
 obtain⟨o,a,b,c,d⟩:=m i r n
 exact⟨o,a,b,c,d.later g j⟩
def ij (B g:Nat) (w:World) (v:Value) (c:List ai):Prop:=
 ∃ a b,v=.slice a c.length b/\c.length<=b/\b<=maxLen/\∀ i r,c[i]?=some r->a=some ⟨g,0,none⟩/\∃ d,w.cell? ⟨g,i*2,none⟩=some d/\w.cell? ⟨g,i*2+1,none⟩=some (.int .i64 r.2)/\wf r.2/\bB B w d r.1
theorem ij.keep {B g:Nat} {w w':World} {v:Value} {c:List ai} (h:ij B g w v c) (f:Below B w w') (d:∀ j u,w.cell? ⟨g,j,none⟩=some u->w'.cell? ⟨g,j,none⟩=some u):ij B g w' v c:=by
 obtain⟨a,b,k,l,m,n⟩:=h
 refine⟨a,b,k,l,m,λi r o=>?_⟩
 obtain⟨e,p,q,s,t,x⟩:=n i r o
 exact⟨e,p,d _ _ q,d _ _ s,t,x.later f (Nat.le_refl _)⟩
theorem ij.later {B g:Nat} {w w':World} {v:Value} {a:List ai} (h:ij B g w v a) (b:Below w.heap.size w w') (d:B<=w.heap.size):ij B g w' v a:=
 h.keep (b.mono d) λj u c=>(b.cell (p:=⟨g,j,none⟩) (World.block_lt_of_cell? _ _ c)).trans c
theorem ij.lt {B g:Nat} {w:World} {v:Value} {b:List ai} (h:ij B g w v b) (c:b≠[]):g<w.heap.size:=by
 obtain⟨a,d,i,j,k,e⟩:=h
 cases b with
 | nil=>exact absurd rfl c
 | cons r l=>
  obtain⟨_,m,f,_⟩:=e 0 r rfl
  exact World.block_lt_of_cell? _ _ f
theorem jP.append {B:Nat} {w:World} {xs ys:List Value} {a ss:List ai} (h:jP B w xs a) (k:jP B w ys ss):jP B w (xs++ys) (a++ss):=by
 obtain⟨g,j,l⟩:=h
 obtain⟨m,n,o⟩:=k
 refine⟨by simp[g,m];omega,λu p=>?_,λi r b=>?_⟩
 ·rcases List.mem_append.1 p with h | h
  ·exact j u h
  ·exact n u h
 ·by_cases q:i<a.length
  ·rw[List.getElem?_append_left q] at b
   obtain⟨c,d,e,f⟩:=l i r b
   exact⟨c,by rw[List.getElem?_append_left (by omega)];exact d,by rw[List.getElem?_append_left (by omega)];exact e,f⟩
  ·rw[List.getElem?_append_right (by omega)] at b
   obtain⟨c,d,e,f⟩:=o _ r b
   refine⟨c,?_,?_,f⟩
   ·rw[List.getElem?_append_right (by omega),show i*2-xs.length=(i-a.length)*2 by omega];exact d
   ·rw[List.getElem?_append_right (by omega),show i*2+1-xs.length=(i-a.length)*2+1 by omega];exact e
end Go.Proofs.YtnpdhopjpjickaaGreatDoor
end
section
set_option linter.all false
set_option maxRecDepth 100000
namespace Go.Proofs.YtnpdhopjpjickaaGreatDoor
open Go.RowKit Go.Maps
theorem pS:∀ (cs:List aB) (k:Nat) (c:aB),cs[k]?=some c->(cQ cs).take (2*(k+1))=(cQ cs).take (2*k)++[(1,c.1,0,0),lN c (2*((cs.length:Int)-k-1)+1)]
 | [],_,_,h=>by simp at h
 | d :: r,0,c,h=>by
  simp at h
  subst h
  rw[cQ]
  simp
 | d :: r,k+1,c,h=>by
  have a:=pS r k c (by simpa using h)
  rw[cQ,show 2*(k+1+1)=2*(k+1)+1+1 by omega,show 2*(k+1)=2*k+1+1 by omega,List.take_succ_cons,List.take_succ_cons,List.take_succ_cons,List.take_succ_cons,show 2*k+1+1=2*(k+1) by omega,a]
  have e:(2*((r.length:Int)-k-1)+1)=(2*(((d :: r).length:Int)-(k+1:Nat)-1)+1):=by simp;omega
  rw[e]
  rfl
theorem yF (cs:List aB):(cQ cs).take (2*cs.length)=cQ cs:=List.take_of_length_le (by rw[fZ];omega)
set_option maxHeartbeats 1000000 in
theorem wt (v:Int) (w:World):
  Calls Tryz.prog 216 #[.int .i64 v] w λe a=>e=.returned (.agg #[.int .i64 4,.int .i64 v,.int .i64 0,.int .i64 0])/\Below w.heap.size w a:=by
 go_enter Tryz.func216,Tryz.ntmps216
 go_wp2
 refine bodyPost_ret (v:=.agg #[.int .i64 4,.int .i64 v,.int .i64 0,.int .i64 0]) ?_ rfl ⟨rfl,?_⟩
 ·rw[bJ rfl]
  go_simp
 ·repeat (first | exact Below.refl _ _ | refine Below.setCell ?_ (by simp) _ | refine Below.alloc ?_ (by simp) _)
set_option maxHeartbeats 1000000 in
theorem Dq (f a v:Int) (left:Int) (w:World):
  Calls Tryz.prog 230 #[.agg #[.int .i64 f,.int .i64 a,.int .i64 v],.int .i64 left] w λe g=>e=.returned (DX (lN (f,a,v) left))/\Below w.heap.size w g:=by
 by_cases b:a=1
 ·subst b
  go_enter Tryz.func230,Tryz.ntmps230
  go_wp2
  refine bodyPost_ret (v:=.agg #[.int .i64 2,.int .i64 v,.int .i64 0,.int .i64 left]) ?_ rfl ⟨rfl,?_⟩
  ·rw[bJ rfl]
   go_simp
  ·repeat (first | exact Below.refl _ _ | refine Below.setCell ?_ (by simp) _ | refine Below.alloc ?_ (by simp) _)
 ·by_cases c:a=2
  ·subst c
   clear b
   go_enter Tryz.func230,Tryz.ntmps230
   go_wp2
   refine bodyPost_ret (v:=.agg #[.int .i64 2,.int .i64 v,.int .i64 left,.int .i64 0]) ?_ rfl ⟨rfl,?_⟩
   ·rw[bJ rfl]
    go_simp
   ·repeat (first | exact Below.refl _ _ | refine Below.setCell ?_ (by simp) _ | refine Below.alloc ?_ (by simp) _)
  ·by_cases d:a=3
   ·subst d
    clear b c
    go_enter Tryz.func230,Tryz.ntmps230
    go_wp2
    refine bodyPost_ret (v:=.agg #[.int .i64 3,.int .i64 v,.int .i64 0,.int .i64 left]) ?_ rfl ⟨rfl,?_⟩
    ·rw[bJ rfl]
     go_simp
    ·repeat (first | exact Below.refl _ _ | refine Below.setCell ?_ (by simp) _ | refine Below.alloc ?_ (by simp) _)
   ·have h:Hid (lN (f,a,v) left=(3,v,left,0)):=by unfold Hid lN;simp[b,c,d]
    have i:(a==1)=false:=by simpa using b
    have j:(a==2)=false:=by simpa using c
    have k:(a==3)=false:=by simpa using d
    clear b c d
    go_enter Tryz.func230,Tryz.ntmps230
    go_wp2
    refine bodyPost_ret (v:=.agg #[.int .i64 3,.int .i64 v,.int .i64 left,.int .i64 0]) ?_ rfl ⟨by rw[h.out];rfl,?_⟩
    ·rw[bJ rfl]
     go_simp
    ·repeat (first | exact Below.refl _ _ | refine Below.setCell ?_ (by simp) _ | refine Below.alloc ?_ (by simp) _)
end Go.Proofs.YtnpdhopjpjickaaGreatDoor
end
section
set_option linter.all false
set_option maxRecDepth 100000
namespace Go.Proofs.YtnpdhopjpjickaaGreatDoor
open Go.RowKit Go.Maps
def Ea (c:Value) (m k:Nat) (v:Value):Prop:=if k=6 then v=c else if k=7 then ∃ g,v=.slice (some ⟨g,0,none⟩) 2 2 else ∃ a b,v=.slice a m b
theorem An (c:Value) (m k:Nat):∃ v,Ea c m k v:=by
 unfold Ea
 split
 ·exact⟨_,rfl⟩
 ·split
  ·exact⟨_,0,rfl⟩
  ·exact⟨_,none,0,rfl⟩
set_option maxHeartbeats 4000000 in
theorem r9 (B d:Nat) (lv cv:Value) (n:Nat) (xs:List Value) (r:ai) (w:World) (L:w.ownsRow d 122 4 lv n xs) (hc:bB B w cv r.1) (hB:B<=d) (j:d<=w.heap.size) (hn:n<=1000000) (hl:r.1.length<=10):
  Calls Tryz.prog 215 #[lv,.agg #[cv,.int .i64 r.2]] w λe i=>∃ F,e=.returned F/\i.ownsRow d 122 4 F (n+(iD r).length) (xs++aE (iD r))/\Below d w i/\eY 122 w i:=by
 obtain⟨co,a4,a5,a6,a7⟩:=qK
 obtain⟨m,M⟩:=r
 have HC:Hid (∀ i,Below d w i->bB B i cv m):=λi h=>hc.later h hB
 obtain⟨a,a8,rfl,a9,cx,_⟩:=hc
 simp only[] at hl a9 |-
 have aa:=hid L
 clear L
 obtain⟨g,q⟩:∃ g,g=m.length:=⟨_,rfl⟩
 have p:=hid q.symm
 rw[<-q] at hl a9 |-
 have cT:=ag
 have bc:Hid ((iD (m,M)).length=2*g+1):=by unfold Hid;rw[oP,q]
 clear q
 obtain⟨C,D⟩:∃ C,C=w.alloc (.cells #[.slice a g a8,.int .i64 M] 142):=⟨_,rfl⟩
 have s:Below w.heap.size w C:=by rw[D];exact (Below.refl _ _).alloc (Nat.le_refl _) _
 have bd:C.heap[w.heap.size]?=some (.cells #[.slice a g a8,.int .i64 M] 142 (0,0)):=by rw[D];exact (MapKept.heap_alloc w _).1
 have d0:C.heap.size=w.heap.size+1:=by rw[D];simp
 have ac:Hid (C.ownsRow d 122 4 lv n xs):=au aa.out s
 have Z:Hid (eY 122 w C):=eY.of_below s
 go_enter Tryz.func215,Tryz.ntmps215
 go_wp2
 rw[<-D]
 clear D
 have bf:Hid (C.ownsRow d 122 4 lv (n+2*0) (xs++aE ((cQ m).take (2*0)))):=by unfold Hid;simpa [aE] using ac.out
 have bg:Below d w C:=s.mono j
 clear s ac aa
 go_loopw [0,5,16] (λnv left iv wr=>∃ k:Nat,k<=g/\iv=.int .i64 k/\left=.int .i64 (2*((g:Int)-k)+1)/\Hid (wr.ownsRow d 122 4 nv (n+2*k) (xs++aE ((cQ m).take (2*k))))/\Below d w wr/\Hid (eY 122 C wr)/\w.heap.size<wr.heap.size) (λ_ _ iv _=>g-(intOf iv).toNat)
 case atStart=>exact⟨0,by omega,rfl,by simp,bf,bg,eY.refl _ _,by omega⟩
 case round=>
  obtain⟨k,hk,rfl,rfl,ad,G,R,d2⟩:=hrel
  obtain⟨E,bm⟩:∃ x,x=wr:=⟨_,rfl⟩
  subst bm
  have i0:(0:Int)<=(k:Int):=by omega
  have N:=R.out _ _ _ _ bd (by decide)
  have S:=G.size
  by_cases d3:k<g
  ·have i1:(k:Int)<(g:Int):=by omega
   obtain⟨c,ao⟩:∃ c,m[k]?=some c:=⟨m[k]'(by rw[p.out];omega),by simp⟩
   obtain⟨_,_,e0,_,_,av⟩:=HC.out _ G
   obtain⟨b,o,e,d5,bo,bp,bq,_⟩:=av k c ao
   simp at e0
   obtain⟨rfl,_,_⟩:=e0
   subst e
   clear av
   have Z:Hid ((cQ m).take (2*(k+1))=(cQ m).take (2*k)++[(1,c.1,0,0),lN c (2*((g:Int)-k-1)+1)]):=by
    have:=pS m k c ao
    rw[p.out] at this
    exact this
   obtain⟨f,T,v⟩:=c
   simp only[] at bo bp bq Z
   obtain⟨u,H⟩:∃ u,u=E.alloc (.cells #[.int .i64 f,.int .i64 T,.int .i64 v] 145):=⟨_,rfl⟩
   have y:Below E.heap.size E u:=by rw[H];exact (Below.refl _ _).alloc (Nat.le_refl _) _
   have A:u.heap[E.heap.size]?=some (.cells #[.int .i64 f,.int .i64 T,.int .i64 v] 145 (0,0)):=by rw[H];exact af _ _
   have br:Hid (u.ownsRow d 122 4 u0 (n+2*k) (xs++aE ((cQ m).take (2*k)))):=au ad.out y
   have d6:=y.size
   have l:d<=u.heap.size:=by omega
   have bs:Hid (Below d w u):=Below.thenOf G y (Nat.le_trans j S)
   have bv:Hid (eY 122 C u):=R.out.trans (eY.of_below y)
   obtain⟨O,U⟩:∃ O:Int,O=2*((g:Int)-k-1)+1:=⟨_,rfl⟩
   have b0:2*((g:Int)-k)+1-2=O:=by omega
   have da:IntKind.i64.wrap (2*((g:Int)-k)+1-2)=O:=by rw[b0];exact IntWalk.i64_in _ (by omega)
   rw[<-U] at Z
   have b1:=hid U
   clear U
   obtain⟨ak,V⟩:∃ a,a=lN (f,T,v) O:=⟨_,rfl⟩
   rw[<-V] at Z
   have b2:Hid (∀ i,Calls Tryz.prog 230 #[.agg #[.int .i64 f,.int .i64 T,.int .i64 v],.int .i64 O] i λe I=>e=.returned (DX ak)/\Below i.heap.size i I):=λi=>by rw[V];exact Dq f T v O i
   clear V
   obtain⟨a0,a1,a2,a3⟩:=ak
   go_wp2
   rw[<-H]
   clear H
   have b7:=vR.ne 122 u
   have q0:∀ z:vR 122 u,z.1.cell? ⟨E.heap.size,0,none⟩=some (.int .i64 f):=λz=>z.cell A (by decide) (ab A 0 rfl)
   have q1:∀ z:vR 122 u,z.1.cell? ⟨E.heap.size,1,none⟩=some (.int .i64 T):=λz=>z.cell A (by decide) (ab A 1 rfl)
   have q2:∀ z:vR 122 u,z.1.cell? ⟨E.heap.size,2,none⟩=some (.int .i64 v):=λz=>z.cell A (by decide) (ab A 2 rfl)
   refine bh [_,_,_,_,_,_,_,_,_] _ rfl (λk=>k==6||k==7||k==8) (jm 122 4 d u u0 (n+2*k) 2 (xs++aE ((cQ m).take (2*k))) (aE [(1,f,0,0),(a0,a1,a2,a3)]) 7 8) (Ea (DX (a0,a1,a2,a3)) (n+2*k+2)) (An _ _) (by kernel_rfl) (by kernel_rfl) (jm.start br.out) ?_
   iterate 6 (refine aH jm.seen rfl rfl ?_;go_big_quiet_step (fail);refine wpQuiet_nil ?_)
   refine bu 230 #[.agg #[.int .i64 f,.int .i64 T,.int .i64 v],.int .i64 O] rfl rfl (λi=>by kernel_rfl) (λgs i Q t J=>?_) (λv6 b8=>?_)
   ·refine (b2.out i).mono ?_
    rintro e I ⟨rfl,hb⟩
    exact⟨_,rfl,rfl,Q.call l hb 6 _ (by decide) (by decide)⟩
   have e6:v6=.agg #[.int .i64 a0,.int .i64 a1,.int .i64 a2,.int .i64 a3]:=b8
   clear b8
   subst e6
   simp only[Act.put,List.setIfInBounds_toArray,List.set_cons_succ,List.set_cons_zero]
   refine bY rfl rfl (λgs i Q t J=>⟨.slice (some ⟨i.heap.size,0,none⟩) 2 2,i.alloc (.cells (aE [(1,f,0,0),(a0,a1,a2,a3)]).toArray 122),?_,⟨_,rfl⟩,Q.lit l (by decide) _⟩) (λv7 dk=>?_)
   ·show _=Result.ok _ (i.alloc (.cells #[.int .i64 1,.int .i64 f,.int .i64 0,.int .i64 0,.int .i64 a0,.int .i64 a1,.int .i64 a2,.int .i64 a3] 122))
    clear Q t J q0 q1 q2 b7
    go_simp
   simp only[Act.put,List.setIfInBounds_toArray,List.set_cons_succ,List.set_cons_zero]
   refine bY rfl rfl (λgs i Q t J=>?_) (λv8 dl=>?_)
   ·obtain⟨F,I,r1,r2,r3⟩:=Q.app Tryz.underlying85 a4 a5 a6 a7 rfl (by decide) l rfl (gG _) (by omega) (by omega) 85 v7 (t 7 _ (.inr ⟨rfl,rfl⟩) (zQ0 (by kernel_rfl))) J
    refine⟨F,I,?_,r2,r3⟩
    unfold execOp
    simp only[resolve,invoke,builtin,Sem.run_bind,Sem.run_pure,Result.andThen_ok,List.map_toArray,List.map_cons,List.map_nil]
    exact (congrArg (λr=>Result.andThen r λv w=>.ok (Next.value v) w) r1)
   simp only[Act.put,List.setIfInBounds_toArray,List.set_cons_succ,List.set_cons_zero]
   refine dF ?_
   intro w4 Q
   obtain⟨j1,j2,_,j4⟩:=Q
   have c3:Hid (w4.ownsRow d 122 4 v8 (n+2*(k+1)) (xs++aE ((cQ m).take (2*(k+1))))):=by
    unfold Hid
    have:=j4 v8 (.inr ⟨rfl,rfl⟩)
    rw[Z.out,gg,<-List.append_assoc]
    exact this
   have c4:Below d w w4:=bs.out.trans j1
   have c5:Hid (eY 122 C w4):=bv.out.trans j2
   have dn:=j1.size
   clear j1 j2 j4 q0 q1 q2 b7
   go_wp2
   exact⟨⟨k+1,by omega,by go_num,by rw[b1.out];go_num,c3,c4,c5,by omega⟩,by simp[intOf];omega⟩
  ·obtain rfl:k=g:=by omega
   have t1:=ab N 1 rfl
   have c6:Hid (∀ W X,X=W.alloc (.cells #[.int .i64 4,.int .i64 M,.int .i64 0,.int .i64 0] 122)->Below E.heap.size E W->∃ F Y,(Builtin.append_ #[85,85] 85 #[u0,.slice (some ⟨W.heap.size,0,none⟩) 1 1]).run Tryz.prog X=.ok F Y/\Hid (Y.ownsRow d 122 4 F (n+(iD (m,M)).length) (xs++aE (iD (m,M))))/\Below d w Y/\eY 122 w Y):=by
    intro W X hX hW
    have K:Below E.heap.size E X:=by rw[hX];exact hW.alloc hW.size _
    have hg:X.heap[W.heap.size]?=some (.cells (aE [(4,M,0,0)]).toArray 122 (0,0)):=by rw[hX];exact af _ _
    obtain⟨F,Y,r1,r2,r3,r4⟩:=vA (P:=Tryz.prog) Tryz.underlying85 a4 a5 a6 a7 rfl (by decide) d 85 u0 (n+2*k) 1 W.heap.size _ (aE [(4,M,0,0)]) X (au ad.out K) hg rfl (gG _) (by omega) (by omega) (Nat.le_trans (Nat.le_trans j S) K.size) 1
    refine⟨F,Y,r1,?_,(Below.thenOf G K (Nat.le_trans j S)).trans r3,((Z.out.trans R.out).trans (eY.of_below K)).trans r4⟩
    unfold Hid
    have e:(cQ m).take (2*k)=cQ m:=by rw[<-p.out];exact yF m
    rw[e,List.append_assoc,<-gg] at r2
    rw[bc.out]
    exact r2
   clear N
   go_wp2_with (first | (go_at_call 216;go_must (refine Calls.mono (wt _ _) ?_;rintro e w2 ⟨rfl,y⟩)) | (at_builtin;go_must (obtain⟨F,Y,hrun,q1,q2,q3⟩:=c6.out _ _ rfl y;refine Lib.wpList_append_run _ rfl _ _ _ _ rfl _ _ rfl rfl _ _ hrun ?_)))
   go_ret
   exact⟨_,rfl,q1.out,q2,q3⟩
end Go.Proofs.YtnpdhopjpjickaaGreatDoor
end
section
set_option linter.all false
set_option maxRecDepth 100000
namespace Go.Proofs.YtnpdhopjpjickaaGreatDoor
open Go.RowKit Go.Maps
theorem eZ {n:Int} (h : -9223372036854775808<=n/\n<=9223372036854775807):wf n:=WalkArith.wf_i64 h
theorem xf (a:List ai) (k:Nat) (r:ai) (h:a[k]?=some r):dW (a.take (k+1))=dW (a.take k)++iD r:=by
 rw[List.take_succ,h]
 simp[dW]
theorem tO:∀ (cs:List aB),cs.length<=10->(∀ c∈cs,aW c=0)->∀ i∈cQ cs,iB i
 | [],_,_,i,h=>by simp[cQ] at h
 | c :: r,b,a,i,h=>by
  obtain⟨g,j,k⟩:=eG (a c (by simp))
  have l:=jo c.1
  have e:r.length+1<=10:=by simpa using b
  rw[cQ] at h
  rcases List.mem_cons.1 h with rfl | h
  ·exact⟨eZ (by simp only[];omega),eZ (by simp only[];omega),eZ (by simp only[];omega),eZ (by simp only[];omega)⟩
  ·rcases List.mem_cons.1 h with rfl | h
   ·unfold lN
    split
    ·exact⟨eZ (by simp only[];omega),eZ (by simp only[];omega),eZ (by simp only[];omega),eZ (by simp only[];omega)⟩
    ·split
     ·exact⟨eZ (by simp only[];omega),eZ (by simp only[];omega),eZ (by simp only[];omega),eZ (by simp only[];omega)⟩
     ·split
      ·exact⟨eZ (by simp only[];omega),eZ (by simp only[];omega),eZ (by simp only[];omega),eZ (by simp only[];omega)⟩
      ·exact⟨eZ (by simp only[];omega),eZ (by simp only[];omega),eZ (by simp only[];omega),eZ (by simp only[];omega)⟩
   ·exact tO r (by omega) (λd f=>a d (by simp[f])) i h
theorem zY {v:Int} (h:bi v=true):iB (4,v,0,0):=by
 have:=gD h
 exact⟨eZ (by simp only[];omega),eZ (by simp only[];omega),eZ (by simp only[];omega),eZ (by simp only[];omega)⟩
theorem Ds {p:ap} (h:ae p=0):∀ i∈cO p,iB i:=by
 obtain⟨_,c,d⟩:=cu h
 intro i a
 unfold cO at a
 rcases List.mem_append.1 a with a | a
 ·unfold dW at a
  obtain⟨r,b,a⟩:=List.mem_flatMap.1 a
  obtain⟨e,f,g⟩:=db (bZ d r b)
  unfold iD at a
  rcases List.mem_append.1 a with a | a
  ·exact tO r.1 e (eM g) i a
  ·rw[List.mem_singleton] at a
   subst a
   exact zY f
 ·rw[List.mem_singleton] at a
  subst a
  exact zY c
theorem nV:∀ (a:List ai),(∀ r∈a,aR r=0)->(dW a).length<=a.length*21
 | [],_=>by simp[dW]
 | r :: s,h=>by
  obtain⟨c,_,_⟩:=db (h r (by simp))
  have:=nV s λd b=>h d (by simp[b])
  rw[lE,List.length_append,oP,List.length_cons]
  omega
end Go.Proofs.YtnpdhopjpjickaaGreatDoor
end
section
set_option linter.all false
set_option maxRecDepth 100000
namespace Go.Proofs.YtnpdhopjpjickaaGreatDoor
open Go.RowKit Go.Maps
set_option maxHeartbeats 4000000 in
theorem pO (B:Nat) (T:Value) (p:ap) (w:World) (hp:bG B w T p) (U:B<=w.heap.size):
  Calls Tryz.prog 188 #[T] w λe f=>∃ lv,e=.returned (.tuple #[lv,.int .i64 (du p)])/\f.ownsRow w.heap.size 122 4 lv (fW p).length (aE (fW p))/\(∀ i∈fW p,iB i)/\Below w.heap.size w f:=by
 obtain⟨c5,ak,ao,av,b0⟩:=qK
 have HP:Hid (∀ f,Below w.heap.size w f->bG B f T p):=λf h=>hp.later h U
 have H:Hid (∀ f,Below w.heap.size w f->Calls Tryz.prog 152 #[T] f λe b1=>e=.returned (.int .i64 (ae p))/\Below f.heap.size f b1):=λf h=>fm B T p f (hp.later h U) (Nat.le_trans U h.size)
 obtain⟨c,d⟩:=p
 obtain⟨rv,V,hd,a,c8,Y,b2,c9,I⟩:=hp
 clear I
 simp only at V Y b2 hd
 subst Y
 subst V
 have ca:=ag
 have v:∀ X,Below w.heap.size w (w.alloc X):=λX=>(Below.refl _ _).alloc (Nat.le_refl _) _
 by_cases u:ae (c,d)=0
 case neg=>
  have Z:Hid (du (c,d)=ae (c,d)/\fW (c,d)=[]):=by
   have e:du (c,d)=ae (c,d):=by rw[du,if_neg u]
   refine⟨e,?_⟩
   rw[fW,if_neg (by rw[e];exact u)]
  have hq:(ae (c,d) != 0)=true:=by simpa using u
  clear u
  generalize ae (c,d)=pe at*
  go_enter Tryz.func188,Tryz.ntmps188
  go_wp2_with (first | (go_at_call 152;go_must (refine Calls.mono (H.out _ (v _)) ?_;rintro e R ⟨rfl,l⟩)))
  go_ret2
  rw[Z.out.1,Z.out.2]
  exact⟨_,rfl,⟨rfl,.inl ⟨rfl,rfl⟩⟩,(λi h=>by cases h),Below.thenOf (v _) l (by simp)⟩
 case pos=>
  obtain⟨J,b3,K⟩:=cu u
  simp only[] at J b3 K
  have HR:Hid (∀ r∈c,aR r=0):=bZ K
  have HW:Hid (∀ i∈cO (c,d),iB i):=Ds u
  have b5:Hid (bt (cO (c,d))=if 1500<(cO (c,d)).length then 2 else 0):=lH u
  have Z:Hid (du (c,d)=if 1500<(cO (c,d)).length then 2 else 0):=by unfold Hid;rw[du,if_pos u]
  have HL:Hid ((dW c).length<=2520):=by have:=nV c HR.out;unfold Hid;omega
  have b6:Hid (∀ k,k<=c.length->(dW (c.take k)).length<=2520):=λk hk=>by
   have:=nV (c.take k) λr hr=>HR.out r (List.mem_of_mem_take hr)
   rw[List.length_take] at this
   omega
  rw[u] at H
  clear u K
  generalize F:c.length=m at*
  have n:=hid F
  clear F
  go_enter Tryz.func188,Tryz.ntmps188
  go_wp2_with (first | (go_at_call 152;go_must (refine Calls.mono (H.out _ (v _)) ?_;rintro e R ⟨rfl,l⟩;have y:=(l.block w.heap.size (by simp)).trans (af w _);have p0:=ab y 0 rfl;have p1:=ab y 1 rfl)))
  have b7:Below w.heap.size w R:=Below.thenOf (v _) l (by simp)
  have b8:w.heap.size<R.heap.size:=lt_of_block y
  clear p0 p1 l
  go_loopw [5,17] (λnv iv wr=>∃ k:Nat,k<=m/\iv=.int .i64 k/\Hid (wr.ownsRow w.heap.size 122 4 nv (dW (c.take k)).length (aE (dW (c.take k))))/\Below w.heap.size w wr/\Hid (eY 122 R wr)/\w.heap.size<wr.heap.size) (λ_ iv _=>m-(intOf iv).toNat)
  case atStart=>exact⟨0,by omega,rfl,⟨rfl,.inl ⟨rfl,rfl⟩⟩,b7,eY.refl _ _,b8⟩
  case round=>
   obtain⟨k,hk,rfl,a0,z,a1,ce⟩:=hrel
   obtain⟨L,ba⟩:∃ x,x=wr:=⟨_,rfl⟩
   subst ba
   have i0:(0:Int)<=(k:Int):=by omega
   have q:=a1.out _ _ _ _ y (by decide)
   have A:=z.size
   have cf:=b6.out k hk
   by_cases ci:k<m
   ·have i1:(k:Int)<(m:Int):=by omega
    obtain⟨r,M⟩:∃ r,c[k]?=some r:=⟨c[k]'(by rw[n.out];omega),by simp⟩
    have a3:=(db (HR.out r (List.mem_of_getElem? M))).1
    obtain⟨_,e0,-,_,_,e1,-,-,a4⟩:=HP.out _ z
    obtain⟨b,o,e,cl,cv,bc,cn,_,a5⟩:=a4 k r M
    simp at e0
    subst e0
    simp at e1
    obtain⟨rfl,-,-⟩:=e1
    subst e
    clear a4
    have HT:Hid (dW (c.take (k+1))=dW (c.take k)++iD r):=xf c k r M
    obtain⟨C,D⟩:∃ C,C=L.alloc (.cells #[cv,.int .i64 r.2] 142):=⟨_,rfl⟩
    have g:Below L.heap.size L C:=by rw[D];exact (Below.refl _ _).alloc (Nat.le_refl _) _
    have N:Below w.heap.size w C:=Below.thenOf z g A
    have a6:Hid (Calls Tryz.prog 215 #[u5,.agg #[cv,.int .i64 r.2]] C λe f=>∃ s,e=.returned s/\f.ownsRow w.heap.size 122 4 s ((dW (c.take k)).length+(iD r).length) (aE (dW (c.take k))++aE (iD r))/\Below w.heap.size C f/\eY 122 C f):=r9 B w.heap.size u5 cv _ _ r C (au a0.out g) (a5.later g (Nat.le_trans U A)) U N.size (by omega) a3
    have bd:=hid N
    have bf:Hid (eY 122 R C):=a1.out.trans (eY.of_below g)
    have cp:=g.size
    obtain⟨a2,c2,bg,_⟩:=a5
    subst bg
    obtain⟨m2,a7⟩:∃ m2,m2=r.1.length:=⟨_,rfl⟩
    rw[<-a7] at a6 bc D
    clear a7 q N g
    go_wp2_with fail
    rw[<-D]
    clear D
    go_at_call 215
    refine Calls.mono a6.out ?_
    rintro e w3 ⟨s,rfl,a8,O,a9⟩
    have bm:Hid (w3.ownsRow w.heap.size 122 4 s (dW (c.take (k+1))).length (aE (dW (c.take (k+1))))):=by
     unfold Hid
     rw[HT.out,gg,List.length_append]
     exact a8
    have aa:Below w.heap.size w w3:=bd.out.trans O
    have ac:Hid (eY 122 R w3):=bf.out.trans a9
    have cs:=O.size
    clear a8 O a9
    go_wp2_with fail
    exact⟨⟨k+1,by omega,by go_num,bm,aa,ac,by omega⟩,by simp[intOf];omega⟩
   ·obtain rfl:k=m:=by omega
    have p1:=ab q 1 rfl
    have bo:Hid (∀ W X,X=W.alloc (.cells #[.int .i64 4,.int .i64 d,.int .i64 0,.int .i64 0] 122)->Below L.heap.size L W->∃ s G,(Builtin.append_ #[85,85] 85 #[u5,.slice (some ⟨W.heap.size,0,none⟩) 1 1]).run Tryz.prog X=.ok s G/\Hid (G.ownsRow w.heap.size 122 4 s (cO (c,d)).length (aE (cO (c,d))))/\Below w.heap.size w G):=by
     intro W X hX hW
     have Q:Below L.heap.size L X:=by rw[hX];exact hW.alloc hW.size _
     have hg:X.heap[W.heap.size]?=some (.cells (aE [(4,d,0,0)]).toArray 122 (0,0)):=by rw[hX];exact af _ _
     obtain⟨s,G,r1,r2,r3,r4⟩:=vA (P:=Tryz.prog) Tryz.underlying85 ak ao av b0 rfl (by decide) w.heap.size 85 u5 _ 1 W.heap.size _ (aE [(4,d,0,0)]) X (au a0.out Q) hg rfl (gG _) (by omega) (by omega) (Nat.le_trans A Q.size) 1
     refine⟨s,G,r1,?_,(Below.thenOf z Q A).trans r3⟩
     unfold Hid
     have e:c.take k=c:=List.take_of_length_le (by rw[n.out];omega)
     rw[e,<-gg] at r2
     unfold cO
     rw[List.length_append]
     exact r2
    clear q
    go_wp2_with (first | (go_at_call 216;go_must (refine Calls.mono (wt _ _) ?_;rintro e w2 ⟨rfl,g⟩)) | (at_builtin;go_must (obtain⟨s,G,hrun,q1,q2⟩:=bo.out _ _ rfl g;refine Lib.wpList_append_run _ rfl _ _ _ _ rfl _ _ rfl rfl _ _ hrun ?_)))
    go_at_call 82
    have j:=nJ G.heap.size s (cO (c,d)) G (rt q1.out HW.out) (Nat.le_refl _)
    rw[b5.out] at j
    by_cases S:1500<(cO (c,d)).length
    ·rw[if_pos S] at j
     have t:Hid (du (c,d)=2/\fW (c,d)=[]):=by
      have e:du (c,d)=2:=by rw[Z.out,if_pos S]
      exact⟨e,by rw[fW,if_neg (by rw[e];decide)]⟩
     refine Calls.mono j ?_
     rintro e w5 ⟨rfl,E⟩
     clear j S
     go_wp2_with fail
     go_ret2
     rw[t.out.1,t.out.2]
     exact⟨_,rfl,⟨rfl,.inl ⟨rfl,rfl⟩⟩,(λi h=>by cases h),Below.thenOf q2 E q2.size⟩
    ·rw[if_neg S] at j
     have t:Hid (du (c,d)=0/\fW (c,d)=cO (c,d)):=by
      have e:du (c,d)=0:=by rw[Z.out,if_neg S]
      exact⟨e,by rw[fW,if_pos e]⟩
     refine Calls.mono j ?_
     rintro e w5 ⟨rfl,E⟩
     clear j S
     go_wp2_with fail
     go_ret2
     rw[t.out.1,t.out.2]
     exact⟨_,rfl,au q1.out E,HW.out,Below.thenOf q2 E q2.size⟩
end Go.Proofs.YtnpdhopjpjickaaGreatDoor
end
