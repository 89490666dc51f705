/- Joined: DkA DkB DkC DkE0 DkE DkF DkG DkH0 DkH DkI DkJ DkL DkD. -/
import Derived.Test.YtnpdhopjpjickaaGreatDoorWj37
import Derived.Test.YtnpdhopjpjickaaGreatDoorWj36
import Derived.Shelf.Bytes.SlIndexAt
import Derived.Lib.SlBuf
import Derived.Laws.CopyRow
import Derived.Laws.MakeOwn
import Derived.Test.YtnpdhopjpjickaaGreatDoorWj01
section
set_option linter.all false
set_option maxRecDepth 100000
namespace Go.Proofs.YtnpdhopjpjickaaGreatDoor
open Go.RowKit Go.Maps
def Ei (bs:Bs):Int:=match fU bs with
 | none=>-1
 | some (a,_)=>a.length
theorem Cj:∀ e:Bs,Lib.indexByte e 10=Ei e
 | []=>rfl
 | b :: l=>by
  have c:=Cj l
  unfold Ei at c |-
  show (if (b==10)=true then (0:Int) else if (Lib.indexByte l 10==-1)=true then -1 else Lib.indexByte l 10+1)=_
  show _=match (if b=10 then some ([],l) else match fU l with | none=>none | some (a,t)=>some (b :: a,t)) with | none=>(-1:Int) | some (a,_)=>(a.length:Int)
  by_cases d:b=10
  ·rw[if_pos (by simpa using d),if_pos d]
   rfl
  ·rw[if_neg (by simpa using d),if_neg d]
   cases hc:fU l with
   | none=>
    rw[hc] at c
    simp only[] at c |-
    rw[c]
    rfl
   | some x=>
    obtain⟨a,t⟩:=x
    rw[hc] at c
    simp only[] at c |-
    rw[c,if_neg (by simp<;>omega)]
    simp
theorem ww (bs:Bs):Lib.bytesOf (bs.map λb=>(b.toNat:Int))=bs:=by
 unfold Lib.bytesOf
 rw[List.map_map]
 conv=>rhs;rw[<-List.map_id bs]
 refine List.map_congr_left λb _=>?_
 simp
theorem qk (B:Nat) (v:Value) (bs:Bs) (w:World) (h:aJ B w v bs):
  Calls Tryz.prog 121 #[v,.int .u8 10] w λe j=>e=.returned (.int .i64 (Ei bs))/\j=w:=by
 obtain⟨a,d,rfl,t,u,f⟩:=h
 cases a with
 | none=>
  have m:bs=[]:=by
   cases bs with
   | nil=>rfl
   | cons r l=>obtain⟨b,o,e,_⟩:=f 0 r rfl;cases e
  subst m
  have c:=Lib.run_indexByteNil (P:=Tryz.prog) w 0 d 10
  go_enter Tryz.func121,Tryz.ntmps121
  go_wp2
  rw[run_callFunc_extern Tryz.func147 (by kernel_rfl) (by kernel_rfl) (by kernel_rfl) (e:=Extern.BytealgIndexByte.indexByte) (by kernel_rfl),c]
  simp only[Result.andThen]
  rw[Oper.upon_value]
  go_wp2
  go_ret
  exact⟨rfl,rfl⟩
 | some p=>
  have c:=Lib.run_indexByteAt (P:=Tryz.prog) w p bs.length d (bs.map λb=>(b.toNat:Int)) (by simp) (λi q=>by
   obtain⟨g,o,e,_,k⟩:=f i bs[i] (by simp)
   have s:=Option.some.inj e
   subst s
   rw[dL,k,List.getD_eq_getElem?_getD,List.getElem?_map,List.getElem?_eq_getElem q]
   rfl) 10
  rw[ww,show (10:Int).toNat.toUInt8=10 by decide,Cj] at c
  generalize bs.length=n at*
  generalize Ei bs=z at*
  clear f
  go_enter Tryz.func121,Tryz.ntmps121
  go_wp2
  rw[run_callFunc_extern Tryz.func147 (by kernel_rfl) (by kernel_rfl) (by kernel_rfl) (e:=Extern.BytealgIndexByte.indexByte) (by kernel_rfl),c]
  simp only[Result.andThen]
  rw[Oper.upon_value]
  go_wp2
  go_ret
  exact⟨rfl,rfl⟩
theorem yL {B:Nat} {w:World} {a:Option Addr} {n c:Nat} {bs:Bs} (h:aJ B w (.slice a n c) bs) (k:Nat) (C:k<=bs.length):∃ m,(∀ d,(Instr.slice 23 (.slice a n c) (some (.int .i64 k)) none none).run Tryz.prog d=.ok (.slice m (n-k) (c-k)) d)/\aJ B w (.slice m (n-k) (c-k)) (bs.drop k):=by
 obtain⟨D,E,e,F,G,p⟩:=h
 simp at e
 obtain⟨rfl,rfl,rfl⟩:=e
 obtain⟨q,f,r,j,s⟩:=lS
 refine⟨if c=k then a else a.map (·.add (k*1)),λd=>?_,?_⟩
 ·have t:(0:Int)<=(k:Int):=by omega
  have u:(k:Int)<=(bs.length:Int):=by omega
  have v:((k:Int)).toNat=k:=by omega
  simp[Instr.slice,Instr.sliceBounds,Instr.sliceBound,run_underlying Tryz.underlying23,sizeOf,typeInfo,f,j,asIntOf,t,u,v]
  intro x;exact absurd x (by omega)
 ·refine⟨_,_,by rw[List.length_drop],by rw[List.length_drop];omega,by omega,λi b l=>?_⟩
  rw[List.getElem?_drop] at l
  have y:=(List.getElem?_eq_some_iff.1 l).1
  obtain⟨g,o,e,z,A⟩:=p (k+i) b l
  subst e
  refine⟨g,o+k,?_,z,by rw[Nat.add_assoc];exact A⟩
  rw[if_neg (by omega)]
  simp[dL]
theorem qZ {B:Nat} {w:World} {a:Option Addr} {n c:Nat} {bs:Bs} (h:aJ B w (.slice a n c) bs) (k:Nat) (i:k<=bs.length):∃ g,(∀ b,(Instr.slice 23 (.slice a n c) none (some (.int .i64 k)) none).run Tryz.prog b=.ok (.slice g k c) b)/\aJ B w (.slice g k c) (bs.take k):=by
 have j:=h.take k i
 obtain⟨t,u,e,v,x,y⟩:=h
 simp at e
 obtain⟨rfl,rfl,rfl⟩:=e
 obtain⟨l,d,m,f,o⟩:=lS
 refine⟨a,λb=>?_,j⟩
 have p:(0:Int)<=(k:Int):=by omega
 have q:(k:Int)<=(c:Int):=by omega
 have r:((k:Int)).toNat=k:=by omega
 simp[Instr.slice,Instr.sliceBounds,Instr.sliceBound,run_underlying Tryz.underlying23,sizeOf,typeInfo,d,f,asIntOf,p,q,r]
 go_simp
 intro s;exact absurd s (by omega)
end Go.Proofs.YtnpdhopjpjickaaGreatDoor
end
section
set_option linter.all false
set_option maxRecDepth 100000
namespace Go.Proofs.YtnpdhopjpjickaaGreatDoor
open Go.RowKit Go.Maps
def aY (L:Nat) (w:World) (v:Value) (bs:Bs):Prop:=∀ a:World,(∀ g,L<=g->g<w.heap.size->a.heap[g]?=w.heap[g]?)->w.heap.size<=a.heap.size->aJ a.heap.size a v bs
theorem wB {L g:Nat} {w:World} {bs:Bs} (a:L<=g) (f:bs.length<=140737488355328) (h:w.heap[g]?=some (.cells (dR bs).toArray 5 (0,0))):aY L w (.slice (some ⟨g,0,none⟩) bs.length bs.length) bs:=by
 intro j c k
 have d:=lt_of_block h
 refine⟨_,_,rfl,Nat.le_refl _,by rw[ag];omega,λi b e=>⟨g,0,rfl,by omega,?_⟩⟩
 refine ab ((c g a d).trans h) _ ?_
 rw[Nat.zero_add,List.getElem?_toArray]
 unfold dR
 rw[List.getElem?_map,e]
 rfl
theorem yk (n:Nat) (f:n<=140737488355328) (w:World):(Instr.makeSlice 23 (.int .i64 n) (.int .i64 n)).run Tryz.prog w=.ok (.slice (some ⟨w.heap.size,0,none⟩) n n) (w.alloc (.cells (madeCells #[.int .u8 0] n) 5)):=by
 obtain⟨a,b,c,d,e⟩:=lS
 have:=run_make (P:=Tryz.prog) w 23 5 a _ Tryz.underlying23 b c .i64 .i64 n n (by omega) (Int.le_refl _) (by rw[e];omega) (by omega)
 rw[d] at this
 simpa [Value.cells] using this
theorem lY (B g o f n:Nat) (d:Option Addr) (sv:Value) (y:Bs) (m:Array Value) (w:World) (h:aJ B w sv y) (J:y≠[]->d=some ⟨g,o,none⟩) (D:w.heap[g]?=some (.cells m 5 (0,0))) (E:y.length<=f) (x:o+y.length<=m.size):
  ∃ z,(∀ q,(Builtin.copy_ #[23,23] q #[.slice d f n,sv]).run Tryz.prog w=.ok (.int .i64 y.length) z)/\z.heap[g]?=some (.cells (m.toList.take o++dR y++m.toList.drop (o+y.length)).toArray 5 (0,0))/\z.heap.size=w.heap.size/\Below g w z:=by
 obtain⟨K,F,L,G,M⟩:=lS
 obtain⟨a,H,rfl,N,O,s⟩:=h
 have I:(Tryz.prog.info? 5).map (·.size)=some 1:=by rw[F];simp[G]
 by_cases A:y=[]
 ·subst A
  refine⟨w,λq=>run_copy_none w _ _ q 5 _ _ _ _ _ _ Tryz.underlying23 I (by simp),?_,rfl,Below.refl _ _⟩
  rw[D]
  simp[dR]
 ·rw[J A]
  obtain⟨C,e⟩:∃ C,a=some C:=by
   cases y with
   | nil=>exact absurd rfl A
   | cons r l=>obtain⟨b,o,e,_⟩:=s 0 r rfl;exact⟨_,e⟩
  subst e
  have t:∀ j u,(dR y)[j]?=some u->w.cell? (C.add j)=some u:=by
   cases y with
   | nil=>exact absurd rfl A
   | cons r l=>
    obtain⟨b,o,e,_,_⟩:=s 0 r rfl
    cases e
    intro j u Q
    rw[dL]
    refine ux (r :: l) o (λi c R=>?_) j u Q
    obtain⟨S,T,e,_,k⟩:=s i c R
    cases e
    exact k
  have v:(dR y).length=y.length:=by rw[lZ,Nat.mul_one]
  have p:=λq=>run_copy_row (P:=Tryz.prog) w 23 23 q 5 g o f n C y.length H m 5 (dR y) Tryz.underlying23 I D (by rw[v];exact (Nat.min_eq_left E).symm) t (by rw[v];exact x) (vZ y)
  rw[v] at p
  exact⟨_,λq=>p q,setRow_heap w g _ _ _ _ D,by simp[World.setRow],⟨rfl,rfl,rfl,by simp[World.setRow],λk U=>setRow_other w g k _ (by omega)⟩⟩
set_option maxHeartbeats 4000000 in
theorem iT (B:Nat) (D E:Value) (x y:Bs) (w:World) (P:aJ B w D x) (Q:aJ B w E y) (R:B<=w.heap.size) (C:x.length+y.length<=140737488355328):
  Calls Tryz.prog 100 #[D,E] w λe p=>∃ v,e=.returned v/\(∃ a,v=.slice a (x.length+y.length) (x.length+y.length))/\aY w.heap.size p v (x++y)/\Below w.heap.size w p:=by
 obtain⟨f,k⟩:∃ f,f=madeCells #[.int .u8 0] (x.length+y.length):=⟨_,rfl⟩
 have i:f.size=x.length+y.length:=by rw[k,size_madeCells]
 have b:=λw=>yk (x.length+y.length) C w
 rw[<-k] at b
 obtain⟨q,g⟩:∃ q,q=w.alloc (.cells f 5):=⟨_,rfl⟩
 have F:Below w.heap.size w q:=by rw[g];exact (Below.refl _ _).alloc (Nat.le_refl _) _
 have S:q.heap[w.heap.size]?=some (.cells f 5 (0,0)):=by rw[g];exact af _ _
 obtain⟨T,U,V,s2,W⟩:=lY B w.heap.size 0 (x.length+y.length) (x.length+y.length) (some ⟨w.heap.size,0,none⟩) D x f q (P.later F R) (λ_=>rfl) S (by omega) (by omega)
 have l:Below w.heap.size w T:=F.trans W
 have j:(f.toList.take 0++dR x++f.toList.drop (0+x.length)).toArray.size=x.length+y.length:=by
  simp[dR,i]
 obtain⟨d,G⟩:∃ d:Option Addr,d=if x.length+y.length=x.length then some ⟨w.heap.size,0,none⟩ else some ((⟨w.heap.size,0,none⟩:Addr).add (x.length*1)):=⟨_,rfl⟩
 obtain⟨r,X,Y,s3,Z⟩:=lY B w.heap.size x.length y.length y.length d E y _ T (Q.later l R) (λhy=>by
  have:y.length≠0:=λe=>hy (List.eq_nil_of_length_eq_zero e)
  rw[G,if_neg (by omega),dL]
  simp) V (Nat.le_refl _) (by rw[j];omega)
 have s:Below w.heap.size w r:=l.trans Z
 have t:r.heap[w.heap.size]?=some (.cells (dR (x++y)).toArray 5 (0,0)):=by
  rw[Y]
  congr 2
  rw[sO]
  have H:(dR x).length=x.length:=by rw[lZ,Nat.mul_one]
  simp[List.take_append,List.drop_append,H]
  omega
 have c:Hid (aY w.heap.size r (.slice (some ⟨w.heap.size,0,none⟩) (x.length+y.length) (x.length+y.length)) (x++y)/\Below w.heap.size w r):=⟨by
  have:=wB (L:=w.heap.size) (w:=r) (bs:=x++y) (Nat.le_refl _) (by rw[List.length_append];exact C) t
  rw[List.length_append] at this
  exact this,s⟩
 obtain⟨a3,I,a4,J,a5⟩:=lS
 have h:∀ p,(Instr.slice 23 (.slice (some ⟨w.heap.size,0,none⟩) (x.length+y.length) (x.length+y.length)) (some (.int .i64 (x.length:Int))) none none).run Tryz.prog p=.ok (.slice d y.length y.length) p:=λp=>by
  have e1:(0:Int)<=(x.length:Int):=by omega
  have e2:(x.length:Int)<=((x.length+y.length:Nat):Int):=by omega
  have e3:((x.length:Int)).toNat=x.length:=by omega
  rw[G]
  simp[Instr.slice,Instr.sliceBounds,Instr.sliceBound,run_underlying Tryz.underlying23,sizeOf,typeInfo,I,J,asIntOf,e1,e2,e3]
 obtain⟨aa,ac,ea,-,-,-⟩:=P
 obtain⟨ba,bc,eb,-,-,-⟩:=Q
 subst ea eb
 have K:=hid g
 have o:Hid _:=U
 have u:Hid _:=X
 obtain⟨n,z⟩:∃ n,n=x.length:=⟨_,rfl⟩
 obtain⟨m,A⟩:∃ m,m=y.length:=⟨_,rfl⟩
 rw[<-z] at b c h o C |-
 rw[<-A] at b c h o u C |-
 have M:∀ w,(Instr.makeSlice 23 (.int .i64 ((n:Int)+(m:Int))) (.int .i64 ((n:Int)+(m:Int)))).run Tryz.prog w=.ok (.slice (some ⟨w.heap.size,0,none⟩) (n+m) (n+m)) (w.alloc (.cells f 5)):=λw=>by
  have:=b w
  rw[show ((n+m:Nat):Int)=(n:Int)+m by omega] at this
  exact this
 have N:Hid _:=h
 have O:IntKind.i64.wrap ((n:Int)+(m:Int))=(n:Int)+(m:Int):=IntWalk.i64_in _ (by omega)
 clear g U X b k i G j S V Y t F W Z l s s2 s3 z A
 go_enter Tryz.func100,Tryz.ntmps100
 go_wp2_with fail
 rw[<-K.out,o.out]
 clear M O
 have h:=N.out
 go_wp2_with fail
 rw[u.out]
 go_wp2_with fail
 go_ret
 exact⟨_,rfl,⟨_,rfl⟩,c.out.1,c.out.2⟩
end Go.Proofs.YtnpdhopjpjickaaGreatDoor
end
section
set_option linter.all false
set_option maxRecDepth 100000
namespace Go.Proofs.YtnpdhopjpjickaaGreatDoor
open Go.RowKit Go.Maps
theorem xP {w:World} {k:Nat} {a b c d e:Value} {T:TypeId} (h:w.heap[k]?=some (.cells #[a,b,c,d,e] T (0,0))):w.frozen? ⟨k,0,none⟩=false/\w.frozen? ⟨k,1,none⟩=false/\w.frozen? ⟨k,2,none⟩=false/\w.frozen? ⟨k,3,none⟩=false/\w.frozen? ⟨k,4,none⟩=false:=
 ⟨by simp[World.frozen?,h],by simp[World.frozen?,h],by simp[World.frozen?,h],by simp[World.frozen?,h],by simp[World.frozen?,h]⟩
theorem dC {c:Func} {p u d:Tmp} {e:TypeId} (h:c.results=#[.cell p e,.tmp u,.tmp d]) (b:Array Value) (P:Program) (w:World):
  (results c b).run P w=((asAddr (b.getD p undef)).run P w).andThen λa f=>((loadVar e a).run P f).andThen λv g=>.ok (.tuple #[v,b.getD u undef,b.getD d undef]) g:=by
 simp only[results,h]
 simp[Sem.run_bind,Result.andThen]
theorem tN {L:Nat} {w b:World} {p:Nat} (h:Below L w b) (a:L<=p) (c d e f g:Value):Below L w (((((b.setCell ⟨p,0,none⟩ c).setCell ⟨p,1,none⟩ d).setCell ⟨p,2,none⟩ e).setCell ⟨p,3,none⟩ f).setCell ⟨p,4,none⟩ g):=
 ((((h.setCell (p:=⟨p,0,none⟩) a _).setCell (p:=⟨p,1,none⟩) a _).setCell (p:=⟨p,2,none⟩) a _).setCell (p:=⟨p,3,none⟩) a _).setCell (p:=⟨p,4,none⟩) a _
theorem BS (b:World) (p g:Nat) (a:g≠p) (c d e f h:Value):(((((b.setCell ⟨p,0,none⟩ c).setCell ⟨p,1,none⟩ d).setCell ⟨p,2,none⟩ e).setCell ⟨p,3,none⟩ f).setCell ⟨p,4,none⟩ h).heap[g]?=b.heap[g]?:=
 (((((Below.heap_setCell _ _ _ _ a).trans (Below.heap_setCell _ _ _ _ a)).trans (Below.heap_setCell _ _ _ _ a)).trans (Below.heap_setCell _ _ _ _ a)).trans (Below.heap_setCell _ _ _ _ a))
set_option maxHeartbeats 4000000 in
theorem tH (B:Nat) (v:Value) (bs:Bs) (w:World) (h:aJ B w v bs) (o:B<=w.heap.size) (m:fU bs=none):
  Calls Tryz.prog 99 #[v] w λe d=>e=.returned (.tuple #[.agg #[.int .i64 0,.int .i64 0,.int .i64 0,.slice none 0 0,.int .i64 0],.int .i64 0,.int .i64 8])/\Below w.heap.size w d:=by
 have i:Hid (∀ d,aJ B d v bs->Calls Tryz.prog 121 #[v,.int .u8 10] d λe j=>e=.returned (.int .i64 (-1))/\j=d):=λd p=>by
  have:=qk B v bs d p
  unfold Ei at this
  rw[m] at this
  exact this
 obtain⟨g,b⟩:∃ g,g=w.alloc (.cells #[.int .i64 0,.int .i64 0,.int .i64 0,.slice none 0 0,.int .i64 0] 78):=⟨_,rfl⟩
 have k:g.heap[w.heap.size]?=some (.cells #[.int .i64 0,.int .i64 0,.int .i64 0,.slice none 0 0,.int .i64 0] 78 (0,0)):=by rw[b];exact af _ _
 have f:Below w.heap.size w g:=by rw[b];exact (Below.refl _ _).alloc (Nat.le_refl _) _
 have q:Hid (aJ B g v bs):=h.later f o
 obtain⟨s,t,u,x,y⟩:=bw k
 obtain⟨z,A,C,D,E⟩:=xP k
 have r:=hid b
 have l:=hid f
 obtain⟨a,c,rfl,-,-,-⟩:=h
 clear b k f
 generalize bs.length=n at*
 clear m
 go_enter Tryz.func99,Tryz.ntmps99
 go_wp2_with fail
 rw[<-r.out]
 go_at_call 121
 refine Calls.mono (i.out _ q.out) ?_
 rintro e F ⟨rfl,rfl⟩
 go_wp2_with fail
 refine bodyPost_ret (v:=.tuple #[.agg #[.int .i64 0,.int .i64 0,.int .i64 0,.slice none 0 0,.int .i64 0],.int .i64 0,.int .i64 8]) ?_ rfl ⟨rfl,tN l.out (Nat.le_refl _) _ _ _ _ _⟩
 rw[dC rfl]
 go_simp
set_option maxHeartbeats 4000000 in
theorem tx (B:Nat) (v:Value) (bs x t:Bs) (w:World) (U:dX w) (h:aJ B w v bs) (V:B<=w.heap.size) (K:bs.length<=60000) (G:fU bs=some (x,t)):
  Calls Tryz.prog 99 #[v] w λe b=>∃ L,e=.returned (.tuple #[L,.int .i64 ((x.length:Int)+1),.int .i64 (dS x).2])/\gE w.heap.size b L (dS x).1/\Below w.heap.size w b:=by
 have M:=mE G
 have i:Hid (∀ b,aJ B b v bs->Calls Tryz.prog 121 #[v,.int .u8 10] b λe j=>e=.returned (.int .i64 (x.length:Int))/\j=b):=λb h'=>by
  have:=qk B v bs b h'
  unfold Ei at this
  rw[G] at this
  exact this
 obtain⟨q,l⟩:∃ q,q=w.alloc (.cells #[.int .i64 0,.int .i64 0,.int .i64 0,.slice none 0 0,.int .i64 0] 78):=⟨_,rfl⟩
 have N:q.heap[w.heap.size]?=some (.cells #[.int .i64 0,.int .i64 0,.int .i64 0,.slice none 0 0,.int .i64 0] 78 (0,0)):=by rw[l];exact af _ _
 have o:Below w.heap.size w q:=by rw[l];exact (Below.refl _ _).alloc (Nat.le_refl _) _
 have O:Hid (aJ B q v bs):=h.later o V
 have HW:=hid l
 have H:Hid (∀ b,Below q.heap.size q b->b.heap[w.heap.size]?=some (.cells #[.int .i64 0,.int .i64 0,.int .i64 0,.slice none 0 0,.int .i64 0] 78 (0,0))/\Below w.heap.size w b):=λb h=>⟨(h.block _ (lt_of_block N)).trans N,Below.thenOf o h o.size⟩
 obtain⟨a,c,rfl,W,P,-⟩:=id h
 obtain⟨a',r,s⟩:=qZ h x.length (by omega)
 have z:bs.take x.length=x:=by rw[(gm G).1];simp
 rw[z] at s
 have u:Hid (∀ b,Below w.heap.size w b->(convert 23 9 (.slice a' x.length c)).run Tryz.prog b=.ok (.string ⟨x.toArray⟩) b):=λb Q=>kK (s.later Q V)
 have p:Hid (∀ b,Below w.heap.size w b->Calls Tryz.prog 122 #[.string ⟨x.toArray⟩] b λe j=>∃ v,e=.returned (.tuple #[v,.int .i64 (dS x).2])/\gE b.heap.size j v (dS x).1/\Below b.heap.size b j):=λb Q=>by
  have:=zG ⟨x.toArray⟩ b (U.later Q)
  have e:fh (⟨x.toArray⟩:ByteArray).data.toList=dS x:=by
   unfold fh
   rw[if_neg (by simp;omega)]
  rw[e] at this
  exact this
 obtain⟨⟨⟨k,X,Y,rs,d⟩,RE⟩,A⟩:∃ RR,RR=dS x:=⟨_,rfl⟩
 rw[<-A] at p |-
 clear A
 simp only[] at p |-
 obtain⟨n,Z⟩:∃ n,n=bs.length:=⟨_,rfl⟩
 obtain⟨m,hm⟩:∃ m,m=x.length:=⟨_,rfl⟩
 rw[<-Z] at M K r i O |-
 rw[<-hm] at M r i u |-
 have aa:IntKind.i64.wrap ((m:Int)+1)=(m:Int)+1:=IntWalk.i64_in _ (by omega)
 have m0:¬((m:Int)<0):=by omega
 have mc:(m:Int)<=(c:Int):=by omega
 clear G s z W P Z hm U M l N o
 go_enter Tryz.func99,Tryz.ntmps99
 go_wp2_with fail
 rw[<-HW.out]
 go_at_call 121
 refine Calls.mono (i.out _ O.out) ?_
 rintro e I ⟨rfl,rfl⟩
 go_wp2_with fail
 rw[u.out _ (H.out _ (Below.refl _ _)).2]
 go_wp2_with fail
 go_at_call 122
 refine Calls.mono (p.out _ (H.out _ (Below.refl _ _)).2) ?_
 rintro e J ⟨L,rfl,f,y⟩
 obtain⟨C,D⟩:=H.out J y
 obtain⟨ra,rc,rfl,-⟩:=f.at.shape
 simp only[] at*
 obtain⟨rn,E⟩:∃ n,n=rs.length:=⟨_,rfl⟩
 rw[<-E] at f |-
 clear E
 have R:=hid f
 have F:=hid D
 have S:=hid C
 have ak:w.heap.size<J.heap.size:=lt_of_block C
 obtain⟨z0,z1,z2,z3,z4⟩:=bw C
 obtain⟨f0,f1,f2,f3,f4⟩:=xP C
 have T:Hid (Below I.heap.size I J/\w.heap.size<I.heap.size):=⟨y,lt_of_block (H.out I (Below.refl _ _)).1⟩
 clear f y D C O i p u m0 mc r S
 go_wp2_with fail
 refine bodyPost_ret (v:=.tuple #[.agg #[.int .i64 k,.int .i64 X,.int .i64 Y,.slice ra rn rc,.int .i64 d],.int .i64 ((m:Int)+1),.int .i64 RE]) ?_ rfl ⟨_,rfl,λwF k1 k2=>?_,?_⟩
 ·rw[dC rfl]
  go_simp
 ·have b1:=T.out.2
  refine R.out wF (λg W P=>?_) (Nat.le_trans (by simp) k2)
  have e1:=k1 g (by omega) (by simp;omega)
  have e2:=BS J w.heap.size g (by omega) (.int .i64 k) (.int .i64 X) (.int .i64 Y) (.slice ra rn rc) (.int .i64 d)
  rw[e1,Below.heap_alloc _ _ _ (by simp;exact P),e2]
 ·exact (tN F.out (Nat.le_refl _) _ _ _ _ _).alloc (by simp;exact F.out.size) _
end Go.Proofs.YtnpdhopjpjickaaGreatDoor
end
section
set_option linter.all false
set_option maxRecDepth 100000
namespace Go.Proofs.YtnpdhopjpjickaaGreatDoor
open Go.RowKit Go.Maps
def eL (L:Nat) (g:Option Nat) (w:World) (v:Value) (r:al):Prop:=∀ a:World,(∀ k,L<=k->some k≠g->k<w.heap.size->a.heap[k]?=w.heap[k]?)->w.heap.size<=a.heap.size->cV a.heap.size a v r
theorem eL.of_new {L a:Nat} {g:Option Nat} {w:World} {v:Value} {r:al} (h:gE a w v r) (j:L<=a) (b:∀ k,g=some k->k<a):eL L g w v r:=λc d f=>h c (λk l i=>d k (by omega) (λe=>by have:=b k e.symm;omega) i) f
theorem eL.grown {L:Nat} {g a:Option Nat} {w w':World} {v:Value} {r:al} (h:eL L g w v r) (b:w.grownBy w' g) (c:a=g\/∃ k,a=some k/\w.heap.size<=k):eL L a w' v r:=λl m n=>h l (λk o f i=>by
 have d:some k≠a:=by
  rcases c with e | ⟨j,e,q⟩
  ·rw[e];exact f
  ·rw[e]
   intro p
   have:=Option.some.inj p
   omega
 exact (m k o d (Nat.lt_of_lt_of_le i b.size)).trans (b.block k i f)) (Nat.le_trans b.size n)
theorem eL.beside {L:Nat} {g b c:Option Nat} {w w':World} {v:Value} {r:al} (h:eL L g w v r) (d:w.grownBy w' b) (m:∀ k,b=some k->k<L) (f:c=b\/∃ k,c=some k/\w.heap.size<=k):eL L c w' v r:=λn o p=>h n (λk q t l=>by
 have a:some k≠b:=λe=>by have:=m k e.symm;omega
 have i:some k≠c:=by
  rcases f with e | ⟨j,e,u⟩
  ·rw[e];exact a
  ·rw[e]
   intro s
   have:=Option.some.inj s
   omega
 exact (o k q i (Nat.lt_of_lt_of_le l d.size)).trans (d.block k l a)) (Nat.le_trans d.size p)
theorem eL.mono {L a:Nat} {g:Option Nat} {w:World} {v:Value} {r:al} (h:eL a g w v r) (b:L<=a):eL L g w v r:=λc d e=>h c (λk f=>d k (Nat.le_trans b f)) e
theorem eL.keep {L b:Nat} {g:Option Nat} {w w':World} {v:Value} {r:al} (h:eL L g w v r) (c:fS b w w') (i:b<L) (j:w'.heap.size=w.heap.size):eL L g w' v r:=λd e l=>h d (λk f a m=>(e k f a (by omega)).trans (c k (by omega))) (by omega)
theorem eL.kept {L:Nat} {g:Option Nat} {w:World} {v:Value} {r:al} (h:eL L g w v r):iG L g w v r:=λb c d=>h b (λk e a f=>c k e a f) d
def rQ (P:Value->al->Prop) (xs:List Value) (a:List al):Prop:=
 xs.length=a.length*5/\(∀ u∈xs,u.oneCell'=true)/\∀ i r,a[i]?=some r->∃ b,xs[i*5]?=some (.int .i64 r.1)/\xs[i*5+1]?=some (.int .i64 r.2.1)/\xs[i*5+2]?=some (.int .i64 r.2.2.1)/\xs[i*5+3]?=some b/\xs[i*5+4]?=some (.int .i64 r.2.2.2.2)/\P (.agg #[.int .i64 r.1,.int .i64 r.2.1,.int .i64 r.2.2.1,b,.int .i64 r.2.2.2.2]) r
theorem rQ.imp {P Q:Value->al->Prop} {xs:List Value} {a:List al} (h:rQ P xs a) (b:∀ v r,P v r->Q v r):rQ Q xs a:=by
 obtain⟨c,d,e⟩:=h
 refine⟨c,d,λi r f=>?_⟩
 obtain⟨g,j,k,l,m,n,o⟩:=e i r f
 exact⟨g,j,k,l,m,n,b _ _ o⟩
theorem rQ.snoc {P:Value->al->Prop} {xs:List Value} {d:List al} {e:Option Addr} {f g:Nat} {r:al} (h:rQ P xs d) (l:P (.agg #[.int .i64 r.1,.int .i64 r.2.1,.int .i64 r.2.2.1,.slice e f g,.int .i64 r.2.2.2.2]) r):rQ P (xs++[.int .i64 r.1,.int .i64 r.2.1,.int .i64 r.2.2.1,.slice e f g,.int .i64 r.2.2.2.2]) (d++[r]):=by
 obtain⟨b,m,n⟩:=h
 refine⟨by simp[b];omega,λu c=>?_,λi o a=>?_⟩
 ·rcases List.mem_append.1 c with c | c
  ·exact m u c
  ·simp at c
   rcases c with rfl | rfl | rfl | rfl | rfl<;>rfl
 ·by_cases p:i<d.length
  ·rw[List.getElem?_append_left p] at a
   obtain⟨j,q,s,t,v,w,x⟩:=n i o a
   exact⟨j,by rw[List.getElem?_append_left (by omega)];exact q,by rw[List.getElem?_append_left (by omega)];exact s,by rw[List.getElem?_append_left (by omega)];exact t,by rw[List.getElem?_append_left (by omega)];exact v,by rw[List.getElem?_append_left (by omega)];exact w,x⟩
  ·have k:=(List.getElem?_eq_some_iff.1 a).1
   simp at k
   obtain rfl:i=d.length:=by omega
   simp at a
   subst a
   refine⟨.slice e f g,?_,?_,?_,?_,?_,l⟩
   ·rw[List.getElem?_append_right (by omega),b];simp
   ·rw[List.getElem?_append_right (by omega),b];simp
   ·rw[List.getElem?_append_right (by omega),b];simp
   ·rw[List.getElem?_append_right (by omega),b];simp
   ·rw[List.getElem?_append_right (by omega),b];simp
theorem rQ.append {P:Value->al->Prop} {xs ys:List Value} {a ss:List al} (h:rQ P xs a) (k:rQ P ys ss):rQ P (xs++ys) (a++ss):=by
 obtain⟨m,n,o⟩:=h
 obtain⟨p,q,s⟩:=k
 refine⟨by simp[m,p];omega,λu t=>?_,λi r b=>?_⟩
 ·rcases List.mem_append.1 t with h | h
  ·exact n u h
  ·exact q u h
 ·by_cases v:i<a.length
  ·rw[List.getElem?_append_left v] at b
   obtain⟨c,d,e,f,g,j,l⟩:=o i r b
   exact⟨c,by rw[List.getElem?_append_left (by omega)];exact d,by rw[List.getElem?_append_left (by omega)];exact e,by rw[List.getElem?_append_left (by omega)];exact f,by rw[List.getElem?_append_left (by omega)];exact g,by rw[List.getElem?_append_left (by omega)];exact j,l⟩
  ·rw[List.getElem?_append_right (by omega)] at b
   obtain⟨c,d,e,f,g,j,l⟩:=s _ r b
   refine⟨c,?_,?_,?_,?_,?_,l⟩
   ·rw[List.getElem?_append_right (by omega),show i*5-xs.length=(i-a.length)*5 by omega];exact d
   ·rw[List.getElem?_append_right (by omega),show i*5+1-xs.length=(i-a.length)*5+1 by omega];exact e
   ·rw[List.getElem?_append_right (by omega),show i*5+2-xs.length=(i-a.length)*5+2 by omega];exact f
   ·rw[List.getElem?_append_right (by omega),show i*5+3-xs.length=(i-a.length)*5+3 by omega];exact g
   ·rw[List.getElem?_append_right (by omega),show i*5+4-xs.length=(i-a.length)*5+4 by omega];exact j
theorem rQ.toR {L:Nat} {g:Option Nat} {w:World} {xs:List Value} {a:List al} (h:rQ (iG L g w) xs a):BX L g w xs a:=h
theorem qG (a d:Nat) (v C:Value) (n m:Nat) (xs ys:List Value) (W:World) (b:W.ownsRow a 78 5 v n xs) (E:W.ownsRow d 78 5 C m ys) (F:∀ u∈ys,u.oneCell'=true) (G:(n+m)*56<=140737488355328) (f:a<=W.heap.size):
  ∃ l o,(Builtin.append_ #[65,65] 65 #[v,C]).run Tryz.prog W=.ok l o/\o.ownsRow a 78 5 l (n+m) (xs++ys)/\W.grownBy o v.ownBlock/\(l.ownBlock=v.ownBlock\/∃ k,l.ownBlock=some k/\W.heap.size<=k):=by
 obtain⟨p,i,w,x,y⟩:=zW
 obtain⟨q,z⟩:=E
 rcases z with ⟨rfl,H⟩ | ⟨g,c,A,rfl,T,r,I,J,K,s⟩
 ·subst H
  obtain rfl:ys=[]:=List.eq_nil_of_length_eq_zero (by simpa using q)
  refine⟨v,W,?_,by simpa using b,⟨rfl,rfl,rfl,Nat.le_refl _,λ_ _ _=>rfl⟩,.inl rfl⟩
  have L:v=.slice none 0 0\/∃ g c,v=.slice (some g) n c/\n<=c:=by
   rcases b.2 with ⟨h,_⟩ | ⟨g,c,A,h,_,_,M,_⟩
   ·exact .inl h
   ·exact .inr ⟨_,c,h,M⟩
  have D:=run_firstCells_none (P:=Tryz.prog) W p.size 0 0 0
  rcases L with rfl | ⟨g,c,rfl,B⟩
  ·simp[Builtin.append_,run_underlying Tryz.underlying65,sizeOf,typeInfo,i,Builtin.lenOf,D]
  ·simp[Builtin.append_,run_underlying Tryz.underlying65,sizeOf,typeInfo,i,Builtin.lenOf,D,B,storeCells]
 ·obtain⟨l,o,N,O,Q,_,R⟩:=run_append_own_at (P:=Tryz.prog) W a 65 65 78 p _ 5 56 Tryz.underlying65 i w x y rfl (by decide) v n xs b ⟨g,0,none⟩ m c ys q (λj u t=>by
   rw[dL,Nat.zero_add]
   have S:=(List.getElem?_eq_some_iff.1 t).1
   refine ab r j ?_
   rw[<-s,List.getElem?_take] at t
   split at t
   ·simpa using t
   ·cases t) F (by rw[ag];omega) G f
  exact⟨l,o,N,O,Q,by
   rcases R with e | e
   ·exact .inl e
   ·exact .inr ⟨_,e,Nat.le_refl _⟩⟩
end Go.Proofs.YtnpdhopjpjickaaGreatDoor
end
section
set_option linter.all false
set_option maxRecDepth 100000
namespace Go.Proofs.YtnpdhopjpjickaaGreatDoor
open Go.RowKit Go.Maps
theorem nt (aF:Nat) (s a t:Bs) (h:fU s=some (a,t)):aI aF s=(if (dS a).2=0 then (match aF with | 0=>([],0,2) | m+1=>((dS a).1 :: (aI m t).1,a.length+1+(aI m t).2.1,(aI m t).2.2)) else ([],0,(dS a).2)):=by
 obtain⟨rfl,b⟩:=gm h
 exact ip aF a t b
set_option maxHeartbeats 8000000 in
theorem jM (B:Nat) (v:Value) (bs:Bs) (a8:bs.length<=60000) (aF:Nat) (a9:aF<=40) (w:World) (Q:dX w) (h:aJ B w v bs) (hB:B<=w.heap.size):
  Calls Tryz.prog 65 #[v,.int .i64 aF] w λe F=>∃ lv q,e=.returned (.tuple #[lv,.int .i64 (aI aF bs).2.1,.int .i64 (aI aF bs).2.2])/\F.ownsRow w.heap.size 78 5 lv (aI aF bs).1.length q/\rQ (eL w.heap.size lv.ownBlock F) q (aI aF bs).1/\Below w.heap.size w F:=by
 obtain⟨ci,bf,bg,bk,bm⟩:=zW
 have HE:Hid (∀ F,Below w.heap.size w F->dX F):=λF h=>Q.later h
 have HB:Hid (∀ F,Below w.heap.size w F->aJ B F v bs):=λF hb=>h.later hb hB
 have aa:=ag
 obtain⟨a,c,rfl,-,-,-⟩:=h
 obtain⟨N,hN⟩:∃ N,N=bs.length:=⟨_,rfl⟩
 have HN:=hid hN.symm
 rw[<-hN] at HB a8 |-
 clear hN Q
 go_enter Tryz.func65,Tryz.ntmps65
 go_wp2_with fail
 go_loopw [7,8] (λlv nv wr=>∃ (k:Nat) (b:List al) (q:List Value),k<=N/\b.length<=aF/\nv=.int .i64 k/\Hid (aI aF bs=(b++(aI (aF-b.length) (bs.drop k)).1,k+(aI (aF-b.length) (bs.drop k)).2.1,(aI (aF-b.length) (bs.drop k)).2.2))/\Hid (wr.ownsRow w.heap.size 78 5 lv b.length q)/\Hid (rQ (eL w.heap.size lv.ownBlock wr) q b)/\Hid (Below w.heap.size w wr)) (λ_ iv _=>N-(intOf iv).toNat)
 case atStart=>exact⟨0,[],[],by omega,by simp,rfl,by unfold Hid;simp,⟨rfl,.inl ⟨rfl,rfl⟩⟩,⟨rfl,(λu hu=>by cases hu),(λi r hr=>by simp at hr)⟩,Below.refl _ _⟩
 case round=>
  obtain⟨k,b,q,hk,hd,rfl,M,R,HX,s⟩:=hrel
  obtain⟨S,bq⟩:∃ x,x=wr:=⟨_,rfl⟩
  subst bq
  have i0:(0:Int)<=(k:Int):=by omega
  have G:=s.out.size
  obtain⟨va,vc,ev,ak,br,-⟩:=ax R.out
  subst ev
  by_cases ao:k<N
  ·have i1:(k:Int)<(N:Int):=by omega
   obtain⟨a',av,H⟩:=yL (HB.out S s.out) k (by rw[HN.out];exact hk)
   obtain⟨D,hD⟩:∃ D,D=bs.drop k:=⟨_,rfl⟩
   have O:D.length=N-k:=by rw[hD,List.length_drop,HN.out]
   rw[<-hD] at H M
   have HD:=hid hD
   clear hD
   cases hcut:fU D with
   | none=>
    have z:Hid (aI aF bs=(b,k,8)):=by
     unfold Hid
     rw[M.out,lC _ D (rJ hcut) (λe=>by rw[e] at O;simp at O;omega)]
     simp
    have n:Hid _:=tH B _ D S H (Nat.le_trans hB G) hcut
    clear M HD H hcut O
    generalize j:b.length=l at*
    have o:=hid j
    clear j
    go_wp2_with fail
    go_at_call 99
    refine Calls.mono n.out ?_
    rintro e L ⟨rfl,p⟩
    have HF:Hid (∀ X,(L.alloc X).ownsRow w.heap.size 78 5 (.slice va l vc) l q/\rQ (eL w.heap.size (Value.slice va l vc).ownBlock (L.alloc X)) q b/\Below w.heap.size w (L.alloc X)):=λX=>by
     have Z:Below S.heap.size S (L.alloc X):=p.alloc p.size X
     exact⟨au R.out Z,HX.out.imp λ_ _ h=>h.grown (eJ Z _) (.inl rfl),Below.thenOf s.out Z s.out.size⟩
    clear n av p R HX
    go_wp2_with fail
    go_ret3
    obtain⟨f1,f2,f3⟩:=HF.out _
    exact⟨_,q,by rw[z.out];rfl,by rw[z.out];exact o.out▸f1,by rw[z.out];exact f2,f3⟩
   | some y=>
    obtain⟨x,t⟩:=y
    have T:=mE hcut
    have HT:Hid (t=bs.drop (k+(x.length+1))):=by
     unfold Hid
     have:=(gm hcut).1
     rw[HD.out] at this
     rw[<-List.drop_drop,this]
     simp
    have n:Hid _:=tx B _ D x t S (HE.out S s.out) H (Nat.le_trans hB G) (by omega) hcut
    have g:Hid (¬(dS x).2=0->aI aF bs=(b,k,(dS x).2)):=λQ=>by
     rw[M.out,nt _ _ _ _ hcut,if_neg Q]
     simp
    have f:Hid ((dS x).2=0->aF=b.length->aI aF bs=(b,k,2)):=λQ hm=>by
     rw[M.out,nt _ _ _ _ hcut,if_pos Q,hm,Nat.sub_self]
     simp
    have d:Hid ((dS x).2=0->b.length<aF->aI aF bs=((b++[(dS x).1])++(aI (aF-(b++[(dS x).1]).length) (bs.drop (k+(x.length+1)))).1,(k+(x.length+1))+(aI (aF-(b++[(dS x).1]).length) (bs.drop (k+(x.length+1)))).2.1,(aI (aF-(b++[(dS x).1]).length) (bs.drop (k+(x.length+1)))).2.2)):=λQ hm=>by
     rw[M.out,nt _ _ _ _ hcut,if_pos Q,show aF-b.length=(aF-(b++[(dS x).1]).length)+1 by simp;omega,<-HT.out]
     simp
     omega
    obtain⟨⟨⟨U,V,W,xr,Y⟩,E⟩,b1⟩:∃ RR,RR=dS x:=⟨_,rfl⟩
    rw[<-b1] at n g f d
    simp only[] at n g f d
    obtain⟨l,j⟩:∃ l,l=b.length:=⟨_,rfl⟩
    have o:=hid j.symm
    rw[<-j] at R HX ak hd f d |-
    obtain⟨m,hm⟩:∃ m,m=x.length:=⟨_,rfl⟩
    rw[<-hm] at n d T
    have b2:k+(m+1)<=N:=by omega
    clear b1 j hm M HT hcut H HD T O
    go_wp2_with fail
    go_at_call 99
    refine Calls.mono n.out ?_
    rintro e L ⟨v2,rfl,I,p⟩
    obtain⟨ra,rc,er,-⟩:=I.at.shape
    subst er
    simp only[] at I |-
    obtain⟨rn,b5⟩:∃ rn,rn=xr.length:=⟨_,rfl⟩
    rw[<-b5] at I |-
    have bx:=p.size
    obtain⟨A,J⟩:∃ A,A=L.alloc (.cells #[.int .i64 U,.int .i64 V,.int .i64 W,.slice ra rn rc,.int .i64 Y] 78):=⟨_,rfl⟩
    have a1:Below L.heap.size L A:=by rw[J];exact (Below.refl _ _).alloc (Nat.le_refl _) _
    have C:Below S.heap.size S A:=Below.thenOf p a1 p.size
    have a2:Hid (A.ownsRow w.heap.size 78 5 (.slice va l vc) l q):=au R.out C
    have a3:Hid (rQ (eL w.heap.size (Value.slice va l vc).ownBlock A) q b):=HX.out.imp λ_ _ h=>h.grown (eJ C _) (.inl rfl)
    have c0:Hid (eL w.heap.size (Value.slice va l vc).ownBlock A (.agg #[.int .i64 U,.int .i64 V,.int .i64 W,.slice ra rn rc,.int .i64 Y]) (U,V,W,xr,Y)):=eL.of_new (uQ I a1) G λk hk=>by
     obtain⟨da,hc⟩:=dh R.out k hk
     exact lt_of_block hc
    have P:Hid (Below w.heap.size w A):=Below.thenOf s.out C G
    have g3:A.heap[L.heap.size]?=some (.cells #[.int .i64 U,.int .i64 V,.int .i64 W,.slice ra rn rc,.int .i64 Y] 78 (0,0)):=by rw[J];exact af _ _
    obtain⟨g0,g1,g2,dd,g4⟩:=bw g3
    have b6:w.heap.size<=A.heap.size:=P.out.size
    have ce:A.heap.size=L.heap.size+1:=by rw[J];simp
    have a4:=hid J
    clear J a1 C I b5 g3 p bx R HX av n
    by_cases hE:E=0
    case neg=>
     have de:(E==0)=false:=by simpa using hE
     have cf:(E != 0)=true:=by simpa using hE
     have z:Hid (aI aF bs=(b,k,E)):=g.out hE
     clear hE g f d
     go_wp2_with fail
     rw[<-a4.out]
     go_ret3
     exact⟨_,q,by rw[z.out];rfl,by rw[z.out];exact o.out.symm▸a2.out,by rw[z.out];exact a3.out,P.out⟩
    case pos=>
     subst hE
     by_cases a5:aF=l
     ·have z:Hid (aI aF bs=(b,k,2)):=f.out rfl a5
      have c1:(l:Int)=(aF:Int):=by omega
      clear g f d
      go_wp2_with fail
      rw[<-a4.out]
      go_ret3
      exact⟨_,q,by rw[z.out];rfl,by rw[z.out];exact o.out.symm▸a2.out,by rw[z.out];exact a3.out,P.out⟩
     ·have K:l<aF:=by omega
      have c1:¬((l:Int)=(aF:Int)):=by omega
      have c2:Hid _:=d.out rfl K
      have HA:Hid (l+1<=maxLen/\(l+1)*56<=140737488355328/\w.heap.size<=A.heap.size):=⟨by rw[aa];omega,by omega,b6⟩
      have b8:Hid (k+(m+1)<=N/\l+1<=aF/\k<N):=⟨b2,K,ao⟩
      have di:IntKind.i64.wrap ((k:Int)+((m:Int)+1))=(k:Int)+((m:Int)+1):=IntWalk.i64_in _ (by omega)
      clear g f d hd ak br K a9 G hk ao aa b2 a8 b6
      go_wp2_with (first
       | (at_builtin;rw[<-a4.out];go_must (refine lQ _ rfl _ _ rfl Tryz.underlying65 bf bg bk bm rfl (by decide) w.heap.size _ _ _ rfl _ 1 [.int .i64 U,.int .i64 V,.int .i64 W,.slice ra rn rc,.int .i64 Y] rfl A rfl (by first | rfl | omega) A (Below.refl _ _) a2.out rfl (by simp[Value.oneCell']) HA.out.1 HA.out.2.1 HA.out.2.2 ?_;intro v9 w9 c4 b9 c5 c6;have c7:Hid _:=b9;clear b9)))
      obtain⟨c8,c9,dk⟩:=b8.out
      refine⟨⟨k+(m+1),b++[(U,V,W,xr,Y)],q++[.int .i64 U,.int .i64 V,.int .i64 W,.slice ra rn rc,.int .i64 Y],c8,by rw[List.length_append,o.out];exact c9,by go_num,c2,?_,?_,P.out.trans c7.out⟩,by simp[intOf];omega⟩
      ·unfold Hid
       rw[List.length_append,o.out]
       exact c4.out
      ·exact (a3.out.snoc (r:=(U,V,W,xr,Y)) c0.out).imp λ_ _ h=>h.grown c5.out c6.out
  ·have e:k=N:=by omega
   subst e
   have z:Hid (aI aF bs=(b,k,0)):=by
    unfold Hid
    have:bs.drop k=[]:=List.drop_of_length_le (by rw[HN.out];exact Nat.le_refl _)
    rw[M.out,this,i9]
    simp
   have i1:¬((k:Int)<(k:Int)):=by omega
   clear M
   generalize j:b.length=l at*
   have o:=hid j
   clear j
   go_wp2_with fail
   go_ret3
   exact⟨_,by rw[z.out];rfl,q,by rw[z.out];exact o.out.symm▸R.out,by rw[z.out];exact HX.out,s.out⟩
end Go.Proofs.YtnpdhopjpjickaaGreatDoor
end
section
set_option linter.all false
set_option maxRecDepth 100000
namespace Go.Proofs.YtnpdhopjpjickaaGreatDoor
open Go.RowKit Go.Maps
theorem ei.shapeS {B:Nat} {w:World} {v:Value} {d:bA} (h:ei B w v d):∃ a c b k,v=.agg #[.slice a d.1.length c,.slice b d.2.length k]:=by
 obtain⟨e,f,rfl,⟨a,c,rfl,_⟩,⟨b,k,rfl,_⟩⟩:=h
 exact⟨a,c,b,k,rfl⟩
set_option maxHeartbeats 4000000 in
theorem uj (a b:Option Addr) (n c m k:Nat) (w:World) (d:n+m<=300000000000000):
  Calls Tryz.prog 64 #[.agg #[.slice a n c,.slice b m k]] w λe f=>e=.returned (.int .i64 ((n:Int)+(m:Int)))/\Below w.heap.size w f:=by
 have g:IntKind.i64.wrap ((n:Int)+(m:Int))=(n:Int)+(m:Int):=IntWalk.i64_in _ (by omega)
 have h:Hid (∀ X,Below w.heap.size w (w.alloc X)):=λX=>(Below.refl _ _).alloc (Nat.le_refl _) X
 clear d
 go_enter Tryz.func64,Tryz.ntmps64
 go_wp2_with fail
 go_ret
 exact⟨rfl,h.out _⟩
set_option maxHeartbeats 4000000 in
theorem hQ (B:Nat) (v:Value) (d:bA) (w:World) (R:dX w) (X:ei B w v d) (S:B<=w.heap.size) (f:lm d):
  Calls Tryz.prog 34 #[v] w λe k=>e=.returned (.int .i64 (az d))/\Below w.heap.size w k:=by
 obtain⟨sv,tv,rfl,E,H⟩:=X
 obtain⟨s,t⟩:=d
 simp only[] at E H
 unfold lm at f
 simp only[] at f
 have h:Hid (az (s,t)=if 60000<s.length\/60000<s.length+t.length then 2 else (aI 40 s).2.2):=rfl
 obtain⟨a,c,Y,-,-,-⟩:=id E
 obtain⟨b,F,Z,-,-,-⟩:=id H
 subst Y Z
 obtain⟨q,g⟩:∃ q,q=w.alloc (.cells #[.slice a s.length c,.slice b t.length F] 25):=⟨_,rfl⟩
 have r:Below w.heap.size w q:=by rw[g];exact (Below.refl _ _).alloc (Nat.le_refl _) _
 have u:q.heap[w.heap.size]?=some (.cells #[.slice a s.length c,.slice b t.length F] 25 (0,0)):=by rw[g];exact af _ _
 have l:Hid _:=uj a b s.length c t.length F q f
 have i:Hid (s.length<=60000->∀ k,Below w.heap.size w k->Calls Tryz.prog 65 #[.slice a s.length c,.int .i64 40] k λe x=>∃ G,e=.returned (.tuple #[G,.int .i64 (aI 40 s).2.1,.int .i64 (aI 40 s).2.2])/\Below k.heap.size k x):=λI k J=>(jM B _ s I 40 (by omega) k (R.later J) (E.later J S) (Nat.le_trans S J.size)).mono λe x ⟨G,xs,h1,_,_,h4⟩=>⟨G,h1,h4⟩
 obtain⟨n,T⟩:∃ n,n=s.length:=⟨_,rfl⟩
 obtain⟨m,U⟩:∃ m,m=t.length:=⟨_,rfl⟩
 rw[<-T] at g u l i h f |-
 rw[<-U] at g u l h f |-
 obtain⟨V,y⟩:∃ V,V=(aI 40 s).2.1:=⟨_,rfl⟩
 obtain⟨K,o⟩:∃ K,K=(aI 40 s).2.2:=⟨_,rfl⟩
 rw[<-y,<-o] at i
 rw[<-o] at h
 have L:=hid g
 have z:=hid r
 have A:=hid u
 obtain⟨y0,y1,-,-⟩:=aO u
 clear T U y o g u E H R
 go_enter Tryz.func34,Tryz.ntmps34
 go_wp2_with fail
 rw[<-L.out]
 go_at_call 64
 refine Calls.mono l.out ?_
 rintro e M ⟨rfl,p⟩
 have j:Hid (Below w.heap.size w M):=Below.thenOf z.out p z.out.size
 have W:M.heap[w.heap.size]?=some (.cells #[.slice a n c,.slice b m F] 25 (0,0)):=(p.block _ (lt_of_block A.out)).trans A.out
 obtain⟨q0,q1,-,-⟩:=aO W
 clear y0 y1 W p r
 by_cases N:60000<n+m
 ·have O:Hid (az (s,t)=2):=by unfold Hid;rw[h.out,if_pos (.inr N)]
  have P:(60000:Int)<(n:Int)+(m:Int):=by omega
  clear N f
  go_wp2_with fail
  go_ret
  exact⟨by rw[O.out];rfl,j.out⟩
 ·have O:Hid (az (s,t)=K):=by unfold Hid;rw[h.out,if_neg (by omega)]
  have P:¬((60000:Int)<(n:Int)+(m:Int)):=by omega
  have C:Hid _:=i.out (by omega) M j.out
  clear N f i
  go_wp2_with fail
  go_at_call 65
  refine Calls.mono C.out ?_
  rintro e w3 ⟨G,rfl,D⟩
  have Q:Hid (Below w.heap.size w w3):=Below.thenOf j.out D j.out.size
  clear D
  go_wp2_with fail
  go_ret
  exact⟨by rw[O.out];rfl,Q.out⟩
theorem EC (x y:Bs):(x==y)=decide (x=y):=by
 by_cases h:x=y
 ·subst h
  simp
 ·rw[decide_eq_false h]
  exact beq_false_of_ne h
set_option maxHeartbeats 4000000 in
theorem yy (B:Nat) (v u:Value) (x y:Bs) (w:World) (d:aJ B w v x) (f:aJ B w u y):
  Calls Tryz.prog 70 #[v,u] w λe i=>e=.returned (.bool (decide (x=y)))/\i=w:=by
 have g:=kK d
 have h:=kK f
 obtain⟨a,c,rfl,-,-,-⟩:=d
 obtain⟨b,k,rfl,-,-,-⟩:=f
 generalize x.length=n at*
 generalize y.length=m at*
 have j:Hid _:=g
 have l:Hid _:=h
 clear g h
 rw[<-EC]
 go_enter Tryz.func70,Tryz.ntmps70
 go_wp2_with fail
 rw[j.out]
 go_wp2_with fail
 rw[l.out]
 go_wp2_with fail
 go_ret
 exact⟨rfl,rfl⟩
theorem sn (B:Nat) (v u:Value) (x y:Bs) (w:World) (b:aJ B w v x) (c:aJ B w u y) (g:B<=w.heap.size):
  Calls Tryz.prog 70 #[v,u] w λe a=>e=.returned (.bool (decide (x=y)))/\Below w.heap.size w a:=(yy B v u x y w b c).mono λe a ⟨d,f⟩=>⟨d,by rw[f];exact Below.refl _ _⟩
set_option maxHeartbeats 4000000 in
theorem B5 (B:Nat) (v u:Value) (d e:bA) (w:World) (hd:ei B w v d) (he:ei B w u e) (x:B<=w.heap.size):
  Calls Tryz.prog 38 #[v,u] w λr b=>r=.returned (.bool (decide (d=e)))/\Below w.heap.size w b:=by
 obtain⟨s,t⟩:=d
 obtain⟨k,l⟩:=e
 obtain⟨V,W,rfl,F,G⟩:=hd
 obtain⟨z,A,rfl,g,m⟩:=he
 simp only[] at F G g m
 have X:Hid (∀ b,Below w.heap.size w b->Calls Tryz.prog 70 #[V,z] b λe n=>e=.returned (.bool (decide (s=k)))/\Below b.heap.size b n):=λb h=>sn B V z s k b (F.later h x) (g.later h x) (Nat.le_trans x h.size)
 have Y:Hid (∀ b,Below w.heap.size w b->Calls Tryz.prog 70 #[W,A] b λe n=>e=.returned (.bool (decide (t=l)))/\Below b.heap.size b n):=λb h=>sn B W A t l b (G.later h x) (m.later h x) (Nat.le_trans x h.size)
 obtain⟨a,c,e1,-⟩:=F
 obtain⟨H,I,e2,-⟩:=G
 obtain⟨J,K,e3,-⟩:=g
 obtain⟨L,M,e4,-⟩:=m
 subst e1 e2 e3 e4
 have y:Hid (decide (((s,t):bA)=(k,l))=(decide (s=k)&&decide (t=l))):=by unfold Hid;simp
 obtain⟨N,C⟩:∃ N,N=decide (s=k):=⟨_,rfl⟩
 obtain⟨O,D⟩:∃ O,O=decide (t=l):=⟨_,rfl⟩
 rw[<-C] at X y
 rw[<-D] at Y y
 clear C D
 generalize s.length=P at*
 generalize t.length=Q at*
 generalize k.length=R at*
 generalize l.length=S at*
 obtain⟨o,f⟩:∃ o,o=(w.alloc (.cells #[.slice a P c,.slice H Q I] 25)).alloc (.cells #[.slice J R K,.slice L S M] 25):=⟨_,rfl⟩
 have E:Below w.heap.size w o:=by rw[f];exact ((Below.refl _ _).alloc (Nat.le_refl _) _).alloc (by simp) _
 have g:o.heap.size=w.heap.size+1+1:=by rw[f];simp
 have Z:o.heap[w.heap.size]?=some (.cells #[.slice a P c,.slice H Q I] 25 (0,0)):=by rw[f];exact (Below.heap_alloc _ _ _ (by simp)).trans (af _ _)
 have g1:o.heap[w.heap.size+1]?=some (.cells #[.slice J R K,.slice L S M] 25 (0,0)):=by
  have:=af (w.alloc (.cells #[.slice a P c,.slice H Q I] 25)) (.cells #[.slice J R K,.slice L S M] 25)
  rw[World.size_alloc] at this
  rw[f]
  exact this
 have T:=hid f
 have p:=hid E
 clear f E
 go_enter Tryz.func38,Tryz.ntmps38
 go_wp2_with fail
 rw[<-T.out]
 go_at_call 70
 refine Calls.mono (X.out o p.out) ?_
 rintro e w3 ⟨rfl,i⟩
 have k0:=ab ((i.block w.heap.size (by omega)).trans Z) 1 rfl
 have k1:=ab ((i.block (w.heap.size+1) (by omega)).trans g1) 1 rfl
 have j:Hid (Below w.heap.size w w3):=Below.thenOf p.out i p.out.size
 clear i Z g1
 cases N with
 | false=>
  have q:Hid (decide (((s,t):bA)=(k,l))=false):=by unfold Hid;rw[y.out];rfl
  clear y
  go_wp2_with fail
  go_ret
  exact⟨by rw[q.out];rfl,j.out⟩
 | true=>
  have q:Hid (decide (((s,t):bA)=(k,l))=O):=by unfold Hid;rw[y.out];rfl
  clear y
  go_wp2_with fail
  go_at_call 70
  refine Calls.mono (Y.out w3 j.out) ?_
  rintro e w4 ⟨rfl,U⟩
  go_wp2_with fail
  go_ret
  exact⟨by rw[q.out];rfl,Below.thenOf j.out U j.out.size⟩
end Go.Proofs.YtnpdhopjpjickaaGreatDoor
end
section
set_option linter.all false
set_option maxRecDepth 100000
namespace Go.Proofs.YtnpdhopjpjickaaGreatDoor
open Go.RowKit Go.Maps
theorem cj {w:World} {b:Nat} {o:Obj} (X:Obj) (h:w.heap[b]?=some o):(w.alloc X).heap[b]?=some o:=(Below.heap_alloc _ _ _ (Array.getElem?_eq_some_iff.1 h).1).trans h
theorem bT (w:World) (X:Obj) {b:Nat} (h:b=w.heap.size):(w.alloc X).heap[b]?=some X:=by rw[h];exact af w X
theorem aY.at {L:Nat} {w:World} {v:Value} {x:Bs} (h:aY L w v x):aJ w.heap.size w v x:=h w (λ_ _ _=>rfl) (Nat.le_refl _)
theorem aY.mono {L a:Nat} {w:World} {v:Value} {x:Bs} (h:aY a w v x) (b:L<=a):aY L w v x:=λc d e=>h c (λg f i=>d g (Nat.le_trans b f) i) e
theorem aY.later {L:Nat} {w w':World} {v:Value} {x:Bs} (h:aY L w v x) (a:Below w.heap.size w w'):aY L w' v x:=λc d e=>h c (λg f b=>(d g f (Nat.lt_of_lt_of_le b a.size)).trans (a.block g b)) (Nat.le_trans a.size e)
theorem aY.keep {L k:Nat} {w w':World} {v:Value} {x:Bs} (h:aY L w v x) (a:fS k w w') (f:k<L) (i:w'.heap.size=w.heap.size):aY L w' v x:=λb c j=>h b (λg d e=>(c g d (by omega)).trans (a g (by omega))) (by omega)
theorem aY.shape {L:Nat} {w:World} {v:Value} {x:Bs} (h:aY L w v x):∃ a c,v=.slice a x.length c:=by
 obtain⟨a,c,e,_⟩:=h.at
 exact⟨a,c,e⟩
theorem iY {L:Nat} {w:World} {sv tv:Value} {d:bA} (e:aY L w sv d.1) (f:aY L w tv d.2):bL L w (.agg #[sv,tv]) d:=λa b c=>⟨sv,tv,rfl,e a b c,f a b c⟩
theorem uK (L:Nat) (w:World):aY L w (.slice none 0 0) []:=λa _ _=>lJ _ _
theorem dz (L:Nat) (w:World):bL L w (.agg #[.slice none 0 0,.slice none 0 0]) ([],[]):=iY (d:=([],[])) (uK _ _) (uK _ _)
def JB (W:World) (F:Nat->Option Bs) (a:Nat->Value->Prop) (w:World):Prop:=Below W.heap.size W w/\∀ k u x,a k u->F k=some x->aY W.heap.size w u x
def SB (F:Nat->Option Bs) (k:Nat) (v:Value):Prop:=∃ a c,v=.slice a ((F k).getD []).length c
theorem Dj (F:Nat->Option Bs) (k:Nat):∃ v,SB F k v:=⟨_,none,0,rfl⟩
theorem JB.start (W:World) (F:Nat->Option Bs):JB W F (λ_ _=>False) W.drew:=⟨(Below.refl _ _).drew,λ_ _ _ h=>h.elim⟩
theorem JB.put {W w w':World} {F:Nat->Option Bs} {c:Nat->Value->Prop} {k:Nat} {v:Value} {x:Bs} (h:JB W F c w) (d:Below w.heap.size w w') (e:F k=some x) (f:aY W.heap.size w' v x):JB W F (bW c k v) w':=by
 refine⟨Below.thenOf h.1 d h.1.size,λm u y a b=>?_⟩
 rcases a with a | ⟨rfl,rfl⟩
 ·exact (h.2 m u y a b).later d
 ·rw[e] at b
  cases b
  exact f
theorem JB.box {W w:World} {F:Nat->Option Bs} {c:Nat->Value->Prop} (h:JB W F c w) {b:Nat} {o:Obj} (a:W.heap[b]?=some o):w.heap[b]?=some o:=(h.1.block b ((Array.getElem?_eq_some_iff.1 a).1)).trans a
set_option maxHeartbeats 4000000 in
theorem oZ (B:Nat) (v:Value) (d:bA) (w:World) (hd:ei B w v d) (Q:B<=w.heap.size) (E:d.1.length<=60000/\d.2.length<=60000):
  Calls Tryz.prog 66 #[v] w λe f=>∃ v',e=.returned v'/\bL w.heap.size f v' d/\Below w.heap.size w f:=by
 obtain⟨sv,tv,rfl,R,S⟩:=hd
 obtain⟨s,t⟩:=d
 simp only[] at R S E
 obtain⟨a,c,e1,-,-,-⟩:=id R
 obtain⟨b,q,T,-,-,-⟩:=id S
 subst e1 T
 obtain⟨W,x⟩:∃ W,W=(w.alloc (.cells #[.slice a s.length c,.slice b t.length q] 25)).alloc (.cells #[.slice none 0 0,.slice none 0 0] 25):=⟨_,rfl⟩
 have j:Below w.heap.size w W:=by rw[x];exact ((Below.refl _ _).alloc (Nat.le_refl _) _).alloc (by simp) _
 have G:W.heap[w.heap.size]?=some (.cells #[.slice a s.length c,.slice b t.length q] 25 (0,0)):=by
  rw[x]
  exact cj _ (bT _ _ rfl)
 have g1:W.heap[w.heap.size+1]?=some (.cells #[.slice none 0 0,.slice none 0 0] 25 (0,0)):=by
  rw[x]
  exact bT _ _ (by simp only[World.size_alloc])
 have A:W.heap.size=w.heap.size+1+1:=by rw[x];simp
 have H:Hid (∀ f,Below W.heap.size W f->Calls Tryz.prog 100 #[.slice a s.length c,.slice none 0 0] f λe i=>∃ v,e=.returned v/\aY f.heap.size i v s/\Below f.heap.size f i):=λf C=>by
  have o:=Below.thenOf j C j.size
  have:=iT B _ _ s [] f (R.later o Q) (lJ B f) (Nat.le_trans Q o.size) (by simp;omega)
  rw[List.append_nil] at this
  exact this.mono λe i ⟨v,X,_,Y,Z⟩=>⟨v,X,Y,Z⟩
 have I:Hid (∀ f,Below W.heap.size W f->Calls Tryz.prog 100 #[.slice b t.length q,.slice none 0 0] f λe i=>∃ v,e=.returned v/\aY f.heap.size i v t/\Below f.heap.size f i):=λf C=>by
  have o:=Below.thenOf j C j.size
  have:=iT B _ _ t [] f (S.later o Q) (lJ B f) (Nat.le_trans Q o.size) (by simp;omega)
  rw[List.append_nil] at this
  exact this.mono λe i ⟨v,X,_,Y,Z⟩=>⟨v,X,Y,Z⟩
 obtain⟨n,hn⟩:∃ n,n=s.length:=⟨_,rfl⟩
 obtain⟨m,hm⟩:∃ m,m=t.length:=⟨_,rfl⟩
 rw[<-hn] at x G H |-
 rw[<-hm] at x G I |-
 obtain⟨y0,y1,-,-⟩:=aO G
 have HW:=hid x
 have J:=hid j
 have K:=hid G
 have a0:=hid g1
 have a1:=hid A
 have q0:∀ z:y8 w.heap.size (.slice a n c) (.slice b m q),z.1.cell? ⟨w.heap.size,0,none⟩=some (.slice a n c):=λz=>z.2.1
 have q1:∀ z:y8 w.heap.size (.slice a n c) (.slice b m q),z.1.cell? ⟨w.heap.size,1,none⟩=some (.slice b m q):=λz=>z.2.2
 have a3:Nonempty (y8 w.heap.size (.slice a n c) (.slice b m q)):=⟨⟨W,y0,y1⟩⟩
 obtain⟨F,hF⟩:∃ F:Nat->Option Bs,F=λk=>if k=2 then some s else if k=5 then some t else none:=⟨_,rfl⟩
 have U:Hid (F 2=some s):=by unfold Hid;rw[hF];rfl
 have V:Hid (F 5=some t):=by unfold Hid;rw[hF];rfl
 have r:Hid (∀ fs f,JB W F fs f->∃ z:y8 w.heap.size (.slice a n c) (.slice b m q),f=z.1):=λfs f h=>⟨⟨f,ab (h.box K.out) 0 rfl,ab (h.box K.out) 1 rfl⟩,rfl⟩
 clear hn hm hF x j G g1 A R S E y0 y1
 go_enter Tryz.func66,Tryz.ntmps66
 go_wp2_with fail
 rw[<-HW.out]
 refine bh [_,_,_,_,_,_,_] _ rfl (λk=>k==2||k==5) (JB W F) (SB F) (Dj F) (by kernel_rfl) (by kernel_rfl) (JB.start W F) ?_
 iterate 2 (refine aH r.out rfl rfl ?_;go_big_quiet_step (fail);refine wpQuiet_nil ?_)
 refine bu 100 #[.slice a n c,.slice none 0 0] rfl rfl (λf=>by kernel_rfl) (λgs f l L a6=>?_) (λv2 a7=>?_)
 ·refine (H.out f l.1).mono ?_
  rintro e w3 ⟨u,rfl,g,C⟩
  have:=l.put C U.out (g.mono l.1.size)
  obtain⟨a',c',eu⟩:=g.shape
  exact⟨_,rfl,⟨a',c',by rw[U.out];exact eu⟩,this⟩
 simp only[Act.put,List.setIfInBounds_toArray,List.set_cons_succ,List.set_cons_zero]
 obtain⟨M,N,T⟩:=a7
 rw[U.out] at T
 subst T
 iterate 2 (refine aH r.out rfl rfl ?_;go_big_quiet_step (fail);refine wpQuiet_nil ?_)
 refine bu 100 #[.slice b m q,.slice none 0 0] rfl rfl (λf=>by kernel_rfl) (λgs f l L a6=>?_) (λv5 ac=>?_)
 ·refine (I.out f l.1).mono ?_
  rintro e w3 ⟨u,rfl,g,C⟩
  have:=l.put C V.out (g.mono l.1.size)
  obtain⟨a',c',eu⟩:=g.shape
  exact⟨_,rfl,⟨a',c',by rw[V.out];exact eu⟩,this⟩
 simp only[Act.put,List.setIfInBounds_toArray,List.set_cons_succ,List.set_cons_zero]
 obtain⟨O,P,e5⟩:=ac
 rw[V.out] at e5
 subst e5
 refine aH r.out rfl rfl ?_;go_big_quiet_step (fail);refine wpQuiet_nil ?_
 refine dF ?_
 intro w4 l
 have D:=l.box a0.out
 obtain⟨z0,z1,f0,f1⟩:=aO D
 have H2:=l.2 2 _ s (.inl (.inr ⟨rfl,rfl⟩)) U.out
 have H5:=l.2 5 _ t (.inr ⟨rfl,rfl⟩) V.out
 obtain⟨k0,k1,k2⟩:=gJ (u:=.slice M ((some s).getD []).length N) (v:=.slice O ((some t).getD []).length P) D
 have y:Hid (bL w.heap.size ((w4.setCell ⟨w.heap.size+1,0,none⟩ (.slice M ((some s).getD []).length N)).setCell ⟨w.heap.size+1,1,none⟩ (.slice O ((some t).getD []).length P)) (.agg #[.slice M ((some s).getD []).length N,.slice O ((some t).getD []).length P]) (s,t)/\Below w.heap.size w ((w4.setCell ⟨w.heap.size+1,0,none⟩ (.slice M ((some s).getD []).length N)).setCell ⟨w.heap.size+1,1,none⟩ (.slice O ((some t).getD []).length P))):=by
  have A:=a1.out
  refine⟨iY ((H2.keep k1 (by omega) k2).mono (by omega)) ((H5.keep k1 (by omega) k2).mono (by omega)),?_⟩
  exact ((Below.thenOf J.out l.1 J.out.size).setCell (p:=⟨w.heap.size+1,0,none⟩) (by show w.heap.size<=w.heap.size+1;omega) _).setCell (p:=⟨w.heap.size+1,1,none⟩) (by show w.heap.size<=w.heap.size+1;omega) _
 clear l D H2 H5 k0 k1 k2 q0 q1 a3 r
 go_wp2_with fail
 refine bodyPost_ret (v:=.agg #[.slice M ((some s).getD []).length N,.slice O ((some t).getD []).length P]) ?_ rfl ⟨_,rfl,y.out.1,y.out.2⟩
 rw[bJ rfl]
 go_simp
end Go.Proofs.YtnpdhopjpjickaaGreatDoor
end
section
set_option linter.all false
set_option maxRecDepth 100000
namespace Go.Proofs.YtnpdhopjpjickaaGreatDoor
open Go.RowKit Go.Maps
theorem bL.mono {L a:Nat} {w:World} {v:Value} {d:bA} (h:bL a w v d) (b:L<=a):bL L w v d:=λc e f=>h c (λg i j=>e g (Nat.le_trans b i) j) f
theorem bL.later {L:Nat} {w w':World} {v:Value} {d:bA} (h:bL L w v d) (a:Below w.heap.size w w'):bL L w' v d:=λc e f=>h c (λg i b=>(e g i (Nat.lt_of_lt_of_le b a.size)).trans (a.block g b)) (Nat.le_trans a.size f)
theorem bL.keep {L k:Nat} {w w':World} {v:Value} {d:bA} (h:bL L w v d) (a:fS k w w') (i:k<L) (j:w'.heap.size=w.heap.size):bL L w' v d:=λb c l=>h b (λg e f=>(c g e (by omega)).trans (a g (by omega))) (by omega)
theorem cz {L:Nat} {w a:World} {p:Nat} (h:Below L w a) (b:L<=p) (c d:Value):Below L w ((a.setCell ⟨p,0,none⟩ c).setCell ⟨p,1,none⟩ d):=(h.setCell (p:=⟨p,0,none⟩) b _).setCell (p:=⟨p,1,none⟩) b _
def JG (W:World) (G:Nat->World->Value->Prop) (fs:Nat->Value->Prop) (w:World):Prop:=Below W.heap.size W w/\∀ k u,fs k u->G k w u
def JD (bo st:Nat) (ws:List Nat) (W:World) (G:Nat->World->Value->Prop) (R:Value->Value->World->Prop) (fs:Nat->Value->Prop) (w:World):Prop:=
 ((∀ u,¬fs st u)/\JG W G fs w)\/((∃ u,fs st u)/\(∀ k,k∈ws->∃ u,fs k u)/\∃ a p q,w=(a.setCell ⟨bo,0,none⟩ p).setCell ⟨bo,1,none⟩ q/\Below W.heap.size W a/\R p q a)
section
variable {bo st:Nat} {ws:List Nat} {W w w':World} {G:Nat->World->Value->Prop} {R:Value->Value->World->Prop} {fs:Nat->Value->Prop}
theorem JD.start (bo st:Nat) (ws:List Nat) (W:World) (G:Nat->World->Value->Prop) (R:Value->Value->World->Prop):JD bo st ws W G R (λ_ _=>False) W.drew:=.inl ⟨λ_ h=>h,(Below.refl _ _).drew,λ_ _ h=>h.elim⟩
theorem JD.ahead (h:JD bo st ws W G R fs w) {k:Nat} (b:k=st\/k∈ws) (a:∀ v,¬fs k v):(∀ u,¬fs st u)/\JG W G fs w:=by
 rcases h with h | ⟨⟨u,d⟩,e,_⟩
 ·exact h
 ·rcases b with rfl | b
  ·exact absurd d (a _)
  ·obtain⟨f,c⟩:=e k b
   exact absurd c (a _)
theorem JD.put (h:JD bo st ws W G R fs w) (g:∀ k u w w',Below w.heap.size w w'->G k w u->G k w' u) {k:Nat} (i:k∈ws) (b:st≠k) (c:∀ v,¬fs k v) {v:Value} (d:Below w.heap.size w w') (j:G k w' v):JD bo st ws W G R (bW fs k v) w':=by
 obtain⟨l,f,n⟩:=h.ahead (.inr i) c
 refine .inl ⟨λu a=>?_,Below.thenOf f d f.size,λm u a=>?_⟩
 ·rcases a with a | ⟨e,_⟩
  ·exact l u a
  ·exact b e
 ·rcases a with a | ⟨rfl,rfl⟩
  ·exact g m u w w' d (n m u a)
  ·exact j
theorem JD.store (h:JD bo st ws W G R fs w) (b:∀ v,¬fs st v) (a:∀ k,k∈ws->∃ u,fs k u) {p q:Value} (c:R p q w):JD bo st ws W G R (bW fs st undef) ((w.setCell ⟨bo,0,none⟩ p).setCell ⟨bo,1,none⟩ q):=by
 obtain⟨g,d,i⟩:=h.ahead (.inl rfl) b
 refine .inr ⟨⟨undef,.inr ⟨rfl,rfl⟩⟩,λk e=>?_,w,p,q,rfl,d,c⟩
 obtain⟨u,f⟩:=a k e
 exact⟨u,.inl f⟩
theorem JD.box (h:JD bo st ws W G R fs w) {b:Nat} {o:Obj} (c:W.heap[b]?=some o) (a:b≠bo):w.heap[b]?=some o:=by
 have e:=(Array.getElem?_eq_some_iff.1 c).1
 rcases h with ⟨_,d,_⟩ | ⟨_,_,f,p,q,rfl,d,_⟩
 ·exact (d.block b e).trans c
 ·exact ((Below.heap_setCell _ _ _ _ a).trans (Below.heap_setCell _ _ _ _ a)).trans ((d.block b e).trans c)
theorem JD.done (h:JD bo st ws W G R fs w) {u:Value} (b:fs st u):∃ a p q,w=(a.setCell ⟨bo,0,none⟩ p).setCell ⟨bo,1,none⟩ q/\Below W.heap.size W a/\R p q a:=by
 rcases h with ⟨c,_⟩ | ⟨_,_,h⟩
 ·exact absurd b (c _)
 ·exact h
end
end Go.Proofs.YtnpdhopjpjickaaGreatDoor
end
section
set_option linter.all false
set_option maxRecDepth 100000
namespace Go.Proofs.YtnpdhopjpjickaaGreatDoor
open Go.RowKit Go.Maps
set_option maxHeartbeats 4000000 in
theorem zE (B:Nat) (v:Value) (d:bA) (n:Int) (w:World) (he:dX w) (hn:wf n) (hd:ei B w v d) (hB:B<=w.heap.size) (J:lm d):
  Calls Tryz.prog 80 #[v,.int .i64 n] w λe f=>∃ v',e=.returned (.tuple #[v',.int .i64 (ft d n)])/\bL w.heap.size f v' (iF d n)/\Below w.heap.size w f:=by
 obtain⟨sv,tv,rfl,hs,ht⟩:=id hd
 obtain⟨s,t⟩:=d
 simp only[] at hs ht
 obtain⟨a,c,e1,-,-,-⟩:=id hs
 obtain⟨b,I,e2,U,V,-⟩:=id ht
 subst e1 e2
 obtain⟨W,hW⟩:∃ W,W=(w.alloc (.cells #[.slice a s.length c,.slice b t.length I] 25)).alloc (.cells #[.slice none 0 0,.slice none 0 0] 25):=⟨_,rfl⟩
 have l:Below w.heap.size w W:=by rw[hW];exact ((Below.refl _ _).alloc (Nat.le_refl _) _).alloc (by simp) _
 have g0:W.heap[w.heap.size]?=some (.cells #[.slice a s.length c,.slice b t.length I] 25 (0,0)):=by
  rw[hW]
  exact cj _ (bT _ _ rfl)
 have g1:W.heap[w.heap.size+1]?=some (.cells #[.slice none 0 0,.slice none 0 0] 25 (0,0)):=by
  rw[hW]
  exact bT _ _ (by simp only[World.size_alloc])
 have bs:W.heap.size=w.heap.size+1+1:=by rw[hW];simp
 have K:Hid _:=hQ B _ (s,t) W (he.later l) (hd.later l hB) (by omega) J
 obtain⟨y0,y1,-,-⟩:=aO g0
 have HW:=hid hW
 have d0:=hid l
 generalize b1:az (s,t)=DE at*
 have o:=hid b1
 obtain⟨N,X⟩:∃ n,n=s.length:=⟨_,rfl⟩
 obtain⟨m,L⟩:∃ m,m=t.length:=⟨_,rfl⟩
 rw[<-X] at HW K y0 g0 |-
 rw[<-L] at HW K y1 g0 |-
 have HN:=hid X
 have HM:=hid L
 clear hW b1 X L
 go_enter Tryz.func80,Tryz.ntmps80
 go_wp2_with fail
 rw[<-HW.out]
 go_at_call 34
 refine Calls.mono K.out ?_
 rintro e C ⟨rfl,M⟩
 have G0:=(M.block _ (lt_of_block g0)).trans g0
 have G1:=(M.block _ (lt_of_block g1)).trans g1
 have g:Below w.heap.size w C:=Below.thenOf l M l.size
 have Y:w.heap.size+1<C.heap.size:=lt_of_block G1
 obtain⟨z0,z1,f0,f1⟩:=aO G1
 obtain⟨x0,x1,-,-⟩:=aO G0
 clear y0 y1 K g0 g1 bs M HW
 by_cases hE:DE=0
 ·subst hE
  have L:=HM.out
  have X:=HN.out
  by_cases hr:n<0\/(m:Int)<n
  ·have E:Hid (ft (s,t) n=3/\iF (s,t) n=([],[])):=by
    have e:ft (s,t) n=3:=by unfold ft;rw[if_pos o.out,if_pos (by rw[<-L];exact hr)]
    exact⟨e,by unfold iF;rw[e,if_neg (by decide)]⟩
   have r:=hid g
   have HF:Hid (∀ x y,Below w.heap.size w ((C.setCell ⟨w.heap.size+1,0,none⟩ x).setCell ⟨w.heap.size+1,1,none⟩ y)):=λx y=>cz g (by omega) x y
   clear G0 G1 g hs ht hd o hB J U V l X L
   by_cases h0:n<0
   ·clear hr
    go_wp2_with fail
    refine bodyPost_ret (v:=.tuple #[.agg #[.slice none 0 0,.slice none 0 0],.int .i64 3]) ?_ rfl ⟨_,by rw[E.out.1],by rw[E.out.2];exact dz _ _,HF.out _ _⟩
    rw[results_cell_tmp rfl]
    go_simp
   ·have h1:(m:Int)<n:=hr.resolve_left h0
    clear hr
    go_wp2_with fail
    refine bodyPost_ret (v:=.tuple #[.agg #[.slice none 0 0,.slice none 0 0],.int .i64 3]) ?_ rfl ⟨_,by rw[E.out.1],by rw[E.out.2];exact dz _ _,HF.out _ _⟩
    rw[results_cell_tmp rfl]
    go_simp
  ·obtain⟨k,hk⟩:∃ k:Nat,(k:Int)=n:=⟨n.toNat,by omega⟩
   have b6:k<=t.length:=by omega
   have E:Hid (ft (s,t) n=0/\iF (s,t) n=(s,t.take k)):=by
    have e:ft (s,t) n=0:=by unfold ft;rw[if_pos o.out,if_neg (by rw[<-L];exact hr)]
    exact⟨e,by unfold iF;rw[e,if_pos rfl];simp only[];rw[<-hk];rfl⟩
   subst hk
   obtain⟨Z,b7,-,-⟩:=dK o.out
   simp only[] at Z b7
   obtain⟨a',c0,b8⟩:=qZ ht k b6
   have b9:Hid (∀ f,Below w.heap.size w f->Calls Tryz.prog 66 #[.agg #[.slice a N c,.slice a' k I]] f λe ba=>∃ v',e=.returned v'/\bL f.heap.size ba v' (s,t.take k)/\Below f.heap.size f ba):=λf hb=>by
    refine oZ B _ (s,t.take k) f ⟨_,_,rfl,?_,b8.later hb hB⟩ (Nat.le_trans hB hb.size) ⟨Z,by simp only[List.length_take];omega⟩
    rw[X]
    exact hs.later hb hB
   have h0:¬((k:Int)<0):=by omega
   have h1:¬((m:Int)<(k:Int)):=by omega
   have h2:(k:Int)<=(I:Int):=by omega
   have r:=hid g
   have bb:=hid G0
   have bc:=hid G1
   rw[<-L] at c0
   clear G0 G1 g hs ht hd o J U V l X L b8 b6 Z b7 hr
   have bd:=hid bb.out
   obtain⟨D,hD⟩:∃ D:bA,D=(s,t.take k):=⟨_,rfl⟩
   rw[<-hD] at b9 E
   clear hD
   obtain⟨G,hG⟩:∃ G:Nat->World->Value->Prop,G=λj f u=>j=7->bL C.heap.size f u D:=⟨_,rfl⟩
   have c1:Hid (∀ j u w f,Below w.heap.size w f->G j w u->G j f u):=λj u w f hb h=>by rw[hG] at h |-;exact λe=>(h e).later hb
   have bf:Hid (∀ f u,G 7 f u ↔ bL C.heap.size f u D):=λf u=>by rw[hG];simp
   obtain⟨R,hR⟩:∃ R:Value->Value->World->Prop,R=λp q f=>bL C.heap.size f (.agg #[p,q]) D:=⟨_,rfl⟩
   have HR:Hid (∀ p q f,R p q f ↔ bL C.heap.size f (.agg #[p,q]) D):=λp q f=>by rw[hR]
   obtain⟨S,hS⟩:∃ S:Nat->Value->Prop,S=λj v=>j=7->∃ a n c b m k,v=.agg #[.slice a n c,.slice b m k]:=⟨_,rfl⟩
   have bg:Hid (∀ v,S 7 v ↔ ∃ a n c b m k,v=.agg #[.slice a n c,.slice b m k]):=λv=>by rw[hS];simp
   have c3:Hid (S 8 undef):=by unfold Hid;rw[hS];exact λe=>by cases e
   have c4:Hid (∀ j,∃ v,S j v):=λj=>⟨.agg #[.slice none 0 0,.slice none 0 0],by rw[hS];exact λ_=>⟨_,_,_,_,_,_,rfl⟩⟩
   clear hG hR hS
   have q0:∀ z:y8 w.heap.size (.slice a N c) (.slice b m I),z.1.cell? ⟨w.heap.size,0,none⟩=some (.slice a N c):=λz=>z.2.1
   have q1:∀ z:y8 w.heap.size (.slice a N c) (.slice b m I),z.1.cell? ⟨w.heap.size,1,none⟩=some (.slice b m I):=λz=>z.2.2
   have bk:Nonempty (y8 w.heap.size (.slice a N c) (.slice b m I)):=⟨⟨C,x0,x1⟩⟩
   have a1:Hid (∀ fs f,JD (w.heap.size+1) 8 [7] C G R fs f->∃ z:y8 w.heap.size (.slice a N c) (.slice b m I),f=z.1):=λfs f h=>⟨⟨f,ab (h.box bd.out (by omega)) 0 rfl,ab (h.box bd.out (by omega)) 1 rfl⟩,rfl⟩
   go_wp2_with fail
   refine bh [_,_,_,_,_,_,_,_,_] _ rfl (λk=>k==7||k==8) (JD (w.heap.size+1) 8 [7] C G R) S c4.out (by kernel_rfl) (by kernel_rfl) (JD.start _ _ _ _ _ _) ?_
   iterate 7 (refine aH a1.out rfl rfl ?_;go_big_quiet_step (fail);refine wpQuiet_nil ?_)
   refine bu 66 #[.agg #[.slice a N c,.slice a' k I]] rfl rfl (λf=>by kernel_rfl) (λgs f O F A=>?_) (λv7 c5=>?_)
   ·obtain⟨-,i,-⟩:=O.ahead (.inr (by simp)) A
    refine (b9.out f (Below.thenOf r.out i r.out.size)).mono ?_
    rintro e w3 ⟨u,rfl,P,hb⟩
    obtain⟨ea,en,ec,eb,em,ek,Q⟩:∃ a n c b m k,u=.agg #[.slice a n c,.slice b m k]:=by
     obtain⟨ea,ec,eb,ek,Q⟩:=P.at.shapeS
     exact⟨_,_,_,_,_,_,Q⟩
    exact⟨_,rfl,(bg.out _).2 ⟨_,_,_,_,_,_,Q⟩,O.put c1.out (by simp) (by decide) A hb ((bf.out _ _).2 (P.mono i.size))⟩
   simp only[Act.put,List.setIfInBounds_toArray,List.set_cons_succ,List.set_cons_zero]
   obtain⟨ea,en,ec,eb,em,ek,Q⟩:=(bg.out _).1 c5
   subst Q
   refine eB rfl rfl (λgs f O F A=>?_) (λv8 dc=>?_)
   ·have h7:=F 7 _ (.inr ⟨rfl,rfl⟩) (zQ0 (by kernel_rfl))
    obtain⟨-,i,hG⟩:=O.ahead (.inl rfl) A
    have H:=(i.block _ Y).trans bc.out
    obtain⟨dd,de,di,dk⟩:=aO H
    refine⟨(f.setCell ⟨w.heap.size+1,0,none⟩ (.slice ea en ec)).setCell ⟨w.heap.size+1,1,none⟩ (.slice eb em ek),?_,c3.out,O.store A (λk hk=>by simp at hk;subst hk;exact⟨_,h7⟩) ((HR.out _ _ _).2 ((bf.out _ _).1 (hG 7 _ h7)))⟩
    clear O F A q0 q1 a1 bk h7 i hG H
    go_simp
   simp only[Act.put,List.setIfInBounds_toArray,List.set_cons_succ,List.set_cons_zero]
   refine dF ?_
   intro w4 O
   obtain⟨w0,p,q,e4,i,bm⟩:=O.done (.inr ⟨rfl,rfl⟩)
   have a2:=(HR.out _ _ _).1 bm
   have H:=(i.block _ Y).trans bc.out
   obtain⟨k0,k1,k2⟩:=gJ (u:=p) (v:=q) H
   rw[<-e4] at k0 k1 k2
   obtain⟨ea,ec,eb,ek,Q⟩:=a2.at.shapeS
   simp at Q
   obtain⟨rfl,rfl⟩:=Q
   obtain⟨y0,y1,-,-⟩:=aO k0
   have T:Hid (bL w.heap.size w4 (.agg #[.slice ea D.1.length ec,.slice eb D.2.length ek]) D/\Below w.heap.size w w4):=by
    refine⟨(a2.keep k1 Y k2).mono r.out.size,?_⟩
    rw[e4]
    exact cz (Below.thenOf r.out i r.out.size) (by omega) _ _
   generalize D.1.length=n1 at*
   generalize D.2.length=n2 at*
   clear O e4 i bm a2 H k0 k1 k2 q0 q1 a1 bk
   go_wp2_with fail
   refine bodyPost_ret (v:=.tuple #[.agg #[.slice ea n1 ec,.slice eb n2 ek],.int .i64 0]) ?_ rfl ⟨_,by rw[E.out.1],by rw[E.out.2];exact T.out.1,T.out.2⟩
   rw[results_cell_tmp rfl]
   go_simp
 ·have hq:(DE != 0)=true:=by simpa using hE
  have E:Hid (ft (s,t) n=DE/\iF (s,t) n=([],[])):=by
   have e:ft (s,t) n=DE:=by unfold ft;rw[if_neg (by rw[o.out];exact hE),o.out]
   exact⟨e,by unfold iF;rw[e,if_neg hE]⟩
  have HF:Hid (∀ x y,Below w.heap.size w ((C.setCell ⟨w.heap.size+1,0,none⟩ x).setCell ⟨w.heap.size+1,1,none⟩ y)):=λx y=>cz g (by omega) x y
  clear G0 G1 g hs ht hd o hB J U V l hE
  go_wp2_with fail
  refine bodyPost_ret (v:=.tuple #[.agg #[.slice none 0 0,.slice none 0 0],.int .i64 DE]) ?_ rfl ⟨_,by rw[E.out.1],by rw[E.out.2];exact dz _ _,HF.out _ _⟩
  rw[results_cell_tmp rfl]
  go_simp
end Go.Proofs.YtnpdhopjpjickaaGreatDoor
end
section
set_option linter.all false
set_option maxRecDepth 100000
namespace Go.Proofs.YtnpdhopjpjickaaGreatDoor
open Go.RowKit Go.Maps
set_option maxHeartbeats 4000000 in
theorem AT (B:Nat) (v:Value) (d:bA) (w:World) (he:dX w) (hd:ei B w v d) (Y:B<=w.heap.size) (L:lm d):
  Calls Tryz.prog 81 #[v] w λe i=>∃ v',e=.returned (.tuple #[v',.int .i64 (eX d)])/\bL w.heap.size i v' (gN d)/\Below w.heap.size w i:=by
 obtain⟨sv,tv,rfl,Z,ht⟩:=id hd
 obtain⟨s,t⟩:=d
 simp only[] at Z ht
 obtain⟨a,c,e1,-,-,-⟩:=id Z
 obtain⟨b,c2,e2,a1,a2,-⟩:=id ht
 subst e1 e2
 obtain⟨W,S⟩:∃ W,W=(w.alloc (.cells #[.slice a s.length c,.slice b t.length c2] 25)).alloc (.cells #[.slice none 0 0,.slice none 0 0] 25):=⟨_,rfl⟩
 have g:Below w.heap.size w W:=by rw[S];exact ((Below.refl _ _).alloc (Nat.le_refl _) _).alloc (by simp) _
 have T:W.heap[w.heap.size]?=some (.cells #[.slice a s.length c,.slice b t.length c2] 25 (0,0)):=by
  rw[S]
  exact cj _ (bT _ _ rfl)
 have g1:W.heap[w.heap.size+1]?=some (.cells #[.slice none 0 0,.slice none 0 0] 25 (0,0)):=by
  rw[S]
  exact bT _ _ (by simp only[World.size_alloc])
 have ba:W.heap.size=w.heap.size+1+1:=by rw[S];simp
 have f:Hid _:=hQ B _ (s,t) W (he.later g) (hd.later g Y) (by omega) L
 obtain⟨y0,y1,-,-⟩:=aO T
 have HW:=hid S
 have c6:=hid g
 generalize a3:az (s,t)=DE at*
 have o:=hid a3
 obtain⟨N,U⟩:∃ n,n=s.length:=⟨_,rfl⟩
 obtain⟨m,V⟩:∃ m,m=t.length:=⟨_,rfl⟩
 rw[<-U] at HW f y0 T |-
 rw[<-V] at HW f y1 T |-
 have HN:=hid U
 have HM:=hid V
 clear S a3 U V
 go_enter Tryz.func81,Tryz.ntmps81
 go_wp2_with fail
 rw[<-HW.out]
 go_at_call 34
 refine Calls.mono f.out ?_
 rintro e H ⟨rfl,C⟩
 have G0:=(C.block _ (lt_of_block T)).trans T
 have G1:=(C.block _ (lt_of_block g1)).trans g1
 have j:Below w.heap.size w H:=Below.thenOf g C g.size
 have a6:w.heap.size+1<H.heap.size:=lt_of_block G1
 obtain⟨z0,z1,f0,f1⟩:=aO G1
 obtain⟨x0,x1,-,-⟩:=aO G0
 clear y0 y1 f T g1 ba C HW
 by_cases hE:DE=0
 ·subst hE
  have V:=HM.out
  have U:=HN.out
  obtain⟨-,-,a8,-⟩:=dK o.out
  simp only[] at a8
  have p:=hid j
  have cb:=hid G0
  have bb:=hid G1
  have a9:Hid (∀ i,Below w.heap.size w i->Calls Tryz.prog 100 #[.slice a N c,.slice b m c2] i λe M=>∃ v,e=.returned v/\aY i.heap.size M v (s++t)/\Below i.heap.size i M):=λi hb=>by
   rw[U,V]
   exact (iT B _ _ s t i (Z.later hb Y) (ht.later hb Y) (Nat.le_trans Y hb.size) (by omega)).mono λe M ⟨v,h1,_,h3,h4⟩=>⟨v,h1,h3,h4⟩
  have HE:Hid (∀ i,Below w.heap.size w i->dX i):=λi hb=>he.later hb
  have h:Hid (eX (s,t)=az (s++t,[])/\gN (s,t)=if az (s++t,[])=0 then (s++t,[]) else ([],[])):=by
   have e:eX (s,t)=az (s++t,[]):=by unfold eX Cf;rw[if_pos o.out]
   exact⟨e,by unfold gN;rw[e]⟩
  have ac:Hid (lm (s++t,[])):=by unfold Hid lm;simp;omega
  clear G0 G1 j Z ht hd o L a1 a2 g U V a8
  go_wp2_with fail
  go_at_call 100
  refine Calls.mono (a9.out H p.out) ?_
  rintro e w2 ⟨jv,rfl,k,D⟩
  obtain⟨O,P,ej⟩:=k.shape
  subst ej
  obtain⟨X,hX⟩:∃ X,X=s++t:=⟨_,rfl⟩
  rw[<-hX] at k h ac |-
  obtain⟨E,F⟩:∃ E,E=w2.alloc (.cells #[.slice O X.length P,.slice none 0 0] 25):=⟨_,rfl⟩
  have Q:Below w2.heap.size w2 E:=by rw[F];exact (Below.refl _ _).alloc (Nat.le_refl _) _
  have g3:E.heap[w2.heap.size]?=some (.cells #[.slice O X.length P,.slice none 0 0] 25 (0,0)):=by rw[F];exact af _ _
  have q:Below H.heap.size H E:=Below.thenOf D Q D.size
  have I:Below w.heap.size w E:=Below.thenOf p.out q p.out.size
  have r:=k.later Q
  have f:Hid _:=hQ E.heap.size (.agg #[.slice O X.length P,.slice none 0 0]) (X,[]) E (HE.out E I) ⟨_,_,rfl,r.at,lJ _ _⟩ (Nat.le_refl _) ac.out
  have R:=hid r
  have bc:=hid F
  have J:=hid q
  have G:=hid g3
  have bx:=D.size
  generalize ak:X.length=xl at*
  have cl:=hid ak
  clear ak hX k D F Q g3 q I r a9 x0 x1
  generalize az (X,[])=de at*
  go_wp2_with fail
  rw[<-bc.out]
  go_at_call 34
  refine Calls.mono f.out ?_
  rintro e w4 ⟨rfl,z⟩
  have l:Below H.heap.size H w4:=Below.thenOf J.out z J.out.size
  have A:Below w.heap.size w w4:=Below.thenOf p.out l p.out.size
  have G4:=(l.block _ a6).trans bb.out
  have G5:=(z.block _ (lt_of_block G.out)).trans G.out
  obtain⟨u0,u1,cn,co⟩:=aO G4
  obtain⟨v0,v1,-,-⟩:=aO G5
  have HF:Hid (∀ x y,Below w.heap.size w ((w4.setCell ⟨w.heap.size+1,0,none⟩ x).setCell ⟨w.heap.size+1,1,none⟩ y)):=λx y=>cz A (by omega) x y
  by_cases h0:de=0
  ·subst h0
   obtain⟨k0,k1,k2⟩:=gJ (u:=.slice O xl P) (v:=.slice none 0 0) G4
   have ao:Hid (bL w.heap.size ((w4.setCell ⟨w.heap.size+1,0,none⟩ (.slice O xl P)).setCell ⟨w.heap.size+1,1,none⟩ (.slice none 0 0)) (.agg #[.slice O xl P,.slice none 0 0]) (X,[])):=iY (((R.out.later z).keep k1 a6 k2).mono p.out.size) (uK _ _)
   have K:Hid (eX (s,t)=0/\gN (s,t)=(X,[])):=⟨h.out.1,by rw[h.out.2,if_pos rfl]⟩
   have c3:w2.heap.size≠w.heap.size+1:=by omega
   clear G4 G5 l A z k0 k1 k2 f R G h z0 z1 f0 f1
   go_wp2_with fail
   refine bodyPost_ret (v:=.tuple #[.agg #[.slice O xl P,.slice none 0 0],.int .i64 0]) ?_ rfl ⟨_,by rw[K.out.1],by rw[K.out.2];exact ao.out,HF.out _ _⟩
   rw[results_cell_tmp rfl]
   go_simp
  ·have hq:(de != 0)=true:=by simpa using h0
   have K:Hid (eX (s,t)=de/\gN (s,t)=([],[])):=⟨h.out.1,by rw[h.out.2,if_neg h0]⟩
   clear G4 G5 l A z f R G h z0 z1 f0 f1 h0 v0 v1
   go_wp2_with fail
   refine bodyPost_ret (v:=.tuple #[.agg #[.slice none 0 0,.slice none 0 0],.int .i64 de]) ?_ rfl ⟨_,by rw[K.out.1],by rw[K.out.2];exact dz _ _,HF.out _ _⟩
   rw[results_cell_tmp rfl]
   go_simp
 ·have hq:(DE != 0)=true:=by simpa using hE
  have K:Hid (eX (s,t)=DE/\gN (s,t)=([],[])):=by
   have e:eX (s,t)=DE:=by unfold eX;rw[if_neg (by rw[o.out];exact hE),o.out]
   exact⟨e,by unfold gN;rw[e,if_neg hE]⟩
  have HF:Hid (∀ x y,Below w.heap.size w ((H.setCell ⟨w.heap.size+1,0,none⟩ x).setCell ⟨w.heap.size+1,1,none⟩ y)):=λx y=>cz j (by omega) x y
  clear G0 G1 j Z ht hd o Y L a1 a2 g hE
  go_wp2_with fail
  refine bodyPost_ret (v:=.tuple #[.agg #[.slice none 0 0,.slice none 0 0],.int .i64 DE]) ?_ rfl ⟨_,by rw[K.out.1],by rw[K.out.2];exact dz _ _,HF.out _ _⟩
  rw[results_cell_tmp rfl]
  go_simp
end Go.Proofs.YtnpdhopjpjickaaGreatDoor
end
section
set_option linter.all false
set_option maxRecDepth 100000
namespace Go.Proofs.YtnpdhopjpjickaaGreatDoor
open Go.RowKit Go.Maps
set_option maxHeartbeats 4000000 in
theorem CT (B:Nat) (v rv:Value) (d:bA) (r:al) (w:World) (he:dX w) (hd:ei B w v d) (hr:cV B w rv r) (hB:B<=w.heap.size) (b7:lm d):
  Calls Tryz.prog 111 #[v,rv] w λe f=>∃ v',e=.returned (.tuple #[v',.int .i64 (eH d r)])/\bL w.heap.size f v' (f6 d r)/\Below w.heap.size w f:=by
 obtain⟨sv,tv,rfl,hs,ht⟩:=id hd
 obtain⟨s,t⟩:=d
 simp only[] at hs ht
 obtain⟨a,c,e1,-,-,-⟩:=id hs
 obtain⟨b,V,e2,cd,ce,-⟩:=id ht
 subst e1 e2
 obtain⟨r1,r2,r3,rr,r4⟩:=r
 obtain⟨ra,rc,er,-⟩:=hr.shape
 subst er
 simp only[] at*
 have bb:Hid (∀ f,Below w.heap.size w f->cV B f (.agg #[.int .i64 r1,.int .i64 r2,.int .i64 r3,.slice ra rr.length rc,.int .i64 r4]) (r1,r2,r3,rr,r4)):=λf hb=>hr.later hb hB
 obtain⟨r,ci⟩:∃ r:al,r=(r1,r2,r3,rr,r4):=⟨_,rfl⟩
 rw[<-ci] at bb |-
 obtain⟨W,hW⟩:∃ W,W=((w.alloc (.cells #[.slice a s.length c,.slice b t.length V] 25)).alloc (.cells #[.int .i64 r1,.int .i64 r2,.int .i64 r3,.slice ra rr.length rc,.int .i64 r4] 78)).alloc (.cells #[.slice none 0 0,.slice none 0 0] 25):=⟨_,rfl⟩
 have J:Below w.heap.size w W:=by rw[hW];exact (((Below.refl _ _).alloc (Nat.le_refl _) _).alloc (by simp) _).alloc (by simp;omega) _
 have g0:W.heap[w.heap.size]?=some (.cells #[.slice a s.length c,.slice b t.length V] 25 (0,0)):=by
  rw[hW]
  exact cj _ (cj _ (bT _ _ rfl))
 have gr:W.heap[w.heap.size+1]?=some (.cells #[.int .i64 r1,.int .i64 r2,.int .i64 r3,.slice ra rr.length rc,.int .i64 r4] 78 (0,0)):=by
  rw[hW]
  exact cj _ (bT _ _ (by simp only[World.size_alloc]))
 have g1:W.heap[w.heap.size+1+1]?=some (.cells #[.slice none 0 0,.slice none 0 0] 25 (0,0)):=by
  rw[hW]
  exact bT _ _ (by simp only[World.size_alloc])
 have et:W.heap.size=w.heap.size+1+1+1:=by rw[hW];simp
 have a9:Hid _:=hQ B _ (s,t) W (he.later J) (hd.later J hB) (by omega) b7
 obtain⟨y0,y1,-,-⟩:=aO g0
 have HW:=hid hW
 have h5:=hid J
 generalize cp:az (s,t)=DE at*
 have O:=hid cp
 obtain⟨N,hN⟩:∃ n,n=s.length:=⟨_,rfl⟩
 obtain⟨m,hm⟩:∃ m,m=t.length:=⟨_,rfl⟩
 obtain⟨rl,cv⟩:∃ n,n=rr.length:=⟨_,rfl⟩
 rw[<-cv] at HW gr bb |-
 rw[<-hN] at HW a9 y0 g0 |-
 rw[<-hm] at HW a9 y1 g0 |-
 have HN:=hid hN
 have HM:=hid hm
 obtain⟨t0,t1,t2,t3,t4⟩:=bw gr
 clear hW cp hN hm cv hr
 go_enter Tryz.func111,Tryz.ntmps111
 go_wp2_with fail
 rw[<-HW.out]
 go_at_call 34
 refine Calls.mono a9.out ?_
 rintro e w1 ⟨rfl,Y⟩
 have T:=(Y.block _ (lt_of_block g0)).trans g0
 have K:=(Y.block _ (lt_of_block g1)).trans g1
 have A:Below w.heap.size w w1:=Below.thenOf J Y J.size
 have Gr:=(Y.block _ (lt_of_block gr)).trans gr
 have eO:w.heap.size+1+1<w1.heap.size:=lt_of_block K
 obtain⟨z0,z1,f0,f1⟩:=aO K
 obtain⟨x0,x1,-,-⟩:=aO T
 obtain⟨p0,p1,p2,p3,p4⟩:=bw Gr
 clear y0 y1 a9 g0 g1 et Y HW gr t0 t1 t2 t3 t4
 by_cases Z:DE=0
 ·subst Z
  have hm:=HM.out
  have hN:=HN.out
  obtain⟨-,-,d1,-⟩:=dK O.out
  simp only[] at d1
  have d2:=hid A
  have bg:=hid T
  have bk:=hid K
  have aa:Hid _:=zw B _ r w1 (he.later A) (bb.out w1 A) (by omega)
  have d3:Hid (eH (s,t) r=BW (s,t) r):=by unfold Hid eH;rw[if_pos O.out]
  obtain⟨P,hP⟩:∃ P,P=gL r:=⟨_,rfl⟩
  obtain⟨E,bm⟩:∃ E,E=bF r:=⟨_,rfl⟩
  have H:Hid (eH (s,t) r=if E=0 then (if 60000<N+m+P.length+1 then 2 else 0) else E):=by unfold Hid;rw[d3.out];unfold BW;rw[<-hP,<-bm,<-hN,<-hm]
  have C:Hid (f6 (s,t) r=if eH (s,t) r=0 then (s,t++(P++[10])) else ([],[])):=by unfold Hid f6;rw[<-hP]
  have bo:P.length<=100000000:=by rw[hP];exact yb r
  rw[<-hP,<-bm] at aa
  obtain⟨pn,ac⟩:∃ n,n=P.length:=⟨_,rfl⟩
  have d6:=hid ac.symm
  rw[<-ac] at bo H
  obtain⟨PS,bp⟩:∃ PS,PS=eP P:=⟨_,rfl⟩
  have bq:Hid (PS.size=pn/\PS++⟨#[10]⟩=eP (P++[10])):=by unfold Hid;rw[bp];exact⟨by rw[ac];simp[eP,ByteArray.size],Dm P⟩
  rw[<-bp] at aa
  have dc:N+m<=60000:=by omega
  have eV:Hid (∀ f,Below w.heap.size w f->Calls Tryz.prog 100 #[.slice a N c,.slice none 0 0] f λe g=>∃ v,e=.returned v/\aY f.heap.size g v s/\Below f.heap.size f g):=λf a0=>by
   have:=iT B _ _ s [] f (hs.later a0 hB) (lJ B f) (Nat.le_trans hB a0.size) (by simp;omega)
   rw[List.append_nil] at this
   rw[hN]
   exact this.mono λe g ⟨v,h1,_,h3,h4⟩=>⟨v,h1,h3,h4⟩
  have f3:Hid (∀ f u x,Below w.heap.size w f->aJ f.heap.size f u x->x.length<=60001->Calls Tryz.prog 100 #[.slice b m V,u] f λe g=>∃ v,e=.returned v/\aY f.heap.size g v (t++x)/\Below f.heap.size f g):=λf u x a0 hu hx=>by
   have:=iT f.heap.size _ _ t x f ((ht.later a0 hB).wide (Nat.le_trans hB a0.size)) hu (Nat.le_refl _) (by omega)
   rw[hm]
   exact this.mono λe g ⟨v,h1,_,h3,h4⟩=>⟨v,h1,h3,h4⟩
  have di:Hid (∀ f,Calls Tryz.prog 64 #[.agg #[.slice a N c,.slice b m V]] f λe g=>e=.returned (.int .i64 ((N:Int)+(m:Int)))/\Below f.heap.size f g):=λf=>uj a b N c m V f (by omega)
  have Hl:=hid eO
  clear T K Gr A hd O b7 cd ce J hN hm hP bm ac bp d3 d1 hs ht ci
  go_wp2_with fail
  go_at_call 137
  refine Calls.mono aa.out ?_
  rintro e w2 ⟨rfl,ad⟩
  have b2:Below w.heap.size w w2:=Below.thenOf d2.out ad d2.out.size
  have T:=(ad.block _ (lt_of_block bg.out)).trans bg.out
  have K:=(ad.block _ (lt_of_block bk.out)).trans bk.out
  have hw:w.heap.size+1+1<w2.heap.size:=lt_of_block K
  clear z0 z1 f0 f1 x0 x1 p0 p1 p2 p3 p4 aa
  obtain⟨z0,z1,f0,f1⟩:=aO K
  obtain⟨x0,x1,-,-⟩:=aO T
  have ak:=hid b2
  have br:=hid T
  have bs:=hid K
  clear bg bk T K ad b2
  by_cases Z:E=0
  ·subst Z
   have f4:PS.size=pn:=bq.out.1
   have D:Hid (eH (s,t) r=if 60000<N+m+pn+1 then 2 else 0):=by unfold Hid;rw[H.out,if_pos rfl]
   clear H
   go_wp2_with fail
   go_at_call 64
   refine Calls.mono (di.out w2) ?_
   rintro e L ⟨rfl,ao⟩
   rw[bq.out.2]
   obtain⟨XS,av⟩:∃ XS,XS=eP (P++[10]):=⟨_,rfl⟩
   have bx:=hid av
   have dk:XS.size=pn+1:=by rw[av];simp[eP,ByteArray.size,d6.out]
   rw[<-av]
   clear av f4 bq di
   have b3:Below w.heap.size w L:=Below.thenOf ak.out ao ak.out.size
   have T:=(ao.block _ (lt_of_block br.out)).trans br.out
   have K:=(ao.block _ (lt_of_block bs.out)).trans bs.out
   have b0:w.heap.size+1+1<L.heap.size:=lt_of_block K
   clear z0 z1 f0 f1 x0 x1
   obtain⟨z0,z1,f0,f1⟩:=aO K
   obtain⟨x0,x1,-,-⟩:=aO T
   have F:=hid b3
   have dl:=hid T
   have dn:=hid K
   clear br bs T K ao b3 ak
   obtain⟨zz,c0⟩:∃ zz:Int,zz=(N:Int)+(m:Int)+((pn:Int)+1):=⟨_,rfl⟩
   have c1:=hid c0
   have f5:IntKind.i64.wrap ((N:Int)+(m:Int)+((pn:Int)+1))=zz:=by rw[c0];exact IntWalk.i64_in _ (by omega)
   have fa:(XS.size:Int)=(pn:Int)+1:=by omega
   clear c0
   by_cases g6:60000<zz
   ·have U:Hid (eH (s,t) r=2/\f6 (s,t) r=([],[])):=by
     have hz:=c1.out
     have e:eH (s,t) r=2:=by rw[D.out,if_pos (by omega)]
     exact⟨e,by rw[C.out,e,if_neg (by decide)]⟩
    have HF:Hid (∀ x y,Below w.heap.size w ((L.setCell ⟨w.heap.size+1+1,0,none⟩ x).setCell ⟨w.heap.size+1+1,1,none⟩ y)):=λx y=>cz F.out (by omega) x y
    clear D C dk bo dc
    go_wp2_with fail
    refine bodyPost_ret (v:=.tuple #[.agg #[.slice none 0 0,.slice none 0 0],.int .i64 2]) ?_ rfl ⟨_,by rw[U.out.1],by rw[U.out.2];exact dz _ _,HF.out _ _⟩
    rw[results_cell_tmp rfl]
    go_simp
   ·have U:Hid (eH (s,t) r=0/\f6 (s,t) r=(s,t++(P++[10]))):=by
     have hz:=c1.out
     have e:eH (s,t) r=0:=by rw[D.out,if_neg (by omega)]
     exact⟨e,by rw[C.out,e,if_pos rfl]⟩
    have b4:Hid (pn+1<=60001):=by have hz:=c1.out;unfold Hid;omega
    clear D C bo dc
    obtain⟨X,hX⟩:∃ X,X=P++[10]:=⟨_,rfl⟩
    have fd:Hid (X.length<=60001):=by have:=b4.out;unfold Hid;rw[hX,List.length_append,d6.out];exact this
    rw[<-hX] at U bx
    have fe:Hid (∀ f,∃ a n a1 g,(convert 9 23 (.string XS)).run Tryz.prog f=.ok (.slice a n a1) g/\aJ g.heap.size g (.slice a n a1) X/\Below f.heap.size f g):=λf=>by
     obtain⟨a1,g,h1,h2,h3⟩:=zo XS f (by have:=b4.out;omega)
     have e:XS.data.toList=X:=by rw[bx.out];simp[eP]
     rw[e] at h2
     exact⟨_,_,a1,g,h1,h2,h3⟩
    clear hX bx
    obtain⟨G,hG⟩:∃ G:Nat->World->Value->Prop,G=λj f u=>(j=2->aY L.heap.size f u s)/\(j=6->aJ f.heap.size f u X)/\(j=7->aY L.heap.size f u (t++X)):=⟨_,rfl⟩
    have c3:Hid (∀ j u w f,Below w.heap.size w f->G j w u->G j f u):=λj u w f hb h=>by
     rw[hG] at h |-
     exact⟨λe=>(h.1 e).later hb,λe=>((h.2.1 e).later hb (Nat.le_refl _)).wide hb.size,λe=>(h.2.2 e).later hb⟩
    have dq:Hid (∀ f u,G 2 f u ↔ aY L.heap.size f u s):=λf u=>by rw[hG];simp
    have dr:Hid (∀ f u,G 6 f u ↔ aJ f.heap.size f u X):=λf u=>by rw[hG];simp
    have ds:Hid (∀ f u,G 7 f u ↔ aY L.heap.size f u (t++X)):=λf u=>by rw[hG];simp
    obtain⟨R,hR⟩:∃ R:Value->Value->World->Prop,R=λp q f=>aY L.heap.size f p s/\aY L.heap.size f q (t++X):=⟨_,rfl⟩
    have HR:Hid (∀ p q f,R p q f ↔ aY L.heap.size f p s/\aY L.heap.size f q (t++X)):=λp q f=>by rw[hR]
    obtain⟨S,hS⟩:∃ S:Nat->Value->Prop,S=λj v=>j≠9->∃ a n c,v=.slice a n c:=⟨_,rfl⟩
    have Q:Hid (∀ j v,j≠9->(S j v ↔ ∃ a n c,v=.slice a n c)):=λj v hj=>by rw[hS];simp[hj]
    have fi:Hid (S 9 undef):=by unfold Hid;rw[hS];exact λe=>absurd rfl e
    have fl:Hid (∀ j,∃ v,S j v):=λj=>⟨.slice none 0 0,by rw[hS];exact λ_=>⟨_,_,_,rfl⟩⟩
    clear hG hR hS
    have q0:∀ z:y8 w.heap.size (.slice a N c) (.slice b m V),z.1.cell? ⟨w.heap.size,0,none⟩=some (.slice a N c):=λz=>z.2.1
    have q1:∀ z:y8 w.heap.size (.slice a N c) (.slice b m V),z.1.cell? ⟨w.heap.size,1,none⟩=some (.slice b m V):=λz=>z.2.2
    have dv:Nonempty (y8 w.heap.size (.slice a N c) (.slice b m V)):=⟨⟨L,x0,x1⟩⟩
    have a4:Hid (∀ fs f,JD (w.heap.size+1+1) 9 [2,6,7] L G R fs f->∃ z:y8 w.heap.size (.slice a N c) (.slice b m V),f=z.1):=λfs f h=>⟨⟨f,ab (h.box dl.out (by omega)) 0 rfl,ab (h.box dl.out (by omega)) 1 rfl⟩,rfl⟩
    go_wp2_with fail
    clear dk fa f5
    refine bh [_,_,_,_,_,_,_,_,_,_] _ rfl (λk=>k==2||k==6||k==7||k==9) (JD (w.heap.size+1+1) 9 [2,6,7] L G R) S fl.out (by kernel_rfl) (by kernel_rfl) (JD.start _ _ _ _ _ _) ?_
    iterate 2 (refine aH a4.out rfl rfl ?_;go_big_quiet_step (fail);refine wpQuiet_nil ?_)
    refine bu 100 #[.slice a N c,.slice none 0 0] rfl rfl (λf=>by kernel_rfl) (λgs f M i o=>?_) (λv2 fo=>?_)
    ·obtain⟨-,l,-⟩:=M.ahead (.inr (by simp)) o
     refine (eV.out f (Below.thenOf F.out l F.out.size)).mono ?_
     rintro e w4 ⟨u,rfl,I,hb⟩
     obtain⟨ua,uc,eu⟩:=I.shape
     exact⟨_,rfl,(Q.out 2 _ (by decide)).2 ⟨_,_,_,eu⟩,M.put c3.out (by simp) (by decide) o hb ((dq.out _ _).2 (I.mono l.size))⟩
    simp only[Act.put,List.setIfInBounds_toArray,List.set_cons_succ,List.set_cons_zero]
    obtain⟨a2,n2,k2,rfl⟩:=(Q.out 2 _ (by decide)).1 fo
    iterate 3 (refine aH a4.out rfl rfl ?_;go_big_quiet_step (fail);refine wpQuiet_nil ?_)
    refine bY rfl rfl (λgs f M i o=>?_) (λv6 fv=>?_)
    ·obtain⟨ca,cn,a1,g,r1,r2,r3⟩:=fe.out f
     refine⟨_,g,?_,(Q.out 6 _ (by decide)).2 ⟨_,_,_,rfl⟩,M.put c3.out (by simp) (by decide) o r3 ((dr.out _ _).2 r2)⟩
     unfold execOp
     simp only[resolve,invoke,builtin,Sem.run_bind,Sem.run_pure,Result.andThen_ok,List.map_toArray,List.map_cons,List.map_nil]
     exact (congrArg (λr=>Result.andThen r λv w=>.ok (Next.value v) w) r1)
    simp only[Act.put,List.setIfInBounds_toArray,List.set_cons_succ,List.set_cons_zero]
    obtain⟨a6,n6,k6,rfl⟩:=(Q.out 6 _ (by decide)).1 fv
    refine bu 100 #[.slice b m V,.slice a6 n6 k6] rfl rfl (λf=>by kernel_rfl) (λgs f M i o=>?_) (λv7 fx=>?_)
    ·have h6:=i 6 _ (.inr ⟨rfl,rfl⟩) (zQ0 (by kernel_rfl))
     obtain⟨-,l,hG⟩:=M.ahead (.inr (by simp)) o
     refine (f3.out f _ X (Below.thenOf F.out l F.out.size) ((dr.out _ _).1 (hG 6 _ h6)) fd.out).mono ?_
     rintro e w4 ⟨u,rfl,I,hb⟩
     obtain⟨ua,uc,eu⟩:=I.shape
     exact⟨_,rfl,(Q.out 7 _ (by decide)).2 ⟨_,_,_,eu⟩,M.put c3.out (by simp) (by decide) o hb ((ds.out _ _).2 (I.mono l.size))⟩
    simp only[Act.put,List.setIfInBounds_toArray,List.set_cons_succ,List.set_cons_zero]
    obtain⟨a7,n7,k7,rfl⟩:=(Q.out 7 _ (by decide)).1 fx
    refine aH a4.out rfl rfl ?_;go_big_quiet_step (fail);refine wpQuiet_nil ?_
    refine eB rfl rfl (λgs f M i o=>?_) (λv9 hO=>?_)
    ·have h2:=i 2 _ (.inl (.inl (.inr ⟨rfl,rfl⟩))) (zQ0 (by kernel_rfl))
     have h6:=i 6 _ (.inl (.inr ⟨rfl,rfl⟩)) (zQ0 (by kernel_rfl))
     have h7:=i 7 _ (.inr ⟨rfl,rfl⟩) (zQ0 (by kernel_rfl))
     obtain⟨-,l,hG⟩:=M.ahead (.inl rfl) o
     have a5:=(l.block _ b0).trans dn.out
     obtain⟨hT,hU,hV,hY⟩:=aO a5
     refine⟨(f.setCell ⟨w.heap.size+1+1,0,none⟩ (.slice a2 n2 k2)).setCell ⟨w.heap.size+1+1,1,none⟩ (.slice a7 n7 k7),?_,fi.out,M.store o (λk hk=>by
      simp at hk
      rcases hk with rfl | rfl | rfl
      ·exact⟨_,h2⟩
      ·exact⟨_,h6⟩
      ·exact⟨_,h7⟩) ((HR.out _ _ _).2 ⟨(dq.out _ _).1 (hG 2 _ h2),(ds.out _ _).1 (hG 7 _ h7)⟩)⟩
     clear M i o q0 q1 a4 dv h2 h6 h7 l hG a5
     go_simp
    simp only[Act.put,List.setIfInBounds_toArray,List.set_cons_succ,List.set_cons_zero]
    refine dF ?_
    intro w4 M
    obtain⟨w0,p,q,e4,l,e0⟩:=M.done (.inr ⟨rfl,rfl⟩)
    obtain⟨c4,c5⟩:=(HR.out _ _ _).1 e0
    have a5:=(l.block _ b0).trans dn.out
    obtain⟨k0,k1,k2⟩:=gJ (u:=p) (v:=q) a5
    rw[<-e4] at k0 k1 k2
    obtain⟨ea,ec,ee⟩:=c4.shape
    obtain⟨eb,ek,ef⟩:=c5.shape
    subst ee ef
    obtain⟨y0,y1,-,-⟩:=aO k0
    have b5:Hid (bL w.heap.size w4 (.agg #[.slice ea s.length ec,.slice eb (t++X).length ek]) (s,t++X)/\Below w.heap.size w w4):=by
     refine⟨iY ((c4.keep k1 b0 k2).mono F.out.size) ((c5.keep k1 b0 k2).mono F.out.size),?_⟩
     rw[e4]
     exact cz (Below.thenOf F.out l F.out.size) (by omega) _ _
    generalize s.length=n1 at*
    generalize (t++X).length=n2 at*
    clear M e4 l e0 c4 c5 a5 k0 k1 k2 q0 q1 a4 dv
    go_wp2_with fail
    refine bodyPost_ret (v:=.tuple #[.agg #[.slice ea n1 ec,.slice eb n2 ek],.int .i64 0]) ?_ rfl ⟨_,by rw[U.out.1],by rw[U.out.2];exact b5.out.1,b5.out.2⟩
    rw[results_cell_tmp rfl]
    go_simp
  ·have hq:(E != 0)=true:=by simpa using Z
   have U:Hid (eH (s,t) r=E/\f6 (s,t) r=([],[])):=by
    have e:eH (s,t) r=E:=by rw[H.out,if_neg Z]
    exact⟨e,by rw[C.out,e,if_neg Z]⟩
   have HF:Hid (∀ x y,Below w.heap.size w ((w2.setCell ⟨w.heap.size+1+1,0,none⟩ x).setCell ⟨w.heap.size+1+1,1,none⟩ y)):=λx y=>cz ak.out (by omega) x y
   clear Z H C
   go_wp2_with fail
   refine bodyPost_ret (v:=.tuple #[.agg #[.slice none 0 0,.slice none 0 0],.int .i64 E]) ?_ rfl ⟨_,by rw[U.out.1],by rw[U.out.2];exact dz _ _,HF.out _ _⟩
   rw[results_cell_tmp rfl]
   go_simp
 ·have hq:(DE != 0)=true:=by simpa using Z
  have U:Hid (eH (s,t) r=DE/\f6 (s,t) r=([],[])):=by
   have e:eH (s,t) r=DE:=by unfold eH;rw[if_neg (by rw[O.out];exact Z),O.out]
   exact⟨e,by unfold f6;rw[e,if_neg Z]⟩
  have HF:Hid (∀ x y,Below w.heap.size w ((w1.setCell ⟨w.heap.size+1+1,0,none⟩ x).setCell ⟨w.heap.size+1+1,1,none⟩ y)):=λx y=>cz A (by omega) x y
  clear T K Gr A hs ht hd O hB b7 cd ce J Z
  go_wp2_with fail
  refine bodyPost_ret (v:=.tuple #[.agg #[.slice none 0 0,.slice none 0 0],.int .i64 DE]) ?_ rfl ⟨_,by rw[U.out.1],by rw[U.out.2];exact dz _ _,HF.out _ _⟩
  rw[results_cell_tmp rfl]
  go_simp
end Go.Proofs.YtnpdhopjpjickaaGreatDoor
end
section
set_option linter.all false
set_option maxRecDepth 100000
namespace Go.Proofs.YtnpdhopjpjickaaGreatDoor
open Go.RowKit Go.Maps
structure AV (L1:Nat) (W:World) (lb:Option Nat) (X:Bs) (G10:World->Value->Prop) (fs:Nat->Value->Prop) (w:World):Prop where
 below:Below L1 W w
 grown:W.grownBy w lb
 still:(∀ u,¬fs 10 u)->Below W.heap.size W w
 row6:∀ u,fs 6 u->aY W.heap.size w u X
 row10:∀ u,fs 10 u->G10 w u
 need:∀ u,fs 10 u->∃ u',fs 6 u'
def JV (bo L1:Nat) (W:World) (lb:Option Nat) (X:Bs) (G10:World->Value->Prop) (fs:Nat->Value->Prop) (w:World):Prop:=
 ((∀ u,¬fs 11 u)/\AV L1 W lb X G10 fs w)\/((∃ u,fs 11 u)/\(∃ u,fs 6 u)/\(∃ u,fs 10 u)/\∃ a p,w=(a.setCell ⟨bo,0,none⟩ p).setCell ⟨bo,1,none⟩ (.slice none 0 0)/\aY W.heap.size a p X/\AV L1 W lb X G10 (λk u=>k≠11/\fs k u) a)
section
variable {bo L1:Nat} {W w w':World} {lb:Option Nat} {X:Bs} {G10:World->Value->Prop} {fs:Nat->Value->Prop}
theorem JV.start (bo L1:Nat) (W:World) (lb:Option Nat) (X:Bs) (G10:World->Value->Prop):JV bo L1 W lb X G10 (λ_ _=>False) W.drew:=
 .inl ⟨λ_ h=>h,(Below.refl _ _).drew,⟨rfl,rfl,rfl,Nat.le_refl _,λ_ _ _=>rfl⟩,λ_=>(Below.refl _ _).drew,λ_ h=>h.elim,λ_ h=>h.elim,λ_ h=>h.elim⟩
theorem JV.ahead (h:JV bo L1 W lb X G10 fs w) {k:Nat} (e:k=6\/k=10\/k=11) (d:∀ v,¬fs k v):(∀ u,¬fs 11 u)/\AV L1 W lb X G10 fs w:=by
 rcases h with h | ⟨⟨a,f⟩,⟨b,g⟩,⟨c,i⟩,_⟩
 ·exact h
 ·rcases e with rfl | rfl | rfl
  ·exact absurd g (d _)
  ·exact absurd i (d _)
  ·exact absurd f (d _)
theorem JV.box (h:JV bo L1 W lb X G10 fs w) {b:Nat} {o:Obj} (c:W.heap[b]?=some o) (a:b≠bo) (d:b<L1):w.heap[b]?=some o:=by
 rcases h with ⟨_,h⟩ | ⟨_,_,_,e,p,rfl,_,h⟩
 ·exact (h.below.block b d).trans c
 ·exact ((Below.heap_setCell _ _ _ _ a).trans (Below.heap_setCell _ _ _ _ a)).trans ((h.below.block b d).trans c)
theorem JV.put6 (h:JV bo L1 W lb X G10 fs w) (c:∀ v,¬fs 6 v) (j:L1<=W.heap.size) (k:Below w.heap.size w w') {v:Value} (f:aY W.heap.size w' v X):JV bo L1 W lb X G10 (bW fs 6 v) w':=by
 obtain⟨g,h⟩:=h.ahead (.inl rfl) c
 have b:∀ v,¬fs 10 v:=λv f=>by
  obtain⟨u,a⟩:=h.need v f
  exact c u a
 have i:=h.still b
 have d:Below W.heap.size W w':=Below.thenOf i k i.size
 refine .inl ⟨λu a=>?_,d.mono j,eJ d lb,λ_=>d,λu a=>?_,λu a=>?_,λu a=>⟨v,.inr ⟨rfl,rfl⟩⟩⟩
 ·rcases a with a | ⟨e,_⟩
  ·exact g u a
  ·cases e
 ·rcases a with a | ⟨_,rfl⟩
  ·exact absurd a (c _)
  ·exact f
 ·rcases a with a | ⟨e,_⟩
  ·exact absurd a (b _)
  ·cases e
theorem JV.put10 (h:JV bo L1 W lb X G10 fs w) (b:∀ v,¬fs 10 v) {n:Value} (o:fs 6 n) (p:L1<=W.heap.size) (c:∀ k,lb=some k->k<W.heap.size/\L1<=k) (d:w.grownBy w' lb) {v:Value} (q:G10 w' v):JV bo L1 W lb X G10 (bW fs 10 v) w':=by
 obtain⟨l,h⟩:=h.ahead (.inr (.inl rfl)) b
 refine .inl ⟨λu a=>?_,h.below.grown d (Nat.le_trans p h.grown.size) λk r=>(c k r).2,World.grownBy.andThen h.grown d λj s=>.inr s,λf=>absurd (.inr ⟨rfl,rfl⟩) (f v),λu a=>?_,λu a=>?_,λu a=>⟨n,.inl o⟩⟩
 ·rcases a with a | ⟨e,_⟩
  ·exact l u a
  ·cases e
 ·rcases a with a | ⟨e,_⟩
  ·exact λt x y=>h.row6 u a t (λg m i=>(x g m (Nat.lt_of_lt_of_le i d.size)).trans (d.block g i λe=>by have:=(c g e.symm).1;omega)) (Nat.le_trans d.size y)
  ·cases e
 ·rcases a with a | ⟨_,rfl⟩
  ·exact absurd a (b _)
  ·exact q
theorem JV.store (h:JV bo L1 W lb X G10 fs w) (d:∀ v,¬fs 11 v) {p b:Value} (f:fs 6 p) (c:fs 10 b):JV bo L1 W lb X G10 (bW fs 11 undef) ((w.setCell ⟨bo,0,none⟩ p).setCell ⟨bo,1,none⟩ (.slice none 0 0)):=by
 obtain⟨g,h⟩:=h.ahead (.inr (.inr rfl)) d
 refine .inr ⟨⟨undef,.inr ⟨rfl,rfl⟩⟩,⟨p,.inl f⟩,⟨b,.inl c⟩,w,p,rfl,h.row6 p f,h.below,h.grown,λi=>absurd ⟨by decide,.inl c⟩ (i b),λu a=>?_,λu a=>?_,λu a=>⟨p,by decide,.inl f⟩⟩
 ·rcases a.2 with a | ⟨e,_⟩
  ·exact h.row6 u a
  ·cases e
 ·rcases a.2 with a | ⟨e,_⟩
  ·exact h.row10 u a
  ·cases e
theorem JV.done (h:JV bo L1 W lb X G10 fs w) {u a:Value} (d:fs 11 u) (c:fs 10 a):∃ b p,w=(b.setCell ⟨bo,0,none⟩ p).setCell ⟨bo,1,none⟩ (.slice none 0 0)/\aY W.heap.size b p X/\Below L1 W b/\W.grownBy b lb/\G10 b a:=by
 rcases h with ⟨f,_⟩ | ⟨_,_,_,b,p,e,g,h⟩
 ·exact absurd d (f _)
 ·exact⟨b,p,e,g,h.below,h.grown,h.row10 a ⟨by decide,c⟩⟩
end
set_option maxHeartbeats 4000000 in
theorem vU (B:Nat) (v:Value) (d:bA) (w:World) (he:dX w) (hd:ei B w v d) (hB:B<=w.heap.size) (b9:lm d):
  Calls Tryz.prog 67 #[v] w λe w'=>∃ v' H,e=.returned (.tuple #[v',H,.int .i64 (az d)])/\bL w.heap.size w' v' (fX d)/\bX w'.heap.size w' H (cR d)/\Below w.heap.size w w':=by
 obtain⟨sv,tv,rfl,hs,ht⟩:=id hd
 obtain⟨s,t⟩:=d
 simp only[] at hs ht
 obtain⟨a,c,e1,-,-,-⟩:=id hs
 obtain⟨b,R,e2,c8,c9,-⟩:=id ht
 subst e1 e2
 obtain⟨W,hW⟩:∃ W,W=(w.alloc (.cells #[.slice a s.length c,.slice b t.length R] 25)).alloc (.cells #[.slice none 0 0,.slice none 0 0] 25):=⟨_,rfl⟩
 have I:Below w.heap.size w W:=by rw[hW];exact ((Below.refl _ _).alloc (Nat.le_refl _) _).alloc (by simp) _
 have g0:W.heap[w.heap.size]?=some (.cells #[.slice a s.length c,.slice b t.length R] 25 (0,0)):=by
  rw[hW]
  exact cj _ (bT _ _ rfl)
 have g1:W.heap[w.heap.size+1]?=some (.cells #[.slice none 0 0,.slice none 0 0] 25 (0,0)):=by
  rw[hW]
  exact bT _ _ (by simp only[World.size_alloc])
 have er:W.heap.size=w.heap.size+1+1:=by rw[hW];simp
 have ad:Hid _:=hQ B _ (s,t) W (he.later I) (hd.later I hB) (by omega) b9
 obtain⟨y0,y1,-,-⟩:=aO g0
 have HW:=hid hW
 have ha:=hid I
 generalize cb:az (s,t)=DE at*
 have J:=hid cb
 obtain⟨N,hN⟩:∃ n,n=s.length:=⟨_,rfl⟩
 obtain⟨m,hm⟩:∃ m,m=t.length:=⟨_,rfl⟩
 rw[<-hN] at HW ad y0 g0 |-
 rw[<-hm] at HW ad y1 g0 |-
 have HN:=hid hN
 have HM:=hid hm
 clear hW cb hN hm
 go_enter Tryz.func67,Tryz.ntmps67
 go_wp2_with fail
 rw[<-HW.out]
 go_at_call 34
 refine Calls.mono ad.out ?_
 rintro e C ⟨rfl,ak⟩
 have G0:=(ak.block _ (lt_of_block g0)).trans g0
 have G1:=(ak.block _ (lt_of_block g1)).trans g1
 have O:Below w.heap.size w C:=Below.thenOf I ak I.size
 have ao:w.heap.size+1<C.heap.size:=lt_of_block G1
 obtain⟨z0,z1,f0,f1⟩:=aO G1
 obtain⟨x0,x1,-,-⟩:=aO G0
 clear y0 y1 ad g0 g1 er ak HW
 by_cases hE:DE=0
 ·subst hE
  have hm:=HM.out
  have hN:=HN.out
  obtain⟨ci,cl,eF,cn⟩:=dK J.out
  simp only[] at ci cl eF cn
  have bb:Hid (fX (s,t)=(px (s,t),[])/\cR (s,t)=ph (s,t)):=⟨by unfold fX;rw[if_pos J.out],by unfold cR;rw[if_pos J.out]⟩
  have bc:=hid O
  have bd:=hid G0
  have bf:=hid G1
  have co:Hid (∀ w',Below w.heap.size w w'->Calls Tryz.prog 65 #[.slice a N c,.int .i64 40] w' λe f=>∃ H E,e=.returned (.tuple #[H,.int .i64 (aI 40 s).2.1,.int .i64 (aI 40 s).2.2])/\f.ownsRow w'.heap.size 78 5 H (aI 40 s).1.length E/\rQ (eL w'.heap.size H.ownBlock f) E (aI 40 s).1/\Below w'.heap.size w' f):=λw' l=>by
   rw[hN]
   exact jM B _ s ci 40 (by omega) w' (he.later l) (hs.later l hB) (Nat.le_trans hB l.size)
  have cp:Hid (∀ w' aF,aF<=40->Below w.heap.size w w'->Calls Tryz.prog 65 #[.slice b m R,.int .i64 (aF:Nat)] w' λe f=>∃ H E,e=.returned (.tuple #[H,.int .i64 (aI aF t).2.1,.int .i64 (aI aF t).2.2])/\f.ownsRow w'.heap.size 78 5 H (aI aF t).1.length E/\rQ (eL w'.heap.size H.ownBlock f) E (aI aF t).1/\Below w'.heap.size w' f):=λw' aF eN l=>by
   rw[hm]
   exact jM B _ t cl aF eN w' (he.later l) (ht.later l hB) (Nat.le_trans hB l.size)
  clear G0 G1 O hd J b9 c8 c9 I hN hm
  go_wp2_with fail
  go_at_call 65
  refine Calls.mono (co.out C bc.out) ?_
  obtain⟨⟨L,k1,e1⟩,V⟩:∃ LL,LL=aI 40 s:=⟨_,rfl⟩
  have eO:L.length<=40:=by have:=rK 40 s;rw[<-V] at this;exact this
  obtain⟨⟨M,Y,e2⟩,Z⟩:∃ MM,MM=aI (40-L.length) t:=⟨_,rfl⟩
  have cs:M.length<=40-L.length:=by have:=rK (40-L.length) t;rw[<-Z] at this;exact this
  have cv:Y<=t.length:=by have:=vf (40-L.length) t;rw[<-Z] at this;exact this
  have a0:Hid (fX (s,t)=(s++t.take Y,[])/\cR (s,t)=L++M):=by
   have e:km (s,t)=(M,Y,e2):=by unfold km;simp only[];rw[<-V,Z]
   rw[bb.out.1,bb.out.2]
   unfold Hid px ph
   rw[e]
   simp only[]
   rw[<-V]
   refine⟨?_,?_⟩<;>first | trivial | rfl
  have a1:Hid (∀ w',Below w.heap.size w w'->Calls Tryz.prog 65 #[.slice b m R,.int .i64 ((40-L.length:Nat):Int)] w' λe f=>∃ H E,e=.returned (.tuple #[H,.int .i64 Y,.int .i64 e2])/\f.ownsRow w'.heap.size 78 5 H M.length E/\rQ (eL w'.heap.size H.ownBlock f) E M/\Below w'.heap.size w' f):=λw' l=>by
   have:=cp.out w' (40-L.length) (by omega) l
   rw[<-Z] at this
   exact this
  rw[<-V]
  simp only[]
  clear V Z bb co cp cn
  rintro e w2 ⟨H,E,rfl,av,bg,a2⟩
  obtain⟨la,lc,el,eV,ho,-⟩:=ax av
  subst el
  obtain⟨D,bk⟩:∃ n,n=L.length:=⟨_,rfl⟩
  have f2:=hid bk.symm
  rw[<-bk] at av bg eO cs a1 eV |-
  have g6:(40:Int)-(D:Int)=((40-D:Nat):Int):=by omega
  have b2:Below w.heap.size w w2:=Below.thenOf bc.out a2 bc.out.size
  have P0:=(a2.block _ (lt_of_block bd.out)).trans bd.out
  have P1:=(a2.block _ (lt_of_block bf.out)).trans bf.out
  have hr:w.heap.size+1<w2.heap.size:=lt_of_block P1
  have g7:=a2.size
  clear z0 z1 f0 f1 x0 x1 bk
  obtain⟨x0,x1,-,-⟩:=aO P0
  have a3:=hid b2
  have bp:=hid P0
  have bq:=hid P1
  have b0:=hid av
  have d0:=hid bg
  have hu:¬(40<D):=by omega
  clear P0 P1 av bg b2 bd bf a2
  go_wp2_with fail
  go_at_call 65
  refine Calls.mono (a1.out w2 a3.out) ?_
  rintro e F ⟨mv,ys,rfl,P,br,K⟩
  obtain⟨ma,mc,em,f3,gb,-⟩:=ax P
  subst em
  obtain⟨T,bs⟩:∃ n,n=M.length:=⟨_,rfl⟩
  have f4:=hid bs.symm
  rw[<-bs] at P br cs f3 |-
  have b3:Below w.heap.size w F:=Below.thenOf a3.out K a3.out.size
  have P0:=(K.block _ (lt_of_block bp.out)).trans bp.out
  have P1:=(K.block _ (lt_of_block bq.out)).trans bq.out
  have hw:w.heap.size+1<F.heap.size:=lt_of_block P1
  have gc:=K.size
  clear x0 x1 bs
  obtain⟨x0,x1,-,-⟩:=aO P0
  have a4:=hid b3
  have d1:=hid P0
  have d2:=hid P1
  have d3:Hid (F.ownsRow C.heap.size 78 5 (.slice la D lc) D E):=au b0.out K
  have d5:Hid (rQ (eL C.heap.size (Value.slice la D lc).ownBlock F) E L):=d0.out.imp λ_ _ h=>h.grown (eJ K _) (.inl rfl)
  have f5:=hid P
  have d6:=hid br
  have da:Hid (∀ k,(Value.slice la D lc).ownBlock=some k->k<w2.heap.size/\C.heap.size<=k):=λk hk=>by
   obtain⟨dc,hc⟩:=dh b0.out k hk
   exact⟨lt_of_block hc,eS b0.out k hk⟩
  have hx:Hid (∀ k,(Value.slice ma T mc).ownBlock=some k->k<F.heap.size/\w2.heap.size<=k):=λk hk=>by
   obtain⟨dc,hc⟩:=dh P k hk
   exact⟨lt_of_block hc,eS P k hk⟩
  obtain⟨a',fa,dd⟩:=qZ ht Y cv
  have de:=HM.out
  have di:=HN.out
  rw[<-de] at fa cv
  have dk:Hid (∀ w',Below w.heap.size w w'->Calls Tryz.prog 100 #[.slice a N c,.slice a' Y R] w' λe f=>∃ v,e=.returned v/\aY w'.heap.size f v (s++t.take Y)/\Below w'.heap.size w' f):=λw' l=>by
   rw[di]
   exact (iT B _ _ s (t.take Y) w' (hs.later l hB) (dd.later l hB) (Nat.le_trans hB l.size) (by rw[List.length_take];omega)).mono λe f ⟨v,h1,_,h3,h4⟩=>⟨v,h1,h3,h4⟩
  have hD:(Y:Int)<=(R:Int):=by
   obtain⟨_,_,e,h,_⟩:=ht
   simp at e
   omega
  have q:Hid ((D+T)*56<=140737488355328/\C.heap.size<=w2.heap.size/\w2.heap.size<=F.heap.size/\w.heap.size+1<C.heap.size):=⟨by omega,by omega,by omega,ao⟩
  clear P0 P1 P br b3 bp bq K b0 d0 a1 de di dd hs ht
  obtain⟨X,hX⟩:∃ X,X=s++t.take Y:=⟨_,rfl⟩
  rw[<-hX] at dk a0
  obtain⟨lb,Q⟩:∃ lb,lb=(Value.slice la D lc).ownBlock:=⟨_,rfl⟩
  obtain⟨G,hG⟩:∃ G:World->Value->Prop,G=λw' u=>w'.ownsRow C.heap.size 78 5 u (D+T) (E++ys)/\(u.ownBlock=lb\/∃ k,u.ownBlock=some k/\F.heap.size<=k):=⟨_,rfl⟩
  have HG:Hid (∀ w' u,G w' u ↔ (w'.ownsRow C.heap.size 78 5 u (D+T) (E++ys)/\(u.ownBlock=lb\/∃ k,u.ownBlock=some k/\F.heap.size<=k))):=λw' u=>by rw[hG]
  have dl:Hid (∀ w',Below F.heap.size F w'->∃ u f,(Builtin.append_ #[65,65] 65 #[.slice la D lc,.slice ma T mc]).run Tryz.prog w'=.ok u f/\G f u/\w'.grownBy f lb/\∃ a c,u=.slice a (D+T) c):=λw' l=>by
   obtain⟨u,f,r1,r2,r3,r4⟩:=qG C.heap.size w2.heap.size _ _ D T E ys w' (au d3.out l) (au f5.out l) d6.out.2.1 q.out.1 (by have:=q.out;have:=l.size;omega)
   obtain⟨ua,uc,eu,-⟩:=ax r2
   refine⟨u,f,r1,(HG.out _ _).2 ⟨r2,?_⟩,by rw[Q];exact r3,ua,uc,eu⟩
   rcases r4 with e | ⟨k,e,hk⟩
   ·exact .inl (by rw[Q];exact e)
   ·exact .inr ⟨k,e,Nat.le_trans l.size hk⟩
  have dn:Hid (∀ k,lb=some k->k<F.heap.size/\C.heap.size<=k):=λk hk=>by
   have:=da.out k (by rw[<-Q];exact hk)
   have:=q.out
   omega
  have dp:Hid (∀ w' u,F.grownBy w' lb->G w' u->rQ (eL C.heap.size u.ownBlock w') (E++ys) (L++M)/\w'.ownsRow C.heap.size 78 5 u (L++M).length (E++ys)):=λw' u a7 fl=>by
   obtain⟨g1,g2⟩:=(HG.out _ _).1 fl
   have gA:=q.out
   refine⟨(d5.out.imp λ_ _ h=>?_).append (d6.out.imp λ_ _ h=>?_),by rw[List.length_append,f2.out,f4.out];exact g1⟩
   ·rw[<-Q] at h
    exact h.grown a7 g2
   ·refine (h.beside a7 (λk hk=>?_) g2).mono (by omega)
    have:=(da.out k (by rw[<-Q];exact hk)).1
    omega
  obtain⟨S,hS⟩:∃ S:Nat->Value->Prop,S=λj v=>(j=6->∃ a n c,v=.slice a n c)/\(j=10->∃ a c,v=.slice a (D+T) c):=⟨_,rfl⟩
  have dr:Hid (∀ v,S 6 v ↔ ∃ a n c,v=.slice a n c):=λv=>by rw[hS];simp
  have b4:Hid (∀ v,S 10 v ↔ ∃ a c,v=.slice a (D+T) c):=λv=>by rw[hS];simp
  have ds:Hid (S 11 undef):=by unfold Hid;rw[hS];exact⟨λe=>(by cases e),λe=>(by cases e)⟩
  have fn:Hid (∀ j,∃ v,S j v):=λj=>⟨.slice none (D+T) 0,by rw[hS];exact⟨λ_=>⟨_,_,_,rfl⟩,λ_=>⟨_,_,rfl⟩⟩⟩
  clear hG hS hX Q
  have q0:∀ z:y8 w.heap.size (.slice a N c) (.slice b m R),z.1.cell? ⟨w.heap.size,0,none⟩=some (.slice a N c):=λz=>z.2.1
  have q1:∀ z:y8 w.heap.size (.slice a N c) (.slice b m R),z.1.cell? ⟨w.heap.size,1,none⟩=some (.slice b m R):=λz=>z.2.2
  have dv:Nonempty (y8 w.heap.size (.slice a N c) (.slice b m R)):=⟨⟨F,x0,x1⟩⟩
  have a8:Hid (∀ fs w',JV (w.heap.size+1) C.heap.size F lb X G fs w'->∃ z:y8 w.heap.size (.slice a N c) (.slice b m R),w'=z.1):=λfs w' h=>⟨⟨w',ab (h.box d1.out (by omega) (by omega)) 0 rfl,ab (h.box d1.out (by omega) (by omega)) 1 rfl⟩,rfl⟩
  have a9:Hid (C.heap.size<=F.heap.size):=by have:=q.out;unfold Hid;omega
  go_wp2_with fail
  refine bh [_,_,_,_,_,_,_,_,_,_,_,_,_] _ rfl (λk=>k==6||k==10||k==11) (JV (w.heap.size+1) C.heap.size F lb X G) S fn.out (by kernel_rfl) (by kernel_rfl) (JV.start _ _ _ _ _ _) ?_
  iterate 6 (refine aH a8.out rfl rfl ?_;go_big_quiet_step (fail);refine wpQuiet_nil ?_)
  refine bu 100 #[.slice a N c,.slice a' Y R] rfl rfl (λw'=>by kernel_rfl) (λgs w' U A o=>?_) (λv6 fo=>?_)
  ·obtain⟨-,hA⟩:=U.ahead (.inl rfl) o
   have b5:=a9.out
   refine (dk.out w' (a4.out.trans (hA.below.mono (by have:=q.out;omega)))).mono ?_
   rintro e w4 ⟨u,rfl,b6,l⟩
   obtain⟨ua,uc,eu⟩:=b6.shape
   exact⟨_,rfl,(dr.out _).2 ⟨_,_,_,eu⟩,U.put6 o b5 l (b6.mono hA.grown.size)⟩
  simp only[Act.put,List.setIfInBounds_toArray,List.set_cons_succ,List.set_cons_zero]
  obtain⟨a6,n6,c6,rfl⟩:=(dr.out _).1 fo
  iterate 3 (refine aH a8.out rfl rfl ?_;go_big_quiet_step (fail);refine wpQuiet_nil ?_)
  refine bY rfl rfl (λgs w' U A o=>?_) (λhK e3=>?_)
  ·have h6:=A 6 _ (.inr ⟨rfl,rfl⟩) (zQ0 (by kernel_rfl))
   obtain⟨-,hA⟩:=U.ahead (.inr (.inl rfl)) o
   obtain⟨u,f,r1,r2,r3,r4⟩:=dl.out w' (hA.still o)
   refine⟨u,f,?_,(b4.out _).2 r4,U.put10 o h6 a9.out dn.out r3 r2⟩
   unfold execOp
   simp only[resolve,invoke,builtin,Sem.run_bind,Sem.run_pure,Result.andThen_ok,List.map_toArray,List.map_cons,List.map_nil]
   exact (congrArg (λr=>Result.andThen r λv w=>.ok (Next.value v) w) r1)
  simp only[Act.put,List.setIfInBounds_toArray,List.set_cons_succ,List.set_cons_zero]
  obtain⟨e5,e6,rfl⟩:=(b4.out _).1 e3
  refine eB rfl rfl (λgs w' U A o=>?_) (λhL h5=>?_)
  ·have h6:=A 6 _ (.inl (.inr ⟨rfl,rfl⟩)) (zQ0 (by kernel_rfl))
   have e7:=A 10 _ (.inr ⟨rfl,rfl⟩) (zQ0 (by kernel_rfl))
   obtain⟨-,hA⟩:=U.ahead (.inr (.inr rfl)) o
   have aa:=(hA.below.block _ ao).trans d2.out
   obtain⟨hM,hO,hP,hR⟩:=aO aa
   refine⟨(w'.setCell ⟨w.heap.size+1,0,none⟩ (.slice a6 n6 c6)).setCell ⟨w.heap.size+1,1,none⟩ (.slice none 0 0),?_,ds.out,U.store o h6 e7⟩
   clear U A o q0 q1 a8 dv h6 e7 hA aa
   go_simp
  simp only[Act.put,List.setIfInBounds_toArray,List.set_cons_succ,List.set_cons_zero]
  refine aH a8.out rfl rfl ?_;go_big_quiet_step (fail);refine wpQuiet_nil ?_
  refine dF ?_
  intro w4 U
  obtain⟨w0,p,e4,hp,bx,a7,b7⟩:=U.done (.inr ⟨rfl,rfl⟩) (.inl (.inr ⟨rfl,rfl⟩))
  obtain⟨e8,b8⟩:=dp.out _ _ a7 b7
  have aa:=(bx.block _ ao).trans d2.out
  obtain⟨j0,j1,j2⟩:=gJ (u:=p) (v:=.slice none 0 0) aa
  rw[<-e4] at j0 j1 j2
  obtain⟨ea,ec,ee⟩:=hp.shape
  subst ee
  obtain⟨y0,y1,-,-⟩:=aO j0
  have b5:=a9.out
  have HE:Hid (bL w.heap.size w4 (.agg #[.slice ea X.length ec,.slice none 0 0]) (X,[])/\bX w4.heap.size w4 (.slice e5 (D+T) e6) (L++M)/\Below w.heap.size w w4):=by
   refine⟨iY ((hp.keep j1 (by omega) j2).mono a4.out.size) (uK _ _),?_,?_⟩
   ·refine yo (L:=C.heap.size) (xs:=E++ys) ?_ (e8.imp λ_ _ h=>(h.keep j1 ao j2).kept).toR
    exact ct b8 λg dc hU hc=>j1 g (by omega)
   ·rw[e4]
    exact cz (a4.out.trans (bx.mono (by omega))) (by omega) _ _
  generalize X.length=n1 at*
  clear U e4 bx a7 b7 e8 b8 hp aa j0 j1 j2 q0 q1 a8 dv
  go_wp2_with fail
  refine bodyPost_ret (v:=.tuple #[.agg #[.slice ea n1 ec,.slice none 0 0],.slice e5 (D+T) e6,.int .i64 0]) ?_ rfl ⟨_,_,rfl,by rw[a0.out.1];exact HE.out.1,by rw[a0.out.2];exact HE.out.2.1,HE.out.2.2⟩
  rw[dC rfl]
  go_simp
 ·have hq:(DE != 0)=true:=by simpa using hE
  have HS:Hid (fX (s,t)=([],[])/\cR (s,t)=[]):=⟨by unfold fX;rw[if_neg (by rw[J.out];exact hE)],by unfold cR;rw[if_neg (by rw[J.out];exact hE)]⟩
  have HF:Hid (∀ x y,Below w.heap.size w ((C.setCell ⟨w.heap.size+1,0,none⟩ x).setCell ⟨w.heap.size+1,1,none⟩ y)):=λx y=>cz O (by omega) x y
  clear G0 G1 O hs ht hd J hB b9 c8 c9 I hE
  go_wp2_with fail
  refine bodyPost_ret (v:=.tuple #[.agg #[.slice none 0 0,.slice none 0 0],.slice none 0 0,.int .i64 DE]) ?_ rfl ⟨_,_,rfl,by rw[HS.out.1];exact dz _ _,by rw[HS.out.2];exact⟨none,0,rfl,Nat.le_refl _,Nat.zero_le _,λi b l=>by simp at l⟩,HF.out _ _⟩
  rw[dC rfl]
  go_simp
end Go.Proofs.YtnpdhopjpjickaaGreatDoor
end
section
set_option linter.all false
namespace Go.Proofs.YtnpdhopjpjickaaGreatDoor
open Go.RowKit Go.Maps
end Go.Proofs.YtnpdhopjpjickaaGreatDoor
end
