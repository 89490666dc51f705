/- Joined: CatR PtD2. -/
import Derived.Test.YtnpdhopjpjickaaGreatDoorWj01
import Derived.Test.YtnpdhopjpjickaaGreatDoorWj16
import Derived.Lib.AppendZerosOnto
import Derived.Lib.AppendZeros
import Derived.Test.YtnpdhopjpjickaaGreatDoorWj12
import Derived.Maps.AppendAt
import Derived.Lib.OwnBridge
import Derived.Lib.RowBridge
import Derived.Great.BuildSlice
section
set_option linter.all false
set_option maxRecDepth 100000
namespace Go.Proofs.YtnpdhopjpjickaaGreatDoor
open Go.RowKit Go.Maps
theorem pl:∃ i,Tryz.prog.info? 142=some i/\i.zero=some (.agg #[.slice none 0 0,.int .i64 0])/\i.size=2/\i.bytes=32:=fD (by kernel_rfl)
theorem E7 {B:Nat} {w:World} {d:List ai} {b o:Nat} (h:∀ i r,d[i]?=some r->gF B w b (o+i*2) r):∃ c,jP B w c d/\∀ j u,c[j]?=some u->w.cell? ⟨b,o+j,none⟩=some u:=by
 have e:∀ j,j<d.length*2->∃ v,w.cell? ⟨b,o+j,none⟩=some v/\v.oneCell'=true:=by
  intro j f
  obtain⟨r,g⟩:∃ r,d[j / 2]?=some r:=⟨d[j / 2]'(by omega),by simp⟩
  obtain⟨l,m,n,_,p⟩:=h _ r g
  by_cases D:j % 2=0
  ·refine⟨l,?_,?_⟩
   ·rw[show o+j=o+j / 2*2 by omega];exact m
   ·obtain⟨a,y,rfl,_⟩:=p;rfl
  ·exact⟨_,by rw[show o+j=o+j / 2*2+1 by omega];exact n,rfl⟩
 obtain⟨c,z,k⟩:=ic _ _ e
 refine⟨c,⟨z,λu A=>?_,λi r g=>?_⟩,λj u f=>(k j u f).1⟩
 ·obtain⟨j,f⟩:=List.mem_iff_getElem?.1 A
  exact (k j u f).2
 ·have E:i<d.length:=(List.getElem?_eq_some_iff.1 g).1
  obtain⟨l,m,n,C,p⟩:=h i r g
  obtain⟨F,q⟩:∃ v,c[i*2]?=some v:=⟨c[i*2]'(by omega),by simp⟩
  obtain⟨G,s⟩:∃ v,c[i*2+1]?=some v:=⟨c[i*2+1]'(by omega),by simp⟩
  have t:=(k _ _ q).1
  have x:=(k _ _ s).1
  rw[m] at t
  rw[show o+(i*2+1)=o+i*2+1 by omega,n] at x
  cases t
  cases x
  exact⟨l,q,s,C,p⟩
theorem oV {B L:Nat} {w:World} {v:Value} {xs:List Value} {f:List ai} (h:w.ownsRow L 142 2 v f.length xs) (p:jP B w xs f) (H:B<=w.heap.size):be w.heap.size w v f:=by
 obtain⟨a,j,rfl,q,s,t⟩:=ax h
 refine⟨a,j,rfl,q,s,λi r n=>?_⟩
 have I:i<f.length:=(List.getElem?_eq_some_iff.1 n).1
 obtain⟨g,rfl,u,l⟩:=t (by omega)
 obtain⟨x,y,z,A,m⟩:=p.2.2 i r n
 refine⟨g,0,rfl,l,x,?_,?_,A,?_⟩
 ·rw[Nat.zero_add];exact aL h _ _ y
 ·rw[Nat.zero_add];exact aL h _ _ z
 ·obtain⟨C,d,D,E,F,G⟩:=m
  refine⟨C,d,D,E,F,λi c m=>?_⟩
  obtain⟨b,o,e,J,k⟩:=G i c m
  exact⟨b,o,e,by omega,k⟩
set_option maxHeartbeats 4000000 in
theorem Ba (n:Nat) (w:World) (u:n*32<=140737488355328):
  Calls Tryz.prog 287 #[.slice none 0 0,.int .i64 n] w λe q=>∃ v,e=.returned v/\q.ownsRow w.heap.size 142 2 v 0 []/\Below w.heap.size w q:=by
 have j:=ag
 by_cases r:n=0
 ·subst r
  go_enter Tryz.func287,Tryz.ntmps287
  go_wp2
  go_ret
  exact⟨_,rfl,⟨rfl,.inl ⟨rfl,rfl⟩⟩,Below.refl _ _⟩
 ·obtain⟨b,k,c,s,d⟩:=pl
  have x:¬((n:Int)<0):=by omega
  have y:(n:Int)>0:=by omega
  obtain⟨G,i⟩:∃ G,G=grownCap w n 0 142:=⟨_,rfl⟩
  have t:n<=G:=by rw[i];exact grownCap_ge w _ _ _
  have a:G<=maxLen:=by rw[i];exact grownCap_le_maxLen w n 0 _ (by omega)
  obtain⟨z,l⟩:∃ z:Value,z=.agg #[.slice none 0 0,.int .i64 0]:=⟨_,rfl⟩
  have m:z.cells.size=2:=by rw[l];rfl
  rw[<-l] at c
  have o:∀ p,(Builtin.append_ #[28,3] p #[.slice none 0 0,.int .i64 n]).run Tryz.prog w=
    .ok (.slice (some ⟨w.heap.size,0,none⟩) n G) (w.drew.alloc (.cells ((Builtin.zeroCells z.cells n)++Builtin.zeroCells z.cells (G-n)) 142)):=λp=>by
   have h:=Lib.run_append_grow_zeros w 28 3 p 142 b z .i64 .i64 Tryz.underlying28 Tryz.underlying3 k c none 0 0 [] (run_firstCells_none w.drew b.size 0 0 0) n (by omega) (by omega) (by omega) (by omega)
    (by rw[d];omega)
    (by rw[Nat.zero_add];exact growslice_fits (by omega) (by rw[d];omega))
   simpa [<-i] using h
  have f:Hid ((w.drew.alloc (.cells ((Builtin.zeroCells z.cells n)++Builtin.zeroCells z.cells (G-n)) 142)).ownsRow w.heap.size 142 2 (.slice (some ⟨w.heap.size,0,none⟩) 0 G) 0 []):=by
   refine⟨rfl,.inr ⟨w.heap.size,G,_,rfl,Nat.le_refl _,(MapKept.heap_alloc w.drew _).1,Nat.zero_le _,a,?_,by simp⟩⟩
   rw[Array.size_append,size_zeroCells,size_zeroCells,m,<-Nat.add_mul]
   congr 1
   omega
  have g:Hid (Below w.heap.size w (w.drew.alloc (.cells ((Builtin.zeroCells z.cells n)++Builtin.zeroCells z.cells (G-n)) 142))):=(Below.refl _ _).drew.alloc (Nat.le_refl _) _
  clear i l
  rw[j] at a
  generalize (Builtin.zeroCells z.cells n)++Builtin.zeroCells z.cells (G-n)=A at*
  go_enter Tryz.func287,Tryz.ntmps287
  go_wp2_with (at_builtin;refine Lib.wpList_append_run _ rfl _ _ _ _ rfl _ _ rfl rfl _ _ (o _) ?_)
  go_ret
  exact⟨_,rfl,f.out,g.out⟩
def gV (B:Nat) (w:World) (v:Value) (d:List ai):Prop:=
 ∃ a c,v=.slice a d.length c/\d.length<=c/\c<=maxLen/\∀ i r,d[i]?=some r->∃ b o,a=some ⟨b,o,none⟩/\gF B w b (o+i*2) r
theorem be.conds {B:Nat} {w:World} {v:Value} {d:List ai} (h:be B w v d):gV B w v d:=by
 obtain⟨a,c,f,g,j,l⟩:=h
 refine⟨a,c,f,g,j,λi r m=>?_⟩
 obtain⟨b,o,e,_,k⟩:=l i r m
 exact⟨b,o,e,k⟩
theorem gV.later {B:Nat} {w w':World} {v:Value} {f:List ai} (h:gV B w v f) (c:Below w.heap.size w w') (k:B<=w.heap.size):gV B w' v f:=by
 obtain⟨a,d,l,m,n,q⟩:=h
 refine⟨a,d,l,m,n,λi r s=>?_⟩
 obtain⟨b,o,e,t,g,j,u,x⟩:=q i r s
 exact⟨b,o,e,t,(c.cell (p:=⟨b,o+i*2,none⟩) (World.block_lt_of_cell? _ _ g)).trans g,(c.cell (p:=⟨b,o+i*2+1,none⟩) (World.block_lt_of_cell? _ _ j)).trans j,u,x.later c k⟩
theorem jp (B d:Nat) (Q:TypeId) (v sv:Value) (n:Nat) (xs:List Value) (m:List ai) (W:World) (f:W.ownsRow d 142 2 v n xs) (T:gV B W sv m) (U:(n+m.length)*32<=140737488355328) (p:d<=W.heap.size):
  ∃ E y z,(Builtin.append_ #[28,28] Q #[v,sv]).run Tryz.prog W=.ok E y/\y.ownsRow d 142 2 E (n+m.length) (xs++z)/\jP B W z m/\Below d W y:=by
 obtain⟨A,q,G,H,I⟩:=pl
 obtain⟨a,C,rfl,V,X,s⟩:=T
 cases a with
 | none=>
  have Y:m=[]:=by
   cases m with
   | nil=>rfl
   | cons r l=>obtain⟨b,o,e,_⟩:=s 0 r rfl;cases e
  subst Y
  refine⟨v,W,[],?_,by simpa using f,⟨rfl,λu J=>(by cases J),λi r t=>(by simp at t)⟩,Below.refl _ _⟩
  have Z:v=.slice none 0 0\/∃ g c,v=.slice (some g) n c/\n<=c:=by
   rcases f.2 with ⟨h,_⟩ | ⟨g,c,K,h,_,_,h',_⟩
   ·exact .inl h
   ·exact .inr ⟨_,c,h,h'⟩
  have R:=run_firstCells_none (P:=Tryz.prog) W A.size 0 0 C
  rcases Z with rfl | ⟨g,c,rfl,L⟩
  ·simp[Builtin.append_,run_underlying Tryz.underlying28,sizeOf,typeInfo,q,Builtin.lenOf,R]
  ·simp[Builtin.append_,run_underlying Tryz.underlying28,sizeOf,typeInfo,q,Builtin.lenOf,R,L,storeCells]
 | some S=>
  obtain⟨z,w,x⟩:∃ xs,jP B W xs m/\∀ j u,xs[j]?=some u->W.cell? (S.add j)=some u:=by
   by_cases D:m=[]
   ·subst D
    exact⟨[],⟨rfl,λu J=>(by cases J),λi r t=>(by simp at t)⟩,λj u M=>(by simp at M)⟩
   ·obtain⟨r,t⟩:∃ r,m[0]?=some r:=by
     cases m with
     | nil=>exact absurd rfl D
     | cons r l=>exact⟨r,rfl⟩
    obtain⟨b,o,e,_⟩:=s 0 r t
    cases e
    obtain⟨xs,N,O⟩:=E7 (b:=b) (o:=o) λi r t=>by
     obtain⟨b',o',e,k⟩:=s i r t
     cases e
     exact k
    exact⟨xs,N,λj u M=>by rw[dL];exact O j u M⟩
  obtain⟨E,y,N,O,h3,h4⟩:=run_append_own (P:=Tryz.prog) W d 28 Q 142 A _ 2 32 Tryz.underlying28 q G H I rfl (by decide) v n xs f S m.length C z w.1 x w.2.1 (by rw[ag];omega) U p
  refine⟨E,y,z,N,O,w,(Below.refl _ _).grown h3 p λk F=>?_⟩
  rcases f.2 with ⟨h,_⟩ | ⟨g,c,K,h,hg,_⟩
  ·rw[h] at F;simp[Value.ownBlock] at F
  ·rw[h] at F;simp[Value.ownBlock] at F;omega
theorem gV.shapeR {B:Nat} {w:World} {v:Value} {c:List ai} (h:gV B w v c):∃ a b,v=.slice a c.length b/\c.length<=b:=by
 obtain⟨a,b,rfl,h,_⟩:=h
 exact⟨a,b,rfl,h⟩
set_option maxHeartbeats 4000000 in
theorem wS (B:Nat) (Y Z:Value) (c d:List ai) (bs:Nat) (w:World) (P:gV B w Y c) (y:gV B w Z d) (O:B<=w.heap.size) (E:bs<w.heap.size) (F:w.cell? ⟨bs,0,none⟩=some Y) (G:w.cell? ⟨bs,1,none⟩=some Z) (hn:(c.length+d.length)*32<=140737488355328):
  Calls Tryz.prog 283 #[.slice (some ⟨bs,0,none⟩) 2 2] w λe j=>∃ v,e=.returned v/\∃ n,j.ownsRow w.heap.size 142 2 v (c++d).length n/\jP B j n (c++d)/\Below w.heap.size w j:=by
 have H0:=hid P
 have H1:=hid y
 obtain⟨a0,H,Q,a2⟩:=P.shapeR
 obtain⟨a1,I,R,a3⟩:=y.shapeR
 have E0:=hid Q
 have E1:=hid R
 rw[Q] at F
 rw[R] at G
 have HC:Hid (∀ j,Below w.heap.size w j->j.cell? ⟨bs,0,none⟩=some (.slice a0 c.length H)/\j.cell? ⟨bs,1,none⟩=some (.slice a1 d.length I)):=λj h=>⟨(h.cell (p:=⟨bs,0,none⟩) E).trans F,(h.cell (p:=⟨bs,1,none⟩) E).trans G⟩
 clear Q R P y
 have ao:∀ k:Nat,k<=2->Hid ((([c,d].take k).flatten).length<=c.length+d.length):=λk hk=>by
  have o:k=0\/k=1\/k=2:=by omega
  rcases o with rfl | rfl | rfl<;>(unfold Hid;simp)
 generalize J:c.length=t at*
 generalize K:d.length=x at*
 have L:=hid J
 have S:=hid K
 clear J K
 go_enter Tryz.func283,Tryz.ntmps283
 go_wp2
 go_loop [3,11] (λsz i=>∃ k:Nat,k<=2/\i=.int .i64 k/\sz=.int .i64 (if k=0 then 0 else if k=1 then (t:Int) else ((t:Int)+x))) (λ_ i=>2-(intOf i).toNat)
 case atStart=>exact⟨0,by omega,rfl,rfl⟩
 case round=>
  obtain⟨k,hk,rfl,rfl⟩:=hrel
  have o:k=0\/k=1\/k=2:=by omega
  rcases o with rfl | rfl | rfl
  ·go_wp2
   exact⟨⟨1,by omega,rfl,by simp⟩,by simp[intOf]⟩
  ·have a5:¬((t:Int)+(x:Int)<0):=by omega
   have b0:wrap64 ((t:Int)+(x:Int))=(t:Int)+x:=by unfold wrap64;omega
   go_wp2
   exact⟨⟨2,by omega,rfl,by simp⟩,by simp[intOf]⟩
  ·have hG:Hid (∀ j,Calls Tryz.prog 287 #[.slice none 0 0,.int .i64 ((t:Int)+x)] j λe M=>∃ v,e=.returned v/\M.ownsRow j.heap.size 142 2 v 0 []/\Below j.heap.size j M):=λj=>by
    have:=Ba (t+x) j hn
    rw[show ((t+x:Nat):Int)=(t:Int)+x by omega] at this
    exact this
   go_wp2_with fail
   go_at_call 287
   refine Calls.mono (hG.out _) ?_
   rintro e w1 ⟨v,rfl,q,T⟩
   have HO:=hid q
   clear q
   go_wp2_with fail
   go_loopw [6,27] (λnv i wr=>∃ (k:Nat) (n:List Value),k<=2/\i=.int .i64 k/\Hid (wr.ownsRow w.heap.size 142 2 nv (([c,d].take k).flatten).length n)/\Hid (jP B wr n ([c,d].take k).flatten)/\Below w.heap.size w wr) (λ_ i _=>2-(intOf i).toNat)
   case atStart=>exact⟨0,[],by omega,rfl,HO,⟨rfl,λu hu=>(by cases hu),λi r hr=>(by simp at hr)⟩,T⟩
   case round=>
    obtain⟨k,n,hk,rfl,l,m,f⟩:=hrel
    obtain⟨c0,c1⟩:=HC.out _ f
    have o:k=0\/k=1\/k=2:=by omega
    rcases o with rfl | rfl | rfl
    ·obtain⟨U,z,N,g,a,s,b⟩:=jp B w.heap.size 28 _ _ 0 n c wr l.out (H0.out.later f O) (by rw[L.out];omega) f.size
     rw[E0.out] at g
     have A:Hid (z.ownsRow w.heap.size 142 2 U (([c,d].take 1).flatten).length (n++N)):=by
      unfold Hid
      have e:(([c,d].take 1).flatten).length=0+c.length:=by simp
      rw[e]
      exact a
     have C:Hid (jP B z (n++N) ([c,d].take 1).flatten):=by
      have:=(m.out.append s).later b O
      unfold Hid
      simpa using this
     have D:Below w.heap.size w z:=f.trans b
     clear a s b l m
     go_wp2_with (at_builtin;refine Lib.wpList_append_run _ rfl _ _ _ _ rfl _ _ rfl rfl _ _ g ?_)
     exact⟨⟨1,_,by omega,rfl,A,C,D⟩,by simp[intOf]⟩
    ·obtain⟨U,z,N,g,a,s,b⟩:=jp B w.heap.size 28 _ _ c.length n d wr (by have:=l.out;simpa using this) (H1.out.later f O) (by rw[L.out,S.out];omega) f.size
     rw[E1.out] at g
     have A:Hid (z.ownsRow w.heap.size 142 2 U (([c,d].take 2).flatten).length (n++N)):=by
      unfold Hid
      have e:(([c,d].take 2).flatten).length=c.length+d.length:=by simp
      rw[e]
      exact a
     have C:Hid (jP B z (n++N) ([c,d].take 2).flatten):=by
      have:=(m.out.append s).later b O
      unfold Hid
      simpa using this
     have D:Below w.heap.size w z:=f.trans b
     clear a s b l m
     go_wp2_with (at_builtin;refine Lib.wpList_append_run _ rfl _ _ _ _ rfl _ _ rfl rfl _ _ g ?_)
     exact⟨⟨2,_,by omega,rfl,A,C,D⟩,by simp[intOf]⟩
    ·have y:=l.out
     have V:=m.out
     have e:([c,d].take 2).flatten=c++d:=by simp
     rw[e] at y V
     have W:Hid _:=y
     have X:Hid _:=V
     clear l m y V e
     go_wp2
     go_ret
     exact⟨_,rfl,_,W.out,X.out,f⟩
end Go.Proofs.YtnpdhopjpjickaaGreatDoor
end
section
set_option linter.all false
set_option maxRecDepth 100000
namespace Go.Proofs.YtnpdhopjpjickaaGreatDoor
open Go.RowKit Go.Maps
theorem jB {P:Program} {t e:TypeId} {i:TypeInfo} {z:Value} {b f:Nat} {C:Array Oper} {r:List Oper} {o:Oper} {a:Act} {Q:Exit->Act->World->Prop} (w:World) (E:o.guard=none) (s x:Operand)
  (kf:o.op=.call { callee:=.builtin .append,args:=#[s,x],argTypes:=#[t,t] })
  (O:P.underlying t=some (.slice e)) (R:P.info? e=some i) (S:i.zero=some z) (A:i.size=b) (F:i.bytes=f) (G:z.cells.size=b) (H:0<b)
  (d:Nat) (v:Value) (n:Nat) (I:List Value) (T:a.eval s=v) (g m:Nat) (c:List Value) (U:a.eval x=.slice (some ⟨g,0,none⟩) m m)
  (W:World) {J:TypeId} (V:w=W.alloc (.cells c.toArray J)) (X:g=W.heap.size) (p:World) (L:Below p.heap.size p W) (y:p.ownsRow d e b v n I) (Y:c.length=m*b) (Z:∀ u∈c,u.oneCell'=true) (hm:n+m<=maxLen) (hn:(n+m)*f<=140737488355328) (l:d<=p.heap.size)
  (h:∀ B D,Hid (D.ownsRow d e b B (n+m) (I++c))->Below d p D->Hid (p.grownBy D v.ownBlock)->Hid (B.ownBlock=v.ownBlock\/∃ k,B.ownBlock=some k/\p.heap.size<=k)->wpList P C Q r (a.put o.dst B) D):wpList P C Q (o :: r) a w:=by
 subst V
 subst X
 have q:Below p.heap.size p (W.alloc (.cells c.toArray J)):=L.alloc L.size _
 obtain⟨B,M,r1,r2,r3,_,r5⟩:=run_append_own_at (P:=P) (W.alloc (.cells c.toArray J)) d t o.type e i z b f O R S A F G H v n I (au y q) ⟨W.heap.size,0,none⟩ m m c Y (λj u K=>by rw[dL,Nat.zero_add];exact ab (af W _) j (by simpa using K)) Z hm hn (Nat.le_trans l q.size)
 have N:p.grownBy M v.ownBlock:=World.grownBy.andThen (fG q v.ownBlock) r3 λj K=>.inr K
 refine Lib.wpList_append_run _ E s x _ _ kf _ _ T U _ _ r1 (h B M r2 ((Below.refl _ _).grown N l λk hk=>eS y k hk) N ?_)
 rcases r5 with e | e
 ·exact .inl e
 ·exact .inr ⟨_,e,q.size⟩
theorem kh {P:Program} {c:Array Oper} {b:List Oper} {o:Oper} {a:Act} {w:World} {Q:Exit->Act->World->Prop} (f:o.guard=none) (i:TypeId) (x y:Operand) (n:o.op=.store i x y)
  (g:Nat) (p:a.eval x=.pointer (some ⟨g,0,none⟩)) (v:Value) (q:a.eval y=v) (r:v.oneCell'=true) (t:TypeId) (d:Value) (j:w.heap[g]?=some (.cells #[d] t (0,0))) (s:(P.info? i).map (·.size)=some 1)
  (h:∀ l,l.heap[g]?=some (.cells #[v] t (0,0))->w.grownBy l (some g)->wpList P c Q b (a.put o.dst undef) l):wpList P c Q (o :: b) a w:=by
 subst q
 refine wpList_store_one f i x y n g p r t d j s (h _ ?_ ?_)
 ·have u:=lt_of_block j
  simp[World.setRow,Array.getElem?_modify,j]
 ·refine⟨rfl,rfl,rfl,by simp[World.setRow],λk z m=>?_⟩
  have:g≠k:=λe=>m (by rw[e])
  simp[World.setRow,Array.getElem?_modify,this]
def Ab (d b e c:Nat) (f:Int) (xs:List Int) (a:Value) (w:World):Prop:=
 w.heap[b]?=some (.cells #[.int .i64 f] 3 (0,0))/\w.heap[c]?=some (.cells #[.int .i64 (aF f)] 3 (0,0))/\
 w.heap[e]?=some (.cells #[a] 189 (0,0))/\w.ownsRow d 3 1 a xs.length (oh xs)/\a.ownBlock≠some b/\a.ownBlock≠some c
def CD (a b c d:Nat) (f:Int) (xs:List Int) (w:World):Prop:=∃ e,Ab a b c d f xs e w
theorem Ab.later {e b c d:Nat} {f:Int} {xs:List Int} {g:Value} {w w':World} (h:Ab e b c d f xs g w) (a:Below w.heap.size w w'):Ab e b c d f xs g w':=by
 obtain⟨i,j,k,l,m,n⟩:=h
 exact⟨(a.block b (lt_of_block i)).trans i,(a.block d (lt_of_block j)).trans j,(a.block c (lt_of_block k)).trans k,au l a,m,n⟩
theorem CD.later {a b c d:Nat} {f:Int} {xs:List Int} {w w':World} (h:CD a b c d f xs w) (e:Below w.heap.size w w'):CD a b c d f xs w':=by
 obtain⟨g,i⟩:=h
 exact⟨g,i.later e⟩
theorem Ab.put {l p c q:Nat} {f:Int} {xs:List Int} {x:Int} {w j:World} {s t:Value} (h:Ab l p c q f xs s w) (u:l<=c) (E:l<=w.heap.size)
  (r:w.grownBy j s.ownBlock) (N:j.ownsRow l 3 1 t (xs.length+1) (oh xs++[.int .i64 x])) (J:t.ownBlock=s.ownBlock\/∃ k,t.ownBlock=some k/\w.heap.size<=k):
  j.heap[c]?=some (.cells #[s] 189 (0,0))/\∀ m,m.heap[c]?=some (.cells #[t] 189 (0,0))->j.grownBy m (some c)->Ab l p c q f (xs++[x]) t m/\Below l w m/\∀ (b:Nat) (a:Array Value) (T:TypeId),T≠3->T≠189->w.heap[b]?=some (.cells a T (0,0))->m.heap[b]?=some (.cells a T (0,0)):=by
 obtain⟨v,y,z,F,K,L⟩:=h
 have n:j.heap[c]?=some (.cells #[s] 189 (0,0)):=by
  refine (r.block c (lt_of_block z) λe=>?_).trans z
  obtain⟨a,A⟩:=dh F c e.symm
  rw[z] at A
  cases A
 have B:j.heap[p]?=some (.cells #[.int .i64 f] 3 (0,0)):=(r.block p (lt_of_block v) λe=>K e.symm).trans v
 have C:j.heap[q]?=some (.cells #[.int .i64 (aF f)] 3 (0,0)):=(r.block q (lt_of_block y) λe=>L e.symm).trans y
 have O:p≠c:=λe=>by subst e;rw[z] at v;cases v
 have P:q≠c:=λe=>by subst e;rw[z] at y;cases y
 have Q:=r.size
 refine⟨n,λm R d=>⟨⟨(d.block p (lt_of_block B) λe=>O (Option.some.inj e)).trans B,(d.block q (lt_of_block C) λe=>P (Option.some.inj e)).trans C,R,?_,?_,?_⟩,?_,?_⟩⟩
 ·have:=ct (w':=m) N λg a _ o=>d.block g (lt_of_block o) λe=>by
   cases e
   rw[n] at o
   cases o
  simpa [oh] using this
 ·rcases J with e | ⟨k,e,D⟩
  ·rw[e];exact K
  ·rw[e];have:=lt_of_block v;intro h;cases h;omega
 ·rcases J with e | ⟨k,e,D⟩
  ·rw[e];exact L
  ·rw[e];have:=lt_of_block y;intro h;cases h;omega
 ·exact ((Below.refl l w).grown r E λk D=>eS F k D).grown d (by omega) λk D=>by cases D;exact u
 ·intro b a T G H I
  have i:j.heap[b]?=some (.cells a T (0,0)):=by
   refine (r.block b (lt_of_block I) λe=>?_).trans I
   obtain⟨M,A⟩:=dh F b e.symm
   rw[I] at A
   cases A
   exact G rfl
  refine (d.block b (lt_of_block i) λe=>?_).trans i
  cases e
  rw[n] at i
  cases i
  exact H rfl
set_option maxHeartbeats 8000000 in
theorem yR (o bf y bm:Nat) (f:Int) (c:aB) (xs:List Int) (w:World) (O:CD o bf y bm f xs w) (hc:aW c=0) (z:o<=y) (a2:o<=w.heap.size) (hx:xs.length<=13000000000000):
  Calls Tryz.prog 276 #[Cg c,.pointer (some ⟨bf,0,none⟩),.pointer (some ⟨y,0,none⟩),.pointer (some ⟨bm,0,none⟩)] w λe w'=>e=.returned (.tuple #[])/\CD o bf y bm f (xs++eA f c) w'/\Below o w w':=by
 obtain⟨b7,A,B,C,D⟩:=Dc
 obtain⟨⟨f0,f5⟩,⟨o1,o4⟩,⟨v0,vm⟩⟩:=eG hc
 have P:=jo c.1
 obtain⟨m,i,v⟩:=c
 simp only[] at f0 f5 o1 o4 v0 vm P
 have bk:=ag
 show Calls Tryz.prog 276 #[.agg #[.int .i64 m,.int .i64 i,.int .i64 v],.pointer (some ⟨bf,0,none⟩),.pointer (some ⟨y,0,none⟩),.pointer (some ⟨bm,0,none⟩)] w _
 have I:Below w.heap.size w (w.alloc (.cells #[.int .i64 m,.int .i64 i,.int .i64 v] 145)):=(Below.refl _ _).alloc (Nat.le_refl _) _
 obtain⟨vs,O⟩:=O
 have p:=O.later I
 have q:(w.alloc (.cells #[.int .i64 m,.int .i64 i,.int .i64 v] 145)).heap[w.heap.size]?=some (.cells #[.int .i64 m,.int .i64 i,.int .i64 v] 145 (0,0)):=af _ _
 have a:o<=(w.alloc (.cells #[.int .i64 m,.int .i64 i,.int .i64 v] 145)).heap.size:=by simp;omega
 obtain⟨va,vc,rfl,bo,bp,-⟩:=ax O.2.2.2.1
 have x0:=ab q 0 rfl
 have x1:=ab q 1 rfl
 have x2:=ab q 2 rfl
 have y0:=ab p.1 0 rfl
 have y1:=ab p.2.1 0 rfl
 have y2:=ab p.2.2.1 0 rfl
 have J:=hid p
 have HC:Hid _:=q
 have E:Hid (Below o w _):=I.mono a2
 clear O p q I
 by_cases F:m=f
 ·subst F
  have hq:(m != m)=false:=by simp
  have bs:IntKind.i64.wrap (v+1)=v+1:=IntWalk.i64_in _ (by omega)
  generalize Q:aF m=mf at y1 vm P
  have r:=hid Q
  clear Q
  by_cases n:(i=1\/i=2)/\v<mf
  ·have L:Hid (eA m (m,i,v)=[v,v+1]):=by unfold Hid eA;rw[if_pos rfl,r.out,if_pos n]
   have a5:v<mf:=n.2
   have b:True:=trivial
   have R:(i==1)=decide (i=1):=rfl
   clear R
   rcases n.1 with rfl | rfl
   all_goals
    clear n
    go_enter Tryz.func276,Tryz.ntmps276
    go_wp2_with (first
     | (at_builtin;have _t:=b;go_must (refine jB _ rfl _ _ rfl Tryz.underlying189 A B C D rfl (by decide) o _ _ _ rfl _ 1 [.int .i64 v] rfl _ rfl (by simp) _ (Below.refl _ _) J.out.2.2.2.1 rfl (by simp[Value.oneCell']) (by omega) (by omega) a ?_;intro v6 w6 d s j k;have g:=Ab.put (x:=v) J.out z a j.out d.out k.out;obtain⟨t,u⟩:=g;obtain⟨b6,c6,S,T,U,-⟩:=ax d.out;subst S;refine kh rfl _ _ _ rfl y rfl _ rfl rfl 189 _ t (by kernel_rfl) ?_;intro M G l;obtain⟨k1,k2,k3⟩:=u M G l;have h:=k3 _ _ _ (by decide) (by decide) HC.out;have t1:=ab h 1 rfl;have t2:=ab h 2 rfl;have V:=ab k1.2.1 0 rfl;rw[r.out] at V;have u2:=ab G 0 rfl;have H:=k2.size;have N:Hid _:=k1;have W:Hid _:=E.out.trans k2;have K3:Hid (o<=M.heap.size):=Nat.le_trans a H;clear b k1 k2 k3 u t j d k G l h s H))
     | (at_builtin;go_must (refine jB _ rfl _ _ rfl Tryz.underlying189 A B C D rfl (by decide) o _ _ _ rfl _ 1 [.int .i64 (v+1)] rfl _ rfl (by simp) _ (Below.refl _ _) N.out.2.2.2.1 rfl (by simp[Value.oneCell']) (by simp;omega) (by simp;omega) K3.out ?_;intro v8 w8 K a6 X Y;have g:=Ab.put (x:=v+1) N.out z K3.out X.out K.out Y.out;obtain⟨t,u⟩:=g;obtain⟨b8,c8,e8,-⟩:=ax K.out;subst e8;refine kh rfl _ _ _ rfl y rfl _ rfl rfl 189 _ t (by kernel_rfl) ?_;intro w9 h9 Z;obtain⟨m1,m2,-⟩:=u w9 h9 Z;have M1:Hid _:=m1;have M2:Hid _:=W.out.trans m2;clear m1 m2 u t X K Y h9 Z a6)))
    go_end0
    refine⟨rfl,?_,M2.out⟩
    rw[L.out,show xs++[v,v+1]=xs++[v]++[v+1] by simp]
    exact⟨_,M1.out⟩
  ·have L:Hid (eA m (m,i,v)=[v]):=by unfold Hid eA;rw[if_pos rfl,r.out,if_neg n]
   have b:True:=trivial
   have hD:((i=1\/i=2)/\¬v<mf)\/(¬i=1/\¬i=2):=by omega
   clear n
   rcases hD with ⟨hD,a5⟩ | ⟨ha,hb⟩
   ·rcases hD with rfl | rfl
    all_goals
     go_enter Tryz.func276,Tryz.ntmps276
     go_wp2_with (first
      | (at_builtin;have _t:=b;go_must (refine jB _ rfl _ _ rfl Tryz.underlying189 A B C D rfl (by decide) o _ _ _ rfl _ 1 [.int .i64 v] rfl _ rfl (by simp) _ (Below.refl _ _) J.out.2.2.2.1 rfl (by simp[Value.oneCell']) (by omega) (by omega) a ?_;intro v6 w6 d s j k;have g:=Ab.put (x:=v) J.out z a j.out d.out k.out;obtain⟨t,u⟩:=g;obtain⟨b6,c6,S,T,U,-⟩:=ax d.out;subst S;refine kh rfl _ _ _ rfl y rfl _ rfl rfl 189 _ t (by kernel_rfl) ?_;intro M G l;obtain⟨k1,k2,k3⟩:=u M G l;have h:=k3 _ _ _ (by decide) (by decide) HC.out;have t1:=ab h 1 rfl;have t2:=ab h 2 rfl;have V:=ab k1.2.1 0 rfl;rw[r.out] at V;have N:Hid _:=k1;have W:Hid _:=E.out.trans k2;clear b k1 k2 k3 u t j d k G l h s)))
     go_end0
     refine⟨rfl,?_,W.out⟩
     rw[L.out]
     exact⟨_,N.out⟩
   ·have q1:(i==1)=false:=by simpa using ha
    have q2:(i==2)=false:=by simpa using hb
    clear ha hb
    go_enter Tryz.func276,Tryz.ntmps276
    go_wp2_with (first
     | (at_builtin;have _t:=b;go_must (refine jB _ rfl _ _ rfl Tryz.underlying189 A B C D rfl (by decide) o _ _ _ rfl _ 1 [.int .i64 v] rfl _ rfl (by simp) _ (Below.refl _ _) J.out.2.2.2.1 rfl (by simp[Value.oneCell']) (by omega) (by omega) a ?_;intro v6 w6 d s j k;have g:=Ab.put (x:=v) J.out z a j.out d.out k.out;obtain⟨t,u⟩:=g;obtain⟨b6,c6,S,T,U,-⟩:=ax d.out;subst S;refine kh rfl _ _ _ rfl y rfl _ rfl rfl 189 _ t (by kernel_rfl) ?_;intro M G l;obtain⟨k1,k2,k3⟩:=u M G l;have h:=k3 _ _ _ (by decide) (by decide) HC.out;have t1:=ab h 1 rfl;have t2:=ab h 2 rfl;have V:=ab k1.2.1 0 rfl;rw[r.out] at V;have N:Hid _:=k1;have W:Hid _:=E.out.trans k2;clear b k1 k2 k3 u t j d k G l h s)))
    go_end0
    refine⟨rfl,?_,W.out⟩
    rw[L.out]
    exact⟨_,N.out⟩
 ·have hq:(m != f)=true:=by simpa using F
  have L:Hid (eA f (m,i,v)=[]):=by unfold Hid eA;rw[if_neg F]
  clear F
  go_enter Tryz.func276,Tryz.ntmps276
  go_wp2
  refine bodyPost_ret (results_none rfl _ _ _) rfl ?_
  refine⟨rfl,?_,E.out⟩
  rw[L.out,List.append_nil]
  exact⟨_,J.out⟩
end Go.Proofs.YtnpdhopjpjickaaGreatDoor
end
