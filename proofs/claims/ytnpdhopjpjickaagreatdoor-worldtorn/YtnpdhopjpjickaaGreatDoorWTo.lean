import Derived.Test.YtnpdhopjpjickaaGreatDoorWj01
import Derived.Test.YtnpdhopjpjickaaGreatDoorWj46
import Derived.Test.YtnpdhopjpjickaaGreatDoorWj38
import Derived.Test.YtnpdhopjpjickaaGreatDoorWj36
set_option linter.all false
set_option maxRecDepth 100000
namespace Go.Proofs.YtnpdhopjpjickaaGreatDoor
open Go.RowKit Go.Maps
set_option maxHeartbeats 8000000 in
theorem CW (B:Nat) (N pv:Value) (x:aq) (c:Int) (p:ap) (n:Int) (w:World) (he:dX w) (hx:aC B w N x) (hc:wf c) (hp:bG B w pv p) (hn:wf n) (O:B<=w.heap.size) (R:lm x.2.1):
  Calls Tryz.prog 5 #[N,.int .i64 c,pv,.int .i64 n] w λe a=>e=.returned (.bool true)/\Below w.heap.size w a:=by
 have S:Hid (∀ a,Below w.heap.size w a->Calls Tryz.prog 12 #[] a λe b=>e=.returned (.bool true)/\Below a.heap.size a b):=λa h=>mw a (he.later h)
 obtain⟨rv,ep,fl,bx⟩:=id hp
 obtain⟨ra,rc,er,-⟩:=id bx
 subst er ep
 obtain⟨f,d⟩:=p
 simp only at*
 have w0:wf (0:Int):=by unfold wf;decide
 have T:Hid (∀ a,Below w.heap.size w a->Calls Tryz.prog 9 #[N,.agg #[.int .i64 7,.int .i64 c,.int .i64 n,.slice ra f.length rc,.int .i64 d]] a λe b=>∃ P,e=.returned (.tuple #[P,.int .i64 (fI x (7,c,n,f,d))])/\aC b.heap.size b P (fp x (7,c,n,f,d))/\Below a.heap.size a b):=λa h=>mI B N _ x (7,c,n,f,d) a (he.later h) (hx.later h O) ⟨_,rfl,(by show wf (7:Int);unfold wf;decide),hc,hn,hp.later h O⟩ (Nat.le_trans O h.size) R
 have q:Hid (∀ a,Below w.heap.size w a->Calls Tryz.prog 9 #[N,.agg #[.int .i64 2,.int .i64 c,.int .i64 0,.slice ra f.length rc,.int .i64 d]] a λe b=>∃ P,e=.returned (.tuple #[P,.int .i64 (fI x (2,c,0,f,d))])/\aC b.heap.size b P (fp x (2,c,0,f,d))/\Below a.heap.size a b):=λa h=>mI B N _ x (2,c,0,f,d) a (he.later h) (hx.later h O) ⟨_,rfl,(by show wf (2:Int);unfold wf;decide),hc,w0,hp.later h O⟩ (Nat.le_trans O h.size) R
 have c0:Hid (∀ a v y,Below w.heap.size w a->aC a.heap.size a v y->lm y.2.1->Calls Tryz.prog 9 #[v,.agg #[.int .i64 6,.int .i64 0,.int .i64 0,.slice none 0 0,.int .i64 0]] a λe b=>∃ P,e=.returned (.tuple #[P,.int .i64 (fI y fB)])/\aC b.heap.size b P (fp y fB)/\Below a.heap.size a b):=λa v y h hv hs=>mI a.heap.size v _ y fB a (he.later h) hv (zq 6 (by unfold wf;decide)) (Nat.le_refl _) hs
 have cd:Hid (∀ a v y,Below w.heap.size w a->aC a.heap.size a v y->Calls Tryz.prog 14 #[v,N] a λe b=>e=.returned (.bool (decide (y=x)))/\Below a.heap.size a b):=λa v y h hv=>mB a.heap.size v N y x a hv ((hx.later h O).wide (Nat.le_trans O h.size)) (Nat.le_refl _)
 have ce:Hid (∀ a v y u z,aC a.heap.size a v y->aC a.heap.size a u z->Calls Tryz.prog 14 #[v,u] a λe b=>e=.returned (.bool (decide (y=z)))/\Below a.heap.size a b):=λa v y u z hv hu=>mB a.heap.size v u y z a hv hu (Nat.le_refl _)
 have HP:Hid (fI x (7,c,n,f,d)=0->fI (fp x (7,c,n,f,d)) fB=0/\(fp (fp x (7,c,n,f,d)) fB=x\/fI x (2,c,0,f,d)=0/\fp (fp x (7,c,n,f,d)) fB=fp x (2,c,0,f,d))):=λh=>zi h
 have U:Hid (lm (fp x (7,c,n,f,d)).2.1):=Ed
 obtain⟨ca,cc,sa,sc,ta,tc,rfl,-,-⟩:=hx.shape
 obtain⟨nP,cv⟩:∃ n,n=f.length:=⟨_,rfl⟩
 rw[<-cv] at T q |-
 obtain⟨Y,hY⟩:∃ Y,Y=fp x (7,c,n,f,d):=⟨_,rfl⟩
 obtain⟨ye,i⟩:∃ Y,Y=fI x (7,c,n,f,d):=⟨_,rfl⟩
 rw[<-hY,<-i] at T HP
 rw[<-hY] at U
 obtain⟨Z,hZ⟩:∃ Y,Y=fp x (2,c,0,f,d):=⟨_,rfl⟩
 obtain⟨ze,cx⟩:∃ Y,Y=fI x (2,c,0,f,d):=⟨_,rfl⟩
 rw[<-hZ,<-cx] at q HP
 generalize x.1.length=nC at*
 generalize x.2.1.1.length=nS at*
 generalize x.2.1.2.length=nT at*
 generalize x.2.2=u at*
 clear hx he R hp bx fl hc hn cv hY i hZ cx w0
 obtain⟨o,k⟩:∃ W,W=(w.alloc (.cells #[.slice ca nC cc,.slice sa nS sc,.slice ta nT tc,.bool u] 27)).alloc (.cells #[.slice ra nP rc,.int .i64 d] 30):=⟨_,rfl⟩
 have b0:Below w.heap.size w o:=by rw[k];exact ((Below.refl _ _).alloc (Nat.le_refl _) _).alloc (by simp) _
 have g0:o.heap[w.heap.size]?=some (.cells #[.slice ca nC cc,.slice sa nS sc,.slice ta nT tc,.bool u] 27 (0,0)):=by rw[k,Below.heap_alloc _ _ _ (by simp)];exact af _ _
 have g1:o.heap[w.heap.size+1]?=some (.cells #[.slice ra nP rc,.int .i64 d] 30 (0,0)):=by
  rw[k]
  have:=af (w.alloc (.cells #[.slice ca nC cc,.slice sa nS sc,.slice ta nT tc,.bool u] 27)) (.cells #[.slice ra nP rc,.int .i64 d] 30)
  rw[World.size_alloc] at this
  exact this
 have V:Hid (∀ a,Below o.heap.size o a->a.heap[w.heap.size]?=some (.cells #[.slice ca nC cc,.slice sa nS sc,.slice ta nT tc,.bool u] 27 (0,0))/\a.heap[w.heap.size+1]?=some (.cells #[.slice ra nP rc,.int .i64 d] 30 (0,0))/\Below w.heap.size w a):=λa h=>⟨(h.block _ (lt_of_block g0)).trans g0,(h.block _ (lt_of_block g1)).trans g1,Below.thenOf b0 h b0.size⟩
 have fr:=hid k
 have fs:=hid b0
 clear k b0 g0 g1
 go_enter Tryz.func5,Tryz.ntmps5
 go_wp2_with fail
 rw[<-fr.out]
 go_at_call 9
 refine Calls.mono (T.out o fs.out) ?_
 rintro e w1 ⟨v1,rfl,r,b1⟩
 obtain⟨a1,c1,a2,c2,a3,c3,ev,-,-⟩:=r.shape
 subst ev
 obtain⟨n1,dk⟩:∃ n,n=Y.1.length:=⟨_,rfl⟩
 obtain⟨n2,dn⟩:∃ n,n=Y.2.1.1.length:=⟨_,rfl⟩
 obtain⟨n3,dq⟩:∃ n,n=Y.2.1.2.length:=⟨_,rfl⟩
 obtain⟨u1,ds⟩:∃ n,n=Y.2.2:=⟨_,rfl⟩
 rw[<-dk,<-dn,<-dq,<-ds] at r |-
 obtain⟨W2,s⟩:∃ W,W=w1.alloc (.cells #[.slice a1 n1 c1,.slice a2 n2 c2,.slice a3 n3 c3,.bool u1] 27):=⟨_,rfl⟩
 have t:Below w1.heap.size w1 W2:=by rw[s];exact (Below.refl _ _).alloc (Nat.le_refl _) _
 have A:=Below.thenOf b1 t b1.size
 have g2:W2.heap[w1.heap.size]?=some (.cells #[.slice a1 n1 c1,.slice a2 n2 c2,.slice a3 n3 c3,.bool u1] 27 (0,0)):=by rw[s];exact af _ _
 have HY:Hid (∀ a,Below W2.heap.size W2 a->aC a.heap.size a (.agg #[.slice a1 n1 c1,.slice a2 n2 c2,.slice a3 n3 c3,.bool u1]) Y/\a.heap[w1.heap.size]?=some (.cells #[.slice a1 n1 c1,.slice a2 n2 c2,.slice a3 n3 c3,.bool u1] 27 (0,0))/\Below o.heap.size o a):=λa h=>by
  have h1:=Below.thenOf t h t.size
  exact⟨(r.later h1 (Nat.le_refl _)).wide h1.size,(h.block _ (lt_of_block g2)).trans g2,Below.thenOf A h A.size⟩
 have fT:=hid s
 have Q:Hid _:=S.out W2 (V.out W2 A).2.2
 clear r b1 s t A g2 dk dn dq ds
 go_wp2_with fail
 rw[<-fT.out]
 go_at_call 12
 refine Calls.mono Q.out ?_
 rintro e C ⟨rfl,b3⟩
 obtain⟨e2,g3,e3⟩:=HY.out C b3
 obtain⟨⟨y0,y1,y2,y3⟩,-⟩:=dD g3
 have l:=hid e3
 have g4:Hid (∀ a,Below C.heap.size C a->aC a.heap.size a (.agg #[.slice a1 n1 c1,.slice a2 n2 c2,.slice a3 n3 c3,.bool u1]) Y):=λa h=>(e2.later h (Nat.le_refl _)).wide h.size
 clear e2 g3 e3 b3 Q HY
 by_cases i:ye=0
 case neg=>
  have hq:(ye != 0)=true:=by simpa using i
  clear i HP
  go_wp2_with fail
  go_at_call 12
  refine Calls.mono (S.out C (V.out C l.out).2.2) ?_
  rintro e g ⟨rfl,b4⟩
  have a0:=(V.out C l.out).2.2
  have g6:Hid (Below w.heap.size w g):=Below.thenOf a0 b4 a0.size
  clear b4 a0
  go_wp2_with fail
  go_ret
  exact⟨rfl,g6.out⟩
 case pos=>
  subst i
  obtain⟨p1,p2⟩:=HP.out rfl
  have D:Hid _:=c0.out C _ Y (V.out C l.out).2.2 (g4.out C (Below.refl _ _)) U.out
  rw[p1] at D
  obtain⟨X,hX⟩:∃ X,X=fp Y fB:=⟨_,rfl⟩
  rw[<-hX] at D p2
  have aa:=hid p2
  clear p1 p2 hX HP c0 S U
  go_wp2_with fail
  go_at_call 9
  refine Calls.mono D.out ?_
  rintro e g ⟨v4,rfl,E,b4⟩
  have F:=Below.thenOf l.out b4 l.out.size
  obtain⟨a4,c4,a5,c5,a6,c6,ev,-,-⟩:=E.shape
  subst ev
  obtain⟨m1,e5⟩:∃ n,n=X.1.length:=⟨_,rfl⟩
  obtain⟨m2,e6⟩:∃ n,n=X.2.1.1.length:=⟨_,rfl⟩
  obtain⟨m3,e7⟩:∃ n,n=X.2.1.2.length:=⟨_,rfl⟩
  obtain⟨u4,e8⟩:∃ n,n=X.2.2:=⟨_,rfl⟩
  rw[<-e5,<-e6,<-e7,<-e8] at E |-
  obtain⟨W5,G⟩:∃ W,W=g.alloc (.cells #[.slice a4 m1 c4,.slice a5 m2 c5,.slice a6 m3 c6,.bool u4] 27):=⟨_,rfl⟩
  have H:Below g.heap.size g W5:=by rw[G];exact (Below.refl _ _).alloc (Nat.le_refl _) _
  have I:=Below.thenOf F H F.size
  have g5:W5.heap[g.heap.size]?=some (.cells #[.slice a4 m1 c4,.slice a5 m2 c5,.slice a6 m3 c6,.bool u4] 27 (0,0)):=by rw[G];exact af _ _
  have e9:Hid (∀ a,Below W5.heap.size W5 a->aC a.heap.size a (.agg #[.slice a4 m1 c4,.slice a5 m2 c5,.slice a6 m3 c6,.bool u4]) X/\a.heap[g.heap.size]?=some (.cells #[.slice a4 m1 c4,.slice a5 m2 c5,.slice a6 m3 c6,.bool u4] 27 (0,0))/\Below o.heap.size o a):=λa h=>by
   have h1:=Below.thenOf H h H.size
   exact⟨(E.later h1 (Nat.le_refl _)).wide h1.size,(h.block _ (lt_of_block g5)).trans g5,Below.thenOf I h I.size⟩
  have gb:=hid G
  have ea:Hid _:=q.out W5 (V.out W5 I).2.2
  obtain⟨e0,e1,-⟩:=V.out g F
  obtain⟨⟨x0,x1,x2,x3⟩,-⟩:=dD e0
  obtain⟨t0,t1,-,-⟩:=aO e1
  have l0:=lt_of_block e0
  have l1:=lt_of_block e1
  clear E b4 F G H I g5 e5 e6 e7 e8 e0 e1 y0 y1 y2 y3 D q
  go_wp2_with fail
  rw[<-gb.out]
  go_at_call 9
  refine Calls.mono ea.out ?_
  rintro e j ⟨v6,rfl,J,b6⟩
  obtain⟨a7,c7,a8,c8,a9,c9,ev,-,-⟩:=J.shape
  subst ev
  obtain⟨k1,eb⟩:∃ n,n=Z.1.length:=⟨_,rfl⟩
  obtain⟨k2,ec⟩:∃ n,n=Z.2.1.1.length:=⟨_,rfl⟩
  obtain⟨k3,ed⟩:∃ n,n=Z.2.1.2.length:=⟨_,rfl⟩
  obtain⟨u6,ee⟩:∃ n,n=Z.2.2:=⟨_,rfl⟩
  rw[<-eb,<-ec,<-ed,<-ee] at J |-
  obtain⟨bd,bf,ef⟩:=e9.out j b6
  obtain⟨e0,-,K⟩:=V.out j ef
  clear x0 x1 x2 x3 t0 t1 l0 l1
  obtain⟨⟨x0,x1,x2,x3⟩,-⟩:=dD e0
  obtain⟨⟨y0,y1,y2,y3⟩,-⟩:=dD bf
  have l0:=lt_of_block e0
  have l4:=lt_of_block bf
  have gr:Hid (∀ a,Below j.heap.size j a->Calls Tryz.prog 14 #[.agg #[.slice a4 m1 c4,.slice a5 m2 c5,.slice a6 m3 c6,.bool u4],.agg #[.slice ca nC cc,.slice sa nS sc,.slice ta nT tc,.bool u]] a λe b=>e=.returned (.bool (decide (X=x)))/\Below a.heap.size a b):=λa h=>cd.out a _ X (Below.thenOf K h K.size) ((bd.later h (Nat.le_refl _)).wide h.size)
  have bg:Hid (∀ a,Below j.heap.size j a->Calls Tryz.prog 14 #[.agg #[.slice a4 m1 c4,.slice a5 m2 c5,.slice a6 m3 c6,.bool u4],.agg #[.slice a7 k1 c7,.slice a8 k2 c8,.slice a9 k3 c9,.bool u6]] a λe b=>e=.returned (.bool (decide (X=Z)))/\Below a.heap.size a b):=λa h=>ce.out a _ X _ Z ((bd.later h (Nat.le_refl _)).wide h.size) ((J.later h (Nat.le_refl _)).wide h.size)
  have eg:=hid K
  clear J b6 bd bf ef e0 K eb ec ed ee e9 ea cd ce
  obtain⟨W7,L⟩:∃ W,W=j.alloc (.cells #[.slice a7 k1 c7,.slice a8 k2 c8,.slice a9 k3 c9,.bool u6] 27):=⟨_,rfl⟩
  have M:Below j.heap.size j W7:=by rw[L];exact (Below.refl _ _).alloc (Nat.le_refl _) _
  have g7:W7.heap[j.heap.size]?=some (.cells #[.slice a7 k1 c7,.slice a8 k2 c8,.slice a9 k3 c9,.bool u6] 27 (0,0)):=by rw[L];exact af _ _
  have ek:Hid (∀ a,Below W7.heap.size W7 a->(a.cell? ⟨g.heap.size,0,none⟩=some (.slice a4 m1 c4)/\a.cell? ⟨g.heap.size,1,none⟩=some (.slice a5 m2 c5)/\a.cell? ⟨g.heap.size,2,none⟩=some (.slice a6 m3 c6)/\a.cell? ⟨g.heap.size,3,none⟩=some (.bool u4))/\a.heap[j.heap.size]?=some (.cells #[.slice a7 k1 c7,.slice a8 k2 c8,.slice a9 k3 c9,.bool u6] 27 (0,0))/\Below j.heap.size j a/\Below w.heap.size w a):=λa h=>by
   have h6:=Below.thenOf M h M.size
   exact⟨⟨(h6.cell (p:=⟨g.heap.size,0,none⟩) l4).trans y0,(h6.cell (p:=⟨g.heap.size,1,none⟩) l4).trans y1,(h6.cell (p:=⟨g.heap.size,2,none⟩) l4).trans y2,(h6.cell (p:=⟨g.heap.size,3,none⟩) l4).trans y3⟩,(h.block _ (lt_of_block g7)).trans g7,h6,Below.thenOf eg.out h6 eg.out.size⟩
  have gv:=hid L
  have gA:=hid M
  clear L M g7
  go_wp2_with fail
  rw[<-gv.out]
  go_at_call 14
  refine Calls.mono (gr.out W7 gA.out) ?_
  rintro e w8 ⟨rfl,b8⟩
  obtain⟨⟨z0,z1,z2,z3⟩,gz,el,em⟩:=ek.out w8 b8
  obtain⟨⟨t0,t1,t2,t3⟩,-⟩:=dD gz
  have bk:=hid em
  have gW:=hid el
  clear b8 gz el em x0 x1 x2 x3 y0 y1 y2 y3 ek
  by_cases m:X=x
  ·rw[decide_eq_true m]
   clear m aa bg
   go_wp2_with fail
   go_ret
   exact⟨rfl,bk.out⟩
  ·rw[decide_eq_false m]
   obtain⟨hz,en⟩:=aa.out.resolve_left m
   subst hz
   rw[decide_eq_true en] at bg
   clear m aa en
   go_wp2_with fail
   go_at_call 14
   refine Calls.mono (bg.out w8 gW.out) ?_
   rintro e w9 ⟨rfl,b9⟩
   have h0:Hid (Below w.heap.size w w9):=Below.thenOf bk.out b9 bk.out.size
   clear b9
   go_wp2_with fail
   go_ret
   exact⟨rfl,h0.out⟩
end Go.Proofs.YtnpdhopjpjickaaGreatDoor
