import Derived.Test.YtnpdhopjpjickaaGreatDoorWj01
import Derived.Test.YtnpdhopjpjickaaGreatDoorWj46
import Derived.Test.YtnpdhopjpjickaaGreatDoorWj38
set_option linter.all false
set_option maxRecDepth 100000
namespace Go.Proofs.YtnpdhopjpjickaaGreatDoor
open Go.RowKit Go.Maps
set_option maxHeartbeats 4000000 in
theorem Bx (B:Nat) (i:Value) (x:aq) (w:World) (I:dX w) (J:aC B w i x) (o:B<=w.heap.size) (p:lm x.2.1):
  Calls Tryz.prog 4 #[i] w λe a=>e=.returned (.bool true)/\Below w.heap.size w a:=by
 have HX:Hid (∀ a,Below w.heap.size w a->aC B a i x):=λa h=>J.later h o
 have HE:Hid (∀ a,Below w.heap.size w a->dX a):=λa h=>I.later h
 have q:Hid (∀ a,Below w.heap.size w a->Calls Tryz.prog 12 #[] a λe b=>e=.returned (.bool true)/\Below a.heap.size a b):=λa h=>mw a (I.later h)
 have M:Hid (∀ a,Below w.heap.size w a->Calls Tryz.prog 13 #[i] a λe b=>e=.returned (.int .i64 (cg x))/\Below a.heap.size a b):=λa h=>kt B i x a (I.later h) (J.later h o) (Nat.le_trans o h.size) p
 have r:Hid (∀ a,Below w.heap.size w a->Calls Tryz.prog 9 #[i,.agg #[.int .i64 5,.int .i64 0,.int .i64 0,.slice none 0 0,.int .i64 0]] a λe b=>∃ k,e=.returned (.tuple #[k,.int .i64 (fI x fz)])/\aC b.heap.size b k (fp x fz)/\Below a.heap.size a b):=λa h=>mI B i _ x fz a (I.later h) (J.later h o) (zq 5 (by unfold wf;decide)) (Nat.le_trans o h.size) p
 have N:Hid (∀ a v y,Below w.heap.size w a->aC a.heap.size a v y->lm y.2.1->Calls Tryz.prog 9 #[v,.agg #[.int .i64 6,.int .i64 0,.int .i64 0,.slice none 0 0,.int .i64 0]] a λe b=>∃ k,e=.returned (.tuple #[k,.int .i64 (fI y fB)])/\aC b.heap.size b k (fp y fB)/\Below a.heap.size a b):=λa v y h s hs=>mI a.heap.size v _ y fB a (I.later h) s (zq 6 (by unfold wf;decide)) (Nat.le_refl _) hs
 have O:Hid (∀ a v y,Below w.heap.size w a->aC a.heap.size a v y->Calls Tryz.prog 14 #[v,i] a λe b=>e=.returned (.bool (decide (y=x)))/\Below a.heap.size a b):=λa v y h s=>mB a.heap.size v i y x a s ((J.later h o).wide (Nat.le_trans o h.size)) (Nat.le_refl _)
 have HP:Hid (cg x=0->x.2.2=true->fI x fz=0/\(fp x fz).2.2=false/\fI (fp x fz) fB=0/\fp (fp x fz) fB=x):=λh hu=>vp h hu
 obtain⟨P,Q,R,S,T,U,rfl,-,-⟩:=J.shape
 obtain⟨l,g,u⟩:=x
 simp only at*
 generalize l.length=V at*
 generalize g.1.length=Z at*
 generalize g.2.length=nT at*
 obtain⟨W0,j⟩:∃ W,W=w.alloc (.cells #[.slice P V Q,.slice R Z S,.slice T nT U,.bool u] 27):=⟨_,rfl⟩
 have b0:Below w.heap.size w W0:=by rw[j];exact (Below.refl _ _).alloc (Nat.le_refl _) _
 have g0:W0.heap[w.heap.size]?=some (.cells #[.slice P V Q,.slice R Z S,.slice T nT U,.bool u] 27 (0,0)):=by rw[j];exact af _ _
 have HG:Hid (∀ a,Below W0.heap.size W0 a->a.heap[w.heap.size]?=some (.cells #[.slice P V Q,.slice R Z S,.slice T nT U,.bool u] 27 (0,0))/\Below w.heap.size w a):=λa h=>⟨(h.block _ (lt_of_block g0)).trans g0,Below.thenOf b0 h b0.size⟩
 have bq:=hid j
 have br:=hid b0
 generalize cg (l,g,u)=we at*
 clear J I p j b0 g0
 go_enter Tryz.func4,Tryz.ntmps4
 go_wp2_with fail
 rw[<-bq.out]
 go_at_call 12
 refine Calls.mono (q.out W0 br.out) ?_
 rintro e w1 ⟨rfl,b1⟩
 obtain⟨g1,a8⟩:=HG.out w1 b1
 obtain⟨⟨x0,x1,x2,x3⟩,-⟩:=dD g1
 have B1:=hid b1
 have a9:=hid a8
 clear b1 g1 a8
 go_wp2_with fail
 go_at_call 13
 refine Calls.mono (M.out w1 a9.out) ?_
 rintro e w2 ⟨rfl,b2⟩
 have t:=Below.thenOf B1.out b2 B1.out.size
 obtain⟨g2,aa⟩:=HG.out w2 t
 clear x0 x1 x2 x3
 obtain⟨⟨x0,x1,x2,x3⟩,-⟩:=dD g2
 have B2:=hid t
 have d:=hid aa
 clear b2 t g2 aa B1 a9 M
 by_cases z:we=0/\u=true
 case neg=>
  have hq:(we != 0)=true\/((we != 0)=false/\u=false):=by
   by_cases h:we=0
   ·exact .inr ⟨by simpa using h,by
     cases u with
     | false=>rfl
     | true=>exact absurd ⟨h,rfl⟩ z⟩
   ·exact .inl (by simpa using h)
  clear z HP
  rcases hq with hq | ⟨hq,rfl⟩
  all_goals
   go_wp2_with fail
   go_at_call 12
   refine Calls.mono (q.out w2 d.out) ?_
   rintro e K ⟨rfl,L⟩
   have c7:Hid (Below w.heap.size w K):=Below.thenOf d.out L d.out.size
   clear L
   go_wp2_with fail
   go_ret
   exact⟨rfl,c7.out⟩
 case pos=>
  obtain⟨rfl,rfl⟩:=z
  obtain⟨p1,p2,p3,p4⟩:=HP.out rfl rfl
  have ac:Hid (lm (fp (l,g,true) fz).2.1):=Ed
  rw[p1] at r
  have m:Hid (∀ a v,Below w.heap.size w a->aC a.heap.size a v (fp (l,g,true) fz)->Calls Tryz.prog 9 #[v,.agg #[.int .i64 6,.int .i64 0,.int .i64 0,.slice none 0 0,.int .i64 0]] a λe b=>∃ k,e=.returned (.tuple #[k,.int .i64 0])/\aC b.heap.size b k (l,g,true)/\Below a.heap.size a b):=λa v h s=>by
   have:=N.out a v _ h s ac.out
   rw[p3,p4] at this
   exact this
  have ad:Hid (∀ a v,Below w.heap.size w a->aC a.heap.size a v (l,g,true)->Calls Tryz.prog 14 #[v,.agg #[.slice P V Q,.slice R Z S,.slice T nT U,.bool true]] a λe b=>e=.returned (.bool true)/\Below a.heap.size a b):=λa v h s=>by
   have:=O.out a v _ h s
   rw[decide_eq_true rfl] at this
   exact this
  obtain⟨Y,hY⟩:∃ Y,Y=fp (l,g,true) fz:=⟨_,rfl⟩
  rw[<-hY] at r m p2
  have c9:=hid p2
  clear hY p1 p2 p3 p4 HP ac N O q
  go_wp2_with fail
  go_at_call 9
  refine Calls.mono (r.out w2 d.out) ?_
  rintro e K ⟨v3,rfl,A,L⟩
  obtain⟨a1,c1,a2,c2,a3,c3,ev,-,-⟩:=A.shape
  rw[c9.out] at ev
  subst ev
  generalize Y.1.length=n1 at*
  generalize Y.2.1.1.length=n2 at*
  generalize Y.2.1.2.length=n3 at*
  have C:Below w.heap.size w K:=Below.thenOf d.out L d.out.size
  have D:=Below.thenOf B2.out L B2.out.size
  obtain⟨W4,E⟩:∃ W,W=K.alloc (.cells #[.slice a1 n1 c1,.slice a2 n2 c2,.slice a3 n3 c3,.bool false] 27):=⟨_,rfl⟩
  have f:Below K.heap.size K W4:=by rw[E];exact (Below.refl _ _).alloc (Nat.le_refl _) _
  have F:=Below.thenOf C f C.size
  have ao:=Below.thenOf D f D.size
  have av:Hid _:=m.out W4 _ F ((A.later f (Nat.le_refl _)).wide f.size)
  have b4:=hid E
  have b7:=hid F
  have b8:=hid ao
  clear A L C D E f F ao x0 x1 x2 x3
  go_wp2_with fail
  rw[<-b4.out]
  go_at_call 9
  refine Calls.mono av.out ?_
  rintro e n ⟨v5,rfl,G,b5⟩
  have c:Below w.heap.size w n:=Below.thenOf b7.out b5 b7.out.size
  have H:=Below.thenOf b8.out b5 b8.out.size
  obtain⟨a4,c4,a5,c5,a6,c6,ev,-,-⟩:=G.shape
  simp only at ev
  subst ev
  generalize l.length=m1 at*
  generalize g.1.length=m2 at*
  generalize g.2.length=m3 at*
  have b9:Hid (∀ a,Below n.heap.size n a->Calls Tryz.prog 14 #[.agg #[.slice a4 m1 c4,.slice a5 m2 c5,.slice a6 m3 c6,.bool true],.agg #[.slice P V Q,.slice R Z S,.slice T nT U,.bool true]] a λe b=>e=.returned (.bool true)/\Below w.heap.size w b):=λa h=>(ad.out a _ (Below.thenOf c h c.size) ((G.later h (Nat.le_refl _)).wide h.size)).mono λe b ⟨h1,h2⟩=>⟨h1,Below.thenOf (Below.thenOf c h c.size) h2 (Below.thenOf c h c.size).size⟩
  obtain⟨⟨x0,x1,x2,x3⟩,-⟩:=dD (HG.out n H).1
  have l5:=lt_of_block (HG.out n H).1
  have ba:∀ X,Below n.heap.size n (n.alloc X):=λX=>(Below.refl _ _).alloc (Nat.le_refl _) X
  have cd:Hid _:=ba
  clear G b5 c H av b4 ba
  go_wp2_with fail
  go_at_call 14
  refine Calls.mono (b9.out _ (cd.out _)) ?_
  rintro e w6 ⟨rfl,b6⟩
  have ce:=hid b6
  clear b6
  go_wp2_with fail
  go_ret
  exact⟨rfl,ce.out⟩
end Go.Proofs.YtnpdhopjpjickaaGreatDoor
