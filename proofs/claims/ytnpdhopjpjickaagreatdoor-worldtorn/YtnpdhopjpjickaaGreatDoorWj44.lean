/- Joined: Wp5 Wp6 Wp7 Wp8. -/
import Derived.Test.YtnpdhopjpjickaaGreatDoorWj01
import Derived.Test.YtnpdhopjpjickaaGreatDoorWj43
section
set_option linter.all false
set_option maxRecDepth 100000
set_option maxHeartbeats 4000000
namespace Go.Proofs.YtnpdhopjpjickaaGreatDoor
open Go.RowKit Go.Maps
theorem mh {c:Func} {p u d:Tmp} {e:TypeId} (h:c.results=#[.tmp u,.cell p e,.tmp d]) (b:Array Value) (P:Program) (w:World):
  (results c b).run P w=((asAddr (b.getD p undef)).run P w).andThen λa f=>((loadVar e a).run P f).andThen λv g=>.ok (.tuple #[b.getD u undef,v,b.getD d undef]) g:=by
 simp only[results,h]
 simp[Sem.run_bind,Result.andThen]
def cN (x:aq) (r:al):Int:=if dj x.1 r=0 then eH x.2.1 r else dj x.1 r
def iz (x:aq) (r:al):List ay:=if cN x r=0 then ez x.1 r else []
def cq (x:aq) (r:al):bA:=if cN x r=0 then f6 x.2.1 r else ([],[])
def CX (K:Nat->Prop) (C:List ay) (D:bA) (E:Int) (w:World) (u:Value):Prop:=∃ a n c b d e f g h,u=.tuple #[.slice a n c,.agg #[.slice b d e,.slice f g h],.int .i64 E]/\y6 K w (.slice a n c) C/\Ac K w (.agg #[.slice b d e,.slice f g h]) D
theorem CX.of {K d:Nat->Prop} {C:List ay} {D:bA} {E:Int} {w w':World} {u:Value} (h:CX K C D E w u) (f:∀ b,Kx d w' b->Kx K w b):CX d C D E w' u:=by
 obtain⟨a,n,c,g,i,j,k,l,m,e,o,p⟩:=h
 exact⟨a,n,c,g,i,j,k,l,m,e,λb h=>o b (f b h),λb h=>p b (f b h)⟩
theorem AX (w:World) (g:Nat) (x y:Value):Below 0 w ((w.setCell ⟨g,0,none⟩ x).setCell ⟨g,1,none⟩ y):=cz (Below.refl _ _) (Nat.zero_le _) x y
theorem Kx.disk {K:Nat->Prop} {w a:World} {g:Nat} {x y u v:Value} {T:TypeId} (c:w.heap[g]?=some (.cells #[x,y] T (0,0))) (d:K g) (h:Kx K ((w.setCell ⟨g,0,none⟩ u).setCell ⟨g,1,none⟩ v) a):Kx K w a:=by
 obtain⟨-,f,i⟩:=gJ (u:=u) (v:=v) c
 exact h.put (AX _ _ _ _) (λb j=>f b λe=>j (by rw[e];exact d)) i
theorem wU (K:Nat->Prop) (w:World):Ac K w (.agg #[.slice none 0 0,.slice none 0 0]) ([],[]):=λ_ _=>(dz 0 _).at
theorem pr {w:World} {g:Nat} {x y:Value} {T:TypeId} (a:w.heap[g]?=some (.cells #[x,y] T (0,0))) (u v:Value):((w.setCell ⟨g,0,none⟩ u).setCell ⟨g,1,none⟩ v).heap[g]?=some (.cells #[u,v] T (0,0)):=(gJ a).1
theorem si (B:Nat) (wv rv:Value) (x:aq) (r:al) (w:World) (he:dX w) (hx:aC B w wv x) (hr:cV B w rv r) (I:B<=w.heap.size) (Y:lm x.2.1):
  Calls Tryz.prog 78 #[wv,rv] w λe g=>∃ v,e=.returned v/\CX (λk=>k<w.heap.size) (iz x r) (cq x r) (cN x r) g v/\Below w.heap.size w g:=by
 obtain⟨ca,cc,a,c,b,y,rfl,hc,hd⟩:=hx.shape
 obtain⟨pa,pc,b0,-⟩:=hr.shape
 have J:Hid (∀ g,Below w.heap.size w g->Calls Tryz.prog 101 #[.slice ca x.1.length cc,rv] g λe i=>∃ a n c,e=.returned (.tuple #[.slice a n c,.int .i64 (dj x.1 r)])/\qJ g.heap.size i (.slice a n c) (ez x.1 r)/\Below g.heap.size g i):=λg h=>(wl B _ rv x.1 r g (hc.later h I) (hr.later h I) (Nat.le_trans I h.size)).mono λe i ⟨v,h1,Z,h3⟩=>by
  obtain⟨a,c,e,-⟩:=Z.at.shape
  subst e
  exact⟨_,_,_,h1,Z,h3⟩
 have K:Hid (∀ g,Below w.heap.size w g->Calls Tryz.prog 111 #[.agg #[.slice a x.2.1.1.length c,.slice b x.2.1.2.length y],rv] g λe i=>∃ L R M S T y,e=.returned (.tuple #[.agg #[.slice L R M,.slice S T y],.int .i64 (eH x.2.1 r)])/\bL g.heap.size i (.agg #[.slice L R M,.slice S T y]) (f6 x.2.1 r)/\Below g.heap.size g i):=λg h=>(CT B _ rv x.2.1 r g (he.later h) (hd.later h I) (hr.later h I) (Nat.le_trans I h.size) Y).mono λe i ⟨v,h1,Z,h3⟩=>by
  obtain⟨L,M,b1,y,e⟩:=Z.at.shapeS
  subst e
  exact⟨_,_,_,_,_,_,h1,Z,h3⟩
 have F:Hid (cN x r=if dj x.1 r=0 then eH x.2.1 r else dj x.1 r):=rfl
 have U:Hid (iz x r=if cN x r=0 then ez x.1 r else []):=rfl
 have V:Hid (cq x r=if cN x r=0 then f6 x.2.1 r else ([],[])):=rfl
 obtain⟨C,d,u⟩:=x
 obtain⟨k,q,f,G,s⟩:=r
 subst b0
 simp only at*
 clear hd hc hx hr he Y I
 generalize dj C (k,q,f,G,s)=NE at*
 generalize ez C (k,q,f,G,s)=NR at*
 generalize eH d (k,q,f,G,s)=PE at*
 generalize f6 d (k,q,f,G,s)=PR at*
 generalize cN (C,d,u) (k,q,f,G,s)=WE at*
 generalize iz (C,d,u) (k,q,f,G,s)=WC at*
 generalize cq (C,d,u) (k,q,f,G,s)=WD at*
 generalize C.length=l at*
 generalize d.1.length=n at*
 generalize d.2.length=m at*
 generalize G.length=ln at*
 obtain⟨W,X⟩:∃ W,W=((w.alloc (.cells #[.slice ca l cc,.slice a n c,.slice b m y,.bool u] 27)).alloc (.cells #[.int .i64 k,.int .i64 q,.int .i64 f,.slice pa ln pc,.int .i64 s] 78)).alloc (.cells #[.slice none 0 0,.slice none 0 0] 25):=⟨_,rfl⟩
 have z:Below w.heap.size w W:=by rw[X];exact (((Below.refl _ _).alloc (Nat.le_refl _) _).alloc (by simp) _).alloc (by simp;omega) _
 have g0:W.heap[w.heap.size]?=some (.cells #[.slice ca l cc,.slice a n c,.slice b m y,.bool u] 27 (0,0)):=by rw[X];exact cj _ (cj _ (bT _ _ rfl))
 have g1:W.heap[w.heap.size+1]?=some (.cells #[.int .i64 k,.int .i64 q,.int .i64 f,.slice pa ln pc,.int .i64 s] 78 (0,0)):=by rw[X];exact cj _ (bT _ _ (by simp only[World.size_alloc]))
 have g2:W.heap[w.heap.size+1+1]?=some (.cells #[.slice none 0 0,.slice none 0 0] 25 (0,0)):=by rw[X];exact bT _ _ (by simp only[World.size_alloc])
 have HW:=hid X
 have HG:Hid (∀ g,Below W.heap.size W g->g.heap[w.heap.size]?=some (.cells #[.slice ca l cc,.slice a n c,.slice b m y,.bool u] 27 (0,0))/\g.heap[w.heap.size+1]?=some (.cells #[.int .i64 k,.int .i64 q,.int .i64 f,.slice pa ln pc,.int .i64 s] 78 (0,0))/\g.heap[w.heap.size+1+1]?=some (.cells #[.slice none 0 0,.slice none 0 0] 25 (0,0))/\Below w.heap.size w g):=λg h=>⟨(h.block _ (lt_of_block g0)).trans g0,(h.block _ (lt_of_block g1)).trans g1,(h.block _ (lt_of_block g2)).trans g2,Below.thenOf z h z.size⟩
 have a3:=hid z
 clear X z g0 g1 g2
 go_enter Tryz.func78,Tryz.ntmps78
 go_wp2_with fail
 rw[<-HW.out]
 go_at_call 101
 refine Calls.mono (J.out _ a3.out) ?_
 rintro e w1 ⟨na,nn,nc,rfl,N,j⟩
 obtain⟨G0,G1,t,A⟩:=HG.out w1 j
 obtain⟨x0,x1,x2,x3,-⟩:=am G0
 have bc:w1.cell? ⟨w.heap.size,1+1,none⟩=some (.slice b m y):=x2
 obtain⟨y0,y1,y2,y3,y4⟩:=bw G1
 obtain⟨z0,z1,f0,f1⟩:=aO t
 by_cases o:NE=0
 case neg=>
  rw[if_neg o] at F
  rw[F.out,if_neg o] at U V
  have hq:(NE != 0)=true:=by simpa using o
  obtain⟨v0,v1,-,-⟩:=aO (pr t (.slice none 0 0) (.slice none 0 0))
  have HF:Hid (Below w.heap.size w ((w1.setCell ⟨w.heap.size+1+1,0,none⟩ (.slice none 0 0)).setCell ⟨w.heap.size+1+1,1,none⟩ (.slice none 0 0))):=cz A (by omega) _ _
  clear G0 G1 t o N j A J K HG
  go_wp2_with fail
  refine bodyPost_ret (v:=.tuple #[.slice none 0 0,.agg #[.slice none 0 0,.slice none 0 0],.int .i64 NE]) ?_ rfl ⟨_,rfl,⟨_,_,_,_,_,_,_,_,_,by rw[F.out],by rw[U.out];exact ig _ _,by rw[V.out];exact wU _ _⟩,HF.out⟩
  rw[mh rfl]
  go_simp
 subst o
 rw[if_pos rfl] at F
 have H:Hid _:=K.out w1 A
 have a4:=hid N
 clear G0 G1 t N J K A
 go_wp2_with fail
 go_at_call 111
 refine Calls.mono H.out ?_
 rintro e O ⟨L,R,M,S,T,c3,rfl,a5,P⟩
 have a6:=Below.thenOf j P j.size
 obtain⟨-,-,t,a7⟩:=HG.out O a6
 clear x0 x1 x2 bc x3 y0 y1 y2 y3 y4 z0 z1 f0 f1
 obtain⟨z0,z1,f0,f1⟩:=aO t
 have l2:w.heap.size+1+1<O.heap.size:=lt_of_block t
 obtain⟨v0,v1,-,-⟩:=aO (pr t (.slice L R M) (.slice S T c3))
 have lW:w.heap.size+1+1<W.heap.size:=lt_of_block (HG.out W (Below.refl _ _)).2.2.1
 have a8:Hid (∀ u v W',Below ((O.setCell ⟨w.heap.size+1+1,0,none⟩ u).setCell ⟨w.heap.size+1+1,1,none⟩ v).heap.size ((O.setCell ⟨w.heap.size+1+1,0,none⟩ u).setCell ⟨w.heap.size+1+1,1,none⟩ v) W'->Below w.heap.size w W'/\∀ D,Kx (λk=>k<w.heap.size) W' D->Kx (λk=>k<W.heap.size) O D):=λu v W' h=>by
  have:=cz a7 (p:=w.heap.size+1+1) (by omega) u v
  exact⟨Below.thenOf this h this.size,λD hk=>Kx.disk t lW (hk.back h λk _ e=>Nat.lt_trans e (by omega))⟩
 have Q:Hid (qJ W.heap.size O (.slice na nn nc) NR/\Ac (λk=>k<W.heap.size) O (.agg #[.slice L R M,.slice S T c3]) PR):=⟨a4.out.later P λ_ _ e=>e,(a5.mono j.size).k⟩
 clear t a7 lW a6 j P a5 a4 H HG a3 HW
 by_cases E:PE=0
 case neg=>
  rw[F.out,if_neg E] at U V
  have hq:(PE != 0)=true:=by simpa using E
  clear E Q
  go_wp2_with fail
  refine bodyPost_ret (v:=.tuple #[.slice none 0 0,.agg #[.slice none 0 0,.slice none 0 0],.int .i64 PE]) ?_ rfl ⟨_,rfl,⟨_,_,_,_,_,_,_,_,_,by rw[F.out],by rw[U.out];exact ig _ _,by rw[V.out];exact wU _ _⟩,?_⟩
  ·rw[mh rfl]
   go_simp
  ·exact (a8.out _ _ _ ((Below.refl _ _).alloc (Nat.le_refl _) _)).1
 subst E
 rw[F.out,if_pos rfl] at U V
 go_wp2_with fail
 go_region
 all_goals
  go_wp2_with fail
  refine bodyPost_ret (v:=.tuple #[.slice na nn nc,.agg #[.slice L R M,.slice S T c3],.int .i64 0]) ?_ rfl ⟨_,rfl,?_⟩
  ·rw[mh rfl]
   go_simp
  ·obtain⟨k1,k2⟩:=a8.out _ _ _ (((Below.refl _ _).alloc (Nat.le_refl _) _).drew)
   exact⟨⟨_,_,_,_,_,_,_,_,_,by rw[F.out],by rw[U.out];exact λD h=>Q.out.1 D (k2 D h),by rw[V.out];exact λD h=>Q.out.2 D (k2 D h)⟩,k1⟩
end Go.Proofs.YtnpdhopjpjickaaGreatDoor
end
section
set_option linter.all false
set_option maxRecDepth 100000
set_option maxHeartbeats 4000000
namespace Go.Proofs.YtnpdhopjpjickaaGreatDoor
open Go.RowKit Go.Maps
structure qI (B:Nat) (W:World) (r:al) (C:List ay) (D:bA) (E:Int) (fs:Nat->Value->Prop) (w:World):Prop where
 below:Below W.heap.size W w
 rcd:∀ u,fs 2 u->cV B w u r
 wr:∀ u,fs 3 u->∀ K:Nat->Prop,(∀ k,K k->k<W.heap.size\/fs 8 (.pointer (some ⟨k,0,none⟩)))->CX K C D E w u
 box:∀ u,fs 8 u->∃ (g:Nat) (a1:Option Addr) (n1 c1:Nat) (a2:Option Addr) (n2 c2:Nat),u=.pointer (some ⟨g,0,none⟩)/\W.heap.size<=g/\w.heap[g]?=some (.cells #[.slice a1 n1 c1,.slice a2 n2 c2] 25 (0,0))/\((∃ x,fs 10 x)->Ac (λk=>k<W.heap.size\/k=g) w (.agg #[.slice a1 n1 c1,.slice a2 n2 c2]) D)
 one:∀ u v,fs 8 u->fs 8 v->u=v
 need:(∃ x,fs 10 x)->∃ u,fs 8 u
section
variable {B:Nat} {W w w':World} {r:al} {C:List ay} {D:bA} {E:Int} {fs:Nat->Value->Prop}
theorem qI.start (B:Nat) (W:World) (r:al) (C:List ay) (D:bA) (E:Int):qI B W r C D E (λ_ _=>False) W.drew:=⟨(Below.refl _ _).drew,λ_ h=>h.elim,λ_ h=>h.elim,λ_ h=>h.elim,λ_ _ h=>h.elim,λ⟨_,h⟩=>h.elim⟩
theorem qI.later (h:qI B W r C D E fs w) (c:B<=W.heap.size) (a:Below w.heap.size w w'):qI B W r C D E fs w':=
 ⟨Below.thenOf h.below a h.below.size,λu b=>(h.rcd u b).later a (Nat.le_trans c h.below.size),λu b K f=>(h.wr u b K f).of λt k=>k.back a λ_ _ e=>e,λu b=>by
  obtain⟨g,i,j,l,m,n,o,e,p,d,q⟩:=h.box u b
  exact⟨g,i,j,l,m,n,o,e,p,(a.block g (lt_of_block d)).trans d,λs=>(q s).later a λ_ _ e=>e⟩,h.one,h.need⟩
theorem qI.lt (h:qI B W r C D E fs w) {k:Nat} (a:k<W.heap.size\/fs 8 (.pointer (some ⟨k,0,none⟩))):k<w.heap.size:=by
 rcases a with a | a
 ·exact Nat.lt_of_lt_of_le a h.below.size
 ·obtain⟨g,c,d,f,i,j,l,e,m,b,n⟩:=h.box _ a
  simp at e
  rw[e]
  exact lt_of_block b
theorem qI.more (h:qI B W r C D E fs w) (i:B<=W.heap.size) (o:Below w.heap.size w w') {k:Nat} {v:Value} (c:8≠k) (d:10≠k) (p:2=k->cV B w' v r) (q:3=k->CX (λk=>k<w.heap.size) C D E w' v):qI B W r C D E (bW fs k v) w':=by
 have b:∀ {m u},m≠k->bW fs k v m u->fs m u:=λs a=>eo a s
 have f:=h.later i o
 refine⟨f.below,λu a=>?_,λu a K n=>?_,λu a=>?_,λu t a j=>h.one u t (b c a) (b c j),λ⟨x,l⟩=>?_⟩
 ·rcases a with a | ⟨e,rfl⟩
  ·exact f.rcd u a
  ·exact p e
 ·rcases a with a | ⟨e,rfl⟩
  ·exact f.wr u a K λk e=>(n k e).imp id (b c)
  ·exact (q e).of λM k=>k.back (Below.refl _ _) λk _ e=>h.lt ((n k e).imp id (b c))
 ·obtain⟨g,y,z,A,F,G,H,e,I,J,L⟩:=f.box u (b c a)
  exact⟨g,y,z,A,F,G,H,e,I,J,λ⟨x,l⟩=>L ⟨x,b d l⟩⟩
 ·obtain⟨u,a⟩:=h.need ⟨x,b d l⟩
  exact⟨u,.inl a⟩
theorem qI.made (h:qI B W r C D E fs w) (d:B<=W.heap.size) (b:∀ v,¬fs 8 v):qI B W r C D E (bW fs 8 (.pointer (some ⟨w.heap.size,0,none⟩))) (w.alloc (.cells #[.slice none 0 0,.slice none 0 0] 25)):=by
 have f:=(Below.refl w.heap.size w).alloc (Nat.le_refl _) (.cells #[.slice none 0 0,.slice none 0 0] 25)
 have g:=h.later d f
 refine⟨g.below,λu a=>g.rcd u (eo a (by decide)),λu a K i=>?_,λu a=>?_,λu j a c=>?_,λ_=>⟨_,.inr ⟨rfl,rfl⟩⟩⟩
 ·refine (h.wr u (eo a (by decide)) (λk=>K k/\k<W.heap.size) λk e=>.inl e.2).of λo l=>l.back f λk m e=>⟨e,?_⟩
  rcases i k e with e | e | ⟨_,e⟩
  ·exact e
  ·exact absurd e (b _)
  ·cases e
   exact absurd m (Nat.lt_irrefl _)
 ·rcases a with a | ⟨_,rfl⟩
  ·exact absurd a (b u)
  ·refine⟨_,_,_,_,_,_,_,rfl,h.below.size,af _ _,λ⟨x,n⟩=>?_⟩
   obtain⟨u,a⟩:=h.need ⟨x,eo n (by decide)⟩
   exact absurd a (b u)
 ·rcases a with a | ⟨_,rfl⟩
  ·exact absurd a (b u)
  ·rcases c with c | ⟨_,rfl⟩
   ·exact absurd c (b j)
   ·rfl
theorem qI.store (h:qI B W r C D E fs w) (p:B<=W.heap.size) (L:∀ v,¬fs 10 v) {g:Nat} {d f:Option Addr} {i j l m:Nat} {M N:Value} (O:fs 3 (.tuple #[M,.agg #[.slice d i j,.slice f l m],N])) (o:fs 8 (.pointer (some ⟨g,0,none⟩))):(∃ x y z A F G,w.heap[g]?=some (.cells #[.slice x y z,.slice A F G] 25 (0,0)))/\qI B W r C D E (bW fs 10 undef) ((w.setCell ⟨g,0,none⟩ (.slice d i j)).setCell ⟨g,1,none⟩ (.slice f l m)):=by
 obtain⟨Z,x,y,z,A,F,G,e,H,q,-⟩:=h.box _ o
 simp at e
 subst e
 have I:=cz (Below.refl W.heap.size w) H (.slice d i j) (.slice f l m)
 have J:∀ u,fs 3 u->∀ K:Nat->Prop,(∀ k,K k->k<W.heap.size\/k=g)->CX K C D E ((w.setCell ⟨g,0,none⟩ (.slice d i j)).setCell ⟨g,1,none⟩ (.slice f l m)) u:=λu b K s=>
  (h.wr u b (λk=>k<W.heap.size\/k=g) λk e=>e.imp id (λe=>by rw[e];exact o)).of λwF P=>Kx.disk q (.inr rfl) (P.back (Below.refl _ _) λk _ e=>s k e)
 refine⟨⟨_,_,_,_,_,_,q⟩,h.below.trans I,λu b=>(h.rcd u (eo b (by decide))).later I p,λu b K s=>J u (eo b (by decide)) K λk e=>(s k e).imp id λe=>?_,λu b=>?_,λu Q b t=>h.one u Q (eo b (by decide)) (eo t (by decide)),λ_=>⟨_,.inl o⟩⟩
 ·have:=h.one _ _ (eo e (by decide)) o
  simpa using this
 ·refine⟨g,d,i,j,f,l,m,h.one _ _ (eo b (by decide)) o,H,pr q _ _,λ_=>?_⟩
  obtain⟨a,n,c,R,S,T,U,V,X,e,-,Y⟩:=J _ O _ λ_ e=>e
  simp at e
  obtain⟨-,⟨⟨rfl,rfl,rfl⟩,rfl,rfl,rfl⟩,-⟩:=e
  exact Y
theorem qI.done (h:qI B W r C D E fs w) {x u3:Value} {g:Nat} (j:fs 10 x) (m:fs 3 u3) (l:fs 8 (.pointer (some ⟨g,0,none⟩))):∃ a b c d f i,w.heap[g]?=some (.cells #[.slice a b c,.slice d f i] 25 (0,0))/\W.heap.size<=g/\Ac (λk=>k<W.heap.size\/k=g) w (.agg #[.slice a b c,.slice d f i]) D/\CX (λk=>k<W.heap.size\/k=g) C D E w u3:=by
 obtain⟨q,a,b,c,d,f,i,e,n,o,p⟩:=h.box _ l
 simp at e
 subst e
 exact⟨a,b,c,d,f,i,o,n,p ⟨_,j⟩,h.wr _ m _ λk e=>e.imp id λe=>by rw[e];exact l⟩
end
def ER (r:al) (E:Int) (k:Nat) (v:Value):Prop:=(k=2->∃ a c,v=.agg #[.int .i64 r.1,.int .i64 r.2.1,.int .i64 r.2.2.1,.slice a r.2.2.2.1.length c,.int .i64 r.2.2.2.2])/\(k=3->∃ a n c b d e f h i,v=.tuple #[.slice a n c,.agg #[.slice b d e,.slice f h i],.int .i64 E])/\(k=8->∃ g:Nat,v=.pointer (some ⟨g,0,none⟩))
theorem wL (r:al) (E:Int) (k:Nat):∃ v,ER r E k v:=by
 by_cases a:k=2
 ·subst a
  exact⟨_,λ_=>⟨none,0,rfl⟩,λe=>(by cases e),λe=>(by cases e)⟩
 ·by_cases b:k=3
  ·subst b
   exact⟨_,λe=>(by cases e),λ_=>⟨none,0,0,none,0,0,none,0,0,rfl⟩,λe=>(by cases e)⟩
  ·exact⟨_,λe=>absurd e a,λe=>absurd e b,λ_=>⟨0,rfl⟩⟩
end Go.Proofs.YtnpdhopjpjickaaGreatDoor
end
section
set_option linter.all false
set_option maxRecDepth 100000
set_option maxHeartbeats 4000000
namespace Go.Proofs.YtnpdhopjpjickaaGreatDoor
open Go.RowKit Go.Maps
def pB (x:aq) (r:al):Int:=if cN x r=0 then eX (cq x r) else cN x r
def xE (x:aq) (r:al):aq:=if pB x r=0 then (iz x r,gN (cq x r),true) else fF
theorem pF (x:aq) (r:al):lm (cq x r):=by
 unfold cq
 split
 ·exact Du
 ·unfold lm;decide
theorem xc (B:Nat) (wv xv:Value) (x:aq) (y:al) (w:World) (he:dX w) (hx:aC B w wv x) (hy:cV B w xv y) (hB:B<=w.heap.size) (hr:cg x=0):
  Calls Tryz.prog 51 #[wv,xv] w λe b=>∃ v,e=.returned (.tuple #[v,.int .i64 (pB x (aP y))])/\mx (λk=>k<w.heap.size) b v (xE x (aP y))/\Below w.heap.size w b:=by
 obtain⟨hg,hk⟩:=iV hr
 have ad:Hid (∀ b,Below w.heap.size w b->Calls Tryz.prog 79 #[xv] b λe i=>∃ v,e=.returned v/\cV B i v (aP y)/\Below b.heap.size b i):=λb h=>qY B xv y b (hy.later h hB) (Nat.le_trans hB h.size)
 have ak:Hid (∀ b rv,Below w.heap.size w b->cV B b rv (aP y)->Calls Tryz.prog 78 #[wv,rv] b λe i=>∃ v,e=.returned v/\CX (λk=>k<b.heap.size) (iz x (aP y)) (cq x (aP y)) (cN x (aP y)) i v/\Below b.heap.size b i):=λb rv h h1=>si B wv rv x (aP y) b (he.later h) (hx.later h hB) h1 (Nat.le_trans hB h.size) (vW hk)
 have U:Hid (∀ b v,Below w.heap.size w b->ei b.heap.size b v (cq x (aP y))->Calls Tryz.prog 81 #[v] b λe i=>∃ a1 n1 c1 a2 n2 c2,e=.returned (.tuple #[.agg #[.slice a1 n1 c1,.slice a2 n2 c2],.int .i64 (eX (cq x (aP y)))])/\bL b.heap.size i (.agg #[.slice a1 n1 c1,.slice a2 n2 c2]) (gN (cq x (aP y)))/\Below b.heap.size b i):=λb v h h1=>(AT _ v _ b (he.later h) h1 (Nat.le_refl _) (pF _ _)).mono λe i ⟨v,h1,h2,h3⟩=>by
  obtain⟨a1,c1,b1,c2,e⟩:=h2.at.shapeS
  subst e
  exact⟨_,_,_,_,_,_,h1,h2,h3⟩
 have T:Hid (pB x (aP y)=if cN x (aP y)=0 then eX (cq x (aP y)) else cN x (aP y)):=rfl
 have HR:Hid (xE x (aP y)=if pB x (aP y)=0 then (iz x (aP y),gN (cq x (aP y)),true) else fF):=rfl
 obtain⟨ca,cc,sa,sc,ta,tc,rfl,-,-⟩:=hx.shape
 obtain⟨pa,pc,rfl,-⟩:=hy.shape
 have HB:Hid (B<=w.heap.size):=hB
 clear he hx hy hr hg hk hB
 generalize aP y=R at*
 generalize iz x R=WC at*
 generalize cN x R=WE at*
 generalize cq x R=WD at*
 generalize pB x R=CE at*
 generalize xE x R=CR at*
 generalize eX WD=SE at*
 generalize gN WD=SR at*
 obtain⟨C,⟨s,t⟩,u⟩:=x
 obtain⟨k,ci,f,rs,d⟩:=y
 simp only at*
 generalize C.length=nC at*
 generalize s.length=nS at*
 generalize t.length=nT at*
 generalize rs.length=nP at*
 obtain⟨I,g0,g1,g2⟩:=qL w #[.slice ca nC cc,.slice sa nS sc,.slice ta nT tc,.bool u] #[.int .i64 k,.int .i64 ci,.int .i64 f,.slice pa nP pc,.int .i64 d]
 obtain⟨W,hW⟩:∃ W,W=uR w #[.slice ca nC cc,.slice sa nS sc,.slice ta nT tc,.bool u] #[.int .i64 k,.int .i64 ci,.int .i64 f,.slice pa nP pc,.int .i64 d]:=⟨_,rfl⟩
 rw[<-hW] at I g0 g1 g2
 have HW:Hid (W=((w.alloc (.cells #[.slice ca nC cc,.slice sa nS sc,.slice ta nT tc,.bool u] 27)).alloc (.cells #[.int .i64 k,.int .i64 ci,.int .i64 f,.slice pa nP pc,.int .i64 d] 32)).alloc (.cells #[.slice none 0 0,.slice none 0 0,.slice none 0 0,.bool false] 27)):=hW
 obtain⟨x0,x1,x2,x3,-⟩:=am g0
 obtain⟨y0,y1,y2,y3,y4⟩:=bw g1
 have l0:=lt_of_block g0
 have l1:=lt_of_block g1
 have q0:∀ z:aw W,z.1.cell? ⟨w.heap.size,0,none⟩=some (.slice ca nC cc):=λz=>z.cell x0 l0
 have q1:∀ z:aw W,z.1.cell? ⟨w.heap.size,1,none⟩=some (.slice sa nS sc):=λz=>z.cell x1 l0
 have q2:∀ z:aw W,z.1.cell? ⟨w.heap.size,2,none⟩=some (.slice ta nT tc):=λz=>z.cell x2 l0
 have q3:∀ z:aw W,z.1.cell? ⟨w.heap.size,3,none⟩=some (.bool u):=λz=>z.cell x3 l0
 have p0:∀ z:aw W,z.1.cell? ⟨w.heap.size+1,0,none⟩=some (.int .i64 k):=λz=>z.cell y0 l1
 have p1:∀ z:aw W,z.1.cell? ⟨w.heap.size+1,1,none⟩=some (.int .i64 ci):=λz=>z.cell y1 l1
 have p2:∀ z:aw W,z.1.cell? ⟨w.heap.size+1,2,none⟩=some (.int .i64 f):=λz=>z.cell y2 l1
 have p3:∀ z:aw W,z.1.cell? ⟨w.heap.size+1,3,none⟩=some (.slice pa nP pc):=λz=>z.cell y3 l1
 have p4:∀ z:aw W,z.1.cell? ⟨w.heap.size+1,4,none⟩=some (.int .i64 d):=λz=>z.cell y4 l1
 have V:=aw.ne W
 have p:Hid (∀ fs b,qI B W R WC WD WE fs b->∃ z:aw W,b=z.1):=λfs b h=>⟨⟨b,h.below⟩,rfl⟩
 have J:Hid (B<=W.heap.size):=Nat.le_trans HB.out I.size
 have bq:Hid (W.heap[w.heap.size+1+1]?=some (.cells #[.slice none 0 0,.slice none 0 0,.slice none 0 0,.bool false] 27 (0,0))):=g2
 have l:Hid (Below w.heap.size w W):=I
 clear hW I g0 g1 g2 x0 x1 x2 x3 y0 y1 y2 y3 y4 l0 l1
 go_enter Tryz.func51,Tryz.ntmps51
 go_wp2_with fail
 rw[<-HW.out]
 refine bh [_,_,_,_,_,_,_,_,_,_,_] _ rfl (λk=>k==2||k==3||k==8||k==10) (qI B W R WC WD WE) (ER R WE) (wL _ _) (by kernel_rfl) (by kernel_rfl) (qI.start _ _ _ _ _ _) ?_
 iterate 2 (refine aH p.out rfl rfl ?_;go_big_quiet_step (fail);refine wpQuiet_nil ?_)
 refine bu 79 #[.agg #[.int .i64 k,.int .i64 ci,.int .i64 f,.slice pa nP pc,.int .i64 d]] rfl rfl (λb=>by kernel_rfl) (λgs b j g m=>?_) (λv2 e9=>?_)
 ·refine (ad.out b (Below.thenOf l.out j.below l.out.size)).mono ?_
  rintro e w3 ⟨v,rfl,hv,hb⟩
  obtain⟨a,c,ev,-⟩:=hv.shape
  exact⟨_,rfl,⟨λ_=>⟨a,c,ev⟩,λe=>(by cases e),λe=>(by cases e)⟩,j.more J.out hb (by decide) (by decide) (λ_=>hv) (λe=>by cases e)⟩
 simp only[Act.put,List.setIfInBounds_toArray,List.set_cons_succ,List.set_cons_zero]
 obtain⟨ra,rc,rfl⟩:=e9.1 rfl
 obtain⟨rk,ri,rf,rr,rd⟩:=R
 simp only at*
 generalize rr.length=nR at*
 refine bu 78 #[.agg #[.slice ca nC cc,.slice sa nS sc,.slice ta nT tc,.bool u],.agg #[.int .i64 rk,.int .i64 ri,.int .i64 rf,.slice ra nR rc,.int .i64 rd]] rfl rfl (λb=>by kernel_rfl) (λgs b j g m=>?_) (λv3 ee=>?_)
 ·have h2:=g 2 _ (.inr ⟨rfl,rfl⟩) (zQ0 (by kernel_rfl))
  refine (ak.out b _ (Below.thenOf l.out j.below l.out.size) (j.rcd _ h2)).mono ?_
  rintro e w3 ⟨v,rfl,hv,hb⟩
  obtain⟨a,n,c,a1,n1,c1,a2,n2,c2,ev,-,-⟩:=id hv
  exact⟨_,rfl,⟨λe=>(by cases e),λ_=>⟨a,n,c,a1,n1,c1,a2,n2,c2,ev⟩,λe=>(by cases e)⟩,j.more J.out hb (by decide) (by decide) (λe=>by cases e) (λ_=>hv)⟩
 simp only[Act.put,List.setIfInBounds_toArray,List.set_cons_succ,List.set_cons_zero]
 obtain⟨a3,n3,c3,a4,n4,c4,a5,n5,c5,rfl⟩:=ee.2.1 rfl
 iterate 4 (refine aH p.out rfl rfl ?_;go_big_quiet_step (fail);refine wpQuiet_nil ?_)
 refine bY rfl rfl (λgs b j g m=>⟨.pointer (some ⟨b.heap.size,0,none⟩),_,?_,⟨λe=>(by cases e),λe=>(by cases e),λ_=>⟨_,rfl⟩⟩,j.made J.out m⟩) (λv8 ef=>?_)
 ·clear j g m q0 q1 q2 q3 p0 p1 p2 p3 p4 p V
  go_simp
 simp only[Act.put,List.setIfInBounds_toArray,List.set_cons_succ,List.set_cons_zero]
 obtain⟨L,rfl⟩:=ef.2.2 rfl
 refine aH p.out rfl rfl ?_;go_big_quiet_step (fail);refine wpQuiet_nil ?_
 refine eB rfl rfl (λgs b j g m=>?_) (λhd fr=>?_)
 ·have h3:=g 3 _ (.inl (.inr ⟨rfl,rfl⟩)) (zQ0 (by kernel_rfl))
  have h8:=g 8 _ (.inr ⟨rfl,rfl⟩) (zQ0 (by kernel_rfl))
  obtain⟨⟨b1,m1,d1,b2,m2,d2,bs⟩,bv⟩:=j.store J.out m h3 h8
  obtain⟨z0,z1,f0,f1⟩:=aO bs
  refine⟨_,?_,⟨λe=>(by cases e),λe=>(by cases e),λe=>(by cases e)⟩,bv⟩
  clear j g m q0 q1 q2 q3 p0 p1 p2 p3 p4 p V h3 h8 bs bv
  go_simp
 simp only[Act.put,List.setIfInBounds_toArray,List.set_cons_succ,List.set_cons_zero]
 refine dF ?_
 intro w4 j
 obtain⟨b1,m1,d1,b2,m2,d2,q,M,N,r⟩:=j.done (.inr ⟨rfl,rfl⟩) (.inl (.inl (.inr ⟨rfl,rfl⟩))) (.inl (.inr ⟨rfl,rfl⟩))
 obtain⟨_,_,_,_,_,_,_,_,_,ec,r,-⟩:=r
 simp at ec
 obtain⟨⟨rfl,rfl,rfl⟩,-⟩:=ec
 have o:Below w.heap.size w w4:=Below.thenOf l.out j.below l.out.size
 have lW:w.heap.size+1+1<W.heap.size:=lt_of_block bq.out
 have X:=(j.below.block _ lW).trans bq.out
 obtain⟨z0,z1,z2,z3,f0,f1,f2,f3⟩:=am X
 obtain⟨x0,x1,e0,e1⟩:=aO q
 clear j p V q0 q1 q2 q3 p0 p1 p2 p3 p4 ad ak
 by_cases E:WE=0
 case neg=>
  rw[if_neg E] at T
  rw[T.out,if_neg E] at HR
  have hq:(WE != 0)=true:=by simpa using E
  obtain⟨W5,c0,k5,HF⟩:=jd X o (by omega)
  have em:Hid (W5=_):=c0
  obtain⟨v0,v1,v2,v3,-⟩:=am k5
  clear E c0 k5 X q M N r o lW
  go_wp2_with fail
  rw[<-em.out]
  refine bodyPost_ret (v:=.tuple #[.agg #[.slice none 0 0,.slice none 0 0,.slice none 0 0,.bool false],.int .i64 WE]) ?_ rfl ⟨_,by rw[T.out],by rw[HR.out];exact HF.out⟩
  rw[results_cell_tmp rfl]
  go_simp
 subst E
 rw[if_pos rfl] at T
 have F:Hid _:=U.out w4 _ o N.at
 have l8:L<w4.heap.size:=lt_of_block q
 go_wp2_with fail
 go_at_call 81
 refine Calls.mono F.out ?_
 rintro e w5 ⟨a6,n6,c6,a7,n7,c7,rfl,Y,A⟩
 have G:=(A.block _ l8).trans q
 have G5:=(A.block _ (lt_of_block X)).trans X
 have Z:Below w.heap.size w w5:=Below.thenOf o A o.size
 obtain⟨k0,k1,k2⟩:=gJ (u:=.slice a6 n6 c6) (v:=.slice a7 n7 c7) G
 obtain⟨W6,D⟩:∃ W6,W6=(w5.setCell ⟨L,0,none⟩ (.slice a6 n6 c6)).setCell ⟨L,1,none⟩ (.slice a7 n7 c7):=⟨_,rfl⟩
 have O:∀ P,Kx (λk=>k<W.heap.size\/k=L) W6 P->Kx (λk=>k<W.heap.size\/k=L) w5 P:=λP h=>by
  rw[D] at h
  exact Kx.disk G (.inr rfl) h
 have Q:Below w.heap.size w W6:=by rw[D];exact cz Z (Nat.le_trans l.out.size M) _ _
 rw[<-D] at k0 k1 k2
 have G6:=(k1 (w.heap.size+1+1) (by omega)).trans G5
 clear x0 x1 e0 e1 z0 z1 z2 z3 f0 f1 f2 f3
 obtain⟨x0,x1,e0,e1⟩:=aO G
 obtain⟨z0,z1,z2,z3,f0,f1,f2,f3⟩:=am G5
 have ho:¬L=w.heap.size+1+1:=by omega
 have hp:¬w.heap.size+1+1=L:=by omega
 have cb:Hid (W6=_):=D
 by_cases S:SE=0
 case neg=>
  rw[T.out,if_neg S] at HR
  have hq:(SE != 0)=true:=by simpa using S
  obtain⟨W7,H,k7,HF⟩:=jd G6 Q (by omega)
  have a0:Hid (W7=_):=H
  obtain⟨v0,v1,v2,v3,-⟩:=am k7
  clear S H k7 X G5 G6 q G M N r o Z Q Y A k0 k1 k2 D O lW l8 F U
  go_wp2_with fail
  rw[<-cb.out,<-a0.out]
  refine bodyPost_ret (v:=.tuple #[.agg #[.slice none 0 0,.slice none 0 0,.slice none 0 0,.bool false],.int .i64 SE]) ?_ rfl ⟨_,by rw[T.out],by rw[HR.out];exact HF.out⟩
  rw[results_cell_tmp rfl]
  go_simp
 subst S
 rw[T.out,if_pos rfl] at HR
 have ce:∀ k,k<W.heap.size\/k=L->k<w4.heap.size:=λk h=>by omega
 obtain⟨W7,H,k7,HF⟩:=fJ (K:=λk=>k<W.heap.size\/k=L) (x:=(WC,SR,true)) G6 (sm (λP h=>(r.later A λ_ _ e=>e) P (O P h)) (λP h=>Y.k P ((O P h).back (Below.refl _ _) λk _ e=>ce k e)) rfl) (.inl lW) Q (by omega) (λk h=>.inl (by omega))
 have a0:Hid (W7=_):=H
 obtain⟨v0,v1,v2,v3,-⟩:=am k7
 clear H k7 X G5 G6 q G M N r o Z Q Y A k0 k1 k2 D O ce lW l8 F U
 go_wp2_with fail
 rw[<-cb.out,<-a0.out]
 refine bodyPost_ret (v:=.tuple #[.agg #[.slice a3 n3 c3,.slice a6 n6 c6,.slice a7 n7 c7,.bool true],.int .i64 0]) ?_ rfl ⟨_,by rw[T.out],by rw[HR.out];exact HF.out⟩
 rw[results_cell_tmp rfl]
 go_simp
end Go.Proofs.YtnpdhopjpjickaaGreatDoor
end
section
set_option linter.all false
set_option maxRecDepth 100000
set_option maxHeartbeats 4000000
namespace Go.Proofs.YtnpdhopjpjickaaGreatDoor
open Go.RowKit Go.Maps
def pT (x:aq) (r:al) (f:Int):aq:=if cN x r=0 then (aA,((cq x r).1,(cq x r).2.take (jL f (cq x r).2.length)),false) else fF
theorem qe {d:bA} (f:Int) (h:az d=0):ft d (min (max f 0) d.2.length)=0/\iF d (min (max f 0) d.2.length)=(d.1,d.2.take (jL f d.2.length)):=by
 have e:ft d (min (max f 0) d.2.length)=0:=by unfold ft;rw[if_pos h,if_neg (by omega)]
 refine⟨e,?_⟩
 unfold iF jL
 rw[if_pos e]
 congr 2
 omega
theorem AB (B:Nat) (wv xv:Value) (x:aq) (y:al) (w:World) (he:dX w) (hx:aC B w wv x) (hy:cV B w xv y) (V:B<=w.heap.size) (hr:cg x=0) (A:cN x (aP y)=0->az (cq x (aP y))=0):
  Calls Tryz.prog 50 #[wv,xv] w λe b=>∃ v,e=.returned (.tuple #[v,.int .i64 (cN x (aP y))])/\mx (λk=>k<w.heap.size) b v (pT x (aP y) y.2.2.1)/\Below w.heap.size w b:=by
 obtain⟨hg,hk⟩:=iV hr
 have b3:Hid (∀ b,Below w.heap.size w b->Calls Tryz.prog 79 #[xv] b λe i=>∃ v,e=.returned v/\cV B i v (aP y)/\Below b.heap.size b i):=λb h=>qY B xv y b (hy.later h V) (Nat.le_trans V h.size)
 have b4:Hid (∀ b rv,Below w.heap.size w b->cV B b rv (aP y)->Calls Tryz.prog 78 #[wv,rv] b λe i=>∃ v,e=.returned v/\CX (λk=>k<b.heap.size) (iz x (aP y)) (cq x (aP y)) (cN x (aP y)) i v/\Below b.heap.size b i):=λb rv h X=>si B wv rv x (aP y) b (he.later h) (hx.later h V) X (Nat.le_trans V h.size) (vW hk)
 have b5:Hid (cN x (aP y)=0->∀ b v,Below w.heap.size w b->ei b.heap.size b v (cq x (aP y))->Calls Tryz.prog 80 #[v,.int .i64 (min (max y.2.2.1 0) (cq x (aP y)).2.length)] b λe i=>∃ a1 n1 c1 a2 n2 c2,e=.returned (.tuple #[.agg #[.slice a1 n1 c1,.slice a2 n2 c2],.int .i64 0])/\bL b.heap.size i (.agg #[.slice a1 n1 c1,.slice a2 n2 c2]) ((cq x (aP y)).1,(cq x (aP y)).2.take (jL y.2.2.1 (cq x (aP y)).2.length))/\Below b.heap.size b i):=λh0 b v h X=>(zE _ v _ _ b (he.later h) (eZ (by have:=pF x (aP y);unfold lm at this;omega)) X (Nat.le_refl _) (pF _ _)).mono λe i ⟨v,X,h2,h3⟩=>by
  rw[(qe _ (A h0)).1] at X
  rw[(qe _ (A h0)).2] at h2
  obtain⟨a1,c1,b1,c2,e⟩:=h2.at.shapeS
  subst e
  exact⟨_,_,_,_,_,_,X,h2,h3⟩
 have ba:Hid (cN x (aP y)=0->(((cq x (aP y)).1,(cq x (aP y)).2.take (jL y.2.2.1 (cq x (aP y)).2.length)):bA).1.length<=60000/\(((cq x (aP y)).1,(cq x (aP y)).2.take (jL y.2.2.1 (cq x (aP y)).2.length)):bA).2.length<=60000):=λh0=>by
  have:=dK (A h0)
  exact⟨this.1,by show (List.take _ _).length<=_;rw[List.length_take];omega⟩
 have HR:Hid (pT x (aP y) y.2.2.1=if cN x (aP y)=0 then (aA,((cq x (aP y)).1,(cq x (aP y)).2.take (jL y.2.2.1 (cq x (aP y)).2.length)),false) else fF):=rfl
 obtain⟨ca,cc,sa,sc,ta,tc,rfl,-,-⟩:=hx.shape
 obtain⟨Y,Z,rfl,-⟩:=hy.shape
 have HB:Hid (B<=w.heap.size):=V
 clear he hx hy hr hg hk V A
 generalize aP y=R at*
 generalize iz x R=WC at*
 generalize cN x R=WE at*
 generalize cq x R=N at*
 generalize pT x R y.2.2.1=CR at*
 generalize ((N.1,N.2.take (jL y.2.2.1 N.2.length)):bA)=TD at*
 obtain⟨C,⟨s,t⟩,u⟩:=x
 obtain⟨k,ci,f,rs,d⟩:=y
 simp only at*
 generalize C.length=nC at*
 generalize s.length=nS at*
 generalize t.length=nT at*
 generalize rs.length=nP at*
 obtain⟨D,g0,g1,g2⟩:=qL w #[.slice ca nC cc,.slice sa nS sc,.slice ta nT tc,.bool u] #[.int .i64 k,.int .i64 ci,.int .i64 f,.slice Y nP Z,.int .i64 d]
 obtain⟨W,hW⟩:∃ W,W=uR w #[.slice ca nC cc,.slice sa nS sc,.slice ta nT tc,.bool u] #[.int .i64 k,.int .i64 ci,.int .i64 f,.slice Y nP Z,.int .i64 d]:=⟨_,rfl⟩
 rw[<-hW] at D g0 g1 g2
 have HW:Hid (W=((w.alloc (.cells #[.slice ca nC cc,.slice sa nS sc,.slice ta nT tc,.bool u] 27)).alloc (.cells #[.int .i64 k,.int .i64 ci,.int .i64 f,.slice Y nP Z,.int .i64 d] 32)).alloc (.cells #[.slice none 0 0,.slice none 0 0,.slice none 0 0,.bool false] 27)):=hW
 obtain⟨x0,x1,x2,x3,-⟩:=am g0
 obtain⟨y0,y1,y2,y3,y4⟩:=bw g1
 have l0:=lt_of_block g0
 have l1:=lt_of_block g1
 have q0:∀ z:aw W,z.1.cell? ⟨w.heap.size,0,none⟩=some (.slice ca nC cc):=λz=>z.cell x0 l0
 have q1:∀ z:aw W,z.1.cell? ⟨w.heap.size,1,none⟩=some (.slice sa nS sc):=λz=>z.cell x1 l0
 have q2:∀ z:aw W,z.1.cell? ⟨w.heap.size,2,none⟩=some (.slice ta nT tc):=λz=>z.cell x2 l0
 have q3:∀ z:aw W,z.1.cell? ⟨w.heap.size,3,none⟩=some (.bool u):=λz=>z.cell x3 l0
 have p0:∀ z:aw W,z.1.cell? ⟨w.heap.size+1,0,none⟩=some (.int .i64 k):=λz=>z.cell y0 l1
 have p1:∀ z:aw W,z.1.cell? ⟨w.heap.size+1,1,none⟩=some (.int .i64 ci):=λz=>z.cell y1 l1
 have p2:∀ z:aw W,z.1.cell? ⟨w.heap.size+1,2,none⟩=some (.int .i64 f):=λz=>z.cell y2 l1
 have p3:∀ z:aw W,z.1.cell? ⟨w.heap.size+1,3,none⟩=some (.slice Y nP Z):=λz=>z.cell y3 l1
 have p4:∀ z:aw W,z.1.cell? ⟨w.heap.size+1,4,none⟩=some (.int .i64 d):=λz=>z.cell y4 l1
 have O:=aw.ne W
 have p:Hid (∀ fs b,qI B W R WC N WE fs b->∃ z:aw W,b=z.1):=λfs b h=>⟨⟨b,h.below⟩,rfl⟩
 have E:Hid (B<=W.heap.size):=Nat.le_trans HB.out D.size
 have br:Hid (W.heap[w.heap.size+1+1]?=some (.cells #[.slice none 0 0,.slice none 0 0,.slice none 0 0,.bool false] 27 (0,0))):=g2
 have l:Hid (Below w.heap.size w W):=D
 have e4:Hid (∀ b,Below W.heap.size W b->b.heap[w.heap.size+1]?=some (.cells #[.int .i64 k,.int .i64 ci,.int .i64 f,.slice Y nP Z,.int .i64 d] 32 (0,0))):=λb h=>(h.block _ (lt_of_block g1)).trans g1
 clear hW D g0 g1 g2 x0 x1 x2 x3 y0 y1 y2 y3 y4 l0 l1
 go_enter Tryz.func50,Tryz.ntmps50
 go_wp2_with fail
 rw[<-HW.out]
 refine bh [_,_,_,_,_,_,_,_,_,_,_] _ rfl (λk=>k==2||k==3||k==8||k==10) (qI B W R WC N WE) (ER R WE) (wL _ _) (by kernel_rfl) (by kernel_rfl) (qI.start _ _ _ _ _ _) ?_
 iterate 2 (refine aH p.out rfl rfl ?_;go_big_quiet_step (fail);refine wpQuiet_nil ?_)
 refine bu 79 #[.agg #[.int .i64 k,.int .i64 ci,.int .i64 f,.slice Y nP Z,.int .i64 d]] rfl rfl (λb=>by kernel_rfl) (λgs b j g m=>?_) (λv2 e6=>?_)
 ·refine (b3.out b (Below.thenOf l.out j.below l.out.size)).mono ?_
  rintro e w3 ⟨v,rfl,hv,hb⟩
  obtain⟨a,c,ev,-⟩:=hv.shape
  exact⟨_,rfl,⟨λ_=>⟨a,c,ev⟩,λe=>(by cases e),λe=>(by cases e)⟩,j.more E.out hb (by decide) (by decide) (λ_=>hv) (λe=>by cases e)⟩
 simp only[Act.put,List.setIfInBounds_toArray,List.set_cons_succ,List.set_cons_zero]
 obtain⟨ra,rc,rfl⟩:=e6.1 rfl
 obtain⟨rk,ri,rf,rr,rd⟩:=R
 simp only at*
 generalize rr.length=nR at*
 refine bu 78 #[.agg #[.slice ca nC cc,.slice sa nS sc,.slice ta nT tc,.bool u],.agg #[.int .i64 rk,.int .i64 ri,.int .i64 rf,.slice ra nR rc,.int .i64 rd]] rfl rfl (λb=>by kernel_rfl) (λgs b j g m=>?_) (λv3 e9=>?_)
 ·have h2:=g 2 _ (.inr ⟨rfl,rfl⟩) (zQ0 (by kernel_rfl))
  refine (b4.out b _ (Below.thenOf l.out j.below l.out.size) (j.rcd _ h2)).mono ?_
  rintro e w3 ⟨v,rfl,hv,hb⟩
  obtain⟨a,n,c,a1,n1,c1,a2,n2,c2,ev,-,-⟩:=id hv
  exact⟨_,rfl,⟨λe=>(by cases e),λ_=>⟨a,n,c,a1,n1,c1,a2,n2,c2,ev⟩,λe=>(by cases e)⟩,j.more E.out hb (by decide) (by decide) (λe=>by cases e) (λ_=>hv)⟩
 simp only[Act.put,List.setIfInBounds_toArray,List.set_cons_succ,List.set_cons_zero]
 obtain⟨a3,n3,c3,a4,n4,c4,a5,n5,c5,rfl⟩:=e9.2.1 rfl
 iterate 4 (refine aH p.out rfl rfl ?_;go_big_quiet_step (fail);refine wpQuiet_nil ?_)
 refine bY rfl rfl (λgs b j g m=>⟨.pointer (some ⟨b.heap.size,0,none⟩),_,?_,⟨λe=>(by cases e),λe=>(by cases e),λ_=>⟨_,rfl⟩⟩,j.made E.out m⟩) (λv8 ea=>?_)
 ·clear j g m q0 q1 q2 q3 p0 p1 p2 p3 p4 p O
  go_simp
 simp only[Act.put,List.setIfInBounds_toArray,List.set_cons_succ,List.set_cons_zero]
 obtain⟨g8,rfl⟩:=ea.2.2 rfl
 refine aH p.out rfl rfl ?_;go_big_quiet_step (fail);refine wpQuiet_nil ?_
 refine eB rfl rfl (λgs b j g m=>?_) (λhs fT=>?_)
 ·have h3:=g 3 _ (.inl (.inr ⟨rfl,rfl⟩)) (zQ0 (by kernel_rfl))
  have h8:=g 8 _ (.inr ⟨rfl,rfl⟩) (zQ0 (by kernel_rfl))
  obtain⟨⟨b1,m1,d1,b2,m2,d2,bv⟩,bx⟩:=j.store E.out m h3 h8
  obtain⟨z0,z1,f0,f1⟩:=aO bv
  refine⟨_,?_,⟨λe=>(by cases e),λe=>(by cases e),λe=>(by cases e)⟩,bx⟩
  clear j g m q0 q1 q2 q3 p0 p1 p2 p3 p4 p O h3 h8 bv bx
  go_simp
 simp only[Act.put,List.setIfInBounds_toArray,List.set_cons_succ,List.set_cons_zero]
 refine dF ?_
 intro w4 j
 obtain⟨b1,m1,d1,b2,m2,d2,r,P,F,G⟩:=j.done (.inr ⟨rfl,rfl⟩) (.inl (.inl (.inr ⟨rfl,rfl⟩))) (.inl (.inr ⟨rfl,rfl⟩))
 obtain⟨_,_,_,_,_,_,_,_,_,ec,G,-⟩:=G
 simp at ec
 obtain⟨⟨rfl,rfl,rfl⟩,-⟩:=ec
 have q:Below w.heap.size w w4:=Below.thenOf l.out j.below l.out.size
 have lW:w.heap.size+1+1<W.heap.size:=lt_of_block br.out
 have G4:=(j.below.block _ lW).trans br.out
 obtain⟨z0,z1,z2,z3,f0,f1,f2,f3⟩:=am G4
 obtain⟨x0,x1,e0,e1⟩:=aO r
 have Q:=j.below
 clear j p O q0 q1 q2 q3 p0 p1 p2 p3 p4 b3 b4
 by_cases H:WE=0
 case neg=>
  rw[if_neg H] at HR
  have hq:(WE != 0)=true:=by simpa using H
  obtain⟨W5,c0,k5,HF⟩:=jd G4 q (by omega)
  have ep:Hid (W5=_):=c0
  obtain⟨v0,v1,v2,v3,-⟩:=am k5
  clear H c0 k5 G4 r P F G q lW Q
  go_wp2_with fail
  rw[<-ep.out]
  refine bodyPost_ret (v:=.tuple #[.agg #[.slice none 0 0,.slice none 0 0,.slice none 0 0,.bool false],.int .i64 WE]) ?_ rfl ⟨_,rfl,by rw[HR.out];exact HF.out⟩
  rw[results_cell_tmp rfl]
  go_simp
 subst H
 rw[if_pos rfl] at HR
 obtain⟨_,_,_,_,ed⟩:=F.at.shapeS
 simp at ed
 obtain⟨⟨rfl,rfl,rfl⟩,rfl,rfl,rfl⟩:=ed
 have K:Hid _:=b5.out rfl w4 _ q F.at
 have L:Hid _:=ba.out rfl
 have l8:g8<w4.heap.size:=lt_of_block r
 have r2:=((bw (e4.out w4 Q)).2.2.1)
 generalize N.1.length=m1 at*
 generalize N.2.length=m2 at*
 clear b5 Q ba
 go_wp2_with fail
 go_at_call 80
 refine Calls.mono K.out ?_
 rintro e w5 ⟨a6,n6,c6,a7,n7,c7,rfl,cb,I⟩
 have S:=(I.block _ l8).trans r
 have G5:=(I.block _ (lt_of_block G4)).trans G4
 have cd:Below w.heap.size w w5:=Below.thenOf q I q.size
 obtain⟨k0,k1,k2⟩:=gJ (u:=.slice a6 n6 c6) (v:=.slice a7 n7 c7) S
 obtain⟨M,J⟩:∃ M,M=(w5.setCell ⟨g8,0,none⟩ (.slice a6 n6 c6)).setCell ⟨g8,1,none⟩ (.slice a7 n7 c7):=⟨_,rfl⟩
 have ce:Below w.heap.size w M:=by rw[J];exact cz cd (Nat.le_trans l.out.size P) _ _
 rw[<-J] at k0 k1 k2
 have G6:=(k1 (w.heap.size+1+1) (by omega)).trans G5
 have cf:Hid _:=pb M.heap.size _ _ M (cb.keep k1 l8 k2).at (Nat.le_refl _) L.out
 clear x0 x1 e0 e1 z0 z1 z2 z3 f0 f1 f2 f3 r2
 obtain⟨x0,x1,e0,e1⟩:=aO S
 have es:Hid (M=_):=J
 have o:Hid (Below w.heap.size w M/\M.heap[w.heap.size+1+1]?=some (.cells #[.slice none 0 0,.slice none 0 0,.slice none 0 0,.bool false] 27 (0,0))):=⟨ce,G6⟩
 clear G4 G5 G6 r S P F G q cd ce cb I k0 k1 k2 J lW l8 K L
 go_wp2_with fail
 rw[<-es.out]
 go_at_call 35
 refine Calls.mono cf.out ?_
 rintro e w7 ⟨v7,rfl,T,U⟩
 obtain⟨a8,c8,a9,c9,et,eu,rfl,-⟩:=T.at.shape
 have G7:=(U.block _ (lt_of_block o.out.2)).trans o.out.2
 clear x0 x1 e0 e1
 obtain⟨z0,z1,z2,z3,f0,f1,f2,f3⟩:=am G7
 obtain⟨W7,cl,k7,HF⟩:=fJ G7 T (lt_of_block o.out.2) (Below.thenOf o.out.1 U o.out.1.size) (by omega) (λk h=>Nat.lt_of_lt_of_le h o.out.1.size)
 have eN:Hid (W7=_):=cl
 obtain⟨v0,v1,v2,v3,-⟩:=am k7
 simp only at*
 generalize aA.length=n8 at*
 generalize TD.1.length=n9 at*
 generalize TD.2.length=eO at*
 clear cl k7 G7 T U o cf
 go_wp2_with fail
 rw[<-eN.out]
 refine bodyPost_ret (v:=.tuple #[.agg #[.slice a8 n8 c8,.slice a9 n9 c9,.slice et eO eu,.bool false],.int .i64 0]) ?_ rfl ⟨_,rfl,by rw[HR.out];exact HF.out⟩
 rw[results_cell_tmp rfl]
 go_simp
end Go.Proofs.YtnpdhopjpjickaaGreatDoor
end
