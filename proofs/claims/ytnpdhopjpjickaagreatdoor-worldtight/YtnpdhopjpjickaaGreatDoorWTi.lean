import Derived.Test.YtnpdhopjpjickaaGreatDoorWj01
import Derived.Test.YtnpdhopjpjickaaGreatDoorWj46
import Derived.Test.YtnpdhopjpjickaaGreatDoorHSl
import Derived.Test.YtnpdhopjpjickaaGreatDoorWoC
import Derived.Test.YtnpdhopjpjickaaGreatDoorWj16
set_option linter.all false
set_option maxRecDepth 100000
namespace Go.Proofs.YtnpdhopjpjickaaGreatDoor
open Go.RowKit Go.Maps
theorem xD {w:World} {b:Nat} {y:Nat->Int} {T:TypeId} (h:w.heap[b]?=some (.cells (dy y) T (0,0))):w.cell? ⟨b,0,none⟩=some (.int .i64 (y 0))/\w.cell? ⟨b,1,none⟩=some (.int .i64 (y 1))/\w.cell? ⟨b,2,none⟩=some (.int .i64 (y 2))/\w.cell? ⟨b,3,none⟩=some (.int .i64 (y 3))/\w.cell? ⟨b,4,none⟩=some (.int .i64 (y 4)):=
 ⟨ab h 0 rfl,ab h 1 rfl,ab h 2 rfl,ab h 3 rfl,ab h 4 rfl⟩
set_option maxHeartbeats 16000000 in
theorem C8 (B:Nat) (lv:Value) (l:List al) (c:Int) (x:Nat->Int) (w:World) (he:dX w) (hl:bX B w lv l) (hc:wf c) (hB:B<=w.heap.size):
  Calls Tryz.prog 8 #[lv,.int .i64 c,fK x] w λe a=>e=.returned (.bool true)/\Below w.heap.size w a:=by
 have HE:Hid (∀ a,Below w.heap.size w a->dX a):=λa h=>he.later h
 have ds:Hid (∀ a,Below w.heap.size w a->Calls Tryz.prog 12 #[] a λe q=>e=.returned (.bool true)/\Below a.heap.size a q):=λa h=>mw a (he.later h)
 have HR:Hid (∀ a,Calls Tryz.prog 25 #[fK x] a λe q=>e=.returned (fK (rx x))/\Below a.heap.size a q):=λa=>Ai x a
 have bb:Hid (dw (rx x)=0):=Ce x
 obtain⟨K,hK⟩:∃ K:Nat,(K:Int)=c % 4:=⟨(c % 4).toNat,by have:=Int.emod_nonneg c (show (4:Int)≠0 by decide);omega⟩
 have bc:K<4:=by have:=Int.emod_lt_of_pos c (show (0:Int)<4 by decide);omega
 have dv:Hid (∀ a,Calls Tryz.prog 23 #[.int .i64 c,.int .i64 4] a λe q=>e=.returned (.int .i64 K)/\q=a):=λa=>by
  have:=yU c 4 (by omega) a
  rw[<-hK] at this
  exact this
 obtain⟨la,lc,g6,g7,hC,-⟩:=id hl
 subst g6
 obtain⟨n,hn⟩:∃ n,n=l.length:=⟨_,rfl⟩
 rw[<-hn] at g7 |-
 have HN:=hid hn
 have HL:Hid (∀ a,Below w.heap.size w a->bX B a (.slice la l.length lc) l):=λa h=>hl.later h hB
 have hF:=ag
 clear hl he hn hc hK
 unfold fK at HR |-
 generalize rx x=y at*
 obtain⟨W0,bd⟩:∃ W0,W0=w.alloc (.cells #[.int .i64 (x 0),.int .i64 (x 1),.int .i64 (x 2),.int .i64 (x 3),.int .i64 (x 4)] 34):=⟨_,rfl⟩
 have cf:Below w.heap.size w W0:=by rw[bd];exact (Below.refl _ _).alloc (Nat.le_refl _) _
 have ci:W0.heap[w.heap.size]?=some (.cells (dy x) 34 (0,0)):=by rw[bd];exact af _ _
 have gb:=hid bd
 clear bd
 go_enter Tryz.func8,Tryz.ntmps8
 go_wp2_with fail
 rw[<-gb.out]
 go_at_call 25
 refine Calls.mono (HR.out _) ?_
 rintro e w1 ⟨rfl,cl⟩
 have X1:=(cl.block _ (lt_of_block ci)).trans ci
 obtain⟨z0,z1,z2,z3,z4⟩:=xD X1
 have Zf:=(cY X1).2
 have f0:=Zf 0
 have f1:=Zf 1
 have f2:=Zf 2
 have f3:=Zf 3
 have f4:=Zf 4
 have ea:=hid X1
 obtain⟨b,bf⟩:∃ b,b=((((w1.setCell ⟨w.heap.size,0,none⟩ (.int .i64 (y 0))).setCell ⟨w.heap.size,1,none⟩ (.int .i64 (y 1))).setCell ⟨w.heap.size,2,none⟩ (.int .i64 (y 2))).setCell ⟨w.heap.size,3,none⟩ (.int .i64 (y 3))).setCell ⟨w.heap.size,4,none⟩ (.int .i64 (y 4)):=⟨_,rfl⟩
 have cn:b.heap[w.heap.size]?=some (.cells (dy y) 34 (0,0)):=by rw[bf];exact D8 ea.out
 have b1:Below w.heap.size w1 b:=by rw[bf];exact t9 (Below.refl _ _) (Nat.le_refl _)
 have bg:Below w.heap.size w b:=(Below.thenOf cf cl cf.size).trans b1
 have O:Hid (∀ a,Below b.heap.size b a->a.heap[w.heap.size]?=some (.cells (dy y) 34 (0,0))/\Below w.heap.size w a):=λa h=>⟨(h.block _ (lt_of_block cn)).trans cn,Below.thenOf bg h bg.size⟩
 have gc:=hid bf
 have eb:=hid bg
 clear Zf X1 ci bf cn b1 bg cl cf ea
 go_wp2_with fail
 rw[<-gc.out]
 go_at_call 23
 refine Calls.mono (dv.out _) ?_
 rintro e hM ⟨rfl,c8⟩
 rw[c8]
 clear c8 z0 z1 z2 z3 z4 f0 f1 f2 f3 f4 HR dv
 go_wp2_with fail
 go_at_call 12
 refine Calls.mono (ds.out _ eb.out) ?_
 rintro e w2 ⟨rfl,co⟩
 go_wp2_with fail
 go_at_call 16
 refine Calls.mono (xw _) ?_
 rintro e g ⟨v3,rfl,bk,ec⟩
 have bm:=Below.thenOf co ec co.size
 obtain⟨d1,e1,d2,e2,d3,e3,ev,-,-⟩:=bk.shape
 subst ev
 have ed:iq.2.2=true:=rfl
 rw[ed] at bk |-
 generalize iq.1.length=m1 at*
 generalize iq.2.1.1.length=m2 at*
 generalize iq.2.1.2.length=m3 at*
 obtain⟨W4,bo⟩:∃ W,W=g.alloc (.cells #[.slice d1 m1 e1,.slice d2 m2 e2,.slice d3 m3 e3,.bool true] 27):=⟨_,rfl⟩
 have bp:Below g.heap.size g W4:=by rw[bo];exact (Below.refl _ _).alloc (Nat.le_refl _) _
 have g4:W4.heap[g.heap.size]?=some (.cells #[.slice d1 m1 e1,.slice d2 m2 e2,.slice d3 m3 e3,.bool true] 27 (0,0)):=by rw[bo];exact af _ _
 have ef:=Below.thenOf bm bp bm.size
 have eg:=hid bo
 have ej:Hid (∃ X,gT K y X (-1)/\X.2.2=true/\aC W4.heap.size W4 (.agg #[.slice d1 m1 e1,.slice d2 m2 e2,.slice d3 m3 e3,.bool true]) X/\W4.heap[g.heap.size]?=some (.cells #[.slice d1 m1 e1,.slice d2 m2 e2,.slice d3 m3 e3,.bool true] 27 (0,0))):=⟨iq,(Bu K y).1,rfl,(bk.later bp (Nat.le_refl _)).wide bp.size,g4⟩
 have ek:=hid ef
 have c9:=hid bm.size
 clear co ec bm bk bo bp g4 ef ed ds
 obtain⟨m,hm⟩:∃ m:Nat,min (n:Int) 20=(m:Int):=⟨min n 20,by omega⟩
 have hO:m<=n:=by omega
 have mc:(m:Int)<=(lc:Int):=by omega
 go_wp2_with fail
 rw[<-eg.out]
 clear hm
 go_loopw [8,27] (λmv iv wr=>∃ (i:Nat) (mo:Int),i<=m/\iv=.int .i64 i/\mv=.int .i64 mo/\Hid (∃ X q1 k1 j1 q2 k2 j2 q3 k3 j3 ub,gT K y X mo/\aC wr.heap.size wr (.agg #[.slice q1 k1 j1,.slice q2 k2 j2,.slice q3 k3 j3,.bool ub]) X/\wr.heap[g.heap.size]?=some (.cells #[.slice q1 k1 j1,.slice q2 k2 j2,.slice q3 k3 j3,.bool ub] 27 (0,0)))/\Hid (Below b.heap.size b wr)) (λ_ iv _=>m-(intOf iv).toNat)
 case atStart=>
  obtain⟨X,Z,-,h2,h3⟩:=ej.out
  exact⟨0,-1,by omega,rfl,rfl,⟨X,_,_,_,_,_,_,_,_,_,_,Z,h2,h3⟩,ek⟩
 case round=>
  obtain⟨i,mo,hi,rfl,rfl,HS,bq⟩:=hrel
  obtain⟨P,gp⟩:∃ x,x=wr:=⟨_,rfl⟩
  subst gp
  have i0:(0:Int)<=(i:Int):=by omega
  clear ej ek eg
  by_cases hR:i<m
  ·have i1:(i:Int)<(m:Int):=by omega
   obtain⟨r,el⟩:∃ r,l[i]?=some r:=⟨l[i]'(by rw[<-HN.out];omega),by simp⟩
   obtain⟨X,q1,k1,j1,q2,k2,j2,q3,k3,j3,ub,hT,hX,a7⟩:=HS.out
   have a8:=(O.out P bq.out).2
   obtain⟨_,_,em,-,-,en⟩:=HL.out P a8
   obtain⟨b3,o3,e,hr,gv⟩:=en i r el
   simp at em
   obtain⟨rfl,-⟩:=em
   subst e
   obtain⟨rv,t0,t1,t2,t3,t4,br⟩:=gv
   obtain⟨ra,bs,er,-⟩:=br.shape
   simp at er
   subst er
   obtain⟨rl,ep⟩:∃ rl,rl=r.2.2.2.1.length:=⟨_,rfl⟩
   rw[<-ep] at t3 br
   have hZ:=a8.size
   have i2:b3<P.heap.size:=by omega
   obtain⟨W5,bv⟩:∃ W5,W5=P.alloc (.cells #[.int .i64 r.1,.int .i64 r.2.1,.int .i64 r.2.2.1,.slice ra rl bs,.int .i64 r.2.2.2.2] 32):=⟨_,rfl⟩
   have G:Below P.heap.size P W5:=by rw[bv];exact (Below.refl _ _).alloc (Nat.le_refl _) _
   have g5:W5.heap[P.heap.size]?=some (.cells #[.int .i64 r.1,.int .i64 r.2.1,.int .i64 r.2.2.1,.slice ra rl bs,.int .i64 r.2.2.2.2] 32 (0,0)):=by rw[bv];exact af _ _
   have bx:Below b.heap.size b W5:=Below.thenOf bq.out G bq.out.size
   have Q:Hid (Calls Tryz.prog 9 #[.agg #[.slice q1 k1 j1,.slice q2 k2 j2,.slice q3 k3 j3,.bool ub],.agg #[.int .i64 r.1,.int .i64 r.2.1,.int .i64 r.2.2.1,.slice ra rl bs,.int .i64 r.2.2.2.2]] W5 λe q=>∃ z L A C M D E N F R,e=.returned (.tuple #[.agg #[.slice z L A,.slice C M D,.slice E N F,.bool R],.int .i64 (fI X r)])/\aC q.heap.size q (.agg #[.slice z L A,.slice C M D,.slice E N F,.bool R]) (fp X r)/\R=(fp X r).2.2/\Below W5.heap.size W5 q):=by
    refine (mI W5.heap.size _ _ X r W5 (HE.out _ (O.out W5 bx).2) ((hX.later G (Nat.le_refl _)).wide G.size) (kF (br.later G (by omega)) (by have:=G.size;omega)) (Nat.le_refl _) (Ex hT.1)).mono λe a ⟨v,Z,h2,h3⟩=>?_
    obtain⟨z,A,C,D,E,F,ev,-,-⟩:=h2.shape
    subst ev
    exact⟨z,_,A,C,_,D,E,_,F,_,Z,h2,rfl,h3⟩
   have HO:Hid (∀ a,Below W5.heap.size W5 a->aC P.heap.size a (.agg #[.slice q1 k1 j1,.slice q2 k2 j2,.slice q3 k3 j3,.bool ub]) X/\a.heap[g.heap.size]?=some (.cells #[.slice q1 k1 j1,.slice q2 k2 j2,.slice q3 k3 j3,.bool ub] 27 (0,0))/\a.heap[P.heap.size]?=some (.cells #[.int .i64 r.1,.int .i64 r.2.1,.int .i64 r.2.2.1,.slice ra rl bs,.int .i64 r.2.2.2.2] 32 (0,0))/\Below b.heap.size b a/\P.heap.size<=a.heap.size):=λa h=>by
    have Z:=Below.thenOf G h G.size
    exact⟨hX.later Z (Nat.le_refl _),(Z.block _ (lt_of_block a7)).trans a7,(h.block _ (lt_of_block g5)).trans g5,Below.thenOf bx h bx.size,Z.size⟩
   have HT:=hid hT
   have gW:=hid bv
   obtain⟨⟨x0,x1,x2,x3⟩,-⟩:=dD a7
   have lx:g.heap.size<P.heap.size:=lt_of_block a7
   clear bv G g5 br hX el en ep hT HS a7 bx a8
   go_wp2_with fail
   rw[<-gW.out]
   go_at_call 9
   refine Calls.mono Q.out ?_
   rintro e w6 ⟨z,L,A,C,M,D,E,N,F,R,rfl,cs,cv,cx⟩
   obtain⟨c0,S,c4,T,cT⟩:=HO.out w6 cx
   clear t0 t1 t2 t3 t4 x0 x1 x2 x3
   obtain⟨⟨x0,x1,x2,x3⟩,d0,d5,d6,da⟩:=dD S
   obtain⟨t0,t1,-,-,-⟩:=bw c4
   have h5:=lt_of_block S
   have i3:=lt_of_block c4
   obtain⟨W7,c5⟩:∃ W,W=w6.alloc (.cells #[.slice z L A,.slice C M D,.slice E N F,.bool R] 27):=⟨_,rfl⟩
   have a4:Below w6.heap.size w6 W7:=by rw[c5];exact (Below.refl _ _).alloc (Nat.le_refl _) _
   have eN:=hid c5
   have a9:=hid cv
   by_cases a5:fI X r=0
   case neg=>
    have hq:(fI X r != 0)=true:=by simpa using a5
    have cb:Hid ((∃ X q1 k1 j1 q2 k2 j2 q3 k3 j3 ub,gT K y X mo/\aC W7.heap.size W7 (.agg #[.slice q1 k1 j1,.slice q2 k2 j2,.slice q3 k3 j3,.bool ub]) X/\W7.heap[g.heap.size]?=some (.cells #[.slice q1 k1 j1,.slice q2 k2 j2,.slice q3 k3 j3,.bool ub] 27 (0,0)))/\Below b.heap.size b W7):=⟨⟨X,q1,k1,j1,q2,k2,j2,q3,k3,j3,ub,HT.out,(c0.later a4 cT).wide (by have:=a4.size;omega),(a4.block _ h5).trans S⟩,Below.thenOf T a4 T.size⟩
    generalize fI X r=de at*
    clear a5 cs cv cx c0 S c4 T cT a4 c5 HO Q HT a9
    go_wp2_with fail
    rw[<-eN.out]
    exact⟨⟨i+1,mo,by omega,by go_num,rfl,cb.out.1,cb.out.2⟩,by simp[intOf];omega⟩
   case pos=>
    have dc:=zc bc bb.out HT.out a5
    have aa:=o8 (mj a5)
    rw[a5]
    obtain⟨s1,s2,s3,s4⟩:=jg (u0:=.slice z L A) (u1:=.slice C M D) (u2:=.slice E N F) (u3:=.bool R) S
    have j:=cs.boxC s2 (Eg.of S c0) aa
    obtain⟨WS,dd⟩:∃ W,W=(((w6.setCell ⟨g.heap.size,0,none⟩ (.slice z L A)).setCell ⟨g.heap.size,1,none⟩ (.slice C M D)).setCell ⟨g.heap.size,2,none⟩ (.slice E N F)).setCell ⟨g.heap.size,3,none⟩ (.bool R):=⟨_,rfl⟩
    rw[<-dd] at s1 s2 s3 s4 j
    obtain⟨V,di⟩:∃ W,W=WS.alloc (.cells #[.slice z L A,.slice C M D,.slice E N F,.bool R] 27):=⟨_,rfl⟩
    have c6:Below WS.heap.size WS V:=by rw[di];exact (Below.refl _ _).alloc (Nat.le_refl _) _
    have dk:Below b.heap.size b WS:=T.trans (s4 _ c9.out)
    have k:Below b.heap.size b V:=Below.thenOf dk c6 dk.size
    rw[<-s3] at j
    have H8:Hid (∀ a,Below V.heap.size V a->aC a.heap.size a (.agg #[.slice z L A,.slice C M D,.slice E N F,.bool R]) (fp X r)/\a.heap[g.heap.size]?=some (.cells #[.slice z L A,.slice C M D,.slice E N F,.bool R] 27 (0,0))/\Below b.heap.size b a):=λa h=>by
     have Z:=Below.thenOf c6 h c6.size
     exact⟨(j.later Z (Nat.le_refl _)).wide Z.size,(Z.block _ (lt_of_block s1)).trans s1,Below.thenOf k h k.size⟩
    obtain⟨Y,hY⟩:∃ Y,Y=fp X r:=⟨_,rfl⟩
    rw[<-hY] at dc H8 a9
    have o:=hid dc
    obtain⟨z0,z1,z2,z3,z4⟩:=xD (O.out w6 T).1
    have lz:=lt_of_block (O.out w6 T).1
    have hv:¬P.heap.size=g.heap.size:=by omega
    have hw:¬g.heap.size=P.heap.size:=by omega
    have eO:¬w.heap.size=g.heap.size:=by have:=c9.out;have:=lt_of_block (O.out b (Below.refl _ _)).1;omega
    have hx:¬g.heap.size=w.heap.size:=λe=>eO e.symm
    have s:=hid dd
    have t:=hid di
    have p:Hid (Calls Tryz.prog 10 #[.agg #[.slice z L A,.slice C M D,.slice E N F,.bool R],.int .i64 K,.agg #[.int .i64 (y 0),.int .i64 (y 1),.int .i64 (y 2),.int .i64 (y 3),.int .i64 (y 4)]] V λe a=>e=.returned (.tuple #[.int .i64 (gR Y K y),.int .i64 (kb Y K y)])/\Below V.heap.size V a):=sN V.heap.size _ Y K y V (HE.out _ (O.out V k).2) (H8.out V (Below.refl _ _)).1 (WalkArith.wf_i64 (by omega)) (Nat.le_refl _) (by rw[hY];exact Ed)
    clear dc aa cs cv cx c0 S c4 T cT a4 c5 eN HO Q HT a5 s1 s2 s3 s4 j dd di c6 dk k hY
    obtain⟨f,H⟩:∃ f,f=(if r.1=4/\r.2.1=(K:Int) then -1 else mo):=⟨_,rfl⟩
    rw[<-H] at o
    have ha:(r.1=4/\r.2.1=(K:Int)/\f = -1)\/((r.1==4)=true/\(r.2.1==(K:Int))=false/\f=mo)\/((r.1==4)=false/\f=mo):=by
     by_cases h4:r.1=4
     ·by_cases hk:r.2.1=(K:Int)
      ·exact .inl ⟨h4,hk,by rw[H,if_pos ⟨h4,hk⟩]⟩
      ·exact .inr (.inl ⟨by simpa using h4,by simpa using hk,by rw[H,if_neg λe=>hk e.2]⟩)
     ·exact .inr (.inr ⟨by simpa using h4,by rw[H,if_neg λe=>h4 e.1]⟩)
    clear H
    rcases ha with ⟨h4,hk,rfl⟩ | ⟨h4,hk,rfl⟩ | ⟨h4,rfl⟩
    ·rw[h4] at t0
     rw[hk] at t1
     cases hu:R with
     | false=>
      subst hu
      go_wp2_with fail
      rw[<-s.out,<-t.out]
      obtain⟨j,g8,k⟩:=H8.out V (Below.refl _ _)
      exact⟨⟨i+1,(-1),by omega,by go_num,rfl,⟨Y,_,_,_,_,_,_,_,_,_,_,o.out,j,g8⟩,k⟩,by simp[intOf];omega⟩
     | true=>
      subst hu
      go_wp2_with fail
      rw[<-s.out,<-t.out]
      go_at_call 10
      refine Calls.mono p.out ?_
      rintro e I ⟨rfl,b9⟩
      have d:Hid (aC I.heap.size I (.agg #[.slice z L A,.slice C M D,.slice E N F,.bool true]) Y/\I.heap[g.heap.size]?=some (.cells #[.slice z L A,.slice C M D,.slice E N F,.bool true] 27 (0,0))/\Below b.heap.size b I):=H8.out I b9
      have ad:=pD bc bb.out o.out a9.out.symm
      clear b9 z0 z1 z2 z3 z4 x0 x1 x2 x3 d0 d5 d6 da t0 t1 p s t H8
      rcases ad with ⟨e6,ak⟩ | ⟨e0,u,J⟩
      ·rw[e6]
       generalize gR Y K y=vv at*
       clear ak
       clear e6
       go_wp2_with fail
       exact⟨⟨i+1,-1,by omega,by go_num,rfl,⟨Y,_,_,_,_,_,_,_,_,_,_,o.out,d.out.1,d.out.2.1⟩,d.out.2.2⟩,by simp[intOf];omega⟩
      ·rw[e0]
       have U:=hid J
       generalize gR Y K y=vv at*
       clear e0 J
       clear u
       go_wp2_with fail
       exact⟨⟨i+1,vv,by omega,by go_num,rfl,⟨Y,_,_,_,_,_,_,_,_,_,_,U.out,d.out.1,d.out.2.1⟩,d.out.2.2⟩,by simp[intOf];omega⟩
    ·skip
     cases hu:R with
     | false=>
      subst hu
      go_wp2_with fail
      rw[<-s.out,<-t.out]
      obtain⟨j,g8,k⟩:=H8.out V (Below.refl _ _)
      exact⟨⟨i+1,f,by omega,by go_num,rfl,⟨Y,_,_,_,_,_,_,_,_,_,_,o.out,j,g8⟩,k⟩,by simp[intOf];omega⟩
     | true=>
      subst hu
      go_wp2_with fail
      rw[<-s.out,<-t.out]
      go_at_call 10
      refine Calls.mono p.out ?_
      rintro e I ⟨rfl,b9⟩
      have d:Hid (aC I.heap.size I (.agg #[.slice z L A,.slice C M D,.slice E N F,.bool true]) Y/\I.heap[g.heap.size]?=some (.cells #[.slice z L A,.slice C M D,.slice E N F,.bool true] 27 (0,0))/\Below b.heap.size b I):=H8.out I b9
      have ad:=pD bc bb.out o.out a9.out.symm
      clear b9 z0 z1 z2 z3 z4 x0 x1 x2 x3 d0 d5 d6 da t0 t1 p s t H8
      rcases ad with ⟨e6,ak⟩ | ⟨e0,u,J⟩
      ·rw[e6]
       generalize gR Y K y=vv at*
       subst ak
       clear e6
       go_wp2_with fail
       exact⟨⟨i+1,-1,by omega,by go_num,rfl,⟨Y,_,_,_,_,_,_,_,_,_,_,o.out,d.out.1,d.out.2.1⟩,d.out.2.2⟩,by simp[intOf];omega⟩
      ·rw[e0]
       have U:=hid J
       generalize gR Y K y=vv at*
       clear e0 J
       by_cases h0:0<=f
       ·have Z:¬(f<vv):=λh=>u ⟨h0,h⟩
        clear u
        go_wp2_with fail
        exact⟨⟨i+1,vv,by omega,by go_num,rfl,⟨Y,_,_,_,_,_,_,_,_,_,_,U.out,d.out.1,d.out.2.1⟩,d.out.2.2⟩,by simp[intOf];omega⟩
       ·clear u
        go_wp2_with fail
        exact⟨⟨i+1,vv,by omega,by go_num,rfl,⟨Y,_,_,_,_,_,_,_,_,_,_,U.out,d.out.1,d.out.2.1⟩,d.out.2.2⟩,by simp[intOf];omega⟩
    ·skip
     cases hu:R with
     | false=>
      subst hu
      go_wp2_with fail
      rw[<-s.out,<-t.out]
      obtain⟨j,g8,k⟩:=H8.out V (Below.refl _ _)
      exact⟨⟨i+1,f,by omega,by go_num,rfl,⟨Y,_,_,_,_,_,_,_,_,_,_,o.out,j,g8⟩,k⟩,by simp[intOf];omega⟩
     | true=>
      subst hu
      go_wp2_with fail
      rw[<-s.out,<-t.out]
      go_at_call 10
      refine Calls.mono p.out ?_
      rintro e I ⟨rfl,b9⟩
      have d:Hid (aC I.heap.size I (.agg #[.slice z L A,.slice C M D,.slice E N F,.bool true]) Y/\I.heap[g.heap.size]?=some (.cells #[.slice z L A,.slice C M D,.slice E N F,.bool true] 27 (0,0))/\Below b.heap.size b I):=H8.out I b9
      have ad:=pD bc bb.out o.out a9.out.symm
      clear b9 z0 z1 z2 z3 z4 x0 x1 x2 x3 d0 d5 d6 da t0 t1 p s t H8
      rcases ad with ⟨e6,ak⟩ | ⟨e0,u,J⟩
      ·rw[e6]
       generalize gR Y K y=vv at*
       subst ak
       clear e6
       go_wp2_with fail
       exact⟨⟨i+1,-1,by omega,by go_num,rfl,⟨Y,_,_,_,_,_,_,_,_,_,_,o.out,d.out.1,d.out.2.1⟩,d.out.2.2⟩,by simp[intOf];omega⟩
      ·rw[e0]
       have U:=hid J
       generalize gR Y K y=vv at*
       clear e0 J
       by_cases h0:0<=f
       ·have Z:¬(f<vv):=λh=>u ⟨h0,h⟩
        clear u
        go_wp2_with fail
        exact⟨⟨i+1,vv,by omega,by go_num,rfl,⟨Y,_,_,_,_,_,_,_,_,_,_,U.out,d.out.1,d.out.2.1⟩,d.out.2.2⟩,by simp[intOf];omega⟩
       ·clear u
        go_wp2_with fail
        exact⟨⟨i+1,vv,by omega,by go_num,rfl,⟨Y,_,_,_,_,_,_,_,_,_,_,U.out,d.out.1,d.out.2.1⟩,d.out.2.2⟩,by simp[intOf];omega⟩
  ·obtain rfl:i=m:=by omega
   have i1:¬((i:Int)<(i:Int)):=by omega
   have Bw:Hid (Below w.heap.size w P):=(O.out P bq.out).2
   go_wp2_with fail
   go_ret
   exact⟨rfl,Bw.out⟩
end Go.Proofs.YtnpdhopjpjickaaGreatDoor
