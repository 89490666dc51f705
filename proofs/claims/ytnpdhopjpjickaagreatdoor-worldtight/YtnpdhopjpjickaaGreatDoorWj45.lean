/- Joined: Wp3 Wp4 WpA. -/
import Derived.Test.YtnpdhopjpjickaaGreatDoorWj01
import Derived.Test.YtnpdhopjpjickaaGreatDoorWj43
section
set_option linter.all false
set_option maxRecDepth 100000
set_option maxHeartbeats 4000000
namespace Go.Proofs.YtnpdhopjpjickaaGreatDoor
open Go.RowKit Go.Maps
def jN (d:bA):Int:=if az d=0 then (aK (cR d)).2 else az d
def lj (d:bA):aq:=if jN d=0 then ((aK (cR d)).1,fX d,true) else fF
theorem tU (B:Nat) (v:Value) (d:bA) (w:World) (he:dX w) (hd:ei B w v d) (hB:B<=w.heap.size) (P:lm d):
  Calls Tryz.prog 36 #[v] w λe f=>∃ v',e=.returned (.tuple #[v',.int .i64 (jN d)])/\mx (λk=>k<w.heap.size) f v' (lj d)/\Below w.heap.size w f:=by
 obtain⟨a,c,b,L,rfl⟩:=hd.shapeS
 have Q:Hid (∀ f,Below w.heap.size w f->Calls Tryz.prog 67 #[.agg #[.slice a d.1.length c,.slice b d.2.length L]] f λe g=>∃ t H y a2 n2 L la ln lc,e=.returned (.tuple #[.agg #[.slice t H y,.slice a2 n2 L],.slice la ln lc,.int .i64 (az d)])/\bL f.heap.size g (.agg #[.slice t H y,.slice a2 n2 L]) (fX d)/\bX g.heap.size g (.slice la ln lc) (cR d)/\Below f.heap.size f g):=λf h=>(vU B _ d f (he.later h) (hd.later h hB) (Nat.le_trans hB h.size) P).mono λe g ⟨v',R,h1,S,h3,h4⟩=>by
  obtain⟨t,y,b1,L,e1⟩:=S.at.shapeS
  obtain⟨la,lc,e2,-⟩:=id h3
  subst e1 e2
  exact⟨_,_,_,_,_,_,_,_,_,h1,S,h3,h4⟩
 have T:Hid (∀ R f,bX f.heap.size f R (cR d)->Calls Tryz.prog 68 #[R] f λe g=>∃ a n c,e=.returned (.tuple #[.slice a n c,.int .i64 (aK (cR d)).2])/\qJ f.heap.size g (.slice a n c) (aK (cR d)).1/\Below f.heap.size f g):=λR f h=>(yH _ R _ f h (Nat.le_refl _)).mono λe g ⟨v',h1,S,h3⟩=>by
  obtain⟨a,c,e,-⟩:=S.at.shape
  subst e
  exact⟨_,_,_,h1,S,h3⟩
 have I:Hid (jN d=if az d=0 then (aK (cR d)).2 else az d):=rfl
 have O:Hid (lj d=if jN d=0 then ((aK (cR d)).1,fX d,true) else fF):=rfl
 clear hd P he hB
 generalize cR d=rs at*
 generalize fX d=D at*
 generalize az d=de at*
 generalize jN d=BE at*
 generalize lj d=BR at*
 generalize (aK rs).1=C at*
 generalize (aK rs).2=E at*
 generalize d.1.length=n at*
 generalize d.2.length=m at*
 obtain⟨W,U⟩:∃ W,W=(w.alloc (.cells #[.slice a n c,.slice b m L] 25)).alloc (.cells #[.slice none 0 0,.slice none 0 0,.slice none 0 0,.bool false] 27):=⟨_,rfl⟩
 have z:Below w.heap.size w W:=by rw[U];exact ((Below.refl _ _).alloc (Nat.le_refl _) _).alloc (by simp) _
 have g0:W.heap[w.heap.size]?=some (.cells #[.slice a n c,.slice b m L] 25 (0,0)):=by rw[U];exact cj _ (bT _ _ rfl)
 have g1:W.heap[w.heap.size+1]?=some (.cells #[.slice none 0 0,.slice none 0 0,.slice none 0 0,.bool false] 27 (0,0)):=by rw[U];exact bT _ _ (by simp only[World.size_alloc])
 have HW:=hid U
 clear U
 go_enter Tryz.func36,Tryz.ntmps36
 go_wp2_with fail
 rw[<-HW.out]
 go_at_call 67
 refine Calls.mono (Q.out W z) ?_
 rintro e w1 ⟨t,H,y,V,X,Y,la,ln,lc,rfl,Z,a0,p⟩
 have J:=(p.block _ (lt_of_block g0)).trans g0
 have s:=(p.block _ (lt_of_block g1)).trans g1
 obtain⟨k0,k1,k2⟩:=gJ (u:=.slice t H y) (v:=.slice V X Y) J
 obtain⟨A,F⟩:∃ A,A=(w1.setCell ⟨w.heap.size,0,none⟩ (.slice t H y)).setCell ⟨w.heap.size,1,none⟩ (.slice V X Y):=⟨_,rfl⟩
 obtain⟨x0,x1,f0,f1⟩:=aO J
 obtain⟨z0,z1,z2,z3,e0,e1,e2,e3⟩:=am s
 have a5:Below w.heap.size w A:=by rw[F];exact cz (Below.thenOf z p z.size) (Nat.le_refl _) _ _
 have l1:=lt_of_block s
 rw[<-F] at k0 k1 k2
 have K1:=(k1 (w.heap.size+1) (by omega)).trans s
 have b8:Hid (bL W.heap.size A (.agg #[.slice t H y,.slice V X Y]) D):=Z.keep k1 (lt_of_block g0) k2
 have M:=a0.box k1 (fQ.of J)
 rw[<-k2] at M
 have j:Hid _:=T.out _ A M
 have K:Hid (A.heap[w.heap.size]?=some (.cells #[.slice t H y,.slice V X Y] 25 (0,0))/\A.heap[w.heap.size+1]?=some (.cells #[.slice none 0 0,.slice none 0 0,.slice none 0 0,.bool false] 27 (0,0))):=⟨k0,K1⟩
 have l:Hid (Below w.heap.size w A/\W.heap.size<=A.heap.size/\w.heap.size+1<W.heap.size):=⟨a5,by have:=p.size;omega,lt_of_block g1⟩
 have N:=hid F
 clear F k0 k1 k2 K1 M Z a0 J s Q T z p g0 g1 a5 HW
 by_cases q:de=0
 ·subst q
  rw[if_pos rfl] at I
  go_wp2_with fail
  rw[<-N.out]
  go_at_call 68
  refine Calls.mono j.out ?_
  rintro e w3 ⟨ra,rn,rc,rfl,hc,o⟩
  have J:=(o.block _ (lt_of_block K.out.1)).trans K.out.1
  have s:=(o.block _ (lt_of_block K.out.2)).trans K.out.2
  have G:Below w.heap.size w w3:=Below.thenOf l.out.1 o l.out.1.size
  obtain⟨y0,y1,-,-⟩:=aO J
  clear x0 x1 f0 f1 z0 z1 z2 z3 e0 e1 e2 e3 l1 N
  obtain⟨z0,z1,z2,z3,e0,e1,e2,e3⟩:=am s
  by_cases hE:E=0
  ·subst hE
   rw[I.out,if_pos rfl] at O
   obtain⟨W5,i,k,HF⟩:=fJ (x:=(C,D,true)) s (sm (hc.later (Below.refl _ _) λk _ h=>Nat.lt_of_lt_of_le h l.out.2.1) (b8.out.later o).k rfl) l.out.2.2 G (Nat.le_succ _) (λk h=>by have:=l.out.2.2;omega)
   have r:=hid i
   obtain⟨v0,v1,v2,v3,-⟩:=am k
   clear J s G hc i k o K j
   go_wp2_with fail
   rw[<-r.out]
   refine bodyPost_ret (v:=.tuple #[.agg #[.slice ra rn rc,.slice t H y,.slice V X Y,.bool true],.int .i64 0]) ?_ rfl ⟨_,by rw[I.out],by rw[O.out];exact HF.out⟩
   rw[results_cell_tmp rfl]
   go_simp
  ·rw[I.out,if_neg hE] at O
   have hq:(E != 0)=true:=by simpa using hE
   obtain⟨W5,i,k,HF⟩:=jd s G (Nat.le_succ _)
   have r:=hid i
   obtain⟨v0,v1,v2,v3,-⟩:=am k
   clear J s G hc i k o K hE j
   go_wp2_with fail
   rw[<-r.out]
   refine bodyPost_ret (v:=.tuple #[.agg #[.slice none 0 0,.slice none 0 0,.slice none 0 0,.bool false],.int .i64 E]) ?_ rfl ⟨_,by rw[I.out],by rw[O.out];exact HF.out⟩
   rw[results_cell_tmp rfl]
   go_simp
 ·rw[if_neg q] at I
  rw[I.out,if_neg q] at O
  have hq:(de != 0)=true:=by simpa using q
  obtain⟨W5,i,k,HF⟩:=jd K.out.2 l.out.1 (Nat.le_succ _)
  have r:=hid i
  obtain⟨v0,v1,v2,v3,-⟩:=am k
  clear i k q j K
  go_wp2_with fail
  rw[<-N.out,<-r.out]
  refine bodyPost_ret (v:=.tuple #[.agg #[.slice none 0 0,.slice none 0 0,.slice none 0 0,.bool false],.int .i64 de]) ?_ rfl ⟨_,by rw[I.out],by rw[O.out];exact HF.out⟩
  rw[results_cell_tmp rfl]
  go_simp
end Go.Proofs.YtnpdhopjpjickaaGreatDoor
end
section
set_option linter.all false
set_option maxRecDepth 100000
set_option maxHeartbeats 4000000
namespace Go.Proofs.YtnpdhopjpjickaaGreatDoor
open Go.RowKit Go.Maps
theorem kt (B:Nat) (v:Value) (x:aq) (w:World) (he:dX w) (hx:aC B w v x) (S:B<=w.heap.size) (ac:lm x.2.1):
  Calls Tryz.prog 13 #[v] w λe a=>e=.returned (.int .i64 (cg x))/\Below w.heap.size w a:=by
 obtain⟨ca,cc,sa,sc,ta,tc,rfl,hc,hd⟩:=hx.shape
 obtain⟨b,d,u⟩:=x
 simp only at*
 have dk:Hid (∀ a,Below w.heap.size w a->Calls Tryz.prog 34 #[.agg #[.slice sa d.1.length sc,.slice ta d.2.length tc]] a λe c=>e=.returned (.int .i64 (az d))/\Below a.heap.size a c):=λa h=>hQ B _ d a (he.later h) (hd.later h S) (Nat.le_trans S h.size) ac
 have T:Hid (az d=0->∀ a,Below w.heap.size w a->Calls Tryz.prog 35 #[.agg #[.slice sa d.1.length sc,.slice ta d.2.length tc]] a λe c=>∃ s O t y P z A Q D R,e=.returned (.agg #[.slice s O t,.slice y P z,.slice A Q D,.bool R])/\mx (λk=>k<a.heap.size) c (.agg #[.slice s O t,.slice y P z,.slice A Q D,.bool R]) (aA,d,false)/\Below a.heap.size a c):=λh0 a h=>(pb B _ d a (hd.later h S) (Nat.le_trans S h.size) ⟨(dK h0).1,(dK h0).2.1⟩).mono λe c ⟨v',h1,h2,h3⟩=>by
  obtain⟨s,t,y,z,A,D,e,-⟩:=h2.at.shape
  subst e
  exact⟨_,_,_,_,_,_,_,_,_,_,h1,h2,h3⟩
 have U:Hid (az d=0->∀ a,Below w.heap.size w a->Calls Tryz.prog 36 #[.agg #[.slice sa d.1.length sc,.slice ta d.2.length tc]] a λe c=>∃ s O t y P z A Q D R,e=.returned (.tuple #[.agg #[.slice s O t,.slice y P z,.slice A Q D,.bool R],.int .i64 (aK (cR d)).2])/\mx (λk=>k<a.heap.size) c (.agg #[.slice s O t,.slice y P z,.slice A Q D,.bool R]) (lj d)/\Below a.heap.size a c):=λh0 a h=>(tU B _ d a (he.later h) (hd.later h S) (Nat.le_trans S h.size) ac).mono λe c ⟨v',h1,h2,h3⟩=>by
  obtain⟨s,t,y,z,A,D,e,-⟩:=h2.at.shape
  subst e
  rw[show jN d=(aK (cR d)).2 from if_pos h0] at h1
  exact⟨_,_,_,_,_,_,_,_,_,_,h1,h2,h3⟩
 have j:Hid (∀ (lv:Value) (ls:List ay) a,Below w.heap.size w a->bl a.heap.size a lv ls->Calls Tryz.prog 37 #[.slice ca b.length cc,lv] a λe c=>e=.returned (.bool (decide (b=ls)))/\Below a.heap.size a c):=λlv ls a h h1=>s9 a.heap.size _ _ b ls a ((hc.later h S).wide (Nat.le_trans S h.size)) h1 (Nat.le_refl _)
 have HT:Hid (d.2=[] ↔ d.2.length=0):=List.length_eq_zero_iff.symm
 have HU:Hid (cg (b,d,true)=if az d=0 then (if d.2≠[] then 4 else if (aK (cR d)).2=0 then (if (aK (cR d)).1=b then 0 else 4) else (aK (cR d)).2) else az d):=uU b d
 have HD:Hid (cg (b,d,false)=if az d=0 then (if aA=b then 0 else 4) else az d):=my b d
 have V:Hid (az d=0->(aK (cR d)).2=0->(lj d).1=(aK (cR d)).1):=λh0 h=>by unfold lj jN;rw[if_pos h0,if_pos h]
 clear hc hd hx he ac S
 generalize az d=de at*
 generalize cR d=rs at*
 generalize (aK rs).1=C at*
 generalize (aK rs).2=E at*
 generalize lj d=BR at*
 generalize b.length=nC at*
 generalize d.1.length=nS at*
 generalize d.2.length=nT at*
 obtain⟨W0,W⟩:∃ W0,W0=w.alloc (.cells #[.slice ca nC cc,.slice sa nS sc,.slice ta nT tc,.bool u] 27):=⟨_,rfl⟩
 have X:Below w.heap.size w W0:=by rw[W];exact (Below.refl _ _).alloc (Nat.le_refl _) _
 have g0:W0.heap[w.heap.size]?=some (.cells #[.slice ca nC cc,.slice sa nS sc,.slice ta nT tc,.bool u] 27 (0,0)):=by rw[W];exact af _ _
 have HG:Hid (∀ a,Below W0.heap.size W0 a->a.cell? ⟨w.heap.size,0,none⟩=some (.slice ca nC cc)/\a.cell? ⟨w.heap.size,1,none⟩=some (.slice sa nS sc)/\a.cell? ⟨w.heap.size,2,none⟩=some (.slice ta nT tc)/\a.cell? ⟨w.heap.size,3,none⟩=some (.bool u)/\a.cell? ⟨w.heap.size,1+1,none⟩=some (.slice ta nT tc)/\w.heap.size<a.heap.size/\Below w.heap.size w a):=λa h=>by
  have k:=(h.block _ (lt_of_block g0)).trans g0
  exact⟨ab k 0 rfl,ab k 1 rfl,ab k 2 rfl,ab k 3 rfl,ab k 2 rfl,lt_of_block k,Below.thenOf X h X.size⟩
 have dv:=hid W
 have e0:=hid X
 clear W g0 X
 go_enter Tryz.func13,Tryz.ntmps13
 go_wp2_with fail
 rw[<-dv.out]
 go_at_call 34
 refine Calls.mono (dk.out _ e0.out) ?_
 rintro e w1 ⟨rfl,G⟩
 obtain⟨q0,q1,q2,q3,br,l1,av⟩:=HG.out w1 G
 by_cases H:de=0
 case neg=>
  have hq:(de != 0)=true:=by simpa using H
  have e:Hid (cg (b,d,u)=de):=by
   unfold Hid
   cases u
   ·rw[HD.out,if_neg H]
   ·rw[HU.out,if_neg H]
  clear H HU HD T U j HT V
  go_wp2_with fail
  go_ret
  exact⟨by rw[e.out];rfl,av⟩
 subst H
 have I:Hid _:=T.out rfl w1 av
 cases u with
 | false=>
  have e:Hid (cg (b,d,false)=if aA=b then 0 else 4):=by unfold Hid;rw[HD.out,if_pos rfl]
  clear HU HD T U HT V
  go_wp2_with fail
  go_at_call 35
  refine Calls.mono I.out ?_
  rintro e2 i ⟨s,O,t,y,P,z,A,Q,D,R,rfl,Y,J⟩
  obtain⟨p0,p1,p2,p3,bs,l2,K⟩:=HG.out i (Below.thenOf G J G.size)
  clear q0 q1 q2 q3 br
  obtain⟨F,f⟩:∃ F,F=i.alloc (.cells #[.slice s O t,.slice y P z,.slice A Q D,.bool R] 27):=⟨_,rfl⟩
  have l:Below i.heap.size i F:=by rw[f];exact (Below.refl _ _).alloc (Nat.le_refl _) _
  have o:Below w.heap.size w F:=Below.thenOf K l K.size
  have bv:Hid _:=j.out _ _ F o (Y.cells.later l λ_ _ h=>h).at
  have b0:=hid f
  have bx:=hid o
  clear f l o Y J j
  go_wp2_with fail
  rw[<-b0.out]
  go_at_call 37
  refine Calls.mono bv.out ?_
  rintro e3 Z ⟨rfl,L⟩
  have m:Below w.heap.size w Z:=Below.thenOf bx.out L bx.out.size
  by_cases p:b=aA
  ·have q:Hid (cg (b,d,false)=0):=by unfold Hid;rw[e.out,if_pos p.symm]
   rw[show decide (b=(aA,d,false).1)=true from decide_eq_true p]
   clear p e
   go_wp2_with fail
   go_ret
   exact⟨by rw[q.out];rfl,m⟩
  ·have q:Hid (cg (b,d,false)=4):=by unfold Hid;rw[e.out,if_neg λh=>p h.symm]
   rw[show decide (b=(aA,d,false).1)=false from decide_eq_false p]
   clear p e
   go_wp2_with fail
   go_ret
   exact⟨by rw[q.out];rfl,m⟩
 | true=>
  have e:Hid (cg (b,d,true)=if d.2≠[] then 4 else if E=0 then (if C=b then 0 else 4) else E):=by unfold Hid;rw[HU.out,if_pos rfl]
  have a8:=U.out rfl
  have M:Hid _:=a8
  have a9:=V.out rfl
  have n:Hid _:=a9
  clear HU HD T U a8 V a9
  by_cases ht:nT=0
  case neg=>
   have q:Hid (cg (b,d,true)=4):=by unfold Hid;rw[e.out,if_pos λh=>ht (HT.out.1 h)]
   have h0:(0:Int)<(nT:Int):=by omega
   clear ht e HT M n j I
   go_wp2_with fail
   go_ret
   exact⟨by rw[q.out];rfl,av⟩
  have q:Hid (cg (b,d,true)=if E=0 then (if C=b then 0 else 4) else E):=by unfold Hid;rw[e.out,if_neg λh=>h (HT.out.2 ht)]
  subst ht
  clear e HT
  go_wp2_with fail
  go_at_call 35
  refine Calls.mono I.out ?_
  rintro e2 i ⟨s,O,t,y,P,z,A,Q,D,R,rfl,Y,J⟩
  have a3:=Below.thenOf G J G.size
  obtain⟨p0,p1,p2,p3,bs,l2,K⟩:=HG.out i a3
  clear q0 q1 q2 q3 br Y
  obtain⟨F,f⟩:∃ F,F=i.alloc (.cells #[.slice s O t,.slice y P z,.slice A Q D,.bool R] 27):=⟨_,rfl⟩
  have l:Below i.heap.size i F:=by rw[f];exact (Below.refl _ _).alloc (Nat.le_refl _) _
  have g3:F.heap[i.heap.size]?=some (.cells #[.slice s O t,.slice y P z,.slice A Q D,.bool R] 27 (0,0)):=by rw[f];exact af _ _
  have c3:=Below.thenOf a3 l a3.size
  have o:Below w.heap.size w F:=Below.thenOf K l K.size
  have c7:Hid _:=M.out F o
  have b0:=hid f
  have c8:=hid c3
  have G3:=hid g3
  clear f l o J M g3 a3 c3
  go_wp2_with fail
  rw[<-b0.out]
  go_at_call 36
  refine Calls.mono c7.out ?_
  rintro e4 Z ⟨a4,n4,c4,a5,n5,c5,a6,n6,c6,u4,rfl,b1,L⟩
  have cn:=Below.thenOf c8.out L c8.out.size
  obtain⟨r0,r1,r2,r3,fa,l4,m⟩:=HG.out Z cn
  have g4:=(L.block _ (lt_of_block G3.out)).trans G3.out
  clear p0 p1 p2 p3 bs
  obtain⟨W5,N⟩:∃ W5,W5=Z.alloc (.cells #[.slice a4 n4 c4,.slice a5 n5 c5,.slice a6 n6 c6,.bool u4] 27):=⟨_,rfl⟩
  have a7:Below Z.heap.size Z W5:=by rw[N];exact (Below.refl _ _).alloc (Nat.le_refl _) _
  have b3:Below w.heap.size w W5:=Below.thenOf m a7 m.size
  have cp:=hid N
  have g5:=(a7.block _ (lt_of_block g4)).trans g4
  have g6:W5.heap[Z.heap.size]?=some (.cells #[.slice a4 n4 c4,.slice a5 n5 c5,.slice a6 n6 c6,.bool u4] 27 (0,0)):=by rw[N];exact af _ _
  by_cases hE:E=0
  case neg=>
   have hq:(E != 0)=true:=by simpa using hE
   have e6:Hid (cg (b,d,true)=E):=by unfold Hid;rw[q.out,if_neg hE]
   have e7:=hid b3
   clear hE q j n b1 N a7 g4 g5 g6 b3
   go_wp2_with fail
   rw[<-cp.out]
   go_ret
   exact⟨by rw[e6.out];rfl,e7.out⟩
  subst hE
  rw[if_pos rfl] at q
  have l3:i.heap.size<Z.heap.size:=lt_of_block g4
  have lw:w.heap.size<=i.heap.size:=by omega
  obtain⟨k1,k2,k3,k4⟩:=jg (u0:=.slice a4 n4 c4) (u1:=.slice a5 n5 c5) (u2:=.slice a6 n6 c6) (u3:=.bool u4) g4
  obtain⟨W6,b4⟩:∃ W6,W6=(((Z.setCell ⟨i.heap.size,0,none⟩ (.slice a4 n4 c4)).setCell ⟨i.heap.size,1,none⟩ (.slice a5 n5 c5)).setCell ⟨i.heap.size,2,none⟩ (.slice a6 n6 c6)).setCell ⟨i.heap.size,3,none⟩ (.bool u4):=⟨_,rfl⟩
  rw[<-b4] at k1 k2 k3 k4
  obtain⟨W7,b5⟩:∃ W7,W7=W6.alloc (.cells #[.slice a4 n4 c4,.slice a5 n5 c5,.slice a6 n6 c6,.bool u4] 27):=⟨_,rfl⟩
  have b6:Below W6.heap.size W6 W7:=by rw[b5];exact (Below.refl _ _).alloc (Nat.le_refl _) _
  have b7:Below w.heap.size w W6:=m.trans (k4 _ lw)
  have r:Below w.heap.size w W7:=Below.thenOf b7 b6 b7.size
  have cx:bl W7.heap.size W7 (.slice a4 n4 c4) C:=by
   rw[<-n.out rfl]
   exact b1.cells W7 (Kx.put ((Kx.refl _ _).back b6 λ_ _ h=>h) (k4 0 (Nat.zero_le _)) (λg hg=>k2 g λe=>hg (by rw[e];exact lt_of_block G3.out)) k3)
  have cT:Hid _:=j.out _ _ W7 r cx
  have ea:=hid b4
  have eb:=hid b5
  have d0:=hid r
  obtain⟨y0,y1,y2,y3,f0,f1,f2,f3⟩:=am g4
  clear b4 N b5 a7 b3 b7 b6 r cx j n b1 k1 k2 k3 k4 g4 g5 g6 L cn lw m cp
  go_wp2_with fail
  rw[<-ea.out,<-eb.out]
  go_at_call 37
  refine Calls.mono cT.out ?_
  rintro e3 w7 ⟨rfl,ec⟩
  have r:Below w.heap.size w w7:=Below.thenOf d0.out ec d0.out.size
  by_cases p:b=C
  ·have e6:Hid (cg (b,d,true)=0):=by unfold Hid;rw[q.out,if_pos p.symm]
   rw[decide_eq_true p]
   clear p q
   go_wp2_with fail
   go_ret
   exact⟨by rw[e6.out];rfl,r⟩
  ·have e6:Hid (cg (b,d,true)=4):=by unfold Hid;rw[q.out,if_neg λh=>p h.symm]
   rw[decide_eq_false p]
   clear p q
   go_wp2_with fail
   go_ret
   exact⟨by rw[e6.out];rfl,r⟩
end Go.Proofs.YtnpdhopjpjickaaGreatDoor
end
section
set_option linter.all false
set_option maxRecDepth 100000
set_option maxHeartbeats 4000000
namespace Go.Proofs.YtnpdhopjpjickaaGreatDoor
open Go.RowKit Go.Maps
theorem sN (B:Nat) (v:Value) (x:aq) (c:Int) (a:Nat->Int) (w:World) (he:dX w) (Z:aC B w v x) (hc:wf c) (J:B<=w.heap.size) (K:lm x.2.1):
  Calls Tryz.prog 10 #[v,.int .i64 c,fK a] w λe d=>e=.returned (.tuple #[.int .i64 (gR x c a),.int .i64 (kb x c a)])/\Below w.heap.size w d:=by
 have y:Hid (∀ d,Below w.heap.size w d->Calls Tryz.prog 13 #[v] d λe z=>e=.returned (.int .i64 (cg x))/\Below d.heap.size d z):=λd h=>kt B v x d (he.later h) (Z.later h J) (Nat.le_trans J h.size) K
 have f:Hid (kb x c a=if cg x=0 then (if c<0\/3<c then 5 else if (aQ x.1 c).1=true then ik (aQ x.1 c).2.1 a else 6) else cg x):=rfl
 have m:Hid (gR x c a=if kb x c a=0 then j8 (aQ x.1 c).2.1 a else 0):=rfl
 have j:Hid (cg x=0->x.1.length=4):=λh=>(iV h).1.1
 have L:Hid (∀ ls,ik ls a≠0->j8 ls a=0):=λls h=>by unfold j8;rw[if_neg h]
 obtain⟨V,I,sa,sc,ta,tc,rfl,M,-⟩:=Z.shape
 have N:Hid (∀ d,Below w.heap.size w d->bl B d (.slice V x.1.length I) x.1):=λd h=>M.later h J
 have HB:=hid J
 clear Z M he K J hc
 generalize cg x=WE at*
 generalize kb x c a=AE at*
 generalize gR x c a=AV at*
 obtain⟨C,⟨s,t⟩,u⟩:=x
 unfold fK
 simp only at*
 obtain⟨n,hn⟩:∃ n,n=C.length:=⟨_,rfl⟩
 rw[<-hn] at N y j |-
 have HN:=hid hn
 clear hn
 generalize s.length=nS at*
 generalize t.length=nT at*
 obtain⟨W,O⟩:∃ W,W=(w.alloc (.cells #[.slice V n I,.slice sa nS sc,.slice ta nT tc,.bool u] 27)).alloc (.cells #[.int .i64 (a 0),.int .i64 (a 1),.int .i64 (a 2),.int .i64 (a 3),.int .i64 (a 4)] 34):=⟨_,rfl⟩
 have r:Below w.heap.size w W:=by rw[O];exact ((Below.refl _ _).alloc (Nat.le_refl _) _).alloc (by simp) _
 have X:W.heap[w.heap.size]?=some (.cells #[.slice V n I,.slice sa nS sc,.slice ta nT tc,.bool u] 27 (0,0)):=by rw[O];exact cj _ (bT _ _ rfl)
 have g1:W.heap[w.heap.size+1]?=some (.cells #[.int .i64 (a 0),.int .i64 (a 1),.int .i64 (a 2),.int .i64 (a 3),.int .i64 (a 4)] 34 (0,0)):=by rw[O];exact bT _ _ (by simp only[World.size_alloc])
 have A:Hid (∀ d,Below W.heap.size W d->d.heap[w.heap.size]?=some (.cells #[.slice V n I,.slice sa nS sc,.slice ta nT tc,.bool u] 27 (0,0))/\d.heap[w.heap.size+1]?=some (.cells #[.int .i64 (a 0),.int .i64 (a 1),.int .i64 (a 2),.int .i64 (a 3),.int .i64 (a 4)] 34 (0,0))/\Below w.heap.size w d):=λd h=>⟨(h.block _ (lt_of_block X)).trans X,(h.block _ (lt_of_block g1)).trans g1,Below.thenOf r h r.size⟩
 have HW:=hid O
 have ac:=hid r
 obtain⟨x0,x1,x2,x3,-⟩:=am X
 clear O r X g1
 go_enter Tryz.func10,Tryz.ntmps10
 go_wp2_with fail
 rw[<-HW.out]
 go_at_call 13
 refine Calls.mono (y.out _ ac.out) ?_
 rintro e g ⟨rfl,D⟩
 obtain⟨G0,G1,P⟩:=A.out g D
 clear x0 x1 x2 x3 y
 obtain⟨x0,x1,x2,x3,-⟩:=am G0
 have i:Hid (Below W.heap.size W g/\Below w.heap.size w g):=⟨D,P⟩
 clear G0 G1 D P
 by_cases k:WE=0
 case neg=>
  have hq:(WE != 0)=true:=by simpa using k
  rw[if_neg k] at f
  rw[f.out,if_neg k] at m
  clear k N j L
  go_wp2_with fail
  go_ret2
  exact⟨by rw[f.out,m.out];rfl,i.out.2⟩
 subst k
 rw[if_pos rfl] at f
 obtain rfl:n=4:=j.out rfl
 by_cases Y:c<0\/3<c
 ·rw[if_pos Y] at f
  rw[f.out,if_neg (by decide)] at m
  clear N j L
  rcases Y with h | h
  ·go_wp2_with fail
   go_ret2
   exact⟨by rw[f.out,m.out];rfl,i.out.2⟩
  ·have h0:¬c<0:=by omega
   have h4:(4:Int)<=c:=by omega
   clear h
   go_wp2_with fail
   go_ret2
   exact⟨by rw[f.out,m.out];rfl,i.out.2⟩
 rw[if_neg Y] at f
 obtain⟨l,rfl⟩:∃ l:Nat,c=(l:Int):=⟨c.toNat,by omega⟩
 have ba:(0:Int)<=(l:Int):=by omega
 have bq:¬(l:Int)<0:=by omega
 have bb:(l:Int)<4:=by omega
 have br:¬(4:Int)<=(l:Int):=by omega
 obtain⟨p,E⟩:∃ p,C[l]?=some p:=⟨C[l]'(by have:=HN.out;omega),by simp⟩
 have Q:aQ C (l:Int)=p:=by unfold aQ;rw[Int.toNat_natCast,List.getD_eq_getElem?_getD,E];rfl
 rw[Q] at f m
 obtain⟨_,_,e1,b0,-,R⟩:=N.out g i.out.2
 obtain⟨b,o,e,S,T⟩:=R l _ E
 simp at e1
 obtain⟨rfl,-,rfl⟩:=e1
 subst e
 obtain⟨la,lc,bs,bv,k0,k1,k2,k3,F,-⟩:=T.vals
 have bg:4<=I:=by have:=HN.out;omega
 have G:b<g.heap.size:=Nat.lt_of_lt_of_le S (Nat.le_trans HB.out i.out.2.size)
 clear R T E Q k2 k3 N b0 S Y j HN
 cases kf:p.1 with
 | false=>
  rw[kf,if_neg (by decide)] at f
  rw[f.out,if_neg (by decide)] at m
  rw[kf] at k0
  clear kf F L k1 G
  go_wp2_with fail
  go_ret2
  exact⟨by rw[f.out,m.out];rfl,i.out.2⟩
 | true=>
  rw[kf,if_pos rfl] at f
  have U:Hid (AV=j8 p.2.1 a):=by
   unfold Hid
   rw[m.out]
   split
   ·rfl
   ·rename_i h
    exact (L.out _ (by rw[<-f.out];exact h)).symm
  rw[kf] at k0
  have HA:Hid (∀ q:aw g,Calls Tryz.prog 27 #[.slice la p.2.1.length lc,.agg #[.int .i64 (a 0),.int .i64 (a 1),.int .i64 (a 2),.int .i64 (a 3),.int .i64 (a 4)]] q.1 λe z=>e=.returned (.tuple #[.int .i64 (j8 p.2.1 a),.int .i64 (ik p.2.1 a)])/\Below q.1.heap.size q.1 z):=λq=>BQ B _ _ a q.1 (F.later q.2 (Nat.le_trans HB.out i.out.2.size)) (Nat.le_trans HB.out (Nat.le_trans i.out.2.size q.2.size))
  have z1:∀ q:aw g,q.1.cell? ⟨b,o+l*4+1,none⟩=some (.slice la p.2.1.length lc):=λq=>q.cell k1 G
  rw[<-f.out,<-U.out] at HA
  generalize p.2.1.length=cn at*
  clear kf F m L G f U
  have b5:=aw.ne g
  have H:Hid (∀ q:aw g,Below W.heap.size W q.1):=λq=>Below.thenOf i.out.1 q.2 i.out.1.size
  have z0:∀ q:aw g,q.1.cell? ⟨w.heap.size,0,none⟩=some (.slice (some ⟨b,o,none⟩) 4 I):=λq=>ab (A.out q.1 (H.out q)).1 0 rfl
  have p0:∀ q:aw g,q.1.cell? ⟨w.heap.size+1,0,none⟩=some (.int .i64 (a 0)):=λq=>ab (A.out q.1 (H.out q)).2.1 0 rfl
  have p1:∀ q:aw g,q.1.cell? ⟨w.heap.size+1,1,none⟩=some (.int .i64 (a 1)):=λq=>ab (A.out q.1 (H.out q)).2.1 1 rfl
  have p2:∀ q:aw g,q.1.cell? ⟨w.heap.size+1,2,none⟩=some (.int .i64 (a 2)):=λq=>ab (A.out q.1 (H.out q)).2.1 2 rfl
  have p3:∀ q:aw g,q.1.cell? ⟨w.heap.size+1,3,none⟩=some (.int .i64 (a 3)):=λq=>ab (A.out q.1 (H.out q)).2.1 3 rfl
  have p4:∀ q:aw g,q.1.cell? ⟨w.heap.size+1,4,none⟩=some (.int .i64 (a 4)):=λq=>ab (A.out q.1 (H.out q)).2.1 4 rfl
  go_wp2_with fail
  refine bn (by kernel_rfl) (by kernel_rfl) ?_
  clear x0 x1 x2 x3 k0 k1
  repeat (go_big_quiet_step (first
   | (go_at_call 27;exact Calls.later (HA.out _))))
  refine wpQuiet_nil ?_
  rintro w2 ⟨⟨_,b2⟩,rfl⟩
  have b6:Hid (Below w.heap.size w w2):=Below.thenOf i.out.2 b2 i.out.2.size
  clear z0 z1 p0 p1 p2 p3 p4 b5 HA H b2
  go_wp2_with fail
  go_ret2
  exact⟨rfl,b6.out⟩
end Go.Proofs.YtnpdhopjpjickaaGreatDoor
end
