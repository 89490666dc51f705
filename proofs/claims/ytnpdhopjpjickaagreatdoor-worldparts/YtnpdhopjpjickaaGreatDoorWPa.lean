import Derived.Test.YtnpdhopjpjickaaGreatDoorWj01
import Derived.Test.YtnpdhopjpjickaaGreatDoorWj46
import Derived.Test.YtnpdhopjpjickaaGreatDoorWj38
import Derived.Test.YtnpdhopjpjickaaGreatDoorHSl
import Derived.Test.YtnpdhopjpjickaaGreatDoorWj03
import Derived.Test.YtnpdhopjpjickaaGreatDoorWj43
set_option linter.all false
set_option maxRecDepth 100000
namespace Go.Proofs.YtnpdhopjpjickaaGreatDoor
open Go.RowKit Go.Maps
theorem Ez {x:aq} {l:List al}:lm (eT x l).2.1:=by
 unfold eT
 by_cases h:gC x l=0
 ·rw[if_pos h]
  refine Ex (mt ?_ l)
  unfold gC at h
  by_cases a:cg x=0
  ·exact a
  ·rw[if_neg a] at h
   exact h
 ·rw[if_neg h]
  unfold lm fF
  decide
theorem cw.wideI {B f:Nat} {w:World} {v:Value} {cs:List Int} (h:cw B w v cs) (p:B<=f):cw f w v cs:=by
 obtain⟨a,d,g,j,l,m⟩:=h
 refine⟨a,d,g,j,l,λi c n=>?_⟩
 obtain⟨b,o,e,q,k⟩:=m i c n
 exact⟨b,o,e,by omega,k⟩
theorem CS (x:aq) (l:List al):(im x l).length<=l.length:=by
 have a:∀ (l:List al) (s:aq × List Int),(l.foldl pH s).2.length=s.2.length+l.length:=by
  intro l
  induction l with
  | nil=>intro s;simp
  | cons y l b=>intro s;rw[List.foldl_cons,b];simp[pH];omega
 unfold im
 split
 ·unfold dY
  rw[a]
  simp
 ·simp
theorem Cl {x:aq} {l:List al} (h:gC x l=0):cg x=0:=by
 unfold gC at h
 by_cases a:cg x=0
 ·exact a
 ·rw[if_neg a] at h
  exact h
theorem Co {x:aq} {l:List al} (h:gC x l=0):l.length<=60:=by
 unfold gC at h
 by_cases a:cg x=0
 ·rw[if_pos a] at h
  by_cases b:60<l.length
  ·rw[if_pos b] at h
   cases h
  ·omega
 ·rw[if_neg a] at h
  exact absurd h a
set_option maxHeartbeats 8000000 in
theorem CN (B:Nat) (wv lv:Value) (x:aq) (l:List al) (k:Int) (w:World) (he:dX w) (hx:aC B w wv x) (hl:bX B w lv l) (hk:wf k) (hB:B<=w.heap.size) (e8:lm x.2.1):
  Calls Tryz.prog 7 #[wv,lv,.int .i64 k] w λe a=>e=.returned (.bool true)/\Below w.heap.size w a:=by
 have bp:Hid (∀ a,Below w.heap.size w a->Calls Tryz.prog 12 #[] a λe b=>e=.returned (.bool true)/\Below a.heap.size a b):=λa h=>mw a (he.later h)
 have bq:Hid (∀ a r J,Below w.heap.size w a->bX B a r J->Calls Tryz.prog 21 #[wv,r] a λe b=>∃ C m q o,e=.returned (.tuple #[C,.slice m q o,.int .i64 (gC x J)])/\aC b.heap.size b C (eT x J)/\cw b.heap.size b (.slice m q o) (im x J)/\Below a.heap.size a b):=λa r J h hy=>(r6 B wv r x J a (he.later h) (hx.later h hB) hy (Nat.le_trans hB h.size) e8).mono λe b ⟨C,ev,s,t,H,D⟩=>by
  obtain⟨m,o,ee,-,-⟩:=H.full
  subst ee
  exact⟨C,m,_,o,s,t,H,D⟩
 have e9:Hid (∀ a v y r J,Below w.heap.size w a->aC a.heap.size a v y->lm y.2.1->bX B a r J->Calls Tryz.prog 21 #[v,r] a λe b=>∃ C m q o,e=.returned (.tuple #[C,.slice m q o,.int .i64 (gC y J)])/\aC b.heap.size b C (eT y J)/\cw b.heap.size b (.slice m q o) (im y J)/\Below a.heap.size a b):=λa v y r J h hv hs hy=>(r6 a.heap.size v r y J a (he.later h) hv (hy.wide (Nat.le_trans hB h.size)) (Nat.le_refl _) hs).mono λe b ⟨C,ev,s,t,H,D⟩=>by
  obtain⟨m,o,ee,-,-⟩:=H.full
  subst ee
  exact⟨C,m,_,o,s,t,H,D⟩
 have HL:Hid (∀ a,Below w.heap.size w a->bX B a lv l):=λa h=>hl.later h hB
 obtain⟨ca,cc,sa,sc,ta,tc,rfl,-,-⟩:=hx.shape
 obtain⟨la,U,rfl,-,-,-⟩:=id hl
 generalize x.1.length=nC at*
 generalize x.2.1.1.length=nS at*
 generalize x.2.1.2.length=nT at*
 generalize x.2.2=u at*
 obtain⟨A,aa⟩:∃ n,n=l.length:=⟨_,rfl⟩
 have ac:=hid aa.symm
 rw[<-aa] at HL hl |-
 have cl:=hid hl
 obtain⟨V,ad⟩:∃ W,W=w.alloc (.cells #[.slice ca nC cc,.slice sa nS sc,.slice ta nT tc,.bool u] 27):=⟨_,rfl⟩
 have b0:Below w.heap.size w V:=by rw[ad];exact (Below.refl _ _).alloc (Nat.le_refl _) _
 have g0:V.heap[w.heap.size]?=some (.cells #[.slice ca nC cc,.slice sa nS sc,.slice ta nT tc,.bool u] 27 (0,0)):=by rw[ad];exact af _ _
 have HG:Hid (∀ a,Below V.heap.size V a->a.heap[w.heap.size]?=some (.cells #[.slice ca nC cc,.slice sa nS sc,.slice ta nT tc,.bool u] 27 (0,0))/\Below w.heap.size w a):=λa h=>⟨(h.block _ (lt_of_block g0)).trans g0,Below.thenOf b0 h b0.size⟩
 have hA:=hid ad
 have ef:Hid _:=bq.out V (.slice la A U) l b0 (HL.out V b0)
 have HP:Hid (gC x l=0->A<=60/\∀ k,gC x (l.take k)=0/\gC (eT x (l.take k)) (l.drop k)=0/\eT (eT x (l.take k)) (l.drop k)=eT x l/\im x l=im x (l.take k)++im (eT x (l.take k)) (l.drop k)):=λh=>⟨by rw[aa];exact Co h,λk=>wK h k⟩
 clear hx he e8 hl aa ad b0 g0 hk
 go_enter Tryz.func7,Tryz.ntmps7
 go_wp2_with fail
 rw[<-hA.out]
 go_at_call 21
 refine Calls.mono ef.out ?_
 rintro e L ⟨v1,m,q,o,rfl,N,cn,b1⟩
 obtain⟨a1,c1,a2,c2,a3,c3,ev,-,-⟩:=N.shape
 subst ev
 obtain⟨X,hX⟩:∃ X,X=eT x l:=⟨_,rfl⟩
 obtain⟨XL,cp⟩:∃ X,X=im x l:=⟨_,rfl⟩
 have bm:Hid (gC x l=0->∀ c∈X.1,∀ f∈c.2.1,f≠[]):=λh=>o8 (by
  rw[hX]
  unfold eT
  rw[if_pos h]
  exact mt (Cl h) _)
 rw[<-hX] at N HP |-
 have hE:Hid (XL.length<=l.length):=by rw[cp];exact CS _ _
 rw[<-cp] at cn HP
 obtain⟨n1,ej⟩:∃ n,n=X.1.length:=⟨_,rfl⟩
 obtain⟨n2,el⟩:∃ n,n=X.2.1.1.length:=⟨_,rfl⟩
 obtain⟨n3,em⟩:∃ n,n=X.2.1.2.length:=⟨_,rfl⟩
 obtain⟨u1,ep⟩:∃ n,n=X.2.2:=⟨_,rfl⟩
 rw[<-ej,<-el,<-em,<-ep] at N |-
 obtain⟨W2,b8⟩:∃ W,W=L.alloc (.cells #[.slice a1 n1 c1,.slice a2 n2 c2,.slice a3 n3 c3,.bool u1] 27):=⟨_,rfl⟩
 have b9:Below L.heap.size L W2:=by rw[b8];exact (Below.refl _ _).alloc (Nat.le_refl _) _
 have ba:=Below.thenOf b1 b9 b1.size
 have g2:W2.heap[L.heap.size]?=some (.cells #[.slice a1 n1 c1,.slice a2 n2 c2,.slice a3 n3 c3,.bool u1] 27 (0,0)):=by rw[b8];exact af _ _
 have HY:Hid (∀ a,Below W2.heap.size W2 a->aC L.heap.size a (.agg #[.slice a1 n1 c1,.slice a2 n2 c2,.slice a3 n3 c3,.bool u1]) X/\cw L.heap.size a (.slice m q o) XL/\L.heap.size<=a.heap.size/\a.heap[L.heap.size]?=some (.cells #[.slice a1 n1 c1,.slice a2 n2 c2,.slice a3 n3 c3,.bool u1] 27 (0,0))/\Below V.heap.size V a):=λa h=>by
  have s:=Below.thenOf b9 h b9.size
  exact⟨N.later s (Nat.le_refl _),cn.later s (Nat.le_refl _),s.size,(h.block _ (lt_of_block g2)).trans g2,Below.thenOf ba h ba.size⟩
 have hH:=hid b8
 have bo:Hid _:=bp.out W2 (HG.out W2 ba).2
 clear N cn b1 b8 b9 ba g2 ej el em ep hX cp ef
 generalize gC x l=re at*
 go_wp2_with fail
 rw[<-hH.out]
 go_at_call 12
 refine Calls.mono bo.out ?_
 rintro e Z ⟨rfl,b3⟩
 have bb:Hid (∀ a,Below Z.heap.size Z a->aC L.heap.size a (.agg #[.slice a1 n1 c1,.slice a2 n2 c2,.slice a3 n3 c3,.bool u1]) X/\cw L.heap.size a (.slice m q o) XL/\L.heap.size<=a.heap.size/\a.heap[L.heap.size]?=some (.cells #[.slice a1 n1 c1,.slice a2 n2 c2,.slice a3 n3 c3,.bool u1] 27 (0,0))/\Below V.heap.size V a):=λa h=>HY.out a (Below.thenOf b3 h b3.size)
 clear b3 bo HY
 have E:Hid (Below w.heap.size w Z):=(HG.out Z (bb.out Z (Below.refl _ _)).2.2.2.2).2
 by_cases d0:re=0
 case neg=>
  have hq:(re != 0)=true:=by simpa using d0
  clear d0 HP
  go_wp2_with fail
  go_at_call 12
  refine Calls.mono (bp.out Z E.out) ?_
  rintro e w4 ⟨rfl,b4⟩
  have hL:Hid (Below w.heap.size w w4):=Below.thenOf E.out b4 E.out.size
  clear b4
  go_wp2_with fail
  go_ret
  exact⟨rfl,hL.out⟩
 case pos=>
  subst d0
  obtain⟨eq,er⟩:=HP.out rfl
  have hN:Hid (∀ c∈X.1,∀ f∈c.2.1,f≠[]):=bm.out rfl
  clear bm
  obtain⟨M,hM⟩:∃ M:Nat,(M:Int)=k % ((A:Int)+1):=⟨(k % ((A:Int)+1)).toNat,by have:=Int.emod_nonneg k (show ((A:Int)+1)≠0 by omega);omega⟩
  have bc:M<=A:=by have:=Int.emod_lt_of_pos k (show (0:Int)<(A:Int)+1 by omega);omega
  have hO:Hid (∀ a,Calls Tryz.prog 23 #[.int .i64 k,.int .i64 ((A:Int)+1)] a λe b=>e=.returned (.int .i64 M)/\b=a):=λa=>by
   have:=yU k ((A:Int)+1) (by omega) a
   rw[<-hM] at this
   exact this
  obtain⟨p1,p2,p3,p4⟩:=er M
  obtain⟨k8,tk⟩:=Db cl.out M (by rw[ac.out];exact bc)
  obtain⟨a',kd,dr⟩:=AU cl.out M (by rw[ac.out];exact bc)
  have I:Hid (∀ a,Below w.heap.size w a->Calls Tryz.prog 21 #[.agg #[.slice ca nC cc,.slice sa nS sc,.slice ta nT tc,.bool u],.slice la M U] a λe b=>∃ C m q o,e=.returned (.tuple #[C,.slice m q o,.int .i64 0])/\aC b.heap.size b C (eT x (l.take M))/\cw b.heap.size b (.slice m q o) (im x (l.take M))/\Below a.heap.size a b):=λa h=>by
   have:=bq.out a (.slice la M U) (l.take M) h (tk a (HL.out a h))
   rw[p1] at this
   exact this
  have d1:Hid (lm (eT x (l.take M)).2.1):=Ez
  obtain⟨Y,hY⟩:∃ X,X=eT x (l.take M):=⟨_,rfl⟩
  obtain⟨YL,eF⟩:∃ X,X=im x (l.take M):=⟨_,rfl⟩
  rw[<-hY] at p2 p3 p4 d1 I
  rw[<-eF] at I p4
  have O:Hid (∀ a v,Below w.heap.size w a->aC a.heap.size a v Y->Calls Tryz.prog 21 #[v,.slice a' (A-M) (U-M)] a λe b=>∃ C m q o,e=.returned (.tuple #[C,.slice m q o,.int .i64 0])/\aC b.heap.size b C X/\cw b.heap.size b (.slice m q o) (im Y (l.drop M))/\Below a.heap.size a b):=λa v h hv=>by
   have:=e9.out a v Y (.slice a' (A-M) (U-M)) (l.drop M) h hv d1.out (dr a (HL.out a h))
   rw[p2,p3] at this
   exact this
  obtain⟨ZL,eN⟩:∃ X,X=im Y (l.drop M):=⟨_,rfl⟩
  rw[<-eN] at O p4
  have eO:=hid p4
  have ki:IntKind.i64.wrap ((A:Int)+1)=(A:Int)+1:=IntWalk.i64_in _ (by omega)
  have M0:(0:Int)<=(M:Int):=by omega
  have M1:(M:Int)<=(A:Int):=by omega
  have eV:Hid (M<=A/\A<=60):=⟨bc,eq⟩
  obtain⟨d3,f4⟩:=HG.out Z (bb.out Z (Below.refl _ _)).2.2.2.2
  obtain⟨⟨x0,x1,x2,x3⟩,-⟩:=dD d3
  have L3:Hid (w.heap.size<Z.heap.size):=lt_of_block d3
  have d5:Hid (∀ c∈Y.1,∀ f∈c.2.1,f≠[]):=o8 (by
   rw[hY]
   unfold eT
   rw[if_pos p1]
   exact mt (Cl p1) _)
  have d6:=hid hN.out
  clear p1 p2 p3 p4 er hM tk dr hY eF eN HP bq e9 d1 bp bc eq d3 f4
  go_wp2_with fail
  go_at_call 23
  refine Calls.mono (hO.out Z) ?_
  rintro e i ⟨rfl,rfl⟩
  have Mc:(M:Int)<=(U:Int):=by
   obtain⟨_,_,e,h,_⟩:=cl.out
   simp at e
   have:=eV.out
   have:=ac.out
   omega
  go_wp2_with fail
  have fl:Hid (∀ a,Below i.heap.size i a->Calls Tryz.prog 21 #[.agg #[.slice ca nC cc,.slice sa nS sc,.slice ta nT tc,.bool u],.slice la M U] a λe b=>∃ v,e=.returned v/\jF Y YL 0 b v/\Below a.heap.size a b):=λa h=>(I.out a (Below.thenOf E.out h E.out.size)).mono λe b ⟨C,m,q,o,s,t,H,D⟩=>by
   obtain⟨a1,c1,a2,c2,a3,c3,ev,-,-⟩:=t.shape
   rw[ev] at s t
   exact⟨_,s,⟨_,_,_,_,m,q,o,rfl,t,H⟩,D⟩
  have l3:w.heap.size<i.heap.size:=L3.out
  have q0:∀ z:aw i,z.1.cell? ⟨w.heap.size,0,none⟩=some (.slice ca nC cc):=λz=>z.cell x0 l3
  have q1:∀ z:aw i,z.1.cell? ⟨w.heap.size,1,none⟩=some (.slice sa nS sc):=λz=>z.cell x1 l3
  have q2:∀ z:aw i,z.1.cell? ⟨w.heap.size,2,none⟩=some (.slice ta nT tc):=λz=>z.cell x2 l3
  have q3:∀ z:aw i,z.1.cell? ⟨w.heap.size,3,none⟩=some (.bool u):=λz=>z.cell x3 l3
  have F:=aw.ne i
  have j:Hid (∀ fs a,r7 4 9 10 i (jF Y YL 0) fs a->∃ z:aw i,a=z.1):=λfs a h=>⟨⟨a,h.below⟩,rfl⟩
  refine bh [_,_,_,_,_,_,_,_,_,_,_,_] _ rfl (λk=>k==4||k==9||k==10) (r7 4 9 10 i (jF Y YL 0)) (EV 4 9 0) (xy 4 9 (by decide) 0) (by kernel_rfl) (by kernel_rfl) (r7.start _ _ _ _ _) ?_
  iterate 4 (refine aH j.out rfl rfl ?_;go_big_quiet_step (fail);refine wpQuiet_nil ?_)
  refine bu 21 #[.agg #[.slice ca nC cc,.slice sa nS sc,.slice ta nT tc,.bool u],.slice la M U] rfl rfl (λa=>by kernel_rfl) (λgs a p d g=>?_) (λv4 di=>?_)
  ·refine (fl.out a p.below).mono ?_
   rintro e w4 ⟨v,rfl,hG,hb⟩
   exact⟨_,rfl,⟨λ_=>hG.shape,λe=>by cases e⟩,p.call jF.later (by decide) (by decide) g hb hG⟩
  simp only[Act.put,List.setIfInBounds_toArray,List.set_cons_succ,List.set_cons_zero]
  obtain⟨a4,m1,c4,a5,m2,c5,a6,m3,c6,u4,fa,fn,fc,rfl⟩:=di.1 rfl
  iterate 4 (refine aH j.out rfl rfl ?_;go_big_quiet_step (fail);refine wpQuiet_nil ?_)
  refine bY rfl rfl (λgs a p d g=>⟨.pointer (some ⟨a.heap.size,0,none⟩),_,?_,⟨λe=>(by cases e),λ_=>⟨_,rfl⟩⟩,p.made jF.later (by decide) (by decide) g⟩) (λv9 dk=>?_)
  ·clear p d g q0 q1 q2 q3 j F
   go_simp
  simp only[Act.put,List.setIfInBounds_toArray,List.set_cons_succ,List.set_cons_zero]
  obtain⟨g9,rfl⟩:=dk.2 rfl
  refine eB rfl rfl (λgs a p d g=>?_) (λi4 fT=>?_)
  ·have D:=d 4 _ (.inl (.inr ⟨rfl,rfl⟩)) (zQ0 (by kernel_rfl))
   have h9:=d 9 _ (.inr ⟨rfl,rfl⟩) (zQ0 (by kernel_rfl))
   obtain⟨P,Q⟩:=p.store (jF.box d5.out) (by decide) (by decide) g D h9
   obtain⟨⟨z0,z1,z2,z3⟩,f0,f1,f2,f3⟩:=dD P
   refine⟨_,?_,⟨λe=>(by cases e),λe=>(by cases e)⟩,Q⟩
   clear p d g q0 q1 q2 q3 j F D h9 P Q
   go_simp
  simp only[Act.put,List.setIfInBounds_toArray,List.set_cons_succ,List.set_cons_zero]
  refine aH j.out rfl rfl ?_;go_big_quiet_step (fail);refine wpQuiet_nil ?_
  refine dF ?_
  intro G p
  obtain⟨bd,i5,i6,dl⟩:=p.done (.inr ⟨rfl,rfl⟩) (.inl (.inl (.inr ⟨rfl,rfl⟩))) (.inl (.inr ⟨rfl,rfl⟩))
  obtain⟨ih,io,iv,ix,iO,j0,j1,ee,g3,R⟩:=i5
  simp at ee
  obtain⟨⟨rfl,rfl,rfl,rfl⟩,rfl,rfl,rfl⟩:=ee
  have S:Below w.heap.size w G:=Below.thenOf E.out bd E.out.size
  have g4:Hid (∀ a,Below G.heap.size G a->cw G.heap.size a (.slice fa fn fc) YL/\Below i.heap.size i a/\Below w.heap.size w a):=λa h=>⟨R.later h (Nat.le_refl _),Below.thenOf bd h bd.size,Below.thenOf S h S.size⟩
  have g5:Hid (∀ a,Below G.heap.size G a->Calls Tryz.prog 21 #[.agg #[.slice a4 m1 c4,.slice a5 m2 c5,.slice a6 m3 c6,.bool u4],.slice a' (A-M) (U-M)] a λe b=>∃ v,e=.returned v/\jF X ZL 0 b v/\Below a.heap.size a b):=λa h=>(O.out a _ (Below.thenOf S h S.size) ((g3.later h (Nat.le_refl _)).wide h.size)).mono λe b ⟨C,m,q,o,s,t,H,D⟩=>by
   obtain⟨a1,c1,a2,c2,a3,c3,ev,-,-⟩:=t.shape
   rw[ev] at s t
   exact⟨_,s,⟨_,_,_,_,m,q,o,rfl,t,H⟩,D⟩
  obtain⟨⟨x0,x1,x2,x3⟩,-⟩:=dD dl
  have l5:g9<G.heap.size:=lt_of_block dl
  clear p bd g3 R i6 dl S j F q0 q1 q2 q3 fl I O l3
  go_wp2_with fail
  have q0:∀ z:aw G,z.1.cell? ⟨g9,0,none⟩=some (.slice a4 m1 c4):=λz=>z.cell x0 l5
  have q1:∀ z:aw G,z.1.cell? ⟨g9,1,none⟩=some (.slice a5 m2 c5):=λz=>z.cell x1 l5
  have q2:∀ z:aw G,z.1.cell? ⟨g9,2,none⟩=some (.slice a6 m3 c6):=λz=>z.cell x2 l5
  have q3:∀ z:aw G,z.1.cell? ⟨g9,3,none⟩=some (.bool u4):=λz=>z.cell x3 l5
  have F:=aw.ne G
  have j:Hid (∀ fs a,r7 4 9 10 G (jF X ZL 0) fs a->∃ z:aw G,a=z.1):=λfs a h=>⟨⟨a,h.below⟩,rfl⟩
  refine bh [_,_,_,_,_,_,_,_,_,_,_,_] _ rfl (λk=>k==4||k==9||k==10) (r7 4 9 10 G (jF X ZL 0)) (EV 4 9 0) (xy 4 9 (by decide) 0) (by kernel_rfl) (by kernel_rfl) (r7.start _ _ _ _ _) ?_
  iterate 4 (refine aH j.out rfl rfl ?_;go_big_quiet_step (fail);refine wpQuiet_nil ?_)
  refine bu 21 #[.agg #[.slice a4 m1 c4,.slice a5 m2 c5,.slice a6 m3 c6,.bool u4],.slice a' (A-M) (U-M)] rfl rfl (λa=>by kernel_rfl) (λgs a p d g=>?_) (λv4 di=>?_)
  ·refine (g5.out a p.below).mono ?_
   rintro e w4 ⟨v,rfl,hG,hb⟩
   exact⟨_,rfl,⟨λ_=>hG.shape,λe=>by cases e⟩,p.call jF.later (by decide) (by decide) g hb hG⟩
  simp only[Act.put,List.setIfInBounds_toArray,List.set_cons_succ,List.set_cons_zero]
  obtain⟨a7,p1,c7,a8,p2,c8,a9,p3,c9,u7,ha,hn,hc,rfl⟩:=di.1 rfl
  iterate 4 (refine aH j.out rfl rfl ?_;go_big_quiet_step (fail);refine wpQuiet_nil ?_)
  refine bY rfl rfl (λgs a p d g=>⟨.pointer (some ⟨a.heap.size,0,none⟩),_,?_,⟨λe=>(by cases e),λ_=>⟨_,rfl⟩⟩,p.made jF.later (by decide) (by decide) g⟩) (λv9 dk=>?_)
  ·clear p d g q0 q1 q2 q3 j F
   go_simp
  simp only[Act.put,List.setIfInBounds_toArray,List.set_cons_succ,List.set_cons_zero]
  obtain⟨lo,rfl⟩:=dk.2 rfl
  refine eB rfl rfl (λgs a p d g=>?_) (λi4 fT=>?_)
  ·have D:=d 4 _ (.inl (.inr ⟨rfl,rfl⟩)) (zQ0 (by kernel_rfl))
   have h9:=d 9 _ (.inr ⟨rfl,rfl⟩) (zQ0 (by kernel_rfl))
   obtain⟨P,Q⟩:=p.store (jF.box d6.out) (by decide) (by decide) g D h9
   obtain⟨⟨z0,z1,z2,z3⟩,f0,f1,f2,f3⟩:=dD P
   refine⟨_,?_,⟨λe=>(by cases e),λe=>(by cases e)⟩,Q⟩
   clear p d g q0 q1 q2 q3 j F D h9 P Q
   go_simp
  simp only[Act.put,List.setIfInBounds_toArray,List.set_cons_succ,List.set_cons_zero]
  refine aH j.out rfl rfl ?_;go_big_quiet_step (fail);refine wpQuiet_nil ?_
  refine dF ?_
  intro K p
  obtain⟨bf,ja,g6,dn⟩:=p.done (.inr ⟨rfl,rfl⟩) (.inl (.inl (.inr ⟨rfl,rfl⟩))) (.inl (.inr ⟨rfl,rfl⟩))
  obtain⟨ih,io,iv,ix,iO,j0,j1,ee,g7,gb⟩:=ja
  simp at ee
  obtain⟨⟨rfl,rfl,rfl,rfl⟩,rfl,rfl,rfl⟩:=ee
  obtain⟨R,gc,dp⟩:=g4.out K bf
  obtain⟨gj,gk,bg,dq,-⟩:=bb.out K gc
  obtain⟨⟨x0,x1,x2,x3⟩,-⟩:=dD dq
  obtain⟨⟨y0,y1,y2,y3⟩,-⟩:=dD dn
  have lx:=lt_of_block dq
  have ly:=lt_of_block dn
  have go:Hid (∀ a,Below K.heap.size K a->Calls Tryz.prog 14 #[.agg #[.slice a1 n1 c1,.slice a2 n2 c2,.slice a3 n3 c3,.bool u1],.agg #[.slice a7 p1 c7,.slice a8 p2 c8,.slice a9 p3 c9,.bool u7]] a λe b=>e=.returned (.bool true)/\Below a.heap.size a b):=λa h=>by
   have:=mB a.heap.size _ _ X X a ((gj.later h bg).wide (Nat.le_trans bg h.size)) ((g7.later h (Nat.le_refl _)).wide h.size) (Nat.le_refl _)
   rw[decide_eq_true rfl] at this
   exact this
  have ds:Hid (∀ a,Below K.heap.size K a->cw K.heap.size a (.slice m q o) XL/\cw K.heap.size a (.slice fa fn fc) YL/\cw K.heap.size a (.slice ha hn hc) ZL/\Below w.heap.size w a):=λa h=>⟨(gk.later h bg).wideI bg,(R.later h bf.size).wideI bf.size,gb.later h (Nat.le_refl _),Below.thenOf dp h dp.size⟩
  have gp:Hid (YL.length+ZL.length<=60):=by
   have s:=hE.out
   have t:=eV.out
   have H:=ac.out
   rw[eO.out,List.length_append] at s
   unfold Hid
   omega
  clear p bf g7 gb g6 dn R gc dp gj gk dq j F q0 q1 q2 q3 g5 g4 bb
  go_wp2_with fail
  go_at_call 14
  refine Calls.mono (go.out K (Below.refl _ _)) ?_
  rintro e w7 ⟨rfl,b7⟩
  obtain⟨W8,bk⟩:∃ W,W=w7.alloc (.cells #[.slice fa fn fc,.slice ha hn hc] 53):=⟨_,rfl⟩
  have gv:Below w7.heap.size w7 W8:=by rw[bk];exact (Below.refl _ _).alloc (Nat.le_refl _) _
  have T:=Below.thenOf b7 gv b7.size
  have g8:W8.heap[w7.heap.size]?=some (.cells #[.slice fa fn fc,.slice ha hn hc] 53 (0,0)):=by rw[bk];exact af _ _
  have gz:Hid (Calls Tryz.prog 24 #[.slice (some ⟨w7.heap.size,0,none⟩) 2 2] W8 λe a=>∃ ka kn kc,e=.returned (.slice ka kn kc)/\cw a.heap.size a (.slice ka kn kc) XL/\Below K.heap.size K a):=by
   obtain⟨-,t,H,-⟩:=ds.out W8 T
   refine (wA K.heap.size _ _ YL ZL w7.heap.size W8 t H T.size (lt_of_block g8) (ab g8 0 rfl) (ab g8 1 rfl) (by have:=gp.out;omega)).mono λe a ⟨v,s,t,H⟩=>?_
   have D:=xJ t
   rw[<-eO.out] at D
   obtain⟨ka,kc,ek,-,-⟩:=D.full
   subst ek
   exact⟨ka,_,kc,s,D,Below.thenOf T H T.size⟩
  have jc:=hid bk
  clear b7 bk gv T g8 x0 x1 x2 x3 y0 y1 y2 y3
  go_wp2_with fail
  rw[<-jc.out]
  go_at_call 24
  refine Calls.mono gz.out ?_
  rintro e w9 ⟨ka,kn,kc,rfl,gA,dv⟩
  obtain⟨gW,-,-,e0⟩:=ds.out w9 dv
  have jv:Hid (Calls Tryz.prog 22 #[.slice m q o,.slice ka kn kc] w9 λe a=>e=.returned (.bool true)/\Below w.heap.size w a):=by
   have:=ou w9.heap.size _ _ XL XL w9 (gW.wideI dv.size) gA (Nat.le_refl _)
   rw[decide_eq_true rfl] at this
   exact this.mono λe a ⟨s,t⟩=>⟨s,Below.thenOf e0 t e0.size⟩
  clear gA dv gW e0 gz go ds
  go_wp2_with fail
  go_at_call 22
  refine Calls.mono jv.out ?_
  rintro e lW ⟨rfl,h0⟩
  have h5:=hid h0
  clear h0
  go_wp2_with fail
  go_ret
  exact⟨rfl,h5.out⟩
end Go.Proofs.YtnpdhopjpjickaaGreatDoor
