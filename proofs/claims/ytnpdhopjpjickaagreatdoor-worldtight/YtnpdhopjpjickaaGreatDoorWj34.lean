/- Joined: PTx2 NtDc NtDd. -/
import Derived.Test.YtnpdhopjpjickaaGreatDoorWj23
import Derived.Laws.Concat
import Derived.Test.YtnpdhopjpjickaaGreatDoorWj01
import Derived.Test.YtnpdhopjpjickaaGreatDoorWj32
section
section
set_option linter.all false
set_option maxRecDepth 100000
namespace Go.Proofs.YtnpdhopjpjickaaGreatDoor
open Go.RowKit Go.Maps
theorem ew.below {b B:Nat} {cs:Array Value} {w w':World} (h:ew b cs w) (a:Below B w w') (c:b<B):ew b cs w':=λj u d=>(a.cell (p:=⟨b,j,none⟩) c).trans (h j u d)
end Go.Proofs.YtnpdhopjpjickaaGreatDoor
end
section
set_option linter.all false
set_option maxRecDepth 100000
namespace Go.Proofs.YtnpdhopjpjickaaGreatDoor
open Go.RowKit Go.Maps
end Go.Proofs.YtnpdhopjpjickaaGreatDoor
end
end
section
set_option linter.all false
set_option maxRecDepth 100000
namespace Go.Proofs.YtnpdhopjpjickaaGreatDoor
open Go.RowKit Go.Maps
set_option maxHeartbeats 4000000 in
theorem yI (s:ByteArray) (a3:s.size<=60000) (w:World) (he:dX w) (hk:bI kN ((ar s.data.toList).getD 0 [])=0) (hn:(ar s.data.toList).length=3):jZ s w:=by
 have HE:Hid (∀ a,Below w.heap.size w a->dX a):=λa h=>he.later h
 clear he
 obtain⟨H,q,b8,b9,T,a4⟩:=iX s a3
 have HM:=hid q
 have U:=hid T
 obtain⟨V,J⟩:∃ u,H[0]?=some u:=⟨H[0]'(by omega),by simp⟩
 have bb:V.size<=60000:=T V (List.mem_of_getElem? J)
 have a5:(ar s.data.toList).getD 0 []=V.data.toList:=by
  rw[<-q,List.getD_eq_getElem?_getD,List.getElem?_map,J]
  rfl
 have m:(ar s.data.toList).length=H.length:=by rw[<-q];simp
 obtain⟨x,K⟩:∃ x,x=w.alloc (.cells #[.int .i64 0,.int .i64 0,.int .i64 0,.slice none 0 0,.int .i64 0] 78):=⟨_,rfl⟩
 have g0:x.heap[w.heap.size]?=some (.cells #[.int .i64 0,.int .i64 0,.int .i64 0,.slice none 0 0,.int .i64 0] 78 (0,0)):=by rw[K];exact af _ _
 have L:Below w.heap.size w x:=by rw[K];exact (Below.refl _ _).alloc (Nat.le_refl _) _
 have W:Hid (∀ a,Below x.heap.size x a->a.heap[w.heap.size]?=some (.cells #[.int .i64 0,.int .i64 0,.int .i64 0,.slice none 0 0,.int .i64 0] 78 (0,0))/\Below w.heap.size w a):=λa h=>⟨(h.block _ (lt_of_block g0)).trans g0,Below.thenOf L h L.size⟩
 obtain⟨mm,hm⟩:=(HE.out x L).1
 have y:Hid _:=a4 mm x hm
 have HW:=hid K
 clear K g0 L a4 hm q T
 rw[m] at hn
 obtain⟨z,M⟩:∃ u,H[1]?=some u:=⟨H[1]'(by omega),by simp⟩
 have bd:z.size<=60000:=U.out z (List.mem_of_getElem? M)
 have a6:(ar s.data.toList).getD 1 []=z.data.toList:=by
  rw[<-HM.out,List.getD_eq_getElem?_getD,List.getElem?_map,M]
  rfl
 obtain⟨f,N⟩:∃ u,H[2]?=some u:=⟨H[2]'(by omega),by simp⟩
 have bf:f.size<=60000:=U.out f (List.mem_of_getElem? N)
 have a7:(ar s.data.toList).getD 2 []=f.data.toList:=by
  rw[<-HM.out,List.getD_eq_getElem?_getD,List.getElem?_map,N]
  rfl
 have A:Hid (eh s.data.toList=match cS z.data.toList with | none=>(cr,1) | some c=>((1,c,0,(cy f.data.toList).1),(cy f.data.toList).2)):=by
  unfold Hid eh
  rw[hk,m,hn,a6,a7,if_neg (by omega)]
  cases cS z.data.toList<;>rfl
 have bg:Hid (∀ a,Calls Tryz.prog 182 #[.string V] a λe i=>e=.returned (.tuple #[.int .i64 1,.bool true])/\Below a.heap.size a i):=λa=>by
  have:=gM V a
  rw[<-a5,hk] at this
  exact this
 have bk:Hid (∀ a,Calls Tryz.prog 183 #[.int .i64 1] a λe i=>e=.returned (.int .i64 3)/\i=a):=λa=>iP (by decide) a
 have bm:Hid (∀ a,Below w.heap.size w a->Calls Tryz.prog 184 #[.string z] a λe i=>∃ n ok,e=.returned (.tuple #[.int .i64 n,.bool ok])/\(cS z.data.toList=if ok=true then some n else none)/\wf n/\Below a.heap.size a i):=λa h=>gX z (by omega) a (HE.out a h)
 have bo:Hid (∀ a,Below w.heap.size w a->Calls Tryz.prog 185 #[.string f] a λe i=>∃ pv,e=.returned (.tuple #[pv,.int .i64 (cy f.data.toList).2])/\jR a.heap.size i pv (cy f.data.toList).1/\Below a.heap.size a i):=λa h=>uo f a (HE.out a h)
 have HU:Hid (H[0]?=some V/\H[1]?=some z/\H[2]?=some f):=⟨J,M,N⟩
 rw[hn] at y
 clear a5 m J bb M bd a6 N bf a7 hk hn b8 b9 U HM HE
 go_enter Tryz.func148,Tryz.ntmps148
 go_wp2_with fail
 rw[<-HW.out]
 go_at_call 117
 refine Calls.mono y.out ?_
 rintro e w1 ⟨SB,cf,rfl,ci,cl,a8,a9,B,d⟩
 have x0:=d 0 V HU.out.1
 have HX:Hid (∀ a,Below w1.heap.size w1 a->a.cell? ⟨SB,1,none⟩=some (.string z)/\a.cell? ⟨SB,2,none⟩=some (.string f)):=λa h=>⟨(h.cell (p:=⟨SB,1,none⟩) B).trans (d 1 z HU.out.2.1),(h.cell (p:=⟨SB,2,none⟩) B).trans (d 2 f HU.out.2.2)⟩
 have aa:=hid a8
 clear d y HW a9 a8
 go_wp2_with fail
 go_at_call 182
 refine Calls.mono (bg.out _) ?_
 rintro e w2 ⟨rfl,C⟩
 have bs:=hid C
 have x1:=(HX.out w2 C).1
 have ac:SB<w2.heap.size:=Nat.lt_of_lt_of_le B C.size
 have X:Hid (Below x.heap.size x w2):=Below.thenOf aa.out C aa.out.size
 clear C x0
 go_wp2_with fail
 go_at_call 183
 refine Calls.mono (bk.out _) ?_
 rintro e w3 ⟨rfl,rfl⟩
 go_wp2_with fail
 go_at_call 184
 refine Calls.mono (bm.out _ (W.out _ X.out).2) ?_
 rintro e b ⟨n,ok,rfl,r,R,D⟩
 have j:=Below.thenOf X.out D X.out.size
 have ad:SB<b.heap.size:=Nat.lt_of_lt_of_le ac D.size
 have ak:Hid (∀ a,Below b.heap.size b a->a.cell? ⟨SB,2,none⟩=some (.string f)):=λa h=>((h.cell (p:=⟨SB,2,none⟩) ad).trans (D.cell (p:=⟨SB,2,none⟩) ac)).trans (HX.out w3 bs.out).2
 clear HX x1
 cases ok with
 | false=>
  have k:Hid (eh s.data.toList=(cr,1)):=by unfold Hid;rw[A.out,r];rfl
  have E:=j
  clear r D j
  obtain⟨l,F⟩:=W.out b E
  have lb:=lt_of_block l
  obtain⟨z0,z1,z2,z3,z4⟩:=bw l
  have f0:b.frozen? ⟨w.heap.size,0,none⟩=false:=by simp[World.frozen?,l]
  have f1:b.frozen? ⟨w.heap.size,1,none⟩=false:=by simp[World.frozen?,l]
  have f2:b.frozen? ⟨w.heap.size,2,none⟩=false:=by simp[World.frozen?,l]
  have f3:b.frozen? ⟨w.heap.size,3,none⟩=false:=by simp[World.frozen?,l]
  have f4:b.frozen? ⟨w.heap.size,4,none⟩=false:=by simp[World.frozen?,l]
  have O:=hid F
  clear l F E
  go_wp2_with fail
  refine bodyPost_ret (v:=.tuple #[.agg #[.int .i64 0,.int .i64 0,.int .i64 0,.slice none 0 0,.int .i64 0],.int .i64 1]) ?_ rfl ⟨_,by rw[k.out],by rw[k.out];exact dO _ _,?_⟩
  ·rw[results_cell_tmp rfl]
   go_simp
  ·exact (((((O.out.setCell (p:=⟨w.heap.size,0,none⟩) (Nat.le_refl _) _).setCell (p:=⟨w.heap.size,1,none⟩) (Nat.le_refl _) _).setCell (p:=⟨w.heap.size,2,none⟩) (Nat.le_refl _) _).setCell (p:=⟨w.heap.size,3,none⟩) (Nat.le_refl _) _).setCell (p:=⟨w.heap.size,4,none⟩) (Nat.le_refl _) _)
 | true=>
  have o:Hid (eh s.data.toList=((1,n,0,(cy f.data.toList).1),(cy f.data.toList).2)):=by unfold Hid;rw[A.out,r];rfl
  have bv:=hid R
  obtain⟨t,P⟩:∃ t,t=b.alloc (.cells #[.int .i64 1,.int .i64 n,.int .i64 0,.slice none 0 0,.int .i64 0] 78):=⟨_,rfl⟩
  have Y:Below b.heap.size b t:=by rw[P];exact (Below.refl _ _).alloc (Nat.le_refl _) _
  have g5:t.heap[b.heap.size]?=some (.cells #[.int .i64 1,.int .i64 n,.int .i64 0,.slice none 0 0,.int .i64 0] 78 (0,0)):=by rw[P];exact af _ _
  have x4:=ak.out b (Below.refl _ _)
  have G:=Below.thenOf j Y j.size
  have l5:=lt_of_block g5
  have ao:=bo.out t (W.out t G).2
  have S:Hid _:=ao
  have av:Hid (∀ a,Below t.heap.size t a->a.heap[b.heap.size]?=some (.cells #[.int .i64 1,.int .i64 n,.int .i64 0,.slice none 0 0,.int .i64 0] 78 (0,0))/\Below x.heap.size x a):=λa h=>⟨(h.block _ l5).trans g5,Below.thenOf G h G.size⟩
  have dd:=hid j.size
  have Z:Hid (w.heap.size<t.heap.size/\b.heap.size<t.heap.size/\w.heap.size<=b.heap.size):=⟨lt_of_block (W.out t G).1,l5,Nat.le_of_lt (lt_of_block (W.out b j).1)⟩
  have de:¬w.heap.size=b.heap.size:=by have:=lt_of_block (W.out b j).1;omega
  have b0:=hid P
  have c1:SB<t.heap.size:=Nat.lt_of_lt_of_le ad Y.size
  clear P Y g5 G j D r R ao ak
  go_wp2_with fail
  rw[<-b0.out]
  go_at_call 185
  refine Calls.mono S.out ?_
  rintro e I ⟨pv,rfl,Q,b1⟩
  obtain⟨PP,a0⟩:∃ PP,PP=(cy f.data.toList).1:=⟨_,rfl⟩
  obtain⟨PE,a1⟩:∃ PE,PE=(cy f.data.toList).2:=⟨_,rfl⟩
  rw[<-a0] at Q
  rw[<-a1] at |-
  rw[<-a0,<-a1] at o
  clear a0 a1 A
  obtain⟨c4,pd⟩:=PP
  have c5:Hid (aN t.heap.size I pv (c4,pd)):=λwF h1 h2=>(Q.keep h1 h2).at
  obtain⟨va,vn,vc,ev⟩:=Q.shape
  simp only[] at ev
  subst ev
  obtain⟨g6,b3⟩:=av.out I b1
  have l6:=lt_of_block g6
  obtain⟨q0,q1,q2,q3,q4⟩:=bw g6
  have dp:I.frozen? ⟨b.heap.size,3,none⟩=false:=by simp[World.frozen?,g6]
  have dq:I.frozen? ⟨b.heap.size,4,none⟩=false:=by simp[World.frozen?,g6]
  have k:=hid o.out
  have E:=b3
  clear S av x4 l5 c1 b1 b0 g6 Q b3 o
  obtain⟨l,F⟩:=W.out I E
  have lb:=lt_of_block l
  obtain⟨z0,z1,z2,z3,z4⟩:=bw l
  have f0:I.frozen? ⟨w.heap.size,0,none⟩=false:=by simp[World.frozen?,l]
  have f1:I.frozen? ⟨w.heap.size,1,none⟩=false:=by simp[World.frozen?,l]
  have f2:I.frozen? ⟨w.heap.size,2,none⟩=false:=by simp[World.frozen?,l]
  have f3:I.frozen? ⟨w.heap.size,3,none⟩=false:=by simp[World.frozen?,l]
  have f4:I.frozen? ⟨w.heap.size,4,none⟩=false:=by simp[World.frozen?,l]
  have O:=hid F
  clear l F E
  go_wp2_with fail
  refine bodyPost_ret (v:=.tuple #[.agg #[.int .i64 1,.int .i64 n,.int .i64 0,.slice va vn vc,.int .i64 pd],.int .i64 PE]) ?_ rfl ⟨_,by rw[k.out],by rw[k.out];have hL:=Z.out;exact λwF h1 h2=>⟨_,rfl,(by unfold wf;decide:wf (1:Int)),bv.out,(by unfold wf;decide:wf (0:Int)),(((((((((c5.out.put (.inl hL.2.1)).put (.inl hL.2.1)).put (.inl hL.1)).put (.inl hL.1)).put (.inl hL.1)).put (.inl hL.1)).put (.inl hL.1)).later (Nat.le_refl _) ((Below.refl _ _).alloc (Nat.le_refl _) _)).keep (Nat.le_refl _) (λg hg hl=>h1 g (by omega) hl) h2).at⟩,?_⟩
  ·rw[results_cell_tmp rfl]
   go_simp
  ·exact (((((((O.out.setCell (p:=⟨b.heap.size,3,none⟩) Z.out.2.2 _).setCell (p:=⟨b.heap.size,4,none⟩) Z.out.2.2 _).setCell (p:=⟨w.heap.size,0,none⟩) (Nat.le_refl _) _).setCell (p:=⟨w.heap.size,1,none⟩) (Nat.le_refl _) _).setCell (p:=⟨w.heap.size,2,none⟩) (Nat.le_refl _) _).setCell (p:=⟨w.heap.size,3,none⟩) (Nat.le_refl _) _).setCell (p:=⟨w.heap.size,4,none⟩) (Nat.le_refl _) _).alloc (by simp;exact O.out.size) _
end Go.Proofs.YtnpdhopjpjickaaGreatDoor
end
section
set_option linter.all false
set_option maxRecDepth 100000
namespace Go.Proofs.YtnpdhopjpjickaaGreatDoor
open Go.RowKit Go.Maps
set_option maxHeartbeats 4000000 in
theorem zA (s:ByteArray) (a3:s.size<=60000) (w:World) (he:dX w) (hk:bI kN ((ar s.data.toList).getD 0 [])=1) (hn:(ar s.data.toList).length=3):jZ s w:=by
 have HE:Hid (∀ a,Below w.heap.size w a->dX a):=λa h=>he.later h
 clear he
 obtain⟨H,q,b8,b9,T,a4⟩:=iX s a3
 have HM:=hid q
 have U:=hid T
 obtain⟨V,J⟩:∃ u,H[0]?=some u:=⟨H[0]'(by omega),by simp⟩
 have bb:V.size<=60000:=T V (List.mem_of_getElem? J)
 have a5:(ar s.data.toList).getD 0 []=V.data.toList:=by
  rw[<-q,List.getD_eq_getElem?_getD,List.getElem?_map,J]
  rfl
 have m:(ar s.data.toList).length=H.length:=by rw[<-q];simp
 obtain⟨x,K⟩:∃ x,x=w.alloc (.cells #[.int .i64 0,.int .i64 0,.int .i64 0,.slice none 0 0,.int .i64 0] 78):=⟨_,rfl⟩
 have g0:x.heap[w.heap.size]?=some (.cells #[.int .i64 0,.int .i64 0,.int .i64 0,.slice none 0 0,.int .i64 0] 78 (0,0)):=by rw[K];exact af _ _
 have L:Below w.heap.size w x:=by rw[K];exact (Below.refl _ _).alloc (Nat.le_refl _) _
 have W:Hid (∀ a,Below x.heap.size x a->a.heap[w.heap.size]?=some (.cells #[.int .i64 0,.int .i64 0,.int .i64 0,.slice none 0 0,.int .i64 0] 78 (0,0))/\Below w.heap.size w a):=λa h=>⟨(h.block _ (lt_of_block g0)).trans g0,Below.thenOf L h L.size⟩
 obtain⟨mm,hm⟩:=(HE.out x L).1
 have y:Hid _:=a4 mm x hm
 have HW:=hid K
 clear K g0 L a4 hm q T
 rw[m] at hn
 obtain⟨z,M⟩:∃ u,H[1]?=some u:=⟨H[1]'(by omega),by simp⟩
 have bd:z.size<=60000:=U.out z (List.mem_of_getElem? M)
 have a6:(ar s.data.toList).getD 1 []=z.data.toList:=by
  rw[<-HM.out,List.getD_eq_getElem?_getD,List.getElem?_map,M]
  rfl
 obtain⟨f,N⟩:∃ u,H[2]?=some u:=⟨H[2]'(by omega),by simp⟩
 have bf:f.size<=60000:=U.out f (List.mem_of_getElem? N)
 have a7:(ar s.data.toList).getD 2 []=f.data.toList:=by
  rw[<-HM.out,List.getD_eq_getElem?_getD,List.getElem?_map,N]
  rfl
 have A:Hid (eh s.data.toList=match cS z.data.toList with | none=>(cr,1) | some c=>((2,c,0,(cy f.data.toList).1),(cy f.data.toList).2)):=by
  unfold Hid eh
  rw[hk,m,hn,a6,a7,if_neg (by omega)]
  cases cS z.data.toList<;>rfl
 have bg:Hid (∀ a,Calls Tryz.prog 182 #[.string V] a λe i=>e=.returned (.tuple #[.int .i64 2,.bool true])/\Below a.heap.size a i):=λa=>by
  have:=gM V a
  rw[<-a5,hk] at this
  exact this
 have bk:Hid (∀ a,Calls Tryz.prog 183 #[.int .i64 2] a λe i=>e=.returned (.int .i64 3)/\i=a):=λa=>iP (by decide) a
 have bm:Hid (∀ a,Below w.heap.size w a->Calls Tryz.prog 184 #[.string z] a λe i=>∃ n ok,e=.returned (.tuple #[.int .i64 n,.bool ok])/\(cS z.data.toList=if ok=true then some n else none)/\wf n/\Below a.heap.size a i):=λa h=>gX z (by omega) a (HE.out a h)
 have bo:Hid (∀ a,Below w.heap.size w a->Calls Tryz.prog 185 #[.string f] a λe i=>∃ pv,e=.returned (.tuple #[pv,.int .i64 (cy f.data.toList).2])/\jR a.heap.size i pv (cy f.data.toList).1/\Below a.heap.size a i):=λa h=>uo f a (HE.out a h)
 have HU:Hid (H[0]?=some V/\H[1]?=some z/\H[2]?=some f):=⟨J,M,N⟩
 rw[hn] at y
 clear a5 m J bb M bd a6 N bf a7 hk hn b8 b9 U HM HE
 go_enter Tryz.func148,Tryz.ntmps148
 go_wp2_with fail
 rw[<-HW.out]
 go_at_call 117
 refine Calls.mono y.out ?_
 rintro e w1 ⟨SB,cf,rfl,ci,cl,a8,a9,B,d⟩
 have x0:=d 0 V HU.out.1
 have HX:Hid (∀ a,Below w1.heap.size w1 a->a.cell? ⟨SB,1,none⟩=some (.string z)/\a.cell? ⟨SB,2,none⟩=some (.string f)):=λa h=>⟨(h.cell (p:=⟨SB,1,none⟩) B).trans (d 1 z HU.out.2.1),(h.cell (p:=⟨SB,2,none⟩) B).trans (d 2 f HU.out.2.2)⟩
 have aa:=hid a8
 clear d y HW a9 a8
 go_wp2_with fail
 go_at_call 182
 refine Calls.mono (bg.out _) ?_
 rintro e w2 ⟨rfl,C⟩
 have bs:=hid C
 have x1:=(HX.out w2 C).1
 have ac:SB<w2.heap.size:=Nat.lt_of_lt_of_le B C.size
 have X:Hid (Below x.heap.size x w2):=Below.thenOf aa.out C aa.out.size
 clear C x0
 go_wp2_with fail
 go_at_call 183
 refine Calls.mono (bk.out _) ?_
 rintro e w3 ⟨rfl,rfl⟩
 go_wp2_with fail
 go_at_call 184
 refine Calls.mono (bm.out _ (W.out _ X.out).2) ?_
 rintro e b ⟨n,ok,rfl,r,R,D⟩
 have j:=Below.thenOf X.out D X.out.size
 have ad:SB<b.heap.size:=Nat.lt_of_lt_of_le ac D.size
 have ak:Hid (∀ a,Below b.heap.size b a->a.cell? ⟨SB,2,none⟩=some (.string f)):=λa h=>((h.cell (p:=⟨SB,2,none⟩) ad).trans (D.cell (p:=⟨SB,2,none⟩) ac)).trans (HX.out w3 bs.out).2
 clear HX x1
 cases ok with
 | false=>
  have k:Hid (eh s.data.toList=(cr,1)):=by unfold Hid;rw[A.out,r];rfl
  have E:=j
  clear r D j
  obtain⟨l,F⟩:=W.out b E
  have lb:=lt_of_block l
  obtain⟨z0,z1,z2,z3,z4⟩:=bw l
  have f0:b.frozen? ⟨w.heap.size,0,none⟩=false:=by simp[World.frozen?,l]
  have f1:b.frozen? ⟨w.heap.size,1,none⟩=false:=by simp[World.frozen?,l]
  have f2:b.frozen? ⟨w.heap.size,2,none⟩=false:=by simp[World.frozen?,l]
  have f3:b.frozen? ⟨w.heap.size,3,none⟩=false:=by simp[World.frozen?,l]
  have f4:b.frozen? ⟨w.heap.size,4,none⟩=false:=by simp[World.frozen?,l]
  have O:=hid F
  clear l F E
  go_wp2_with fail
  refine bodyPost_ret (v:=.tuple #[.agg #[.int .i64 0,.int .i64 0,.int .i64 0,.slice none 0 0,.int .i64 0],.int .i64 1]) ?_ rfl ⟨_,by rw[k.out],by rw[k.out];exact dO _ _,?_⟩
  ·rw[results_cell_tmp rfl]
   go_simp
  ·exact (((((O.out.setCell (p:=⟨w.heap.size,0,none⟩) (Nat.le_refl _) _).setCell (p:=⟨w.heap.size,1,none⟩) (Nat.le_refl _) _).setCell (p:=⟨w.heap.size,2,none⟩) (Nat.le_refl _) _).setCell (p:=⟨w.heap.size,3,none⟩) (Nat.le_refl _) _).setCell (p:=⟨w.heap.size,4,none⟩) (Nat.le_refl _) _)
 | true=>
  have o:Hid (eh s.data.toList=((2,n,0,(cy f.data.toList).1),(cy f.data.toList).2)):=by unfold Hid;rw[A.out,r];rfl
  have bv:=hid R
  obtain⟨t,P⟩:∃ t,t=b.alloc (.cells #[.int .i64 2,.int .i64 n,.int .i64 0,.slice none 0 0,.int .i64 0] 78):=⟨_,rfl⟩
  have Y:Below b.heap.size b t:=by rw[P];exact (Below.refl _ _).alloc (Nat.le_refl _) _
  have g5:t.heap[b.heap.size]?=some (.cells #[.int .i64 2,.int .i64 n,.int .i64 0,.slice none 0 0,.int .i64 0] 78 (0,0)):=by rw[P];exact af _ _
  have x4:=ak.out b (Below.refl _ _)
  have G:=Below.thenOf j Y j.size
  have l5:=lt_of_block g5
  have ao:=bo.out t (W.out t G).2
  have S:Hid _:=ao
  have av:Hid (∀ a,Below t.heap.size t a->a.heap[b.heap.size]?=some (.cells #[.int .i64 2,.int .i64 n,.int .i64 0,.slice none 0 0,.int .i64 0] 78 (0,0))/\Below x.heap.size x a):=λa h=>⟨(h.block _ l5).trans g5,Below.thenOf G h G.size⟩
  have dd:=hid j.size
  have Z:Hid (w.heap.size<t.heap.size/\b.heap.size<t.heap.size/\w.heap.size<=b.heap.size):=⟨lt_of_block (W.out t G).1,l5,Nat.le_of_lt (lt_of_block (W.out b j).1)⟩
  have de:¬w.heap.size=b.heap.size:=by have:=lt_of_block (W.out b j).1;omega
  have b0:=hid P
  have c1:SB<t.heap.size:=Nat.lt_of_lt_of_le ad Y.size
  clear P Y g5 G j D r R ao ak
  go_wp2_with fail
  rw[<-b0.out]
  go_at_call 185
  refine Calls.mono S.out ?_
  rintro e I ⟨pv,rfl,Q,b1⟩
  obtain⟨PP,a0⟩:∃ PP,PP=(cy f.data.toList).1:=⟨_,rfl⟩
  obtain⟨PE,a1⟩:∃ PE,PE=(cy f.data.toList).2:=⟨_,rfl⟩
  rw[<-a0] at Q
  rw[<-a1] at |-
  rw[<-a0,<-a1] at o
  clear a0 a1 A
  obtain⟨c4,pd⟩:=PP
  have c5:Hid (aN t.heap.size I pv (c4,pd)):=λwF h1 h2=>(Q.keep h1 h2).at
  obtain⟨va,vn,vc,ev⟩:=Q.shape
  simp only[] at ev
  subst ev
  obtain⟨g6,b3⟩:=av.out I b1
  have l6:=lt_of_block g6
  obtain⟨q0,q1,q2,q3,q4⟩:=bw g6
  have dp:I.frozen? ⟨b.heap.size,3,none⟩=false:=by simp[World.frozen?,g6]
  have dq:I.frozen? ⟨b.heap.size,4,none⟩=false:=by simp[World.frozen?,g6]
  have k:=hid o.out
  have E:=b3
  clear S av x4 l5 c1 b1 b0 g6 Q b3 o
  obtain⟨l,F⟩:=W.out I E
  have lb:=lt_of_block l
  obtain⟨z0,z1,z2,z3,z4⟩:=bw l
  have f0:I.frozen? ⟨w.heap.size,0,none⟩=false:=by simp[World.frozen?,l]
  have f1:I.frozen? ⟨w.heap.size,1,none⟩=false:=by simp[World.frozen?,l]
  have f2:I.frozen? ⟨w.heap.size,2,none⟩=false:=by simp[World.frozen?,l]
  have f3:I.frozen? ⟨w.heap.size,3,none⟩=false:=by simp[World.frozen?,l]
  have f4:I.frozen? ⟨w.heap.size,4,none⟩=false:=by simp[World.frozen?,l]
  have O:=hid F
  clear l F E
  go_wp2_with fail
  refine bodyPost_ret (v:=.tuple #[.agg #[.int .i64 2,.int .i64 n,.int .i64 0,.slice va vn vc,.int .i64 pd],.int .i64 PE]) ?_ rfl ⟨_,by rw[k.out],by rw[k.out];have hL:=Z.out;exact λwF h1 h2=>⟨_,rfl,(by unfold wf;decide:wf (2:Int)),bv.out,(by unfold wf;decide:wf (0:Int)),(((((((((c5.out.put (.inl hL.2.1)).put (.inl hL.2.1)).put (.inl hL.1)).put (.inl hL.1)).put (.inl hL.1)).put (.inl hL.1)).put (.inl hL.1)).later (Nat.le_refl _) ((Below.refl _ _).alloc (Nat.le_refl _) _)).keep (Nat.le_refl _) (λg hg hl=>h1 g (by omega) hl) h2).at⟩,?_⟩
  ·rw[results_cell_tmp rfl]
   go_simp
  ·exact (((((((O.out.setCell (p:=⟨b.heap.size,3,none⟩) Z.out.2.2 _).setCell (p:=⟨b.heap.size,4,none⟩) Z.out.2.2 _).setCell (p:=⟨w.heap.size,0,none⟩) (Nat.le_refl _) _).setCell (p:=⟨w.heap.size,1,none⟩) (Nat.le_refl _) _).setCell (p:=⟨w.heap.size,2,none⟩) (Nat.le_refl _) _).setCell (p:=⟨w.heap.size,3,none⟩) (Nat.le_refl _) _).setCell (p:=⟨w.heap.size,4,none⟩) (Nat.le_refl _) _).alloc (by simp;exact O.out.size) _
end Go.Proofs.YtnpdhopjpjickaaGreatDoor
end
