import Derived.Test.YtnpdhopjpjickaaGreatDoorWj32
import Derived.Test.YtnpdhopjpjickaaGreatDoorWj17
set_option linter.all false
set_option maxRecDepth 100000
namespace Go.Proofs.YtnpdhopjpjickaaGreatDoor
open Go.RowKit Go.Maps
theorem CP {x:List Int} (h:∃ a b c d e,x=[a,b,c,d,e]):eW (nu x)=x:=by
 obtain⟨a,b,c,d,e,rfl⟩:=h
 rfl
theorem AR (p q:ap):(aD (λc=>dJ p q (eW c)) 0 ((bH [p,q]).map nu) = -1/\dE p q=none)\/∃ (j:Nat) (c:iC),aD (λc=>dJ p q (eW c)) 0 ((bH [p,q]).map nu)=(j:Int)/\((bH [p,q]).map nu)[j]?=some c/\dE p q=some (eW c):=by
 have e:∀ x∈bH [p,q],eW (nu x)=x:=λx a=>CP (zF a)
 rcases pL (λc=>dJ p q (eW c)) ((bH [p,q]).map nu) 0 with ⟨f,b⟩ | ⟨j,c,f,b,k,n⟩
 ·refine .inl ⟨f,?_⟩
  unfold dE
  rw[List.find?_eq_none]
  intro x a
  have:=b (nu x) (List.mem_map_of_mem a)
  simp only[e x a] at this
  simp[this]
 ·refine .inr ⟨j,c,by rw[f];simp,b,?_⟩
  rw[List.getElem?_map] at b
  obtain⟨x,a,rfl⟩:=Option.map_eq_some_iff.1 b
  have d:=List.mem_of_getElem? a
  simp only[e x d] at k
  rw[e x d]
  refine Aw _ _ j (λy o=>?_) _ a k
  obtain⟨i,l,rfl⟩:=List.getElem_of_mem o
  have g:i<j:=by simp at l;omega
  have h:i<(bH [p,q]).length:=by simp at l;omega
  have m:(bH [p,q])[i]?=some (bH [p,q])[i]:=by simp[h]
  have:=n i g (nu (bH [p,q])[i]) (by rw[List.getElem?_map,m];rfl)
  simp only[e _ (List.mem_of_getElem? m)] at this
  simpa using this
set_option maxHeartbeats 8000000 in
theorem xA (B:Nat) (pv qv:Value) (p q:ap) (w:World) (hp:bG B w pv p) (hq:bG B w qv q) (hB:B<=w.heap.size):
  Calls Tryz.prog 231 #[pv,qv] w λe l=>e=.returned (.tuple #[.bool (dE p q).isSome,fK (ga p q),.int .i64 (bz [p,q])])/\Below w.heap.size w l:=by
 have HP:Hid (∀ l,Below w.heap.size w l->bG B l pv p):=λl h=>hp.later h hB
 have HQ:Hid (∀ l,Below w.heap.size w l->bG B l qv q):=λl h=>hq.later h hB
 obtain⟨m,d⟩:=p
 obtain⟨n,f⟩:=q
 obtain⟨rv,e1,hd,a4⟩:=hp
 obtain⟨sv,e2,hf,a5⟩:=hq
 have bm:Hid (∀ l,Below w.heap.size w l->be B l rv m):=λl h=>a4.later h hB
 have bo:Hid (∀ l,Below w.heap.size w l->be B l sv n):=λl h=>a5.later h hB
 obtain⟨a,t,e3,cx,cT,-⟩:=a4
 obtain⟨b,k,e4,c8,c9,-⟩:=a5
 simp only at e1 e2 e3 e4 hd hf
 subst e3 e4 e1 e2
 have bp:Hid (wf d):=hd
 have bq:Hid (wf f):=hf
 clear hd hf
 generalize br:m.length=S at*
 generalize bs:n.length=T at*
 clear br bs
 go_enter Tryz.func231,Tryz.ntmps231
 obtain⟨H,D⟩:∃ H,H=((w.alloc (.cells #[.slice a S t,.int .i64 d] 30)).alloc (.cells #[.slice b T k,.int .i64 f] 30)).alloc (.cells #[.int .i64 0,.int .i64 0,.int .i64 0,.int .i64 0,.int .i64 0] 34):=⟨_,rfl⟩
 have a6:H.heap.size=w.heap.size+1+1+1:=by rw[D];simp
 have P:Below w.heap.size w H:=by rw[D];exact (((Below.refl _ _).alloc (Nat.le_refl _) _).alloc (by simp) _).alloc (by simp;omega) _
 have Q:Hid (∀ l,Below (w.heap.size+3) H l->l.heap[w.heap.size]?=some (.cells #[.slice a S t,.int .i64 d] 30 (0,0))/\l.heap[w.heap.size+1]?=some (.cells #[.slice b T k,.int .i64 f] 30 (0,0))/\l.heap[w.heap.size+1+1]?=some (.cells (dy λ_=>0) 34 (0,0))):=by
  intro l h
  have e0:H.heap[w.heap.size]?=some (.cells #[.slice a S t,.int .i64 d] 30 (0,0)):=by
   rw[D,Below.heap_alloc _ _ _ (by simp;omega),Below.heap_alloc _ _ _ (by simp)]
   exact af _ _
  have e1:H.heap[w.heap.size+1]?=some (.cells #[.slice b T k,.int .i64 f] 30 (0,0)):=by
   rw[D,Below.heap_alloc _ _ _ (by simp)]
   have:=af (w.alloc (.cells #[.slice a S t,.int .i64 d] 30)) (.cells #[.slice b T k,.int .i64 f] 30)
   rw[World.size_alloc] at this
   exact this
  have e2:H.heap[w.heap.size+1+1]?=some (.cells (dy λ_=>0) 34 (0,0)):=by
   rw[D]
   have:=af ((w.alloc (.cells #[.slice a S t,.int .i64 d] 30)).alloc (.cells #[.slice b T k,.int .i64 f] 30)) (.cells (dy λ_=>0) 34)
   rw[World.size_alloc,World.size_alloc] at this
   exact this
  exact⟨(h.block _ (by omega)).trans e0,(h.block _ (by omega)).trans e1,(h.block _ (by omega)).trans e2⟩
 have a7:=CK (p:=(m,d)) (q:=(n,f)) (Nat.le_trans hB P.size) (bm.out _ P) bp.out (bo.out _ P) bq.out 30
 have W:=pQ _ _ _ _ a7 (by simp) (by simp)
 rw[a6] at W
 have U:Hid _:=W
 have a8:Below (w.heap.size+3) H (H.alloc (.cells #[.slice a S t,.int .i64 d,.slice b T k,.int .i64 f] 30)):=(Below.refl _ _).alloc (by omega) _
 have X:(H.alloc (.cells #[.slice a S t,.int .i64 d,.slice b T k,.int .i64 f] 30)).heap.size=w.heap.size+4:=by simp[a6]
 clear W a7
 go_wp2_with fail
 rw[<-D]
 clear D
 go_at_call 239
 refine Calls.mono U.out ?_
 rintro e O ⟨v5,rfl,a9,Y⟩
 rw[X] at Y
 have u:Below (w.heap.size+3) H O:=Below.trans a8 (Y.mono (by omega))
 have bv:=Y.size
 rw[X] at bv
 have y:Below w.heap.size w O:=P.trans (u.mono (by omega))
 have aa:=AR (m,d) (n,f)
 have F:Hid (bz [(m,d),(n,f)]≠0->dE (m,d) (n,f)=none):=zr
 have G:Hid (ga (m,d) (n,f)=match dE (m,d) (n,f) with | some x=>DN x | none=>λ_=>0):=rfl
 obtain⟨b0,b1,-⟩:=Q.out _ u
 have R:Hid (Calls Tryz.prog 240 #[v5,.func (.func 241) #[] #[.pointer (some ⟨w.heap.size,0,none⟩),.pointer (some ⟨w.heap.size+1,0,none⟩)]] O λe l=>e=.returned (.int .i64 (aD (λc=>dJ (m,d) (n,f) (eW c)) 0 ((bH [(m,d),(n,f)]).map nu)))/\Below O.heap.size O l):=
  rV B O.heap.size w.heap.size (w.heap.size+1) a b S t T k d f (m,d) (n,f) v5 _ O a9 (Nat.le_refl _) (HP.out _ y) (HQ.out _ y) (Nat.le_trans hB y.size) (ab b0 0 rfl) (ab b0 1 rfl) (ab b1 0 rfl) (ab b1 1 rfl) (by omega) (by omega)
 obtain⟨g5,cb,rfl,ac,cc,V⟩:=a9
 have I:Hid (∀ (i:Nat) c,((bH [(m,d),(n,f)]).map nu)[i]?=some c->∃ b o,g5=some ⟨b,o,none⟩/\b<O.heap.size/\nL O b (o+i*5) c):=V
 have A:Hid _:=aa
 have J:Hid _:=y
 have d2:=ag
 clear V U a8 X b0 b1 aa HP HQ y
 generalize aD (λc=>dJ (m,d) (n,f) (eW c)) 0 ((bH [(m,d),(n,f)]).map nu)=z at*
 obtain⟨cs,ad⟩:∃ cs,cs=(bH [(m,d),(n,f)]).map nu:=⟨_,rfl⟩
 rw[<-ad] at R I A ac |-
 clear ad
 obtain⟨Z,a0⟩:∃ Z,Z=bz [(m,d),(n,f)]:=⟨_,rfl⟩
 have K:Hid (bz [(m,d),(n,f)]=Z):=a0.symm
 rw[<-a0] at F |-
 clear a0
 generalize hN:cs.length=N at*
 have c1:Hid (cs.length=N):=hN
 clear hN
 have l2:w.heap.size+1+1<O.heap.size:=by omega
 by_cases hz:Z=0
 ·have HZ:Hid (Z=0):=hz
  rcases A.out with ⟨rfl,a2⟩ | ⟨j,c,rfl,hj,E⟩
  ·have C:Hid (dE (m,d) (n,f)=none/\ga (m,d) (n,f)=λ_=>0):=⟨a2,by rw[G.out,a2]⟩
   subst hz
   clear a2 A G F I
   go_wp2_with fail
   go_at_call 240
   refine Calls.mono R.out ?_
   rintro e w6 ⟨rfl,s⟩
   obtain⟨-,-,L⟩:=Q.out _ (u.trans (s.mono (by omega)))
   have r:=(cY L).1
   have g:=(cY L).2
   have r0:=r 0 (by omega)
   have r1:=r 1 (by omega)
   have r2:=r 2 (by omega)
   have r3:=r 3 (by omega)
   have r4:=r 4 (by omega)
   have f0:=g 0
   have f1:=g 1
   have f2:=g 2
   have f3:=g 3
   have f4:=g 4
   have M:Below w.heap.size w w6:=Below.thenOf J.out s J.out.size
   clear r g L s
   go_wp2_with fail
   refine bodyPost_ret (v:=.tuple #[.bool false,.agg #[.int .i64 0,.int .i64 0,.int .i64 0,.int .i64 0,.int .i64 0],.int .i64 0]) ?_ rfl ⟨by rw[C.out.1,C.out.2,K.out];rfl,?_⟩
   ·simp[results,Tryz.results231,go_sem,r0,r1,r2,r3,r4]
   ·repeat (first | exact M | refine Below.setCell ?_ (by simp;omega) _)
  ·have C:Hid (dE (m,d) (n,f)=some (eW c)/\ga (m,d) (n,f)=DN (eW c)):=⟨E,by rw[G.out,E]⟩
   have d3:j<N:=by rw[<-c1.out];exact (List.getElem?_eq_some_iff.1 hj).1
   obtain⟨gb,go,rfl,b5,b6⟩:=I.out j c hj
   subst hz
   have j0:(0:Int)<=(j:Int):=by omega
   have j1:(j:Int)<(N:Int):=by omega
   clear E A G F I hj
   go_wp2_with fail
   go_at_call 240
   refine Calls.mono R.out ?_
   rintro e w6 ⟨rfl,s⟩
   obtain⟨-,-,L⟩:=Q.out _ (u.trans (s.mono (by omega)))
   obtain⟨k0,k1,k2,k3,k4⟩:=b6.later s b5
   have co:gb<w6.heap.size:=Nat.lt_of_lt_of_le b5 s.size
   have r:=(cY L).1
   have g:=(cY L).2
   have r0:=r 0 (by omega)
   have r1:=r 1 (by omega)
   have r2:=r 2 (by omega)
   have r3:=r 3 (by omega)
   have r4:=r 4 (by omega)
   have f0:=g 0
   have f1:=g 1
   have f2:=g 2
   have f3:=g 3
   have f4:=g 4
   have M:Below w.heap.size w w6:=Below.thenOf J.out s J.out.size
   have b7:Hid (fK (ga (m,d) (n,f))=.agg #[.int .i64 c.1,.int .i64 c.2.1,.int .i64 c.2.2.1,.int .i64 c.2.2.2.1,.int .i64 c.2.2.2.2]):=by unfold Hid;rw[C.out.2];rfl
   clear r g L s b6
   generalize c.1=x0 at*
   generalize c.2.1=x1 at*
   generalize c.2.2.1=x2 at*
   generalize c.2.2.2.1=x3 at*
   generalize c.2.2.2.2=x4 at*
   go_wp2_with fail
   go_region
   go_wp2_with fail
   refine bodyPost_ret (v:=.tuple #[.bool true,.agg #[.int .i64 x0,.int .i64 x1,.int .i64 x2,.int .i64 x3,.int .i64 x4],.int .i64 0]) ?_ rfl ⟨by rw[C.out.1,b7.out,K.out];rfl,?_⟩
   ·simp[results,Tryz.results231,go_sem,r0,r1,r2,r3,r4]
   ·refine Below.drew ?_
    repeat (first | exact M | refine Below.setCell ?_ (by simp;omega) _)
 ·have C:Hid (dE (m,d) (n,f)=none/\ga (m,d) (n,f)=λ_=>0):=⟨F.out hz,by rw[G.out,F.out hz]⟩
  have hq:(Z != 0)=true:=by simpa using hz
  obtain⟨-,-,L⟩:=Q.out _ u
  have r:=(cY L).1
  have g:=(cY L).2
  have r0:=r 0 (by omega)
  have r1:=r 1 (by omega)
  have r2:=r 2 (by omega)
  have r3:=r 3 (by omega)
  have r4:=r 4 (by omega)
  have f0:=g 0
  have f1:=g 1
  have f2:=g 2
  have f3:=g 3
  have f4:=g 4
  clear r g L hz A G F I R
  go_wp2_with fail
  refine bodyPost_ret (v:=.tuple #[.bool false,.agg #[.int .i64 0,.int .i64 0,.int .i64 0,.int .i64 0,.int .i64 0],.int .i64 Z]) ?_ rfl ⟨by rw[C.out.1,C.out.2,K.out];rfl,?_⟩
  ·simp[results,Tryz.results231,go_sem,r0,r1,r2,r3,r4]
  ·repeat (first | exact J.out | refine Below.setCell ?_ (by simp;omega) _)
end Go.Proofs.YtnpdhopjpjickaaGreatDoor
