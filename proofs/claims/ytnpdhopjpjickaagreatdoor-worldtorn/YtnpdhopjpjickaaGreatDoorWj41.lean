/- Joined: KpB KpC KpE KpF KpG. -/
import Derived.Test.YtnpdhopjpjickaaGreatDoorWj01
import Derived.Test.YtnpdhopjpjickaaGreatDoorWj37
import Derived.Test.YtnpdhopjpjickaaGreatDoorWj40
import Derived.Test.YtnpdhopjpjickaaGreatDoorWj23
section
set_option linter.all false
set_option maxRecDepth 100000
namespace Go.Proofs.YtnpdhopjpjickaaGreatDoor
open Go.RowKit Go.Maps
def bO (L:Nat) (w:World) (v:Value) (c:ay):Prop:=∃ a b d e,v=.agg #[.bool c.1,.slice a c.2.1.length b,.slice d c.2.2.1.length e,.int .i64 c.2.2.2]/\cW L w (.slice a c.2.1.length b) c.2.1/\aN L w (.agg #[.slice d c.2.2.1.length e,.int .i64 c.2.2.2]) c.2.2
theorem bO.keep {L a:Nat} {w w':World} {v:Value} {c:ay} (h:bO L w v c) (b:a<=L) (d:∀ g,L<=g->g<w.heap.size->w'.heap[g]?=w.heap[g]?) (f:w.heap.size<=w'.heap.size):bO a w' v c:=by
 obtain⟨i,j,k,l,e,m,n⟩:=h
 exact⟨i,j,k,l,e,m.keep b d f,n.keep b d f⟩
theorem bO.later {L a:Nat} {w w':World} {v:Value} {c:ay} (h:bO L w v c) (d:a<=L) (b:Below w.heap.size w w'):bO a w' v c:=h.keep d (λg _ e=>b.block g e) b.size
theorem bO.put {L:Nat} {w:World} {v:Value} {c:ay} {b o:Nat} {u:Value} (h:bO L w v c) (a:b<L\/w.heap.size<=b):bO L (w.setCell ⟨b,o,none⟩ u) v c:=h.keep (Nat.le_refl _) (λg d e=>Below.heap_setCell _ _ _ _ (by show g≠b;omega)) (by simp)
theorem kz (L:Nat) (w:World):bO L w (.agg #[.bool false,.slice none 0 0,.slice none 0 0,.int .i64 0]) aV:=⟨none,0,none,0,rfl,jh _ _,iH _ _⟩
theorem kD {L:Nat} {w:World} {v:Value} {p:ap} (h:aN L w v p):∃ a c,v=.agg #[.slice a p.1.length c,.int .i64 p.2]:=by
 obtain⟨d,e,-,a,c,b,-⟩:=h.at
 exact⟨a,c,by rw[e,b]⟩
theorem oJ {L:Nat} {w:World} {v:Value} {b:gf} (h:cW L w v b):∃ a c,v=.slice a b.length c:=by
 obtain⟨a,c,e,-⟩:=h.at
 exact⟨a,c,e⟩
theorem am {w:World} {b:Nat} {u0 u1 u2 u3:Value} {T:TypeId} (h:w.heap[b]?=some (.cells #[u0,u1,u2,u3] T (0,0))):w.cell? ⟨b,0,none⟩=some u0/\w.cell? ⟨b,1,none⟩=some u1/\w.cell? ⟨b,2,none⟩=some u2/\w.cell? ⟨b,3,none⟩=some u3/\w.frozen? ⟨b,0,none⟩=false/\w.frozen? ⟨b,1,none⟩=false/\w.frozen? ⟨b,2,none⟩=false/\w.frozen? ⟨b,3,none⟩=false:=
 ⟨ab h 0 rfl,ab h 1 rfl,ab h 2 rfl,ab h 3 rfl,by simp[World.frozen?,h],by simp[World.frozen?,h],by simp[World.frozen?,h],by simp[World.frozen?,h]⟩
theorem gw {p:ap} (h:ae p=0):p.1.length<=1000/\∀ r∈p.1,r.1.length<=1000:=by
 obtain⟨c,-,a⟩:=cu h
 exact⟨by omega,λr b=>by have:=(db (bZ a r b)).1;omega⟩
theorem xO {p:ap} (h:du p=0):ae p=0:=by
 unfold du at h
 by_cases a:ae p=0
 ·exact a
 ·rw[if_neg a] at h
  exact absurd h a
set_option maxHeartbeats 4000000 in
theorem qW (B:Nat) (S:Value) (p:ap) (w:World) (hp:bG B w S p) (hB:B<=w.heap.size):
  Calls Tryz.prog 153 #[S] w λe b=>∃ v,e=.returned (.tuple #[v,.int .i64 (f8 p).2])/\bO w.heap.size b v (f8 p).1/\Below w.heap.size w b:=by
 have D:Hid (∀ b,Below w.heap.size w b->Calls Tryz.prog 188 #[S] b λe k=>∃ lv,e=.returned (.tuple #[lv,.int .i64 (du p)])/\k.ownsRow b.heap.size 122 4 lv (fW p).length (aE (fW p))/\(∀ i∈fW p,iB i)/\Below b.heap.size b k):=λb h=>pO B S p b (hp.later h hB) (Nat.le_trans hB h.size)
 have E:Hid (du p=0->∀ b,Below w.heap.size w b->Calls Tryz.prog 110 #[S] b λe k=>∃ v,e=.returned v/\aN b.heap.size k v p/\Below b.heap.size b k):=λhe b h=>mC B S p b (hp.later h hB) (Nat.le_trans hB h.size) (gw (xO he)).1 (gw (xO he)).2
 have HO:Hid (f8 p=if du p=0 then ((true,[cO p],p),0) else (aV,du p)):=rfl
 have N:Hid (du p=0->fW p=cO p):=λh=>by rw[fW,if_pos h]
 obtain⟨f,d⟩:=p
 obtain⟨rv,T,-,a,r,U,-⟩:=hp
 simp only at T U
 subst U
 subst T
 obtain⟨n,hn⟩:∃ n,n=f.length:=⟨_,rfl⟩
 have HN:=hid hn.symm
 rw[<-hn] at D E |-
 clear hn
 obtain⟨c,q⟩:∃ c,c=(w.alloc (.cells #[.slice a n r,.int .i64 d] 30)).alloc (.cells #[.bool false,.slice none 0 0,.slice none 0 0,.int .i64 0] 46):=⟨_,rfl⟩
 have F:Below w.heap.size w c:=by rw[q];exact ((Below.refl _ _).alloc (Nat.le_refl _) _).alloc (by simp) _
 have V:c.heap.size=w.heap.size+1+1:=by rw[q];simp
 have g0:c.heap[w.heap.size]?=some (.cells #[.slice a n r,.int .i64 d] 30 (0,0)):=by rw[q];exact bM _ (bE _ _ rfl)
 have g1:c.heap[w.heap.size+1]?=some (.cells #[.bool false,.slice none 0 0,.slice none 0 0,.int .i64 0] 46 (0,0)):=by rw[q];exact bE _ _ (by simp only[World.size_alloc])
 have ad:=hid q
 have W:Hid (∀ b,Below c.heap.size c b->b.heap[w.heap.size]?=some (.cells #[.slice a n r,.int .i64 d] 30 (0,0))/\b.heap[w.heap.size+1]?=some (.cells #[.bool false,.slice none 0 0,.slice none 0 0,.int .i64 0] 46 (0,0))/\Below w.heap.size w b/\w.heap.size+1<b.heap.size):=λb h=>⟨(h.block _ (by omega)).trans g0,(h.block _ (by omega)).trans g1,Below.thenOf F h F.size,by have:=h.size;omega⟩
 have O:=hid F
 have X:=hid V
 clear q g0 g1 F V
 go_enter Tryz.func153,Tryz.ntmps153
 go_wp2_with fail
 rw[<-ad.out]
 go_at_call 188
 refine Calls.mono (D.out _ O.out) ?_
 rintro e j ⟨fv,rfl,s,G,H⟩
 obtain⟨G0,G1,m,bm⟩:=W.out j H
 obtain⟨fa,fc,ao,-,-⟩:=ax s
 subst ao
 have t:Hid (Below c.heap.size c j/\Below w.heap.size w j):=⟨H,m⟩
 by_cases l:du (f,d)=0
 ·have u:Hid (f8 (f,d)=((true,[cO (f,d)],f,d),0)):=by unfold Hid;rw[HO.out,if_pos l]
  have I:Hid (∀ b,Below w.heap.size w b->Calls Tryz.prog 110 #[.agg #[.slice a n r,.int .i64 d]] b λe k=>∃ v,e=.returned v/\aN b.heap.size k v (f,d)/\Below b.heap.size b k):=E.out l
  rw[N.out l] at s G |-
  rw[l]
  have P:Hid (j.ownsRow c.heap.size 122 4 (.slice fa (cO (f,d)).length fc) (cO (f,d)).length (aE (cO (f,d)))/\∀ i∈cO (f,d),iB i):=⟨s,G⟩
  clear s G l HO E N H m D
  generalize Y:(cO (f,d)).length=fl at*
  have av:=hid Y
  clear Y
  obtain⟨C,x⟩:∃ C,C=j.alloc (.cells #[.slice fa fl fc] 85):=⟨_,rfl⟩
  have y:Below j.heap.size j C:=by rw[x];exact (Below.refl _ _).alloc (Nat.le_refl _) _
  have b0:C.heap.size=j.heap.size+1:=by rw[x];simp
  have g4:C.heap[j.heap.size]?=some (.cells #[.slice fa fl fc] 85 (0,0)):=by rw[x];exact af _ _
  have z:Below c.heap.size c C:=Below.thenOf t.out.1 y t.out.1.size
  obtain⟨b1,b2,J,bo⟩:=W.out C z
  have b3:=hid x
  have A:Hid (Below c.heap.size c C/\Below w.heap.size w C):=⟨z,J⟩
  have b4:c.heap.size<=j.heap.size:=t.out.1.size
  have Z:Hid (cW c.heap.size C (.slice (some ⟨j.heap.size,0,none⟩) 1 1) [cO (f,d)]):=by
   refine nN (xs:=[.slice fa fl fc]) ⟨rfl,.inr ⟨j.heap.size,1,_,rfl,b4,g4,Nat.le_refl _,by rw[ag];omega,rfl,rfl⟩⟩ ?_
   refine iy.snoc (iy.nil _ _) (au ?_ y) P.out.2
   rw[av.out]
   exact P.out.1
  obtain⟨p0,p1⟩:j.cell? ⟨w.heap.size,0,none⟩=some (.slice a n r)/\j.cell? ⟨w.heap.size,1,none⟩=some (.int .i64 d):=⟨ab G0 0 rfl,ab G0 1 rfl⟩
  have bg:w.heap.size<j.heap.size:=by omega
  clear x y g4 z b1 b2 J G0 G1 b0 t
  go_wp2_with fail
  rw[<-b3.out]
  go_at_call 110
  refine Calls.mono (I.out _ A.out.2) ?_
  rintro e w5 ⟨cv,rfl,Q,R⟩
  obtain⟨b5,a1,K,bs⟩:=W.out w5 (Below.thenOf A.out.1 R A.out.1.size)
  have M:cW c.heap.size w5 (.slice (some ⟨j.heap.size,0,none⟩) 1 1) [cO (f,d)]:=Z.out.later (Nat.le_refl _) R
  have o:aN c.heap.size w5 cv (f,d):=Q.keep A.out.1.size (λg _ _=>rfl) (Nat.le_refl _)
  obtain⟨ra,rc,b8⟩:=kD o
  subst b8
  simp only[] at o Q |-
  obtain⟨z0,z1,z2,z3,f0,f1,f2,f3⟩:=am a1
  have HF:Hid (cW c.heap.size w5 (.slice (some ⟨j.heap.size,0,none⟩) 1 1) [cO (f,d)]/\aN c.heap.size w5 (.agg #[.slice ra n rc,.int .i64 d]) (f,d)):=⟨M,by rw[<-HN.out];exact o⟩
  have b9:=hid K
  rw[HN.out]
  clear M o Q R b5 a1 K Z A P I p0 p1 W
  go_wp2_with fail
  refine bodyPost_ret (v:=.tuple #[.agg #[.bool true,.slice (some ⟨j.heap.size,0,none⟩) 1 1,.slice ra n rc,.int .i64 d],.int .i64 0]) ?_ rfl ⟨_,by rw[u.out],?_,?_⟩
  ·rw[results_cell_tmp rfl]
   go_simp
  ·rw[u.out]
   refine⟨some ⟨j.heap.size,0,none⟩,1,ra,rc,by simp[HN.out],?_,?_⟩
   ·refine cW.keep (L:=c.heap.size) ?_ O.out.size (λg _ _=>rfl) (Nat.le_refl _)
    repeat (first | refine cW.put ?_ (.inl (by rw[X.out];omega)) | exact HF.out.1)
   ·simp only[HN.out]
    refine aN.keep (L:=c.heap.size) ?_ O.out.size (λg _ _=>rfl) (Nat.le_refl _)
    repeat (first | refine aN.put ?_ (.inl (by rw[X.out];omega)) | exact HF.out.2)
  ·repeat (first | refine Below.setCell ?_ (by show w.heap.size<=w.heap.size+1;omega) _ | exact b9.out)
 ·have u:Hid (f8 (f,d)=(aV,du (f,d))):=by unfold Hid;rw[HO.out,if_neg l]
  have hq:(du (f,d) != 0)=true:=by simpa using l
  obtain⟨z0,z1,z2,z3,f0,f1,f2,f3⟩:=am G1
  have a2:=hid m
  clear s G l HO E N H m D W t G0 G1
  generalize du (f,d)=ce at*
  generalize (fW (f,d)).length=fl at*
  go_wp2_with fail
  refine bodyPost_ret (v:=.tuple #[.agg #[.bool false,.slice none 0 0,.slice none 0 0,.int .i64 0],.int .i64 ce]) ?_ rfl ⟨_,by rw[u.out],by rw[u.out];exact kz _ _,?_⟩
  ·rw[results_cell_tmp rfl]
   go_simp
  ·repeat (first | refine Below.setCell ?_ (by show w.heap.size<=w.heap.size+1;omega) _ | exact a2.out)
set_option maxHeartbeats 4000000 in
theorem vo (B:Nat) (cv J:Value) (c:ay) (p:ap) (w:World) (hc:lL B w cv c) (hp:bG B w J p) (K:B<=w.heap.size) (x:ae p=0):
  Calls Tryz.prog 154 #[cv,J] w λe b=>∃ v,e=.returned (.tuple #[v,.int .i64 (dm c.2.1 c.2.2 p)])/\bO w.heap.size b v (if dm c.2.1 c.2.2 p=0 then (true,eC c.2.1 c.2.2 p,p) else aV)/\Below w.heap.size w b:=by
 have o:Hid (∀ b,Below w.heap.size w b->Calls Tryz.prog 110 #[J] b λe m=>∃ v,e=.returned v/\aN b.heap.size m v p/\Below b.heap.size b m):=λb h=>mC B J p b (hp.later h K) (Nat.le_trans K h.size) (gw x).1 (gw x).2
 obtain⟨la,lc,ra,rc,rfl,h1,h2⟩:=hc
 have y:Hid (∀ b,Below w.heap.size w b->Calls Tryz.prog 189 #[.slice la c.2.1.length lc,.agg #[.slice ra c.2.2.1.length rc,.int .i64 c.2.2.2],J] b λe m=>∃ v,e=.returned (.tuple #[v,.int .i64 (dm c.2.1 c.2.2 p)])/\cW b.heap.size m v (eC c.2.1 c.2.2 p)/\Below b.heap.size b m):=λb h=>vg B _ _ J c.2.1 c.2.2 p b (h1.later h K) (h2.later h K) (hp.later h K) (Nat.le_trans K h.size)
 obtain⟨M,d⟩:=p
 obtain⟨rv,N,-,a,z,O,-⟩:=hp
 simp only at N O
 subst O
 subst N
 clear h1 h2 x
 generalize dm c.2.1 c.2.2 (M,d)=te at*
 generalize eC c.2.1 c.2.2 (M,d)=tr at*
 generalize c.2.1.length=n1 at*
 generalize c.2.2.1.length=n2 at*
 generalize c.2.2.2=f at*
 generalize c.1=op at*
 obtain⟨n,hn⟩:∃ n,n=M.length:=⟨_,rfl⟩
 have V:=hid hn.symm
 rw[<-hn] at y o |-
 clear hn
 obtain⟨i,j⟩:∃ i,i=((w.alloc (.cells #[.bool op,.slice la n1 lc,.slice ra n2 rc,.int .i64 f] 46)).alloc (.cells #[.slice a n z,.int .i64 d] 30)).alloc (.cells #[.bool false,.slice none 0 0,.slice none 0 0,.int .i64 0] 46):=⟨_,rfl⟩
 have q:Below w.heap.size w i:=by rw[j];exact (((Below.refl _ _).alloc (Nat.le_refl _) _).alloc (by simp) _).alloc (by simp;omega) _
 have P:i.heap.size=w.heap.size+1+1+1:=by rw[j];simp
 have g0:i.heap[w.heap.size]?=some (.cells #[.bool op,.slice la n1 lc,.slice ra n2 rc,.int .i64 f] 46 (0,0)):=by rw[j];exact bM _ (bM _ (bE _ _ rfl))
 have g1:i.heap[w.heap.size+1]?=some (.cells #[.slice a n z,.int .i64 d] 30 (0,0)):=by rw[j];exact bM _ (bE _ _ (by simp only[World.size_alloc]))
 have g2:i.heap[w.heap.size+1+1]?=some (.cells #[.bool false,.slice none 0 0,.slice none 0 0,.int .i64 0] 46 (0,0)):=by rw[j];exact bE _ _ (by simp only[World.size_alloc])
 have a8:=hid j
 have W:Hid (∀ b,Below i.heap.size i b->b.heap[w.heap.size+1]?=some (.cells #[.slice a n z,.int .i64 d] 30 (0,0))/\b.heap[w.heap.size+1+1]?=some (.cells #[.bool false,.slice none 0 0,.slice none 0 0,.int .i64 0] 46 (0,0))/\Below w.heap.size w b):=λb h=>⟨(h.block _ (by omega)).trans g1,(h.block _ (by omega)).trans g2,Below.thenOf q h q.size⟩
 have Q:=hid P
 have A:=hid q
 clear j g0 g1 g2 q P
 go_enter Tryz.func154,Tryz.ntmps154
 go_wp2_with fail
 rw[<-a8.out]
 go_at_call 189
 refine Calls.mono (y.out _ A.out) ?_
 rintro e w3 ⟨tv,rfl,C,D⟩
 obtain⟨X,G2,s⟩:=W.out w3 D
 obtain⟨Y,Z,ac⟩:=oJ C
 subst ac
 have l:Hid (Below i.heap.size i w3/\Below w.heap.size w w3):=⟨D,s⟩
 have E:=hid C
 clear C D s y
 generalize R:tr.length=fl at*
 have S:=hid R
 clear R
 by_cases r:te=0
 ·subst r
  have p0:=ab X 0 rfl
  have p1:=ab X 1 rfl
  clear X G2
  go_wp2_with fail
  go_at_call 110
  refine Calls.mono (o.out _ l.out.2) ?_
  rintro e T ⟨cv,rfl,F,G⟩
  obtain⟨ak,U,t⟩:=W.out T (Below.thenOf l.out.1 G l.out.1.size)
  have u:cW i.heap.size T (.slice Y fl Z) tr:=E.out.later (Nat.le_refl _) G
  have k:aN i.heap.size T cv (M,d):=F.keep l.out.1.size (λg _ _=>rfl) (Nat.le_refl _)
  obtain⟨H,I,ao⟩:=kD k
  subst ao
  simp only[] at k F |-
  obtain⟨z0,z1,z2,z3,f0,f1,f2,f3⟩:=am U
  have HF:Hid (cW i.heap.size T (.slice Y fl Z) tr/\aN i.heap.size T (.agg #[.slice H n I,.int .i64 d]) (M,d)):=⟨u,by rw[<-V.out];exact k⟩
  have av:=hid t
  rw[V.out]
  clear u k F G ak U t E l o p0 p1 W
  go_wp2_with fail
  refine bodyPost_ret (v:=.tuple #[.agg #[.bool true,.slice Y fl Z,.slice H n I,.int .i64 d],.int .i64 0]) ?_ rfl ⟨_,rfl,?_,?_⟩
  ·rw[results_cell_tmp rfl]
   go_simp
  ·refine⟨Y,Z,H,I,by simp[V.out,S.out],?_,?_⟩
   ·simp only[S.out]
    refine cW.keep (L:=i.heap.size) ?_ A.out.size (λg _ _=>rfl) (Nat.le_refl _)
    repeat (first | refine cW.put ?_ (.inl (by rw[Q.out];omega)) | exact HF.out.1)
   ·simp only[V.out]
    refine aN.keep (L:=i.heap.size) ?_ A.out.size (λg _ _=>rfl) (Nat.le_refl _)
    repeat (first | refine aN.put ?_ (.inl (by rw[Q.out];omega)) | exact HF.out.2)
  ·repeat (first | refine Below.setCell ?_ (by show w.heap.size<=w.heap.size+1+1;omega) _ | exact av.out)
 ·have hq:(te != 0)=true:=by simpa using r
  obtain⟨z0,z1,z2,z3,f0,f1,f2,f3⟩:=am G2
  have bq:=hid r
  clear r E o W X G2
  go_wp2_with fail
  refine bodyPost_ret (v:=.tuple #[.agg #[.bool false,.slice none 0 0,.slice none 0 0,.int .i64 0],.int .i64 te]) ?_ rfl ⟨_,rfl,kz _ _,?_⟩
  ·rw[results_cell_tmp rfl]
   go_simp
  ·repeat (first | refine Below.setCell ?_ (by show w.heap.size<=w.heap.size+1+1;omega) _ | exact l.out.2)
end Go.Proofs.YtnpdhopjpjickaaGreatDoor
end
section
set_option linter.all false
set_option maxRecDepth 100000
namespace Go.Proofs.YtnpdhopjpjickaaGreatDoor
open Go.RowKit Go.Maps
theorem wy (n:Nat) (f:n<=4294967281) (w:World):(Instr.makeSlice 22 (.int .i64 n) (.int .i64 n)).run Tryz.prog w=.ok (.slice (some ⟨w.heap.size,0,none⟩) n n) (w.alloc (.cells (madeCells #[.bool false,.slice none 0 0,.slice none 0 0,.int .i64 0] (n*4)) 46)):=by
 obtain⟨a,b,c,d,e⟩:=sh
 have:=run_make (P:=Tryz.prog) w 22 46 a _ Tryz.underlying22 b c .i64 .i64 n n (by omega) (Int.le_refl _) (by rw[e];omega) (by omega)
 rw[d] at this
 simpa [Value.cells] using this
theorem sX (B g:Nat) (sv:Value) (l:List ay) (d:Array Value) (w:World) (h:bl B w sv l) (I:B<=g) (z:w.heap[g]?=some (.cells d 46 (0,0))) (f:d.size=l.length*4):
  ∃ w' xs,(∀ A,(Builtin.copy_ #[22,22] A #[.slice (some ⟨g,0,none⟩) l.length l.length,sv]).run Tryz.prog w=.ok (.int .i64 l.length) w')/\w'.heap[g]?=some (.cells xs.toArray 46 (0,0))/\El B w' xs l/\Below g w w'/\w'.heap.size=w.heap.size/\∀ b,b≠g->w'.heap[b]?=w.heap[b]?:=by
 obtain⟨J,s,K,C,L⟩:=sh
 obtain⟨a,M,rfl,N,O,m⟩:=h
 have t:Nat.min l.length l.length=l.length:=Nat.min_self _
 cases a with
 | none=>
  have Q:l=[]:=by
   cases l with
   | nil=>rfl
   | cons r l=>obtain⟨b,o,e,_⟩:=m 0 r rfl;cases e
  subst Q
  have D:d=#[]:=Array.eq_empty_of_size_eq_zero (by simpa using f)
  refine⟨w,[],λA=>?_,by rw[z,D],⟨rfl,λu E=>(by cases E),λi c f=>by simp at f⟩,Below.refl _ _,rfl,λ_ _=>rfl⟩
  simp[Builtin.copy_,run_underlying Tryz.underlying22,Builtin.lenOf,sizeOf,typeInfo,s,Builtin.firstCells,storeCells,goInt]
 | some G=>
  obtain⟨xs,n,p⟩:∃ xs,El B w xs l/\∀ j u,xs[j]?=some u->w.cell? (G.add j)=some u:=by
   cases l with
   | nil=>exact⟨[],⟨rfl,λu E=>(by cases E),λi c f=>by simp at f⟩,λj u F=>by simp at F⟩
   | cons r l=>
    obtain⟨b,o,e,_,_⟩:=m 0 r rfl
    cases e
    obtain⟨xs,R,S⟩:=DS (b:=b) (o:=o) (l:=r :: l) λi c f=>by
     obtain⟨U,V,e,-,k⟩:=m i c f
     cases e
     exact k
    exact⟨xs,R,λj u F=>by rw[dL];exact S j u F⟩
  have q:=n.1
  have H:=run_loadCells_list (P:=Tryz.prog) w G xs p
  rw[q] at H
  have v:=run_storeCells_at Tryz.prog g 0 46 xs 0 d w z (by rw[q,f];omega) n.2.1
  have x:(d.toList.take (0+0)++xs++d.toList.drop (0+0+xs.length)).toArray=xs.toArray:=by
   rw[q,List.drop_of_length_le (by simp[f])]
   simp
  rw[x] at v
  have y:Below g w (w.setRow g xs.toArray):=⟨rfl,rfl,rfl,by simp[World.setRow],λk W=>setRow_other w g k _ (by omega)⟩
  refine⟨w.setRow g xs.toArray,xs,λA=>?_,setRow_heap w g _ _ _ _ z,n.later y I,y,by simp[World.setRow],λb T=>setRow_other w g b _ T⟩
  simp[Builtin.copy_,run_underlying Tryz.underlying22,Builtin.lenOf,Builtin.firstCells,sizeOf,typeInfo,s,C,t,H,v,goInt]
def BZ (B L k:Nat) (w:World) (i:Nat) (lv rv:Value) (c:ay):Prop:=
 (i<k->cW L w lv c.2.1/\aN L w (.agg #[rv,.int .i64 c.2.2.2]) c.2.2)/\(¬i<k->cH B w lv c.2.1/\bG B w (.agg #[rv,.int .i64 c.2.2.2]) c.2.2)
def ll (B G k:Nat) (l:List ay) (w:World):Prop:=
 ∃ xs:List Value,w.heap[G]?=some (.cells xs.toArray 46 (0,0))/\xs.length=l.length*4/\(∀ u∈xs,u.oneCell'=true)/\∀ i c,l[i]?=some c->∃ a b,xs[i*4]?=some (.bool c.1)/\xs[i*4+1]?=some a/\xs[i*4+2]?=some b/\xs[i*4+3]?=some (.int .i64 c.2.2.2)/\BZ B (G+1) k w i a b c
theorem sq {B G k:Nat} {w w':World} {i:Nat} {lv rv:Value} {c:ay} (h:BZ B (G+1) k w i lv rv c) (e:B<=G) (b:Below G w w') (f:∀ g,g≠G->g<w.heap.size->w'.heap[g]?=w.heap[g]?):BZ B (G+1) k w' i lv rv c:=
 ⟨λa=>⟨(h.1 a).1.keep (Nat.le_refl _) (λg j d=>f g (by omega) d) b.size,(h.1 a).2.keep (Nat.le_refl _) (λg j d=>f g (by omega) d) b.size⟩,λa=>⟨(h.2 a).1.later b e,(h.2 a).2.later b e⟩⟩
theorem ll.later {B G k:Nat} {l:List ay} {w w':World} (h:ll B G k l w) (d:B<=G) (a:Below w.heap.size w w'):ll B G k l w':=by
 obtain⟨xs,b,e,f,j⟩:=h
 have m:=lt_of_block b
 refine⟨xs,(a.block G m).trans b,e,f,λi c n=>?_⟩
 obtain⟨o,p,q,r,s,t,u⟩:=j i c n
 exact⟨o,p,q,r,s,t,sq u d (a.mono (by omega)) λg _ v=>a.block g v⟩
theorem ll.put {B G k:Nat} {l:List ay} {W w:World} {c:ay} {lv rv:Value} (h:ll B G k l W) (y:B<=G) (o:l[k]?=some c) (s:Below G W w) (b:∀ g,G<g->g<W.heap.size->w.heap[g]?=W.heap[g]?) (f:∀ xs:List Value,W.heap[G]?=some (.cells xs.toArray 46 (0,0))->w.heap[G]?=some (.cells (((xs.set (k*4+1) lv).set (k*4+2) rv).set (k*4+3) (.int .i64 c.2.2.2)).toArray 46 (0,0))) (z:lv.oneCell'=true) (A:rv.oneCell'=true) (p:cW (G+1) w lv c.2.1) (q:aN (G+1) w (.agg #[rv,.int .i64 c.2.2.2]) c.2.2):ll B G (k+1) l w:=by
 obtain⟨xs,C,D,E,t⟩:=h
 have F:k<l.length:=(List.getElem?_eq_some_iff.1 o).1
 have a:∀ g,g≠G->g<W.heap.size->w.heap[g]?=W.heap[g]?:=λg M H=>by
  by_cases h:g<G
  ·exact s.block g h
  ·exact b g (by omega) H
 refine⟨_,f xs C,by simp[D],λu e=>?_,λi d r=>?_⟩
 ·rcases List.mem_or_eq_of_mem_set e with e | rfl
  ·rcases List.mem_or_eq_of_mem_set e with e | rfl
   ·rcases List.mem_or_eq_of_mem_set e with e | rfl
    ·exact E u e
    ·exact z
   ·exact A
  ·rfl
 ·by_cases I:i=k
  ·subst I
   rw[o] at r
   cases r
   obtain⟨j,m,v,J,K,L,x⟩:=t i c o
   refine⟨lv,rv,?_,?_,?_,?_,λ_=>⟨p,q⟩,λh=>absurd (Nat.lt_succ_self i) h⟩
   ·rw[List.getElem?_set_ne (by omega),List.getElem?_set_ne (by omega),List.getElem?_set_ne (by omega)]
    exact v
   ·rw[List.getElem?_set_ne (by omega),List.getElem?_set_ne (by omega),List.getElem?_set_self (by omega)]
   ·rw[List.getElem?_set_ne (by omega),List.getElem?_set_self (by simp;omega)]
   ·rw[List.getElem?_set_self (by simp;omega)]
  ·obtain⟨j,m,v,J,K,L,x⟩:=t i d r
   have n:=sq x y s a
   refine⟨j,m,?_,?_,?_,?_,λh=>n.1 (by omega),λh=>n.2 (by omega)⟩
   all_goals
    rw[List.getElem?_set_ne (by omega),List.getElem?_set_ne (by omega),List.getElem?_set_ne (by omega)]
    assumption
theorem ll.set {B G L n b:Nat} {l:List ay} {w q:World} {c:ay} {lv rv:Value} (h:ll B G n l w) (D:L<=G) (z:l.length=n) (E:n<=1000) (F:b<n) (r:q=(((w.setCell ⟨G,b*4,none⟩ (.bool c.1)).setCell ⟨G,b*4+1,none⟩ lv).setCell ⟨G,b*4+2,none⟩ rv).setCell ⟨G,b*4+3,none⟩ (.int .i64 c.2.2.2)) (k:∀ e:World,(∀ g,L<=g->g≠G->g<w.heap.size->e.heap[g]?=w.heap[g]?)->w.heap.size<=e.heap.size->cH e.heap.size e lv c.2.1/\bG e.heap.size e (.agg #[rv,.int .i64 c.2.2.2]) c.2.2):qJ L q (.slice (some ⟨G,0,none⟩) n n) (l.set b c):=by
 intro e s
 obtain⟨xs,H,T,U,I⟩:=h
 have J:=an (o:=b*4) (u:=.bool c.1) H
 have K:=an (o:=b*4+1) (u:=lv) J
 have M:=an (o:=b*4+2) (u:=rv) K
 have a:=an (o:=b*4+3) (u:=.int .i64 c.2.2.2) M
 rw[<-r] at a
 have N:q.heap.size=w.heap.size:=by rw[r];simp
 have f:∀ g,L<=g->g≠G->g<w.heap.size->e.heap[g]?=w.heap[g]?:=λg O j p=>by
  rw[s.2 g (Nat.not_lt.2 O) (by omega),r]
  exact (((Below.heap_setCell _ _ _ _ j).trans (Below.heap_setCell _ _ _ _ j)).trans (Below.heap_setCell _ _ _ _ j)).trans (Below.heap_setCell _ _ _ _ j)
 replace a:=(s.2 G (Nat.not_lt.2 D) (lt_of_block a)).trans a
 have P:=s.size
 have t:n<=maxLen:=by rw[ag];omega
 refine⟨some ⟨G,0,none⟩,n,by simp[z],by simp[z],t,λi d m=>⟨G,0,rfl,lt_of_block a,?_⟩⟩
 rw[Nat.zero_add]
 have v:i<l.length:=by
  have:=(List.getElem?_eq_some_iff.1 m).1
  simpa using this
 by_cases A:i=b
 ·subst A
  rw[List.getElem?_set_self v] at m
  cases m
  obtain⟨Q,R⟩:=k e f (by omega)
  refine⟨lv,rv,ab a _ ?_,ab a _ ?_,ab a _ ?_,ab a _ ?_,Q,R⟩
  all_goals
   simp only[Array.getElem?_setIfInBounds,Array.size_setIfInBounds,List.size_toArray]
   repeat (first | rw[if_pos trivial] | rw[if_pos (by omega)] | rw[if_neg (by omega)])
 ·rw[List.getElem?_set_ne (Ne.symm A)] at m
  obtain⟨x,y,V,W,X,Y,S⟩:=I i d m
  have C:=S.1 (by omega)
  refine⟨x,y,ab a _ ?_,ab a _ ?_,ab a _ ?_,ab a _ ?_,C.1 e (λg j p=>f g (by omega) (by omega) p) (by omega),C.2 e (λg j p=>f g (by omega) (by omega) p) (by omega)⟩
  all_goals
   simp only[Array.getElem?_setIfInBounds,Array.size_setIfInBounds,List.size_toArray]
   repeat (rw[if_neg (by omega)])
   rw[List.getElem?_toArray]
   assumption
theorem BM {B G L:Nat} {w:World} {l:List ay} (h:ll B G l.length l w) (k:L<=G) (v:l.length<=1000):qJ L w (.slice (some ⟨G,0,none⟩) l.length l.length) l:=by
 intro e b
 obtain⟨xs,a,x,y,m⟩:=h
 replace a:=(b.2 G (Nat.not_lt.2 k) (lt_of_block a)).trans a
 refine⟨some ⟨G,0,none⟩,l.length,rfl,Nat.le_refl _,by rw[ag];omega,λi d f=>⟨G,0,rfl,lt_of_block a,?_⟩⟩
 rw[Nat.zero_add]
 obtain⟨n,o,p,q,r,s,t⟩:=m i d f
 have j:=t.1 (List.getElem?_eq_some_iff.1 f).1
 exact⟨n,o,ab a _ (by simpa using p),ab a _ (by simpa using q),ab a _ (by simpa using r),ab a _ (by simpa using s),j.1 e (λg u c=>b.2 g (by omega) c) b.size,j.2 e (λg u c=>b.2 g (by omega) c) b.size⟩
structure vY (G k:Nat) (xs:List Value) (W:World) (c:ay) (fs:Nat->Value->Prop) (w:World):Prop where
 below:Below G W w
 keep:∀ g,G<g->g<W.heap.size->w.heap[g]?=W.heap[g]?
 chs:∀ v,fs 6 v->cW W.heap.size w v c.2.1
 pol:∀ v,fs 9 v->aN W.heap.size w v c.2.2
 row0:(∀ u,¬fs 12 u)->w.heap[G]?=some (.cells xs.toArray 46 (0,0))
 row1:∀ u v,fs 12 u->fs 6 v->(∀ x,¬fs 15 x)->w.heap[G]?=some (.cells (xs.set (k*4+1) v).toArray 46 (0,0))
 row2:∀ u v r d,fs 15 u->fs 6 v->fs 9 (.agg #[r,d])->w.heap[G]?=some (.cells (((xs.set (k*4+1) v).set (k*4+2) r).set (k*4+3) d).toArray 46 (0,0))
 two:∀ u,fs 12 u->(∃ v,fs 6 v)/\∃ v,fs 9 v
 last:∀ u,fs 15 u->∃ v,fs 12 v
 uni6:∀ v u,fs 6 v->fs 6 u->v=u
 uni9:∀ v u,fs 9 v->fs 9 u->v=u
section
variable {G k:Nat} {xs:List Value} {W w w':World} {c:ay} {fs:Nat->Value->Prop}
theorem vY.start (a:W.heap[G]?=some (.cells xs.toArray 46 (0,0))):vY G k xs W c (λ_ _=>False) W.drew:=⟨(Below.refl _ _).drew,λ_ _ _=>rfl,λ_ h=>h.elim,λ_ h=>h.elim,λ_=>a,λ_ _ h=>h.elim,λ_ _ _ _ h=>h.elim,λ_ h=>h.elim,λ_ h=>h.elim,λ_ _ h=>h.elim,λ_ _ h=>h.elim⟩
theorem vY.no12 (h:vY G k xs W c fs w) {j:Nat} (d:j=6\/j=9) (a:∀ v,¬fs j v):∀ u,¬fs 12 u:=λu e=>by
 obtain⟨⟨v,f⟩,g,b⟩:=h.two u e
 rcases d with rfl | rfl
 ·exact a _ f
 ·exact a _ b
theorem vY.no15 (h:vY G k xs W c fs w) (a:∀ u,¬fs 12 u):∀ u,¬fs 15 u:=λu b=>(h.last u b).elim a
theorem dA {j m:Nat} {u v:Value} (h:bW fs j u m v) (a:m≠j):fs m v:=by
 rcases h with h | ⟨e,_⟩
 ·exact h
 ·exact absurd e a
theorem vY.made (h:vY G k xs W c fs w) {j:Nat} (A:j=6\/j=9) (l:∀ v,¬fs j v) (H:G<W.heap.size) (p:Below w.heap.size w w') {u:Value} (B:j=6->cW w.heap.size w' u c.2.1) (C:j=9->aN w.heap.size w' u c.2.2):vY G k xs W c (bW fs j u) w':=by
 have n:=h.no12 A l
 have x:=h.no15 n
 have q:∀ i,¬bW fs j u 12 i:=λi f=>n _ (dA f (by omega))
 have s:∀ i,¬bW fs j u 15 i:=λi f=>x _ (dA f (by omega))
 have y:=h.below.size
 have t:∀ m,(∀ v o,fs m v->fs m o->v=o)->∀ v o,bW fs j u m v->bW fs j u m o->v=o:=λm D v o b a=>by
  rcases b with b | ⟨e,rfl⟩
  ·rcases a with a | ⟨z,rfl⟩
   ·exact D v o b a
   ·subst z
    exact absurd b (l _)
  ·rcases a with a | ⟨z,rfl⟩
   ·subst e
    exact absurd a (l _)
   ·rfl
 refine⟨h.below.trans (p.mono (by omega)),λg E F=>(p.block g (by omega)).trans (h.keep g E F),λv b=>?_,λv b=>?_,λ_=>(p.block G (by omega)).trans (h.row0 n),λi v f _ _=>absurd f (q _),λi v r d f _ _=>absurd f (s _),λi f=>absurd f (q _),λi f=>absurd f (s _),t 6 h.uni6,t 9 h.uni9⟩
 ·rcases b with b | ⟨e,rfl⟩
  ·exact (h.chs v b).later (Nat.le_refl _) p
  ·exact (B e.symm).keep y (λ_ _ _=>rfl) (Nat.le_refl _)
 ·rcases b with b | ⟨e,rfl⟩
  ·exact (h.pol v b).later (Nat.le_refl _) p
  ·exact (C e.symm).keep y (λ_ _ _=>rfl) (Nat.le_refl _)
theorem vY.store (h:vY G k xs W c fs w) (i:∀ v,¬fs 12 v) {f q:Value} (s:fs 6 f) (x:fs 9 q) (t:G<W.heap.size):vY G k xs W c (bW fs 12 undef) (w.setCell ⟨G,k*4+1,none⟩ f):=by
 have m:=h.no15 i
 have y:=an (o:=k*4+1) (u:=f) (h.row0 i)
 have j:∀ l,¬bW fs 12 undef 15 l:=λl b=>m _ (dA b (by decide))
 refine⟨h.below.setCell (p:=⟨G,k*4+1,none⟩) (Nat.le_refl _) _,λg z A=>(Below.heap_setCell _ _ _ _ (by show g≠G;omega)).trans (h.keep g z A),λv a=>(h.chs v (dA a (by decide))).put (.inl t),λv a=>(h.pol v (dA a (by decide))).put (.inl t),λB=>absurd (.inr ⟨rfl,rfl⟩) (B undef),λu v b a _=>?_,λl v r d b _ _=>absurd b (j _),λu b=>⟨⟨f,.inl s⟩,q,.inl x⟩,λl b=>absurd b (j _),λv n a e=>h.uni6 v n (dA a (by decide)) (dA e (by decide)),λv n a e=>h.uni9 v n (dA a (by decide)) (dA e (by decide))⟩
 have:v=f:=h.uni6 v f (dA a (by decide)) s
 subst this
 rw[y]
 simp
theorem vY.store2 (h:vY G k xs W c fs w) (l:∀ v,¬fs 15 v) {m b r d:Value} (s:fs 6 m) (x:fs 9 (.agg #[r,d])) (e:fs 12 b) (i:G<W.heap.size):vY G k xs W c (bW fs 15 undef) ((w.setCell ⟨G,k*4+2,none⟩ r).setCell ⟨G,k*4+3,none⟩ d):=by
 have y:=an (o:=k*4+3) (u:=d) (an (o:=k*4+2) (u:=r) (h.row1 _ _ e s l))
 refine⟨(h.below.setCell (p:=⟨G,k*4+2,none⟩) (Nat.le_refl _) _).setCell (p:=⟨G,k*4+3,none⟩) (Nat.le_refl _) _,λg z A=>((Below.heap_setCell _ _ _ _ (by show g≠G;omega)).trans (Below.heap_setCell _ _ _ _ (by show g≠G;omega))).trans (h.keep g z A),λv a=>((h.chs v (dA a (by decide))).put (.inl i)).put (.inl i),λv a=>((h.pol v (dA a (by decide))).put (.inl i)).put (.inl i),λn=>absurd (.inl e) (n b),λu v j a n=>absurd (.inr ⟨rfl,rfl⟩) (n undef),λB v E F j a C=>?_,λu j=>h.two u (dA j (by decide)) |>.imp (λ⟨v,a⟩=>⟨v,.inl a⟩) (λ⟨v,a⟩=>⟨v,.inl a⟩),λB j=>⟨b,.inl e⟩,λv q a f=>h.uni6 v q (dA a (by decide)) (dA f (by decide)),λv q a f=>h.uni9 v q (dA a (by decide)) (dA f (by decide))⟩
 have D:v=m:=h.uni6 v m (dA a (by decide)) s
 have t:=h.uni9 _ _ (dA C (by decide)) x
 simp at t
 obtain⟨rfl,rfl⟩:=t
 subst D
 rw[y]
 simp
end
end Go.Proofs.YtnpdhopjpjickaaGreatDoor
end
section
set_option linter.all false
set_option maxRecDepth 100000
namespace Go.Proofs.YtnpdhopjpjickaaGreatDoor
open Go.RowKit Go.Maps
def yt (c:ay):Prop:=c.2.1.length<=1000/\(∀ f∈c.2.1,f.length<=100000)/\c.2.2.1.length<=1000/\∀ r∈c.2.2.1,r.1.length<=1000
theorem us {c:ay} (h:cF c=0):yt c:=by
 obtain⟨o,b,j,d⟩:=c
 cases o with
 | false=>
  rw[mM] at h
  by_cases g:(false,b,j,d)=aV
  ·rw[g]
   exact⟨by simp[aV],λf e=>by simp[aV] at e,by simp[aV],λr k=>by simp[aV] at k⟩
  ·rw[if_neg g] at h
   cases h
 | true=>
  rw[mZ] at h
  by_cases i:b.length=0
  ·rw[if_pos i] at h
   cases h
  ·rw[if_neg i] at h
   by_cases a:aZ b=0
   ·rw[if_pos a] at h
    exact⟨by have:=(dN.1 a).1;simp only;omega,λf e=>Nat.le_trans (np ((dN.1 a).2 f e)).2.1 (by decide),(gw h).1,(gw h).2⟩
   ·rw[if_neg a] at h
    exact absurd h a
def EI (b:Nat) (u1 u2 u3:Value):Type:={ w':World // w'.cell? ⟨b,1,none⟩=some u1/\w'.cell? ⟨b,2,none⟩=some u2/\w'.cell? ⟨b,3,none⟩=some u3 }
set_option maxHeartbeats 8000000 in
theorem sf (B:Nat) (lv:Value) (l:List ay) (w:World) (hl:bl B w lv l) (hB:B<=w.heap.size) (hn:l.length<=1000) (b7:∀ c∈l,yt c):
  Calls Tryz.prog 77 #[lv] w λe b=>e=.returned (.slice (some ⟨w.heap.size,0,none⟩) l.length l.length)/\ll B w.heap.size l.length l b/\Below w.heap.size w b:=by
 have b8:=hid b7
 obtain⟨a,eO,a5,-⟩:=id hl
 obtain⟨n,W⟩:∃ n,n=l.length:=⟨_,rfl⟩
 have HN:=hid W.symm
 have P:=λw=>wy n (by omega) w
 obtain⟨mc,a8⟩:∃ mc,mc=madeCells #[.bool false,.slice none 0 0,.slice none 0 0,.int .i64 0] (n*4):=⟨_,rfl⟩
 rw[<-a8] at P
 have cT:∀ w,(Instr.makeSlice 22 (.int .i64 n) (.int .i64 n)).run Tryz.prog w=.ok (.slice (some ⟨w.heap.size,0,none⟩) n n) (w.alloc (.cells mc 46)):=P
 have a1:mc.size=n*4:=by rw[a8,size_madeCells]
 clear P a8
 obtain⟨W1,Q⟩:∃ W1,W1=w.alloc (.cells mc 46):=⟨_,rfl⟩
 have d0:W1.heap.size=w.heap.size+1:=by rw[Q];simp
 have aa:Below w.heap.size w W1:=by rw[Q];exact (Below.refl _ _).alloc (Nat.le_refl _) _
 have g1:W1.heap[w.heap.size]?=some (.cells mc 46 (0,0)):=by rw[Q];exact bE _ _ rfl
 obtain⟨W3,d1,R,g3,X,a2,d2,d3⟩:=sX B w.heap.size lv l mc W1 (hl.later aa hB) hB g1 (by rw[a1,W])
 have b9:Below w.heap.size w W3:=aa.trans a2
 have ba:Hid (ll B w.heap.size 0 l W3):=⟨d1,g3,X.1,X.2.1,λi c hc=>by
  obtain⟨lv,rv,e0,e1,e2,e3,e4,e5⟩:=X.2.2 i c hc
  exact⟨lv,rv,e0,e1,e2,e3,λh=>absurd h (by omega),λ_=>⟨e4,e5⟩⟩⟩
 have I:=hid hB
 have bb:Hid (Below w.heap.size w W3/\w.heap.size+1<=W3.heap.size):=⟨b9,by omega⟩
 subst a5
 rw[<-W] at R hn |-
 have a3:Hid _:=R
 have bc:=hid Q
 clear Q g1 X a2 d2 d3 b9 aa d0 a1 g3 hl hB R b7
 clear W
 have f4:=ag
 go_enter Tryz.func77,Tryz.ntmps77
 go_wp2_with fail
 rw[<-bc.out,a3.out]
 clear cT
 go_wp2_with fail
 go_loopw [14] (λiv wr=>∃ k:Nat,k<=n/\iv=.int .i64 k/\Hid (ll B w.heap.size k l wr)/\Hid (Below w.heap.size w wr/\w.heap.size+1<=wr.heap.size)) (λiv _=>n-(intOf iv).toNat)
 case atStart=>exact⟨0,by omega,rfl,ba,bb⟩
 case round=>
  clear ba bb a3 bc
  obtain⟨k,hk,rfl,HC,J⟩:=hrel
  obtain⟨q,da⟩:∃ x,x=wr:=⟨_,rfl⟩
  subst da
  have k0:(0:Int)<=(k:Int):=by omega
  by_cases f5:k<n
  ·have k1:(k:Int)<(n:Int):=by omega
   obtain⟨c,Y⟩:∃ c,l[k]?=some c:=⟨l[k]'(by rw[HN.out];omega),by simp⟩
   have dc:=hid Y
   obtain⟨s1,s2,s3,s4⟩:=b8.out c (List.mem_of_getElem? Y)
   obtain⟨Z,y,K,bd,bf⟩:=HC.out
   obtain⟨lv,rv,e0,e1,e2,e3,e4⟩:=bf k c Y
   obtain⟨L,ac⟩:=e4.2 (by omega)
   obtain⟨D,E,a5,-⟩:=L.shape
   obtain⟨fc,bg,bk,F,G,bm,-⟩:=id ac
   simp at bg
   subst bg
   subst bm
   subst a5
   have c0:q.cell? ⟨w.heap.size,k*4,none⟩=some (.bool c.1):=ab y _ (by simpa using e0)
   have c1:q.cell? ⟨w.heap.size,k*4+1,none⟩=some (.slice D c.2.1.length E):=ab y _ (by simpa using e1)
   have c2:q.cell? ⟨w.heap.size,k*4+2,none⟩=some (.slice F c.2.2.1.length G):=ab y _ (by simpa using e2)
   have c3:q.cell? ⟨w.heap.size,k*4+3,none⟩=some (.int .i64 c.2.2.2):=ab y _ (by simpa using e3)
   obtain⟨t,T⟩:∃ t,t=q.alloc (.cells #[.bool c.1,.slice D c.2.1.length E,.slice F c.2.2.1.length G,.int .i64 c.2.2.2] 46):=⟨_,rfl⟩
   have U:Below q.heap.size q t:=by rw[T];exact (Below.refl _ _).alloc (Nat.le_refl _) _
   have bo:t.heap.size=q.heap.size+1:=by rw[T];simp
   have g5:t.heap[q.heap.size]?=some (.cells #[.bool c.1,.slice D c.2.1.length E,.slice F c.2.2.1.length G,.int .i64 c.2.2.2] 46 (0,0)):=by rw[T];exact af _ _
   have bp:t.heap[w.heap.size]?=some (.cells Z.toArray 46 (0,0)):=(U.block _ (lt_of_block y)).trans y
   have bq:Hid (ll B w.heap.size k l t):=HC.out.later I.out U
   have a4:Below w.heap.size w t:=Below.thenOf J.out.1 U J.out.1.size
   have ad:Hid (∀ b,Below w.heap.size w b->cH B b (.slice D c.2.1.length E) c.2.1->Calls Tryz.prog 109 #[.slice D c.2.1.length E] b λe M=>∃ v,e=.returned v/\cW b.heap.size M v c.2.1/\Below b.heap.size b M):=λb h h1=>(rR B _ c.2.1 b h1 (Nat.le_trans I.out h.size) s1 s2).mono λe M ⟨v,h2,ys,h3,h4,h5⟩=>⟨v,h2,nN h3 h4,h5⟩
   have a0:Hid (∀ b,Below w.heap.size w b->bG B b (.agg #[.slice F c.2.2.1.length G,.int .i64 c.2.2.2]) c.2.2->Calls Tryz.prog 110 #[.agg #[.slice F c.2.2.1.length G,.int .i64 c.2.2.2]] b λe M=>∃ v,e=.returned v/\aN b.heap.size M v c.2.2/\Below b.heap.size b M):=λb h h1=>mC B _ c.2.2 b h1 (Nat.le_trans I.out h.size) s3 s4
   have N:Hid (∀ b,Below w.heap.size t b->cH B b (.slice D c.2.1.length E) c.2.1/\bG B b (.agg #[.slice F c.2.2.1.length G,.int .i64 c.2.2.2]) c.2.2/\Below w.heap.size w b):=λb h=>by
    have hb:=(U.mono (by have:=J.out.1.size;omega)).trans h
    exact⟨L.later hb I.out,ac.later hb I.out,J.out.1.trans hb⟩
   have d:Hid (t.heap[q.heap.size]?=some (.cells #[.bool c.1,.slice D c.2.1.length E,.slice F c.2.2.1.length G,.int .i64 c.2.2.2] 46 (0,0))/\t.heap[w.heap.size]?=some (.cells Z.toArray 46 (0,0))/\Z.length=n*4/\w.heap.size<q.heap.size/\t.heap.size=q.heap.size+1/\Below w.heap.size w t):=⟨g5,bp,by rw[K,HN.out],by have:=J.out.2;omega,bo,a4⟩
   have O:=hid T
   have em:=hid bk
   have fn:=hid bd
   have fo:Hid (c=c):=rfl
   clear T U bo g5 bp a4 L ac bk e0 e1 e2 e3 e4 bf y K bd Y HC s1 s2 s3 s4 b8
   obtain⟨r,ao⟩:∃ r,r=c.2.1.length:=⟨_,rfl⟩
   obtain⟨A,av⟩:∃ A,A=c.2.2.1.length:=⟨_,rfl⟩
   obtain⟨H,b0⟩:∃ H,H=c.2.2.2:=⟨_,rfl⟩
   obtain⟨co,br⟩:∃ co,co=c.1:=⟨_,rfl⟩
   have V:Hid (c.2.1.length=r/\c.2.2.1.length=A/\c.2.2.2=H):=⟨ao.symm,av.symm,b0.symm⟩
   rw[<-ao] at ad N d O c1
   rw[<-av] at a0 N d O c2
   rw[<-b0] at a0 N d O c3
   rw[<-br] at d O c0
   clear ao av b0 br
   have b1:Nonempty (EI q.heap.size (.slice D r E) (.slice F A G) (.int .i64 H)):=⟨⟨t,ab d.out.1 1 rfl,ab d.out.1 2 rfl,ab d.out.1 3 rfl⟩⟩
   have C:Hid (∀ fs b,vY w.heap.size k Z t c fs b->∃ z:EI q.heap.size (.slice D r E) (.slice F A G) (.int .i64 H),b=z.1):=λfs b h=>by
    have g:=(h.keep q.heap.size d.out.2.2.2.1 (by rw[d.out.2.2.2.2.1];omega)).trans d.out.1
    exact⟨⟨b,ab g 1 rfl,ab g 2 rfl,ab g 3 rfl⟩,rfl⟩
   have q1:∀ z:EI q.heap.size (.slice D r E) (.slice F A G) (.int .i64 H),z.1.cell? ⟨q.heap.size,1,none⟩=some (.slice D r E):=λz=>z.2.1
   have q2:∀ z:EI q.heap.size (.slice D r E) (.slice F A G) (.int .i64 H),z.1.cell? ⟨q.heap.size,2,none⟩=some (.slice F A G):=λz=>z.2.2.1
   have q3:∀ z:EI q.heap.size (.slice D r E) (.slice F A G) (.int .i64 H),z.1.cell? ⟨q.heap.size,3,none⟩=some (.int .i64 H):=λz=>z.2.2.2
   obtain⟨S,hS⟩:∃ S:Nat->Value->Prop,S=λj v=>(j=6->∃ a c,v=.slice a r c)/\(j=9->∃ a c,v=.agg #[.slice a A c,.int .i64 H]):=⟨_,rfl⟩
   have bs:Hid (∀ v,S 6 v ↔ ∃ a c,v=.slice a r c):=λv=>by rw[hS];simp
   have bv:Hid (∀ v,S 9 v ↔ ∃ a c,v=.agg #[.slice a A c,.int .i64 H]):=λv=>by rw[hS];simp
   have bx:Hid (S 15 undef):=by unfold Hid;rw[hS];exact⟨λe=>absurd e (by decide),λe=>absurd e (by decide)⟩
   have c4:Hid (S 12 undef):=by unfold Hid;rw[hS];exact⟨λe=>absurd e (by decide),λe=>absurd e (by decide)⟩
   have dl:Hid (∀ j,∃ v,S j v):=λj=>by
    rw[hS]
    by_cases h9:j=9
    ·exact⟨.agg #[.slice none A 0,.int .i64 H],λe=>by omega,λ_=>⟨_,_,rfl⟩⟩
    ·exact⟨.slice none r 0,λ_=>⟨_,_,rfl⟩,λe=>absurd e h9⟩
   clear hS
   go_wp2_with fail
   rw[<-O.out]
   clear c0 c1 c2 c3 O
   refine ib (l:=[_,_,_,_,_,_,_,_,_,_,_,_,_,_,_,_]) (λk=>k==6||k==9||k==12||k==15) (vY w.heap.size k Z t c) S dl.out (by kernel_rfl) (by kernel_rfl) (vY.start d.out.2.1) ?_
   iterate 6 (refine aH C.out rfl rfl ?_;go_big_quiet_step (fail);refine wpQuiet_nil ?_)
   refine bu 109 #[.slice D r E] rfl rfl (λb=>by kernel_rfl) (λgs b p m o=>?_) (λv6 dp=>?_)
   ·obtain⟨t1,t2,t3⟩:=N.out b p.below
    refine (ad.out b t3 t1).mono ?_
    rintro e w4 ⟨v,rfl,s,hb⟩
    obtain⟨va,vc,ev⟩:=oJ s
    rw[V.out.1] at ev
    exact⟨_,rfl,(bs.out _).2 ⟨_,_,ev⟩,p.made (.inl rfl) o (lt_of_block d.out.2.1) hb (λ_=>s) (λe=>by cases e)⟩
   simp only[Act.put,List.setIfInBounds_toArray,List.set_cons_succ,List.set_cons_zero]
   obtain⟨a6,c6,rfl⟩:=(bs.out _).1 dp
   iterate 2 (refine aH C.out rfl rfl ?_;go_big_quiet_step (fail);refine wpQuiet_nil ?_)
   refine bu 110 #[.agg #[.slice F A G,.int .i64 H]] rfl rfl (λb=>by kernel_rfl) (λgs b p m o=>?_) (λv9 dr=>?_)
   ·obtain⟨t1,t2,t3⟩:=N.out b p.below
    refine (a0.out b t3 t2).mono ?_
    rintro e w4 ⟨v,rfl,s,hb⟩
    obtain⟨va,vc,ev⟩:=kD s
    rw[V.out.2.1,V.out.2.2] at ev
    exact⟨_,rfl,(bv.out _).2 ⟨_,_,ev⟩,p.made (.inr rfl) o (lt_of_block d.out.2.1) hb (λe=>by cases e) (λ_=>s)⟩
   simp only[Act.put,List.setIfInBounds_toArray,List.set_cons_succ,List.set_cons_zero]
   obtain⟨a9,c9,rfl⟩:=(bv.out _).1 dr
   iterate 2 (refine aH C.out rfl rfl ?_;go_big_quiet_step (fail);refine wpQuiet_nil ?_)
   refine eB rfl rfl (λgs b p m o=>?_) (λfx eu=>?_)
   ·have h6:=m 6 _ (.inl (.inr ⟨rfl,rfl⟩)) (zQ0 (by kernel_rfl))
    have h9:=m 9 _ (.inr ⟨rfl,rfl⟩) (zQ0 (by kernel_rfl))
    have f:=p.row0 o
    have K:=d.out.2.2.1
    obtain⟨u0,fT⟩:∃ u,b.cell? ⟨w.heap.size,k*4+1,none⟩=some u:=⟨Z[k*4+1]'(by omega),ab f _ (by simp)⟩
    have f0:b.frozen? ⟨w.heap.size,k*4+1,none⟩=false:=by simp[World.frozen?,f]
    refine⟨b.setCell ⟨w.heap.size,k*4+1,none⟩ (.slice a6 r c6),?_,c4.out,p.store o h6 h9 (lt_of_block d.out.2.1)⟩
    clear p m o q1 q2 q3 C b1 h6 h9 f K
    go_simp
   simp only[Act.put,List.setIfInBounds_toArray,List.set_cons_succ,List.set_cons_zero]
   iterate 2 (refine aH C.out rfl rfl ?_;go_big_quiet_step (fail);refine wpQuiet_nil ?_)
   refine eB rfl rfl (λgs b p m o=>?_) (λg0 eF=>?_)
   ·have h6:=m 6 _ (.inl (.inl (.inr ⟨rfl,rfl⟩))) (zQ0 (by kernel_rfl))
    have h9:=m 9 _ (.inl (.inr ⟨rfl,rfl⟩)) (zQ0 (by kernel_rfl))
    have b3:=m 12 _ (.inr ⟨rfl,rfl⟩) (zQ0 (by kernel_rfl))
    have f:=p.row1 _ _ b3 h6 o
    have K:=d.out.2.2.1
    obtain⟨u2,g2⟩:∃ u,b.cell? ⟨w.heap.size,k*4+2,none⟩=some u:=⟨(Z.set (k*4+1) (.slice a6 r c6))[k*4+2]'(by simp;omega),ab f _ (by simp)⟩
    obtain⟨u3,g4⟩:∃ u,b.cell? ⟨w.heap.size,k*4+3,none⟩=some u:=⟨(Z.set (k*4+1) (.slice a6 r c6))[k*4+3]'(by simp;omega),ab f _ (by simp)⟩
    have f2:b.frozen? ⟨w.heap.size,k*4+2,none⟩=false:=by simp[World.frozen?,f]
    have f3:b.frozen? ⟨w.heap.size,k*4+3,none⟩=false:=by simp[World.frozen?,f]
    refine⟨(b.setCell ⟨w.heap.size,k*4+2,none⟩ (.slice a9 A c9)).setCell ⟨w.heap.size,k*4+3,none⟩ (.int .i64 H),?_,bx.out,p.store2 o h6 h9 b3 (lt_of_block d.out.2.1)⟩
    clear p m o q1 q2 q3 C b1 h6 h9 b3 f K
    go_simp
   simp only[Act.put,List.setIfInBounds_toArray,List.set_cons_succ,List.set_cons_zero]
   refine dF ?_
   intro w8 p
   have L:=p.chs _ (.inl (.inl (.inl (.inr ⟨rfl,rfl⟩))))
   have c7:=p.pol _ (.inl (.inl (.inr ⟨rfl,rfl⟩)))
   have f:=p.row2 _ _ _ _ (.inr ⟨rfl,rfl⟩) (.inl (.inl (.inl (.inr ⟨rfl,rfl⟩)))) (.inl (.inl (.inr ⟨rfl,rfl⟩)))
   have dv:=lt_of_block d.out.2.1
   have e6:=p.below.size
   have c8:Hid (ll B w.heap.size (k+1) l w8/\Below w.heap.size w w8/\w.heap.size+1<=w8.heap.size):=by
    refine⟨ll.put (lv:=.slice a6 r c6) (rv:=.slice a9 A c9) bq.out I.out dc.out p.below p.keep (λys ca=>?_) rfl rfl ?_ ?_,d.out.2.2.2.2.2.trans p.below,by omega⟩
    ·rw[d.out.2.1] at ca
     have:Z=ys:=by simpa using ca
     subst this
     rw[f,V.out.2.2]
    ·exact L.keep (by omega) (λ_ _ _=>rfl) (Nat.le_refl _)
    ·rw[V.out.2.2]
     exact c7.keep (by omega) (λ_ _ _=>rfl) (Nat.le_refl _)
   clear p L c7 f dv e6 q1 q2 q3 C b1 ad a0 N d bq
   go_wp2_with fail
   exact⟨⟨k+1,by omega,by go_num,c8.out.1,c8.out.2⟩,by simp[intOf];omega⟩
  ·have e:k=n:=by omega
   subst e
   have k1:¬((k:Int)<(k:Int)):=by omega
   go_wp2_with fail
   go_ret
   exact⟨rfl,HC.out,J.out.1⟩
end Go.Proofs.YtnpdhopjpjickaaGreatDoor
end
section
set_option linter.all false
set_option maxRecDepth 100000
namespace Go.Proofs.YtnpdhopjpjickaaGreatDoor
open Go.RowKit Go.Maps
set_option maxHeartbeats 4000000 in
theorem uS (B:Nat) (a:Option Addr) (n:Nat) (o:Option Addr) (p q:Nat) (l:List ay) (y z:Nat) (j:List ai) (d:Int) (w:World) (Q:bl B w (.slice a 4 n) l) (J:bG B w (.agg #[.slice o p q,.int .i64 d]) (j,d)) (A:B<=w.heap.size):
  Calls Tryz.prog 127 #[.slice a 4 n,.agg #[.int .i64 1,.int .i64 y,.int .i64 z,.slice o p q,.int .i64 d]] w λe K=>∃ v,e=.returned (.tuple #[v,.int .i64 (f8 (j,d)).2])/\bO w.heap.size K v (f8 (j,d)).1/\Below w.heap.size w K:=by
 obtain⟨c,b⟩:∃ c,c=(w.alloc (.cells #[.int .i64 1,.int .i64 y,.int .i64 z,.slice o p q,.int .i64 d] 78)).alloc (.cells #[.bool false,.slice none 0 0,.slice none 0 0,.int .i64 0] 46):=⟨_,rfl⟩
 have f:Below w.heap.size w c:=by rw[b];exact ((Below.refl _ _).alloc (Nat.le_refl _) _).alloc (by simp) _
 have r:c.heap.size=w.heap.size+1+1:=by rw[b];simp
 have R:c.heap[w.heap.size]?=some (.cells #[.int .i64 1,.int .i64 y,.int .i64 z,.slice o p q,.int .i64 d] 78 (0,0)):=by rw[b];exact bM _ (bE _ _ rfl)
 have M:c.heap[w.heap.size+1]?=some (.cells #[.bool false,.slice none 0 0,.slice none 0 0,.int .i64 0] 46 (0,0)):=by rw[b];exact bE _ _ (by simp only[World.size_alloc])
 have C:=hid b
 have D:=hid r
 have k:=hid f
 have h:=hid M
 have s:Hid (Calls Tryz.prog 153 #[.agg #[.slice o p q,.int .i64 d]] c λe t=>∃ v,e=.returned (.tuple #[v,.int .i64 (f8 (j,d)).2])/\bO c.heap.size t v (f8 (j,d)).1/\Below c.heap.size c t):=qW B _ (j,d) c (J.later f A) (Nat.le_trans A f.size)
 clear Q J b R M f r A
 generalize (f8 (j,d)).2=S at*
 generalize (f8 (j,d)).1=x at*
 go_enter Tryz.func127,Tryz.ntmps127
 go_wp2_with fail
 rw[<-C.out]
 go_at_call 153
 refine Calls.mono s.out ?_
 rintro e N ⟨v,rfl,m,i⟩
 clear s
 obtain⟨E,F,G,H,O,T,U⟩:=id m
 have u:=hid m
 obtain⟨Z,z1,z2,z3,f0,f1,f2,f3⟩:=am ((i.block _ (lt_of_block h.out)).trans h.out)
 have I:Hid (Below w.heap.size w N):=Below.thenOf k.out i k.out.size
 have P:w.heap.size+1<N.heap.size:=Nat.lt_of_lt_of_le (lt_of_block h.out) i.size
 rw[O] at u |-
 clear O T U m i h
 generalize (x).1=V at*
 generalize (x).2.1.length=W at*
 generalize (x).2.2.1.length=X at*
 generalize (x).2.2.2=Y at*
 go_wp2_with fail
 refine bodyPost_ret (v:=.tuple #[.agg #[.bool V,.slice E W F,.slice G X H,.int .i64 Y],.int .i64 S]) ?_ rfl ⟨_,rfl,?_,?_⟩
 ·rw[results_cell_tmp rfl]
  go_simp
 ·refine bO.keep (L:=c.heap.size) ?_ k.out.size (λg _ _=>rfl) (Nat.le_refl _)
  repeat (first | refine bO.put ?_ (.inl (by rw[D.out];omega)) | exact u.out)
 ·repeat (first | refine Below.setCell ?_ (by show w.heap.size<=w.heap.size+1;omega) _ | exact I.out)
set_option maxHeartbeats 4000000 in
theorem vB (B:Nat) (a:Option Addr) (u:Nat) (F:Option Addr) (G H:Nat) (l:List ay) (I n:Nat) (rs:List ai) (d:Int) (w:World) (U:bl B w (.slice a 4 u) l) (p:l.length=4) (J:B<=w.heap.size) (fo:Bool) (K:gf) (h:List ai) (i:Int) (q:l[n]?=some (fo,K,h,i)):
  Calls Tryz.prog 127 #[.slice a 4 u,.agg #[.int .i64 3,.int .i64 I,.int .i64 n,.slice F G H,.int .i64 d]] w λe V=>∃ v,e=.returned (.tuple #[v,.int .i64 (f8 (h,i)).2])/\bO w.heap.size V v (f8 (h,i)).1/\Below w.heap.size w V:=by
 obtain⟨f,c⟩:∃ f,f=(w.alloc (.cells #[.int .i64 3,.int .i64 I,.int .i64 n,.slice F G H,.int .i64 d] 78)).alloc (.cells #[.bool false,.slice none 0 0,.slice none 0 0,.int .i64 0] 46):=⟨_,rfl⟩
 have j:Below w.heap.size w f:=by rw[c];exact ((Below.refl _ _).alloc (Nat.le_refl _) _).alloc (by simp) _
 have x:f.heap.size=w.heap.size+1+1:=by rw[c];simp
 have g0:f.heap[w.heap.size]?=some (.cells #[.int .i64 3,.int .i64 I,.int .i64 n,.slice F G H,.int .i64 d] 78 (0,0)):=by rw[c];exact bM _ (bE _ _ rfl)
 have W:f.heap[w.heap.size+1]?=some (.cells #[.bool false,.slice none 0 0,.slice none 0 0,.int .i64 0] 46 (0,0)):=by rw[c];exact bE _ _ (by simp only[World.size_alloc])
 have M:=hid c
 have N:=hid x
 have r:=hid j
 have k:=hid W
 have a7:n<4:=by
  have:=(List.getElem?_eq_some_iff.1 q).1
  omega
 have X:(n:Int)<4:=by omega
 have Y:(0:Int)<=(n:Int):=by omega
 obtain⟨_,_,Z,O,-,y⟩:=id U
 obtain⟨b,o,e,a8,z⟩:=y n _ q
 simp at Z
 obtain⟨rfl,-,rfl⟩:=Z
 subst e
 obtain⟨la,lc,pa,pc,c0,c1,c2,c3,-,s⟩:=z.vals
 rw[p] at O
 simp only at c2 c3 s
 have ak:b<w.heap.size:=by omega
 have A:Hid (Calls Tryz.prog 153 #[.agg #[.slice pa h.length pc,.int .i64 i]] f λe C=>∃ v,e=.returned (.tuple #[v,.int .i64 (f8 (h,i)).2])/\bO f.heap.size C v (f8 (h,i)).1/\Below f.heap.size f C):=qW B _ (h,i) f (s.later j J) (Nat.le_trans J j.size)
 clear U s z y c g0 W j x J q p c0 c1
 generalize h.length=fn at*
 generalize (f8 (h,i)).2=ee at*
 generalize (f8 (h,i)).1=E at*
 go_enter Tryz.func127,Tryz.ntmps127
 go_wp2_with fail
 rw[<-M.out]
 go_at_call 153
 refine Calls.mono A.out ?_
 rintro e w3 ⟨v,rfl,t,m⟩
 clear A c2 c3
 obtain⟨P,Q,R,S,ev,h1,h2⟩:=id t
 have D:=hid t
 obtain⟨z0,z1,z2,z3,f0,f1,f2,f3⟩:=am ((m.block _ (lt_of_block k.out)).trans k.out)
 have T:Hid (Below w.heap.size w w3):=Below.thenOf r.out m r.out.size
 have a4:w.heap.size+1<w3.heap.size:=Nat.lt_of_lt_of_le (lt_of_block k.out) m.size
 rw[ev] at D |-
 clear ev h1 h2 t m k
 generalize (E).1=b5 at*
 generalize (E).2.1.length=n5 at*
 generalize (E).2.2.1.length=m5 at*
 generalize (E).2.2.2=d5 at*
 go_wp2_with fail
 refine bodyPost_ret (v:=.tuple #[.agg #[.bool b5,.slice P n5 Q,.slice R m5 S,.int .i64 d5],.int .i64 ee]) ?_ rfl ⟨_,rfl,?_,?_⟩
 ·rw[results_cell_tmp rfl]
  go_simp
 ·refine bO.keep (L:=f.heap.size) ?_ r.out.size (λg _ _=>rfl) (Nat.le_refl _)
  repeat (first | refine bO.put ?_ (.inl (by rw[N.out];omega)) | exact D.out)
 ·repeat (first | refine Below.setCell ?_ (by show w.heap.size<=w.heap.size+1;omega) _ | exact T.out)
set_option maxHeartbeats 4000000 in
theorem uC (B:Nat) (a:Option Addr) (b:Nat) (c:Option Addr) (f g:Nat) (l:List ay) (h i:Nat) (n:List ai) (d:Int) (w:World) (k:bl B w (.slice a 4 b) l):
  Calls Tryz.prog 127 #[.slice a 4 b,.agg #[.int .i64 4,.int .i64 h,.int .i64 i,.slice c f g,.int .i64 d]] w λe j=>∃ v,e=.returned (.tuple #[v,.int .i64 0])/\bO w.heap.size j v aV/\Below w.heap.size w j:=by
 have m:Hid (Below w.heap.size w ((w.alloc (.cells #[.int .i64 4,.int .i64 h,.int .i64 i,.slice c f g,.int .i64 d] 78)).alloc (.cells #[.bool false,.slice none 0 0,.slice none 0 0,.int .i64 0] 46))):=((Below.refl _ _).alloc (Nat.le_refl _) _).alloc (by simp) _
 clear k
 go_enter Tryz.func127,Tryz.ntmps127
 go_wp2_with fail
 refine bodyPost_ret (v:=.tuple #[.agg #[.bool false,.slice none 0 0,.slice none 0 0,.int .i64 0],.int .i64 0]) ?_ rfl ⟨_,rfl,kz _ _,?_⟩
 ·rw[results_cell_tmp rfl]
  go_simp
 ·repeat (first | exact m.out | refine Below.setCell ?_ (by show w.heap.size<=w.heap.size+1;omega) _ | exact Below.refl _ _ | refine Below.alloc ?_ (by simp) _)
def EO (a:Nat) (W:World) (E:Int) (C:ay) (c:Nat->Value->Prop) (w:World):Prop:=
 ((∀ u,¬c 10 u)/\Below W.heap.size W w/\∀ v,c 7 v->∃ u,v=.tuple #[u,.int .i64 E]/\bO W.heap.size w u C)\/
 ((∃ u,c 10 u)/\(∃ u,c 7 u)/\∃ e b f n g h m i d,w=(((e.setCell ⟨a,0,none⟩ (.bool b)).setCell ⟨a,1,none⟩ (.slice f n g)).setCell ⟨a,2,none⟩ (.slice h m i)).setCell ⟨a,3,none⟩ (.int .i64 d)/\Below W.heap.size W e/\bO W.heap.size e (.agg #[.bool b,.slice f n g,.slice h m i,.int .i64 d]) C)
theorem EO.box {e:Nat} {W w:World} {E:Int} {C:ay} {g:Nat->Value->Prop} (h:EO e W E C g w) {b:Nat} {o:Obj} (c:W.heap[b]?=some o) (a:b≠e):w.heap[b]?=some o:=by
 have f:=(Array.getElem?_eq_some_iff.1 c).1
 rcases h with ⟨_,d,_⟩ | ⟨_,_,i,_,_,_,_,_,_,_,_,rfl,d,_⟩
 ·exact (d.block b f).trans c
 ·exact ((((Below.heap_setCell _ _ _ _ a).trans (Below.heap_setCell _ _ _ _ a)).trans (Below.heap_setCell _ _ _ _ a)).trans (Below.heap_setCell _ _ _ _ a)).trans ((d.block b f).trans c)
def EZ (E:Int) (k:Nat) (v:Value):Prop:=k=7->∃ b a n c e m f d,v=.tuple #[.agg #[.bool b,.slice a n c,.slice e m f,.int .i64 d],.int .i64 E]
theorem CJ (E:Int) (k:Nat):∃ v,EZ E k v:=⟨.tuple #[.agg #[.bool true,.slice none 0 0,.slice none 0 0,.int .i64 0],.int .i64 E],λ_=>⟨_,_,_,_,_,_,_,_,rfl⟩⟩
def CY (r b o:Nat) (u1 u3 a c d e f:Value):Type:={ w':World // (w'.cell? ⟨r,1,none⟩=some u1/\w'.cell? ⟨r,3,none⟩=some u3/\w'.cell? ⟨r,4,none⟩=some a)/\w'.cell? ⟨b,o,none⟩=some c/\w'.cell? ⟨b,o+1,none⟩=some d/\w'.cell? ⟨b,o+2,none⟩=some e/\w'.cell? ⟨b,o+3,none⟩=some f }
set_option maxHeartbeats 4000000 in
theorem tf (B:Nat) (a:Option Addr) (a3:Nat) (j:Option Addr) (m n:Nat) (l:List ay) (f fi:Nat) (r:List ai) (d:Int) (w:World) (hl:bl B w (.slice a 4 a3) l) (hp:bG B w (.agg #[.slice j m n,.int .i64 d]) (r,d)) (Q:l.length=4) (hB:B<=w.heap.size) (a4:ae (r,d)=0) (c:ay) (S:l[f]?=some c):
  Calls Tryz.prog 127 #[.slice a 4 a3,.agg #[.int .i64 2,.int .i64 f,.int .i64 fi,.slice j m n,.int .i64 d]] w λe i=>∃ v,e=.returned (.tuple #[v,.int .i64 (dm c.2.1 c.2.2 (r,d))])/\bO w.heap.size i v (if dm c.2.1 c.2.2 (r,d)=0 then (true,eC c.2.1 c.2.2 (r,d),r,d) else aV)/\Below w.heap.size w i:=by
 obtain⟨C,s⟩:∃ C,C=(w.alloc (.cells #[.int .i64 2,.int .i64 f,.int .i64 fi,.slice j m n,.int .i64 d] 78)).alloc (.cells #[.bool false,.slice none 0 0,.slice none 0 0,.int .i64 0] 46):=⟨_,rfl⟩
 have T:Below w.heap.size w C:=by rw[s];exact ((Below.refl _ _).alloc (Nat.le_refl _) _).alloc (by simp) _
 have a5:C.heap.size=w.heap.size+1+1:=by rw[s];simp
 have g0:C.heap[w.heap.size]?=some (.cells #[.int .i64 2,.int .i64 f,.int .i64 fi,.slice j m n,.int .i64 d] 78 (0,0)):=by rw[s];exact bM _ (bE _ _ rfl)
 have g1:C.heap[w.heap.size+1]?=some (.cells #[.bool false,.slice none 0 0,.slice none 0 0,.int .i64 0] 46 (0,0)):=by rw[s];exact bE _ _ (by simp only[World.size_alloc])
 have b4:=hid s
 have b7:=hid a5
 have I:=hid T
 have dp:f<4:=by
  have:=(List.getElem?_eq_some_iff.1 S).1
  omega
 have ca:(f:Int)<4:=by omega
 have ce:(0:Int)<=(f:Int):=by omega
 obtain⟨_,_,e1,b8,-,a6⟩:=id hl
 obtain⟨b,o,e,dq,a7⟩:=a6 f _ S
 simp at e1
 obtain⟨rfl,-,rfl⟩:=e1
 subst e
 obtain⟨t,x,y,A,c0,c1,c2,c3,a8⟩:=a7.val
 rw[Q] at b8
 have a9:b<w.heap.size:=by omega
 have aa:Hid (∀ i,Below w.heap.size w i->Calls Tryz.prog 154 #[.agg #[.bool c.1,.slice t c.2.1.length x,.slice y c.2.2.1.length A,.int .i64 c.2.2.2],.agg #[.slice j m n,.int .i64 d]] i λe ac=>∃ v,e=.returned (.tuple #[v,.int .i64 (dm c.2.1 c.2.2 (r,d))])/\bO i.heap.size ac v (if dm c.2.1 c.2.2 (r,d)=0 then (true,eC c.2.1 c.2.2 (r,d),r,d) else aV)/\Below i.heap.size i ac):=λi h=>vo B _ _ c (r,d) i (a8.later h hB) (hp.later h hB) (Nat.le_trans hB h.size) a4
 clear hl hp a7 a6 hB Q a8 S a4
 generalize (if dm c.2.1 c.2.2 (r,d)=0 then (true,eC c.2.1 c.2.2 (r,d),r,d) else aV)=C5 at*
 generalize dm c.2.1 c.2.2 (r,d)=ee at*
 generalize c.2.1.length=D at*
 generalize c.2.2.1.length=E at*
 generalize c.2.2.2=F at*
 generalize c.1=G at*
 have ak:b≠w.heap.size+1:=by omega
 have HD:Hid (∀ i:World,(∀ k o,C.heap[k]?=some o->k≠w.heap.size+1->i.heap[k]?=some o)->∃ z:CY w.heap.size b (o+f*4) (.int .i64 f) (.slice j m n) (.int .i64 d) (.bool G) (.slice t D x) (.slice y E A) (.int .i64 F),i=z.1):=λi h=>by
  have r0:=h _ _ g0 (by omega)
  have cc:∀ q u,w.cell? ⟨b,q,none⟩=some u->i.cell? ⟨b,q,none⟩=some u:=λq u N=>by
   have bc:C.heap[b]?=w.heap[b]?:=T.block b a9
   obtain⟨ob,ao⟩:∃ ob,w.heap[b]?=some ob:=⟨w.heap[b]'a9,by simp⟩
   have bf:=h b ob (bc.trans ao) ak
   rw[<-N]
   simp only[World.cell?,bf,ao]
  exact⟨⟨i,⟨ab r0 1 rfl,ab r0 3 rfl,ab r0 4 rfl⟩,cc _ _ c0,cc _ _ c1,cc _ _ c2,cc _ _ c3⟩,rfl⟩
 have O:Hid (∀ fs i,EO (w.heap.size+1) C ee C5 fs i->∃ z:CY w.heap.size b (o+f*4) (.int .i64 f) (.slice j m n) (.int .i64 d) (.bool G) (.slice t D x) (.slice y E A) (.int .i64 F),i=z.1):=λfs i h=>HD.out i λk o hk P=>h.box hk P
 obtain⟨z0,-⟩:=HD.out C λk o h _=>h
 have P:Nonempty (CY w.heap.size b (o+f*4) (.int .i64 f) (.slice j m n) (.int .i64 d) (.bool G) (.slice t D x) (.slice y E A) (.int .i64 F)):=⟨z0⟩
 have q1:∀ z:CY w.heap.size b (o+f*4) (.int .i64 f) (.slice j m n) (.int .i64 d) (.bool G) (.slice t D x) (.slice y E A) (.int .i64 F),z.1.cell? ⟨w.heap.size,1,none⟩=some (.int .i64 f):=λz=>z.2.1.1
 have q2:∀ z:CY w.heap.size b (o+f*4) (.int .i64 f) (.slice j m n) (.int .i64 d) (.bool G) (.slice t D x) (.slice y E A) (.int .i64 F),z.1.cell? ⟨w.heap.size,3,none⟩=some (.slice j m n):=λz=>z.2.1.2.1
 have q3:∀ z:CY w.heap.size b (o+f*4) (.int .i64 f) (.slice j m n) (.int .i64 d) (.bool G) (.slice t D x) (.slice y E A) (.int .i64 F),z.1.cell? ⟨w.heap.size,4,none⟩=some (.int .i64 d):=λz=>z.2.1.2.2
 have q4:∀ z:CY w.heap.size b (o+f*4) (.int .i64 f) (.slice j m n) (.int .i64 d) (.bool G) (.slice t D x) (.slice y E A) (.int .i64 F),z.1.cell? ⟨b,o+f*4,none⟩=some (.bool G):=λz=>z.2.2.1
 have q5:∀ z:CY w.heap.size b (o+f*4) (.int .i64 f) (.slice j m n) (.int .i64 d) (.bool G) (.slice t D x) (.slice y E A) (.int .i64 F),z.1.cell? ⟨b,o+f*4+1,none⟩=some (.slice t D x):=λz=>z.2.2.2.1
 have q6:∀ z:CY w.heap.size b (o+f*4) (.int .i64 f) (.slice j m n) (.int .i64 d) (.bool G) (.slice t D x) (.slice y E A) (.int .i64 F),z.1.cell? ⟨b,o+f*4+2,none⟩=some (.slice y E A):=λz=>z.2.2.2.2.1
 have q7:∀ z:CY w.heap.size b (o+f*4) (.int .i64 f) (.slice j m n) (.int .i64 d) (.bool G) (.slice t D x) (.slice y E A) (.int .i64 F),z.1.cell? ⟨b,o+f*4+3,none⟩=some (.int .i64 F):=λz=>z.2.2.2.2.2
 have J:=hid g1
 clear s g0 g1 T a5 c0 c1 c2 c3 ak HD z0
 go_enter Tryz.func127,Tryz.ntmps127
 go_wp2_with fail
 rw[<-b4.out]
 refine bh [_,_,_,_,_,_,_,_,_,_,_] _ rfl (λk=>k==7||k==10) (EO (w.heap.size+1) C ee C5) (EZ ee) (CJ ee) (by kernel_rfl) (by kernel_rfl) (.inl ⟨λ_ h=>h,(Below.refl _ _).drew,λ_ h=>h.elim⟩) ?_
 iterate 7 (refine aH O.out rfl rfl ?_;go_big_quiet_step (fail);refine wpQuiet_nil ?_)
 refine bu 154 #[.agg #[.bool G,.slice t D x,.slice y E A,.int .i64 F],.agg #[.slice j m n,.int .i64 d]] rfl rfl (λi=>by kernel_rfl) (λgs i hJ K M=>?_) (λv7 bg=>?_)
 ·rcases hJ with ⟨j1,H,j3⟩ | ⟨_,⟨u,N⟩,_⟩
  ·refine (aa.out i (Below.thenOf I.out H I.out.size)).mono ?_
   rintro e w4 ⟨v,rfl,p,hb⟩
   obtain⟨U,V,W,X,ev,-,-⟩:=id p
   refine⟨_,rfl,λ_=>⟨_,_,_,_,_,_,_,_,by rw[ev]⟩,.inl ⟨λu N=>?_,Below.thenOf H hb H.size,λv' Y=>?_⟩⟩
   ·rcases N with N | ⟨e,_⟩
    ·exact j1 u N
    ·cases e
   ·rcases Y with Y | ⟨_,rfl⟩
    ·exact absurd Y (M _)
    ·exact⟨v,rfl,p.keep H.size (λ_ _ _=>rfl) (Nat.le_refl _)⟩
  ·exact absurd N (M _)
 simp only[Act.put,List.setIfInBounds_toArray,List.set_cons_succ,List.set_cons_zero]
 obtain⟨b5,U,n5,V,W,m5,X,d5,rfl⟩:=bg rfl
 iterate 2 (refine aH O.out rfl rfl ?_;go_big_quiet_step (fail);refine wpQuiet_nil ?_)
 refine eB rfl rfl (λgs i hJ K M=>?_) (λbo dk=>?_)
 ·have h7:=K 7 _ (.inr ⟨rfl,rfl⟩) (zQ0 (by kernel_rfl))
  rcases hJ with ⟨j1,H,j3⟩ | ⟨⟨u,N⟩,_⟩
  ·obtain⟨u,eu,p⟩:=j3 _ h7
   simp at eu
   subst eu
   obtain⟨y0,y1,y2,y3,f0,f1,f2,f3⟩:=am ((H.block _ (lt_of_block J.out)).trans J.out)
   refine⟨(((i.setCell ⟨w.heap.size+1,0,none⟩ (.bool b5)).setCell ⟨w.heap.size+1,1,none⟩ (.slice U n5 V)).setCell ⟨w.heap.size+1,2,none⟩ (.slice W m5 X)).setCell ⟨w.heap.size+1,3,none⟩ (.int .i64 d5),?_,λe=>absurd e (by decide),.inr ⟨⟨_,.inr ⟨rfl,rfl⟩⟩,⟨_,.inl h7⟩,i,b5,U,n5,V,W,m5,X,d5,rfl,H,p⟩⟩
   clear K M O P h7 p j1 H j3 q1 q2 q3 q4 q5 q6 q7
   go_simp
  ·exact absurd N (M _)
 simp only[Act.put,List.setIfInBounds_toArray,List.set_cons_succ,List.set_cons_zero]
 refine dF ?_
 intro w4 hJ
 rcases hJ with ⟨j1,_⟩ | ⟨_,_,w0,b6,Z,n6,a0,a1,m6,a2,d6,e4,H,p⟩
 ·exact absurd (.inr ⟨rfl,rfl⟩) (j1 bo)
 ·obtain⟨k0,-,k2,k3⟩:=jg (u0:=.bool b6) (u1:=.slice Z n6 a0) (u2:=.slice a1 m6 a2) (u3:=.int .i64 d6) ((H.block _ (lt_of_block J.out)).trans J.out)
  rw[<-e4] at k0 k2 k3
  obtain⟨y0,y1,y2,y3,-⟩:=am k0
  have R:Hid (bO w.heap.size w4 (.agg #[.bool b6,.slice Z n6 a0,.slice a1 m6 a2,.int .i64 d6]) C5/\Below w.heap.size w w4):=by
   refine⟨?_,(Below.thenOf I.out H I.out.size).trans (k3 _ (by omega))⟩
   refine bO.keep (L:=C.heap.size) ?_ I.out.size (λg _ _=>rfl) (Nat.le_refl _)
   rw[e4]
   repeat (first | refine bO.put ?_ (.inl (by rw[b7.out];omega)) | exact p)
  clear e4 H p k0 k2 k3 q1 q2 q3 q4 q5 q6 q7 O P aa J
  go_wp2_with fail
  refine bodyPost_ret (v:=.tuple #[.agg #[.bool b6,.slice Z n6 a0,.slice a1 m6 a2,.int .i64 d6],.int .i64 ee]) ?_ rfl ⟨_,rfl,R.out.1,R.out.2⟩
  rw[results_cell_tmp rfl]
  go_simp
end Go.Proofs.YtnpdhopjpjickaaGreatDoor
end
section
set_option linter.all false
set_option maxRecDepth 100000
namespace Go.Proofs.YtnpdhopjpjickaaGreatDoor
open Go.RowKit Go.Maps
theorem nG {k:Int} (a:k=1\/k=2\/k=3\/k=4) (w:World):Calls Tryz.prog 126 #[.int .i64 k] w λe b=>e=.returned (.bool (decide (k=1\/k=3)))/\b=w:=by
 rcases a with rfl | rfl | rfl | rfl
 all_goals
  go_enter Tryz.func126,Tryz.ntmps126
  go_wp2
  go_ret
  exact⟨by simp,rfl⟩
set_option maxHeartbeats 1000000 in
theorem gq (B m:Nat) (a:Option Addr) (g:Nat) (l:List ay) (f:Nat) (c:ay) (w:World) (r:bl B w (.slice a 4 g) l) (d:l.length=4) (j:l[f]?=some c) (v:w.cell? ⟨m,0,none⟩=some (.slice a 4 g)):
  Calls Tryz.prog 125 #[.int .i64 f,.pointer (some ⟨m,0,none⟩)] w λe s=>e=.returned (.bool c.1)/\s=w:=by
 have t:f<4:=by
  have:=(List.getElem?_eq_some_iff.1 j).1
  omega
 have n:(f:Int)<4:=by omega
 have p:(0:Int)<=(f:Int):=by omega
 obtain⟨_,_,q,k,-,h⟩:=r
 obtain⟨b,o,e,u,i⟩:=h f _ j
 simp at q
 obtain⟨rfl,-,rfl⟩:=q
 subst e
 obtain⟨x,y,z,A,C,-⟩:=i.vals
 rw[d] at k
 clear h i j d
 generalize c.1=D at*
 go_enter Tryz.func125,Tryz.ntmps125
 go_wp2_with fail
 go_ret
 exact⟨rfl,rfl⟩
set_option maxHeartbeats 4000000 in
theorem Ay (B:Nat) (lv rv:Value) (l:List ay) (r:al) (w:World) (u:bl B w lv l) (x:cV B w rv r) (n:B<=w.heap.size) (c:cB l≠0\/bF r≠0):
  Calls Tryz.prog 101 #[lv,rv] w λe b=>∃ v,e=.returned (.tuple #[v,.int .i64 (if cB l=0 then bF r else cB l)])/\qJ w.heap.size b v []/\Below w.heap.size w b:=by
 have y:Hid (∀ b,Below w.heap.size w b->Calls Tryz.prog 123 #[lv] b λe j=>e=.returned (.int .i64 (cB l))/\Below b.heap.size b j):=λb h=>jw B _ l b (u.later h n) (Nat.le_trans n h.size)
 have E:Hid (∀ b,Below w.heap.size w b->Calls Tryz.prog 124 #[rv] b λe j=>e=.returned (.int .i64 (bF r))/\Below b.heap.size b j):=λb h=>gZ B _ r b (x.later h n) (Nat.le_trans n h.size)
 obtain⟨a,z,rfl,-,-⟩:=u.shape
 obtain⟨F,G,rfl,-⟩:=x.shape
 clear u x
 generalize cB l=H at*
 generalize bF r=I at*
 generalize l.length=N at*
 generalize r.2.2.2.1.length=J at*
 generalize r.2.2.2.2=d at*
 generalize r.2.2.1=K at*
 generalize r.2.1=L at*
 generalize r.1=k at*
 obtain⟨t,f⟩:∃ t,t=(w.alloc (.cells #[.slice a N z] 22)).alloc (.cells #[.int .i64 k,.int .i64 L,.int .i64 K,.slice F J G,.int .i64 d] 78):=⟨_,rfl⟩
 have o:Below w.heap.size w t:=by rw[f];exact ((Below.refl _ _).alloc (Nat.le_refl _) _).alloc (by simp) _
 have M:t.heap[w.heap.size+1]?=some (.cells #[.int .i64 k,.int .i64 L,.int .i64 K,.slice F J G,.int .i64 d] 78 (0,0)):=by rw[f];exact bE _ _ (by simp only[World.size_alloc])
 have A:=hid f
 have m:=hid o
 have p:=hid M
 clear f o M n
 go_enter Tryz.func101,Tryz.ntmps101
 go_wp2_with fail
 rw[<-A.out]
 go_at_call 123
 refine Calls.mono (y.out _ m.out) ?_
 rintro e O ⟨rfl,g⟩
 have i:Hid (Below w.heap.size w O):=Below.thenOf m.out g m.out.size
 by_cases h:H=0
 ·subst h
  have q:I≠0:=by simpa using c
  have P:(I != 0)=true:=by simpa using q
  obtain⟨Q,R,S,T,U⟩:=bw ((g.block _ (lt_of_block p.out)).trans p.out)
  clear g y c q
  go_wp2_with fail
  go_at_call 124
  refine Calls.mono (E.out _ i.out) ?_
  rintro e V ⟨rfl,s⟩
  have C:Hid (Below w.heap.size w V):=Below.thenOf i.out s i.out.size
  clear s Q R S T U
  go_wp2_with fail
  go_ret2
  exact⟨_,rfl,ig _ _,C.out⟩
 ·have P:(H != 0)=true:=by simpa using h
  have D:=hid h
  clear c h g E y
  go_wp2_with fail
  go_ret2
  exact⟨_,by simp[D.out],ig _ _,i.out⟩
set_option maxHeartbeats 4000000 in
theorem zv (B:Nat) (a:Option Addr) (g:Nat) (I:Option Addr) (J K:Nat) (l:List ay) (k:Int) (j o:Nat) (rs:List ai) (d:Int) (w:World) (W:bl B w (.slice a 4 g) l) (hr:cV B w (.agg #[.int .i64 k,.int .i64 j,.int .i64 o,.slice I J K,.int .i64 d]) (k,(j:Int),(o:Int),rs,d)) (x:B<=w.heap.size) (D:cB l=0) (M:bF (k,(j:Int),(o:Int),rs,d)=0) (N:k=1\/k=2\/k=3\/k=4) (c:ay) (E:l[j]?=some c) (X:ay) (O:l[o]?=some X) (p:decide (k=1\/k=3)=c.1):
  Calls Tryz.prog 101 #[.slice a 4 g,.agg #[.int .i64 k,.int .i64 j,.int .i64 o,.slice I J K,.int .i64 d]] w λe b=>∃ v,e=.returned (.tuple #[v,.int .i64 6])/\qJ w.heap.size b v []/\Below w.heap.size w b:=by
 have y:Hid (l.length=4):=(gu.1 D).1
 have HC:Hid (∀ b,Below w.heap.size w b->Calls Tryz.prog 123 #[.slice a 4 g] b λe f=>e=.returned (.int .i64 0)/\Below b.heap.size b f):=λb h=>by
  have:=jw B _ l b (W.later h x) (Nat.le_trans x h.size)
  rw[D] at this
  exact this
 have HR:Hid (∀ b,Below w.heap.size w b->Calls Tryz.prog 124 #[.agg #[.int .i64 k,.int .i64 j,.int .i64 o,.slice I J K,.int .i64 d]] b λe f=>e=.returned (.int .i64 0)/\Below b.heap.size b f):=λb h=>by
  have:=gZ B _ _ b (hr.later h x) (Nat.le_trans x h.size)
  rw[M] at this
  exact this
 have P:Hid (∀ b s,Below w.heap.size w b->b.cell? ⟨s,0,none⟩=some (.slice a 4 g)->Calls Tryz.prog 125 #[.int .i64 j,.pointer (some ⟨s,0,none⟩)] b λe f=>e=.returned (.bool c.1)/\f=b):=λb s h Y=>gq B s a g l j c b (W.later h x) y.out E Y
 have Z:Hid (∀ b s,Below w.heap.size w b->b.cell? ⟨s,0,none⟩=some (.slice a 4 g)->Calls Tryz.prog 125 #[.int .i64 o,.pointer (some ⟨s,0,none⟩)] b λe f=>e=.returned (.bool X.1)/\f=b):=λb s h Y=>gq B s a g l o X b (W.later h x) y.out O Y
 have F:Hid (∀ b,Calls Tryz.prog 126 #[.int .i64 k] b λe f=>e=.returned (.bool (decide (k=1\/k=3)))/\f=b):=λb=>nG N b
 obtain⟨i,m⟩:∃ i,i=(w.alloc (.cells #[.slice a 4 g] 22)).alloc (.cells #[.int .i64 k,.int .i64 j,.int .i64 o,.slice I J K,.int .i64 d] 78):=⟨_,rfl⟩
 have t:Below w.heap.size w i:=by rw[m];exact ((Below.refl _ _).alloc (Nat.le_refl _) _).alloc (by simp) _
 have Q:i.heap.size=w.heap.size+1+1:=by rw[m];simp
 have g0:i.heap[w.heap.size]?=some (.cells #[.slice a 4 g] 22 (0,0)):=by rw[m];exact bM _ (bE _ _ rfl)
 have g1:i.heap[w.heap.size+1]?=some (.cells #[.int .i64 k,.int .i64 j,.int .i64 o,.slice I J K,.int .i64 d] 78 (0,0)):=by rw[m];exact bE _ _ (by simp only[World.size_alloc])
 have L:Hid (∀ b,Below i.heap.size i b->b.cell? ⟨w.heap.size,0,none⟩=some (.slice a 4 g)/\b.heap[w.heap.size+1]?=some (.cells #[.int .i64 k,.int .i64 j,.int .i64 o,.slice I J K,.int .i64 d] 78 (0,0))/\Below w.heap.size w b):=λb h=>⟨ab ((h.block _ (by omega)).trans g0) 0 rfl,(h.block _ (by omega)).trans g1,Below.thenOf t h t.size⟩
 have a0:=hid m
 have b1:=hid Q
 have a1:=hid t
 have b2:=hid x
 have a2:=hid E
 rw[p] at F
 clear W hr D M E O m t Q g0 g1 x
 clear p N Z a2
 generalize c.1=cb at*
 go_enter Tryz.func101,Tryz.ntmps101
 go_wp2_with fail
 rw[<-a0.out]
 go_at_call 123
 refine Calls.mono (HC.out _ a1.out) ?_
 rintro e w3 ⟨rfl,G⟩
 obtain⟨-,R,z⟩:=L.out w3 G
 obtain⟨y0,y1,y2,y3,y4⟩:=bw R
 have u:Hid (Below i.heap.size i w3/\Below w.heap.size w w3):=⟨G,z⟩
 clear HC G z R
 go_wp2_with fail
 go_at_call 124
 refine Calls.mono (HR.out _ u.out.2) ?_
 rintro e S ⟨rfl,H⟩
 have n:Hid (∀ q:aw S,Below i.heap.size i q.1):=λq=>Below.thenOf u.out.1 (Below.thenOf H q.2 H.size) u.out.1.size
 clear y0 y1 y2 y3 y4 HR u H
 have a4:=aw.ne S
 have q1:∀ q:aw S,q.1.cell? ⟨w.heap.size+1,1,none⟩=some (.int .i64 j):=λq=>ab (L.out q.1 (n.out q)).2.1 1 rfl
 have q0:∀ q:aw S,q.1.cell? ⟨w.heap.size+1,0,none⟩=some (.int .i64 k):=λq=>ab (L.out q.1 (n.out q)).2.1 0 rfl
 have A:Hid (∀ q:aw S,Calls Tryz.prog 125 #[.int .i64 j,.pointer (some ⟨w.heap.size,0,none⟩)] q.1 λe f=>e=.returned (.bool cb)/\f=q.1):=λq=>P.out q.1 _ (L.out q.1 (n.out q)).2.2 (L.out q.1 (n.out q)).1
 go_wp2_with fail
 refine bn (by kernel_rfl) (by kernel_rfl) ?_
 repeat (go_big_quiet_step (first
  | (go_at_call 125;exact Calls.later_same (A.out _))
  | (go_at_call 126;exact Calls.later_same (F.out _))))
 refine wpQuiet_nil ?_
 rintro T ⟨⟨_,U⟩,rfl⟩
 have r:Below i.heap.size i T:=n.out ⟨T,U⟩
 obtain⟨x0,V,C⟩:=L.out T r
 obtain⟨y0,y1,y2,y3,y4⟩:=bw V
 have a5:Hid (Below i.heap.size i T/\Below w.heap.size w T):=⟨r,C⟩
 clear q0 q1 a4 A P F n U r C V
 go_wp2_with fail
 go_ret2
 exact⟨_,rfl,ig _ _,a5.out.2⟩
set_option maxHeartbeats 4000000 in
theorem B8 (B:Nat) (a:Option Addr) (g:Nat) (K:Option Addr) (L M:Nat) (l:List ay) (j o:Nat) (rs:List ai) (d:Int) (w:World) (X:bl B w (.slice a 4 g) l) (hr:cV B w (.agg #[.int .i64 3,.int .i64 j,.int .i64 o,.slice K L M,.int .i64 d]) (3,(j:Int),(o:Int),rs,d)) (u:B<=w.heap.size) (E:cB l=0) (O:bF (3,(j:Int),(o:Int),rs,d)=0) (c:ay) (F:l[j]?=some c) (Y:ay) (P:l[o]?=some Y) (Z:c.1=false) (a0:Y.1=false):
  Calls Tryz.prog 101 #[.slice a 4 g,.agg #[.int .i64 3,.int .i64 j,.int .i64 o,.slice K L M,.int .i64 d]] w λe b=>∃ v,e=.returned (.tuple #[v,.int .i64 5])/\qJ w.heap.size b v []/\Below w.heap.size w b:=by
 have x:Hid (l.length=4):=(gu.1 E).1
 have HC:Hid (∀ b,Below w.heap.size w b->Calls Tryz.prog 123 #[.slice a 4 g] b λe f=>e=.returned (.int .i64 0)/\Below b.heap.size b f):=λb h=>by
  have:=jw B _ l b (X.later h u) (Nat.le_trans u h.size)
  rw[E] at this
  exact this
 have HR:Hid (∀ b,Below w.heap.size w b->Calls Tryz.prog 124 #[.agg #[.int .i64 3,.int .i64 j,.int .i64 o,.slice K L M,.int .i64 d]] b λe f=>e=.returned (.int .i64 0)/\Below b.heap.size b f):=λb h=>by
  have:=gZ B _ _ b (hr.later h u) (Nat.le_trans u h.size)
  rw[O] at this
  exact this
 have G:Hid (∀ b r,Below w.heap.size w b->b.cell? ⟨r,0,none⟩=some (.slice a 4 g)->Calls Tryz.prog 125 #[.int .i64 j,.pointer (some ⟨r,0,none⟩)] b λe f=>e=.returned (.bool c.1)/\f=b):=λb r h hx=>gq B r a g l j c b (X.later h u) x.out F hx
 have H:Hid (∀ b r,Below w.heap.size w b->b.cell? ⟨r,0,none⟩=some (.slice a 4 g)->Calls Tryz.prog 125 #[.int .i64 o,.pointer (some ⟨r,0,none⟩)] b λe f=>e=.returned (.bool Y.1)/\f=b):=λb r h hx=>gq B r a g l o Y b (X.later h u) x.out P hx
 have Q:Hid (∀ b,Calls Tryz.prog 126 #[.int .i64 3] b λe f=>e=.returned (.bool (true))/\f=b):=λb=>nG (k:=3) (by simp) b
 obtain⟨i,m⟩:∃ i,i=(w.alloc (.cells #[.slice a 4 g] 22)).alloc (.cells #[.int .i64 3,.int .i64 j,.int .i64 o,.slice K L M,.int .i64 d] 78):=⟨_,rfl⟩
 have s:Below w.heap.size w i:=by rw[m];exact ((Below.refl _ _).alloc (Nat.le_refl _) _).alloc (by simp) _
 have R:i.heap.size=w.heap.size+1+1:=by rw[m];simp
 have g0:i.heap[w.heap.size]?=some (.cells #[.slice a 4 g] 22 (0,0)):=by rw[m];exact bM _ (bE _ _ rfl)
 have g1:i.heap[w.heap.size+1]?=some (.cells #[.int .i64 3,.int .i64 j,.int .i64 o,.slice K L M,.int .i64 d] 78 (0,0)):=by rw[m];exact bE _ _ (by simp only[World.size_alloc])
 have N:Hid (∀ b,Below i.heap.size i b->b.cell? ⟨w.heap.size,0,none⟩=some (.slice a 4 g)/\b.heap[w.heap.size+1]?=some (.cells #[.int .i64 3,.int .i64 j,.int .i64 o,.slice K L M,.int .i64 d] 78 (0,0))/\Below w.heap.size w b):=λb h=>⟨ab ((h.block _ (by omega)).trans g0) 0 rfl,(h.block _ (by omega)).trans g1,Below.thenOf s h s.size⟩
 have a2:=hid m
 have b2:=hid R
 have a3:=hid s
 have b3:=hid u
 have a4:=hid F
 rw[Z] at G
 rw[a0] at H
 clear X hr E O F P m s R g0 g1 u
 clear a4
 go_enter Tryz.func101,Tryz.ntmps101
 go_wp2_with fail
 rw[<-a2.out]
 go_at_call 123
 refine Calls.mono (HC.out _ a3.out) ?_
 rintro e w3 ⟨rfl,I⟩
 obtain⟨-,S,y⟩:=N.out w3 I
 obtain⟨y0,y1,y2,y3,y4⟩:=bw S
 have t:Hid (Below i.heap.size i w3/\Below w.heap.size w w3):=⟨I,y⟩
 clear HC I y S
 go_wp2_with fail
 go_at_call 124
 refine Calls.mono (HR.out _ t.out.2) ?_
 rintro e T ⟨rfl,J⟩
 have n:Hid (∀ q:aw T,Below i.heap.size i q.1):=λq=>Below.thenOf t.out.1 (Below.thenOf J q.2 J.size) t.out.1.size
 clear y0 y1 y2 y3 y4 HR t J
 have a6:=aw.ne T
 have q1:∀ q:aw T,q.1.cell? ⟨w.heap.size+1,1,none⟩=some (.int .i64 j):=λq=>ab (N.out q.1 (n.out q)).2.1 1 rfl
 have q0:∀ q:aw T,q.1.cell? ⟨w.heap.size+1,0,none⟩=some (.int .i64 3):=λq=>ab (N.out q.1 (n.out q)).2.1 0 rfl
 have z:Hid (∀ q:aw T,Calls Tryz.prog 125 #[.int .i64 j,.pointer (some ⟨w.heap.size,0,none⟩)] q.1 λe f=>e=.returned (.bool false)/\f=q.1):=λq=>G.out q.1 _ (N.out q.1 (n.out q)).2.2 (N.out q.1 (n.out q)).1
 go_wp2_with fail
 refine bn (by kernel_rfl) (by kernel_rfl) ?_
 repeat (go_big_quiet_step (first
  | (go_at_call 125;exact Calls.later_same (z.out _))
  | (go_at_call 126;exact Calls.later_same (Q.out _))))
 refine wpQuiet_nil ?_
 rintro A ⟨⟨_,U⟩,rfl⟩
 have p:Below i.heap.size i A:=n.out ⟨A,U⟩
 obtain⟨x0,V,C⟩:=N.out A p
 obtain⟨y0,y1,y2,y3,y4⟩:=bw V
 have W:Hid (Below i.heap.size i A/\Below w.heap.size w A):=⟨p,C⟩
 clear q0 q1 a6 z G Q n U p C V
 have D:Hid (Calls Tryz.prog 125 #[.int .i64 o,.pointer (some ⟨w.heap.size,0,none⟩)] A λe f=>e=.returned (.bool false)/\f=A):=H.out A _ W.out.2 x0
 clear H
 go_wp2_with fail
 go_at_call 125
 refine Calls.mono D.out ?_
 rintro e b7 ⟨rfl,e5⟩;obtain rfl:=e5.symm
 clear D
 go_wp2_with fail
 go_ret2
 exact⟨_,rfl,ig _ _,W.out.2⟩
set_option maxHeartbeats 8000000 in
theorem kj (B:Nat) (a:Option Addr) (x:Nat) (ra:Option Addr) (rl rc:Nat) (l:List ay) (k:Int) (i Y:Nat) (rs:List ai) (d:Int) (w:World) (hl:bl B w (.slice a 4 x) l) (hr:cV B w (.agg #[.int .i64 k,.int .i64 i,.int .i64 Y,.slice ra rl rc,.int .i64 d]) (k,(i:Int),(Y:Int),rs,d)) (hB:B<=w.heap.size) (b7:cB l=0) (cd:bF (k,(i:Int),(Y:Int),rs,d)=0) (ce:k=1\/k=2\/k=3\/k=4) (c:ay) (y:l[i]?=some c) (cf:ay) (cl:l[Y]?=some cf) (cn:decide (k=1\/k=3)≠c.1) (E:Int) (C:ay) (b8:Hid (∀ f,Below w.heap.size w f->Calls Tryz.prog 127 #[.slice a 4 x,.agg #[.int .i64 k,.int .i64 i,.int .i64 Y,.slice ra rl rc,.int .i64 d]] f λe m=>∃ v,e=.returned (.tuple #[v,.int .i64 E])/\bO f.heap.size m v C/\Below f.heap.size f m)) (co:k=3->cf.1=true):
  Calls Tryz.prog 101 #[.slice a 4 x,.agg #[.int .i64 k,.int .i64 i,.int .i64 Y,.slice ra rl rc,.int .i64 d]] w λe f=>∃ v,e=.returned (.tuple #[v,.int .i64 E])/\qJ w.heap.size f v (if E=0 then l.set i C else [])/\Below w.heap.size w f:=by
 have s:Hid (l.length=4):=(gu.1 b7).1
 have HC:Hid (∀ f,Below w.heap.size w f->Calls Tryz.prog 123 #[.slice a 4 x] f λe m=>e=.returned (.int .i64 0)/\Below f.heap.size f m):=λf h=>by
  have:=jw B _ l f (hl.later h hB) (Nat.le_trans hB h.size)
  rw[b7] at this
  exact this
 have HR:Hid (∀ f,Below w.heap.size w f->Calls Tryz.prog 124 #[.agg #[.int .i64 k,.int .i64 i,.int .i64 Y,.slice ra rl rc,.int .i64 d]] f λe m=>e=.returned (.int .i64 0)/\Below f.heap.size f m):=λf h=>by
  have:=gZ B _ _ f (hr.later h hB) (Nat.le_trans hB h.size)
  rw[cd] at this
  exact this
 have cp:Hid (∀ f bx,Below w.heap.size w f->f.cell? ⟨bx,0,none⟩=some (.slice a 4 x)->Calls Tryz.prog 125 #[.int .i64 i,.pointer (some ⟨bx,0,none⟩)] f λe m=>e=.returned (.bool c.1)/\m=f):=λf bx h hx=>gq B bx a x l i c f (hl.later h hB) s.out y hx
 have ba:Hid (∀ f bx,Below w.heap.size w f->f.cell? ⟨bx,0,none⟩=some (.slice a 4 x)->Calls Tryz.prog 125 #[.int .i64 Y,.pointer (some ⟨bx,0,none⟩)] f λe m=>e=.returned (.bool cf.1)/\m=f):=λf bx h hx=>gq B bx a x l Y cf f (hl.later h hB) s.out cl hx
 have c1:Hid (∀ f,Calls Tryz.prog 126 #[.int .i64 k] f λe m=>e=.returned (.bool (decide (k=1\/k=3)))/\m=f):=λf=>nG ce f
 obtain⟨n,Z⟩:∃ n,n=(w.alloc (.cells #[.slice a 4 x] 22)).alloc (.cells #[.int .i64 k,.int .i64 i,.int .i64 Y,.slice ra rl rc,.int .i64 d] 78):=⟨_,rfl⟩
 have bb:Below w.heap.size w n:=by rw[Z];exact ((Below.refl _ _).alloc (Nat.le_refl _) _).alloc (by simp) _
 have cs:n.heap.size=w.heap.size+1+1:=by rw[Z];simp
 have g0:n.heap[w.heap.size]?=some (.cells #[.slice a 4 x] 22 (0,0)):=by rw[Z];exact bM _ (bE _ _ rfl)
 have g1:n.heap[w.heap.size+1]?=some (.cells #[.int .i64 k,.int .i64 i,.int .i64 Y,.slice ra rl rc,.int .i64 d] 78 (0,0)):=by rw[Z];exact bE _ _ (by simp only[World.size_alloc])
 have HG:Hid (∀ f,Below n.heap.size n f->f.cell? ⟨w.heap.size,0,none⟩=some (.slice a 4 x)/\f.heap[w.heap.size+1]?=some (.cells #[.int .i64 k,.int .i64 i,.int .i64 Y,.slice ra rl rc,.int .i64 d] 78 (0,0))/\Below w.heap.size w f):=λf h=>⟨ab ((h.block _ (by omega)).trans g0) 0 rfl,(h.block _ (by omega)).trans g1,Below.thenOf bb h bb.size⟩
 have dk:=hid Z
 have bc:=hid cs
 have dl:=hid bb
 have eF:=hid hB
 have dn:=hid y
 have a0:Hid (∀ f,Below w.heap.size w f->Calls Tryz.prog 77 #[.slice a 4 x] f λe m=>e=.returned (.slice (some ⟨f.heap.size,0,none⟩) 4 4)/\ll B f.heap.size 4 l m/\Below f.heap.size f m):=λf h=>by
  have:=sf B _ l f (hl.later h hB) (Nat.le_trans hB h.size) (by rw[s.out];decide) (λc hc=>us ((gu.1 b7).2 c hc))
  rw[s.out] at this
  exact this
 have cv:i<4:=by
  have:=(List.getElem?_eq_some_iff.1 y).1
  rw[s.out] at this
  exact this
 have es:(i:Int)<4:=by omega
 have et:(0:Int)<=(i:Int):=by omega
 have dp:(c.1==decide (k=1\/k=3))=false:=by
  simp
  exact λe=>cn (by rw[e];simp)
 have c2:=hid co
 clear hl hr b7 cd y cl Z bb cs g0 g1 hB
 clear cn ce dn co
 obtain⟨bg,cx⟩:∃ bg,bg=decide (k=1\/k=3):=⟨_,rfl⟩
 rw[<-cx] at c1 dp
 clear cx
 generalize c.1=cb at*
 go_enter Tryz.func101,Tryz.ntmps101
 go_wp2_with fail
 rw[<-dk.out]
 go_at_call 123
 refine Calls.mono (HC.out _ dl.out) ?_
 rintro e w3 ⟨rfl,c3⟩
 obtain⟨-,cT,bo⟩:=HG.out w3 c3
 obtain⟨y0,y1,y2,y3,y4⟩:=bw cT
 have bd:Hid (Below n.heap.size n w3/\Below w.heap.size w w3):=⟨c3,bo⟩
 clear HC c3 bo cT
 go_wp2_with fail
 go_at_call 124
 refine Calls.mono (HR.out _ bd.out.2) ?_
 rintro e w4 ⟨rfl,c4⟩
 have a1:Hid (∀ q:aw w4,Below n.heap.size n q.1):=λq=>Below.thenOf bd.out.1 (Below.thenOf c4 q.2 c4.size) bd.out.1.size
 clear y0 y1 y2 y3 y4 HR bd c4
 have dr:=aw.ne w4
 have q1:∀ q:aw w4,q.1.cell? ⟨w.heap.size+1,1,none⟩=some (.int .i64 i):=λq=>ab (HG.out q.1 (a1.out q)).2.1 1 rfl
 have q0:∀ q:aw w4,q.1.cell? ⟨w.heap.size+1,0,none⟩=some (.int .i64 k):=λq=>ab (HG.out q.1 (a1.out q)).2.1 0 rfl
 have bp:Hid (∀ q:aw w4,Calls Tryz.prog 125 #[.int .i64 i,.pointer (some ⟨w.heap.size,0,none⟩)] q.1 λe m=>e=.returned (.bool cb)/\m=q.1):=λq=>cp.out q.1 _ (HG.out q.1 (a1.out q)).2.2 (HG.out q.1 (a1.out q)).1
 go_wp2_with fail
 refine bn (by kernel_rfl) (by kernel_rfl) ?_
 repeat (go_big_quiet_step (first
  | (go_at_call 125;exact Calls.later_same (bp.out _))
  | (go_at_call 126;exact Calls.later_same (c1.out _))))
 refine wpQuiet_nil ?_
 rintro w5 ⟨⟨_,d1⟩,rfl⟩
 have a5:Below n.heap.size n w5:=a1.out ⟨w5,d1⟩
 obtain⟨x0,d2,bq⟩:=HG.out w5 a5
 obtain⟨y0,y1,y2,y3,y4⟩:=bw d2
 have z:Hid (Below n.heap.size n w5/\Below w.heap.size w w5):=⟨a5,bq⟩
 clear q0 q1 dr bp cp c1 a1 d1 a5 bq d2
 by_cases bf:k=3
 ·have d3:=c2.out bf
  rw[d3] at ba
  have br:Hid (Calls Tryz.prog 125 #[.int .i64 Y,.pointer (some ⟨w.heap.size,0,none⟩)] w5 λe m=>e=.returned (.bool true)/\m=w5):=ba.out w5 _ z.out.2 x0
  clear ba c2 d3
  subst bf
  go_wp2_with fail
  go_at_call 125
  refine Calls.mono br.out ?_
  rintro e f5 ⟨rfl,e5⟩;obtain rfl:=e5.symm
  clear br
  go_wp2_with fail
  go_at_call 127
  refine Calls.mono (b8.out _ z.out.2) ?_
  rintro e A ⟨v,rfl,T,a6⟩
  obtain⟨la,lc,pa,pc,ev,-,-⟩:=id T
  have D:=hid T
  rw[ev] at D |-
  have F:Below n.heap.size n A:=Below.thenOf z.out.1 a6 z.out.1.size
  obtain⟨x6,ac,N⟩:=HG.out A F
  have G:Hid (Below n.heap.size n A/\Below w.heap.size w A):=⟨F,N⟩
  have ad:w.heap.size+1<A.heap.size:=lt_of_block ac
  have ak:=hid z.out.1.size
  clear ev T a6 F N x0 y0 y1 y2 y3 y4 b8 z
  obtain⟨U,ao⟩:∃ U,U=C.2.1.length:=⟨_,rfl⟩
  obtain⟨V,av⟩:∃ V,V=C.2.2.1.length:=⟨_,rfl⟩
  obtain⟨O,W⟩:∃ O,O=C.2.2.2:=⟨_,rfl⟩
  obtain⟨P,X⟩:∃ P,P=C.1:=⟨_,rfl⟩
  have b0:Hid (C.1=P/\C.2.2.2=O):=⟨X.symm,W.symm⟩
  rw[<-ao,<-av,<-W,<-X] at D |-
  clear ao av W X
  by_cases hE:E=0
  ·subst hE
   obtain⟨b,L⟩:∃ b,b=A.alloc (.cells #[.bool P,.slice la U lc,.slice pa V pc,.int .i64 O] 46):=⟨_,rfl⟩
   have H:Below A.heap.size A b:=by rw[L];exact (Below.refl _ _).alloc (Nat.le_refl _) _
   have g7:b.heap[A.heap.size]?=some (.cells #[.bool P,.slice la U lc,.slice pa V pc,.int .i64 O] 46 (0,0)):=by rw[L];exact af _ _
   have I:Below n.heap.size n b:=Below.thenOf G.out.1 H G.out.1.size
   have t:Hid (Below n.heap.size n b/\Below w.heap.size w b):=⟨I,(HG.out b I).2.2⟩
   have J:Hid (bO w5.heap.size b (.agg #[.bool P,.slice la U lc,.slice pa V pc,.int .i64 O]) C):=D.out.later (Nat.le_refl _) H
   have c5:=hid L
   have M:=hid g7
   have c6:w.heap.size<A.heap.size:=by omega
   clear L H g7 I D ac G
   go_wp2_with fail
   rw[<-c5.out]
   go_at_call 77
   refine Calls.mono (a0.out _ t.out.2) ?_
   rintro e w8 ⟨rfl,y,r⟩
   have Q:Below n.heap.size n w8:=Below.thenOf t.out.1 r t.out.1.size
   obtain⟨-,b1,R⟩:=HG.out w8 Q
   obtain⟨y0,y1,y2,y3,y4⟩:=bw b1
   obtain⟨z0,z1,z2,z3,-⟩:=am ((r.block _ (lt_of_block M.out)).trans M.out)
   have b2:=J.out.later (Nat.le_refl _) r
   have o:∀ j,j<16->∃ u,w8.cell? ⟨b.heap.size,j,none⟩=some u/\w8.frozen? ⟨b.heap.size,j,none⟩=false:=λj hj=>by
    obtain⟨xs,r1,r2,-⟩:=y
    exact⟨xs[j]'(by rw[r2,s.out];omega),ab r1 j (by simp),by simp[World.frozen?,r1]⟩
   obtain⟨u0,p0,f0⟩:=o (i*4) (by omega)
   obtain⟨u1,p1,f1⟩:=o (i*4+1) (by omega)
   obtain⟨u2,p2,f2⟩:=o (i*4+2) (by omega)
   obtain⟨u3,p3,f3⟩:=o (i*4+3) (by omega)
   have S:Hid (qJ w.heap.size ((((w8.setCell ⟨b.heap.size,i*4,none⟩ (.bool P)).setCell ⟨b.heap.size,i*4+1,none⟩ (.slice la U lc)).setCell ⟨b.heap.size,i*4+2,none⟩ (.slice pa V pc)).setCell ⟨b.heap.size,i*4+3,none⟩ (.int .i64 O)) (.slice (some ⟨b.heap.size,0,none⟩) 4 4) (l.set i C)/\Below w.heap.size w ((((w8.setCell ⟨b.heap.size,i*4,none⟩ (.bool P)).setCell ⟨b.heap.size,i*4+1,none⟩ (.slice la U lc)).setCell ⟨b.heap.size,i*4+2,none⟩ (.slice pa V pc)).setCell ⟨b.heap.size,i*4+3,none⟩ (.int .i64 O))):=by
    have K:w.heap.size<=b.heap.size:=t.out.2.size
    refine⟨ll.set (c:=C) y K s.out (by decide) cv (by rw[b0.out.1,b0.out.2]) (λwX h1 h2=>?_),(((R.setCell (p:=⟨b.heap.size,i*4,none⟩) K _).setCell (p:=⟨b.heap.size,i*4+1,none⟩) K _).setCell (p:=⟨b.heap.size,i*4+2,none⟩) K _).setCell (p:=⟨b.heap.size,i*4+3,none⟩) K _⟩
    obtain⟨e9,ea,eb,ec,b3,k1,k2⟩:=J.out
    simp at b3
    obtain⟨e0,⟨rfl,e1,rfl⟩,⟨rfl,e2,rfl⟩,e3⟩:=b3
    have hX:∀ g,w5.heap.size<=g->g<b.heap.size->wX.heap[g]?=b.heap[g]?:=λg hg hl=>(h1 g (by have:=ak.out;have:=bc.out;omega) (by omega) (by have:=r.size;omega)).trans (r.block g hl)
    have b4:b.heap.size<=wX.heap.size:=Nat.le_trans r.size h2
    exact⟨by rw[e1];exact k1 wX hX b4,by rw[e2];exact k2 wX hX b4⟩
   have ej:¬w.heap.size+1=b.heap.size:=by have:=t.out.1.size;have:=bc.out;omega
   have ek:¬A.heap.size=b.heap.size:=by have:=lt_of_block M.out;omega
   clear y r Q b1 R b2 o a0 t J M c6 ad x6
   go_wp2_with fail
   go_ret2
   exact⟨_,rfl,S.out.1,S.out.2⟩
  ·have hq:(E != 0)=true:=by simpa using hE
   have HE:=hid hE
   clear hE D a0
   go_wp2_with fail
   go_ret2
   exact⟨_,rfl,ig _ _,G.out.2.alloc G.out.2.size _⟩
 ·have gk:(k==3)=false:=by simpa using bf
  clear ba c2 bf
  go_wp2_with fail
  go_at_call 127
  refine Calls.mono (b8.out _ z.out.2) ?_
  rintro e A ⟨v,rfl,T,a6⟩
  obtain⟨la,lc,pa,pc,ev,-,-⟩:=id T
  have D:=hid T
  rw[ev] at D |-
  have F:Below n.heap.size n A:=Below.thenOf z.out.1 a6 z.out.1.size
  obtain⟨x6,ac,N⟩:=HG.out A F
  have G:Hid (Below n.heap.size n A/\Below w.heap.size w A):=⟨F,N⟩
  have ad:w.heap.size+1<A.heap.size:=lt_of_block ac
  have ak:=hid z.out.1.size
  clear ev T a6 F N x0 y0 y1 y2 y3 y4 b8 z
  obtain⟨U,ao⟩:∃ U,U=C.2.1.length:=⟨_,rfl⟩
  obtain⟨V,av⟩:∃ V,V=C.2.2.1.length:=⟨_,rfl⟩
  obtain⟨O,W⟩:∃ O,O=C.2.2.2:=⟨_,rfl⟩
  obtain⟨P,X⟩:∃ P,P=C.1:=⟨_,rfl⟩
  have b0:Hid (C.1=P/\C.2.2.2=O):=⟨X.symm,W.symm⟩
  rw[<-ao,<-av,<-W,<-X] at D |-
  clear ao av W X
  by_cases hE:E=0
  ·subst hE
   obtain⟨b,L⟩:∃ b,b=A.alloc (.cells #[.bool P,.slice la U lc,.slice pa V pc,.int .i64 O] 46):=⟨_,rfl⟩
   have H:Below A.heap.size A b:=by rw[L];exact (Below.refl _ _).alloc (Nat.le_refl _) _
   have g7:b.heap[A.heap.size]?=some (.cells #[.bool P,.slice la U lc,.slice pa V pc,.int .i64 O] 46 (0,0)):=by rw[L];exact af _ _
   have I:Below n.heap.size n b:=Below.thenOf G.out.1 H G.out.1.size
   have t:Hid (Below n.heap.size n b/\Below w.heap.size w b):=⟨I,(HG.out b I).2.2⟩
   have J:Hid (bO w5.heap.size b (.agg #[.bool P,.slice la U lc,.slice pa V pc,.int .i64 O]) C):=D.out.later (Nat.le_refl _) H
   have c5:=hid L
   have M:=hid g7
   have c6:w.heap.size<A.heap.size:=by omega
   clear L H g7 I D ac G
   go_wp2_with fail
   rw[<-c5.out]
   go_at_call 77
   refine Calls.mono (a0.out _ t.out.2) ?_
   rintro e w8 ⟨rfl,y,r⟩
   have Q:Below n.heap.size n w8:=Below.thenOf t.out.1 r t.out.1.size
   obtain⟨-,b1,R⟩:=HG.out w8 Q
   obtain⟨y0,y1,y2,y3,y4⟩:=bw b1
   obtain⟨z0,z1,z2,z3,-⟩:=am ((r.block _ (lt_of_block M.out)).trans M.out)
   have b2:=J.out.later (Nat.le_refl _) r
   have o:∀ j,j<16->∃ u,w8.cell? ⟨b.heap.size,j,none⟩=some u/\w8.frozen? ⟨b.heap.size,j,none⟩=false:=λj hj=>by
    obtain⟨xs,r1,r2,-⟩:=y
    exact⟨xs[j]'(by rw[r2,s.out];omega),ab r1 j (by simp),by simp[World.frozen?,r1]⟩
   obtain⟨u0,p0,f0⟩:=o (i*4) (by omega)
   obtain⟨u1,p1,f1⟩:=o (i*4+1) (by omega)
   obtain⟨u2,p2,f2⟩:=o (i*4+2) (by omega)
   obtain⟨u3,p3,f3⟩:=o (i*4+3) (by omega)
   have S:Hid (qJ w.heap.size ((((w8.setCell ⟨b.heap.size,i*4,none⟩ (.bool P)).setCell ⟨b.heap.size,i*4+1,none⟩ (.slice la U lc)).setCell ⟨b.heap.size,i*4+2,none⟩ (.slice pa V pc)).setCell ⟨b.heap.size,i*4+3,none⟩ (.int .i64 O)) (.slice (some ⟨b.heap.size,0,none⟩) 4 4) (l.set i C)/\Below w.heap.size w ((((w8.setCell ⟨b.heap.size,i*4,none⟩ (.bool P)).setCell ⟨b.heap.size,i*4+1,none⟩ (.slice la U lc)).setCell ⟨b.heap.size,i*4+2,none⟩ (.slice pa V pc)).setCell ⟨b.heap.size,i*4+3,none⟩ (.int .i64 O))):=by
    have K:w.heap.size<=b.heap.size:=t.out.2.size
    refine⟨ll.set (c:=C) y K s.out (by decide) cv (by rw[b0.out.1,b0.out.2]) (λwX h1 h2=>?_),(((R.setCell (p:=⟨b.heap.size,i*4,none⟩) K _).setCell (p:=⟨b.heap.size,i*4+1,none⟩) K _).setCell (p:=⟨b.heap.size,i*4+2,none⟩) K _).setCell (p:=⟨b.heap.size,i*4+3,none⟩) K _⟩
    obtain⟨e9,ea,eb,ec,b3,k1,k2⟩:=J.out
    simp at b3
    obtain⟨e0,⟨rfl,e1,rfl⟩,⟨rfl,e2,rfl⟩,e3⟩:=b3
    have hX:∀ g,w5.heap.size<=g->g<b.heap.size->wX.heap[g]?=b.heap[g]?:=λg hg hl=>(h1 g (by have:=ak.out;have:=bc.out;omega) (by omega) (by have:=r.size;omega)).trans (r.block g hl)
    have b4:b.heap.size<=wX.heap.size:=Nat.le_trans r.size h2
    exact⟨by rw[e1];exact k1 wX hX b4,by rw[e2];exact k2 wX hX b4⟩
   have ej:¬w.heap.size+1=b.heap.size:=by have:=t.out.1.size;have:=bc.out;omega
   have ek:¬A.heap.size=b.heap.size:=by have:=lt_of_block M.out;omega
   clear y r Q b1 R b2 o a0 t J M c6 ad x6
   go_wp2_with fail
   go_ret2
   exact⟨_,rfl,S.out.1,S.out.2⟩
  ·have hq:(E != 0)=true:=by simpa using hE
   have HE:=hid hE
   clear hE D a0
   go_wp2_with fail
   go_ret2
   exact⟨_,rfl,ig _ _,G.out.2.alloc G.out.2.size _⟩
set_option maxHeartbeats 1000000 in
theorem wl (B:Nat) (lv rv:Value) (l:List ay) (r:al) (w:World) (x:bl B w lv l) (E:cV B w rv r) (u:B<=w.heap.size):
  Calls Tryz.prog 101 #[lv,rv] w λe z=>∃ v,e=.returned (.tuple #[v,.int .i64 (dj l r)])/\qJ w.heap.size z v (ez l r)/\Below w.heap.size w z:=by
 by_cases o:cB l≠0\/bF r≠0
 ·have R:dj l r=if cB l=0 then bF r else cB l:=by
   unfold dj
   by_cases A:cB l=0
   ·have m:bF r≠0:=by simpa [A] using o
    rw[if_pos A,if_neg m,if_pos A]
   ·rw[if_neg A,if_neg A]
  have H:ez l r=[]:=by
   unfold ez
   rw[R,if_neg]
   by_cases A:cB l=0
   ·rw[if_pos A]
    simpa [A] using o
   ·rw[if_neg A]
    exact A
  rw[R,H]
  exact Ay B lv rv l r w x E u o
 ·have p:cB l=0:=Classical.byContradiction λh=>o (.inl h)
  have m:bF r=0:=Classical.byContradiction λh=>o (.inr h)
  have j:dj l r=if decide (r.1=1\/r.1=3)=(aQ l r.2.1).1 then 6 else (f7 l r).2:=by unfold dj;rw[if_pos p,if_pos m]
  have q:ez l r=if dj l r=0 then l.set r.2.1.toNat (f7 l r).1 else []:=rfl
  have y:=(gu.1 p).1
  obtain⟨W,M,N,-,I⟩:=gY m
  obtain⟨a,n,rfl,-,-⟩:=x.shape
  rw[y] at x |-
  obtain⟨C,D,rfl,F⟩:=E.shape
  obtain⟨k,S,T,f,d⟩:=r
  simp only at W M N I F j q E m |-
  obtain⟨g,rfl⟩:∃ g:Nat,S=(g:Int):=⟨S.toNat,by omega⟩
  obtain⟨i,rfl⟩:∃ i:Nat,T=(i:Int):=⟨T.toNat,by omega⟩
  obtain⟨c,s⟩:∃ c,l[g]?=some c:=⟨l[g]'(by omega),by simp⟩
  obtain⟨G,t⟩:∃ c,l[i]?=some c:=⟨l[i]'(by omega),by simp⟩
  have J:aQ l (g:Int)=c:=by unfold aQ;rw[Int.toNat_natCast,List.getD_eq_getElem?_getD,s];rfl
  have K:aQ l (i:Int)=G:=by unfold aQ;rw[Int.toNat_natCast,List.getD_eq_getElem?_getD,t];rfl
  have L:k=1\/k=2\/k=3\/k=4:=by omega
  rw[J] at j
  rw[Int.toNat_natCast] at q
  by_cases b:decide (k=1\/k=3)=c.1
  ·rw[if_pos b] at j
   have H:ez l (k,(g:Int),(i:Int),f,d)=[]:=by rw[q,j];rfl
   rw[j,H]
   exact zv B a n C _ D l k g i f d w x E u p m L c s G t b
  ·rw[if_neg b] at j
   rcases L with rfl | rfl | rfl | rfl
   ·have e:f7 l (1,(g:Int),(i:Int),f,d)=f8 (f,d):=rfl
    rw[q,j,e]
    exact kj B a n C _ D l 1 g i f d w x E u p m (by simp) c s G t b _ _ (λz h=>uS B a n C _ D l g i f d z (x.later h u) (F.later h u) (Nat.le_trans u h.size)) (λe=>by cases e)
   ·have e:f7 l (2,(g:Int),(i:Int),f,d)=(if dm c.2.1 c.2.2 (f,d)=0 then (((true,eC c.2.1 c.2.2 (f,d),f,d):ay),(0:Int)) else (aV,dm c.2.1 c.2.2 (f,d))):=by
     show (if dm (aQ l (g:Int)).2.1 (aQ l (g:Int)).2.2 (f,d)=0 then (((true,eC (aQ l (g:Int)).2.1 (aQ l (g:Int)).2.2 (f,d),f,d):ay),(0:Int)) else (aV,dm (aQ l (g:Int)).2.1 (aQ l (g:Int)).2.2 (f,d)))=_
     rw[J]
    have X:(f7 l (2,(g:Int),(i:Int),f,d)).2=dm c.2.1 c.2.2 (f,d):=by
     rw[e]
     split
     ·rename_i h;exact h.symm
     ·rfl
    have Y:(f7 l (2,(g:Int),(i:Int),f,d)).1=if dm c.2.1 c.2.2 (f,d)=0 then (true,eC c.2.1 c.2.2 (f,d),f,d) else aV:=by
     rw[e]
     split<;>rfl
    rw[q,j,Y,X]
    have O:ae (f,d)=0:=by
     rcases I with h | h
     ·exact h.2
     ·omega
    exact kj B a n C _ D l 2 g i f d w x E u p m (by simp) c s G t b _ _ (λz h=>tf B a n C _ D l g i f d z (x.later h u) (F.later h u) y (Nat.le_trans u h.size) O c s) (λe=>by cases e)
   ·obtain⟨Z,P,U,V⟩:=G
    cases Z with
    | true=>
     have e:f7 l (3,(g:Int),(i:Int),f,d)=f8 (U,V):=by
      show (if (aQ l (i:Int)).1=true then f8 (aQ l (i:Int)).2.2 else (aV,5))=_
      rw[K]
      rfl
     rw[q,j,e]
     exact kj B a n C _ D l 3 g i f d w x E u p m (by simp) c s _ t b _ _ (λz h=>vB B a n C _ D l g i f d z (x.later h u) y (Nat.le_trans u h.size) true P U V t) (λ_=>rfl)
    | false=>
     have e:f7 l (3,(g:Int),(i:Int),f,d)=(aV,5):=by
      show (if (aQ l (i:Int)).1=true then f8 (aQ l (i:Int)).2.2 else (aV,5))=_
      rw[K]
      rfl
     have Q:c.1=false:=by simpa using b
     rw[e] at j
     have H:ez l (3,(g:Int),(i:Int),f,d)=[]:=by rw[q,j];rfl
     rw[j,H]
     exact B8 B a n C _ D l g i f d w x E u p m c s _ t Q rfl
   ·have e:f7 l (4,(g:Int),(i:Int),f,d)=(aV,0):=rfl
    rw[q,j,e]
    exact kj B a n C _ D l 4 g i f d w x E u p m (by simp) c s G t b _ _ (λz h=>uC B a n C _ D l g i f d z (x.later h u)) (λe=>by cases e)
end Go.Proofs.YtnpdhopjpjickaaGreatDoor
end
