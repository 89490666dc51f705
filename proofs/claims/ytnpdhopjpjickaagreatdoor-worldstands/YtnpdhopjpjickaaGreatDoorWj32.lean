/- Joined: PtD5 PtD OrD2 NtD3. -/
import Derived.Test.YtnpdhopjpjickaaGreatDoorWj01
import Derived.Test.YtnpdhopjpjickaaGreatDoorWj21
import Derived.Deep.DeepAppendRoom
import Derived.Laws.MakeOwn
import Derived.OneCell
import Derived.Laws.ResultCell
import Derived.Test.YtnpdhopjpjickaaGreatDoorWj26
import Derived.Test.YtnpdhopjpjickaaGreatDoorWj12
import Derived.Test.YtnpdhopjpjickaaGreatDoorWj17
section
set_option linter.all false
set_option maxRecDepth 100000
namespace Go.Proofs.YtnpdhopjpjickaaGreatDoor
open Go.RowKit Go.Maps
theorem xL {P:Program} {t e:TypeId} {k:TypeInfo} {c:Nat} {q:Array Oper} {i:List Oper} {o:Oper} {a:Act} {Q:Exit->Act->World->Prop} (w:World) (y:o.guard=none) (s x:Operand)
  (kf:o.op=.call { callee:=.builtin .append,args:=#[s,x],argTypes:=#[t,t] })
  (F:P.underlying t=some (.slice e)) (G:P.info? e=some k) (l:k.size=c)
  (f g n d:Nat) (z:List Value) (H:a.eval s=.slice (some ⟨g,0,none⟩) n d) (D m:Nat) (b:List Value) (I:a.eval x=.slice (some ⟨D,0,none⟩) m m)
  (W:World) {A:TypeId} (J:w=W.alloc (.cells b.toArray A)) (K:D=W.heap.size) (r:W.ownsRow f e c (.slice (some ⟨g,0,none⟩) n d) n z) (L:b.length=m*c) (M:∀ u∈b,u.oneCell'=true) (p:n+m<=d)
  (h:∀ B,Hid (B.ownsRow f e c (.slice (some ⟨g,0,none⟩) (n+m) d) (n+m) (z++b))->Hid (W.grownBy B (some g))->wpList P q Q i (a.put o.dst (.slice (some ⟨g,0,none⟩) (n+m) d)) B):wpList P q Q (o :: i) a w:=by
 subst J
 subst K
 have v:Below W.heap.size W (W.alloc (.cells b.toArray A)):=(Below.refl _ _).alloc (Nat.le_refl _) _
 obtain⟨E,N,O,R⟩:=run_append_own_spare (P:=P) (W.alloc (.cells b.toArray A)) f t o.type e k c F G l g n d z (au r v) ⟨W.heap.size,0,none⟩ m m b L (λj u C=>by rw[dL,Nat.zero_add];exact ab (af W _) j (by simpa using C)) M p
 have S:W.grownBy E (some g):=World.grownBy.andThen (fG v (some g)) R λj C=>.inr C
 exact Lib.wpList_append_run _ y s x _ _ kf _ _ H I _ _ N (h E O S)
def xQ (y:Nat->Int) (k:Nat) (c:Int) (j:Nat):Int:=if j=k then c else y j
theorem uZ {x:List Int} (h:x.length=5):∃ a b c d e,x=[a,b,c,d,e]:=by
 match x,h with
 | [a,b,c,d,e],_=>exact⟨a,b,c,d,e,rfl⟩
theorem AN (y:Nat->Int) (k:Nat):xQ y k (y k)=y:=by
 funext j
 unfold xQ
 split
 ·rename_i h;subst h;rfl
 ·rfl
theorem wZ (y:Nat->Int) (k:Nat) (a:k<5) (b c:Int):(dy (xQ y k b)).setIfInBounds k (.int .i64 c)=dy (xQ y k c):=by
 have:k=0\/k=1\/k=2\/k=3\/k=4:=by omega
 rcases this with rfl | rfl | rfl | rfl | rfl<;>simp[dy,xQ]
theorem xW (xs:List (List Int)) (g:List Int->List (List Int)) (i:Nat) (x:List Int) (h:xs[i]?=some x):(xs.take (i+1)).flatMap g=(xs.take i).flatMap g++g x:=by
 rw[List.take_succ,h]
 simp
theorem tu (cs:List Int) (g:Int->List Int) (j:Nat) (c:Int) (h:cs[j]?=some c):(cs.take (j+1)).map g=(cs.take j).map g++[g c]:=by
 rw[List.take_succ,h]
 simp
set_option maxHeartbeats 16000000 in
theorem Bn (B k:Nat) (L:Int) (g:(k=0/\L=0)\/(k=1/\L=1)\/(k=2/\L=2)\/(k=3/\L=3)\/(k=4/\L=4)) (pv cv:Value) (xs:List (List Int)) (cs:List Int) (w:World) (hp:fu B w pv (xs.map nu)) (hc:cw B w cv cs) (hB:B<=w.heap.size) (h5:∀ x∈xs,x.length=5) (hN:xs.length*cs.length<=1000) (b0:xs.length<=1000) (b1:cs.length<=65536):
  Calls Tryz.prog 261 #[pv,.int .i64 L,cv] w λe A=>∃ v,e=.returned v/\A.ownsRow w.heap.size 34 5 v (xs.length*cs.length) (bV (xs.flatMap λx=>cs.map λc=>x.set k c))/\Below w.heap.size w A:=by
 obtain⟨b2,M,b4,O,b5⟩:=BC
 have HP:Hid (∀ A,Below w.heap.size w A->fu B A pv (xs.map nu)):=λA h=>hp.later h hB
 have Q:Hid (∀ A,Below w.heap.size w A->cw B A cv cs):=λA h=>hc.later h hB
 have H5:=hid h5
 obtain⟨pa,cd,rfl,R,d6,-⟩:=hp
 obtain⟨ca,ce,rfl,b6,da,-⟩:=hc
 rw[List.length_map] at R HP |-
 have dc:=ag
 obtain⟨n,hn⟩:∃ n,n=xs.length:=⟨_,rfl⟩
 obtain⟨m,hm⟩:∃ m,m=cs.length:=⟨_,rfl⟩
 have S:=hid hn.symm
 have T:=hid hm.symm
 rw[<-hn] at R HP hN b0 |-
 rw[<-hm] at b6 Q hN b1 |-
 obtain⟨N,C⟩:∃ N,N=n*m:=⟨_,rfl⟩
 have U:(N:Int)=(n:Int)*(m:Int):=by rw[C];simp
 rw[<-C] at hN |-
 have cf:IntKind.i64.wrap ((n:Int)*(m:Int))=(N:Int):=by rw[<-U];exact IntWalk.i64_in _ (by omega)
 have H:=hid C
 clear hn hm C U h5
 obtain⟨w1,ba,a,V⟩:=run_makeSlice_owned (P:=Tryz.prog) w w.heap.size 190 34 b2 _ 5 Tryz.underlying190 M b4 O .i64 .i64 N (by omega) (by rw[b5];omega) (by omega) (Nat.le_refl _)
 have bc:Below w.heap.size w w1:=(Below.refl _ _).grown V (Nat.le_refl _) (λk g=>by cases g)
 have W:w.heap.size<w1.heap.size:=by
  rcases a.2 with ⟨h0,_⟩ | ⟨g',c',de,hv,_,hg,_⟩
  ·cases h0
  ·cases hv;exact lt_of_block hg
 have bd:Hid (w1.ownsRow w.heap.size 34 5 (.slice (some ⟨w.heap.size,0,none⟩) (0*m) N) (0*m) (bV ((xs.take 0).flatMap λx=>cs.map λc=>x.set k c))):=by
  unfold Hid
  rw[Nat.zero_mul]
  exact a
 clear a V
 have bf:k<5:=by omega
 rcases g with ⟨g,rfl⟩ | ⟨g,rfl⟩ | ⟨g,rfl⟩ | ⟨g,rfl⟩ | ⟨g,rfl⟩
 all_goals
  have HK:Hid _:=g
  clear g
  go_enter Tryz.func261,Tryz.ntmps261
  go_wp2_with fail
  clear ba
  go_loopw [7,20] (λwv iv wr=>∃ i:Nat,i<=n/\iv=.int .i64 i/\wv=.slice (some ⟨w.heap.size,0,none⟩) (i*m) N/\Hid (wr.ownsRow w.heap.size 34 5 (.slice (some ⟨w.heap.size,0,none⟩) (i*m) N) (i*m) (bV ((xs.take i).flatMap λx=>cs.map λc=>x.set k c)))/\Below w.heap.size w wr/\w.heap.size<wr.heap.size) (λ_ iv _=>n-(intOf iv).toNat)
  case atStart=>exact⟨0,by omega,rfl,by rw[Nat.zero_mul],bd,bc,W⟩
  case round=>
   obtain⟨i,hi,rfl,rfl,E,I,cl⟩:=hrel
   obtain⟨d,bm⟩:∃ x,x=wr:=⟨_,rfl⟩
   subst bm
   have i0:(0:Int)<=(i:Int):=by omega
   by_cases dl:i<n
   ·have i1:(i:Int)<(n:Int):=by omega
    obtain⟨x,hx⟩:∃ x,xs[i]?=some x:=⟨xs[i]'(by rw[S.out];omega),by simp⟩
    obtain⟨l,r,s,t,u,rfl⟩:=uZ (H5.out x (List.mem_of_getElem? hx))
    obtain⟨_,_,Y,-,-,y⟩:=HP.out _ I
    obtain⟨b,o,e,dn,z0,z1,z2,z3,z4⟩:=y i (l,r,s,t,u) (by simp[hx,nu])
    simp at Y
    obtain⟨rfl,-,-⟩:=Y
    subst e
    clear y
    simp only[] at z0 z1 z2 z3 z4
    have Z:Hid ((xs.take (i+1)).flatMap (λx=>cs.map λc=>x.set k c)=(xs.take i).flatMap (λx=>cs.map λc=>x.set k c)++cs.map λc=>[l,r,s,t,u].set k c):=xW xs (λx=>cs.map λc=>x.set k c) i _ hx
    clear hx
    have J:i*m+m<=N:=by
     have h1:(i+1)*m<=n*m:=Nat.mul_le_mul_right _ (by omega)
     rw[Nat.add_mul,Nat.one_mul] at h1
     rw[H.out]
     exact h1
    have HI:Hid ((i+1)*m=i*m+m):=by unfold Hid;rw[Nat.add_mul,Nat.one_mul]
    obtain⟨q,hq⟩:∃ q,q=i*m:=⟨_,rfl⟩
    rw[<-hq] at J HI E |-
    clear hq
    obtain⟨D,F⟩:∃ D,D=(xs.take i).flatMap (λx=>cs.map λc=>x.set k c):=⟨_,rfl⟩
    rw[<-F] at E Z
    clear F
    have bp:Hid ((d.alloc (.cells #[.int .i64 l,.int .i64 r,.int .i64 s,.int .i64 t,.int .i64 u] 34)).heap[d.heap.size]?=some (.cells (dy (xQ (AZ (l,r,s,t,u)) k (AZ (l,r,s,t,u) k))) 34 (0,0))):=by
     unfold Hid
     rw[AN]
     exact af _ _
    have bq:Hid (∀ X,(d.alloc X).ownsRow w.heap.size 34 5 (.slice (some ⟨w.heap.size,0,none⟩) (q+0) N) (q+0) (bV (D++(cs.take 0).map λc=>[l,r,s,t,u].set k c))):=λX=>by
     have:=au E.out ((Below.refl d.heap.size d).alloc (Nat.le_refl _) X)
     simpa using this
    have br:Hid (∀ X,Below w.heap.size w (d.alloc X)):=λX=>I.alloc (by omega) _
    have G:¬w.heap.size=d.heap.size:=by omega
    clear E HP
    go_wp2_with fail
    go_loopw [7,26] (λwv jv wr=>∃ (j:Nat) (b:Int),j<=m/\jv=.int .i64 j/\wv=.slice (some ⟨w.heap.size,0,none⟩) (q+j) N/\Hid (wr.heap[d.heap.size]?=some (.cells (dy (xQ (AZ (l,r,s,t,u)) k b)) 34 (0,0)))/\Hid (wr.ownsRow w.heap.size 34 5 (.slice (some ⟨w.heap.size,0,none⟩) (q+j) N) (q+j) (bV (D++(cs.take j).map λc=>[l,r,s,t,u].set k c)))/\Below w.heap.size w wr) (λ_ jv _=>m-(intOf jv).toNat)
    case atStart=>exact⟨0,_,by omega,rfl,rfl,bp,bq.out _,br.out _⟩
    case round=>
     obtain⟨j,bb,hj,rfl,rfl,HX,E,z⟩:=hrel
     obtain⟨wi,bx⟩:∃ x,x=wr:=⟨_,rfl⟩
     subst bx
     have j0:(0:Int)<=(j:Int):=by omega
     have a5:=lt_of_block HX.out
     by_cases e0:j<m
     ·have j1:(j:Int)<(m:Int):=by omega
      obtain⟨c,K⟩:∃ c,cs[j]?=some c:=⟨cs[j]'(by rw[T.out];omega),by simp⟩
      obtain⟨_,_,Y,-,-,y⟩:=Q.out _ z
      obtain⟨b3,o3,e,cp,q0⟩:=y j c K
      simp at Y
      obtain⟨rfl,-,-⟩:=Y
      subst e
      clear y
      have c0:Hid ((cs.take (j+1)).map (λc=>[l,r,s,t,u].set k c)=(cs.take j).map (λc=>[l,r,s,t,u].set k c)++[[l,r,s,t,u].set k c]):=tu cs _ j c K
      clear K
      have e3:=(cY HX.out).2
      have f:=(cY HX.out).1
      have t0:=f 0 (by omega)
      have t1:=f 1 (by omega)
      have t2:=f 2 (by omega)
      have t3:=f 3 (by omega)
      have t4:=f 4 (by omega)
      rw[HK.out] at t0 t1 t2 t3 t4
      simp[xQ,AZ,vX] at t0 t1 t2 t3 t4
      have e4:B<=wi.heap.size:=by have:=z.size;omega
      have e5:¬b3=d.heap.size:=by omega
      have a6:∀ o5,(Value.slice (some ⟨w.heap.size,0,none⟩) (q+j) N).ownBlock≠some (⟨d.heap.size,o5,none⟩:Addr).block:=λo5 h=>G (Option.some.inj h)
      have c1:Hid _:=a6
      clear f a6
      go_wp2_with (first
       | (at_builtin;go_must (refine xL _ rfl _ _ rfl Tryz.underlying190 M O w.heap.size w.heap.size (q+j) N _ rfl _ 1 _ rfl _ rfl (by simp) (ownsRow_setCell_other E.out (c1.out _) _) rfl (by simp[Value.oneCell']) (by omega) ?_;intro w9 c2 a7)))
      have a8:Below w.heap.size w w9:=(z.setCell (p:=⟨d.heap.size,_,none⟩) (by show w.heap.size<=d.heap.size;omega) _).grown a7.out (by have:=z.size;simpa using this) (λk g=>by cases g;exact Nat.le_refl _)
      have a9:=(a7.out.block d.heap.size (by simpa using a5) (λe=>G (Option.some.inj e).symm)).trans (an HX.out)
      have aa:=c2.out
      have c3:=c0.out
      have c4:=HK.out
      subst c4
      refine⟨⟨j+1,c,by omega,by go_num,rfl,?_,?_,a8⟩,by simp[intOf];omega⟩
      ·unfold Hid
       rw[wZ _ _ bf] at a9
       exact a9
      ·unfold Hid
       rw[c3,<-List.append_assoc,pJ]
       exact aa
     ·obtain rfl:j=m:=by omega
      have c5:Hid (wi.ownsRow w.heap.size 34 5 (.slice (some ⟨w.heap.size,0,none⟩) ((i+1)*j) N) ((i+1)*j) (bV ((xs.take (i+1)).flatMap λx=>cs.map λc=>x.set k c))):=by
       have:=E.out
       rw[List.take_of_length_le (by rw[T.out];omega)] at this
       unfold Hid
       rw[HI.out,Z.out]
       exact this
      have c6:w.heap.size<wi.heap.size:=by omega
      have c7:Hid _:=HI.out
      go_wp2
      exact⟨⟨i+1,by omega,by go_num,by rw[c7.out],c5,z,c6⟩,by simp[intOf];omega⟩
   ·obtain rfl:i=n:=by omega
    go_wp2
    go_ret
    refine⟨_,rfl,?_,I⟩
    have:=E.out
    rw[List.take_of_length_le (by rw[S.out];omega),<-H.out] at this
    rw[<-H.out]
    exact this
end Go.Proofs.YtnpdhopjpjickaaGreatDoor
end
section
set_option linter.all false
set_option maxRecDepth 100000
namespace Go.Proofs.YtnpdhopjpjickaaGreatDoor
open Go.RowKit Go.Maps
theorem oB (B:Nat) (w:World):fu B w (.slice none 0 0) []:=⟨none,0,rfl,Nat.le_refl _,by rw[ag];omega,λi c h=>by simp at h⟩
set_option maxHeartbeats 8000000 in
theorem pQ (B:Nat) (lv:Value) (ps:List ap) (w:World) (S:j5 B w lv ps) (V:B<=w.heap.size) (hn:ps.length<=5000000000):
  Calls Tryz.prog 239 #[lv] w λe b=>∃ v,e=.returned (.tuple #[v,.int .i64 (bz ps)])/\fu b.heap.size b v ((bH ps).map nu)/\Below w.heap.size w b:=by
 have W:Hid (Calls Tryz.prog 259 #[lv] w λe b=>e=.returned (.int .i64 (bQ ps))/\Below w.heap.size w b):=t8 B lv ps w S V
 by_cases t:bQ ps=0
 case neg=>
  have E:Hid (bz ps=bQ ps/\bH ps=[]):=by
   have e:bz ps=bQ ps:=by rw[bz,if_neg t]
   exact⟨e,by rw[bH,if_neg (by rw[e];exact t)]⟩
  have Y:(bQ ps != 0)=true:=by simpa using t
  obtain⟨a,Z,rfl,-⟩:=S
  clear t
  generalize bQ ps=pe at*
  generalize ps.length=a0 at*
  go_enter Tryz.func239,Tryz.ntmps239
  go_wp2_with (first | (go_at_call 259;go_must (refine Calls.mono W.out ?_;rintro e F ⟨rfl,p⟩)))
  go_ret2
  rw[E.out.1,E.out.2]
  exact⟨_,rfl,oB _ _,p⟩
 case pos=>
  have z:fw ps:=j6.1 t
  have HC:Hid (∀ (k:Nat) b,Below w.heap.size w b->Calls Tryz.prog 260 #[lv,.int .i64 k] b λe G=>∃ v,e=.returned v/\G.ownsRow b.heap.size 3 1 v (cD ps k).length ((cD ps k).map (.int .i64))/\Below b.heap.size b G):=λk b h=>xI B lv ps k b (S.later h V) z (Nat.le_trans V h.size) hn
  have HF:Hid (∀ k:Nat,0<(cD ps k).length/\(cD ps k).length<=65536):=λk=>⟨zN ps k,Cq z k⟩
  have E:Hid (bz ps=if 1000<(fy ps).length then 2 else 0):=by unfold Hid;rw[bz,if_pos t]
  rw[t] at W
  obtain⟨a,Z,rfl,bf,bg,-⟩:=S
  generalize ps.length=a0 at*
  clear t z
  go_enter Tryz.func239,Tryz.ntmps239
  go_wp2_with (first | (go_at_call 259;go_must (refine Calls.mono W.out ?_;rintro e F ⟨rfl,p⟩)))
  have H:=p.size
  have a1:Hid (∀ X,X=Obj.cells #[.int .i64 0,.int .i64 0,.int .i64 0,.int .i64 0,.int .i64 0] 34 (0,0)->(F.alloc X).ownsRow w.heap.size 34 5 (.slice (some ⟨F.heap.size,0,none⟩) 1 1) (iL ps 0).length (bV (iL ps 0))):=by
   intro X hX
   subst hX
   rw[Ad]
   exact⟨rfl,.inr ⟨F.heap.size,1,_,rfl,H,af _ _,Nat.le_refl _,by rw[ag];omega,rfl,rfl⟩⟩
  have a2:Hid (∀ X,Below w.heap.size w (F.alloc X)):=λX=>p.alloc H _
  go_loopw [5,15] (λpv kv wr=>∃ k:Nat,k<=5/\kv=.int .i64 k/\nQ ps k<=1000/\Hid (wr.ownsRow w.heap.size 34 5 pv (iL ps k).length (bV (iL ps k)))/\Below w.heap.size w wr) (λ_ kv _=>5-(intOf kv).toNat)
  case atStart=>exact⟨0,by omega,rfl,by simp[nQ],a1.out _ rfl,a2.out _⟩
  case round=>
   obtain⟨k,hk,rfl,r,I,s⟩:=hrel
   obtain⟨wo,a6⟩:∃ x,x=wr:=⟨_,rfl⟩
   subst a6
   have k0:(0:Int)<=(k:Int):=by omega
   have a7:=s.size
   obtain⟨pa,g,rfl,-,-,-⟩:=ax I.out
   by_cases a9:k<5
   ·have k1:(k:Int)<5:=by omega
    obtain⟨aa,A⟩:=HF.out k
    have J:Hid _:=HC.out k wo s
    have d:Hid (nQ ps (k+1)=nQ ps k*(cD ps k).length):=rfl
    have ac:Hid (nQ ps (k+1)<=(fy ps).length):=Dl ps (k+1) (by omega)
    have f:Hid ((iL ps k).length=nQ ps k):=lu ps k (by omega)
    have K:Hid ((iL ps (k+1)).length=nQ ps (k+1)):=lu ps (k+1) (by omega)
    have ad:Hid (iL ps (k+1)=(iL ps k).flatMap λx=>(cD ps k).map λc=>x.set k c):=uu ps k a9
    have H5:Hid (∀ x∈iL ps k,x.length=5):=tV ps k hk
    have L:(k=0/\(k:Int)=0)\/(k=1/\(k:Int)=1)\/(k=2/\(k:Int)=2)\/(k=3/\(k:Int)=3)\/(k=4/\(k:Int)=4):=by omega
    have ak:Hid _:=L
    clear L
    rw[f.out] at I |-
    obtain⟨q,Y⟩:∃ q,q=nQ ps k:=⟨_,rfl⟩
    rw[<-Y] at r d f I |-
    obtain⟨m,T⟩:∃ m,m=(cD ps k).length:=⟨_,rfl⟩
    rw[<-T] at aa A d
    simp only[<-T] at J
    have U:=hid T.symm
    clear Y T
    obtain⟨o,i⟩:∃ o,o=q*m:=⟨_,rfl⟩
    have u:(o:Int)=(q:Int)*(m:Int):=by rw[i];simp
    have b6:o<=65536000:=by rw[i];exact Nat.mul_le_mul r A
    have b7:IntKind.i64.wrap ((q:Int)*(m:Int))=(o:Int):=by rw[<-u];exact IntWalk.i64_in _ (by omega)
    rw[<-i] at d
    have M:=hid i
    clear i u
    go_wp2_with fail
    go_at_call 260
    refine Calls.mono J.out ?_
    rintro e j ⟨v3,rfl,C,N⟩
    obtain⟨a3,y,rfl,-,-,-⟩:=ax C
    have l:Below w.heap.size w j:=Below.thenOf s N a7
    have O:=l.size
    have ao:Hid (o<=1000->Calls Tryz.prog 261 #[.slice pa q g,.int .i64 k,.slice a3 m y] j λe b=>∃ v,e=.returned v/\b.ownsRow j.heap.size 34 5 v o (bV (iL ps (k+1)))/\Below j.heap.size j b):=by
     intro av
     have h1:fu j.heap.size j (.slice pa q g) ((iL ps k).map nu):=pU (λx hx=>uZ (H5.out x hx)) (by rw[f.out];exact au I.out N)
     have h2:cw j.heap.size j (.slice a3 m y) (cD ps k):=yS (by rw[U.out];exact C)
     have h3:=Bn j.heap.size k k ak.out _ _ (iL ps k) (cD ps k) j h1 h2 (Nat.le_refl _) H5.out (by rw[f.out,U.out,<-M.out];exact av) (by rw[f.out];exact r) (by rw[U.out];exact A)
     rw[f.out,U.out,<-M.out,<-ad.out] at h3
     exact h3
    clear C
    by_cases ba:1000<o
    ·have D:(1000:Int)<(o:Int):=by omega
     have n:Hid (bz ps=2/\bH ps=[]):=by
      have hL:=ac.out
      rw[d.out] at hL
      have e:bz ps=2:=by rw[E.out,if_pos (by omega)]
      exact⟨e,by rw[bH,if_neg (by rw[e];decide)]⟩
     go_wp2_with fail
     go_ret2
     rw[n.out.1,n.out.2]
     exact⟨_,rfl,oB _ _,l⟩
    ·have D:¬(1000:Int)<(o:Int):=by omega
     have P:Hid _:=ao.out (by omega)
     go_wp2_with fail
     go_at_call 261
     refine Calls.mono P.out ?_
     rintro e w4 ⟨v4,rfl,Q,b1⟩
     have b2:Hid (w4.ownsRow w.heap.size 34 5 v4 (iL ps (k+1)).length (bV (iL ps (k+1)))):=by
      unfold Hid
      rw[K.out,d.out]
      exact cK Q O
     have R:=Below.thenOf l b1 O
     have b3:Hid (nQ ps (k+1)<=1000):=by unfold Hid;rw[d.out];omega
     clear Q
     go_wp2_with fail
     exact⟨⟨k+1,by omega,by go_num,b3.out,b2,R⟩,by simp[intOf];omega⟩
   ·obtain rfl:k=5:=by omega
    have n:Hid (bz ps=0/\bH ps=fy ps):=by
     rw[AL] at r
     have e:bz ps=0:=by rw[E.out,if_neg (by omega)]
     exact⟨e,by rw[bH,if_pos e]⟩
    have b4:Hid (fu wo.heap.size wo (.slice pa (iL ps 5).length g) ((bH ps).map nu)):=by
     unfold Hid
     rw[n.out.2,<-Ah]
     exact pU (λx hx=>uZ (tV ps 5 (Nat.le_refl _) x hx)) I.out
    generalize (iL ps 5).length=L5 at*
    go_wp2_with fail
    go_ret2
    rw[n.out.1]
    exact⟨_,rfl,b4.out,s⟩
end Go.Proofs.YtnpdhopjpjickaaGreatDoor
end
section
set_option linter.all false
set_option maxRecDepth 100000
namespace Go.Proofs.YtnpdhopjpjickaaGreatDoor
open Go.RowKit Go.Maps
def eW (c:iC):List Int:=[c.1,c.2.1,c.2.2.1,c.2.2.2.1,c.2.2.2.2]
set_option maxHeartbeats 4000000 in
theorem rV (B L t u:Nat) (a b:Option Addr) (n y M l:Nat) (d f:Int) (p q:ap) (lv:Value) (cs:List iC) (w:World) (hl:fu L w lv cs) (hL:L<=w.heap.size) (V:bG B w (.agg #[.slice a n y,.int .i64 d]) p) (W:bG B w (.agg #[.slice b M l,.int .i64 f]) q) (O:B<=w.heap.size)
  (X:w.cell? ⟨t,0,none⟩=some (.slice a n y)) (Y:w.cell? ⟨t,1,none⟩=some (.int .i64 d)) (Z:w.cell? ⟨u,0,none⟩=some (.slice b M l)) (h3:w.cell? ⟨u,1,none⟩=some (.int .i64 f)) (o:t<w.heap.size) (r:u<w.heap.size):
  Calls Tryz.prog 240 #[lv,.func (.func 241) #[] #[.pointer (some ⟨t,0,none⟩),.pointer (some ⟨u,0,none⟩)]] w λe v=>e=.returned (.int .i64 (aD (λc=>dJ p q (eW c)) 0 cs))/\Below w.heap.size w v:=by
 have HC:Hid (∀ A C D E F v,Below w.heap.size w v->Calls Tryz.prog 241 #[.agg #[.int .i64 A,.int .i64 C,.int .i64 D,.int .i64 E,.int .i64 F],.pointer (some ⟨t,0,none⟩),.pointer (some ⟨u,0,none⟩)] v λe P=>e=.returned (.bool (dJ p q [A,C,D,E,F]))/\Below v.heap.size v P):=λA C D E F v h=>
  uJ B t u a b n y M l d f p q A C D E F v (V.later h O) (W.later h O) (Nat.le_trans O h.size) ((h.cell (p:=⟨t,0,none⟩) o).trans X) ((h.cell (p:=⟨t,1,none⟩) o).trans Y) ((h.cell (p:=⟨u,0,none⟩) r).trans Z) ((h.cell (p:=⟨u,1,none⟩) r).trans h3) (Nat.lt_of_lt_of_le o h.size) (Nat.lt_of_lt_of_le r h.size)
 obtain⟨g,a1,rfl,a6,a7,G⟩:=hl
 have Q:=hid G
 clear G V W X Y Z h3 o r
 have a8:=ag
 generalize hN:cs.length=N at*
 have I:=hid hN
 clear hN
 go_enter Tryz.func240,Tryz.ntmps240
 go_wp2
 go_loopw [8] (λi wr=>∃ k:Nat,k<=N/\i=.int .i64 k/\Hid (aD (λc=>dJ p q (eW c)) 0 cs=aD (λc=>dJ p q (eW c)) k (cs.drop k))/\Below w.heap.size w wr) (λi _=>N-(intOf i).toNat)
 case atStart=>exact⟨0,by omega,rfl,rfl,Below.refl _ _⟩
 case round=>
  obtain⟨k,hk,rfl,H,j⟩:=hrel
  obtain⟨wo,R⟩:∃ x,x=wr:=⟨_,rfl⟩
  subst R
  have i0:(0:Int)<=(k:Int):=by omega
  have aa:=j.size
  by_cases ac:k<N
  ·have i1:(k:Int)<(N:Int):=by omega
   obtain⟨c,z⟩:∃ c,cs[k]?=some c:=⟨cs[k]'(by rw[I.out];omega),by simp⟩
   obtain⟨gb,go,rfl,ad,J⟩:=Q.out k c z
   have S:Hid (aD (λc=>dJ p q (eW c)) k (cs.drop k)=if dJ p q (eW c)=true then (k:Int) else aD (λc=>dJ p q (eW c)) (k+1) (cs.drop (k+1))):=kV (λc=>dJ p q (eW c)) cs k c z
   obtain⟨c0,c1,c2,c3,c4⟩:=J.later j (by omega)
   have m:=HC.out c.1 c.2.1 c.2.2.1 c.2.2.2.1 c.2.2.2.2 wo j
   have HF:Hid (dJ p q (eW c)=dJ p q [c.1,c.2.1,c.2.2.1,c.2.2.2.1,c.2.2.2.2]):=rfl
   generalize dJ p q [c.1,c.2.1,c.2.2.1,c.2.2.2.1,c.2.2.2.2]=lo at*
   have s:Hid _:=m
   clear m J z
   generalize c.1=A at*
   generalize c.2.1=C at*
   generalize c.2.2.1=D at*
   generalize c.2.2.2.1=E at*
   generalize c.2.2.2.2=F at*
   go_wp2_with (first | (go_at_call 241;go_must (refine Calls.mono s.out ?_;rintro e w2 ⟨rfl,T⟩)))
   all_goals have K:Below w.heap.size w w2:=Below.thenOf j T j.size
   ·have U:dJ p q (eW c)=true:=by rw[HF.out];assumption
    go_ret
    exact⟨by rw[H.out,S.out,if_pos U];rfl,K⟩
   ·have U:¬dJ p q (eW c)=true:=by rw[HF.out];simp_all
    exact⟨⟨k+1,by omega,by go_num,by unfold Hid;rw[H.out,S.out,if_neg U],K⟩,by simp[intOf];omega⟩
  ·go_wp2
   go_ret
   exact⟨by rw[H.out,List.drop_eq_nil_of_le (by rw[I.out];omega)];rfl,j⟩
end Go.Proofs.YtnpdhopjpjickaaGreatDoor
end
section
set_option linter.all false
set_option maxRecDepth 100000
namespace Go.Proofs.YtnpdhopjpjickaaGreatDoor
open Go.RowKit Go.Maps
def eh (s:Bs):al × Int:=
 if bI kN ((ar s).getD 0 [])<0\/(bI kN ((ar s).getD 0 [])=3/\(ar s).length≠2)\/(bI kN ((ar s).getD 0 [])<3/\(ar s).length≠3) then (cr,1)
 else match cS ((ar s).getD 1 []) with
  | none=>(cr,1)
  | some c=>if bI kN ((ar s).getD 0 [])=2 then (match cS ((ar s).getD 2 []) with
    | none=>(cr,1)
    | some f=>((3,c,f,[],0),0))
   else if bI kN ((ar s).getD 0 [])=3 then ((4,c,0,[],0),0)
   else ((bI kN ((ar s).getD 0 [])+1,c,0,(cy ((ar s).getD 2 [])).1),(cy ((ar s).getD 2 [])).2)
theorem Ct (s:Bs):dS s=if (eh s).2=0 then jG (eh s).1 else (cr,(eh s).2):=by
 unfold dS eh
 split
 ·rfl
 ·cases cS ((ar s).getD 1 []) with
  | none=>rfl
  | some c=>
   simp only[]
   split
   ·cases cS ((ar s).getD 2 []) with
    | none=>rfl
    | some f=>rfl
   ·split
    ·rfl
    ·rfl
abbrev jZ (s:ByteArray) (w:World):Prop:=Calls Tryz.prog 148 #[.string s] w λe a=>∃ v,e=.returned (.tuple #[v,.int .i64 (eh s.data.toList).2])/\gE w.heap.size a v (eh s.data.toList).1/\Below w.heap.size w a
set_option maxHeartbeats 4000000 in
theorem AF (s:ByteArray) (G:s.size<=60000) (w:World) (V:dX w) (d:bI kN ((ar s.data.toList).getD 0 [])<0\/(bI kN ((ar s.data.toList).getD 0 [])=3/\(ar s.data.toList).length≠2)\/(bI kN ((ar s.data.toList).getD 0 [])<3/\(ar s.data.toList).length≠3)):jZ s w:=by
 have c:Hid (eh s.data.toList=(cr,1)):=by unfold Hid eh;rw[if_pos d]
 have HE:Hid (∀ b,Below w.heap.size w b->dX b):=λb h=>V.later h
 clear V
 obtain⟨N,g,ao,av,A,H⟩:=iX s G
 have HM:=hid g
 have b0:=hid A
 obtain⟨k,r⟩:∃ u,N[0]?=some u:=⟨N[0]'(by omega),by simp⟩
 have O:k.size<=60000:=A k (List.mem_of_getElem? r)
 have I:(ar s.data.toList).getD 0 []=k.data.toList:=by
  rw[<-g,List.getD_eq_getElem?_getD,List.getElem?_map,r]
  rfl
 have l:(ar s.data.toList).length=N.length:=by rw[<-g];simp
 obtain⟨y,t⟩:∃ y,y=w.alloc (.cells #[.int .i64 0,.int .i64 0,.int .i64 0,.slice none 0 0,.int .i64 0] 78):=⟨_,rfl⟩
 have P:y.heap[w.heap.size]?=some (.cells #[.int .i64 0,.int .i64 0,.int .i64 0,.slice none 0 0,.int .i64 0] 78 (0,0)):=by rw[t];exact af _ _
 have x:Below w.heap.size w y:=by rw[t];exact (Below.refl _ _).alloc (Nat.le_refl _) _
 have Q:Hid (∀ b,Below y.heap.size y b->b.heap[w.heap.size]?=some (.cells #[.int .i64 0,.int .i64 0,.int .i64 0,.slice none 0 0,.int .i64 0] 78 (0,0))/\Below w.heap.size w b):=λb h=>⟨(h.block _ (lt_of_block P)).trans P,Below.thenOf x h x.size⟩
 obtain⟨mm,W⟩:=(HE.out y x).1
 have z:Hid _:=H mm y W
 have X:=hid t
 clear t P x H W g A
 rw[I,l] at d
 have R:Hid (∀ b,Calls Tryz.prog 182 #[.string k] b λe m=>e=.returned (.tuple #[.int .i64 (1+bI kN k.data.toList),.bool (decide (0<=bI kN k.data.toList))])/\Below b.heap.size b m):=λb=>gM k b
 have B:=kU kN k.data.toList
 have C:=yY k.data.toList
 have S:=hid r
 clear I l r O
 generalize bI kN k.data.toList=J at*
 generalize K:N.length=T at*
 have b2:=hid K
 clear K
 go_enter Tryz.func148,Tryz.ntmps148
 go_wp2_with fail
 rw[<-X.out]
 go_at_call 117
 refine Calls.mono z.out ?_
 rintro e w1 ⟨SB,b3,rfl,b4,b5,D,L,Y,n⟩
 have x0:=n 0 k S.out
 have n0:(0:Int)<(T:Int):=by omega
 clear n z X L
 go_wp2_with fail
 go_at_call 182
 refine Calls.mono (R.out _) ?_
 rintro e F ⟨rfl,M⟩
 have i:=Below.thenOf D M D.size
 clear M D x0
 by_cases o:J<0
 ·have U:decide (0<=J)=false:=by simp;omega
  rw[U]
  clear d B C o
  obtain⟨a,f⟩:=Q.out F i
  have Z:=lt_of_block a
  obtain⟨z0,z1,z2,z3,z4⟩:=bw a
  have f0:F.frozen? ⟨w.heap.size,0,none⟩=false:=by simp[World.frozen?,a]
  have f1:F.frozen? ⟨w.heap.size,1,none⟩=false:=by simp[World.frozen?,a]
  have f2:F.frozen? ⟨w.heap.size,2,none⟩=false:=by simp[World.frozen?,a]
  have f3:F.frozen? ⟨w.heap.size,3,none⟩=false:=by simp[World.frozen?,a]
  have f4:F.frozen? ⟨w.heap.size,4,none⟩=false:=by simp[World.frozen?,a]
  have q:=hid f
  clear a f i
  go_wp2_with fail
  refine bodyPost_ret (v:=.tuple #[.agg #[.int .i64 0,.int .i64 0,.int .i64 0,.slice none 0 0,.int .i64 0],.int .i64 1]) ?_ rfl ⟨_,by rw[c.out],by rw[c.out];exact dO _ _,?_⟩
  ·rw[results_cell_tmp rfl]
   go_simp
  ·exact (((((q.out.setCell (p:=⟨w.heap.size,0,none⟩) (Nat.le_refl _) _).setCell (p:=⟨w.heap.size,1,none⟩) (Nat.le_refl _) _).setCell (p:=⟨w.heap.size,2,none⟩) (Nat.le_refl _) _).setCell (p:=⟨w.heap.size,3,none⟩) (Nat.le_refl _) _).setCell (p:=⟨w.heap.size,4,none⟩) (Nat.le_refl _) _)
 ·have U:decide (0<=J)=true:=by simp;omega
  rw[U]
  by_cases h3:J=3
  ·have ac:((T:Int) != 2)=true:=by simp;omega
   subst h3
   have E:Hid (∀ b,Calls Tryz.prog 183 #[.int .i64 4] b λe m=>e=.returned (.int .i64 2)/\m=b):=λb=>oG b
   clear d B C o
   go_wp2_with fail
   go_at_call 183
   refine Calls.mono (E.out _) ?_
   rintro e j ⟨rfl,rfl⟩
   obtain⟨a,f⟩:=Q.out j i
   have Z:=lt_of_block a
   obtain⟨z0,z1,z2,z3,z4⟩:=bw a
   have f0:j.frozen? ⟨w.heap.size,0,none⟩=false:=by simp[World.frozen?,a]
   have f1:j.frozen? ⟨w.heap.size,1,none⟩=false:=by simp[World.frozen?,a]
   have f2:j.frozen? ⟨w.heap.size,2,none⟩=false:=by simp[World.frozen?,a]
   have f3:j.frozen? ⟨w.heap.size,3,none⟩=false:=by simp[World.frozen?,a]
   have f4:j.frozen? ⟨w.heap.size,4,none⟩=false:=by simp[World.frozen?,a]
   have q:=hid f
   clear a f i
   go_wp2_with fail
   refine bodyPost_ret (v:=.tuple #[.agg #[.int .i64 0,.int .i64 0,.int .i64 0,.slice none 0 0,.int .i64 0],.int .i64 1]) ?_ rfl ⟨_,by rw[c.out],by rw[c.out];exact dO _ _,?_⟩
   ·rw[results_cell_tmp rfl]
    go_simp
   ·exact (((((q.out.setCell (p:=⟨w.heap.size,0,none⟩) (Nat.le_refl _) _).setCell (p:=⟨w.heap.size,1,none⟩) (Nat.le_refl _) _).setCell (p:=⟨w.heap.size,2,none⟩) (Nat.le_refl _) _).setCell (p:=⟨w.heap.size,3,none⟩) (Nat.le_refl _) _).setCell (p:=⟨w.heap.size,4,none⟩) (Nat.le_refl _) _)
  ·have ad:((T:Int) != 3)=true:=by simp;omega
   have E:Hid (∀ b,Calls Tryz.prog 183 #[.int .i64 (1+J)] b λe m=>e=.returned (.int .i64 3)/\m=b):=λb=>iP (by omega) b
   clear d B C o h3
   go_wp2_with fail
   go_at_call 183
   refine Calls.mono (E.out _) ?_
   rintro e j ⟨rfl,rfl⟩
   obtain⟨a,f⟩:=Q.out j i
   have Z:=lt_of_block a
   obtain⟨z0,z1,z2,z3,z4⟩:=bw a
   have f0:j.frozen? ⟨w.heap.size,0,none⟩=false:=by simp[World.frozen?,a]
   have f1:j.frozen? ⟨w.heap.size,1,none⟩=false:=by simp[World.frozen?,a]
   have f2:j.frozen? ⟨w.heap.size,2,none⟩=false:=by simp[World.frozen?,a]
   have f3:j.frozen? ⟨w.heap.size,3,none⟩=false:=by simp[World.frozen?,a]
   have f4:j.frozen? ⟨w.heap.size,4,none⟩=false:=by simp[World.frozen?,a]
   have q:=hid f
   clear a f i
   go_wp2_with fail
   refine bodyPost_ret (v:=.tuple #[.agg #[.int .i64 0,.int .i64 0,.int .i64 0,.slice none 0 0,.int .i64 0],.int .i64 1]) ?_ rfl ⟨_,by rw[c.out],by rw[c.out];exact dO _ _,?_⟩
   ·rw[results_cell_tmp rfl]
    go_simp
   ·exact (((((q.out.setCell (p:=⟨w.heap.size,0,none⟩) (Nat.le_refl _) _).setCell (p:=⟨w.heap.size,1,none⟩) (Nat.le_refl _) _).setCell (p:=⟨w.heap.size,2,none⟩) (Nat.le_refl _) _).setCell (p:=⟨w.heap.size,3,none⟩) (Nat.le_refl _) _).setCell (p:=⟨w.heap.size,4,none⟩) (Nat.le_refl _) _)
end Go.Proofs.YtnpdhopjpjickaaGreatDoor
end
