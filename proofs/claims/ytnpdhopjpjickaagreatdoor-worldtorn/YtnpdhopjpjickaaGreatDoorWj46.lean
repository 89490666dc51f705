/- Joined: Wp9 WoD Kpt. -/
import Derived.Test.YtnpdhopjpjickaaGreatDoorWj44
import Derived.Test.YtnpdhopjpjickaaGreatDoorWj45
import Derived.Test.YtnpdhopjpjickaaGreatDoorWj01
import Derived.Test.YtnpdhopjpjickaaGreatDoorWj38
import Derived.Test.YtnpdhopjpjickaaGreatDoorWj43
section
set_option linter.all false
set_option maxRecDepth 100000
set_option maxHeartbeats 4000000
namespace Go.Proofs.YtnpdhopjpjickaaGreatDoor
open Go.RowKit Go.Maps
theorem jq {x:aq} {r:al} (i:cg x=0) (j:x.2.2=true) (h:cN x r=0):az (cq x r)=0/\cq x r=f6 x.2.1 r/\iz x r=ez x.1 r/\dj x.1 r=0/\eH x.2.1 r=0:=by
 have b:dj x.1 r=0:=by
  unfold cN at h
  split at h
  ·assumption
  ·exact h
 have a:eH x.2.1 r=0:=by
  unfold cN at h
  rwa [if_pos b] at h
 have c:cq x r=f6 x.2.1 r:=by unfold cq;rw[if_pos h]
 have k:iz x r=ez x.1 r:=by unfold iz;rw[if_pos h]
 obtain⟨n,e,d,f,l,-⟩:=q9 i j
 refine⟨?_,c,k,b,a⟩
 rw[c]
 rw[e] at a |-
 obtain⟨o,p,g,m⟩:=vJ d f l a
 simp only at g |-
 rw[g]
 exact eQ d f m
theorem tm {x:aq} {y:al} (f:cg x=0) (c:x.2.2=true) (k:1<=y.1/\y.1<=4):bD x y=pB x (aP y)/\d8 x y=xE x (aP y):=by
 have e:bD x y=pB x (aP y):=by
  unfold bD pB
  rw[if_neg (by omega),if_neg (by rw[c];simp;omega),if_neg (by omega),if_neg (by omega),if_neg (show ¬y.1=7 by omega)]
  by_cases a:cN x (aP y)=0
  ·obtain⟨-,d,-,g,i⟩:=jq f c a
   rw[if_pos g,if_pos i,if_pos a,d]
  ·rw[if_neg a]
   unfold cN at a |-
   split
   ·rename_i h
    rw[if_pos h] at a
    rw[if_neg a]
   ·rfl
 refine⟨e,?_⟩
 unfold d8 xE
 rw[e]
 by_cases b:pB x (aP y)=0
 ·rw[if_pos b,if_pos b]
  have a:cN x (aP y)=0:=by
   unfold pB at b
   split at b
   ·assumption
   ·exact b
  obtain⟨-,d,j,-,-⟩:=jq f c a
  unfold fH
  rw[if_neg (by omega),if_neg (by omega),if_neg (by omega),d,j]
 ·rw[if_neg b,if_neg b]
theorem wG {x:aq} {y:al} (d:cg x=0) (b:x.2.2=true) (c:y.1=7):bD x y=cN x (aP y)/\d8 x y=pT x (aP y) y.2.2.1:=by
 have e:bD x y=cN x (aP y):=by
  unfold bD
  rw[if_neg (by omega),if_neg (by rw[b];simp;omega),if_neg (by omega),if_neg (by omega),if_pos c]
  unfold cN
  split
  ·split
   ·rename_i h;exact h.symm
   ·rfl
  ·rfl
 refine⟨e,?_⟩
 unfold d8 pT
 rw[e]
 by_cases a:cN x (aP y)=0
 ·rw[if_pos a,if_pos a]
  obtain⟨-,f,-,-,g⟩:=jq d b a
  unfold fH
  rw[if_neg (by omega),if_neg (by omega),if_pos c,f]
  have:(f6 x.2.1 (aP y)).1=x.2.1.1:=by unfold f6;rw[if_pos g]
  rw[this]
 ·rw[if_neg a,if_neg a]
theorem uM {x:aq} {y:al} (b:x.2.2=true) (a:y.1=5):bD x y=0/\d8 x y=(aA,x.2.1,false):=by
 have e:bD x y=0:=by
  unfold bD
  rw[if_neg (by omega),if_neg (by rw[b];simp;omega),if_pos a]
 refine⟨e,?_⟩
 unfold d8 fH
 rw[if_pos e,if_pos a]
theorem wm {x:aq} {y:al} (b:az x.2.1=0) (c:x.2.2=false) (a:y.1=6):bD x y=jN x.2.1/\d8 x y=lj x.2.1:=by
 have e:bD x y=jN x.2.1:=by
  unfold bD jN
  rw[if_neg (by omega),if_neg (by rw[c,a];simp),if_neg (by omega),if_pos a,if_pos b]
 refine⟨e,?_⟩
 have d:fH x y=((aK (cR x.2.1)).1,fX x.2.1,true):=by
  unfold fH
  rw[if_neg (by omega),if_pos a]
 unfold d8 lj
 rw[e,d]
theorem uv (B:Nat) (wv xv:Value) (x:aq) (y:al) (w:World) (he:dX w) (hx:aC B w wv x) (hy:cV B w xv y) (M:B<=w.heap.size) (hr:cg x=0):
  Calls Tryz.prog 26 #[wv,xv] w λe a=>∃ v,e=.returned (.tuple #[v,.int .i64 (bD x y)])/\mx (λk=>k<w.heap.size) a v (d8 x y)/\Below w.heap.size w a:=by
 obtain⟨hg,hk⟩:=iV hr
 have m:Hid (∀ a,Below w.heap.size w a->Calls Tryz.prog 51 #[wv,xv] a λe g=>∃ v,e=.returned (.tuple #[v,.int .i64 (pB x (aP y))])/\mx (λk=>k<a.heap.size) g v (xE x (aP y))/\Below a.heap.size a g):=λa h=>xc B wv xv x y a (he.later h) (hx.later h M) (hy.later h M) (Nat.le_trans M h.size) hr
 have n:Hid (x.2.2=true->∀ a,Below w.heap.size w a->Calls Tryz.prog 50 #[wv,xv] a λe g=>∃ v,e=.returned (.tuple #[v,.int .i64 (cN x (aP y))])/\mx (λk=>k<a.heap.size) g v (pT x (aP y) y.2.2.1)/\Below a.heap.size a g):=λT a h=>AB B wv xv x y a (he.later h) (hx.later h M) (hy.later h M) (Nat.le_trans M h.size) hr λh=>(jq hr T h).1
 obtain⟨ca,cc,sa,sc,ta,tc,rfl,-,hd⟩:=hx.shape
 obtain⟨pa,pc,rfl,-⟩:=hy.shape
 have F:Hid (∀ a,Below w.heap.size w a->Calls Tryz.prog 35 #[.agg #[.slice sa x.2.1.1.length sc,.slice ta x.2.1.2.length tc]] a λe g=>∃ v,e=.returned v/\mx (λk=>k<a.heap.size) g v (aA,x.2.1,false)/\Below a.heap.size a g):=λa h=>pb B _ _ a (hd.later h M) (Nat.le_trans M h.size) ⟨(dK hk).1,(dK hk).2.1⟩
 have G:Hid (∀ a,Below w.heap.size w a->Calls Tryz.prog 36 #[.agg #[.slice sa x.2.1.1.length sc,.slice ta x.2.1.2.length tc]] a λe g=>∃ v,e=.returned (.tuple #[v,.int .i64 (jN x.2.1)])/\mx (λk=>k<a.heap.size) g v (lj x.2.1)/\Below a.heap.size a g):=λa h=>tU B _ _ a (he.later h) (hd.later h M) (Nat.le_trans M h.size) (vW hk)
 have H4:Hid (y.1<1\/7<y.1->bD x y=4/\d8 x y=fF):=λh=>by
  have e:bD x y=4:=by unfold bD;rw[if_pos h]
  exact⟨e,by unfold d8;rw[e,if_neg (by decide)]⟩
 have H6:Hid (¬(y.1<1\/7<y.1)->x.2.2=decide (y.1=6)->bD x y=6/\d8 x y=fF):=λh h2=>by
  have e:bD x y=6:=by unfold bD;rw[if_neg h,if_pos h2]
  exact⟨e,by unfold d8;rw[e,if_neg (by decide)]⟩
 have Hc:Hid (x.2.2=true->1<=y.1/\y.1<=4->bD x y=pB x (aP y)/\d8 x y=xE x (aP y)):=λT h=>tm hr T h
 have Ht:Hid (x.2.2=true->y.1=7->bD x y=cN x (aP y)/\d8 x y=pT x (aP y) y.2.2.1):=λT h=>wG hr T h
 have Hd:Hid (x.2.2=true->y.1=5->bD x y=0/\d8 x y=(aA,x.2.1,false)):=λT h=>uM T h
 have Hb:Hid (x.2.2=false->y.1=6->bD x y=jN x.2.1/\d8 x y=lj x.2.1):=λT h=>wm hk T h
 clear he hx hy hr hg hk M hd
 generalize aP y=R at*
 generalize bD x y=E at*
 generalize d8 x y=HR at*
 generalize pB x R=CE at*
 generalize xE x R=CR at*
 generalize cN x R=TE at*
 generalize pT x R y.2.2.1=TR at*
 obtain⟨C,dk,u⟩:=x
 obtain⟨k,ci,f,rs,d⟩:=y
 simp only at*
 generalize jN dk=BE at*
 generalize lj dk=BR at*
 generalize ((aA,dk,false):aq)=DR at*
 generalize C.length=nC at*
 generalize dk.1.length=nS at*
 generalize dk.2.length=nT at*
 generalize rs.length=nP at*
 obtain⟨o,g0,g1,g2⟩:=qL w #[.slice ca nC cc,.slice sa nS sc,.slice ta nT tc,.bool u] #[.int .i64 k,.int .i64 ci,.int .i64 f,.slice pa nP pc,.int .i64 d]
 obtain⟨W,hW⟩:∃ W,W=uR w #[.slice ca nC cc,.slice sa nS sc,.slice ta nT tc,.bool u] #[.int .i64 k,.int .i64 ci,.int .i64 f,.slice pa nP pc,.int .i64 d]:=⟨_,rfl⟩
 rw[<-hW] at o g0 g1 g2
 have HW:Hid (W=((w.alloc (.cells #[.slice ca nC cc,.slice sa nS sc,.slice ta nT tc,.bool u] 27)).alloc (.cells #[.int .i64 k,.int .i64 ci,.int .i64 f,.slice pa nP pc,.int .i64 d] 32)).alloc (.cells #[.slice none 0 0,.slice none 0 0,.slice none 0 0,.bool false] 27)):=hW
 have H:Hid (∀ a,Below W.heap.size W a->a.heap[w.heap.size+1+1]?=some (.cells #[.slice none 0 0,.slice none 0 0,.slice none 0 0,.bool false] 27 (0,0))/\Below w.heap.size w a):=λa h=>⟨(h.block _ (lt_of_block g2)).trans g2,Below.thenOf o h o.size⟩
 have Q:Hid (∀ a v X,Below W.heap.size W a->mx (λk=>k<W.heap.size) a v X->∃ q I r s J t z K A L D,v=.agg #[.slice q I r,.slice s J t,.slice z K A,.bool L]/\(D=(((a.setCell ⟨w.heap.size+1+1,0,none⟩ (.slice q I r)).setCell ⟨w.heap.size+1+1,1,none⟩ (.slice s J t)).setCell ⟨w.heap.size+1+1,2,none⟩ (.slice z K A)).setCell ⟨w.heap.size+1+1,3,none⟩ (.bool L)/\D.heap[w.heap.size+1+1]?=some (.cells #[.slice q I r,.slice s J t,.slice z K A,.bool L] 27 (0,0))/\Hid (mx (λk=>k<w.heap.size) D (.agg #[.slice q I r,.slice s J t,.slice z K A,.bool L]) X/\Below w.heap.size w D))):=λa v X h hx=>by
  obtain⟨q,r,s,t,z,A,e,-⟩:=hx.at.shape
  subst e
  obtain⟨D,h1,h2,h3⟩:=fJ (H.out a h).1 hx (lt_of_block g2) (H.out a h).2 (Nat.le_trans (Nat.le_succ _) (Nat.le_succ _)) (λk h=>Nat.lt_of_lt_of_le h o.size)
  exact⟨q,_,r,s,_,t,z,_,A,_,D,rfl,h1,h2,h3⟩
 obtain⟨x0,x1,x2,x3,-⟩:=am g0
 have U:W.cell? ⟨w.heap.size,1+1,none⟩=some (.slice ta nT tc):=x2
 obtain⟨y0,y1,y2,y3,y4⟩:=bw g1
 obtain⟨Z,z1,z2,z3,f0,f1,f2,f3⟩:=am g2
 have V:Hid (Below w.heap.size w W):=o
 have Y:Hid (mx (λk=>k<w.heap.size) W (.agg #[.slice none 0 0,.slice none 0 0,.slice none 0 0,.bool false]) fF/\Below w.heap.size w W):=⟨wg _ _,o⟩
 clear hW o g0 g1 g2
 by_cases b:k<1\/7<k
 ·have l:Hid _:=H4.out b
  clear m n F G H4 H6 Hc Ht Hd Hb Q H
  rcases b with h | h
  all_goals
   go_enter Tryz.func26,Tryz.ntmps26
   go_wp2_with fail
   rw[<-HW.out]
   refine bodyPost_ret (v:=.tuple #[.agg #[.slice none 0 0,.slice none 0 0,.slice none 0 0,.bool false],.int .i64 4]) ?_ rfl ⟨_,by rw[l.out.1],by rw[l.out.2];exact Y.out⟩
   rw[results_cell_tmp rfl]
   go_simp
 have h1:¬k<1:=λe=>b (.inl e)
 have h7:¬7<k:=λe=>b (.inr e)
 by_cases S:u=decide (k=6)
 ·have l:Hid _:=H6.out b S
  clear m n F G H4 H6 Hc Ht Hd Hb Q H b
  by_cases N:k=6
  ·subst N
   obtain rfl:u=true:=S
   go_enter Tryz.func26,Tryz.ntmps26
   go_wp2_with fail
   rw[<-HW.out]
   refine bodyPost_ret (v:=.tuple #[.agg #[.slice none 0 0,.slice none 0 0,.slice none 0 0,.bool false],.int .i64 6]) ?_ rfl ⟨_,by rw[l.out.1],by rw[l.out.2];exact Y.out⟩
   rw[results_cell_tmp rfl]
   go_simp
  ·have hq:(k==6)=false:=by simpa using N
   rw[decide_eq_false N] at S
   subst S
   clear N
   go_enter Tryz.func26,Tryz.ntmps26
   go_wp2_with fail
   rw[<-HW.out]
   refine bodyPost_ret (v:=.tuple #[.agg #[.slice none 0 0,.slice none 0 0,.slice none 0 0,.bool false],.int .i64 6]) ?_ rfl ⟨_,by rw[l.out.1],by rw[l.out.2];exact Y.out⟩
   rw[results_cell_tmp rfl]
   go_simp
 clear H4 H6 Y
 by_cases N:k=6
 ·subst N
  obtain rfl:u=false:=by
   cases u
   ·rfl
   ·exact absurd rfl S
  have l:Hid _:=Hb.out rfl rfl
  clear S b m n F Hc Ht Hd Hb
  go_enter Tryz.func26,Tryz.ntmps26
  go_wp2_with fail
  rw[<-HW.out]
  go_at_call 36
  refine Calls.mono (G.out _ V.out) ?_
  rintro e O ⟨v,rfl,i,c⟩
  obtain⟨q,I,r,s,J,t,z,K,A,L,D,rfl,j,P,HF⟩:=Q.out O v _ c i
  have p:Hid (D=_):=j
  clear x0 x1 x2 x3 U y0 y1 y2 y3 y4 Z z1 z2 z3 f0 f1 f2 f3
  obtain⟨Z,z1,z2,z3,f0,f1,f2,f3⟩:=am (H.out O c).1
  obtain⟨v0,v1,v2,v3,-⟩:=am P
  clear j P i c Q H
  go_wp2_with fail
  rw[<-p.out]
  refine bodyPost_ret (v:=.tuple #[.agg #[.slice q I r,.slice s J t,.slice z K A,.bool L],.int .i64 BE]) ?_ rfl ⟨_,by rw[l.out.1],by rw[l.out.2];exact HF.out⟩
  rw[results_cell_tmp rfl]
  go_simp
 obtain rfl:u=true:=by
  cases u
  ·exact absurd (decide_eq_false N).symm S
  ·rfl
 have bd:(k==6)=false:=by simpa using N
 by_cases h5:k=5
 ·subst h5
  have l:Hid _:=Hd.out rfl rfl
  clear S b m n G Hc Ht Hd Hb N bd
  go_enter Tryz.func26,Tryz.ntmps26
  go_wp2_with fail
  rw[<-HW.out]
  go_at_call 35
  refine Calls.mono (F.out _ V.out) ?_
  rintro e O ⟨v,rfl,i,c⟩
  obtain⟨q,I,r,s,J,t,z,K,A,L,D,rfl,j,P,HF⟩:=Q.out O v _ c i
  have p:Hid (D=_):=j
  clear x0 x1 x2 x3 U y0 y1 y2 y3 y4 Z z1 z2 z3 f0 f1 f2 f3
  obtain⟨Z,z1,z2,z3,f0,f1,f2,f3⟩:=am (H.out O c).1
  obtain⟨v0,v1,v2,v3,-⟩:=am P
  clear j P i c Q H
  go_wp2_with fail
  rw[<-p.out]
  refine bodyPost_ret (v:=.tuple #[.agg #[.slice q I r,.slice s J t,.slice z K A,.bool L],.int .i64 0]) ?_ rfl ⟨_,by rw[l.out.1],by rw[l.out.2];exact HF.out⟩
  rw[results_cell_tmp rfl]
  go_simp
 have d1:(k==5)=false:=by simpa using h5
 by_cases b2:k=7
 ·subst b2
  have l:Hid _:=Ht.out rfl rfl
  clear S b m F G Hc Ht Hd Hb N bd d1 h5
  go_enter Tryz.func26,Tryz.ntmps26
  go_wp2_with fail
  rw[<-HW.out]
  go_at_call 50
  refine Calls.mono (n.out (by trivial) _ V.out) ?_
  rintro e O ⟨v,rfl,i,c⟩
  obtain⟨q,I,r,s,J,t,z,K,A,L,D,rfl,j,P,HF⟩:=Q.out O v _ c i
  have p:Hid (D=_):=j
  clear x0 x1 x2 x3 U y0 y1 y2 y3 y4 Z z1 z2 z3 f0 f1 f2 f3
  obtain⟨Z,z1,z2,z3,f0,f1,f2,f3⟩:=am (H.out O c).1
  obtain⟨v0,v1,v2,v3,-⟩:=am P
  clear j P i c Q H n
  go_wp2_with fail
  rw[<-p.out]
  refine bodyPost_ret (v:=.tuple #[.agg #[.slice q I r,.slice s J t,.slice z K A,.bool L],.int .i64 TE]) ?_ rfl ⟨_,by rw[l.out.1],by rw[l.out.2];exact HF.out⟩
  rw[results_cell_tmp rfl]
  go_simp
 have l:Hid _:=Hc.out rfl (by omega)
 have de:(k==7)=false:=by simpa using b2
 clear S b n F G Hc Ht Hd Hb N h5 b2
 go_enter Tryz.func26,Tryz.ntmps26
 go_wp2_with fail
 rw[<-HW.out]
 go_at_call 51
 refine Calls.mono (m.out _ V.out) ?_
 rintro e O ⟨v,rfl,i,c⟩
 obtain⟨q,I,r,s,J,t,z,K,A,L,D,rfl,j,P,HF⟩:=Q.out O v _ c i
 have p:Hid (D=_):=j
 clear x0 x1 x2 x3 U y0 y1 y2 y3 y4 Z z1 z2 z3 f0 f1 f2 f3
 obtain⟨Z,z1,z2,z3,f0,f1,f2,f3⟩:=am (H.out O c).1
 obtain⟨v0,v1,v2,v3,-⟩:=am P
 clear j P i c Q H m
 go_wp2_with fail
 rw[<-p.out]
 refine bodyPost_ret (v:=.tuple #[.agg #[.slice q I r,.slice s J t,.slice z K A,.bool L],.int .i64 CE]) ?_ rfl ⟨_,by rw[l.out.1],by rw[l.out.2];exact HF.out⟩
 rw[results_cell_tmp rfl]
 go_simp
theorem mI (B:Nat) (A N:Value) (x:aq) (y:al) (w:World) (he:dX w) (O:aC B w A x) (hy:cV B w N y) (D:B<=w.heap.size) (G:lm x.2.1):
  Calls Tryz.prog 9 #[A,N] w λe a=>∃ v,e=.returned (.tuple #[v,.int .i64 (fI x y)])/\aC a.heap.size a v (fp x y)/\Below w.heap.size w a:=by
 have o:Hid (∀ a,Below w.heap.size w a->Calls Tryz.prog 13 #[A] a λe j=>e=.returned (.int .i64 (cg x))/\Below a.heap.size a j):=λa h=>kt B A x a (he.later h) (O.later h D) (Nat.le_trans D h.size) G
 have p:Hid (cg x=0->∀ a,Below w.heap.size w a->Calls Tryz.prog 26 #[A,N] a λe j=>∃ v,e=.returned (.tuple #[v,.int .i64 (bD x y)])/\mx (λk=>k<a.heap.size) j v (d8 x y)/\Below a.heap.size a j):=λhr a h=>uv B A N x y a (he.later h) (O.later h D) (hy.later h D) (Nat.le_trans D h.size) hr
 have F:Hid (fI x y=if cg x=0 then bD x y else cg x):=rfl
 have P:Hid (fp x y=if fI x y=0 then d8 x y else fF):=rfl
 have HZ:Hid (bD x y≠0->d8 x y=fF):=λh=>by unfold d8;rw[if_neg h]
 obtain⟨Q,S,T,U,V,X,rfl,-,-⟩:=O.shape
 obtain⟨Y,Z,rfl,-⟩:=hy.shape
 clear he O hy D G
 generalize bD x y=E at*
 generalize d8 x y=R at*
 generalize fI x y=DE at*
 generalize fp x y=DR at*
 generalize cg x=WE at*
 obtain⟨C,⟨s,t⟩,u⟩:=x
 obtain⟨k,ci,f,rs,d⟩:=y
 simp only at*
 generalize C.length=nC at*
 generalize s.length=nS at*
 generalize t.length=nT at*
 generalize rs.length=nP at*
 obtain⟨c,H,g1,I⟩:=qL w #[.slice Q nC S,.slice T nS U,.slice V nT X,.bool u] #[.int .i64 k,.int .i64 ci,.int .i64 f,.slice Y nP Z,.int .i64 d]
 obtain⟨W,hW⟩:∃ W,W=uR w #[.slice Q nC S,.slice T nS U,.slice V nT X,.bool u] #[.int .i64 k,.int .i64 ci,.int .i64 f,.slice Y nP Z,.int .i64 d]:=⟨_,rfl⟩
 rw[<-hW] at c H g1 I
 have HW:Hid (W=((w.alloc (.cells #[.slice Q nC S,.slice T nS U,.slice V nT X,.bool u] 27)).alloc (.cells #[.int .i64 k,.int .i64 ci,.int .i64 f,.slice Y nP Z,.int .i64 d] 32)).alloc (.cells #[.slice none 0 0,.slice none 0 0,.slice none 0 0,.bool false] 27)):=hW
 have HG:Hid (∀ a,Below W.heap.size W a->a.heap[w.heap.size]?=some (.cells #[.slice Q nC S,.slice T nS U,.slice V nT X,.bool u] 27 (0,0))/\a.heap[w.heap.size+1]?=some (.cells #[.int .i64 k,.int .i64 ci,.int .i64 f,.slice Y nP Z,.int .i64 d] 32 (0,0))/\a.heap[w.heap.size+1+1]?=some (.cells #[.slice none 0 0,.slice none 0 0,.slice none 0 0,.bool false] 27 (0,0))/\Below w.heap.size w a):=λa h=>⟨(h.block _ (lt_of_block H)).trans H,(h.block _ (lt_of_block g1)).trans g1,(h.block _ (lt_of_block I)).trans I,Below.thenOf c h c.size⟩
 have q:Hid (Below w.heap.size w W/\w.heap.size+1+1<W.heap.size):=⟨c,lt_of_block I⟩
 obtain⟨x0,x1,x2,x3,-⟩:=am H
 clear hW c H g1 I
 go_enter Tryz.func9,Tryz.ntmps9
 go_wp2_with fail
 rw[<-HW.out]
 go_at_call 13
 refine Calls.mono (o.out _ q.out.1) ?_
 rintro e w1 ⟨rfl,b⟩
 obtain⟨G0,G1,m,l⟩:=HG.out w1 b
 obtain⟨y0,y1,y2,y3,y4⟩:=bw G1
 clear x0 x1 x2 x3
 obtain⟨x0,x1,x2,x3,-⟩:=am G0
 obtain⟨z0,z1,z2,z3,f0,f1,f2,f3⟩:=am m
 by_cases g:WE=0
 case neg=>
  rw[if_neg g] at F
  rw[F.out,if_neg g] at P
  have hq:(WE != 0)=true:=by simpa using g
  obtain⟨W5,i,J,K⟩:=jd m l (by omega)
  have r:Hid (W5=_):=i
  obtain⟨v0,v1,v2,v3,-⟩:=am J
  clear g i J G0 G1 m l b o p HG
  go_wp2_with fail
  rw[<-r.out]
  refine bodyPost_ret (v:=.tuple #[.agg #[.slice none 0 0,.slice none 0 0,.slice none 0 0,.bool false],.int .i64 WE]) ?_ rfl ⟨_,by rw[F.out],by rw[P.out];exact K.out.1.at,K.out.2⟩
  rw[results_cell_tmp rfl]
  go_simp
 subst g
 rw[if_pos rfl] at F
 have b5:Hid (DR=R):=by
  unfold Hid
  rw[P.out,F.out]
  split
  ·rfl
  ·rename_i h;exact (HZ.out h).symm
 have n:Hid _:=p.out rfl w1 l
 clear p o P HZ G0 G1 m l
 go_wp2_with fail
 go_at_call 26
 refine Calls.mono n.out ?_
 rintro e w2 ⟨v,rfl,z,L⟩
 obtain⟨a0,c0,a1,c1,a2,c2,ev,-⟩:=z.at.shape
 subst ev
 generalize R.1.length=n0 at*
 generalize R.2.1.1.length=n1 at*
 generalize R.2.1.2.length=n2 at*
 obtain⟨-,-,m,M⟩:=HG.out w2 (Below.thenOf b L b.size)
 obtain⟨W5,i,J,K⟩:=fJ m z (Nat.lt_of_lt_of_le q.out.2 b.size) M (by omega) (λk h=>Nat.lt_of_lt_of_le h (Nat.le_trans q.out.1.size b.size))
 have r:Hid (W5=_):=i
 obtain⟨v0,v1,v2,v3,-⟩:=am J
 clear z0 z1 z2 z3 f0 f1 f2 f3 x0 x1 x2 x3 y0 y1 y2 y3 y4
 obtain⟨z0,z1,z2,z3,f0,f1,f2,f3⟩:=am m
 generalize R.2.2=ub at*
 clear i J m M L b z n HG
 go_wp2_with fail
 rw[<-r.out]
 refine bodyPost_ret (v:=.tuple #[.agg #[.slice a0 n0 c0,.slice a1 n1 c1,.slice a2 n2 c2,.bool ub],.int .i64 E]) ?_ rfl ⟨_,by rw[F.out],by rw[b5.out];exact K.out.1.at,K.out.2⟩
 rw[results_cell_tmp rfl]
 go_simp
end Go.Proofs.YtnpdhopjpjickaaGreatDoor
end
section
set_option linter.all false
set_option maxRecDepth 100000
set_option maxHeartbeats 8000000
namespace Go.Proofs.YtnpdhopjpjickaaGreatDoor
open Go.RowKit Go.Maps
theorem rN (B:Nat) (w:World):cw B w (.slice none 0 0) []:=⟨none,0,rfl,Nat.le_refl _,Nat.zero_le _,λi c h=>by simp at h⟩
theorem Bv (n:Nat) (f:n<=60) (w:World):(Instr.makeSlice 53 (.int .i64 n) (.int .i64 n)).run Tryz.prog w=.ok (.slice (some ⟨w.heap.size,0,none⟩) n n) (w.alloc (.cells (madeCells #[.int .i64 0] n) 35)):=by
 obtain⟨a,b,c,d,e⟩:=vO
 have:=run_make (P:=Tryz.prog) w 53 35 a _ Tryz.underlying53 b c .i64 .i64 n n (by omega) (Int.le_refl _) (by rw[e];omega) (by omega)
 rw[d] at this
 simpa [Value.cells] using this
structure DJ (w:World) (g n:Nat) (x:aq) (l:List al) (k:Nat) (wr:World) (v0 v1 v2 v3:Value):Prop where
 box:wr.heap[g]?=some (.cells #[v0,v1,v2,v3] 27 (0,0))
 wok:mx (λj=>j=g\/j=g+1\/j=w.heap.size+1) wr (.agg #[v0,v1,v2,v3]) (dY x (l.take k)).1
 right:cg (dY x (l.take k)).1=0
 row:∃ ys:List Value,wr.heap[g+1]?=some (.cells (cE (dY x (l.take k)).2++ys).toArray 35 (0,0))/\(dY x (l.take k)).2.length=k/\ys.length=n-k
 out:wr.heap[w.heap.size+1]?=some (.cells #[.slice none 0 0,.slice none 0 0,.slice none 0 0,.bool false] 27 (0,0))
 below:Below w.heap.size w wr
theorem DJ.step {w:World} {g n k:Nat} {x:aq} {l:List al} {wr w6 W:World} {C D E F u0 u1 u2 u3:Value} {y:al} (h:DJ w g n x l k wr C D E F) (L:l[k]?=some y) (P:k<n) (Q:w.heap.size+1<g) (f:Below wr.heap.size wr w6)
  (G:∀ j,j≠g->j≠g+1->j<w6.heap.size->W.heap[j]?=w6.heap[j]?) (u:Below w.heap.size w6 W) (v:W.heap[g]?=some (.cells #[u0,u1,u2,u3] 27 (0,0))) (i:∀ (xs:List Value),w6.heap[g+1]?=some (.cells xs.toArray 35 (0,0))->W.heap[g+1]?=some (.cells (xs.set k (.int .i64 (fI (dY x (l.take k)).1 y))).toArray 35 (0,0)))
  (M:fI (dY x (l.take k)).1 y=0->mx (λj=>j<wr.heap.size) w6 (.agg #[u0,u1,u2,u3]) (fp (dY x (l.take k)).1 y)) (N:fI (dY x (l.take k)).1 y≠0->u0=C/\u1=D/\u2=E/\u3=F):DJ w g n x l (k+1) W u0 u1 u2 u3:=by
 have e:dY x (l.take (k+1))=pH (dY x (l.take k)) y:=by
  rw[List.take_succ,L]
  exact Aa _ _ _
 have m:∀ a,Kx (λj=>j=g\/j=g+1\/j=w.heap.size+1) W a->Kx (λj=>j=g\/j=g+1\/j=w.heap.size+1) w6 a:=λa d=>⟨(u.mono (Nat.zero_le _)).trans d.1,λj o t=>(d.2 j o (Nat.lt_of_lt_of_le t u.size)).trans (G j (λe=>o (.inl e)) (λe=>o (.inr (.inl e))) t)⟩
 have O:=lt_of_block h.box
 obtain⟨H,p,q,r⟩:=h.row
 have A:=lt_of_block p
 obtain⟨z,c,rfl⟩:∃ z c,H=z :: c:=by
  cases H with
  | nil=>simp at r;omega
  | cons z c=>exact⟨z,c,rfl⟩
 have I:=i _ ((f.block _ A).trans p)
 have s:=lt_of_block h.out
 have B:(cE (dY x (l.take k)).2++z :: c).set k (.int .i64 (fI (dY x (l.take k)).1 y))=cE ((dY x (l.take k)).2++[fI (dY x (l.take k)).1 y])++c:=by
  have t:(cE (dY x (l.take k)).2).length=k:=by rw[iZ,q];omega
  rw[lO,List.set_append_right _ _ (by omega),t,Nat.sub_self]
  simp[cE]
 rw[B] at I
 have J:(pH (dY x (l.take k)) y).1=if fI (dY x (l.take k)).1 y=0 then fp (dY x (l.take k)).1 y else (dY x (l.take k)).1:=rfl
 have K:(pH (dY x (l.take k)) y).2=(dY x (l.take k)).2++[fI (dY x (l.take k)).1 y]:=rfl
 refine⟨v,?_,?_,⟨c,by rw[e,K];exact I,by rw[e,K];simp[q],by simp at r;omega⟩,?_,?_⟩
 ·rw[e,J]
  by_cases b:fI (dY x (l.take k)).1 y=0
  ·rw[if_pos b]
   exact λa d=>M b a ((m a d).back (Below.refl _ _) λj _ o=>by rcases o with rfl | rfl | rfl<;>assumption)
  ·rw[if_neg b]
   obtain⟨rfl,rfl,rfl,rfl⟩:=N b
   exact λa d=>(h.wok.later f λ_ _ e=>e) a (m a d)
 ·rw[e,J]
  by_cases b:fI (dY x (l.take k)).1 y=0
  ·rw[if_pos b]
   exact mj b
  ·rw[if_neg b]
   exact h.right
 ·exact (G _ (by omega) (by omega) (Nat.lt_of_lt_of_le s f.size)).trans ((f.block _ s).trans h.out)
 ·exact (h.below.trans (f.mono h.below.size)).trans u
theorem r6 (B:Nat) (v lv:Value) (x:aq) (l:List al) (w:World) (he:dX w) (hx:aC B w v x) (hl:bX B w lv l) (hB:B<=w.heap.size) (da:lm x.2.1):
  Calls Tryz.prog 21 #[v,lv] w λe b=>∃ v' ev,e=.returned (.tuple #[v',ev,.int .i64 (gC x l)])/\aC b.heap.size b v' (eT x l)/\cw b.heap.size b ev (im x l)/\Below w.heap.size w b:=by
 have b8:Hid (∀ b,Below w.heap.size w b->Calls Tryz.prog 13 #[v] b λe t=>e=.returned (.int .i64 (cg x))/\Below b.heap.size b t):=λb h=>kt B v x b (he.later h) (hx.later h hB) (Nat.le_trans hB h.size) da
 have N:Hid (cg x=0->∀ b,Below w.heap.size w b->Calls Tryz.prog 48 #[v] b λe t=>∃ d n0 f m n1 q r n2 s z,e=.returned (.agg #[.slice d n0 f,.slice m n1 q,.slice r n2 s,.bool z])/\mx (λk=>k<b.heap.size) t (.agg #[.slice d n0 f,.slice m n1 q,.slice r n2 s,.bool z]) x/\Below b.heap.size b t):=λh0 b h=>(zm B v x b (hx.later h hB) (Nat.le_trans hB h.size) h0).mono λe t ⟨v',h1,h2,h3⟩=>by
  obtain⟨d,f,m,q,r,s,e,-⟩:=h2.at.shape
  subst e
  exact⟨_,_,_,_,_,_,_,_,_,_,h1,h2,h3⟩
 have U:Hid (∀ b nv yv X y,Below w.heap.size w b->aC b.heap.size b nv X->cV b.heap.size b yv y->cg X=0->Calls Tryz.prog 26 #[nv,yv] b λe t=>∃ d n0 f m n1 q r n2 s z,e=.returned (.tuple #[.agg #[.slice d n0 f,.slice m n1 q,.slice r n2 s,.bool z],.int .i64 (fI X y)])/\(fI X y=0->mx (λk=>k<b.heap.size) t (.agg #[.slice d n0 f,.slice m n1 q,.slice r n2 s,.bool z]) (fp X y))/\Below b.heap.size b t):=λb nv yv X y h h1 h2 h3=>(uv _ nv yv X y b (he.later h) h1 h2 (Nat.le_refl _) h3).mono λe t ⟨v',k1,k2,k3⟩=>by
  obtain⟨d,f,m,q,r,s,e,-⟩:=k2.at.shape
  subst e
  have e:fI X y=bD X y:=by unfold fI;rw[if_pos h3]
  rw[e]
  exact⟨_,_,_,_,_,_,_,_,_,_,k1,λh0=>by unfold fp;rw[e,if_pos h0];exact k2,k3⟩
 have O:Hid (gC x l=if cg x=0 then (if 60<l.length then 2 else 0) else cg x):=rfl
 have HR:Hid (gC x l≠0->eT x l=fF/\im x l=[]):=λh=>⟨by unfold eT;rw[if_neg h],by unfold im;rw[if_neg h]⟩
 have V:Hid (gC x l=0->eT x l=(dY x l).1/\im x l=(dY x l).2):=λh=>⟨by unfold eT;rw[if_pos h],by unfold im;rw[if_pos h]⟩
 have HL:Hid (∀ b,Below w.heap.size w b->bX B b lv l):=λb h=>hl.later h hB
 obtain⟨ca,cc,sa,sc,ta,tc,rfl,-,-⟩:=hx.shape
 obtain⟨la,lc,rfl,-⟩:=hl
 have b9:=hid hB
 clear hx he da hB
 obtain⟨n,hn⟩:∃ n,n=l.length:=⟨_,rfl⟩
 have HN:=hid hn
 rw[<-hn] at O HL |-
 clear hn
 have HX:Hid (cg x=0->cg x=0):=id
 generalize A:cg x=WE at*
 have dl:=hid A
 clear A HX
 generalize gC x l=RE at*
 generalize eT x l=RW at*
 generalize im x l=RL at*
 obtain⟨nC,dn⟩:∃ n,n=x.1.length:=⟨_,rfl⟩
 obtain⟨nS,dp⟩:∃ n,n=x.2.1.1.length:=⟨_,rfl⟩
 obtain⟨nT,dq⟩:∃ n,n=x.2.1.2.length:=⟨_,rfl⟩
 obtain⟨u,hu⟩:∃ u,u=x.2.2:=⟨_,rfl⟩
 rw[<-dn,<-dp,<-dq,<-hu] at b8 N |-
 clear dn dp dq hu
 obtain⟨W,hW⟩:∃ W,W=(w.alloc (.cells #[.slice ca nC cc,.slice sa nS sc,.slice ta nT tc,.bool u] 27)).alloc (.cells #[.slice none 0 0,.slice none 0 0,.slice none 0 0,.bool false] 27):=⟨_,rfl⟩
 have Y:Below w.heap.size w W:=by rw[hW];exact ((Below.refl _ _).alloc (Nat.le_refl _) _).alloc (by simp) _
 have g0:W.heap[w.heap.size]?=some (.cells #[.slice ca nC cc,.slice sa nS sc,.slice ta nT tc,.bool u] 27 (0,0)):=by rw[hW];exact cj _ (bT _ _ rfl)
 have g1:W.heap[w.heap.size+1]?=some (.cells #[.slice none 0 0,.slice none 0 0,.slice none 0 0,.bool false] 27 (0,0)):=by rw[hW];exact bT _ _ (by simp only[World.size_alloc])
 have HG:Hid (∀ b,Below W.heap.size W b->b.heap[w.heap.size]?=some (.cells #[.slice ca nC cc,.slice sa nS sc,.slice ta nT tc,.bool u] 27 (0,0))/\b.heap[w.heap.size+1]?=some (.cells #[.slice none 0 0,.slice none 0 0,.slice none 0 0,.bool false] 27 (0,0))/\Below w.heap.size w b):=λb h=>⟨(h.block _ (lt_of_block g0)).trans g0,(h.block _ (lt_of_block g1)).trans g1,Below.thenOf Y h Y.size⟩
 have HW:=hid hW
 have Z:Hid (Below w.heap.size w W/\w.heap.size+1<W.heap.size):=⟨Y,lt_of_block g1⟩
 obtain⟨x0,x1,x2,x3,-⟩:=am g0
 clear hW Y g0 g1
 have fo:=ag
 go_enter Tryz.func21,Tryz.ntmps21
 go_wp2_with fail
 rw[<-HW.out]
 go_at_call 13
 refine Calls.mono (b8.out _ Z.out.1) ?_
 rintro e w1 ⟨rfl,ba⟩
 obtain⟨G0,G1,bb⟩:=HG.out w1 ba
 clear x0 x1 x2 x3 b8
 obtain⟨x0,x1,x2,x3,-⟩:=am G0
 obtain⟨z0,z1,z2,z3,f0,f1,f2,f3⟩:=am G1
 have B1:Hid (Below W.heap.size W w1/\Below w.heap.size w w1):=⟨ba,bb⟩
 obtain⟨W5,J,k5,HF⟩:=jd G1 bb (by omega)
 have P:=hid J
 obtain⟨v0,v1,v2,v3,-⟩:=am k5
 clear G0 G1 ba bb J k5
 by_cases A:WE=0
 case neg=>
  have hq:(WE != 0)=true:=by simpa using A
  rw[if_neg A] at O
  have HZ:Hid (RW=fF/\RL=[]):=HR.out (by rw[O.out];exact A)
  clear A N U HL HG HR V HN
  go_wp2_with fail
  rw[<-P.out]
  refine bodyPost_ret (v:=.tuple #[.agg #[.slice none 0 0,.slice none 0 0,.slice none 0 0,.bool false],.slice none 0 0,.int .i64 WE]) ?_ rfl ⟨_,_,by rw[O.out],by rw[HZ.out.1];exact HF.out.1.at,by rw[HZ.out.2];exact rN _ _,HF.out.2⟩
  rw[dC rfl]
  go_simp
 subst A
 rw[if_pos rfl] at O
 by_cases a3:60<n
 ·have e2:(60:Int)<(n:Int):=by omega
  rw[if_pos a3] at O
  have HZ:Hid (RW=fF/\RL=[]):=HR.out (by rw[O.out];decide)
  clear a3 N U HL HG HR V HN
  go_wp2_with fail
  rw[<-P.out]
  refine bodyPost_ret (v:=.tuple #[.agg #[.slice none 0 0,.slice none 0 0,.slice none 0 0,.bool false],.slice none 0 0,.int .i64 2]) ?_ rfl ⟨_,_,by rw[O.out],by rw[HZ.out.1];exact HF.out.1.at,by rw[HZ.out.2];exact rN _ _,HF.out.2⟩
  rw[dC rfl]
  go_simp
 have e2:¬(60:Int)<(n:Int):=by omega
 rw[if_neg a3] at O
 have e3:Hid _:=V.out O.out
 have b2:Hid _:=N.out rfl w1 B1.out.2
 have Q:=λw=>Bv n (by omega) w
 obtain⟨mc,bd⟩:∃ mc,mc=madeCells #[.int .i64 0] n:=⟨_,rfl⟩
 rw[<-bd] at Q
 have fT:∀ w,(Instr.makeSlice 53 (.int .i64 n) (.int .i64 n)).run Tryz.prog w=.ok (.slice (some ⟨w.heap.size,0,none⟩) n n) (w.alloc (.cells mc 35)):=Q
 have HM:Hid (mc.toList.length=n):=by unfold Hid;rw[bd];simp[size_madeCells]
 clear Q bd HR V N a3 HF P v0 v1 v2 v3 z0 z1 z2 z3 f0 f1 f2 f3
 go_wp2_with fail
 go_at_call 48
 refine Calls.mono b2.out ?_
 rintro e a ⟨d,n0,f,m,n1,q,r,n2,s,z,rfl,e4,e5⟩
 obtain⟨W3,R⟩:∃ W3,W3=(a.alloc (.cells #[.slice d n0 f,.slice m n1 q,.slice r n2 s,.bool z] 27)).alloc (.cells mc 35):=⟨_,rfl⟩
 have bf:Below a.heap.size a W3:=by rw[R];exact ((Below.refl _ _).alloc (Nat.le_refl _) _).alloc (by simp) _
 have a4:=Below.thenOf B1.out.1 e5 B1.out.1.size
 have bg:=Below.thenOf a4 bf a4.size
 have C:Hid (DJ w a.heap.size n x l 0 W3 (.slice d n0 f) (.slice m n1 q) (.slice r n2 s) (.bool z)):=by
  refine⟨by rw[R];exact cj _ (bT _ _ rfl),?_,dl.out,⟨mc.toList,?_,rfl,by rw[HM.out];rfl⟩,(HG.out W3 bg).2.1,(HG.out W3 bg).2.2⟩
  ·exact e4.later bf λk hk e=>by have:=Nat.lt_of_lt_of_le Z.out.2 B1.out.1.size;omega
  ·rw[R]
   refine (bT _ _ (by simp only[World.size_alloc])).trans ?_
   rw[show mc=mc.toList.toArray from rfl]
   rfl
 have g2:w.heap.size+1<a.heap.size:=Nat.lt_of_lt_of_le Z.out.2 a4.size
 have g3:=hid R
 clear R bf a4 bg e4 e5 b2 HG Z B1 HM dl HW
 go_wp2_with fail
 rw[<-g3.out]
 clear fT x0 x1 x2 x3
 go_loopw [31] (λiv wr=>∃ k:Nat,k<=n/\iv=.int .i64 k/\∃ d m0 f m m1 q r m2 s z,Hid (DJ w a.heap.size n x l k wr (.slice d m0 f) (.slice m m1 q) (.slice r m2 s) (.bool z))) (λiv _=>n-(intOf iv).toNat)
 case atStart=>exact⟨0,by omega,rfl,_,_,_,_,_,_,_,_,_,_,C⟩
 case round=>
  clear C
  obtain⟨k,hk,rfl,d,m0,f,m,m1,q,r,m2,s,z,C⟩:=hrel
  obtain⟨M,g5⟩:∃ o,o=wr:=⟨_,rfl⟩
  subst g5
  have i0:(0:Int)<=(k:Int):=by omega
  obtain⟨x0,x1,x2,x3,-⟩:=am C.out.box
  have hC:a.heap.size<M.heap.size:=lt_of_block C.out.box
  by_cases g7:k<n
  ·have i1:(k:Int)<(n:Int):=by omega
   obtain⟨y,bk⟩:∃ y,l[k]?=some y:=⟨l[k]'(by rw[<-HN.out];omega),by simp⟩
   obtain⟨_,_,e1,-,-,e6⟩:=HL.out _ C.out.below
   obtain⟨b3,o3,e,e7,g8⟩:=e6 k y bk
   simp at e1
   obtain⟨rfl,-,rfl⟩:=e1
   subst e
   obtain⟨rv,q0,q1,q2,q3,q4,bm⟩:=g8
   obtain⟨ra,g9,er,-⟩:=bm.shape
   simp at er
   subst er
   have gb:=hid bk
   obtain⟨W5,J⟩:∃ W5,W5=M.alloc (.cells #[.int .i64 y.1,.int .i64 y.2.1,.int .i64 y.2.2.1,.slice ra y.2.2.2.1.length g9,.int .i64 y.2.2.2.2] 32):=⟨_,rfl⟩
   have K:Below M.heap.size M W5:=by rw[J];exact (Below.refl _ _).alloc (Nat.le_refl _) _
   have ac:=C.out.below.size
   have G:Hid _:=U.out W5 _ _ _ y (Below.thenOf C.out.below K ac) (C.out.wok.later K λ_ _ e=>e).at (kF (bm.later K (Nat.le_trans b9.out ac)) (Nat.le_trans b9.out (Nat.le_trans ac K.size))) C.out.right
   obtain⟨X,hX⟩:∃ X,X=(dY x (l.take k)).1:=⟨_,rfl⟩
   rw[<-hX] at G
   have HX:=hid hX
   have P:=hid J
   have bo:=hid K
   generalize y.2.2.2.1.length=yl at*
   clear J K bm e6 bk hX e7
   go_wp2_with fail
   rw[<-P.out]
   go_at_call 26
   refine Calls.mono G.out ?_
   rintro e D ⟨a6,n6,c6,a7,n7,c7,a8,n8,c8,u6,rfl,e8,e9⟩
   have E:Below M.heap.size M D:=Below.thenOf bo.out e9 bo.out.size
   have g6:=(E.block _ (lt_of_block C.out.box)).trans C.out.box
   obtain⟨ys,F,H,ad⟩:=C.out.row
   have gr:=(E.block _ (lt_of_block F)).trans F
   clear x0 x1 x2 x3 q0 q1 q2 q3 q4
   obtain⟨x0,x1,x2,x3,f0,f1,f2,f3⟩:=am g6
   have lg:a.heap.size<D.heap.size:=lt_of_block g6
   have lr:a.heap.size+1<D.heap.size:=lt_of_block gr
   obtain⟨rv,rk⟩:∃ u,D.cell? ⟨a.heap.size+1,k,none⟩=some u:=by
    refine⟨_,ab gr k (Array.getElem?_eq_getElem ?_)⟩
    simp[cE,H,ad]
    omega
   have rf:D.frozen? ⟨a.heap.size+1,k,none⟩=false:=by simp[World.frozen?,gr]
   have bp:Hid (fI X y=0->mx (λj=>j<M.heap.size) D (.agg #[.slice a6 n6 c6,.slice a7 n7 c7,.slice a8 n8 c8,.bool u6]) (fp X y)):=λh0=>(e8 h0).later (Below.refl _ _) λj _ e=>Nat.lt_of_lt_of_le e bo.out.size
   have L:Hid (Below M.heap.size M D/\Below w.heap.size w D/\D.heap[a.heap.size]?=some (.cells #[.slice d m0 f,.slice m m1 q,.slice r m2 s,.bool z] 27 (0,0))):=⟨E,Below.thenOf C.out.below E ac,g6⟩
   clear e8 e9 E g6 gr F H ad G
   have hO:¬a.heap.size+1=a.heap.size:=by omega
   have bq:Hid (k<n/\w.heap.size+1<a.heap.size/\a.heap.size+1<D.heap.size):=⟨g7,g2,lr⟩
   have I:Hid (∀ (W8:World) (X8:Obj) (u0 u1 u2 u3:Value),(∀ j,j≠a.heap.size->j≠a.heap.size+1->W8.heap[j]?=D.heap[j]?)->W8.heap.size=D.heap.size->Below w.heap.size D W8->W8.heap[a.heap.size]?=some (.cells #[u0,u1,u2,u3] 27 (0,0))->(∀ (xs:List Value),D.heap[a.heap.size+1]?=some (.cells xs.toArray 35 (0,0))->W8.heap[a.heap.size+1]?=some (.cells (xs.set k (.int .i64 (fI X y))).toArray 35 (0,0)))->(fI X y=0->mx (λj=>j<M.heap.size) D (.agg #[u0,u1,u2,u3]) (fp X y))->(fI X y≠0->u0=.slice d m0 f/\u1=.slice m m1 q/\u2=.slice r m2 s/\u3=.bool z)->DJ w a.heap.size n x l (k+1) (W8.alloc X8) u0 u1 u2 u3):=λW8 X8 u0 u1 u2 u3 h1 h2 h3 h4 h5 h6 h7=>by
    rw[HX.out] at h5 h6 h7
    obtain⟨l1,l2,l3⟩:=bq.out
    refine C.out.step gb.out l1 l2 L.out.1 (λj j1 T j3=>(Below.heap_alloc _ _ _ (by omega)).trans (h1 j j1 T)) (h3.alloc (by have:=L.out.2.1.size;omega) _) (cj _ h4) (λxs S=>cj _ (h5 xs S)) h6 h7
   generalize fI X y=DE at*
   by_cases ak:DE=0
   ·subst ak
    obtain⟨k1,k2,k3,k4⟩:=jg (u0:=.slice a6 n6 c6) (u1:=.slice a7 n7 c7) (u2:=.slice a8 n8 c8) (u3:=.bool u6) L.out.2.2
    have c4:Hid (DJ w a.heap.size n x l (k+1) ((((((D.setCell ⟨a.heap.size,0,none⟩ (.slice a6 n6 c6)).setCell ⟨a.heap.size,1,none⟩ (.slice a7 n7 c7)).setCell ⟨a.heap.size,2,none⟩ (.slice a8 n8 c8)).setCell ⟨a.heap.size,3,none⟩ (.bool u6)).setCell ⟨a.heap.size+1,k,none⟩ (.int .i64 0)).alloc (.cells #[.slice a6 n6 c6,.slice a7 n7 c7,.slice a8 n8 c8,.bool u6] 27)) (.slice a6 n6 c6) (.slice a7 n7 c7) (.slice a8 n8 c8) (.bool u6)):=by
     refine I.out _ _ _ _ _ _ (λj j1 T=>(Below.heap_setCell _ _ _ _ T).trans (k2 j j1)) (by simp[k3]) ((k4 _ (by omega)).setCell (p:=⟨a.heap.size+1,k,none⟩) (by show w.heap.size<=a.heap.size+1;omega) _) ((Below.heap_setCell _ _ _ _ (by show a.heap.size≠a.heap.size+1;omega)).trans k1) (λxs S=>?_) bp.out (λh=>absurd rfl h)
     have:=an (o:=k) (u:=.int .i64 0) ((k2 (a.heap.size+1) (by omega)).trans S)
     rw[List.setIfInBounds_toArray] at this
     exact this
    clear k1 k2 k3 k4 I bp L bq
    go_wp2_with fail
    exact⟨⟨k+1,by omega,by go_num,_,_,_,_,_,_,_,_,_,_,c4⟩,by simp[intOf];omega⟩
   ·have hq:(DE==0)=false:=by simpa using ak
    have c4:Hid (DJ w a.heap.size n x l (k+1) ((D.setCell ⟨a.heap.size+1,k,none⟩ (.int .i64 DE)).alloc (.cells #[.slice a6 n6 c6,.slice a7 n7 c7,.slice a8 n8 c8,.bool u6] 27)) (.slice d m0 f) (.slice m m1 q) (.slice r m2 s) (.bool z)):=by
     refine I.out _ _ _ _ _ _ (λj j1 T=>Below.heap_setCell _ _ _ _ T) (by simp) ((Below.refl _ _).setCell (p:=⟨a.heap.size+1,k,none⟩) (by show w.heap.size<=a.heap.size+1;omega) _) ((Below.heap_setCell _ _ _ _ (by show a.heap.size≠a.heap.size+1;omega)).trans L.out.2.2) (λxs S=>?_) (λh=>absurd h ak) (λ_=>⟨rfl,rfl,rfl,rfl⟩)
     have:=an (o:=k) (u:=.int .i64 DE) S
     rw[List.setIfInBounds_toArray] at this
     exact this
    clear I bp L bq ak
    go_wp2_with fail
    exact⟨⟨k+1,by omega,by go_num,_,_,_,_,_,_,_,_,_,_,c4⟩,by simp[intOf];omega⟩
  ·have i1:¬(k:Int)<(n:Int):=by omega
   obtain rfl:k=n:=by omega
   have e:l.take k=l:=List.take_of_length_le (by rw[<-HN.out];exact Nat.le_refl _)
   have hI:=C.out
   obtain⟨ys,F,H,ad⟩:=hI.row
   have ao:=hI.wok
   rw[e] at F H ao
   rw[<-e3.out.2] at F H
   rw[<-e3.out.1] at ao
   obtain⟨z0,z1,z2,z3,f0,f1,f2,f3⟩:=am hI.out
   obtain⟨j1,T,j3,j4⟩:=jg (u0:=.slice d m0 f) (u1:=.slice m m1 q) (u2:=.slice r m2 s) (u3:=.bool z) hI.out
   have lo:w.heap.size+1<M.heap.size:=lt_of_block hI.out
   obtain⟨WF,c9⟩:∃ WF,WF=(((M.setCell ⟨w.heap.size+1,0,none⟩ (.slice d m0 f)).setCell ⟨w.heap.size+1,1,none⟩ (.slice m m1 q)).setCell ⟨w.heap.size+1,2,none⟩ (.slice r m2 s)).setCell ⟨w.heap.size+1,3,none⟩ (.bool z):=⟨_,rfl⟩
   rw[<-c9] at j1 T j3 j4
   have HF:Hid (aC WF.heap.size WF (.agg #[.slice d m0 f,.slice m m1 q,.slice r m2 s,.bool z]) RW/\cw WF.heap.size WF (.slice (some ⟨a.heap.size+1,0,none⟩) k k) RL/\Below w.heap.size w WF):=by
    have hr:=(T (a.heap.size+1) (by omega)).trans F
    refine⟨ao WF (Kx.put (Kx.refl _ _) (j4 0 (Nat.zero_le _)) (λg hg=>T g λe=>hg (.inr (.inr e))) j3),⟨_,_,by rw[H],by omega,by rw[fo];omega,λi c hc=>⟨_,_,rfl,lt_of_block hr,ab hr _ ?_⟩⟩,hI.below.trans (j4 _ (by omega))⟩
    have hi:=(List.getElem?_eq_some_iff.1 hc).1
    rw[Nat.zero_add,List.getElem?_toArray,List.getElem?_append_left (by rw[iZ];omega)]
    unfold cE
    rw[List.getElem?_map,hc]
    rfl
   have gj:=hid c9
   obtain⟨y0,y1,y2,y3,-⟩:=am j1
   have hU:¬a.heap.size=w.heap.size+1:=by omega
   clear c9 j1 T j3 j4 F H ad ao hI e C HL U b9
   go_wp2_with fail
   rw[<-gj.out]
   refine bodyPost_ret (v:=.tuple #[.agg #[.slice d m0 f,.slice m m1 q,.slice r m2 s,.bool z],.slice (some ⟨a.heap.size+1,0,none⟩) k k,.int .i64 0]) ?_ rfl ⟨_,_,by rw[O.out],HF.out⟩
   rw[dC rfl]
   go_simp
end Go.Proofs.YtnpdhopjpjickaaGreatDoor
end
section
set_option linter.all false
set_option maxRecDepth 100000
namespace Go.Proofs.YtnpdhopjpjickaaGreatDoor
open Go.RowKit Go.Maps
theorem kr:cg (eT iq ff)=0:=by decide +kernel
set_option maxHeartbeats 8000000 in
theorem mw (w:World) (he:dX w):Calls Tryz.prog 12 #[] w λe d=>e=.returned (.bool true)/\Below w.heap.size w d:=by
 have HE:Hid (∀ d,Below w.heap.size w d->dX d):=λd h=>he.later h
 clear he
 go_enter Tryz.func12,Tryz.ntmps12
 go_wp2_with fail
 go_at_call 16
 refine Calls.mono (xw w) ?_
 rintro e w1 ⟨v1,rfl,A,b1⟩
 obtain⟨wa,wc,sa,sc,ta,tc,ev,-,-⟩:=A.shape
 subst ev
 obtain⟨z1,av⟩:∃ n,n=iq.1.length:=⟨_,rfl⟩
 obtain⟨z2,b0⟩:∃ n,n=iq.2.1.1.length:=⟨_,rfl⟩
 obtain⟨z3,b7⟩:∃ n,n=iq.2.1.2.length:=⟨_,rfl⟩
 obtain⟨z4,ba⟩:∃ n,n=iq.2.2:=⟨_,rfl⟩
 rw[<-av,<-b0,<-b7,<-ba] at A |-
 clear av b0 b7 ba
 go_wp2_with fail
 go_at_call 32
 refine Calls.mono (xo _ (HE.out _ b1).1) ?_
 rintro e w2 ⟨p2,rfl,bb,b2⟩
 have O:=bb.at
 obtain⟨a2,c2,rfl⟩:∃ a c,p2=.agg #[.slice a 2 c,.int .i64 4]:=by
  obtain⟨rv,q,-,da,dc,s,-⟩:=O
  exact⟨da,dc,by rw[q,s];rfl⟩
 have B:=Below.thenOf b1 b2 b1.size
 clear bb
 go_wp2_with fail
 go_at_call 33
 refine Calls.mono (yG _ (HE.out _ B).1) ?_
 rintro e w3 ⟨p3,rfl,bg,P⟩
 have Q:=bg.at
 obtain⟨a3,c3,rfl⟩:∃ a c,p3=.agg #[.slice a 3 c,.int .i64 4]:=by
  obtain⟨rv,q,-,da,dc,s,-⟩:=Q
  exact⟨da,dc,by rw[q,s];rfl⟩
 have C:=Below.thenOf B P B.size
 clear bg
 go_wp2_with fail
 go_at_call 32
 refine Calls.mono (xo _ (HE.out _ C).1) ?_
 rintro e L ⟨p4,rfl,bk,D⟩
 have R:=bk.at
 obtain⟨a4,c4,rfl⟩:∃ a c,p4=.agg #[.slice a 2 c,.int .i64 4]:=by
  obtain⟨rv,q,-,da,dc,s,-⟩:=R
  exact⟨da,dc,by rw[q,s];rfl⟩
 have S:=Below.thenOf C D C.size
 clear bk
 obtain⟨x,t⟩:∃ W,W=L.alloc (.cells #[.int .i64 1,.int .i64 1,.int .i64 0,.slice a2 2 c2,.int .i64 4,.int .i64 2,.int .i64 1,.int .i64 0,.slice a3 3 c3,.int .i64 4,.int .i64 2,.int .i64 1,.int .i64 0,.slice a4 2 c4,.int .i64 4,.int .i64 5,.int .i64 0,.int .i64 0,.slice none 0 0,.int .i64 0,.int .i64 4,.int .i64 1,.int .i64 0,.slice none 0 0,.int .i64 0,.int .i64 6,.int .i64 0,.int .i64 0,.slice none 0 0,.int .i64 0] 32):=⟨_,rfl⟩
 have b5:Below L.heap.size L x:=by rw[t];exact (Below.refl _ _).alloc (Nat.le_refl _) _
 have s5:x.heap.size=L.heap.size+1:=by rw[t];simp
 have f:x.heap[L.heap.size]?=some (.cells #[.int .i64 1,.int .i64 1,.int .i64 0,.slice a2 2 c2,.int .i64 4,.int .i64 2,.int .i64 1,.int .i64 0,.slice a3 3 c3,.int .i64 4,.int .i64 2,.int .i64 1,.int .i64 0,.slice a4 2 c4,.int .i64 4,.int .i64 5,.int .i64 0,.int .i64 0,.slice none 0 0,.int .i64 0,.int .i64 4,.int .i64 1,.int .i64 0,.slice none 0 0,.int .i64 0,.int .i64 6,.int .i64 0,.int .i64 0,.slice none 0 0,.int .i64 0] 32 (0,0)):=by rw[t];exact af _ _
 have T:=Below.thenOf S b5 S.size
 have U:=Below.thenOf b2 (Below.thenOf P (Below.thenOf D b5 D.size) P.size) b2.size
 have t2:=b2.size
 have t3:=P.size
 have t4:=D.size
 have hR:bX x.heap.size x (.slice (some ⟨L.heap.size,0,none⟩) 6 6) ff:=by
  have m:∀ n:Int,0<=n/\n<=6->wf n:=λn h=>WalkArith.wf_i64 (by omega)
  refine⟨_,6,rfl,Nat.le_refl _,by rw[ag];omega,λi r j=>⟨L.heap.size,0,rfl,by omega,?_⟩⟩
  match i,j with
  | 0,j=>
   simp[ff] at j
   subst j
   exact⟨_,ab f 0 rfl,ab f 1 rfl,ab f 2 rfl,ab f 3 rfl,ab f 4 rfl,_,rfl,m _ (by decide),m _ (by decide),m _ (by decide),js (O.later (Below.thenOf P (Below.thenOf D b5 D.size) P.size) (Nat.le_refl _)) (by omega)⟩
  | 1,j=>
   simp[ff] at j
   subst j
   exact⟨_,ab f 5 rfl,ab f 6 rfl,ab f 7 rfl,ab f 8 rfl,ab f 9 rfl,_,rfl,m _ (by decide),m _ (by decide),m _ (by decide),js (Q.later (Below.thenOf D b5 D.size) (Nat.le_refl _)) (by omega)⟩
  | 2,j=>
   simp[ff] at j
   subst j
   exact⟨_,ab f 10 rfl,ab f 11 rfl,ab f 12 rfl,ab f 13 rfl,ab f 14 rfl,_,rfl,m _ (by decide),m _ (by decide),m _ (by decide),js (R.later b5 (Nat.le_refl _)) (by omega)⟩
  | 3,j=>
   simp[ff] at j
   subst j
   exact⟨_,ab f 15 rfl,ab f 16 rfl,ab f 17 rfl,ab f 18 rfl,ab f 19 rfl,_,rfl,m _ (by decide),m _ (by decide),m _ (by decide),dU _ _⟩
  | 4,j=>
   simp[ff] at j
   subst j
   exact⟨_,ab f 20 rfl,ab f 21 rfl,ab f 22 rfl,ab f 23 rfl,ab f 24 rfl,_,rfl,m _ (by decide),m _ (by decide),m _ (by decide),dU _ _⟩
  | 5,j=>
   simp[ff] at j
   subst j
   exact⟨_,ab f 25 rfl,ab f 26 rfl,ab f 27 rfl,ab f 28 rfl,ab f 29 rfl,_,rfl,m _ (by decide),m _ (by decide),m _ (by decide),dU _ _⟩
  | i+6,j=>simp[ff] at j
 have M:Hid (Calls Tryz.prog 21 #[.agg #[.slice wa z1 wc,.slice sa z2 sc,.slice ta z3 tc,.bool z4],.slice (some ⟨L.heap.size,0,none⟩) 6 6] x λe d=>∃ v,e=.returned v/\jF (eT iq ff) [0,0,7,0,6,0] 0 d v/\Below x.heap.size x d):=by
  have:=r6 x.heap.size _ _ iq ff x (HE.out _ T) ((A.later U (Nat.le_refl _)).wide U.size) hR (Nat.le_refl _) (by unfold lm iq;decide)
  have q:im iq ff=[0,0,7,0,6,0]:=by unfold im;rw[if_pos rU,As]
  rw[rU,q] at this
  refine this.mono λe d ⟨v',ev,E,y,h3,h4⟩=>?_
  obtain⟨a1,c1,a2,c2,a3,c3,ee,-,-⟩:=y.shape
  obtain⟨ea,ec,ef,-,-⟩:=h3.full
  rw[ee] at E y
  rw[ef] at E h3
  exact⟨_,E,⟨_,_,_,_,ea,_,ec,rfl,y,h3⟩,h4⟩
 have bo:=hid t
 have V:=hid T
 clear t b5 s5 f T U t2 t3 t4 hR A O Q R b1 b2 P D B C S
 go_wp2_with fail
 rw[<-bo.out]
 go_at_call 21
 refine Calls.mono M.out ?_
 rintro e l ⟨u6,rfl,bp,b6⟩
 obtain⟨d1,m1,q,d2,m2,s,d3,m3,e3,ub,ea,en,ec,rfl⟩:=bp.shape
 obtain⟨fa,fc,fd,fe,fi,fl,fn,ee,u,bq⟩:=bp
 simp at ee
 obtain⟨⟨rfl,rfl,rfl,rfl⟩,rfl,rfl,rfl⟩:=ee
 obtain⟨X,hX⟩:∃ X,X=eT iq ff:=⟨_,rfl⟩
 have dd:ub=true:=by
  obtain⟨_,_,_,e,-⟩:=u
  simp at e
  rw[e.2.2.2]
  exact D5
 subst dd
 rw[<-hX] at u
 have p:Below w.heap.size w l:=Below.thenOf V.out b6 V.out.size
 have br:Hid (∀ d,Below l.heap.size l d->Calls Tryz.prog 10 #[.agg #[.slice d1 m1 q,.slice d2 m2 s,.slice d3 m3 e3,.bool true],.int .i64 1,.agg #[.int .i64 0,.int .i64 0,.int .i64 0,.int .i64 8,.int .i64 0]] d λe F=>e=.returned (.tuple #[.int .i64 2,.int .i64 0])/\Below d.heap.size d F):=λd h=>by
  have:=sN d.heap.size _ X 1 (vX 0 0 0 8 0) d (HE.out _ (Below.thenOf p h p.size)) ((u.later h (Nat.le_refl _)).wide h.size) (by unfold wf;decide) (Nat.le_refl _) (by rw[hX];exact Ex (kr))
  rw[hX,tY.1,tY.2] at this
  exact this
 have bs:Hid (∀ d,Below l.heap.size l d->Calls Tryz.prog 10 #[.agg #[.slice d1 m1 q,.slice d2 m2 s,.slice d3 m3 e3,.bool true],.int .i64 2,.agg #[.int .i64 0,.int .i64 0,.int .i64 0,.int .i64 0,.int .i64 0]] d λe F=>∃ z,e=.returned (.tuple #[.int .i64 z,.int .i64 6])/\Below d.heap.size d F):=λd h=>by
  have:=sN d.heap.size _ X 2 (vX 0 0 0 0 0) d (HE.out _ (Below.thenOf p h p.size)) ((u.later h (Nat.le_refl _)).wide h.size) (by unfold wf;decide) (Nat.le_refl _) (by rw[hX];exact Ex (kr))
  rw[hX,AK] at this
  exact this.mono λe F ⟨E,y⟩=>⟨_,E,y⟩
 have bv:Hid (∀ d,Below l.heap.size l d->cw l.heap.size d (.slice ea en ec) [0,0,7,0,6,0]/\Below w.heap.size w d):=λd h=>⟨bq.later h (Nat.le_refl _),Below.thenOf p h p.size⟩
 have bx:∀ X,Below l.heap.size l (l.alloc X):=λX=>(Below.refl _ _).alloc (Nat.le_refl _) X
 have de:Hid _:=bx
 clear u bq p b6 hX M bo V bx
 obtain⟨W7,G⟩:∃ W,W=l.alloc (.cells #[.slice d1 m1 q,.slice d2 m2 s,.slice d3 m3 e3,.bool true] 27):=⟨_,rfl⟩
 have H:Below l.heap.size l W7:=by rw[G];exact de.out _
 have g7:W7.heap[l.heap.size]?=some (.cells #[.slice d1 m1 q,.slice d2 m2 s,.slice d3 m3 e3,.bool true] 27 (0,0)):=by rw[G];exact af _ _
 have I:Hid (∀ d,Below W7.heap.size W7 d->d.heap[l.heap.size]?=some (.cells #[.slice d1 m1 q,.slice d2 m2 s,.slice d3 m3 e3,.bool true] 27 (0,0))/\Below l.heap.size l d):=λd h=>⟨(h.block _ (lt_of_block g7)).trans g7,Below.thenOf H h H.size⟩
 have dk:=hid G
 have dl:=hid H
 clear G H g7
 go_wp2_with fail
 rw[<-dk.out]
 go_at_call 10
 refine Calls.mono (br.out W7 dl.out) ?_
 rintro e w8 ⟨rfl,b8⟩
 obtain⟨g8,c5⟩:=I.out w8 b8
 obtain⟨⟨x0,x1,x2,x3⟩,-⟩:=dD g8
 have c6:=hid b8
 have dp:=hid c5
 clear b8 g8 c5
 go_wp2_with fail
 go_at_call 10
 refine Calls.mono (bs.out w8 dp.out) ?_
 rintro e J ⟨z,rfl,b9⟩
 have K:=Below.thenOf c6.out b9 c6.out.size
 obtain⟨g9,Y⟩:=I.out J K
 clear x0 x1 x2 x3
 obtain⟨⟨x0,x1,x2,x3⟩,-⟩:=dD g9
 have l9:=lt_of_block g9
 have c7:Hid (∀ X:Value,X=.int .i64 0->Calls Tryz.prog 22 #[.slice ea en ec,.slice (some ⟨J.heap.size,0,none⟩) 6 6] (J.alloc (.cells #[X,.int .i64 0,.int .i64 7,.int .i64 0,.int .i64 6,.int .i64 0] 35)) λe d=>e=.returned (.bool true)/\d.heap[l.heap.size]?=some (.cells #[.slice d1 m1 q,.slice d2 m2 s,.slice d3 m3 e3,.bool true] 27 (0,0))/\Below w.heap.size w d):=by
  rintro _ rfl
  obtain⟨Z,a0⟩:∃ W,W=J.alloc (.cells #[.int .i64 0,.int .i64 0,.int .i64 7,.int .i64 0,.int .i64 6,.int .i64 0] 35):=⟨_,rfl⟩
  rw[<-a0]
  have c8:Below J.heap.size J Z:=by rw[a0];exact (Below.refl _ _).alloc (Nat.le_refl _) _
  have gA:Z.heap[J.heap.size]?=some (.cells #[.int .i64 0,.int .i64 0,.int .i64 7,.int .i64 0,.int .i64 6,.int .i64 0] 35 (0,0)):=by rw[a0];exact af _ _
  have c9:=Below.thenOf Y c8 Y.size
  have ca:=Below.thenOf K c8 K.size
  obtain⟨hi,cb⟩:=bv.out Z c9
  have hl:cw Z.heap.size Z (.slice (some ⟨J.heap.size,0,none⟩) 6 6) [0,0,7,0,6,0]:=by
   refine⟨_,6,rfl,Nat.le_refl _,by rw[ag];omega,λi c g=>⟨J.heap.size,0,rfl,lt_of_block gA,?_⟩⟩
   refine ab gA _ ?_
   match i,g with
   | 0,g=>simp at g;subst g;rfl
   | 1,g=>simp at g;subst g;rfl
   | 2,g=>simp at g;subst g;rfl
   | 3,g=>simp at g;subst g;rfl
   | 4,g=>simp at g;subst g;rfl
   | 5,g=>simp at g;subst g;rfl
   | i+6,g=>simp at g
  have:=ou Z.heap.size _ _ [0,0,7,0,6,0] [0,0,7,0,6,0] Z (by
   obtain⟨a,ds,E,y,h3,h4⟩:=hi
   exact⟨a,ds,E,y,h3,λi c g=>by
    obtain⟨b,o,e,hl,k⟩:=h4 i c g
    exact⟨b,o,e,Nat.lt_of_lt_of_le hl c9.size,k⟩⟩) hl (Nat.le_refl _)
  rw[decide_eq_true rfl] at this
  exact this.mono λe d ⟨E,y⟩=>⟨E,(I.out d (Below.thenOf ca y ca.size)).1,Below.thenOf cb y cb.size⟩
 have N:Hid _:=c7.out _ rfl
 clear b9 K g9 Y c7 br bs bv I
 go_wp2_with fail
 refine Calls.mono N.out ?_
 rintro e fq ⟨rfl,cc,cd⟩
 clear x0 x1 x2 x3
 obtain⟨⟨x0,x1,x2,x3⟩,-⟩:=dD cc
 have ce:=hid cd
 clear cd cc N
 go_wp2_with fail
 go_ret
 exact⟨rfl,ce.out⟩
end Go.Proofs.YtnpdhopjpjickaaGreatDoor
end
