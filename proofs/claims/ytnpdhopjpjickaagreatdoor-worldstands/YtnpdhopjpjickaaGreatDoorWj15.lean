/- Joined: Cod Cod2. -/
import Derived.Test.YtnpdhopjpjickaaGreatDoorWj01
section
set_option linter.all false
set_option maxRecDepth 100000
namespace Go.Proofs.YtnpdhopjpjickaaGreatDoor
open Go.RowKit Go.Maps
def iQ (a b c m:Int):Int:=if b≠0\/c≠0 then 4 else if a<0\/m<a then 3 else 0
def iK (a b c m:Int):Int:=if a<0\/65535<a then 3 else if b<0\/m<=b\/c<0\/m<=c then 5 else 0
set_option maxHeartbeats 1000000 in
theorem ti (k a b c m:Int) (w:World):
  Calls Tryz.prog 138 #[.agg #[.int .i64 k,.int .i64 a,.int .i64 b,.int .i64 c],.int .i64 m] w λe l=>e=.returned (.int .i64 (iQ a b c m))/\Below w.heap.size w l:=by
 have d:∀ x,Below w.heap.size w (w.alloc x):=λx=>(Below.refl _ _).alloc (Nat.le_refl _) _
 by_cases g:b≠0\/c≠0
 ·have f:Hid (iQ a b c m=4):=by unfold Hid;rw[iQ,if_pos g]
  by_cases i:b=0
  ·have n:c≠0:=by omega
   have h:(b != 0)=false:=by simpa using i
   have o:(c != 0)=true:=by simpa using n
   clear g
   go_enter Tryz.func138,Tryz.ntmps138
   go_wp2
   all_goals
    go_ret
    exact⟨by rw[f.out];rfl,d _⟩
  ·have h:(b != 0)=true:=by simpa using i
   clear g
   go_enter Tryz.func138,Tryz.ntmps138
   go_wp2
   all_goals
    go_ret
    exact⟨by rw[f.out];rfl,d _⟩
 ·obtain⟨rfl,rfl⟩:b=0/\c=0:=by omega
  by_cases j:a<0\/m<a
  ·have f:Hid (iQ a 0 0 m=3):=by unfold Hid;rw[iQ,if_neg g,if_pos j]
   go_enter Tryz.func138,Tryz.ntmps138
   go_wp2
   all_goals
    go_ret
    exact⟨by rw[f.out];rfl,d _⟩
  ·have f:Hid (iQ a 0 0 m=0):=by unfold Hid;rw[iQ,if_neg g,if_neg j]
   go_enter Tryz.func138,Tryz.ntmps138
   go_wp2
   all_goals
    go_ret
    exact⟨by rw[f.out];rfl,d _⟩
set_option maxHeartbeats 2000000 in
theorem tt (k a b c m:Int) (w:World):
  Calls Tryz.prog 139 #[.agg #[.int .i64 k,.int .i64 a,.int .i64 b,.int .i64 c],.int .i64 m] w λe i=>e=.returned (.int .i64 (iK a b c m))/\Below w.heap.size w i:=by
 have d:∀ x,Below w.heap.size w (w.alloc x):=λx=>(Below.refl _ _).alloc (Nat.le_refl _) _
 by_cases h:a<0\/65535<a
 ·have f:Hid (iK a b c m=3):=by unfold Hid;rw[iK,if_pos h]
  go_enter Tryz.func139,Tryz.ntmps139
  go_wp2
  all_goals
   go_ret
   exact⟨by rw[f.out];rfl,d _⟩
 ·by_cases g:b<0\/m<=b\/c<0\/m<=c
  ·have f:Hid (iK a b c m=5):=by unfold Hid;rw[iK,if_neg h,if_pos g]
   have j:¬a<0:=by omega
   have l:¬65535<a:=by omega
   clear h
   by_cases n:b<0
   ·clear g
    go_enter Tryz.func139,Tryz.ntmps139
    go_wp2
    all_goals
     go_ret
     exact⟨by rw[f.out];rfl,d _⟩
   ·by_cases o:m<=b
    ·clear g
     go_enter Tryz.func139,Tryz.ntmps139
     go_wp2
     all_goals
      go_ret
      exact⟨by rw[f.out];rfl,d _⟩
    ·by_cases p:c<0
     ·clear g
      go_enter Tryz.func139,Tryz.ntmps139
      go_wp2
      all_goals
       go_ret
       exact⟨by rw[f.out];rfl,d _⟩
     ·have q:m<=c:=by omega
      clear g
      go_enter Tryz.func139,Tryz.ntmps139
      go_wp2
      all_goals
       go_ret
       exact⟨by rw[f.out];rfl,d _⟩
  ·have f:Hid (iK a b c m=0):=by unfold Hid;rw[iK,if_neg h,if_neg g]
   have j:¬a<0:=by omega
   have l:¬65535<a:=by omega
   have n:¬b<0:=by omega
   have o:¬m<=b:=by omega
   have p:¬c<0:=by omega
   have q:¬m<=c:=by omega
   clear h g
   go_enter Tryz.func139,Tryz.ntmps139
   go_wp2
   all_goals
    go_ret
    exact⟨by rw[f.out];rfl,d _⟩
theorem uN (k a b c m:Int) (h:k=1\/k=4):cL (k,a,b,c) m=iQ a b c 4:=by
 unfold cL
 rw[if_pos h]
 rfl
theorem wR (k a b c m:Int) (h:k=2\/k=3):cL (k,a,b,c) m=iK a b c m:=by
 unfold cL
 rw[if_neg (by simp only[];omega),if_pos h]
 rfl
set_option maxHeartbeats 2000000 in
theorem uO (k a b c m:Int) (w:World):
  Calls Tryz.prog 112 #[.agg #[.int .i64 k,.int .i64 a,.int .i64 b,.int .i64 c],.int .i64 m] w λe j=>e=.returned (.int .i64 (cL (k,a,b,c) m))/\Below w.heap.size w j:=by
 have d:∀ x,Below w.heap.size w (w.alloc x):=λx=>(Below.refl _ _).alloc (Nat.le_refl _) _
 by_cases g:k=1\/k=4
 ·have h:Hid (cL (k,a,b,c) m=iQ a b c 4):=uN k a b c m g
  rcases g with rfl | rfl
  all_goals
   go_enter Tryz.func112,Tryz.ntmps112
   go_wp2_with (first | (go_at_call 138;go_must (refine (ti _ _ _ _ _ _).mono ?_;rintro e j ⟨rfl,f⟩)))
   go_ret
   exact⟨by rw[h.out];rfl,Below.thenOf (d _) f (by simp)⟩
 ·by_cases i:k=2\/k=3
  ·have h:Hid (cL (k,a,b,c) m=iK a b c m):=wR k a b c m i
   clear g
   rcases i with rfl | rfl
   all_goals
    go_enter Tryz.func112,Tryz.ntmps112
    go_wp2_with (first | (go_at_call 139;go_must (refine (tt _ _ _ _ _ _).mono ?_;rintro e j ⟨rfl,f⟩)))
    go_ret
    exact⟨by rw[h.out];rfl,Below.thenOf (d _) f (by simp)⟩
  ·have h:Hid (cL (k,a,b,c) m=4):=by unfold Hid cL;rw[if_neg g,if_neg i]
   have l:(k==1)=false:=by simp;omega
   have n:(k==2)=false:=by simp;omega
   have o:(k==3)=false:=by simp;omega
   have p:(k==4)=false:=by simp;omega
   clear g i
   go_enter Tryz.func112,Tryz.ntmps112
   go_wp2
   go_ret
   exact⟨by rw[h.out];rfl,d _⟩
set_option maxHeartbeats 1000000 in
theorem jn (k a b c:Int) (h:Bool) (w:World):
  Calls Tryz.prog 113 #[.agg #[.int .i64 k,.int .i64 a,.int .i64 b,.int .i64 c],.bool h] w λe f=>e=.returned (.int .i64 (if h=true then b else c))/\Below w.heap.size w f:=by
 have d:∀ x,Below w.heap.size w (w.alloc x):=λx=>(Below.refl _ _).alloc (Nat.le_refl _) _
 cases h
 all_goals
  go_enter Tryz.func113,Tryz.ntmps113
  go_wp2
  go_ret
  exact⟨rfl,d _⟩
set_option maxHeartbeats 2000000 in
theorem nJ (B:Nat) (cv:Value) (l:List bS) (w:World) (N:d7 B w cv l) (hB:B<=w.heap.size):
  Calls Tryz.prog 82 #[cv] w λe D=>e=.returned (.int .i64 (bt l))/\Below w.heap.size w D:=by
 obtain⟨a,O,rfl,P,Q,r⟩:=N
 have g:=hid r
 clear r
 have L:Hid ((l.length<1\/1500<l.length)->bt l=2):=by intro h;rw[bt,if_pos h]
 have M:Hid (¬(l.length<1\/1500<l.length)->bt l=if bP l=0 then (if eD l=4 then 0 else 4) else bP l):=by intro h;rw[bt,if_neg h]
 have R:Hid (∀ c,l[l.length-1]?=some c->eD l=c.1):=mi l
 have T:Hid (∀ k c,l[k]?=some c->bP (l.drop k)=if cL c ((l.length:Int)-1-k)=0 then bP (l.drop (k+1)) else cL c ((l.length:Int)-1-k)):=uV l
 generalize hn:l.length=n at*
 have U:=ag
 by_cases s:n<1\/1500<n
 ·have j:Hid (bt l=2):=L.out s
  by_cases h1:n<1
  ·obtain rfl:n=0:=by omega
   clear s
   go_enter Tryz.func82,Tryz.ntmps82
   go_wp2
   go_ret
   exact⟨by rw[j.out];rfl,Below.refl _ _⟩
  ·have V:¬((n:Int)<1):=by omega
   have W:(1500:Int)<(n:Int):=by omega
   clear s
   go_enter Tryz.func82,Tryz.ntmps82
   go_wp2
   go_ret
   exact⟨by rw[j.out];rfl,Below.refl _ _⟩
 ·have j:Hid (bt l=if bP l=0 then (if eD l=4 then 0 else 4) else bP l):=M.out s
  have V:¬((n:Int)<1):=by omega
  have W:¬((1500:Int)<(n:Int)):=by omega
  have i3:IntKind.i64.wrap ((n:Int)-1)=(n:Int)-1:=IntWalk.i64_in _ (by omega)
  have X:1<=n/\n<=1500:=by omega
  clear s L M
  go_enter Tryz.func82,Tryz.ntmps82
  go_wp2
  go_loopw [20] (λi wr=>∃ k:Nat,k<=n/\i=.int .i64 k/\Hid (bP l=bP (l.drop k))/\Below w.heap.size w wr) (λi _=>n-(intOf i).toNat)
  case atStart=>exact⟨0,by omega,rfl,rfl,Below.refl _ _⟩
  case round=>
   obtain⟨k,hk,rfl,H,d⟩:=hrel
   have i0:(0:Int)<=(k:Int):=by omega
   by_cases Y:k<n
   ·have i4:(k:Int)<(n:Int):=by omega
    have i5:IntKind.i64.wrap ((n:Int)-1-k)=(n:Int)-1-k:=IntWalk.i64_in _ (by omega)
    obtain⟨c,f⟩:∃ c,l[k]?=some c:=⟨l[k]'(by omega),by simp⟩
    obtain⟨b,o,rfl,E,m⟩:=g.out k c f
    have S:Hid (bP (l.drop k)=if cL c ((n:Int)-1-k)=0 then bP (l.drop (k+1)) else cL c ((n:Int)-1-k)):=T.out k c f
    obtain⟨t,u,v,x⟩:=c
    obtain⟨F,G,Z,c3,_⟩:=m.later d (by omega)
    simp only[] at F G Z c3
    go_wp2_with (first | (go_at_call 112;go_must (refine (uO _ _ _ _ _ _).mono ?_;rintro e D ⟨rfl,I⟩)))
    all_goals have y:Below w.heap.size w D:=Below.thenOf (d.alloc d.size _) I (by simp;have:=d.size;omega)
    ·have z:cL (t,u,v,x) ((n:Int)-1-k)≠0:=by simpa using (by assumption:(cL (t,u,v,x) ((n:Int)-1-k) != 0)=true)
     have C:bP l=cL (t,u,v,x) ((n:Int)-1-k):=by rw[H.out,S.out,if_neg z]
     go_ret
     exact⟨by rw[j.out,C,if_neg z];rfl,y⟩
    ·have he:cL (t,u,v,x) ((n:Int)-1-k)=0:=by simpa using (by assumption:(cL (t,u,v,x) ((n:Int)-1-k) != 0)=false)
     exact⟨⟨k+1,by omega,by go_num,by unfold Hid;rw[H.out,S.out,if_pos he],y⟩,by simp[intOf];omega⟩
   ·have C:Hid (bP l=0):=by unfold Hid;rw[H.out,List.drop_eq_nil_of_le (by omega)];rfl
    obtain⟨c,f⟩:∃ c,l[n-1]?=some c:=⟨l[n-1]'(by omega),by simp⟩
    obtain⟨b,o,rfl,E,m⟩:=g.out (n-1) c f
    have A:Hid (eD l=c.1):=R.out c f
    obtain⟨F,_⟩:=m.later d (by omega)
    obtain⟨q,rfl⟩:∃ q:Nat,n=q+1:=⟨n-1,by omega⟩
    simp only[Nat.add_sub_cancel] at F
    have e0:(((q+1:Nat):Int)-1)=(q:Int):=by omega
    by_cases p:c.1=4
    ·have J:(c.1 != 4)=false:=by simpa using p
     have K:Hid (bt l=0):=by unfold Hid;rw[j.out,if_pos C.out,A.out,if_pos p]
     generalize c.1=G at*
     clear p j
     go_wp2
     go_ret
     exact⟨by rw[K.out];rfl,d⟩
    ·have J:(c.1 != 4)=true:=by simpa using p
     have K:Hid (bt l=4):=by unfold Hid;rw[j.out,if_pos C.out,A.out,if_neg p]
     generalize c.1=G at*
     clear p j
     go_wp2
     go_ret
     exact⟨by rw[K.out];rfl,d⟩
end Go.Proofs.YtnpdhopjpjickaaGreatDoor
end
section
set_option linter.all false
set_option maxRecDepth 100000
namespace Go.Proofs.YtnpdhopjpjickaaGreatDoor
open Go.RowKit Go.Maps
def wQ (m:Int) (p:Int × Int):Int × Int:=(p.1,p.2+m)
theorem x8 (m:Int) (p:Int × Int):wQ m (Eh p)=wQ (m+1) p:=by unfold wQ Eh;simp;omega
theorem Dy {l:List bS} (h:eD l=4) {k:Nat} {c:bS} (a:l[k]?=some c) (b:c.1≠4):k+1<l.length:=by
 have d:=(List.getElem?_eq_some_iff.1 a).1
 by_cases e:k=l.length-1
 ·exfalso
  rw[e] at a
  exact b ((mi l c a).symm.trans h)
 ·omega
theorem Dt (x:Nat->Int) {l:List bS} {k:Nat} {c:bS} (h:l[k]?=some c) (n:Int):
  df x n 0 (l.drop k)=if c.1=1 then Eh (df x (x c.2.1.toNat) 0 (l.drop (k+1))) else if c.1=2\/c.1=3 then Eh (df x n 0 (l.drop (k+1+kf n c))) else (c.2.1,1):=by
 obtain⟨a,rfl⟩:=List.getElem?_eq_some_iff.1 h
 rw[List.drop_eq_getElem_cons a,df,pk x _ n (kf n _),List.drop_drop]
set_option maxHeartbeats 4000000 in
theorem yB (B:Nat) (cv:Value) (l:List bS) (x:Nat->Int) (w:World) (Z:d7 B w cv l) (hB:B<=w.heap.size) (I:bt l=0):
  Calls Tryz.prog 84 #[cv,fK x] w λe f=>e=.returned (.tuple #[.int .i64 (df x 0 0 l).1,.int .i64 (df x 0 0 l).2])/\Below w.heap.size w f:=by
 obtain⟨a,R,rfl,a0,a1,J⟩:=Z
 obtain⟨a2,a3,K,L⟩:=np I
 have M:=hid J
 have HG:Hid (∀ (k:Nat) (c:bS),l[k]?=some c->cL c ((l.length:Int)-1-k)=0):=λk c h=>qc l k c K h
 have HL:Hid (∀ (k:Nat) (c:bS),l[k]?=some c->c.1≠4->k+1<l.length):=λk c h h4=>Dy L h h4
 have HX:Hid (∀ T f,Below (w.heap.size+1) (w.alloc (.cells #[.int .i64 (x 0),.int .i64 (x 1),.int .i64 (x 2),.int .i64 (x 3),.int .i64 (x 4)] T)) f->t7 f w.heap.size x):=λT f h=>(t7.made x w T).later h (by omega)
 clear J I K L
 generalize hn:l.length=p at*
 have a8:=ag
 show Calls Tryz.prog 84 #[.slice a p R,.agg #[.int .i64 (x 0),.int .i64 (x 1),.int .i64 (x 2),.int .i64 (x 3),.int .i64 (x 4)]] w _
 go_enter Tryz.func84,Tryz.ntmps84
 go_wp2
 go_loopw [6,7,8] (λld E dn wr=>∃ (n:Int) (k m:Nat),ld=.int .i64 n/\E=.int .i64 k/\dn=.int .i64 ((m:Int)+1)/\k<p/\m<=k/\Hid (df x 0 0 l=wQ m (df x n 0 (l.drop k)))/\Below w.heap.size w wr/\Hid (t7 wr w.heap.size x)/\w.heap.size<wr.heap.size) (λ_ E _ _=>p-(intOf E).toNat)
 case atStart=>exact⟨0,0,0,rfl,rfl,rfl,by omega,by omega,by unfold Hid wQ;simp,(Below.refl _ _).alloc (Nat.le_refl _) _,HX.out _ _ (Below.refl _ _),by simp⟩
 case round=>
  obtain⟨n,k,m,rfl,rfl,rfl,hk,hm,H,F,hX,hz⟩:=hrel
  have i0:(0:Int)<=(k:Int):=by omega
  have i4:(k:Int)<(p:Int):=by omega
  have i5:IntKind.i64.wrap ((k:Int)+1)=(k:Int)+1:=IntWalk.i64_in _ (by omega)
  have i6:IntKind.i64.wrap ((m:Int)+1+1)=(m:Int)+1+1:=IntWalk.i64_in _ (by omega)
  obtain⟨c,v⟩:∃ c,l[k]?=some c:=⟨l[k]'(by omega),by simp⟩
  obtain⟨b,o,rfl,ad,U⟩:=M.out k c v
  have N:=wP (HG.out k c v)
  have q:=HL.out k c v
  have S:=Dt x v n
  obtain⟨G,r,O,P⟩:=c
  obtain⟨c0,c1,c2,c3,_⟩:=U.later F (by omega)
  simp only[] at c0 c1 c2 c3 N q S
  have V:=F.size
  have g:∀ X f,Below (wr.alloc X).heap.size (wr.alloc X) f->Hid (Below w.heap.size w f/\t7 f w.heap.size x/\w.heap.size<f.heap.size):=λX f h=>⟨Below.thenOf (F.alloc V _) h (by simp;omega),(hX.out.later ((Below.refl wr.heap.size _).alloc (Nat.le_refl _) X) (by omega)).later h (by simp;omega),by have:=h.size;simp at this;omega⟩
  by_cases Q:G=1
  ·subst Q
   obtain⟨j,rfl⟩:∃ j:Nat,r=j:=⟨r.toNat,by omega⟩
   have hj:j<5:=by omega
   have W:=q (by omega)
   have s:Hid (df x 0 0 l=wQ ((m+1:Nat):Int) (df x (x j) 0 (l.drop (k+1)))):=by
    unfold Hid;rw[H.out,S,if_pos rfl,x8];simp
   have b2:∀ X,(wr.alloc X).cell? ⟨w.heap.size,j,none⟩=some (.int .i64 (x j)):=λX=>((g X _ (Below.refl _ _)).out.2.1) j hj
   have j0:(0:Int)<=(j:Int):=by omega
   have j1:(j:Int)<5:=by omega
   clear S N q
   generalize x j=xj at*
   go_wp2
   obtain⟨y,z,A⟩:=(g _ _ (Below.refl _ _)).out
   exact⟨⟨xj,k+1,m+1,rfl,by simp,by simp,by omega,by omega,s,y,z,A⟩,by simp[intOf];omega⟩
  ·by_cases C:G=2\/G=3
   ·have W:=q (by omega)
    obtain⟨b4,b5,b6,b7⟩:0<=O/\O<(p:Int)-1-k/\0<=P/\P<(p:Int)-1-k:=by
     rcases N with ⟨h,_⟩ | ⟨_,h⟩
     ·omega
     ·exact h
    obtain⟨t,rfl⟩:∃ j:Nat,O=j:=⟨O.toNat,by omega⟩
    obtain⟨u,rfl⟩:∃ j:Nat,P=j:=⟨P.toNat,by omega⟩
    have wb:IntKind.i64.wrap ((k:Int)+1+t)=(k:Int)+1+t:=IntWalk.i64_in _ (by omega)
    have wc:IntKind.i64.wrap ((k:Int)+1+u)=(k:Int)+1+u:=IntWalk.i64_in _ (by omega)
    have s:Hid (df x 0 0 l=wQ ((m+1:Nat):Int) (df x n 0 (l.drop (k+1+kf n (G,r,t,u))))):=by
     unfold Hid;rw[H.out,S,if_neg Q,if_pos C,x8];simp
    clear S N q
    rcases C with rfl | rfl
    ·by_cases D:n=r
     ·have d:kf n (2,r,t,u)=t:=by unfold kf;simp[D]
      rw[d] at s
      clear d
      subst D
      go_wp2_with (first | (go_at_call 113;go_must (refine (jn _ _ _ _ _ _).mono ?_;rintro e f ⟨rfl,i⟩;obtain⟨y,z,A⟩:=(g _ _ i).out)))
      exact⟨⟨n,k+1+t,m+1,rfl,by simp,by simp,by omega,by omega,s,y,z,A⟩,by simp[intOf];omega⟩
     ·have d:kf n (2,r,t,u)=u:=by unfold kf;simp[D]
      rw[d] at s
      have Y:(n==r)=false:=by simpa using D
      clear d
      go_wp2_with (first | (go_at_call 113;go_must (refine (jn _ _ _ _ _ _).mono ?_;rintro e f ⟨rfl,i⟩;obtain⟨y,z,A⟩:=(g _ _ i).out)))
      exact⟨⟨n,k+1+u,m+1,rfl,by simp,by simp,by omega,by omega,s,y,z,A⟩,by simp[intOf];omega⟩
    ·by_cases D:n<r
     ·have d:kf n (3,r,t,u)=t:=by unfold kf;simp[D]
      rw[d] at s
      have Y:decide (n<r)=true:=by simpa using D
      clear d
      go_wp2_with (first | (go_at_call 113;go_must (refine (jn _ _ _ _ _ _).mono ?_;rintro e f ⟨rfl,i⟩;obtain⟨y,z,A⟩:=(g _ _ i).out)))
      exact⟨⟨n,k+1+t,m+1,rfl,by simp,by simp,by omega,by omega,s,y,z,A⟩,by simp[intOf];omega⟩
     ·have d:kf n (3,r,t,u)=u:=by unfold kf;simp[D]
      rw[d] at s
      have Y:decide (n<r)=false:=by simpa using D
      clear d
      go_wp2_with (first | (go_at_call 113;go_must (refine (jn _ _ _ _ _ _).mono ?_;rintro e f ⟨rfl,i⟩;obtain⟨y,z,A⟩:=(g _ _ i).out)))
      exact⟨⟨n,k+1+u,m+1,rfl,by simp,by simp,by omega,by omega,s,y,z,A⟩,by simp[intOf];omega⟩
   ·have s:Hid (df x 0 0 l=(r,(m:Int)+1)):=by
     unfold Hid;rw[H.out,S,if_neg Q,if_neg C];unfold wQ;simp;omega
    have q1:(G==1)=false:=by simp;omega
    have q2:(G==2)=false:=by simp;omega
    have q3:(G==3)=false:=by simp;omega
    clear S N q C Q
    go_wp2
    go_ret2
    exact⟨by rw[s.out];rfl,(g _ _ (Below.refl _ _)).out.1⟩
def nW (l:List bS) (x:Nat->Int):Int:=if bt l=0 then dw x else bt l
def ko (l:List bS) (x:Nat->Int):Int × Int:=if nW l x=0 then df x 0 0 l else (0,0)
set_option maxHeartbeats 2000000 in
theorem Dg (B:Nat) (cv:Value) (l:List bS) (x:Nat->Int) (w:World) (C:d7 B w cv l) (D:B<=w.heap.size):
  Calls Tryz.prog 55 #[cv,fK x] w λe b=>e=.returned (.tuple #[.int .i64 (ko l x).1,.int .i64 (ko l x).2,.int .i64 (nW l x)])/\Below w.heap.size w b:=by
 have E:Hid (∀ b,Below w.heap.size w b->Calls Tryz.prog 82 #[cv] b λe c=>e=.returned (.int .i64 (bt l))/\Below b.heap.size b c):=λb h=>nJ B cv l b (C.later h D) (Nat.le_trans D h.size)
 have F:Hid (bt l=0->∀ b,Below w.heap.size w b->Calls Tryz.prog 84 #[cv,.agg #[.int .i64 (x 0),.int .i64 (x 1),.int .i64 (x 2),.int .i64 (x 3),.int .i64 (x 4)]] b λe c=>e=.returned (.tuple #[.int .i64 (df x 0 0 l).1,.int .i64 (df x 0 0 l).2])/\Below b.heap.size b c):=λj b h=>yB B cv l x b (C.later h D) (Nat.le_trans D h.size) j
 have P:Hid (∀ T b,Below (w.heap.size+1) (w.alloc (.cells #[.int .i64 (x 0),.int .i64 (x 1),.int .i64 (x 2),.int .i64 (x 3),.int .i64 (x 4)] T)) b->t7 b w.heap.size x):=λT b h=>(t7.made x w T).later h (by omega)
 obtain⟨a,s,rfl,_,_⟩:=C.shape
 clear C
 have k:∀ X,Below w.heap.size w (w.alloc X):=λX=>(Below.refl _ _).alloc (Nat.le_refl _) _
 generalize l.length=t at*
 show Calls Tryz.prog 55 #[.slice a t s,.agg #[.int .i64 (x 0),.int .i64 (x 1),.int .i64 (x 2),.int .i64 (x 3),.int .i64 (x 4)]] w _
 by_cases j:bt l=0
 ·have U:=hid j
  have y:Hid (∀ b,Below w.heap.size w b->Calls Tryz.prog 84 #[.slice a t s,.agg #[.int .i64 (x 0),.int .i64 (x 1),.int .i64 (x 2),.int .i64 (x 3),.int .i64 (x 4)]] b λe c=>e=.returned (.tuple #[.int .i64 (df x 0 0 l).1,.int .i64 (df x 0 0 l).2])/\Below b.heap.size b c):=F.out j
  have z:Hid (∀ b,Below w.heap.size w b->Calls Tryz.prog 82 #[.slice a t s] b λe c=>e=.returned (.int .i64 0)/\Below b.heap.size b c):=by
   have:=E.out;rw[j] at this;exact this
  by_cases v:dw x=0
  ·have n:nW l x=0:=by rw[nW,if_pos j,v]
   have o:ko l x=df x 0 0 l:=by rw[ko,if_pos n]
   have q:Hid (nW l x=0/\ko l x=df x 0 0 l):=⟨n,o⟩
   have G:Hid (∀ b,Calls Tryz.prog 53 #[.agg #[.int .i64 (x 0),.int .i64 (x 1),.int .i64 (x 2),.int .i64 (x 3),.int .i64 (x 4)]] b λe c=>e=.returned (.int .i64 0)/\Below b.heap.size b c):=λb=>by
    have:=mD (x 0) (x 1) (x 2) (x 3) (x 4) b
    rw[show DB (x 0) (x 1) (x 2) (x 3) (x 4)=0 from v] at this
    exact this
   clear n o v j E F
   generalize Q:df x 0 0 l=r at*
   go_enter Tryz.func55,Tryz.ntmps55
   go_wp2_with fail
   go_at_call 82
   refine Calls.mono (z.out _ (k _)) ?_
   rintro e u ⟨rfl,f⟩
   have m:=P.out _ u (by simpa using f)
   have H:=m 0 (by omega)
   have I:=m 1 (by omega)
   have J:=m 2 (by omega)
   have K:=m 3 (by omega)
   have L:=m 4 (by omega)
   clear m
   have M:=f.size
   simp at M
   have d:Below w.heap.size w u:=Below.thenOf (k _) f (by simp)
   go_wp2_with fail
   go_at_call 53
   refine Calls.mono (G.out _) ?_
   rintro e N ⟨rfl,g⟩
   have V:=(g.cell (p:=⟨w.heap.size,0,none⟩) (by show w.heap.size<_;omega)).trans H
   have W:=(g.cell (p:=⟨w.heap.size,1,none⟩) (by show w.heap.size<_;omega)).trans I
   have Y:=(g.cell (p:=⟨w.heap.size,2,none⟩) (by show w.heap.size<_;omega)).trans J
   have Z:=(g.cell (p:=⟨w.heap.size,3,none⟩) (by show w.heap.size<_;omega)).trans K
   have y4:=(g.cell (p:=⟨w.heap.size,4,none⟩) (by show w.heap.size<_;omega)).trans L
   have i:Below w.heap.size w N:=Below.thenOf d g (by omega)
   clear H I J K L
   go_wp2_with fail
   go_at_call 84
   refine Calls.mono (y.out _ i) ?_
   rintro e R ⟨rfl,O⟩
   have A:Below w.heap.size w R:=Below.thenOf i O i.size
   go_wp2_with fail
   go_ret3
   exact⟨by rw[q.out.1,q.out.2];rfl,A⟩
  ·have n:nW l x=dw x:=by rw[nW,if_pos j]
   have o:ko l x=(0,0):=by rw[ko,if_neg (by rw[n];exact v)]
   have q:Hid (nW l x=dw x/\ko l x=(0,0)):=⟨n,o⟩
   have G:Hid (∀ b,Calls Tryz.prog 53 #[.agg #[.int .i64 (x 0),.int .i64 (x 1),.int .i64 (x 2),.int .i64 (x 3),.int .i64 (x 4)]] b λe c=>e=.returned (.int .i64 (dw x))/\Below b.heap.size b c):=λb=>mD (x 0) (x 1) (x 2) (x 3) (x 4) b
   have S:(dw x != 0)=true:=by simpa using v
   clear n o v j E F y
   generalize Q:dw x=r at*
   go_enter Tryz.func55,Tryz.ntmps55
   go_wp2_with fail
   go_at_call 82
   refine Calls.mono (z.out _ (k _)) ?_
   rintro e u ⟨rfl,f⟩
   have m:=P.out _ u (by simpa using f)
   have H:=m 0 (by omega)
   have I:=m 1 (by omega)
   have J:=m 2 (by omega)
   have K:=m 3 (by omega)
   have L:=m 4 (by omega)
   clear m
   have d:Below w.heap.size w u:=Below.thenOf (k _) f (by simp)
   go_wp2_with fail
   go_at_call 53
   refine Calls.mono (G.out _) ?_
   rintro e N ⟨rfl,g⟩
   have i:Below w.heap.size w N:=Below.thenOf d g d.size
   go_wp2_with fail
   go_ret3
   exact⟨by rw[q.out.1,q.out.2];rfl,i⟩
 ·have n:nW l x=bt l:=by rw[nW,if_neg j]
  have o:ko l x=(0,0):=by rw[ko,if_neg (by rw[n];exact j)]
  have q:Hid (nW l x=bt l/\ko l x=(0,0)):=⟨n,o⟩
  have S:(bt l != 0)=true:=by simpa using j
  clear n o j F
  generalize Q:bt l=r at*
  go_enter Tryz.func55,Tryz.ntmps55
  go_wp2_with fail
  go_at_call 82
  refine Calls.mono (E.out _ (k _)) ?_
  rintro e u ⟨rfl,f⟩
  have d:Below w.heap.size w u:=Below.thenOf (k _) f (by simp)
  go_wp2_with fail
  go_ret3
  exact⟨by rw[q.out.1,q.out.2];rfl,d⟩
end Go.Proofs.YtnpdhopjpjickaaGreatDoor
end
