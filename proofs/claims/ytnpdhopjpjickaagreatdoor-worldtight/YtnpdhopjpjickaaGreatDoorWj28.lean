/- Joined: Nte8 ChD1. -/
import Derived.Test.YtnpdhopjpjickaaGreatDoorWj26
import Derived.Test.YtnpdhopjpjickaaGreatDoorWj01
import Derived.Test.YtnpdhopjpjickaaGreatDoorWj15
section
set_option linter.all false
set_option maxRecDepth 100000
namespace Go.Proofs.YtnpdhopjpjickaaGreatDoor
open Go.RowKit Go.Maps
end Go.Proofs.YtnpdhopjpjickaaGreatDoor
end
section
set_option linter.all false
set_option maxRecDepth 100000
namespace Go.Proofs.YtnpdhopjpjickaaGreatDoor
open Go.RowKit Go.Maps
set_option maxHeartbeats 2000000 in
theorem nH (B:Nat) (lv:Value) (c:gf) (w:World) (F:cH B w lv c) (t:B<=w.heap.size):
  Calls Tryz.prog 52 #[lv] w λe g=>e=.returned (.int .i64 (aZ c))/\Below w.heap.size w g:=by
 have L:Hid (∀ g,Below w.heap.size w g->cH B g lv c):=λg h=>F.later h t
 obtain⟨a,M,rfl,N,O,-⟩:=F
 have P:=ag
 have u:Hid (aZ c=if 6<c.length then 2 else dZ c):=rfl
 generalize n:c.length=d at*
 have i:=hid n
 clear n
 by_cases G:6<d
 ·have v:(6:Int)<(d:Int):=by omega
  have l:Hid (aZ c=2):=by unfold Hid;rw[u.out,if_pos G]
  go_enter Tryz.func52,Tryz.ntmps52
  go_wp2
  go_ret
  exact⟨by rw[l.out];rfl,Below.refl _ _⟩
 ·have v:¬(6:Int)<(d:Int):=by omega
  have l:Hid (aZ c=dZ c):=by unfold Hid;rw[u.out,if_neg G]
  clear u
  go_enter Tryz.func52,Tryz.ntmps52
  go_wp2
  go_loopw [11] (λy wr=>∃ k:Nat,k<=d/\y=.int .i64 k/\Hid (dZ c=dZ (c.drop k))/\Below w.heap.size w wr) (λy _=>d-(intOf y).toNat)
  case atStart=>exact⟨0,by omega,rfl,rfl,Below.refl _ _⟩
  case round=>
   obtain⟨k,U,rfl,H,j⟩:=hrel
   obtain⟨I,z⟩:∃ x,x=wr:=⟨_,rfl⟩
   subst z
   have V:(0:Int)<=(k:Int):=by omega
   have m:=j.size
   by_cases Q:k<d
   ·have W:(k:Int)<(d:Int):=by omega
    obtain⟨f,A⟩:∃ f,c[k]?=some f:=⟨c[k]'(by rw[i.out];omega),by simp⟩
    have S:Hid (dZ (c.drop k)=if bt f=0 then dZ (c.drop (k+1)) else bt f):=tB c k f A
    obtain⟨_,_,J,-,-,s⟩:=L.out _ j
    obtain⟨b,o,K,e,R,X,C⟩:=s k f A
    simp at J
    obtain⟨rfl,-,-⟩:=J
    subst e
    clear s
    have p:Hid (∀ g,Below I.heap.size I g->Calls Tryz.prog 82 #[K] g λe D=>e=.returned (.int .i64 (bt f))/\Below g.heap.size g D):=λg h=>nJ B K f g (C.later h (Nat.le_trans t m)) (Nat.le_trans t (Nat.le_trans m h.size))
    obtain⟨Y,Z,rfl,-,-⟩:=C.shape
    clear C A
    generalize f.length=n2 at*
    by_cases r:bt f=0
    ·rw[r] at p
     have E:Hid (dZ c=dZ (c.drop (k+1))):=by unfold Hid;rw[H.out,S.out,if_pos r]
     clear r S
     go_wp2_with (first | (go_at_call 82;go_must (refine Calls.mono (p.out _ (Below.refl _ _)) ?_;rintro e T ⟨rfl,q⟩)))
     exact⟨⟨k+1,by omega,by go_num,E,Below.thenOf j q m⟩,by simp[intOf];omega⟩
    ·have E:Hid (dZ c=bt f):=by unfold Hid;rw[H.out,S.out,if_neg r]
     have hq:(bt f != 0)=true:=by simpa using r
     clear r S
     generalize bt f=pe at*
     go_wp2_with (first | (go_at_call 82;go_must (refine Calls.mono (p.out _ (Below.refl _ _)) ?_;rintro e T ⟨rfl,q⟩)))
     go_ret
     exact⟨by rw[l.out,E.out];rfl,Below.thenOf j q m⟩
   ·go_wp2
    go_ret
    exact⟨by rw[l.out,H.out,List.drop_eq_nil_of_le (by rw[i.out];omega)];rfl,j⟩
set_option maxHeartbeats 2000000 in
theorem qB (B:Nat) (cv d:Value) (cs b:List bS) (w:World) (f:d7 B w cv cs) (g:d7 B w d b) (j:B<=w.heap.size):
  Calls Tryz.prog 128 #[cv,d] w λe h=>e=.returned (.bool (decide (cs=b)))/\Below w.heap.size w h:=by
 have k:Hid (Calls Tryz.prog 92 #[cv,d] w λe h=>e=.returned (.bool (decide (cs=b)))/\Below w.heap.size w h):=zQ2 B cv d cs b w f g j
 obtain⟨a,c,rfl,-,-⟩:=f.shape
 obtain⟨l,m,rfl,-,-⟩:=g.shape
 clear f g
 generalize decide (cs=b)=eq at*
 generalize cs.length=n at*
 generalize b.length=o at*
 go_enter Tryz.func128,Tryz.ntmps128
 go_wp2_with (first | (go_at_call 92;go_must (refine Calls.mono k.out ?_;rintro e p ⟨rfl,i⟩)))
 go_ret
 exact⟨rfl,i⟩
set_option maxHeartbeats 4000000 in
theorem rA (B:Nat) (lv K:Value) (c d:gf) (w:World) (R:cH B w lv c) (T:cH B w K d) (L:B<=w.heap.size):
  Calls Tryz.prog 90 #[lv,K,.func (.func 128) #[] #[]] w λe q=>e=.returned (.bool (decide (c=d)))/\Below w.heap.size w q:=by
 have HL:Hid (∀ q,Below w.heap.size w q->cH B q lv c):=λq h=>R.later h L
 have HM:Hid (∀ q,Below w.heap.size w q->cH B q K d):=λq h=>T.later h L
 obtain⟨a,a5,rfl,a6,a7,-⟩:=R
 obtain⟨a',U,rfl,V,W,-⟩:=T
 have a8:=ag
 have X:Hid (c.length≠d.length->decide (c=d)=false):=λh=>decide_eq_false λe=>h (by rw[e])
 generalize s:c.length=n at*
 generalize l:d.length=m at*
 have p:=hid s
 have i:=hid l
 clear s l
 by_cases C:n=m
 ·subst C
  clear X
  go_enter Tryz.func90,Tryz.ntmps90
  go_wp2
  go_loopw [17] (λM wr=>∃ k:Nat,k<=n/\M=.int .i64 k/\Hid (c.take k=d.take k)/\Below w.heap.size w wr) (λM _=>n-(intOf M).toNat)
  case atStart=>exact⟨0,by omega,rfl,by unfold Hid;simp,Below.refl _ _⟩
  case round=>
   obtain⟨k,hk,rfl,H,j⟩:=hrel
   obtain⟨I,N⟩:∃ x,x=wr:=⟨_,rfl⟩
   subst N
   have i0:(0:Int)<=(k:Int):=by omega
   have u:=j.size
   by_cases a9:k<n
   ·have i1:(k:Int)<(n:Int):=by omega
    obtain⟨f,D⟩:∃ f,c[k]?=some f:=⟨c[k]'(by rw[p.out];omega),by simp⟩
    obtain⟨g,J⟩:∃ g,d[k]?=some g:=⟨d[k]'(by rw[i.out];omega),by simp⟩
    have S:Hid (c.take (k+1)=d.take (k+1) ↔ f=g):=vz c d k f g D J H.out
    have O:Hid (f≠g->decide (c=d)=false):=λh=>decide_eq_false λe=>h (by rw[e,J] at D;simpa using D.symm)
    obtain⟨_,_,E,-,-,F⟩:=HL.out _ j
    obtain⟨b,o,Y,e,aa,hc,P⟩:=F k f D
    simp at E
    obtain⟨rfl,-,-⟩:=E
    subst e
    obtain⟨_,_,E,-,-,t⟩:=HM.out _ j
    obtain⟨b',o',Z,e,a0,ac,v⟩:=t k g J
    simp at E
    obtain⟨rfl,-,-⟩:=E
    subst e
    clear F t
    have r:Hid (Calls Tryz.prog 128 #[Y,Z] I λe Q=>e=.returned (.bool (decide (f=g)))/\Below I.heap.size I Q):=qB B Y Z f g I P v (Nat.le_trans L u)
    obtain⟨a2,c2,rfl,-,-⟩:=P.shape
    obtain⟨a3,c3,rfl,-,-⟩:=v.shape
    clear P v D J
    generalize f.length=n2 at*
    generalize g.length=n3 at*
    by_cases A:f=g
    ·have y:Hid (c.take (k+1)=d.take (k+1)):=S.out.2 A
     rw[decide_eq_true A] at r
     clear A S O
     go_wp2_with (first | (go_at_call 128;go_must (refine Calls.mono r.out ?_;rintro e w2 ⟨rfl,z⟩)))
     exact⟨⟨k+1,by omega,by go_num,y,Below.thenOf j z u⟩,by simp[intOf];omega⟩
    ·have y:Hid (decide (c=d)=false):=O.out A
     rw[decide_eq_false A] at r
     clear A S O
     go_wp2_with (first | (go_at_call 128;go_must (refine Calls.mono r.out ?_;rintro e w2 ⟨rfl,z⟩)))
     go_ret
     exact⟨by rw[y.out];rfl,Below.thenOf j z u⟩
   ·have y:Hid (decide (c=d)=true):=by
     apply decide_eq_true
     have:=H.out
     rw[List.take_of_length_le (by rw[p.out];omega),List.take_of_length_le (by rw[i.out];omega)] at this
     exact this
    go_wp2
    go_ret
    exact⟨by rw[y.out];rfl,j⟩
 ·have G:¬(n:Int)=(m:Int):=by omega
  have y:Hid (decide (c=d)=false):=X.out C
  have hq:((n:Int) != (m:Int))=true:=by simpa using G
  go_enter Tryz.func90,Tryz.ntmps90
  go_wp2
  go_ret
  exact⟨by rw[y.out];rfl,Below.refl _ _⟩
set_option maxHeartbeats 2000000 in
theorem Bl (B:Nat) (lv f:Value) (b d:gf) (w:World) (g:cH B w lv b) (h:cH B w f d) (k:B<=w.heap.size):
  Calls Tryz.prog 102 #[lv,f] w λe i=>e=.returned (.bool (decide (b=d)))/\Below w.heap.size w i:=by
 have l:Hid (Calls Tryz.prog 90 #[lv,f,.func (.func 128) #[] #[]] w λe i=>e=.returned (.bool (decide (b=d)))/\Below w.heap.size w i):=rA B lv f b d w g h k
 obtain⟨a,c,rfl,-,-⟩:=g.shape
 obtain⟨m,o,rfl,-,-⟩:=h.shape
 clear g h
 generalize decide (b=d)=eq at*
 generalize b.length=n at*
 generalize d.length=p at*
 go_enter Tryz.func102,Tryz.ntmps102
 go_wp2_with (first | (go_at_call 90;go_must (refine Calls.mono l.out ?_;rintro e q ⟨rfl,j⟩)))
 go_ret
 exact⟨rfl,j⟩
set_option maxHeartbeats 2000000 in
theorem Be (B j:Nat) (d:Value) (f:List bS) (x:Nat->Int) (w:World) (g:d7 B w d f) (l:B<=w.heap.size) (k:w.heap[j]?=some (.cells (dy x) 34 (0,0))):
  Calls Tryz.prog 54 #[d,.pointer (some ⟨j,0,none⟩)] w λe h=>e=.returned (.int .i64 (ko f x).1)/\Below w.heap.size w h:=by
 have m:Hid (Calls Tryz.prog 55 #[d,.agg #[.int .i64 (x 0),.int .i64 (x 1),.int .i64 (x 2),.int .i64 (x 3),.int .i64 (x 4)]] w λe h=>e=.returned (.tuple #[.int .i64 (ko f x).1,.int .i64 (ko f x).2,.int .i64 (nW f x)])/\Below w.heap.size w h):=Dg B d f x w g l
 obtain⟨a,c,rfl,-,-⟩:=g.shape
 have b:=(cY k).1
 have o:=b 0 (by omega)
 have p:=b 1 (by omega)
 have q:=b 2 (by omega)
 have r:=b 3 (by omega)
 have s:=b 4 (by omega)
 clear g b k
 generalize f.length=n at*
 generalize (ko f x).1=t at*
 generalize (ko f x).2=u at*
 generalize nW f x=v at*
 go_enter Tryz.func54,Tryz.ntmps54
 go_wp2_with (first | (go_at_call 55;go_must (refine Calls.mono m.out ?_;rintro e y ⟨rfl,i⟩)))
 go_ret
 exact⟨rfl,i⟩
set_option maxHeartbeats 4000000 in
theorem BQ (B:Nat) (lv:Value) (c:gf) (x:Nat->Int) (w:World) (Y:cH B w lv c) (X:B<=w.heap.size):
  Calls Tryz.prog 27 #[lv,fK x] w λe d=>e=.returned (.tuple #[.int .i64 (j8 c x),.int .i64 (ik c x)])/\Below w.heap.size w d:=by
 have HL:Hid (∀ d,Below w.heap.size w d->cH B d lv c):=λd h=>Y.later h X
 have HC:Hid (∀ d,Below w.heap.size w d->Calls Tryz.prog 52 #[lv] d λe n=>e=.returned (.int .i64 (aZ c))/\Below d.heap.size d n):=λd h=>nH B lv c d (Y.later h X) (Nat.le_trans X h.size)
 have v:Hid (∀ d,Calls Tryz.prog 53 #[.agg #[.int .i64 (x 0),.int .i64 (x 1),.int .i64 (x 2),.int .i64 (x 3),.int .i64 (x 4)]] d λe n=>e=.returned (.int .i64 (dw x))/\Below d.heap.size d n):=λd=>mD (x 0) (x 1) (x 2) (x 3) (x 4) d
 have y:Hid (ik c x=if aZ c=0 then dw x else aZ c):=rfl
 have m:Hid (j8 c x=if ik c x=0 then fg x 4 c else 0):=rfl
 have G:Hid (aZ c=0->∀ f∈c,bt f=0):=λh=>(dN.1 h).2
 have z:Hid (dw x=0->∀ f,bt f=0->(ko f x).1=(df x 0 0 f).1):=λh f K=>by
  have hE:nW f x=0:=by rw[nW,if_pos K,h]
  rw[ko,if_pos hE]
 obtain⟨a,Z,rfl,b3,b4,-⟩:=Y
 have b5:=ag
 generalize A:c.length=p at*
 have q:=hid A
 clear A
 show Calls Tryz.prog 27 #[.slice a p Z,.agg #[.int .i64 (x 0),.int .i64 (x 1),.int .i64 (x 2),.int .i64 (x 3),.int .i64 (x 4)]] w _
 obtain⟨r,s⟩:∃ r,r=w.alloc (.cells #[.int .i64 (x 0),.int .i64 (x 1),.int .i64 (x 2),.int .i64 (x 3),.int .i64 (x 4)] 34):=⟨_,rfl⟩
 have i:Below w.heap.size w r:=by rw[s];exact (Below.refl _ _).alloc (Nat.le_refl _) _
 have b6:r.heap.size=w.heap.size+1:=by rw[s];simp
 have hm:r.heap[w.heap.size]?=some (.cells (dy x) 34 (0,0)):=by rw[s];exact af _ _
 have HX:Hid (∀ d,Below r.heap.size r d->d.heap[w.heap.size]?=some (.cells (dy x) 34 (0,0))):=λd h=>(h.block w.heap.size (by omega)).trans hm
 have HW:Hid _:=s
 clear s hm
 go_enter Tryz.func27,Tryz.ntmps27
 go_wp2_with fail
 rw[<-HW.out]
 go_at_call 52
 refine Calls.mono (HC.out _ i) ?_
 rintro e w1 ⟨rfl,t⟩
 have a0:=t.size
 have C:Below w.heap.size w w1:=Below.thenOf i t i.size
 have L:=(cY (HX.out w1 t)).1
 have y0:=L 0 (by omega)
 have y1:=L 1 (by omega)
 have y2:=L 2 (by omega)
 have y3:=L 3 (by omega)
 have y4:=L 4 (by omega)
 clear L HC
 by_cases g:aZ c=0
 ·have N:Hid (∀ f∈c,bt f=0):=G.out g
  have l:Hid (ik c x=dw x):=by unfold Hid;rw[y.out,if_pos g]
  rw[g]
  clear g G y
  go_wp2_with fail
  go_at_call 53
  refine Calls.mono (v.out _) ?_
  rintro e w2 ⟨rfl,H⟩
  have bd:=H.size
  have D:Below r.heap.size r w2:=Below.thenOf t H a0
  have O:Below w.heap.size w w2:=Below.thenOf i D i.size
  clear y0 y1 y2 y3 y4 t H C
  by_cases j:dw x=0
  ·have E:Hid (ik c x=0/\j8 c x=fg x 4 c):=by
    have e:ik c x=0:=by rw[l.out,j]
    exact⟨e,by rw[m.out,if_pos e]⟩
   have P:Hid (∀ f,bt f=0->(ko f x).1=(df x 0 0 f).1):=z.out j
   rw[j]
   clear j l m z v
   go_wp2_with fail
   go_loopw [9,25] (λvv iv wr=>∃ k:Nat,k<=p/\iv=.int .i64 k/\vv=.int .i64 (fg x 4 (c.take k))/\Hid (Below r.heap.size r wr)) (λ_ iv _=>p-(intOf iv).toNat)
   case atStart=>exact⟨0,by omega,rfl,rfl,D⟩
   case round=>
    obtain⟨k,hk,rfl,rfl,u⟩:=hrel
    obtain⟨M,a3⟩:∃ x,x=wr:=⟨_,rfl⟩
    subst a3
    have i0:(0:Int)<=(k:Int):=by omega
    have Q:=u.out.size
    have I:Hid (Below w.heap.size w M):=Below.thenOf i u.out i.size
    by_cases bg:k<p
    ·have i1:(k:Int)<(p:Int):=by omega
     obtain⟨f,K⟩:∃ f,c[k]?=some f:=⟨c[k]'(by rw[q.out];omega),by simp⟩
     have S:Hid (fg x 4 (c.take (k+1))=if (df x 0 0 f).1<fg x 4 (c.take k) then (df x 0 0 f).1 else fg x 4 (c.take k)):=Au x c k f K
     obtain⟨_,_,e1,-,-,R⟩:=HL.out _ I.out
     obtain⟨b,o,fv,e,bk,hc,hi⟩:=R k f K
     simp at e1
     obtain⟨rfl,-,-⟩:=e1
     subst e
     have T:=N.out f (List.mem_of_getElem? K)
     clear R
     have U:Hid (Calls Tryz.prog 54 #[fv,.pointer (some ⟨w.heap.size,0,none⟩)] M λe n=>e=.returned (.int .i64 (df x 0 0 f).1)/\Below M.heap.size M n):=by
      have:=Be B w.heap.size fv f x M hi (Nat.le_trans X I.out.size) (HX.out M u.out)
      rw[P.out f T] at this
      exact this
     obtain⟨a2,c2,rfl,-,-⟩:=hi.shape
     clear hi K T
     generalize f.length=n2 at*
     generalize (df x 0 0 f).1=V at*
     generalize fg x 4 (c.take k)=F at*
     by_cases he:V<F
     ·have S':Hid (V=fg x 4 (c.take (k+1))):=by unfold Hid;rw[S.out,if_pos he]
      have W:min F V=V:=by omega
      clear S
      go_wp2_with (first | (go_at_call 54;go_must (refine Calls.mono U.out ?_;rintro e w3 ⟨rfl,J⟩)))
      all_goals first | (exfalso;omega) | skip
      exact⟨⟨k+1,by omega,by go_num,by rw[S'.out],Below.thenOf u.out J Q⟩,by simp[intOf];omega⟩
     ·have S':Hid (F=fg x 4 (c.take (k+1))):=by unfold Hid;rw[S.out,if_neg he]
      have W:min F V=F:=by omega
      clear S
      go_wp2_with (first | (go_at_call 54;go_must (refine Calls.mono U.out ?_;rintro e w3 ⟨rfl,J⟩)))
      all_goals first | (exfalso;omega) | skip
      exact⟨⟨k+1,by omega,by go_num,by rw[S'.out],Below.thenOf u.out J Q⟩,by simp[intOf];omega⟩
    ·have e:c.take k=c:=List.take_of_length_le (by rw[q.out];omega)
     rw[e]
     have HV:Hid (∃ F,F=fg x 4 c):=⟨_,rfl⟩
     obtain⟨F,hv⟩:=HV.out
     rw[<-hv]
     have a7:=hid hv
     clear hv HV
     go_wp2_with fail
     go_ret2
     exact⟨by rw[E.out.1,E.out.2,<-a7.out];rfl,I.out⟩
  ·have E:Hid (ik c x=dw x/\j8 c x=0):=by
    have e:ik c x=dw x:=l.out
    exact⟨e,by rw[m.out,if_neg (by rw[e];exact j)]⟩
   have hq:(dw x != 0)=true:=by simpa using j
   clear j l m z v
   generalize dw x=cx at*
   go_wp2_with fail
   go_ret2
   exact⟨by rw[E.out.1,E.out.2];rfl,O⟩
 ·have E:Hid (ik c x=aZ c/\j8 c x=0):=by
   have e:ik c x=aZ c:=by rw[y.out,if_neg g]
   exact⟨e,by rw[m.out,if_neg (by rw[e];exact g)]⟩
  have hq:(aZ c != 0)=true:=by simpa using g
  clear g y m z v G
  generalize aZ c=ce at*
  go_wp2_with fail
  go_ret2
  exact⟨by rw[E.out.1,E.out.2];rfl,C⟩
end Go.Proofs.YtnpdhopjpjickaaGreatDoor
end
