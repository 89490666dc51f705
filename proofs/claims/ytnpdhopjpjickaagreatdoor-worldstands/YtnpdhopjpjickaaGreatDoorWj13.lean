/- Joined: Same2 Same3 Nte2 NtD1. -/
import Derived.Test.YtnpdhopjpjickaaGreatDoorWj01
import Derived.Test.YtnpdhopjpjickaaGreatDoorWj04
import Derived.Test.YtnpdhopjpjickaaGreatDoorWj03
section
set_option linter.all false
namespace Go.Proofs.YtnpdhopjpjickaaGreatDoor
open Go.RowKit Go.Maps
theorem bB.shape {B:Nat} {w:World} {v:Value} {cs:List aB} (h:bB B w v cs):∃ a n b,v=.slice a n b:=by
 obtain⟨a,b,e,_⟩:=h
 exact⟨a,_,b,e⟩
theorem be.shape {B:Nat} {w:World} {v:Value} {c:List ai} (h:be B w v c):∃ a b,v=.slice a c.length b:=by
 obtain⟨a,b,e,_⟩:=h
 exact⟨a,b,e⟩
set_option maxHeartbeats 1000000 in
theorem vG (B:Nat) (cv h:Value) (r s:ai) (w:World) (j:bB B w cv r.1) (k:bB B w h s.1) (p:B<=w.heap.size):
  Calls Tryz.prog 130 #[.agg #[cv,.int .i64 r.2],.agg #[h,.int .i64 s.2]] w λe i=>e=.returned (.bool (decide (r=s)))/\Below w.heap.size w i:=by
 obtain⟨d,g⟩:=r
 obtain⟨f,l⟩:=s
 have b:∀ X Y,Below w.heap.size w ((w.alloc X).alloc Y):=λX Y=>((Below.refl _ _).alloc (Nat.le_refl _) _).alloc (by simp) _
 have c:Hid (∀ X Y,Calls Tryz.prog 93 #[cv,h] ((w.alloc X).alloc Y) λe i=>e=.returned (.bool (decide (d=f)))/\Below ((w.alloc X).alloc Y).heap.size ((w.alloc X).alloc Y) i):=λX Y=>rG B cv h d f _ (j.later (b X Y) p) (k.later (b X Y) p) (by simp;omega)
 obtain⟨a,n,u,rfl⟩:=j.shape
 obtain⟨x,y,t,rfl⟩:=k.shape
 clear j k
 simp only[]
 by_cases m:g=l
 ·subst m
  have E:Hid (decide (((d,g):ai)=(f,g))=decide (d=f)):=by unfold Hid;simp
  generalize decide (d=f)=q at*
  go_enter Tryz.func130,Tryz.ntmps130
  go_wp2_with (first | (go_at_call 93;refine (c.out _ _).mono ?_;rintro e i ⟨rfl,o⟩))
  go_ret
  exact⟨by rw[E.out];rfl,Below.thenOf (b _ _) o (by simp;omega)⟩
 ·have E:Hid (decide (((d,g):ai)=(f,l))=false):=by unfold Hid;simp;intro _;exact m
  have v:(g==l)=false:=by simpa using m
  go_enter Tryz.func130,Tryz.ntmps130
  go_wp2
  go_ret
  exact⟨by first | rfl | (rw[E.out];rfl),b _ _⟩
set_option maxHeartbeats 1000000 in
theorem rF (B:Nat) (rv sv:Value) (d ss:List ai) (w:World) (hr:be B w rv d) (hs:be B w sv ss) (V:B<=w.heap.size):
  Calls Tryz.prog 129 #[rv,sv,.func (.func 130) #[] #[]] w λe C=>e=.returned (.bool (decide (d=ss)))/\Below w.heap.size w C:=by
 obtain⟨a,ad,rfl,ak,ao,D⟩:=hr
 obtain⟨a2,W,rfl,E,Z,F⟩:=hs
 have G:=hid D
 have I:=hid F
 clear D F
 by_cases c:d.length=ss.length
 ·generalize hn:d.length=n at*
  have hm:ss.length=n:=c.symm
  clear c
  rw[hm] at E
  simp only[hm]
  have av:n<=9223372036854775807:=by have:=ag;omega
  go_enter Tryz.func129,Tryz.ntmps129
  go_wp2
  go_loopw [17] (λi wr=>∃ k:Nat,k<=n/\i=.int .i64 k/\Hid (∀ i,i<k->d[i]?=ss[i]?)/\Below w.heap.size w wr) (λi _=>n-(intOf i).toNat)
  case atStart=>exact⟨0,by omega,rfl,λi h=>absurd h (by omega),Below.refl _ _⟩
  case round=>
   obtain⟨k,hk,rfl,H,f⟩:=hrel
   have i0:(0:Int)<=(k:Int):=by omega
   by_cases b0:k<n
   ·have i1:(k:Int)<(n:Int):=by omega
    obtain⟨r,v⟩:∃ r,d[k]?=some r:=⟨d[k]'(by omega),by simp⟩
    obtain⟨s,x⟩:∃ s,ss[k]?=some s:=⟨ss[k]'(by omega),by simp⟩
    obtain⟨b,o,rfl,P,J⟩:=G.out k r v
    obtain⟨A,O,rfl,K,l⟩:=I.out k s x
    have t:=hid v
    have u:=hid x
    clear v x
    have Q:=f.size
    obtain⟨cv,c0,c1,w0,g⟩:=J.later f V P
    obtain⟨dv,d0,d1,w1,j⟩:=l.later f V K
    have y:∀ X Y,Below wr.heap.size wr ((wr.alloc X).alloc Y):=λX Y=>((Below.refl _ _).alloc (Nat.le_refl _) _).alloc (by simp) _
    have z:Hid (∀ X Y,Calls Tryz.prog 130 #[.agg #[cv,.int .i64 r.2],.agg #[dv,.int .i64 s.2]] ((wr.alloc X).alloc Y) λe C=>e=.returned (.bool (decide (r=s)))/\Below ((wr.alloc X).alloc Y).heap.size ((wr.alloc X).alloc Y) C):=λX Y=>vG B cv dv r s _ (g.later (y X Y) (by omega)) (j.later (y X Y) (by omega)) (by simp;omega)
    obtain⟨a3,n3,a6,rfl⟩:=g.shape
    obtain⟨a4,n4,L,rfl⟩:=j.shape
    clear J l g j
    generalize r.2=b6 at*
    generalize s.2=R at*
    have ha:∀ X,(wr.alloc X).cell? ⟨A,O+k*2,none⟩=some (.slice a4 n4 L):=λX=>(((Below.refl wr.heap.size wr).alloc (Nat.le_refl _) X).cell (p:=⟨A,O+k*2,none⟩) (by show A<wr.heap.size;omega)).trans d0
    have b7:∀ X,(wr.alloc X).cell? ⟨A,O+k*2+1,none⟩=some (.int .i64 R):=λX=>(((Below.refl wr.heap.size wr).alloc (Nat.le_refl _) X).cell (p:=⟨A,O+k*2+1,none⟩) (by show A<wr.heap.size;omega)).trans d1
    generalize hq:decide (r=s)=q at*
    have M:=hid hq
    clear hq
    go_wp2_with (first | (go_at_call 130;refine (z.out _ _).mono ?_;rintro e C ⟨rfl,S⟩))
    all_goals have N:Below w.heap.size w C:=Below.thenOf (Below.thenOf f (y _ _) Q) S (by simp;omega)
    ·go_ret
     refine⟨?_,N⟩
     have c:r≠s:=by have h:=M.out;rw[(by simpa using (by assumption:(!q)=true):q=false)] at h;simpa using h
     have:d≠ss:=by
      intro h
      have h1:=t.out
      rw[h,u.out] at h1
      exact c (Option.some.inj h1).symm
     simp[this]
    ·have T:r=s:=by have h:=M.out;rw[(by simpa using (by assumption:(!q)=false):q=true)] at h;simpa using h
     refine⟨⟨k+1,by omega,by go_num,λi hi=>?_,N⟩,by simp[intOf];omega⟩
     by_cases U:i=k
     ·subst U;rw[t.out,u.out,T]
     ·exact H.out i (by omega)
   ·go_wp2
    go_ret
    refine⟨?_,f⟩
    have:d=ss:=by
     refine List.ext_getElem? λi=>?_
     by_cases hi:i<k
     ·exact H.out i hi
     ·rw[List.getElem?_eq_none (by omega),List.getElem?_eq_none (by omega)]
    simp[this]
 ·have b8:((d.length:Int) != (ss.length:Int))=true:=by simp;omega
  have hf:Hid (decide (d=ss)=false):=by unfold Hid;simp;intro h;rw[h] at c;exact c rfl
  generalize d.length=n at*
  generalize ss.length=m at*
  go_enter Tryz.func129,Tryz.ntmps129
  go_wp2
  go_ret
  exact⟨by rw[hf.out];rfl,Below.refl _ _⟩
set_option maxHeartbeats 1000000 in
theorem xe (B:Nat) (n o:Value) (p q:ap) (w:World) (v:bG B w n p) (x:bG B w o q) (r:B<=w.heap.size):
  Calls Tryz.prog 103 #[n,o] w λe h=>e=.returned (.bool (decide (p=q)))/\Below w.heap.size w h:=by
 obtain⟨d,g⟩:=p
 obtain⟨f,i⟩:=q
 obtain⟨s,rfl,_,j⟩:=v
 obtain⟨t,rfl,_,k⟩:=x
 have b:∀ X Y,Below w.heap.size w ((w.alloc X).alloc Y):=λX Y=>((Below.refl _ _).alloc (Nat.le_refl _) _).alloc (by simp) _
 have c:Hid (∀ X Y,Calls Tryz.prog 129 #[s,t,.func (.func 130) #[] #[]] ((w.alloc X).alloc Y) λe h=>e=.returned (.bool (decide (d=f)))/\Below ((w.alloc X).alloc Y).heap.size ((w.alloc X).alloc Y) h):=λX Y=>rF B s t d f _ (j.later (b X Y) r) (k.later (b X Y) r) (by simp;omega)
 obtain⟨a,y,rfl⟩:=j.shape
 obtain⟨A,u,rfl⟩:=k.shape
 clear j k
 simp only[]
 by_cases l:g=i
 ·subst l
  have E:Hid (decide (((d,g):ap)=(f,g))=decide (d=f)):=by unfold Hid;simp
  generalize decide (d=f)=q at*
  go_enter Tryz.func103,Tryz.ntmps103
  go_wp2_with (first | (go_at_call 129;refine (c.out _ _).mono ?_;rintro e h ⟨rfl,m⟩))
  go_ret
  exact⟨by rw[E.out];rfl,Below.thenOf (b _ _) m (by simp;omega)⟩
 ·have E:Hid (decide (((d,g):ap)=(f,i))=false):=by unfold Hid;simp;intro _;exact l
  have z:(g==i)=false:=by simpa using l
  go_enter Tryz.func103,Tryz.ntmps103
  go_wp2
  go_ret
  exact⟨by first | rfl | (rw[E.out];rfl),b _ _⟩
end Go.Proofs.YtnpdhopjpjickaaGreatDoor
end
section
set_option linter.all false
namespace Go.Proofs.YtnpdhopjpjickaaGreatDoor
open Go.RowKit Go.Maps
end Go.Proofs.YtnpdhopjpjickaaGreatDoor
end
section
set_option linter.all false
set_option maxRecDepth 100000
namespace Go.Proofs.YtnpdhopjpjickaaGreatDoor
open Go.RowKit Go.Maps
def cV (B:Nat) (w:World) (v:Value) (r:al):Prop:=
 ∃ a,v=.agg #[.int .i64 r.1,.int .i64 r.2.1,.int .i64 r.2.2.1,a,.int .i64 r.2.2.2.2]/\wf r.1/\wf r.2.1/\wf r.2.2.1/\bG B w (.agg #[a,.int .i64 r.2.2.2.2]) r.2.2.2
theorem cV.later {B b:Nat} {w w':World} {v:Value} {r:al} (h:cV B w v r) (c:Below b w w') (d:B<=b):cV B w' v r:=by
 obtain⟨f,g,i,j,k,l⟩:=h
 refine⟨f,g,i,j,k,?_⟩
 obtain⟨a,e,m,n⟩:=l
 exact⟨a,e,m,n.later c d⟩
theorem cV.shape {B:Nat} {w:World} {v:Value} {r:al} (h:cV B w v r):∃ a c,v=.agg #[.int .i64 r.1,.int .i64 r.2.1,.int .i64 r.2.2.1,.slice a r.2.2.2.1.length c,.int .i64 r.2.2.2.2]/\bG B w (.agg #[.slice a r.2.2.2.1.length c,.int .i64 r.2.2.2.2]) r.2.2.2:=by
 obtain⟨j,b,k,l,m,d,e,f,a,c,g,i⟩:=h
 simp at e
 subst e g
 exact⟨a,c,b,_,rfl,f,a,c,rfl,i⟩
theorem yp (B:Nat) (w:World):cV B w (.agg #[.int .i64 0,.int .i64 0,.int .i64 0,.slice none 0 0,.int .i64 0]) cr:=by
 have a:wf (0:Int):=by unfold wf;decide
 exact⟨_,rfl,a,a,a,dU B w⟩
def gE (L:Nat) (w:World) (v:Value) (r:al):Prop:=∀ a:World,(∀ g,L<=g->g<w.heap.size->a.heap[g]?=w.heap[g]?)->w.heap.size<=a.heap.size->cV a.heap.size a v r
theorem gE.at {L:Nat} {w:World} {v:Value} {r:al} (h:gE L w v r):cV w.heap.size w v r:=h w (λ_ _ _=>rfl) (Nat.le_refl _)
theorem dO (L:Nat) (w:World):gE L w (.agg #[.int .i64 0,.int .i64 0,.int .i64 0,.slice none 0 0,.int .i64 0]) cr:=λa _ _=>yp _ _
theorem bw {w:World} {b:Nat} {k c f d:Int} {sv:Value} {T:TypeId} {a:Nat × Nat} (h:w.heap[b]?=some (.cells #[.int .i64 k,.int .i64 c,.int .i64 f,sv,.int .i64 d] T a)):w.cell? ⟨b,0,none⟩=some (.int .i64 k)/\w.cell? ⟨b,1,none⟩=some (.int .i64 c)/\w.cell? ⟨b,2,none⟩=some (.int .i64 f)/\w.cell? ⟨b,3,none⟩=some sv/\w.cell? ⟨b,4,none⟩=some (.int .i64 d):=
 ⟨ab h 0 rfl,ab h 1 rfl,ab h 2 rfl,ab h 3 rfl,ab h 4 rfl⟩
end Go.Proofs.YtnpdhopjpjickaaGreatDoor
end
section
set_option linter.all false
set_option maxRecDepth 100000
namespace Go.Proofs.YtnpdhopjpjickaaGreatDoor
open Go.RowKit Go.Maps
theorem sD {n:Int} (a:0<=n) (b:n<4) (w:World):Calls Tryz.prog 150 #[.int .i64 n] w λe c=>e=.returned (.bool true)/\c=w:=by
 go_enter Tryz.func150,Tryz.ntmps150
 go_wp2
 go_ret
 exact⟨by simp[a,b],rfl⟩
theorem um {n:Int} (h:n<0\/3<n) (w:World):Calls Tryz.prog 150 #[.int .i64 n] w λe a=>e=.returned (.bool false)/\a=w:=by
 by_cases b:0<=n
 ·have c:¬n<4:=by omega
  clear h
  go_enter Tryz.func150,Tryz.ntmps150
  go_wp2
  go_ret
  exact⟨by simp[c],rfl⟩
 ·clear h
  go_enter Tryz.func150,Tryz.ntmps150
  go_wp2
  go_ret
  exact⟨by simp[b],rfl⟩
theorem pg {k:Int} (a:k=1\/k=2\/k=3\/k=4) (w:World):Calls Tryz.prog 151 #[.int .i64 k] w λe b=>e=.returned (.bool (decide (k=1\/k=2)))/\b=w:=by
 rcases a with rfl | rfl | rfl | rfl
 all_goals
  go_enter Tryz.func151,Tryz.ntmps151
  go_wp2
  go_ret
  exact⟨by simp,rfl⟩
set_option maxHeartbeats 8000000 in
theorem gZ (B:Nat) (v:Value) (r:al) (w:World) (P:cV B w v r) (K:B<=w.heap.size):
  Calls Tryz.prog 124 #[v] w λe b=>e=.returned (.int .i64 (bF r))/\Below w.heap.size w b:=by
 obtain⟨a,c,rfl,x⟩:=P.shape
 have m:Hid (∀ b,Below w.heap.size w b->Calls Tryz.prog 152 #[.agg #[.slice a r.2.2.2.1.length c,.int .i64 r.2.2.2.2]] b λe f=>e=.returned (.int .i64 (ae r.2.2.2))/\Below b.heap.size b f):=λb h=>fm B _ r.2.2.2 b (x.later h K) (Nat.le_trans K h.size)
 obtain⟨z,q⟩:∃ z,z=decide (r.2.2.2=(([],0):ap)):=⟨_,rfl⟩
 have o:Hid (∀ b,Below w.heap.size w b->Calls Tryz.prog 103 #[.agg #[.slice a r.2.2.2.1.length c,.int .i64 r.2.2.2.2],.agg #[.slice none 0 0,.int .i64 0]] b λe f=>e=.returned (.bool z)/\Below b.heap.size b f):=λb h=>by rw[q];exact xe B _ _ r.2.2.2 ([],0) b (x.later h K) (dU _ _) (Nat.le_trans K h.size)
 have L:Hid (bF r=if r.1<1\/4<r.1 then 4 else if (r.2.1<0\/3<r.2.1)\/(r.2.2.1<0\/3<r.2.2.1) then 3 else if (0<r.2.2.1/\r.1≠3)\/(¬(r.1=1\/r.1=2)/\¬(r.2.2.2.2=0/\r.2.2.2.1=[])) then 4 else if r.1=1\/r.1=2 then ae r.2.2.2 else 0):=rfl
 have Q:Hid (z=true ↔ (r.2.2.2.2=0/\r.2.2.2.1=[])):=by
  unfold Hid
  rw[q,decide_eq_true_iff]
  obtain⟨k,D,s,F,d⟩:=r
  constructor
  ·intro h
   cases h
   exact⟨rfl,rfl⟩
  ·rintro⟨G,H⟩
   show ((F,d):ap)=([],0)
   rw[show F=[] from H,show d=0 from G]
 clear q
 clear P x
 obtain⟨k,D,s,F,d⟩:=r
 simp only at*
 generalize bF (k,D,s,F,d)=E at*
 generalize ae (F,d)=N at*
 have p:=hid Q.out
 generalize U:F.length=n at*
 clear U Q
 have y:∀ X,Below w.heap.size w (w.alloc X):=λX=>(Below.refl _ _).alloc (Nat.le_refl _) _
 by_cases G:k<1\/4<k
 ·have e:Hid (E=4):=by unfold Hid;rw[L.out,if_pos G]
  clear L m o
  rcases G with G | G
  ·go_enter Tryz.func124,Tryz.ntmps124
   go_wp2
   go_ret
   exact⟨by rw[e.out];rfl,y _⟩
  ·have H:¬k<1:=by omega
   go_enter Tryz.func124,Tryz.ntmps124
   go_wp2
   go_ret
   exact⟨by rw[e.out];rfl,y _⟩
 ·have R:k=1\/k=2\/k=3\/k=4:=by omega
  have V:¬k<1:=by omega
  have W:¬4<k:=by omega
  have t:Hid (E=if (D<0\/3<D)\/(s<0\/3<s) then 3 else if (0<s/\k≠3)\/(¬(k=1\/k=2)/\¬(d=0/\F=[])) then 4 else if k=1\/k=2 then N else 0):=by unfold Hid;rw[L.out,if_neg G]
  have O:=hid R
  clear L G R
  by_cases H:D<0\/3<D
  ·have e:Hid (E=3):=by unfold Hid;rw[t.out,if_pos (.inl H)]
   have g:Hid (∀ b,Calls Tryz.prog 150 #[.int .i64 D] b λe f=>e=.returned (.bool false)/\f=b):=λb=>um H b
   clear t m o H
   go_enter Tryz.func124,Tryz.ntmps124
   go_wp2_with fail
   go_at_call 150
   refine Calls.mono (g.out _) ?_
   rintro e l ⟨rfl,rfl⟩
   go_wp2_with fail
   go_ret
   exact⟨by rw[e.out];rfl,y _⟩
  ·have g:Hid (∀ b,Calls Tryz.prog 150 #[.int .i64 D] b λe f=>e=.returned (.bool true)/\f=b):=λb=>sD (by omega) (by omega) b
   by_cases M:s<0\/3<s
   ·have e:Hid (E=3):=by unfold Hid;rw[t.out,if_pos (.inr M)]
    have i:Hid (∀ b,Calls Tryz.prog 150 #[.int .i64 s] b λe f=>e=.returned (.bool false)/\f=b):=λb=>um M b
    clear t m o H M
    go_enter Tryz.func124,Tryz.ntmps124
    go_wp2_with fail
    go_at_call 150
    refine Calls.mono (g.out _) ?_
    rintro e l ⟨rfl,rfl⟩
    go_wp2_with fail
    go_at_call 150
    refine Calls.mono (i.out _) ?_
    rintro e l ⟨rfl,rfl⟩
    go_wp2_with fail
    go_ret
    exact⟨by rw[e.out];rfl,y _⟩
   ·have i:Hid (∀ b,Calls Tryz.prog 150 #[.int .i64 s] b λe f=>e=.returned (.bool true)/\f=b):=λb=>sD (by omega) (by omega) b
    have j:Hid (E=if (0<s/\k≠3)\/(¬(k=1\/k=2)/\¬(d=0/\F=[])) then 4 else if k=1\/k=2 then N else 0):=by unfold Hid;rw[t.out,if_neg (by omega)]
    have Y:0<=s:=by omega
    clear t H M
    by_cases I:s=0
    ·have u:Hid (∀ b,Calls Tryz.prog 151 #[.int .i64 k] b λe f=>e=.returned (.bool (decide (k=1\/k=2)))/\f=b):=λb=>pg O.out b
     by_cases x:k=1\/k=2
     ·have e:Hid (E=N):=by unfold Hid;rw[j.out,if_neg (by rintro (h | ⟨h,-⟩);(exact absurd h.1 (by omega));(exact h x)),if_pos x]
      rw[decide_eq_true x] at u
      have A:(k != 3)=true:=by simp;omega
      subst I
      clear j o x
      go_enter Tryz.func124,Tryz.ntmps124
      go_wp2_with fail
      go_at_call 150
      refine Calls.mono (g.out _) ?_
      rintro e l ⟨rfl,rfl⟩
      go_wp2_with fail
      go_at_call 150
      refine Calls.mono (i.out _) ?_
      rintro e l ⟨rfl,rfl⟩
      go_wp2_with fail
      go_at_call 151
      refine Calls.mono (u.out _) ?_
      rintro e l ⟨rfl,rfl⟩
      go_wp2_with fail
      go_at_call 152
      refine Calls.mono (m.out _ (y _)) ?_
      rintro S l ⟨rfl,C⟩
      go_wp2_with fail
      go_ret
      exact⟨by rw[e.out];rfl,Below.thenOf (y _) C (by simp)⟩
     ·rw[decide_eq_false x] at u
      have J:k=3\/k=4:=by have:=O.out;omega
      have e:Hid (E=if z=true then 0 else 4):=by
       unfold Hid
       rw[j.out]
       by_cases q:z=true
       ·rw[if_pos q,if_neg (by rintro (h | ⟨-,h⟩);(exact absurd h.1 (by omega));(exact h (p.out.1 q))),if_neg x]
       ·rw[if_neg q,if_pos (.inr ⟨x,λh=>q (p.out.2 h)⟩)]
      subst I
      clear j m x p
      rcases J with rfl | rfl
      all_goals
       go_enter Tryz.func124,Tryz.ntmps124
       go_wp2_with fail
       go_at_call 150
       refine Calls.mono (g.out _) ?_
       rintro e l ⟨rfl,rfl⟩
       go_wp2_with fail
       go_at_call 150
       refine Calls.mono (i.out _) ?_
       rintro e l ⟨rfl,rfl⟩
       go_wp2_with fail
       go_at_call 151
       refine Calls.mono (u.out _) ?_
       rintro e l ⟨rfl,rfl⟩
       go_wp2_with fail
       go_at_call 103
       refine Calls.mono (o.out _ (y _)) ?_
       rintro S l ⟨rfl,C⟩
       cases z
       all_goals
        go_wp2_with fail
        go_ret
        exact⟨by rw[e.out];rfl,Below.thenOf (y _) C (by simp)⟩
    ·have Z:(s != 0)=true:=by simpa using I
     by_cases A:k=3
     ·have u:Hid (∀ b,Calls Tryz.prog 151 #[.int .i64 3] b λe f=>e=.returned (.bool false)/\f=b):=λb=>pg (k:=3) (by decide) b
      have e:Hid (E=if z=true then 0 else 4):=by
       unfold Hid
       rw[j.out]
       by_cases q:z=true
       ·rw[if_pos q,if_neg (by rintro (h | ⟨-,h⟩);(exact h.2 A);(exact h (p.out.1 q))),if_neg (by omega)]
       ·rw[if_neg q,if_pos (.inr ⟨by omega,λh=>q (p.out.2 h)⟩)]
      subst A
      clear j m p O V W
      go_enter Tryz.func124,Tryz.ntmps124
      go_wp2_with fail
      go_at_call 150
      refine Calls.mono (g.out _) ?_
      rintro e l ⟨rfl,rfl⟩
      go_wp2_with fail
      go_at_call 150
      refine Calls.mono (i.out _) ?_
      rintro e l ⟨rfl,rfl⟩
      go_wp2_with fail
      go_at_call 151
      refine Calls.mono (u.out _) ?_
      rintro e l ⟨rfl,rfl⟩
      go_wp2_with fail
      go_at_call 103
      refine Calls.mono (o.out _ (y _)) ?_
      rintro S l ⟨rfl,C⟩
      cases z
      all_goals
       go_wp2_with fail
       go_ret
       exact⟨by rw[e.out];rfl,Below.thenOf (y _) C (by simp)⟩
     ·have T:(k != 3)=true:=by simpa using A
      have e:Hid (E=4):=by unfold Hid;rw[j.out,if_pos (.inl ⟨by omega,A⟩)]
      clear j m p o
      go_enter Tryz.func124,Tryz.ntmps124
      go_wp2_with fail
      go_at_call 150
      refine Calls.mono (g.out _) ?_
      rintro e l ⟨rfl,rfl⟩
      go_wp2_with fail
      go_at_call 150
      refine Calls.mono (i.out _) ?_
      rintro e l ⟨rfl,rfl⟩
      go_wp2_with fail
      go_ret
      exact⟨by rw[e.out];rfl,y _⟩
end Go.Proofs.YtnpdhopjpjickaaGreatDoor
end
