/- Joined: Jud2 Jud3 First Pnt0. -/
import Derived.Test.YtnpdhopjpjickaaGreatDoorWj01
import Derived.Test.YtnpdhopjpjickaaGreatDoorWj02
section
set_option linter.all false
namespace Go.Proofs.YtnpdhopjpjickaaGreatDoor
open Go.RowKit Go.Maps
theorem vV (x:Nat->Int) (cs:List aB) (v:Int):(!decide (0<=aD (λc=>!dI x c) 0 cs))=aX x (cs,v):=by
 rw[oQ]
 unfold aX
 simp[List.all_eq_not_any_not]
set_option maxHeartbeats 1000000 in
theorem ve (B:Nat) (cv:Value) (cs:List aB) (x:Nat->Int) (b:Nat) (w:World) (f:bB B w cv cs) (i:B<=w.heap.size) (a:∀ c∈cs,0<=c.1/\c.1<5) (g:t7 w b x) (j:b<w.heap.size):
  Calls Tryz.prog 282 #[cv,.func (.func 278) #[] #[.pointer (some ⟨b,0,none⟩)]] w λe h=>e=.returned (.bool (decide (0<=aD (λc=>!dI x c) 0 cs)))/\Below w.heap.size w h:=by
 have k:=sj B cv cs x b w f i a g j
 generalize aD (λc=>!dI x c) 0 cs=z at*
 clear g f a
 go_enter Tryz.func282,Tryz.ntmps282
 go_wp2_with (first | (go_at_call 286;refine k.mono ?_;rintro e h ⟨rfl,d⟩))
 go_ret
 exact⟨rfl,d⟩
def kH (a:Nat):Value:=.func (.func 278) #[] #[.pointer (some ⟨a,0,none⟩)]
set_option maxHeartbeats 1000000 in
theorem tE (B:Nat) (cv:Value) (r:ai) (x:Nat->Int) (g h:Nat) (w:World) (t:bB B w cv r.1) (y:B<=w.heap.size) (i:aR r=0) (u:t7 w g x) (A:g<w.heap.size) (v:w.cell? ⟨h,0,none⟩=some (kH g)) (l:h<w.heap.size):
  Calls Tryz.prog 281 #[.agg #[cv,.int .i64 r.2],.pointer (some ⟨h,0,none⟩)] w λe j=>e=.returned (.bool (aX x r))/\Below w.heap.size w j:=by
 obtain⟨b,m⟩:=r
 have d:∀ c∈b,0<=c.1/\c.1<5:=λc C=>(eG (eM (db i).2.2 c C)).1
 have k:∀ X,Below w.heap.size w (w.alloc X):=λX=>(Below.refl _ _).alloc (Nat.le_refl _) _
 have f:∀ X,Calls Tryz.prog 282 #[cv,kH g] (w.alloc X) λe j=>e=.returned (.bool (decide (0<=aD (λc=>!dI x c) 0 b)))/\Below (w.alloc X).heap.size (w.alloc X) j:=λX=>ve B cv b x g _ (t.later (k X) y) (by simp;omega) d (u.later (k X) A) (by simp;omega)
 have E:Hid ((!decide (0<=aD (λc=>!dI x c) 0 b))=aX x (b,m)):=vV x b m
 obtain⟨a,o,rfl,_,_,_⟩:=t
 clear u i d
 show Calls Tryz.prog 281 #[.agg #[.slice a b.length o,.int .i64 m],.pointer (some ⟨h,0,none⟩)] w _
 have q:∀ X,(w.alloc X).cell? ⟨h,0,none⟩=some (kH g):=λX=>((k X).cell (p:=⟨h,0,none⟩) l).trans v
 clear v
 generalize b.length=n at*
 generalize aD (λc=>!dI x c) 0 b=z at*
 unfold kH at q f
 go_enter Tryz.func281,Tryz.ntmps281
 go_wp2_with (first | (go_at_call 282;refine (f _).mono ?_;rintro e j ⟨rfl,s⟩))
 go_ret
 exact⟨by rw[<-E.out];rfl,Below.thenOf (k _) s (by simp)⟩
set_option maxHeartbeats 1000000 in
theorem ry (B:Nat) (rv:Value) (f:List ai) (x:Nat->Int) (y l:Nat) (w:World) (N:be B w rv f) (O:B<=w.heap.size) (z:∀ r∈f,aR r=0) (J:t7 w y x) (P:y<w.heap.size) (K:w.cell? ⟨l,0,none⟩=some (kH y)) (A:l<w.heap.size):
  Calls Tryz.prog 280 #[rv,.func (.func 281) #[] #[.pointer (some ⟨l,0,none⟩)]] w λe m=>e=.returned (.int .i64 (aD (aX x) 0 f))/\Below w.heap.size w m:=by
 obtain⟨a,Q,rfl,R,T,q⟩:=N
 have s:=hid q
 have C:=hid J
 have D:=hid K
 clear q J K
 generalize X:f.length=n at*
 have U:n<=9223372036854775807:=by have:=ag;omega
 go_enter Tryz.func280,Tryz.ntmps280
 go_wp2
 go_loopw [8] (λi wr=>∃ k:Nat,k<=n/\i=.int .i64 k/\Hid (aD (aX x) 0 f=aD (aX x) k (f.drop k))/\Below w.heap.size w wr) (λi _=>n-(intOf i).toNat)
 case atStart=>exact⟨0,by omega,rfl,rfl,Below.refl _ _⟩
 case round=>
  obtain⟨k,Y,rfl,H,d⟩:=hrel
  have Z:(0:Int)<=(k:Int):=by omega
  by_cases V:k<n
  ·have i1:(k:Int)<(n:Int):=by omega
   obtain⟨c,h⟩:∃ c,f[k]?=some c:=⟨f[k]'(by omega),by simp⟩
   have t:c∈f:=List.mem_of_getElem? h
   obtain⟨b,o,rfl,E,u⟩:=s.out k c h
   have S:Hid (aD (aX x) k (f.drop k)=if aX x c=true then (k:Int) else aD (aX x) (k+1) (f.drop (k+1))):=kV (aX x) f k c h
   have F:=z c t
   obtain⟨L,c0,c1,w0,g⟩:=u.later d O E
   have W:=d.size
   have j:Hid (Calls Tryz.prog 281 #[.agg #[L,.int .i64 c.2],.pointer (some ⟨l,0,none⟩)] wr λe m=>e=.returned (.bool (aX x c))/\Below wr.heap.size wr m):=
    tE B L c x y l wr g (by omega) F (C.out.later d P) (by omega) ((d.cell (p:=⟨l,0,none⟩) A).trans D.out) (by omega)
   obtain⟨a2,M,rfl,_,_,_⟩:=g
   clear u
   generalize c.1.length=m2 at*
   go_wp2_with (first | (go_at_call 281;refine j.out.mono ?_;rintro e m ⟨rfl,G⟩))
   all_goals have v:Below w.heap.size w m:=Below.thenOf d G d.size
   ·have I:aX x c=true:=by assumption
    go_ret
    exact⟨by rw[H.out,S.out,if_pos I];rfl,v⟩
   ·have I:¬aX x c=true:=by simp_all
    exact⟨⟨k+1,by omega,by go_num,by unfold Hid;rw[H.out,S.out,if_neg I],v⟩,by simp[intOf];omega⟩
  ·go_wp2
   go_ret
   exact⟨by rw[H.out,List.drop_eq_nil_of_le (by omega)];rfl,d⟩
end Go.Proofs.YtnpdhopjpjickaaGreatDoor
end
section
set_option linter.all false
namespace Go.Proofs.YtnpdhopjpjickaaGreatDoor
open Go.RowKit Go.Maps
@[go_sem] theorem DC {P:Program} {w:World} {a:Addr} {m:Mode} (b:Fn) (first captured:Array Value):(store a (.func b first captured) m).run P w=stored P w a (.func b first captured) m:=run_store P w a _ m rfl
def cZ (p:ap) (i:Int):Int × Int:=if i<0 then (p.2,p.1.length) else ((p.1.getD i.toNat ([],0)).2,i)
def cm (p:ap) (x:Nat->Int):Int × Int × Int:=
 if ae p=0 then (if dw x=0 then ((cZ p (aD (aX x) 0 p.1)).1,(cZ p (aD (aX x) 0 p.1)).2,0) else (0,0,dw x)) else (0,0,ae p)
theorem nX {α:Type} (f:α->Bool):∀ (l:List α) (k:Nat),0<=aD f k l->(k:Int)<=aD f k l/\aD f k l<(k:Int)+l.length
 | [],_,h=>by simp[aD] at h
 | c :: r,k,h=>by
  unfold aD at h |-
  by_cases a:f c=true
  ·simp[a]
   omega
  ·simp only[if_neg a] at h |-
   have:=nX f r (k+1) h
   simp at this |-
   omega
set_option maxHeartbeats 2000000 in
theorem ur (B:Nat) (N:Value) (p:ap) (x:Nat->Int) (w:World) (R:bG B w N p) (hB:B<=w.heap.size):
  Calls Tryz.prog 262 #[N,fK x] w λe m=>e=.returned (.tuple #[.int .i64 (cm p x).1,.int .i64 (cm p x).2.1,.int .i64 (cm p x).2.2])/\Below w.heap.size w m:=by
 have u:Hid (∀ m,Below w.heap.size w m->Calls Tryz.prog 152 #[N] m λe E=>e=.returned (.int .i64 (ae p))/\Below m.heap.size m E):=λm h=>fm B N p m (R.later h hB) (by have:=h.size;omega)
 have v:Hid (∀ m,Calls Tryz.prog 53 #[fK x] m λe E=>e=.returned (.int .i64 (dw x))/\Below m.heap.size m E):=λm=>mD (x 0) (x 1) (x 2) (x 3) (x 4) m
 have L:=hid R
 obtain⟨g,d⟩:=p
 obtain⟨O,rfl,_,a,q,rfl,S,ao,_⟩:=R
 show Calls Tryz.prog 262 #[.agg #[.slice a g.length q,.int .i64 d],.agg #[.int .i64 (x 0),.int .i64 (x 1),.int .i64 (x 2),.int .i64 (x 3),.int .i64 (x 4)]] w _
 have v:=hid v
 simp only[] at u S
 have l:∀ X Y,Below w.heap.size w ((w.alloc X).alloc Y):=λX Y=>((Below.refl _ _).alloc (Nat.le_refl _) _).alloc (by simp) _
 by_cases I:ae (g,d)=0
 ·have T:(ae (g,d) != 0)=false:=by simpa using I
  have K:Hid (∀ X Y y,X=.cells #[.slice a g.length q,.int .i64 d] 30->Below ((w.alloc X).alloc Y).heap.size ((w.alloc X).alloc Y) y->y.cell? ⟨w.heap.size,0,none⟩=some (.slice a g.length q)/\y.cell? ⟨w.heap.size,1,none⟩=some (.int .i64 d)):=by
   intro X Y y hX F
   subst hX
   exact⟨(F.cell (p:=⟨w.heap.size,0,none⟩) (by simp;omega)).trans (by simp[go_sem]),(F.cell (p:=⟨w.heap.size,1,none⟩) (by simp;omega)).trans (by simp[go_sem])⟩
  have s:Hid (∀ X y,Below ((w.alloc X).alloc (.cells #[.int .i64 (x 0),.int .i64 (x 1),.int .i64 (x 2),.int .i64 (x 3),.int .i64 (x 4)] 34)).heap.size ((w.alloc X).alloc (.cells #[.int .i64 (x 0),.int .i64 (x 1),.int .i64 (x 2),.int .i64 (x 3),.int .i64 (x 4)] 34)) y->t7 y (w.heap.size+1) x):=by
   intro X y F
   have:=(t7.made x (w.alloc X) 34).later F (by simp)
   simpa using this
  by_cases P:dw x=0
  ·have U:(dw x != 0)=false:=by simpa using P
   have J:Hid (cm (g,d) x=((cZ (g,d) (aD (aX x) 0 g)).1,(cZ (g,d) (aD (aX x) 0 g)).2,0)):=by unfold Hid;rw[cm,if_pos I,if_pos P]
   have W:∀ r∈g,aR r=0:=bZ (cu I).2.2
   have A:Hid (∀ C M,Below w.heap.size w C->t7 C (w.heap.size+1) x->w.heap.size+1<C.heap.size->C.cell? ⟨M,0,none⟩=some (kH (w.heap.size+1))->M<C.heap.size->Calls Tryz.prog 280 #[.slice a g.length q,.func (.func 281) #[] #[.pointer (some ⟨M,0,none⟩)]] C λe m=>e=.returned (.int .i64 (aD (aX x) 0 g))/\Below C.heap.size C m):=by
    intro C M F h2 h3 h4 h5
    obtain⟨O,Z,_,G⟩:=L.out
    obtain rfl:O=.slice a g.length q:=by simpa using Z.symm
    exact ry B _ g x (w.heap.size+1) M C (G.later F hB) (by have:=F.size;omega) W h2 h3 h4 h5
   by_cases hz:aD (aX x) 0 g<0
   ·have V:Hid (cm (g,d) x=(d,(g.length:Int),0)):=by unfold Hid;rw[J.out,cZ,if_pos hz]
    generalize aD (aX x) 0 g=z at*
    generalize hn:g.length=n at*
    go_enter Tryz.func262,Tryz.ntmps262
    go_wp2_with (first
     | (go_at_call 152;refine (u.out _ (l _ _)).mono ?_;rintro e y ⟨rfl,c⟩;have x0:=s.out _ _ c 0 (by omega);have x1:=s.out _ _ c 1 (by omega);have x2:=s.out _ _ c 2 (by omega);have x3:=s.out _ _ c 3 (by omega);have x4:=s.out _ _ c 4 (by omega))
     | (go_at_call 53;refine (v.out _).mono ?_;rintro e Q ⟨rfl,i⟩;have f:=Below.thenOf c i c.size;have pz:∀ X,(Q.alloc X).cell? ⟨w.heap.size,0,none⟩=some (.slice a n q):=λX=>(K.out _ _ _ rfl (Below.thenOf c (i.alloc i.size X) c.size)).1)
     | (go_at_call 280;refine (A.out _ _ (Below.thenOf (l _ _) (f.alloc f.size _) (by simp;omega)) (s.out _ _ (f.alloc f.size _)) (by have:=f.size;simp at this |-;omega) (by simp[go_sem,kH]) (by simp)).mono ?_;rintro e w4 ⟨rfl,H⟩;have j:=Below.thenOf (f.alloc f.size _) H (by have:=f.size;simp at this |-;omega);have q0:=(K.out _ _ _ rfl j).1;have q1:=(K.out _ _ _ rfl j).2;have t:=Below.thenOf (l _ _) j (by simp;omega)))
    go_quiet (fail)
    go_wp2
    go_ret3
    exact⟨by rw[V.out];rfl,Below.drewN_ t _⟩
   ·obtain⟨k,hk⟩:∃ k:Nat,aD (aX x) 0 g=k:=⟨(aD (aX x) 0 g).toNat,by omega⟩
    have a2:k<g.length:=by
     have:=nX (aX x) g 0 (by omega)
     omega
    obtain⟨r,hr⟩:∃ r,g[k]?=some r:=⟨g[k],by simp[a2]⟩
    have V:Hid (cm (g,d) x=(r.2,(k:Int),0)):=by
     unfold Hid
     rw[J.out,cZ,hk,if_neg (by omega)]
     simp[List.getD,hr]
    rw[hk] at A
    have i0:(0:Int)<=(k:Int):=by omega
    obtain⟨b,o,rfl,b8,D⟩:∃ b o,a=some ⟨b,o,none⟩/\b<B/\gF B w b (o+k*2) r:=by
     obtain⟨O,Z,_,a',ad,e2,_,_,G⟩:=L.out
     obtain rfl:O=.slice a g.length q:=by simpa using Z.symm
     simp only[Value.slice.injEq] at e2
     obtain⟨rfl,_,rfl⟩:=e2
     exact G k r hr
    have a3:Hid (w.cell? ⟨b,o+k*2+1,none⟩=some (.int .i64 r.2)):=by obtain⟨_,_,h,_⟩:=D;exact h
    clear D hk hz
    generalize hn:g.length=n at*
    have i1:(k:Int)<(n:Int):=by omega
    go_enter Tryz.func262,Tryz.ntmps262
    go_wp2_with (first
     | (go_at_call 152;refine (u.out _ (l _ _)).mono ?_;rintro e y ⟨rfl,c⟩;have x0:=s.out _ _ c 0 (by omega);have x1:=s.out _ _ c 1 (by omega);have x2:=s.out _ _ c 2 (by omega);have x3:=s.out _ _ c 3 (by omega);have x4:=s.out _ _ c 4 (by omega))
     | (go_at_call 53;refine (v.out _).mono ?_;rintro e Q ⟨rfl,i⟩;have f:=Below.thenOf c i c.size;have pz:∀ X,(Q.alloc X).cell? ⟨w.heap.size,0,none⟩=some (.slice (some ⟨b,o,none⟩) n q):=λX=>(K.out _ _ _ rfl (Below.thenOf c (i.alloc i.size X) c.size)).1)
     | (go_at_call 280;refine (A.out _ _ (Below.thenOf (l _ _) (f.alloc f.size _) (by simp;omega)) (s.out _ _ (f.alloc f.size _)) (by have:=f.size;simp at this |-;omega) (by simp[go_sem,kH]) (by simp)).mono ?_;rintro e w4 ⟨rfl,H⟩;have j:=Below.thenOf (f.alloc f.size _) H (by have:=f.size;simp at this |-;omega);have q0:=(K.out _ _ _ rfl j).1;have q1:=(K.out _ _ _ rfl j).2;have t:=Below.thenOf (l _ _) j (by simp;omega);have q2:=(t.cell (p:=⟨b,o+k*2+1,none⟩) (by show b<w.heap.size;omega)).trans a3.out))
    go_ret3
    exact⟨by rw[V.out];rfl,t⟩
  ·have J:Hid (cm (g,d) x=(0,0,dw x)):=by unfold Hid;rw[cm,if_pos I,if_neg P]
   have U:(dw x != 0)=true:=by simpa using P
   generalize hn:g.length=n at*
   go_enter Tryz.func262,Tryz.ntmps262
   go_wp2_with (first
    | (go_at_call 152;refine (u.out _ (l _ _)).mono ?_;rintro e y ⟨rfl,c⟩;have x0:=s.out _ _ c 0 (by omega);have x1:=s.out _ _ c 1 (by omega);have x2:=s.out _ _ c 2 (by omega);have x3:=s.out _ _ c 3 (by omega);have x4:=s.out _ _ c 4 (by omega))
    | (go_at_call 53;refine (v.out _).mono ?_;rintro e Q ⟨rfl,i⟩))
   go_ret3
   exact⟨by rw[J.out];rfl,Below.thenOf (Below.thenOf (l _ _) c (by simp;omega)) i (by have:=c.size;simp at this;omega)⟩
 ·have J:Hid (cm (g,d) x=(0,0,ae (g,d))):=by unfold Hid;rw[cm,if_neg I]
  have T:(ae (g,d) != 0)=true:=by simpa using I
  generalize hn:g.length=n at*
  go_enter Tryz.func262,Tryz.ntmps262
  go_wp2_with (first | (go_at_call 152;refine (u.out _ (l _ _)).mono ?_;rintro e m ⟨rfl,i⟩))
  go_ret3
  exact⟨by rw[J.out];rfl,Below.thenOf (l _ _) i (by simp;omega)⟩
end Go.Proofs.YtnpdhopjpjickaaGreatDoor
end
section
set_option linter.all false
namespace Go.Proofs.YtnpdhopjpjickaaGreatDoor
theorem pL {α:Type} (f:α->Bool):∀ (l:List α) (b:Nat),(aD f b l = -1/\∀ c∈l,f c=false)\/∃ j c,aD f b l=((b+j:Nat):Int)/\l[j]?=some c/\f c=true/\∀ i,i<j->∀ c,l[i]?=some c->f c=false
 | [],_=>.inl ⟨rfl,λc a=>by cases a⟩
 | d :: r,b=>by
  by_cases h:f d=true
  ·exact .inr ⟨0,d,by simp[aD,h],rfl,h,λi n=>by omega⟩
  ·have g:f d=false:=by simpa using h
   have e:aD f b (d :: r)=aD f (b+1) r:=by
    show (if f d then (b:Int) else _)=_
    rw[if_neg h]
   rcases pL f r (b+1) with ⟨k,m⟩ | ⟨j,c,k,m,o,p⟩
   ·refine .inl ⟨e.trans k,λc a=>?_⟩
    rcases List.mem_cons.1 a with rfl | a
    ·exact g
    ·exact m c a
   ·refine .inr ⟨j+1,c,?_,by simpa using m,o,λi n c a=>?_⟩
    ·rw[e,k];congr 1;omega
    ·cases i with
     | zero=>simp at a;subst a;exact g
     | succ i=>exact p i (by omega) c (by simpa using a)
theorem xB {a:List ai} (h:∀ r∈a,aR r=0):d4 a=0:=by
 induction a with
 | nil=>rfl
 | cons r s b=>
  unfold d4
  rw[if_pos (h r (by simp))]
  exact b λr c=>h r (by simp[c])
theorem A9 {p:ap} (c:p.1.length<=120) (a:bi p.2=true) (b:∀ r∈p.1,aR r=0):ae p=0:=by
 unfold ae
 rw[if_neg (by omega),if_pos a]
 exact xB b
theorem gB {p:ap} {x:Nat->Int} (a:ae p=0) (b:dw x=0):cm p x=((cZ p (aD (aX x) 0 p.1)).1,(cZ p (aD (aX x) 0 p.1)).2,0):=by
 unfold cm
 rw[if_pos a,if_pos b]
end Go.Proofs.YtnpdhopjpjickaaGreatDoor
end
section
set_option linter.all false
namespace Go.Proofs.YtnpdhopjpjickaaGreatDoor
def qz (n:Int):List Int->List Int
 | []=>[n]
 | m :: r=>if n<m then n :: m :: r else if n=m then m :: r else m :: qz n r
def qi (l:List Int):List Int:=l.foldr qz []
def fO (l:List Int):Prop:=l.Pairwise (·<·)
theorem sG (n x:Int):∀ l:List Int,x∈qz n l ↔ x=n\/x∈l
 | []=>by simp[qz]
 | m :: r=>by
  unfold qz
  split
  ·simp
  ·split
   ·rename_i h;subst h;simp
   ·simp only[List.mem_cons,sG n x r]
    constructor
    ·rintro (h | h | h)<;>simp[h]
    ·rintro (h | h | h)<;>simp[h]
theorem pR (n:Int):∀ l:List Int,fO l->fO (qz n l)
 | [],_=>by simp[qz,fO]
 | m :: r,h=>by
  have b:=List.pairwise_cons.1 h
  unfold qz
  split
  ·rename_i c
   refine List.pairwise_cons.2 ⟨λx a=>?_,h⟩
   rcases List.mem_cons.1 a with rfl | a
   ·exact c
   ·have:=b.1 x a;omega
  ·split
   ·exact h
   ·rename_i d e
    refine List.pairwise_cons.2 ⟨λx a=>?_,pR n r b.2⟩
    rcases (sG n x r).1 a with rfl | a
    ·omega
    ·exact b.1 x a
theorem k9 (x:Int):∀ l:List Int,x∈qi l ↔ x∈l
 | []=>by simp[qi]
 | n :: l=>by
  show x∈qz n (qi l) ↔ _
  rw[sG,k9 x l,List.mem_cons]
theorem kq:∀ l:List Int,fO (qi l)
 | []=>List.Pairwise.nil
 | n :: l=>pR n _ (kq l)
theorem nU:∀ (l m:List Int),fO l->fO m->(∀ x,x∈l ↔ x∈m)->l=m
 | [],[],_,_,_=>rfl
 | [],b :: m,_,_,h=>by have:=(h b).2 (by simp);simp at this
 | a :: l,[],_,_,h=>by have:=(h a).1 (by simp);simp at this
 | a :: l,b :: m,j,k,h=>by
  have c:=List.pairwise_cons.1 j
  have d:=List.pairwise_cons.1 k
  have g:a=b:=by
   rcases List.mem_cons.1 ((h a).1 (by simp)) with e | e
   ·exact e
   ·rcases List.mem_cons.1 ((h b).2 (by simp)) with i | i
    ·exact i.symm
    ·have:=c.1 b i;have:=d.1 a e;omega
  subst g
  congr 1
  refine nU l m c.2 d.2 λx=>?_
  constructor
  ·intro f
   rcases List.mem_cons.1 ((h x).1 (by simp[f])) with e | e
   ·have:=c.1 x f;omega
   ·exact e
  ·intro f
   rcases List.mem_cons.1 ((h x).2 (by simp[f])) with e | e
   ·have:=d.1 x f;omega
   ·exact e
def sU (f:Int) (c:aB):List Int:=if c.1=f then (if c.2.1=1\/c.2.1=2 then [c.2.2,c.2.2+1] else [c.2.2]) else []
def oz (p:ap):List aB:=p.1.flatMap (·.1)
def bj (l:List ap):List aB:=l.flatMap oz
def zL (f:Int) (cs:List aB):List Int:=0 :: cs.flatMap (sU f)
def cD (l:List ap) (f:Int):List Int:=qi ((zL f (bj l)).filter λn=>decide (n<=aF f))
theorem iS {l:List ap} {f n:Int}:n∈cD l f ↔ (n=0\/∃ c∈bj l,c.1=f/\(c.2.2=n\/c.2.2+1=n/\(c.2.1=1\/c.2.1=2)))/\n<=aF f:=by
 unfold cD zL
 rw[k9,List.mem_filter,List.mem_cons,List.mem_flatMap,decide_eq_true_eq]
 constructor
 ·rintro⟨h,b⟩
  refine⟨?_,b⟩
  rcases h with h | ⟨c,d,h⟩
  ·exact .inl h
  ·refine .inr ⟨c,d,?_⟩
   unfold sU at h
   split at h
   ·rename_i a
    split at h
    ·rename_i e
     simp at h
     refine⟨a,?_⟩
     rcases h with h | h
     ·exact .inl h.symm
     ·exact .inr ⟨h.symm,e⟩
    ·simp at h
     exact⟨a,.inl h.symm⟩
   ·simp at h
 ·rintro⟨h,b⟩
  refine⟨?_,b⟩
  rcases h with h | ⟨c,d,a,h⟩
  ·exact .inl h
  ·refine .inr ⟨c,d,?_⟩
   unfold sU
   rw[if_pos a]
   rcases h with h | ⟨h,e⟩
   ·split<;>simp[h]
   ·rw[if_pos e];simp[h]
theorem iI (l:List ap) (f:Int):fO (cD l f):=kq _
theorem zM (f:Int):0<=aF f:=by
 unfold aF
 split
 ·omega
 ·split<;>omega
theorem xK (l:List ap) (f:Int):0∈cD l f:=iS.2 ⟨.inl rfl,zM f⟩
theorem CU (l:List ap) (f:Int):cD l f≠[]:=λh=>by have:=xK l f;rw[h] at this;simp at this
def fw (l:List ap):Prop:=∀ p∈l,ae p=0
theorem sx {l:List ap} (h:fw l):∀ c∈bj l,aW c=0:=by
 intro c a
 obtain⟨p,b,a⟩:=List.mem_flatMap.1 a
 obtain⟨r,d,a⟩:=List.mem_flatMap.1 a
 exact eM (db (bZ (cu (h p b)).2.2 r d)).2.2 c a
theorem jY {l:List ap} (h:fw l) {f n:Int} (b:n∈cD l f):0<=n/\n<=aF f:=by
 obtain⟨a,d⟩:=iS.1 b
 refine⟨?_,d⟩
 rcases a with a | ⟨c,e,_,a⟩
 ·omega
 ·have:=(eG (sx h c e)).2.2.1
  rcases a with a | ⟨a,_⟩<;>omega
def jE (x:Int):Int->List Int->Int
 | a,[]=>a
 | a,n :: r=>jE x (if n<=x then n else a) r
theorem rz (x:Int):∀ (l:List Int) (a:Int),jE x a l=a\/jE x a l∈l
 | [],a=>.inl rfl
 | n :: r,a=>by
  unfold jE
  rcases rz x r (if n<=x then n else a) with h | h
  ·rw[h]
   split
   ·right;simp
   ·left;rfl
  ·right;simp[h]
theorem tS (x:Int):∀ (l:List Int) (a:Int),a<=x->jE x a l<=x
 | [],a,h=>h
 | n :: r,a,h=>by
  unfold jE
  apply tS
  split<;>omega
theorem pA (x:Int):∀ (l:List Int) (a:Int),fO l->(∀ m∈l,a<=m)->a<=jE x a l/\∀ n∈l,n<=x->n<=jE x a l
 | [],a,_,_=>⟨Int.le_refl _,λn h=>by simp at h⟩
 | n :: r,a,j,g=>by
  have c:=List.pairwise_cons.1 j
  have k:=g n (by simp)
  unfold jE
  by_cases i:n<=x
  ·rw[if_pos i]
   obtain⟨e,f⟩:=pA x r n c.2 λm b=>by have:=c.1 m b;omega
   refine⟨by omega,λm b d=>?_⟩
   rcases List.mem_cons.1 b with rfl | b
   ·exact e
   ·exact f m b d
  ·rw[if_neg i]
   obtain⟨e,f⟩:=pA x r a c.2 λm b=>g m (by simp[b])
   refine⟨e,λm b d=>?_⟩
   rcases List.mem_cons.1 b with rfl | b
   ·omega
   ·exact f m b d
def jU (l:List ap) (x:Nat->Int) (j:Nat):Int:=jE (x j) 0 (cD l j)
theorem gS {l:List ap} (a:fw l) {x:Nat->Int} {j:Nat} (b:0<=x j):jU l x j∈cD l j/\jU l x j<=x j/\∀ n∈cD l j,n<=x j->n<=jU l x j:=by
 unfold jU
 refine⟨?_,tS _ _ _ b,(pA (x j) (cD l j) 0 (iI l j) λm c=>(jY a c).1).2⟩
 rcases rz (x j) (cD l j) 0 with h | h
 ·rw[h];exact xK l j
 ·exact h
theorem zV {k v:Int}:Bt k v=true ↔ 0<=v/\v<=aF k:=by unfold Bt;simp
theorem pC {x:Nat->Int}:dw x=0 ↔ ∀ j,j<5->0<=x j/\x j<=aF j:=by
 unfold dw DB
 constructor
 ·intro h
  split at h
  ·rename_i a
   simp only[eR,Bool.and_eq_true,zV] at a
   intro j g
   have:j=0\/j=1\/j=2\/j=3\/j=4:=by omega
   obtain⟨b,c,d,e,f,_⟩:=a
   rcases this with rfl | rfl | rfl | rfl | rfl
   ·exact b
   ·exact c
   ·exact d
   ·exact e
   ·exact f
  ·cases h
 ·intro h
  have a:eR 0 [x 0,x 1,x 2,x 3,x 4]=true:=by
   simp only[eR,Bool.and_eq_true,zV]
   exact⟨h 0 (by omega),h 1 (by omega),h 2 (by omega),h 3 (by omega),h 4 (by omega),trivial⟩
  rw[if_pos a]
theorem zB {l:List ap} (a:fw l) {x:Nat->Int} (b:dw x=0):dw (jU l x)=0:=by
 rw[pC] at b |-
 intro j c
 exact jY a (gS a (b j c).1).1
theorem AO {l:List ap} (k:fw l) {x:Nat->Int} (n:dw x=0) {c:aB} (d:c∈bj l):dI (jU l x) c=dI x c:=by
 obtain⟨⟨t,u⟩,⟨v,w⟩,⟨y,o⟩⟩:=eG (sx k c d)
 obtain⟨j,b⟩:∃ j:Nat,c.1=j:=⟨c.1.toNat,by omega⟩
 have f:=(pC.1 n) j (by omega)
 obtain⟨z,A,g⟩:=gS k f.1
 have p:c.2.2∈cD l j:=iS.2 ⟨.inr ⟨c,d,b,.inl rfl⟩,by rw[<-b];exact o⟩
 have a:(c.2.1=1\/c.2.1=2)->c.2.2+1<=aF j->c.2.2+1∈cD l j:=λq r=>iS.2 ⟨.inr ⟨c,d,b,.inr ⟨rfl,q⟩⟩,r⟩
 have s:c.2.2<=x j->c.2.2<=jU l x j:=g _ p
 unfold dI
 rw[b,Int.toNat_natCast]
 unfold kS
 by_cases h:c.2.1=1
 ·simp only[if_pos h]
  rw[Bool.eq_iff_iff]
  simp only[beq_iff_eq]
  by_cases e:c.2.2+1<=x j
  ·have:=g _ (a (.inl h) (by omega)) e
   omega
  ·omega
 ·simp only[if_neg h]
  by_cases i:c.2.1=2
  ·simp only[if_pos i]
   rw[Bool.eq_iff_iff]
   simp only[bne_iff_ne,ne_eq]
   by_cases e:c.2.2+1<=x j
   ·have:=g _ (a (.inr i) (by omega)) e
    omega
   ·omega
  ·simp only[if_neg i]
   by_cases m:c.2.1=3
   ·simp only[if_pos m]
    rw[Bool.eq_iff_iff]
    simp only[decide_eq_true_eq]
    omega
   ·simp only[if_neg m]
    rw[Bool.eq_iff_iff]
    simp only[decide_eq_true_eq]
    omega
theorem AJ {l:List ap} (d:fw l) {x:Nat->Int} (e:dw x=0) {p:ap} (f:p∈l) {r:ai} (g:r∈p.1):aX (jU l x) r=aX x r:=by
 unfold aX
 rw[Bool.eq_iff_iff,List.all_eq_true,List.all_eq_true]
 have h:∀ c∈r.1,dI (jU l x) c=dI x c:=λc a=>AO d e (List.mem_flatMap.2 ⟨p,f,List.mem_flatMap.2 ⟨r,g,a⟩⟩)
 constructor
 ·intro b c a;rw[<-h c a];exact b c a
 ·intro b c a;rw[h c a];exact b c a
theorem jK {α:Type} (f g:α->Bool):∀ (l:List α) (k:Nat),(∀ c∈l,f c=g c)->aD f k l=aD g k l
 | [],_,_=>rfl
 | c :: r,k,h=>by
  unfold aD
  rw[h c (by simp),jK f g r (k+1) λd a=>h d (by simp[a])]
theorem t5 {l:List ap} (a:fw l) {x:Nat->Int} (b:dw x=0) {p:ap} (c:p∈l):cm p (jU l x)=cm p x:=by
 rw[gB (a p c) b,gB (a p c) (zB a b),jK (aX (jU l x)) (aX x) p.1 0 λr d=>AJ a b c d]
def jt:List (List Int)->List (List Int)
 | []=>[[]]
 | L :: b=>L.flatMap λa=>(jt b).map (a :: ·)
def mT (l:List ap):List (List Int):=[cD l 0,cD l 1,cD l 2,cD l 3,cD l 4]
def fy (l:List ap):List (List Int):=jt (mT l)
def DI:List Int->List (List Int)->Prop
 | [],[]=>True
 | a :: x,L :: b=>a∈L/\DI x b
 | _,_=>False
theorem ji (L:List Int) (b:List (List Int)):jt (L :: b)=L.flatMap λa=>(jt b).map (a :: ·):=rfl
theorem mq:∀ (b:List (List Int)) (x:List Int),x∈jt b ↔ DI x b
 | [],x=>by
  show x∈[[]] ↔ _
  rw[List.mem_singleton]
  constructor
  ·rintro rfl;trivial
  ·intro h
   cases x with
   | nil=>rfl
   | cons a y=>exact h.elim
 | L :: b,x=>by
  rw[ji,List.mem_flatMap]
  constructor
  ·rintro⟨a,c,h⟩
   obtain⟨y,d,rfl⟩:=List.mem_map.1 h
   exact⟨c,(mq b y).1 d⟩
  ·intro h
   cases x with
   | nil=>exact h.elim
   | cons a y=>exact⟨a,h.1,List.mem_map.2 ⟨y,(mq b y).2 h.2,rfl⟩⟩
theorem fA {α β:Type} (f:α->List β) (n:Nat):∀ (L:List α),(∀ a∈L,(f a).length=n)->(L.flatMap f).length=L.length*n
 | [],_=>by simp
 | a :: L,h=>by
  rw[List.flatMap_cons,List.length_append,h a (by simp),fA f n L λb c=>h b (by simp[c]),List.length_cons,Nat.add_mul]
  omega
theorem uH (L:List Int) (b:List (List Int)):(jt (L :: b)).length=L.length*(jt b).length:=by
 rw[ji]
 exact fA _ _ _ λa _=>by simp
def jf (x:Nat->Int):List Int:=[x 0,x 1,x 2,x 3,x 4]
theorem rS {l:List ap} (a:fw l) {x:Nat->Int} (b:dw x=0):jf (jU l x)∈fy l:=by
 have h:=pC.1 b
 refine (mq _ _).2 ?_
 exact⟨(gS a (h 0 (by omega)).1).1,(gS a (h 1 (by omega)).1).1,(gS a (h 2 (by omega)).1).1,(gS a (h 3 (by omega)).1).1,(gS a (h 4 (by omega)).1).1,trivial⟩
theorem nF:∀ (l m:List Int),fO l->fO m->(∀ x∈l,x∈m)->l.length<=m.length
 | [],m,_,_,_=>by simp
 | a :: l,[],_,_,h=>by have:=h a (by simp);simp at this
 | a :: l,b :: m,i,j,h=>by
  have c:=List.pairwise_cons.1 i
  have d:=List.pairwise_cons.1 j
  have:l.length<=m.length:=by
   refine nF l m c.2 d.2 λx f=>?_
   rcases List.mem_cons.1 (h x (by simp[f])) with e | e
   ·exfalso
    have k:=c.1 x f
    rcases List.mem_cons.1 (h a (by simp)) with g | g
    ·omega
    ·have:=d.1 a g;omega
   ·exact e
  simp;omega
end Go.Proofs.YtnpdhopjpjickaaGreatDoor
end
