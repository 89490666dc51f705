import Derived.Test.YtnpdhopjpjickaaGreatDoorWj01
set_option linter.all false
namespace Go.Proofs.YtnpdhopjpjickaaGreatDoor
open Go.RowKit Go.Maps
def kS (a v n:Int):Bool:=if a=1 then n==v else if a=2 then n != v else if a=3 then decide (n<v) else decide (v<=n)
def dI (x:Nat->Int) (c:aB):Bool:=kS c.2.1 c.2.2 (x c.1.toNat)
def aX (x:Nat->Int) (r:ai):Bool:=r.1.all (dI x)
def aD {α:Type} (f:α->Bool):Nat->List α->Int
 | _,[]=>-1
 | k,c :: r=>if f c then k else aD f (k+1) r
theorem kV {α:Type} (f:α->Bool) (l:List α) (k:Nat) (c:α) (h:l[k]?=some c):aD f k (l.drop k)=if f c then (k:Int) else aD f (k+1) (l.drop (k+1)):=by
 obtain⟨a,rfl⟩:=List.getElem?_eq_some_iff.1 h
 rw[List.drop_eq_getElem_cons a]
 rfl
theorem oQ {α:Type} (f:α->Bool):∀ (l:List α) (k:Nat),(decide (0<=aD f k l))=l.any f
 | [],_=>rfl
 | c :: r,k=>by
  unfold aD
  by_cases h:f c=true
  ·simp[h]
  ·simp[h,oQ f r (k+1)]
theorem eG {c:aB} (h:aW c=0):(0<=c.1/\c.1<5)/\(1<=c.2.1/\c.2.1<=4)/\(0<=c.2.2/\c.2.2<=aF c.1):=by
 unfold aW at h
 split at h
 ·cases h
 ·split at h
  ·cases h
  ·split at h
   ·cases h
   ·omega
theorem eM {cs:List aB} (h:dB cs=0):∀ c∈cs,aW c=0:=by
 induction cs with
 | nil=>intro c b;cases b
 | cons a r e=>
  unfold dB at h
  split at h
  ·rename_i d
   intro c b
   rcases List.mem_cons.1 b with rfl | b
   ·exact d
   ·exact e h c b
  ·rename_i d;exact absurd h d
theorem bZ {d:List ai} (h:d4 d=0):∀ r∈d,aR r=0:=by
 induction d with
 | nil=>intro c b;cases b
 | cons a r f=>
  unfold d4 at h
  split at h
  ·rename_i e
   intro c b
   rcases List.mem_cons.1 b with rfl | b
   ·exact e
   ·exact f h c b
  ·rename_i e;exact absurd h e
theorem db {r:ai} (h:aR r=0):r.1.length<=10/\bi r.2=true/\dB r.1=0:=by
 unfold aR at h
 split at h
 ·cases h
 ·split at h
  ·exact⟨by omega,by assumption,h⟩
  ·cases h
theorem cu {p:ap} (h:ae p=0):p.1.length<=120/\bi p.2=true/\d4 p.1=0:=by
 unfold ae at h
 split at h
 ·cases h
 ·split at h
  ·exact⟨by omega,by assumption,h⟩
  ·cases h
set_option maxHeartbeats 1000000 in
theorem Ck (a v g h i j l:Int) (k:Int) (y:Int) (m:(k=0/\y=g)\/(k=1/\y=h)\/(k=2/\y=i)\/(k=3/\y=j)\/(k=4/\y=l)) (w:World):
  Calls Tryz.prog 279 #[.agg #[.int .i64 k,.int .i64 a,.int .i64 v],.agg #[.int .i64 g,.int .i64 h,.int .i64 i,.int .i64 j,.int .i64 l]] w λe n=>e=.returned (.bool (kS a v y))/\Below w.heap.size w n:=by
 have f:Below w.heap.size w ((w.alloc (.cells #[.int .i64 k,.int .i64 a,.int .i64 v] 145)).alloc (.cells #[.int .i64 g,.int .i64 h,.int .i64 i,.int .i64 j,.int .i64 l] 34)):=((Below.refl _ _).alloc (Nat.le_refl _) _).alloc (by simp) _
 have F:Hid (a≠1->a≠2->a≠3->kS a v y=decide (v<=y)):=by intro b c d;rw[kS,if_neg b,if_neg c,if_neg d]
 rcases m with ⟨rfl,rfl⟩ | ⟨rfl,rfl⟩ | ⟨rfl,rfl⟩ | ⟨rfl,rfl⟩ | ⟨rfl,rfl⟩
 all_goals
  by_cases b:a=1
  ·subst b
   go_enter Tryz.func279,Tryz.ntmps279
   go_wp2
   go_ret
   exact⟨rfl,f⟩
  ·have o:(a==1)=false:=by simpa using b
   by_cases c:a=2
   ·subst c
    go_enter Tryz.func279,Tryz.ntmps279
    go_wp2
    go_ret
    exact⟨rfl,f⟩
   ·have p:(a==2)=false:=by simpa using c
    by_cases d:a=3
    ·subst d
     go_enter Tryz.func279,Tryz.ntmps279
     go_wp2
     go_ret
     exact⟨rfl,f⟩
    ·have q:(a==3)=false:=by simpa using d
     have G:=F.out b c d
     clear F b c d
     have G:Hid _:=G
     go_enter Tryz.func279,Tryz.ntmps279
     go_wp2
     go_ret
     exact⟨by rw[G.out];rfl,f⟩
theorem Bj (c:aB) (x:Nat->Int) (b:0<=c.1/\c.1<5) (w:World):
  Calls Tryz.prog 279 #[Cg c,fK x] w λe a=>e=.returned (.bool (dI x c))/\Below w.heap.size w a:=by
 refine Ck c.2.1 c.2.2 (x 0) (x 1) (x 2) (x 3) (x 4) c.1 (x c.1.toNat) ?_ w
 have:c.1=0\/c.1=1\/c.1=2\/c.1=3\/c.1=4:=by omega
 rcases this with h | h | h | h | h<;>simp[h]
set_option maxHeartbeats 1000000 in
theorem A8 (c:aB) (x:Nat->Int) (j:0<=c.1/\c.1<5) (b:Nat) (w:World) (h:t7 w b x) (k:b<w.heap.size):
  Calls Tryz.prog 278 #[Cg c,.pointer (some ⟨b,0,none⟩)] w λe i=>e=.returned (.bool (!dI x c))/\Below w.heap.size w i:=by
 obtain⟨f,d,v⟩:=c
 show Calls Tryz.prog 278 #[.agg #[.int .i64 f,.int .i64 d,.int .i64 v],.pointer (some ⟨b,0,none⟩)] w _
 have a:=h.later ((Below.refl w.heap.size w).alloc (Nat.le_refl _) (.cells #[.int .i64 f,.int .i64 d,.int .i64 v] 145)) k
 have l:=a 0 (by omega)
 have m:=a 1 (by omega)
 have n:=a 2 (by omega)
 have o:=a 3 (by omega)
 have p:=a 4 (by omega)
 clear a h
 go_enter Tryz.func278,Tryz.ntmps278
 go_wp2_with (first | (go_at_call 279;refine (Bj (f,d,v) x j _).mono ?_;rintro e i ⟨rfl,g⟩))
 go_ret
 exact⟨rfl,Below.thenOf ((Below.refl _ _).alloc (Nat.le_refl _) _) g (by simp)⟩
set_option maxHeartbeats 1000000 in
theorem sj (B:Nat) (cv:Value) (cs:List aB) (x:Nat->Int) (p:Nat) (w:World) (E:bB B w cv cs) (T:B<=w.heap.size) (q:∀ c∈cs,0<=c.1/\c.1<5) (C:t7 w p x) (D:p<w.heap.size):
  Calls Tryz.prog 286 #[cv,.func (.func 278) #[] #[.pointer (some ⟨p,0,none⟩)]] w λe r=>e=.returned (.int .i64 (aD (λc=>!dI x c) 0 cs))/\Below w.heap.size w r:=by
 obtain⟨a,F,rfl,G,I,h⟩:=E
 have j:=hid h
 have s:=hid C
 clear h C
 generalize U:cs.length=n at*
 have J:n<=9223372036854775807:=by have:=ag;omega
 go_enter Tryz.func286,Tryz.ntmps286
 go_wp2
 go_loopw [8] (λi wr=>∃ k:Nat,k<=n/\i=.int .i64 k/\Hid (aD (λc=>!dI x c) 0 cs=aD (λc=>!dI x c) k (cs.drop k))/\Below w.heap.size w wr) (λi _=>n-(intOf i).toNat)
 case atStart=>exact⟨0,by omega,rfl,rfl,Below.refl _ _⟩
 case round=>
  obtain⟨k,V,rfl,H,d⟩:=hrel
  have W:(0:Int)<=(k:Int):=by omega
  by_cases K:k<n
  ·have X:(k:Int)<(n:Int):=by omega
   obtain⟨c,g⟩:∃ c,cs[k]?=some c:=⟨cs[k]'(by omega),by simp⟩
   have l:c∈cs:=List.mem_of_getElem? g
   obtain⟨b,o,rfl,L,t⟩:=j.out k c g
   have S:Hid (aD (λc=>!dI x c) k (cs.drop k)=if (!dI x c)=true then (k:Int) else aD (λc=>!dI x c) (k+1) (cs.drop (k+1))):=kV (λc=>!dI x c) cs k c g
   have u:=q c l
   obtain⟨f,y,v⟩:=c
   obtain⟨M,N,O,P,Q,R⟩:=t.later d (by omega)
   simp only[] at M N O P Q R
   go_wp2_with (first | (go_at_call 278;refine (A8 (f,y,v) x u p _ (s.out.later d D) (Nat.lt_of_lt_of_le D d.size)).mono ?_;rintro e r ⟨rfl,z⟩))
   all_goals have m:Below w.heap.size w r:=Below.thenOf d z d.size
   ·have A:(!dI x (f,y,v))=true:=by first | assumption | (simp_all;done)
    go_ret
    exact⟨by rw[H.out,S.out,if_pos A];rfl,m⟩
   ·have A:¬(!dI x (f,y,v))=true:=by first | assumption | (simp_all;done)
    exact⟨⟨k+1,by omega,by go_num,by unfold Hid;rw[H.out,S.out,if_neg A],m⟩,by simp[intOf];omega⟩
  ·go_wp2
   go_ret
   exact⟨by rw[H.out,List.drop_eq_nil_of_le (by omega)];rfl,d⟩
end Go.Proofs.YtnpdhopjpjickaaGreatDoor
