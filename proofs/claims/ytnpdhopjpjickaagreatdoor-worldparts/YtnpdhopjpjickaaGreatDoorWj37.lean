/- Joined: Kep9 KpA NtD. -/
import Derived.Test.YtnpdhopjpjickaaGreatDoorWj31
import Derived.Test.YtnpdhopjpjickaaGreatDoorWj21
import Derived.Laws.MakeOwn
import Derived.Test.YtnpdhopjpjickaaGreatDoorWj01
import Derived.Test.YtnpdhopjpjickaaGreatDoorWj28
import Derived.Test.YtnpdhopjpjickaaGreatDoorWj13
import Derived.Test.YtnpdhopjpjickaaGreatDoorWj35
import Derived.Test.YtnpdhopjpjickaaGreatDoorWj29
section
set_option linter.all false
set_option maxRecDepth 100000
namespace Go.Proofs.YtnpdhopjpjickaaGreatDoor
open Go.RowKit Go.Maps
theorem yh (w:World):(Instr.makeSlice 22 (.int .i64 4) (.int .i64 4)).run Tryz.prog w=.ok (.slice (some ⟨w.heap.size,0,none⟩) 4 4) (w.alloc (.cells (madeCells #[.bool false,.slice none 0 0,.slice none 0 0,.int .i64 0] 16) 46)):=by
 obtain⟨a,b,c,d,e⟩:=sh
 have:=run_make (P:=Tryz.prog) w 22 46 a _ Tryz.underlying22 b c .i64 .i64 4 4 (by omega) (Int.le_refl _) (by rw[e];omega) (by omega)
 rw[d] at this
 simpa [Value.cells] using this
theorem vF {w:World} {g:Nat} (b:w.heap[g]?=some (.cells (madeCells #[.bool false,.slice none 0 0,.slice none 0 0,.int .i64 0] 16) 46 (0,0))):bl (g+1) w (.slice (some ⟨g,0,none⟩) 4 4) aA:=by
 have e:madeCells #[.bool false,.slice none 0 0,.slice none 0 0,.int .i64 0] 16=#[.bool false,.slice none 0 0,.slice none 0 0,.int .i64 0,.bool false,.slice none 0 0,.slice none 0 0,.int .i64 0,.bool false,.slice none 0 0,.slice none 0 0,.int .i64 0,.bool false,.slice none 0 0,.slice none 0 0,.int .i64 0]:=by kernel_rfl
 rw[e] at b
 refine⟨_,4,rfl,by decide,by rw[ag];omega,λi c a=>⟨g,0,rfl,by omega,?_⟩⟩
 have d:c=aV/\(i=0\/i=1\/i=2\/i=3):=by
  match i,a with
  | 0,a=>simp[aA] at a;exact⟨a.symm,.inl rfl⟩
  | 1,a=>simp[aA] at a;exact⟨a.symm,.inr (.inl rfl)⟩
  | 2,a=>simp[aA] at a;exact⟨a.symm,.inr (.inr (.inl rfl))⟩
  | 3,a=>simp[aA] at a;exact⟨a.symm,.inr (.inr (.inr rfl))⟩
  | i+4,a=>simp[aA] at a
 obtain⟨rfl,f⟩:=d
 rcases f with rfl | rfl | rfl | rfl
 all_goals exact⟨_,_,ab b _ rfl,ab b _ rfl,ab b _ rfl,ab b _ rfl,py _ _,dU _ _⟩
theorem xb (a:List al) (k:Nat) (r:al) (h:a[k]?=some r) (s:List ay × Int):(a.take (k+1)).foldl d9 s=d9 ((a.take k).foldl d9 s) r:=by
 rw[List.take_succ,h]
 simp[List.foldl_append]
theorem xx (a:List al) (k:Nat) (e:Int) (b:e≠0) (s:List ay × Int) (h:(a.take k).foldl d9 s=([],e)):a.foldl d9 s=([],e):=by
 conv=>lhs;rw[<-List.take_append_drop k a]
 rw[List.foldl_append,h]
 exact qw _ e b
def Ey (K:Nat->Prop) (w:World) (v:Value) (b:List al):Prop:=∀ a,Kx K w a->bX a.heap.size a v b
theorem Ey.later {K a:Nat->Prop} {w w':World} {v:Value} {b:List al} (h:Ey K w v b) (c:Below w.heap.size w w') (d:∀ k,k<w.heap.size->a k->K k):Ey a w' v b:=λe f=>h e (f.back c d)
theorem Ey.vals {K:Nat->Prop} {B:Nat} {w:World} {b o n d:Nat} {e:List al} (h:Ey K w (.slice (some ⟨b,o,none⟩) n d) e) (v:bX B w (.slice (some ⟨b,o,none⟩) n d) e) (x:At K B w) {i:Nat} {r:al} {a:Option Addr} {m c:Nat} (j:e[i]?=some r) (k:w.cell? ⟨b,o+i*5+3,none⟩=some (.slice a m c)):En K w (.agg #[.int .i64 r.1,.int .i64 r.2.1,.int .i64 r.2.2.1,.slice a m c,.int .i64 r.2.2.2.2]) r:=by
 obtain⟨E,F,l,-,-,y⟩:=v
 obtain⟨G,H,p,f,z⟩:=y i r j
 simp at l
 obtain⟨rfl,-⟩:=l
 simp at p
 obtain⟨rfl,rfl⟩:=p
 have g:=x.slice f k
 intro A q
 obtain⟨I,J,s,-,-,C⟩:=h A q
 obtain⟨L,M,t,-,N,-,-,-,u,-,D⟩:=C i r j
 simp at s
 obtain⟨rfl,-⟩:=s
 simp at t
 obtain⟨rfl,rfl⟩:=t
 rw[q.cell g k] at u
 cases u
 exact D
theorem At.all {K:Nat->Prop} {w w':World} {B:Nat} (h:At K w.heap.size w) (b:∀ k,K k->k<w.heap.size) (c:Below w.heap.size w w'):At K B w':=λk a=>by
 rcases h k a with h | h
 ·exact .inl (h.later c)
 ·exact absurd (b k a) (by omega)
theorem Dx {K:Nat->Prop} {w:World} {g:Nat} (a:w.heap[g]?=some (.cells (madeCells #[.bool false,.slice none 0 0,.slice none 0 0,.int .i64 0] 16) 46 (0,0))) (b:¬K g):y6 K w (.slice (some ⟨g,0,none⟩) 4 4) aA:=λd c=>by
 have h:=(c.2 g b (lt_of_block a)).trans a
 exact (vF h).wide (lt_of_block h)
end Go.Proofs.YtnpdhopjpjickaaGreatDoor
end
section
set_option linter.all false
set_option maxRecDepth 100000
namespace Go.Proofs.YtnpdhopjpjickaaGreatDoor
open Go.RowKit Go.Maps
set_option maxHeartbeats 4000000 in
theorem mU (B:Nat) (u v:Value) (c d:ay) (w:World) (hc:lL B w u c) (hd:lL B w v d) (z:B<=w.heap.size):
  Calls Tryz.prog 69 #[u,v] w λe a=>e=.returned (.bool (decide (c=d)))/\Below w.heap.size w a:=by
 obtain⟨M,N,G,H,rfl,I,J⟩:=hc
 obtain⟨q,r,j,k,rfl,V,W⟩:=hd
 have K:Hid (∀ a,Below w.heap.size w a->Calls Tryz.prog 102 #[.slice M c.2.1.length N,.slice q d.2.1.length r] a λe s=>e=.returned (.bool (decide (c.2.1=d.2.1)))/\Below a.heap.size a s):=λa h=>Bl B _ _ c.2.1 d.2.1 a (I.later h z) (V.later h z) (Nat.le_trans z h.size)
 have O:Hid (∀ a,Below w.heap.size w a->Calls Tryz.prog 103 #[.agg #[.slice G c.2.2.1.length H,.int .i64 c.2.2.2],.agg #[.slice j d.2.2.1.length k,.int .i64 d.2.2.2]] a λe s=>e=.returned (.bool (decide (c.2.2=d.2.2)))/\Below a.heap.size a s):=λa h=>xe B _ _ c.2.2 d.2.2 a (J.later h z) (W.later h z) (Nat.le_trans z h.size)
 have t:Hid (decide (c=d)=(decide (c.1=d.1)&&(decide (c.2.1=d.2.1)&&decide (c.2.2=d.2.2)))):=by
  unfold Hid
  rw[<-Bool.decide_and,<-Bool.decide_and]
  refine decide_eq_decide.2 ⟨λh=>by rw[h];exact⟨rfl,rfl,rfl⟩,λ⟨I,J,h3⟩=>?_⟩
  exact Prod.ext I (Prod.ext J h3)
 clear I J V W
 obtain⟨o,P,Q,f⟩:=c
 obtain⟨A,x,y,C⟩:=d
 simp only at K O t
 generalize decide ((o,P,Q,f)=(A,x,y,C))=R at*
 generalize decide (P=x)=e1 at*
 generalize decide ((Q,f)=(y,C))=e2 at*
 generalize P.length=X at*
 generalize x.length=Y at*
 generalize Q.length=S at*
 generalize y.length=T at*
 obtain⟨p,b⟩:∃ p,p=(w.alloc (.cells #[.bool o,.slice M X N,.slice G S H,.int .i64 f] 46)).alloc (.cells #[.bool A,.slice q Y r,.slice j T k,.int .i64 C] 46):=⟨_,rfl⟩
 have l:Below w.heap.size w p:=by rw[b];exact ((Below.refl _ _).alloc (Nat.le_refl _) _).alloc (by simp) _
 have a7:p.heap.size=w.heap.size+1+1:=by rw[b];simp
 have Z:p.heap[w.heap.size]?=some (.cells #[.bool o,.slice M X N,.slice G S H,.int .i64 f] 46 (0,0)):=by rw[b];exact bM _ (bE _ _ rfl)
 have g1:p.heap[w.heap.size+1]?=some (.cells #[.bool A,.slice q Y r,.slice j T k,.int .i64 C] 46 (0,0)):=by rw[b];exact bE _ _ (by simp only[World.size_alloc])
 have U:Hid (∀ a,Below p.heap.size p a->a.cell? ⟨w.heap.size,2,none⟩=some (.slice G S H)/\a.cell? ⟨w.heap.size,3,none⟩=some (.int .i64 f)/\a.cell? ⟨w.heap.size+1,2,none⟩=some (.slice j T k)/\a.cell? ⟨w.heap.size+1,3,none⟩=some (.int .i64 C)/\Below w.heap.size w a):=λa h=>by
  have q0:=(h.block _ (by omega)).trans Z
  have q1:=(h.block _ (by omega)).trans g1
  exact⟨ab q0 2 rfl,ab q0 3 rfl,ab q1 2 rfl,ab q1 3 rfl,Below.thenOf l h l.size⟩
 have m:=hid b
 have n:=hid l
 clear b Z g1 l
 by_cases L:o=A
 ·subst L
  cases e1 with
  | true=>
   have g:Hid (R=e2):=by unfold Hid;rw[t.out];simp
   clear t
   go_enter Tryz.func69,Tryz.ntmps69
   go_wp2_with fail
   rw[<-m.out]
   go_at_call 102
   refine Calls.mono (K.out _ n.out) ?_
   rintro e w3 ⟨rfl,i⟩
   obtain⟨y0,y1,y2,y3,D⟩:=U.out _ i
   have E:=hid D
   clear i D
   go_wp2_with fail
   go_at_call 103
   refine Calls.mono (O.out _ E.out) ?_
   rintro e w4 ⟨rfl,F⟩
   have HZ:Hid (Below w.heap.size w w4):=Below.thenOf E.out F E.out.size
   clear F
   go_wp2_with fail
   all_goals
    go_ret
    exact⟨by rw[g.out];rfl,HZ.out⟩
  | false=>
   have g:Hid (R=false):=by unfold Hid;rw[t.out];simp
   clear t
   go_enter Tryz.func69,Tryz.ntmps69
   go_wp2_with fail
   rw[<-m.out]
   go_at_call 102
   refine Calls.mono (K.out _ n.out) ?_
   rintro e w3 ⟨rfl,i⟩
   obtain⟨y0,y1,y2,y3,D⟩:=U.out _ i
   have E:=hid D
   clear i D
   go_wp2_with fail
   go_ret
   exact⟨by rw[g.out];rfl,E.out⟩
 ·have g:Hid (R=false):=by unfold Hid;rw[t.out,decide_eq_false L];rfl
  have hq:(o==A)=false:=by cases o<;>cases A<;>simp at L |-
  rw[m.out] at n
  clear t K O U m L
  go_enter Tryz.func69,Tryz.ntmps69
  go_wp2_with fail
  all_goals
   go_ret
   exact⟨by rw[g.out];rfl,n.out⟩
set_option maxHeartbeats 2000000 in
theorem s9 (B:Nat) (lv h:Value) (b f:List ay) (w:World) (i:bl B w lv b) (j:bl B w h f) (o:B<=w.heap.size):
  Calls Tryz.prog 37 #[lv,h] w λe g=>e=.returned (.bool (decide (b=f)))/\Below w.heap.size w g:=by
 have p:Hid (Calls Tryz.prog 59 #[lv,h,.func (.func 69) #[] #[]] w λe g=>e=.returned (.bool (decide (b=f)))/\Below w.heap.size w g):=sw B 69 (λm g=>by kernel_rfl) (λg u v c d k q r=>mU B u v c d g q r k) lv h b f w i j o
 obtain⟨a,c,rfl,-,-⟩:=i.shape
 obtain⟨s,t,rfl,-,-⟩:=j.shape
 clear i j
 generalize decide (b=f)=eq at*
 generalize b.length=n at*
 generalize f.length=x at*
 go_enter Tryz.func37,Tryz.ntmps37
 go_wp2_with (first | (go_at_call 59;go_must (refine Calls.mono p.out ?_;rintro e y ⟨rfl,l⟩)))
 go_ret
 exact⟨rfl,l⟩
abbrev qJ (L:Nat) (w:World) (v:Value) (l:List ay):Prop:=y6 (λk=>k<L) w v l
theorem y6.at {K:Nat->Prop} {w:World} {v:Value} {l:List ay} (h:y6 K w v l):bl w.heap.size w v l:=h w (Kx.refl _ _)
theorem uw (w:World):Calls Tryz.prog 40 #[] w λe f=>∃ v,e=.returned v/\qJ w.heap.size f v aA/\Below w.heap.size w f:=by
 have d:=yh
 have a:Hid (qJ w.heap.size (w.alloc (.cells (madeCells #[.bool false,.slice none 0 0,.slice none 0 0,.int .i64 0] 16) 46)) (.slice (some ⟨w.heap.size,0,none⟩) 4 4) aA):=Dx (af _ _) (Nat.lt_irrefl _)
 have g:Hid (∀ b,Below w.heap.size w (w.alloc (.cells b 46))):=λb=>(Below.refl _ _).alloc (Nat.le_refl _) _
 obtain⟨b,c⟩:∃ b,b=madeCells #[.bool false,.slice none 0 0,.slice none 0 0,.int .i64 0] 16:=⟨_,rfl⟩
 rw[<-c] at d a
 clear c
 go_enter Tryz.func40,Tryz.ntmps40
 go_wp2_with fail
 go_ret
 exact⟨_,rfl,a.out,g.out _⟩
theorem yz (B:Nat) (w:World):lL B w (.agg #[.bool false,.slice none 0 0,.slice none 0 0,.int .i64 0]) aV:=⟨none,0,none,0,rfl,py _ _,dU _ _⟩
theorem mM {a:gf} {b:List ai} {d:Int}:cF (false,a,b,d)=if (false,a,b,d)=aV then 0 else 4:=by
 unfold cF aV
 by_cases h:a=[]
 ·subst h
  by_cases c:d=0/\b=[]
  ·obtain⟨rfl,rfl⟩:=c
   simp
  ·have:¬((false,([]:gf),b,d)=(false,[],[],0)):=λe=>c (by simp at e;exact⟨e.2,e.1⟩)
   rw[if_pos (.inr ⟨rfl,c⟩),if_neg this]
 ·have:¬((false,a,b,d)=((false,[],[],0):ay)):=λe=>h (by simp at e;exact e.1)
  have f:0<a.length:=List.length_pos_iff.2 h
  rw[if_pos (.inl (by simp;exact h)),if_neg this]
theorem mZ {a:gf} {p:ap}:cF (true,a,p)=if a.length=0 then 4 else if aZ a=0 then ae p else aZ a:=by
 unfold cF
 by_cases h:a.length=0
 ·rw[if_pos (.inl (by simp[h])),if_pos h]
 ·rw[if_neg (by simp;intro e;exact h (by rw[e];rfl)),if_neg (by simp),if_neg h]
set_option maxHeartbeats 4000000 in
theorem tD (B:Nat) (v:Value) (c:ay) (w:World) (U:lL B w v c) (A:B<=w.heap.size):
  Calls Tryz.prog 149 #[v] w λe a=>e=.returned (.int .i64 (cF c))/\Below w.heap.size w a:=by
 have i:Hid (∀ a,Below w.heap.size w a->Calls Tryz.prog 69 #[v,.agg #[.bool false,.slice none 0 0,.slice none 0 0,.int .i64 0]] a λe j=>e=.returned (.bool (decide (c=aV)))/\Below a.heap.size a j):=λa h=>mU B _ _ c aV a (U.later h A) (yz _ _) (Nat.le_trans A h.size)
 obtain⟨H,I,J,K,rfl,V,W⟩:=U
 have k:Hid (∀ a,Below w.heap.size w a->Calls Tryz.prog 52 #[.slice H c.2.1.length I] a λe j=>e=.returned (.int .i64 (aZ c.2.1))/\Below a.heap.size a j):=λa h=>nH B _ c.2.1 a (V.later h A) (Nat.le_trans A h.size)
 have l:Hid (∀ a,Below w.heap.size w a->Calls Tryz.prog 152 #[.agg #[.slice J c.2.2.1.length K,.int .i64 c.2.2.2]] a λe j=>e=.returned (.int .i64 (ae c.2.2))/\Below a.heap.size a j):=λa h=>fm B _ c.2.2 a (W.later h A) (Nat.le_trans A h.size)
 clear V W
 obtain⟨o,d,g,f⟩:=c
 simp only at i k l
 obtain⟨p,m⟩:∃ p,p=w.alloc (.cells #[.bool o,.slice H d.length I,.slice J g.length K,.int .i64 f] 46):=⟨_,rfl⟩
 have r:Below w.heap.size w p:=by rw[m];exact (Below.refl _ _).alloc (Nat.le_refl _) _
 have Q:p.heap.size=w.heap.size+1:=by rw[m];simp
 have X:p.heap[w.heap.size]?=some (.cells #[.bool o,.slice H d.length I,.slice J g.length K,.int .i64 f] 46 (0,0)):=by rw[m];exact af _ _
 have C:Hid (∀ a,Below p.heap.size p a->a.cell? ⟨w.heap.size,0,none⟩=some (.bool o)/\a.cell? ⟨w.heap.size,1,none⟩=some (.slice H d.length I)/\a.cell? ⟨w.heap.size,2,none⟩=some (.slice J g.length K)/\a.cell? ⟨w.heap.size,3,none⟩=some (.int .i64 f)/\Below w.heap.size w a):=λa h=>by
  have L:=(h.block _ (by omega)).trans X
  exact⟨ab L 0 rfl,ab L 1 rfl,ab L 2 rfl,ab L 3 rfl,Below.thenOf r h r.size⟩
 have s:Hid (p=_):=m
 have t:Hid (Below w.heap.size w p):=r
 clear m X r Q
 cases o with
 | false=>
  have u:Hid (cF (false,d,g,f)=if (false,d,g,f)=aV then 0 else 4):=mM
  clear k l
  obtain⟨q,M⟩:∃ q,q=decide ((false,d,g,f)=aV):=⟨_,rfl⟩
  have N:Hid (q=decide ((false,d,g,f)=aV)):=M
  rw[<-M] at i
  clear M
  generalize cF (false,d,g,f)=y at*
  generalize d.length=O at*
  generalize g.length=Z at*
  go_enter Tryz.func149,Tryz.ntmps149
  go_wp2_with fail
  rw[<-s.out]
  go_at_call 69
  refine Calls.mono (i.out _ t.out) ?_
  rintro e R ⟨rfl,n⟩
  obtain⟨y0,y1,y2,y3,D⟩:=C.out _ n
  have z:Hid (Below w.heap.size w R):=D
  clear n D i C
  cases q with
  | true=>
   have b:Hid (y=0):=by unfold Hid;rw[u.out,if_pos (of_decide_eq_true N.out.symm)]
   clear u N
   go_wp2_with fail
   go_ret
   exact⟨by rw[b.out];rfl,z.out⟩
  | false=>
   have b:Hid (y=4):=by unfold Hid;rw[u.out,if_neg (of_decide_eq_false N.out.symm)]
   clear u N
   go_wp2_with fail
   go_ret
   exact⟨by rw[b.out];rfl,z.out⟩
 | true=>
  have u:Hid (cF (true,d,g,f)=if d.length=0 then 4 else if aZ d=0 then ae (g,f) else aZ d):=mZ
  clear i
  generalize cF (true,d,g,f)=y at*
  generalize aZ d=E at*
  generalize ae (g,f)=Y at*
  generalize d.length=O at*
  generalize g.length=Z at*
  by_cases S:O=0
  ·subst S
   have b:Hid (y=4):=by unfold Hid;rw[u.out,if_pos rfl]
   rw[s.out] at t
   clear u k l C s
   go_enter Tryz.func149,Tryz.ntmps149
   go_wp2_with fail
   go_ret
   exact⟨by rw[b.out];rfl,t.out⟩
  ·have F:¬(O:Int)=0:=by omega
   have T:((O:Int)==0)=false:=by simpa using F
   have x:Hid (y=if E=0 then Y else E):=by unfold Hid;rw[u.out,if_neg S]
   clear u S
   go_enter Tryz.func149,Tryz.ntmps149
   go_wp2_with fail
   rw[<-s.out]
   go_at_call 52
   refine Calls.mono (k.out _ t.out) ?_
   rintro e R ⟨rfl,n⟩
   obtain⟨y0,y1,y2,y3,D⟩:=C.out _ n
   have z:Hid (Below w.heap.size w R):=D
   clear n D k C F T
   by_cases P:E=0
   ·subst P
    have b:Hid (y=Y):=by unfold Hid;rw[x.out,if_pos rfl]
    clear x
    go_wp2_with fail
    go_at_call 152
    refine Calls.mono (l.out _ z.out) ?_
    rintro e w4 ⟨rfl,G⟩
    have HZ:Hid (Below w.heap.size w w4):=Below.thenOf z.out G z.out.size
    clear G
    go_wp2_with fail
    go_ret
    exact⟨by rw[b.out];rfl,HZ.out⟩
   ·have b:Hid (y=E):=by unfold Hid;rw[x.out,if_neg P]
    have M:(E != 0)=true:=by simpa using P
    clear x l P
    go_wp2_with fail
    go_ret
    exact⟨by rw[b.out];rfl,z.out⟩
set_option maxHeartbeats 4000000 in
theorem jw (B:Nat) (v:Value) (l:List ay) (w:World) (M:bl B w v l) (N:B<=w.heap.size):
  Calls Tryz.prog 123 #[v] w λe r=>e=.returned (.int .i64 (cB l))/\Below w.heap.size w r:=by
 have V:Hid (∀ r,Below w.heap.size w r->bl B r v l):=λr h=>M.later h N
 obtain⟨a,W,rfl,Y,Z,-⟩:=M
 have a0:=ag
 have C:Hid (cB l=if l.length=4 then dG l else 4):=rfl
 generalize q:l.length=s at*
 have f:=hid q
 clear q
 by_cases O:s=4
 ·subst O
  have m:Hid (cB l=dG l):=by unfold Hid;rw[C.out];rfl
  clear C
  go_enter Tryz.func123,Tryz.ntmps123
  go_wp2_with fail
  go_loopw [11] (λD wr=>∃ k:Nat,k<=4/\D=.int .i64 k/\Hid (dG l=dG (l.drop k))/\Below w.heap.size w wr) (λD _=>4-(intOf D).toNat)
  case atStart=>exact⟨0,by omega,rfl,rfl,Below.refl _ _⟩
  case round=>
   obtain⟨k,hk,rfl,H,g⟩:=hrel
   obtain⟨t,E⟩:∃ x,x=wr:=⟨_,rfl⟩
   subst E
   have i0:(0:Int)<=(k:Int):=by omega
   have F:=g.size
   by_cases a1:k<4
   ·have i1:(k:Int)<4:=by omega
    obtain⟨c,G⟩:∃ c,l[k]?=some c:=⟨l[k]'(by rw[f.out];omega),by simp⟩
    have S:Hid (dG (l.drop k)=if cF c=0 then dG (l.drop (k+1)) else cF c):=r8 l k c G
    obtain⟨_,_,P,-,-,u⟩:=V.out _ g
    obtain⟨b,o,e,a2,y⟩:=u k c G
    simp at P
    obtain⟨rfl,-,-⟩:=P
    subst e
    clear u G
    obtain⟨la,lc,ra,rc,Q,R,T,U,z⟩:=y.val
    have n:Hid (∀ X,Calls Tryz.prog 149 #[.agg #[.bool c.1,.slice la c.2.1.length lc,.slice ra c.2.2.1.length rc,.int .i64 c.2.2.2]] (t.alloc X) λe I=>e=.returned (.int .i64 (cF c))/\Below (t.alloc X).heap.size (t.alloc X) I):=λX=>tD B _ c _ (z.later ((Below.refl t.heap.size t).alloc (Nat.le_refl _) X) (Nat.le_trans N F)) (by simp;omega)
    clear y z
    generalize c.2.1.length=n1 at*
    generalize c.2.2.1.length=n2 at*
    generalize c.2.2.2=d at*
    generalize c.1=op at*
    generalize cF c=J at*
    have p:=hid g
    clear g
    by_cases A:J=0
    ·subst A
     have K:Hid (dG l=dG (l.drop (k+1))):=by unfold Hid;rw[H.out,S.out,if_pos rfl]
     clear S H
     go_wp2_with fail
     go_at_call 149
     refine Calls.mono (n.out _) ?_
     rintro e L ⟨rfl,i⟩
     have j:Below w.heap.size w L:=Below.thenOf (p.out.alloc p.out.size _) i (by simp;omega)
     clear i n Q R T U
     go_wp2_with fail
     exact⟨⟨k+1,by omega,by go_num,K,j⟩,by simp[intOf];omega⟩
    ·have K:Hid (dG l=J):=by unfold Hid;rw[H.out,S.out,if_neg A]
     have hq:(J != 0)=true:=by simpa using A
     clear A S H
     go_wp2_with fail
     go_at_call 149
     refine Calls.mono (n.out _) ?_
     rintro e L ⟨rfl,i⟩
     have j:Below w.heap.size w L:=Below.thenOf (p.out.alloc p.out.size _) i (by simp;omega)
     clear i n Q R T U
     go_wp2_with fail
     go_ret
     exact⟨by rw[m.out,K.out];rfl,j⟩
   ·go_wp2_with fail
    go_ret
    exact⟨by rw[m.out,H.out,List.drop_eq_nil_of_le (by rw[f.out];omega)];rfl,g⟩
 ·have m:Hid (cB l=4):=by unfold Hid;rw[C.out,if_neg O]
  have hq:((s:Int) != 4)=true:=by simp;omega
  go_enter Tryz.func123,Tryz.ntmps123
  go_wp2_with fail
  go_ret
  exact⟨by rw[m.out];rfl,Below.refl _ _⟩
end Go.Proofs.YtnpdhopjpjickaaGreatDoor
end
section
set_option linter.all false
set_option maxRecDepth 100000
namespace Go.Proofs.YtnpdhopjpjickaaGreatDoor
open Go.RowKit Go.Maps
set_option maxHeartbeats 4000000 in
theorem zG (s:ByteArray) (w:World) (he:dX w):
  Calls Tryz.prog 122 #[.string s] w λe j=>∃ v,e=.returned (.tuple #[v,.int .i64 (fh s.data.toList).2])/\gE w.heap.size j v (fh s.data.toList).1/\Below w.heap.size w j:=by
 have T:=Lib.size_eq s
 obtain⟨x,y⟩:∃ x,x=w.alloc (.cells #[.int .i64 0,.int .i64 0,.int .i64 0,.slice none 0 0,.int .i64 0] 78):=⟨_,rfl⟩
 have g0:x.heap[w.heap.size]?=some (.cells #[.int .i64 0,.int .i64 0,.int .i64 0,.slice none 0 0,.int .i64 0] 78 (0,0)):=by rw[y];exact af _ _
 have z:Below w.heap.size w x:=by rw[y];exact (Below.refl _ _).alloc (Nat.le_refl _) _
 have U:Hid (∀ j,Below x.heap.size x j->j.heap[w.heap.size]?=some (.cells #[.int .i64 0,.int .i64 0,.int .i64 0,.slice none 0 0,.int .i64 0] 78 (0,0))/\Below w.heap.size w j):=λj h=>⟨(h.block _ (lt_of_block g0)).trans g0,Below.thenOf z h z.size⟩
 have HW:=hid y
 by_cases A:60000<s.size
 ·have b:Hid (fh s.data.toList=(cr,2)):=by unfold Hid fh;rw[if_pos (by omega)]
  have hl:(60000:Int)<(s.size:Int):=by omega
  have a6:Below w.heap.size w (w.alloc (.cells #[.int .i64 0,.int .i64 0,.int .i64 0,.slice none 0 0,.int .i64 0] 78)):=(Below.refl _ _).alloc (Nat.le_refl _) _
  have gW:=af w (.cells #[.int .i64 0,.int .i64 0,.int .i64 0,.slice none 0 0,.int .i64 0] 78)
  obtain⟨z0,z1,z2,z3,z4⟩:=bw gW
  clear T A he y g0 z HW U gW
  go_enter Tryz.func122,Tryz.ntmps122
  go_wp2
  refine bodyPost_ret (v:=.tuple #[.agg #[.int .i64 0,.int .i64 0,.int .i64 0,.slice none 0 0,.int .i64 0],.int .i64 2]) ?_ rfl ⟨_,by rw[b.out],by rw[b.out];exact dO _ _,?_⟩
  ·rw[results_cell_tmp rfl]
   go_simp
  ·exact a6
 ·have hl:¬((60000:Int)<(s.size:Int)):=by omega
  have V:=Al s (by omega) x (he.later z)
  have J:Hid _:=V
  have f:Hid (fh s.data.toList=if (eh s.data.toList).2=0 then jG (eh s.data.toList).1 else (cr,(eh s.data.toList).2)):=by
   unfold Hid fh
   rw[if_neg (by omega)]
   exact Ct _
  clear T A he y g0 z V
  go_enter Tryz.func122,Tryz.ntmps122
  go_wp2_with fail
  rw[<-HW.out]
  go_at_call 148
  refine Calls.mono J.out ?_
  rintro e l ⟨v,rfl,o,t⟩
  obtain⟨RR,K⟩:∃ RR,RR=(eh s.data.toList).1:=⟨_,rfl⟩
  obtain⟨L,M⟩:∃ L,L=(eh s.data.toList).2:=⟨_,rfl⟩
  rw[<-K] at o
  rw[<-M] at |-
  rw[<-K,<-M] at f
  clear K M J
  have W:=hid o
  obtain⟨a,c,rfl,-⟩:=o.at.shape
  obtain⟨k,q,r,H,d⟩:=RR
  simp only[] at*
  have HL:Hid (w.heap.size<x.heap.size):=lt_of_block (U.out x (Below.refl _ _)).1
  obtain⟨n,hn⟩:∃ n,n=H.length:=⟨_,rfl⟩
  rw[<-hn] at W |-
  clear hn o
  obtain⟨B,C⟩:∃ B,B=l.alloc (.cells #[.int .i64 k,.int .i64 q,.int .i64 r,.slice a n c,.int .i64 d] 78):=⟨_,rfl⟩
  have m:Below l.heap.size l B:=by rw[C];exact (Below.refl _ _).alloc (Nat.le_refl _) _
  have S:B.heap[l.heap.size]?=some (.cells #[.int .i64 k,.int .i64 q,.int .i64 r,.slice a n c,.int .i64 d] 78 (0,0)):=by rw[C];exact af _ _
  have I:=Below.thenOf t m t.size
  have N:Hid (∀ j,Below B.heap.size B j->j.heap[l.heap.size]?=some (.cells #[.int .i64 k,.int .i64 q,.int .i64 r,.slice a n c,.int .i64 d] 78 (0,0))/\Below x.heap.size x j/\Below l.heap.size l j):=λj h=>⟨(h.block _ (lt_of_block S)).trans S,Below.thenOf I h I.size,Below.thenOf m h m.size⟩
  have b9:¬w.heap.size=l.heap.size:=by have:=lt_of_block (U.out l t).1;omega
  have O:=hid W.out
  have P:Hid (Calls Tryz.prog 124 #[.agg #[.int .i64 k,.int .i64 q,.int .i64 r,.slice a n c,.int .i64 d]] B λe j=>e=.returned (.int .i64 (bF (k,q,r,H,d)))/\Below B.heap.size B j):=gZ _ _ (k,q,r,H,d) B (O.out B (λg _ hl=>m.block g hl) m.size) (Nat.le_refl _)
  have X:=hid C
  have D:Hid (jG (k,q,r,H,d)=if bF (k,q,r,H,d)=0 then ((k,q,r,H,d),0) else (cr,bF (k,q,r,H,d))):=rfl
  obtain⟨q0,q1,q2,q3,q4⟩:=bw S
  have l2:=lt_of_block S
  generalize bF (k,q,r,H,d)=E at*
  by_cases u:L=0
  ·have b:Hid (fh s.data.toList=if E=0 then ((k,q,r,H,d),0) else (cr,E)):=by unfold Hid;rw[f.out,if_pos u,D.out]
   subst u
   clear C m S t I f D
   go_wp2_with fail
   rw[<-X.out]
   go_at_call 124
   refine Calls.mono P.out ?_
   rintro e Q ⟨rfl,Y⟩
   obtain⟨g3,Z,a0⟩:=N.out Q Y
   obtain⟨r0,r1,r2,r3,r4⟩:=bw g3
   have l3:=lt_of_block g3
   have R:=hid a0
   obtain⟨i,F⟩:=U.out Q Z
   have lb:=lt_of_block i
   obtain⟨z0,z1,z2,z3,z4⟩:=bw i
   have f0:Q.frozen? ⟨w.heap.size,0,none⟩=false:=by simp[World.frozen?,i]
   have f1:Q.frozen? ⟨w.heap.size,1,none⟩=false:=by simp[World.frozen?,i]
   have f2:Q.frozen? ⟨w.heap.size,2,none⟩=false:=by simp[World.frozen?,i]
   have f3:Q.frozen? ⟨w.heap.size,3,none⟩=false:=by simp[World.frozen?,i]
   have f4:Q.frozen? ⟨w.heap.size,4,none⟩=false:=by simp[World.frozen?,i]
   have G:=hid F
   clear i F Z g3 a0 Y X P N q0 q1 q2 q3 q4 l2
   by_cases hz:E=0
   ·have HR:Hid (fh s.data.toList=((k,q,r,H,d),0)):=by unfold Hid;rw[b.out,if_pos hz]
    subst hz
    go_wp2_with fail
    refine bodyPost_ret (v:=.tuple #[.agg #[.int .i64 k,.int .i64 q,.int .i64 r,.slice a n c,.int .i64 d],.int .i64 0]) ?_ rfl ⟨_,by rw[HR.out],by rw[HR.out];have hL:=HL.out;exact λwF k1 k2=>O.out wF (λg h1 h2=>(k1 g (by omega) (by simp;exact Nat.lt_of_lt_of_le h2 R.out.size)).trans <| ((((Below.heap_setCell _ _ _ _ (by show g≠w.heap.size;omega)).trans (Below.heap_setCell _ _ _ _ (by show g≠w.heap.size;omega))).trans (Below.heap_setCell _ _ _ _ (by show g≠w.heap.size;omega))).trans (Below.heap_setCell _ _ _ _ (by show g≠w.heap.size;omega))).trans ((Below.heap_setCell _ _ _ _ (by show g≠w.heap.size;omega)).trans (R.out.block g h2))) (Nat.le_trans (by simp;exact R.out.size) k2),?_⟩
    ·rw[results_cell_tmp rfl]
     go_simp
    ·exact ((((G.out.setCell (p:=⟨w.heap.size,0,none⟩) (Nat.le_refl _) _).setCell (p:=⟨w.heap.size,1,none⟩) (Nat.le_refl _) _).setCell (p:=⟨w.heap.size,2,none⟩) (Nat.le_refl _) _).setCell (p:=⟨w.heap.size,3,none⟩) (Nat.le_refl _) _).setCell (p:=⟨w.heap.size,4,none⟩) (Nat.le_refl _) _
   ·have HR:Hid (fh s.data.toList=(cr,E)):=by unfold Hid;rw[b.out,if_neg hz]
    have hq:(E != 0)=true:=by simpa using hz
    clear hz
    go_wp2_with fail
    refine bodyPost_ret (v:=.tuple #[.agg #[.int .i64 0,.int .i64 0,.int .i64 0,.slice none 0 0,.int .i64 0],.int .i64 E]) ?_ rfl ⟨_,by rw[HR.out],by rw[HR.out];exact dO _ _,?_⟩
    ·rw[results_cell_tmp rfl]
     go_simp
    ·exact ((((G.out.setCell (p:=⟨w.heap.size,0,none⟩) (Nat.le_refl _) _).setCell (p:=⟨w.heap.size,1,none⟩) (Nat.le_refl _) _).setCell (p:=⟨w.heap.size,2,none⟩) (Nat.le_refl _) _).setCell (p:=⟨w.heap.size,3,none⟩) (Nat.le_refl _) _).setCell (p:=⟨w.heap.size,4,none⟩) (Nat.le_refl _) _
  ·have b:Hid (fh s.data.toList=(cr,L)):=by unfold Hid;rw[f.out,if_neg u]
   have hq:(L != 0)=true:=by simpa using u
   have bq:(L==0)=false:=by simpa using u
   obtain⟨i,F⟩:=U.out l t
   have lb:=lt_of_block i
   obtain⟨z0,z1,z2,z3,z4⟩:=bw i
   have f0:l.frozen? ⟨w.heap.size,0,none⟩=false:=by simp[World.frozen?,i]
   have f1:l.frozen? ⟨w.heap.size,1,none⟩=false:=by simp[World.frozen?,i]
   have f2:l.frozen? ⟨w.heap.size,2,none⟩=false:=by simp[World.frozen?,i]
   have f3:l.frozen? ⟨w.heap.size,3,none⟩=false:=by simp[World.frozen?,i]
   have f4:l.frozen? ⟨w.heap.size,4,none⟩=false:=by simp[World.frozen?,i]
   have G:=hid F
   clear C m S t I f D i F N P O u q0 q1 q2 q3 q4 l2
   go_wp2_with fail
   refine bodyPost_ret (v:=.tuple #[.agg #[.int .i64 0,.int .i64 0,.int .i64 0,.slice none 0 0,.int .i64 0],.int .i64 L]) ?_ rfl ⟨_,by rw[b.out],by rw[b.out];exact dO _ _,?_⟩
   ·rw[results_cell_tmp rfl]
    go_simp
   ·exact (((((G.out.setCell (p:=⟨w.heap.size,0,none⟩) (Nat.le_refl _) _).setCell (p:=⟨w.heap.size,1,none⟩) (Nat.le_refl _) _).setCell (p:=⟨w.heap.size,2,none⟩) (Nat.le_refl _) _).setCell (p:=⟨w.heap.size,3,none⟩) (Nat.le_refl _) _).setCell (p:=⟨w.heap.size,4,none⟩) (Nat.le_refl _) _).alloc (by simp;exact G.out.size) _
end Go.Proofs.YtnpdhopjpjickaaGreatDoor
end
