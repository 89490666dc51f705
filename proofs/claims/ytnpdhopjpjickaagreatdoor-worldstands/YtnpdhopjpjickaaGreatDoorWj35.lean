/- Joined: Nte3 ChD2 Prn NtD2 NtDb NtD4 Tig0. -/
import Derived.Test.YtnpdhopjpjickaaGreatDoorWj13
import Derived.Test.YtnpdhopjpjickaaGreatDoorWj11
import Derived.Test.YtnpdhopjpjickaaGreatDoorWj34
import Derived.Test.YtnpdhopjpjickaaGreatDoorWj01
import Derived.Test.YtnpdhopjpjickaaGreatDoorWj26
import Derived.Test.YtnpdhopjpjickaaGreatDoorWj33
import Derived.Test.YtnpdhopjpjickaaGreatDoorWj23
import Derived.Test.YtnpdhopjpjickaaGreatDoorWj21
import Derived.Test.YtnpdhopjpjickaaGreatDoorWj32
import Derived.Test.YtnpdhopjpjickaaGreatDoorWj12
section
set_option linter.all false
set_option maxRecDepth 100000
namespace Go.Proofs.YtnpdhopjpjickaaGreatDoor
open Go.RowKit Go.Maps
def zT (W:World) (a:Bs) (i:Nat) (b:Nat->Value->Prop) (w:World):Prop:=
 Below W.heap.size W w/\(∀ u,b 0 u->∃ g:Nat,u=.slice (some ⟨g,0,none⟩) 4 4/\g<w.heap.size/\w.cell? ⟨g,i,none⟩=some (.string (eP a)))/\∀ u,b 4 u->∃ g:Nat,u=.pointer (some ⟨g,i,none⟩)/\g<w.heap.size/\w.cell? ⟨g,i,none⟩=some (.string (eP a))
def EU (b a:Bs) (i:Nat) (k:Nat) (v:Value):Prop:=if k=0 then ∃ g:Nat,v=.slice (some ⟨g,0,none⟩) 4 4 else if k=4 then ∃ g:Nat,v=.pointer (some ⟨g,i,none⟩) else if k=5 then v=.string (eP b) else if k=8 then v=.string (eP a) else True
theorem CI (b a:Bs) (i k:Nat):∃ v,EU b a i k v:=by
 unfold EU
 split
 ·exact⟨_,0,rfl⟩
 ·split
  ·exact⟨_,0,rfl⟩
  ·split
   ·exact⟨_,rfl⟩
   ·split
    ·exact⟨_,rfl⟩
    ·exact⟨undef,trivial⟩
theorem zT.later {W w w':World} {f:Bs} {i:Nat} {j:Nat->Value->Prop} (h:zT W f i j w) (a:Below w.heap.size w w'):zT W f i j w':=by
 refine⟨Below.thenOf h.1 a h.1.size,λu c=>?_,λu c=>?_⟩
 ·obtain⟨g,e,b,d⟩:=h.2.1 u c
  exact⟨g,e,Nat.lt_of_lt_of_le b a.size,(a.cell (p:=⟨g,i,none⟩) b).trans d⟩
 ·obtain⟨g,e,b,d⟩:=h.2.2 u c
  exact⟨g,e,Nat.lt_of_lt_of_le b a.size,(a.cell (p:=⟨g,i,none⟩) b).trans d⟩
theorem zT.lit {W w:World} {b:Bs} {i:Nat} {d:Nat->Value->Prop} (h:zT W b i d w) (cs:Array Value) (T:TypeId) (e:cs[i]?=some (.string (eP b))):zT W b i (bW d 0 (.slice (some ⟨w.heap.size,0,none⟩) 4 4)) (w.alloc (.cells cs T)):=by
 have c:=h.later ((Below.refl w.heap.size w).alloc (Nat.le_refl _) (.cells cs T))
 refine⟨c.1,λu a=>?_,λu a=>?_⟩
 ·rcases a with a | ⟨_,rfl⟩
  ·exact c.2.1 u a
  ·exact⟨w.heap.size,rfl,by simp,ab (af w _) i e⟩
 ·rcases a with a | ⟨h,_⟩
  ·exact c.2.2 u a
  ·cases h
theorem zT.addr {W w:World} {c:Bs} {i g:Nat} {b:Nat->Value->Prop} (h:zT W c i b w) (d:b 0 (.slice (some ⟨g,0,none⟩) 4 4)):zT W c i (bW b 4 (.pointer (some ⟨g,i,none⟩))) w:=by
 refine⟨h.1,λu a=>?_,λu a=>?_⟩
 ·rcases a with a | ⟨h,_⟩
  ·exact h.2.1 u a
  ·cases h
 ·rcases a with a | ⟨_,rfl⟩
  ·exact h.2.2 u a
  ·obtain⟨k,e,f,j⟩:=h.2.1 _ d
   simp at e
   subst e
   exact⟨g,rfl,f,j⟩
theorem zT.other {W w w':World} {c:Bs} {i k:Nat} {d:Nat->Value->Prop} (h:zT W c i d w) (f:Below w.heap.size w w') (v:Value) (g:0≠k) (j:4≠k):zT W c i (bW d k v) w':=by
 have b:=h.later f
 refine⟨b.1,λu a=>?_,λu a=>?_⟩
 ·rcases a with a | ⟨e,_⟩
  ·exact b.2.1 u a
  ·exact absurd e g
 ·rcases a with a | ⟨e,_⟩
  ·exact b.2.2 u a
  ·exact absurd e j
theorem sM {n:Int} (a:0<=n) (b:n<=3):(Lib.itoa n).length<=1:=by
 have:n=0\/n=1\/n=2\/n=3:=by omega
 rcases this with rfl | rfl | rfl | rfl<;>decide +kernel
end Go.Proofs.YtnpdhopjpjickaaGreatDoor
end
section
set_option linter.all false
set_option maxRecDepth 100000
namespace Go.Proofs.YtnpdhopjpjickaaGreatDoor
open Go.RowKit Go.Maps
theorem zh (n:Nat) (f:n<=4294967281) (w:World):(Instr.makeSlice 44 (.int .i64 n) (.int .i64 n)).run Tryz.prog w=.ok (.slice (some ⟨w.heap.size,0,none⟩) n n) (w.alloc (.cells (madeCells #[.slice none 0 0] n) 85)):=by
 obtain⟨a,b,c,d,e⟩:=zI
 have:=run_make (P:=Tryz.prog) w 44 85 a _ Tryz.underlying44 b c .i64 .i64 n n (by omega) (Int.le_refl _) (by rw[e];omega) (by omega)
 rw[d] at this
 simpa [Value.cells] using this
theorem z9 (n:Nat) (f:n<=4294967281) (w:World):(Instr.makeSlice 85 (.int .i64 n) (.int .i64 n)).run Tryz.prog w=.ok (.slice (some ⟨w.heap.size,0,none⟩) n n) (w.alloc (.cells (madeCells #[.int .i64 0,.int .i64 0,.int .i64 0,.int .i64 0] (n*4)) 122)):=by
 obtain⟨a,b,c,d,e⟩:=qK
 have:=run_make (P:=Tryz.prog) w 85 122 a _ Tryz.underlying85 b c .i64 .i64 n n (by omega) (Int.le_refl _) (by rw[e];omega) (by omega)
 rw[d] at this
 simpa [Value.cells] using this
theorem tq (B g:Nat) (sv:Value) (cs:List bS) (d:Array Value) (w:World) (h:d7 B w sv cs) (x:w.heap[g]?=some (.cells d 122 (0,0))) (n:d.size=cs.length*4):
  ∃ v,(∀ y,(Builtin.copy_ #[85,85] y #[.slice (some ⟨g,0,none⟩) cs.length cs.length,sv]).run Tryz.prog w=.ok (.int .i64 cs.length) v)/\v.heap[g]?=some (.cells (aE cs).toArray 122 (0,0))/\Below g w v/\∀ b,b≠g->v.heap[b]?=w.heap[b]?:=by
 obtain⟨F,p,G,z,H⟩:=qK
 obtain⟨a,I,rfl,J,K,f⟩:=h
 have q:Nat.min cs.length cs.length=cs.length:=Nat.min_self _
 cases a with
 | none=>
  have L:cs=[]:=by
   cases cs with
   | nil=>rfl
   | cons r l=>obtain⟨b,o,e,_⟩:=f 0 r rfl;cases e
  subst L
  have A:d=#[]:=Array.eq_empty_of_size_eq_zero (by simpa using n)
  refine⟨w,λy=>?_,by rw[x,A];rfl,Below.refl _ _,λ_ _=>rfl⟩
  simp[Builtin.copy_,run_underlying Tryz.underlying85,Builtin.lenOf,sizeOf,typeInfo,p,Builtin.firstCells,storeCells,goInt]
 | some D=>
  have m:∀ j u,(aE cs)[j]?=some u->w.cell? (D.add j)=some u:=by
   cases cs with
   | nil=>intro j u C;simp[aE] at C
   | cons r l=>
    obtain⟨b,o,e,_,_⟩:=f 0 r rfl
    cases e
    intro j u C
    rw[dL]
    refine mV (o:=o) (r :: l) o (λi c n=>?_) j u C
    obtain⟨N,O,e,_,k⟩:=f i c n
    cases e
    exact k
  have E:=run_loadCells_list (P:=Tryz.prog) w D (aE cs) m
  rw[dV] at E
  have s:=run_storeCells_at Tryz.prog g 0 122 (aE cs) 0 d w x (by rw[dV,n];omega) (gG cs)
  have t:(d.toList.take (0+0)++aE cs++d.toList.drop (0+0+(aE cs).length)).toArray=(aE cs).toArray:=by
   rw[dV,List.drop_of_length_le (by simp[n])]
   simp
  rw[t] at s
  refine⟨w.setRow g (aE cs).toArray,λy=>?_,setRow_heap w g _ _ _ _ x,⟨rfl,rfl,rfl,by simp[World.setRow],λk Q=>setRow_other w g k _ (by omega)⟩,λb M=>setRow_other w g b _ M⟩
  simp[Builtin.copy_,run_underlying Tryz.underlying85,Builtin.lenOf,Builtin.firstCells,sizeOf,typeInfo,p,z,q,E,s,goInt]
def iy (L:Nat) (w:World) (xs:List Value) (a:gf):Prop:=xs.length=a.length/\∀ (i:Nat) x f,xs[i]?=some x->a[i]?=some f->w.ownsRow L 122 4 x f.length (aE f)/\∀ c∈f,iB c
theorem iy.keep {L:Nat} {w w':World} {xs:List Value} {a:gf} (h:iy L w xs a) (d:dT 122 w w'):iy L w' xs a:=⟨h.1,λi x f b c=>⟨ex (h.2 i x f b c).1 d,(h.2 i x f b c).2⟩⟩
theorem iy.base {L a:Nat} {w:World} {xs:List Value} {b:gf} (h:iy L w xs b) (e:a<=L):iy a w xs b:=⟨h.1,λi x f c d=>⟨cK (h.2 i x f c d).1 e,(h.2 i x f c d).2⟩⟩
theorem iy.nil (L:Nat) (w:World):iy L w [] []:=⟨rfl,λi x f a=>by simp at a⟩
theorem iy.snoc {L:Nat} {w:World} {xs:List Value} {d:gf} {x:Value} {f:List bS} (h:iy L w xs d) (j:w.ownsRow L 122 4 x f.length (aE f)) (l:∀ c∈f,iB c):iy L w (xs++[x]) (d++[f]):=by
 refine⟨by simp[h.1],λi y g a b=>?_⟩
 by_cases e:i<xs.length
 ·rw[List.getElem?_append_left e] at a
  rw[List.getElem?_append_left (by rw[<-h.1];exact e)] at b
  exact h.2 i y g a b
 ·rw[List.getElem?_append_right (by omega)] at a
  rw[List.getElem?_append_right (by rw[<-h.1];omega),<-h.1] at b
  match hk:i-xs.length,a,b with
  | 0,a,b=>
   simp at a b
   subst a b
   exact⟨j,l⟩
  | k+1,a,_=>simp at a
theorem iy.at {L:Nat} {w:World} {xs:List Value} {a:gf} (h:iy L w xs a):gP w.heap.size w xs a:=⟨h.1,λi x f b c=>rt (h.2 i x f b c).1 (h.2 i x f b c).2⟩
def oF (L G n:Nat) (c:gf) (w:World):Prop:=
 ∃ b a,w.heap[G]?=some (.cells (b++a).toArray 85 (0,0))/\b.length+a.length=n/\iy L w b c
theorem oF.cell {L G n:Nat} {c:gf} {w:World} (h:oF L G n c w) (j:Nat) (e:j<n):∃ u,w.cell? ⟨G,j,none⟩=some u/\w.frozen? ⟨G,j,none⟩=false:=by
 obtain⟨d,a,b,f,g⟩:=h
 exact⟨(d++a)[j]'(by simp;omega),ab b j (by simp),by simp[World.frozen?,b]⟩
theorem oF.later {L G n:Nat} {b:gf} {w w':World} (h:oF L G n b w) (c:Below w.heap.size w w'):oF L G n b w':=by
 obtain⟨e,a,d,f,g⟩:=h
 exact⟨e,a,(c.block G (lt_of_block d)).trans d,f,g.keep (dT.of_below c)⟩
theorem oF.put {L G n:Nat} {d:gf} {w:World} {cv:Value} {f:List bS} (h:oF L G n d w) (s:d.length<n) (m:∀ c∈f,iB c) (p:w.ownsRow L 122 4 cv f.length (aE f)):
  oF L G n (d++[f]) (w.setCell ⟨G,d.length,none⟩ cv):=by
 obtain⟨q,b,k,g,l⟩:=h
 have j:=l.1
 obtain⟨i,a,rfl⟩:∃ i a,b=i :: a:=by
  match b,g with
  | [],g=>simp at g;omega
  | i :: a,_=>exact⟨i,a,rfl⟩
 have r:=an (o:=d.length) (u:=cv) k
 have e:dT 122 w (w.setCell ⟨G,d.length,none⟩ cv):=dT.setOther k (by decide)
 refine⟨q++[cv],a,?_,by simp at g |-;omega,(l.keep e).snoc (ex p e) m⟩
 rw[r]
 congr 2
 rw[<-j]
 apply Array.ext'
 simp[List.set_append]
theorem oF.done {L G n:Nat} {b:gf} {w:World} (h:oF L G n b w) (j:b.length=n) (e:L<=G) (f:n<=maxLen):∃ a,w.ownsRow L 85 1 (.slice (some ⟨G,0,none⟩) n n) n a/\iy L w a b:=by
 obtain⟨a,c,g,k,d⟩:=h
 have i:=d.1
 refine⟨a,⟨by omega,.inr ⟨G,n,_,rfl,e,g,Nat.le_refl _,f,by simp;omega,?_⟩⟩,d⟩
 simp
 rw[List.take_left' (by omega)]
set_option maxHeartbeats 8000000 in
theorem rR (B:Nat) (lv:Value) (d:gf) (w:World) (hl:cH B w lv d) (hB:B<=w.heap.size) (hn:d.length<=1000) (P:∀ f∈d,f.length<=100000):
  Calls Tryz.prog 109 #[lv] w λe C=>∃ v,e=.returned v/\∃ N,C.ownsRow w.heap.size 85 1 v d.length N/\iy w.heap.size C N d/\Below w.heap.size w C:=by
 have Q:Hid (∀ C,Below w.heap.size w C->cH B C lv d):=λC h=>hl.later h hB
 have a3:=hid P
 obtain⟨a,c,e3,-,-,-⟩:=hl
 subst e3
 clear P
 obtain⟨n,D⟩:∃ n,n=d.length:=⟨_,rfl⟩
 have HN:=hid D.symm
 rw[<-D] at hn Q |-
 clear D
 have ba:=ag
 have b:=λw=>zh n (by omega) w
 obtain⟨E,F⟩:∃ E,E=madeCells #[.slice none 0 0] n:=⟨_,rfl⟩
 rw[<-F] at b
 have G:∀ w,(Instr.makeSlice 44 (.int .i64 n) (.int .i64 n)).run Tryz.prog w=.ok (.slice (some ⟨w.heap.size,0,none⟩) n n) (w.alloc (.cells E 85)):=b
 have y:E.size=n:=by rw[F,size_madeCells]
 clear b F
 obtain⟨r,l⟩:∃ r,r=w.alloc (.cells E 85):=⟨_,rfl⟩
 have bb:r.heap.size=w.heap.size+1:=by rw[l];simp
 have H:Below w.heap.size w r:=by rw[l];exact (Below.refl _ _).alloc (Nat.le_refl _) _
 have g2:r.heap[w.heap.size]?=some (.cells E 85 (0,0)):=by
  rw[l]
  exact bE _ _ rfl
 have R:Hid (oF w.heap.size w.heap.size n (d.take 0) r):=⟨[],E.toList,by simpa using g2,by simpa using y,iy.nil _ _⟩
 have a4:Hid (∀ v,Below w.heap.size r v->Below w.heap.size w v):=λv h=>H.trans h
 have HW:=hid l
 clear l g2 y
 go_enter Tryz.func109,Tryz.ntmps109
 go_wp2_with fail
 rw[<-HW.out]
 clear G
 go_loopw [12] (λiv wr=>∃ k:Nat,k<=n/\iv=.int .i64 k/\Hid (oF w.heap.size w.heap.size n (d.take k) wr)/\Hid (Below w.heap.size r wr)) (λiv _=>n-(intOf iv).toNat)
 case atStart=>exact⟨0,by omega,rfl,R,Below.refl _ _⟩
 case round=>
  obtain⟨k,hk,rfl,S,m⟩:=hrel
  obtain⟨g,a6⟩:∃ x,x=wr:=⟨_,rfl⟩
  subst a6
  have k0:(0:Int)<=(k:Int):=by omega
  have s:=a4.out _ m.out
  have bd:w.heap.size+1<=g.heap.size:=by have:=m.out.size;omega
  by_cases bf:k<n
  ·have k1:(k:Int)<(n:Int):=by omega
   obtain⟨f,t⟩:∃ f,d[k]?=some f:=⟨d[k]'(by rw[HN.out];omega),by simp⟩
   have a7:Hid (d.take (k+1)=d.take k++[f]):=by unfold Hid;rw[List.take_succ,t];rfl
   have T:Hid ((d.take k).length=k):=by unfold Hid;rw[List.length_take,HN.out];omega
   have U:=a3.out f (List.mem_of_getElem? t)
   obtain⟨_,_,e1,-,-,V⟩:=Q.out _ s
   obtain⟨b3,o3,fv,e,b2,q0,u⟩:=V k f t
   simp at e1
   obtain⟨rfl,-,-⟩:=e1
   subst e
   clear V t
   have a8:=hid u.wf
   obtain⟨O,i⟩:∃ O,O=g.alloc (.cells (madeCells #[.int .i64 0,.int .i64 0,.int .i64 0,.int .i64 0] (f.length*4)) 122):=⟨_,rfl⟩
   have aa:O.heap.size=g.heap.size+1:=by rw[i];simp
   have I:Below g.heap.size g O:=by rw[i];exact (Below.refl _ _).alloc (Nat.le_refl _) _
   have c5:O.heap[g.heap.size]?=some (.cells (madeCells #[.int .i64 0,.int .i64 0,.int .i64 0,.int .i64 0] (f.length*4)) 122 (0,0)):=by
    rw[i]
    exact bE _ _ rfl
   obtain⟨z,o,c6,J,W⟩:=tq B g.heap.size fv f _ O (u.later I (by omega)) c5 (by rw[size_madeCells])
   have bo:z.heap.size=g.heap.size+1:=by
    have h1:=J.size
    have h2:z.heap[g.heap.size+1]?=none:=by
     rw[W _ (by omega)]
     exact Array.getElem?_eq_none (by omega)
    have:=Array.getElem?_eq_none_iff.1 h2
    omega
   have q:Below g.heap.size g z:=I.trans (J.mono (by omega))
   have K:Hid (oF w.heap.size w.heap.size n (d.take k) z):=S.out.later q
   have L:Hid (z.ownsRow w.heap.size 122 4 (.slice (some ⟨g.heap.size,0,none⟩) f.length f.length) f.length (aE f)):=⟨by rw[dV],.inr ⟨g.heap.size,f.length,_,rfl,by omega,c6,Nat.le_refl _,by rw[ag];omega,by simp[dV],by rw[List.take_of_length_le (by simp[dV])]⟩⟩
   have X:Hid (Below w.heap.size r z):=Below.thenOf m.out q (by omega)
   obtain⟨a9,c9,ac,-,-⟩:=u.shape
   subst ac
   have b:=λw=>z9 f.length (by omega) w
   obtain⟨j,M⟩:∃ j,j=f.length:=⟨_,rfl⟩
   have ad:=hid M.symm
   obtain⟨mk,A⟩:∃ mk,mk=madeCells #[.int .i64 0,.int .i64 0,.int .i64 0,.int .i64 0] (f.length*4):=⟨_,rfl⟩
   rw[<-A] at b i
   rw[<-M] at b U q0 o L
   have G:∀ w,(Instr.makeSlice 85 (.int .i64 j) (.int .i64 j)).run Tryz.prog w=.ok (.slice (some ⟨w.heap.size,0,none⟩) j j) (w.alloc (.cells mk 122)):=b
   have ak:=hid i
   obtain⟨u0,v0,w0⟩:=K.out.cell k (by omega)
   have Y:Hid (oF w.heap.size w.heap.size n (d.take (k+1)) (z.setCell ⟨w.heap.size,k,none⟩ (.slice (some ⟨g.heap.size,0,none⟩) j j))/\Below w.heap.size r (z.setCell ⟨w.heap.size,k,none⟩ (.slice (some ⟨g.heap.size,0,none⟩) j j))):=by
    refine⟨?_,X.out.setCell (p:=⟨w.heap.size,k,none⟩) (Nat.le_refl _) _⟩
    have:=K.out.put (cv:=.slice (some ⟨g.heap.size,0,none⟩) j j) (f:=f) (by rw[T.out];omega) a8.out (by rw[ad.out];exact L.out)
    rw[T.out] at this
    rw[a7.out]
    exact this
   clear aa I c5 c6 J W q K L i A b M u S m s H X
   have Z:Hid _:=o
   clear o
   go_wp2_with fail
   rw[<-ak.out,Z.out]
   clear G
   go_wp2_with fail
   exact⟨⟨k+1,by omega,by go_num,Y.out.1,Y.out.2⟩,by simp[intOf];omega⟩
  ·have e:k=n:=by omega
   subst e
   have HE:Hid (d.take k=d):=by unfold Hid;rw[<-HN.out,List.take_length]
   rw[HE.out] at S
   obtain⟨N,a0,a1⟩:=S.out.done HN.out (Nat.le_refl _) (by omega)
   have HF:Hid (g.ownsRow w.heap.size 85 1 (.slice (some ⟨w.heap.size,0,none⟩) k k) k N/\iy w.heap.size g N d):=⟨a0,a1⟩
   have k1:¬((k:Int)<(k:Int)):=by omega
   have ao:=hid s
   clear a0 a1 s S m R H
   go_wp2_with fail
   go_ret
   exact⟨_,rfl,N,HF.out.1,HF.out.2,ao.out⟩
def cW (L:Nat) (w:World) (v:Value) (b:gf):Prop:=∀ a:World,(∀ g,L<=g->g<w.heap.size->a.heap[g]?=w.heap[g]?)->w.heap.size<=a.heap.size->cH a.heap.size a v b
theorem cW.at {L:Nat} {w:World} {v:Value} {a:gf} (h:cW L w v a):cH w.heap.size w v a:=h w (λ_ _ _=>rfl) (Nat.le_refl _)
theorem cW.keep {L a:Nat} {w w':World} {v:Value} {b:gf} (h:cW L w v b) (f:a<=L) (i:∀ g,L<=g->g<w.heap.size->w'.heap[g]?=w.heap[g]?) (c:w.heap.size<=w'.heap.size):cW a w' v b:=
 λj k l=>h j (λg d e=>(k g (Nat.le_trans f d) (Nat.lt_of_lt_of_le e c)).trans (i g d e)) (Nat.le_trans c l)
theorem cW.later {L a:Nat} {w w':World} {v:Value} {b:gf} (h:cW L w v b) (d:a<=L) (c:Below w.heap.size w w'):cW a w' v b:=h.keep d (λg _ e=>c.block g e) c.size
theorem cW.put {L:Nat} {w:World} {v:Value} {a:gf} {b o:Nat} {u:Value} (h:cW L w v a) (c:b<L\/w.heap.size<=b):cW L (w.setCell ⟨b,o,none⟩ u) v a:=h.keep (Nat.le_refl _) (λg d e=>Below.heap_setCell _ _ _ _ (by show g≠b;omega)) (by simp)
theorem jh (L:Nat) (w:World):cW L w (.slice none 0 0) []:=λa _ _=>py _ _
theorem nN {L:Nat} {w:World} {v:Value} {xs:List Value} {c:gf} (h:w.ownsRow L 85 1 v c.length xs) (d:iy L w xs c):cW L w v c:=by
 intro n m o
 have e:iy L n xs c:=⟨d.1,λi x f a b=>⟨ct (d.2 i x f a b).1 λg j k l=>m g k (lt_of_block l),(d.2 i x f a b).2⟩⟩
 exact AW (ct h λg j k l=>m g k (lt_of_block l)) e.at
end Go.Proofs.YtnpdhopjpjickaaGreatDoor
end
section
set_option linter.all false
set_option maxRecDepth 100000
namespace Go.Proofs.YtnpdhopjpjickaaGreatDoor
open Go.RowKit Go.Maps
def iu (p:ap):Bs × Int:=if ae p=0 then (cM p,0) else ([],ae p)
set_option maxHeartbeats 8000000 in
theorem Bf (B0:Nat) (pv:Value) (p:ap) (w:World) (he:dX w) (hp:bG B0 w pv p) (J:B0<=w.heap.size):
  Calls Tryz.prog 164 #[pv] w λe j=>e=.returned (.tuple #[.string (eP (iu p).1),.int .i64 (iu p).2])/\Below w.heap.size w j:=by
 have E:∀ X,Below w.heap.size w (w.alloc X):=λX=>(Below.refl _ _).alloc (Nat.le_refl _) _
 have HC:Hid (∀ j,Below w.heap.size w j->Calls Tryz.prog 152 #[pv] j λe u=>e=.returned (.int .i64 (ae p))/\Below j.heap.size j u):=λj h=>fm B0 pv p j (hp.later h J) (Nat.le_trans J h.size)
 obtain⟨g,d⟩:=p
 obtain⟨rv,rfl,c2,a,l,rfl,c3,dn,K⟩:=hp
 simp only[] at c3 K
 have a7:=hid K
 have L:Hid (∀ e:Int,ae (g,d)=e->e≠0->iu (g,d)=([],e)):=by
  intro e h1 h2
  unfold iu
  rw[h1,if_neg h2]
 have M:Hid (ae (g,d)=0->iu (g,d)=(cM (g,d),0)):=by
  intro h
  unfold iu
  rw[if_pos h]
 have N:Hid (ae (g,d)=0->g.length<=120/\(0<=d/\d<=4)/\∀ r∈g,aR r=0):=λh=>kR h
 clear K c2
 show Calls Tryz.prog 164 #[.agg #[.slice a g.length l,.int .i64 d]] w _
 have a9:=hid HC.out
 clear HC
 generalize hn:g.length=n at*
 have O:=hid hn
 clear hn
 generalize c5:ae (g,d)=pe at*
 clear c5
 have dp:=ag
 by_cases h0:pe=0
 ·subst h0
  obtain⟨c6,hd,P⟩:=N.out rfl
  have aa:Hid _:=P
  have ac:Hid (iu (g,d)=(cM (g,d),0)):=M.out rfl
  have c7:Hid (cM (g,d)=g.flatMap ck++cJ d):=rfl
  have c8:Hid (∀ i:Nat,((g.take i).flatMap ck).length<=96000000):=by
   intro i
   have h1:=ii (g.take i) λc hc=>P c (List.mem_of_mem_take hc)
   have h2:(g.take i).length<=120:=by rw[List.length_take,O.out];omega
   exact Nat.le_trans h1 (Nat.mul_le_mul_right 800000 h2)
  obtain⟨f,rfl⟩:∃ i:Nat,d=i:=⟨d.toNat,by omega⟩
  have ad:f<5:=by omega
  have ak:Hid (cJ (f:Int)=vN.getD f []):=by unfold Hid cJ;simp
  have dr:=jW (f:Int)
  have ao:Hid (cJ (f:Int)≠[]):=by
   unfold Hid
   rw[ak.out]
   have:f=0\/f=1\/f=2\/f=3\/f=4:=by omega
   rcases this with rfl | rfl | rfl | rfl | rfl<;>decide
  clear P M L N
  go_enter Tryz.func164,Tryz.ntmps164
  go_wp2_with fail
  go_at_call 152
  refine Calls.mono (a9.out _ (E _)) ?_
  rintro e q ⟨rfl,s⟩
  have c9:q.heap[w.heap.size]?=some (.cells #[.slice a n l,.int .i64 f] 30 (0,0)):=(s.block _ (by simp)).trans (MapKept.heap_alloc w _).1
  have v:Below w.heap.size w q:=Below.thenOf (E _) s (by simp)
  have ds:w.heap.size+1<=q.heap.size:=by have:=s.size;simpa using this
  clear s
  obtain⟨F,t⟩:∃ F,F=q.alloc (.cells #[.pointer none,.slice none 0 0] 235):=⟨_,rfl⟩
  have Q:Below q.heap.size q F:=by rw[t];exact (Below.refl _ _).alloc (Nat.le_refl _) _
  have ca:F.heap.size=q.heap.size+1:=by rw[t];simp
  have y:cC q.heap.size q.heap.size (Lib.byteCells []) F:=.inl ⟨Nat.le_refl _,.slice none 0 0,by rw[t];exact (MapKept.heap_alloc q _).1,⟨rfl,.inl ⟨rfl,rfl⟩⟩,by simp[Value.ownBlock]⟩
  have av:F.heap[w.heap.size]?=some (.cells #[.slice a n l,.int .i64 f] 30 (0,0)):=(Q.block _ (by omega)).trans c9
  obtain⟨b,R⟩:∃ b,b=q.heap.size:=⟨_,rfl⟩
  rw[<-R] at y Q ca
  have d5:w.heap.size+1<=b:=by omega
  have b0:Below w.heap.size w F:=v.trans (Q.mono (by omega))
  obtain⟨p0,p1,_,_⟩:=ah av
  have b2:∀ X,X=.cells #[.pointer none,.slice none 0 0] 235->(q.alloc X).cell? ⟨w.heap.size,0,none⟩=some (.slice a n l):=λX hX=>by rw[hX,<-t];exact p0
  have b3:=b2 _ rfl
  clear b2
  go_wp2_with fail
  rw[<-t,<-R]
  clear t R b3
  have S:Hid _:=y
  clear y
  go_loopw [16] (λiv wr=>∃ i:Nat,i<=n/\iv=.int .i64 i/\Hid (cC b b (Lib.byteCells ((g.take i).flatMap ck)) wr)/\Below b F wr/\b+1<=wr.heap.size) (λiv _=>n-(intOf iv).toNat)
  case atStart=>exact⟨0,by omega,rfl,S,Below.refl _ _,by omega⟩
  case round=>
   obtain⟨i,hi,rfl,A,T,e1⟩:=hrel
   obtain⟨D,cc⟩:∃ x,x=wr:=⟨_,rfl⟩
   subst cc
   have i0:(0:Int)<=(i:Int):=by omega
   have U:=c8.out i
   have V:Below w.heap.size w D:=b0.trans (T.mono (by omega))
   by_cases cd:i<n
   ·have i1:(i:Int)<(n:Int):=by omega
    obtain⟨r,W⟩:∃ r,g[i]?=some r:=⟨g[i]'(by rw[O.out];exact cd),by simp⟩
    obtain⟨br,or,rfl,b5,b6⟩:=a7.out i r W
    obtain⟨cv,c0,c1,w0,B⟩:=b6.later V J b5
    have Y:Hid ((g.take (i+1)).flatMap ck=(g.take i).flatMap ck++ck r):=by
     unfold Hid
     rw[List.take_add_one,W]
     simp
    have b7:=aa.out r (List.mem_of_getElem? W)
    obtain⟨a2,m2,o,rfl⟩:∃ a2 m2 o,cv=.slice a2 m2 o:=by
     obtain⟨a2,o,e2,_⟩:=B
     exact⟨a2,_,o,e2⟩
    have cf:Hid (∀ j,Below D.heap.size D j->Calls Tryz.prog 194 #[.pointer (some ⟨b,0,none⟩),.agg #[.slice a2 m2 o,.int .i64 r.2]] j λe u=>e=.returned (.tuple #[])/\cC b b (Lib.byteCells ((g.take i).flatMap ck++ck r)) u/\Below b j u):=λj h=>
     tI B0 b b _ _ r j (λu h2=>he.later (V.trans ((h.mono (by omega)).trans (h2.mono (by omega))))) (B.later h (by omega)) (by omega) (cC.later A.out h) (by omega) (by have:=h.size;omega) b7
    clear b6 B w0
    have Z:∀ X,Below D.heap.size D (D.alloc X):=λX=>(Below.refl _ _).alloc (Nat.le_refl _) _
    go_wp2_with fail
    go_at_call 194
    refine Calls.mono (cf.out _ (Z _)) ?_
    rintro e w4 ⟨rfl,H,b9⟩
    have a0:Hid (cC b b (Lib.byteCells ((g.take (i+1)).flatMap ck)) w4):=by
     unfold Hid
     rw[Y.out]
     exact H
    have ba:Below b F w4:=T.trans (((Z _).mono (by omega)).trans b9)
    have cl:b+1<=w4.heap.size:=by have:=b9.size;simp at this;omega
    clear H Z
    go_wp2_with fail
    exact⟨⟨i+1,by omega,by go_num,a0,ba,cl⟩,by simp[intOf];omega⟩
   ·obtain rfl:i=n:=by omega
    have hT:Hid ((g.take i).flatMap ck=g.flatMap ck):=by
     unfold Hid
     rw[List.take_of_length_le (by rw[O.out];exact Nat.le_refl _)]
    obtain⟨L0,a1⟩:∃ L0,L0=(g.take i).flatMap ck:=⟨_,rfl⟩
    rw[<-a1] at A U
    have bb:Hid _:=a1
    clear a1
    have bc:D.heap[w.heap.size]?=some (.cells #[.slice a i l,.int .i64 f] 30 (0,0)):=(T.block _ (by omega)).trans av
    have hO:∀ bd fr,Obj.cells #[.slice a i l,.int .i64 f] 30 (0,0)≠.cells bd 5 fr:=λbd fr e=>by simp at e
    go_wp2_with fail
    have bf:Nonempty (oC w.heap.size (.cells #[.slice a i l,.int .i64 f] 30 (0,0))):=⟨⟨D,bc⟩⟩
    have a3:Hid (∀ fs j,oY b b vC 0 3 5 f w.heap.size (.cells #[.slice a i l,.int .i64 f] 30 (0,0)) L0 (cJ f) D fs j->∃ z:oC w.heap.size (.cells #[.slice a i l,.int .i64 f] 30 (0,0)),j=z.1):=λfs j h=>⟨⟨j,h.1⟩,rfl⟩
    have q1:∀ z:oC w.heap.size (.cells #[.slice a i l,.int .i64 f] 30 (0,0)),z.1.cell? ⟨w.heap.size,1,none⟩=some (.int .i64 f):=λz=>(ah z.2).2.1
    refine ib (λk=>k==0||k==3||k==4||k==5) (oY b b vC 0 3 5 f w.heap.size (.cells #[.slice a i l,.int .i64 f] 30 (0,0)) L0 (cJ f) D) (Es 0 3 4 f (cJ f)) (rB _ _ _ _ _) (by kernel_rfl) (by kernel_rfl) (oY.start bc) ?_
    refine bu 196 #[] rfl rfl (λj=>by kernel_rfl) (λgs j G m C=>?_) (λv1 co=>?_)
    ·refine (i7 j).mono ?_
     rintro e q ⟨rfl,rfl⟩
     exact⟨_,rfl,⟨_,rfl⟩,G.call (by decide) (by decide) (by omega) (by omega)⟩
    simp only[Act.put,List.setIfInBounds_toArray,List.set_cons_succ,List.set_cons_zero]
    obtain⟨b1,rfl⟩:∃ b:Nat,v1=.slice (some ⟨b,0,none⟩) 5 5:=co
    iterate 2 (refine aH a3.out rfl rfl ?_;go_big_quiet_step (fail);refine wpQuiet_nil ?_)
    refine bY rfl rfl (λgs j G m C=>⟨.pointer (some ⟨b1,f,none⟩),j,f9 (nz f b1 ad j),⟨b1,rfl⟩,G.idx (by decide) (by decide) (m 0 _ (.inr ⟨rfl,rfl⟩) (zQ0 (by kernel_rfl)))⟩) (λv4 cs=>?_)
    simp only[Act.put,List.setIfInBounds_toArray,List.set_cons_succ,List.set_cons_zero]
    obtain⟨b4,rfl⟩:∃ b:Nat,v4=.pointer (some ⟨b,f,none⟩):=cs
    refine bY rfl rfl (λgs j G m C=>⟨.string (eP (cJ f)),j,?_,rfl,G.other (by decide) (by decide) (by decide)⟩) (λv5 cx=>?_)
    ·have a4:=G.name (m 3 _ (.inr ⟨rfl,rfl⟩) (zQ0 (by kernel_rfl))) (DL ad)
     rw[<-ak.out] at a4
     clear G m C q1 a3 bf hO
     go_simp
    simp only[Act.put,List.setIfInBounds_toArray,List.set_cons_succ,List.set_cons_zero]
    obtain rfl:v5=.string (eP (cJ f)):=cx
    refine bu 195 #[.pointer (some ⟨b,0,none⟩),.string (eP (cJ f))] rfl rfl (λj=>by kernel_rfl) (λgs j G m C=>G.write (by decide) (by decide) C A.out hO (by omega) (by omega) (by omega)) (λv6 eb=>?_)
    simp only[Act.put,List.setIfInBounds_toArray,List.set_cons_succ,List.set_cons_zero]
    refine dF ?_
    intro w6 bg
    obtain⟨I,bk,dk⟩:=bg.2.2.2.2 ⟨v6,.inr ⟨rfl,rfl⟩⟩
    have a5:Hid _:=I
    have bm:Below w.heap.size w w6:=V.trans (bk.mono (by omega))
    clear bg q1 a3 bf I
    go_wp2_with fail
    go_at_call 197
    refine Calls.mono (Tryz.Builder_String b b (L0++cJ f) w6 a5.out (λe=>ao.out (List.append_eq_nil_iff.1 e).2)) ?_
    rintro e w7 ⟨rfl,cT⟩
    have bo:Below w.heap.size w w7:=bm.trans (cT.mono (by omega))
    have bp:Hid (L0++cJ f=cM (g,(f:Int))):=by unfold Hid;rw[c7.out,bb.out,hT.out]
    go_wp2_with fail
    go_ret2
    exact⟨by rw[ac.out,<-bp.out];rfl,bo⟩
 ·have d0:Hid (iu (g,d)=([],pe)):=L.out pe rfl h0
  have hq:(pe != 0)=true:=by simpa using h0
  clear L M N h0
  go_enter Tryz.func164,Tryz.ntmps164
  go_wp2_with fail
  go_at_call 152
  refine Calls.mono (a9.out _ (E _)) ?_
  rintro e q ⟨rfl,s⟩
  have v:Below w.heap.size w q:=Below.thenOf (E _) s (by simp)
  go_wp2_with fail
  go_ret2
  exact⟨by rw[d0.out];rfl,v⟩
end Go.Proofs.YtnpdhopjpjickaaGreatDoor
end
section
set_option linter.all false
set_option maxRecDepth 100000
namespace Go.Proofs.YtnpdhopjpjickaaGreatDoor
open Go.RowKit Go.Maps
def DH (W:World) (b a:Bs) (i:Nat) (c:Nat->Value->Prop) (w:World):Prop:=
 zT W b i c w/\∀ u,c 9 u->∃ g:Nat,u=.slice (some ⟨g,0,none⟩) 2 2/\W.heap.size<=g/\w.heap[g]?=some (.cells #[.string (eP b),.string (eP a)] 9 (0,0))
def ES (b a:Bs) (i:Nat) (k:Nat) (v:Value):Prop:=if k=9 then ∃ g:Nat,v=.slice (some ⟨g,0,none⟩) 2 2 else EU b a i k v
theorem BF (b a:Bs) (i k:Nat):∃ v,ES b a i k v:=by
 unfold ES
 split
 ·exact⟨_,0,rfl⟩
 ·exact CI _ _ _ _
theorem DH.keep {W w w':World} {b a:Bs} {i k:Nat} {v:Value} {c:Nat->Value->Prop} (h:DH W b a i c w) (j:Below w.heap.size w w') (l:zT W b i (bW c k v) w') (m:9≠k):DH W b a i (bW c k v) w':=by
 refine⟨l,λu d=>?_⟩
 rcases d with d | ⟨e,_⟩
 ·obtain⟨g,e,n,f⟩:=h.2 u d
  exact⟨g,e,n,(j.block g (lt_of_block f)).trans f⟩
 ·exact absurd e m
theorem DH.row {W w:World} {b a:Bs} {i:Nat} {d:Nat->Value->Prop} (h:DH W b a i d w):DH W b a i (bW d 9 (.slice (some ⟨w.heap.size,0,none⟩) 2 2)) (w.alloc (.cells #[.string (eP b),.string (eP a)] 9)):=by
 have f:=(Below.refl w.heap.size w).alloc (Nat.le_refl _) (.cells #[.string (eP b),.string (eP a)] 9)
 refine⟨h.1.other f _ (by decide) (by decide),λu c=>?_⟩
 rcases c with c | ⟨_,rfl⟩
 ·obtain⟨g,e,k,j⟩:=h.2 u c
  exact⟨g,e,k,(f.block g (lt_of_block j)).trans j⟩
 ·exact⟨_,rfl,h.1.1.size,af _ _⟩
theorem yP {w w':World} {g b o:Nat} {n c:Nat} (h:w.grownBy w' (Value.slice (some ⟨g,0,none⟩) n c).ownBlock) (d:b<w.heap.size) (a:b≠g):w'.cell? ⟨b,o,none⟩=w.cell? ⟨b,o,none⟩:=by
 have:=h.block b d (λe=>a (by simpa [Value.ownBlock] using e))
 simp[World.cell?,this]
theorem AS {a:Bs} (h:a.length<=1):([a].map List.length).sum<=1000000000:=by simp;omega
theorem AD {a b:Bs} (h:a.length<=1) (c:b.length<=1):([a,b].map List.length).sum<=1000000000:=by simp;omega
theorem Di {a:Bs} {p:ap} (h:a.length<=1) (b:ae p=0):([a,cM p].map List.length).sum<=1000000000:=by
 have c:=kR b
 have d:=ii p.1 c.2.2
 have e:=jW p.2
 have f:(cM p).length<=96000005:=by unfold cM;rw[List.length_append];omega
 simp
 omega
theorem vk (B:Nat) (a:Bs) (xs:List Bs) (T:Bs) (l:Value) (w':World) (p:a.length<=5) (f:a≠[]) (F:xs.length=1\/xs.length=2) (G:(xs.map List.length).sum<=1000000000) (m:w'.ownsRow B 9 1 l (xs.length+1) (.string (eP a) :: xs.map λx=>.string (eP x))) (q:T=a++xs.flatMap λx=>32 :: x):∃ g c,l=.slice (some ⟨g,0,none⟩) (xs.length+1) c/\Calls Tryz.prog 165 #[.slice (some ⟨g,0,none⟩) (xs.length+1) c,.string ⟨#[32]⟩] w' λe d=>e=.returned (.string (eP T))/\Below w'.heap.size w' d:=by
 have r:xs.length+1=2\/xs.length+1=3:=by omega
 obtain⟨H,b,s,h,n,o⟩:=ax m
 obtain⟨i,t,u,k⟩:=o (Nat.succ_pos _)
 clear o
 subst t
 subst s
 refine⟨i,b,rfl,?_⟩
 have v:∀ (j:Nat) x,(eP a :: xs.map eP)[j]?=some x->w'.cell? ⟨i,j,none⟩=some (.string x):=by
  intro j x w
  have y:(Value.string (eP a) :: xs.map λx=>Value.string (eP x))[j]?=some (.string x):=by
   have z:(Value.string (eP a) :: xs.map λx=>Value.string (eP x))=(eP a :: xs.map eP).map Value.string:=by simp
   rw[z,List.getElem?_map,w]
   rfl
  exact aL m j _ y
 have A:qF (eP a :: xs.map eP) (xs.length+1)<=10000000000:=by
  unfold qF
  rw[List.take_of_length_le (by simp),List.map_cons,List.sum_cons,rg,List.map_map]
  have C:(ByteArray.size ∘ eP)=(List.length:Bs->Nat):=by funext x;exact rg x
  rw[C]
  omega
 have D:(eP a).data.toList≠[]:=by simpa [eP] using f
 have E:(xs.map eP).length+1=xs.length+1:=by simp
 refine (Ci i b (xs.length+1) (eP a) (xs.map eP) w' v k r E h A D).mono λe d ⟨h,n⟩=>⟨?_,n⟩
 rw[h,q]
 unfold dM
 rw[show (xs.map eP).length=xs.length by simp,List.take_of_length_le (by simp),List.flatMap_map]
 simp[eP]
set_option maxHeartbeats 8000000 in
theorem zw (B:Nat) (v:Value) (r:al) (w:World) (he:dX w) (hr:cV B w v r) (hB:B<=w.heap.size):
  Calls Tryz.prog 137 #[v] w λe b=>e=.returned (.tuple #[.string (eP (gL r)),.int .i64 (bF r)])/\Below w.heap.size w b:=by
 have HC:Hid (∀ b,Below w.heap.size w b->Calls Tryz.prog 124 #[v] b λe O=>e=.returned (.int .i64 (bF r))/\Below b.heap.size b O):=λb h=>gZ B v r b (hr.later h hB) (Nat.le_trans hB h.size)
 have ba:Hid (∀ b,Below w.heap.size w b->dX b):=λb h=>he.later h
 have HP:Hid (gL r=if bF r=0 then aG r else []):=rfl
 obtain⟨a,c,rfl,hp⟩:=hr.shape
 have q:Hid (∀ b,Below w.heap.size w b->Calls Tryz.prog 164 #[.agg #[.slice a r.2.2.2.1.length c,.int .i64 r.2.2.2.2]] b λe O=>e=.returned (.tuple #[.string (eP (iu r.2.2.2).1),.int .i64 (iu r.2.2.2).2])/\Below b.heap.size b O):=λb h=>Bf B _ r.2.2.2 b (he.later h) (hp.later h hB) (Nat.le_trans hB h.size)
 clear hr hp he
 obtain⟨k,j,s,N,d⟩:=r
 simp only at*
 have hb:∀ X,Below w.heap.size w (w.alloc X):=λX=>(Below.refl _ _).alloc (Nat.le_refl _) _
 obtain⟨E,hE⟩:∃ E,E=bF (k,j,s,N,d):=⟨_,rfl⟩
 have HE:=hid hE
 rw[<-hE] at HC HP |-
 clear hE
 obtain⟨n,hn⟩:∃ n,n=N.length:=⟨_,rfl⟩
 have HN:=hid hn
 rw[<-hn] at HC q |-
 clear hn
 obtain⟨Z,a2⟩:∃ Z,Z=w.alloc (.cells #[.int .i64 k,.int .i64 j,.int .i64 s,.slice a n c,.int .i64 d] 78):=⟨_,rfl⟩
 have g0:Z.heap[w.heap.size]?=some (.cells #[.int .i64 k,.int .i64 j,.int .i64 s,.slice a n c,.int .i64 d] 78 (0,0)):=by rw[a2];exact af _ _
 have a3:Below w.heap.size w Z:=by rw[a2];exact hb _
 have HG:Hid (∀ b,Below Z.heap.size Z b->b.heap[w.heap.size]?=some (.cells #[.int .i64 k,.int .i64 j,.int .i64 s,.slice a n c,.int .i64 d] 78 (0,0))/\Below w.heap.size w b):=λb h=>⟨(h.block _ (lt_of_block g0)).trans g0,Below.thenOf a3 h a3.size⟩
 have HW:=hid a2
 clear a2 g0
 go_enter Tryz.func137,Tryz.ntmps137
 go_wp2_with fail
 rw[<-HW.out]
 go_at_call 124
 refine Calls.mono (HC.out _ a3) ?_
 rintro e w1 ⟨rfl,ad⟩
 obtain⟨g1,bb⟩:=HG.out w1 ad
 have B1:Hid (Below Z.heap.size Z w1/\Below w.heap.size w w1):=⟨ad,bb⟩
 have l1:=lt_of_block g1
 obtain⟨q0,q1,q2,q3,q4⟩:=bw g1
 clear g1 bb ad a3 hb HC HW
 by_cases h0:E=0
 ·obtain⟨hk,hc,hf,-,bd⟩:=gY (HE.out.symm.trans h0)
  have ak:Hid (gL (k,j,s,N,d)=aG (k,j,s,N,d)):=by unfold Hid;rw[HP.out,if_pos h0]
  have a5:=hid bd
  subst h0
  obtain⟨i,a6,K⟩:∃ i:Nat,i<4/\k=(i:Int)+1:=⟨(k-1).toNat,by omega,by omega⟩
  have i0:(0:Int)<=(i:Int):=by omega
  have i1:(i:Int)<4:=by omega
  have cx:IntKind.i64.wrap (k-1)=(i:Int):=by rw[show k-1=(i:Int) by omega];exact IntWalk.i64_in _ (by omega)
  obtain⟨m,P⟩:∃ m,m=kN.getD i []:=⟨_,rfl⟩
  have A:Hid (m=kN.getD i []/\m.length<=5/\kC[i]?=some (.string (eP m))):=⟨P,by rw[P];exact Dr i,by rw[P];exact DK a6⟩
  have ao:Hid (m≠[]):=by unfold Hid;rw[P];exact Dn a6
  have a7:Hid ((Lib.itoa j).length<=1/\(Lib.itoa s).length<=1):=⟨sM hc.1 hc.2,sM hf.1 hf.2⟩
  have H:Hid ((-9223372036854775808<=j/\j<=9223372036854775807)/\(-9223372036854775808<=s/\s<=9223372036854775807)):=⟨⟨Int.le_trans (by decide) hc.1,Int.le_trans hc.2 (by decide)⟩,Int.le_trans (by decide) hf.1,Int.le_trans hf.2 (by decide)⟩
  have d0:Hid (k=(i:Int)+1/\i<4):=⟨K,a6⟩
  have c0:∀ z:aw w1,z.1.cell? ⟨w.heap.size,0,none⟩=some (.int .i64 k):=λz=>z.cell q0 l1
  have c1:∀ z:aw w1,z.1.cell? ⟨w.heap.size,1,none⟩=some (.int .i64 j):=λz=>z.cell q1 l1
  clear P K hk hc hf bd
  go_wp2_with fail
  have a8:=aw.ne w1
  have L:Hid (∀ fs b,DH w1 m (Lib.itoa j) i fs b->∃ z:aw w1,b=z.1):=λfs b h=>⟨⟨b,h.1.1⟩,rfl⟩
  refine bh [_,_,_,_,_,_,_,_,_,_] _ rfl (λk=>k==0||k==4||k==5||k==8||k==9) (DH w1 m (Lib.itoa j) i) (ES m (Lib.itoa j) i) (BF _ _ _) (by kernel_rfl) (by kernel_rfl) ⟨⟨(Below.refl _ _).drew,λ_ h=>h.elim,λ_ h=>h.elim⟩,λ_ h=>h.elim⟩ ?_
  refine bu 163 #[] rfl rfl (λb=>by kernel_rfl) (λgs b o f C=>?_) (λv0 d1=>?_)
  ·refine (mO b).mono ?_
   rintro e t ⟨rfl,rfl⟩
   exact⟨_,rfl,⟨_,rfl⟩,o.keep ((Below.refl _ _).alloc (Nat.le_refl _) _) (o.1.lit _ _ A.out.2.2) (by decide)⟩
  simp only[Act.put,List.setIfInBounds_toArray,List.set_cons_succ,List.set_cons_zero]
  obtain⟨g,rfl⟩:∃ g:Nat,v0=.slice (some ⟨g,0,none⟩) 4 4:=d1
  iterate 3 (refine aH L.out rfl rfl ?_;go_big_quiet_step (fail);refine wpQuiet_nil ?_)
  refine bY rfl rfl (λgs b o f C=>⟨.pointer (some ⟨g,i,none⟩),b,?_,⟨_,rfl⟩,o.keep (Below.refl _ _) (o.1.addr (f 0 _ (.inr ⟨rfl,rfl⟩) (zQ0 (by kernel_rfl)))) (by decide)⟩) (λv4 d2=>?_)
  ·clear o f C L a8 c0 c1
   go_simp
  simp only[Act.put,List.setIfInBounds_toArray,List.set_cons_succ,List.set_cons_zero]
  obtain⟨g4,rfl⟩:∃ g:Nat,v4=.pointer (some ⟨g,i,none⟩):=d2
  refine bY rfl rfl (λgs b o f C=>⟨.string (eP m),b,?_,rfl,o.keep (Below.refl _ _) (o.1.other (Below.refl _ _) _ (by decide) (by decide)) (by decide)⟩) (λv5 d3=>?_)
  ·obtain⟨g',e,hl,hc⟩:=o.1.2.2 _ (f 4 _ (.inr ⟨rfl,rfl⟩) (zQ0 (by kernel_rfl)))
   simp at e
   subst e
   clear o f C L a8 c0 c1
   go_simp
  simp only[Act.put,List.setIfInBounds_toArray,List.set_cons_succ,List.set_cons_zero]
  obtain rfl:v5=.string (eP m):=d3
  iterate 2 (refine aH L.out rfl rfl ?_;go_big_quiet_step (fail);refine wpQuiet_nil ?_)
  refine bu 107 #[.int .i64 j] rfl rfl (λb=>by kernel_rfl) (λgs b o f C=>?_) (λv8 d5=>?_)
  ·refine (Tryz.strconv_Itoa j H.out.1.1 H.out.1.2 b (ba.out b (Below.thenOf B1.out.2 o.1.1 B1.out.2.size)).2.2.2).mono ?_
   rintro e t ⟨rfl,k8,d6,rfl⟩
   exact⟨_,rfl,rfl,o.keep (Lib.below_grow _ _ (Nat.le_refl _) _ _) (o.1.other (Lib.below_grow _ _ (Nat.le_refl _) _ _) _ (by decide) (by decide)) (by decide)⟩
  simp only[Act.put,List.setIfInBounds_toArray,List.set_cons_succ,List.set_cons_zero]
  obtain rfl:v8=.string (eP (Lib.itoa j)):=d5
  refine bY rfl rfl (λgs b o f C=>⟨.slice (some ⟨b.heap.size,0,none⟩) 2 2,b.alloc (.cells #[.string (eP m),.string (eP (Lib.itoa j))] 9),?_,⟨_,rfl⟩,o.row⟩) (λv9 da=>?_)
  ·clear o f C L a8 c0 c1
   go_simp
  simp only[Act.put,List.setIfInBounds_toArray,List.set_cons_succ,List.set_cons_zero]
  obtain⟨g9,rfl⟩:∃ g:Nat,v9=.slice (some ⟨g,0,none⟩) 2 2:=da
  refine dF ?_
  intro t av
  have a9:=av.1.1
  obtain⟨ep,e9,bk,Q⟩:=av.2 _ (.inr ⟨rfl,rfl⟩)
  simp at e9
  subst e9
  have bm:Below w.heap.size w t:=(HG.out t (Below.thenOf B1.out.1 a9 B1.out.1.size)).2
  obtain⟨g2,-⟩:=HG.out t (Below.thenOf B1.out.1 a9 B1.out.1.size)
  have B2:Hid (Below Z.heap.size Z t/\Below w.heap.size w t):=⟨Below.thenOf B1.out.1 a9 B1.out.1.size,bm⟩
  have l2:=lt_of_block g2
  obtain⟨r0,r1,r2,r3,r4⟩:=bw g2
  have dd:=lt_of_block Q
  have u:w.heap.size<=g9:=Nat.le_trans B1.out.2.size bk
  have de:Hid (w.heap.size≠g9):=by unfold Hid;omega
  have I:Hid (∀ b,Below t.heap.size t b->b.ownsRow w.heap.size 9 1 (.slice (some ⟨g9,0,none⟩) 2 2) 2 [.string (eP m),.string (eP (Lib.itoa j))]):=λb h=>⟨rfl,.inr ⟨g9,2,_,rfl,u,(h.block g9 dd).trans Q,Nat.le_refl _,by rw[ag];omega,rfl,rfl⟩⟩
  clear av a9 g2 bm a8 L c0 c1 q0 q1 q2 q3 q4 l1 cx Q bk u
  obtain⟨K,a6⟩:=d0.out
  have J:k=1\/k=2\/k=3\/k=4:=by omega
  have M:Hid (∀ b,Calls Tryz.prog 151 #[.int .i64 k] b λe O=>e=.returned (.bool (decide (k=1\/k=2)))/\O=b):=λb=>pg J b
  obtain⟨eu,bo,bp,bq,br⟩:∃ i,Tryz.prog.info? 9=some i/\i.zero=some (.string ⟨#[]⟩)/\i.size=1/\i.bytes=16:=fD (by kernel_rfl)
  obtain⟨T,D⟩:∃ T,T=aG (k,j,s,N,d):=⟨_,rfl⟩
  have R:Hid (gL (k,j,s,N,d)=T):=by unfold Hid;rw[D];exact ak.out
  have bs:Hid (2+1<=maxLen):=by unfold Hid;rw[ag];omega
  by_cases h4:k=4
  ·have hT:T=m++[Lib.itoa j].flatMap λx=>32 :: x:=by
    rw[D,A.out.1]
    unfold aG
    simp only[if_neg (show ¬k=3 by omega),if_pos h4]
    rw[show (k-1).toNat=i by omega]
    simp
   obtain⟨gj,ac,ej,HJ⟩:=vk w.heap.size m [Lib.itoa j] T _ t A.out.2.1 ao.out (.inl rfl) (AS a7.out.1) (I.out t (Below.refl _ _)) hT
   simp only[List.length_cons,List.length_nil,Nat.zero_add,Nat.reduceAdd,Value.slice.injEq,Option.some.injEq,Addr.mk.injEq,and_true,true_and] at ej HJ
   obtain⟨rfl,rfl⟩:=ej
   have S:Hid _:=HJ
   rw[show decide (k=1\/k=2)=false by simp;omega] at M
   subst h4
   clear K J HJ I q a5 hT D
   go_wp2_with fail
   go_at_call 151
   refine Calls.mono (M.out _) ?_
   rintro e w3 ⟨rfl,rfl⟩
   go_wp2_with fail
   go_at_call 165
   refine Calls.mono S.out ?_
   rintro e F ⟨rfl,dk⟩
   have dl:Below w.heap.size w F:=Below.thenOf B2.out.2 dk B2.out.2.size
   go_wp2_with fail
   go_ret2
   exact⟨by rw[R.out];rfl,dl⟩
  ·by_cases h3:k=3
   ·have hT:T=m++[Lib.itoa j,Lib.itoa s].flatMap λx=>32 :: x:=by
     rw[D,A.out.1]
     unfold aG
     simp only[if_pos h3]
     rw[show (k-1).toNat=i by omega]
     simp
    have HI:Hid (Calls Tryz.prog 107 #[.int .i64 s] t λe b=>e=.returned (.string (eP (Lib.itoa s)))/\Below t.heap.size t b):=by
     refine (Tryz.strconv_Itoa s H.out.2.1 H.out.2.2 t (ba.out t B2.out.2).2.2.2).mono ?_
     rintro e w3 ⟨rfl,k8,d6,rfl⟩
     exact⟨rfl,Lib.below_grow _ _ (Nat.le_refl _) _ _⟩
    have HT:=hid hT
    have y:=AD a7.out.1 a7.out.2
    have G:Hid _:=y
    rw[show decide (k=1\/k=2)=false by simp;omega] at M
    subst h3
    clear K J q a5 h4 hT D y
    generalize Lib.itoa s=fT at*
    generalize Lib.itoa j=cT at*
    go_wp2_with fail
    go_at_call 151
    refine Calls.mono (M.out _) ?_
    rintro e w3 ⟨rfl,rfl⟩
    go_wp2_with fail
    go_at_call 107
    refine Calls.mono HI.out ?_
    rintro e F ⟨rfl,l⟩
    have b0:Hid _:=I.out F l
    have HA:Hid (w.heap.size<=F.heap.size):=Nat.le_trans B2.out.2.size l.size
    have b1:Hid (Below w.heap.size w F):=Below.thenOf B2.out.2 l B2.out.2.size
    clear l
    go_wp2_with (first | (at_builtin;go_must (refine lQ _ rfl _ _ rfl Tryz.underlying129 bo bp bq br rfl (by decide) w.heap.size _ _ _ rfl _ 1 [.string (eP fT)] rfl F rfl rfl F (Below.refl _ _) b0.out rfl (by simp[Value.oneCell']) bs.out (by decide) HA.out ?_;intro v9 w9 b3 U u b4;have b5:Hid _:=U;clear U u b4;obtain⟨gj,ac,rfl,HJ⟩:=vk w.heap.size m [cT,fT] T v9 w9 A.out.2.1 ao.out (.inr rfl) G.out b3.out HT.out;have S:Hid _:=HJ;clear HJ)))
    go_at_call 165
    refine Calls.mono S.out ?_
    rintro e b6 ⟨rfl,V⟩
    have W:Below w.heap.size w w9:=b1.out.trans b5.out
    have Y:Below w.heap.size w b6:=Below.thenOf W V W.size
    go_wp2_with fail
    go_ret2
    exact⟨by rw[R.out];rfl,Y⟩
   ·have b7:ae (N,d)=0:=by
     rcases a5.out with h | h
     ·exact h.2
     ·omega
    have HT:Hid (T=m++[Lib.itoa j,cM (N,d)].flatMap λx=>32 :: x):=by
     unfold Hid
     rw[D,A.out.1]
     unfold aG
     simp only[if_neg h3,if_neg h4]
     rw[show (k-1).toNat=i by omega]
     simp
    have y:=Di a7.out.1 b7
    have G:Hid _:=y
    have c5:iu (N,d)=(cM (N,d),0):=by unfold iu;rw[if_pos b7]
    have c6:Hid _:=q.out t B2.out.2
    rw[c5] at c6
    have eF:(k==3)=false:=by simpa using h3
    rw[show decide (k=1\/k=2)=true by simp;omega] at M
    clear K J q a5 h4 D y c5 b7 h3
    generalize cM (N,d)=fT at*
    generalize Lib.itoa j=cT at*
    go_wp2_with fail
    go_at_call 151
    refine Calls.mono (M.out _) ?_
    rintro e w3 ⟨rfl,rfl⟩
    go_wp2_with fail
    go_at_call 164
    refine Calls.mono c6.out ?_
    rintro e F ⟨rfl,l⟩
    have b0:Hid _:=I.out F l
    have HA:Hid (w.heap.size<=F.heap.size):=Nat.le_trans B2.out.2.size l.size
    have b1:Hid (Below w.heap.size w F):=Below.thenOf B2.out.2 l B2.out.2.size
    have c4:F.cell? ⟨w.heap.size,0,none⟩=some (.int .i64 k):=(l.cell (p:=⟨w.heap.size,0,none⟩) l2).trans r0
    have l4:w.heap.size<F.heap.size:=Nat.lt_of_lt_of_le l2 l.size
    clear l
    go_wp2_with (first | (at_builtin;go_must (refine lQ _ rfl _ _ rfl Tryz.underlying129 bo bp bq br rfl (by decide) w.heap.size _ _ _ rfl _ 1 [.string (eP fT)] rfl F rfl rfl F (Below.refl _ _) b0.out rfl (by simp[Value.oneCell']) bs.out (by decide) HA.out ?_;intro v9 w9 b3 U u b4;have b5:Hid _:=U;have c9:w9.cell? ⟨w.heap.size,0,none⟩=some (.int .i64 k):=(yP u.out l4 de.out).trans c4;have l9:w.heap.size<w9.heap.size:=Nat.lt_of_lt_of_le l4 u.out.size;clear U u b4 c4 l4 r0 r1 r2 r3 r4;obtain⟨gj,ac,rfl,HJ⟩:=vk w.heap.size m [cT,fT] T v9 w9 A.out.2.1 ao.out (.inr rfl) G.out b3.out HT.out;have S:Hid _:=HJ;clear HJ)))
    go_at_call 165
    refine Calls.mono S.out ?_
    rintro e b6 ⟨rfl,V⟩
    have W:Below w.heap.size w w9:=b1.out.trans b5.out
    have Y:Below w.heap.size w b6:=Below.thenOf W V W.size
    go_wp2_with fail
    go_ret2
    exact⟨by rw[R.out];rfl,Y⟩
 ·have ak:Hid (gL (k,j,s,N,d)=[]):=by unfold Hid;rw[HP.out,if_neg h0]
  have hq:(E != 0)=true:=by simpa using h0
  clear h0
  go_wp2_with fail
  go_ret2
  exact⟨by rw[ak.out];rfl,B1.out.2⟩
end Go.Proofs.YtnpdhopjpjickaaGreatDoor
end
section
set_option linter.all false
set_option maxRecDepth 100000
namespace Go.Proofs.YtnpdhopjpjickaaGreatDoor
open Go.RowKit Go.Maps
set_option maxHeartbeats 4000000 in
theorem yq (s:ByteArray) (a2:s.size<=60000) (w:World) (he:dX w) (hk:bI kN ((ar s.data.toList).getD 0 [])=2) (hn:(ar s.data.toList).length=3):jZ s w:=by
 have HE:Hid (∀ a,Below w.heap.size w a->dX a):=λa h=>he.later h
 clear he
 obtain⟨I,t,b6,b7,W,a3⟩:=iX s a2
 have HM:=hid t
 have X:=hid W
 obtain⟨Y,J⟩:∃ u,I[0]?=some u:=⟨I[0]'(by omega),by simp⟩
 have b9:Y.size<=60000:=W Y (List.mem_of_getElem? J)
 have a4:(ar s.data.toList).getD 0 []=Y.data.toList:=by
  rw[<-t,List.getD_eq_getElem?_getD,List.getElem?_map,J]
  rfl
 have q:(ar s.data.toList).length=I.length:=by rw[<-t];simp
 obtain⟨A,K⟩:∃ A,A=w.alloc (.cells #[.int .i64 0,.int .i64 0,.int .i64 0,.slice none 0 0,.int .i64 0] 78):=⟨_,rfl⟩
 have g0:A.heap[w.heap.size]?=some (.cells #[.int .i64 0,.int .i64 0,.int .i64 0,.slice none 0 0,.int .i64 0] 78 (0,0)):=by rw[K];exact af _ _
 have L:Below w.heap.size w A:=by rw[K];exact (Below.refl _ _).alloc (Nat.le_refl _) _
 have Z:Hid (∀ a,Below A.heap.size A a->a.heap[w.heap.size]?=some (.cells #[.int .i64 0,.int .i64 0,.int .i64 0,.slice none 0 0,.int .i64 0] 78 (0,0))/\Below w.heap.size w a):=λa h=>⟨(h.block _ (lt_of_block g0)).trans g0,Below.thenOf L h L.size⟩
 obtain⟨mm,hm⟩:=(HE.out A L).1
 have B:Hid _:=a3 mm A hm
 have HW:=hid K
 clear K g0 L a3 hm t W
 rw[q] at hn
 obtain⟨C,M⟩:∃ u,I[1]?=some u:=⟨I[1]'(by omega),by simp⟩
 have bb:C.size<=60000:=X.out C (List.mem_of_getElem? M)
 have a5:(ar s.data.toList).getD 1 []=C.data.toList:=by
  rw[<-HM.out,List.getD_eq_getElem?_getD,List.getElem?_map,M]
  rfl
 obtain⟨z,N⟩:∃ u,I[2]?=some u:=⟨I[2]'(by omega),by simp⟩
 have bc:z.size<=60000:=X.out z (List.mem_of_getElem? N)
 have a6:(ar s.data.toList).getD 2 []=z.data.toList:=by
  rw[<-HM.out,List.getD_eq_getElem?_getD,List.getElem?_map,N]
  rfl
 have S:Hid (eh s.data.toList=match cS C.data.toList with | none=>(cr,1) | some c=>(match cS z.data.toList with | none=>(cr,1) | some f=>((3,c,f,[],0),0))):=by
  unfold Hid eh
  rw[hk,q,hn,a5,a6,if_neg (by omega)]
  cases cS C.data.toList with
  | none=>rfl
  | some c=>cases cS z.data.toList<;>rfl
 have bd:Hid (∀ a,Calls Tryz.prog 182 #[.string Y] a λe r=>e=.returned (.tuple #[.int .i64 3,.bool true])/\Below a.heap.size a r):=λa=>by
  have:=gM Y a
  rw[<-a4,hk] at this
  exact this
 have bf:Hid (∀ a,Calls Tryz.prog 183 #[.int .i64 3] a λe r=>e=.returned (.int .i64 3)/\r=a):=λa=>iP (by decide) a
 have bg:Hid (∀ a,Below w.heap.size w a->Calls Tryz.prog 184 #[.string C] a λe r=>∃ n ok,e=.returned (.tuple #[.int .i64 n,.bool ok])/\(cS C.data.toList=if ok=true then some n else none)/\wf n/\Below a.heap.size a r):=λa h=>gX C (by omega) a (HE.out a h)
 have bk:Hid (∀ a,Below w.heap.size w a->Calls Tryz.prog 184 #[.string z] a λe r=>∃ n ok,e=.returned (.tuple #[.int .i64 n,.bool ok])/\(cS z.data.toList=if ok=true then some n else none)/\wf n/\Below a.heap.size a r):=λa h=>gX z (by omega) a (HE.out a h)
 have HU:Hid (I[0]?=some Y/\I[1]?=some C/\I[2]?=some z):=⟨J,M,N⟩
 rw[hn] at B
 clear a4 q J b9 M bb a5 N bc a6 hk hn b6 b7 X HM HE
 go_enter Tryz.func148,Tryz.ntmps148
 go_wp2_with fail
 rw[<-HW.out]
 go_at_call 117
 refine Calls.mono B.out ?_
 rintro e w1 ⟨SB,cn,rfl,co,cp,a7,a8,D,i⟩
 have x0:=i 0 Y HU.out.1
 have HX:Hid (∀ a,Below w1.heap.size w1 a->a.cell? ⟨SB,1,none⟩=some (.string C)/\a.cell? ⟨SB,2,none⟩=some (.string z)):=λa h=>⟨(h.cell (p:=⟨SB,1,none⟩) D).trans (i 1 C HU.out.2.1),(h.cell (p:=⟨SB,2,none⟩) D).trans (i 2 z HU.out.2.2)⟩
 have a9:=hid a7
 clear i B HW a8 a7
 go_wp2_with fail
 go_at_call 182
 refine Calls.mono (bd.out _) ?_
 rintro e w2 ⟨rfl,E⟩
 have bq:=hid E
 have x1:=(HX.out w2 E).1
 have aa:SB<w2.heap.size:=Nat.lt_of_lt_of_le D E.size
 have a0:Hid (Below A.heap.size A w2):=Below.thenOf a9.out E a9.out.size
 clear E x0
 go_wp2_with fail
 go_at_call 183
 refine Calls.mono (bf.out _) ?_
 rintro e w3 ⟨rfl,rfl⟩
 go_wp2_with fail
 go_at_call 184
 refine Calls.mono (bg.out _ (Z.out _ a0.out).2) ?_
 rintro e g ⟨n,ok,rfl,x,T,F⟩
 have k:=Below.thenOf a0.out F a0.out.size
 have ac:SB<g.heap.size:=Nat.lt_of_lt_of_le aa F.size
 have ad:Hid (∀ a,Below g.heap.size g a->a.cell? ⟨SB,2,none⟩=some (.string z)):=λa h=>((h.cell (p:=⟨SB,2,none⟩) ac).trans (F.cell (p:=⟨SB,2,none⟩) aa)).trans (HX.out w3 bq.out).2
 clear HX x1
 cases ok with
 | false=>
  have b:Hid (eh s.data.toList=(cr,1)):=by unfold Hid;rw[S.out,x];rfl
  have l:=k
  clear x F k
  obtain⟨d,o⟩:=Z.out g l
  have lb:=lt_of_block d
  obtain⟨z0,z1,z2,z3,z4⟩:=bw d
  have f0:g.frozen? ⟨w.heap.size,0,none⟩=false:=by simp[World.frozen?,d]
  have f1:g.frozen? ⟨w.heap.size,1,none⟩=false:=by simp[World.frozen?,d]
  have f2:g.frozen? ⟨w.heap.size,2,none⟩=false:=by simp[World.frozen?,d]
  have f3:g.frozen? ⟨w.heap.size,3,none⟩=false:=by simp[World.frozen?,d]
  have f4:g.frozen? ⟨w.heap.size,4,none⟩=false:=by simp[World.frozen?,d]
  have G:=hid o
  clear d o l
  go_wp2_with fail
  refine bodyPost_ret (v:=.tuple #[.agg #[.int .i64 0,.int .i64 0,.int .i64 0,.slice none 0 0,.int .i64 0],.int .i64 1]) ?_ rfl ⟨_,by rw[b.out],by rw[b.out];exact dO _ _,?_⟩
  ·rw[results_cell_tmp rfl]
   go_simp
  ·exact (((((G.out.setCell (p:=⟨w.heap.size,0,none⟩) (Nat.le_refl _) _).setCell (p:=⟨w.heap.size,1,none⟩) (Nat.le_refl _) _).setCell (p:=⟨w.heap.size,2,none⟩) (Nat.le_refl _) _).setCell (p:=⟨w.heap.size,3,none⟩) (Nat.le_refl _) _).setCell (p:=⟨w.heap.size,4,none⟩) (Nat.le_refl _) _)
 | true=>
  have H:Hid (eh s.data.toList=match cS z.data.toList with | none=>(cr,1) | some f=>((3,n,f,[],0),0)):=by unfold Hid;rw[S.out,x];rfl
  have br:=hid T
  obtain⟨O,P⟩:∃ O,O=g.alloc (.cells #[.int .i64 3,.int .i64 n,.int .i64 0,.slice none 0 0,.int .i64 0] 78):=⟨_,rfl⟩
  have a1:Below g.heap.size g O:=by rw[P];exact (Below.refl _ _).alloc (Nat.le_refl _) _
  have g5:O.heap[g.heap.size]?=some (.cells #[.int .i64 3,.int .i64 n,.int .i64 0,.slice none 0 0,.int .i64 0] 78 (0,0)):=by rw[P];exact af _ _
  have x4:=ad.out g (Below.refl _ _)
  have Q:=Below.thenOf k a1 k.size
  have l5:=lt_of_block g5
  have ak:=bk.out O (Z.out O Q).2
  have U:Hid _:=ak
  have ao:Hid (∀ a,Below O.heap.size O a->a.heap[g.heap.size]?=some (.cells #[.int .i64 3,.int .i64 n,.int .i64 0,.slice none 0 0,.int .i64 0] 78 (0,0))/\Below A.heap.size A a):=λa h=>⟨(h.block _ l5).trans g5,Below.thenOf Q h Q.size⟩
  have d0:=hid k.size
  have av:Hid (w.heap.size<=g.heap.size):=Nat.le_of_lt (lt_of_block (Z.out g k).1)
  have d1:¬w.heap.size=g.heap.size:=by have:=lt_of_block (Z.out g k).1;omega
  have b0:=hid P
  have bv:SB<O.heap.size:=Nat.lt_of_lt_of_le ac a1.size
  clear P a1 g5 Q k F x T ak ad
  go_wp2_with fail
  rw[<-b0.out]
  go_at_call 184
  refine Calls.mono U.out ?_
  rintro e y ⟨m,bx,rfl,j,V,b1⟩
  obtain⟨g6,R⟩:=ao.out y b1
  have l6:=lt_of_block g6
  obtain⟨q0,q1,q2,q3,q4⟩:=bw g6
  have fq:y.frozen? ⟨g.heap.size,2,none⟩=false:=by simp[World.frozen?,g6]
  have c0:=hid V
  clear U ao x4 l5 bv b1 b0 V g6
  cases bx with
  | false=>
   have b:Hid (eh s.data.toList=(cr,1)):=by unfold Hid;rw[H.out,j];rfl
   have l:=R
   clear j R
   obtain⟨d,o⟩:=Z.out y l
   have lb:=lt_of_block d
   obtain⟨z0,z1,z2,z3,z4⟩:=bw d
   have f0:y.frozen? ⟨w.heap.size,0,none⟩=false:=by simp[World.frozen?,d]
   have f1:y.frozen? ⟨w.heap.size,1,none⟩=false:=by simp[World.frozen?,d]
   have f2:y.frozen? ⟨w.heap.size,2,none⟩=false:=by simp[World.frozen?,d]
   have f3:y.frozen? ⟨w.heap.size,3,none⟩=false:=by simp[World.frozen?,d]
   have f4:y.frozen? ⟨w.heap.size,4,none⟩=false:=by simp[World.frozen?,d]
   have G:=hid o
   clear d o l
   go_wp2_with fail
   refine bodyPost_ret (v:=.tuple #[.agg #[.int .i64 0,.int .i64 0,.int .i64 0,.slice none 0 0,.int .i64 0],.int .i64 1]) ?_ rfl ⟨_,by rw[b.out],by rw[b.out];exact dO _ _,?_⟩
   ·rw[results_cell_tmp rfl]
    go_simp
   ·exact ((((((G.out.setCell (p:=⟨g.heap.size,2,none⟩) av.out _).setCell (p:=⟨w.heap.size,0,none⟩) (Nat.le_refl _) _).setCell (p:=⟨w.heap.size,1,none⟩) (Nat.le_refl _) _).setCell (p:=⟨w.heap.size,2,none⟩) (Nat.le_refl _) _).setCell (p:=⟨w.heap.size,3,none⟩) (Nat.le_refl _) _).setCell (p:=⟨w.heap.size,4,none⟩) (Nat.le_refl _) _)
  | true=>
   have b:Hid (eh s.data.toList=((3,n,m,[],0),0)):=by unfold Hid;rw[H.out,j];rfl
   have l:=R
   clear j R
   obtain⟨d,o⟩:=Z.out y l
   have lb:=lt_of_block d
   obtain⟨z0,z1,z2,z3,z4⟩:=bw d
   have f0:y.frozen? ⟨w.heap.size,0,none⟩=false:=by simp[World.frozen?,d]
   have f1:y.frozen? ⟨w.heap.size,1,none⟩=false:=by simp[World.frozen?,d]
   have f2:y.frozen? ⟨w.heap.size,2,none⟩=false:=by simp[World.frozen?,d]
   have f3:y.frozen? ⟨w.heap.size,3,none⟩=false:=by simp[World.frozen?,d]
   have f4:y.frozen? ⟨w.heap.size,4,none⟩=false:=by simp[World.frozen?,d]
   have G:=hid o
   clear d o l
   go_wp2_with fail
   refine bodyPost_ret (v:=.tuple #[.agg #[.int .i64 3,.int .i64 n,.int .i64 m,.slice none 0 0,.int .i64 0],.int .i64 0]) ?_ rfl ⟨_,by rw[b.out],by rw[b.out];exact λwF _ _=>⟨_,rfl,(by unfold wf;decide:wf (3:Int)),br.out,c0.out,dU _ _⟩,?_⟩
   ·rw[results_cell_tmp rfl]
    go_simp
   ·exact ((((((G.out.setCell (p:=⟨g.heap.size,2,none⟩) av.out _).setCell (p:=⟨w.heap.size,0,none⟩) (Nat.le_refl _) _).setCell (p:=⟨w.heap.size,1,none⟩) (Nat.le_refl _) _).setCell (p:=⟨w.heap.size,2,none⟩) (Nat.le_refl _) _).setCell (p:=⟨w.heap.size,3,none⟩) (Nat.le_refl _) _).setCell (p:=⟨w.heap.size,4,none⟩) (Nat.le_refl _) _)
end Go.Proofs.YtnpdhopjpjickaaGreatDoor
end
section
set_option linter.all false
set_option maxRecDepth 100000
namespace Go.Proofs.YtnpdhopjpjickaaGreatDoor
open Go.RowKit Go.Maps
theorem Al (s:ByteArray) (a:s.size<=60000) (w:World) (b:dX w):jZ s w:=by
 by_cases c:bI kN ((ar s.data.toList).getD 0 [])<0\/(bI kN ((ar s.data.toList).getD 0 [])=3/\(ar s.data.toList).length≠2)\/(bI kN ((ar s.data.toList).getD 0 [])<3/\(ar s.data.toList).length≠3)
 ·exact AF s a w b c
 ·have d:=yY ((ar s.data.toList).getD 0 [])
  by_cases e:bI kN ((ar s.data.toList).getD 0 [])=3
  ·exact zd s a w b e (by omega)
  ·by_cases f:bI kN ((ar s.data.toList).getD 0 [])=2
   ·exact yq s a w b f (by omega)
   ·by_cases g:bI kN ((ar s.data.toList).getD 0 [])=1
    ·exact zA s a w b g (by omega)
    ·exact yI s a w b (by omega) (by omega)
end Go.Proofs.YtnpdhopjpjickaaGreatDoor
end
section
set_option linter.all false
namespace Go.Proofs.YtnpdhopjpjickaaGreatDoor
open Go.RowKit Go.Maps
def uL:ByteArray:=⟨#[107,105,108,108,32,110,114,61,51,32,97,60,53,59,108,111,103,32,107,105,110,100,33,48,59,102,97,105,108,32,98,62,55,59,97,108,108,111,119]⟩
def sF:List ai:=[([(0,1,3),(2,3,5)],0),([(1,2,0)],3),([(3,4,7)],2)]
def fb:ap:=(sF,4)
theorem A6:Maps.has D1 (.string [102,97,105,108])=true/\D1.atKey (.string [102,97,105,108]) kg=.lit (.int .i64 2):=by
 unfold D1 kg
 rw[Maps.has_put_other (dQ (by decide)),Maps.has_put_other (dQ (by decide)),Maps.atKey_put_other (dQ (by decide)),Maps.atKey_put_other (dQ (by decide))]
 exact⟨Maps.has_put_same ((Maps.isMap_empty.put _ _).put _ _) (fP _) _,Maps.atKey_put_same ((Maps.isMap_empty.put _ _).put _ _) (fP _) _ _⟩
theorem Ew:Maps.has D2 (.string [98])=true/\D2.atKey (.string [98]) kg=.lit (.int .i64 3):=by
 unfold D2 kg
 rw[Maps.has_put_other (dQ (by decide)),Maps.atKey_put_other (dQ (by decide))]
 exact⟨Maps.has_put_same (((Maps.isMap_empty.put _ _).put _ _).put _ _) (fP _) _,Maps.atKey_put_same (((Maps.isMap_empty.put _ _).put _ _).put _ _) (fP _) _ _⟩
theorem Dd:D3.atKey (.int .u8 62) kg=.lit (.int .i64 4):=by
 unfold D3 kg
 exact Maps.atKey_put_same (((Maps.isMap_empty.put _ _).put _ _).put _ _) (vI _) _ _
theorem Et:j9 ⟨#[98,62,55]⟩ (3,4,7):=by
 refine⟨1,7,by decide,by decide,λi a=>?_,Dd,by decide,Ew.1,Ew.2,rfl,by decide,by decide,by decide +kernel⟩
 obtain rfl:i=0:=by omega
 exact ov _ (by decide)
theorem B6:oa ⟨#[102,97,105,108,32,98,62,55]⟩ ([(3,4,7)],2):=by
 refine⟨⟨#[102,97,105,108]⟩,[⟨#[98,62,55]⟩],by decide +kernel,by decide +kernel,by decide,A6.1,A6.2,by decide,rfl,by decide,λj u c a b=>?_⟩
 match j,a,b with
 | 0,a,b=>simp at a b;subst a b;exact Et
 | j+1,a,b=>simp at a
theorem yK:jk 4 sF uL:=by
 refine⟨⟨#[107,105,108,108,32,110,114,61,51,32,97,60,53]⟩,⟨#[108,111,103,32,107,105,110,100,33,48,59,102,97,105,108,32,98,62,55,59,97,108,108,111,119]⟩,by decide,by decide +kernel,by decide,xG,?_⟩
 refine⟨⟨#[108,111,103,32,107,105,110,100,33,48]⟩,⟨#[102,97,105,108,32,98,62,55,59,97,108,108,111,119]⟩,by decide,by decide +kernel,by decide,zZ,?_⟩
 refine⟨⟨#[102,97,105,108,32,98,62,55]⟩,⟨#[97,108,108,111,119]⟩,by decide,by decide +kernel,by decide,B6,?_⟩
 exact⟨by decide,by decide +kernel,by decide +kernel,by decide +kernel,oR.1,oR.2⟩
theorem CH:ae fb=0:=by decide
set_option maxHeartbeats 1000000 in
theorem yG (w:World) (t:oE w):
  Calls Tryz.prog 33 #[] w λe h=>∃ c,e=.returned c/\aN w.heap.size h c fb/\Below w.heap.size w h:=by
 have l:Hid (∀ X,Calls Tryz.prog 63 #[.string uL] (w.alloc X) λe h=>∃ c,e=.returned (.tuple #[c,.int .i64 0])/\aN (w.heap.size+1) h c fb/\Below (w.alloc X).heap.size (w.alloc X) h):=by
  intro X
  obtain⟨x,y⟩:=t.later ((Below.refl _ _).alloc (Nat.le_refl _) X)
  have:=l7 uL sF 4 yK (mA (by decide)) CH x _ y
  refine this.mono λe h ⟨c,r,k,z⟩=>⟨c,r,?_,z⟩
  rw[World.size_alloc] at k
  exact k
 have A:∀ X,Below w.heap.size w (w.alloc X):=λX=>(Below.refl _ _).alloc (Nat.le_refl _) _
 go_enter Tryz.func33,Tryz.ntmps33
 go_wp2_with (first | (go_at_call 63;go_must (refine Calls.mono (l.out _) ?_;rintro e d ⟨c,rfl,s,f⟩;have m:Hid (aN (w.heap.size+1) d c fb):=s;obtain⟨G,rfl,B,C⟩:=s.at;obtain⟨i,a,rfl,_,_,_⟩:=C;have j:=f.size;have n:=(f.block w.heap.size (by simp)).trans (MapKept.heap_alloc w _).1;have b:∀ X,(d.alloc X).heap[w.heap.size]?=some (.cells #[.slice none 0 0,.int .i64 0] 30 (0,0)):=λX=>(Below.heap_alloc _ _ _ (by simp at j;omega)).trans n;have H:∀ X,(d.alloc X).cell? ⟨w.heap.size,0,none⟩=some (.slice none 0 0):=λX=>(ah (b X)).1;have I:∀ X,(d.alloc X).cell? ⟨w.heap.size,1,none⟩=some (.int .i64 0):=λX=>(ah (b X)).2.1;have J:∀ X,(d.alloc X).frozen? ⟨w.heap.size,0,none⟩=false:=λX=>(ah (b X)).2.2.1;have K:∀ X,(d.alloc X).frozen? ⟨w.heap.size,1,none⟩=false:=λX=>(ah (b X)).2.2.2)))
 have o:Below w.heap.size w (((d.alloc (.cells #[.slice i fb.1.length a,.int .i64 fb.2] 30)).setCell ⟨w.heap.size,0,none⟩ (.slice i fb.1.length a)).setCell ⟨w.heap.size,1,none⟩ (.int .i64 fb.2)):=(((((A _).trans (f.mono (by simp))).alloc (by simp at j;omega) _).setCell (p:=⟨w.heap.size,0,none⟩) (Nat.le_refl _) _).setCell (p:=⟨w.heap.size,1,none⟩) (Nat.le_refl _) _)
 have q:=ch (u:=.int .i64 fb.2) (cG (u:=.slice i fb.1.length a) (b (.cells #[.slice i fb.1.length a,.int .i64 fb.2] 30)))
 obtain⟨L,M,_,_⟩:=ah q
 refine bodyPost_ret (v:=.agg #[.slice i fb.1.length a,.int .i64 fb.2]) ?_ rfl ⟨_,rfl,λD E F=>m.out D (λg r k=>(E g (by omega) (by simp;omega)).trans ?_) (Nat.le_trans (by simp) F),o⟩
 ·rw[bJ rfl]
  go_simp
 ·rw[Below.heap_setCell _ _ _ _ (by show g≠w.heap.size;omega),Below.heap_setCell _ _ _ _ (by show g≠w.heap.size;omega),Below.heap_alloc _ _ _ k]
end Go.Proofs.YtnpdhopjpjickaaGreatDoor
end
