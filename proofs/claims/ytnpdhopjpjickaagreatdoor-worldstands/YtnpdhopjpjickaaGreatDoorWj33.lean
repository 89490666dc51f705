/- Joined: Mee6 Jn2 NtDa. -/
import Derived.Test.YtnpdhopjpjickaaGreatDoorWj01
import Derived.Test.YtnpdhopjpjickaaGreatDoorWj21
import Derived.Lib.SlBuf
import Derived.Laws.CopyRow
import Derived.Laws.MakeOwn
import Derived.Test.YtnpdhopjpjickaaGreatDoorWj23
import Derived.Test.YtnpdhopjpjickaaGreatDoorWj32
section
set_option linter.all false
set_option maxRecDepth 100000
namespace Go.Proofs.YtnpdhopjpjickaaGreatDoor
open Go.RowKit Go.Maps
theorem wu (n:Nat) (f:n<=4294967281) (w:World):(Instr.makeSlice 28 (.int .i64 n) (.int .i64 n)).run Tryz.prog w=.ok (.slice (some ⟨w.heap.size,0,none⟩) n n) (w.alloc (.cells (madeCells #[.slice none 0 0,.int .i64 0] (n*2)) 142)):=by
 obtain⟨a,b,c,d,e⟩:=pl
 have:=run_make (P:=Tryz.prog) w 28 142 a _ Tryz.underlying28 b c .i64 .i64 n n (by omega) (Int.le_refl _) (by rw[e];omega) (by omega)
 rw[d] at this
 simpa [Value.cells] using this
theorem xH (n:Nat) (f:n<=4294967281) (w:World):(Instr.makeSlice 140 (.int .i64 n) (.int .i64 n)).run Tryz.prog w=.ok (.slice (some ⟨w.heap.size,0,none⟩) n n) (w.alloc (.cells (madeCells #[.int .i64 0,.int .i64 0,.int .i64 0] (n*3)) 145)):=by
 obtain⟨a,b,c,d,e⟩:=qM
 have:=run_make (P:=Tryz.prog) w 140 145 a _ Tryz.underlying140 b c .i64 .i64 n n (by omega) (Int.le_refl _) (by rw[e];omega) (by omega)
 rw[d] at this
 simpa [Value.cells] using this
theorem rZ (B g:Nat) (sv:Value) (cs:List aB) (d:Array Value) (w:World) (h:bB B w sv cs) (x:w.heap[g]?=some (.cells d 145 (0,0))) (n:d.size=cs.length*3):
  ∃ v,(∀ y,(Builtin.copy_ #[140,140] y #[.slice (some ⟨g,0,none⟩) cs.length cs.length,sv]).run Tryz.prog w=.ok (.int .i64 cs.length) v)/\v.heap[g]?=some (.cells (aU cs).toArray 145 (0,0))/\Below g w v/\∀ b,b≠g->v.heap[b]?=w.heap[b]?:=by
 obtain⟨F,p,G,z,H⟩:=qM
 obtain⟨a,I,rfl,J,K,f⟩:=h
 have q:Nat.min cs.length cs.length=cs.length:=Nat.min_self _
 cases a with
 | none=>
  have L:cs=[]:=by
   cases cs with
   | nil=>rfl
   | cons r l=>obtain⟨b,o,e,_⟩:=f 0 r rfl;cases e
  subst L
  have A:d=#[]:=Array.eq_empty_of_size_eq_zero (by simpa using n)
  refine⟨w,λy=>?_,by rw[x,A];rfl,Below.refl _ _,λ_ _=>rfl⟩
  simp[Builtin.copy_,run_underlying Tryz.underlying140,Builtin.lenOf,sizeOf,typeInfo,p,Builtin.firstCells,storeCells,goInt]
 | some D=>
  have m:∀ j u,(aU cs)[j]?=some u->w.cell? (D.add j)=some u:=by
   cases cs with
   | nil=>intro j u C;simp[aU] at C
   | cons r l=>
    obtain⟨b,o,e,_,_⟩:=f 0 r rfl
    cases e
    intro j u C
    rw[dL]
    refine jJ (o:=o) (r :: l) o (λi c n=>?_) j u C
    obtain⟨N,O,e,_,k⟩:=f i c n
    cases e
    exact k
  have E:=run_loadCells_list (P:=Tryz.prog) w D (aU cs) m
  rw[dH] at E
  have s:=run_storeCells_at Tryz.prog g 0 145 (aU cs) 0 d w x (by rw[dH,n];omega) (ky cs)
  have t:(d.toList.take (0+0)++aU cs++d.toList.drop (0+0+(aU cs).length)).toArray=(aU cs).toArray:=by
   rw[dH,List.drop_of_length_le (by simp[n])]
   simp
  rw[t] at s
  refine⟨w.setRow g (aU cs).toArray,λy=>?_,setRow_heap w g _ _ _ _ x,⟨rfl,rfl,rfl,by simp[World.setRow],λk Q=>setRow_other w g k _ (by omega)⟩,λb M=>setRow_other w g b _ M⟩
  simp[Builtin.copy_,run_underlying Tryz.underlying140,Builtin.lenOf,Builtin.firstCells,sizeOf,typeInfo,p,z,q,E,s,goInt]
def nK (L G n:Nat) (c:List ai) (w:World):Prop:=
 ∃ b a,w.heap[G]?=some (.cells (b++a).toArray 142 (0,0))/\b.length+a.length=n*2/\rH L w b c
theorem nK.cell {L G n:Nat} {c:List ai} {w:World} (h:nK L G n c w) (j:Nat) (e:j<n*2):∃ u,w.cell? ⟨G,j,none⟩=some u/\w.frozen? ⟨G,j,none⟩=false:=by
 obtain⟨d,a,b,f,g⟩:=h
 exact⟨(d++a)[j]'(by simp;omega),ab b j (by simp),by simp[World.frozen?,b]⟩
theorem nK.later {L G n:Nat} {b:List ai} {w w':World} (h:nK L G n b w) (c:Below w.heap.size w w'):nK L G n b w':=by
 obtain⟨e,a,d,f,g⟩:=h
 exact⟨e,a,(c.block G (lt_of_block d)).trans d,f,g.keep (dT.of_below c)⟩
theorem nK.put {L G n:Nat} {b:List ai} {w:World} {cv:Value} {r:ai} (h:nK L G n b w) (y:b.length<n) (q:wf r.2) (s:∀ c∈r.1,wf c.1/\wf c.2.1/\wf c.2.2) (t:w.ownsRow L 145 3 cv r.1.length (aU r.1)):
  nK L G n (b++[r]) ((w.setCell ⟨G,b.length*2,none⟩ cv).setCell ⟨G,b.length*2+1,none⟩ (.int .i64 r.2)):=by
 obtain⟨v,d,l,e,m⟩:=h
 have k:=m.1
 obtain⟨i,j,a,rfl⟩:∃ i j a,d=i :: j :: a:=by
  match d,e with
  | [],e=>simp at e;omega
  | [u],e=>simp at e;omega
  | i :: j :: a,_=>exact⟨i,j,a,rfl⟩
 have p:=an (o:=b.length*2) (u:=cv) l
 have x:=an (o:=b.length*2+1) (u:=.int .i64 r.2) p
 have f:dT 145 w (w.setCell ⟨G,b.length*2,none⟩ cv):=dT.setOther l (by decide)
 have g:dT 145 (w.setCell ⟨G,b.length*2,none⟩ cv) ((w.setCell ⟨G,b.length*2,none⟩ cv).setCell ⟨G,b.length*2+1,none⟩ (.int .i64 r.2)):=dT.setOther p (by decide)
 refine⟨v++[cv,.int .i64 r.2],a,?_,by simp at e |-;omega,((m.keep f).keep g).snoc q s (ex (ex t f) g)⟩
 rw[x]
 congr 2
 rw[<-k]
 apply Array.ext'
 simp[List.set_append]
theorem nK.done {L G n:Nat} {a:List ai} {w:World} {d:Int} (h:nK L G n a w) (b:a.length=n) (g:L<=G) (i:n<=maxLen) (j:wf d):aN L w (.agg #[.slice (some ⟨G,0,none⟩) n n,.int .i64 d]) (a,d):=by
 obtain⟨k,e,l,p,f⟩:=h
 have c:=f.1
 have o:w.ownsRow L 142 2 (.slice (some ⟨G,0,none⟩) n n) a.length k:=by
  refine⟨c,.inr ⟨G,n,_,by rw[b],g,l,by omega,i,by simp;omega,?_⟩⟩
  simp
  rw[List.take_left' (by omega)]
 have:=sC (m:=n) (d:=d) o f (by omega) j
 rw[<-b,List.take_length] at this
 rw[<-b]
 exact this
set_option maxHeartbeats 8000000 in
theorem mC (B:Nat) (pv:Value) (p:ap) (w:World) (hp:bG B w pv p) (hB:B<=w.heap.size) (hn:p.1.length<=1000) (a4:∀ r∈p.1,r.1.length<=1000):
  Calls Tryz.prog 110 #[pv] w λe w'=>∃ v,e=.returned v/\aN w.heap.size w' v p/\Below w.heap.size w w':=by
 obtain⟨m,d⟩:=p
 obtain⟨rv,e1,hd,a6⟩:=hp
 have a7:Hid (∀ w',Below w.heap.size w w'->be B w' rv m):=λw' h=>a6.later h hB
 have b7:=hid a4
 have Hd:=hid hd
 obtain⟨a,c,e3,-,-,-⟩:=a6
 simp only at e1 e3 hn
 subst e3 e1
 clear hd a4
 obtain⟨n,K⟩:∃ n,n=m.length:=⟨_,rfl⟩
 have HN:=hid K.symm
 rw[<-K] at hn a7 |-
 clear K
 have cl:=ag
 have j:=λw=>wu n (by omega) w
 obtain⟨M,N⟩:∃ M,M=madeCells #[.slice none 0 0,.int .i64 0] (n*2):=⟨_,rfl⟩
 rw[<-N] at j
 have O:∀ w,(Instr.makeSlice 28 (.int .i64 n) (.int .i64 n)).run Tryz.prog w=.ok (.slice (some ⟨w.heap.size,0,none⟩) n n) (w.alloc (.cells M 142)):=j
 have G:M.size=n*2:=by rw[N,size_madeCells]
 clear j N
 obtain⟨s,o⟩:∃ s,s=((w.alloc (.cells #[.slice a n c,.int .i64 d] 30)).alloc (.cells #[.slice none 0 0,.int .i64 0] 30)).alloc (.cells M 142):=⟨_,rfl⟩
 have cn:s.heap.size=w.heap.size+1+1+1:=by rw[o];simp
 have P:Below w.heap.size w s:=by rw[o];exact (((Below.refl _ _).alloc (Nat.le_refl _) _).alloc (by simp) _).alloc (by simp;omega) _
 have g0:s.heap[w.heap.size]?=some (.cells #[.slice a n c,.int .i64 d] 30 (0,0)):=by
  rw[o]
  exact bM _ (bM _ (bE _ _ rfl))
 have g1:s.heap[w.heap.size+1]?=some (.cells #[.slice none 0 0,.int .i64 0] 30 (0,0)):=by
  rw[o]
  exact bM _ (bE _ _ (by simp only[World.size_alloc]))
 have g2:s.heap[w.heap.size+1+1]?=some (.cells M 142 (0,0)):=by
  rw[o]
  exact bE _ _ (by simp only[World.size_alloc])
 have a8:Hid (nK (w.heap.size+1+1) (w.heap.size+1+1) n (m.take 0) s):=⟨[],M.toList,by simpa using g2,by simpa using G,rfl,λu hu=>(by cases hu),λi r hr=>by simp at hr⟩
 have b9:Hid (∀ v,Below (w.heap.size+1+1) s v->v.heap[w.heap.size]?=some (.cells #[.slice a n c,.int .i64 d] 30 (0,0))/\v.heap[w.heap.size+1]?=some (.cells #[.slice none 0 0,.int .i64 0] 30 (0,0))/\Below w.heap.size w v):=λv h=>⟨(h.block _ (by omega)).trans g0,(h.block _ (by omega)).trans g1,P.trans (h.mono (by omega))⟩
 have z0:=ab g0 0 rfl
 have HW:=hid o
 clear o g0 g1 g2 G
 go_enter Tryz.func110,Tryz.ntmps110
 go_wp2_with fail
 rw[<-HW.out]
 clear z0 O
 go_loopw [14] (λiv wr=>∃ k:Nat,k<=n/\iv=.int .i64 k/\Hid (nK (w.heap.size+1+1) (w.heap.size+1+1) n (m.take k) wr)/\Hid (Below (w.heap.size+1+1) s wr)) (λiv _=>n-(intOf iv).toNat)
 case atStart=>exact⟨0,by omega,rfl,a8,Below.refl _ _⟩
 case round=>
  obtain⟨k,hk,rfl,HC,y⟩:=hrel
  obtain⟨f,bb⟩:∃ x,x=wr:=⟨_,rfl⟩
  subst bb
  have k0:(0:Int)<=(k:Int):=by omega
  obtain⟨gp,gr,D⟩:=b9.out _ y.out
  have cT:w.heap.size+1+1+1<=f.heap.size:=by have:=y.out.size;omega
  by_cases d0:k<n
  ·have k1:(k:Int)<(n:Int):=by omega
   obtain⟨r,E⟩:∃ r,m[k]?=some r:=⟨m[k]'(by rw[HN.out];omega),by simp⟩
   have bc:Hid (m.take (k+1)=m.take k++[r]):=by unfold Hid;rw[List.take_succ,E];rfl
   have ac:Hid ((m.take k).length=k):=by unfold Hid;rw[List.length_take,HN.out];omega
   have H:=b7.out r (List.mem_of_getElem? E)
   obtain⟨_,_,e1,-,-,ad⟩:=a7.out _ D
   obtain⟨b3,o3,e,c7,bd⟩:=ad k r E
   simp at e1
   obtain⟨rfl,-,-⟩:=e1
   subst e
   clear ad E
   obtain⟨b,Q⟩:=r
   obtain⟨cv,q0,q1,ao,F⟩:=bd
   simp only[] at H
   have bf:=hid F.wfs
   obtain⟨R,l⟩:∃ R,R=(f.alloc (.cells #[cv,.int .i64 Q] 142)).alloc (.cells (madeCells #[.int .i64 0,.int .i64 0,.int .i64 0] (b.length*3)) 145):=⟨_,rfl⟩
   have bg:R.heap.size=f.heap.size+1+1:=by rw[l];simp
   have S:Below f.heap.size f R:=by rw[l];exact ((Below.refl _ _).alloc (Nat.le_refl _) _).alloc (by simp) _
   have g5:R.heap[f.heap.size]?=some (.cells #[cv,.int .i64 Q] 142 (0,0)):=by
    rw[l]
    exact bM _ (bE _ _ rfl)
   have c5:R.heap[f.heap.size+1]?=some (.cells (madeCells #[.int .i64 0,.int .i64 0,.int .i64 0] (b.length*3)) 145 (0,0)):=by
    rw[l]
    exact bE _ _ (by simp only[World.size_alloc])
   obtain⟨I,z,c6,T,U⟩:=rZ B (f.heap.size+1) cv b _ R (F.later S (by omega)) c5 (by rw[size_madeCells])
   have V:I.heap[f.heap.size]?=some (.cells #[cv,.int .i64 Q] 142 (0,0)):=(U _ (by omega)).trans g5
   have av:I.heap.size=f.heap.size+1+1:=by
    have h1:=T.size
    have h2:I.heap[f.heap.size+1+1]?=none:=by
     rw[U _ (by omega)]
     exact Array.getElem?_eq_none (by omega)
    have:=Array.getElem?_eq_none_iff.1 h2
    omega
   have A:Below f.heap.size f I:=S.trans (T.mono (by omega))
   have W:Hid (nK (w.heap.size+1+1) (w.heap.size+1+1) n (m.take k) I):=HC.out.later A
   have X:Hid (I.ownsRow (w.heap.size+1+1) 145 3 (.slice (some ⟨f.heap.size+1,0,none⟩) b.length b.length) b.length (aU b)):=⟨by rw[dH],.inr ⟨f.heap.size+1,b.length,_,rfl,by omega,c6,Nat.le_refl _,by rw[ag];omega,by simp[dH],by rw[List.take_of_length_le (by simp[dH])]⟩⟩
   obtain⟨C,q⟩:∃ C,C=I.setCell ⟨f.heap.size,0,none⟩ (.slice (some ⟨f.heap.size+1,0,none⟩) b.length b.length):=⟨_,rfl⟩
   have Y:Below f.heap.size f C:=by rw[q];exact A.setCell (p:=⟨f.heap.size,0,none⟩) (Nat.le_refl _) _
   have g7:C.heap[f.heap.size]?=some (.cells #[.slice (some ⟨f.heap.size+1,0,none⟩) b.length b.length,.int .i64 Q] 142 (0,0)):=by rw[q,an V];rfl
   have d5:C.heap.size=f.heap.size+1+1:=by rw[q];simpa using av
   have Z:Hid (C.ownsRow (w.heap.size+1+1) 145 3 (.slice (some ⟨f.heap.size+1,0,none⟩) b.length b.length) b.length (aU b)):=by
    unfold Hid
    rw[q]
    exact ex X.out (dT.setOther V (by decide))
   have b0:Hid (nK (w.heap.size+1+1) (w.heap.size+1+1) n (m.take k) C):=HC.out.later Y
   have b1:Hid (Below (w.heap.size+1+1) s C):=Below.thenOf y.out Y (by omega)
   obtain⟨a9,c9,bk,-,-⟩:=F.full
   subst bk
   have bm:=hid ao
   simp only[] at q0 q1
   have j:=λw=>xH b.length (by omega) w
   obtain⟨t,a0⟩:∃ t,t=b.length:=⟨_,rfl⟩
   have b2:=hid a0.symm
   obtain⟨mk,J⟩:∃ mk,mk=madeCells #[.int .i64 0,.int .i64 0,.int .i64 0] (b.length*3):=⟨_,rfl⟩
   rw[<-J] at j l
   rw[<-a0] at j H q0 l z X Z g5 V g7 q
   have O:∀ w,(Instr.makeSlice 140 (.int .i64 t) (.int .i64 t)).run Tryz.prog w=.ok (.slice (some ⟨w.heap.size,0,none⟩) t t) (w.alloc (.cells mk 145)):=j
   have bo:=hid l
   have bp:=hid q
   have y0:=ab V 0 rfl
   have y1:=ab V 1 rfl
   have yf:I.frozen? ⟨f.heap.size,0,none⟩=false:=by simp[World.frozen?,V]
   have s0:=ab g5 0 rfl
   obtain⟨u0,v0,w0⟩:=W.out.cell (k*2) (by omega)
   obtain⟨u1,v1,w1⟩:=W.out.cell (k*2+1) (by omega)
   have bq:Hid (nK (w.heap.size+1+1) (w.heap.size+1+1) n (m.take (k+1)) ((C.setCell ⟨w.heap.size+1+1,k*2,none⟩ (.slice (some ⟨f.heap.size+1,0,none⟩) t t)).setCell ⟨w.heap.size+1+1,k*2+1,none⟩ (.int .i64 Q))/\Below (w.heap.size+1+1) s ((C.setCell ⟨w.heap.size+1+1,k*2,none⟩ (.slice (some ⟨f.heap.size+1,0,none⟩) t t)).setCell ⟨w.heap.size+1+1,k*2+1,none⟩ (.int .i64 Q))):=by
    refine⟨?_,(b1.out.setCell (p:=⟨w.heap.size+1+1,k*2,none⟩) (Nat.le_refl _) _).setCell (p:=⟨w.heap.size+1+1,k*2+1,none⟩) (Nat.le_refl _) _⟩
    have:=b0.out.put (cv:=.slice (some ⟨f.heap.size+1,0,none⟩) t t) (r:=(b,Q)) (by rw[ac.out];omega) bm.out bf.out (by rw[b2.out];exact b2.out▸Z.out)
    rw[ac.out] at this
    rw[bc.out]
    exact this
   clear bg S g5 c5 c6 T U V av A W X Z q Y g7 b0 b1 l J j a0 F ao gp gr HC y D P
   have b4:Hid _:=z
   clear z
   go_wp2_with fail
   rw[<-bo.out,b4.out]
   clear O s0
   go_wp2_with fail
   have hN:=bq.out
   rw[bp.out] at hN
   exact⟨⟨k+1,by omega,by go_num,hN.1,hN.2⟩,by simp[intOf];omega⟩
  ·have e:k=n:=by omega
   subst e
   have HE:Hid (m.take k=m):=by unfold Hid;rw[<-HN.out,List.take_length]
   rw[HE.out] at HC
   have bs:Hid (aN (w.heap.size+1+1) f (.agg #[.slice (some ⟨w.heap.size+1+1,0,none⟩) k k,.int .i64 d]) (m,d)):=HC.out.done HN.out (Nat.le_refl _) (by omega) Hd.out
   have k1:¬((k:Int)<(k:Int)):=by omega
   have p0:=ab gp 0 rfl
   have p1:=ab gp 1 rfl
   have pf:f.frozen? ⟨w.heap.size,0,none⟩=false:=by simp[World.frozen?,gp]
   have r0:=ab gr 0 rfl
   have r1:=ab gr 1 rfl
   have f0:f.frozen? ⟨w.heap.size+1,0,none⟩=false:=by simp[World.frozen?,gr]
   have f1:f.frozen? ⟨w.heap.size+1,1,none⟩=false:=by simp[World.frozen?,gr]
   have bv:=hid D
   clear gp gr D HC y a8 P
   go_wp2_with fail
   refine bodyPost_ret (v:=.agg #[.slice (some ⟨w.heap.size+1+1,0,none⟩) k k,.int .i64 d]) ?_ rfl ⟨_,rfl,?_,?_⟩
   ·rw[bJ rfl]
    go_simp
   ·refine aN.keep (L:=w.heap.size+1+1) ?_ (by omega) (λg _ _=>rfl) (Nat.le_refl _)
    repeat (first | exact bs.out | refine aN.put ?_ (.inl (by omega)))
   ·repeat (first | exact bv.out | refine Below.setCell ?_ (by simp) _)
end Go.Proofs.YtnpdhopjpjickaaGreatDoor
end
section
set_option linter.all false
set_option maxRecDepth 100000
namespace Go.Proofs.YtnpdhopjpjickaaGreatDoor
open Go.RowKit Go.Maps
theorem oL (s:ByteArray):eP s.data.toList=s:=by cases s;simp[eP]
set_option maxHeartbeats 8000000 in
theorem Ci (C c n:Nat) (a:ByteArray) (r:List ByteArray) (w:World) (g:∀ (j:Nat) x,(a :: r)[j]?=some x->w.cell? ⟨C,j,none⟩=some (.string x)) (V:C<w.heap.size) (hn:n=2\/n=3) (D:r.length+1=n) (bs:n<=c) (a8:qF (a :: r) n<=10000000000) (a9:a.data.toList≠[]):
  Calls Tryz.prog 165 #[.slice (some ⟨C,0,none⟩) n c,.string ⟨#[32]⟩] w λe b=>e=.returned (.string (eP (dM a.data.toList r r.length)))/\Below w.heap.size w b:=by
 have HC:=hid g
 have HL:Hid (∀ k,qF (a :: r) k<=10000000000):=by
  intro k
  have W:=BK (a :: r) k
  rw[show (a :: r).length=n from D] at W
  omega
 have HJ:Hid (∀ k,(dM a.data.toList r k).length<=20000000000):=by
  intro k
  have W:=B7 a r k
  rw[D] at W
  omega
 have aa:=hid a9
 have ac:Hid (w.cell? ⟨C,0,none⟩=some (.string a)):=g 0 a rfl
 have HG:∀ k:Nat,k<n->∃ x,(a :: r)[k]?=some x:=λk hk=>⟨(a :: r)[k]'(by simpa [D] using hk),by simp⟩
 have ad:=hid HG
 have ak:Hid (∀ k:Nat,k+1<n->∃ y,r[k]?=some y):=λk hk=>⟨r[k]'(by omega),by simp⟩
 have ao:=hid D
 clear g a8 a9 HG D
 rcases hn with rfl | rfl
 ·go_enter Tryz.func165,Tryz.ntmps165
  go_wp2_with fail
  go_loop [5,41] (λnv q=>∃ k:Nat,k<=2/\q=.int .i64 k/\nv=.int .i64 ((1+qF (a :: r) k:Nat):Int)) (λ_ q=>2-(intOf q).toNat)
  case atStart=>exact⟨0,Nat.zero_le _,rfl,by simp[qF]⟩
  case round=>
   obtain⟨k,hk,rfl,rfl⟩:=hrel
   by_cases X:k<2
   ·obtain⟨x,Y⟩:=ad.out k X
    have hc:=HC.out k x Y
    have f:=xM Y
    have h:=HL.out (k+1)
    generalize E:qF (a :: r) (k+1)=A1 at f h
    generalize qF (a :: r) k=A0 at f
    have Z:=hid E
    clear E Y
    go_wp2
    exact⟨⟨k+1,by omega,by go_num,by rw[Z.out];refine congrArg _ ?_;omega⟩,by simp[intOf];omega⟩
   ·have s:k=2:=by omega
    subst s
    have hT:=HL.out 2
    generalize qF (a :: r) 2=T at hT
    go_wp2_with fail
    have F:((1:Int)+(T:Int))=((1+T:Nat):Int):=by omega
    first | rw[F] | skip
    have G:Hid _:=xN w.heap.size w.heap.size (1+T) (w.alloc (.cells #[.pointer none,.slice none 0 0] 235)) (Nat.le_refl _) ((MapKept.heap_alloc w _).1) (by simp) (by omega)
    have H:Hid (Below w.heap.size w (w.alloc (.cells #[.pointer none,.slice none 0 0] 235))):=(Below.refl w.heap.size w).alloc (Nat.le_refl _) _
    clear F hT
    go_at_call 198
    refine Calls.mono G.out ?_
    rintro e l ⟨rfl,W,I⟩
    have d:Below w.heap.size w l:=H.out.trans I
    have a0:l.cell? ⟨C,0,none⟩=some (.string a):=(d.cell (p:=⟨C,0,none⟩) V).trans ac.out
    have H1:Hid (cC w.heap.size w.heap.size (Lib.byteCells []) l):=Or.inr W
    have a1:=hid d
    have J:w.heap.size<=l.heap.size:=d.size
    have K:Hid (Calls Tryz.prog 195 #[.pointer (some ⟨w.heap.size,0,none⟩),.string a] l λe b=>(∃ n:Int,e=.returned (.tuple #[.int .i64 n,.nilIface]))/\cC w.heap.size w.heap.size (Lib.byteCells ([]++a.data.toList)) b/\Below w.heap.size l b/\fV w.heap.size l b):=by
     have:=gy w.heap.size w.heap.size [] a.data.toList l H1.out (by have:=HJ.out 0;unfold dM at this;simp at this |-;omega) J
     rw[oL] at this
     exact this
    clear W I d G H
    go_wp2_with fail
    go_at_call 195
    refine Calls.mono K.out ?_
    rintro e w2 ⟨⟨m,rfl⟩,h2,L,-⟩
    have H2:Hid (cC w.heap.size w.heap.size (Lib.byteCells (dM a.data.toList r 0)) w2):=by
     unfold Hid dM
     simpa using h2
    have a2:Hid (Below w.heap.size w w2):=a1.out.trans L
    clear h2 L K a0 J
    go_wp2_with fail
    go_loopw [65] (λq wr=>∃ k:Nat,k<=1/\q=.int .i64 k/\Hid (cC w.heap.size w.heap.size (Lib.byteCells (dM a.data.toList r k)) wr)/\Hid (Below w.heap.size w wr)) (λq _=>1-(intOf q).toNat)
    case atStart=>exact⟨0,Nat.zero_le _,rfl,H2,a2⟩
    case round=>
     obtain⟨k,bd,rfl,HB,i⟩:=hrel
     obtain⟨t,a3⟩:∃ x,x=wr:=⟨_,rfl⟩
     subst a3
     by_cases bf:k<1
     ·obtain⟨y,hy⟩:=ak.out k (by omega)
      have bg:t.cell? ⟨C,1+k,none⟩=some (.string y):=by
       rw[i.out.cell (p:=⟨C,1+k,none⟩) V,show 1+k=k+1 by omega]
       exact HC.out (k+1) y (by simpa using hy)
      have M:w.heap.size<=t.heap.size:=i.out.size
      have u:=HJ.out (k+1)
      have v:Hid (dM a.data.toList r (k+1)=(dM a.data.toList r k++[32])++y.data.toList):=qQ hy
      rw[v.out] at u
      simp only[List.length_append,List.length_cons,List.length_nil] at u
      have N:Hid (Calls Tryz.prog 195 #[.pointer (some ⟨w.heap.size,0,none⟩),.string ⟨#[32]⟩] t λe b=>(∃ n:Int,e=.returned (.tuple #[.int .i64 n,.nilIface]))/\cC w.heap.size w.heap.size (Lib.byteCells (dM a.data.toList r k++[32])) b/\Below w.heap.size t b/\fV w.heap.size t b):=gy w.heap.size w.heap.size (dM a.data.toList r k) [32] t HB.out (by simp;omega) M
      have O:Hid (∀ b,w.heap.size<=b.heap.size->cC w.heap.size w.heap.size (Lib.byteCells (dM a.data.toList r k++[32])) b->Calls Tryz.prog 195 #[.pointer (some ⟨w.heap.size,0,none⟩),.string y] b λe z=>(∃ n:Int,e=.returned (.tuple #[.int .i64 n,.nilIface]))/\cC w.heap.size w.heap.size (Lib.byteCells (dM a.data.toList r (k+1))) z/\Below w.heap.size b z/\fV w.heap.size b z):=λb hs hi=>by
       have:=gy w.heap.size w.heap.size (dM a.data.toList r k++[32]) y.data.toList b hi (by rw[List.length_append,List.length_cons,List.length_nil];omega) hs
       rw[oL,<-v.out] at this
       exact this
      clear u hy v
      go_wp2_with fail
      go_at_call 195
      refine Calls.mono N.out ?_
      rintro e w3 ⟨⟨m3,rfl⟩,h3,A,-⟩
      have P:w.heap.size<=w3.heap.size:=Nat.le_trans M A.size
      have o:Hid _:=O.out w3 P h3
      have a5:=hid A
      clear h3 A N O
      go_wp2_with fail
      go_at_call 195
      refine Calls.mono o.out ?_
      rintro e w4 ⟨⟨m4,rfl⟩,h4,Q,-⟩
      have H4:=hid h4
      have a6:Hid (Below w.heap.size w w4):=(i.out.trans a5.out).trans Q
      clear h4 Q o
      go_wp2
      exact⟨⟨k+1,by omega,by go_num,H4,a6⟩,by simp[intOf];omega⟩
     ·have s:k=1:=by omega
      have R:r.length=1:=by have:=ao.out;omega
      subst s
      have B:=HB.out
      rw[<-R] at B
      have S:Hid _:=Tryz.Builder_String w.heap.size w.heap.size (dM a.data.toList r r.length) t B (λe=>by unfold dM at e;exact aa.out (List.append_eq_nil_iff.1 e).1)
      clear B R
      go_wp2_with fail
      go_at_call 197
      refine Calls.mono S.out ?_
      rintro e w5 ⟨rfl,U⟩
      have a7:Hid (Below w.heap.size w w5):=i.out.trans U
      clear U S
      go_wp2
      go_ret
      exact⟨rfl,a7.out⟩
 ·go_enter Tryz.func165,Tryz.ntmps165
  go_wp2_with fail
  go_loop [5,41] (λnv q=>∃ k:Nat,k<=3/\q=.int .i64 k/\nv=.int .i64 ((2+qF (a :: r) k:Nat):Int)) (λ_ q=>3-(intOf q).toNat)
  case atStart=>exact⟨0,Nat.zero_le _,rfl,by simp[qF]⟩
  case round=>
   obtain⟨k,hk,rfl,rfl⟩:=hrel
   by_cases X:k<3
   ·obtain⟨x,Y⟩:=ad.out k X
    have hc:=HC.out k x Y
    have f:=xM Y
    have h:=HL.out (k+1)
    generalize E:qF (a :: r) (k+1)=A1 at f h
    generalize qF (a :: r) k=A0 at f
    have Z:=hid E
    clear E Y
    go_wp2
    exact⟨⟨k+1,by omega,by go_num,by rw[Z.out];refine congrArg _ ?_;omega⟩,by simp[intOf];omega⟩
   ·have s:k=3:=by omega
    subst s
    have hT:=HL.out 3
    generalize qF (a :: r) 3=T at hT
    go_wp2_with fail
    have F:((2:Int)+(T:Int))=((2+T:Nat):Int):=by omega
    first | rw[F] | skip
    have G:Hid _:=xN w.heap.size w.heap.size (2+T) (w.alloc (.cells #[.pointer none,.slice none 0 0] 235)) (Nat.le_refl _) ((MapKept.heap_alloc w _).1) (by simp) (by omega)
    have H:Hid (Below w.heap.size w (w.alloc (.cells #[.pointer none,.slice none 0 0] 235))):=(Below.refl w.heap.size w).alloc (Nat.le_refl _) _
    clear F hT
    go_at_call 198
    refine Calls.mono G.out ?_
    rintro e l ⟨rfl,W,I⟩
    have d:Below w.heap.size w l:=H.out.trans I
    have a0:l.cell? ⟨C,0,none⟩=some (.string a):=(d.cell (p:=⟨C,0,none⟩) V).trans ac.out
    have H1:Hid (cC w.heap.size w.heap.size (Lib.byteCells []) l):=Or.inr W
    have a1:=hid d
    have J:w.heap.size<=l.heap.size:=d.size
    have K:Hid (Calls Tryz.prog 195 #[.pointer (some ⟨w.heap.size,0,none⟩),.string a] l λe b=>(∃ n:Int,e=.returned (.tuple #[.int .i64 n,.nilIface]))/\cC w.heap.size w.heap.size (Lib.byteCells ([]++a.data.toList)) b/\Below w.heap.size l b/\fV w.heap.size l b):=by
     have:=gy w.heap.size w.heap.size [] a.data.toList l H1.out (by have:=HJ.out 0;unfold dM at this;simp at this |-;omega) J
     rw[oL] at this
     exact this
    clear W I d G H
    go_wp2_with fail
    go_at_call 195
    refine Calls.mono K.out ?_
    rintro e w2 ⟨⟨m,rfl⟩,h2,L,-⟩
    have H2:Hid (cC w.heap.size w.heap.size (Lib.byteCells (dM a.data.toList r 0)) w2):=by
     unfold Hid dM
     simpa using h2
    have a2:Hid (Below w.heap.size w w2):=a1.out.trans L
    clear h2 L K a0 J
    go_wp2_with fail
    go_loopw [65] (λq wr=>∃ k:Nat,k<=2/\q=.int .i64 k/\Hid (cC w.heap.size w.heap.size (Lib.byteCells (dM a.data.toList r k)) wr)/\Hid (Below w.heap.size w wr)) (λq _=>2-(intOf q).toNat)
    case atStart=>exact⟨0,Nat.zero_le _,rfl,H2,a2⟩
    case round=>
     obtain⟨k,bd,rfl,HB,i⟩:=hrel
     obtain⟨t,a3⟩:∃ x,x=wr:=⟨_,rfl⟩
     subst a3
     by_cases bf:k<2
     ·obtain⟨y,hy⟩:=ak.out k (by omega)
      have bg:t.cell? ⟨C,1+k,none⟩=some (.string y):=by
       rw[i.out.cell (p:=⟨C,1+k,none⟩) V,show 1+k=k+1 by omega]
       exact HC.out (k+1) y (by simpa using hy)
      have M:w.heap.size<=t.heap.size:=i.out.size
      have u:=HJ.out (k+1)
      have v:Hid (dM a.data.toList r (k+1)=(dM a.data.toList r k++[32])++y.data.toList):=qQ hy
      rw[v.out] at u
      simp only[List.length_append,List.length_cons,List.length_nil] at u
      have N:Hid (Calls Tryz.prog 195 #[.pointer (some ⟨w.heap.size,0,none⟩),.string ⟨#[32]⟩] t λe b=>(∃ n:Int,e=.returned (.tuple #[.int .i64 n,.nilIface]))/\cC w.heap.size w.heap.size (Lib.byteCells (dM a.data.toList r k++[32])) b/\Below w.heap.size t b/\fV w.heap.size t b):=gy w.heap.size w.heap.size (dM a.data.toList r k) [32] t HB.out (by simp;omega) M
      have O:Hid (∀ b,w.heap.size<=b.heap.size->cC w.heap.size w.heap.size (Lib.byteCells (dM a.data.toList r k++[32])) b->Calls Tryz.prog 195 #[.pointer (some ⟨w.heap.size,0,none⟩),.string y] b λe z=>(∃ n:Int,e=.returned (.tuple #[.int .i64 n,.nilIface]))/\cC w.heap.size w.heap.size (Lib.byteCells (dM a.data.toList r (k+1))) z/\Below w.heap.size b z/\fV w.heap.size b z):=λb hs hi=>by
       have:=gy w.heap.size w.heap.size (dM a.data.toList r k++[32]) y.data.toList b hi (by rw[List.length_append,List.length_cons,List.length_nil];omega) hs
       rw[oL,<-v.out] at this
       exact this
      clear u hy v
      go_wp2_with fail
      go_at_call 195
      refine Calls.mono N.out ?_
      rintro e w3 ⟨⟨m3,rfl⟩,h3,A,-⟩
      have P:w.heap.size<=w3.heap.size:=Nat.le_trans M A.size
      have o:Hid _:=O.out w3 P h3
      have a5:=hid A
      clear h3 A N O
      go_wp2_with fail
      go_at_call 195
      refine Calls.mono o.out ?_
      rintro e w4 ⟨⟨m4,rfl⟩,h4,Q,-⟩
      have H4:=hid h4
      have a6:Hid (Below w.heap.size w w4):=(i.out.trans a5.out).trans Q
      clear h4 Q o
      go_wp2
      exact⟨⟨k+1,by omega,by go_num,H4,a6⟩,by simp[intOf];omega⟩
     ·have s:k=2:=by omega
      have R:r.length=2:=by have:=ao.out;omega
      subst s
      have B:=HB.out
      rw[<-R] at B
      have S:Hid _:=Tryz.Builder_String w.heap.size w.heap.size (dM a.data.toList r r.length) t B (λe=>by unfold dM at e;exact aa.out (List.append_eq_nil_iff.1 e).1)
      clear B R
      go_wp2_with fail
      go_at_call 197
      refine Calls.mono S.out ?_
      rintro e w5 ⟨rfl,U⟩
      have a7:Hid (Below w.heap.size w w5):=i.out.trans U
      clear U S
      go_wp2
      go_ret
      exact⟨rfl,a7.out⟩
end Go.Proofs.YtnpdhopjpjickaaGreatDoor
end
section
set_option linter.all false
set_option maxRecDepth 100000
namespace Go.Proofs.YtnpdhopjpjickaaGreatDoor
open Go.RowKit Go.Maps
set_option maxHeartbeats 4000000 in
theorem zd (s:ByteArray) (M:s.size<=60000) (w:World) (he:dX w) (V:bI kN ((ar s.data.toList).getD 0 [])=3) (U:(ar s.data.toList).length=2):jZ s w:=by
 have W:Hid (∀ a,Below w.heap.size w a->dX a):=λa h=>he.later h
 clear he
 obtain⟨I,i,X,Y,J,N⟩:=iX s M
 have HM:=hid i
 have O:=hid J
 obtain⟨K,y⟩:∃ u,I[0]?=some u:=⟨I[0]'(by omega),by simp⟩
 have Z:K.size<=60000:=J K (List.mem_of_getElem? y)
 have P:(ar s.data.toList).getD 0 []=K.data.toList:=by
  rw[<-i,List.getD_eq_getElem?_getD,List.getElem?_map,y]
  rfl
 have f:(ar s.data.toList).length=I.length:=by rw[<-i];simp
 obtain⟨x,z⟩:∃ x,x=w.alloc (.cells #[.int .i64 0,.int .i64 0,.int .i64 0,.slice none 0 0,.int .i64 0] 78):=⟨_,rfl⟩
 have g0:x.heap[w.heap.size]?=some (.cells #[.int .i64 0,.int .i64 0,.int .i64 0,.slice none 0 0,.int .i64 0] 78 (0,0)):=by rw[z];exact af _ _
 have A:Below w.heap.size w x:=by rw[z];exact (Below.refl _ _).alloc (Nat.le_refl _) _
 have HG:Hid (∀ a,Below x.heap.size x a->a.heap[w.heap.size]?=some (.cells #[.int .i64 0,.int .i64 0,.int .i64 0,.slice none 0 0,.int .i64 0] 78 (0,0))/\Below w.heap.size w a):=λa h=>⟨(h.block _ (lt_of_block g0)).trans g0,Below.thenOf A h A.size⟩
 obtain⟨mm,hm⟩:=(W.out x A).1
 have l:Hid _:=N mm x hm
 have HW:=hid z
 clear z g0 A N hm i J
 rw[f] at U
 obtain⟨m,B⟩:∃ u,I[1]?=some u:=⟨I[1]'(by omega),by simp⟩
 have a2:m.size<=60000:=O.out m (List.mem_of_getElem? B)
 have Q:(ar s.data.toList).getD 1 []=m.data.toList:=by
  rw[<-HM.out,List.getD_eq_getElem?_getD,List.getElem?_map,B]
  rfl
 have F:Hid (eh s.data.toList=match cS m.data.toList with | none=>(cr,1) | some c=>((4,c,0,[],0),0)):=by
  unfold Hid eh
  rw[V,f,U,Q,if_neg (by omega)]
  cases cS m.data.toList<;>rfl
 have a3:Hid (∀ a,Calls Tryz.prog 182 #[.string K] a λe o=>e=.returned (.tuple #[.int .i64 4,.bool true])/\Below a.heap.size a o):=λa=>by
  have:=gM K a
  rw[<-P,V] at this
  exact this
 have a4:Hid (∀ a,Calls Tryz.prog 183 #[.int .i64 4] a λe o=>e=.returned (.int .i64 2)/\o=a):=λa=>oG a
 have a5:Hid (∀ a,Below w.heap.size w a->Calls Tryz.prog 184 #[.string m] a λe o=>∃ n ok,e=.returned (.tuple #[.int .i64 n,.bool ok])/\(cS m.data.toList=if ok=true then some n else none)/\wf n/\Below a.heap.size a o):=λa h=>gX m (by omega) a (W.out a h)
 have HU:Hid (I[0]?=some K/\I[1]?=some m):=⟨y,B⟩
 rw[U] at l
 clear P f y Z B a2 Q  V U X Y O HM W
 go_enter Tryz.func148,Tryz.ntmps148
 go_wp2_with fail
 rw[<-HW.out]
 go_at_call 117
 refine Calls.mono l.out ?_
 rintro e w1 ⟨SB,b1,rfl,b2,b3,R,S,G,g⟩
 have x0:=g 0 K HU.out.1
 have HX:Hid (∀ a,Below w1.heap.size w1 a->a.cell? ⟨SB,1,none⟩=some (.string m)):=λa h=>(h.cell (p:=⟨SB,1,none⟩) G).trans (g 1 m HU.out.2)
 have T:=hid R
 clear g l HW S R
 go_wp2_with fail
 go_at_call 182
 refine Calls.mono (a3.out _) ?_
 rintro e w2 ⟨rfl,q⟩
 have b5:=hid q
 have x1:=HX.out w2 q
 have a7:SB<w2.heap.size:=Nat.lt_of_lt_of_le G q.size
 have L:Hid (Below x.heap.size x w2):=Below.thenOf T.out q T.out.size
 clear q x0
 go_wp2_with fail
 go_at_call 183
 refine Calls.mono (a4.out _) ?_
 rintro e w3 ⟨rfl,rfl⟩
 go_wp2_with fail
 go_at_call 184
 refine Calls.mono (a5.out _ (HG.out _ L.out).2) ?_
 rintro e k ⟨n,ok,rfl,j,H,C⟩
 have D:=Below.thenOf L.out C L.out.size
 have b7:SB<k.heap.size:=Nat.lt_of_lt_of_le a7 C.size
 clear HX x1
 cases ok with
 | false=>
  have b:Hid (eh s.data.toList=(cr,1)):=by unfold Hid;rw[F.out,j];rfl
  have r:=D
  clear j C D
  obtain⟨d,t⟩:=HG.out k r
  have lb:=lt_of_block d
  obtain⟨z0,z1,z2,z3,z4⟩:=bw d
  have f0:k.frozen? ⟨w.heap.size,0,none⟩=false:=by simp[World.frozen?,d]
  have f1:k.frozen? ⟨w.heap.size,1,none⟩=false:=by simp[World.frozen?,d]
  have f2:k.frozen? ⟨w.heap.size,2,none⟩=false:=by simp[World.frozen?,d]
  have f3:k.frozen? ⟨w.heap.size,3,none⟩=false:=by simp[World.frozen?,d]
  have f4:k.frozen? ⟨w.heap.size,4,none⟩=false:=by simp[World.frozen?,d]
  have E:=hid t
  clear d t r
  go_wp2_with fail
  refine bodyPost_ret (v:=.tuple #[.agg #[.int .i64 0,.int .i64 0,.int .i64 0,.slice none 0 0,.int .i64 0],.int .i64 1]) ?_ rfl ⟨_,by rw[b.out],by rw[b.out];exact dO _ _,?_⟩
  ·rw[results_cell_tmp rfl]
   go_simp
  ·exact (((((E.out.setCell (p:=⟨w.heap.size,0,none⟩) (Nat.le_refl _) _).setCell (p:=⟨w.heap.size,1,none⟩) (Nat.le_refl _) _).setCell (p:=⟨w.heap.size,2,none⟩) (Nat.le_refl _) _).setCell (p:=⟨w.heap.size,3,none⟩) (Nat.le_refl _) _).setCell (p:=⟨w.heap.size,4,none⟩) (Nat.le_refl _) _)
 | true=>
  have b:Hid (eh s.data.toList=((4,n,0,[],0),0)):=by unfold Hid;rw[F.out,j];rfl
  have a8:=hid H
  have r:=D
  clear j C D H
  obtain⟨d,t⟩:=HG.out k r
  have lb:=lt_of_block d
  obtain⟨z0,z1,z2,z3,z4⟩:=bw d
  have f0:k.frozen? ⟨w.heap.size,0,none⟩=false:=by simp[World.frozen?,d]
  have f1:k.frozen? ⟨w.heap.size,1,none⟩=false:=by simp[World.frozen?,d]
  have f2:k.frozen? ⟨w.heap.size,2,none⟩=false:=by simp[World.frozen?,d]
  have f3:k.frozen? ⟨w.heap.size,3,none⟩=false:=by simp[World.frozen?,d]
  have f4:k.frozen? ⟨w.heap.size,4,none⟩=false:=by simp[World.frozen?,d]
  have E:=hid t
  clear d t r
  go_wp2_with fail
  refine bodyPost_ret (v:=.tuple #[.agg #[.int .i64 4,.int .i64 n,.int .i64 0,.slice none 0 0,.int .i64 0],.int .i64 0]) ?_ rfl ⟨_,by rw[b.out],by rw[b.out];exact λwF _ _=>⟨_,rfl,(by unfold wf;decide:wf (4:Int)),a8.out,(by unfold wf;decide:wf (0:Int)),dU _ _⟩,?_⟩
  ·rw[results_cell_tmp rfl]
   go_simp
  ·exact (((((E.out.setCell (p:=⟨w.heap.size,0,none⟩) (Nat.le_refl _) _).setCell (p:=⟨w.heap.size,1,none⟩) (Nat.le_refl _) _).setCell (p:=⟨w.heap.size,2,none⟩) (Nat.le_refl _) _).setCell (p:=⟨w.heap.size,3,none⟩) (Nat.le_refl _) _).setCell (p:=⟨w.heap.size,4,none⟩) (Nat.le_refl _) _).alloc (by simp;exact E.out.size) _
end Go.Proofs.YtnpdhopjpjickaaGreatDoor
end
