import Derived.Test.YtnpdhopjpjickaaGreatDoorWj12
set_option linter.all false
set_option maxRecDepth 100000
namespace Go.Proofs.YtnpdhopjpjickaaGreatDoor
open Go.RowKit Go.Maps
def ir (a:Bool) (b ss:List ai):List ai:=b.flatMap λr=>ss.map (fL a r)
theorem pu (a:Bool) (ss:List ai):∀ b:List ai,(ir a b ss).length=b.length*ss.length
 | []=>by simp[ir]
 | r :: b=>by
  have c:=pu a ss b
  unfold ir at c |-
  rw[List.flatMap_cons,List.length_append,c,List.length_map,List.length_cons,Nat.add_mul]
  omega
theorem z8 (a:Bool) (b ss:List ai) (i:Nat) (r:ai) (h:b[i]?=some r):ir a (b.take (i+1)) ss=ir a (b.take i) ss++ss.map (fL a r):=by
 unfold ir
 rw[List.take_succ,h]
 simp
theorem rH.base {L f:Nat} {w:World} {xs:List Value} {g:List ai} (h:rH L w xs g) (j:f<=L):rH f w xs g:=by
 obtain⟨k,l,m⟩:=h
 refine⟨k,l,λi r n=>?_⟩
 obtain⟨o,a,b,c,d,e⟩:=m i r n
 exact⟨o,a,b,c,d,cK e j⟩
theorem rW {P:Program} (ρ:Operand->Value) (o:Oper) (k x:Operand) (ts:Array TypeId) (F:Nat) (u:Value) (w:World) (kf:o.op=.call { callee:=.value k,args:=#[x],argTypes:=ts }) (a:ρ k=.func (.func F) #[] #[]) (b:ρ x=u) (c:(callFunc F #[u]).run P w=.ok (.enter F #[u]) w):(execOp ρ o).run P w=.ok (.enter F #[u]) w:=by
 unfold execOp
 simp[kf,resolve,a,b,Deferred.ofValue,invoke,c]
set_option maxHeartbeats 16000000 in
theorem xY (m:Bool) (F:Nat) (hF:∀ a b w,Calls Tryz.prog F #[.agg #[.int .i64 a,.int .i64 b]] w λe d=>e=.returned (.int .i64 (p8 m a b))/\Below w.heap.size w d)
  (hC:∀ bf d,(callFunc F bf).run Tryz.prog d=.ok (.enter F bf) d) (B:Nat) (v0 v1:Value) (E ss:List ai) (w:World) (h0:be B w v0 E) (h1:be B w v1 ss) (hB:B<=w.heap.size) (hA:E.length<=121) (el:ss.length<=121) (I:∀ r∈E,r.1.length<=10) (J:∀ r∈ss,r.1.length<=10):
  Calls Tryz.prog 264 #[.agg #[v0,v1],.func (.func F) #[] #[]] w λe d=>∃ v,e=.returned v/\∃ xs,d.ownsRow w.heap.size 142 2 v (ir m E ss).length xs/\rH w.heap.size d xs (ir m E ss)/\Below w.heap.size w d:=by
 have em:Hid _:=hF
 have en:Hid _:=hC
 clear hF hC
 have HR:Hid (∀ d,Below w.heap.size w d->be B d v0 E):=λd h=>h0.later h hB
 have HS:Hid (∀ d,Below w.heap.size w d->be B d v1 ss):=λd h=>h1.later h hB
 have cn:Hid _:=I
 have co:Hid _:=J
 clear I J
 obtain⟨a0,c0,e0,hl,cp,-⟩:=h0
 obtain⟨a1,c1,e1,hm,cs,-⟩:=h1
 subst e0 e1
 have er:=ag
 rw[er] at cp cs
 generalize cx:E.length=n0 at*
 generalize cT:ss.length=n1 at*
 have d0:Hid (E.length=n0):=cx
 have bs:Hid (ss.length=n1):=cT
 clear cx cT
 obtain⟨W1,W⟩:∃ W1,W1=w.alloc (.cells #[.slice a0 n0 c0,.slice a1 n1 c1] 313):=⟨_,rfl⟩
 have hH:W1.heap.size=w.heap.size+1:=by rw[W];simp
 have es:Below w.heap.size w W1:=by rw[W];exact (Below.refl _ _).alloc (Nat.le_refl _) _
 have g1:W1.heap[w.heap.size]?=some (.cells #[.slice a0 n0 c0,.slice a1 n1 c1] 313 (0,0)):=by rw[W];exact af _ _
 have et:Hid (W1=_):=W
 clear W
 have d1:Hid (∀ v,Below (w.heap.size+1) W1 v->v.cell? ⟨w.heap.size,1,none⟩=some (.slice a1 n1 c1)/\Below w.heap.size w v):=λv h=>⟨ab ((h.block _ (by omega)).trans g1) 1 rfl,es.trans (h.mono (by omega))⟩
 clear g1
 go_enter Tryz.func264,Tryz.ntmps264
 go_wp2_with fail
 rw[<-et.out]
 go_loopw [5,13] (λrv iv wr=>∃ (i:Nat) (xs:List Value),i<=n0/\iv=.int .i64 i/\Hid (wr.ownsRow (w.heap.size+1) 142 2 rv (ir m (E.take i) ss).length xs)/\Hid (rH (w.heap.size+1) wr xs (ir m (E.take i) ss))/\Hid (Below (w.heap.size+1) W1 wr)) (λ_ iv _=>n0-(intOf iv).toNat)
 case atStart=>exact⟨0,[],by omega,rfl,⟨rfl,.inl ⟨rfl,rfl⟩⟩,⟨rfl,λu hu=>(by cases hu),λi r hr=>(by simp[ir] at hr)⟩,Below.refl _ _⟩
 case round=>
  obtain⟨i,xs,hi,rfl,HO,HX,b1⟩:=hrel
  obtain⟨t,eF⟩:∃ x,x=wr:=⟨_,rfl⟩
  subst eF
  have i0:(0:Int)<=(i:Int):=by omega
  obtain⟨eN,bv⟩:=d1.out t b1.out
  have d3:w.heap.size+1<=t.heap.size:=by have:=b1.out.size;omega
  by_cases hL:i<n0
  ·have i1:(i:Int)<(n0:Int):=by omega
   obtain⟨r,b2⟩:∃ r,E[i]?=some r:=⟨E[i]'(by rw[d0.out];omega),by simp⟩
   have HP:Hid (ir m (E.take (i+1)) ss=ir m (E.take i) ss++ss.map (fL m r)):=z8 m E ss i r b2
   have I:=cn.out r (List.mem_of_getElem? b2)
   obtain⟨_,_,e1,-,-,X⟩:=HR.out _ bv
   obtain⟨b3,o3,e,hq,bx⟩:=X i r b2
   simp at e1
   obtain⟨rfl,-,-⟩:=e1
   subst e
   clear X b2
   obtain⟨f,y⟩:=r
   obtain⟨cv,q0,q1,Y,G⟩:=bx
   have d6:Hid (∀ d,Below (w.heap.size+1) t d->bB B d cv f):=λd h=>G.later h (by omega)
   have eV:Hid (∀ c∈f,wf c.1/\wf c.2.1/\wf c.2.2):=G.wfs
   obtain⟨Z,p,c3,-,-⟩:=G.full
   subst c3
   have f0:Hid (wf y):=Y
   have da:Hid (f.length<=10):=I
   clear G Y I
   obtain⟨O,c4⟩:∃ O,O=f.length:=⟨_,rfl⟩
   have hO:Hid (f.length=O):=c4.symm
   rw[<-c4] at q0 d6
   clear c4
   simp only[] at q0 q1
   have dc:Hid ((ir m (E.take i) ss).length<=14641):=by
    unfold Hid
    rw[pu,bs.out,List.length_take]
    exact Nat.le_trans (Nat.mul_le_mul (Nat.le_trans (Nat.min_le_left i E.length) (by omega:i<=121)) el) (by decide)
   obtain⟨D0,dd⟩:∃ D0,D0=ir m (E.take i) ss:=⟨_,rfl⟩
   rw[<-dd] at dc HO HX HP
   clear dd
   obtain⟨W2,b6⟩:∃ W2,W2=t.alloc (.cells #[.slice Z O p,.int .i64 y] 142):=⟨_,rfl⟩
   have a2:Below t.heap.size t W2:=by rw[b6];exact (Below.refl _ _).alloc (Nat.le_refl _) _
   have fa:Hid (W2.heap[t.heap.size]?=some (.cells #[.slice Z O p,.int .i64 y] 142 (0,0))):=by rw[b6];exact af _ _
   have fc:Hid (W2.ownsRow (w.heap.size+1) 142 2 u5 D0.length xs):=au HO.out a2
   have fd:Hid (rH (w.heap.size+1) W2 xs D0):=HX.out.keep (dT.of_below a2)
   have fe:Hid (Below (w.heap.size+1) W1 W2):=Below.thenOf b1.out a2 d3
   have fi:Hid (u5.ownBlock≠some t.heap.size):=λe=>by
    obtain⟨a3,U⟩:=dh HO.out _ e
    have:=lt_of_block U
    omega
   have fl:Hid (Below t.heap.size t W2):=a2
   have fn:Hid (W2=_):=b6
   clear b6 a2 HO HX b1
   have hs:w.heap.size<t.heap.size:=by omega
   go_wp2_with fail
   rw[<-fn.out]
   clear q0 q1 eN
   go_loopw [5,20] (λrv jv wr=>∃ (j:Nat) (ys:List Value),j<=n1/\jv=.int .i64 j/\Hid (wr.ownsRow (w.heap.size+1) 142 2 rv (D0++(ss.take j).map (fL m (f,y))).length ys)/\Hid (rH (w.heap.size+1) wr ys (D0++(ss.take j).map (fL m (f,y))))/\Hid (Below (w.heap.size+1) W1 wr)/\Hid (wr.heap[t.heap.size]?=some (.cells #[.slice Z O p,.int .i64 y] 142 (0,0)))/\Hid (rv.ownBlock≠some t.heap.size)/\Hid (Below (w.heap.size+1) t wr)) (λ_ jv _=>n1-(intOf jv).toNat)
   case atStart=>exact⟨0,xs,by omega,rfl,by simpa using fc,by simpa using fd,fe,fa,fi,fl.out.mono d3⟩
   case round=>
    obtain⟨j,ys,hj,rfl,K,a4,b7,de,c5,bk⟩:=hrel
    obtain⟨L,fq⟩:∃ x,x=wr:=⟨_,rfl⟩
    subst fq
    have j0:(0:Int)<=(j:Int):=by omega
    obtain⟨-,bm⟩:=d1.out L b7.out
    have fv:w.heap.size+1<=L.heap.size:=by have:=b7.out.size;omega
    have di:t.heap.size<L.heap.size:=lt_of_block de.out
    by_cases hP:j<n1
    ·have j1:(j:Int)<(n1:Int):=by omega
     obtain⟨s,b8⟩:∃ s,ss[j]?=some s:=⟨ss[j]'(by rw[bs.out];omega),by simp⟩
     have c6:Hid (D0++(ss.take (j+1)).map (fL m (f,y))=(D0++(ss.take j).map (fL m (f,y)))++[fL m (f,y) s]):=by
      unfold Hid
      rw[List.take_succ,b8]
      simp
     have J:=co.out s (List.mem_of_getElem? b8)
     obtain⟨_,_,e1,-,-,X⟩:=HS.out _ bm
     obtain⟨b4,o4,e,ht,bx⟩:=X j s b8
     simp at e1
     obtain⟨rfl,-,-⟩:=e1
     subst e
     clear X b8
     obtain⟨n,V⟩:=s
     obtain⟨cv,q0,q1,Y,G⟩:=bx
     have c8:Hid (∀ d,Below (w.heap.size+1) L d->bB B d cv n):=λd h=>G.later h (by omega)
     have dk:Hid (∀ c∈n,wf c.1/\wf c.2.1/\wf c.2.2):=G.wfs
     obtain⟨sa,A,c3,-,-⟩:=G.full
     subst c3
     have dl:Hid (wf V):=Y
     have dn:Hid (n.length<=10):=J
     clear G Y J
     obtain⟨sl,ca⟩:∃ sl,sl=n.length:=⟨_,rfl⟩
     have hS:Hid (n.length=sl):=ca.symm
     rw[<-ca] at q0 c8
     clear ca
     simp only[] at q0 q1
     have cb:Hid ((D0++(ss.take j).map (fL m (f,y))).length<=20000):=by
      unfold Hid
      have:=dc.out
      rw[List.length_append,List.length_map,List.length_take]
      omega
     obtain⟨D1,dp⟩:∃ D1,D1=D0++(ss.take j).map (fL m (f,y)):=⟨_,rfl⟩
     rw[<-dp] at cb K a4 c6
     clear dp
     obtain⟨H,l,ev,fx,hV,-⟩:=ax K.out
     subst ev
     obtain⟨N,hN⟩:∃ N,N=D1.length:=⟨_,rfl⟩
     have HN:Hid (D1.length=N):=hN.symm
     rw[<-hN] at K cb c5 fx |-
     clear hN
     obtain⟨q,a5⟩:∃ q,q=L.alloc (.cells #[.slice sa sl A,.int .i64 V] 142):=⟨_,rfl⟩
     have a6:Below L.heap.size L q:=by rw[a5];exact (Below.refl _ _).alloc (Nat.le_refl _) _
     have cc:q.heap[L.heap.size]?=some (.cells #[.slice sa sl A,.int .i64 V] 142 (0,0)):=by rw[a5];exact af _ _
     have Q:q.heap[t.heap.size]?=some (.cells #[.slice Z O p,.int .i64 y] 142 (0,0)):=(a6.block _ di).trans de.out
     have g0:q.heap.size=L.heap.size+1:=by rw[a5];simp
     have cd:∀ k,(Value.slice H N l).ownBlock=some k->k<L.heap.size:=λk hk=>by
      obtain⟨a3,U⟩:=dh K.out k hk
      exact lt_of_block U
     have b9:some t.heap.size≠(Value.slice H N l).ownBlock:=λe=>c5.out e.symm
     have ce:some L.heap.size≠(Value.slice H N l).ownBlock:=λe=>by have:=cd _ e.symm;omega
     have cf:Hid (q.ownsRow (w.heap.size+1) 142 2 (.slice H N l) N ys):=au K.out a6
     have g2:Hid (rH (w.heap.size+1) q ys D1):=a4.out.keep (dT.of_below a6)
     have a8:∀ {b:Nat} {a3:Array Value} {T:TypeId} {fr:Nat × Nat},q.heap[b]?=some (.cells a3 T fr)->T≠142->some b≠(Value.slice H N l).ownBlock:=by
      intro b a3 T fr hb hT e
      obtain⟨hv,U⟩:=dh cf.out b e.symm
      rw[hb] at U
      cases U
      exact hT rfl
     have g3:Hid (∀ d,q.grownBy d (Value.slice H N l).ownBlock->dT 145 q d):=λd h k a3 fr hk=>(h.block k (lt_of_block hk) (a8 hk (by decide))).trans hk
     have bp:Hid (∀ d,q.grownBy d (Value.slice H N l).ownBlock->Below (w.heap.size+1) L d):=λd h=>(a6.mono fv).grown h (by omega) λk hk=>eS cf.out k hk
     have g4:Hid (∀ d,q.grownBy d (Value.slice H N l).ownBlock->d.heap[t.heap.size]?=some (.cells #[.slice Z O p,.int .i64 y] 142 (0,0))):=λd h=>(h.block _ (lt_of_block Q) b9).trans Q
     have q5:∀ z:CV q (Value.slice H N l).ownBlock,z.1.cell? ⟨t.heap.size,0,none⟩=some (.slice Z O p):=λz=>z.cell Q b9 rfl
     have q6:∀ z:CV q (Value.slice H N l).ownBlock,z.1.cell? ⟨t.heap.size,1,none⟩=some (.int .i64 y):=λz=>z.cell Q b9 rfl
     have q7:∀ z:CV q (Value.slice H N l).ownBlock,z.1.cell? ⟨L.heap.size,0,none⟩=some (.slice sa sl A):=λz=>z.cell cc ce rfl
     have q8:∀ z:CV q (Value.slice H N l).ownBlock,z.1.cell? ⟨L.heap.size,1,none⟩=some (.int .i64 V):=λz=>z.cell cc ce rfl
     have g5:Hid (∀ k,(Value.slice H N l).ownBlock=some k->k<q.heap.size):=λk hk=>by have:=cd k hk;omega
     have dq:Hid (w.heap.size+1<=q.heap.size):=by unfold Hid;omega
     have g7:Hid (t.heap.size<q.heap.size):=lt_of_block Q
     have g8:Hid (∀ g d,(∃ T0 fr,d.heap[g]?=some (.cells #[.slice Z O p,.slice sa sl A] T0 fr))->q.grownBy d (Value.slice H N l).ownBlock->Calls Tryz.prog 160 #[.slice (some ⟨g,0,none⟩) 2 2] d λe bb=>∃ v,e=.returned v/\bb.ownsRow d.heap.size 145 3 v (f++n).length (aU (f++n))/\Below d.heap.size d bb):=by
      rintro g d ⟨T0,fr,hg⟩ R
      have hb:=bp.out d R
      exact x7 B _ _ f n g d (d6.out d (bk.out.trans hb)) (c8.out d hb) (by have:=hb.size;omega) (lt_of_block hg) (ab hg 0 rfl) (ab hg 1 rfl) (by have:=da.out;have:=dn.out;omega)
     have gb:Hid (q=_):=a5
     obtain⟨M,bc⟩:∃ M,M=p8 m y V:=⟨_,rfl⟩
     have gc:Hid (fL m (f,y) (n,V)=(f++n,M)):=by unfold Hid fL;rw[bc]
     have gj:Hid (p8 m y V=M):=bc.symm
     have gk:Hid (wf M):=by unfold Hid;rw[bc];exact Ca f0.out dl.out
     have dr:Hid (∀ c∈f++n,wf c.1/\wf c.2.1/\wf c.2.2):=λc U=>by
      rcases List.mem_append.1 U with U | U
      ·exact eV.out c U
      ·exact dk.out c U
     clear bc a5 a6 cc Q g0 cd b9 ce a8 K a4 bm bv dk dl c8
     go_wp2_with fail
     rw[<-gb.out]
     clear q0 q1
     have bd:=CV.ne q (Value.slice H N l).ownBlock
     have S:Hid (∀ fs d,qg (w.heap.size+1) q (.slice H N l) N ys (.slice Z O p) (.slice sa sl A) (f++n).length (aU (f++n)) M fs d->∃ z:CV q (Value.slice H N l).ownBlock,d=z.1):=λfs d h=>⟨⟨d,h.grown⟩,rfl⟩
     refine bh [_,_,_,_,_,_,_,_,_,_,_,_,_,_,_,_,_] _ rfl (λk=>k==5||k==6||k==13||k==14||k==15||k==16) (qg (w.heap.size+1) q (.slice H N l) N ys (.slice Z O p) (.slice sa sl A) (f++n).length (aU (f++n)) M) (EQ (f++n).length N M) (Cz _ _ _) (by kernel_rfl) (by kernel_rfl) (qg.start cf.out) ?_
     iterate 5 (refine aH S.out rfl rfl ?_;go_big_quiet_step (fail);refine wpQuiet_nil ?_)
     refine bY rfl rfl (λgs d D o C=>⟨.slice (some ⟨d.heap.size,0,none⟩) 2 2,d.alloc (.cells #[.slice Z O p,.slice sa sl A] 140),?_,⟨_,rfl⟩,D.lists _⟩) (λv6 go=>?_)
     ·clear D o C q5 q6 q7 q8 S bd
      go_simp
     simp only[Act.put,List.setIfInBounds_toArray,List.set_cons_succ,List.set_cons_zero]
     obtain⟨g6,rfl⟩:∃ g:Nat,v6=.slice (some ⟨g,0,none⟩) 2 2:=go
     refine bu 160 #[.slice (some ⟨g6,0,none⟩) 2 2] rfl rfl (λd=>by kernel_rfl) (λgs d D o C=>?_) (λv7 gp=>?_)
     ·obtain⟨g,T0,fr,e,i2,gr⟩:=D.lits _ (o 5 _ (.inr ⟨rfl,rfl⟩) (zQ0 (by kernel_rfl)))
      simp at e
      subst e
      refine (g8.out g6 d ⟨T0,fr,gr⟩ D.grown).mono ?_
      rintro e w2 ⟨u,rfl,ho,hb⟩
      obtain⟨a,c,e7,_⟩:=ax ho
      exact⟨_,rfl,⟨a,c,e7⟩,D.joined C hb _ ho⟩
     simp only[Act.put,List.setIfInBounds_toArray,List.set_cons_succ,List.set_cons_zero]
     obtain⟨a7,c7,rfl⟩:∃ a a9,v7=.slice a (f++n).length a9:=gp
     iterate 6 (refine aH S.out rfl rfl ?_;go_big_quiet_step (fail);refine wpQuiet_nil ?_)
     refine bu F #[.agg #[.int .i64 y,.int .i64 V]] rfl rfl (λd=>rW _ _ _ _ _ F _ d rfl rfl rfl (en.out #[.agg #[.int .i64 y,.int .i64 V]] d)) (λgs d D o C=>?_) (λgv dv=>?_)
     ·refine (em.out y V d).mono ?_
      rintro e w2 ⟨rfl,hb⟩
      exact⟨_,rfl,by rw[gj.out];rfl,(D.later hb).other _ _ (by decide) (by decide) (by decide) (by decide) (by decide)⟩
     simp only[Act.put,List.setIfInBounds_toArray,List.set_cons_succ,List.set_cons_zero]
     obtain rfl:gv=.int .i64 M:=dv
     refine bY rfl rfl (λgs d D o C=>⟨.agg #[.slice a7 (f++n).length c7,.int .i64 M],d,?_,⟨_,_,rfl⟩,D.built _ (o 6 _ (.inl (.inr ⟨rfl,rfl⟩)) (zQ0 (by kernel_rfl)))⟩) (λgz e2=>?_)
     ·clear D o C q5 q6 q7 q8 S bd
      go_simp
     simp only[Act.put,List.setIfInBounds_toArray,List.set_cons_succ,List.set_cons_zero]
     obtain⟨gA,gW,rfl⟩:∃ a a9,gz=.agg #[.slice a (f++n).length a9,.int .i64 M]:=e2
     refine bY rfl rfl (λgs d D o C=>⟨.slice (some ⟨d.heap.size,0,none⟩) 1 1,d.alloc (.cells #[.slice gA (f++n).length gW,.int .i64 M] 142),?_,⟨_,rfl⟩,D.rule C _ (o 14 _ (.inr ⟨rfl,rfl⟩) (zQ0 (by kernel_rfl))) _⟩) (λh2 e3=>?_)
     ·clear D o C q5 q6 q7 q8 S bd
      go_simp
     simp only[Act.put,List.setIfInBounds_toArray,List.set_cons_succ,List.set_cons_zero]
     obtain⟨ih,rfl⟩:∃ g:Nat,h2=.slice (some ⟨g,0,none⟩) 1 1:=e3
     refine bY rfl rfl (λgs d D o C=>?_) (λh3 e4=>?_)
     ·obtain⟨v',bb,r1,h4,r3⟩:=D.append C g5.out dq.out _ (o 15 _ (.inr ⟨rfl,rfl⟩) (zQ0 (by kernel_rfl))) (by have:=cb.out;omega) 28
      refine⟨v',bb,?_,h4,r3⟩
      unfold execOp
      simp only[resolve,invoke,builtin,Sem.run_bind,Sem.run_pure,Result.andThen_ok,List.map_toArray,List.map_cons,List.map_nil]
      exact (congrArg (λr=>Result.andThen r λv w=>.ok (Next.value v) w) r1)
     simp only[Act.put,List.setIfInBounds_toArray,List.set_cons_succ,List.set_cons_zero]
     obtain⟨e5,e6,rfl⟩:∃ a a9,h3=.slice a (N+1) a9:=e4
     refine dF ?_
     intro w4 D
     have R:=D.grown
     obtain⟨u7,e8,bq,P⟩:=D.app _ (.inr ⟨rfl,rfl⟩)
     have e9:=D.join u7 e8
     have ea:Hid (w4.ownsRow (w.heap.size+1) 142 2 (.slice e5 (N+1) e6) (D1++[fL m (f,y) (n,V)]).length (ys++[u7,.int .i64 M])/\rH (w.heap.size+1) w4 (ys++[u7,.int .i64 M]) (D1++[fL m (f,y) (n,V)])/\w4.heap[t.heap.size]?=some (.cells #[.slice Z O p,.int .i64 y] 142 (0,0))/\(Value.slice e5 (N+1) e6).ownBlock≠some t.heap.size/\Below (w.heap.size+1) L w4):=by
      refine⟨?_,?_,g4.out w4 R,?_,bp.out w4 R⟩
      ·rw[List.length_append,HN.out];exact bq
      ·rw[gc.out]
       exact (g2.out.keep (g3.out w4 R)).snoc (r:=(f++n,M)) gk.out dr.out (cK e9 dq.out)
      ·rcases P with e | ⟨k,e,hk⟩
       ·rw[e];exact c5.out
       ·rw[e]
        intro e'
        have:=Option.some.inj e'
        have:=g7.out
        omega
     clear D R e8 bq P e9 q5 q6 q7 q8 S bd
     go_wp2_with fail
     obtain⟨f1,f2,f3,f4,f5⟩:=ea.out
     exact⟨⟨j+1,_,by omega,rfl,by rw[c6.out];exact f1,by rw[c6.out];exact f2,b7.out.trans f5,f3,f4,bk.out.trans f5⟩,by simp[intOf];omega⟩
    ·have e:j=n1:=by omega
     subst e
     have HE:Hid (ss.take j=ss):=by unfold Hid;rw[<-bs.out,List.take_length]
     rw[HE.out,<-HP.out] at K a4
     have j1:¬((j:Int)<(j:Int)):=by omega
     go_wp2_with fail
     exact⟨⟨i+1,ys,by omega,rfl,K,a4,b7⟩,by simp[intOf];omega⟩
  ·have e:i=n0:=by omega
   subst e
   have HE:Hid (E.take i=E):=by unfold Hid;rw[<-d0.out,List.take_length]
   rw[HE.out] at HO HX
   have i1:¬((i:Int)<(i:Int)):=by omega
   have h7:Hid (Below w.heap.size w t):=bv
   go_wp2_with fail
   go_ret
   exact⟨_,rfl,xs,cK HO.out (Nat.le_succ _),HX.out.base (Nat.le_succ _),h7.out⟩
end Go.Proofs.YtnpdhopjpjickaaGreatDoor
