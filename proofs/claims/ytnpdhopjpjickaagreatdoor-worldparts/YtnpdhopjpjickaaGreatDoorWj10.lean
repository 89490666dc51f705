/- Joined: RdrR2 RdrP RT PRA PRB0 RdrP2. -/
import Derived.Test.YtnpdhopjpjickaaGreatDoorWj04
import Derived.Test.YtnpdhopjpjickaaGreatDoorWj03
import Derived.Lib.ParseIntB
import Derived.Laws.ResultCell
section
set_option linter.all false
set_option maxRecDepth 100000
namespace Go.Proofs.YtnpdhopjpjickaaGreatDoor
open Go.RowKit Go.Maps
theorem yc (n:Nat) (f:n<=4294967281) (w:World):(Instr.makeSlice 140 (.int .i64 n) (.int .i64 n)).run Tryz.prog w=.ok (.slice (some ⟨w.heap.size,0,none⟩) n n) (w.alloc (.cells (madeCells #[.int .i64 0,.int .i64 0,.int .i64 0] (n*3)) 145)):=by
 obtain⟨a,b,c,d,e⟩:=xp
 have:=run_make (P:=Tryz.prog) w 140 145 a _ Tryz.underlying140 b c .i64 .i64 n n (by omega) (Int.le_refl _) (by rw[e];omega) (by omega)
 rw[d] at this
 simpa [Value.cells] using this
theorem wq {l h:Bs} {t:List Bs} (e:bU 32 l=h :: t):cP l=if bI vN h<0 then none else match dP dg t with
  | none=>none
  | some a=>some (a,bI vN h):=by
 unfold cP
 rw[e]
 rfl
theorem AM (i n G:Nat) (h:i<n) (w:World):(Instr.indexAt 140 (.slice (some ⟨G,0,none⟩) n n) (.int .i64 i)).run Tryz.prog w=.ok (.pointer (some ⟨G,i*3,none⟩)) w:=by
 have a:(i:Int)<(n:Int):=by omega
 have b:(0:Int)<=(i:Int):=by omega
 go_simp
set_option maxHeartbeats 8000000 in
theorem vH (s:ByteArray) (hs:s.size<=4294967280) (w:World) (he:dX w):
  Calls Tryz.prog 228 #[.string s] w λe w'=>∃ cv,e=.returned (.tuple #[.agg #[cv,.int .i64 ((cP s.data.toList).getD ([],0)).2],.bool (cP s.data.toList).isSome])/\cU w.heap.size w' cv ((cP s.data.toList).getD ([],0)).1/\Below w.heap.size w w':=by
 have hb1:∀ X,Below w.heap.size w (w.alloc X):=λX=>(Below.refl _ _).alloc (Nat.le_refl _) _
 obtain⟨ps,hps,hsplit⟩:=ui 32 s hs (w.alloc (.cells #[.slice none 0 0,.int .i64 0] 142)) (he.later (hb1 _)).1
 have hpl:∀ p∈ps,p.size<=4294967280:=by
  intro p hp
  have:=nZ 32 s.data.toList p.data.toList (by rw[<-hps];exact List.mem_map.2 ⟨p,hp,rfl⟩)
  rw[<-Lib.size_eq,<-Lib.size_eq] at this
  omega
 have hcount:ps.length<=s.size+1:=by
  have h1:ps.length=(bU 32 s.data.toList).length:=by rw[<-hps];simp
  rw[h1,<-iM]
  unfold Lib.split
  have:∀ k (l:Bs),(Lib.splitK [32] 0 k l).length<=k+1:=by
   intro k
   induction k with
   | zero=>intro l;simp[Lib.splitK]
   | succ k ih=>
    intro l;unfold Lib.splitK;split
    ·simp
    ·simp;exact ih _
  have h2:=this (Lib.count s.data.toList [32]) s.data.toList
  rw[Lib.count_one] at h2
  have h3:=List.count_le_length (a:=(32:UInt8)) (l:=s.data.toList)
  rw[<-Lib.size_eq] at h3
  rw[Lib.count_one]
  omega
 cases ps with
 | nil=>exact absurd hps.symm (fj 32 _)
 | cons p0 pt=>
  have hR:=wq (l:=s.data.toList) (h:=p0.data.toList) (t:=pt.map (λp:ByteArray=>p.data.toList)) hps.symm
  have HR:Hid (cP s.data.toList=if bI vN p0.data.toList<0 then none else match dP dg (pt.map (λp:ByteArray=>p.data.toList)) with
   | none=>none
   | some cs=>some (cs,bI vN p0.data.toList)):=hR
  have hlenp:(p0 :: pt).length=pt.length+1:=rfl
  rw[hlenp] at hsplit hcount
  have HSp:Hid _:=hsplit
  have HPL:Hid (∀ (j:Nat) (p:ByteArray),pt[j]?=some p->p.size<=4294967280):=λj p hj=>hpl p (by simp[List.mem_of_getElem? hj])
  have HV:Hid (∀ w',Calls Tryz.prog 229 #[.string p0] w' λe w''=>e=.returned (.tuple #[.int .i64 (bI vN p0.data.toList),.bool (decide (0<=bI vN p0.data.toList))])/\Below w'.heap.size w' w''):=λw'=>kZ p0 w'
  have hv0:=kU vN p0.data.toList
  have hv1:bI vN p0.data.toList<5:=mJ vN _
  obtain⟨W1,hW1⟩:∃ W1,W1=(w.alloc (.cells #[.slice none 0 0,.int .i64 0] 142)).alloc (.cells ((p0 :: pt).map Value.string).toArray 9):=⟨_,rfl⟩
  have hbW1:Below w.heap.size w W1:=by rw[hW1];exact (hb1 _).alloc (by simp) _
  have hsW1:W1.heap.size=w.heap.size+2:=by rw[hW1];simp
  have hRb:W1.heap[w.heap.size]?=some (.cells #[.slice none 0 0,.int .i64 0] 142 (0,0)):=by
   rw[hW1,Below.heap_alloc _ _ _ (by simp)]
   exact (MapKept.heap_alloc w _).1
  have hNm:ew (w.heap.size+1) ((p0 :: pt).map Value.string).toArray W1:=by
   have:=ew.made (w.alloc (.cells #[.slice none 0 0,.int .i64 0] 142)) ((p0 :: pt).map Value.string).toArray 9
   rw[World.size_alloc] at this
   rw[hW1]
   exact this
  have hc0:W1.cell? ⟨w.heap.size+1,0,none⟩=some (.string p0):=hNm 0 _ (by simp)
  have HW:Hid (∀ w',Below (w.heap.size+2) W1 w'->w'.heap[w.heap.size]?=some (.cells #[.slice none 0 0,.int .i64 0] 142 (0,0))/\(∀ (j:Nat) (p:ByteArray),pt[j]?=some p->w'.cell? ⟨w.heap.size+1,j+1,none⟩=some (.string p))/\Below w.heap.size w w'):=λw' h=>
   ⟨(h.block _ (by omega)).trans hRb,λj p hj=>(h.cell (p:=⟨w.heap.size+1,j+1,none⟩) (by show w.heap.size+1<_;omega)).trans (hNm (j+1) _ (by simp[hj])),hbW1.trans (h.mono (by omega))⟩
  generalize hvv:bI vN p0.data.toList=vd at*
  clear hvv hR hps hpl hRb hNm
  have hmk0:=yc pt.length (by omega)
  generalize hnn:pt.length=n at*
  have hnH:Hid (pt.length=n):=hnn
  clear hnn
  have hwn:IntKind.i64.wrap (n:Int)=(n:Int):=IntWalk.i64_in _ (by omega)
  have hml:=ag
  obtain⟨mc,hmc⟩:∃ mc,mc=madeCells #[.int .i64 0,.int .i64 0,.int .i64 0] (n*3):=⟨_,rfl⟩
  have hmcs:mc.size=n*3:=by rw[hmc];exact size_madeCells _ _
  rw[<-hmc] at hmk0
  have hmk:∀ w,(Instr.makeSlice 140 (.int .i64 n) (.int .i64 n)).run Tryz.prog w=.ok (.slice (some ⟨w.heap.size,0,none⟩) n n) (w.alloc (.cells mc 145)):=hmk0
  clear hmk0 hmc
  go_enter Tryz.func228,Tryz.ntmps228
  go_wp2_with fail
  go_at_call 96
  refine Calls.mono HSp.out ?_
  rintro e w1 ⟨rfl,hw1⟩
  simp only[World.size_alloc]
  rw[<-hW1] at hw1
  subst hw1
  clear hW1 HSp
  go_wp2_with fail
  go_at_call 229
  refine Calls.mono (HV.out _) ?_
  rintro e w2 ⟨rfl,hb2⟩
  rw[hsW1] at hb2
  have hs2:w.heap.size+2<=w2.heap.size:=by have:=hb2.size;omega
  obtain⟨hRb,hNm,hbw2⟩:=HW.out _ hb2
  by_cases hvn:vd<0
  ·have hN:Hid (cP s.data.toList=none):=by unfold Hid;rw[HR.out,if_pos hvn]
   have hdv:decide (0<=vd)=false:=decide_eq_false (by omega)
   obtain⟨t0,t1,t2,t3⟩:=ah hRb
   have hRb':Hid _:=hRb
   clear hRb hNm hmk
   go_wp2_with fail
   have HRF:=ch (u:=.int .i64 0) (cG (u:=.slice none 0 0) hRb'.out)
   obtain⟨z0,z1,_,_⟩:=ah HRF
   refine bodyPost_ret (v:=.tuple #[.agg #[.slice none 0 0,.int .i64 0],.bool false]) ?_ rfl ⟨.slice none 0 0,by rw[hN.out];rfl,by rw[hN.out];exact cU.nil _ _,(hbw2.setCell (p:=⟨w.heap.size,0,none⟩) (Nat.le_refl _) _).setCell (p:=⟨w.heap.size,1,none⟩) (Nat.le_refl _) _⟩
   rw[results_cell_tmp rfl]
   go_simp
  ·have hdv:decide (0<=vd)=true:=decide_eq_true (by omega)
   have hwfv:Hid (wf vd):=lK (by omega)
   have HR2:Hid (cP s.data.toList=match dP dg (pt.map (λp:ByteArray=>p.data.toList)) with
    | none=>none
    | some cs=>some (cs,vd)):=by unfold Hid;rw[HR.out,if_neg hvn]
   clear HR hRb hNm hvn
   obtain⟨G,hG⟩:∃ G,G=w2.heap.size:=⟨_,rfl⟩
   obtain⟨W4,hW4⟩:∃ W4,W4=(w2.alloc (.cells mc 145)).alloc (.cells #[.slice (some ⟨w2.heap.size,0,none⟩) n n,.int .i64 vd] 142):=⟨_,rfl⟩
   have hb4:Below G w2 W4:=by rw[hG,hW4];exact ((Below.refl _ _).alloc (Nat.le_refl _) _).alloc (by simp) _
   have hs4:W4.heap.size=G+2:=by rw[hG,hW4];simp
   have hG2:w.heap.size+2<=G:=by omega
   have hrow4:W4.heap[G]?=some (.cells mc 145 (0,0)):=by
    rw[hG,hW4,Below.heap_alloc _ _ _ (by simp)]
    exact (MapKept.heap_alloc w2 _).1
   have hbox4:W4.heap[G+1]?=some (.cells #[.slice (some ⟨G,0,none⟩) n n,.int .i64 vd] 142 (0,0)):=by
    have:=(MapKept.heap_alloc (w2.alloc (.cells mc 145)) (.cells #[.slice (some ⟨w2.heap.size,0,none⟩) n n,.int .i64 vd] 142)).1
    rw[World.size_alloc] at this
    rw[hW4,hG]
    exact this
   have HEnd:Hid (∀ (wr:World) (cur:Array Value) (cs:List aB),Below G W4 wr->wr.heap[G]?=some (.cells cur 145 (0,0))->Bq n cs cur->cs.length=n->(∀ c∈cs,wf c.1/\wf c.2.1/\wf c.2.2)->dP dg (pt.map (λp:ByteArray=>p.data.toList))=some cs->
     ∃ cv,(.tuple #[.agg #[.slice (some ⟨G,0,none⟩) n n,.int .i64 vd],.bool true]:Value)=(.tuple #[.agg #[cv,.int .i64 ((cP s.data.toList).getD ([],0)).2],.bool (cP s.data.toList).isSome])/\cU w.heap.size ((wr.setCell ⟨w.heap.size,0,none⟩ (.slice (some ⟨G,0,none⟩) n n)).setCell ⟨w.heap.size,1,none⟩ (.int .i64 vd)) cv ((cP s.data.toList).getD ([],0)).1/\Below w.heap.size w ((wr.setCell ⟨w.heap.size,0,none⟩ (.slice (some ⟨G,0,none⟩) n n)).setCell ⟨w.heap.size,1,none⟩ (.int .i64 vd))):=by
    intro wr cur cs hbr hrow hRC hcl hcw hall
    have hr:cP s.data.toList=some (cs,vd):=by rw[HR2.out,hall]
    rw[hr]
    refine⟨.slice (some ⟨G,0,none⟩) n n,rfl,⟨some ⟨G,0,none⟩,n,by simp[hcl],by simp[hcl],by omega,λi c hc=>⟨G,0,rfl,by omega,?_,?_⟩⟩,?_⟩
    ·have:=lt_of_block hrow
     simp
     exact this
    ·have hi:i<n:=by have:=(List.getElem?_eq_some_iff.1 hc).1;simp at this;omega
     obtain⟨k0,k1,k2⟩:=hRC.2 i c hc
     have hcell:∀ o u,cur[o]?=some u->((wr.setCell ⟨w.heap.size,0,none⟩ (.slice (some ⟨G,0,none⟩) n n)).setCell ⟨w.heap.size,1,none⟩ (.int .i64 vd)).cell? ⟨G,o,none⟩=some u:=by
      intro o u hu
      rw[World.cell?_setCell_other _ _ _ _ (by intro e;cases e;omega),World.cell?_setCell_other _ _ _ _ (by intro e;cases e;omega)]
      simp[World.cell?,hrow,hu]
     rw[Nat.zero_add]
     exact⟨hcell _ _ k0,hcell _ _ k1,hcell _ _ k2,hcw c (List.mem_of_getElem? hc)⟩
    ·exact ((((HW.out w2 hb2).2.2.trans (hb4.mono (by omega))).trans (hbr.mono (by omega))).setCell (p:=⟨w.heap.size,0,none⟩) (Nat.le_refl _) _).setCell (p:=⟨w.heap.size,1,none⟩) (Nat.le_refl _) _
   have HR4:Hid (∀ wr,Below G W4 wr->wr.heap[w.heap.size]?=some (.cells #[.slice none 0 0,.int .i64 0] 142 (0,0))/\(∀ (j:Nat) (p:ByteArray),pt[j]?=some p->wr.cell? ⟨w.heap.size+1,j+1,none⟩=some (.string p))/\Below w.heap.size w wr):=λwr h=>HW.out wr (hb2.trans ((hb4.trans h).mono (by omega)))
   by_cases hn0:n=0
   ·subst hn0
    have hpt:pt=[]:=List.length_eq_zero_iff.1 hnH.out
    have hmk2:∀ w,(Instr.makeSlice 140 (.int .i64 0) (.int .i64 0)).run Tryz.prog w=.ok (.slice (some ⟨w.heap.size,0,none⟩) 0 0) (w.alloc (.cells mc 145)):=hmk
    go_wp2_with fail
    rw[<-hW4,<-hG]
    clear hW4 hG
    go_loop [31] (λi=>i=.int .i64 0) (λ_=>0)
    case atStart=>rfl
    case round=>
     subst hrel
     obtain⟨hRb,_,_⟩:=HR4.out _ (Below.refl _ _)
     obtain⟨t0,t1,t2,t3⟩:=ah hRb
     obtain⟨b0,b1,_,_⟩:=ah hbox4
     have hRb':Hid _:=hRb
     have hE:=HEnd.out W4 mc [] (Below.refl _ _) hrow4 ⟨hmcs,λi c h=>by simp at h⟩ rfl (λc h=>by cases h) (by rw[hpt];rfl)
     have hE':Hid _:=hE
     clear hRb hE hbox4 hrow4
     have hne1:¬(G+1=w.heap.size):=by omega
     have hne2:¬(w.heap.size=G+1):=by omega
     go_wp2_with fail
     have HRF:=ch (u:=.int .i64 vd) (cG (u:=.slice (some ⟨G,0,none⟩) 0 0) hRb'.out)
     obtain⟨z0,z1,_,_⟩:=ah HRF
     obtain⟨cv,e1,e2,e3⟩:=hE'.out
     refine bodyPost_ret (v:=.tuple #[.agg #[.slice (some ⟨G,0,none⟩) 0 0,.int .i64 vd],.bool true]) ?_ rfl ⟨cv,by rw[e1],e2,e3⟩
     rw[results_cell_tmp rfl]
     go_simp
   ·go_wp2_with fail
    rw[<-hW4,<-hG]
    clear hW4 hG
    go_loopw [31] (λiv wr=>∃ (i:Nat) (cs:List aB) (cur:Array Value),i<=n/\iv=.int .i64 i/\cs.length=i/\Hid (dP dg ((pt.map (λp:ByteArray=>p.data.toList)).take i)=some cs)/\Hid (Bq n cs cur)/\Hid (∀ c∈cs,wf c.1/\wf c.2.1/\wf c.2.2)/\Hid (wr.heap[G]?=some (.cells cur 145 (0,0)))/\Hid (wr.heap[G+1]?=some (.cells #[.slice (some ⟨G,0,none⟩) n n,.int .i64 vd] 142 (0,0)))/\Below G W4 wr/\G+2<=wr.heap.size) (λiv _=>n-(intOf iv).toNat)
    case atStart=>exact⟨0,[],mc,by omega,rfl,rfl,rfl,⟨hmcs,λi c h=>by simp at h⟩,(show ∀ c∈([]:List aB),wf c.1/\wf c.2.1/\wf c.2.2 by intro c h;cases h),hrow4,hbox4,Below.refl _ _,by omega⟩
    case round=>
     obtain⟨i,cs,cur,hi,rfl,hcl,hall,hRC,hcw,hrow,hbox,hbr,hsr⟩:=hrel
     obtain⟨wo,hwo⟩:∃ x,x=wr:=⟨_,rfl⟩
     subst hwo
     have i0:(0:Int)<=(i:Int):=by omega
     obtain⟨hRb,hNm,hbw⟩:=HR4.out _ hbr
     by_cases hlt:i<n
     ·have i1:(i:Int)<(n:Int):=by omega
      obtain⟨p,hp⟩:∃ p,pt[i]?=some p:=⟨pt[i]'(by rw[hnH.out];exact hlt),by simp⟩
      have hc1:wo.cell? ⟨w.heap.size+1,1+i,none⟩=some (.string p):=by rw[Nat.add_comm 1 i];exact hNm i p hp
      have hps:=HPL.out i p hp
      have hpm:Hid ((pt.map (λp:ByteArray=>p.data.toList))[i]?=some p.data.toList):=by unfold Hid;simp[hp]
      obtain⟨c,ok,hcv,hok,hco⟩:∃ (c:aB) (ok:Bool),zQ (dg p.data.toList)=.agg #[.int .i64 c.1,.int .i64 c.2.1,.int .i64 c.2.2]/\(dg p.data.toList).isSome=ok/\dg p.data.toList=if ok=true then some c else none:=by
       cases h:dg p.data.toList with
       | none=>exact⟨(0,0,0),false,rfl,rfl,rfl⟩
       | some c=>exact⟨c,true,rfl,rfl,rfl⟩
      have HC:Hid (∀ w',Below w.heap.size w w'->Calls Tryz.prog 238 #[.string p] w' λe w''=>e=.returned (.tuple #[.agg #[.int .i64 c.1,.int .i64 c.2.1,.int .i64 c.2.2],.bool ok])/\Below w'.heap.size w' w''):=λw' hb=>by
       have:=uB p hps w' (he.later hb)
       rw[hcv,hok] at this
       exact this
      have hcoH:Hid _:=hco
      clear hRb hNm hcv hok hco hp
      have hcur:=hRC.out.1
      obtain⟨b0,b1,_,_⟩:=ah hbox.out
      have hn3:i*3+2<cur.size:=by omega
      go_wp2_with fail
      have hne:=tz.ne G wo
      obtain⟨cur',hcur'⟩:∃ cur',cur'=ym cur (i*3) (.int .i64 c.1) (.int .i64 c.2.1) (.int .i64 c.2.2):=⟨_,rfl⟩
      have HC':Hid (cur'=ym cur (i*3) (.int .i64 c.1) (.int .i64 c.2.1) (.int .i64 c.2.2)):=hcur'
      clear hcur'
      have hDJ:Hid (∀ fs w',EE G wo cur cur' 145 fs w'->∃ z:tz G wo,w'=z.1):=λfs w' h=>⟨⟨w',h.2.1⟩,rfl⟩
      have q0:∀ z:tz G wo,z.1.cell? ⟨G+1,0,none⟩=some (.slice (some ⟨G,0,none⟩) n n):=λz=>z.cell b0 (by omega)
      have hia:∀ w,(Instr.indexAt 140 (.slice (some ⟨G,0,none⟩) n n) (.int .i64 i)).run Tryz.prog w=.ok (.pointer (some ⟨G,i*3,none⟩)) w:=λw=>AM i n G hlt w
      refine bh [_,_,_,_,_,_,_,_,_,_] _ rfl (λk=>k==4||k==9) (EE G wo cur cur' 145) (DV (.tuple #[.agg #[.int .i64 c.1,.int .i64 c.2.1,.int .i64 c.2.2],.bool ok])) (AI _) (by kernel_rfl) (by kernel_rfl) ⟨(Below.refl _ _).drew,λ_ _ _=>rfl,λ_=>hrow.out,λh=>h.elim λ_ h=>h.elim⟩ ?_
      iterate 4 (refine aH hDJ.out rfl rfl ?_;go_big_quiet_step (fail);refine wpQuiet_nil ?_)
      refine bu 238 #[.string p] rfl rfl (λw'=>by kernel_rfl) (λgs w' hJ hdep hno=>?_) (λv4 hv4=>?_)
      ·have hww:=(HR4.out w' (hbr.trans hJ.1)).2.2
       refine (HC.out w' hww).mono ?_
       rintro e w2' ⟨rfl,hb2'⟩
       have hsz:wo.heap.size<=w'.heap.size:=hJ.1.size
       exact⟨_,rfl,rfl,hJ.1.trans (hb2'.mono (by omega)),λk hk hne'=>(hb2'.block k (by omega)).trans (hJ.2.1 k hk hne'),λh=>(hb2'.block G (by omega)).trans (hJ.2.2.1 λv hv=>h v (.inl hv)),λh=>(hb2'.block G (by omega)).trans (hJ.2.2.2 (by obtain⟨v,hv⟩:=h;rcases hv with hv | ⟨e,_⟩;exact⟨v,hv⟩;cases e))⟩
      simp only[Act.put,List.setIfInBounds_toArray,List.set_cons_succ,List.set_cons_zero]
      obtain rfl:v4=.tuple #[.agg #[.int .i64 c.1,.int .i64 c.2.1,.int .i64 c.2.2],.bool ok]:=hv4
      iterate 3 (refine aH hDJ.out rfl rfl ?_;go_big_quiet_step (fail);refine wpQuiet_nil ?_)
      refine iR (.pointer (some ⟨G,i*3,none⟩)) rfl rfl (λw'=>f9 (hia w')) ?_
      simp only[Act.put,List.setIfInBounds_toArray,List.set_cons_succ,List.set_cons_zero]
      refine eB rfl rfl (λgs w' hJ hdep hno=>?_) (λv9 hv9=>?_)
      ·have hrow':=hJ.2.2.1 hno
       obtain⟨⟨u0,k0⟩,f0⟩:=gK hrow' (i*3) (by omega)
       obtain⟨⟨u1,k1⟩,f1⟩:=gK hrow' (i*3+1) (by omega)
       obtain⟨⟨u2,k2⟩,f2⟩:=gK hrow' (i*3+2) (by omega)
       refine⟨((w'.setCell ⟨G,i*3,none⟩ (.int .i64 c.1)).setCell ⟨G,i*3+1,none⟩ (.int .i64 c.2.1)).setCell ⟨G,i*3+2,none⟩ (.int .i64 c.2.2),?_,trivial,?_⟩
       ·clear hJ hdep hno q0 hDJ hne hrow'
        go_simp
       ·refine⟨((hJ.1.setCell (p:=⟨G,i*3,none⟩) (Nat.le_refl _) _).setCell (p:=⟨G,i*3+1,none⟩) (Nat.le_refl _) _).setCell (p:=⟨G,i*3+2,none⟩) (Nat.le_refl _) _,λk hk hne'=>(Ak _ _ _ _ hne').trans (hJ.2.1 k hk hne'),λh=>absurd (.inr ⟨rfl,rfl⟩) (h undef),λ_=>?_⟩
        rw[HC'.out]
        exact BN hrow'
      simp only[Act.put,List.setIfInBounds_toArray,List.set_cons_succ,List.set_cons_zero]
      refine dF ?_
      intro w4 hJ
      have hrow4':Hid (w4.heap[G]?=some (.cells cur' 145 (0,0))):=hJ.2.2.2 ⟨v9,.inr ⟨rfl,rfl⟩⟩
      have hbr4:Below G W4 w4:=hbr.trans hJ.1
      have hs4':G+2<=w4.heap.size:=Nat.le_trans hsr hJ.1.size
      have hbox4':Hid (w4.heap[G+1]?=some (.cells #[.slice (some ⟨G,0,none⟩) n n,.int .i64 vd] 142 (0,0))):=(hJ.2.1 (G+1) (by omega) (by omega)).trans hbox.out
      clear hJ hDJ q0 hne hia
      cases ok with
      | false=>
       have hN:Hid (cP s.data.toList=none):=by
        unfold Hid
        rw[HR2.out,nM dg _ i _ hpm.out (by have:=hcoH.out;simpa using this)]
       obtain⟨hRb,_,hbw4⟩:=HR4.out _ hbr4
       obtain⟨t0,t1,t2,t3⟩:=ah hRb
       have hRb':Hid _:=hRb
       clear hRb
       go_wp2_with fail
       have HRF:=ch (u:=.int .i64 0) (cG (u:=.slice none 0 0) hRb'.out)
       obtain⟨z0,z1,_,_⟩:=ah HRF
       refine bodyPost_ret (v:=.tuple #[.agg #[.slice none 0 0,.int .i64 0],.bool false]) ?_ rfl ⟨.slice none 0 0,by rw[hN.out];rfl,by rw[hN.out];exact cU.nil _ _,(hbw4.setCell (p:=⟨w.heap.size,0,none⟩) (Nat.le_refl _) _).setCell (p:=⟨w.heap.size,1,none⟩) (Nat.le_refl _) _⟩
       rw[results_cell_tmp rfl]
       go_simp
      | true=>
       have hco:dg p.data.toList=some c:=by have:=hcoH.out;simpa using this
       have hall':Hid (dP dg ((pt.map (λp:ByteArray=>p.data.toList)).take (i+1))=some (cs++[c])):=rC dg _ i _ hpm.out cs hall.out c hco
       have hRC':Hid (Bq n (cs++[c]) cur'):=by
        unfold Hid
        rw[HC'.out,<-hcl]
        exact hRC.out.put (by omega) c
       have hcw':Hid (∀ d∈cs++[c],wf d.1/\wf d.2.1/\wf d.2.2):=by
        intro d hd
        rcases List.mem_append.1 hd with h | h
        ·exact hcw.out d h
        ·simp at h
         subst h
         exact Ar hco
       go_wp2_with fail
       exact⟨⟨i+1,cs++[c],cur',by omega,by go_num,by simp[hcl],hall',hRC',hcw',hrow4',hbox4',hbr4,hs4'⟩,by simp[intOf];omega⟩
     ·obtain rfl:i=n:=by omega
      have hall2:dP dg (pt.map (λp:ByteArray=>p.data.toList))=some cs:=by
       have:=hall.out
       rw[List.take_of_length_le (by simp[hnH.out])] at this
       exact this
      have hE:=HEnd.out wo cur cs hbr hrow.out hRC.out hcl hcw.out hall2
      have hE':Hid _:=hE
      obtain⟨t0,t1,t2,t3⟩:=ah hRb
      obtain⟨b0,b1,_,_⟩:=ah hbox.out
      have hRb':Hid _:=hRb
      clear hRb hE hNm
      have hne1:¬(G+1=w.heap.size):=by omega
      have hne2:¬(w.heap.size=G+1):=by omega
      go_wp2_with fail
      have HRF:=ch (u:=.int .i64 vd) (cG (u:=.slice (some ⟨G,0,none⟩) i i) hRb'.out)
      obtain⟨z0,z1,_,_⟩:=ah HRF
      obtain⟨cv,e1,e2,e3⟩:=hE'.out
      refine bodyPost_ret (v:=.tuple #[.agg #[.slice (some ⟨G,0,none⟩) i i,.int .i64 vd],.bool true]) ?_ rfl ⟨cv,by rw[e1],e2,e3⟩
      rw[results_cell_tmp rfl]
      go_simp
end Go.Proofs.YtnpdhopjpjickaaGreatDoor
end
section
set_option linter.all false
set_option maxRecDepth 100000
namespace Go.Proofs.YtnpdhopjpjickaaGreatDoor
open Go.RowKit Go.Maps
def gI (L:Nat) (w:World) (v:Value) (d:List ai):Prop:=
 ∃ a c,v=.slice a d.length c/\d.length<=c/\c<=maxLen/\∀ i r,d[i]?=some r->∃ b o,a=some ⟨b,o,none⟩/\L<=b/\b<w.heap.size/\∃ e,w.cell? ⟨b,o+i*2,none⟩=some e/\w.cell? ⟨b,o+i*2+1,none⟩=some (.int .i64 r.2)/\wf r.2/\cU L w e r.1
theorem gI.nil (L:Nat) (w:World):gI L w (.slice none 0 0) []:=⟨none,0,rfl,Nat.le_refl _,Nat.zero_le _,λi c h=>by simp at h⟩
theorem gI.keep {L:Nat} {w w':World} {v:Value} {j:List ai} (h:gI L w v j) (k:∀ g,L<=g->g<w.heap.size->w'.heap[g]?=w.heap[g]?) (d:w.heap.size<=w'.heap.size):gI L w' v j:=by
 obtain⟨a,f,n,p,q,r⟩:=h
 refine⟨a,f,n,p,q,λi c s=>?_⟩
 obtain⟨b,o,e,l,t,u,x,y,z,A⟩:=r i c s
 have m:=k b l t
 exact⟨b,o,e,l,by omega,u,by rw[bC m];exact x,by rw[bC m];exact y,z,A.keep k d⟩
theorem gI.at {L:Nat} {w:World} {v:Value} {f:List ai} (h:gI L w v f):be w.heap.size w v f:=by
 obtain⟨a,d,g,j,k,l⟩:=h
 refine⟨a,d,g,j,k,λi c m=>?_⟩
 obtain⟨b,o,e,u,n,p,q,r,s,t⟩:=l i c m
 exact⟨b,o,e,n,p,q,r,s,t.at⟩
def jR (L:Nat) (w:World) (v:Value) (p:ap):Prop:=∃ a,v=.agg #[a,.int .i64 p.2]/\wf p.2/\gI L w a p.1
theorem jR.keep {L:Nat} {w w':World} {v:Value} {p:ap} (h:jR L w v p) (b:∀ g,L<=g->g<w.heap.size->w'.heap[g]?=w.heap[g]?) (a:w.heap.size<=w'.heap.size):jR L w' v p:=by
 obtain⟨c,d,e,f⟩:=h
 exact⟨c,d,e,f.keep b a⟩
theorem jR.at {L:Nat} {w:World} {v:Value} {p:ap} (h:jR L w v p):bG w.heap.size w v p:=by
 obtain⟨a,b,c,d⟩:=h
 exact⟨a,b,c,d.at⟩
theorem jR.zero (L:Nat) (w:World):jR L w (.agg #[.slice none 0 0,.int .i64 0]) ([],0):=⟨_,rfl,by unfold wf;decide,gI.nil L w⟩
theorem jR.shape {L:Nat} {w:World} {v:Value} {p:ap} (h:jR L w v p):∃ a n b,v=.agg #[.slice a n b,.int .i64 p.2]:=by
 obtain⟨c,rfl,_,a,b,rfl,_⟩:=h
 exact⟨a,_,b,rfl⟩
theorem cU.shape {L:Nat} {w:World} {v:Value} {cs:List aB} (h:cU L w v cs):∃ a n b,v=.slice a n b:=by
 obtain⟨a,b,rfl,_⟩:=h
 exact⟨a,_,b,rfl⟩
def tF (L n:Nat) (w:World) (c:List ai) (a:Array Value):Prop:=
 a.size=n*2/\∀ i r,c[i]?=some r->∃ b,a[i*2]?=some b/\a[i*2+1]?=some (.int .i64 r.2)/\wf r.2/\cU L w b r.1
def yT (a:Array Value) (o:Nat) (b c:Value):Array Value:=(a.setIfInBounds o b).setIfInBounds (o+1) c
theorem tF.keep {L n:Nat} {w w':World} {c:List ai} {a:Array Value} (h:tF L n w c a) (d:∀ g,L<=g->g<w.heap.size->w'.heap[g]?=w.heap[g]?) (b:w.heap.size<=w'.heap.size):tF L n w' c a:=by
 refine⟨h.1,λi r e=>?_⟩
 obtain⟨f,j,k,l,m⟩:=h.2 i r e
 exact⟨f,j,k,l,m.keep d b⟩
theorem tF.put {L n:Nat} {w:World} {b:List ai} {a:Array Value} (h:tF L n w b a) (g:b.length<n) (r:ai) (cv:Value) (j:wf r.2) (k:cU L w cv r.1):tF L n w (b++[r]) (yT a (b.length*2) cv (.int .i64 r.2)):=by
 obtain⟨l,m⟩:=h
 refine⟨by simp[yT,l],λi d c=>?_⟩
 have v:i<b.length+1:=by have:=(List.getElem?_eq_some_iff.1 c).1;simpa using this
 by_cases e:i=b.length
 ·subst e
  rw[List.getElem?_append_right (Nat.le_refl _)] at c
  simp at c
  subst c
  have o:b.length*2<a.size:=by omega
  have p:b.length*2+1<a.size:=by omega
  unfold yT
  simp only[Array.getElem?_setIfInBounds]
  exact⟨cv,by simp[o],by simp[p],j,k⟩
 ·rw[List.getElem?_append_left (by omega)] at c
  obtain⟨f,q,s,t,u⟩:=m i d c
  unfold yT
  simp only[Array.getElem?_setIfInBounds]
  refine⟨f,?_,?_,t,u⟩
  ·rw[if_neg (by omega),if_neg (by omega)];exact q
  ·rw[if_neg (by omega),if_neg (by omega)];exact s
theorem BI {w:World} {g o:Nat} {a:Array Value} {b c:Value} {T:TypeId} (h:w.heap[g]?=some (.cells a T (0,0))):((w.setCell ⟨g,o,none⟩ b).setCell ⟨g,o+1,none⟩ c).heap[g]?=some (.cells (yT a o b c) T (0,0)):=
 an (o:=o+1) (u:=c) (an (o:=o) (u:=b) h)
theorem mG {w:World} {g k:Nat} (o:Nat) (a b:Value) (h:k≠g):((w.setCell ⟨g,o,none⟩ a).setCell ⟨g,o+1,none⟩ b).heap[k]?=w.heap[k]?:=by
 rw[Below.heap_setCell _ _ _ _ (by show k≠g;exact h),Below.heap_setCell _ _ _ _ (by show k≠g;exact h)]
def Ev (G:Nat) (W:World) (c:Array Value) (T:TypeId) (o:Nat) (e:Int) (ok:Bool) (cs:List aB) (d:Nat->Value->Prop) (w:World):Prop:=
 Below G W w/\(∀ k,k<W.heap.size->k≠G->w.heap[k]?=W.heap[k]?)/\((∀ v,¬d 9 v)->w.heap[G]?=some (.cells c T (0,0)))/\(∀ v,d 4 v->∃ a m b,v=.tuple #[.agg #[.slice a m b,.int .i64 e],.bool ok]/\cU W.heap.size w (.slice a m b) cs)/\
  ((∃ v,d 9 v)->∃ a m b,d 4 (.tuple #[.agg #[.slice a m b,.int .i64 e],.bool ok])/\w.heap[G]?=some (.cells (yT c o (.slice a m b) (.int .i64 e)) T (0,0)))
def DT (c:Int) (ok:Bool) (k:Nat) (v:Value):Prop:=if k=4 then ∃ a m b,v=.tuple #[.agg #[.slice a m b,.int .i64 c],.bool ok] else True
theorem Bh (a:Int) (ok:Bool) (k:Nat):∃ v,DT a ok k v:=by
 unfold DT
 split
 ·exact⟨_,none,0,0,rfl⟩
 ·exact⟨undef,trivial⟩
theorem z5 (n:Nat) (f:n<=4294967281) (w:World):(Instr.makeSlice 28 (.int .i64 n) (.int .i64 n)).run Tryz.prog w=.ok (.slice (some ⟨w.heap.size,0,none⟩) n n) (w.alloc (.cells (madeCells #[.slice none 0 0,.int .i64 0] (n*2)) 142)):=by
 obtain⟨a,b,c,d,e⟩:=wD
 have:=run_make (P:=Tryz.prog) w 28 142 a _ Tryz.underlying28 b c .i64 .i64 n n (by omega) (Int.le_refl _) (by rw[e];omega) (by omega)
 rw[d] at this
 simpa [Value.cells] using this
theorem wV (i n G:Nat) (h:i<n) (w:World):(Instr.indexAt 28 (.slice (some ⟨G,0,none⟩) n n) (.int .i64 i)).run Tryz.prog w=.ok (.pointer (some ⟨G,i*2,none⟩)) w:=by
 have a:(i:Int)<(n:Int):=by omega
 have b:(0:Int)<=(i:Int):=by omega
 go_simp
theorem Af {l:Bs} {r:ai} (h:cP l=some r):wf r.2:=by
 unfold cP at h
 split at h
 ·cases h
 ·rename_i a t _
  split at h
  ·cases h
  ·split at h
   ·cases h
   ·cases h
    have:=mJ vN a
    have e:vN.length=5:=rfl
    rw[e] at this
    exact lK (by simp only[];omega)
theorem qd {l:Bs} {ps:List Bs} {d:Bs} (e:bU 59 l=ps++[d]):zQ1 l=match dP cP ps with
  | none=>none
  | some c=>if bI vN d<0 then none else some (c,bI vN d):=by
 have f:(bU 59 l).dropLast=ps:=by rw[e];simp
 have g:(bU 59 l).getLast (fj 59 l)=d:=by
  have:∀ (x:List Bs) (b:x≠[]),x=ps++[d]->x.getLast b=d:=by
   intro x b a
   subst a
   simp
  exact this _ _ e
 unfold zQ1
 rw[f,g]
 rfl
end Go.Proofs.YtnpdhopjpjickaaGreatDoor
end
section
set_option linter.all false
set_option maxRecDepth 100000
namespace Go.Proofs.YtnpdhopjpjickaaGreatDoor
open Go.RowKit Go.Maps
theorem nA (c:UInt8):∀ (l m:Bs),c ∉ l->bU c (l++c :: m)=l :: bU c m
 | [],m,_=>by simp[bU]
 | b :: l,m,h=>by
  have a:b≠c:=λe=>h (by simp[e])
  rw[List.cons_append,bU,if_neg a,nA c l m (λe=>h (by simp[e]))]
theorem nY (c:UInt8):∀ (l:Bs),c ∉ l->bU c l=[l]
 | [],_=>rfl
 | b :: l,h=>by
  have a:b≠c:=λe=>h (by simp[e])
  rw[bU,if_neg a,nY c l (λe=>h (by simp[e]))]
theorem qn (c:UInt8):∀ (xs:List Bs) (d:Bs),(∀ x∈xs,c ∉ x)->c ∉ d->bU c (xs.flatMap (λx=>x++[c])++d)=xs++[d]
 | [],d,_,a=>by simpa using nY c d a
 | x :: xs,d,h,a=>by
  rw[List.flatMap_cons,List.append_assoc,List.append_assoc,List.singleton_append,nA c x _ (h x (by simp)),qn c xs d (λy b=>h y (by simp[b])) a]
  rfl
theorem oo (c:UInt8):∀ (ts:List Bs) (h:Bs),c ∉ h->(∀ x∈ts,c ∉ x)->bU c (h++ts.flatMap (λx=>c :: x))=h :: ts
 | [],h,a,_=>by simpa using nY c h a
 | t :: ts,h,a,b=>by
  rw[List.flatMap_cons,List.cons_append,nA c h _ a,oo c ts t (b t (by simp)) (λy d=>b y (by simp[d]))]
def lh (c:UInt8):List Bs->Bs
 | []=>[]
 | [x]=>x
 | x :: y :: r=>x++c :: lh c (y :: r)
theorem nw (c:UInt8):∀ s:Bs,lh c (bU c s)=s
 | []=>rfl
 | b :: l=>by
  have a:=nw c l
  have d:=fj c l
  unfold bU
  by_cases h:b=c
  ·rw[if_pos h]
   cases hs:bU c l with
   | nil=>exact absurd hs d
   | cons x r=>rw[hs] at a;rw[lh,a,h];rfl
  ·rw[if_neg h]
   cases hs:bU c l with
   | nil=>exact absurd hs d
   | cons x r=>
    rw[hs] at a
    cases r with
    | nil=>rw[lh] at a |-;rw[a]
    | cons y r=>rw[lh] at a |-;rw[List.cons_append,a]
theorem tJ (c:UInt8):∀ (xs:List Bs) (d:Bs),lh c (xs++[d])=xs.flatMap (λx=>x++[c])++d
 | [],d=>by simp[lh]
 | [x],d=>by simp[lh]
 | x :: y :: r,d=>by
  have a:=tJ c (y :: r) d
  rw[List.cons_append,List.cons_append,lh,<-List.cons_append,a,List.flatMap_cons]
  simp
theorem rO (c:UInt8):∀ (ts:List Bs) (h:Bs),lh c (h :: ts)=h++ts.flatMap (λx=>c :: x)
 | [],h=>by simp[lh]
 | t :: ts,h=>by rw[lh,rO c ts t,List.flatMap_cons];rfl
theorem mg:∀ (a:List Bs) (x:Bs),0<=bI a x->a.getD (bI a x).toNat []=x
 | [],x,h=>by simp[bI] at h
 | n :: r,x,h=>by
  have d:=kU r x
  unfold bI at h |-
  by_cases b:n=x
  ·rw[if_pos b];simpa using b
  ·rw[if_neg b] at h |-
   by_cases c:bI r x = -1
   ·rw[if_pos c] at h;omega
   ·rw[if_neg c]
    have:=mg r x (by omega)
    rw[show (bI r x+1).toNat=(bI r x).toNat+1 by omega]
    simpa using this
theorem mY:∀ (l:Bs) (c:UInt8),0<=Lib.indexByte l c->l.getD (Lib.indexByte l c).toNat 0=c
 | [],c,h=>by simp[Lib.indexByte] at h
 | b :: r,c,h=>by
  have e:=Lib.indexByte_ge r c
  unfold Lib.indexByte at h |-
  by_cases a:(b==c)=true
  ·rw[if_pos a];simpa using a
  ·rw[if_neg a] at h |-
   by_cases d:(Lib.indexByte r c==-1)=true
   ·rw[if_pos d] at h;omega
   ·have f:Lib.indexByte r c≠-1:=by simpa using d
    rw[if_neg d]
    have:=mY r c (by omega)
    rw[show (Lib.indexByte r c+1).toNat=(Lib.indexByte r c).toNat+1 by omega]
    simpa using this
theorem ow:∀ (l cs:Bs),0<=Lib.indexAny l cs->cs.contains (l.getD (Lib.indexAny l cs).toNat 0)=true
 | [],cs,h=>by simp[Lib.indexAny] at h
 | b :: r,cs,h=>by
  have d:=Lib.indexAny_ge cs r
  unfold Lib.indexAny at h |-
  by_cases a:cs.contains b=true
  ·rw[if_pos a];simpa using a
  ·rw[if_neg a] at h |-
   by_cases c:(Lib.indexAny r cs==-1)=true
   ·rw[if_pos c] at h;omega
   ·have e:Lib.indexAny r cs≠-1:=by simpa using c
    rw[if_neg c]
    have:=ow r cs (by omega)
    rw[show (Lib.indexAny r cs+1).toNat=(Lib.indexAny r cs).toNat+1 by omega]
    simpa using this
theorem pY (cs:Bs) (x:UInt8) (m:Bs) (a:cs.contains x=true):∀ l:Bs,(∀ b∈l,cs.contains b=false)->Lib.indexAny (l++x :: m) cs=l.length
 | [],_=>by rw[List.nil_append,Lib.indexAny,if_pos a];rfl
 | b :: l,h=>by
  have c:=pY cs x m a l λy d=>h y (by simp[d])
  rw[List.cons_append,Lib.indexAny,if_neg (by rw[h b (by simp)];decide),c,if_neg (by simp)]
  simp
theorem oe:∀ (l:Bs) (a:Nat) (c:UInt8),Lib.parseUint10 a (l++[c])=match Lib.parseUint10 a l with
  | .ok v=>Lib.parseUint10 v [c]
  | .syntax=>.syntax
  | .range=>.range
 | [],a,c=>by simp[Lib.parseUint10]
 | d :: l,a,c=>by
  rw[List.cons_append,Lib.parseUint10,Lib.parseUint10]
  split
  ·split
   ·rfl
   ·split
    ·rfl
    ·exact oe l _ c
  ·rfl
theorem kI (d:Nat) (h:d<10):(UInt8.ofNat (48+d)).toNat=48+d:=by
 simp
 omega
theorem gh:∀ (u:Nat),∀ c∈Lib.decDigits u,48<=c.toNat/\c.toNat<=57:=by
 intro u
 induction u using Nat.strongRecOn with
 | _ u d=>
  intro c a
  rw[Lib.decDigits] at a
  split at a
  ·have a:=List.mem_singleton.1 a
   subst a
   rw[kI u (by assumption)]
   omega
  ·rename_i h
   rcases List.mem_append.1 a with b | b
   ·exact d (u / 10) (by omega) c b
   ·have b:=List.mem_singleton.1 b
    subst b
    rw[kI (u % 10) (by omega)]
    omega
theorem uA (u:Nat):Lib.decDigits u≠[]:=by
 rw[Lib.decDigits]
 split<;>simp
theorem vT:∀ (u:Nat),u<=1000000->Lib.parseUint10 0 (Lib.decDigits u)=.ok u:=by
 intro u
 induction u using Nat.strongRecOn with
 | _ u a=>
  intro b
  rw[Lib.decDigits]
  split
  ·rename_i h
   rw[Lib.parseUint10,kI u h,if_pos (by omega),if_neg (by omega),if_neg (by omega),Lib.parseUint10]
   congr 1
   omega
  ·rename_i h
   rw[oe,a (u / 10) (by omega) (by omega)]
   simp only[]
   rw[Lib.parseUint10,kI (u % 10) (by omega),if_pos (by omega),if_neg (by omega),if_neg (by omega),Lib.parseUint10]
   congr 1
   omega
theorem ny (n:Int) (h:0<=n/\n<=65535):cS (Lib.itoa n)=some n:=by
 have e:Lib.itoa n=Lib.decDigits n.toNat:=by unfold Lib.itoa;rw[if_neg (by omega)]
 have a:=vT n.toNat (by omega)
 have b:Lib.atoiAll (Lib.itoa n)=.ok n:=by
  rw[e]
  cases hd:Lib.decDigits n.toNat with
  | nil=>exact absurd hd (uA _)
  | cons c r=>
   have d:=gh n.toNat c (by rw[hd];simp)
   unfold Lib.atoiAll
   simp only[]
   rw[if_neg (by omega)]
   unfold Lib.parseMag
   rw[if_neg (by simp),<-hd,a]
   simp only[]
   rw[if_neg (by omega),if_neg (by omega),if_neg (by omega)]
   congr 1
   omega
 unfold cS
 rw[b]
 simp
theorem B9 {y:Bs} {c:aB} (h:dg y=some c):bR c=32 :: y:=by
 unfold dg at h
 by_cases f:Lib.indexAny y fk<0
 ·rw[if_pos f] at h;cases h
 ·rw[if_neg f] at h
  have i:=lT fk y
  have b:=ow y fk (by omega)
  generalize p:(Lib.indexAny y fk).toNat=k at*
  have d:k<y.length:=by omega
  split at h
  ·cases h
  ·rename_i n a
   by_cases g:bI fN (y.take k)<0
   ·rw[if_pos g] at h;cases h
   ·rw[if_neg g] at h
    cases h
    have j:=mg fN (y.take k) (by omega)
    have l:Lib.itoa n=y.drop (k+1):=by
     unfold cS at a
     split at a
     ·split at a
      ·cases a;assumption
      ·cases a
     ·cases a
    have e:0<=Lib.indexByte fk (y.getD k 0):=by
     have:=Lib.contains_iff_indexByte fk (y.getD k 0)
     rw[b] at this
     simpa using this.symm
    have m:=mY fk (y.getD k 0) e
    have o:gH (1+Lib.indexByte fk (y.getD k 0))=y.getD k 0:=by
     unfold gH
     rw[show (1+Lib.indexByte fk (y.getD k 0)-1).toNat=(Lib.indexByte fk (y.getD k 0)).toNat by omega]
     exact m
    unfold bR fM
    simp only[]
    rw[j,o,l]
    congr 1
    have:y.getD k 0=y[k]:=by simp[List.getD_eq_getElem?_getD,d]
    rw[this,<-List.drop_eq_getElem_cons d,List.take_append_drop]
theorem nr {α:Type} (f:Bs->Option α) (g:α->Bs) (k:Bs->Bs) (b:∀ x a,f x=some a->g a=k x):∀ (l:List Bs) (r:List α),dP f l=some r->r.flatMap g=l.flatMap k
 | [],r,h=>by simp[dP] at h;subst h;rfl
 | x :: l,r,h=>by
  rw[dP] at h
  cases h1:f x<;>cases h2:dP f l<;>rw[h1,h2] at h<;>simp at h
  subst h
  rw[List.flatMap_cons,List.flatMap_cons,b x _ h1,nr f g k b l _ h2]
theorem Aq {x:Bs} {r:ai} (h:cP x=some r):ck r=x++[59]:=by
 unfold cP at h
 cases hs:bU 32 x with
 | nil=>exact absurd hs (fj 32 x)
 | cons b t=>
  rw[hs] at h
  simp only[] at h
  by_cases d:bI vN b<0
  ·rw[if_pos d] at h;cases h
  ·rw[if_neg d] at h
   split at h
   ·cases h
   ·rename_i f a
    cases h
    have e:=nw 32 x
    rw[hs,rO] at e
    have g:=mg vN b (by omega)
    have i:=nr dg bR (λy=>32 :: y) (λy c j=>B9 j) t f a
    unfold ck cJ
    simp only[]
    rw[g,i,e]
theorem Cb {s:Bs} {p:ap} (h:zQ1 s=some p):cM p=s:=by
 unfold zQ1 at h
 split at h
 ·cases h
 ·rename_i d a
  by_cases b:bI vN ((bU 59 s).getLast (fj 59 s))<0
  ·rw[if_pos b] at h;cases h
  ·rw[if_neg b] at h
   cases h
   have c:=nw 59 s
   rw[<-List.dropLast_concat_getLast (fj 59 s),tJ] at c
   have e:=mg vN _ (by omega:0<=bI vN ((bU 59 s).getLast (fj 59 s)))
   have f:=nr cP ck (λx=>x++[59]) (λx r g=>Aq g) _ d a
   unfold cM cJ
   simp only[]
   rw[e,f]
   exact c
theorem lP:(∀ k,k<5->∀ b∈vN.getD k [],b≠59/\b≠32)/\(∀ k,k<5->∀ b∈fN.getD k [],(b≠59/\b≠32)/\fk.contains b=false)/\(∀ b∈fk,b≠59/\b≠32):=by decide
theorem pi:(∀ k,k<5->bI vN (vN.getD k [])=(k:Int))/\(∀ k,k<5->bI fN (fN.getD k [])=(k:Int))/\(∀ k,k<4->Lib.indexByte fk (fk.getD k 0)=(k:Int)/\fk.contains (fk.getD k 0)=true/\fk.getD k 0∈fk):=by decide
theorem Ae {c:aB} (h:aW c=0):∃ y,bR c=32 :: y/\dg y=some c/\(59:UInt8) ∉ y/\(32:UInt8) ∉ y:=by
 obtain⟨f,o,n⟩:=c
 obtain⟨w,x,t⟩:=lV h
 simp only[] at w x t
 obtain⟨d,rfl⟩:∃ k:Nat,f=k:=⟨f.toNat,by omega⟩
 obtain⟨g,rfl⟩:∃ k:Nat,o=(k:Int)+1:=⟨(o-1).toNat,by omega⟩
 have i:d<5:=by omega
 have l:g<4:=by omega
 obtain⟨G,z,A⟩:=pi
 obtain⟨H,m,u⟩:=lP
 obtain⟨B,C,v⟩:=A g l
 have p:fM (d:Int)=fN.getD d []:=by unfold fM;simp
 have q:gH ((g:Int)+1)=fk.getD g 0:=by unfold gH;simp
 have D:Lib.itoa n=Lib.decDigits n.toNat:=by unfold Lib.itoa;rw[if_neg (by omega)]
 have j:∀ b∈Lib.itoa n,b≠59/\b≠32:=by
  rw[D]
  intro b r
  have:=gh _ b r
  constructor<;>(intro e;subst e;revert this;decide)
 refine⟨fM d++(gH ((g:Int)+1) :: Lib.itoa n),rfl,?_,?_,?_⟩
 ·rw[p,q]
  have s:Lib.indexAny (fN.getD d []++(fk.getD g 0 :: Lib.itoa n)) fk=(fN.getD d []).length:=pY fk _ _ C _ λb r=>(m d i b r).2
  unfold dg
  rw[s]
  simp only[Int.toNat_natCast]
  rw[if_neg (by omega),List.take_left,z d i]
  have E:List.drop ((fN.getD d []).length+1) (fN.getD d []++(fk.getD g 0 :: Lib.itoa n))=Lib.itoa n:=by
   rw[<-List.drop_drop,List.drop_left]
   rfl
  have F:(fN.getD d []++(fk.getD g 0 :: Lib.itoa n)).getD (fN.getD d []).length 0=fk.getD g 0:=by
   rw[List.getD_eq_getElem?_getD,List.getElem?_append_right (Nat.le_refl _)]
   simp
  rw[E,ny n t,F,B]
  simp only[]
  rw[if_neg (by omega)]
  congr 2
  congr 1
  omega
 ·intro a
  rcases List.mem_append.1 a with a | a
  ·rw[p] at a;exact (m d i _ a).1.1 rfl
  ·rcases List.mem_cons.1 a with a | a
   ·rw[q] at a;exact (u _ v).1 a.symm
   ·exact (j _ a).1 rfl
 ·intro a
  rcases List.mem_append.1 a with a | a
  ·rw[p] at a;exact (m d i _ a).1.2 rfl
  ·rcases List.mem_cons.1 a with a | a
   ·rw[q] at a;exact (u _ v).2 a.symm
   ·exact (j _ a).2 rfl
theorem rX:∀ (cs:List aB),(∀ c∈cs,aW c=0)->∃ a:List Bs,cs.flatMap bR=a.flatMap (λy=>32 :: y)/\dP dg a=some cs/\∀ y∈a,(59:UInt8) ∉ y/\(32:UInt8) ∉ y
 | [],_=>⟨[],rfl,rfl,λy h=>by cases h⟩
 | c :: cs,h=>by
  obtain⟨y,e,f,g,i⟩:=Ae (h c (by simp))
  obtain⟨a,j,k,l⟩:=rX cs λd m=>h d (by simp[m])
  refine⟨y :: a,by rw[List.flatMap_cons,List.flatMap_cons,e,j],by rw[dP,f,k],λz b=>?_⟩
  rcases List.mem_cons.1 b with rfl | b
  ·exact⟨g,i⟩
  ·exact l z b
theorem Az {r:ai} (h:aR r=0):∃ x,ck r=x++[59]/\cP x=some r/\(59:UInt8) ∉ x:=by
 obtain⟨d,v⟩:=r
 obtain⟨_,n,g⟩:=lX h
 simp only[] at n g
 obtain⟨b,rfl⟩:∃ k:Nat,v=k:=⟨v.toNat,by omega⟩
 have c:b<5:=by omega
 have e:cJ (b:Int)=vN.getD b []:=by unfold cJ;simp
 obtain⟨o,_,_⟩:=pi
 obtain⟨i,_,_⟩:=lP
 obtain⟨j,l,p,m⟩:=rX d g
 refine⟨cJ b++d.flatMap bR,rfl,?_,?_⟩
 ·have q:bU 32 (cJ b++d.flatMap bR)=cJ b :: j:=by
   rw[l]
   exact oo 32 j _ (λa=>by rw[e] at a;exact (i b c _ a).2 rfl) λy f=>(m y f).2
  unfold cP
  rw[q]
  simp only[]
  rw[e,o b c,if_neg (by omega),p]
 ·intro a
  rcases List.mem_append.1 a with a | a
  ·rw[e] at a;exact (i b c _ a).1 rfl
  ·rw[l] at a
   obtain⟨y,f,a⟩:=List.mem_flatMap.1 a
   rcases List.mem_cons.1 a with a | a
   ·exact absurd a (by decide)
   ·exact (m y f).1 a
theorem t6:∀ (a:List ai),(∀ r∈a,aR r=0)->∃ b:List Bs,a.flatMap ck=b.flatMap (λx=>x++[59])/\dP cP b=some a/\∀ x∈b,(59:UInt8) ∉ x
 | [],_=>⟨[],rfl,rfl,λy h=>by cases h⟩
 | r :: a,h=>by
  obtain⟨y,e,f,g⟩:=Az (h r (by simp))
  obtain⟨i,j,k,l⟩:=t6 a λd m=>h d (by simp[m])
  refine⟨y :: i,by rw[List.flatMap_cons,List.flatMap_cons,e,j],by rw[dP,f,k],λz c=>?_⟩
  rcases List.mem_cons.1 c with rfl | c
  ·exact g
  ·exact l z c
theorem CB {p:ap} (h:ae p=0):zQ1 (cM p)=some p:=by
 obtain⟨c,d⟩:=p
 obtain⟨_,j,e⟩:=kR h
 simp only[] at j e
 obtain⟨a,rfl⟩:∃ k:Nat,d=k:=⟨d.toNat,by omega⟩
 have b:a<5:=by omega
 have f:cJ (a:Int)=vN.getD a []:=by unfold cJ;simp
 obtain⟨l,_,_⟩:=pi
 obtain⟨m,_,_⟩:=lP
 obtain⟨g,n,o,q⟩:=t6 c e
 have r:bU 59 (cM (c,(a:Int)))=g++[cJ a]:=by
  unfold cM
  simp only[]
  rw[n]
  exact qn 59 g _ q λi=>by rw[f] at i;exact (m a b _ i).1 rfl
 rw[qd r,o]
 simp only[]
 rw[f,l a b,if_neg (by omega)]
end Go.Proofs.YtnpdhopjpjickaaGreatDoor
end
section
set_option linter.all false
set_option maxRecDepth 100000
namespace Go.Proofs.YtnpdhopjpjickaaGreatDoor
open Go.RowKit Go.Maps
theorem tX (c:UInt8) (m:Bs):∀ x:Bs,c ∉ x->Lib.index (x++c :: m) [c]=x.length
 | [],_=>by simp[Lib.index,List.isPrefixOf]
 | b :: x,h=>by
  have a:=tX c m x (λe=>h (by simp[e]))
  have d:(c==b)=false:=by
   rw[beq_eq_false_iff_ne]
   intro e
   exact h (by simp[e])
  rw[List.cons_append,Lib.index,a]
  simp[List.isPrefixOf,d]
theorem sT (c:UInt8):∀ x:Bs,c ∉ x->Lib.index x [c] = -1
 | [],_=>by simp[Lib.index]
 | b :: x,h=>by
  have a:=sT c x (λe=>h (by simp[e]))
  have d:(c==b)=false:=by
   rw[beq_eq_false_iff_ne]
   intro e
   exact h (by simp[e])
  rw[Lib.index,a]
  simp[List.isPrefixOf,d]
end Go.Proofs.YtnpdhopjpjickaaGreatDoor
end
section
set_option linter.all false
set_option maxRecDepth 100000
namespace Go.Proofs.YtnpdhopjpjickaaGreatDoor
open Go.RowKit Go.Maps
theorem zj {l:Bs} (a:l.length<=60000) (h:zQ1 l=none):cy l=(([],0),1):=by
 unfold cy
 rw[if_neg (by omega),h]
theorem s8 {l:Bs} {p:ap} (a:l.length<=60000) (h:zQ1 l=some p):cy l=if ae p=0 then (p,0) else (([],0),ae p):=by
 unfold cy
 rw[if_neg (by omega),h]
end Go.Proofs.YtnpdhopjpjickaaGreatDoor
end
section
set_option linter.all false
set_option maxRecDepth 100000
namespace Go.Proofs.YtnpdhopjpjickaaGreatDoor
open Go.RowKit Go.Maps
theorem x9 (c:UInt8) (s:ByteArray) (ps:List ByteArray) (hps:ps.map (λp:ByteArray=>p.data.toList)=bU c s.data.toList):ps.length<=s.size+1/\∀ p∈ps,p.size<=s.size:=by
 refine⟨?_,λp hp=>?_⟩
 ·have h1:ps.length=(bU c s.data.toList).length:=by rw[<-hps];simp
  rw[h1,<-iM]
  unfold Lib.split
  have:∀ k (l:Bs),(Lib.splitK [c] 0 k l).length<=k+1:=by
   intro k
   induction k with
   | zero=>intro l;simp[Lib.splitK]
   | succ k ih=>
    intro l;unfold Lib.splitK;split
    ·simp
    ·simp;exact ih _
  have h2:=this (Lib.count s.data.toList [c]) s.data.toList
  rw[Lib.count_one] at h2
  have h3:=List.count_le_length (a:=c) (l:=s.data.toList)
  rw[<-Lib.size_eq] at h3
  rw[Lib.count_one]
  omega
 ·have:=nZ c s.data.toList p.data.toList (by rw[<-hps];exact List.mem_map.2 ⟨p,hp,rfl⟩)
  rw[<-Lib.size_eq,<-Lib.size_eq] at this
  exact this
set_option maxHeartbeats 8000000 in
theorem sW (s:ByteArray) (hs:s.size<=4294967279) (w:World) (he:dX w):
  Calls Tryz.prog 213 #[.string s] w λe w'=>∃ pv,e=.returned (.tuple #[pv,.bool (zQ1 s.data.toList).isSome])/\jR w.heap.size w' pv ((zQ1 s.data.toList).getD ([],0))/\Below w.heap.size w w':=by
 have hb1:∀ X,Below w.heap.size w (w.alloc X):=λX=>(Below.refl _ _).alloc (Nat.le_refl _) _
 obtain⟨ps0,hps,hsplit⟩:=ui 59 s (by omega) (w.alloc (.cells #[.slice none 0 0,.int .i64 0] 30)) (he.later (hb1 _)).1
 obtain⟨hcount,hpl⟩:=x9 59 s ps0 hps
 have hne0:ps0≠[]:=by intro e;subst e;exact fj 59 _ hps.symm
 obtain⟨ps,pd,rfl⟩:∃ ps pd,ps0=ps++[pd]:=⟨ps0.dropLast,ps0.getLast hne0,(List.dropLast_concat_getLast hne0).symm⟩
 have hP:=qd (l:=s.data.toList) (ps:=ps.map (λp:ByteArray=>p.data.toList)) (d:=pd.data.toList) (by rw[<-hps];simp)
 have HP:Hid (zQ1 s.data.toList=match dP cP (ps.map (λp:ByteArray=>p.data.toList)) with
   | none=>none
   | some rs=>if bI vN pd.data.toList<0 then none else some (rs,bI vN pd.data.toList)):=hP
 have hlenp:(ps++[pd]).length=ps.length+1:=by simp
 rw[hlenp] at hsplit hcount
 have HSp:Hid _:=hsplit
 have HPL:Hid (∀ (j:Nat) (p:ByteArray),ps[j]?=some p->p.size<=4294967280):=λj p hj=>by have:=hpl p (by simp[List.mem_of_getElem? hj]);omega
 have HV:Hid (∀ w',Calls Tryz.prog 229 #[.string pd] w' λe w''=>e=.returned (.tuple #[.int .i64 (bI vN pd.data.toList),.bool (decide (0<=bI vN pd.data.toList))])/\Below w'.heap.size w' w''):=λw'=>kZ pd w'
 have hv0:=kU vN pd.data.toList
 have hv1:bI vN pd.data.toList<5:=mJ vN _
 generalize hvv:bI vN pd.data.toList=vd at*
 obtain⟨n,hn⟩:∃ n,n=ps.length:=⟨_,rfl⟩
 have hnH:Hid (ps.length=n):=hn.symm
 rw[<-hn] at hcount HSp
 obtain⟨mc,hmc⟩:∃ mc,mc=madeCells #[.slice none 0 0,.int .i64 0] (n*2):=⟨_,rfl⟩
 have hmcs:mc.size=n*2:=by rw[hmc];exact size_madeCells _ _
 have hmk0:=z5 n (by omega)
 rw[<-hmc] at hmk0
 have hmk:∀ w,(Instr.makeSlice 28 (.int .i64 n) (.int .i64 n)).run Tryz.prog w=.ok (.slice (some ⟨w.heap.size,0,none⟩) n n) (w.alloc (.cells mc 142)):=hmk0
 obtain⟨G,hG⟩:∃ G,G=w.heap.size+2:=⟨_,rfl⟩
 obtain⟨W1,hW1⟩:∃ W1,W1=(w.alloc (.cells #[.slice none 0 0,.int .i64 0] 30)).alloc (.cells ((ps++[pd]).map Value.string).toArray 9):=⟨_,rfl⟩
 have hbW1:Below w.heap.size w W1:=by rw[hW1];exact (hb1 _).alloc (by simp) _
 have hsW1:W1.heap.size=w.heap.size+2:=by rw[hW1];simp
 have hRb1:W1.heap[w.heap.size]?=some (.cells #[.slice none 0 0,.int .i64 0] 30 (0,0)):=by
  rw[hW1,Below.heap_alloc _ _ _ (by simp)]
  exact (MapKept.heap_alloc w _).1
 have hNm1:ew (w.heap.size+1) ((ps++[pd]).map Value.string).toArray W1:=by
  have:=ew.made (w.alloc (.cells #[.slice none 0 0,.int .i64 0] 30)) ((ps++[pd]).map Value.string).toArray 9
  rw[World.size_alloc] at this
  rw[hW1]
  exact this
 obtain⟨W4,hW4⟩:∃ W4,W4=(W1.alloc (.cells mc 142)).alloc (.cells #[.slice (some ⟨w.heap.size+2,0,none⟩) n n,.int .i64 0] 30):=⟨_,rfl⟩
 have hb4:Below G W1 W4:=by rw[hW4];exact ((Below.refl _ _).alloc (by omega) _).alloc (by simp;omega) _
 have hs4:W4.heap.size=G+2:=by rw[hW4];simp;omega
 have hrow4:W4.heap[G]?=some (.cells mc 142 (0,0)):=by
  rw[hG,<-hsW1,hW4,Below.heap_alloc _ _ _ (by simp)]
  exact (MapKept.heap_alloc W1 _).1
 have hbox4:W4.heap[G+1]?=some (.cells #[.slice (some ⟨G,0,none⟩) n n,.int .i64 0] 30 (0,0)):=by
  have:=(MapKept.heap_alloc (W1.alloc (.cells mc 142)) (.cells #[.slice (some ⟨w.heap.size+2,0,none⟩) n n,.int .i64 0] 30)).1
  rw[World.size_alloc,hsW1] at this
  rw[hW4,hG]
  exact this
 have HR4:Hid (∀ wr,Below G W4 wr->wr.heap[w.heap.size]?=some (.cells #[.slice none 0 0,.int .i64 0] 30 (0,0))/\(∀ (j:Nat) (p:ByteArray),ps[j]?=some p->wr.cell? ⟨w.heap.size+1,j,none⟩=some (.string p))/\wr.cell? ⟨w.heap.size+1,n,none⟩=some (.string pd)/\Below w.heap.size w wr):=λwr h=>by
  have hh:=hb4.trans h
  refine⟨(hh.block _ (by omega)).trans hRb1,λj p hj=>?_,?_,hbW1.trans (hh.mono (by omega))⟩
  ·refine (hh.cell (p:=⟨w.heap.size+1,j,none⟩) (by show w.heap.size+1<_;omega)).trans (hNm1 j _ ?_)
   have hjl:=(List.getElem?_eq_some_iff.1 hj).1
   rw[List.getElem?_toArray,List.map_append,List.getElem?_append_left (by simpa using hjl)]
   simp[hj]
  ·refine (hh.cell (p:=⟨w.heap.size+1,n,none⟩) (by show w.heap.size+1<_;omega)).trans (hNm1 n _ ?_)
   rw[hn]
   simp
 have hwn:IntKind.i64.wrap (n:Int)=(n:Int):=IntWalk.i64_in _ (by omega)
 have hml:=ag
 have hG2:w.heap.size+2<=G:=by omega
 clear hvv hP hps hpl hRb1 hNm1 hmk0 hmc hn hne0
 go_enter Tryz.func213,Tryz.ntmps213
 go_wp2_with fail
 go_at_call 96
 refine Calls.mono HSp.out ?_
 rintro e w1 ⟨rfl,hw1⟩
 simp only[World.size_alloc]
 rw[<-hW1] at hw1
 subst hw1
 clear hW1 HSp
 go_wp2_with fail
 rw[<-hW4,<-hG]
 clear hG hsplit
 clear hW4
 go_loopw [22] (λiv wr=>∃ (i:Nat) (rs:List ai) (cur:Array Value),i<=n/\iv=.int .i64 i/\rs.length=i/\Hid (dP cP ((ps.map (λp:ByteArray=>p.data.toList)).take i)=some rs)/\Hid (tF (G+2) n wr rs cur)/\Hid (wr.heap[G]?=some (.cells cur 142 (0,0)))/\Hid (wr.heap[G+1]?=some (.cells #[.slice (some ⟨G,0,none⟩) n n,.int .i64 0] 30 (0,0)))/\Below G W4 wr/\G+2<=wr.heap.size) (λiv _=>n-(intOf iv).toNat)
 case atStart=>exact⟨0,[],mc,by omega,rfl,rfl,rfl,⟨hmcs,λi c h=>by simp at h⟩,hrow4,hbox4,Below.refl _ _,by omega⟩
 case round=>
  obtain⟨i,rs,cur,hi,rfl,hcl,hall,hRC,hrow,hbox,hbr,hsr⟩:=hrel
  obtain⟨wo,hwo⟩:∃ x,x=wr:=⟨_,rfl⟩
  subst hwo
  have i0:(0:Int)<=(i:Int):=by omega
  obtain⟨hRb,hNm,hNd,hbw⟩:=HR4.out _ hbr
  by_cases hlt:i<n
  ·have i1:(i:Int)<(n:Int):=by omega
   obtain⟨p,hp⟩:∃ p,ps[i]?=some p:=⟨ps[i]'(by rw[hnH.out];exact hlt),by simp⟩
   have hc1:=hNm i p hp
   have hps:=HPL.out i p hp
   have hpm:Hid ((ps.map (λp:ByteArray=>p.data.toList))[i]?=some p.data.toList):=by unfold Hid;simp[hp]
   obtain⟨r,ok,hr1,hr2,hr3,hrw⟩:∃ (r:ai) (ok:Bool),(cP p.data.toList).getD ([],0)=r/\(cP p.data.toList).isSome=ok/\(cP p.data.toList=if ok=true then some r else none)/\wf r.2:=by
    cases h:cP p.data.toList with
    | none=>exact⟨([],0),false,rfl,rfl,rfl,by unfold wf;decide⟩
    | some r=>exact⟨r,true,rfl,rfl,rfl,Af h⟩
   have HC:Hid (∀ w',Below w.heap.size w w'->Calls Tryz.prog 228 #[.string p] w' λe w''=>∃ cv,e=.returned (.tuple #[.agg #[cv,.int .i64 r.2],.bool ok])/\cU w'.heap.size w'' cv r.1/\Below w'.heap.size w' w''):=λw' hb=>by
    have:=vH p hps w' (he.later hb)
    rw[hr1,hr2] at this
    exact this
   have hcoH:Hid _:=hr3
   have hrwH:Hid _:=hrw
   clear hRb hNm hNd hr1 hr2 hr3 hrw hp
   have hcur:=hRC.out.1
   obtain⟨b0,b1,_,_⟩:=ah hbox.out
   have hn3:i*2+1<cur.size:=by omega
   obtain⟨rc,rv⟩:=r
   go_wp2_with fail
   have hne:=tz.ne G wo
   have hDJ:Hid (∀ fs w',Ev G wo cur 142 (i*2) rv ok rc fs w'->∃ z:tz G wo,w'=z.1):=λfs w' h=>⟨⟨w',h.2.1⟩,rfl⟩
   have q0:∀ z:tz G wo,z.1.cell? ⟨G+1,0,none⟩=some (.slice (some ⟨G,0,none⟩) n n):=λz=>z.cell b0 (by omega)
   have hia:∀ w,(Instr.indexAt 28 (.slice (some ⟨G,0,none⟩) n n) (.int .i64 i)).run Tryz.prog w=.ok (.pointer (some ⟨G,i*2,none⟩)) w:=λw=>wV i n G hlt w
   refine bh [_,_,_,_,_,_,_,_,_,_] _ rfl (λk=>k==4||k==9) (Ev G wo cur 142 (i*2) rv ok rc) (DT rv ok) (Bh rv ok) (by kernel_rfl) (by kernel_rfl) ⟨(Below.refl _ _).drew,λ_ _ _=>rfl,λ_=>hrow.out,λ_ h=>h.elim,λh=>h.elim λ_ h=>h.elim⟩ ?_
   iterate 4 (refine aH hDJ.out rfl rfl ?_;go_big_quiet_step (fail);refine wpQuiet_nil ?_)
   refine bu 228 #[.string p] rfl rfl (λw'=>by kernel_rfl) (λgs w' hJ hdep hno=>?_) (λv4 hv4=>?_)
   ·have hww:=(HR4.out w' (hbr.trans hJ.1)).2.2.2
    refine (HC.out w' hww).mono ?_
    rintro e w2' ⟨cv,rfl,hcn,hb2'⟩
    have hsz:wo.heap.size<=w'.heap.size:=hJ.1.size
    obtain⟨a,m,cap,rfl⟩:=hcn.shape
    refine⟨_,rfl,⟨a,m,cap,rfl⟩,hJ.1.trans (hb2'.mono (by omega)),λk hk hne'=>(hb2'.block k (by omega)).trans (hJ.2.1 k hk hne'),λh=>(hb2'.block G (by omega)).trans (hJ.2.2.1 λv hv=>h v (.inl hv)),λv hv=>?_,λh=>?_⟩
    ·rcases hv with hv | ⟨_,rfl⟩
     ·exact absurd hv (hno v)
     ·exact⟨a,m,cap,rfl,hcn.mono hsz⟩
    ·obtain⟨v,hv⟩:=h
     rcases hv with hv | ⟨e,_⟩
     ·obtain⟨a',m',cap',h4,_⟩:=hJ.2.2.2.2 ⟨v,hv⟩
      exact absurd h4 (hno _)
     ·cases e
   simp only[Act.put,List.setIfInBounds_toArray,List.set_cons_succ,List.set_cons_zero]
   obtain⟨a4,m4,cap4,rfl⟩:∃ a m cap,v4=.tuple #[.agg #[.slice a m cap,.int .i64 rv],.bool ok]:=hv4
   iterate 3 (refine aH hDJ.out rfl rfl ?_;go_big_quiet_step (fail);refine wpQuiet_nil ?_)
   refine iR (.pointer (some ⟨G,i*2,none⟩)) rfl rfl (λw'=>f9 (hia w')) ?_
   simp only[Act.put,List.setIfInBounds_toArray,List.set_cons_succ,List.set_cons_zero]
   refine eB rfl rfl (λgs w' hJ hdep hno=>?_) (λv9 hv9=>?_)
   ·have hrow':=hJ.2.2.1 hno
    have h4:=hdep 4 _ (.inr ⟨rfl,rfl⟩) (zQ0 (by kernel_rfl))
    obtain⟨⟨u0,k0⟩,f0⟩:=gK hrow' (i*2) (by omega)
    obtain⟨⟨u1,k1⟩,f1⟩:=gK hrow' (i*2+1) (by omega)
    refine⟨(w'.setCell ⟨G,i*2,none⟩ (.slice a4 m4 cap4)).setCell ⟨G,i*2+1,none⟩ (.int .i64 rv),?_,trivial,?_⟩
    ·clear hJ hdep hno q0 hDJ hne hrow' h4
     go_simp
    ·refine⟨(hJ.1.setCell (p:=⟨G,i*2,none⟩) (Nat.le_refl _) _).setCell (p:=⟨G,i*2+1,none⟩) (Nat.le_refl _) _,λk hk hne'=>(mG _ _ _ hne').trans (hJ.2.1 k hk hne'),λh=>absurd (.inr ⟨rfl,rfl⟩) (h undef),λv hv=>?_,λ_=>⟨a4,m4,cap4,.inl h4,BI hrow'⟩⟩
     rcases hv with hv | ⟨e,_⟩
     ·obtain⟨a,m,cap,h1,h2⟩:=hJ.2.2.2.1 v hv
      refine⟨a,m,cap,h1,h2.keep (λg hg hg2=>mG _ _ _ (by omega)) (by simp)⟩
     ·cases e
   simp only[Act.put,List.setIfInBounds_toArray,List.set_cons_succ,List.set_cons_zero]
   refine dF ?_
   intro w4 hJ
   obtain⟨a5,m5,cap5,h45,hrow5⟩:=hJ.2.2.2.2 ⟨v9,.inr ⟨rfl,rfl⟩⟩
   obtain⟨a6,m6,cap6,e6,hcn6⟩:=hJ.2.2.2.1 _ h45
   simp at e6
   obtain⟨rfl,rfl,rfl⟩:=e6
   have hrow4':Hid _:=hrow5
   have hcnH:Hid (cU (G+2) w4 (.slice a5 m5 cap5) rc):=hcn6.mono hsr
   have hbr4:Below G W4 w4:=hbr.trans hJ.1
   have hs4':G+2<=w4.heap.size:=Nat.le_trans hsr hJ.1.size
   have hbox4':Hid (w4.heap[G+1]?=some (.cells #[.slice (some ⟨G,0,none⟩) n n,.int .i64 0] 30 (0,0))):=(hJ.2.1 (G+1) (by omega) (by omega)).trans hbox.out
   have hRCk:Hid (tF (G+2) n w4 rs cur):=hRC.out.keep (λg hg hg2=>hJ.2.1 g hg2 (by omega)) hJ.1.size
   clear hJ hDJ q0 hne hia hrow5 hcn6 h45
   cases ok with
   | false=>
    have hN:Hid (zQ1 s.data.toList=none):=by
     unfold Hid
     rw[HP.out,nM cP _ i _ hpm.out (by have:=hcoH.out;simpa using this)]
    obtain⟨hRb,_,_,hbw4⟩:=HR4.out _ hbr4
    obtain⟨t0,t1,t2,t3⟩:=ah hRb
    have hRb':Hid _:=hRb
    clear hRb
    go_wp2_with fail
    have HRF:=ch (u:=.int .i64 0) (cG (u:=.slice none 0 0) hRb'.out)
    obtain⟨z0,z1,_,_⟩:=ah HRF
    refine bodyPost_ret (v:=.tuple #[.agg #[.slice none 0 0,.int .i64 0],.bool false]) ?_ rfl ⟨_,by rw[hN.out];rfl,by rw[hN.out];exact jR.zero _ _,(hbw4.setCell (p:=⟨w.heap.size,0,none⟩) (Nat.le_refl _) _).setCell (p:=⟨w.heap.size,1,none⟩) (Nat.le_refl _) _⟩
    rw[results_cell_tmp rfl]
    go_simp
   | true=>
    have hco:cP p.data.toList=some (rc,rv):=by have:=hcoH.out;simpa using this
    have hall':Hid (dP cP ((ps.map (λp:ByteArray=>p.data.toList)).take (i+1))=some (rs++[(rc,rv)])):=rC cP _ i _ hpm.out rs hall.out _ hco
    have hRC':Hid (tF (G+2) n w4 (rs++[(rc,rv)]) (yT cur (i*2) (.slice a5 m5 cap5) (.int .i64 rv))):=by
     unfold Hid
     rw[<-hcl]
     exact hRCk.out.put (by omega) (rc,rv) _ hrwH.out hcnH.out
    go_wp2_with fail
    exact⟨⟨i+1,rs++[(rc,rv)],_,by omega,by go_num,by simp[hcl],hall',hRC',hrow4',hbox4',hbr4,hs4'⟩,by simp[intOf];omega⟩
  ·obtain rfl:i=n:=by omega
   have hall2:Hid (dP cP (ps.map (λp:ByteArray=>p.data.toList))=some rs):=by
    have:=hall.out
    rw[List.take_of_length_le (by simp[hnH.out])] at this
    exact this
   clear hRb hNm
   go_wp2_with fail
   go_at_call 229
   refine Calls.mono (HV.out _) ?_
   rintro e w5 ⟨rfl,hb5⟩
   have hbr5:Below G W4 w5:=hbr.trans (hb5.mono (by omega))
   have hs5:G+2<=w5.heap.size:=Nat.le_trans hsr hb5.size
   have hbox5:w5.heap[G+1]?=some (.cells #[.slice (some ⟨G,0,none⟩) i i,.int .i64 0] 30 (0,0)):=(hb5.block (G+1) (by omega)).trans hbox.out
   have hrow5:w5.heap[G]?=some (.cells cur 142 (0,0)):=(hb5.block G (by omega)).trans hrow.out
   have hRC5:tF (G+2) i w5 rs cur:=hRC.out.keep (λg hg hg2=>hb5.block g hg2) hb5.size
   obtain⟨hRb,_,_,hbw5⟩:=HR4.out _ hbr5
   obtain⟨t0,t1,t2,t3⟩:=ah hRb
   obtain⟨b0,b1,b2,b3⟩:=ah hbox5
   obtain⟨w6,hw6⟩:∃ w6,w6=w5.setCell ⟨G+1,1,none⟩ (.int .i64 vd):=⟨_,rfl⟩
   have hbx6:w6.heap[G+1]?=some (.cells #[.slice (some ⟨G,0,none⟩) i i,.int .i64 vd] 30 (0,0)):=by rw[hw6];exact ch hbox5
   have hoth6:∀ k,k≠G+1->w6.heap[k]?=w5.heap[k]?:=λk hk=>by rw[hw6];exact Below.heap_setCell _ _ _ _ (by show k≠G+1;exact hk)
   have hsz6:w6.heap.size=w5.heap.size:=by rw[hw6];simp
   have hRb6:w6.heap[w.heap.size]?=some (.cells #[.slice none 0 0,.int .i64 0] 30 (0,0)):=(hoth6 _ (by omega)).trans hRb
   have hbw6:Below w.heap.size w w6:=by rw[hw6];exact hbw5.setCell (p:=⟨G+1,1,none⟩) (by show w.heap.size<=G+1;omega) _
   obtain⟨c0,c1,c2,c3⟩:=ah hRb6
   obtain⟨d0,d1,_,_⟩:=ah hbx6
   have hRb6':Hid _:=hRb6
   have HF6:Hid (∀ u0 u1,jR w.heap.size ((w6.setCell ⟨w.heap.size,0,none⟩ u0).setCell ⟨w.heap.size,1,none⟩ u1) (.agg #[.slice (some ⟨G,0,none⟩) i i,.int .i64 vd]) (rs,vd)):=by
    intro u0 u1
    have hkk:∀ k,k≠w.heap.size->k≠G+1->((w6.setCell ⟨w.heap.size,0,none⟩ u0).setCell ⟨w.heap.size,1,none⟩ u1).heap[k]?=w5.heap[k]?:=λk h1 h2=>(mG 0 u0 u1 h1).trans (hoth6 k h2)
    refine⟨_,rfl,lK (by simp only[];omega),some ⟨G,0,none⟩,i,by simp[hcl],by simp[hcl],by omega,λj r hj=>?_⟩
    obtain⟨cv,k0,k1,k2,k3⟩:=hRC5.2 j r hj
    have hGk:=hkk G (by omega) (by omega)
    refine⟨G,0,rfl,by omega,by simp[hsz6];omega,cv,?_,?_,k2,(k3.keep (w':=(w6.setCell ⟨w.heap.size,0,none⟩ u0).setCell ⟨w.heap.size,1,none⟩ u1) (λg h1 h2=>hkk g (by omega) (by omega)) (by simp[hsz6])).mono (by omega)⟩
    ·rw[bC hGk,Nat.zero_add];simp[World.cell?,hrow5,k0]
    ·rw[bC hGk,Nat.zero_add];simp[World.cell?,hrow5,k1]
   have hne1:¬(G+1=w.heap.size):=by omega
   have hne2:¬(w.heap.size=G+1):=by omega
   clear hRb hbox5 hrow5 hRC5 hbx6 hoth6 hRb6 hbw5
   by_cases hvn:vd<0
   ·have hdv:decide (0<=vd)=false:=decide_eq_false (by omega)
    have hN:Hid (zQ1 s.data.toList=none):=by unfold Hid;rw[HP.out,hall2.out];simp[hvn]
    go_wp2_with fail
    rw[<-hw6]
    have HRF:=ch (u:=.int .i64 0) (cG (u:=.slice none 0 0) hRb6'.out)
    obtain⟨z0,z1,_,_⟩:=ah HRF
    refine bodyPost_ret (v:=.tuple #[.agg #[.slice none 0 0,.int .i64 0],.bool false]) ?_ rfl ⟨_,by rw[hN.out];rfl,by rw[hN.out];exact jR.zero _ _,(hbw6.setCell (p:=⟨w.heap.size,0,none⟩) (Nat.le_refl _) _).setCell (p:=⟨w.heap.size,1,none⟩) (Nat.le_refl _) _⟩
    rw[results_cell_tmp rfl]
    go_simp
   ·have hdv:decide (0<=vd)=true:=decide_eq_true (by omega)
    have hN:Hid (zQ1 s.data.toList=some (rs,vd)):=by unfold Hid;rw[HP.out,hall2.out];simp[hvn]
    go_wp2_with fail
    rw[<-hw6]
    have HRF:=ch (u:=.int .i64 vd) (cG (u:=.slice (some ⟨G,0,none⟩) i i) hRb6'.out)
    obtain⟨z0,z1,_,_⟩:=ah HRF
    refine bodyPost_ret (v:=.tuple #[.agg #[.slice (some ⟨G,0,none⟩) i i,.int .i64 vd],.bool true]) ?_ rfl ⟨_,by rw[hN.out];rfl,by rw[hN.out];exact HF6.out _ _,(hbw6.setCell (p:=⟨w.heap.size,0,none⟩) (Nat.le_refl _) _).setCell (p:=⟨w.heap.size,1,none⟩) (Nat.le_refl _) _⟩
    rw[results_cell_tmp rfl]
    go_simp
end Go.Proofs.YtnpdhopjpjickaaGreatDoor
end
