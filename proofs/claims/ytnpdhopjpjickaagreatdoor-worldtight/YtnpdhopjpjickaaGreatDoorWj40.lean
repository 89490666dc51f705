/- Joined: MeD ChD. -/
import Derived.Test.YtnpdhopjpjickaaGreatDoorWj01
import Derived.Test.YtnpdhopjpjickaaGreatDoorWj21
import Derived.Test.YtnpdhopjpjickaaGreatDoorWj33
import Derived.Test.YtnpdhopjpjickaaGreatDoorWj32
import Derived.Test.YtnpdhopjpjickaaGreatDoorWj17
import Derived.Test.YtnpdhopjpjickaaGreatDoorWj28
import Derived.Test.YtnpdhopjpjickaaGreatDoorWj35
import Derived.Test.YtnpdhopjpjickaaGreatDoorWj31
import Derived.Test.YtnpdhopjpjickaaGreatDoorWj39
import Derived.Test.YtnpdhopjpjickaaGreatDoorWj16
section
set_option linter.all false
set_option maxRecDepth 100000
namespace Go.Proofs.YtnpdhopjpjickaaGreatDoor
open Go.RowKit Go.Maps
theorem Cd {p:ap} {x:Nat->Int} (a:ae p=0):0<=kP p x/\kP p x<=120:=by
 have b:=(cu a).1
 unfold kP cm
 rw[if_pos a]
 split
 ·show 0<=(cZ p (aD (aX x) 0 p.1)).2/\(cZ p (aD (aX x) 0 p.1)).2<=120
  unfold cZ
  split
  ·show (0:Int)<=(p.1.length:Int)/\(p.1.length:Int)<=120
   omega
  ·rename_i h
   have:=nX (aX x) p.1 0 (by omega)
   show (0:Int)<=aD (aX x) 0 p.1/\aD (aX x) 0 p.1<=120
   omega
 ·show (0:Int)<=0/\(0:Int)<=120
  omega
theorem xR {p:ap} (h:bz [p]=0) (i:Int):gd p i=decide (0<mL p ((bH [p]).map nu) i):=by
 have b:bH [p]=fy [p]:=by rw[bH,if_pos h]
 have a:=BP p ((bH [p]).map nu) i
 have c:(((bH [p]).map nu).any λx=>kP p (AZ x)==i)=gd p i:=by
  unfold gd
  rw[b,List.any_map]
  rfl
 rw[c] at a
 cases hk:gd p i with
 | true=>exact (decide_eq_true (a.2 hk)).symm
 | false=>
  refine (decide_eq_false λh=>?_).symm
  have:=a.1 h
  rw[hk] at this
  cases this
theorem vt {B g:Nat} {w:World} {v:Value} {j:List ai} (h:be B w v j) (J:B<=g):be g w v j:=by
 obtain⟨a,f,k,l,m,n⟩:=h
 refine⟨a,f,k,l,m,λi r p=>?_⟩
 obtain⟨b,o,e,K,q,s,t,u,x,d,y,z,A,C⟩:=n i r p
 refine⟨b,o,e,by omega,q,s,t,u,x,d,y,z,A,λi c D=>?_⟩
 obtain⟨E,F,G,H,I⟩:=C i c D
 exact⟨E,F,G,by omega,I⟩
def zb (W:World) (rb:Nat):Type:={ w':World // Below rb W w' }
theorem zb.ne (W:World) (rb:Nat):Nonempty (zb W rb):=⟨⟨W,Below.refl _ _⟩⟩
theorem zb.cell {W:World} {rb:Nat} (x:zb W rb) {b o:Nat} {v:Value} (h:W.cell? ⟨b,o,none⟩=some v) (a:b<rb):x.1.cell? ⟨b,o,none⟩=some v:=(x.2.cell (p:=⟨b,o,none⟩) a).trans h
structure zX (W:World) (rb:Nat) (P:ap) (fs:Nat->Value->Prop) (w:World):Prop where
 below:Below rb W w
 early:(∀ u,¬fs 8 u)->Below W.heap.size W w
 one:∀ u u',fs 7 u->fs 7 u'->u=u'
 copied:∀ u,fs 7 u->aN W.heap.size w u P
 stored:∀ u,fs 8 u->∃ v d,fs 7 (.agg #[v,d])/\w.heap[rb]?=some (.cells #[v,d] 30 (0,0))
 first:∀ u,fs 7 u->∃ u',fs 3 u'
section
variable {W w w':World} {rb:Nat} {P:ap} {fs:Nat->Value->Prop}
theorem zX.start:zX W rb P (λ_ _=>False) W.drew:=⟨(Below.refl _ _).drew,λ_=>(Below.refl _ _).drew,λ_ _ h=>h.elim,λ_ h=>h.elim,λ_ h=>h.elim,λ_ h=>h.elim⟩
theorem zX.other (h:zX W rb P fs w) (u:Value):zX W rb P (bW fs 3 u) w:=by
 refine⟨h.below,λc=>h.early λu a=>c u (.inl a),λu e a b=>h.one u e (aj (by decide) a) (aj (by decide) b),λu a=>h.copied u (aj (by decide) a),λf a=>?_,λ_ _=>⟨u,.inr ⟨rfl,rfl⟩⟩⟩
 obtain⟨v,d,g,i⟩:=h.stored f (aj (by decide) a)
 exact⟨v,d,.inl g,i⟩
theorem zX.copy (h:zX W rb P fs w) (b:∀ u,¬fs 7 u) {u3:Value} (j:fs 3 u3) (k:rb<W.heap.size) (i:Below w.heap.size w w') (u:Value) (l:aN w.heap.size w' u P):zX W rb P (bW fs 7 u) w':=by
 have c:∀ u,¬fs 8 u:=λu m=>by
  obtain⟨v,d,a,_⟩:=h.stored u m
  exact b _ a
 have f:=h.early c
 refine⟨Below.thenOf h.below i (by have:=f.size;omega),λ_=>Below.thenOf f i f.size,λe n a g=>?_,λe a=>?_,λe a=>absurd (aj (by decide) a) (c e),λ_ _=>⟨u3,.inl j⟩⟩
 ·rcases a with a | ⟨_,rfl⟩
  ·exact absurd a (b e)
  ·rcases g with g | ⟨_,rfl⟩
   ·exact absurd g (b n)
   ·rfl
 ·rcases a with a | ⟨_,rfl⟩
  ·exact absurd a (b e)
  ·exact l.keep f.size (λ_ _ _=>rfl) (Nat.le_refl _)
theorem zX.store (h:zX W rb P fs w) (f:∀ u,¬fs 8 u) (a:rb<W.heap.size) (v d g:Value) (i:fs 7 (.agg #[v,d])) {x y:Value} (e:W.heap[rb]?=some (.cells #[x,y] 30 (0,0))):zX W rb P (bW fs 8 g) ((w.setCell ⟨rb,0,none⟩ v).setCell ⟨rb,1,none⟩ d):=by
 have j:=h.early f
 have k:w.heap[rb]?=some (.cells #[x,y] 30 (0,0)):=(j.block rb a).trans e
 refine⟨(h.below.setCell (p:=⟨rb,0,none⟩) (Nat.le_refl _) _).setCell (p:=⟨rb,1,none⟩) (Nat.le_refl _) _,λl=>absurd (.inr ⟨rfl,rfl⟩) (l g),λb m c n=>h.one b m (aj (by decide) c) (aj (by decide) n),λb c=>((h.copied b (aj (by decide) c)).put (.inl a)).put (.inl a),λb c=>⟨v,d,.inl i,?_⟩,λb c=>(h.first b (aj (by decide) c)).imp λ_ h=>.inl h⟩
 have q:=an (o:=0) (u:=v) k
 have r:=an (o:=1) (u:=d) q
 rw[r]
 rfl
end
def ET (b:Value) (d:Int) (k:Nat) (v:Value):Prop:=if k=3 then v=b else if k=7 then ∃ a n c,v=.agg #[.slice a n c,.int .i64 d] else True
theorem BB (a:Value) (d:Int) (k:Nat):∃ v,ET a d k v:=by
 unfold ET
 split
 ·exact⟨_,rfl⟩
 ·split
  ·exact⟨_,none,0,0,rfl⟩
  ·exact⟨undef,trivial⟩
set_option maxHeartbeats 16000000 in
theorem z7 (B:Nat) (pv:Value) (p:ap) (w:World) (hp:bG B w pv p) (hB:B<=w.heap.size):
  Calls Tryz.prog 233 #[pv] w λe w'=>∃ v,e=.returned (.tuple #[v,.int .i64 (bz [p])])/\aN w.heap.size w' v (kQ p)/\Below w.heap.size w w':=by
 obtain⟨hf,em,en,ep,eq⟩:=Bg
 have HP:Hid (∀ w',Below w.heap.size w w'->bG B w' pv p):=λw' h=>hp.later h hB
 obtain⟨f,d⟩:=p
 obtain⟨rv,e1,hd,c6⟩:=hp
 have c8:Hid (∀ w',Below w.heap.size w w'->be B w' rv f):=λw' h=>c6.later h hB
 obtain⟨a,E,e3,hj,hk,-⟩:=c6
 simp only at e1 e3 hd
 subst e3 e1
 have ca:=hid hd
 clear hd
 generalize cb:f.length=F at*
 have J:=hid cb
 clear cb
 have hl:=ag
 obtain⟨I,G⟩:∃ I,I=(w.alloc (.cells #[.slice a F E,.int .i64 d] 30)).alloc (.cells #[.slice none 0 0,.int .i64 0] 30):=⟨_,rfl⟩
 have cd:I.heap.size=w.heap.size+1+1:=by rw[G];simp
 have b3:Below w.heap.size w I:=by rw[G];exact ((Below.refl _ _).alloc (Nat.le_refl _) _).alloc (by simp) _
 have b4:Hid (∀ w',Below (w.heap.size+1+1) I w'->w'.heap[w.heap.size]?=some (.cells #[.slice a F E,.int .i64 d] 30 (0,0))/\w'.heap[w.heap.size+1]?=some (.cells #[.slice none 0 0,.int .i64 0] 30 (0,0))/\Below w.heap.size w w'):=by
  intro w' h
  have e0:I.heap[w.heap.size]?=some (.cells #[.slice a F E,.int .i64 d] 30 (0,0)):=by
   rw[G]
   exact bM _ (bE _ _ rfl)
  have e1:I.heap[w.heap.size+1]?=some (.cells #[.slice none 0 0,.int .i64 0] 30 (0,0)):=by
   rw[G]
   exact bE _ _ (by simp only[World.size_alloc])
  exact⟨(h.block _ (by omega)).trans e0,(h.block _ (by omega)).trans e1,b3.trans (h.mono (by omega))⟩
 have ce:=BT (p:=(f,d)) (Nat.le_trans hB b3.size) (c8.out _ b3) ca.out 30
 have b5:=pQ _ _ _ _ ce (by simp) (by simp)
 rw[cd] at b5
 have ao:Hid _:=b5
 have cf:Below (w.heap.size+1+1) I (I.alloc (.cells #[.slice a F E,.int .i64 d] 30)):=(Below.refl _ _).alloc (by omega) _
 have b6:(I.alloc (.cells #[.slice a F E,.int .i64 d] 30)).heap.size=w.heap.size+1+1+1:=by simp[cd]
 have et:=hid G
 clear b5 ce G
 go_enter Tryz.func233,Tryz.ntmps233
 go_wp2_with fail
 rw[<-et.out]
 go_at_call 239
 refine Calls.mono ao.out ?_
 rintro e L ⟨v5,rfl,b7,a1⟩
 rw[b6] at a1
 have M:Below (w.heap.size+1+1) I L:=Below.trans cf (a1.mono (by omega))
 have eu:=a1.size
 rw[b6] at eu
 obtain⟨b0,b1,C⟩:=b4.out _ M
 have l5:w.heap.size<L.heap.size:=by omega
 have l6:w.heap.size+1<L.heap.size:=by omega
 obtain⟨a5,ci,e5,eF,h0,-⟩:=id b7
 subst e5
 have cl:=hid b7
 clear b7 cf b6 ao a1
 by_cases g:bz [(f,d)]=0
 case neg=>
  have HE:Hid (kQ (f,d)=([],0)):=by unfold Hid kQ;rw[if_neg g]
  have hq:(bz [(f,d)] != 0)=true:=by simpa using g
  obtain⟨pe,O⟩:∃ pe,pe=bz [(f,d)]:=⟨_,rfl⟩
  rw[<-O] at hq |-
  have cn:=hid O.symm
  have r0:=ab b1 0 rfl
  have r1:=ab b1 1 rfl
  have f0:L.frozen? ⟨w.heap.size+1,0,none⟩=false:=by simp[World.frozen?,b1]
  have f1:L.frozen? ⟨w.heap.size+1,1,none⟩=false:=by simp[World.frozen?,b1]
  have b8:=hid C
  clear g O b0 b1 C
  go_wp2_with fail
  refine bodyPost_ret (v:=.tuple #[.agg #[.slice none 0 0,.int .i64 0],.int .i64 pe]) ?_ rfl ⟨_,by rw[cn.out],by rw[HE.out];exact iH _ _,?_⟩
  ·rw[results_cell_tmp rfl]
   go_simp
  ·repeat (first | exact b8.out | refine Below.setCell ?_ (by simp) _)
 case pos=>
  have co:Hid (kQ (f,d)=(cA d (bK (f,d) 0 f),d)):=by unfold Hid kQ;rw[if_pos g];rfl
  have cp:fw [(f,d)]:=(nB.1 g).1
  have a2:ae (f,d)=0:=cp _ (by simp)
  have eV:F<=120:=by rw[<-J.out];exact (cu a2).1
  have f2:Hid (∀ r∈f,r.1.length<=10):=λr hr=>(db (bZ (cu a2).2.2 r hr)).1
  have cx:((bH [(f,d)]).map nu).length<=1000:=by
   rw[List.length_map,bH,if_pos g]
   exact (nB.1 g).2
  have cT:Hid (∀ i,gd (f,d) i=decide (0<mL (f,d) ((bH [(f,d)]).map nu) i)):=xR g
  have b9:Hid (Calls Tryz.prog 245 #[.agg #[.slice a F E,.int .i64 d],.slice a5 ((bH [(f,d)]).map nu).length ci] L λe w'=>∃ b,e=.returned (.map (some b))/\∃ D,w'.ownsMap (H:=Unit) Tryz.prog 3 (plainElem Tryz.prog 3) b 1000 D/\(∀ i,wf i->D.atKey (.int .i64 i) (.lit (.int .i64 0))=.lit (.int .i64 (mL (f,d) ((bH [(f,d)]).map nu) i)))/\Below L.heap.size L w'):=tb L.heap.size _ _ (f,d) _ L (by obtain⟨rv,h1,h2,h3⟩:=HP.out L C;exact⟨rv,h1,h2,(vt h3 (by omega))⟩) cl.out (Nat.le_refl _) cx (λx _=>by have:=Cd (x:=AZ x) a2;exact WalkArith.wf_i64 (by omega))
  have d1:=hid g
  rw[g]
  obtain⟨PL,d3⟩:∃ PL,PL=(bH [(f,d)]).map nu:=⟨_,rfl⟩
  rw[<-d3] at cT b9 cx eF |-
  generalize f4:PL.length=PN at*
  clear d3 cp a2 g cl
  have p0:=ab b0 0 rfl
  have p1:=ab b0 1 rfl
  go_wp2_with fail
  go_at_call 245
  refine Calls.mono b9.out ?_
  rintro e P ⟨mb,rfl,D,ba,j,a4⟩
  have fa:=hid ba
  have fc:Hid (∀ i:Nat,i<1000->D.atKey (.int .i64 i) (.lit (.int .i64 0))=.lit (.int .i64 (mL (f,d) PL i))):=λi hi=>j i (WalkArith.wf_i64 (by omega))
  have hD:=a4.size
  have d5:Hid (∀ v,Below P.heap.size P v->Below (w.heap.size+1+1) I v):=λv h=>M.trans ((Below.thenOf a4 h a4.size).mono (by omega))
  have hE:=ba.lt
  obtain⟨d6,fd,da⟩:=b4.out _ (d5.out P (Below.refl _ _))
  have c0:=ab d6 0 rfl
  clear ba j a4 b9 p0 p1 b0 b1 C d6 fd da M f4
  go_wp2_with fail
  clear c0
  go_loopw [7,26] (λrv iv wr=>∃ (i:Nat) (xs:List Value),i<=F/\iv=.int .i64 i/\Hid (wr.ownsRow P.heap.size 142 2 rv (bK (f,d) 0 (f.take i)).length xs)/\Hid (jP B wr xs (bK (f,d) 0 (f.take i)))/\Hid (Below P.heap.size P wr)) (λ_ iv _=>F-(intOf iv).toNat)
  case atStart=>exact⟨0,[],by omega,rfl,⟨rfl,.inl ⟨rfl,rfl⟩⟩,⟨rfl,(λu hu=>by cases hu),(λi r hr=>by simp[bK] at hr)⟩,Below.refl _ _⟩
  case round=>
   obtain⟨i,xs,hi,rfl,HO,A,Q⟩:=hrel
   obtain⟨l,fi⟩:∃ x,x=wr:=⟨_,rfl⟩
   subst fi
   have i0:(0:Int)<=(i:Int):=by omega
   have dc:=Q.out.size
   obtain⟨gp,gr,R⟩:=b4.out _ (d5.out _ Q.out)
   have S:(bK (f,d) 0 (f.take i)).length<=F:=by
    have:=kE (f,d) (f.take i) 0
    rw[List.length_take,J.out] at this
    omega
   obtain⟨T,U,ev,V,fq,-⟩:=ax HO.out
   subst ev
   by_cases hH:i<F
   ·have i1:(i:Int)<(F:Int):=by omega
    obtain⟨r,bb⟩:∃ r,f[i]?=some r:=⟨f[i]'(by rw[J.out];omega),by simp⟩
    have fr:Hid (f.take (i+1)=f.take i++[r]):=by unfold Hid;rw[List.take_succ,bb];rfl
    have de:(f.take i).length=i:=by rw[List.length_take,J.out];omega
    have W:Hid (bK (f,d) 0 (f.take (i+1))=bK (f,d) 0 (f.take i)++if gd (f,d) (i:Int) then [r] else []):=by
     unfold Hid
     rw[fr.out,mP,de,Nat.zero_add]
    obtain⟨_,_,e1,-,-,j⟩:=c8.out _ R
    obtain⟨b,o,e,hL,cv,k0,k1,di,dk⟩:=j i r bb
    simp at e1
    obtain⟨rfl,-,-⟩:=e1
    subst e
    clear j de bb
    have bc:Hid (∀ w',Below P.heap.size l w'->bB B w' cv r.1):=λw' h=>dk.later h (by omega)
    obtain⟨a9,c9,fv,-⟩:=dk
    subst fv
    have av:=hid di
    obtain⟨cs,vd⟩:=r
    simp only[] at k0 k1 bc av
    obtain⟨n9,dl⟩:∃ n9,n9=cs.length:=⟨_,rfl⟩
    rw[<-dl] at k0 bc
    clear dl di
    obtain⟨K,hK⟩:∃ K,K=bK (f,d) 0 (f.take i):=⟨_,rfl⟩
    rw[<-hK] at W HO A S V |-
    clear hK
    obtain⟨N,hN⟩:∃ N,N=K.length:=⟨_,rfl⟩
    have HN:=hid hN.symm
    rw[<-hN] at HO S V |-
    clear hN
    obtain⟨W7,X⟩:∃ W7,W7=l.alloc (.cells #[.slice a9 n9 c9,.int .i64 vd] 142):=⟨_,rfl⟩
    have a8:Below l.heap.size l W7:=by rw[X];exact (Below.refl _ _).alloc (Nat.le_refl _) _
    have dn:Hid (W7.ownsRow P.heap.size 142 2 (.slice T N U) N xs):=au HO.out a8
    have dp:Hid (W7.ownsMap (H:=Unit) Tryz.prog 3 (plainElem Tryz.prog 3) mb 1000 D):=fa.out.kept (fG (Below.thenOf Q.out a8 dc) none) (by simp)
    have g7:W7.heap[l.heap.size]?=some (.cells #[.slice a9 n9 c9,.int .i64 vd] 142 (0,0)):=by rw[X];exact af _ _
    have y0:=ab g7 0 rfl
    have y1:=ab g7 1 rfl
    have hP:W7.heap.size=l.heap.size+1:=by rw[X];simp
    have bd:Hid (Below P.heap.size l W7):=a8.mono dc
    have dq:=hid X
    obtain⟨m,hm⟩:∃ m,m=mL (f,d) PL (i:Int):=⟨_,rfl⟩
    have bf:Hid (D.atKey (.int .i64 (i:Int)) (.lit (.int .i64 0))=.lit (.int .i64 (m:Int))):=by unfold Hid;rw[hm];exact fc.out i (by omega)
    have aa:Hid (gd (f,d) (i:Int)=decide (0<m)):=by unfold Hid;rw[hm];exact cT.out _
    have dr:(Lit.int .i64 (i:Int)).wf=true:=WalkArith.wf_i64 (by omega)
    have hS:6=6:=rfl
    clear hm X a8 g7 gp gr HO
    by_cases bg:0<m
    ·have ha:(0:Int)<(m:Int):=by omega
     have s:Hid (bK (f,d) 0 (f.take (i+1))=K++[(cs,vd)]):=by
      unfold Hid
      rw[W.out,aa.out,decide_eq_true bg]
      rfl
     clear W aa
     go_wp2_with (first
      | (at_lookup;rw[<-dq.out];go_must (refine wpList_lookup_own_int _ rfl _ _ 120 rfl 3 3 .i64 y9 Tryz.underlying120 Tryz.underlying3 (oq _) mb 1000 D rfl dp.out _ _ rfl (keyOf_int_mk Tryz.underlying3 dr) ?_;intro cc j bk;have ac:=j.symm.trans bf.out;simp only[DataW.lit.injEq,Lit.int.injEq,true_and] at ac;subst ac;clear j bk))
      | (at_builtin;go_must (refine pX _ rfl _ _ rfl Tryz.underlying28 em en ep eq rfl (by decide) P.heap.size _ _ _ rfl _ 1 [.slice a9 n9 c9,.int .i64 vd] rfl W7 rfl (by first | rfl | omega) W7 (Below.refl _ _) dn.out rfl (by simp[Value.oneCell']) (by omega) (by omega) (by omega) ?_;intro v9 w9 g2 ds Y;have bm:Hid _:=ds;clear ds Y)))
     have bo:Below P.heap.size l w9:=bd.out.trans bm.out
     refine⟨⟨i+1,xs++[.slice a9 n9 c9,.int .i64 vd],by omega,by go_num,?_,?_,Q.out.trans bo⟩,by simp[intOf];omega⟩
     ·unfold Hid
      rw[s.out,List.length_append,HN.out]
      exact g2.out
     ·unfold Hid
      rw[s.out]
      exact (A.out.later bo (by omega)).append (E2 (r:=(cs,vd)) (bc.out _ bo) av.out)
    ·have dv:m=0:=by omega
     have g3:Hid (D.atKey (.int .i64 (i:Int)) (.lit (.int .i64 0))=.lit (.int .i64 0)):=by unfold Hid;rw[bf.out,dv];rfl
     have s:Hid (bK (f,d) 0 (f.take (i+1))=K):=by
      unfold Hid
      rw[W.out,aa.out,decide_eq_false bg]
      simp
     clear W aa bf dv bg
     go_wp2_with (first
      | (at_lookup;rw[<-dq.out];go_must (refine wpList_lookup_own_int _ rfl _ _ 120 rfl 3 3 .i64 y9 Tryz.underlying120 Tryz.underlying3 (oq _) mb 1000 D rfl dp.out _ _ rfl (keyOf_int_mk Tryz.underlying3 dr) ?_;intro cc j bk;obtain rfl:cc=0:=(by have ac:=j.symm.trans g3.out;simpa using ac);clear j bk)))
     refine⟨⟨i+1,xs,by omega,by go_num,?_,?_,Q.out.trans bd.out⟩,by simp[intOf];omega⟩
     ·unfold Hid
      rw[s.out,HN.out]
      exact dn.out
     ·unfold Hid
      rw[s.out]
      exact A.out.later bd.out (by omega)
   ·have e:i=F:=by omega
    subst e
    have HE:Hid (f.take i=f):=by unfold Hid;rw[<-J.out,List.take_length]
    rw[HE.out] at HO A S V |-
    obtain⟨K,hK⟩:∃ K,K=bK (f,d) 0 f:=⟨_,rfl⟩
    have g4:Hid (∀ r∈K,r.1.length<=1000):=λr hr=>by
     rw[hK] at hr
     have:=f2.out r (iN _ _ _ r hr)
     omega
    rw[<-hK] at HO A S V co |-
    clear hK
    have hR:be l.heap.size l (.slice T K.length U) K:=oV HO.out A.out (by omega)
    have bp:Hid (∀ w',Below l.heap.size l w'->Calls Tryz.prog 246 #[.slice T K.length U,.int .i64 d] w' λe ad=>e=.returned (.slice T (cA d K).length U)/\ad=w'):=λw' h=>s7 l.heap.size T K.length U K d w' (hR.later h (Nat.le_refl _)) (by omega)
    have e2:Hid (∀ w',Below l.heap.size l w'->Calls Tryz.prog 110 #[.agg #[.slice T (cA d K).length U,.int .i64 d]] w' λe ad=>∃ v,e=.returned v/\aN w'.heap.size ad v (cA d K,d)/\Below w'.heap.size w' ad):=λw' h=>by
     have ht:=rT d K
     have g8:(cA d K).length<=K.length:=by rw[ht,List.length_take];omega
     refine mC l.heap.size _ (cA d K,d) w' ⟨_,rfl,ca.out,?_⟩ h.size (by show (cA d K).length<=1000;omega) (λr hr=>g4.out r (by rw[ht] at hr;exact List.mem_of_mem_take hr))
     have:=og (hR.later h (Nat.le_refl _)) (cA d K).length g8
     rw[<-ht] at this
     exact this
    have i1:¬((i:Int)<(i:Int)):=by omega
    have e4:=hid gr
    have b8:=hid R
    have bq:=zb.ne l (w.heap.size+1)
    have q1:∀ z:zb l (w.heap.size+1),z.1.cell? ⟨w.heap.size,1,none⟩=some (.int .i64 d):=λz=>z.cell (ab gp 1 rfl) (Nat.lt_succ_self _)
    have ak:Hid (w.heap.size+1<l.heap.size):=by unfold Hid;omega
    have Z:Hid (∀ fs w',zX l (w.heap.size+1) (cA d K,d) fs w'->∃ z:zb l (w.heap.size+1),w'=z.1):=λfs w' h=>⟨⟨w',h.below⟩,rfl⟩
    obtain⟨KL,e6⟩:∃ KL,KL=K.length:=⟨_,rfl⟩
    obtain⟨CL,e7⟩:∃ CL,CL=(cA d K).length:=⟨_,rfl⟩
    rw[<-e6] at bp |-
    rw[<-e7] at bp e2
    clear hR HO A gp gr R e6 e7 S V fq
    go_wp2_with fail
    refine bh [_,_,_,_,_,_,_,_,_] _ rfl (λk=>k==3||k==7||k==8) (zX l (w.heap.size+1) (cA d K,d)) (ET (.slice T CL U) d) (BB _ _) (by kernel_rfl) (by kernel_rfl) zX.start ?_
    iterate 3 (refine aH Z.out rfl rfl ?_;go_big_quiet_step (fail);refine wpQuiet_nil ?_)
    refine bu 246 #[.slice T KL U,.int .i64 d] rfl rfl (λw'=>by kernel_rfl) (λgs w' q t y=>?_) (λv3 gc=>?_)
    ·have gj:∀ u,¬gs 7 u:=λu h7=>by
      obtain⟨u',h3⟩:=q.first u h7
      exact y _ h3
     have br:∀ u,¬gs 8 u:=λu h8=>by
      obtain⟨v,d',h1,_⟩:=q.stored u h8
      exact gj _ h1
     refine (bp.out w' (q.early br)).mono ?_
     rintro e w2 ⟨rfl,rfl⟩
     exact⟨_,rfl,rfl,q.other _⟩
    simp only[Act.put,List.setIfInBounds_toArray,List.set_cons_succ,List.set_cons_zero]
    obtain rfl:v3=.slice T CL U:=gc
    iterate 2 (refine aH Z.out rfl rfl ?_;go_big_quiet_step (fail);refine wpQuiet_nil ?_)
    refine iR (.agg #[.slice T CL U,.int .i64 d]) rfl rfl (λw'=>?_) ?_
    ·clear q1 Z bq
     go_simp
    simp only[Act.put,List.setIfInBounds_toArray,List.set_cons_succ,List.set_cons_zero]
    refine bu 110 #[.agg #[.slice T CL U,.int .i64 d]] rfl rfl (λw'=>by kernel_rfl) (λgs w' q t y=>?_) (λv7 go=>?_)
    ·have br:∀ u,¬gs 8 u:=λu h8=>by
      obtain⟨v,d',h1,_⟩:=q.stored u h8
      exact y _ h1
     refine (e2.out w' (q.early br)).mono ?_
     rintro e w2 ⟨v,rfl,ea,hb⟩
     obtain⟨vr,ev,hZ,a7,c7,er,-⟩:=ea.at
     exact⟨v,rfl,⟨a7,_,c7,by rw[ev,er]⟩,q.copy y (t 3 _ (.inr ⟨rfl,rfl⟩) (zQ0 (by kernel_rfl))) ak.out hb v ea⟩
    simp only[Act.put,List.setIfInBounds_toArray,List.set_cons_succ,List.set_cons_zero]
    obtain⟨a7,n7,c7,rfl⟩:∃ a n c,v7=.agg #[.slice a n c,.int .i64 d]:=go
    refine eB rfl rfl (λgs w' q t y=>⟨(w'.setCell ⟨w.heap.size+1,0,none⟩ (.slice a7 n7 c7)).setCell ⟨w.heap.size+1,1,none⟩ (.int .i64 d),?_,trivial,q.store y ak.out _ _ _ (t 7 _ (.inr ⟨rfl,rfl⟩) (zQ0 (by kernel_rfl))) e4.out⟩) (λv8 i3=>?_)
    ·have hg:w'.heap[w.heap.size+1]?=some (.cells #[.slice none 0 0,.int .i64 0] 30 (0,0)):=((q.early y).block _ ak.out).trans e4.out
     have r0:=ab hg 0 rfl
     have r1:=ab hg 1 rfl
     have f0:w'.frozen? ⟨w.heap.size+1,0,none⟩=false:=by simp[World.frozen?,hg]
     have f1:w'.frozen? ⟨w.heap.size+1,1,none⟩=false:=by simp[World.frozen?,hg]
     clear q t y q1 Z bq hg
     go_simp
    simp only[Act.put,List.setIfInBounds_toArray,List.set_cons_succ,List.set_cons_zero]
    refine dF ?_
    intro w9 q
    obtain⟨vv,dd,bs,Y⟩:=q.stored _ (.inr ⟨rfl,rfl⟩)
    have e9:=q.one _ _ bs (.inl (.inr ⟨rfl,rfl⟩))
    simp at e9
    obtain⟨rfl,rfl⟩:=e9
    have gz:Hid (aN w.heap.size w9 (.agg #[.slice a7 n7 c7,.int .i64 d]) (cA d K,d)):=(q.copied _ bs).keep (by have:=ak.out;omega) (λ_ _ _=>rfl) (Nat.le_refl _)
    have bm:Hid (Below w.heap.size w w9):=b8.out.trans (q.below.mono (Nat.le_succ _))
    have r0:=ab Y 0 rfl
    have r1:=ab Y 1 rfl
    clear q Y bs q1 Z bq
    go_wp2_with fail
    refine bodyPost_ret (v:=.tuple #[.agg #[.slice a7 n7 c7,.int .i64 d],.int .i64 0]) ?_ rfl ⟨_,by rw[d1.out],by rw[co.out];exact gz.out,bm.out⟩
    rw[results_cell_tmp rfl]
    go_simp
end Go.Proofs.YtnpdhopjpjickaaGreatDoor
end
section
set_option linter.all false
set_option maxRecDepth 100000
namespace Go.Proofs.YtnpdhopjpjickaaGreatDoor
open Go.RowKit Go.Maps
set_option maxHeartbeats 8000000 in
theorem yV (B:Nat) (pv qv:Value) (p q:ap) (w:World) (hp:bG B w pv p) (hq:bG B w qv q) (S:B<=w.heap.size):
  Calls Tryz.prog 217 #[pv,qv] w λe c=>∃ v,e=.returned (.tuple #[v,.int .i64 (gi p q)])/\aN w.heap.size c v (eE p q)/\Below w.heap.size w c:=by
 have HF:Hid (∀ c,Below w.heap.size w c->Calls Tryz.prog 231 #[qv,pv] c λe z=>e=.returned (.tuple #[.bool (dE q p).isSome,.agg #[.int .i64 (ga q p 0),.int .i64 (ga q p 1),.int .i64 (ga q p 2),.int .i64 (ga q p 3),.int .i64 (ga q p 4)],.int .i64 (bz [q,p])])/\Below c.heap.size c z):=λc h=>xA B qv pv q p c (hq.later h S) (hp.later h S) (Nat.le_trans S h.size)
 have r:Hid (∀ c,Below w.heap.size w c->Calls Tryz.prog 232 #[qv,pv] c λe z=>∃ v,e=.returned (.tuple #[v,.int .i64 (eU true q p)])/\aN c.heap.size z v (eI true q p)/\Below c.heap.size c z):=λc h=>xU B qv pv q p c (hq.later h S) (hp.later h S) (Nat.le_trans S h.size)
 have o:Hid (gi p q=if bz [q,p]=0 then (if (dE q p).isSome then 7 else if eU true q p=0 then bz [eI true q p] else eU true q p) else bz [q,p]):=rfl
 have i:Hid (eE p q=if gi p q=0 then iw (eI true q p) else ([],0)):=rfl
 obtain⟨I,d⟩:=p
 obtain⟨J,f⟩:=q
 obtain⟨rv,rfl,-,a,T,rfl,-⟩:=hp
 obtain⟨sv,rfl,-,b,s,rfl,-⟩:=hq
 simp only at HF r
 generalize ga (J,f) (I,d)=c1 at*
 generalize (dE (J,f) (I,d)).isSome=lo at*
 generalize bz [(J,f),(I,d)]=pe at*
 generalize eU true (J,f) (I,d)=U at*
 generalize eI true (J,f) (I,d)=K at*
 generalize gi (I,d) (J,f)=A at*
 generalize eE (I,d) (J,f)=dr at*
 generalize I.length=n1 at*
 generalize J.length=n2 at*
 clear S
 obtain⟨t,j⟩:∃ t,t=((w.alloc (.cells #[.slice a n1 T,.int .i64 d] 30)).alloc (.cells #[.slice b n2 s,.int .i64 f] 30)).alloc (.cells #[.slice none 0 0,.int .i64 0] 30):=⟨_,rfl⟩
 have bv:t.heap.size=w.heap.size+1+1+1:=by rw[j];simp
 have V:Below w.heap.size w t:=by rw[j];exact (((Below.refl _ _).alloc (Nat.le_refl _) _).alloc (by simp) _).alloc (by simp;omega) _
 have g0:t.heap[w.heap.size]?=some (.cells #[.slice a n1 T,.int .i64 d] 30 (0,0)):=by
  rw[j]
  exact bM _ (bM _ (bE _ _ rfl))
 have g1:t.heap[w.heap.size+1]?=some (.cells #[.slice b n2 s,.int .i64 f] 30 (0,0)):=by
  rw[j]
  exact bM _ (bE _ _ (by simp only[World.size_alloc]))
 have k:t.heap[w.heap.size+1+1]?=some (.cells #[.slice none 0 0,.int .i64 0] 30 (0,0)):=by
  rw[j]
  exact bE _ _ (by simp only[World.size_alloc])
 have HG:Hid (∀ c,Below t.heap.size t c->c.heap[w.heap.size]?=some (.cells #[.slice a n1 T,.int .i64 d] 30 (0,0))/\c.heap[w.heap.size+1]?=some (.cells #[.slice b n2 s,.int .i64 f] 30 (0,0))/\c.heap[w.heap.size+1+1]?=some (.cells #[.slice none 0 0,.int .i64 0] 30 (0,0))):=λc h=>⟨(h.block _ (by omega)).trans g0,(h.block _ (by omega)).trans g1,(h.block _ (by omega)).trans k⟩
 have HW:=hid j
 clear j g0 g1 k
 go_enter Tryz.func217,Tryz.ntmps217
 go_wp2_with fail
 rw[<-HW.out]
 go_at_call 231
 refine Calls.mono (HF.out _ V) ?_
 rintro e C ⟨rfl,u⟩
 have aa:=u.size
 have m:Below w.heap.size w C:=Below.thenOf V u V.size
 obtain⟨g0,g1,k⟩:=HG.out C u
 have l2:w.heap.size+1+1<C.heap.size:=by omega
 have z0:=ab k 0 rfl
 have z1:=ab k 1 rfl
 have ac:C.frozen? ⟨w.heap.size+1+1,0,none⟩=false:=by simp[World.frozen?,k]
 have ad:C.frozen? ⟨w.heap.size+1+1,1,none⟩=false:=by simp[World.frozen?,k]
 have y0:=ab g0 0 rfl
 have y1:=ab g0 1 rfl
 have x0:=ab g1 0 rfl
 have x1:=ab g1 1 rfl
 have l0:w.heap.size<C.heap.size:=by omega
 have l1:w.heap.size+1<C.heap.size:=by omega
 have M:∀ X,Below w.heap.size w (C.alloc X):=λX=>m.alloc m.size X
 have N:∀ X,Below t.heap.size t (C.alloc X):=λX=>u.alloc aa X
 have D:Hid _:=M
 have O:=hid m
 have x:Hid _:=N
 clear g0 g1 k HF M N u m aa
 by_cases hz:pe=0
 ·subst hz
  cases lo with
  | true=>
   have y:Hid (A=7/\dr=([],0)):=by
    have e:A=7:=by rw[o.out];rfl
    exact⟨e,by rw[i.out,if_neg (by rw[e];decide)]⟩
   clear o i r
   go_wp2_with fail
   refine bodyPost_ret (v:=.tuple #[.agg #[.slice none 0 0,.int .i64 0],.int .i64 7]) ?_ rfl ⟨_,by rw[y.out.1],by rw[y.out.2];exact iH _ _,?_⟩
   ·rw[results_cell_tmp rfl]
    go_simp
   ·repeat (first | exact O.out | refine Below.setCell ?_ (by show w.heap.size<=w.heap.size+1+1;omega) _ | refine Below.alloc ?_ (by simp;omega) _)
  | false=>
   have n:Hid (A=if U=0 then bz [K] else U):=by unfold Hid;rw[o.out];rfl
   clear o
   go_wp2_with fail
   go_at_call 232
   refine Calls.mono (r.out _ (D.out _)) ?_
   rintro e l ⟨dv,rfl,W,E⟩
   have b8:=E.size
   rw[World.size_alloc] at b8
   have P:Below w.heap.size w l:=Below.thenOf (D.out _) E (D.out _).size
   obtain⟨-,-,k⟩:=HG.out l (Below.thenOf (x.out _) E (x.out _).size)
   have Q:∀ X,Below l.heap.size l (l.alloc X):=λX=>(Below.refl _ _).alloc (Nat.le_refl _) X
   have F:Hid (∀ X,Calls Tryz.prog 233 #[dv] (l.alloc X) λe c=>∃ rv,e=.returned (.tuple #[rv,.int .i64 (bz [K])])/\aN (l.alloc X).heap.size c rv (kQ K)/\Below (l.alloc X).heap.size (l.alloc X) c):=λX=>z7 l.heap.size dv K (l.alloc X) (W.at.later (Q X) (Nat.le_refl _)) (Q X).size
   have Y:Hid (kQ K=if bz [K]=0 then iw K else ([],0)):=rfl
   obtain⟨ms,md⟩:=K
   obtain⟨rv,rfl,-,a5,c5,rfl,-⟩:=W.at
   simp only at F
   generalize ms.length=n5 at*
   generalize bz [(ms,md)]=pm at*
   generalize ak:kQ (ms,md)=sr at*
   have bq:=hid ak
   clear ak
   have z0:=ab k 0 rfl
   have z1:=ab k 1 rfl
   have ac:l.frozen? ⟨w.heap.size+1+1,0,none⟩=false:=by simp[World.frozen?,k]
   have ad:l.frozen? ⟨w.heap.size+1+1,1,none⟩=false:=by simp[World.frozen?,k]
   have l2:w.heap.size+1+1<l.heap.size:=by omega
   have Z:Hid _:=P
   have bb:Hid _:=k
   clear D x E P k r W
   by_cases hm:U=0
   ·subst hm
    have y:Hid (A=pm/\dr=sr):=by
     have e:A=pm:=by rw[n.out];rfl
     refine⟨e,?_⟩
     rw[i.out,e,Y.out]
    clear n i Y
    go_wp2_with fail
    go_at_call 233
    refine Calls.mono (F.out _) ?_
    rintro e w6 ⟨sv,rfl,G,H⟩
    have bc:=H.size
    rw[World.size_alloc] at bc G
    have b6:w6.heap[w.heap.size+1+1]?=some (.cells #[.slice none 0 0,.int .i64 0] 30 (0,0)):=(H.block _ (by simp;omega)).trans ((Below.heap_alloc _ _ _ (by omega)).trans bb.out)
    have R:Below w.heap.size w w6:=Below.thenOf (Z.out.alloc Z.out.size _) H (by simp;omega)
    have q0:=ab b6 0 rfl
    have q1:=ab b6 1 rfl
    have c2:w6.frozen? ⟨w.heap.size+1+1,0,none⟩=false:=by simp[World.frozen?,b6]
    have c3:w6.frozen? ⟨w.heap.size+1+1,1,none⟩=false:=by simp[World.frozen?,b6]
    have b0:Hid _:=G
    obtain⟨ts,td⟩:=sr
    obtain⟨rv,e1,-,a6,c6,e2,-⟩:=G.at
    subst e2 e1
    simp only at b0
    generalize ts.length=n6 at*
    have bd:Hid _:=R
    clear G H R b6 F z0 z1 ac ad
    go_wp2_with fail
    refine bodyPost_ret (v:=.tuple #[.agg #[.slice a6 n6 c6,.int .i64 td],.int .i64 pm]) ?_ rfl ⟨_,by rw[y.out.1],?_,?_⟩
    ·rw[results_cell_tmp rfl]
     go_simp
    ·rw[y.out.2]
     refine aN.keep (L:=l.heap.size+1) ?_ (by omega) (λg _ _=>rfl) (Nat.le_refl _)
     repeat (first | exact b0.out | refine aN.put ?_ (.inl (by omega)))
    ·exact (bd.out.setCell (p:=⟨w.heap.size+1+1,0,none⟩) (by show w.heap.size<=w.heap.size+1+1;omega) _).setCell (p:=⟨w.heap.size+1+1,1,none⟩) (by show w.heap.size<=w.heap.size+1+1;omega) _
   ·have y:Hid (A=U/\dr=([],0)):=by
     have e:A=U:=by rw[n.out,if_neg hm]
     exact⟨e,by rw[i.out,if_neg (by rw[e];exact hm)]⟩
    have hq:(U != 0)=true:=by simpa using hm
    clear n i Y hm F
    go_wp2_with fail
    refine bodyPost_ret (v:=.tuple #[.agg #[.slice none 0 0,.int .i64 0],.int .i64 U]) ?_ rfl ⟨_,by rw[y.out.1],by rw[y.out.2];exact iH _ _,?_⟩
    ·rw[results_cell_tmp rfl]
     go_simp
    ·repeat (first | exact Z.out | refine Below.setCell ?_ (by show w.heap.size<=w.heap.size+1+1;omega) _ | refine Below.alloc ?_ (by simp;omega) _)
 ·have y:Hid (A=pe/\dr=([],0)):=by
   have e:A=pe:=by rw[o.out,if_neg hz]
   exact⟨e,by rw[i.out,if_neg (by rw[e];exact hz)]⟩
  have hq:(pe != 0)=true:=by simpa using hz
  have cd:(pe==0)=false:=by simpa using hz
  clear o i r hz
  go_wp2_with fail
  refine bodyPost_ret (v:=.tuple #[.agg #[.slice none 0 0,.int .i64 0],.int .i64 pe]) ?_ rfl ⟨_,by rw[y.out.1],by rw[y.out.2];exact iH _ _,?_⟩
  ·rw[results_cell_tmp rfl]
   go_simp
  ·repeat (first | exact O.out | refine Below.setCell ?_ (by show w.heap.size<=w.heap.size+1+1;omega) _ | refine Below.alloc ?_ (by simp;omega) _)
theorem zu (B:Nat) (a b:Value) (p q:ap) (w:World) (d:bG B w a p) (f:bG B w b q) (g:B<=w.heap.size):
  Calls Tryz.prog 217 #[a,b] w λe c=>∃ v,e=.returned (.tuple #[v,.int .i64 (gi p q)])/\bG c.heap.size c v (eE p q)/\Below w.heap.size w c:=
 (yV B a b p q w d f g).mono λ_ _ ⟨v,h,i,j⟩=>⟨v,h,i.at,j⟩
set_option maxHeartbeats 8000000 in
theorem vg (B:Nat) (lv pv qv:Value) (g:gf) (p q:ap) (w:World) (hl:cH B w lv g) (hp:bG B w pv p) (hq:bG B w qv q) (Q:B<=w.heap.size):
  Calls Tryz.prog 189 #[lv,pv,qv] w λe c=>∃ v,e=.returned (.tuple #[v,.int .i64 (dm g p q)])/\cW w.heap.size c v (eC g p q)/\Below w.heap.size w c:=by
 have HL:Hid (∀ c,Below w.heap.size w c->cH B c lv g):=λc h=>hl.later h Q
 have HC:Hid (∀ c,Below w.heap.size w c->Calls Tryz.prog 52 #[lv] c λe j=>e=.returned (.int .i64 (aZ g))/\Below c.heap.size c j):=λc h=>nH B lv g c (hl.later h Q) (Nat.le_trans Q h.size)
 have HD:Hid (∀ c,Below w.heap.size w c->Calls Tryz.prog 217 #[pv,qv] c λe j=>∃ v,e=.returned (.tuple #[v,.int .i64 (gi p q)])/\bG j.heap.size j v (eE p q)/\Below c.heap.size c j):=λc h=>zu B pv qv p q c (hp.later h Q) (hq.later h Q) (Nat.le_trans Q h.size)
 have G:Hid (dm g p q=if aZ g=0 then (if gi p q=0 then (if g.length=6 then 2 else du (eE p q)) else gi p q) else aZ g):=rfl
 have o:Hid (eC g p q=if dm g p q=0 then g++[cO (eE p q)] else []):=rfl
 have H:Hid (aZ g=0->g.length<=6/\∀ f∈g,f.length<=100000):=λh=>⟨(dN.1 h).1,λf hf=>Nat.le_trans (np ((dN.1 h).2 f hf)).2.1 (by decide)⟩
 have a0:Hid (∀ c,Below w.heap.size w c->g.length<=1000->(∀ f∈g,f.length<=100000)->Calls Tryz.prog 109 #[lv] c λe j=>∃ v,e=.returned v/\∃ R,j.ownsRow c.heap.size 85 1 v g.length R/\iy c.heap.size j R g/\Below c.heap.size c j):=λc h h1 h2=>rR B lv g c (hl.later h Q) (Nat.le_trans Q h.size) h1 h2
 obtain⟨la,ao,rfl,c0,d6,-⟩:=hl
 obtain⟨rs,d⟩:=p
 obtain⟨ss,f⟩:=q
 obtain⟨rv,rfl,-,a,a1,rfl,-⟩:=hp
 obtain⟨sv,rfl,-,b,I,rfl,-⟩:=hq
 simp only at HC HD
 have dc:=ag
 obtain⟨M,a2⟩:∃ n,n=g.length:=⟨_,rfl⟩
 have b1:=hid a2.symm
 rw[<-a2] at HL HC G H a0 c0 |-
 clear a2
 generalize aZ g=ce at*
 generalize gi (rs,d) (ss,f)=de at*
 generalize eE (rs,d) (ss,f)=K at*
 generalize dm g (rs,d) (ss,f)=F at*
 generalize eC g (rs,d) (ss,f)=tr at*
 generalize rs.length=n1 at*
 generalize ss.length=n2 at*
 obtain⟨S,C⟩:∃ S,S=(w.alloc (.cells #[.slice a n1 a1,.int .i64 d] 30)).alloc (.cells #[.slice b n2 I,.int .i64 f] 30):=⟨_,rfl⟩
 have dd:S.heap.size=w.heap.size+1+1:=by rw[C];simp
 have a5:Below w.heap.size w S:=by rw[C];exact ((Below.refl _ _).alloc (Nat.le_refl _) _).alloc (by simp) _
 have g0:S.heap[w.heap.size]?=some (.cells #[.slice a n1 a1,.int .i64 d] 30 (0,0)):=by
  rw[C]
  exact bM _ (bE _ _ rfl)
 have g1:S.heap[w.heap.size+1]?=some (.cells #[.slice b n2 I,.int .i64 f] 30 (0,0)):=by
  rw[C]
  exact bE _ _ (by simp only[World.size_alloc])
 have HG:Hid (∀ c,Below S.heap.size S c->c.heap[w.heap.size]?=some (.cells #[.slice a n1 a1,.int .i64 d] 30 (0,0))/\c.heap[w.heap.size+1]?=some (.cells #[.slice b n2 I,.int .i64 f] 30 (0,0))):=λc h=>⟨(h.block _ (by omega)).trans g0,(h.block _ (by omega)).trans g1⟩
 have HW:=hid C
 clear C g0 g1
 go_enter Tryz.func189,Tryz.ntmps189
 go_wp2_with fail
 rw[<-HW.out]
 go_at_call 52
 refine Calls.mono (HC.out _ a5) ?_
 rintro e w3 ⟨rfl,N⟩
 have dl:=N.size
 have t:Below w.heap.size w w3:=Below.thenOf a5 N a5.size
 clear HC
 by_cases T:ce=0
 ·subst T
  have dn:=(H.out rfl).1
  have U:Hid (∀ f∈g,f.length<=100000):=(H.out rfl).2
  obtain⟨g0,g1⟩:=HG.out w3 N
  have y0:=ab g0 0 rfl
  have y1:=ab g0 1 rfl
  have x0:=ab g1 0 rfl
  have x1:=ab g1 1 rfl
  have r:Hid (F=if de=0 then (if M=6 then 2 else du K) else de):=by unfold Hid;rw[G.out,if_pos rfl]
  clear g0 g1 G H
  go_wp2_with fail
  go_at_call 217
  refine Calls.mono (HD.out _ t) ?_
  rintro e L ⟨dv,rfl,b3,b4⟩
  have V:Below w.heap.size w L:=Below.thenOf t b4 t.size
  have W:∀ X,Below L.heap.size L (L.alloc X):=λX=>(Below.refl _ _).alloc (Nat.le_refl _) X
  have D:Hid (∀ X,Calls Tryz.prog 188 #[dv] (L.alloc X) λe c=>∃ fv,e=.returned (.tuple #[fv,.int .i64 (du K)])/\c.ownsRow (L.alloc X).heap.size 122 4 fv (fW K).length (aE (fW K))/\(∀ i∈fW K,iB i)/\Below (L.alloc X).heap.size (L.alloc X) c):=λX=>pO L.heap.size dv K (L.alloc X) (b3.later (W X) (Nat.le_refl _)) (W X).size
  have a6:Hid (du K=0->fW K=cO K):=λh=>by rw[fW,if_pos h]
  obtain⟨s,x⟩:=K
  obtain⟨rv,rfl,-,a4,c4,rfl,-⟩:=b3
  simp only at D
  generalize s.length=n4 at*
  have l:Hid _:=V
  clear b4 V t N y0 y1 x0 x1 HD
  by_cases hd:de=0
  ·subst hd
   by_cases h6:M=6
   ·subst h6
    have z:Hid (F=2/\tr=[]):=by
     have e:F=2:=by rw[r.out];rfl
     exact⟨e,by rw[o.out,if_neg (by rw[e];decide)]⟩
    clear r o D
    go_wp2_with fail
    go_ret2
    exact⟨_,by rw[z.out.1];rfl,by rw[z.out.2];exact jh _ _,l.out.alloc l.out.size _⟩
   ·have c6:¬(M:Int)=6:=by omega
    have e1:((M:Int)==6)=false:=by simpa using c6
    have A:Hid (F=du (s,x)):=by unfold Hid;rw[r.out,if_pos rfl,if_neg h6]
    clear r h6
    go_wp2_with fail
    go_at_call 188
    refine Calls.mono (D.out _) ?_
    rintro e J ⟨fv,rfl,E,O,P⟩
    by_cases y:du (s,x)=0
    ·have z:Hid (F=0/\tr=g++[cO (s,x)]):=by
      have e:F=0:=by rw[A.out,y]
      exact⟨e,by rw[o.out,if_pos e]⟩
     rw[a6.out y] at E O
     rw[y]
     clear y A o a6 D
     obtain⟨fa,fc,a7,-,-⟩:=ax E
     subst a7
     have m:Below w.heap.size w J:=Below.thenOf (l.out.alloc l.out.size _) P (by simp;have:=l.out.size;omega)
     have b7:=m.size
     have b8:Hid (J.ownsRow w.heap.size 122 4 (.slice fa (cO (s,x)).length fc) (cO (s,x)).length (aE (cO (s,x)))/\∀ i∈cO (s,x),iB i):=⟨cK E (by have:=l.out.size;simp;omega),O⟩
     have Y:Hid (Calls Tryz.prog 109 #[.slice la M ao] J λe j=>∃ v,e=.returned v/\∃ R,j.ownsRow J.heap.size 85 1 v M R/\iy J.heap.size j R g/\Below J.heap.size J j):=a0.out J m (by omega) U.out
     have Z:Hid _:=m
     obtain⟨e2,c7,c8,c9,ca⟩:=zI
     clear E O P m a0 U
     generalize b9:(cO (s,x)).length=fl at*
     have ba:=hid b9
     clear b9
     go_wp2_with fail
     go_at_call 109
     refine Calls.mono Y.out ?_
     rintro e w6 ⟨v6,rfl,R,a8,bb,a9⟩
     have cb:=a9.size
     have bc:=hid a8
     have cc:=hid bb
     have bd:=hid a9
     obtain⟨va,vc,ev,-⟩:=ax a8
     subst ev
     have cd:(M+1)*24<=140737488355328:=by omega
     have cf:M+1<=maxLen:=by omega
     clear a8 bb a9 Y
     go_wp2_with (first | (at_builtin;go_must (refine pX _ rfl _ _ rfl Tryz.underlying44 c7 c8 c9 ca rfl (by decide) J.heap.size _ _ _ rfl _ 1 [.slice fa fl fc] rfl _ rfl (by simp) w6 (Below.refl _ _) bc.out rfl (by intro u hu;simp at hu;subst hu;rfl) cf cd cb ?_;intro v8 w8 ho8 hb8 hg8)))
     have bf:dT 122 w6 w8:=λk e4 fr hk=>(hg8.out.block k (lt_of_block hk) (λe=>by
      obtain⟨d0,T⟩:=dh bc.out k e.symm
      rw[hk] at T
      cases T)).trans hk
     have bg:dT 122 J w8:=(dT.of_below bd.out).trans bf
     have e8:(g++[cO (s,x)]).length=M+1:=by simp[b1.out]
     have cl:cW w.heap.size w8 v8 (g++[cO (s,x)]):=by
      refine nN (xs:=R++[.slice fa fl fc]) (by rw[e8];exact cK ho8.out b7) ?_
      have h2:w8.ownsRow w.heap.size 122 4 (.slice fa fl fc) (cO (s,x)).length (aE (cO (s,x))):=by
       have:=ex b8.out.1 bg
       rw[ba.out]
       exact this
      exact (((cc.out.keep bf).base b7).snoc h2 b8.out.2)
     have bk:Below w.heap.size w w8:=Below.thenOf Z.out (bd.out.trans hb8) Z.out.size
     go_ret2
     exact⟨_,by rw[z.out.1];rfl,by rw[z.out.2];exact cl,bk⟩
    ·have z:Hid (F=du (s,x)/\tr=[]):=by
      have e:F=du (s,x):=A.out
      exact⟨e,by rw[o.out,if_neg (by rw[e];exact y)]⟩
     have hq:(du (s,x) != 0)=true:=by simpa using y
     clear y A o a6 D
     generalize du (s,x)=cp at*
     have m:Below w.heap.size w J:=Below.thenOf (l.out.alloc l.out.size _) P (by simp;have:=l.out.size;omega)
     obtain⟨fa,fc,a7,-⟩:=ax E
     subst a7
     have cn:Hid _:=m
     clear E O P m
     generalize (fW (s,x)).length=fl at*
     go_wp2_with fail
     go_ret2
     exact⟨_,by rw[z.out.1];rfl,by rw[z.out.2];exact jh _ _,cn.out⟩
  ·have z:Hid (F=de/\tr=[]):=by
    have e:F=de:=by rw[r.out,if_neg hd]
    exact⟨e,by rw[o.out,if_neg (by rw[e];exact hd)]⟩
   have hq:(de != 0)=true:=by simpa using hd
   have e6:(de==0)=false:=by simpa using hd
   clear r o D hd
   go_wp2_with fail
   go_ret2
   exact⟨_,by rw[z.out.1];rfl,by rw[z.out.2];exact jh _ _,l.out.alloc l.out.size _⟩
 ·have z:Hid (F=ce/\tr=[]):=by
   have e:F=ce:=by rw[G.out,if_neg T]
   exact⟨e,by rw[o.out,if_neg (by rw[e];exact T)]⟩
  have hq:(ce != 0)=true:=by simpa using T
  clear G o T HD H
  go_wp2_with fail
  go_ret2
  exact⟨_,by rw[z.out.1];rfl,by rw[z.out.2];exact jh _ _,t⟩
end Go.Proofs.YtnpdhopjpjickaaGreatDoor
end
