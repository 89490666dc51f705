import Derived.Test.YtjdnfhkkkejcfaaGreatDoorWd11
import Derived.Sort.OwnSortedInts
set_option linter.all false
set_option maxRecDepth 100000
set_option maxHeartbeats 8000000
namespace Go.Proofs.YtjdnfhkkkejcfaaGreatDoor
open Go.RowKit Go.Maps Go.Proofs.Tryz
section
open Go.Sort
theorem Db(B lv ps f)(hf:wf f)(w)(hl:iH B w lv ps)(c9:gn ps)(hB:B<=w.1.size)(hn:ps.length<=5000000000):
  cL 181 #[lv,U f] w λe w'=>∃v,e=.returned v/\w'.ownsRow w.1.size 3 1 v (cw ps f).length ((cw ps f).map (.int .i64))/\bL w w':=by
 obtain⟨hd,es,et,eu,ev⟩:=E4;have HL:=Z λw' (h:bL w w')=>hl.l h hB
 have ca:=Z c9
 have ew:Hid (∀i,(bh (ps.take i)).length<=ps.length*1200):=λi=>by
  have:=jP (ps.take i) λp hp=>c9 p (KZ hp)
  rw[Kt] at this;have h2:min i ps.length*1200<=ps.length*1200:=Lz _ (by omega);exact Kl this h2
 obtain⟨a,ho,rfl,hs,ht,-⟩:=hl;have hu:=ai;generalize bq:ps.length=L at*;have a9:=Z bq;clear bq c9;have ex:=@run_makeMap prog;have dd:Hid _:=Le (H:=Unit) w prog 3 jl;have ey:∀X,bL w (w.alloc X):=λX=>bR.alloc lE _
 go_enter func181,ntmps181
 go_wp2_with (first
  |(refine am _ rfl _ _ _ 250 rfl 3 4 iK Tryz.underlying250 _ w.1.size 0 _ rfl dd.o (by decide) _ _ _ rfl rfl (KF Tryz.underlying3 (by decide)) _ [] rfl ?_;intro w1 aa de))
 have df:bL w w1:=(ey _).grown de (by simp) (λk hk=>by cases hk;exact Ke _)
 have eF:Hid (mB w w1 w.1.size f (bh (ps.take 0))):=by
  refine⟨df,_,aa,λn hn=>?_⟩
  by_cases e:n=0
  ·subst e;rw[L7 LM (Hu 0)];simp[vq,bh]
  rw[KT (by simpa using e)];simp[vq,bh,e];rfl
 clear aa de dd ex;go_loopw [19] (λiv wr=>∃i:Nat,i<=L/\iv=U i/\Hid (mB w wr w.1.size f (bh (ps.take i)))) (λiv _=>L-(intOf iv).toNat)
 case atStart=>exact⟨0,by omega,rfl,eF⟩
 case round=>
  obtain⟨i,hi,rfl,HS⟩:=hrel;have⟨wo,eO⟩:=nM (wr);subst eO;have i0:(0:Int)<=(i:Int):=by omega
  have dk:=HS.o.1;have cb:=dk.size
  by_cases hv:i<L
  ·have i1:(i:Int)<(L:Int):=by omega
   obtain⟨p,cd⟩:∃p,ps[i]?=some p:=⟨ps[i]'(by rw[a9.o];omega),by simp⟩;have HP:=Z (pj ps i p cd);have⟨ac,_,dl⟩:=cY (ca.o p (Kb cd));have ce:=Z (cM dl);clear dl;obtain⟨_,_,e1,-,-,l⟩:=HL.o _ dk;have⟨b,o,e,hw,eV⟩:=l i p cd;simp at e1;obtain⟨rfl,-,-⟩:=e1;subst e;clear l;obtain⟨rs,d⟩:=p;obtain⟨rv,k0,k1,-,dn⟩:=eV;have dp:=Z λw' (h:Below w.1.size wo w')=>dn.l h hB
   obtain⟨a2,c2,f1,bv,gA,-⟩:=dn;subst f1;simp only[] at ac ce k0 k1 bv;have⟨m,hm⟩:=nM (rs.length);have cf:=Z hm.symm;rw[<-hm] at k0 bv ac;simp only[<-hm] at dp;clear hm;have f2:=ew.o i;have⟨D0,dr⟩:=nM (bh (ps.take i));rw[<-dr] at f2 HS HP;clear dr
   have f3:Hid (∀X,mB w (wo.alloc X) w.1.size f (D0++(rs.take 0).flatMap (·.1))):=λX=>by
    have:=HS.o.l ((Kf wo.1.size _).alloc lE X)
    simpa using this
   have f4:Hid (∀X,Below w.1.size wo (wo.alloc X)):=λX=>bR.alloc cb _
   have f9:Hid (∀j,((rs.take j).flatMap (·.1)).length<=1200):=λj=>by
    have:=jg (rs.take j) λr hr=>ce.o r (KZ hr)
    rw[Kt,cf.o] at this;omega
   go_wp2;go_loopw [26] (λjv wr=>∃j:Nat,j<=m/\jv=U j/\Hid (mB w wr w.1.size f (D0++(rs.take j).flatMap (·.1)))/\Below w.1.size wo wr) (λjv _=>m-(intOf jv).toNat)
   case atStart=>exact⟨0,by omega,rfl,f3.o _,f4.o _⟩
   case round=>
    obtain⟨j,hj,rfl,b7,ci⟩:=hrel;have⟨wj,fb⟩:=nM (wr);subst fb;have j0:(0:Int)<=(j:Int):=by omega
    have hC:=ci.size;have fd:=b7.o.1.size
    by_cases hD:j<m
    ·have j1:(j:Int)<(m:Int):=by omega
     obtain⟨r,ck⟩:∃r,rs[j]?=some r:=⟨rs[j]'(by rw[cf.o];omega),by simp⟩;have cl:=Z (oq rs j r ck);have⟨bz,_,b8⟩:=dy (ce.o r (Kb ck));have ds:=Z (fy b8);clear b8;obtain⟨_,_,e1,-,-,l⟩:=dp.o _ ci;have⟨b3,o3,e,gD,b8⟩:=l j r ck;simp at e1;obtain⟨rfl,-,-⟩:=e1;subst e;clear l;obtain⟨cs,vd⟩:=r;obtain⟨cv,q0,q1,-,dv⟩:=b8;have e0:=Z λw' (h:Below w.1.size wj w')=>dv.l h hB
     obtain⟨a3,c3,fe,bF,gM,-⟩:=dv;subst fe;simp only[] at bz ds q0 q1 bF cl;have⟨n3,b9⟩:=nM (cs.length);have c0:=Z b9.symm;rw[<-b9] at q0 bF bz;simp only[<-b9] at e0;clear b9;have fi:=f9.o j;have⟨D1,ba⟩:=nM (D0++(rs.take j).flatMap (·.1));have gT:D1.length<=L*1200+1200:=by rw[ba,Kj];omega
     rw[<-ba] at b7;have fl:=Z (by rw[cl.o,ba,KI]:D0++(rs.take (j+1)).flatMap (·.1)=D1++cs);clear ba cl fi
     have fn:Hid (∀X,mB w (wj.alloc X) w.1.size f (D1++cs.take 0)):=λX=>by
      have:=b7.o.l ((Kf wj.1.size _).alloc lE X)
      simpa using this
     have fo:Hid (∀X,Below w.1.size wj (wj.alloc X)):=λX=>bR.alloc fd _
     go_wp2;go_loopw [33] (λkv wr=>∃k:Nat,k<=n3/\kv=U k/\Hid (mB w wr w.1.size f (D1++cs.take k))/\Below w.1.size wj wr) (λkv _=>n3-(intOf kv).toNat)
     case atStart=>exact⟨0,by omega,rfl,fn.o _,fo.o _⟩
     case round=>
      obtain⟨k,hk,rfl,a1,af⟩:=hrel;have⟨M,fq⟩:=nM (wr);subst fq;have hG:(0:Int)<=(k:Int):=by omega
      have hI:=af.size;have R:=a1.o.1.size
      by_cases hJ:k<n3
      ·have hK:(k:Int)<(n3:Int):=by omega
       obtain⟨c,cn⟩:∃c,cs[k]?=some c:=⟨cs[k]'(by rw[c0.o];omega),by simp⟩;have e3:=Z (xg cs k c cn);have⟨⟨f0,f5⟩,⟨o1,o4⟩,⟨v0,vm⟩⟩:=ft (ds.o c (Kb cn));have fr:=nq c.1;obtain⟨_,_,e1,-,-,l⟩:=e0.o _ af;obtain⟨b4,hS,e,gW,z0,z1,z2,-⟩:=l k c cn;simp at e1;obtain⟨rfl,-,-⟩:=e1;subst e;clear l;have⟨D2,bb⟩:=nM (D1++cs.take k);have gY:D2.length<=L*1200+1300:=by rw[bb,Kj,Kt];omega
       rw[<-bb] at a1;have e4:=Z (by rw[e3.o,bb,KI]:D1++cs.take (k+1)=D2++[c]);clear bb e3;obtain⟨fc,op,v⟩:=c;simp only[] at z0 z1 z2 f0 f5 o1 o4 v0 vm fr;have⟨W5,bc⟩:=nM (M.alloc (.cells #[U fc,U op,U v] 134));have A:=bA bc;have a5:=hA bc;have co:=a1.o.l A
       by_cases a6:fc=f
       ·have I:(fc==f)=true:=by simpa using a6
        subst bc;have a5:Hid _:=a5;have A:Hid _:=A;obtain⟨fs,D,e5,x3⟩:=co;have x1:=Z a1.o.1;have x2:Hid _:=e5;clear e5 fs;have cx:=World.ownsMap.isMap x2.o;have S:some M.1.size≠some w.1.size:=by have:=a1.o.2;obtain⟨D',q,_⟩:=this;have:=q.lt;simp;omega
        have bd:wf v:=L4 (by omega);have t:wf (v+1):=L4 (by omega);have T:2*D2.length+1<maxLen:=by omega
        have V:2*D2.length+1+1<maxLen:=by omega
        have cT:=x3.put cx v true;have⟨gv,d0⟩:=nM (vq f D2 (v+1));have bf:Hid ((D.put (.int .i64 v) (.lit (.bool true))).atKey (.int .i64 (v+1)) (.lit (.bool false))=.lit (.bool gv)):=by have:=cT (v+1) t;simp only[show ¬v+1=v by omega,if_false,<-d0] at this;exact this
        have W:Hid (∀K n7,K.ownsMap prog 3 jl w.1.size n7 ((D.put (.int .i64 v) (.lit (.bool true))).put (.int .i64 (v+1)) (.lit (.bool (gv||(decide (op=1)||decide (op=2))))))->n7=2*D2.length+1+1+1->bL w K->Hid (mB w K w.1.size f (D1++cs.take (k+1)))):=by intro K n7 h7 hX u;rw[e4.o];refine⟨u,_,h7.mono (by simp;omega),(cT.put (cx.put _ _) (v+1) _).congr λn _=>?_⟩;have:=Iz (f:=f) (done:=D2) (c:=(fc,op,v)) a6 n;simp only[] at this;rw[<-this,d0];simp only[show ¬v+1=v by omega,if_false]
        have bg:=Z af;have z:True:=trivial;clear cT cx x3 a6 d0
        cases gv with
        |true=>
         have hE:(true||(decide (op=1)||decide (op=2)))=true:=rfl;have N:Hid _:=hE;clear hE
         go_wp2_with (first
          |(at_mapUpdate;have _t:=z;go_must (refine Ln _ rfl _ _ _ 250 rfl 3 4 iK Tryz.underlying250 jl w.1.size (2*D2.length+1) D rfl x2.o T _ _ _ rfl rfl (KF Tryz.underlying3 bd) _ [] rfl ?_;intro w6 C s;clear z;have E:=(s.block M.1.size (by simp) S).trans a5.o;have y1:=J1 E;have y2:=J2 E;have y:Hid _:=C;clear C))
          |(at_lookup;go_must (refine eT _ rfl _ _ 250 rfl 3 4 iK Tryz.underlying250 (oK _) w.1.size _ _ rfl y.o _ _ rfl (KF Tryz.underlying3 t) ?_;intro cc l;have F:=l.symm.trans bf.o;simp only[Mp,Lit.bool.injEq] at F;subst F;clear l))
          |(at_mapUpdate;go_must (refine Ln _ rfl _ _ _ 250 rfl 3 4 iK Tryz.underlying250 jl w.1.size (2*D2.length+1+1) _ rfl y.o V _ _ _ rfl rfl (KF Tryz.underlying3 t) _ [] rfl ?_;intro K G O)))
         have u:Below w.1.size M K:=((((Kf w.1.size M).alloc R _).grown s (by simp;omega) (λq I=>by cases I;exact Ke _)).grown O (by have:=s.size;simp at this;omega) (λq I=>by cases I;exact Ke _));rw[<-N.o] at G;exact⟨⟨k+1,by omega,by go_num,W.o K _ G rfl (x1.o.trans u),bg.o.trans u⟩,by simp[intOf];omega⟩
        |false=>
         by_cases ak:op=1
         ·subst ak;have N:Hid ((false||(decide ((1:Int)=1)||decide ((1:Int)=2)))=true):=rfl
          go_wp2_with (first
           |(at_mapUpdate;have _t:=z;go_must (refine Ln _ rfl _ _ _ 250 rfl 3 4 iK Tryz.underlying250 jl w.1.size (2*D2.length+1) D rfl x2.o T _ _ _ rfl rfl (KF Tryz.underlying3 bd) _ [] rfl ?_;intro w6 C s;clear z;have E:=(s.block M.1.size (by simp) S).trans a5.o;have y1:=J1 E;have y2:=J2 E;have y:Hid _:=C;clear C))
           |(at_lookup;go_must (refine eT _ rfl _ _ 250 rfl 3 4 iK Tryz.underlying250 (oK _) w.1.size _ _ rfl y.o _ _ rfl (KF Tryz.underlying3 t) ?_;intro cc l;have F:=l.symm.trans bf.o;simp only[Mp,Lit.bool.injEq] at F;subst F;clear l))
           |(at_mapUpdate;go_must (refine Ln _ rfl _ _ _ 250 rfl 3 4 iK Tryz.underlying250 jl w.1.size (2*D2.length+1+1) _ rfl y.o V _ _ _ rfl rfl (KF Tryz.underlying3 t) _ [] rfl ?_;intro K G O)))
          have u:Below w.1.size M K:=((((Kf w.1.size M).alloc R _).grown s (by simp;omega) (λq I=>by cases I;exact Ke _)).grown O (by have:=s.size;simp at this;omega) (λq I=>by cases I;exact Ke _));rw[<-N.o] at G;exact⟨⟨k+1,by omega,by go_num,W.o K _ G rfl (x1.o.trans u),bg.o.trans u⟩,by simp[intOf];omega⟩
         have hY:(op==1)=false:=by simpa using ak
         by_cases al:op=2
         ·subst al;have N:Hid ((false||(decide ((2:Int)=1)||decide ((2:Int)=2)))=true):=rfl
          go_wp2_with (first
           |(at_mapUpdate;have _t:=z;go_must (refine Ln _ rfl _ _ _ 250 rfl 3 4 iK Tryz.underlying250 jl w.1.size (2*D2.length+1) D rfl x2.o T _ _ _ rfl rfl (KF Tryz.underlying3 bd) _ [] rfl ?_;intro w6 C s;clear z;have E:=(s.block M.1.size (by simp) S).trans a5.o;have y1:=J1 E;have y2:=J2 E;have y:Hid _:=C;clear C))
           |(at_lookup;go_must (refine eT _ rfl _ _ 250 rfl 3 4 iK Tryz.underlying250 (oK _) w.1.size _ _ rfl y.o _ _ rfl (KF Tryz.underlying3 t) ?_;intro cc l;have F:=l.symm.trans bf.o;simp only[Mp,Lit.bool.injEq] at F;subst F;clear l))
           |(at_mapUpdate;go_must (refine Ln _ rfl _ _ _ 250 rfl 3 4 iK Tryz.underlying250 jl w.1.size (2*D2.length+1+1) _ rfl y.o V _ _ _ rfl rfl (KF Tryz.underlying3 t) _ [] rfl ?_;intro K G O)))
          have u:Below w.1.size M K:=((((Kf w.1.size M).alloc R _).grown s (by simp;omega) (λq I=>by cases I;exact Ke _)).grown O (by have:=s.size;simp at this;omega) (λq I=>by cases I;exact Ke _));rw[<-N.o] at G;exact⟨⟨k+1,by omega,by go_num,W.o K _ G rfl (x1.o.trans u),bg.o.trans u⟩,by simp[intOf];omega⟩
         have hZ:(op==2)=false:=by simpa using al
         have N:=Z (by simp[ak,al]:(false||(decide (op=1)||decide (op=2)))=false)
         go_wp2_with (first
          |(at_mapUpdate;have _t:=z;go_must (refine Ln _ rfl _ _ _ 250 rfl 3 4 iK Tryz.underlying250 jl w.1.size (2*D2.length+1) D rfl x2.o T _ _ _ rfl rfl (KF Tryz.underlying3 bd) _ [] rfl ?_;intro w6 C s;clear z;have E:=(s.block M.1.size (by simp) S).trans a5.o;have y1:=J1 E;have y2:=J2 E;have y:Hid _:=C;clear C))
          |(at_lookup;go_must (refine eT _ rfl _ _ 250 rfl 3 4 iK Tryz.underlying250 (oK _) w.1.size _ _ rfl y.o _ _ rfl (KF Tryz.underlying3 t) ?_;intro cc l;have F:=l.symm.trans bf.o;simp only[Mp,Lit.bool.injEq] at F;subst F;clear l))
          |(at_mapUpdate;go_must (refine Ln _ rfl _ _ _ 250 rfl 3 4 iK Tryz.underlying250 jl w.1.size (2*D2.length+1+1) _ rfl y.o V _ _ _ rfl rfl (KF Tryz.underlying3 t) _ [] rfl ?_;intro K G O)))
         have u:Below w.1.size M K:=((((Kf w.1.size M).alloc R _).grown s (by simp;omega) (λq I=>by cases I;exact Ke _)).grown O (by have:=s.size;simp at this;omega) (λq I=>by cases I;exact Ke _));rw[<-N.o] at G;exact⟨⟨k+1,by omega,by go_num,W.o K _ G rfl (x1.o.trans u),bg.o.trans u⟩,by simp[intOf];omega⟩
       have I:(fc==f)=false:=by simpa using a6
       have ao:Hid (mB w W5 w.1.size f (D1++cs.take (k+1))):=by rw[e4.o];obtain⟨x1,D,x2,x3⟩:=co;refine⟨x1,D,x2.mono (by simp;omega),x3.congr λn _=>(EW (c:=(fc,op,v)) a6 n).symm⟩
       have av:Below w.1.size wj W5:=Below.tO af A (by omega);clear co a6;go_wp2;rw[<-bc];exact⟨⟨k+1,by omega,by go_num,ao,av⟩,by simp[intOf];omega⟩
      obtain rfl:k=n3:=by omega
      have ao:Hid (mB w M w.1.size f (D0++(rs.take (j+1)).flatMap (·.1))):=by have:=a1.o;rw[Ki (by rw[c0.o];omega),<-fl.o] at this;exact this
      have av:=ci.trans af;go_wp2;exact⟨⟨j+1,by omega,by go_num,ao,av⟩,by simp[intOf];omega⟩
    obtain rfl:j=m:=by omega
    have ao:Hid (mB w wj w.1.size f (bh (ps.take (i+1)))):=by have:=b7.o;rw[Ki (by rw[cf.o];omega)] at this;rw[HP.o];exact this
    go_wp2;exact⟨⟨i+1,by omega,by go_num,ao⟩,by simp[intOf];omega⟩
  obtain rfl:i=L:=by omega
  obtain⟨g3,D,hM,d1⟩:=HS.o;rw[Ki (by rw[a9.o];omega)] at hM d1;have HM:Hid _:=hM;have e6:Hid _:=d1;have⟨nc,e7⟩:=nM (2*(bh ps).length+1);rw[<-e7] at HM;clear hM d1 e7 HS;go_wp2_with (first|(at_range;go_must (refine wpList_range_own _ rfl _ 250 rfl 3 4 iK Tryz.underlying250 _ w.1.size nc D rfl HM.o ?_;intro w3 c1 e8 i3)));have g7:bL w w3:=g3.grown e8 cb (λk hk=>by cases hk);have g8:Hid _:=c1;clear c1 e8 HM;go_frame;go_loopw [12] (λov wr=>∃ (left:Lit->Bool) (d2:Nat) (Y:List Int),Hid (wr.ranges prog 3 jl w.1.size wo.1.size nc D left d2)/\Hid (wr.ownsRow w.1.size 3 1 ov Y.length (jW Y))/\Hid (sy D (vq f (bh ps)) (aO f) left Y)/\bL w wr) (λ_ wr=>wr.rangeLeft w.1.size wo.1.size)
  case atStart=>exact⟨_,_,[],g8,⟨rfl,.inl ⟨rfl,rfl⟩⟩,sy.start,g7⟩
  case round=>
   obtain⟨left,d2,Y,a7,d3,a8,d4⟩:=hrel;have⟨wi,g9⟩:=nM (wr);subst g9;have h5:=a8.o.few ca.o;have c4:=d4.size
   go_wp2_with (first
    |(at_next;go_must (refine xM _ rfl _ rfl 3 iK Tryz.underlying3 w.1.size wo.1.size nc D left d2 rfl a7.o (λi6 gb=>?_) (λx c w4 b0 e9 b1 it h6=>?_)))
    |(go_at_call 38;go_must (refine(rq _ hf _).mono ?_;rintro e w5 ⟨rfl,A⟩;have eb:=A;have b2:Hid (w5.ownsRow w.1.size 3 1 u12 Y.length (jW Y)):=aw (BG a7.o d3.o e9.o.2.2.2.2.2) A))
    |(at_builtin;go_must (refine ir _ rfl _ _ rfl Tryz.underlying179 es et eu ev rfl (by decide) w.1.size _ _ _ rfl _ 1 [U x] rfl _ rfl (by simp) w5 (by repeat(first|exact Kf _ _|refine Ky ?_ (by simp) _|refine Lc ?_ (by simp) _)) b2.o rfl (by simp[Value.oneCell']) (by omega) (by omega) (by have:=eb.size;omega) ?_;intro v6 w6 y av s)))
   ·go_at_call 209;have P:=a8.o.done e6.o ca.o gb.o;have Q:=FZ a8.o.1 P;have h0:(0:Int)∈Y:=(P 0).2 ⟨E5.2 (.inl rfl),zQ f⟩;have h8:=List.length_pos_of_mem h0;have c5:=d3.o
    rcases c5.2 with ⟨_,hz⟩|⟨g,c6,j2,rfl,ec,bk,d5,d6,c7,ed⟩
    ·omega
    have hH:=holds_of_blockI (ss:=Y) bk (by simpa [jW] using ed);have b5:(cw ps f).length=Y.length:=by rw[<-Q];exact List.length_mergeSort _
    refine(Tryz.slices_Sort_int g 0 c6 Y wi hH (io bk) (by omega)).mono ?_;rintro e w5 ⟨rfl,n5,gc,bm⟩;rw[Q] at bm;have b2:Hid (w5.ownsRow w.1.size 3 1 (.slice (sO g) Y.length c6) (cw ps f).length ((cw ps f).map (.int .i64))):=by rw[bm];unfold Hid;have:=ownsRow_sortedI (n:=n5) (os:=gc) (ts:=cw ps f) b5 ec bk d5 d6 c7;rw[b5];exact this
    have ge:bL w w5:=by rw[bm];exact d4.grown (grownBy_sortedI _) c4 (λk hk=>by cases hk;exact ec)
    clear bm hH bk c7 ed P Q c5;go_wp2_with fail;go_ret;exact⟨_,rfl,b2.o,ge⟩
   all_goals
    obtain⟨ee,gj,gk,l,a0,ef⟩:=e9.o
    have eg:c=vq f (bh ps) x:=by
     have h1:=e6.o x ee;rw[l] at h1
     simpa using h1
    have bo:bL w w4:=d4.grown ef c4 (λk hk=>by cases hk;exact cb);have c8:=bo.size
   ·have go:c=true:=by assumption
    have ej:x<=aO f:=by assumption
    have ek:=s.o;have J:=CS (rX a0 A) b2.o ek;have el:=Below.tO bo A c8;refine⟨⟨_,b0,Y++[x],J,?_,a8.o.take gj gk ee (by rw[<-eg];exact go) ej,el.trans av⟩,?_⟩
    ·have:=y.o;unfold Hid
     simpa [jW] using this
    rw[LU J,LU a7.o];exact b1
   ·have ej:aO f<x:=by assumption
    have J:=rX a0 A;refine⟨⟨_,b0,Y,J,b2,a8.o.skip (λh=>by omega),Below.tO bo A c8⟩,?_⟩;rw[LU J,LU a7.o];exact b1
   have gp:¬c=true:=by assumption
   refine⟨⟨_,b0,Y,a0,BG a7.o d3.o ef,a8.o.skip (λh=>gp (by rw[eg];exact h.1)),bo⟩,?_⟩;rw[LU a0,LU a7.o];exact b1
end
