import Derived.Test.YtjdnfhkkkejcfaaGreatDoorWd11
set_option linter.all false
set_option maxRecDepth 100000
set_option maxHeartbeats 16000000
namespace Go.Proofs.YtjdnfhkkkejcfaaGreatDoor
open Go.RowKit Go.Maps Go.Proofs.Tryz
theorem uN.rules{L:Nat}{w:World}{v:Value}{xs:List Value}{b:List aq}(c:w.ownsRow L 131 2 v b.length xs)(h:uN L w xs b):bD w.1.size w v b:=by obtain⟨a,d,rfl,j,k,l⟩:=an c;refine⟨a,d,rfl,j,k,λi r f=>?_⟩;have u:i<b.length:=(K9.1 f).1;obtain⟨g,rfl,m,e⟩:=l (by omega);have⟨n,o,p,q,s,t⟩:=h.2.2 i r f;exact⟨g,0,rfl,e,n,by rw[Kp];exact aK c _ _ o,by rw[Kp];exact aK c _ _ p,q,BU t s⟩
theorem dB.setOther{T d:TypeId}{w:World}{b o:Nat}{a:Array Value}{g:Nat × Nat}{u:Value}(h:w.1[b]?=some (.cells a d g))(i:d≠T):dB T w (w.setCell ⟨b,o,none⟩ u):=λk f j c=>(Kc _ _ _ _ (by
 show k≠b;intro e;subst e;rw[h] at c
 cases c
 exact i rfl)).trans c
theorem I0(B pv qv p q exc w)(hp:aX B w pv p)(hq:aX B w qv q)(hB:B<=w.1.size):
  cL 124 #[pv,qv,.bool exc] w λe o=>∃v,e=.returned (.tuple #[v,U (eJ exc p q)])/\aX o.1.size o v (eI exc p q)/\bL w o:=by
 obtain⟨m,d⟩:=p;obtain⟨g,f⟩:=q;obtain⟨rv,y,hd,e7⟩:=hp;obtain⟨sv,e2,hf,e8⟩:=hq;have b8:=Z λo (h:bL w o)=>e7.l h hB
 have b9:=Z λo (h:bL w o)=>e8.l h hB
 obtain⟨a,a2,e3,fT,hU,-⟩:=e7;obtain⟨b,P,e4,e9,hD,-⟩:=e8;simp only at y e2 e3 e4 hd hf;subst e3 e4 y e2;have c2:=Z hd;have c5:=Z hf;have hV:=ai;clear hd hf;have⟨n1,c6⟩:=nM (m.length);have⟨I,c7⟩:=nM (g.length);have c8:=Z c6.symm;have K:=Z c7.symm
 rw[<-c6] at fT b8 |-
 rw[<-c7] at e9 b9 |-
 clear c6 c7;have⟨W4,C⟩:=nM ((((w.alloc (.cells #[.slice a n1 a2,U d] 30)).alloc (.cells #[.slice b I P,U f] 30)).alloc (.cells #[.bool exc] 4)).alloc (.cells #[nL,U 0] 30));have g4:W4.1.size=w.1.size+1+1+1+1:=by rw[C];simp
 have bb:bL w W4:=by rw[C];exact(((bR.alloc lE _).alloc (by simp) _).alloc (by simp;omega) _).alloc (by simp;omega) _
 have g0:W4.1[w.1.size]?=some (.cells #[.slice a n1 a2,U d] 30 (0,0)):=by rw[C];exact aS _ (aS _ (aS _ (be _ _ rfl)))
 have g1:W4.1[w.1.size+1]?=some (.cells #[.slice b I P,U f] 30 (0,0)):=by rw[C];exact aS _ (aS _ (be _ _ (by simp only[Kg])))
 have g2:W4.1[w.1.size+1+1]?=some (.cells #[.bool exc] 4 (0,0)):=by rw[C];exact aS _ (be _ _ (by simp only[Kg]))
 have g3:W4.1[w.1.size+1+1+1]?=some (.cells #[nL,U 0] 30 (0,0)):=by rw[C];exact be _ _ (by simp only[Kg])
 have ea:=wJ (p:=(m,d)) (q:=(g,f)) (bb.u hB) (b8.o _ bb) c2.o (b9.o _ bb) c5.o 30;have a6:=rP _ _ _ _ ea (by simp);rw[g4] at a6;have g5:Hid _:=a6;clear a6;have g6:bL W4 (W4.alloc (.cells #[.slice a n1 a2,U d,.slice b I P,U f] 30)):=bR.alloc lE _;have HW:=Z C;have HG:=Z λo (h:bL W4 o)=>Q4 (h.bk g0) (h.bk g1) (h.bk g2) (h.bk g3)
 clear C ea g0 g1 g2 g3;go_enter func124,ntmps124;go_wp2_with fail;rw[<-HW.o];go_at_call 148;refine Calls.mono g5.o ?_;rintro e l ⟨rfl,g7⟩;have a7:bL W4 l:=Below.tO g6 g7 (by simp);have bm:bL w l:=Below.tO bb a7 (by omega);have hY:=a7.size;have⟨g0,g1,g2,g3⟩:=HG.o l a7
 by_cases h0:bM [(m,d),(g,f)]=0
 ·have⟨bp,bq⟩:=oY h0;obtain⟨a8,-,eb⟩:=cY bp;obtain⟨a9,-,ec⟩:=cY bq;have g8:Hid (∀r∈m,r.1.length<=10):=λr hr=>(dy (cM eb r hr)).1
  have ed:Hid (∀r∈g,r.1.length<=10):=λr hr=>(dy (cM ec r hr)).1
  simp only[] at a8 a9;rw[c8.o] at a8;rw[K.o] at a9;have HE:=Z (by rw[eJ,Io h0]:eJ exc (m,d) (g,f)=aj (gI exc (m,d) (g,f)));rw[h0];clear h0 bp bq eb ec;have⟨W8,R⟩:=nM ((l.alloc (.cells #[.func (.func 149) #[] #[.pointer (sO (w.1.size+1+1))]] 186)).alloc (.cells #[nL,U 0] 30));have hZ:=sB R;have aa:=bB R
  have ef:It (l.1.size+1) (l.1.size+1) l.1.size (w.1.size+1+1) exc [] W8:=by
   refine⟨nL,[],aa.bk g2,?_,?_,⟨rfl,.inl ⟨rfl,rfl⟩⟩,rfl,λu hu=>by simp at hu,λi r hr=>by simp at hr⟩
   ·rw[R];exact aS _ (be _ _ rfl)
   rw[R];exact be _ _ (by simp only[Kg])
  have g9:=Z R;have bc:=Z λv (h:Below (l.1.size+1) W8 v)=>Q3 ((h.block _ (by omega)).trans (aa.bk g0):v.1[w.1.size]?=some (.cells #[.slice a n1 a2,U d] 30 (0,0))) ((h.block _ (by omega)).trans (aa.bk g1):v.1[w.1.size+1]?=some (.cells #[.slice b I P,U f] 30 (0,0))) ((h.block _ (by omega)).trans (aa.bk g3):v.1[w.1.size+1+1+1]?=some (.cells #[nL,U 0] 30 (0,0)))
  have cb:Hid (∀v,Below (l.1.size+1) W8 v->bL w v):=λv h=>(bm.th aa).trans (h.mono (by omega))
  obtain⟨J,hJ⟩:∃J:List aq->World->Prop,J=λk v=>It (l.1.size+1) (l.1.size+1) l.1.size (w.1.size+1+1) exc k v/\Below (l.1.size+1) W8 v:=⟨_,rfl⟩
  have cd:Hid (∀k v,J k v->Below (l.1.size+1) W8 v):=by rw[hJ];exact λ_ _ h=>h.2
  have gb:Hid (∀k v,J k v->It (l.1.size+1) (l.1.size+1) l.1.size (w.1.size+1+1) exc k v):=by rw[hJ];exact λ_ _ h=>h.1
  have ce:Hid (∀k v t,J k v->bL v t->J k t):=by rw[hJ];exact λ_ v t h hb=>⟨h.1.l hb,Below.tO h.2 hb (by have:=h.2.size;omega)⟩
  have gc:Hid (∀k v X,J k v->jI (v.alloc X) (l.1.size+1) v.1.size):=by rw[hJ];rintro k v X ⟨⟨u,xs,h1,h2,h3,h4,h5⟩,_⟩ u' d' cf e;have gj:=aS X h3;rw[gj] at cf;simp at cf;rw[<-cf.1] at e;obtain⟨ci,hc⟩:=cX h4 _ e;have:=io hc;omega
  have ck:Hid (∀k r s rc sc v,J k v->bG B v rc r.1->wf r.2->bG B v sc s.1->wf s.2->k.length<=20000->r.1.length<=10->s.1.length<=10->cL 150 #[.agg #[rc,U r.2],.agg #[sc,U s.2],.pointer (sO (l.1.size+1)),.pointer (MZ l)] v λe t=>e=.returned (.tuple #[])/\J (k++[dX exc r s]) t/\Below (l.1.size+1) v t/\∀ (b:Nat) (ci:Array Value) (T:TypeId) (fr:Nat × Nat),v.1[b]?=some (.cells ci T fr)->b≠l.1.size+1->jI v (l.1.size+1) b->t.1[b]?=some (.cells ci T fr)/\jI t (l.1.size+1) b):=by
   rw[hJ];intro k r s rc sc v h hr gk hs go hd gs gv
   refine(Et (l.1.size+1) _ _ _ B exc r s rc sc k v h.1 hr gk hs go (by omega) (by have:=h.2.size;omega) lE hd gs gv).mono λe t ⟨y,e2,e3,e4⟩=>⟨y,⟨e2,h.2.trans e3⟩,e3,e4⟩
  have gz:Hid (J (jo exc (m,d) (g,f) 0) W8):=by rw[hJ];exact⟨ef,Kf _ _⟩
  have eg:Hid (∀i,i<=n1->(jo exc (m,d) (g,f) i).length<=14641):=λi hi=>by have h1:=yX exc (m,d) (g,f) i;simp only[] at h1;rw[K.o] at h1;have h2:i*(I+1)<=120*121:=MW (by omega) (by omega);omega
  have ej:=Z λv (h:Below (l.1.size+1) W8 v)=>b8.o v (cb.o v h)
  have br:=Z λv (h:Below (l.1.size+1) W8 v)=>b9.o v (cb.o v h)
  have cn:B<=l.1.size+1:=by omega
  have z0:=J0 g0;clear hJ R ef g0 g1 g2 g3 b8 b9;have P0:W8.cell? (pW w 0)=some (.slice a n1 a2):=ab (bc.o W8 bR).1 0 rfl;have hH:w.1.size<l.1.size:=by omega
  go_wp2_with fail;rw[<-g9.o];clear z0 P0;go_loopw [32] (λiv wr=>∃i:Nat,i<=n1/\iv=U i/\Hid (J (jo exc (m,d) (g,f) i) wr)) (λiv _=>n1-(intOf iv).toNat)
  case atStart=>exact⟨0,by omega,rfl,gz⟩
  case round=>
   obtain⟨i,hi,rfl,HS⟩:=hrel;have⟨A,gD⟩:=nM (wr);subst gD;have i0:(0:Int)<=(i:Int):=by omega
   have co:=cd.o _ _ HS.o;have j2:=co.size;have⟨gp,gq,gr⟩:=bc.o A co
   by_cases ja:i<n1
   ·have i1:(i:Int)<(n1:Int):=by omega
    obtain⟨r,bf⟩:∃r,m[i]?=some r:=⟨m[i]'(by rw[c8.o];omega),by simp⟩;have HP:=Z (x7 exc (m,d) (g,f) i r bf);have bs:=g8.o r (Kb bf);obtain⟨_,_,y,-,-,D⟩:=ej.o _ co;have⟨b3,o3,e,hK,gM⟩:=D i r bf;simp at y;obtain⟨rfl,-,-⟩:=y;subst e;clear D bf;obtain⟨cs,S⟩:=r;obtain⟨cv,q0,q1,ek,cp⟩:=gM;have el:=Z λo (h:Below (l.1.size+1) A o)=>cp.l h cn
    obtain⟨a3,c3,gT,-,-⟩:=cp.full;subst gT;have em:=Z ek;have bx:=Z bs;clear cp ek bs;generalize en:cs.length=cl at*;have eq:=Z en;clear en;simp only[] at q0 q1;have cx:=eg.o i (by omega);have⟨D0,er⟩:=nM (jo exc (m,d) (g,f) i);rw[<-er] at cx HS HP;clear er
    have gW:Hid (∀X,J (D0++(g.take 0).map (dX exc (cs,S))) (A.alloc X)):=λX=>by
     have:=ce.o _ _ _ HS.o ((Kf A.1.size _).alloc lE X)
     simpa using this
    have gY:Hid (∀X,Below (l.1.size+1) A (A.alloc X)):=λX=>bR.alloc (by omega) _
    have h6:=Z λX=>gc.o _ _ X HS.o
    have h7:Hid (∀X,(A.alloc X).1[A.1.size]?=some X):=λX=>ah _ _
    have y0:=J0 gq;have hL:w.1.size+1<A.1.size:=by omega
    have es:¬A.1.size=l.1.size+1:=by omega
    go_wp2_with fail;go_loopw [39] (λjv wr=>∃j:Nat,j<=I/\jv=U j/\Hid (J (D0++(g.take j).map (dX exc (cs,S))) wr)/\Hid (wr.1[A.1.size]?=some (.cells #[.slice a3 cl c3,U S] 131 (0,0)))/\Hid (jI wr (l.1.size+1) A.1.size)/\Below (l.1.size+1) A wr) (λjv _=>I-(intOf jv).toNat)
    case atStart=>exact⟨0,by omega,rfl,gW.o _,h7.o _,h6.o _,gY.o _⟩
    case round=>
     obtain⟨j,hj,rfl,L,V,h8,d0⟩:=hrel;have⟨n,d1⟩:=nM (wr);subst d1;have j0:(0:Int)<=(j:Int):=by omega
     have E:=cd.o _ _ L.o;have h9:=E.size;have et:=io V.o;have⟨W,M,Y⟩:=bc.o n E
     by_cases ha:j<I
     ·have j1:(j:Int)<(I:Int):=by omega
      obtain⟨sr,z⟩:∃r,g[j]?=some r:=⟨g[j]'(by rw[K.o];omega),by simp⟩;have d2:Hid ((g.take (j+1)).map (dX exc (cs,S))=(g.take j).map (dX exc (cs,S))++[dX exc (cs,S) sr]):=qk _ g j sr z;have F:=ed.o sr (Kb z);obtain⟨_,_,y,-,-,D⟩:=br.o _ E;have⟨b4,o4,e,ew,d3⟩:=D j sr z;simp at y;obtain⟨rfl,-,-⟩:=y;subst e;clear D z;obtain⟨ds,ve⟩:=sr;obtain⟨dv,k0,k1,ad,N⟩:=d3;have d5:=Z λo (h:Below (l.1.size+1) n o)=>N.l h cn
      obtain⟨a4,c4,d6,-,-⟩:=N.full;subst d6;have da:=Z ad;have ae:=Z F;clear N ad F;generalize af:ds.length=dl at*;have dc:=Z af;clear af;simp only[] at k0 k1
      have ak:Hid (∀X,cL 150 #[.agg #[.slice a3 cl c3,U S],.agg #[.slice a4 dl c4,U ve],.pointer (sO (l.1.size+1)),.pointer (MZ l)] (n.alloc X) λe t=>e=.returned (.tuple #[])/\Hid (J (D0++(g.take (j+1)).map (dX exc (cs,S))) t)/\Below (l.1.size+1) A t/\Hid (t.1[A.1.size]?=some (.cells #[.slice a3 cl c3,U S] 131 (0,0)))/\Hid (jI t (l.1.size+1) A.1.size)):=by
       intro X;have O:bL n (n.alloc X):=bR.alloc lE X;have G:Below (l.1.size+1) n (n.alloc X):=O.mono (by omega);have h1:=ce.o _ _ _ L.o O;refine(ck.o _ (cs,S) (ds,ve) _ _ _ h1 (el.o _ (d0.trans G)) em.o (d5.o _ G) da.o (by simp;omega) (by show cs.length<=10;rw[eq.o];exact bx.o) (by show ds.length<=10;rw[dc.o];exact ae.o)).mono λe t ⟨y,e2,e3,e4⟩=>?_
       obtain⟨m1,m2⟩:=e4 A.1.size _ _ _ ((O.block _ et).trans V.o) es (h8.o.l O (by omega));refine⟨y,?_,d0.trans (G.trans e3),m1,m2⟩;rw[d2.o,<-KI];exact e2
      have x0:=J0 V.o;have x1:=J1 V.o;go_wp2_with fail;go_at_call 150;refine Calls.mono (ak.o _) ?_;rintro e w9 ⟨rfl,m1,m2,m3,m4⟩;clear x0 x1 k0 k1 W M Y;go_wp2_with fail;exact⟨⟨j+1,by omega,by go_num,m1,m3,m4,m2⟩,by simp[intOf];omega⟩
     obtain rfl:j=I:=by omega
     have al:Hid (J (D0++g.map (dX exc (cs,S))) n):=by have:=L.o;rw[Ki (by rw[K.o];omega)] at this;exact this
     have ak:Hid (cL 150 #[.agg #[.slice a3 cl c3,U S],.agg #[nL,U f],.pointer (sO (l.1.size+1)),.pointer (MZ l)] n λe t=>e=.returned (.tuple #[])/\Hid (J (jo exc (m,d) (g,f) (i+1)) t)):=by
      refine(ck.o _ (cs,S) ([],f) _ nL _ al.o (el.o _ d0) em.o ⟨none,0,rfl,Ke _,by rw[ai];omega,λi c h=>by simp at h⟩ c5.o (by simp;rw[K.o];omega) (by show cs.length<=10;rw[eq.o];exact bx.o) (by simp)).mono λe t ⟨y,e2,e3,e4⟩=>⟨y,?_⟩
      rw[HP.o];exact e2
     have x0:=J0 V.o;have x1:=J1 V.o;have y1:=J1 M;clear W M Y;go_wp2_with fail;go_at_call 150;refine Calls.mono ak.o ?_;rintro e w9 ⟨rfl,m1⟩;clear x0 x1 y1;go_wp2_with fail;exact⟨⟨i+1,by omega,by go_num,m1⟩,by simp[intOf];omega⟩
   obtain rfl:i=n1:=by omega
   have cx:=eg.o i lE;have eV:Hid (gh exc (m,d) (g,f)=jo exc (m,d) (g,f) i++g.map (dX exc ([],d))):=by have:=Eq exc (m,d) (g,f);simp only[] at this;rw[c8.o] at this;exact this
   have⟨D1,f2⟩:=nM (jo exc (m,d) (g,f) i);rw[<-f2] at cx HS eV;clear f2;have hn:Hid (J (D1++(g.take 0).map (dX exc ([],d))) A):=by simpa using HS
   have y0:=J0 gq;clear gp gq gr;go_wp2_with fail;go_loopw [58] (λjv wr=>∃j:Nat,j<=I/\jv=U j/\Hid (J (D1++(g.take j).map (dX exc ([],d))) wr)) (λjv _=>I-(intOf jv).toNat)
   case atStart=>exact⟨0,by omega,rfl,hn⟩
   case round=>
    obtain⟨j,hj,rfl,L⟩:=hrel;have⟨n,d1⟩:=nM (wr);subst d1;have j0:(0:Int)<=(j:Int):=by omega
    have E:=cd.o _ _ L.o;have h9:=E.size;have⟨W,M,Y⟩:=bc.o n E;have u1:=J1 W
    by_cases ha:j<I
    ·have j1:(j:Int)<(I:Int):=by omega
     obtain⟨sr,z⟩:∃r,g[j]?=some r:=⟨g[j]'(by rw[K.o];omega),by simp⟩;have d2:Hid ((g.take (j+1)).map (dX exc ([],d))=(g.take j).map (dX exc ([],d))++[dX exc ([],d) sr]):=qk _ g j sr z;have F:=ed.o sr (Kb z);obtain⟨_,_,y,-,-,D⟩:=br.o _ E;have⟨b4,o4,e,ew,d3⟩:=D j sr z;simp at y;obtain⟨rfl,-,-⟩:=y;subst e;clear D z;obtain⟨ds,ve⟩:=sr;obtain⟨dv,k0,k1,ad,N⟩:=d3;have d5:=Z λo (h:Below (l.1.size+1) n o)=>N.l h cn
     obtain⟨a4,c4,d6,-,-⟩:=N.full;subst d6;have da:=Z ad;have ae:=Z F;clear N ad F;generalize af:ds.length=dl at*;have dc:=Z af;clear af;simp only[] at k0 k1
     have ak:Hid (∀X,cL 150 #[.agg #[nL,U d],.agg #[.slice a4 dl c4,U ve],.pointer (sO (l.1.size+1)),.pointer (MZ l)] (n.alloc X) λe t=>e=.returned (.tuple #[])/\Hid (J (D1++(g.take (j+1)).map (dX exc ([],d))) t)):=by
      intro X;have O:bL n (n.alloc X):=bR.alloc lE X;have G:Below (l.1.size+1) n (n.alloc X):=O.mono (by omega);have h1:=ce.o _ _ _ L.o O
      refine(ck.o _ ([],d) (ds,ve) nL _ _ h1 ⟨none,0,rfl,Ke _,by rw[ai];omega,λi c h=>by simp at h⟩ c2.o (d5.o _ G) da.o (by simp;omega) (by simp) (by show ds.length<=10;rw[dc.o];exact ae.o)).mono λe t ⟨y,e2,e3,e4⟩=>⟨y,?_⟩
      rw[d2.o,<-KI];exact e2
     have hN:w.1.size<n.1.size:=by omega
     clear W M Y;go_wp2_with fail;go_at_call 150;refine Calls.mono (ak.o _) ?_;rintro e w9 ⟨rfl,m1⟩;clear u1 k0 k1;go_wp2_with fail;exact⟨⟨j+1,by omega,by go_num,m1⟩,by simp[intOf];omega⟩
    obtain rfl:j=I:=by omega
    have al:Hid (J (gh exc (m,d) (g,f)) n):=by have:=L.o;rw[Ki (by rw[K.o];omega),<-eV.o] at this;exact this
    obtain⟨v,xs,b1,b2,b3,b4,b5⟩:=gb.o _ _ al.o;obtain⟨va,vc,ev,-,-,-⟩:=an b4;subst ev;have f3:Hid (gI exc (m,d) (g,f)=(gh exc (m,d) (g,f),mG exc d f)):=rfl;have f4:Hid (wf (mG exc d f)):=Ai c2.o c5.o;generalize bz:(gh exc (m,d) (g,f)).length=ml at*;have f5:=Z bz;clear bz;have⟨df,de⟩:=nM (mG exc d f);have ho:=Z de.symm;rw[<-de] at f3 f4;clear de;have bF:Hid (∀o,dB 131 n o->dB 134 n o->aX o.1.size o (.agg #[.slice va ml vc,U df]) (gI exc (m,d) (g,f))):=by intro o h1 h2;rw[f3.o];exact⟨_,rfl,f4.o,uN.rules (by rw[f5.o];exact eQ b4 h1) (b5.keep h2)⟩
    have ht:Hid (cL 149 #[U d,U f,.pointer (sO (w.1.size+1+1))] n λe o=>e=.returned (U df)/\o=n):=by have:=zc exc d f (w.1.size+1+1) n (J0 b1);rw[ho.o] at this;exact this
    have x0:=J0 b2;have x1:=J1 M;have x2:=J0 b3;have x3:=J1 b3;have x4:=fZ b3 1;have⟨W9,H⟩:=nM (n.setCell (pA (l.1.size+1) 1) (U df));have di:dB 131 n W9:=by rw[H];exact dB.setOther b3 (by decide)
    have dk:dB 134 n W9:=by rw[H];exact dB.setOther b3 (by decide)
    have kk:W9.1.size=n.1.size:=by rw[H];simp
    have hv:Hid (cL 89 #[.agg #[.slice va ml vc,U df]] W9 λe o=>e=.returned (U (aj (gI exc (m,d) (g,f))))/\bL W9 o):=fW _ _ _ _ (bF.o W9 di dk) lE;have o9:W9.1[l.1.size+1]?=some (.cells #[.slice va ml vc,U df] 30 (0,0)):=by rw[H,ap b3];rfl
    have r9:W9.1[w.1.size+1+1+1]?=some (.cells #[nL,U 0] 30 (0,0)):=by rw[H,Kc _ _ _ _ (by show w.1.size+1+1+1≠l.1.size+1;omega)];exact Y
    have f9:bL w W9:=by rw[H];exact(cb.o n E).setCell (p:=pA (l.1.size+1) 1) (by show w.1.size<=l.1.size+1;omega) _
    have fa:=Z2 di dk;have hw:Hid _:=f9;have hx:Hid _:=o9;have hy:Hid _:=r9;have hz:=Z H;clear H di dk o9 r9 f9 b1 b2 b3 b4 b5 W M Y;go_wp2_with fail;go_at_call 149;refine Calls.mono ht.o ?_;rintro e w9 ⟨rfl,rfl⟩;go_wp2_with fail;rw[<-hz.o];go_at_call 89;refine Calls.mono hv.o ?_;rintro e kl ⟨rfl,x⟩;have dn:=x.bl hx.o;have a0:=x.bl hy.o;have ao:=hw.o.th x;have c0:=Z2 (fa.o.1.trans (dB.of_below x)) (fa.o.2.trans (dB.of_below x));have t0:=J0 dn;have t1:=J1 dn;have s0:=J0 a0;have s1:=J1 a0;have ko:=fZ a0 0;have ks:=fZ a0 1;have Q:Hid _:=a0;have c1:Hid _:=ao;clear dn a0 ao x x0 x1 x2 x3 x4 u1
    by_cases he:aj (gI exc (m,d) (g,f))=0
    ·have HM:Hid (eJ exc (m,d) (g,f)=0/\eI exc (m,d) (g,f)=gI exc (m,d) (g,f)):=by
      have e:eJ exc (m,d) (g,f)=0:=by rw[HE.o,he]
      exact⟨e,by rw[eI,Io e]⟩
     rw[he];clear he;go_wp2_with fail;refine Ka (v:=.tuple #[.agg #[.slice va ml vc,U df],U 0]) ?_ rfl ⟨_,by rw[HM.o.1],?_,?_⟩
     ·rw[K8 rfl];go_simp
     ·rw[HM.o.2];exact bF.o _ (c0.o.1.trans ((dB.setOther Q.o (by decide)).trans (dB.setOther (ap Q.o) (by decide)))) (c0.o.2.trans ((dB.setOther Q.o (by decide)).trans (dB.setOther (ap Q.o) (by decide))))
     exact c1.o.s2 (by show w.1.size<=w.1.size+1+1+1;omega)
    have HM:Hid (eJ exc (m,d) (g,f)=aj (gI exc (m,d) (g,f))/\eI exc (m,d) (g,f)=([],0)):=by have e:=HE.o;exact⟨e,by rw[eI,iO (by rw[e];exact he)]⟩
    have hq:(aj (gI exc (m,d) (g,f)) != 0)=true:=by simpa using he
    clear he;generalize aj (gI exc (m,d) (g,f))=pe at*;go_wp2_with fail;refine Ka (v:=.tuple #[.agg #[nL,U 0],U pe]) ?_ rfl ⟨_,by rw[HM.o.1],by rw[HM.o.2];exact bV _ _,?_⟩
    ·rw[K8 rfl];go_simp
    exact c1.o.s2 (by show w.1.size<=w.1.size+1+1+1;omega)
 have HE:Hid (eJ exc (m,d) (g,f)=bM [(m,d),(g,f)]/\eI exc (m,d) (g,f)=([],0)):=by
  have e:eJ exc (m,d) (g,f)=bM [(m,d),(g,f)]:=by rw[eJ,iO h0]
  exact⟨e,by rw[eI,iO (by rw[e];exact h0)]⟩
 have hq:(bM [(m,d),(g,f)] != 0)=true:=by simpa using h0
 clear h0;generalize bM [(m,d),(g,f)]=pe at*;have z0:=J0 g3;have z1:=J1 g3;have f0:=fZ g3 0;have f1:=fZ g3 1;clear g0 g1 g2 g3;go_wp2_with fail;refine Ka (v:=.tuple #[.agg #[nL,U 0],U pe]) ?_ rfl ⟨_,by rw[HE.o.1],by rw[HE.o.2];exact bV _ _,?_⟩
 ·rw[K8 rfl];go_simp
 exact bm.s2 (by show w.1.size<=w.1.size+1+1+1;omega)
