import Derived.Test.YtjdnfhkkkejcfaaGreatDoorWd21
import Derived.Test.YtjdnfhkkkejcfaaGreatDoorWd22
set_option linter.all false
set_option maxRecDepth 100000
set_option maxHeartbeats 8000000
namespace Go.Proofs.YtjdnfhkkkejcfaaGreatDoor
open Go.RowKit Go.Maps Go.Proofs.Tryz
theorem oF(B lv ls w)(C:cD B w lv ls)(s:B<=w.1.size):
  cL 96 #[lv] w (rT w (U (bl ls))):=by
 have F:=Z λr (h:bL w r)=>C.l h s
 obtain⟨a,G,rfl,I,J,-⟩:=C;have K:=ai;have t:Hid (bl ls=if 6<ls.length then 2 else dK ls):=rfl;generalize l:ls.length=c at*;have d:=Z l;clear l
 by_cases D:6<c
 ·have u:(6:Int)<(c:Int):=by omega
  have i:=Z (by rw[t.o,Io D]:bl ls=2);go_enter func96,ntmps96;go_wp2;go_ret;exact⟨by rw[i.o];rfl,Kf _ _⟩
 have u:¬(6:Int)<(c:Int):=by omega
 have i:=Z (by rw[t.o,iO D]:bl ls=dK ls);clear t;go_enter func96,ntmps96;go_wp2;go_loopw [11] (λv wr=>∃k:Nat,k<=c/\v=U k/\Hid (dK ls=dK (ls.drop k))/\bL w wr) (λv _=>c-(intOf v).toNat)
 case atStart=>exact⟨0,by omega,rfl,rfl,Kf _ _⟩
 case round=>
  obtain⟨k,Q,rfl,H,g⟩:=hrel;have⟨L,x⟩:=nM (wr);subst x;have R:(0:Int)<=(k:Int):=by omega
  have j:=g.size
  by_cases M:k<c
  ·have T:(k:Int)<(c:Int):=by omega
   obtain⟨f,y⟩:∃f,ls[k]?=some f:=⟨ls[k]'(by rw[d.o];omega),by simp⟩;have S:=Z (qn ls k f y);obtain⟨_,_,E,-,-,q⟩:=F.o _ g;have⟨b,o,N,e,O,V,z⟩:=q k f y;simp at E;obtain⟨rfl,-,-⟩:=E;subst e;clear q;have m:=Z λr (h:bL L r)=>xQ B N f r (z.l h (Kl s j)) (Kl s (h.u j))
   obtain⟨W,X,rfl,-,-⟩:=z.shape;clear z y;generalize f.length=Y at*
   by_cases p:aV f=0
   ·rw[p] at m;have A:=Z (by rw[H.o,S.o,Io p]:dK ls=dK (ls.drop (k+1)));clear p S;go_wp2_with (first|(go_at_call 122;go_must (refine(m.o _ bR).mono ?_;rintro e P ⟨rfl,n⟩)));exact⟨⟨k+1,by omega,by go_num,A,Below.tO g n j⟩,by simp[intOf];omega⟩
   have A:=Z (by rw[H.o,S.o,iO p]:dK ls=aV f);have hq:(aV f != 0)=true:=by simpa using p
   clear p S;generalize aV f=pe at*;go_wp2_with (first|(go_at_call 122;go_must (refine(m.o _ bR).mono ?_;rintro e P ⟨rfl,n⟩)));go_ret;exact⟨by rw[i.o,A.o];rfl,Below.tO g n j⟩
  go_wp2;go_ret;exact⟨by rw[i.o,H.o,KJ (by rw[d.o];omega)];rfl,g⟩
theorem yA(x:Nat->Int)(a:ie)(k:Nat)(f:List cO)(h:a[k]?=some f):fB x 4 (a.take (k+1))=if (dJ x 0 0 f).1<fB x 4 (a.take k) then (dJ x 0 0 f).1 else fB x 4 (a.take k):=by rw[KN,h];exact ES x 4 _ f
theorem EJ(B lv ls)(x:Nat->Int)(w)(I:cD B w lv ls)(J:B<=w.1.size)(c:∀f∈ls,aV f=0):
  cL 15 #[lv,jm x] w (rT w (U (fB x 4 ls))):=by
 have R:=Z λq (h:bL w q)=>I.l h J
 obtain⟨a,y,rfl,T,V,-⟩:=I;have W:=ai;generalize m:ls.length=d at*;have g:=Z m;clear m;have X:=Z c;clear c;show cL 15 #[.slice a d y,.agg #[U (x 0),U (x 1),U (x 2),U (x 3),U (x 4)]] w _;have⟨K,i⟩:=nM (w.alloc (.cells #[U (x 0),U (x 1),U (x 2),U (x 3),U (x 4)] 34));have z:=bA i;have Y:=sA i;have L:=hA i;have HX:Hid (∀q,bL K q->Na q w.1.size (fJ x) 34):=λq h=>(h.block w.1.size (by omega)).trans L
 have HW:Hid _:=i;clear i L;go_enter func15,ntmps15;go_wp2;rw[<-HW.o];go_loopw [5,12] (λvv A wr=>∃k:Nat,k<=d/\A=U k/\vv=U (fB x 4 (ls.take k))/\bL K wr) (λ_ A _=>d-(intOf A).toNat)
 case atStart=>exact⟨0,by omega,rfl,rfl,Kf _ _⟩
 case round=>
  obtain⟨k,hk,rfl,rfl,j⟩:=hrel;have⟨M,C⟩:=nM (wr);subst C;have i0:(0:Int)<=(k:Int):=by omega
  have r:=j.size;have l:=z.th j;have D:Hid _:=l
  by_cases a4:k<d
  ·have i1:(k:Int)<(d:Int):=by omega
   obtain⟨f,v⟩:∃f,ls[k]?=some f:=⟨ls[k]'(by rw[g.o];omega),by simp⟩;have S:=Z (yA x ls k f v);obtain⟨_,_,N,-,-,s⟩:=R.o _ l;have⟨b,o,fv,e,a6,hc,E⟩:=s k f v;simp at N;obtain⟨rfl,-,-⟩:=N;subst e;have c:=X.o f (Kb v);clear s;have t:=Z (DM B fv f x M E (l.u J) c);obtain⟨a2,c2,rfl,-,-⟩:=E.shape;have p:=(eD (HX.o M j)).1;have y0:=p 0 (by omega);have y1:=p 1 (by omega);have y2:=p 2 (by omega);have y3:=p 3 (by omega);have y4:=p 4 (by omega);clear E v p c l;generalize f.length=n2 at*;generalize (dJ x 0 0 f).1=O at*;generalize (dJ x 0 0 f).2=vb at*;generalize fB x 4 (ls.take k)=u at*
   by_cases P:O<u
   ·have F:=Z (by rw[S.o,Io P]:O=fB x 4 (ls.take (k+1)));clear S;go_wp2_with (first|(go_at_call 39;go_must (refine t.o.mono ?_;rintro e w2 ⟨rfl,n⟩)));exact⟨⟨k+1,by omega,by go_num,by rw[F.o],Below.tO j n r⟩,by simp[intOf];omega⟩
   have F:=Z (by rw[S.o,iO P]:u=fB x 4 (ls.take (k+1)));clear S;go_wp2_with (first|(go_at_call 39;go_must (refine t.o.mono ?_;rintro e w2 ⟨rfl,n⟩)));exact⟨⟨k+1,by omega,by go_num,by rw[F.o],Below.tO j n r⟩,by simp[intOf];omega⟩
  have e:ls.take k=ls:=Ki (by rw[g.o];omega);rw[e];have Q:Hid (∃u,u=fB x 4 ls):=⟨_,rfl⟩;obtain⟨u,G⟩:=Q.o;rw[<-G];have H:=Z G;clear G Q;go_wp2;go_ret;exact⟨by rw[<-H.o];rfl,D.o⟩
theorem sD{α:Type}[DecidableEq α](l m:List α)(k:Nat)(a b:α)(c:l[k]?=some a)(d:m[k]?=some b)(h:l.take k=m.take k):l.take (k+1)=m.take (k+1) ↔ a=b:=by rw[KN,KN,c,d,h];simp
theorem vZ(B cv dv cs b w)(d:dR B w cv cs)(f:dR B w dv b)(h:B<=w.1.size):
  cL 81 #[cv,dv] w (rT w (.bool (decide (cs=b)))):=by
 have i:=Z (qj B cv dv cs b w d f h);obtain⟨a,c,rfl,-,-⟩:=d.shape;obtain⟨j,k,rfl,-,-⟩:=f.shape;clear d f;generalize decide (cs=b)=eq at*;generalize cs.length=n at*;generalize b.length=l at*;go_enter func81,ntmps81;go_wp2_with (first|(go_at_call 82;go_must (refine i.o.mono ?_;rintro e m ⟨rfl,g⟩)));go_ret;exact⟨rfl,g⟩
theorem xX(B lv mv ls ms w)(L:cD B w lv ls)(M:cD B w mv ms)(E:B<=w.1.size):
  cL 80 #[lv,mv,.func (.func 81) #[] #[]] w (rT w (.bool (decide (ls=ms)))):=by
 have T:=Z λF (h:bL w F)=>L.l h E
 have V:=Z λF (h:bL w F)=>M.l h E
 obtain⟨a,W,rfl,X,Y,-⟩:=L;obtain⟨a',N,rfl,O,P,-⟩:=M;have a0:=ai;have Q:Hid (ls.length≠ms.length->decide (ls=ms)=false):=λh=>KD λe=>h (by rw[e])
 generalize p:ls.length=n at*;generalize i:ms.length=m at*;have j:=Z p;have c:=Z i;clear p i
 by_cases x:n=m
 ·subst x;clear Q;go_enter func80,ntmps80;go_wp2;go_loopw [17] (λG wr=>∃k:Nat,k<=n/\G=U k/\Hid (ls.take k=ms.take k)/\bL w wr) (λG _=>n-(intOf G).toNat)
  case atStart=>exact⟨0,by omega,rfl,by unfold Hid;simp,Kf _ _⟩
  case round=>
   obtain⟨k,hk,rfl,H,d⟩:=hrel;have⟨wo,I⟩:=nM (wr);subst I;have i0:(0:Int)<=(k:Int):=by omega
   have r:=d.size
   by_cases a4:k<n
   ·have i1:(k:Int)<(n:Int):=by omega
    obtain⟨f,y⟩:∃f,ls[k]?=some f:=⟨ls[k]'(by rw[j.o];omega),by simp⟩;obtain⟨g,D⟩:∃g,ms[k]?=some g:=⟨ms[k]'(by rw[c.o];omega),by simp⟩;have S:=Z (sD ls ms k f g y D H.o);have J:Hid (f≠g->decide (ls=ms)=false):=λh=>KD λe=>h (by rw[e,D] at y;simpa using y.symm)
    obtain⟨_,_,z,-,-,A⟩:=T.o _ d;have⟨b,o,fv,e,a6,hc,K⟩:=A k f y;simp at z;obtain⟨rfl,-,-⟩:=z;subst e;obtain⟨_,_,z,-,-,q⟩:=V.o _ d;have⟨b',o',gv,e,R,a8,s⟩:=q k g D;simp at z;obtain⟨rfl,-,-⟩:=z;subst e;clear A q;have l:=Z (vZ B fv gv f g wo K s (Kl E r));obtain⟨a2,c2,rfl,-,-⟩:=K.shape;obtain⟨a3,c3,rfl,-,-⟩:=s.shape;clear K s y D;generalize f.length=n2 at*;generalize g.length=n3 at*
    by_cases v:f=g
    ·have t:=Z (S.o.2 v);rw[KS v] at l;clear v S J;go_wp2_with (first|(go_at_call 81;go_must (refine l.o.mono ?_;rintro e w2 ⟨rfl,u⟩)));exact⟨⟨k+1,by omega,by go_num,t,Below.tO d u r⟩,by simp[intOf];omega⟩
    have t:=Z (J.o v);rw[KD v] at l;clear v S J;go_wp2_with (first|(go_at_call 81;go_must (refine l.o.mono ?_;rintro e w2 ⟨rfl,u⟩)));go_ret;exact⟨by rw[t.o];rfl,Below.tO d u r⟩
   have t:Hid (decide (ls=ms)=true):=by apply KS;have:=H.o;rw[Ki (by rw[j.o];omega),Ki (by rw[c.o];omega)] at this;exact this
   go_wp2;go_ret;exact⟨by rw[t.o];rfl,d⟩
 have C:¬(n:Int)=(m:Int):=by omega
 have t:=Z (Q.o x);have hq:((n:Int) != (m:Int))=true:=by simpa using C
 go_enter func80,ntmps80;go_wp2;go_ret;exact⟨by rw[t.o];rfl,Kf _ _⟩
theorem yj(B lv mv ls b w)(d:cD B w lv ls)(f:cD B w mv b)(h:B<=w.1.size):
  cL 51 #[lv,mv] w (rT w (.bool (decide (ls=b)))):=by
 have i:=Z (xX B lv mv ls b w d f h);obtain⟨a,c,rfl,-,-⟩:=d.shape;obtain⟨j,k,rfl,-,-⟩:=f.shape;clear d f;generalize decide (ls=b)=eq at*;generalize ls.length=n at*;generalize b.length=l at*;go_enter func51,ntmps51;go_wp2_with (first|(go_at_call 80;go_must (refine i.o.mono ?_;rintro e m ⟨rfl,g⟩)));go_ret;exact⟨rfl,g⟩
theorem aX.setBox{B k j:Nat}{w}{v u u0 u1:Value}{p T}{C:Nat × Nat}(h:aX B w v p)(D:w.1[k]?=some (.cells #[u0,u1] T C))(E:∀ (b o n c:Nat) (d:Value),v=.agg #[.slice (some ⟨b,o,none⟩) n c,d]->b≠k):aX B (w.setCell ⟨k,j,none⟩ u) v p:=by
 obtain⟨rs,d⟩:=p;obtain⟨rv,rfl,F,a,x,rfl,G,H,I⟩:=h;refine⟨_,rfl,F,a,x,rfl,G,H,λi r J=>?_⟩;obtain⟨b,o,rfl,K,L,M,N,O,P⟩:=I i r J;have y:b≠k:=E b o _ _ _ rfl;have l:∀q,(w.setCell ⟨k,j,none⟩ u).cell? ⟨b,q,none⟩=w.cell? ⟨b,q,none⟩:=λq=>by unfold World.cell?;rw[Kc _ _ _ _ y]
 refine⟨b,o,rfl,K,L,(l _).trans M,(l _).trans N,O,?_⟩;obtain⟨Q,m,e,R,S,V⟩:=P;refine⟨Q,m,e,R,S,λW c z=>?_⟩;have⟨t,X,Y,A,g⟩:=V W c z;refine⟨t,X,Y,A,?_⟩
 by_cases s:t=k
 ·exfalso;subst s;have:=g.2.2.1;simp[World.cell?,D] at this
 have f:∀q,(w.setCell ⟨k,j,none⟩ u).cell? ⟨t,q,none⟩=w.cell? ⟨t,q,none⟩:=λq=>by unfold World.cell?;rw[Kc _ _ _ _ s]
 exact⟨(f _).trans g.1,(f _).trans g.2.1,(f _).trans g.2.2.1,g.2.2.2⟩
theorem AX(B:Nat)(pv qv:Value)(p q:aD)(w:World)(hp:aX B w pv p)(hq:aX B w qv q)(T:B<=w.1.size):
  cL 97 #[pv,qv] w λe g=>∃v,e=.returned (.tuple #[v,U (fQ p q)])/\aX g.1.size g v (fE p q)/\bL w g:=by
 have HF:Hid (∀g,bL w g->cL 123 #[qv,pv] g (rT g (.tuple #[.bool (dN q p).isSome,.agg #[U (fj q p 0),U (fj q p 1),U (fj q p 2),U (fj q p 3),U (fj q p 4)],U (aT [q,p])]))):=λg h=>uI B qv pv q p g (hq.l h T) (hp.l h T) (h.u T)
 have x:Hid (∀g,bL w g->cL 124 #[qv,pv,.bool true] g λe V=>∃v,e=.returned (.tuple #[v,U (eJ true q p)])/\aX V.1.size V v (eI true q p)/\bL g V):=λg h=>I0 B qv pv q p true g (hq.l h T) (hp.l h T) (h.u T)
 have t:Hid (fQ p q=if aT [q,p]=0 then (if (dN q p).isSome then 7 else if eJ true q p=0 then aT [eI true q p] else eJ true q p) else aT [q,p]):=rfl;have i:Hid (fE p q=if fQ p q=0 then j9 (eI true q p) else ([],0)):=rfl;obtain⟨J,d⟩:=p;obtain⟨K,f⟩:=q;obtain⟨rv,rfl,-,a,W,rfl,-⟩:=hp;obtain⟨sv,rfl,-,b,y,rfl,-⟩:=hq;simp only at HF x;generalize fj (K,f) (J,d)=c1 at*;generalize (dN (K,f) (J,d)).isSome=lo at*;generalize aT [(K,f),(J,d)]=pe at*;generalize eJ true (K,f) (J,d)=Y at*;generalize eI true (K,f) (J,d)=L at*;generalize fQ (J,d) (K,f)=E at*;generalize fE (J,d) (K,f)=dr at*;generalize J.length=n1 at*;generalize K.length=n2 at*;clear T;have⟨W3,k⟩:=nM (((w.alloc (.cells #[.slice a n1 W,U d] 30)).alloc (.cells #[.slice b n2 y,U f] 30)).alloc (.cells #[nL,U 0] 30));have c9:W3.1.size=w.1.size+1+1+1:=by rw[k];simp
 have ak:bL w W3:=by rw[k];exact((bR.alloc lE _).alloc (by simp) _).alloc (by simp;omega) _
 have g0:W3.1[w.1.size]?=some (.cells #[.slice a n1 W,U d] 30 (0,0)):=by rw[k];exact aS _ (aS _ (be _ _ rfl))
 have g1:W3.1[w.1.size+1]?=some (.cells #[.slice b n2 y,U f] 30 (0,0)):=by rw[k];exact aS _ (be _ _ (by simp only[Kg]))
 have l:W3.1[w.1.size+1+1]?=some (.cells #[nL,U 0] 30 (0,0)):=by rw[k];exact be _ _ (by simp only[Kg])
 have HG:Hid (∀g,bL W3 g->g.1[w.1.size]?=some (.cells #[.slice a n1 W,U d] 30 (0,0))/\g.1[w.1.size+1]?=some (.cells #[.slice b n2 y,U f] 30 (0,0))/\g.1[w.1.size+1+1]?=some (.cells #[nL,U 0] 30 (0,0))):=λg h=>⟨h.bk g0,h.bk g1,h.bk l⟩
 have HW:=Z k;clear k g0 g1 l;go_enter func97,ntmps97;go_wp2_with fail;rw[<-HW.o];go_at_call 123;refine(HF.o _ ak).mono ?_;rintro e w4 ⟨rfl,z⟩;have al:=z.size;have m:bL w w4:=ak.th z;have⟨g0,g1,l⟩:=HG.o w4 z;have l2:w.1.size+1+1<w4.1.size:=by omega
 have z0:=J0 l;have z1:=J1 l;have ao:=fZ l 0;have av:=fZ l 1;have y0:=J0 g0;have y1:=J1 g0;have x0:=J0 g1;have x1:=J1 g1;have l0:w.1.size<w4.1.size:=by omega
 have l1:w.1.size+1<w4.1.size:=by omega
 have M:∀X,bL w (w4.alloc X):=λX=>m.alloc m.size X
 have N:∀X,bL W3 (w4.alloc X):=λX=>z.alloc al X
 have F:Hid _:=M;have O:=Z m;have A:Hid _:=N;clear g0 g1 l HF M N z m al
 by_cases hz:pe=0
 ·subst hz
  cases lo with
  |true=>
   have C:Hid (E=7/\dr=([],0)):=by
    have e:E=7:=by rw[t.o];rfl
    exact⟨e,by rw[i.o,iO (by rw[e];decide)]⟩
   clear t i x;go_wp2_with fail;refine Ka (v:=.tuple #[.agg #[nL,U 0],U 7]) ?_ rfl ⟨_,by rw[C.o.1],by rw[C.o.2];exact bV _ _,?_⟩
   ·rw[K8 rfl];go_simp
   repeat(first|exact O.o|refine Ky ?_ (by show w.1.size<=w.1.size+1+1;omega) _|refine Lc ?_ (by simp;omega) _)
  |false=>
   have r:Hid (E=if Y=0 then aT [L] else Y):=by unfold Hid;rw[t.o];rfl
   clear t;go_wp2_with fail;go_at_call 124;refine(x.o _ (F.o _)).mono ?_;rintro e D ⟨dv,rfl,b0,G⟩;have bm:=G.size;rw[Kg] at bm;have P:bL w D:=Below.tO (F.o _) G (F.o _).size;obtain⟨-,-,l⟩:=HG.o D (Below.tO (A.o _) G (A.o _).size);have Q:∀X,bL D (D.alloc X):=λX=>bR.alloc lE X
   have H:Hid (∀X,cL 125 #[dv] (D.alloc X) λe g=>∃rv,e=.returned (.tuple #[rv,U (aT [L])])/\aX g.1.size g rv (iL L)/\E8 (D.alloc X).1.size rv/\Below (D.alloc X).1.size (D.alloc X) g):=λX=>Cm D.1.size dv L (D.alloc X) (b0.l (Q X) lE) (Q X).size
   have a2:Hid (iL L=if aT [L]=0 then j9 L else ([],0)):=rfl;obtain⟨ms,md⟩:=L;obtain⟨rv,rfl,-,a5,c5,rfl,-⟩:=b0;simp only at H;generalize ms.length=n5 at*;generalize aT [(ms,md)]=pm at*;generalize b1:iL (ms,md)=sr at*;have c3:=Z b1;clear b1;have z0:=J0 l;have z1:=J1 l;have ao:=fZ l 0;have av:=fZ l 1;have l2:w.1.size+1+1<D.1.size:=by omega
   have a3:Hid _:=P;have bq:Hid _:=l;clear F A G P l x
   by_cases hm:Y=0
   ·subst hm
    have C:Hid (E=pm/\dr=sr):=by
     have e:E=pm:=by rw[r.o];rfl
     refine⟨e,?_⟩;rw[i.o,e,a2.o]
    clear r i a2;go_wp2_with fail;go_at_call 125;refine(H.o _).mono ?_;rintro e w6 ⟨sv,rfl,b3,s,I⟩;have br:=I.size;rw[Kg] at br s;have b6:w6.1[w.1.size+1+1]?=some (.cells #[nL,U 0] 30 (0,0)):=(I.block _ (by simp;omega)).trans ((Kq _ _ _ (by omega)).trans bq.o);have R:bL w w6:=Below.tO (a3.o.alloc a3.o.size _) I (by simp;omega);have q0:=J0 b6;have q1:=J1 b6;have cc:=fZ b6 0;have cd:=fZ b6 1;have b4:Hid _:=b3;obtain⟨ts,td⟩:=sr;obtain⟨rv,e1,-,a6,c6,e2,-⟩:=b3;subst e2 e1;simp only at b4 s;generalize ts.length=n6 at*;have S:Hid (∀ (b o n c:Nat) (d:Value),Value.agg #[.slice a6 n6 c6,U td]=.agg #[.slice (some ⟨b,o,none⟩) n c,d]->b≠w.1.size+1+1):=λb o n c d h=>by have:=s b o n c d h;omega
    have bs:Hid _:=R;have b7:Hid _:=b6;clear s I R b6 H z0 z1 ao av;go_wp2_with fail;refine Ka (v:=.tuple #[.agg #[.slice a6 n6 c6,U td],U pm]) ?_ rfl ⟨_,by rw[C.o.1],?_,?_⟩
    ·rw[K8 rfl];go_simp
    ·rw[C.o.2];have h0:aX w6.1.size w6 (.agg #[.slice a6 n6 c6,U td]) (ts,td):=b4.o;have h:=(h0.setBox (j:=0) (u:=.slice a6 n6 c6) b7.o S.o).setBox (j:=1) (u:=U td) (ap b7.o) S.o
     simpa using h
    exact bs.o.s2 (by show w.1.size<=w.1.size+1+1;omega)
   have C:Hid (E=Y/\dr=([],0)):=by
    have e:E=Y:=by rw[r.o,iO hm]
    exact⟨e,by rw[i.o,iO (by rw[e];exact hm)]⟩
   have hq:(Y != 0)=true:=by simpa using hm
   clear r i a2 hm H;go_wp2_with fail;refine Ka (v:=.tuple #[.agg #[nL,U 0],U Y]) ?_ rfl ⟨_,by rw[C.o.1],by rw[C.o.2];exact bV _ _,?_⟩
   ·rw[K8 rfl];go_simp
   repeat(first|exact a3.o|refine Ky ?_ (by show w.1.size<=w.1.size+1+1;omega) _|refine Lc ?_ (by simp;omega) _)
 have C:Hid (E=pe/\dr=([],0)):=by
  have e:E=pe:=by rw[t.o,iO hz]
  exact⟨e,by rw[i.o,iO (by rw[e];exact hz)]⟩
 have hq:(pe != 0)=true:=by simpa using hz
 have ck:(pe==0)=false:=by simpa using hz
 clear t i x hz;go_wp2_with fail;refine Ka (v:=.tuple #[.agg #[nL,U 0],U pe]) ?_ rfl ⟨_,by rw[C.o.1],by rw[C.o.2];exact bV _ _,?_⟩
 ·rw[K8 rfl];go_simp
 repeat(first|exact O.o|refine Ky ?_ (by show w.1.size<=w.1.size+1+1;omega) _|refine Lc ?_ (by simp;omega) _)
theorem Cb(B lv pv qv ls p q w)(hl:cD B w lv ls)(hp:aX B w pv p)(hq:aX B w qv q)(hB:B<=w.1.size):
  cL 66 #[lv,pv,qv] w λe E=>∃v,e=.returned (.tuple #[v,U (dm ls p q)])/\tB B w.1.size E v (dt ls p q)/\bL w E/\∀G:Nat->Prop,(∀k,G k->k<w.1.size)->lZ G B w->ym G w lv ls->ym G E v (dt ls p q):=by
 have HL:=Z λE (h:bL w E)=>hl.l h hB
 have HC:=Z λE (h:bL w E)=>oF B lv ls E (hl.l h hB) (h.u hB)
 have HD:=Z λE (h:bL w E)=>AX B pv qv p q E (hp.l h hB) (hq.l h hB) (h.u hB)
 have K:Hid (dm ls p q=if bl ls=0 then (if fQ p q=0 then (if ls.length=6 then 2 else cB (fE p q)) else fQ p q) else bl ls):=rfl;have n:Hid (dt ls p q=if dm ls p q=0 then ls++[cm (fE p q)] else []):=rfl;have P:=Z λ(h:bl ls=0)=>(fA.1 h).1
 obtain⟨la,M,rfl,c9,dl,-⟩:=hl;obtain⟨rs,d⟩:=p;obtain⟨ss,f⟩:=q;obtain⟨rv,rfl,-,a,b3,rfl,-⟩:=hp;obtain⟨sv,rfl,-,b,Y,rfl,-⟩:=hq;simp only at HC HD;have dp:=ai;have⟨N,a7⟩:=nM (ls.length);have a0:=Z a7.symm
 rw[<-a7] at HL HC K P c9 |-
 clear a7;generalize bl ls=ce at*;generalize fQ (rs,d) (ss,f)=de at*;generalize fE (rs,d) (ss,f)=dr at*;generalize dm ls (rs,d) (ss,f)=O at*;generalize dt ls (rs,d) (ss,f)=tr at*;generalize rs.length=n1 at*;generalize ss.length=n2 at*;have⟨W2,F⟩:=nM ((w.alloc (.cells #[.slice a n1 b3,U d] 30)).alloc (.cells #[.slice b n2 Y,U f] 30));have dq:=sB F;have b5:=bB F;have g0:Na W2 w.1.size #[.slice a n1 b3,U d] 30:=by rw[F];exact aS _ (be _ _ rfl)
 have g1:Na W2 (w.1.size+1) #[.slice b n2 Y,U f] 30:=by rw[F];exact be _ _ (by simp only[Kg])
 have HG:=Z λE (h:bL W2 E)=>Q2 (h.bk g0) (h.bk g1)
 have HW:=Z F;clear F g0 g1;go_enter func66,ntmps66;go_wp2_with fail;rw[<-HW.o];go_at_call 96;refine(HC.o _ b5).mono ?_;rintro e w3 ⟨rfl,Q⟩;have e2:=Q.size;have C:=b5.th Q;clear HC
 by_cases t:ce=0
 ·subst t;have e3:=P.o rfl;have⟨g0,g1⟩:=HG.o w3 Q;have y0:=J0 g0;have y1:=J1 g0;have x0:=J0 g1;have x1:=J1 g1;have r:=Z (by rw[K.o,Io rfl]:O=if de=0 then (if N=6 then 2 else cB dr) else de);clear g0 g1 K P;go_wp2_with fail;go_at_call 97;refine(HD.o _ C).mono ?_;rintro e w4 ⟨dv,rfl,b6,b7⟩;have a1:=C.th b7;have a2:∀X,bL w4 (w4.alloc X):=λX=>bR.alloc lE X
  have H:=Z λX=>qT w4.1.size dv dr (w4.alloc X) (b6.l (a2 X) lE) (a2 X).size
  have a9:Hid (cB dr=0->dW dr=cm dr):=λh=>by rw[dW,Io h]
  obtain⟨y,z⟩:=dr;obtain⟨rv,rfl,-,a4,c4,rfl,-⟩:=b6;simp only at H;generalize y.length=n4 at*;have m:Hid _:=a1;clear b7 a1 C Q y0 y1 x0 x1 HD
  by_cases hd:de=0
  ·subst hd
   by_cases h6:N=6
   ·subst h6
    have s:Hid (O=2/\tr=[]):=by
     have e:O=2:=by rw[r.o];rfl
     exact⟨e,by rw[n.o,iO (by rw[e];decide)]⟩
    clear r n H;go_wp2_with fail;go_ret2;exact⟨_,by rw[s.o.1];rfl,by rw[s.o.2];exact pO _ _ _,m.o.alloc m.o.size _,λG _ _ _=>by rw[s.o.2];exact rQ _ _⟩
   have cc:¬(N:Int)=6:=by omega
   have eb:((N:Int)==6)=false:=by simpa using cc
   have D:=Z (by rw[r.o,Io rfl,iO h6]:O=cB (y,z));clear r h6;go_wp2_with fail;go_at_call 65;refine(H.o _).mono ?_;rintro e x ⟨fv,rfl,I,R,S⟩
   by_cases A:cB (y,z)=0
   ·have s:Hid (O=0/\tr=ls++[cm (y,z)]):=by
     have e:O=0:=by rw[D.o,A]
     exact⟨e,by rw[n.o,Io e]⟩
    rw[a9.o A] at I R;rw[A];clear A D n a9 H;obtain⟨fa,fc,rfl,-,-⟩:=an I;have ba:Hid (x.ownsRow w.1.size 112 4 (.slice fa (cm (y,z)).length fc) (cm (y,z)).length (aJ (cm (y,z)))/\∀i∈cm (y,z),gH i):=⟨cU I (by have:=m.o.size;simp;omega),R⟩;have c:bL w x:=Below.tO (m.o.alloc m.o.size _) S (by simp;have:=m.o.size;omega);have cd:=c.size;obtain⟨xs,T,ac⟩:=DO (HL.o _ c);have cf:xs.length=N:=by rw[T.1,a0.o]
    have⟨W6,V⟩:=nM (x.alloc (.cells #[] 77));have W:=bA V;have bb:W6.ownsRow x.1.size 77 1 (.slice (MZ x) 0 0) 0 []:=by rw[V];exact⟨rfl,.inr ⟨x.1.size,0,#[],rfl,Ke _,ah x _,Ke _,Ks _,rfl,rfl⟩⟩
    obtain⟨v7,w7,ci,ck,bc⟩:=xw x.1.size 44 _ 0 [] la N M xs W6 bb cf (λj u hj=>by
     have⟨b,o,e,hb,t⟩:=ac j u hj
     exact⟨b,o,e,(W.cell (p:=⟨b,o+j,none⟩) (by show b<x.1.size;omega)).trans t⟩) T.slices (by omega) W.size
    have a3:=W.trans bc;have cl:=Z V;obtain⟨ee,cn,co,cs,cv⟩:=uS;have HF:=Z2 T trivial;have cx:Hid (∀G:Nat->Prop,(∀k,G k->k<w.1.size)->lZ G B w->ym G w (.slice la N M) ls->∀ (j:Nat) u f,xs[j]?=some u->ls[j]?=some f->K7 G x u f):=λG hG hO hC j u f hu hf=>by have⟨b,o,ea,eg,t⟩:=ac j u hu;exact(hC.l c (λ_ _ e=>e)).vals (HL.o _ c) (hO.l c) ea t hf
    have d0:(0+N+1)*24<=140737488355328:=by omega
    have d1:0+N+1<=maxLen:=by omega
    have bk:Hid _:=a3;have bm:Hid _:=c;clear I R T ac V W bb S bc a3 c;generalize bo:(cm (y,z)).length=fl at*;have a5:=Z bo;clear bo;go_wp2_with (first|(at_builtin;go_must (first|(rw[<-cl.o];refine Kw _ rfl _ _ _ _ rfl _ _ rfl rfl _ _ ci ?_)|(refine ir _ rfl _ _ rfl Tryz.underlying44 cn co cs cv rfl (by decide) x.1.size _ _ _ rfl _ 1 [.slice fa fl fc] rfl _ rfl (by simp) w7 bR ck rfl (by intro u hu;simp at hu;subst hu;rfl) d1 d0 bk.o.size ?_;intro v8 w8 ho8 hb8 hg8))));have l:=bk.o.trans hb8;have e8:(ls++[cm (y,z)]).length=0+N+1:=by simp[a0.o]
    have d2:tB B w.1.size w8 v8 (ls++[cm (y,z)]):=by
     intro wF bq br;have bs:=(l.mono (Kl hB cd)).trans bq;have ej:=bq.size;have bv:∀g,w.1.size<=g->g<x.1.size->wF.1[g]?=x.1[g]?:=λg h1 J=>(br g h1 (Kd J l.size)).trans (l.block g J)
     refine sR (L:=x.1.size) (xs:=[]++xs++[.slice fa fl fc]) (by rw[e8];exact bT ho8.o λg ad ae t=>br g (by omega) (io t)) ?_;have h1:=HF.o.1;rw[MK];refine((h1.l bs lE).mono (by have:=l.size;omega)).append (ii.one ?_);have J:=ba.o
     rw[<-a5.o] at J |-
     exact jA (bT J.1 λg ad ae t=>bv g (by omega) (io t)) J.2
    have bx:=bm.o.th l
    have d3:∀G:Nat->Prop,(∀k,G k->k<w.1.size)->lZ G B w->ym G w (.slice la N M) ls->ym G w8 v8 (ls++[cm (y,z)]):=λG hG hO hC wF hK=>by
     have bz:∀g,w.1.size<=g->g<w8.1.size->wF.1[g]?=w8.1[g]?:=λg h1 J=>hK.2 g (λe=>absurd (hG g e) (by omega)) J
     have d4:Kx G x wF:=hK.back l (λ_ _ e=>e);refine sR (L:=x.1.size) (xs:=[]++xs++[.slice fa fl fc]) (by rw[e8];exact bT ho8.o λg ad ae t=>bz g (by omega) (io t)) ?_;rw[MK];refine ii.append ⟨HF.o.1.1,λj u f hu hf=>cx.o G hG hO hC j u f hu hf wF d4⟩ (ii.one ?_);have J:=ba.o
     rw[<-a5.o] at J |-
     exact jA (bT J.1 λg ad ae t=>(bz g (by omega) (Kd (io t) l.size)).trans (l.block g (io t))) J.2
    go_ret2;exact⟨_,by rw[s.o.1];rfl,by rw[s.o.2];exact d2,bx,λG hG hO hC=>by rw[s.o.2];exact d3 G hG hO hC⟩
   have s:Hid (O=cB (y,z)/\tr=[]):=by have e:=D.o;exact⟨e,by rw[n.o,iO (by rw[e];exact A)]⟩
   have hq:(cB (y,z) != 0)=true:=by simpa using A
   clear A D n a9 H;generalize cB (y,z)=cp at*;have c:bL w x:=Below.tO (m.o.alloc m.o.size _) S (by simp;have:=m.o.size;omega);obtain⟨fa,fc,rfl,-⟩:=an I;have d5:Hid _:=c;clear I R S c;generalize (dW (y,z)).length=fl at*;go_wp2_with fail;go_ret2;exact⟨_,by rw[s.o.1];rfl,by rw[s.o.2];exact pO _ _ _,d5.o,λG _ _ _=>by rw[s.o.2];exact rQ _ _⟩
  have s:Hid (O=de/\tr=[]):=by
   have e:O=de:=by rw[r.o,iO hd]
   exact⟨e,by rw[n.o,iO (by rw[e];exact hd)]⟩
  have hq:(de != 0)=true:=by simpa using hd
  have ek:(de==0)=false:=by simpa using hd
  clear r n H hd;go_wp2_with fail;go_ret2;exact⟨_,by rw[s.o.1];rfl,by rw[s.o.2];exact pO _ _ _,m.o.alloc m.o.size _,λG _ _ _=>by rw[s.o.2];exact rQ _ _⟩
 have s:Hid (O=ce/\tr=[]):=by
  have e:O=ce:=by rw[K.o,iO t]
  exact⟨e,by rw[n.o,iO (by rw[e];exact t)]⟩
 have hq:(ce != 0)=true:=by simpa using t
 clear K n t HD P;go_wp2_with fail;go_ret2;exact⟨_,by rw[s.o.1];rfl,by rw[s.o.2];exact pO _ _ _,C,λG _ _ _=>by rw[s.o.2];exact rQ _ _⟩
