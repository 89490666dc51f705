import Derived.Test.YtjdnfhkkkejcfaaGreatDoorWd07
import Derived.Test.YtjdnfhkkkejcfaaGreatDoorWd08
set_option linter.all false
set_option maxRecDepth 100000
set_option maxHeartbeats 16000000
namespace Go.Proofs.YtjdnfhkkkejcfaaGreatDoor
open Go.RowKit Go.Maps Go.Proofs.Tryz
theorem xn{n:Int}(a:0<=n)(b:n<4)(w):cL 141 #[U n] w λe c=>e=.returned (.bool true)/\c=w:=by go_enter func141,ntmps141;go_wp2;go_ret;exact⟨by simp[a,b],rfl⟩
theorem z8{n:Int}(h:n<0\/3<n)(w):cL 141 #[U n] w λe a=>e=.returned (.bool false)/\a=w:=by
 by_cases b:0<=n
 ·have c:¬n<4:=by omega
  clear h;go_enter func141,ntmps141;go_wp2;go_ret;exact⟨by simp[c],rfl⟩
 clear h;go_enter func141,ntmps141;go_wp2;go_ret;exact⟨by simp[b],rfl⟩
theorem tx{k:Int}(a:k=1\/k=2\/k=3\/k=4)(w):cL 142 #[U k] w λe b=>e=.returned (.bool (decide (k=1\/k=2)))/\b=w:=by
 rcases a with rfl|rfl|rfl|rfl
 all_goals
  go_enter func142,ntmps142;go_wp2;go_ret;exact⟨by simp,rfl⟩
theorem jy(B v r w)(P:cI B w v r)(K:B<=w.1.size):
  cL 115 #[v] w (rT w (U (aZ r))):=by
 obtain⟨a,c,rfl,t⟩:=P.shape;have l:=Z λb (h:bL w b)=>gZ B _ r.2.2.2 b (t.l h K) (h.u K)
 have⟨z,p⟩:=nM (decide (r.2.2.2=(([],0):aD)));have m:Hid (∀b,bL w b->cL 94 #[.agg #[.slice a r.2.2.2.1.length c,U r.2.2.2.2],.agg #[nL,U 0]] b (rT b (.bool z))):=λb h=>by rw[p];exact BX B _ _ r.2.2.2 ([],0) b (t.l h K) (bV _ _) (h.u K)
 have L:Hid (aZ r=if r.1<1\/4<r.1 then 4 else if (r.2.1<0\/3<r.2.1)\/(r.2.2.1<0\/3<r.2.2.1) then 3 else if (0<r.2.2.1/\r.1≠3)\/(¬(r.1=1\/r.1=2)/\¬(r.2.2.2.2=0/\r.2.2.2.1=[])) then 4 else if r.1=1\/r.1=2 then aj r.2.2.2 else 0):=rfl
 have Q:Hid (z=true ↔ (r.2.2.2.2=0/\r.2.2.2.1=[])):=by
  unfold Hid;rw[p,decide_eq_true_iff];obtain⟨k,H,u,D,d⟩:=r;constructor
  ·intro h
   cases h;exact⟨rfl,rfl⟩
  rintro⟨F,G⟩;show ((D,d):aD)=([],0);rw[show D=[] from G,show d=0 from F]
 clear p;clear P t;obtain⟨k,H,u,D,d⟩:=r;simp only at*;generalize aZ (k,H,u,D,d)=E at*;generalize aj (D,d)=N at*;have o:=Z Q.o;generalize V:D.length=n at*;clear V Q;have x:∀X,bL w (w.alloc X):=λX=>bR.alloc lE _
 by_cases F:k<1\/4<k
 ·have e:=Z (by rw[L.o,Io F]:E=4);clear L l m
  rcases F with F|F
  ·go_enter func115,ntmps115;go_wp2;go_ret;exact⟨by rw[e.o];rfl,x _⟩
  have G:¬k<1:=by omega
  go_enter func115,ntmps115;go_wp2;go_ret;exact⟨by rw[e.o];rfl,x _⟩
 have R:k=1\/k=2\/k=3\/k=4:=by omega
 have W:¬k<1:=by omega
 have Y:¬4<k:=by omega
 have q:=Z (by rw[L.o,iO F]:E=if (H<0\/3<H)\/(u<0\/3<u) then 3 else if (0<u/\k≠3)\/(¬(k=1\/k=2)/\¬(d=0/\D=[])) then 4 else if k=1\/k=2 then N else 0);have O:=Z R;clear L F R
 by_cases G:H<0\/3<H
 ·have e:=Z (by rw[q.o,Io (.inl G)]:E=3);have f:=Z λb=>z8 G b
  clear q l m G;go_enter func115,ntmps115;go_wp2_with fail;go_at_call 141;refine(f.o _).mono ?_;rintro e j ⟨rfl,rfl⟩;go_wp2_with fail;go_ret;exact⟨by rw[e.o];rfl,x _⟩
 have f:Hid (∀b,cL 141 #[U H] b λe y=>e=.returned (.bool true)/\y=b):=λb=>xn (by omega) (by omega) b
 by_cases M:u<0\/3<u
 ·have e:=Z (by rw[q.o,Io (.inr M)]:E=3);have g:=Z λb=>z8 M b
  clear q l m G M;go_enter func115,ntmps115;go_wp2_with fail;go_at_call 141;refine(f.o _).mono ?_;rintro e j ⟨rfl,rfl⟩;go_wp2_with fail;go_at_call 141;refine(g.o _).mono ?_;rintro e j ⟨rfl,rfl⟩;go_wp2_with fail;go_ret;exact⟨by rw[e.o];rfl,x _⟩
 have g:Hid (∀b,cL 141 #[U u] b λe y=>e=.returned (.bool true)/\y=b):=λb=>xn (by omega) (by omega) b
 have i:=Z (by rw[q.o,iO (by omega)]:E=if (0<u/\k≠3)\/(¬(k=1\/k=2)/\¬(d=0/\D=[])) then 4 else if k=1\/k=2 then N else 0);have a0:0<=u:=by omega
 clear q G M
 by_cases I:u=0
 ·have s:=Z λb=>tx O.o b
  by_cases t:k=1\/k=2
  ·have e:=Z (by rw[i.o,iO (by rintro (h|⟨h,-⟩);(exact absurd h.1 (by omega));(exact h t)),Io t]:E=N);rw[KS t] at s;have A:(k != 3)=true:=by simp;omega
   subst I;clear i m t;go_enter func115,ntmps115;go_wp2_with fail;go_at_call 141;refine(f.o _).mono ?_;rintro e j ⟨rfl,rfl⟩;go_wp2_with fail;go_at_call 141;refine(g.o _).mono ?_;rintro e j ⟨rfl,rfl⟩;go_wp2_with fail;go_at_call 142;refine(s.o _).mono ?_;rintro e j ⟨rfl,rfl⟩;go_wp2_with fail;go_at_call 143;refine(l.o _ (x _)).mono ?_;rintro S j ⟨rfl,C⟩;go_wp2_with fail;go_ret;exact⟨by rw[e.o];rfl,Below.tO (x _) C (by simp)⟩
  rw[KD t] at s;have J:k=3\/k=4:=by have:=O.o;omega
  have e:Hid (E=if z=true then 0 else 4):=by
   unfold Hid;rw[i.o]
   by_cases p:z=true
   ·rw[Io p,iO (by rintro (h|⟨-,h⟩);(exact absurd h.1 (by omega));(exact h (o.o.1 p))),iO t]
   rw[iO p,Io (.inr ⟨t,λh=>p (o.o.2 h)⟩)]
  subst I;clear i l t o
  rcases J with rfl|rfl
  all_goals
   go_enter func115,ntmps115;go_wp2_with fail;go_at_call 141;refine(f.o _).mono ?_;rintro e j ⟨rfl,rfl⟩;go_wp2_with fail;go_at_call 141;refine(g.o _).mono ?_;rintro e j ⟨rfl,rfl⟩;go_wp2_with fail;go_at_call 142;refine(s.o _).mono ?_;rintro e j ⟨rfl,rfl⟩;go_wp2_with fail;go_at_call 94;refine(m.o _ (x _)).mono ?_;rintro S j ⟨rfl,C⟩
   cases z
   all_goals
    go_wp2_with fail;go_ret;exact⟨by rw[e.o];rfl,Below.tO (x _) C (by simp)⟩
 have a1:(u != 0)=true:=by simpa using I
 by_cases A:k=3
 ·have s:Hid (∀b,cL 142 #[U 3] b λe y=>e=.returned (.bool false)/\y=b):=λb=>tx (k:=3) (by decide) b
  have e:Hid (E=if z=true then 0 else 4):=by
   unfold Hid;rw[i.o]
   by_cases p:z=true
   ·rw[Io p,iO (by rintro (h|⟨-,h⟩);(exact h.2 A);(exact h (o.o.1 p))),iO (by omega)]
   rw[iO p,Io (.inr ⟨by omega,λh=>p (o.o.2 h)⟩)]
  subst A;clear i l o O W Y;go_enter func115,ntmps115;go_wp2_with fail;go_at_call 141;refine(f.o _).mono ?_;rintro e j ⟨rfl,rfl⟩;go_wp2_with fail;go_at_call 141;refine(g.o _).mono ?_;rintro e j ⟨rfl,rfl⟩;go_wp2_with fail;go_at_call 142;refine(s.o _).mono ?_;rintro e j ⟨rfl,rfl⟩;go_wp2_with fail;go_at_call 94;refine(m.o _ (x _)).mono ?_;rintro S j ⟨rfl,C⟩
  cases z
  all_goals
   go_wp2_with fail;go_ret;exact⟨by rw[e.o];rfl,Below.tO (x _) C (by simp)⟩
 have T:(k != 3)=true:=by simpa using A
 have e:=Z (by rw[i.o,Io (.inl ⟨by omega,A⟩)]:E=4);clear i l o m;go_enter func115,ntmps115;go_wp2_with fail;go_at_call 141;refine(f.o _).mono ?_;rintro e j ⟨rfl,rfl⟩;go_wp2_with fail;go_at_call 141;refine(g.o _).mono ?_;rintro e j ⟨rfl,rfl⟩;go_wp2_with fail;go_ret;exact⟨by rw[e.o];rfl,x _⟩
def jV(a:Bool)(b ss:List aq):List aq:=b.flatMap λr=>ss.map (dX a r)
theorem tp(exc ss):∀a:List aq,(jV exc a ss).length=a.length*ss.length
 |[]=>by simp[jV]
 |r :: a=>by
  have b:=tp exc ss a
  unfold jV at b |-
  rw[KQ,Kj,b,Lw,Kv,Mi];omega
theorem DW(exc)(a ss:List aq)(i:Nat)(r:aq)(h:a[i]?=some r):jV exc (a.take (i+1)) ss=jV exc (a.take i) ss++ss.map (dX exc r):=by unfold jV;rw[KN,h];simp
theorem uN.base{L f:Nat}{w xs rs}(h:uN L w xs rs)(g:f<=L):uN f w xs rs:=by obtain⟨j,k,l⟩:=h;refine⟨j,k,λi r m=>?_⟩;have⟨n,a,b,c,d,e⟩:=l i r m;exact⟨n,a,b,c,d,cU e g⟩
theorem vI{P:Program}(ρ:Operand->Value)(o:Oper)(k x:Operand)(ts:Array TypeId)(F:Nat)(u:Value)(w:World)(iY:o.op=.call { callee:=.value k,args:=#[x],argTypes:=ts })(a:ρ k=.func (.func F) #[] #[])(b:ρ x=u)(c:(callFunc F #[u]).run P w=.ok (.enter F #[u]) w):(execOp ρ o).run P w=.ok (.enter F #[u]) w:=by unfold execOp;simp[iY,resolve,a,b,Deferred.ofValue,invoke,c]
theorem BJ(exc F)(hF:∀a b w,cL F #[.agg #[U a,U b]] w (rT w (U (mG exc a b))))
  (hC:∀b5 d,(callFunc F b5).run prog d=.ok (.enter F b5) d) (B v0 v1 rs ss w) (h0:bD B w v0 rs) (h1:bD B w v1 ss) (hB:B<=w.1.size) (h2:rs.length<=121) (e8:ss.length<=121) (E:∀r∈rs,r.1.length<=10) (G:∀r∈ss,r.1.length<=10):
  cL 255 #[.agg #[v0,v1],.func (.func F) #[] #[]] w λe d=>∃v,e=.returned v/\∃xs,d.ownsRow w.1.size 131 2 v (jV exc rs ss).length xs/\uN w.1.size d xs (jV exc rs ss)/\bL w d:=by
 have e9:Hid _:=hF;have ea:Hid _:=hC;clear hF hC;have HR:Hid (∀d,bL w d->bD B d v0 rs):=λd h=>h0.l h hB
 have HS:Hid (∀d,bL w d->bD B d v1 ss):=λd h=>h1.l h hB
 have ca:Hid _:=E;have cb:Hid _:=G;clear E G;obtain⟨a0,c0,e0,gk,cc,-⟩:=h0;obtain⟨a1,c1,e1,gq,cd,-⟩:=h1;subst e0 e1;have eb:=ai;rw[eb] at cc cd;generalize ce:rs.length=n0 at*;generalize cf:ss.length=n1 at*;have ci:Hid (rs.length=n0):=ce;have bg:Hid (ss.length=n1):=cf;clear ce cf;have⟨W1,P⟩:=nM (w.alloc (.cells #[.slice a0 n0 c0,.slice a1 n1 c1] 304));have h8:=sA P;have ec:=bA P;have g1:=hA P;have ed:Hid (W1=_):=P;clear P
 have cl:Hid (∀v,Below (w.1.size+1) W1 v->v.cell? (pA w.1.size 1)=some (.slice a1 n1 c1)/\bL w v):=λv h=>⟨J1 (h.bk g1),ec.trans (h.mono (by omega))⟩
 clear g1;go_enter func255,ntmps255;go_wp2_with fail;rw[<-ed.o];go_loopw [5,13] (λrv iv wr=>∃ (i:Nat) (xs:List Value),i<=n0/\iv=U i/\Hid (wr.ownsRow (w.1.size+1) 131 2 rv (jV exc (rs.take i) ss).length xs)/\Hid (uN (w.1.size+1) wr xs (jV exc (rs.take i) ss))/\Hid (Below (w.1.size+1) W1 wr)) (λ_ iv _=>n0-(intOf iv).toNat)
 case atStart=>exact⟨0,[],by omega,rfl,⟨rfl,.inl ⟨rfl,rfl⟩⟩,⟨rfl,λu hu=>(by cases hu),λi r hr=>(by simp[jV] at hr)⟩,Kf _ _⟩
 case round=>
  obtain⟨i,xs,hi,rfl,HO,HX,ad⟩:=hrel;have⟨y,ef⟩:=nM (wr);subst ef;have i0:(0:Int)<=(i:Int):=by omega
  have⟨eg,bk⟩:=cl.o y ad.o;have co:w.1.size+1<=y.1.size:=by have:=ad.o.size;omega
  by_cases hd:i<n0
  ·have i1:(i:Int)<(n0:Int):=by omega
   obtain⟨r,ae⟩:∃r,rs[i]?=some r:=⟨rs[i]'(by rw[ci.o];omega),by simp⟩;have HP:Hid (jV exc (rs.take (i+1)) ss=jV exc (rs.take i) ss++ss.map (dX exc r)):=DW exc rs ss i r ae;have E:=ca.o r (Kb ae);obtain⟨_,_,e1,-,-,Q⟩:=HR.o _ bk;have⟨b3,o3,e,gz,bm⟩:=Q i r ae;simp at e1;obtain⟨rfl,-,-⟩:=e1;subst e;clear Q ae;obtain⟨f,q⟩:=r;obtain⟨cv,q0,q1,R,C⟩:=bm;have cs:Hid (∀d,Below (w.1.size+1) y d->bG B d cv f):=λd h=>C.l h (by omega)
   have ek:Hid (∀c∈f,wf c.1/\wf c.2.1/\wf c.2.2):=C.wfs;obtain⟨ra,o,bp,-,-⟩:=C.full;subst bp;have el:Hid (wf q):=R;have cx:Hid (f.length<=10):=E;clear C R E;have⟨S,bq⟩:=nM (f.length);have hf:Hid (f.length=S):=bq.symm;rw[<-bq] at q0 cs;clear bq;simp only[] at q0 q1;have cT:Hid ((jV exc (rs.take i) ss).length<=14641):=by unfold Hid;rw[tp,bg.o,Kt];exact Kl (MW (Kl (Nat.min_le_left i rs.length) (by omega:i<=121)) e8) (by decide)
   have⟨D0,d0⟩:=nM (jV exc (rs.take i) ss);rw[<-d0] at cT HO HX HP;clear d0;have⟨W2,af⟩:=nM (y.alloc (.cells #[.slice ra S o,U q] 131));have V:=bA af;have em:=Z (hA af);have en:Hid (W2.ownsRow (w.1.size+1) 131 2 u5 D0.length xs):=aw HO.o V;have eq:Hid (uN (w.1.size+1) W2 xs D0):=HX.o.keep (dB.of_below V);have er:Hid (Below (w.1.size+1) W1 W2):=Below.tO ad.o V co;have es:Hid (u5.ownBlock≠some y.1.size):=λe=>by obtain⟨W,O⟩:=cX HO.o _ e;have:=io O;omega
   have et:Hid (bL y W2):=V;have eu:Hid (W2=_):=af;clear af V HO HX ad;have gA:w.1.size<y.1.size:=by omega
   go_wp2_with fail;rw[<-eu.o];clear q0 q1 eg;go_loopw [5,20] (λrv jv wr=>∃ (j:Nat) (ys:List Value),j<=n1/\jv=U j/\Hid (wr.ownsRow (w.1.size+1) 131 2 rv (D0++(ss.take j).map (dX exc (f,q))).length ys)/\Hid (uN (w.1.size+1) wr ys (D0++(ss.take j).map (dX exc (f,q))))/\Hid (Below (w.1.size+1) W1 wr)/\Hid (wr.1[y.1.size]?=some (.cells #[.slice ra S o,U q] 131 (0,0)))/\Hid (rv.ownBlock≠some y.1.size)/\Hid (Below (w.1.size+1) y wr)) (λ_ jv _=>n1-(intOf jv).toNat)
   case atStart=>exact⟨0,xs,by omega,rfl,by simpa using en,by simpa using eq,er,em,es,et.o.mono co⟩
   case round=>
    obtain⟨j,ys,hj,rfl,H,X,ak,d2,br,b8⟩:=hrel;have⟨Y,ex⟩:=nM (wr);subst ex;have j0:(0:Int)<=(j:Int):=by omega
    obtain⟨-,b9⟩:=cl.o Y ak.o;have ey:w.1.size+1<=Y.1.size:=by have:=ak.o.size;omega
    have d3:y.1.size<Y.1.size:=io d2.o
    by_cases hh:j<n1
    ·have j1:(j:Int)<(n1:Int):=by omega
     obtain⟨s,al⟩:∃s,ss[j]?=some s:=⟨ss[j]'(by rw[bg.o];omega),by simp⟩;have bs:Hid (D0++(ss.take (j+1)).map (dX exc (f,q))=(D0++(ss.take j).map (dX exc (f,q)))++[dX exc (f,q) s]):=by unfold Hid;rw[KN,al];simp
     have G:=cb.o s (Kb al);obtain⟨_,_,e1,-,-,Q⟩:=HS.o _ b9;have⟨b4,o4,e,gD,bm⟩:=Q j s al;simp at e1;obtain⟨rfl,-,-⟩:=e1;subst e;clear Q al;obtain⟨m,s2⟩:=s;obtain⟨cv,q0,q1,R,C⟩:=bm;have bv:Hid (∀d,Below (w.1.size+1) Y d->bG B d cv m):=λd h=>C.l h (by omega)
     have d4:Hid (∀c∈m,wf c.1/\wf c.2.1/\wf c.2.2):=C.wfs;obtain⟨sa,A,bp,-,-⟩:=C.full;subst bp;have d5:Hid (wf s2):=R;have d6:Hid (m.length<=10):=G;clear C R G;have⟨sl,bz⟩:=nM (m.length);have hm:Hid (m.length=sl):=bz.symm;rw[<-bz] at q0 bv;clear bz;simp only[] at q0 q1;have bF:Hid ((D0++(ss.take j).map (dX exc (f,q))).length<=20000):=by unfold Hid;have:=cT.o;rw[Kj,Lw,Kt];omega
     have⟨D1,da⟩:=nM (D0++(ss.take j).map (dX exc (f,q)));rw[<-da] at bF H X bs;clear da;obtain⟨D,l,ev,eF,hp,-⟩:=an H.o;subst ev;have⟨N,hN⟩:=nM (D1.length);have HN:Hid (D1.length=N):=hN.symm
     rw[<-hN] at H bF br eF |-
     clear hN;have⟨t,a3⟩:=nM (Y.alloc (.cells #[.slice sa sl A,U s2] 131));have a4:=bA a3;have c2:=hA a3;have J:t.1[y.1.size]?=some (.cells #[.slice ra S o,U q] 131 (0,0)):=(a4.block _ d3).trans d2.o;have eO:=sA a3;have c3:∀k,(Value.slice D N l).ownBlock=some k->k<Y.1.size:=λk hk=>by have⟨W,O⟩:=cX H.o k hk;exact io O
     have ao:some y.1.size≠(Value.slice D N l).ownBlock:=λe=>br.o e.symm
     have c4:some Y.1.size≠(Value.slice D N l).ownBlock:=λe=>by have:=c3 _ e.symm;omega
     have c5:Hid (t.ownsRow (w.1.size+1) 131 2 (.slice D N l) N ys):=aw H.o a4;have eV:Hid (uN (w.1.size+1) t ys D1):=X.o.keep (dB.of_below a4)
     have a5:∀ {b:Nat} {W:Array Value} {T:TypeId} {fr:Nat × Nat},t.1[b]?=some (.cells W T fr)->T≠131->some b≠(Value.slice D N l).ownBlock:=by
      intro b W T fr hb hT e;have⟨gF,O⟩:=cX c5.o b e.symm;rw[hb] at O
      cases O;exact hT rfl
     have f0:Hid (∀d,t.grownBy d (Value.slice D N l).ownBlock->dB 134 t d):=λd h k W fr hk=>(h.block k (io hk) (a5 hk (by decide))).trans hk
     have bb:Hid (∀d,t.grownBy d (Value.slice D N l).ownBlock->Below (w.1.size+1) Y d):=λd h=>(a4.mono ey).grown h (by omega) λk hk=>eh c5.o k hk
     have f9:Hid (∀d,t.grownBy d (Value.slice D N l).ownBlock->d.1[y.1.size]?=some (.cells #[.slice ra S o,U q] 131 (0,0))):=λd h=>(h.block _ (io J) ao).trans J
     have q5:∀z:AB t (Value.slice D N l).ownBlock,z.1.cell? (pA y.1.size 0)=some (.slice ra S o):=λz=>z.cell J ao rfl
     have q6:∀z:AB t (Value.slice D N l).ownBlock,z.1.cell? (pA y.1.size 1)=some (U q):=λz=>z.cell J ao rfl
     have q7:∀z:AB t (Value.slice D N l).ownBlock,z.1.cell? (pA Y.1.size 0)=some (.slice sa sl A):=λz=>z.cell c2 c4 rfl
     have q8:∀z:AB t (Value.slice D N l).ownBlock,z.1.cell? (pA Y.1.size 1)=some (U s2):=λz=>z.cell c2 c4 rfl
     have fa:Hid (∀k,(Value.slice D N l).ownBlock=some k->k<t.1.size):=λk hk=>by have:=c3 k hk;omega
     have dc:Hid (w.1.size+1<=t.1.size):=by unfold Hid;omega
     have fb:Hid (y.1.size<t.1.size):=io J;have fc:Hid (∀g d,(∃T0 fr,d.1[g]?=some (.cells #[.slice ra S o,.slice sa sl A] T0 fr))->t.grownBy d (Value.slice D N l).ownBlock->cL 151 #[.slice (sO g) 2 2] d λe b0=>∃v,e=.returned v/\b0.ownsRow d.1.size 134 3 v (f++m).length (bO (f++m))/\bL d b0):=by rintro g d ⟨T0,fr,hg⟩ K;have hb:=bb.o d K;exact tT B _ _ f m g d (cs.o d (b8.o.trans hb)) (bv.o d hb) (by have:=hb.size;omega) (io hg) (J0 hg) (J1 hg) (by have:=cx.o;have:=d6.o;omega)
     have fe:Hid (t=_):=a3;have⟨L,b1⟩:=nM (mG exc q s2);have fi:Hid (dX exc (f,q) (m,s2)=(f++m,L)):=by unfold Hid dX;rw[b1]
     have fl:Hid (mG exc q s2=L):=b1.symm;have fn:Hid (wf L):=by unfold Hid;rw[b1];exact Ai el.o d5.o
     have dd:Hid (∀c∈f++m,wf c.1/\wf c.2.1/\wf c.2.2):=λc O=>by
      rcases KB.1 O with O|O
      ·exact ek.o c O
      exact d4.o c O
     clear b1 a3 a4 c2 J eO c3 ao c4 a5 H X b9 bk d4 d5 bv;go_wp2_with fail;rw[<-fe.o];clear q0 q1;have b2:=AB.ne t (Value.slice D N l).ownBlock
     have M:Hid (∀fs d,tI (w.1.size+1) t (.slice D N l) N ys (.slice ra S o) (.slice sa sl A) (f++m).length (bO (f++m)) L fs d->∃z:AB t (Value.slice D N l).ownBlock,d=z.1):=λfs d h=>⟨⟨d,h.grown⟩,rfl⟩
     refine bJ [_,_,_,_,_,_,_,_,_,_,_,_,_,_,_,_,_] _ rfl (λk=>k==5||k==6||k==13||k==14||k==15||k==16) (tI (w.1.size+1) t (.slice D N l) N ys (.slice ra S o) (.slice sa sl A) (f++m).length (bO (f++m)) L) (JU (f++m).length N L) (GN _ _ _) (by kernel_rfl) (by kernel_rfl) (tI.start c5.o) ?_;iterate 5(refine aP M.o rfl rfl ?_;go_big_quiet_step (fail);refine Km ?_)
     refine cz rfl rfl (λgs d x n p=>⟨.slice (sO d.1.size) 2 2,d.alloc (.cells #[.slice ra S o,.slice sa sl A] 129),?_,⟨_,rfl⟩,x.lists _⟩) (λv6 fo=>?_)
     ·clear x n p q5 q6 q7 q8 M b2;go_simp
     go_frame;obtain⟨g6,rfl⟩:∃g:Nat,v6=.slice (sO g) 2 2:=fo;refine bw 151 #[.slice (sO g6) 2 2] rfl rfl (λd=>by kernel_rfl) (λgs d x n p=>?_) (λv7 fp=>?_)
     ·obtain⟨g,T0,fr,e,hw,fq⟩:=x.lits _ (n 5 _ (.inr ⟨rfl,rfl⟩) (au (by kernel_rfl)));simp at e;subst e;refine(fc.o g6 d ⟨T0,fr,fq⟩ x.grown).mono ?_;rintro e w2 ⟨u,rfl,ho,hb⟩;have⟨a,c,e7,_⟩:=an ho;exact⟨_,rfl,⟨a,c,e7⟩,x.joined p hb _ ho⟩
     go_frame;obtain⟨a7,c7,rfl⟩:∃a a6,v7=.slice a (f++m).length a6:=fp;iterate 6(refine aP M.o rfl rfl ?_;go_big_quiet_step (fail);refine Km ?_)
     refine bw F #[.agg #[U q,U s2]] rfl rfl (λd=>vI _ _ _ _ _ F _ d rfl rfl rfl (ea.o #[.agg #[U q,U s2]] d)) (λgs d x n p=>?_) (λfv df=>?_)
     ·refine(e9.o q s2 d).mono ?_;rintro e w2 ⟨rfl,hb⟩;exact⟨_,rfl,by rw[fl.o];rfl,(x.l hb).other _ _ (by decide) (by decide) (by decide) (by decide) (by decide)⟩
     go_frame;obtain rfl:fv=U L:=df;refine cz rfl rfl (λgs d x n p=>⟨.agg #[.slice a7 (f++m).length c7,U L],d,?_,⟨_,_,rfl⟩,x.built _ (n 6 _ (.inl (.inr ⟨rfl,rfl⟩)) (au (by kernel_rfl)))⟩) (λfx di=>?_)
     ·clear x n p q5 q6 q7 q8 M b2;go_simp
     go_frame;obtain⟨fT,g0,rfl⟩:∃a a6,fx=.agg #[.slice a (f++m).length a6,U L]:=di;refine cz rfl rfl (λgs d x n p=>⟨.slice (sO d.1.size) 1 1,d.alloc (.cells #[.slice fT (f++m).length g0,U L] 131),?_,⟨_,rfl⟩,x.rule p _ (n 14 _ (.inr ⟨rfl,rfl⟩) (au (by kernel_rfl))) _⟩) (λg2 dk=>?_)
     ·clear x n p q5 q6 q7 q8 M b2;go_simp
     go_frame;obtain⟨hE,rfl⟩:∃g:Nat,g2=.slice (sO g) 1 1:=dk;refine cz rfl rfl (λgs d x n p=>?_) (λg3 dl=>?_)
     ·obtain⟨v',b0,r1,g4,r3⟩:=x.append p fa.o dc.o _ (n 15 _ (.inr ⟨rfl,rfl⟩) (au (by kernel_rfl))) (by have:=bF.o;omega) 28;refine⟨v',b0,?_,g4,r3⟩;unfold execOp;simp only[resolve,invoke,builtin,Lj,My,LW,M4,Lt,Mz];exact(congrArg (λr=>Result.andThen r λv w=>.ok (Next.value v) w) r1)
     go_frame;obtain⟨dn,dp,rfl⟩:∃a a6,g3=.slice a (N+1) a6:=dl;refine ei ?_;intro w4 x;have K:=x.grown;obtain⟨u7,dq,bc,I⟩:=x.app _ (.inr ⟨rfl,rfl⟩);have dr:=x.join u7 dq
     have ds:Hid (w4.ownsRow (w.1.size+1) 131 2 (.slice dn (N+1) dp) (D1++[dX exc (f,q) (m,s2)]).length (ys++[u7,U L])/\uN (w.1.size+1) w4 (ys++[u7,U L]) (D1++[dX exc (f,q) (m,s2)])/\w4.1[y.1.size]?=some (.cells #[.slice ra S o,U q] 131 (0,0))/\(Value.slice dn (N+1) dp).ownBlock≠some y.1.size/\Below (w.1.size+1) Y w4):=by
      refine⟨?_,?_,f9.o w4 K,?_,bb.o w4 K⟩
      ·rw[Kj,HN.o];exact bc
      ·rw[fi.o];exact(eV.o.keep (f0.o w4 K)).snoc (r:=(f++m,L)) fn.o dd.o (cU dr dc.o)
      rcases I with e|⟨k,e,hk⟩
      ·rw[e];exact br.o
      rw[e];intro e';have:=KG e';have:=fb.o;omega
     clear x K dq bc I dr q5 q6 q7 q8 M b2;go_wp2_with fail;obtain⟨f1,f2,f3,f4,f5⟩:=ds.o;exact⟨⟨j+1,_,by omega,rfl,by rw[bs.o];exact f1,by rw[bs.o];exact f2,ak.o.trans f5,f3,f4,b8.o.trans f5⟩,by simp[intOf];omega⟩
    have e:j=n1:=by omega
    subst e;have HE:Hid (ss.take j=ss):=by unfold Hid;rw[<-bg.o,L6]
    rw[HE.o,<-HP.o] at H X;have j1:¬((j:Int)<(j:Int)):=by omega
    go_wp2_with fail;exact⟨⟨i+1,ys,by omega,rfl,H,X,ak⟩,by simp[intOf];omega⟩
  have e:i=n0:=by omega
  subst e;have HE:Hid (rs.take i=rs):=by unfold Hid;rw[<-ci.o,L6]
  rw[HE.o] at HO HX;have i1:¬((i:Int)<(i:Int)):=by omega
  have g8:Hid (bL w y):=bk;go_wp2_with fail;go_ret;exact⟨_,rfl,xs,cU HO.o (Mb _),HX.o.base (Mb _),g8.o⟩
