import Derived.Test.YtffnfdfjojidfaaGreatDoorWr12
import Derived.Test.YtffnfdfjojidfaaGreatDoorWr13
set_option linter.all false
set_option maxRecDepth 100000
set_option maxHeartbeats 8000000
namespace Go.Proofs.YtffnfdfjojidfaaGreatDoor
open Go.RowKit Go.Maps Go.Proofs.Tryz
theorem Co:∃i,prog.info? 34=some i/\i.zero=some (.agg #[U 0,U 0,U 0,U 0,U 0])/\i.size=5/\i.bytes=40:=jL (by kernel_rfl)
def zx:Value:=nL
def pD(V:Nat->Value)(k:Nat):Array Value:=#[if 0<k then V 0 else zx,if 1<k then V 1 else zx,if 2<k then V 2 else zx,if 3<k then V 3 else zx,if 4<k then V 4 else zx]
def GP(V:Nat->Value)(k:Nat)(v:Value)(j:Nat):Value:=if j=k then v else V j
theorem Dy(V:Nat->Value)(k:Nat)(a:k<5)(v:Value):(pD V k).setIfInBounds k v=pD (GP V k v) (k+1):=by
 have:k=0\/k=1\/k=2\/k=3\/k=4:=by omega
 rcases this with rfl|rfl|rfl|rfl|rfl<;>simp[pD,GP]
theorem xk(V:Nat->Value)(k:Nat)(a:k<5):(pD V 5)[k]?=some (V k)/\(pD V k)[k]?=some zx:=by
 have:k=0\/k=1\/k=2\/k=3\/k=4:=by omega
 rcases this with rfl|rfl|rfl|rfl|rfl<;>simp[pD]
theorem jx{w:World}{base a n b o:Nat}{e T:TypeId}{v u:Value}{xs:List Value}{c:Array Value}(h:w.ownsRow base e a v n xs)(i:w.1[b]?=some (.cells c T (0,0)))(j:T≠e):(w.setCell ⟨b,o,none⟩ u).ownsRow base e a v n xs:=
 bT h λg d _ f=>Kc _ _ _ _ (by
  show g≠b;intro k;subst k;rw[i] at f
  cases f
  exact j rfl)
def IU(ps:List aD)(i m j:Nat):Int:=if m<=j then pt ps i j else 0
theorem IE(ps)(i k:Nat)(a:k<5):(fJ (IU ps i (k+1))).setIfInBounds k (U (pt ps i k))=fJ (IU ps i k):=by
 have:k=0\/k=1\/k=2\/k=3\/k=4:=by omega
 rcases this with rfl|rfl|rfl|rfl|rfl<;>simp[fJ,IU]
theorem sH(B lv ps w)(hl:iH B w lv ps)(hB:B<=w.1.size)(hn:ps.length<=5000000000):
  cL 147 #[lv] w λe s=>∃v,e=.returned (.tuple #[v,U (aT ps)])/\s.ownsRow w.1.size 34 5 v (bj ps).length (cj (bj ps))/\bL w s:=by
 obtain⟨ed,bx,bz,bF,c0⟩:=Co;have H:Hid (cL 149 #[lv] w (rT w (U (bM ps)))):=rP B lv ps w hl hB
 by_cases E:bM ps=0
 case neg=>
  have HE:Hid (aT ps=bM ps/\bj ps=[]):=by
   have e:aT ps=bM ps:=by rw[aT,iO E]
   exact⟨e,by rw[bj,iO (by rw[e];exact E)]⟩
  have n:(bM ps != 0)=true:=by simpa using E
  obtain⟨a,c1,rfl,-⟩:=hl;clear E;generalize bM ps=pe at*;generalize ps.length=c2 at*;go_enter func147,ntmps147;go_wp2_with (first|(go_at_call 149;go_must (refine Calls.mono H.o ?_;rintro e b ⟨rfl,t⟩)));go_ret2;rw[HE.o.1,HE.o.2];exact⟨_,rfl,⟨rfl,.inl ⟨rfl,rfl⟩⟩,t⟩
 have I:gn ps:=jz.1 E;have HC:Hid (∀ (k:Nat) s,k<5->bL w s->cL 182 #[lv,U k] s λe a2=>∃v,e=.returned v/\a2.ownsRow s.1.size 3 1 v (cw ps k).length ((cw ps k).map (.int .i64))/\bL s a2):=λk s hk h=>Db B lv ps k (L4 (by omega)) s (hl.l h hB) I (h.u hB) hn
 have HF:Hid (∀k:Nat,0<(cw ps k).length/\(cw ps k).length<=65536):=λk=>⟨zm ps k,Bf I k⟩
 have HE:Hid (aT ps=if 1000<(dG ps).length then 2 else 0):=by unfold Hid;rw[aT,Io E]
 rw[E] at H;obtain⟨a,c1,rfl,ef,eg,-⟩:=hl;generalize ps.length=c2 at*;clear E I;go_enter func147,ntmps147;go_wp2_with (first|(go_at_call 149;go_must (refine Calls.mono H.o ?_;rintro e b ⟨rfl,t⟩)));have J:=t.size;have u:Hid ((b.alloc (.cells #[nL,nL,nL,nL,nL] 214)).1[b.1.size]?=some (.cells (pD (λ_=>zx) 0) 214 (0,0))):=ah _ _;have c4:Hid (∀X,bL w (b.alloc X)):=λX=>t.alloc J _
 go_loopw [6,17] (λnv K wr=>∃ (k:Nat) (V:Nat->Value),k<=5/\K=U k/\nv=U (lu ps k)/\lu ps k<=1000/\Hid (∀j,j<k->wr.ownsRow w.1.size 3 1 (V j) (cw ps j).length ((cw ps j).map (.int .i64)))/\Hid (wr.1[b.1.size]?=some (.cells (pD V k) 214 (0,0)))/\bL w wr) (λ_ K _=>5-(intOf K).toNat)
 case atStart=>exact⟨0,λ_=>zx,by omega,rfl,rfl,by simp[lu],λj hj=>absurd hj (by omega),u,c4.o _⟩
 case round=>
  obtain⟨k,V,hk,rfl,rfl,x,HV,HB,y⟩:=hrel;have⟨Y,c6⟩:=nM (wr);subst c6;have k0:(0:Int)<=(k:Int):=by omega
  have c7:=y.size;have a5:=io HB.o
  by_cases M:k<5
  ·have k1:(k:Int)<5:=by omega
   have⟨c8,a6⟩:=HF.o k;have F:Hid _:=HC.o k Y M y;have l:Hid (lu ps (k+1)=lu ps k*(cw ps k).length):=rfl;have c9:Hid (lu ps (k+1)<=(dG ps).length):=E2 ps (k+1) (by omega);have⟨q,n⟩:=nM (lu ps k);rw[<-n] at x l;have⟨m,hm⟩:=nM ((cw ps k).length);have a7:Hid ((cw ps k).length=m):=hm.symm;rw[<-hm] at c8 a6 l;rw[<-n];clear n hm;go_wp2_with fail;go_at_call 182;refine Calls.mono F.o ?_;rintro e w3 ⟨v,rfl,O,A⟩;obtain⟨a3,a8,rfl,-,-,-⟩:=an O;rw[a7.o];have G3:=(A.block b.1.size a5).trans HB.o;have P:Hid _:=G3;have cb:=ab G3 k (xk V k M).2;have el:w3.frozen? ⟨b.1.size,k,none⟩=false:=by simp[World.frozen?,G3]
   have cc:Hid (∀j,j<k->w3.ownsRow w.1.size 3 1 (V j) (cw ps j).length ((cw ps j).map (.int .i64))):=λj hj=>aw (HV.o j hj) A
   have cd:Hid _:=O;have G:bL w w3:=Below.tO y A c7
   obtain⟨Q,em,dr,HQ⟩:∃Q:Nat,IntKind.i64.wrap ((q:Int)*(m:Int))=(Q:Int)/\Q<=65536000/\Hid (Q=q*m):=by
    have eq:q*m<=1000*65536:=MW x a6;refine⟨q*m,?_,by omega,rfl⟩;rw[Int.natCast_mul];have:(0:Int)<=(q:Int)*(m:Int)/\(q:Int)*(m:Int)<=65536000:=by rw[<-Int.natCast_mul];omega
    exact KA _ (by omega)
   rw[<-HQ.o] at l;unfold zx at cb;clear G3 O A F
   by_cases ds:1000<Q
   ·have R:(1000:Int)<(Q:Int):=by omega
    have o:Hid (aT ps=2/\bj ps=[]):=by
     have e:aT ps=2:=by have:=c9.o;rw[l.o] at this;rw[HE.o,Io (by omega)]
     exact⟨e,by rw[bj,iO (by rw[e];decide)]⟩
    go_wp2_with fail;go_ret2;rw[o.o.1,o.o.2];exact⟨_,rfl,⟨rfl,.inl ⟨rfl,rfl⟩⟩,G.setCell (p:=⟨b.1.size,k,none⟩) J _⟩
   have R:¬(1000:Int)<(Q:Int):=by omega
   go_wp2_with fail;refine⟨⟨k+1,GP V k (.slice a3 m a8),by omega,by go_num,by rw[l.o],by rw[l.o];omega,λj hj=>?_,?_,G.setCell (p:=⟨b.1.size,k,none⟩) J _⟩,by simp[intOf];omega⟩
   ·by_cases a9:j=k
    ·subst a9;rw[GP,Io rfl];have:=cd.o
     rw[a7.o] at this |-
     exact jx (cU this (by omega)) P.o (by decide)
    rw[GP,iO a9];exact jx (cc.o j (by omega)) P.o (by decide)
   unfold Hid;rw[ap P.o,Dy V k M]
  obtain rfl:k=5:=by omega
  rw[yV] at x |-
  rw[show ((5:Nat):Int)=5 from rfl];have aa:Hid (∀i,i<(dG ps).length->(dG ps)[i]?=some (Jn ps i)):=λi hi=>Fs ps i hi
  have o:Hid (aT ps=0/\bj ps=dG ps):=by
   have e:aT ps=0:=by rw[HE.o,iO (by omega)]
   exact⟨e,by rw[bj,Io e]⟩
  have⟨N,hN⟩:=nM ((dG ps).length);have ac:Hid ((dG ps).length=N):=hN.symm
  rw[<-hN] at x |-
  have ad:Hid (∀i,i<N->(dG ps)[i]?=some (Jn ps i)):=by rw[hN];exact aa
  clear aa hN
  have ce:Hid (∀wr,fh 34 Y wr->∀k:Nat,k<5->∃g c,wr.cell? ⟨b.1.size,k,none⟩=some (.slice (sO g) (cw ps k).length c)/\(cw ps k).length<=c/\c<=maxLen/\∀ (i:Nat) (q:Int),(cw ps k)[i]?=some q->wr.cell? ⟨g,i,none⟩=some (U q)):=by
   intro wr ht k hk;have ho:=HV.o k hk;have hF:=HF.o k
   rcases ho.2 with ⟨_,hz⟩|⟨g,c,er,ev,_,ae,ci,af,_,_⟩
   ·omega
   refine⟨g,c,?_,ci,af,λi q n=>?_⟩
   ·rw[<-ev];exact ab (ht _ _ _ _ HB.o (by decide)) k (xk V k hk).1
   have h1:Y.cell? ⟨g,i,none⟩=some (U q):=by rw[ev] at ho;exact aK ho i _ (by simp[n])
   have h2:=ht _ _ _ _ ae (by decide);simp only[World.cell?,ae] at h1;simp only[World.cell?,h2];exact h1
  have ck:Hid (∀wr,fh 34 Y wr->b.1.size<wr.1.size):=λwr ht=>io (ht _ _ _ _ HB.o (by decide))
  have et:=ai;clear HV HB;go_wp2_with fail;go_loopw [8,35] (λov iv wr=>∃i:Nat,i<=N/\iv=U i/\Hid (wr.ownsRow w.1.size 34 5 ov i (cj ((dG ps).take i)))/\bL w wr/\Hid (fh 34 Y wr)) (λ_ iv _=>N-(intOf iv).toNat)
  case atStart=>exact⟨0,by omega,rfl,⟨rfl,.inl ⟨rfl,rfl⟩⟩,y,fh.refl _ _⟩
  case round=>
   obtain⟨i,hi,rfl,HO,S,T⟩:=hrel;have⟨f,co⟩:=nM (wr);subst co;have i0:(0:Int)<=(i:Int):=by omega
   have cp:=S.size
   by_cases cs:i<N
   ·have i1:(i:Int)<(N:Int):=by omega
    have ak:=ad.o i cs;have cx:Hid ((dG ps).take (i+1)=(dG ps).take i++[Jn ps i]):=by unfold Hid;rw[KN,ak];rfl
    clear ak;have cT:Hid ((f.alloc (.cells #[U 0,U 0,U 0,U 0,U 0] 34)).1[f.1.size]?=some (.cells (fJ (IU ps i 5)) 34 (0,0))):=ah _ _;go_wp2_with fail;go_loopw [9,11] (λcv K wr=>∃m:Nat,m<=5/\K=U ((m:Int)-1)/\cv=U ((i / mK ps m:Nat):Int)/\Hid (wr.1[f.1.size]?=some (.cells (fJ (IU ps i m)) 34 (0,0)))/\bL f wr) (λ_ K _=>(intOf K+1).toNat)
    case atStart=>exact⟨5,by omega,by simp,by rw[vB,Nat.div_one],cT,bR.alloc lE _⟩
    case round=>
     obtain⟨m,hm,rfl,rfl,HX,C⟩:=hrel;have⟨wm,d1⟩:=nM (wr);subst d1;have d2:fh 34 Y wm:=T.o.trans (fh.of_below C);have d3:=C.size
     by_cases ex:0<m
     ·obtain⟨k,rfl⟩:∃k,m=k+1:=⟨m-1,by omega⟩;have D:k<5:=by omega
      have⟨g,c,z0,d4,ey,zq⟩:=ce.o wm d2 k D;have hF:=HF.o k;have av:Hid (mK ps k=(cw ps k).length*mK ps (k+1)):=rz ps k D;obtain⟨q,n⟩:∃q:Nat,q=i / mK ps (k+1):=⟨_,rfl⟩;have⟨L,hL⟩:=nM ((cw ps k).length);have b1:Hid (pt ps i k=yH (cw ps k) q):=by unfold Hid;rw[n];rfl
      have b2:(cw ps k)[q % L]?=some (pt ps i k):=by
       rw[b1.o,yH,<-hL,Kn];have:q % L<(cw ps k).length:=by rw[<-hL];exact Nat.mod_lt _ (by omega)
       simp[this]
      have z1:=zq _ _ b2;have b3:Hid (i / mK ps k=q / L):=by unfold Hid;rw[av.o,<-hL,n,Nat.div_div_eq_div_mul,Nat.mul_comm]
      have eF:q<=i:=by rw[n];exact Nat.div_le_self _ _
      rw[<-hL] at z0 d4 hF;rw[<-n];clear b2 zq av b1 n hL;have d5:Int.tmod (q:Int) (L:Int)=((q % L:Nat):Int):=by rw[Int.tmod_eq_emod_of_nonneg (by omega)];simp
      have d6:(q:Int) % (L:Int)=((q % L:Nat):Int):=by simp
      have da:Int.tdiv (q:Int) (L:Int)=((q / L:Nat):Int):=by rw[Int.tdiv_eq_ediv_of_nonneg (by omega)];simp
      have dc:(q:Int) / (L:Int)=((q / L:Nat):Int):=by simp
      have⟨r,hr⟩:=nM (q % L);have eN:r<L:=by rw[hr];exact Nat.mod_lt _ (by omega)
      have b4:q / L<=q:=Nat.div_le_self _ _;have⟨d,hd⟩:=nM (q / L);rw[<-hr] at d5 d6 z1;rw[<-hd] at da dc b3 b4;clear hr hd;have eO:(0:Int)<=(k:Int):=by omega
      have eV:(k:Int)<5:=by omega
      have W:(((k+1:Nat):Int)-1)=(k:Int):=by omega
      rw[W];have b5:=KE _ _ z0;have de:=KE _ _ z1;generalize b6:pt ps i k=pv at*;have b7:Hid (pt ps i k=pv):=b6;clear b6;have L0:(L:Int)≠0:=by omega
      have L1:(L:Int)≠-1:=by omega
      have L2:((L:Int)==0)=false:=by simp;omega
      go_wp2_with fail;have df:=ax.ne wm;have q0:∀z:ax wm,z.1.cell? ⟨b.1.size,k,none⟩=some (.slice (sO g) L c):=λz=>z.cell z0 b5
      have q1:∀z:ax wm,z.1.cell? ⟨g,r,none⟩=some (U pv):=λz=>z.cell z1 de
      refine oR [_,_,_,_,_,_,_,_,_,_,_,_,_] _ rfl (by kernel_rfl) (by kernel_rfl) ?_;repeat(go_big_quiet_step (fail))
      refine Km ?_;rintro wx ⟨⟨_,hx⟩,rfl⟩;have b8:=io HX.o;have GX:=(hx.block f.1.size b8).trans HX.o;have t0:=(eD GX).1 k D;have t1:=(eD GX).2 k;have FX:Hid ((wx.setCell ⟨f.1.size,k,none⟩ (U pv)).1[f.1.size]?=some (.cells (fJ (IU ps i k)) 34 (0,0))):=by unfold Hid;rw[ap GX,<-b7.o,IE ps i k D]
      have u:bL f (wx.setCell ⟨f.1.size,k,none⟩ (U pv)):=(Below.tO C hx d3).setCell (p:=⟨f.1.size,k,none⟩) lE _;have f3:=ck.o f T.o;have ea:¬b.1.size=f.1.size:=by omega
      have dk:¬f.1.size=b.1.size:=by omega
      have f4:wx.cell? ⟨b.1.size,k,none⟩=some (.slice (sO g) L c):=(hx.cell (p:=⟨b.1.size,k,none⟩) b5).trans z0;have b9:Hid _:=u;clear q0 q1 df GX hx z0 z1 u;go_wp2_with fail;exact⟨⟨k,by omega,rfl,by rw[b3.o],FX,b9.o⟩,by simp[intOf]⟩
     obtain rfl:m=0:=by omega
     have hX:=(eD HX.o).1;have e0:=hX 0 (by omega);have e1:=hX 1 (by omega);have e2:=hX 2 (by omega);have e3:=hX 3 (by omega);have e4:=hX 4 (by omega);have ba:∀j,IU ps i 0 j=pt ps i j:=λj=>by simp[IU]
     rw[ba] at e0 e1 e2 e3 e4;clear hX ba;have bb:Hid ((dG ps).take (i+1)=(dG ps).take i++[[pt ps i 0,pt ps i 1,pt ps i 2,pt ps i 3,pt ps i 4]]):=cx;generalize pt ps i 0=p0 at*;generalize pt ps i 1=p1 at*;generalize pt ps i 2=p2 at*;generalize pt ps i 3=p3 at*;generalize pt ps i 4=p4 at*;have eb:¬((((0:Nat):Int)-1)>=0):=by omega
     go_wp2_with (first|(at_builtin;go_must (refine ir _ rfl _ _ rfl Tryz.underlying181 bx bz bF c0 rfl (by decide) w.1.size _ _ _ rfl _ 1 [U p0,U p1,U p2,U p3,U p4] rfl _ rfl (by simp) f C HO.o rfl (by simp[Value.oneCell']) (by omega) (by omega) cp ?_;intro v9 w9 dl dn dp)));refine⟨⟨i+1,by omega,by go_num,?_,S.trans dn,T.o.trans (fh.grown HO.o dp.o)⟩,by simp[intOf];omega⟩;unfold Hid;rw[bb.o,mP];exact dl.o
   obtain rfl:i=N:=by omega
   have dq:Hid (f.ownsRow w.1.size 34 5 u8 (bj ps).length (cj (bj ps))):=by have:=HO.o;rw[Ki (by rw[ac.o];omega)] at this;unfold Hid;rw[o.o.2,ac.o];exact this
   go_wp2_with fail;go_ret2;rw[o.o.1];exact⟨_,rfl,dq.o,S⟩
def sV(m:Int)(p:Int × Int):Int × Int:=(p.1,p.2+m)
theorem rE(m)(p:Int × Int):sV m (Jo p)=sV (m+1) p:=by unfold sV Jo;simp;omega
theorem DY{l:List cO}(h:eS l=4){k:Nat}{c:cO}(a:l[k]?=some c)(b:c.1≠4):k+1<l.length:=by
 have d:=(K9.1 a).1
 by_cases e:k=l.length-1
 ·exfalso;rw[e] at a;exact b ((lS l c a).symm.trans h)
 omega
theorem Ea(x:Nat->Int){l:List cO}{k:Nat}{c:cO}(h:l[k]?=some c)(n):
  dJ x n 0 (l.drop k)=if c.1=1 then Jo (dJ x (x c.2.1.toNat) 0 (l.drop (k+1))) else if c.1=2\/c.1=3 then Jo (dJ x n 0 (l.drop (k+1+iY n c))) else (c.2.1,1):=by
 obtain⟨a,rfl⟩:=K9.1 h;rw[KM a,dJ,sQ x _ n (iY n _),Mv]
theorem Dc(B cv l)(x:Nat->Int)(w)(hc:dR B w cv l)(hB:B<=w.1.size)(I:aV l=0):
  cL 76 #[cv,jm x] w (rT w (.tuple #[U (dJ x 0 0 l).1,U (dJ x 0 0 l).2])):=by
 obtain⟨a,R,rfl,a2,a3,J⟩:=hc;have⟨a4,a5,K,L⟩:=nK I;have M:=Z J;have HG:=Z λ(k:Nat) (c:cO) (h:l[k]?=some c)=>px l k c K h
 have HL:=Z λ(k:Nat) (c:cO) (h:l[k]?=some c) (h4:c.1≠4)=>DY L h h4
 have HX:Hid (∀T i,Below (w.1.size+1) (w.alloc (.cells #[U (x 0),U (x 1),U (x 2),U (x 3),U (x 4)] T)) i->rA i w.1.size x):=λT i h=>(rA.made x w T).l h (by omega)
 clear J I K L;generalize hn:l.length=p at*;have aa:=ai;show cL 76 #[.slice a p R,.agg #[U (x 0),U (x 1),U (x 2),U (x 3),U (x 4)]] w _;go_enter func76,ntmps76;go_wp2;go_loopw [6,7,8] (λld E dn wr=>∃ (n:Int) (k m:Nat),ld=U n/\E=U k/\dn=U ((m:Int)+1)/\k<p/\m<=k/\Hid (dJ x 0 0 l=sV m (dJ x n 0 (l.drop k)))/\bL w wr/\Hid (rA wr w.1.size x)/\w.1.size<wr.1.size) (λ_ E _ _=>p-(intOf E).toNat)
 case atStart=>exact⟨0,0,0,rfl,rfl,rfl,by omega,by omega,by unfold Hid sV;simp,bR.alloc lE _,HX.o _ _ bR,by simp⟩
 case round=>
  obtain⟨n,k,m,rfl,rfl,rfl,hk,hm,H,F,hX,hz⟩:=hrel;have i0:(0:Int)<=(k:Int):=by omega
  have i4:(k:Int)<(p:Int):=by omega
  have i5:IntKind.i64.wrap ((k:Int)+1)=(k:Int)+1:=KA _ (by omega);have i6:IntKind.i64.wrap ((m:Int)+1+1)=(m:Int)+1+1:=KA _ (by omega);obtain⟨c,v⟩:∃c,l[k]?=some c:=⟨l[k]'(by omega),by simp⟩;obtain⟨b,o,rfl,af,V⟩:=M.o k c v;have N:=ud (HG.o k c v);have q:=HL.o k c v;have S:=Ea x v n;obtain⟨G,r,O,P⟩:=c;obtain⟨c0,c1,c2,c3,_⟩:=V.l F (by omega);simp only[] at c0 c1 c2 c3 N q S;have W:=F.size
  have f:∀X i,Below (wr.alloc X).1.size (wr.alloc X) i->Hid (bL w i/\rA i w.1.size x/\w.1.size<i.1.size):=λX i h=>⟨Below.tO (F.alloc W _) h (by simp;omega),(hX.o.l ((Kf wr.1.size _).alloc lE X) (by omega)).l h (by simp;omega),by have:=h.size;simp at this;omega⟩
  by_cases Q:G=1
  ·subst Q;obtain⟨j,rfl⟩:∃j:Nat,r=j:=⟨r.toNat,by omega⟩;have hj:j<5:=by omega
   have Y:=q (by omega);have s:Hid (dJ x 0 0 l=sV ((m+1:Nat):Int) (dJ x (x j) 0 (l.drop (k+1)))):=by unfold Hid;rw[H.o,S,Io rfl,rE];simp
   have b1:∀X,(wr.alloc X).cell? ⟨w.1.size,j,none⟩=some (U (x j)):=λX=>((f X _ bR).o.2.1) j hj
   have j0:(0:Int)<=(j:Int):=by omega
   have j1:(j:Int)<5:=by omega
   clear S N q;generalize x j=xj at*;go_wp2;obtain⟨y,z,A⟩:=(f _ _ bR).o;exact⟨⟨xj,k+1,m+1,rfl,by simp,by simp,by omega,by omega,s,y,z,A⟩,by simp[intOf];omega⟩
  by_cases C:G=2\/G=3
  ·have Y:=q (by omega)
   obtain⟨b3,b4,b5,b6⟩:0<=O/\O<(p:Int)-1-k/\0<=P/\P<(p:Int)-1-k:=by
    rcases N with ⟨h,_⟩|⟨_,h⟩
    ·omega
    exact h
   obtain⟨t,rfl⟩:∃j:Nat,O=j:=⟨O.toNat,by omega⟩;obtain⟨u,rfl⟩:∃j:Nat,P=j:=⟨P.toNat,by omega⟩;have wb:IntKind.i64.wrap ((k:Int)+1+t)=(k:Int)+1+t:=KA _ (by omega);have wc:IntKind.i64.wrap ((k:Int)+1+u)=(k:Int)+1+u:=KA _ (by omega);have s:Hid (dJ x 0 0 l=sV ((m+1:Nat):Int) (dJ x n 0 (l.drop (k+1+iY n (G,r,t,u))))):=by unfold Hid;rw[H.o,S,iO Q,Io C,rE];simp
   clear S N q
   rcases C with rfl|rfl
   ·by_cases D:n=r
    ·have d:iY n (2,r,t,u)=t:=by unfold iY;simp[D]
     rw[d] at s;clear d;subst D;go_wp2_with (first|(go_at_call 105;go_must (refine(lH _ _ _ _ _ _).mono ?_;rintro e i ⟨rfl,g⟩;obtain⟨y,z,A⟩:=(f _ _ g).o)));exact⟨⟨n,k+1+t,m+1,rfl,by simp,by simp,by omega,by omega,s,y,z,A⟩,by simp[intOf];omega⟩
    have d:iY n (2,r,t,u)=u:=by unfold iY;simp[D]
    rw[d] at s;have hq:(n==r)=false:=by simpa using D
    clear d;go_wp2_with (first|(go_at_call 105;go_must (refine(lH _ _ _ _ _ _).mono ?_;rintro e i ⟨rfl,g⟩;obtain⟨y,z,A⟩:=(f _ _ g).o)));exact⟨⟨n,k+1+u,m+1,rfl,by simp,by simp,by omega,by omega,s,y,z,A⟩,by simp[intOf];omega⟩
   by_cases D:n<r
   ·have d:iY n (3,r,t,u)=t:=by unfold iY;simp[D]
    rw[d] at s;have hq:decide (n<r)=true:=by simpa using D
    clear d;go_wp2_with (first|(go_at_call 105;go_must (refine(lH _ _ _ _ _ _).mono ?_;rintro e i ⟨rfl,g⟩;obtain⟨y,z,A⟩:=(f _ _ g).o)));exact⟨⟨n,k+1+t,m+1,rfl,by simp,by simp,by omega,by omega,s,y,z,A⟩,by simp[intOf];omega⟩
   have d:iY n (3,r,t,u)=u:=by unfold iY;simp[D]
   rw[d] at s;have hq:decide (n<r)=false:=by simpa using D
   clear d;go_wp2_with (first|(go_at_call 105;go_must (refine(lH _ _ _ _ _ _).mono ?_;rintro e i ⟨rfl,g⟩;obtain⟨y,z,A⟩:=(f _ _ g).o)));exact⟨⟨n,k+1+u,m+1,rfl,by simp,by simp,by omega,by omega,s,y,z,A⟩,by simp[intOf];omega⟩
  have s:Hid (dJ x 0 0 l=(r,(m:Int)+1)):=by unfold Hid;rw[H.o,S,iO Q,iO C];unfold sV;simp;omega
  have q1:(G==1)=false:=by simp;omega
  have q2:(G==2)=false:=by simp;omega
  have q3:(G==3)=false:=by simp;omega
  clear S N q C Q;go_wp2;go_ret2;exact⟨by rw[s.o];rfl,(f _ _ bR).o.1⟩
def rt(l:List cO)(x:Nat->Int):Int:=if aV l=0 then eC x else aV l
def og(l:List cO)(x:Nat->Int):Int × Int:=if rt l x=0 then dJ x 0 0 l else (0,0)
theorem Ir(B cv l)(x:Nat->Int)(w)(A:dR B w cv l)(C:B<=w.1.size):
  cL 47 #[cv,jm x] w (rT w (.tuple #[U (og l x).1,U (og l x).2,U (rt l x)])):=by
 have D:Hid (∀b,bL w b->cL 74 #[cv] b (rT b (U (aV l)))):=λb h=>qF B cv l b (A.l h C) (h.u C)
 have E:Hid (aV l=0->∀b,bL w b->cL 76 #[cv,.agg #[U (x 0),U (x 1),U (x 2),U (x 3),U (x 4)]] b (rT b (.tuple #[U (dJ x 0 0 l).1,U (dJ x 0 0 l).2]))):=λi b h=>Dc B cv l x b (A.l h C) (h.u C) i
 have O:Hid (∀T b,Below (w.1.size+1) (w.alloc (.cells #[U (x 0),U (x 1),U (x 2),U (x 3),U (x 4)] T)) b->rA b w.1.size x):=λT b h=>(rA.made x w T).l h (by omega)
 obtain⟨a,q,rfl,_,_⟩:=A.shape;clear A;have j:∀X,bL w (w.alloc X):=λX=>bR.alloc lE _
 generalize l.length=s at*;show cL 47 #[.slice a s q,.agg #[U (x 0),U (x 1),U (x 2),U (x 3),U (x 4)]] w _
 by_cases i:aV l=0
 ·have S:=Z i;have v:Hid (∀b,bL w b->cL 76 #[.slice a s q,.agg #[U (x 0),U (x 1),U (x 2),U (x 3),U (x 4)]] b (rT b (.tuple #[U (dJ x 0 0 l).1,U (dJ x 0 0 l).2]))):=E.o i;have y:Hid (∀b,bL w b->cL 74 #[.slice a s q] b (rT b (U 0))):=by have:=D.o;rw[i] at this;exact this
  by_cases u:eC x=0
  ·have m:rt l x=0:=by rw[rt,Io i,u]
   have n:og l x=dJ x 0 0 l:=by rw[og,Io m]
   have o:Hid (rt l x=0/\og l x=dJ x 0 0 l):=⟨m,n⟩;have F:Hid (∀b,cL 45 #[.agg #[U (x 0),U (x 1),U (x 2),U (x 3),U (x 4)]] b (rT b (U 0))):=λb=>by have:=pN (x 0) (x 1) (x 2) (x 3) (x 4) b;rw[show Iu (x 0) (x 1) (x 2) (x 3) (x 4)=0 from u] at this;exact this
   clear m n u i D E;generalize P:dJ x 0 0 l=r at*;go_enter func47,ntmps47;go_wp2_with fail;go_at_call 74;refine(y.o _ (j _)).mono ?_;rintro e t ⟨rfl,c⟩;have k:=O.o _ t (by simpa using c);have G:=k 0 (by omega);have H:=k 1 (by omega);have I:=k 2 (by omega);have J:=k 3 (by omega);have K:=k 4 (by omega);clear k;have L:=c.size;simp at L;have d:bL w t:=Below.tO (j _) c (by simp);go_wp2_with fail;go_at_call 45;refine(F.o _).mono ?_;rintro e M ⟨rfl,f⟩;have V:=(f.cell (p:=pW w 0) (by show w.1.size<_;omega)).trans G;have W:=(f.cell (p:=pW w 1) (by show w.1.size<_;omega)).trans H;have Y:=(f.cell (p:=pW w 2) (by show w.1.size<_;omega)).trans I;have y3:=(f.cell (p:=pW w 3) (by show w.1.size<_;omega)).trans J;have y4:=(f.cell (p:=pW w 4) (by show w.1.size<_;omega)).trans K;have g:bL w M:=Below.tO d f (by omega);clear G H I J K;go_wp2_with fail;go_at_call 76;refine(v.o _ g).mono ?_;rintro e Q ⟨rfl,N⟩;have z:bL w Q:=g.th N;go_wp2_with fail;go_ret3;exact⟨by rw[o.o.1,o.o.2];rfl,z⟩
  have m:rt l x=eC x:=by rw[rt,Io i]
  have n:og l x=(0,0):=by rw[og,iO (by rw[m];exact u)]
  have o:Hid (rt l x=eC x/\og l x=(0,0)):=⟨m,n⟩;have F:Hid (∀b,cL 45 #[.agg #[U (x 0),U (x 1),U (x 2),U (x 3),U (x 4)]] b (rT b (U (eC x)))):=λb=>pN (x 0) (x 1) (x 2) (x 3) (x 4) b
  have R:(eC x != 0)=true:=by simpa using u
  clear m n u i D E v;generalize P:eC x=r at*;go_enter func47,ntmps47;go_wp2_with fail;go_at_call 74;refine(y.o _ (j _)).mono ?_;rintro e t ⟨rfl,c⟩;have k:=O.o _ t (by simpa using c);have G:=k 0 (by omega);have H:=k 1 (by omega);have I:=k 2 (by omega);have J:=k 3 (by omega);have K:=k 4 (by omega);clear k;have d:bL w t:=Below.tO (j _) c (by simp);go_wp2_with fail;go_at_call 45;refine(F.o _).mono ?_;rintro e M ⟨rfl,f⟩;have g:bL w M:=d.th f;go_wp2_with fail;go_ret3;exact⟨by rw[o.o.1,o.o.2];rfl,g⟩
 have m:rt l x=aV l:=by rw[rt,iO i]
 have n:og l x=(0,0):=by rw[og,iO (by rw[m];exact i)]
 have o:Hid (rt l x=aV l/\og l x=(0,0)):=⟨m,n⟩;have R:(aV l != 0)=true:=by simpa using i
 clear m n i E;generalize P:aV l=r at*;go_enter func47,ntmps47;go_wp2_with fail;go_at_call 74;refine(D.o _ (j _)).mono ?_;rintro e t ⟨rfl,c⟩;have d:bL w t:=Below.tO (j _) c (by simp);go_wp2_with fail;go_ret3;exact⟨by rw[o.o.1,o.o.2];rfl,d⟩
