import Derived.Test.YtjdnfhkkkejcfaaGreatDoorWd13
import Derived.Test.YtjdnfhkkkejcfaaGreatDoorWd16
import Derived.Test.YtjdnfhkkkejcfaaGreatDoorWd17
import Derived.Test.YtjdnfhkkkejcfaaGreatDoorWd18
set_option linter.all false
set_option maxRecDepth 100000
set_option maxHeartbeats 8000000
namespace Go.Proofs.YtjdnfhkkkejcfaaGreatDoor
open Go.RowKit Go.Maps Go.Proofs.Tryz
theorem Co:∃i,prog.info? 34=some i/\i.zero=some (.agg #[U 0,U 0,U 0,U 0,U 0])/\i.size=5/\i.bytes=40:=jL (by kernel_rfl)
def zx:Value:=nL
def pD(V:Nat->Value)(k:Nat):Array Value:=#[if 0<k then V 0 else zx,if 1<k then V 1 else zx,if 2<k then V 2 else zx,if 3<k then V 3 else zx,if 4<k then V 4 else zx]
def GP(V:Nat->Value)(k:Nat)(v:Value)(j:Nat):Value:=if j=k then v else V j
theorem Dy(V:Nat->Value)(k:Nat)(a:k<5)(v:Value):(pD V k).setIfInBounds k v=pD (GP V k v) (k+1):=by
 have:k=0\/k=1\/k=2\/k=3\/k=4:=by omega
 rcases this with rfl|rfl|rfl|rfl|rfl<;>simp[pD,GP]
theorem xk(V:Nat->Value)(k:Nat)(a:k<5):(pD V 5)[k]?=some (V k)/\(pD V k)[k]?=some zx:=by
 have:k=0\/k=1\/k=2\/k=3\/k=4:=by omega
 rcases this with rfl|rfl|rfl|rfl|rfl<;>simp[pD]
theorem jx{w:World}{base a n b o:Nat}{e T:TypeId}{v u:Value}{xs:List Value}{c:Array Value}(h:w.ownsRow base e a v n xs)(i:w.1[b]?=some (.cells c T (0,0)))(j:T≠e):(w.setCell ⟨b,o,none⟩ u).ownsRow base e a v n xs:=
 bT h λg d _ f=>Kc _ _ _ _ (by
  show g≠b;intro k;subst k;rw[i] at f
  cases f
  exact j rfl)
def IU(ps:List aD)(i m j:Nat):Int:=if m<=j then pt ps i j else 0
theorem IE(ps)(i k:Nat)(a:k<5):(fJ (IU ps i (k+1))).setIfInBounds k (U (pt ps i k))=fJ (IU ps i k):=by
 have:k=0\/k=1\/k=2\/k=3\/k=4:=by omega
 rcases this with rfl|rfl|rfl|rfl|rfl<;>simp[fJ,IU]
theorem sH(B lv ps w)(hl:iH B w lv ps)(hB:B<=w.1.size)(hn:ps.length<=5000000000):
  cL 146 #[lv] w λe s=>∃v,e=.returned (.tuple #[v,U (aT ps)])/\s.ownsRow w.1.size 34 5 v (bj ps).length (cj (bj ps))/\bL w s:=by
 obtain⟨ed,bx,bz,bF,c0⟩:=Co;have H:Hid (cL 148 #[lv] w (rT w (U (bM ps)))):=rP B lv ps w hl hB
 by_cases E:bM ps=0
 case neg=>
  have HE:Hid (aT ps=bM ps/\bj ps=[]):=by
   have e:aT ps=bM ps:=by rw[aT,iO E]
   exact⟨e,by rw[bj,iO (by rw[e];exact E)]⟩
  have n:(bM ps != 0)=true:=by simpa using E
  obtain⟨a,c1,rfl,-⟩:=hl;clear E;generalize bM ps=pe at*;generalize ps.length=c2 at*;go_enter func146,ntmps146;go_wp2_with (first|(go_at_call 148;go_must (refine Calls.mono H.o ?_;rintro e b ⟨rfl,t⟩)));go_ret2;rw[HE.o.1,HE.o.2];exact⟨_,rfl,⟨rfl,.inl ⟨rfl,rfl⟩⟩,t⟩
 have I:gn ps:=jz.1 E;have HC:Hid (∀ (k:Nat) s,k<5->bL w s->cL 181 #[lv,U k] s λe a2=>∃v,e=.returned v/\a2.ownsRow s.1.size 3 1 v (cw ps k).length ((cw ps k).map (.int .i64))/\bL s a2):=λk s hk h=>Db B lv ps k (L4 (by omega)) s (hl.l h hB) I (h.u hB) hn
 have HF:Hid (∀k:Nat,0<(cw ps k).length/\(cw ps k).length<=65536):=λk=>⟨zm ps k,Bf I k⟩
 have HE:Hid (aT ps=if 1000<(dG ps).length then 2 else 0):=by unfold Hid;rw[aT,Io E]
 rw[E] at H;obtain⟨a,c1,rfl,ef,eg,-⟩:=hl;generalize ps.length=c2 at*;clear E I;go_enter func146,ntmps146;go_wp2_with (first|(go_at_call 148;go_must (refine Calls.mono H.o ?_;rintro e b ⟨rfl,t⟩)));have J:=t.size;have u:Hid ((b.alloc (.cells #[nL,nL,nL,nL,nL] 213)).1[b.1.size]?=some (.cells (pD (λ_=>zx) 0) 213 (0,0))):=ah _ _;have c4:Hid (∀X,bL w (b.alloc X)):=λX=>t.alloc J _
 go_loopw [6,17] (λnv K wr=>∃ (k:Nat) (V:Nat->Value),k<=5/\K=U k/\nv=U (lu ps k)/\lu ps k<=1000/\Hid (∀j,j<k->wr.ownsRow w.1.size 3 1 (V j) (cw ps j).length ((cw ps j).map (.int .i64)))/\Hid (wr.1[b.1.size]?=some (.cells (pD V k) 213 (0,0)))/\bL w wr) (λ_ K _=>5-(intOf K).toNat)
 case atStart=>exact⟨0,λ_=>zx,by omega,rfl,rfl,by simp[lu],λj hj=>absurd hj (by omega),u,c4.o _⟩
 case round=>
  obtain⟨k,V,hk,rfl,rfl,x,HV,HB,y⟩:=hrel;have⟨Y,c6⟩:=nM (wr);subst c6;have k0:(0:Int)<=(k:Int):=by omega
  have c7:=y.size;have a5:=io HB.o
  by_cases M:k<5
  ·have k1:(k:Int)<5:=by omega
   have⟨c8,a6⟩:=HF.o k;have F:Hid _:=HC.o k Y M y;have l:Hid (lu ps (k+1)=lu ps k*(cw ps k).length):=rfl;have c9:Hid (lu ps (k+1)<=(dG ps).length):=E2 ps (k+1) (by omega);have⟨q,n⟩:=nM (lu ps k);rw[<-n] at x l;have⟨m,hm⟩:=nM ((cw ps k).length);have a7:Hid ((cw ps k).length=m):=hm.symm;rw[<-hm] at c8 a6 l;rw[<-n];clear n hm;go_wp2_with fail;go_at_call 181;refine Calls.mono F.o ?_;rintro e w3 ⟨v,rfl,O,A⟩;obtain⟨a3,a8,rfl,-,-,-⟩:=an O;rw[a7.o];have G3:=(A.block b.1.size a5).trans HB.o;have P:Hid _:=G3;have cb:=ab G3 k (xk V k M).2;have el:w3.frozen? ⟨b.1.size,k,none⟩=false:=by simp[World.frozen?,G3]
   have cc:Hid (∀j,j<k->w3.ownsRow w.1.size 3 1 (V j) (cw ps j).length ((cw ps j).map (.int .i64))):=λj hj=>aw (HV.o j hj) A
   have cd:Hid _:=O;have G:bL w w3:=Below.tO y A c7
   obtain⟨Q,em,dr,HQ⟩:∃Q:Nat,IntKind.i64.wrap ((q:Int)*(m:Int))=(Q:Int)/\Q<=65536000/\Hid (Q=q*m):=by
    have eq:q*m<=1000*65536:=MW x a6;refine⟨q*m,?_,by omega,rfl⟩;rw[Int.natCast_mul];have:(0:Int)<=(q:Int)*(m:Int)/\(q:Int)*(m:Int)<=65536000:=by rw[<-Int.natCast_mul];omega
    exact KA _ (by omega)
   rw[<-HQ.o] at l;unfold zx at cb;clear G3 O A F
   by_cases ds:1000<Q
   ·have R:(1000:Int)<(Q:Int):=by omega
    have o:Hid (aT ps=2/\bj ps=[]):=by
     have e:aT ps=2:=by have:=c9.o;rw[l.o] at this;rw[HE.o,Io (by omega)]
     exact⟨e,by rw[bj,iO (by rw[e];decide)]⟩
    go_wp2_with fail;go_ret2;rw[o.o.1,o.o.2];exact⟨_,rfl,⟨rfl,.inl ⟨rfl,rfl⟩⟩,G.setCell (p:=⟨b.1.size,k,none⟩) J _⟩
   have R:¬(1000:Int)<(Q:Int):=by omega
   go_wp2_with fail;refine⟨⟨k+1,GP V k (.slice a3 m a8),by omega,by go_num,by rw[l.o],by rw[l.o];omega,λj hj=>?_,?_,G.setCell (p:=⟨b.1.size,k,none⟩) J _⟩,by simp[intOf];omega⟩
   ·by_cases a9:j=k
    ·subst a9;rw[GP,Io rfl];have:=cd.o
     rw[a7.o] at this |-
     exact jx (cU this (by omega)) P.o (by decide)
    rw[GP,iO a9];exact jx (cc.o j (by omega)) P.o (by decide)
   unfold Hid;rw[ap P.o,Dy V k M]
  obtain rfl:k=5:=by omega
  rw[yV] at x |-
  rw[show ((5:Nat):Int)=5 from rfl];have aa:Hid (∀i,i<(dG ps).length->(dG ps)[i]?=some (Jn ps i)):=λi hi=>Fs ps i hi
  have o:Hid (aT ps=0/\bj ps=dG ps):=by
   have e:aT ps=0:=by rw[HE.o,iO (by omega)]
   exact⟨e,by rw[bj,Io e]⟩
  have⟨N,hN⟩:=nM ((dG ps).length);have ac:Hid ((dG ps).length=N):=hN.symm
  rw[<-hN] at x |-
  have ad:Hid (∀i,i<N->(dG ps)[i]?=some (Jn ps i)):=by rw[hN];exact aa
  clear aa hN
  have ce:Hid (∀wr,fh 34 Y wr->∀k:Nat,k<5->∃g c,wr.cell? ⟨b.1.size,k,none⟩=some (.slice (sO g) (cw ps k).length c)/\(cw ps k).length<=c/\c<=maxLen/\∀ (i:Nat) (q:Int),(cw ps k)[i]?=some q->wr.cell? ⟨g,i,none⟩=some (U q)):=by
   intro wr ht k hk;have ho:=HV.o k hk;have hF:=HF.o k
   rcases ho.2 with ⟨_,hz⟩|⟨g,c,er,ev,_,ae,ci,af,_,_⟩
   ·omega
   refine⟨g,c,?_,ci,af,λi q n=>?_⟩
   ·rw[<-ev];exact ab (ht _ _ _ _ HB.o (by decide)) k (xk V k hk).1
   have h1:Y.cell? ⟨g,i,none⟩=some (U q):=by rw[ev] at ho;exact aK ho i _ (by simp[n])
   have h2:=ht _ _ _ _ ae (by decide);simp only[World.cell?,ae] at h1;simp only[World.cell?,h2];exact h1
  have ck:Hid (∀wr,fh 34 Y wr->b.1.size<wr.1.size):=λwr ht=>io (ht _ _ _ _ HB.o (by decide))
  have et:=ai;clear HV HB;go_wp2_with fail;go_loopw [8,35] (λov iv wr=>∃i:Nat,i<=N/\iv=U i/\Hid (wr.ownsRow w.1.size 34 5 ov i (cj ((dG ps).take i)))/\bL w wr/\Hid (fh 34 Y wr)) (λ_ iv _=>N-(intOf iv).toNat)
  case atStart=>exact⟨0,by omega,rfl,⟨rfl,.inl ⟨rfl,rfl⟩⟩,y,fh.refl _ _⟩
  case round=>
   obtain⟨i,hi,rfl,HO,S,T⟩:=hrel;have⟨f,co⟩:=nM (wr);subst co;have i0:(0:Int)<=(i:Int):=by omega
   have cp:=S.size
   by_cases cs:i<N
   ·have i1:(i:Int)<(N:Int):=by omega
    have ak:=ad.o i cs;have cx:Hid ((dG ps).take (i+1)=(dG ps).take i++[Jn ps i]):=by unfold Hid;rw[KN,ak];rfl
    clear ak;have cT:Hid ((f.alloc (.cells #[U 0,U 0,U 0,U 0,U 0] 34)).1[f.1.size]?=some (.cells (fJ (IU ps i 5)) 34 (0,0))):=ah _ _;go_wp2_with fail;go_loopw [9,11] (λcv K wr=>∃m:Nat,m<=5/\K=U ((m:Int)-1)/\cv=U ((i / mK ps m:Nat):Int)/\Hid (wr.1[f.1.size]?=some (.cells (fJ (IU ps i m)) 34 (0,0)))/\bL f wr) (λ_ K _=>(intOf K+1).toNat)
    case atStart=>exact⟨5,by omega,by simp,by rw[vB,Nat.div_one],cT,bR.alloc lE _⟩
    case round=>
     obtain⟨m,hm,rfl,rfl,HX,C⟩:=hrel;have⟨wm,d1⟩:=nM (wr);subst d1;have d2:fh 34 Y wm:=T.o.trans (fh.of_below C);have d3:=C.size
     by_cases ex:0<m
     ·obtain⟨k,rfl⟩:∃k,m=k+1:=⟨m-1,by omega⟩;have D:k<5:=by omega
      have⟨g,c,z0,d4,ey,zq⟩:=ce.o wm d2 k D;have hF:=HF.o k;have av:Hid (mK ps k=(cw ps k).length*mK ps (k+1)):=rz ps k D;obtain⟨q,n⟩:∃q:Nat,q=i / mK ps (k+1):=⟨_,rfl⟩;have⟨L,hL⟩:=nM ((cw ps k).length);have b1:Hid (pt ps i k=yH (cw ps k) q):=by unfold Hid;rw[n];rfl
      have b2:(cw ps k)[q % L]?=some (pt ps i k):=by
       rw[b1.o,yH,<-hL,Kn];have:q % L<(cw ps k).length:=by rw[<-hL];exact Nat.mod_lt _ (by omega)
       simp[this]
      have z1:=zq _ _ b2;have b3:Hid (i / mK ps k=q / L):=by unfold Hid;rw[av.o,<-hL,n,Nat.div_div_eq_div_mul,Nat.mul_comm]
      have eF:q<=i:=by rw[n];exact Nat.div_le_self _ _
      rw[<-hL] at z0 d4 hF;rw[<-n];clear b2 zq av b1 n hL;have d5:Int.tmod (q:Int) (L:Int)=((q % L:Nat):Int):=by rw[Int.tmod_eq_emod_of_nonneg (by omega)];simp
      have d6:(q:Int) % (L:Int)=((q % L:Nat):Int):=by simp
      have da:Int.tdiv (q:Int) (L:Int)=((q / L:Nat):Int):=by rw[Int.tdiv_eq_ediv_of_nonneg (by omega)];simp
      have dc:(q:Int) / (L:Int)=((q / L:Nat):Int):=by simp
      have⟨r,hr⟩:=nM (q % L);have eN:r<L:=by rw[hr];exact Nat.mod_lt _ (by omega)
      have b4:q / L<=q:=Nat.div_le_self _ _;have⟨d,hd⟩:=nM (q / L);rw[<-hr] at d5 d6 z1;rw[<-hd] at da dc b3 b4;clear hr hd;have eO:(0:Int)<=(k:Int):=by omega
      have eV:(k:Int)<5:=by omega
      have W:(((k+1:Nat):Int)-1)=(k:Int):=by omega
      rw[W];have b5:=KE _ _ z0;have de:=KE _ _ z1;generalize b6:pt ps i k=pv at*;have b7:Hid (pt ps i k=pv):=b6;clear b6;have L0:(L:Int)≠0:=by omega
      have L1:(L:Int)≠-1:=by omega
      have L2:((L:Int)==0)=false:=by simp;omega
      go_wp2_with fail;have df:=ax.ne wm;have q0:∀z:ax wm,z.1.cell? ⟨b.1.size,k,none⟩=some (.slice (sO g) L c):=λz=>z.cell z0 b5
      have q1:∀z:ax wm,z.1.cell? ⟨g,r,none⟩=some (U pv):=λz=>z.cell z1 de
      refine oR [_,_,_,_,_,_,_,_,_,_,_,_,_] _ rfl (by kernel_rfl) (by kernel_rfl) ?_;repeat(go_big_quiet_step (fail))
      refine Km ?_;rintro wx ⟨⟨_,hx⟩,rfl⟩;have b8:=io HX.o;have GX:=(hx.block f.1.size b8).trans HX.o;have t0:=(eD GX).1 k D;have t1:=(eD GX).2 k;have FX:Hid ((wx.setCell ⟨f.1.size,k,none⟩ (U pv)).1[f.1.size]?=some (.cells (fJ (IU ps i k)) 34 (0,0))):=by unfold Hid;rw[ap GX,<-b7.o,IE ps i k D]
      have u:bL f (wx.setCell ⟨f.1.size,k,none⟩ (U pv)):=(Below.tO C hx d3).setCell (p:=⟨f.1.size,k,none⟩) lE _;have f3:=ck.o f T.o;have ea:¬b.1.size=f.1.size:=by omega
      have dk:¬f.1.size=b.1.size:=by omega
      have f4:wx.cell? ⟨b.1.size,k,none⟩=some (.slice (sO g) L c):=(hx.cell (p:=⟨b.1.size,k,none⟩) b5).trans z0;have b9:Hid _:=u;clear q0 q1 df GX hx z0 z1 u;go_wp2_with fail;exact⟨⟨k,by omega,rfl,by rw[b3.o],FX,b9.o⟩,by simp[intOf]⟩
     obtain rfl:m=0:=by omega
     have hX:=(eD HX.o).1;have e0:=hX 0 (by omega);have e1:=hX 1 (by omega);have e2:=hX 2 (by omega);have e3:=hX 3 (by omega);have e4:=hX 4 (by omega);have ba:∀j,IU ps i 0 j=pt ps i j:=λj=>by simp[IU]
     rw[ba] at e0 e1 e2 e3 e4;clear hX ba;have bb:Hid ((dG ps).take (i+1)=(dG ps).take i++[[pt ps i 0,pt ps i 1,pt ps i 2,pt ps i 3,pt ps i 4]]):=cx;generalize pt ps i 0=p0 at*;generalize pt ps i 1=p1 at*;generalize pt ps i 2=p2 at*;generalize pt ps i 3=p3 at*;generalize pt ps i 4=p4 at*;have eb:¬((((0:Nat):Int)-1)>=0):=by omega
     go_wp2_with (first|(at_builtin;go_must (refine ir _ rfl _ _ rfl Tryz.underlying180 bx bz bF c0 rfl (by decide) w.1.size _ _ _ rfl _ 1 [U p0,U p1,U p2,U p3,U p4] rfl _ rfl (by simp) f C HO.o rfl (by simp[Value.oneCell']) (by omega) (by omega) cp ?_;intro v9 w9 dl dn dp)));refine⟨⟨i+1,by omega,by go_num,?_,S.trans dn,T.o.trans (fh.grown HO.o dp.o)⟩,by simp[intOf];omega⟩;unfold Hid;rw[bb.o,mP];exact dl.o
   obtain rfl:i=N:=by omega
   have dq:Hid (f.ownsRow w.1.size 34 5 u8 (bj ps).length (cj (bj ps))):=by have:=HO.o;rw[Ki (by rw[ac.o];omega)] at this;unfold Hid;rw[o.o.2,ac.o];exact this
   go_wp2_with fail;go_ret2;rw[o.o.1];exact⟨_,rfl,dq.o,S⟩
theorem rg{l}{x:List Int}(h:x∈bj l):∃a b c d e,x=[a,b,c,d,e]:=by
 unfold bj at h
 split at h
 ·have f:=(mA _ _).1 h;unfold lI at f
  match x,f with
  |[a,b,c,d,e],_=>exact⟨a,b,c,d,e,rfl⟩
 cases h
theorem mw:∀ (l:List (List Int)),(∀x∈l,∃a b c d e,x=[a,b,c,d,e])->∀ (i:Nat) (a b c d e:Int),l[i]?=some [a,b,c,d,e]->
  (cj l)[i*5]?=some (U a)/\(cj l)[i*5+1]?=some (U b)/\(cj l)[i*5+2]?=some (U c)/\(cj l)[i*5+3]?=some (U d)/\(cj l)[i*5+4]?=some (U e)
 |[],_,_,_,_,_,_,_,h=>by simp at h
 |x :: l,f,0,a,b,c,d,e,h=>by simp at h;subst h;simp[cj]
 |x :: l,f,i+1,a,b,c,d,e,h=>by obtain⟨g,j,k,m,n,rfl⟩:=f x (by simp);have o:=mw l (λy p=>f y (by simp[p])) i a b c d e (by simpa using h);have q:cj ([g,j,k,m,n] :: l)=U g :: U j :: U k :: U m :: U n :: cj l:=rfl;rw[q,show (i+1)*5=i*5+5 by omega];exact o
def fj(p q:aD):Nat->Int:=match dN p q with
 |some x=>Cn x
 |none=>λ_=>0
theorem zf{α:Type}(f:α->Bool)(l:List α)(i:Nat)(h:∀x∈l.take i,f x=false)(x:α)(a:l[i]?=some x)(b:f x=true):l.find? f=some x:=by
 have e:l=l.take i++x :: l.drop (i+1):=by obtain⟨c,rfl⟩:=K9.1 a;rw[<-KM c,Ms]
 rw[e,List.find?_append,MO.2 (λy d=>by simp[h y d])];simp[b]
theorem uI(B pv qv p q w)(hp:aX B w pv p)(hq:aX B w qv q)(hB:B<=w.1.size):
  cL 123 #[pv,qv] w (rT w (.tuple #[.bool (dN p q).isSome,jm (fj p q),U (aT [p,q])])):=by
 have HP:=Z λl (h:bL w l)=>hp.l h hB
 have HQ:=Z λl (h:bL w l)=>hq.l h hB
 obtain⟨r,d⟩:=p;obtain⟨s,f⟩:=q;obtain⟨rv,e1,hd,bc⟩:=hp;obtain⟨sv,e2,hf,bd⟩:=hq;have cb:=Z λl (h:bL w l)=>bc.l h hB
 have cc:=Z λl (h:bL w l)=>bd.l h hB
 obtain⟨a,G,e3,ed,ee,-⟩:=bc;obtain⟨b,n,e4,dl,dn,-⟩:=bd;simp only at e1 e2 e3 e4 hd hf;subst e3 e4 e1 e2;have cd:=Z hd;have ce:=Z hf;clear hd hf;generalize cf:r.length=n1 at*;generalize ci:s.length=n2 at*;clear cf ci;go_enter func123,ntmps123;have⟨O,J⟩:=nM (((w.alloc (.cells #[.slice a n1 G,U d] 30)).alloc (.cells #[.slice b n2 n,U f] 30)).alloc (.cells #[U 0,U 0,U 0,U 0,U 0] 34));have bf:O.1.size=w.1.size+1+1+1:=by rw[J];simp
 have a0:bL w O:=by rw[J];exact((bR.alloc lE _).alloc (by simp) _).alloc (by simp;omega) _
 have a1:Hid (∀l,Below (w.1.size+3) O l->l.1[w.1.size]?=some (.cells #[.slice a n1 G,U d] 30 (0,0))/\l.1[w.1.size+1]?=some (.cells #[.slice b n2 n,U f] 30 (0,0))/\l.1[w.1.size+1+1]?=some (.cells (fJ λ_=>0) 34 (0,0))):=by
  intro l h;have e0:O.1[w.1.size]?=some (.cells #[.slice a n1 G,U d] 30 (0,0)):=by rw[J,Kq _ _ _ (by simp;omega),Kq _ _ _ (by simp)];exact ah _ _
  have e1:O.1[w.1.size+1]?=some (.cells #[.slice b n2 n,U f] 30 (0,0)):=by rw[J,Kq _ _ _ (by simp)];have:=ah (w.alloc (.cells #[.slice a n1 G,U d] 30)) (.cells #[.slice b n2 n,U f] 30);rw[Kg] at this;exact this
  have e2:O.1[w.1.size+1+1]?=some (.cells (fJ λ_=>0) 34 (0,0)):=by rw[J];have:=ah ((w.alloc (.cells #[.slice a n1 G,U d] 30)).alloc (.cells #[.slice b n2 n,U f] 30)) (.cells (fJ λ_=>0) 34);rw[Kg,Kg] at this;exact this
  exact⟨h.bk e0,h.bk e1,h.bk e2⟩
 have bg:=wJ (p:=(r,d)) (q:=(s,f)) (a0.u hB) (cb.o _ a0) cd.o (cc.o _ a0) ce.o 30;have ad:=sH _ _ _ _ bg (by simp) (by simp);rw[bf] at ad;have a7:Hid _:=ad;have bk:Below (w.1.size+3) O (O.alloc (.cells #[.slice a n1 G,U d,.slice b n2 n,U f] 30)):=bR.alloc (by omega) _;have ae:(O.alloc (.cells #[.slice a n1 G,U d,.slice b n2 n,U f] 30)).1.size=w.1.size+4:=by simp[bf]
 clear ad bg;go_wp2_with fail;rw[<-J];clear J;go_at_call 146;refine Calls.mono a7.o ?_;rintro e w5 ⟨v5,rfl,z,P⟩
 try unfold bL at P
 rw[ae] at P z;have bm:Below (w.1.size+3) O w5:=Mj bk (P.mono (by omega));have ck:=P.size;rw[ae] at ck;obtain⟨a5,dp,rfl,cl,dq,af⟩:=an z;have bo:Hid (aT [(r,d),(s,f)]≠0->bj [(r,d),(s,f)]=[]):=λh=>by rw[bj,iO h]
 have Q:Hid (∀x∈bj [(r,d),(s,f)],aT [(r,d),(s,f)]=0/\eC (Cn x)=0/\aj (r,d)=0/\aj (s,f)=0):=by
  intro x u;unfold bj at u
  split at u
  ·rename_i h0;have ak:=(kM.1 h0).1;obtain⟨y,rfl,hy,_⟩:=uo ak u;refine⟨h0,?_,ak _ (by simp),ak _ (by simp)⟩;have:eC (Cn (iQ y))=eC y:=by unfold eC;rw[fF y 0 (by omega),fF y 1 (by omega),fF y 2 (by omega),fF y 3 (by omega),fF y 4 (by omega)]
   rw[this];exact hy
  cases u
 have H5:Hid (∀x∈bj [(r,d),(s,f)],∃a b c d e,x=[a,b,c,d,e]):=λx u=>rg u
 have al:Hid (dN (r,d) (s,f)=(bj [(r,d),(s,f)]).find? (eB (r,d) (s,f))):=rfl;have bp:Hid (fj (r,d) (s,f)=match dN (r,d) (s,f) with|some x=>Cn x|none=>λ_=>0):=rfl;have⟨PL,bq⟩:=nM (bj [(r,d),(s,f)])
 rw[<-bq] at z cl af bo Q H5 al |-
 clear bq;have co:Hid (∀ (i:Nat) (A C D E F:Int),PL[i]?=some [A,C,D,E,F]->∃g,a5=some (pA g 0)/\g<w5.1.size/\w5.cell? ⟨g,i*5,none⟩=some (U A)/\w5.cell? ⟨g,i*5+1,none⟩=some (U C)/\w5.cell? ⟨g,i*5+2,none⟩=some (U D)/\w5.cell? ⟨g,i*5+3,none⟩=some (U E)/\w5.cell? ⟨g,i*5+4,none⟩=some (U F)):=by intro i A C D E F u;have hi:=(K9.1 u).1;obtain⟨g,rfl,_,hg⟩:=af (by omega);have⟨h0,h1,h2,h3,h4⟩:=mw PL H5.o i A C D E F u;exact⟨g,rfl,hg,aK z _ _ h0,aK z _ _ h1,aK z _ _ h2,aK z _ _ h3,aK z _ _ h4⟩
 clear z af P a7 bk ae;have es:=ai;have⟨pe,ao⟩:=nM (aT [(r,d),(s,f)]);have aa:=Z ao.symm
 rw[<-ao] at bo Q |-
 clear ao;generalize hN:PL.length=N at*;have br:=Z hN;clear hN;go_wp2_with fail;go_loopw [24] (λiv wr=>∃i:Nat,i<=N/\iv=U i/\Hid (∀x∈PL.take i,eB (r,d) (s,f) x=false)/\bL w5 wr) (λiv _=>N-(intOf iv).toNat)
 case atStart=>exact⟨0,by omega,rfl,λx u=>by simp at u,Kf _ _⟩
 case round=>
  obtain⟨i,hi,rfl,av,H⟩:=hrel;have⟨M,cs⟩:=nM (wr);subst cs;have i0:(0:Int)<=(i:Int):=by omega
  have cv:=H.size;have l0:w.1.size<M.1.size:=by omega
  have l1:w.1.size+1<M.1.size:=by omega
  have l2:w.1.size+1+1<M.1.size:=by omega
  have I:Below (w.1.size+3) O M:=bm.trans (H.mono (by omega));have K:bL w M:=a0.trans (I.mono (by omega))
  by_cases et:i<N
  ·have i1:(i:Int)<(N:Int):=by omega
   obtain⟨x,u⟩:∃x,PL[i]?=some x:=⟨PL[i]'(by rw[br.o];omega),by simp⟩;have b3:=Kb u;obtain⟨A,C,D,E,F,rfl⟩:=H5.o x b3;obtain⟨bs,bv,b4,b5⟩:=Q.o _ b3;have R:eC (oz A C D E F)=0:=bv;obtain⟨g,rfl,S,z0,z1,z2,z3,z4⟩:=co.o i A C D E F u;have y0:=(H.cell (p:=⟨g,i*5,none⟩) S).trans z0;have y1:=(H.cell (p:=⟨g,i*5+1,none⟩) S).trans z1;have y2:=(H.cell (p:=⟨g,i*5+2,none⟩) S).trans z2;have y3:=(H.cell (p:=⟨g,i*5+3,none⟩) S).trans z3;have y4:=(H.cell (p:=⟨g,i*5+4,none⟩) S).trans z4;have⟨va,b6⟩:=nM (vP (r,d) (oz A C D E F));have⟨vb,b7⟩:=nM (vP (s,f) (oz A C D E F));have bx:=Z (by rw[b6,b7];rfl:eB (r,d) (s,f) [A,C,D,E,F]=decide (vb<va));have d0:Hid (∀l,bL w l->cL 147 #[.agg #[.slice a n1 G,U d],.agg #[U A,U C,U D,U E,U F]] l λe T=>∃k,e=.returned (.tuple #[U va,U k])/\bL l T):=by intro l h;refine(rm B _ _ (oz A C D E F) l (HP.o l h) (h.u hB) b4).mono ?_;rintro e T ⟨rfl,hb⟩;refine⟨(cP (r,d) (aR (bu (oz A C D E F)) 0 r)).2,?_,hb⟩;rw[b6,vP,gV b4 R]
   have d2:Hid (∀l,bL w l->cL 147 #[.agg #[.slice b n2 n,U f],.agg #[U A,U C,U D,U E,U F]] l λe T=>∃k,e=.returned (.tuple #[U vb,U k])/\bL l T):=by intro l h;refine(rm B _ _ (oz A C D E F) l (HQ.o l h) (h.u hB) b5).mono ?_;rintro e T ⟨rfl,hb⟩;refine⟨(cP (s,f) (aR (bu (oz A C D E F)) 0 s)).2,?_,hb⟩;rw[b7,vP,gV b5 R]
   have bz:=Z u;have e9:=Z bs;clear b6 b7 z0 z1 z2 z3 z4 u b3 bs bv R b4 b5;obtain⟨b0,b1,V⟩:=a1.o _ I;have c0:=J0 b0;have c1:=J1 b0;have bF:∀X,bL M (M.alloc X):=λX=>bR.alloc lE _
   clear b0 b1 V;go_wp2_with fail;go_at_call 147;refine Calls.mono (d0.o _ (K.th (bF _))) ?_;rintro e w6 ⟨ka,rfl,b8⟩;have o:=(b8.block M.1.size (by simp)).trans (ah M _);have W:bL M w6:=Below.tO (bF _) b8 (by simp);have d3:=io o;have m0:=J0 o;have m1:=J1 o;have m2:=J2 o;have m3:=J3 o;have m4:=J4 o;obtain⟨b0,b1,V⟩:=a1.o _ (I.trans (W.mono (by omega)));have c2:=J0 b1;have c3:=J1 b1;have b9:Hid _:=o;clear b0 b1 V c0 c1 b8 o y0 y1 y2 y3 y4;go_wp2_with fail;go_at_call 147;refine Calls.mono (d2.o _ (K.th W)) ?_;rintro e w7 ⟨kb,rfl,ba⟩;have t:=(ba.block M.1.size d3).trans b9.o;have Y:bL M w7:=W.th ba;clear m0 m1 m2 m3 m4 c2 c3 ba
   by_cases c4:vb<va
   ·have fe:=J0 t;have fi:=J1 t;have fl:=J2 t;have fn:=J3 t;have fo:=J4 t;have j:Hid (dN (r,d) (s,f)=some [A,C,D,E,F]):=by unfold Hid;rw[al.o];exact zf _ PL i av.o _ bz.o (by rw[bx.o];exact KS c4)
    have bb:Hid (fj (r,d) (s,f)=oz A C D E F):=by unfold Hid;rw[bp.o,j.o];rfl
    obtain⟨b0,b1,V⟩:=a1.o _ (I.trans (Y.mono (by omega)));have L:=(eD V).1;have m:=(eD V).2;have r0:=L 0 (by omega);have r1:=L 1 (by omega);have r2:=L 2 (by omega);have r3:=L 3 (by omega);have r4:=L 4 (by omega);have f0:=m 0;have f1:=m 1;have f2:=m 2;have f3:=m 3;have f4:=m 4;clear L m b0 b1 V t;go_wp2_with fail;go_region;go_wp2_with fail;refine Ka (v:=.tuple #[.bool true,.agg #[U A,U C,U D,U E,U F],U pe]) ?_ rfl ⟨by rw[j.o,bb.o,aa.o];rfl,?_⟩
    ·simp[results,Tryz.results123,go_sem,r0,r1,r2,r3,r4]
    have c5:bL w w7:=K.th Y;refine Below.drew ?_;repeat(first|exact c5|refine Ky ?_ (by simp;omega) _)
   have dd:Hid (∀x∈PL.take (i+1),eB (r,d) (s,f) x=false):=by
    intro x u;rw[KN,bz.o] at u
    rcases KB.1 u with h|h
    ·exact av.o x h
    simp at h;subst h;rw[bx.o];exact KD c4
   clear t;go_wp2_with fail;exact⟨⟨i+1,by omega,by go_num,dd,Below.tO H Y cv⟩,by simp[intOf];omega⟩
  obtain rfl:i=N:=by omega
  have j:Hid (dN (r,d) (s,f)=none):=by unfold Hid;rw[al.o,MO];intro x u;have:=av.o x (by rw[Ki (by rw[br.o];omega)];exact u);simp[this]
  have bb:Hid (fj (r,d) (s,f)=λ_=>0):=by unfold Hid;rw[bp.o,j.o]
  obtain⟨b0,b1,V⟩:=a1.o _ I;have L:=(eD V).1;have m:=(eD V).2;have r0:=L 0 (by omega);have r1:=L 1 (by omega);have r2:=L 2 (by omega);have r3:=L 3 (by omega);have r4:=L 4 (by omega);have f0:=m 0;have f1:=m 1;have f2:=m 2;have f3:=m 3;have f4:=m 4;clear L m b0 b1 V;go_wp2_with fail;refine Ka (v:=.tuple #[.bool false,.agg #[U 0,U 0,U 0,U 0,U 0],U pe]) ?_ rfl ⟨by rw[j.o,bb.o,aa.o];rfl,?_⟩
  ·simp[results,Tryz.results123,go_sem,r0,r1,r2,r3,r4]
  repeat(first|exact K|refine Ky ?_ (by simp;omega) _)
def gx(B:Nat)(w:World)(v:Value)(cs:List Int):Prop:=
 ∃a d,v=.slice a cs.length d/\cs.length<=d/\d<=maxLen/\∀ (i:Nat) c,cs[i]?=some c->∃b o,a=some ⟨b,o,none⟩/\b<B/\w.cell? ⟨b,o+i,none⟩=some (U c)
theorem gx.l{B B' w w' v cs}(h:gx B w v cs)(f:Below B' w w')(r:B<=B'):gx B w' v cs:=by obtain⟨a,d,g,j,l,m⟩:=h;refine⟨a,d,g,j,l,λi c n=>?_⟩;have⟨b,o,e,q,k⟩:=m i c n;exact⟨b,o,e,q,(f.cell (p:=⟨b,o+i,none⟩) (by show b<B';omega)).trans k⟩
theorem Dq{L:Nat}{w:World}{v:Value}{l:List Int}(h:w.ownsRow L 3 1 v l.length (l.map (.int .i64))):gx w.1.size w v l:=by obtain⟨a,b,rfl,f,j,k⟩:=an h;refine⟨a,b,rfl,f,j,λi c e=>?_⟩;have n:i<l.length:=(K9.1 e).1;obtain⟨g,rfl,m,d⟩:=k (by omega);refine⟨g,0,rfl,d,?_⟩;rw[Kp];exact aK h i _ (by simp[e])
abbrev kh:=Int × Int × Int × Int × Int
def Ep(x:kh):Nat->Int:=oz x.1 x.2.1 x.2.2.1 x.2.2.2.1 x.2.2.2.2
def qY(w:World)(b o:Nat)(x:kh):Prop:=w.cell? ⟨b,o,none⟩=some (U x.1)/\w.cell? ⟨b,o+1,none⟩=some (U x.2.1)/\w.cell? ⟨b,o+2,none⟩=some (U x.2.2.1)/\w.cell? ⟨b,o+3,none⟩=some (U x.2.2.2.1)/\w.cell? ⟨b,o+4,none⟩=some (U x.2.2.2.2)
def ia(B:Nat)(w:World)(v:Value)(cs:List kh):Prop:=
 ∃a d,v=.slice a cs.length d/\cs.length<=d/\d<=maxLen/\∀ (i:Nat) c,cs[i]?=some c->∃b o,a=some ⟨b,o,none⟩/\b<B/\qY w b (o+i*5) c
theorem qY.l{B w w' b o c}(h:qY w b o c)(a:Below B w w')(d:b<B):qY w' b o c:=by unfold qY;rw[a.cell (p:=⟨b,o,none⟩) d,a.cell (p:=⟨b,o+1,none⟩) d,a.cell (p:=⟨b,o+2,none⟩) d,a.cell (p:=⟨b,o+3,none⟩) d,a.cell (p:=⟨b,o+4,none⟩) d];exact h
theorem ia.l{B B' w w' v cs}(h:ia B w v cs)(f:Below B' w w')(q:B<=B'):ia B w' v cs:=by obtain⟨a,d,g,j,l,m⟩:=h;refine⟨a,d,g,j,l,λi c n=>?_⟩;have⟨b,o,e,p,k⟩:=m i c n;exact⟨b,o,e,p,k.l f (by omega)⟩
def qM(x:List Int):kh:=(x.getD 0 0,x.getD 1 0,x.getD 2 0,x.getD 3 0,x.getD 4 0)
theorem yG:∀ (l:List (List Int)),(∀x∈l,∃a b c d e,x=[a,b,c,d,e])->∀ (i:Nat) (c:kh),(l.map qM)[i]?=some c->
  (cj l)[i*5]?=some (U c.1)/\(cj l)[i*5+1]?=some (U c.2.1)/\(cj l)[i*5+2]?=some (U c.2.2.1)/\(cj l)[i*5+3]?=some (U c.2.2.2.1)/\(cj l)[i*5+4]?=some (U c.2.2.2.2)
 |[],_,i,c,h=>by simp at h
 |x :: l,f,0,c,h=>by obtain⟨g,j,k,m,n,rfl⟩:=f x (by simp);simp at h;subst h;simp[cj,qM]
 |x :: l,f,i+1,c,h=>by obtain⟨g,j,k,m,n,rfl⟩:=f x (by simp);have o:=yG l (λy p=>f y (by simp[p])) i c (by simpa using h);have q:cj ([g,j,k,m,n] :: l)=U g :: U j :: U k :: U m :: U n :: cj l:=rfl;rw[q,show (i+1)*5=i*5+5 by omega];exact o
theorem uB{L:Nat}{w:World}{v:Value}{l:List (List Int)}(m:∀x∈l,∃a b c d e,x=[a,b,c,d,e])(h:w.ownsRow L 34 5 v l.length (cj l)):ia w.1.size w v (l.map qM):=by
 obtain⟨a,f,rfl,n,o,p⟩:=an h;refine⟨a,f,by rw[Lw],by rw[Lw];exact n,o,λi c k=>?_⟩;have z:i<l.length:=by have:=(K9.1 k).1;simpa using this
 obtain⟨g,rfl,q,j⟩:=p (by omega);have⟨r,s,t,u,y⟩:=yG l m i c k;refine⟨g,0,rfl,j,?_,?_,?_,?_,?_⟩
 all_goals rw[Kp]
 ·exact aK h _ _ r
 ·exact aK h _ _ s
 ·exact aK h _ _ t
 ·exact aK h _ _ u
 exact aK h _ _ y
theorem vE(exc)(p q:aD):jV exc (p.1++[([],p.2)]) (q.1++[([],q.2)])=gh exc p q++[([],mG exc p.2 q.2)]:=by unfold jV gh;simp[dX,Mg]
theorem CP(exc p q):(gh exc p q).length+1=(p.1.length+1)*(q.1.length+1):=by
 have h:=tp exc (q.1++[([],q.2)]) (p.1++[([],p.2)]);rw[vE] at h
 simpa using h
theorem ow(B rv rs d w)(h:bD B w rv rs)(E:wf d)(F:B<=w.1.size)(G:rs.length<=120):
  cL 254 #[.agg #[rv,U d]] w λe k=>∃v,e=.returned v/\∃n,k.ownsRow w.1.size 131 2 v (rs++[(([]:List aN),d)]).length n/\lB B k n (rs++[([],d)])/\bL w k:=by
 have p:=Z λk (H:bL w k)=>(h.l H F).conds
 obtain⟨q,s,I,-,-,-⟩:=h;subst I;have⟨t,g⟩:=nM (rs.length)
 rw[<-g] at G p |-
 have J:=Z g.symm;clear g;have⟨j,a⟩:=nM (((w.alloc (.cells #[.slice q t s,U d] 30)).alloc (.cells #[nL,U d] 131)).alloc (.cells #[.slice q t s,.slice (sO (w.1.size+1)) 1 1] 28));have b:bL w j:=by rw[a];exact((bR.alloc lE _).alloc (by simp) _).alloc (by simp;omega) _
 have u:Na j (w.1.size+1) #[nL,U d] 131:=by rw[a];exact aS _ (be _ _ (by simp only[Kg]))
 have o:Na j (w.1.size+1+1) #[.slice q t s,.slice (sO (w.1.size+1)) 1 1] 28:=by rw[a];exact be _ _ (by simp only[Kg])
 have f:ju B j (.slice (sO (w.1.size+1)) 1 1) [([],d)]:=by
  refine⟨_,1,rfl,Ke _,by rw[ai];omega,λi r x=>?_⟩
  have K:i=0:=by
   have:=(K9.1 x).1
   simpa using this
  subst K;simp at x;subst x;exact⟨_,_,rfl,nL,J0 u,J1 u,E,none,0,rfl,Ke _,by rw[ai];omega,λi c h=>by simp at h⟩
 have A:=Bz B _ _ rs [([],d)] (w.1.size+1+1) j (p.o j b) f (by have:=b.size;omega) (io o) (J0 o) (J1 o) (by rw[J.o];simp;omega);have y:Hid _:=A;have L:=Z a;have l:=Z b;clear A a b u o f p;go_enter func254,ntmps254;go_wp2_with fail;rw[<-L.o];go_at_call 274;refine Calls.mono y.o ?_;rintro e O ⟨v,rfl,n,C,D,m⟩;have M:=Z C;have N:=Z D;have z:=Z m;clear C D m;go_wp2_with fail;go_ret;exact⟨_,rfl,n,cU M.o l.o.size,N.o,l.o.th z.o⟩
theorem sf{B w a n c rs}(h:bD B w (.slice a n c) rs)(m:Nat)(d:m<=rs.length):bD B w (.slice a m c) (rs.take m):=by
 obtain⟨j,k,e,l,f,g⟩:=h;simp at e;obtain⟨rfl,rfl,rfl⟩:=e;refine⟨a,c,by rw[Kt,MJ d],by rw[Kt];omega,f,λi r b=>?_⟩;rw[LO] at b
 split at b
 ·exact g i r b
 cases b
theorem wL{L:Nat}{w:World}{a}{N m c:Nat}{xs:List Value}{b:List aq}{d}(o:w.ownsRow L 131 2 (.slice a N c) b.length xs)(p:uN L w xs b)(q:m<=b.length)(s:wf d):bE L w (.agg #[.slice a m c,U d]) (b.take m,d):=by
 intro l n E;have e:l.ownsRow L 131 2 (.slice a N c) b.length xs:=bT o λg f h j=>n g h (io j)
 have k:uN L l xs b:=by obtain⟨t,u,v⟩:=p;refine⟨t,u,λi r x=>?_⟩;have⟨y,z,A,B,C,D⟩:=v i r x;exact⟨y,z,A,B,C,bT D λg f h j=>n g h (io j)⟩
 exact⟨_,rfl,s,sf (uN.rules e k) m q⟩
theorem kA(L w):bE L w (.agg #[nL,U 0]) ([],0):=λa _ _=>bV _ _
theorem pw(d)(r:aq):∀l:List aq,cF d (l++[r])=if r.2=d then cF d l else l++[r]
 |[]=>by
  show (if cF d []=[]/\r.2=d then [] else r :: cF d [])=_
  by_cases h:r.2=d<;>simp[h,cF]
 |s :: l=>by
  have a:=pw d r l;show (if cF d (l++[r])=[]/\s.2=d then [] else s :: cF d (l++[r]))=_;rw[a]
  by_cases h:r.2=d
  ·rw[Io h,Io h];rfl
  rw[iO h,iO h,iO (by simp)];rfl
theorem vR(B a n c rs d w)(h:bD B w (.slice a n c) rs)(P:n<=1000):
  cL 237 #[.slice a n c,U d] w λe E=>e=.returned (.slice a (cF d rs).length c)/\E=w:=by
 obtain⟨Q,R,A,p,q,i⟩:=h;simp at A;obtain⟨rfl,s,rfl⟩:=A;have t:=Z s.symm;rw[ai] at q;rw[<-s] at p;have u:Hid (∀k r,rs[k]?=some r->∃b o,a=some ⟨b,o,none⟩/\w.cell? ⟨b,o+k*2+1,none⟩=some (U r.2)):=λk r F=>by have⟨b,o,e,_,S,_,G,_⟩:=i k r F;exact⟨b,o,e,G⟩
 clear i s;go_enter func237,ntmps237;go_wp2_with fail;go_loop [5] (λv=>∃k:Nat,k<=n/\v=U k/\Hid (cF d (rs.take k)=cF d rs)) (λv=>(intOf v).toNat)
 case atStart=>exact⟨n,Ke _,rfl,by unfold Hid;rw[<-t.o,L6]⟩
 case round=>
  obtain⟨k,T,rfl,l⟩:=hrel;have H:(k:Int)<=(c:Int):=by omega
  have V:(0:Int)<=(k:Int):=by omega
  by_cases C:k=0
  ·subst C;have x:=Z (by rw[<-l.o];rfl:(cF d rs).length=0);clear l;go_wp2_with fail;go_ret;exact⟨by rw[x.o];rfl,rfl⟩
  obtain⟨j,y⟩:∃j,k=j+1:=⟨k-1,by omega⟩;obtain⟨r,f⟩:∃r,rs[j]?=some r:=⟨rs[j]'(by rw[t.o];omega),by simp⟩;have g:=Z (by rw[y,KN,f];rfl:rs.take k=rs.take j++[r]);have⟨b,o,e,W⟩:=u.o j r f;subst e;have D:(0:Int)<(k:Int):=by omega
  have I:(k:Int)-1=(j:Int):=by omega
  have J:(j:Int)<(n:Int):=by omega
  have K:(0:Int)<=(j:Int):=by omega
  have L:j<n:=by omega
  have M:=Z y;clear f C y
  by_cases m:r.2=d
  ·have z:Hid (cF d (rs.take j)=cF d rs):=by unfold Hid;rw[<-l.o,g.o,pw,Io m]
   have N:(r.2==d)=true:=by simpa using m
   generalize r.2=O at*;go_wp2_with fail;exact⟨⟨j,by omega,rfl,z⟩,by have:=M.o;simp[intOf];omega⟩
  have x:Hid ((cF d rs).length=k):=by unfold Hid;rw[<-l.o,g.o,pw,iO m,<-g.o,Kt,t.o];omega
  have N:(r.2==d)=false:=by simpa using m
  generalize r.2=O at*;go_wp2_with fail;go_ret;exact⟨by rw[x.o];rfl,rfl⟩
def kC:Array Value:=#[.string ⟨#[111,112,101,110]⟩,.string ⟨#[116,105,103,104,116]⟩,.string ⟨#[102,111,114,107]⟩,.string ⟨#[115,104,117,116]⟩]
theorem qp(w):cL 154 #[] w λe a=>e=.returned (.slice (sO w.1.size) 4 4)/\a=w.alloc (.cells kC 9):=by go_enter func154,ntmps154;go_wp2;go_ret;exact⟨rfl,rfl⟩
theorem IN{i:Nat}(h:i<4):kC[i]?=some (.string (dU (kN.getD i []))):=by
 have:i=0\/i=1\/i=2\/i=3:=by omega
 rcases this with rfl|rfl|rfl|rfl<;>rfl
theorem II{i:Nat}(h:i<4):kN.getD i []≠[]:=by
 have:i=0\/i=1\/i=2\/i=3:=by omega
 rcases this with rfl|rfl|rfl|rfl<;>decide
theorem D8(x:Bs):bt kN x<4:=by
 have:∀ (l:List Bs) (x:Bs),bt l x<l.length:=by
  intro l x
  induction l with
  |nil=>simp[bt]
  |cons n r a=>
   unfold bt;simp only[Kv]
   split
   ·omega
   split<;>omega
 exact this kN x
theorem BM(b x w)(h:dT b kC w):
  cL 202 #[.slice (sO b) 4 4,.string x] w λe c=>e=.returned (U (bt kN x.1.1))/\c=w:=by
 have:=Tryz.slices_Index_string b 0 4 4 (kN.map dU) x w (by simp[kN]) (by decide) (λj d=>by
  rw[Kp];refine h j _ ?_
  have a:j<4:=by
   have:j<kN.length:=by simpa using d
   exact this
  rw[IN a];have e:kN[j]?=some (kN[j]'a):=Lu a
  simp[List.getD,e])
 rw[Ki (by simp[kN]),uh] at this;exact this
theorem kt(x w):
  cL 173 #[.string x] w (rT w (.tuple #[U (1+bt kN x.1.1),.bool (decide (0<=bt kN x.1.1))])):=by
 have b:=Z (BM w.1.size x _ (dT.made w kC 9));have c:Hid (bL w (w.alloc (.cells kC 9))):=bR.alloc lE _;have d:=jh kN x.1.1;have f:=D8 x.1.1;generalize bt kN x.1.1=a at*;have g:IntKind.i64.wrap (1+a)=1+a:=KA _ (by omega);clear d f;go_enter func173,ntmps173;go_wp2_with fail;go_at_call 154;refine(qp _).mono ?_;rintro e h ⟨rfl,rfl⟩;generalize i:w.alloc (.cells kC 9)=W at*;go_wp2_with fail;go_at_call 202;refine b.o.mono ?_;rintro e j ⟨rfl,rfl⟩;go_wp2_with fail;go_ret2;exact⟨rfl,c.o⟩
theorem sq(w):cL 174 #[U 4] w λe a=>e=.returned (U 2)/\a=w:=by go_enter func174,ntmps174;go_wp2;go_ret;exact⟨rfl,rfl⟩
theorem ni{k:Int}(h:k<4)(w):cL 174 #[U k] w λe a=>e=.returned (U 3)/\a=w:=by
 have b:(k==4)=false:=by simp;omega
 clear h;go_enter func174,ntmps174;go_wp2;go_ret;exact⟨rfl,rfl⟩
theorem FK(s w)(he:dD w):
  cL 176 #[.string s] w λe k=>∃R,e=.returned (.tuple #[R,U (cG s.1.1).2])/\nW w.1.size k R (cG s.1.1).1/\bL w k:=by
 have E:∀X,bL w (w.alloc X):=λX=>bR.alloc lE _
 have HB:Hid (∀k T,Below (w.1.size+1) (w.alloc (.cells #[nL,U 0] T)) k->k.1[w.1.size]?=some (.cells #[nL,U 0] T (0,0))/\bL w k):=λk T h=>⟨(h.block w.1.size (by omega)).trans (Kr w _).1,(E _).trans (h.mono (by omega))⟩
 have K:=KR s
 by_cases F:60000<s.size
 ·have G:Hid (cG s.1.1=(([],0),2)):=by unfold Hid cG;rw[Io (by omega)]
  have hl:(60000:Int)<(s.size:Int):=by omega
  have t:=(Kr w (.cells #[nL,U 0] 30)).1;have L:=E (.cells #[nL,U 0] 30);clear K;go_enter func176,ntmps176;go_wp2;refine Ka (v:=.tuple #[.agg #[nL,U 0],U 2]) ?_ rfl ⟨_,by rw[G.o],by rw[G.o];exact nW.zero _ _,?_⟩
  ·rw[K8 rfl];go_simp
  first|exact L|exact L.s2 lE
 have hl:¬((60000:Int)<(s.size:Int)):=by omega
 have M:=wI s (by omega) (w.alloc (.cells #[nL,U 0] 30)) (he.l (E _));have N:Hid _:=M
 have G:Hid (cG s.1.1=match gS s.1.1 with
  |none=>(([],0),1)
  |some p=>if aj p=0 then (p,0) else (([],0),aj p)):=by unfold Hid cG;rw[iO (by omega)];rfl
 clear M K F;generalize gS s.1.1=po at*
 cases po with
 |none=>
  have l:=Z G.o;clear G;go_enter func176,ntmps176;go_wp2_with fail;go_at_call 204;refine Calls.mono N.o ?_;rintro e m ⟨R,rfl,f,A⟩
  try unfold bL at A
  simp only[Kg] at A f;obtain⟨t,H⟩:=HB.o _ _ A;obtain⟨a,n,j,rfl⟩:=f.shape;have a0:w.1.size+1<=m.1.size:=by have:=A.size;simpa using this
  have c:∀X,(m.alloc X).1[w.1.size]?=some (.cells #[nL,U 0] 30 (0,0)):=λX=>(Kq _ _ _ (by omega)).trans t
  have t0:∀X,(m.alloc X).cell? (pA w.1.size 0)=some nL:=λX=>(ag (c X)).1
  have t1:∀X,(m.alloc X).cell? (pA w.1.size 1)=some (U 0):=λX=>(ag (c X)).2.1
  have t2:∀X,(m.alloc X).frozen? (pA w.1.size 0)=false:=λX=>(ag (c X)).2.2.1
  have t3:∀X,(m.alloc X).frozen? (pA w.1.size 1)=false:=λX=>(ag (c X)).2.2.2
  have I:Hid _:=c;clear t c f;go_wp2_with fail;have x:=du (u:=U 0) (dC (u:=nL) (I.o (.cells #[.slice a n j,U 0] 30)));have⟨z0,z1,_,_⟩:=ag x;refine Ka (v:=.tuple #[.agg #[nL,U 0],U 1]) ?_ rfl ⟨_,by rw[l.o],by rw[l.o];exact nW.zero _ _,((H.alloc (by omega) _).setCell (p:=pA w.1.size 0) lE _).setCell (p:=pA w.1.size 1) lE _⟩;rw[K8 rfl];go_simp
 |some p=>
  obtain⟨S,d⟩:=p;have l:=Z G.o;clear G;go_enter func176,ntmps176;go_wp2_with fail;go_at_call 204;refine Calls.mono N.o ?_;rintro e m ⟨R,rfl,f,A⟩
  try unfold bL at A
  simp only[Kg] at A f;obtain⟨t,H⟩:=HB.o _ _ A;obtain⟨a,n,j,rfl⟩:=f.shape;have a0:w.1.size+1<=m.1.size:=by have:=A.size;simpa using this
  have B:=Z f;have a1:Hid (∀k,bL m k->cL 143 #[.agg #[.slice a n j,U d]] k (rT k (U (aj (S,d))))):=λk h=>gZ k.1.size _ (S,d) k (B.o.keep (λg h1 h2=>h.block g h2) h.size).at lE
  have I:Hid _:=t;clear t f;generalize al:aj (S,d)=V at*;have y:bL m (m.alloc (.cells #[.slice a n j,U d] 30)):=bR.alloc lE _;go_wp2_with fail;go_at_call 143;refine Calls.mono (a1.o _ y) ?_;rintro e W ⟨rfl,J⟩;have q:=Below.tO y J (by simp);have c:W.1[w.1.size]?=some (.cells #[nL,U 0] 30 (0,0)):=q.bk I.o;have⟨t0,t1,t2,t3⟩:=ag c;have O:W.1[m.1.size]?=some (.cells #[.slice a n j,U d] 30 (0,0)):=(J.block _ (by simp)).trans (Kr m _).1;have⟨b0,b1,_,_⟩:=ag O;have C:bL w W:=H.th q;have D:Hid _:=c;have a6:¬(m.1.size=w.1.size):=by omega
  have a7:¬(w.1.size=m.1.size):=by omega
  have P:=q.size;clear c O J y
  by_cases Y:V=0
  ·subst Y;have z:Hid (cG s.1.1=((S,d),0)):=by unfold Hid;rw[l.o,Io rfl]
   clear l;go_wp2_with fail;have x:=du (u:=U d) (dC (u:=.slice a n j) D.o);have⟨z0,z1,_,_⟩:=ag x;refine Ka (v:=.tuple #[.agg #[.slice a n j,U d],U 0]) ?_ rfl ⟨_,by rw[z.o],?_,C.s2 lE⟩
   ·rw[K8 rfl];go_simp
   rw[z.o];have h3:=B.o.keep (w':=(W.setCell (pA w.1.size 0) (.slice a n j)).setCell (pA w.1.size 1) (U d)) (λg h1 h2=>(pR 0 _ _ (by omega)).trans (q.block g h2)) (by simp;exact P);obtain⟨rv,e1,e2,a',Q,e3,e4,e5,e6⟩:=h3;refine⟨rv,e1,e2,a',Q,e3,e4,e5,λi r hr=>?_⟩;have⟨b,o,k1,k2,k3,cv,k4,k5,k6,k7⟩:=e6 i r hr;exact⟨b,o,k1,by omega,k3,cv,k4,k5,k6,k7.mono (by omega)⟩
  have hq:(V != 0)=true:=by simpa using Y
  have z:Hid (cG s.1.1=(([],0),V)):=by unfold Hid;rw[l.o,iO Y]
  clear l Y;go_wp2_with fail;have x:=du (u:=U 0) (dC (u:=nL) D.o);have⟨z0,z1,_,_⟩:=ag x;refine Ka (v:=.tuple #[.agg #[nL,U 0],U V]) ?_ rfl ⟨_,by rw[z.o],by rw[z.o];exact nW.zero _ _,C.s2 lE⟩;rw[K8 rfl];go_simp
