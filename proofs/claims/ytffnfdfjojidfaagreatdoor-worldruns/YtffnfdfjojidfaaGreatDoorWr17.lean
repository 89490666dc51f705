import Derived.Test.YtffnfdfjojidfaaGreatDoorWr14
import Derived.Test.YtffnfdfjojidfaaGreatDoorWr15
import Derived.Test.YtffnfdfjojidfaaGreatDoorWr16
set_option linter.all false
set_option maxRecDepth 100000
set_option maxHeartbeats 4000000
namespace Go.Proofs.YtffnfdfjojidfaaGreatDoor
open Go.RowKit Go.Maps Go.Proofs.Tryz
def vA:ByteArray:=⟨#[107,105,108,108,32,110,114,61,51,32,97,60,53,59,108,111,103,32,107,105,110,100,33,48,59,97,108,108,111,119]⟩
def IZ:List aq:=[([(0,1,3),(2,3,5)],0),([(1,2,0)],3)]
def kj:aD:=(IZ,4)
section
open Go.ChangeShapes Go.WideShapes Go.ChangeAt Go.Deep
section
variable {H:Type} {enc:TypeId × Value->H} {W:World} {base:Nat} {sp:Nat->Bool} {held:Bool}
theorem CD{j:Nat}{cv:Value}{x:DataW H × List MemPlace}(h:DataW.trod enc prog W base sp held j 131 [cv]=some x):∃r,bG W.1.size W cv r:=by
 rcases open_slice Tryz.underlying131 h with ⟨l,_⟩|⟨a,e,s,m,n,D,Pl,l,_,hl,Q,t,_,w⟩
 ·simp at l;subst l;exact⟨[],none,0,rfl,Ke _,Ks _,λi c y=>by simp at y⟩
 simp at l;subst l;have R:prog.cellsOf 136=3:=by kernel_rfl
 have S:prog.cellsOf 3=1:=by kernel_rfl
 rw[R] at w;have T:e<=m:=by rw[t];split<;>omega
 have p:∀i,i<e->∃c:aN,a=⟨a.block,a.off,none⟩/\a.block<W.1.size/\iu W a.block (a.off+i*3) c:=by
  intro i hi
  have z:W.cell? (a.add 0)≠none:=by
   obtain⟨g,A,_⟩:=w 0 (by omega);have⟨_,d,b⟩:=Lh A;have:=b 0 (by omega);rw[add_add] at this;simp at this
   match g,d with
   |[V,X,Y],_=>simp at this |-;rw[this];simp
  have⟨v,hv⟩:=Lp.1 z;have⟨q,B⟩:=iX hv;obtain⟨g,A,g2⟩:=w i (by omega);have⟨_,d,b⟩:=Lh A;have⟨y0,y1,y2,k,_,_,G,I,J⟩:=trod_struct3 Tryz.underlying136 g2
  match g,d with
  |[V,X,Y],_=>
   simp[S] at G I J;have⟨f,K,_,w0⟩:=KV Tryz.underlying3 G;have⟨o,L,_,w1⟩:=KV Tryz.underlying3 I;have⟨u,M,_,w2⟩:=KV Tryz.underlying3 J;simp at K L M;subst K L M;have N:=b 0 (by omega);have O:=b 1 (by omega);have P:=b 2 (by omega);rw[add_add,q,eM] at N O P;exact⟨(f,o,u),q,B,by simpa using N,by simpa [KX] using O,by simpa [KX] using P,w0,w1,w2⟩
 obtain⟨r,C,E⟩:=iU _ e p;refine⟨r,some a,s,by rw[C],by omega,Q,λi c y=>?_⟩;have⟨q,B,F⟩:=E i c y;exact⟨a.block,a.off,by rw[<-q],B,F⟩
theorem CI{d:Nat}{rv:Value}{x:DataW H × List MemPlace}(h:DataW.trod enc prog W base sp held d 28 [rv]=some x):∃j,bD W.1.size W rv j:=by
 rcases open_slice_pairs Tryz.underlying28 Tryz.underlying133 (by kernel_rfl) rfl rfl (by kernel_rfl) (by kernel_rfl) h with ⟨e,_⟩|⟨a,b,k,m,n,A,K,_,_,_,_,e,_,L,B,l,_,w⟩
 ·simp at e;subst e;exact⟨[],none,0,rfl,Ke _,Ks _,λi c C=>by simp at C⟩
 simp at e;subst e;have D:b<=m:=by rw[l];split<;>omega
 have f:∀i,i<b->∃r:aq,a=⟨a.block,a.off,none⟩/\a.block<W.1.size/\gO W.1.size W a.block (a.off+i*2) r:=by intro i M;obtain⟨g,o⟩:=iX (w 0 (by omega)).1;obtain⟨y,p,E,F⟩:=w i (by omega);have⟨G,q⟩:=CD E;have⟨v,z,_,I⟩:=KV Tryz.underlying3 F;simp at z;rw[z] at p;rw[g,eM] at y p;exact⟨(G,v),g,o,A i,y,by simpa [KX] using p,I,q⟩
 obtain⟨j,s,t⟩:=iU _ b f;refine⟨j,some a,k,by rw[s],by omega,B,λi r J=>?_⟩;have⟨g,o,u⟩:=t i r J;exact⟨a.block,a.off,by rw[<-g],o,u⟩
end
theorem If{W:World}(h:W.ShapedOpen prog):tO W:=Tryz.laysM145.s1_3 W h
end
theorem tQ(B pv p w)(hp:aX B w pv p)(O:B<=w.1.size):
  cL 180 #[pv] w λe j=>∃lv,e=.returned (.tuple #[lv,U (cB p)])/\j.ownsRow w.1.size 113 4 lv (dW p).length (aJ (dW p))/\(∀i∈dW p,gH i)/\bL w j:=by
 obtain⟨bv,ac,ad,ae,af⟩:=rV;have HP:=Z λj (h:bL w j)=>hp.l h O
 have F:=Z λj (h:bL w j)=>gZ B pv p j (hp.l h O) (h.u O)
 obtain⟨c,d⟩:=p;obtain⟨rv,Q,hd,a,bF,R,ak,c0,G⟩:=hp;clear G;simp only at Q R ak hd;subst R;subst Q;have c1:=ai;have v:∀X,bL w (w.alloc X):=λX=>bR.alloc lE _
 by_cases u:aj (c,d)=0
 case neg=>
  have S:Hid (cB (c,d)=aj (c,d)/\dW (c,d)=[]):=by
   have e:cB (c,d)=aj (c,d):=by rw[cB,iO u]
   refine⟨e,?_⟩;rw[dW,iO (by rw[e];exact u)]
  have hq:(aj (c,d) != 0)=true:=by simpa using u
  clear u;generalize aj (c,d)=pe at*;go_enter func180,ntmps180;go_wp2_with (first|(go_at_call 144;go_must (refine(F.o _ (v _)).mono ?_;rintro e w1 ⟨rfl,l⟩)));go_ret2;rw[S.o.1,S.o.2];exact⟨_,rfl,⟨rfl,.inl ⟨rfl,rfl⟩⟩,(λi h=>by cases h),Below.tO (v _) l (by simp)⟩
 have⟨H,ao,I⟩:=cY u;simp only[] at H ao I;have HR:=Z (cM I);have HW:=Z (E6 u);have b0:=Z (uk u);have S:=Z (by rw[cB,Io u]:cB (c,d)=if 1500<(cm (c,d)).length then 2 else 0);have HL:Hid ((dV c).length<=2520):=by have:=qG c HR.o;unfold Hid;omega
 have b1:Hid (∀k,k<=c.length->(dV (c.take k)).length<=2520):=λk hk=>by
  have:=qG (c.take k) λr hr=>HR.o r (KZ hr)
  rw[Kt] at this;omega
 rw[u] at F;clear u I;generalize D:c.length=m at*;have n:=Z D;clear D;go_enter func180,ntmps180;go_wp2_with (first|(go_at_call 144;go_must (refine(F.o _ (v _)).mono ?_;rintro e w1 ⟨rfl,l⟩;have x:=(l.block w.1.size (by simp)).trans (ah w _);have p0:=J0 x;have p1:=J1 x)));have b2:bL w w1:=Below.tO (v _) l (by simp);have b3:=io x;clear p0 p1 l;go_loopw [5,17] (λnv iv wr=>∃k:Nat,k<=m/\iv=U k/\Hid (wr.ownsRow w.1.size 113 4 nv (dV (c.take k)).length (aJ (dV (c.take k))))/\bL w wr/\Hid (fh 113 w1 wr)/\w.1.size<wr.1.size) (λ_ iv _=>m-(intOf iv).toNat)
 case atStart=>exact⟨0,by omega,rfl,⟨rfl,.inl ⟨rfl,rfl⟩⟩,b2,fh.refl _ _,b3⟩
 case round=>
  obtain⟨k,hk,rfl,T,y,V,c6⟩:=hrel;have⟨wo,b6⟩:=nM (wr);subst b6;have i0:(0:Int)<=(k:Int):=by omega
  have q:=V.o _ _ _ _ x (by decide);have z:=y.size;have c7:=b1.o k hk
  by_cases c8:k<m
  ·have i1:(k:Int)<(m:Int):=by omega
   obtain⟨r,J⟩:∃r,c[k]?=some r:=⟨c[k]'(by rw[n.o];omega),by simp⟩;have Y:=(dy (HR.o r (Kb J))).1;obtain⟨_,e0,-,_,_,e1,-,-,a0⟩:=HP.o _ y;have⟨b,o,e,c9,cv,b8,ca,_,a1⟩:=a0 k r J;simp at e0;subst e0;simp at e1;obtain⟨rfl,-,-⟩:=e1;subst e;clear a0;have HT:=Z (tK c k r J);have⟨W2,A⟩:=nM (wo.alloc (.cells #[cv,U r.2] 133));have f:=bA A;have K:=Below.tO y f z;have a3:Hid (cL 207 #[u5,.agg #[cv,U r.2]] W2 λe j=>∃s,e=.returned s/\j.ownsRow w.1.size 113 4 s ((dV (c.take k)).length+(jt r).length) (aJ (dV (c.take k))++aJ (jt r))/\Below w.1.size W2 j/\fh 113 W2 j):=xy B w.1.size u5 cv _ _ r W2 (aw T.o f) (a1.l f (Kl O z)) O K.size (by omega) Y;have b9:=Z K;have ba:=Z (V.o.trans (fh.of_below f));have cc:=f.size;obtain⟨a2,c2,bb,_⟩:=a1;subst bb;have⟨m2,a4⟩:=nM (r.1.length);rw[<-a4] at a3 b8 A;clear a4 q K f;go_wp2_with fail;rw[<-A];clear A;go_at_call 207;refine a3.o.mono ?_;rintro e w3 ⟨s,rfl,a5,L,a6⟩;have bc:Hid (w3.ownsRow w.1.size 113 4 s (dV (c.take (k+1))).length (aJ (dV (c.take (k+1))))):=by unfold Hid;rw[HT.o,dM,Kj];exact a5
   have a7:=b9.o.trans L;have a8:=Z (ba.o.trans a6);have ce:=L.size;clear a5 L a6;go_wp2_with fail;exact⟨⟨k+1,by omega,by go_num,bc,a7,a8,by omega⟩,by simp[intOf];omega⟩
  obtain rfl:k=m:=by omega
  have p1:=J1 q
  have bd:Hid (∀W X,X=W.alloc (.cells #[U 4,U d,U 0,U 0] 113)->bL wo W->∃s E,(Builtin.append_ #[78,78] 78 #[u5,.slice (MZ W) 1 1]).run prog X=.ok s E/\Hid (E.ownsRow w.1.size 113 4 s (cm (c,d)).length (aJ (cm (c,d))))/\bL w E):=by
   intro W X hX hW;have M:bL wo X:=by rw[hX];exact hW.alloc hW.size _
   have hg:=hA hX;obtain⟨s,E,r1,r2,r3,r4⟩:=uM (P:=prog) Tryz.underlying78 ac ad ae af rfl (by decide) w.1.size 78 u5 _ 1 W.1.size _ (aJ [(4,d,0,0)]) X (aw T.o M) hg rfl (iA _) (by omega) (by omega) (M.u z) 1;refine⟨s,E,r1,?_,(Below.tO y M z).trans r3⟩;unfold Hid;have e:c.take k=c:=Ki (by rw[n.o];omega);rw[e,<-dM] at r2;unfold cm;rw[Kj];exact r2
  clear q;go_wp2_with (first|(go_at_call 208;go_must (refine(BQ _ _).mono ?_;rintro e w2 ⟨rfl,f⟩))|(at_builtin;go_must (obtain⟨s,E,hrun,q1,q2⟩:=bd.o _ _ rfl f;refine Kw _ rfl _ _ _ _ rfl _ _ rfl rfl _ _ hrun ?_)));go_at_call 74;have g:=qF E.1.size s (cm (c,d)) E (jA q1.o HW.o) lE;rw[b0.o] at g
  by_cases N:1500<(cm (c,d)).length
  ·rw[Io N] at g
   have t:Hid (cB (c,d)=2/\dW (c,d)=[]):=by
    have e:cB (c,d)=2:=by rw[S.o,Io N]
    exact⟨e,by rw[dW,iO (by rw[e];decide)]⟩
   refine g.mono ?_;rintro e w5 ⟨rfl,C⟩;clear g N;go_wp2_with fail;go_ret2;rw[t.o.1,t.o.2];exact⟨_,rfl,⟨rfl,.inl ⟨rfl,rfl⟩⟩,(λi h=>by cases h),q2.th C⟩
  rw[iO N] at g
  have t:Hid (cB (c,d)=0/\dW (c,d)=cm (c,d)):=by
   have e:cB (c,d)=0:=by rw[S.o,iO N]
   exact⟨e,by rw[dW,Io e]⟩
  refine g.mono ?_;rintro e w5 ⟨rfl,C⟩;clear g N;go_wp2_with fail;go_ret2;rw[t.o.1,t.o.2];exact⟨_,rfl,aw q1.o C,HW.o,q2.th C⟩
theorem JC(d:Nat)(a b c e a2 b2 c2 e2)(w:World):(Op.equalIn (d+3) 113 (.agg #[U a,U b,U c,U e]) (.agg #[U a2,U b2,U c2,U e2])).run prog w=.ok (decide (((a,b,c,e):cO)=(a2,b2,c2,e2))) w:=by
 have l:=underlying3;have m:=Tryz.isAgg3;have n:=Tryz.sizeOf3;have f:prog.underlying 113=some (.struct (prog.fieldsOf 113)):=by kernel_rfl
 have g:prog.stoodInHeld 113=false:=by kernel_rfl
 rw[run_equalIn_agg w (d+2) 113 _ _ f g];simp only[Program.fieldsOf,Tryz.underlying113];go_simp
 by_cases h:a=a2<;>by_cases i:b=b2<;>by_cases j:c=c2<;>by_cases k:e=e2<;>simp[h,i,j,k]
theorem IW(a b c e a2 b2 c2 e2)(w:World):(binOp .neq 113 (.agg #[U a,U b,U c,U e]) (.agg #[U a2,U b2,U c2,U e2])).run prog w=.ok (.bool (!decide (((a,b,c,e):cO)=(a2,b2,c2,e2)))) w:=by rw[run_neq_struct,show (10000:Nat)=9997+3 from rfl,JC];rfl
theorem Hs(a:BinOp)(x y:Operand)(xs ys:Array Value)(w:World):(eqGuard a 113 x y (.agg xs) (.agg ys)).run prog w=.ok () w:=run_eqGuard_agg _ _ _ _ _ _ _ (by kernel_rfl)
theorem pE{c:Array Oper}{C:World->Prop}{Q:Act->Prop}{a:Act}{o:Oper}{b:List Oper}(x y:Operand)(t:TypeId)(iY:o.op=.binOp .neq 113 x y t)(d:Region.wanted o (yielded c a.tmps)=true)
  (f op v u f2 op2 v2 u2) (g:a.eval x=.agg #[U f,U op,U v,U u]) (i:a.eval y=.agg #[U f2,U op2,U v2,U u2])
  (q:Bool) (j:(!decide (((f,op,v,u):cO)=(f2,op2,v2,u2)))=q) (h:wpQuiet prog c C Q b (a.put o.dst (.bool q))):wpQuiet prog c C Q (o :: b) a:=by
 subst j
 refine BigFrame.wpQuiet_want d λK k=>⟨_,λw _=>?_,k _ h⟩
 unfold Oper.quietAt execOp;rw[iY];simp only[g,i];have e:((do eqGuard .neq 113 x y (.agg #[U f,U op,U v,U u]) (.agg #[U f2,U op2,U v2,U u2]);binOp .neq 113 (.agg #[U f,U op,U v,U u]) (.agg #[U f2,U op2,U v2,U u2])):Sem Value).run prog w=.ok (.bool (!decide (((f,op,v,u):cO)=(f2,op2,v2,u2)))) w:=by simp only[Lj,Hs,IW,Result.andThen]
 simp only[Lj,e,Result.andThen];exact⟨rfl,rfl⟩
def gx(B:Nat)(w:World)(v:Value)(cs:List Int):Prop:=
 ∃a d,v=.slice a cs.length d/\cs.length<=d/\d<=maxLen/\∀ (i:Nat) c,cs[i]?=some c->∃b o,a=some ⟨b,o,none⟩/\b<B/\w.cell? ⟨b,o+i,none⟩=some (U c)
theorem gx.l{B B' w w' v cs}(h:gx B w v cs)(f:Below B' w w')(r:B<=B'):gx B w' v cs:=by obtain⟨a,d,g,j,l,m⟩:=h;refine⟨a,d,g,j,l,λi c n=>?_⟩;have⟨b,o,e,q,k⟩:=m i c n;exact⟨b,o,e,q,(f.cell (p:=⟨b,o+i,none⟩) (by show b<B';omega)).trans k⟩
theorem Dq{L:Nat}{w:World}{v:Value}{l:List Int}(h:w.ownsRow L 3 1 v l.length (l.map (.int .i64))):gx w.1.size w v l:=by obtain⟨a,b,rfl,f,j,k⟩:=an h;refine⟨a,b,rfl,f,j,λi c e=>?_⟩;have n:i<l.length:=(K9.1 e).1;obtain⟨g,rfl,m,d⟩:=k (by omega);refine⟨g,0,rfl,d,?_⟩;rw[Kp];exact aK h i _ (by simp[e])
abbrev kh:=Int × Int × Int × Int × Int
def Ep(x:kh):Nat->Int:=oz x.1 x.2.1 x.2.2.1 x.2.2.2.1 x.2.2.2.2
def qY(w:World)(b o:Nat)(x:kh):Prop:=w.cell? ⟨b,o,none⟩=some (U x.1)/\w.cell? ⟨b,o+1,none⟩=some (U x.2.1)/\w.cell? ⟨b,o+2,none⟩=some (U x.2.2.1)/\w.cell? ⟨b,o+3,none⟩=some (U x.2.2.2.1)/\w.cell? ⟨b,o+4,none⟩=some (U x.2.2.2.2)
def ia(B:Nat)(w:World)(v:Value)(cs:List kh):Prop:=
 ∃a d,v=.slice a cs.length d/\cs.length<=d/\d<=maxLen/\∀ (i:Nat) c,cs[i]?=some c->∃b o,a=some ⟨b,o,none⟩/\b<B/\qY w b (o+i*5) c
theorem qY.l{B w w' b o c}(h:qY w b o c)(a:Below B w w')(d:b<B):qY w' b o c:=by unfold qY;rw[a.cell (p:=⟨b,o,none⟩) d,a.cell (p:=⟨b,o+1,none⟩) d,a.cell (p:=⟨b,o+2,none⟩) d,a.cell (p:=⟨b,o+3,none⟩) d,a.cell (p:=⟨b,o+4,none⟩) d];exact h
theorem ia.l{B B' w w' v cs}(h:ia B w v cs)(f:Below B' w w')(q:B<=B'):ia B w' v cs:=by obtain⟨a,d,g,j,l,m⟩:=h;refine⟨a,d,g,j,l,λi c n=>?_⟩;have⟨b,o,e,p,k⟩:=m i c n;exact⟨b,o,e,p,k.l f (by omega)⟩
def qM(x:List Int):kh:=(x.getD 0 0,x.getD 1 0,x.getD 2 0,x.getD 3 0,x.getD 4 0)
theorem yG:∀ (l:List (List Int)),(∀x∈l,∃a b c d e,x=[a,b,c,d,e])->∀ (i:Nat) (c:kh),(l.map qM)[i]?=some c->
  (cj l)[i*5]?=some (U c.1)/\(cj l)[i*5+1]?=some (U c.2.1)/\(cj l)[i*5+2]?=some (U c.2.2.1)/\(cj l)[i*5+3]?=some (U c.2.2.2.1)/\(cj l)[i*5+4]?=some (U c.2.2.2.2)
 |[],_,i,c,h=>by simp at h
 |x :: l,f,0,c,h=>by obtain⟨g,j,k,m,n,rfl⟩:=f x (by simp);simp at h;subst h;simp[cj,qM]
 |x :: l,f,i+1,c,h=>by obtain⟨g,j,k,m,n,rfl⟩:=f x (by simp);have o:=yG l (λy p=>f y (by simp[p])) i c (by simpa using h);have q:cj ([g,j,k,m,n] :: l)=U g :: U j :: U k :: U m :: U n :: cj l:=rfl;rw[q,show (i+1)*5=i*5+5 by omega];exact o
theorem uB{L:Nat}{w:World}{v:Value}{l:List (List Int)}(m:∀x∈l,∃a b c d e,x=[a,b,c,d,e])(h:w.ownsRow L 34 5 v l.length (cj l)):ia w.1.size w v (l.map qM):=by
 obtain⟨a,f,rfl,n,o,p⟩:=an h;refine⟨a,f,by rw[Lw],by rw[Lw];exact n,o,λi c k=>?_⟩;have z:i<l.length:=by have:=(K9.1 k).1;simpa using this
 obtain⟨g,rfl,q,j⟩:=p (by omega);have⟨r,s,t,u,y⟩:=yG l m i c k;refine⟨g,0,rfl,j,?_,?_,?_,?_,?_⟩
 all_goals rw[Kp]
 ·exact aK h _ _ r
 ·exact aK h _ _ s
 ·exact aK h _ _ t
 ·exact aK h _ _ u
 exact aK h _ _ y
theorem vE(exc)(p q:aD):jV exc (p.1++[([],p.2)]) (q.1++[([],q.2)])=gh exc p q++[([],mG exc p.2 q.2)]:=by unfold jV gh;simp[dX,Mg]
theorem CP(exc p q):(gh exc p q).length+1=(p.1.length+1)*(q.1.length+1):=by
 have h:=tp exc (q.1++[([],q.2)]) (p.1++[([],p.2)]);rw[vE] at h
 simpa using h
theorem ow(B rv rs d w)(h:bD B w rv rs)(E:wf d)(F:B<=w.1.size)(G:rs.length<=120):
  cL 255 #[.agg #[rv,U d]] w λe k=>∃v,e=.returned v/\∃n,k.ownsRow w.1.size 133 2 v (rs++[(([]:List aN),d)]).length n/\lB B k n (rs++[([],d)])/\bL w k:=by
 have p:=Z λk (H:bL w k)=>(h.l H F).conds
 obtain⟨q,s,I,-,-,-⟩:=h;subst I;have⟨t,g⟩:=nM (rs.length)
 rw[<-g] at G p |-
 have J:=Z g.symm;clear g;have⟨j,a⟩:=nM (((w.alloc (.cells #[.slice q t s,U d] 30)).alloc (.cells #[nL,U d] 133)).alloc (.cells #[.slice q t s,.slice (sO (w.1.size+1)) 1 1] 28));have b:bL w j:=by rw[a];exact((bR.alloc lE _).alloc (by simp) _).alloc (by simp;omega) _
 have u:Na j (w.1.size+1) #[nL,U d] 133:=by rw[a];exact aS _ (be _ _ (by simp only[Kg]))
 have o:Na j (w.1.size+1+1) #[.slice q t s,.slice (sO (w.1.size+1)) 1 1] 28:=by rw[a];exact be _ _ (by simp only[Kg])
 have f:ju B j (.slice (sO (w.1.size+1)) 1 1) [([],d)]:=by
  refine⟨_,1,rfl,Ke _,by rw[ai];omega,λi r x=>?_⟩
  have K:i=0:=by
   have:=(K9.1 x).1
   simpa using this
  subst K;simp at x;subst x;exact⟨_,_,rfl,nL,J0 u,J1 u,E,none,0,rfl,Ke _,by rw[ai];omega,λi c h=>by simp at h⟩
 have A:=Bz B _ _ rs [([],d)] (w.1.size+1+1) j (p.o j b) f (by have:=b.size;omega) (io o) (J0 o) (J1 o) (by rw[J.o];simp;omega);have y:Hid _:=A;have L:=Z a;have l:=Z b;clear A a b u o f p;go_enter func255,ntmps255;go_wp2_with fail;rw[<-L.o];go_at_call 275;refine Calls.mono y.o ?_;rintro e O ⟨v,rfl,n,C,D,m⟩;have M:=Z C;have N:=Z D;have z:=Z m;clear C D m;go_wp2_with fail;go_ret;exact⟨_,rfl,n,cU M.o l.o.size,N.o,l.o.th z.o⟩
theorem sf{B w a n c rs}(h:bD B w (.slice a n c) rs)(m:Nat)(d:m<=rs.length):bD B w (.slice a m c) (rs.take m):=by
 obtain⟨j,k,e,l,f,g⟩:=h;simp at e;obtain⟨rfl,rfl,rfl⟩:=e;refine⟨a,c,by rw[Kt,MJ d],by rw[Kt];omega,f,λi r b=>?_⟩;rw[LO] at b
 split at b
 ·exact g i r b
 cases b
theorem wL{L:Nat}{w:World}{a}{N m c:Nat}{xs:List Value}{b:List aq}{d}(o:w.ownsRow L 133 2 (.slice a N c) b.length xs)(p:uN L w xs b)(q:m<=b.length)(s:wf d):bE L w (.agg #[.slice a m c,U d]) (b.take m,d):=by
 intro l n E;have e:l.ownsRow L 133 2 (.slice a N c) b.length xs:=bT o λg f h j=>n g h (io j)
 have k:uN L l xs b:=by obtain⟨t,u,v⟩:=p;refine⟨t,u,λi r x=>?_⟩;have⟨y,z,A,B,C,D⟩:=v i r x;exact⟨y,z,A,B,C,bT D λg f h j=>n g h (io j)⟩
 exact⟨_,rfl,s,sf (uN.rules e k) m q⟩
theorem kA(L w):bE L w (.agg #[nL,U 0]) ([],0):=λa _ _=>bV _ _
theorem pw(d)(r:aq):∀l:List aq,cF d (l++[r])=if r.2=d then cF d l else l++[r]
 |[]=>by
  show (if cF d []=[]/\r.2=d then [] else r :: cF d [])=_
  by_cases h:r.2=d<;>simp[h,cF]
 |s :: l=>by
  have a:=pw d r l;show (if cF d (l++[r])=[]/\s.2=d then [] else s :: cF d (l++[r]))=_;rw[a]
  by_cases h:r.2=d
  ·rw[Io h,Io h];rfl
  rw[iO h,iO h,iO (by simp)];rfl
theorem vR(B a n c rs d w)(h:bD B w (.slice a n c) rs)(P:n<=1000):
  cL 238 #[.slice a n c,U d] w λe E=>e=.returned (.slice a (cF d rs).length c)/\E=w:=by
 obtain⟨Q,R,A,p,q,i⟩:=h;simp at A;obtain⟨rfl,s,rfl⟩:=A;have t:=Z s.symm;rw[ai] at q;rw[<-s] at p;have u:Hid (∀k r,rs[k]?=some r->∃b o,a=some ⟨b,o,none⟩/\w.cell? ⟨b,o+k*2+1,none⟩=some (U r.2)):=λk r F=>by have⟨b,o,e,_,S,_,G,_⟩:=i k r F;exact⟨b,o,e,G⟩
 clear i s;go_enter func238,ntmps238;go_wp2_with fail;go_loop [5] (λv=>∃k:Nat,k<=n/\v=U k/\Hid (cF d (rs.take k)=cF d rs)) (λv=>(intOf v).toNat)
 case atStart=>exact⟨n,Ke _,rfl,by unfold Hid;rw[<-t.o,L6]⟩
 case round=>
  obtain⟨k,T,rfl,l⟩:=hrel;have H:(k:Int)<=(c:Int):=by omega
  have V:(0:Int)<=(k:Int):=by omega
  by_cases C:k=0
  ·subst C;have x:=Z (by rw[<-l.o];rfl:(cF d rs).length=0);clear l;go_wp2_with fail;go_ret;exact⟨by rw[x.o];rfl,rfl⟩
  obtain⟨j,y⟩:∃j,k=j+1:=⟨k-1,by omega⟩;obtain⟨r,f⟩:∃r,rs[j]?=some r:=⟨rs[j]'(by rw[t.o];omega),by simp⟩;have g:=Z (by rw[y,KN,f];rfl:rs.take k=rs.take j++[r]);have⟨b,o,e,W⟩:=u.o j r f;subst e;have D:(0:Int)<(k:Int):=by omega
  have I:(k:Int)-1=(j:Int):=by omega
  have J:(j:Int)<(n:Int):=by omega
  have K:(0:Int)<=(j:Int):=by omega
  have L:j<n:=by omega
  have M:=Z y;clear f C y
  by_cases m:r.2=d
  ·have z:Hid (cF d (rs.take j)=cF d rs):=by unfold Hid;rw[<-l.o,g.o,pw,Io m]
   have N:(r.2==d)=true:=by simpa using m
   generalize r.2=O at*;go_wp2_with fail;exact⟨⟨j,by omega,rfl,z⟩,by have:=M.o;simp[intOf];omega⟩
  have x:Hid ((cF d rs).length=k):=by unfold Hid;rw[<-l.o,g.o,pw,iO m,<-g.o,Kt,t.o];omega
  have N:(r.2==d)=false:=by simpa using m
  generalize r.2=O at*;go_wp2_with fail;go_ret;exact⟨by rw[x.o];rfl,rfl⟩
def pU(p:aD)(l:List kh)(i:Int):Nat:=(l.filter λx=>kP p (Ep x)==i).length
theorem EE(p)(l:List kh)(x:kh)(i:Int):pU p (l++[x]) i=pU p l i+if kP p (Ep x)=i then 1 else 0:=by
 unfold pU;rw[List.filter_append,Kj]
 by_cases h:kP p (Ep x)=i<;>simp[h]
theorem Iw(p l)(i:Int):pU p l i<=l.length:=List.length_filter_le _ _
theorem Hv(p l i):0<pU p l i ↔ (l.any λx=>kP p (Ep x)==i)=true:=by unfold pU;rw[List.length_pos_iff_exists_mem];simp
theorem xR(B pv lv p cs w)(hp:aX B w pv p)(hl:ia B w lv cs)(hB:B<=w.1.size)(hn:cs.length<=1000)(hk:∀x∈cs,wf (kP p (Ep x))):
  cL 237 #[pv,lv] w λe f=>∃b,e=.returned (.map (some b))/\∃D,f.ownsMap (H:=Unit) prog 3 (plainElem prog 3) b 1000 D/\(∀i,wf i->D.atKey (.int .i64 i) (.lit (.int .i64 0))=.lit (.int .i64 (pU p cs i)))/\bL w f:=by
 have HJ:=Z λx f (h:bL w f)=>yD B pv p x f (hp.l h hB) (h.u hB)
 have HL:=Z λf (h:bL w f)=>hl.l h hB
 have HK:Hid _:=hk;obtain⟨E,d⟩:=p;obtain⟨rv,I,-,a,c,e2,-⟩:=hp;obtain⟨a1,c1,e3,a4,a5,-⟩:=hl;simp only at I e2;subst e2 I e3;clear hk;have a6:=ai;rw[a6] at a5;have⟨N,hN⟩:=nM (cs.length);have HN:=Z hN.symm
 rw[<-hN] at hn a4 HL |-
 clear hN;generalize E.length=n0 at*;have a8:=@run_makeMap prog;have⟨F,g⟩:=nM (w.alloc (.cells #[.slice a n0 c,U d] 30));have a9:=sA g;have aa:=bA g;have g1:=hA g;have n:=Le (H:=Unit) F prog 3 (plainElem prog 3);rw[a9] at n;have⟨W2,o⟩:=nM (F.alloc (.map #[] 0));rw[<-o] at n;have J:Below (w.1.size+1) F W2:=by rw[o];exact bR.alloc (by omega) _
 have ac:=Z n;have ad:=Z λv (h:Below (w.1.size+1) F v)=>Q2 (h.bk g1) (aa.trans (h.mono (by omega)))
 have ae:=Z g;have af:=Z o;have ak:=Z J;clear g o g1 n J;go_enter func237,ntmps237;go_wp2_with fail;rw[<-ae.o];rw[<-af.o];clear a8;go_loopw [14] (λiv wr=>∃ (k:Nat) (D:DataW Unit),k<=N/\iv=U k/\Hid (wr.ownsMap (H:=Unit) prog 3 (plainElem prog 3) (w.1.size+1) k D)/\Hid (∀i,wf i->D.atKey (.int .i64 i) (.lit (.int .i64 0))=.lit (.int .i64 (pU (E,d) (cs.take k) i)))/\Hid (Below (w.1.size+1) F wr)) (λiv _=>N-(intOf iv).toNat)
 case atStart=>exact⟨0,.map [],by omega,rfl,ac,λi _=>rfl,ak⟩
 case round=>
  obtain⟨k,D,hk,rfl,G,W,r⟩:=hrel;have⟨wo,av⟩:=nM (wr);subst av;have k0:(0:Int)<=(k:Int):=by omega
  obtain⟨K,s⟩:=ad.o _ r.o;have bF:=G.o.lt
  by_cases ce:k<N
  ·have k1:(k:Int)<(N:Int):=by omega
   obtain⟨x,t⟩:∃x,cs[k]?=some x:=⟨cs[k]'(by rw[HN.o];omega),by simp⟩;have b0:=Z (by rw[KN,t];rfl:cs.take (k+1)=cs.take k++[x]);have u:=HK.o x (Kb t);have L:Hid (∀i,pU (E,d) (cs.take k) i<=k):=λi=>Kl (Iw _ _ _) (by rw[Kt];omega)
   obtain⟨_,_,I,-,-,j⟩:=HL.o _ s;have⟨b3,o3,e,c0,q0,q1,q2,q3,q4⟩:=j k x t;simp at I;obtain⟨rfl,-,-⟩:=I;subst e;clear j t;obtain⟨x0,x1,x2,x3,x4⟩:=x;simp only[] at q0 q1 q2 q3 q4;have⟨z,y⟩:=nM (kP (E,d) (Ep (x0,x1,x2,x3,x4)));have b7:=Z y.symm;have b8:Hid (∀f,bL w f->cL 254 #[.agg #[.slice a n0 c,U d],.agg #[U x0,U x1,U x2,U x3,U x4]] f λe M=>∃v1 v3,e=.returned (.tuple #[U v1,U z,U v3])/\bL f M):=λf h=>by refine(HJ.o (oz x0 x1 x2 x3 x4) f h).mono ?_;rintro e M ⟨rfl,hb⟩;exact⟨_,_,by rw[y];rfl,hb⟩
   rw[<-y] at u;clear y;have⟨m,Y⟩:=nM (pU (E,d) (cs.take k) z);have b9:=Z (by rw[Y];exact W.o z u:D.atKey (.int .i64 z) (.lit (.int .i64 0))=.lit (.int .i64 (m:Int)));have ck:m<=1000:=by have:=L.o z;omega
   have ba:(Lit.int .i64 ((m:Int)+1)).wf=true:=L4 (by omega);have O:=World.ownsMap.isMap G.o
   have P:Hid (∀i,wf i->(D.put (.int .i64 z) (.lit (.int .i64 ((m:Int)+1)))).atKey (.int .i64 i) (.lit (.int .i64 0))=.lit (.int .i64 (pU (E,d) (cs.take (k+1)) i))):=by
    intro i hi;rw[b0.o,EE,b7.o]
    by_cases h:z=i
    ·subst h;rw[L7 O (by simp[WideAt.IsKeyLit]),Io rfl,<-Y];rfl
    rw[KT (by simpa using λe:i=z=>h e.symm),iO h,W.o i hi];rfl
   have cn:Hid _:=Y;clear Y O L;have y0:=J0 K;have y1:=J1 K;have cv:=io K;have A:∀X,bL wo (wo.alloc X):=λX=>bR.alloc lE _
   have Q:k<maxLen:=by omega
   clear K;go_wp2_with fail;go_at_call 254;refine(b8.o _ (s.th (A _))).mono ?_;rintro e w5 ⟨v1,v3,rfl,R⟩;have l:bL wo w5:=Below.tO (A _) R (by simp);have C:Hid (w5.ownsMap (H:=Unit) prog 3 (plainElem prog 3) (w.1.size+1) k D):=G.o.kept (iq l none) (by simp);have bb:Hid (Below (w.1.size+1) F w5):=Below.tO r.o l (by omega);clear q0 q1 q2 q3 q4 y0 y1 R l A G r
   go_wp2_with (first
    |(at_lookup;go_must (refine wpList_lookup_own_int _ rfl _ _ 111 rfl 3 3 .i64 iK Tryz.underlying111 underlying3 (jj _) (w.1.size+1) k D rfl C.o _ _ rfl (KF underlying3 u) ?_;intro cc j bc;have S:=j.symm.trans b9.o;simp only[Mp,Lit.int.injEq,true_and] at S;subst S;clear j bc))
    |(at_mapUpdate;go_must (refine Ln _ rfl _ _ _ 111 rfl 3 3 iK Tryz.underlying111 (plainElem prog 3) (w.1.size+1) k D rfl C.o Q _ _ _ rfl rfl (KF underlying3 u) _ [] (KH underlying3 ba) ?_;intro w7 T V;have bd:Hid _:=T;have bf:Hid _:=V;clear T V)))
   have bg:Below (w.1.size+1) w5 w7:=bR.grown bf.o (by have:=C.o.lt;omega) (λq hq=>by cases hq;exact Ke _);exact⟨⟨k+1,_,by omega,by go_num,bd,P,bb.o.trans bg⟩,by simp[intOf];omega⟩
  have e:k=N:=by omega
  subst e;have HE:=Z (by rw[<-HN.o,L6]:cs.take k=cs);rw[HE.o] at W;have k1:¬((k:Int)<(k:Int)):=by omega
  have bk:=Z s;have bm:=Z (G.o.mono hn);clear K s r G;go_wp2_with fail;go_ret;exact⟨_,rfl,D,bm.o,W.o,bk.o⟩
theorem yE(B pv p)(x:Nat->Int)(w)(j:aX B w pv p)(k:B<=w.1.size):
  cL 234 #[pv,jm x] w (rT w (U (vP p x))):=by
 have c:Hid (∀b,bL w b->cL 254 #[pv,jm x] b (rT b (.tuple #[U (vP p x),U (eH p x).2.1,U (eH p x).2.2]))):=λb h=>yD B pv p x b (j.l h k) (h.u k)
 generalize vP p x=o at*;generalize (eH p x).2.1=q at*;generalize (eH p x).2.2=r at*;obtain⟨l,d⟩:=p;obtain⟨s,rfl,-,a,f,rfl,-,-,-⟩:=j;simp only at c;show cL 234 #[.agg #[.slice a l.length f,U d],.agg #[U (x 0),U (x 1),U (x 2),U (x 3),U (x 4)]] w _;have g:=Z c;clear c;generalize l.length=n at*;have m:∀X Y,bL w ((w.alloc X).alloc Y):=λX Y=>(bR.alloc lE _).alloc (by simp) _
 go_enter func234,ntmps234;go_wp2_with (first|(go_at_call 254;go_must (refine(g.o _ (m _ _)).mono ?_;rintro e t ⟨rfl,i⟩)));go_ret;exact⟨rfl,Below.tO (m _ _) i (by simp;omega)⟩
theorem Ay(B j k:Nat)(a b n cap n2 cap2 d f p q x0 x1 x2 x3 x4 w)(A:aX B w (.agg #[.slice a n cap,U d]) p)(C:aX B w (.agg #[.slice b n2 cap2,U f]) q)(t:B<=w.1.size)
  (D:w.cell? (pA j 0)=some (.slice a n cap)) (E:w.cell? (pA j 1)=some (U d)) (F:w.cell? (pA k 0)=some (.slice b n2 cap2)) (G:w.cell? (pA k 1)=some (U f)) (l:j<w.1.size) (m:k<w.1.size):
  cL 233 #[.agg #[U x0,U x1,U x2,U x3,U x4],.pointer (sO j),.pointer (sO k)] w (rT w (.bool (eB p q [x0,x1,x2,x3,x4]))):=by
 have⟨H,o⟩:=nM (vP p (oz x0 x1 x2 x3 x4));have⟨I,r⟩:=nM (vP q (oz x0 x1 x2 x3 x4));have u:=Z (by rw[o,r];rfl:eB p q [x0,x1,x2,x3,x4]=decide (I<H));have J:Hid (∀g,bL w g->cL 234 #[.agg #[.slice a n cap,U d],.agg #[U x0,U x1,U x2,U x3,U x4]] g (rT g (U H))):=λg h=>by rw[o];exact yE B _ p (oz x0 x1 x2 x3 x4) g (A.l h t) (h.u t)
 have K:Hid (∀g,bL w g->cL 234 #[.agg #[.slice b n2 cap2,U f],.agg #[U x0,U x1,U x2,U x3,U x4]] g (rT g (U I))):=λg h=>by rw[r];exact yE B _ q (oz x0 x1 x2 x3 x4) g (C.l h t) (h.u t)
 clear o r A C;have⟨e,i⟩:=nM (w.alloc (.cells #[U x0,U x1,U x2,U x3,U x4] 34));have c:=bA i;have v:=sA i;have s:Na e w.1.size #[U x0,U x1,U x2,U x3,U x4] 34:=by rw[i];exact(Kr w _).1
 have L:Hid _:=i;clear i;have M:=ax.ne e;have O:∀y:ax e,y.1.cell? (pW w 0)=some (U x0):=λy=>y.cell (J0 s) (by omega)
 have P:∀y:ax e,y.1.cell? (pW w 1)=some (U x1):=λy=>y.cell (J1 s) (by omega)
 have Q:∀y:ax e,y.1.cell? (pW w 2)=some (U x2):=λy=>y.cell (J2 s) (by omega)
 have R:∀y:ax e,y.1.cell? (pW w 3)=some (U x3):=λy=>y.cell (J3 s) (by omega)
 have S:∀y:ax e,y.1.cell? (pW w 4)=some (U x4):=λy=>y.cell (J4 s) (by omega)
 have T:∀y:ax e,y.1.cell? (pA j 0)=some (.slice a n cap):=λy=>y.cell ((c.cell (p:=pA j 0) l).trans D) (by omega)
 have V:∀y:ax e,y.1.cell? (pA j 1)=some (U d):=λy=>y.cell ((c.cell (p:=pA j 1) l).trans E) (by omega)
 have W:∀y:ax e,y.1.cell? (pA k 0)=some (.slice b n2 cap2):=λy=>y.cell ((c.cell (p:=pA k 0) m).trans F) (by omega)
 have X:∀y:ax e,y.1.cell? (pA k 1)=some (U f):=λy=>y.cell ((c.cell (p:=pA k 1) m).trans G) (by omega)
 have x:=Z λ(y:ax e)=>J.o _ (c.th y.2)
 have z:=Z λ(y:ax e)=>K.o _ (c.th y.2)
 clear D E F G s J K t l m v;go_enter func233,ntmps233;go_wp2_with fail;rw[<-L.o];refine aW (by kernel_rfl) (by kernel_rfl) ?_;go_big_quiet_step (fail);go_big_quiet_step (fail);go_big_quiet_step (first|(go_at_call 234;exact Calls.l (x.o _)));go_big_quiet_step (fail);go_big_quiet_step (fail);go_big_quiet_step (first|(go_at_call 234;exact Calls.l (z.o _)));go_big_quiet_step (fail);go_big_quiet_step (fail);refine Km ?_;rintro Y ⟨⟨_,N⟩,rfl⟩;go_wp2;go_ret;exact⟨by rw[u.o];simp,c.th N⟩
