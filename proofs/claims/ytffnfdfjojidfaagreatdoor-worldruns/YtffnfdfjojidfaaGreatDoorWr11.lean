import Derived.Test.YtffnfdfjojidfaaGreatDoorWr08
set_option linter.all false
set_option maxRecDepth 100000
set_option maxHeartbeats 16000000
namespace Go.Proofs.YtffnfdfjojidfaaGreatDoor
open Go.RowKit Go.Maps Go.Proofs.Tryz
theorem Cu{a b:Bs}(c:(32:UInt8) ∉ a)(d:(32:UInt8) ∉ b):ar (a++32 :: b)=[a,b]:=by unfold ar;rw[mD a b c];simp only[ru b d]
theorem s7{a b c:Bs}(d:(32:UInt8) ∉ a)(e:(32:UInt8) ∉ b):ar (a++32 :: (b++32 :: c))=[a,b,c]:=by unfold ar;rw[mD a _ d];simp only[mD b c e]
theorem lN{s:Bs}:(∃a,ar s=[a]/\s=a)\/(∃a b,ar s=[a,b]/\s=a++32 :: b)\/∃a b c,ar s=[a,b,c]/\s=a++32 :: (b++32 :: c):=by
 unfold ar
 cases h:js s with
 |none=>exact .inl ⟨s,rfl,rfl⟩
 |some x=>
  obtain⟨a,t⟩:=x;obtain⟨e,-⟩:=nA h
  cases h2:js t with
  |none=>exact .inr (.inl ⟨a,t,by simp only[h2],e⟩)
  |some x=>
   obtain⟨b,u⟩:=x;obtain⟨d,-⟩:=nA h2;exact .inr (.inr ⟨a,b,u,by simp only[h2],by rw[e,d]⟩)
theorem BW{w:Bs}{n:Int}(h:cS w=some n):Lib.itoa n=w:=by
 unfold cS at h
 split at h
 ·split at h
  ·rename_i e
   cases h;exact e
  cases h
 cases h
theorem t7{r x:az}(h:gP r=(x,0)):x=r/\aZ r=0:=by
 unfold gP at h
 split at h
 ·rename_i a
  cases h;exact⟨rfl,a⟩
 rename_i a;simp at h;exact absurd h.2 a
theorem nD{r:az}(h:aZ r=0):gP r=(r,0):=by unfold gP;rw[Io h]
theorem y6{p:aD}(h:aj p=0)(a:(cW p).length<=60000):cG (cW p)=(p,0):=by rw[qA a (GK h),Io h]
theorem xU{r:az}(h:aZ r=0):∃k:Nat,k<4/\r.1=(k:Int)+1/\(ar (aU r)).getD 0 []=kN.getD k []/\(ar (aU r)).getD 1 []=Lib.itoa r.2.1/\
  (k=3->(ar (aU r)).length=2)/\(k<3->(ar (aU r)).length=3/\(ar (aU r)).getD 2 []=if k=2 then Lib.itoa r.2.2.1 else cW r.2.2.2):=by
 obtain⟨m,i,n,-,-⟩:=iB h;obtain⟨k,c,j⟩:∃k:Nat,k<4/\r.1=(k:Int)+1:=⟨(r.1-1).toNat,by omega,by omega⟩;refine⟨k,c,j,?_⟩;have e:=Gh k c;have f:=D9 i.1;have l:(r.1-1).toNat=k:=by omega
 unfold aU;rw[l]
 by_cases g:k=3
 ·have d:¬r.1=3:=by omega
  have a:r.1=4:=by omega
  rw[iO d,Io a,LI,Cu e f];exact⟨rfl,rfl,λ_=>rfl,λh=>by omega⟩
 by_cases d:k=2
 ·have b:r.1=3:=by omega
  rw[Io b,s7 e f];exact⟨rfl,rfl,λh=>absurd h g,λ_=>⟨rfl,by rw[Io d];rfl⟩⟩
 have b:¬r.1=3:=by omega
 have a:¬r.1=4:=by omega
 rw[iO b,iO a,s7 e f];exact⟨rfl,rfl,λh=>absurd h g,λ_=>⟨rfl,by rw[iO d];rfl⟩⟩
theorem wH{r:az}(h:aZ r=0)(J:(aU r).length<=60000):ch (aU r)=(r,0):=by
 have⟨k,o,u,w,x,y,a⟩:=xU h;have⟨z,A,B,p,n⟩:=iB h;have i:=J9 k o;have j:cS (Lib.itoa r.2.1)=some r.2.1:=qz _ (by omega);unfold ch;rw[w,i,x,j]
 have b:¬((k:Int)<0\/((k:Int)=3/\(ar (aU r)).length≠2)\/((k:Int)<3/\(ar (aU r)).length≠3)):=by
  rintro (h|⟨h,q⟩|⟨h,q⟩)
  ·omega
  ·exact q (y (by omega))
  exact q (a (by omega)).1
 rw[iO b];obtain⟨l,C,v,g⟩:=r
 simp only at u z A B p n a |-
 by_cases s:k=2
 ·have c:(k:Int)=2:=by omega
  rw[Io c,(a (by omega)).2,Io s,qz _ (by omega)]
  have d:g=([],0):=by
   rcases n with ⟨h,-⟩|⟨-,h⟩
   ·omega
   exact h
  have D:l=3:=by omega
  subst D d;exact nD h
 have c:¬(k:Int)=2:=by omega
 rw[iO c];have m:v=0:=by omega
 by_cases K:k=3
 ·have f:(k:Int)=3:=by omega
  rw[Io f]
  have d:g=([],0):=by
   rcases n with ⟨h,-⟩|⟨-,h⟩
   ·omega
   exact h
  have E:l=4:=by omega
  subst E d m;exact nD h
 have f:¬(k:Int)=3:=by omega
 have F:aj g=0:=by
  rcases n with ⟨-,h⟩|⟨h,-⟩
  ·exact h
  omega
 have t:(cW g).length<=60000:=by
  have e:=(a (by omega)).2;rw[iO s] at e
  have G:(cW g).length<=(aU (l,C,v,g)).length:=by
   unfold aU;have H:¬l=3:=by omega
   have I:¬l=4:=by omega
   simp only[iO H,iO I];simp;omega
  omega
 rw[iO f,(a (by omega)).2,iO s,y6 F t];simp only[Lr];subst m;rw[<-u];exact nD h
theorem Ha{s:Bs}{r:az}(h:ch s=(r,0))(B:s.length<=60000):aZ r=0/\aU r=s:=by
 unfold ch at h
 split at h
 ·cases h
 rename_i v;have n:0<=bt kN ((ar s).getD 0 []):=by apply L8;intro e;exact v (.inl (by omega))
 have w:=jO kN ((ar s).getD 0 []);have d:=mz kN ((ar s).getD 0 []) n;have D:kN.length=4:=rfl;rw[D] at w;generalize E:bt kN ((ar s).getD 0 [])=k at*;have o:k=3->(ar s).length=2:=λe=>by apply L8;intro x;exact v (.inr (.inl ⟨e,x⟩))
 have i:k<3->(ar s).length=3:=λe=>by apply L8;intro x;exact v (.inr (.inr ⟨e,x⟩))
 cases hn:cS ((ar s).getD 1 []) with
 |none=>rw[hn] at h;cases h
 |some c=>
  rw[hn] at h;have j:=BW hn;simp only at h
  split at h
  ·rename_i C
   cases hn2:cS ((ar s).getD 2 []) with
   |none=>rw[hn2] at h;cases h
   |some f=>
    rw[hn2] at h;obtain⟨rfl,q⟩:=t7 h;refine⟨q,?_⟩;have y:=BW hn2
    rcases lN (s:=s) with ⟨a,e,g⟩|⟨a,b,e,g⟩|⟨a,b,m,e,g⟩
    ·have:=i (by omega);rw[e] at this;simp at this
    ·have:=i (by omega);rw[e] at this;simp at this
    rw[e] at d j y;simp at d j y;rw[g,<-d,<-j,<-y,C];rfl
  rename_i C
  split at h
  ·rename_i u;obtain⟨rfl,q⟩:=t7 h;refine⟨q,?_⟩
   rcases lN (s:=s) with ⟨a,e,g⟩|⟨a,b,e,g⟩|⟨a,b,m,e,g⟩
   ·have:=o u;rw[e] at this;simp at this
   ·rw[e] at d j;simp at d j;rw[g,<-d,<-j,u];show _++32 :: (Lib.itoa c++[])=_;rw[LI];rfl
   have:=o u;rw[e] at this;simp at this
  rename_i u
  split at h
  ·rename_i l;obtain⟨rfl,q⟩:=t7 h;refine⟨q,?_⟩
   rcases lN (s:=s) with ⟨a,e,g⟩|⟨a,b,e,g⟩|⟨a,b,m,e,g⟩
   ·have:=i (by omega);rw[e] at this;simp at this
   ·have:=i (by omega);rw[e] at this;simp at this
   rw[e] at d j l |-
   simp at d j l |-
   have t:m.length<=60000:=by rw[g] at B;simp at B;omega
   have z:cW (cG m).1=m:=by
    cases hpo:gS m with
    |none=>rw[wR t hpo] at l;cases l
    |some p=>
     rw[qA t hpo] at l |-
     split at l
     ·rename_i A;rw[Io A];exact I7 hpo
     rename_i A;exact absurd l A
   unfold aU;have F:¬k+1=3:=by omega
   have G:¬k+1=4:=by omega
   simp only[iO F,iO G,z];rw[g,<-d,<-j,show (k+1-1).toNat=k.toNat by omega];simp
  rename_i l;exact absurd (Prod.mk.inj h).2 l
def AB(W:World)(row:Option Nat):Type:={ w':World // W.grownBy w' row }
theorem AB.ne(W row):Nonempty (AB W row):=⟨⟨W,rfl,rfl,rfl,Ke _,λ_ _ _=>rfl⟩⟩
theorem AB.cell{W row}(x:AB W row){b o:Nat}{a:Array Value}{T}{d:Nat × Nat}{u:Value}(h:W.1[b]?=some (.cells a T d))(c:some b≠row)(e:a[o]?=some u):x.1.cell? ⟨b,o,none⟩=some u:=ab ((x.2.block b (io h) c).trans h) o e
def JX(N n:Nat)(c:Int)(k:Nat)(v:Value):Prop:=if k=6 then ∃g:Nat,v=.slice (sO g) 2 2 else if k=7 then ∃a b,v=.slice a N b else if k=13 then v=U c else if k=14 then ∃a b,v=.agg #[.slice a N b,U c] else if k=15 then ∃g:Nat,v=.slice (sO g) 1 1 else if k=16 then ∃a b,v=.slice a (n+1) b else True
theorem Hp(N n vd k):∃v,JX N n vd k v:=by
 unfold JX
 split
 ·exact⟨_,0,rfl⟩
 split
 ·exact⟨_,none,0,rfl⟩
 split
 ·exact⟨_,rfl⟩
 split
 ·exact⟨_,none,0,rfl⟩
 split
 ·exact⟨_,0,rfl⟩
 split
 ·exact⟨_,none,0,rfl⟩
 exact⟨undef,trivial⟩
theorem Ai{exc a b}(c:wf a)(d:wf b):wf (mG exc a b):=by
 unfold mG
 split
 ·exact c
 split
 ·unfold wf;decide
 exact d
def jI(w:World)(a b:Nat):Prop:=∀v d,w.1[a]?=some (.cells #[v,d] 30 (0,0))->v.ownBlock≠some b
theorem jI.l{w w' bo b}(h:jI w bo b)(c:bL w w')(a:bo<w.1.size):jI w' bo b:=λv d e=>h v d ((c.block bo a).symm.trans e)
theorem Et(L C bf X B:Nat)(E:Bool)(r s:aq)(rc sc:Value)(l:List aq)(w:World)(hS:It L C bf X E l w)(hr:bG B w rc r.1)(ce:wf r.2)(hs:bG B w sc s.1)(cf:wf s.2)(al:B<=L)(hL:L<=w.1.size)(ci:L<=C)(hn:l.length<=20000)(ed:r.1.length<=10)(ee:s.1.length<=10):
  cL 151 #[.agg #[rc,U r.2],.agg #[sc,U s.2],.pointer (sO C),.pointer (sO bf)] w λe i=>e=.returned (.tuple #[])/\It L C bf X E (l++[dX E r s]) i/\Below L w i/\∀ (b:Nat) (j:Array Value) (T:TypeId) (I:Nat × Nat),w.1[b]?=some (.cells j T I)->b≠C->jI w C b->i.1[b]?=some (.cells j T I)/\jI i C b:=by
 have ck:Hid (∀c∈r.1++s.1,wf c.1/\wf c.2.1/\wf c.2.2):=λc Y=>by
  rcases KB.1 Y with Y|Y
  ·exact hr.wfs c Y
  exact hs.wfs c Y
 have ao:Hid (wf (mG E r.2 s.2)):=Ai ce cf
 have cl:Hid (∀i,Below L w i->bG B i rc r.1/\bG B i sc s.1):=λi h=>⟨hr.l h al,hs.l h al⟩
 obtain⟨ra,n,cn,-,-⟩:=hr.full;obtain⟨sa,o,co,-,-⟩:=hs.full;subst cn;subst co;obtain⟨v,xs,hV⟩:=hS;obtain⟨D,f,ev,eg,ej,-⟩:=an hV.2.2.2.1;subst ev;have⟨x,Q⟩:=nM ((w.alloc (.cells #[.slice ra r.1.length n,U r.2] 133)).alloc (.cells #[.slice sa s.1.length o,U s.2] 133));have J:=bB Q;have cp:=sB Q;have ad:x.1[w.1.size]?=some (.cells #[.slice ra r.1.length n,U r.2] 133 (0,0)):=by rw[Q,Kq _ _ _ (by simp)];exact ah _ _
 have ae:x.1[w.1.size+1]?=some (.cells #[.slice sa s.1.length o,U s.2] 133 (0,0)):=by have:=ah (w.alloc (.cells #[.slice ra r.1.length n,U r.2] 133)) (.cells #[.slice sa s.1.length o,U s.2] 133);rw[Kg] at this;rw[Q];exact this
 have a3:∀k,(Value.slice D l.length f).ownBlock=some k->k<w.1.size:=λk O=>by have⟨j,Y⟩:=cX hV.2.2.2.1 k O;exact io Y
 have y:K4 L C bf X E l (.slice D l.length f) xs x:=by obtain⟨h1,h2,h3,h4,h5⟩:=hV;exact⟨(J.block X (io h1)).trans h1,(J.block bf (io h2)).trans h2,(J.block C (io h3)).trans h3,aw h4 J,h5.keep (dB.of_below J)⟩
 have A:∀ {b:Nat} {j:Array Value} {T:TypeId} {I:Nat × Nat},x.1[b]?=some (.cells j T I)->T≠133->some b≠(Value.slice D l.length f).ownBlock:=by
  intro b j T I K hT e;have⟨e2,Y⟩:=cX y.2.2.2.1 b e.symm;rw[K] at Y
  cases Y;exact hT rfl
 have nx:=A y.1 (by decide);have nf:=A y.2.1 (by decide);have no:=A y.2.2.1 (by decide);have n0:some w.1.size≠(Value.slice D l.length f).ownBlock:=λe=>by have:=a3 _ e.symm;omega
 have n1:some (w.1.size+1)≠(Value.slice D l.length f).ownBlock:=λe=>by have:=a3 _ e.symm;omega
 have b2:Hid _:=y;have d0:Hid (∀i,x.grownBy i (Value.slice D l.length f).ownBlock->i.cell? (pA X 0)=some (.bool E)):=λi h=>J0 ((h.block X (io y.1) nx).trans y.1)
 have b3:Hid (∀i,x.grownBy i (Value.slice D l.length f).ownBlock->i.1[C]?=some (.cells #[.slice D l.length f,U 0] 30 (0,0))):=λi h=>(h.block C (io y.2.2.1) no).trans y.2.2.1
 have b4:Hid (∀i,x.grownBy i (Value.slice D l.length f).ownBlock->Below L w i):=λi h=>(J.mono hL).grown h (by omega) λk O=>eh y.2.2.2.1 k O
 have d1:Hid (∀i,x.grownBy i (Value.slice D l.length f).ownBlock->(∀ (b:Nat) (j:Array Value) (T:TypeId),T≠133->x.1[b]?=some (Obj.cells j T (0,0))->i.1[b]?=some (Obj.cells j T (0,0)))/\dB 136 x i):=λi h=>⟨λb j T hT K=>(h.block b (io K) (A K hT)).trans K,λk j I O=>(h.block k (io O) (A O (by decide))).trans O⟩
 have q0:∀z:AB x (Value.slice D l.length f).ownBlock,z.1.cell? (pA C 0)=some (.slice D l.length f):=λz=>z.cell y.2.2.1 no rfl
 have q1:∀z:AB x (Value.slice D l.length f).ownBlock,z.1.cell? (pA w.1.size 0)=some (.slice ra r.1.length n):=λz=>z.cell ad n0 rfl
 have q2:∀z:AB x (Value.slice D l.length f).ownBlock,z.1.cell? (pA w.1.size 1)=some (U r.2):=λz=>z.cell ad n0 rfl
 have q3:∀z:AB x (Value.slice D l.length f).ownBlock,z.1.cell? (pA (w.1.size+1) 0)=some (.slice sa s.1.length o):=λz=>z.cell ae n1 rfl
 have q4:∀z:AB x (Value.slice D l.length f).ownBlock,z.1.cell? (pA (w.1.size+1) 1)=some (U s.2):=λz=>z.cell ae n1 rfl
 have q5:∀z:AB x (Value.slice D l.length f).ownBlock,z.1.cell? (pA bf 0)=some (.func (.func 150) #[] #[.pointer (sO X)]):=λz=>z.cell y.2.1 nf rfl
 have d2:Hid (∀ (M:World) (u:Value),x.grownBy M (Value.slice D l.length f).ownBlock->(u.ownBlock=(Value.slice D l.length f).ownBlock\/∃k,u.ownBlock=some k/\x.1.size<=k)->∀ (b:Nat) (j:Array Value) (T:TypeId) (I:Nat × Nat),w.1[b]?=some (.cells j T I)->b≠C->jI w C b->(M.setCell (pA C 0) u).1[b]?=some (.cells j T I)/\jI (M.setCell (pA C 0) u) C b):=by
  intro M u hg hu b j T I K b5 d3;have b6:some b≠(Value.slice D l.length f).ownBlock:=λe=>d3 _ _ hV.2.2.1 e.symm
  have h1:x.1[b]?=some (.cells j T I):=(J.block b (io K)).trans K;have h4:M.1[b]?=some (.cells j T I):=(hg.block b (io h1) b6).trans h1;refine⟨(Kc _ _ _ _ b5).trans h4,λv d hv=>?_⟩;rw[ap (b3.o M hg)] at hv;simp at hv;rw[<-hv.1]
  rcases hu with e|⟨k,e,O⟩
  ·rw[e];exact λe'=>b6 e'.symm
  rw[e];intro e';have:=KG e';have:=io h1;omega
 have d6:Hid (∀k,(Value.slice D l.length f).ownBlock=some k->k<x.1.size):=λk O=>by have:=a3 k O;omega
 have HW:Hid (x=(w.alloc (.cells #[.slice ra r.1.length n,U r.2] 133)).alloc (.cells #[.slice sa s.1.length o,U s.2] 133)):=Q;have b7:Hid (L<=x.1.size):=by unfold Hid;omega
 have da:Hid (∀g i,(∃T0 I,i.1[g]?=some (.cells #[.slice ra r.1.length n,.slice sa s.1.length o] T0 I))->Below L w i->cL 152 #[.slice (sO g) 2 2] i λe a5=>∃v,e=.returned v/\a5.ownsRow i.1.size 136 3 v (r.1++s.1).length (bO (r.1++s.1))/\bL i a5):=by rintro g i ⟨T0,I,hg⟩ K;have⟨c1,c2⟩:=cl.o i K;exact tT B _ _ r.1 s.1 g i c1 c2 (by have:=K.size;omega) (io hg) (J0 hg) (J1 hg) (by omega)
 clear Q ad ae y hV A nx nf no n0 n1 a3 hr hs J cp;obtain⟨q,r2⟩:=r;obtain⟨t,s2⟩:=s;simp only[] at*;have⟨vd,a6⟩:=nM (mG E r2 s2);have dc:Hid (dX E (q,r2) (t,s2)=(q++t,vd)):=by unfold Hid dX;rw[a6]
 have dd:=Z a6.symm;rw[<-a6] at ao;clear a6;generalize q.length=rl at*;generalize t.length=sl at*;go_enter func151,ntmps151;go_wp2_with fail;rw[<-HW.o];have a8:=AB.ne x (Value.slice D l.length f).ownBlock
 have N:Hid (∀fs i,tH L x (.slice D l.length f) l.length xs (.slice ra rl n) (.slice sa sl o) (q++t).length (bO (q++t)) vd fs i->∃z:AB x (Value.slice D l.length f).ownBlock,i=z.1):=λfs i h=>⟨⟨i,h.grown⟩,rfl⟩
 refine bJ [_,_,_,_,_,_,_,_,_,_,_,_,_,_,_,_,_,_] _ rfl (λk=>k==6||k==7||k==13||k==14||k==15||k==16) (tH L x (.slice D l.length f) l.length xs (.slice ra rl n) (.slice sa sl o) (q++t).length (bO (q++t)) vd) (JX (q++t).length l.length vd) (Hp _ _ _) (by kernel_rfl) (by kernel_rfl) (tH.start b2.o.2.2.2.1) ?_;iterate 6(refine aP N.o rfl rfl ?_;go_big_quiet_step (fail);refine Km ?_)
 refine cz rfl rfl (λgs i G m F=>⟨.slice (sO i.1.size) 2 2,i.alloc (.cells #[.slice ra rl n,.slice sa sl o] 131),?_,⟨_,rfl⟩,G.lists _⟩) (λv6 di=>?_)
 ·clear G m F q0 q1 q2 q3 q4 q5 N a8;go_simp
 go_frame;obtain⟨g6,rfl⟩:∃g:Nat,v6=.slice (sO g) 2 2:=di;refine bw 152 #[.slice (sO g6) 2 2] rfl rfl (λi=>by kernel_rfl) (λgs i G m F=>?_) (λv7 dk=>?_)
 ·obtain⟨g,T0,I,e,es,dl⟩:=G.lits _ (m 6 _ (.inr ⟨rfl,rfl⟩) (au (by kernel_rfl)));simp at e;subst e;refine(da.o g6 i ⟨T0,I,dl⟩ (b4.o i G.grown)).mono ?_;rintro e w2 ⟨u,rfl,ho,K⟩;have⟨a,c,e7,_⟩:=an ho;exact⟨_,rfl,⟨a,c,e7⟩,G.joined F K _ ho⟩
 go_frame;obtain⟨a7,c7,rfl⟩:∃a R,v7=.slice a (q++t).length R:=dk;iterate 5(refine aP N.o rfl rfl ?_;go_big_quiet_step (fail);refine Km ?_)
 refine bw 150 #[U r2,U s2,.pointer (sO X)] rfl rfl (λi=>by kernel_rfl) (λgs i G m F=>?_) (λdn bb=>?_)
 ·refine(zc E r2 s2 X i (d0.o i G.grown)).mono ?_;rintro e w2 ⟨rfl,rfl⟩;exact⟨_,rfl,by rw[dd.o];rfl,G.other _ _ (by decide) (by decide) (by decide) (by decide) (by decide)⟩
 go_frame;obtain rfl:dn=U vd:=bb;refine cz rfl rfl (λgs i G m F=>⟨.agg #[.slice a7 (q++t).length c7,U vd],i,?_,⟨_,_,rfl⟩,G.built _ (m 7 _ (.inl (.inr ⟨rfl,rfl⟩)) (au (by kernel_rfl)))⟩) (λdp bc=>?_)
 ·clear G m F q0 q1 q2 q3 q4 q5 N a8;go_simp
 go_frame;obtain⟨dq,dr,rfl⟩:∃a R,dp=.agg #[.slice a (q++t).length R,U vd]:=bc;refine cz rfl rfl (λgs i G m F=>⟨.slice (sO i.1.size) 1 1,i.alloc (.cells #[.slice dq (q++t).length dr,U vd] 133),?_,⟨_,rfl⟩,G.rule F _ (m 14 _ (.inr ⟨rfl,rfl⟩) (au (by kernel_rfl))) _⟩) (λds bd=>?_)
 ·clear G m F q0 q1 q2 q3 q4 q5 N a8;go_simp
 go_frame;obtain⟨ey,rfl⟩:∃g:Nat,ds=.slice (sO g) 1 1:=bd;refine cz rfl rfl (λgs i G m F=>?_) (λdv bg=>?_)
 ·obtain⟨v',a5,r1,e0,r3⟩:=G.append F d6.o b7.o _ (m 15 _ (.inr ⟨rfl,rfl⟩) (au (by kernel_rfl))) (by omega) 28;refine⟨v',a5,?_,e0,r3⟩;unfold execOp;simp only[resolve,invoke,builtin,Lj,My,LW,M4,Lt,Mz];exact(congrArg (λr=>Result.andThen r λv w=>.ok (Next.value v) w) r1)
 go_frame;obtain⟨S,V,rfl⟩:∃a R,dv=.slice a (l.length+1) R:=bg;refine aP N.o rfl rfl ?_;go_big_quiet_step (fail);refine Km ?_;refine ei ?_;intro M G;have W:=G.grown;obtain⟨u7,bk,a9,P⟩:=G.app _ (.inr ⟨rfl,rfl⟩);have e1:Hid _:=d2.o M _ W P;have bm:=G.join u7 bk;have H:=b3.o M W;have⟨af,bp⟩:=d1.o M W;have bq:=b4.o M W;have y0:=J0 H;have yf:=fZ H 0
 have aa:Hid (It L C bf X E (l++[dX E (q,r2) (t,s2)]) (M.setCell (pA C 0) (.slice S (l.length+1) V))/\Below L w (M.setCell (pA C 0) (.slice S (l.length+1) V))):=by
  obtain⟨h1,h2,h3,h4,h5⟩:=b2.o
  have nb:∀ {b:Nat} {j:Array Value} {T:TypeId},x.1[b]?=some (Obj.cells j T (0,0))->T≠30->b≠C:=λK hT e=>by
   subst e;rw[h3] at K
   cases K;exact hT rfl
  refine⟨⟨.slice S (l.length+1) V,xs++[u7,U vd],(Kc _ _ _ _ (nb h1 (by decide))).trans (af _ _ _ (by decide) h1),(Kc _ _ _ _ (nb h2 (by decide))).trans (af _ _ _ (by decide) h2),?_,?_,?_⟩,bq.setCell (p:=pA C 0) ci _⟩
  ·rw[ap H];rfl
  ·have:=bT (w':=M.setCell (pA C 0) (.slice S (l.length+1) V)) a9 λg j _ br=>Kc _ _ _ _ (by
    show g≠C;intro e;subst e;rw[H] at br
    cases br)
   simpa using this
  have bs:dB 136 M (M.setCell (pA C 0) (.slice S (l.length+1) V)):=λk j I O=>(Kc _ _ _ _ (by
   show k≠C;intro e;subst e;rw[H] at O
   cases O)).trans O
  rw[dc.o];exact(h5.keep (bp.trans bs)).snoc (r:=(q++t,vd)) ao.o ck.o (eQ (cU bm b7.o) bs)
 clear G W bk a9 P bm H af bp bq q0 q1 q2 q3 q4 q5 N a8;go_wp2_with fail;go_end0;exact⟨rfl,aa.o.1,aa.o.2,e1.o⟩
